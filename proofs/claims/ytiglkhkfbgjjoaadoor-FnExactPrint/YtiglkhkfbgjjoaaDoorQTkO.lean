/- - -/
import Derived.Test.YtiglkhkfbgjjoaaDoorQTkN
import Derived.Test.YtiglkhkfbgjjoaaDoorQTkJ
import Derived.Test.YtiglkhkfbgjjoaaDoorQTkT
namespace Go.Proofs.YtiglkhkfbgjjoaaDoor
set_option maxRecDepth 20000
open Go.RowKit Go.PlainAid Go.Maps
set_option linter.unusedSimpArgs false
set_option linter.unusedVariables false
def zjh (X : Nat -> KnD) (L : Nat) (top : Int) (w : World) (e : Ending) (w' : World) : Prop := ∃ q, e = .returned (.bool q) /\ (q = true ↔ TOK X L top) /\ Below w.heap.size w w'
theorem zce {X : Nat -> KnD} (i : Nat) : (zq X i).length = (X i).len := by simp [zq, zj]
theorem zfi {X : Nat -> KnD} {i m : Nat} (hm : m < (X i).len) : (zq X i).take (m + 1) = (zq X i).take m ++ [(X ((X i).y m).toNat).k] := by
 have hl : m < (zq X i).length := by rw [zce]; exact hm
 rw [List.take_succ_eq_append_getElem hl]
 simp [zq, zj]
set_option maxHeartbeats 4000000 in
theorem zdq (a : Option Addr) (c L : Nat) (top : Int) (X : Nat -> KnD) (T : Nat) (w : World) (hs : KnF T w (.slice a L c) L X) (hT : T <= w.heap.size) (hL : L <= 1048576) (hX : ∀ j, j < L -> (X j).len <= 1048576 /\ (X j).t.size <= 1048576) :
 Calls Tryd.prog 38 #[.agg #[.slice a L c, .int .i64 top]] w (zjh X L top w) := by
 have hL1 : (L : Int) <= 1048576 := by omega
 by_cases h3 : 3000 < L
 · have h3' : (3000 : Int) < (L : Int) := by omega
   have HN : Hid (¬ TOK X L top) := fun h => by have := h.1; omega
   clear hs hX
   go_enter Tryd.func38, Tryd.ntmps38
   go_wp2
   go_ret
   exact ⟨false, rfl, ⟨fun h => (by cases h), fun h => absurd h HN.out⟩, (Below.refl _ _).alloc (Nat.le_refl _) _⟩
 have h3' : ¬ (3000 : Int) < (L : Int) := by omega
 have HT := ze0 X L top
 have HNU : Hid (∀ W : World, Below w.heap.size w W -> _) := fun W (hW : Below w.heap.size w W) => zdr a c L top X T W (hs.below hW hT) (Nat.le_trans hT hW.size) (by omega) (fun j hj => (hX j hj).1)
 have BA : Below w.heap.size w (w.alloc (.cells #[.slice a L c, .int .i64 top] 41)) := (Below.refl _ _).alloc (Nat.le_refl _) _
 by_cases hnum : NUM X L top
 rotate_left
 · have HN : Hid (¬ TOK X L top) := fun h => hnum (HT.1 h).2.1
   have HNN : Hid (¬ NUM X L top) := hnum
   clear hs hX HT hnum
   go_enter Tryd.func38, Tryd.ntmps38
   go_wp2_with (go_at_call 82; refine (HNU.out _ BA).mono ?_; rintro e w1 ⟨q, rfl, hq, b1⟩; obtain rfl : q = false := (by cases q with | false => rfl | true => exact absurd (hq.1 rfl) HNN.out); clear hq)
   go_ret
   exact ⟨false, rfl, ⟨fun h => (by cases h), fun h => absurd h HN.out⟩, zf b1⟩
 obtain ⟨p, hp1, hp2⟩ : ∃ p : Nat, top = p /\ p + 1 = L := ⟨top.toNat, by have := hnum.2.1; omega, hnum.2.2.2⟩
 subst hp1
 have hpL : p < L := by omega
 have hpL' : (p : Int) < (L : Int) := by omega
 obtain ⟨b, off, rfl, lb, lz, hkc⟩ := hs.at_ hpL
 have HNN : Hid (NUM X L p) := hnum
 have HS : Hid (KnF T w (.slice (some ⟨b, off, none⟩) L c) L X) := hs
 have HX : Hid (∀ j, j < L -> (X j).len <= 1048576 /\ (X j).t.size <= 1048576) := hX
 have HTT : Hid (TOK X L p ↔ (X p).k = 21 /\ ∀ j, j < L -> zl (X j).k (X j).t = true /\ zm (X j).k (X j).i = true /\ zi (X j).k (zq X j) = true) := by
  show _ ↔ _
  rw [HT]
  rw [Int.toNat_natCast]
  exact ⟨fun h => h.2.2, fun h => ⟨by omega, hnum, h⟩⟩
 obtain ⟨W0, hW0⟩ : ∃ V, V = w.alloc (.cells #[.slice (some ⟨b, off, none⟩) L c, .int .i64 (p : Int)] 41) := ⟨_, rfl⟩
 have z0 : W0.heap.size = w.heap.size + 1 := by rw [hW0]; simp
 have B0 : Hid (Below w.heap.size w W0) := by rw [hW0]; exact BA
 have T0 : ∀ z, W0.cell? ⟨w.heap.size, z, none⟩ = (#[.slice (some ⟨b, off, none⟩) L c, .int .i64 (p : Int)] : Array Value)[z]? := fun z => by rw [hW0]; simp [go_sem]
 rw [<- hW0] at BA
 clear hs hX HT hnum hkc
 go_enter Tryd.func38, Tryd.ntmps38
 go_wp2_with fail
 rw [<- hW0]
 refine (HNU.out _ BA).mono ?_
 rintro e w1 ⟨q, rfl, hq, b1⟩
 obtain rfl : q = true := hq.2 HNN.out
 have B1 : Below (w.heap.size + 1) W0 w1 := b1.mono (by omega)
 have t0 : w1.cell? ⟨w.heap.size, 0, none⟩ = some (.slice (some ⟨b, off, none⟩) L c) := by rw [B1.cell (p := ⟨w.heap.size, 0, none⟩) (by dsimp only; omega), T0]; rfl
 have t1 : w1.cell? ⟨w.heap.size, 1, none⟩ = some (.int .i64 (p : Int)) := by rw [B1.cell (p := ⟨w.heap.size, 1, none⟩) (by dsimp only; omega), T0]; rfl
 have BW1 : Hid (Below w.heap.size w w1) := B0.out.trans (B1.mono (by omega))
 obtain ⟨_, _, hab, _, _, hkt⟩ := (HS.out.below BW1.out hT).at_ hpL
 simp only [Option.some.injEq, Addr.mk.injEq] at hab
 obtain ⟨rfl, rfl, _⟩ := hab
 obtain ⟨ax, cx, c0, _⟩ := hkt p hpL
 have HK : Hid (∀ V, Below w.heap.size w V -> ∀ q : Nat, q < L -> V.cell? ⟨b, off + q * 4, none⟩ = some (.int .i64 (X q).k)) := fun V hV q hq => by
  obtain ⟨b', off', hab, _, _, hkt⟩ := (HS.out.below hV hT).at_ hq
  simp only [Option.some.injEq, Addr.mk.injEq] at hab
  obtain ⟨rfl, rfl, _⟩ := hab
  obtain ⟨_, _, c0, _⟩ := hkt q hq
  exact c0
 clear hkt hq b1 T0 hW0 BA
 cases hbk : blB (X p).k with
 | false =>
   have HN : Hid (¬ TOK X L p) := fun h => by have := (HTT.out.1 h).1; rw [this] at hbk; cases hbk
   go_wp2_with (go_at_call 83; refine (zar _ _).mono ?_; rw [hbk]; rintro e w3 ⟨rfl, hw3⟩; rw [hw3]; clear hw3 w3)
   go_ret
   exact ⟨false, rfl, ⟨fun h => (by cases h), fun h => absurd h HN.out⟩, BW1.out⟩
 | true =>
   have HT2 : Hid (TOK X L p ↔ ∀ j, j < L -> zl (X j).k (X j).t = true /\ zm (X j).k (X j).i = true /\ zi (X j).k (zq X j) = true) := by
    show _ ↔ _
    rw [HTT.out]
    exact ⟨fun h => h.2, fun h => ⟨of_decide_eq_true hbk, h⟩⟩
   have hB1 : Hid (Below (w.heap.size + 1) W0 w1) := B1
   clear HTT B1
   go_wp2_with (go_at_call 83; refine (zar _ _).mono ?_; rw [hbk]; rintro e w3 ⟨rfl, hw3⟩; rw [hw3]; clear hw3 w3)
   clear c0 hbk
   go_loopw [31] (fun q wr => ∃ j : Nat, j <= L /\ q = .int .i64 j /\ Hid (∀ i, i < j -> zl (X i).k (X i).t = true /\ zm (X i).k (X i).i = true /\ zi (X i).k (zq X i) = true) /\ Hid (Below (w.heap.size + 1) W0 wr) /\ wr.cell? ⟨w.heap.size, 0, none⟩ = some (.slice (some ⟨b, off, none⟩) L c)) (fun q _ => L - (intOf q).toNat)
   case atStart => exact ⟨0, Nat.zero_le _, rfl, (fun i hi => absurd hi (Nat.not_lt_zero _)), hB1, t0⟩
   case round =>
    clear t0 t1 hB1 BW1
    rename World => wo
    obtain ⟨j, hj, rfl, hP, hB1, t0⟩ := hrel
    have BW : Hid (Below w.heap.size w wo) := B0.out.trans (hB1.out.mono (by omega))
    have hz : w.heap.size + 1 <= wo.heap.size := by have := hB1.out.size; omega
    by_cases hlt : j < L
    · have hlt' : (j : Int) < (L : Int) := by omega
      obtain ⟨_, _, hab, lb0, _, hkt⟩ := (HS.out.below BW.out hT).at_ hlt
      simp only [Option.some.injEq, Addr.mk.injEq] at hab
      obtain ⟨rfl, rfl, _⟩ := hab
      obtain ⟨ax, cx, c0, c1, c2, c3, sx⟩ := hkt j hlt
      have hxx := HX.out j hlt
      have HKT : Hid (∀ m, m < (X j).len -> (zq X j).take (m + 1) = (zq X j).take m ++ [(X ((X j).y m).toNat).k]) := fun m hm => zfi hm
      have HKL := zce (X := X) j
      have HYR : Hid (∀ m, m < (X j).len -> 0 <= (X j).y m /\ ((X j).y m).toNat < L) := fun m hm => by
       have h1 := zat X (HNN.out.1 j hlt) ((X j).y m) (by
        have h2 := zy X (i := j) (j := m) (by rw [zo]; exact hm)
        rw [<- h2]
        exact List.getElem_mem _)
       exact ⟨h1.1, by omega⟩
      have HPJ : Hid (zl (X j).k (X j).t = true -> zm (X j).k (X j).i = true -> zi (X j).k (zq X j) = true -> ∀ i, i < j + 1 -> zl (X i).k (X i).t = true /\ zm (X i).k (X i).i = true /\ zi (X i).k (zq X i) = true) := fun h1 h2 h3 i hi => if e : i = j then e ▸ ⟨h1, h2, h3⟩ else hP.out i (by omega)
      have HNJ : Hid (TOK X L p -> zl (X j).k (X j).t = true /\ zm (X j).k (X j).i = true /\ zi (X j).k (zq X j) = true) := fun h => HT2.out.1 h j hlt
      generalize hkd : zq X j = KD at HKT HKL HPJ HNJ
      clear hkd hP
      obtain ⟨x, hx⟩ : ∃ x, X j = x := ⟨_, rfl⟩
      rw [hx] at c0 c1 c2 c3 sx hxx HKT HKL HYR HPJ HNJ
      clear hx hkt
      obtain ⟨k, t, ii, l, y⟩ := x
      simp only at c0 c1 c2 c3 sx hxx HKT HKL HYR HPJ HNJ
      obtain ⟨hxl, hxt⟩ := hxx
      have hxl' : (l : Int) <= 1048576 := by omega
      have SX : Hid (SlF T wo (.slice ax l cx) l l (fun i => .int .i64 (y i))) := sx
      have lb2 : b < wo.heap.size := by have := BW.out.size; omega
      obtain ⟨i0, hi, hz0, hz1, hz2⟩ := info_parts zbb
      obtain ⟨W1, hW1⟩ : ∃ V, V = wo.alloc (.cells #[.int .i64 k, .string t, .int .i64 ii, .slice ax l cx] 71) := ⟨_, rfl⟩
      have z1 : W1.heap.size = wo.heap.size + 1 := by rw [hW1]; simp
      have B1 : Hid (Below wo.heap.size wo W1) := by rw [hW1]; exact (Below.refl _ _).alloc (Nat.le_refl _) _
      have K1 : ∀ z, W1.cell? ⟨wo.heap.size, z, none⟩ = (#[.int .i64 k, .string t, .int .i64 ii, .slice ax l cx] : Array Value)[z]? := fun z => by rw [hW1]; simp [go_sem]
      clear sx
      go_wp2
      rw [<- hW1]
      clear hW1 c0 c1 c2 c3
      go_loopw [5, 38] (fun v q wr => ∃ (m : Nat) (a' : Option Addr) (c' : Nat), m <= l /\ q = .int .i64 m /\ v = .slice a' m c' /\ Hid (IR W1.heap.size wr (.slice a' m c') (KD.take m)) /\ Hid (Below W1.heap.size W1 wr)) (fun _ q _ => l - (intOf q).toNat)
      case atStart => exact ⟨0, none, 0, Nat.zero_le _, rfl, rfl, IR.nil _ _, Below.refl _ _⟩
      case round =>
       obtain ⟨m, a', c', hm, rfl, rfl, hI, hBB⟩ := hrel
       have BWR : Hid (Below w.heap.size w wr) := BW.out.trans ((B1.out.trans (hBB.out.mono (by omega))).mono (by omega))
       have tr : wr.cell? ⟨w.heap.size, 0, none⟩ = some (.slice (some ⟨b, off, none⟩) L c) := by
        rw [hBB.out.cell (p := ⟨w.heap.size, 0, none⟩) (by dsimp only; omega), B1.out.cell (p := ⟨w.heap.size, 0, none⟩) (by dsimp only; omega)]
        exact t0
       have hml : (KD.take m).length = m := by rw [List.length_take, HKL]; omega
       have zr : W1.heap.size <= wr.heap.size := hBB.out.size
       by_cases hmt : m < l
       · have hmt' : (m : Int) < (l : Int) := by omega
         obtain ⟨bk, ok, ck, hv, tk1, lk, hkk⟩ := SX.out.parts (k := 0) (by omega)
         simp only [Value.slice.injEq] at hv
         obtain ⟨rfl, _, rfl⟩ := hv
         have yk : wr.cell? ⟨bk, ok + m, none⟩ = some (.int .i64 (y m)) := by
          rw [hBB.out.cell (p := ⟨bk, ok + m, none⟩) (by dsimp only; omega), B1.out.cell (p := ⟨bk, ok + m, none⟩) lk]
          exact hkk m hmt
         obtain ⟨y0, y1⟩ := HYR.out m hmt
         have hkt := HKT.out m hmt
         have lbr : b < wr.heap.size := by omega
         obtain ⟨qn, hqn⟩ : ∃ qn : Nat, y m = qn := ⟨(y m).toNat, by omega⟩
         rw [hqn, Int.toNat_natCast] at y1 hkt
         rw [hqn] at yk
         have kc := HK.out _ BWR.out qn y1
         generalize (X qn).k = kq at kc hkt
         have y1' : (qn : Int) < (L : Int) := by omega
         have HKT2 : Hid (KD.take (m + 1) = KD.take m ++ [kq]) := hkt
         clear hkk hkt SX HKT HYR hqn y0
         go_wp2_with (at_builtin; refine wpList_append_own _ rfl _ _ 69 rfl W1.heap.size 3 i0 (.int .i64 0) 1 8 Tryd.underlying69 hi hz0 hz1 hz2 rfl (by decide) _ m (icl (KD.take m)) rfl (by have h9 := hI.out.alloc (.cells #[.int .i64 kq] 3); unfold IR at h9; rw [hml] at h9; exact h9) ⟨_, 0, none⟩ 1 1 [.int .i64 kq] rfl rfl (cell_one_new _ _ _) (ints_oneCell .i64 [kq]) (by unfold maxLen; omega) (by omega) (by simp; omega) ?_)
         intro v' w8 hown' hgrow _
         have hown2 : w8.ownsRow W1.heap.size 3 1 v' ((KD.take m).length + 1) (icl (KD.take m) ++ [.int .i64 kq]) := by rw [hml, z1]; first | exact hown' | (rw [<- z1]; exact hown')
         have R := IR.step (x := kq) zr hI.out hBB.out hown2 hgrow
         rw [<- HKT2.out] at R
         have R1 : Hid (IR W1.heap.size w8 v' (KD.take (m + 1))) := R.1
         have R2 : Hid (Below W1.heap.size W1 w8) := R.2
         have hl8 : (KD.take (m + 1)).length = m + 1 := by rw [List.length_take, HKL]; omega
         obtain ⟨a8, c8, hv⟩ := R1.out.form
         rw [hl8] at hv
         subst hv
         clear hown' hgrow R
         go_wp2
         go_roundw
         case rel => exact ⟨m + 1, a8, c8, by omega, by go_num, rfl, R1, R2⟩
         case measure => simp [intOf]; omega
       · have hge : ¬ (m : Int) < (l : Int) := by omega
         obtain rfl : m = l := by omega
         have hta : KD.take m = KD := List.take_of_length_le (by rw [HKL]; exact Nat.le_refl _)
         rw [hta] at hI
         have hIL : Hid (IR W1.heap.size wr (.slice a' KD.length c') KD) := by rw [HKL]; exact hI
         have HKO : Hid (∀ V, Below wr.heap.size wr V -> Calls Tryd.prog 86 #[.int .i64 k, .slice a' m c'] V fun e w' => e = .returned (.bool (zi k KD)) /\ Below V.heap.size V w') := fun V hV => by
          have := zf9 k a' c' KD W1.heap.size V (hIL.out.below hV) (by rw [HKL]; exact hxl)
          rw [HKL] at this
          exact this
         have K2 : ∀ z, wr.cell? ⟨wo.heap.size, z, none⟩ = (#[.int .i64 k, .string t, .int .i64 ii, .slice ax m cx] : Array Value)[z]? := fun z => by rw [hBB.out.cell (p := ⟨wo.heap.size, z, none⟩) (by dsimp only; omega)]; exact K1 z
         have k20 := K2 0
         have k21 := K2 1
         have k22 := K2 2
         have k23 := K2 3
         simp at k20 k21 k22 k23
         have lwo : wo.heap.size < wr.heap.size := by omega
         clear hI hIL SX HKT HYR hta K1
         cases h1 : zl k t with
         | false =>
           have HN : Hid (¬ TOK X L p) := fun h => by have := (HNJ.out h).1; rw [h1] at this; cases this
           go_wp2_with (go_at_call 84; refine (zau _ _ _ _ _ _ _ hxt).mono ?_; rw [h1]; rintro e w5 ⟨rfl, b5⟩)
           go_ret
           exact ⟨false, rfl, ⟨fun h => (by cases h), fun h => absurd h HN.out⟩, zh BWR.out b5⟩
         | true =>
           cases h2 : zm k ii with
           | false =>
             have HN : Hid (¬ TOK X L p) := fun h => by have := (HNJ.out h).2.1; rw [h2] at this; cases this
             go_wp2_with (first | (go_at_call 84; refine (zau _ _ _ _ _ _ _ hxt).mono ?_; rw [h1]; rintro e w5 ⟨rfl, b5⟩; obtain ⟨b5c, b5f⟩ := zab b5; have l5 := Nat.lt_of_lt_of_le lwo b5.size) | (go_at_call 85; refine (zbh _ _ _ _ _ _ _).mono ?_; rw [h2]; rintro e w6 ⟨rfl, b6⟩))
             go_ret
             exact ⟨false, rfl, ⟨fun h => (by cases h), fun h => absurd h HN.out⟩, zh (zh BWR.out b5) b6⟩
           | true =>
             cases h3 : zi k KD with
             | false =>
               have HN : Hid (¬ TOK X L p) := fun h => by have := (HNJ.out h).2.2; rw [h3] at this; cases this
               go_wp2_with (first | (go_at_call 84; refine (zau _ _ _ _ _ _ _ hxt).mono ?_; rw [h1]; rintro e w5 ⟨rfl, b5⟩; obtain ⟨b5c, b5f⟩ := zab b5; have l5 := Nat.lt_of_lt_of_le lwo b5.size) | (go_at_call 85; refine (zbh _ _ _ _ _ _ _).mono ?_; rw [h2]; rintro e w6 ⟨rfl, b6⟩; obtain ⟨b6c, b6f⟩ := zab b6; have l6 := Nat.lt_of_lt_of_le l5 b6.size) | (go_at_call 86; refine (HKO.out _ (zh b5 b6)).mono ?_; rw [h3]; rintro e w7 ⟨rfl, b7⟩))
               go_ret
               exact ⟨false, rfl, ⟨fun h => (by cases h), fun h => absurd h HN.out⟩, zh (zh (zh BWR.out b5) b6) b7⟩
             | true =>
               have HPN := HPJ.out h1 h2 h3
               have HP2 : Hid (∀ i, i < j + 1 -> zl (X i).k (X i).t = true /\ zm (X i).k (X i).i = true /\ zi (X i).k (zq X i) = true) := HPN
               clear HPN
               go_wp2_with (first | (go_at_call 84; refine (zau _ _ _ _ _ _ _ hxt).mono ?_; rw [h1]; rintro e w5 ⟨rfl, b5⟩; obtain ⟨b5c, b5f⟩ := zab b5; have l5 := Nat.lt_of_lt_of_le lwo b5.size) | (go_at_call 85; refine (zbh _ _ _ _ _ _ _).mono ?_; rw [h2]; rintro e w6 ⟨rfl, b6⟩; obtain ⟨b6c, b6f⟩ := zab b6; have l6 := Nat.lt_of_lt_of_le l5 b6.size) | (go_at_call 86; refine (HKO.out _ (zh b5 b6)).mono ?_; rw [h3]; rintro e w7 ⟨rfl, b7⟩))
               have b57 := zh (zh b5 b6) b7
               have BE : Hid (Below (w.heap.size + 1) W0 w7) := hB1.out.trans ((B1.out.trans ((hBB.out.trans (b57.mono zr)).mono (by omega))).mono (by omega))
               have te : w7.cell? ⟨w.heap.size, 0, none⟩ = some (.slice (some ⟨b, off, none⟩) L c) := by rw [b57.cell (p := ⟨w.heap.size, 0, none⟩) (by dsimp only; omega)]; exact tr
               go_roundw
               case rel => exact ⟨j + 1, by omega, by go_num, HP2, BE, te⟩
               case measure => simp [intOf]; omega
    · have hge : ¬ (j : Int) < (L : Int) := by omega
      have HY : Hid (TOK X L p) := HT2.out.2 (fun i hi => hP.out i (by omega))
      go_wp2
      go_ret
      exact ⟨true, rfl, ⟨fun _ => HY.out, fun _ => rfl⟩, BW.out⟩
end Go.Proofs.YtiglkhkfbgjjoaaDoor
