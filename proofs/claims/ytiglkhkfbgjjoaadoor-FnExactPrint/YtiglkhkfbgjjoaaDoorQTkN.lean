/- - -/
import Derived.Test.YtiglkhkfbgjjoaaDoorQTkI
namespace Go.Proofs.YtiglkhkfbgjjoaaDoor
set_option maxRecDepth 20000
open Go.RowKit Go.PlainAid Go.Maps
set_option linter.unusedSimpArgs false
set_option linter.unusedVariables false
section
variable {X : Nat -> KnD}
theorem zgs {left : List Int} {j : Nat} (h : chn X 0 left j) (hn : zal X j) : ∃ pre, left = pre ++ zj X j := by
 obtain ⟨pre, e, _⟩ := zcl X _ rfl h hn (Nat.zero_le _)
 exact ⟨pre, e⟩
theorem zji {pre : List Int} {j : Nat} (h : chn X 0 (pre ++ zj X j) j) : zal X j /\ chn X 0 (pre ++ [(j : Int)]) (j + 1) := by
 obtain ⟨p, h1, h2⟩ := (zaq X).1 h
 have hs := zcp X h2
 refine ⟨?_, (zaq X).2 ⟨p, h1, (zba X).2 ⟨by omega, by rw [Int.toNat_natCast]; exact hs, by rw [Int.toNat_natCast]⟩⟩⟩
 unfold zal
 rw [hs]
 exact h2
theorem zhp {left : List Int} {L : Nat} {top : Int} (h : chn X 0 left L) (hn : ∀ j, j < L -> zal X j) : NUM X L top ↔ left = [top] := by
 constructor
 · rintro ⟨_, h2⟩
   obtain ⟨pre, e, h3⟩ := zcl X 1 rfl h h2 (Nat.le_refl _)
   cases pre with
   | nil => simpa using e
   | cons k ks =>
     have := zai X h3.2.2
     omega
 · rintro rfl
   exact ⟨hn, h⟩
end
theorem zhq {left : List Int} {X : Nat -> KnD} {j f : Nat} (hl : left.length = f + (X j).len) : IEq (X j).len (X j).len (fun i => left.getD (f + i) 0) (X j).y ↔ left.drop f = zj X j := by
 constructor
 · rintro ⟨_, h⟩
   apply List.ext_getElem
   · rw [zo, List.length_drop]; omega
   · intro i h1 h2
     rw [zo] at h2
     have := h i h2
     simp only at this
     rw [zy, List.getElem_drop, <- this, List.getD_eq_getElem?_getD, List.getElem?_eq_getElem (by omega)]
     rfl
 · intro h
   refine ⟨rfl, fun i hi => ?_⟩
   have h2 : i < (zj X j).length := by rw [zo]; exact hi
   have h3 := zy X h2
   have h4 : f + i < left.length := by omega
   have h5 : i < (left.drop f).length := by rw [List.length_drop]; omega
   have h6 : (left.drop f)[i] = (zj X j)[i] := by simp only [h]
   rw [List.getElem_drop] at h6
   show left.getD (f + i) 0 = (X j).y i
   rw [List.getD_eq_getElem?_getD, List.getElem?_eq_getElem h4]
   show left[f + i] = _
   rw [h6, h3]
theorem zjj {left : List Int} {top : Int} : IEq left.length 1 (fun i => left.getD i 0) (fun i => ([top] : List Int).getD i 0) ↔ left = [top] := by
 constructor
 · rintro ⟨h1, h2⟩
   match left, h1 with
   | [x], _ =>
     have h3 := h2 0 Nat.one_pos
     have h4 : x = top := h3
     rw [h4]
 · rintro rfl
   exact ⟨rfl, fun i _ => rfl⟩
theorem SlF.suffix {T : Nat} {w : World} {b c n f l : Nat} {xs : List Int} (h : SlF T w (.slice (some ⟨b, 0, none⟩) n c) n n (fun i => .int .i64 (xs.getD i 0))) (hn : n = f + l) (c' : Nat) : SlF T w (.slice (some ⟨b, f, none⟩) l c') l l (fun i => .int .i64 (xs.getD (f + i) 0)) := by
 by_cases h0 : l = 0
 · exact ⟨_, _, rfl, .inl h0⟩
 obtain ⟨b', off', c', hv, h1, h2, h3⟩ := h.parts (k := 0) (by omega)
 simp only [Value.slice.injEq, Option.some.injEq, Addr.mk.injEq] at hv
 obtain ⟨⟨rfl, rfl, _⟩, _, rfl⟩ := hv
 refine ⟨_, _, rfl, .inr ⟨b, f, rfl, h1, h2, fun i hi => ?_⟩⟩
 have := h3 (f + i) (by omega)
 rw [Nat.zero_add] at this
 exact this
set_option maxHeartbeats 4000000 in
theorem zdr (a : Option Addr) (c L : Nat) (top : Int) (X : Nat -> KnD) (T : Nat) (w : World) (hs : KnF T w (.slice a L c) L X) (hT : T <= w.heap.size) (hL : L <= 3000) (hX : ∀ j, j < L -> (X j).len <= 1048576) :
 Calls Tryd.prog 82 #[.agg #[.slice a L c, .int .i64 top]] w fun e w' => ∃ q, e = .returned (.bool q) /\ (q = true ↔ NUM X L top) /\ Below w.heap.size w w' := by
 have hL1 : (L : Int) <= 3000 := by omega
 obtain ⟨i0, hi, hz0, hz1, hz2⟩ := info_parts zbb
 have HS : Hid (KnF T w (.slice a L c) L X) := hs
 have HX : Hid (∀ j, j < L -> (X j).len <= 1048576) := hX
 clear hs hX
 obtain ⟨W0, hW0⟩ : ∃ V, V = w.alloc (.cells #[.slice a L c, .int .i64 top] 41) := ⟨_, rfl⟩
 have z0 : W0.heap.size = w.heap.size + 1 := by rw [hW0]; simp
 have B0 : Hid (Below w.heap.size w W0) := by rw [hW0]; exact (Below.refl _ _).alloc (Nat.le_refl _) _
 have t0 : W0.cell? ⟨w.heap.size, 1, none⟩ = some (.int .i64 top) := by rw [hW0]; simp [go_sem]
 go_enter Tryd.func82, Tryd.ntmps82
 go_wp2
 rw [<- hW0]
 clear hW0
 go_loopw [3, 10] (fun v q wr => ∃ (j : Nat) (left : List Int) (a' : Option Addr) (c' : Nat), j <= L /\ q = .int .i64 j /\ v = .slice a' left.length c' /\ left.length <= j /\ Hid (IR (w.heap.size + 1) wr (.slice a' left.length c') left) /\ Hid (chn X 0 left j) /\ Hid (∀ i, i < j -> zal X i) /\ Hid (Below (w.heap.size + 1) W0 wr)) (fun _ q _ => L - (intOf q).toNat)
 case atStart => exact ⟨0, [], none, 0, Nat.zero_le _, rfl, rfl, Nat.le_refl _, IR.nil _ _, rfl, (fun i hi => absurd hi (Nat.not_lt_zero _)), Below.refl _ _⟩
 case round =>
  obtain ⟨j, left, a', c', hj, rfl, rfl, hlj, hI, hC, hN, hB1⟩ := hrel
  have hB : Hid (Below w.heap.size w wr) := B0.out.trans (hB1.out.mono (by omega))
  have hz : w.heap.size + 1 <= wr.heap.size := by have := hB1.out.size; omega
  have ht : wr.cell? ⟨w.heap.size, 1, none⟩ = some (.int .i64 top) := by rw [hB1.out.cell (p := ⟨w.heap.size, 1, none⟩) (by dsimp only; omega)]; exact t0
  have hlj' : (left.length : Int) <= 3000 := by omega
  by_cases hlt : j < L
  · have hlt' : (j : Int) < (L : Int) := by omega
    obtain ⟨b, off, rfl, lb, lz, hkc⟩ := HS.out.at_ hlt
    obtain ⟨ax, cx, c0, c1, c2, c3, sx⟩ := (hkc j hlt).below hB.out hT lb
    have hxl := HX.out j hlt
    have HNB : Hid (zal X j -> ∃ pre, left = pre ++ zj X j) := zgs hC.out
    have HKL := zo X j
    have HDE : Hid (∀ f, left.length = f + (X j).len -> (IEq (X j).len (X j).len (fun i => left.getD (f + i) 0) (X j).y ↔ left.drop f = zj X j)) := fun f hf => zhq hf
    obtain ⟨x, hx⟩ : ∃ x, X j = x := ⟨_, rfl⟩
    rw [hx] at c0 c1 c2 c3 sx hxl HKL HDE
    clear hx
    obtain ⟨k, t, ii, l, y⟩ := x
    simp only at c0 c1 c2 c3 sx hxl HKL HDE
    have SX : Hid (SlF T wr (.slice ax l cx) l l (fun i => .int .i64 (y i))) := sx
    have lb2 : b < wr.heap.size := by have := hB.out.size; omega
    have hxl' : (l : Int) <= 1048576 := by omega
    clear hkc sx
    by_cases hf : left.length < l
    · have hf' : (left.length : Int) - (l : Int) < 0 := by omega
      have HQ : Hid (¬ NUM X L top) := fun h => by
       obtain ⟨pre, e⟩ := HNB.out (h.1 j hlt)
       have := congrArg List.length e
       rw [List.length_append, HKL] at this
       omega
      go_wp2_with fail
      go_quiet (fail)
      go_wp2
      go_ret
      exact ⟨false, rfl, ⟨fun h => (by cases h), fun h => absurd h HQ.out⟩, below_drewN ((hB.out).alloc (by omega) _) _⟩
    · obtain ⟨f, hfl⟩ : ∃ f, left.length = f + l := ⟨left.length - l, by omega⟩
      have hf' : ¬ (left.length : Int) - (l : Int) < 0 := by omega
      have hfe : (left.length : Int) - (l : Int) = (f : Int) := by omega
      have HYES : Hid (left.drop f = zj X j -> zal X j /\ chn X 0 (left.take f ++ [(j : Int)]) (j + 1)) := fun e => zji (by rw [<- e, List.take_append_drop]; exact hC.out)
      have HNO : Hid (left.drop f ≠ zj X j -> ¬ NUM X L top) := fun hne h => by
       obtain ⟨pre, e⟩ := HNB.out (h.1 j hlt)
       apply hne
       have h1 := congrArg List.length e
       rw [List.length_append, HKL] at h1
       have h2 : pre.length = f := by omega
       rw [e, <- h2, List.drop_left]
      have HD := HDE.out f hfl
      have HDD : Hid (IEq l l (fun i => left.getD (f + i) 0) y ↔ left.drop f = zj X j) := HD
      have hft : f <= left.length := by omega
      have hf0 : ¬ (f : Int) < 0 := by omega
      have hdec : Hid (decide ((f : Int) < 0) = false) := decide_eq_false hf0
      clear hf0
      have htl : (left.take f).length = f := by rw [List.length_take]; omega
      have BW : Below w.heap.size w (wr.alloc (.cells #[.int .i64 k, .string t, .int .i64 ii, .slice ax l cx] 71)) := hB.out.alloc (by omega) _
      have SX2 : Hid (SlF wr.heap.size wr (.slice ax l cx) l l (fun i => .int .i64 (y i))) := SX.out.here
      have ISL := hI.out.sl
      have hfl2 : left.length - f = l := by omega
      clear HD HDE HNB hC
      by_cases hcap : ∃ g, a' = some ⟨g, 0, none⟩
      · obtain ⟨g, rfl⟩ := hcap
        have hcc : left.length <= c' /\ c' <= maxLen /\ g < wr.heap.size := by
         obtain ⟨h1, ⟨hv, h2⟩ | ⟨g', cap, cur, hv, hg, hc, hn, hcap, r⟩⟩ := hI.out
         · simp at hv
         · simp only [Value.slice.injEq, Option.some.injEq, Addr.mk.injEq] at hv
           obtain ⟨⟨rfl, _⟩, _, rfl⟩ := hv
           exact ⟨hn, hcap, (Array.getElem?_eq_some_iff.1 hc).1⟩
        have hc3 : (left.length : Int) <= (c' : Int) := by omega
        have hc4 : (c' : Int) <= 9223372036854775807 := by have := hcc.2.1; simp [maxLen] at this; omega
        have hfc : (f : Int) <= (c' : Int) := by omega
        have hfl3 : (f : Int) <= (left.length : Int) := by omega
        have SF : Hid (∀ ad cc, (l ≠ 0 -> ad = some ⟨g, f, none⟩) -> SlF wr.heap.size wr (.slice ad l cc) l l (fun i => .int .i64 (left.getD (f + i) 0))) := fun ad cc had => by
         by_cases h0 : l = 0
         · exact ⟨_, _, rfl, .inl h0⟩
         · rw [had h0]
           exact ISL.suffix hfl cc
        have hne : l ≠ 0 -> ¬ c' = f := by have := hcc.1; omega
        clear ISL hcc
        have HEQ : Hid (∀ (V : World) (ad : Option Addr) (cc : Nat), Below wr.heap.size wr V -> (l ≠ 0 -> ad = some ⟨g, f, none⟩) -> _) := fun V ad cc hV had => za9 ad ax l cc l cx (fun i => left.getD (f + i) 0) y wr.heap.size wr.heap.size V ((SF.out ad cc had).below hV (Nat.le_refl _)) (SX2.out.below hV (Nat.le_refl _)) hxl hxl
        have HBW : Hid (∀ A : Obj, Below wr.heap.size wr (wr.alloc A).drew) := fun A => ((Below.refl _ _).alloc (Nat.le_refl _) _).drew
        by_cases hcf : c' = f
        · skip
          go_wp2_with fail
          go_region_with (go_at_call 95; refine (HEQ.out _ _ _ (HBW.out _) (by first | (intro _; rfl) | (intro h; exact absurd hcf (hne h)))).mono ?_; rintro e w6 ⟨q, rfl, hq, b6'⟩; have b6 : Below wr.heap.size wr w6 := (HBW.out _).trans (b6'.mono (by first | (simp; done) | (simp; omega))); clear b6')
          all_goals
           have B6 : Below (w.heap.size + 1) W0 w6 := hB1.out.trans (b6.mono hz)
           have I6 : IR (w.heap.size + 1) w6 (.slice (some ⟨g, 0, none⟩) left.length c') left := hI.out.below b6
           cases q with
           | false =>
             have HQ : Hid (¬ NUM X L top) := HNO.out (fun h => by have := hq.2 (HDD.out.2 h); cases this)
             have BB : Hid (Below w.heap.size w w6) := B0.out.trans (B6.mono (by omega))
             clear hq b6 B6 I6
             try simp only [hdec.out, Bool.false_or, Bool.not_false, Bool.not_true]
             go_wp2
             go_ret
             exact ⟨false, rfl, ⟨fun h => (by cases h), fun h => absurd h HQ.out⟩, BB.out⟩
           | true =>
             obtain ⟨n1, n2⟩ := HYES.out (HDD.out.1 (hq.1 rfl))
             have IT : Hid (IR (w.heap.size + 1) w6 (.slice (some ⟨g, 0, none⟩) f f) (left.take f)) := (by have h8 := I6.take hft; rw [hcf] at h8; exact h8)
             have B7 : Hid (Below (w.heap.size + 1) W0 w6) := B6
             have z6 : w.heap.size + 1 <= w6.heap.size := Nat.le_trans hz b6.size
             have N1 : Hid (∀ i, i < j + 1 -> zal X i) := fun i hi => if e : i = j then e ▸ n1 else hN.out i (by omega)
             have N2 : Hid (chn X 0 (left.take f ++ [(j : Int)]) (j + 1)) := n2
             clear hq b6 B6 I6 n1 n2
             try simp only [hdec.out, Bool.false_or, Bool.not_false, Bool.not_true]
             go_wp2_with (at_builtin; refine wpList_append_own _ rfl _ _ 69 rfl (w.heap.size + 1) 3 i0 (.int .i64 0) 1 8 Tryd.underlying69 hi hz0 hz1 hz2 rfl (by decide) _ f (icl (left.take f)) rfl (by have h9 := IT.out.alloc (.cells #[.int .i64 (j : Int)] 3); unfold IR at h9; rw [htl] at h9; exact h9) ⟨_, 0, none⟩ 1 1 [.int .i64 (j : Int)] rfl rfl (cell_one_new _ _ _) (ints_oneCell .i64 [(j : Int)]) (by unfold maxLen; omega) (by omega) (by simp; omega) ?_)
             intro v' w8 hown' hgrow _
             have R := IR.step (x := (j : Int)) z6 IT.out B7.out (by rw [htl]; exact hown') hgrow
             have R1 : Hid (IR (w.heap.size + 1) w8 v' (left.take f ++ [(j : Int)])) := R.1
             have R2 : Hid (Below (w.heap.size + 1) W0 w8) := R.2
             have hl8 : (left.take f ++ [(j : Int)]).length = f + 1 := by rw [List.length_append, htl]; rfl
             obtain ⟨a8, c8, hv⟩ := R1.out.form
             subst hv
             clear hown' hgrow R IT B7
             go_wp2
             go_roundw
             case rel => exact ⟨j + 1, _, a8, c8, by omega, by go_num, rfl, by rw [hl8]; omega, R1, N2, N1, R2⟩
             case measure => simp [intOf]; omega
        · skip
          go_wp2_with fail
          go_region_with (go_at_call 95; refine (HEQ.out _ _ _ (HBW.out _) (by first | (intro _; rfl) | (intro h; exact absurd h (by omega)))).mono ?_; rintro e w6 ⟨q, rfl, hq, b6'⟩; have b6 : Below wr.heap.size wr w6 := (HBW.out _).trans (b6'.mono (by first | (simp; done) | (simp; omega))); clear b6')
          all_goals
           have B6 : Below (w.heap.size + 1) W0 w6 := hB1.out.trans (b6.mono hz)
           have I6 : IR (w.heap.size + 1) w6 (.slice (some ⟨g, 0, none⟩) left.length c') left := hI.out.below b6
           cases q with
           | false =>
             have HQ : Hid (¬ NUM X L top) := HNO.out (fun h => by have := hq.2 (HDD.out.2 h); cases this)
             have BB : Hid (Below w.heap.size w w6) := B0.out.trans (B6.mono (by omega))
             clear hq b6 B6 I6
             try simp only [hdec.out, Bool.false_or, Bool.not_false, Bool.not_true]
             go_wp2
             go_ret
             exact ⟨false, rfl, ⟨fun h => (by cases h), fun h => absurd h HQ.out⟩, BB.out⟩
           | true =>
             obtain ⟨n1, n2⟩ := HYES.out (HDD.out.1 (hq.1 rfl))
             have IT : Hid (IR (w.heap.size + 1) w6 (.slice (some ⟨g, 0, none⟩) f c') (left.take f)) := I6.take hft
             have B7 : Hid (Below (w.heap.size + 1) W0 w6) := B6
             have z6 : w.heap.size + 1 <= w6.heap.size := Nat.le_trans hz b6.size
             have N1 : Hid (∀ i, i < j + 1 -> zal X i) := fun i hi => if e : i = j then e ▸ n1 else hN.out i (by omega)
             have N2 : Hid (chn X 0 (left.take f ++ [(j : Int)]) (j + 1)) := n2
             clear hq b6 B6 I6 n1 n2
             try simp only [hdec.out, Bool.false_or, Bool.not_false, Bool.not_true]
             go_wp2_with (at_builtin; refine wpList_append_own _ rfl _ _ 69 rfl (w.heap.size + 1) 3 i0 (.int .i64 0) 1 8 Tryd.underlying69 hi hz0 hz1 hz2 rfl (by decide) _ f (icl (left.take f)) rfl (by have h9 := IT.out.alloc (.cells #[.int .i64 (j : Int)] 3); unfold IR at h9; rw [htl] at h9; exact h9) ⟨_, 0, none⟩ 1 1 [.int .i64 (j : Int)] rfl rfl (cell_one_new _ _ _) (ints_oneCell .i64 [(j : Int)]) (by unfold maxLen; omega) (by omega) (by simp; omega) ?_)
             intro v' w8 hown' hgrow _
             have R := IR.step (x := (j : Int)) z6 IT.out B7.out (by rw [htl]; exact hown') hgrow
             have R1 : Hid (IR (w.heap.size + 1) w8 v' (left.take f ++ [(j : Int)])) := R.1
             have R2 : Hid (Below (w.heap.size + 1) W0 w8) := R.2
             have hl8 : (left.take f ++ [(j : Int)]).length = f + 1 := by rw [List.length_append, htl]; rfl
             obtain ⟨a8, c8, hv⟩ := R1.out.form
             subst hv
             clear hown' hgrow R IT B7
             go_wp2
             go_roundw
             case rel => exact ⟨j + 1, _, a8, c8, by omega, by go_num, rfl, by rw [hl8]; omega, R1, N2, N1, R2⟩
             case measure => simp [intOf]; omega
      · have ha : a' = none /\ left = [] /\ c' = 0 := by
         obtain ⟨h1, ⟨hv, h2⟩ | ⟨g', cap, cur, hv, hg, hc, hn, hcap2, r⟩⟩ := hI.out
         · simp only [Value.slice.injEq] at hv
           exact ⟨hv.1, List.eq_nil_of_length_eq_zero h2, hv.2.2⟩
         · simp only [Value.slice.injEq] at hv
           exact absurd ⟨g', hv.1⟩ hcap
        obtain ⟨rfl, rfl, rfl⟩ := ha
        obtain rfl : f = 0 := by simp at hfl; omega
        obtain rfl : l = 0 := by simp at hfl; omega
        have HEQ : Hid (∀ (V : World) (ad : Option Addr) (cc : Nat), Below wr.heap.size wr V -> _) := fun V ad cc hV => za9 ad ax 0 cc 0 cx (fun i => ([] : List Int).getD (0 + i) 0) y wr.heap.size wr.heap.size V ⟨_, _, rfl, .inl rfl⟩ (SX2.out.below hV (Nat.le_refl _)) (by omega) (by omega)
        have HBW : Hid (∀ A : Obj, Below wr.heap.size wr (wr.alloc A).drew) := fun A => ((Below.refl _ _).alloc (Nat.le_refl _) _).drew
        clear hcap ISL
        go_wp2_with fail
        go_region_with (go_at_call 95; refine (HEQ.out _ _ _ (HBW.out _)).mono ?_; rintro e w6 ⟨q, rfl, hq, b6'⟩; have b6 : Below wr.heap.size wr w6 := (HBW.out _).trans (b6'.mono (by first | (simp; done) | (simp; omega))); clear b6')
        all_goals
         have B6 : Below (w.heap.size + 1) W0 w6 := hB1.out.trans (b6.mono hz)
         have I6 : IR (w.heap.size + 1) w6 (.slice none 0 0) [] := hI.out.below b6
         cases q with
         | false =>
           have HQ : Hid (¬ NUM X L top) := HNO.out (fun h => by have := hq.2 (HDD.out.2 h); cases this)
           have BB : Hid (Below w.heap.size w w6) := B0.out.trans (B6.mono (by omega))
           clear hq b6 B6 I6
           try simp only [hdec.out, Bool.false_or, Bool.not_false, Bool.not_true]
           go_wp2
           go_ret
           exact ⟨false, rfl, ⟨fun h => (by cases h), fun h => absurd h HQ.out⟩, BB.out⟩
         | true =>
           obtain ⟨n1, n2⟩ := HYES.out (HDD.out.1 (hq.1 rfl))
           have IT : Hid (IR (w.heap.size + 1) w6 (.slice none 0 0) (([] : List Int))) := I6
           have B7 : Hid (Below (w.heap.size + 1) W0 w6) := B6
           have z6 : w.heap.size + 1 <= w6.heap.size := Nat.le_trans hz b6.size
           have N1 : Hid (∀ i, i < j + 1 -> zal X i) := fun i hi => if e : i = j then e ▸ n1 else hN.out i (by omega)
           have N2 : Hid (chn X 0 (([] : List Int) ++ [(j : Int)]) (j + 1)) := n2
           clear hq b6 B6 I6 n1 n2
           try simp only [hdec.out, Bool.false_or, Bool.not_false, Bool.not_true]
           go_wp2_with (at_builtin; refine wpList_append_own _ rfl _ _ 69 rfl (w.heap.size + 1) 3 i0 (.int .i64 0) 1 8 Tryd.underlying69 hi hz0 hz1 hz2 rfl (by decide) _ 0 (icl (([] : List Int))) rfl (by have h9 := IT.out.alloc (.cells #[.int .i64 (j : Int)] 3); exact h9) ⟨_, 0, none⟩ 1 1 [.int .i64 (j : Int)] rfl rfl (cell_one_new _ _ _) (ints_oneCell .i64 [(j : Int)]) (by unfold maxLen; omega) (by omega) (by simp; omega) ?_)
           intro v' w8 hown' hgrow _
           have R := IR.step (x := (j : Int)) z6 IT.out B7.out hown' hgrow
           have R1 : Hid (IR (w.heap.size + 1) w8 v' (([] : List Int) ++ [(j : Int)])) := R.1
           have R2 : Hid (Below (w.heap.size + 1) W0 w8) := R.2
           have hl8 : (([] : List Int) ++ [(j : Int)]).length = 0 + 1 := rfl
           obtain ⟨a8, c8, hv⟩ := R1.out.form
           subst hv
           clear hown' hgrow R IT B7
           go_wp2
           go_roundw
           case rel => exact ⟨j + 1, _, a8, c8, by omega, by go_num, rfl, by rw [hl8]; omega, R1, N2, N1, R2⟩
           case measure => simp [intOf]; omega
  · have hge : ¬ (j : Int) < (L : Int) := by omega
    obtain rfl : j = L := by omega
    have HE : Hid (NUM X j top ↔ left = [top]) := zhp hC.out hN.out
    clear hC hN
    go_wp2_with fail
    refine (za9 a' (some ⟨wr.heap.size, 0, none⟩) left.length c' 1 1 (fun i => left.getD i 0) (fun i => ([top] : List Int).getD i 0) (wr.alloc (.cells #[.int .i64 top] 3)).heap.size (wr.alloc (.cells #[.int .i64 top] 3)).heap.size (wr.alloc (.cells #[.int .i64 top] 3)) ((hI.out.alloc _).sl) ⟨_, _, rfl, .inr ⟨wr.heap.size, 0, rfl, by simp, by simp, fun i hi => by obtain rfl : i = 0 := (by omega); simp [go_sem]⟩⟩ (by omega) (by omega)).mono ?_
    rintro e w3 ⟨q, rfl, hq, b3⟩
    rw [zjj] at hq
    have B3 : Hid (Below w.heap.size w w3) := hB.out.trans (zf b3 |>.mono (by omega))
    have HQ : Hid (q = true ↔ NUM X j top) := hq.trans HE.out.symm
    clear hq b3
    go_wp2
    go_ret
    exact ⟨_, rfl, HQ.out, B3.out⟩
end Go.Proofs.YtiglkhkfbgjjoaaDoor
