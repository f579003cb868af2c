/- - -/
import Derived.Test.YtglolopfeambfaaGreatWCpC
import Derived.Laws.EntriesVeiled
namespace Go.Proofs.YtglolopfeambfaaGreat
set_option maxRecDepth 20000
open Go.RowKit Go.Maps
set_option linter.unusedSimpArgs false
set_option linter.unusedVariables false
theorem zwc : (Tryz.prog.info? 4).map (fun i => (i.zero, i.size, i.bytes)) = some (some (.bool false), 1, 1) := by kernel_rfl
theorem zk7 (l : Int) (h0 : 0 <= l) (h1 : l <= 1048576) (w : World) : (Instr.makeSlice 70 (.int .i64 l) (.int .i64 l)).run Tryz.prog w = .ok (.slice (some ⟨w.heap.size, 0, none⟩) l.toNat l.toNat) (w.alloc (.cells (madeCells #[.bool false] l.toNat) 4)) := by
 obtain ⟨i, hi, hzz⟩ := Option.map_eq_some_iff.1 zwc
 simp only [Prod.mk.injEq] at hzz
 obtain ⟨hz, hs, hb⟩ := hzz
 have := run_make (P := Tryz.prog) w 70 4 i _ Tryz.underlying70 hi hz .i64 .i64 l l h0 (Int.le_refl _) (by rw [hb]; omega) (by omega)
 rw [hs, Nat.mul_one] at this
 exact this
def Rst (bs n : Nat) (w0 w : World) (v : Value) (todo : List Nat) : Prop :=
 w.ownsRow (bs + 1) 3 1 v todo.length (zc1 todo) /\ w.rowIs bs 4 n (fun i => .bool (decide (i ∈ todo))) /\ Below bs w0 w
theorem Rst.lt {bs n : Nat} {w0 w : World} {v : Value} {todo : List Nat} (h : Rst bs n w0 w v todo) : bs < w.heap.size := h.2.1.lt
theorem Rst.below {bs n : Nat} {w0 w w' : World} {v : Value} {todo : List Nat} (h : Rst bs n w0 w v todo) (hb : Below w.heap.size w w') : Rst bs n w0 w' v todo :=
 ⟨World.ownsRow.kept h.1 (row := none) ⟨hb.os, hb.tape, hb.output, hb.size, fun k hk _ => hb.block k hk⟩ (by cases v.ownBlock <;> simp), h.2.1.of_block (hb.block _ h.lt), h.2.2.trans (hb.mono (Nat.le_of_lt h.lt))⟩
theorem Rst.marked {bs n : Nat} {w0 w : World} {v : Value} {todo : List Nat} (h : Rst bs n w0 w v todo) (p : Nat) (u : Value) : (w.setCell ⟨bs, p, none⟩ u).ownsRow (bs + 1) 3 1 v todo.length (zc1 todo) := by
 have hb := (Below.refl bs w).setCell (p := ⟨bs, p, none⟩) (Nat.le_refl _) u
 refine World.ownsRow.kept h.1 (row := some bs) ⟨hb.os, hb.tape, hb.output, hb.size, fun k _ hk => Below.heap_setCell _ _ _ _ (fun e => hk (by rw [e]))⟩ ?_
 rcases h.1.2 with ⟨rfl, _⟩ | ⟨g, cap, cur, rfl, hb, _⟩
 · exact .inl rfl
 · right
   simp [Value.ownBlock]
   omega
theorem Rst.put {bs n : Nat} {w0 w w' : World} {v v' : Value} {todo : List Nat} {o : Obj} (h : Rst bs n w0 w v todo) {p : Nat} (hp : p < n) (hn : p ∉ todo) (hown : w'.ownsRow (bs + 1) 3 1 v' (todo.length + 1) (zc1 todo ++ [.int .i64 (p : Int)])) (hg : ((w.setCell ⟨bs, p, none⟩ (.bool true)).alloc o).grownBy w' v.ownBlock) : Rst bs n w0 w' v' (todo ++ [p]) := by
 have hl := h.lt
 have hv : ∀ k, v.ownBlock = some k -> bs + 1 <= k := fun k hk => by
  rcases h.1.2 with ⟨rfl, _⟩ | ⟨g, cap, cur, rfl, hb, _⟩
  · simp [Value.ownBlock] at hk
  · simp [Value.ownBlock] at hk
    omega
 refine ⟨by simpa [zc1] using hown, ?_, ?_⟩
 · have h1 : ((w.setCell ⟨bs, p, none⟩ (.bool true)).alloc o).rowIs bs 4 n (fun i => .bool (decide (i ∈ todo ++ [p]))) := by
    refine World.rowIs.of_block (w := w.setCell ⟨bs, p, none⟩ (.bool true)) ((h.2.1.set p (.bool true)).congr fun i hi => ?_) (((Below.refl _ _).alloc (Nat.le_refl _) _).block _ (by simpa using hl))
    by_cases e : i = p
    · subst e; simp
    · simp [e]
   exact h1.of_block (hg.block _ (by simp; omega) (fun e => by have := hv bs e.symm; omega))
 · exact ((h.2.2.setCell (p := ⟨bs, p, none⟩) (Nat.le_refl _) (.bool true)).alloc (by simp; omega) o).grown hg (by simp; omega) (fun k hk => by have := hv k hk; omega)
theorem Rst.item {bs n : Nat} {w0 w : World} {v : Value} {todo : List Nat} (h : Rst bs n w0 w v todo) {i : Nat} (hi : i < todo.length) : ∃ g cap, v = .slice (some ⟨g, 0, none⟩) todo.length cap /\ bs + 1 <= g /\ g < w.heap.size /\ w.cell? ⟨g, i, none⟩ = some (.int .i64 ((todo.getD i 0 : Nat) : Int)) := by
 obtain ⟨a, cap, rfl, hh⟩ := zef h.1
 rcases hh with h0 | ⟨b, M, g, rfl, hB, hT, hm, hrow, hg⟩
 · omega
 · exact ⟨b, cap, rfl, hB, hT, by rw [hrow.cell (by omega), hg i hi]⟩
theorem Rst.head {bs n : Nat} {w0 w : World} {v : Value} {todo : List Nat} (h : Rst bs n w0 w v todo) : ∃ a cap, v = .slice a todo.length cap := by
 obtain ⟨a, cap, rfl, _⟩ := zef h.1
 exact ⟨a, cap, rfl⟩
theorem zi8 {ws : List Int} {todo : List Nat} {t m : Int} (h : isR t = false) : zax ws todo t m = todo := by simp [zax, h]
theorem zi9 {ws : List Int} {todo : List Nat} {t m : Int} {q : Nat} (hq : (zh ws m.toNat).toNat = q) (hm : q ∈ todo) : zax ws todo t m = todo := by
 unfold zax
 rw [hq]
 split <;> simp [hm]
theorem zhy {ws : List Int} {todo : List Nat} {t m : Int} {q : Nat} (hr : isR t = true) (hq : (zh ws m.toNat).toNat = q) (hm : q ∉ todo) : zax ws todo t m = todo ++ [q] := by
 unfold zax
 rw [hq, if_pos hr, if_neg hm]
def SlR (bs : Nat) (asl : Option Addr) (N : Nat) (kk : Int) (w : World) (v : Value) : Prop :=
 N = 0 \/ ∃ b M gg, asl = some ⟨b, 0, none⟩ /\ N <= M /\ w.rowIs b 3 M gg /\ (∀ i, i < N -> gg i = .int .i64 (fs kk + 2 * (i : Int))) /\ bs < b /\ v.ownBlock ≠ some b
theorem SlR.below {bs : Nat} {asl : Option Addr} {N : Nat} {kk : Int} {w w' : World} {v : Value} (h : SlR bs asl N kk w v) (hb : Below w.heap.size w w') : SlR bs asl N kk w' v := by
 rcases h with h | ⟨b, M, gg, h1, h2, h3, h4, h5, h6⟩
 · exact .inl h
 · exact .inr ⟨b, M, gg, h1, h2, h3.of_block (hb.block _ h3.lt), h4, h5, h6⟩
theorem SlR.put {bs : Nat} {asl : Option Addr} {N : Nat} {kk : Int} {w w' : World} {v v' : Value} {p : Nat} {o : Obj} (h : SlR bs asl N kk w v) (hg : ((w.setCell ⟨bs, p, none⟩ (.bool true)).alloc o).grownBy w' v.ownBlock) (hl : v'.ownBlock = v.ownBlock \/ v'.ownBlock = some ((w.setCell ⟨bs, p, none⟩ (.bool true)).alloc o).heap.size) : SlR bs asl N kk w' v' := by
 rcases h with h | ⟨b, M, gg, h1, h2, h3, h4, h5, h6⟩
 · exact .inl h
 · have hlt := h3.lt
   refine .inr ⟨b, M, gg, h1, h2, ?_, h4, h5, ?_⟩
   · have e1 : ((w.setCell ⟨bs, p, none⟩ (.bool true)).alloc o).rowIs b 3 M gg := World.rowIs.of_block (w := w.setCell ⟨bs, p, none⟩ (.bool true)) (h3.setOther (a := ⟨bs, p, none⟩) (by dsimp only; omega) _) (((Below.refl _ _).alloc (Nat.le_refl _) _).block _ (by simpa using hlt))
     exact e1.of_block (hg.block _ (by simp; omega) (fun e => h6 e.symm))
   · rcases hl with g | g
     · rw [g]; exact h6
     · rw [g]
       intro e
       simp at e
       omega
theorem znn {ws : List Int} {p j : Nat} (hr : zah (za ws p) = true) (hj : j < slN (rdK (za ws p)) (rdS (za ws p))) : p < zc0 ws p j /\ zc0 ws p j + 1 <= p + (rdS (za ws p)).toNat := by
 have h1 := (ze9 (zc9 hr) j).2 hj
 have h2 := zjm (rdK (za ws p))
 have h3 := za2 (za ws p)
 unfold zc0
 omega
theorem zu2 {td l : List Nat} {n : Nat} (h : n < td.length) : (td ++ l).getD n 0 = td.getD n 0 := by simp [List.getElem?_append_left h]
set_option maxHeartbeats 4000000 in
theorem zj6 (aw : Option Addr) (cw : Nat) (ws : List Int) (smz toh top : Int) (cyc : Bool) (sn old cpz sr : Int) (ar : Option Addr) (cr : Nat) (rs : List (Int × Int)) (y : Nat -> Int) (Tr : Nat) (w : World) (hs : Sl w (.slice aw ws.length cw) ws) (hn : ws.length <= 1048576) (hw : ze ws) (hrt : SlF Tr w (.slice ar rs.length cr) rs.length (2 * rs.length) (fun i => .int .i64 (y i))) (hn2 : rs.length <= 1048576) (hok : zdt ws smz toh top cyc sn old cpz sr y rs.length) (mk : Nat -> Int) (R : List Nat) (hK : zbw mk ws cyc sn) (hB : Bfs ws 0 (zag ws (zbf y) rs.length []) R) (hC : zb0 mk (zag ws (zbf y) rs.length [])) :
 Calls Tryz.prog 14 #[.agg #[.slice aw ws.length cw, .int .i64 smz, .int .i64 toh, .int .i64 top, .bool cyc, .int .i64 sn, .int .i64 old, .int .i64 cpz, .int .i64 sr, .slice ar rs.length cr]] w fun e w' => e = .returned (.int .i64 (zb9 ws R)) /\ Below w.heap.size w w' := by
 obtain ⟨i0, hi, hz0, hz1, hz2⟩ := info_parts zf8
 have HRT : Hid (∀ k, k < rs.length -> isR (y (2 * k)) = true -> ∃ p : Nat, y (2 * k + 1) = (p : Int) /\ p < ws.length /\ (zh ws (y (2 * k + 1)).toNat).toNat = p) := fun k hk hr => by
  obtain ⟨p, h1, _, _, h4, h5, _⟩ := zpi hw hok hk hr
  exact ⟨p, h1, by omega, by rw [h1, Int.toNat_natCast, h5, Int.toNat_natCast]⟩
 have HCN : Hid (∀ k, (zag ws (zbf y) k []).length <= k) := by
  intro k
  induction k with
  | zero => simp [zag]
  | succ k ih =>
    show (zax ws (zag ws (zbf y) k []) _ _).length <= k + 1
    unfold zax
    split
    · split
      · omega
      · simp; omega
    · omega
 have HS : Hid (Sl w (.slice aw ws.length cw) ws) := hs
 have HR : Hid (SlF w.heap.size w (.slice ar rs.length cr) rs.length (2 * rs.length) (fun i => .int .i64 (y i))) := hrt.here
 have HQ : Hid (zdt ws smz toh top cyc sn old cpz sr y rs.length) := hok
 have HK : Hid (zbw mk ws cyc sn) := hK
 have HB : Hid (Bfs ws 0 (zag ws (zbf y) rs.length []) R) := hB
 have HC : Hid (zb0 mk (zag ws (zbf y) rs.length [])) := hC
 have hrl : rs.length <= 24 := by obtain ⟨_, _, _, _, _, h, _⟩ := zdc hok.1; exact h
 have hn' : (ws.length : Int) <= 1048576 := by omega
 have hrl' : (rs.length : Int) <= 24 := by omega
 have hm1 := zk7 (ws.length : Int) (by omega) (by omega)
 rw [Int.toNat_natCast] at hm1
 clear hs hrt hok hK hB hC
 go_enter Tryz.func14, Tryz.ntmps14
 go_wp2_with fail
 refine (zgn _ _ _ _ _ _ _ _ _ _ _ _ _ _ y w.heap.size _ (HS.out.below (zc (Below.refl _ _))) hn hw (HR.out.below (zc (Below.refl _ _)) (Nat.le_refl _)) hn2).mono ?_
 rintro e w1 ⟨q, rfl, hq, b1⟩
 obtain rfl := hq.2 HQ.out
 have B1 := zc b1
 have k1 := zo b1 (by simp)
 have z1 := zp b1
 clear b1 hq
 go_upto_region 5 with fail
 clear hm1
 obtain ⟨w2, hw2⟩ : ∃ V, V = (w1.alloc (.cells (madeCells #[.bool false] ws.length) 4)).alloc (.cells #[] 3) := ⟨_, rfl⟩
 rw [<- hw2]
 have ST : Rst w1.heap.size ws.length w1 w2 (.slice (some ⟨w1.heap.size + 1, 0, none⟩) 0 0) [] := by
  rw [hw2]
  refine ⟨⟨rfl, .inr ⟨w1.heap.size + 1, 0, #[], rfl, Nat.le_refl _, zdh (by simp), Nat.le_refl _, by simp [maxLen], rfl, rfl⟩⟩, ?_, ((Below.refl _ _).alloc (Nat.le_refl _) _).alloc (by simp) _⟩
  exact ((World.rowIs_made w1 (.bool false) ws.length 4).of_block (((Below.refl _ _).alloc (Nat.le_refl _) _).block _ (by simp))).congr fun i _ => by simp
 have HST : Hid (Rst w1.heap.size ws.length w1 w2 (.slice (some ⟨w1.heap.size + 1, 0, none⟩) 0 0) []) := ST
 have HB1 : Hid (Below w.heap.size w w1) := B1
 have HK1 : Hid (∀ i, w1.cell? ⟨w.heap.size, i, none⟩ = (#[.slice aw ws.length cw, .int .i64 smz, .int .i64 toh, .int .i64 top, .bool cyc, .int .i64 sn, .int .i64 old, .int .i64 cpz, .int .i64 sr, .slice ar rs.length cr] : Array Value)[i]?) := k1
 clear hw2 ST B1 k1
 go_wp2_with fail
 go_loopw [4, 5] (fun v i wr => ∃ k : Nat, k <= rs.length /\ i = .int .i64 k /\ Rst w1.heap.size ws.length w1 wr v (zag ws (zbf y) k [])) (fun _ i _ => rs.length - (intOf i).toNat)
 case atStart => exact ⟨0, Nat.zero_le _, rfl, HST.out⟩
 case round =>
  obtain ⟨k, hk, rfl, hR⟩ := hrel
  obtain ⟨td, htd⟩ : ∃ td, td = zag ws (zbf y) k [] := ⟨_, rfl⟩
  have hcl := HCN.out k
  rw [<- htd] at hR hcl
  obtain ⟨ta, tc, rfl⟩ := hR.head
  have kr := zd HK1.out hR.2.2 z1
  have lr := hR.lt
  have lH : w.heap.size < wr.heap.size := by omega
  have hB1r : Below w.heap.size w wr := HB1.out.trans (hR.2.2.mono (Nat.le_of_lt z1))
  by_cases hlt : k < rs.length
  · have hlt' : (k : Int) < (rs.length : Int) := by omega
    obtain ⟨br, offr, cap', hv, _, lbr, hcr⟩ := HR.out.parts (k := 0) (by omega)
    simp only [Value.slice.injEq] at hv
    obtain ⟨rfl, _, rfl⟩ := hv
    obtain ⟨t, ht⟩ : ∃ t, t = y (2 * k) := ⟨_, rfl⟩
    obtain ⟨m, hm⟩ : ∃ m, m = y (2 * k + 1) := ⟨_, rfl⟩
    have x0 : wr.cell? ⟨br, offr + k * 2, none⟩ = some (.int .i64 t) := by rw [hB1r.cell (p := ⟨br, offr + k * 2, none⟩) lbr, ht, Nat.mul_comm]; exact hcr (2 * k) (by omega)
    have x1 : wr.cell? ⟨br, offr + k * 2 + 1, none⟩ = some (.int .i64 m) := by rw [hB1r.cell (p := ⟨br, offr + k * 2 + 1, none⟩) lbr, hm, Nat.mul_comm]; exact hcr (2 * k + 1) (by omega)
    have lbr2 : br < wr.heap.size := Nat.lt_of_lt_of_le lbr hB1r.size
    have hrt := HRT.out k hlt
    rw [<- ht, <- hm] at hrt
    have hnext : zag ws (zbf y) (k + 1) [] = zax ws td t m := by rw [htd, ht, hm]; rfl
    have HN : Hid (zag ws (zbf y) (k + 1) [] = zax ws td t m) := hnext
    have HRr : Hid (Rst w1.heap.size ws.length w1 wr (.slice ta td.length tc) td) := hR
    clear hnext htd hcr ht hm hB1r
    cases hr : isR t with
    | false =>
      have HRF : Hid (isR t = false) := hr
      have HE : Hid (zax ws td t m = td) := zi8 hr
      clear hR hrt hr
      go_wp2_with (go_at_call 32; refine (zan _ _ _).mono ?_; rw [HRF.out]; rintro e w4 ⟨rfl, b4⟩; obtain ⟨hc4, hf4⟩ := zn b4; have z4 := b4.size)
      go_roundw
      case rel => exact ⟨k + 1, by omega, by go_num, by rw [HN.out, HE.out]; exact HRr.out.below b4⟩
      case measure => simp [intOf]; omega
    | true =>
      have HRF : Hid (isR t = true) := hr
      obtain ⟨p, hp, hpl, hq⟩ := hrt hr
      subst hp
      have hpl' : (p : Int) < (ws.length : Int) := by omega
      by_cases hm : p ∈ td
      · have HE : Hid (zax ws td t (p : Int) = td) := zi9 hq hm
        have xs : wr.cell? ⟨w1.heap.size, p, none⟩ = some (.bool true) := by rw [hR.2.1.cell (by omega)]; simp [hm]
        clear hR hrt hr hm hq
        go_wp2_with (go_at_call 32; refine (zan _ _ _).mono ?_; rw [HRF.out]; rintro e w4 ⟨rfl, b4⟩; obtain ⟨hc4, hf4⟩ := zn b4; have z4 := b4.size)
        go_roundw
        case rel => exact ⟨k + 1, by omega, by go_num, by rw [HN.out, HE.out]; exact HRr.out.below b4⟩
        case measure => simp [intOf]; omega
      · have HE : Hid (zax ws td t (p : Int) = td ++ [p]) := zhy hr hq hm
        have HM : Hid (p ∉ td) := hm
        have xs : wr.cell? ⟨w1.heap.size, p, none⟩ = some (.bool false) := by rw [hR.2.1.cell (by omega)]; simp [hm]
        have fs := hR.2.1.frozen
        have tl : td.length + 1 <= 25 := by omega
        have nb : br ≠ w1.heap.size := by have := HB1.out.size; omega
        have nH : w.heap.size ≠ w1.heap.size := by omega
        clear hR hrt hr hm hq hcl
        go_wp2_with (first | (go_at_call 32; refine (zan _ _ _).mono ?_; rw [HRF.out]; rintro e w4 ⟨rfl, b4⟩; obtain ⟨hc4, hf4⟩ := zn b4; have z4 := b4.size; have R4 : Hid (Rst w1.heap.size ws.length w1 w4 (.slice ta td.length tc) td) := HRr.out.below b4) | (at_builtin; refine wpList_append_own _ rfl _ _ 71 rfl (w1.heap.size + 1) 3 i0 (.int .i64 0) 1 8 Tryz.underlying71 hi hz0 hz1 hz2 rfl (by decide) _ td.length (zc1 td) rfl ((R4.out.marked _ _).alloc _) ⟨_, 0, none⟩ 1 1 [.int .i64 (p : Int)] rfl rfl (fun j u hj => by have h9 := cell_one_new (w4.setCell ⟨w1.heap.size, p, none⟩ (.bool true)) (.int .i64 (p : Int)) 3 j u hj; simpa using h9) (ints_oneCell .i64 [(p : Int)]) (by unfold maxLen; omega) (by omega) (by simp; omega) ?_))
        intro v' w6 hown hgrow _
        have R6 := R4.out.put hpl HM.out hown hgrow
        clear hown hgrow
        go_wp2
        go_roundw
        case rel => exact ⟨k + 1, by omega, by go_num, by rw [HN.out, HE.out]; exact R6⟩
        case measure => simp [intOf]; omega
  · have hge : (rs.length : Int) <= (k : Int) := by omega
    have hkk : k = rs.length := by omega
    have HRr : Hid (Rst w1.heap.size ws.length w1 wr (.slice ta td.length tc) (zag ws (zbf y) rs.length [])) := by rw [<- hkk, <- htd]; exact hR
    obtain ⟨t0, ht0⟩ : ∃ t, t = zag ws (zbf y) rs.length [] := ⟨_, rfl⟩
    have htt : td = t0 := by rw [htd, hkk, ht0]
    rw [<- ht0] at HB HC
    have HR0 : Hid (Rst w1.heap.size ws.length w1 wr (.slice ta td.length tc) t0) := by rw [<- htt]; exact hR
    clear hkk htd htt ht0 hR HRr HCN HRT hcl hB1r
    go_wp2_with fail
    rename World => wr1
    clear kr
    go_loopw [4, 6, 7] (fun v u i wr => ∃ (n : Nat) (td : List Nat), n <= td.length /\ i = .int .i64 n /\ u = .int .i64 (zb9 ws (td.take n)) /\ zb0 mk td /\ Bfs ws n td R /\ Rst w1.heap.size ws.length w1 wr v td) (fun _ _ i _ => ws.length - (intOf i).toNat)
    case atStart => exact ⟨0, _, Nat.zero_le _, rfl, rfl, HC.out, HB.out, HR0.out⟩
    case round =>
     obtain ⟨n, td, hnl, rfl, rfl, hcome, hbfs, hR⟩ := hrel
     have hll : td.length <= ws.length := zee HK.out hcome
     have hll' : (td.length : Int) <= (ws.length : Int) := by omega
     by_cases hlt : n < td.length
     · have hlt' : (n : Int) < (td.length : Int) := by omega
       obtain ⟨g, cap, rfl, hg1, hg2, hgc⟩ := hR.item hlt
       obtain ⟨p, hp⟩ : ∃ p, p = td.getD n 0 := ⟨_, rfl⟩
       rw [<- hp] at hgc
       have hpm : p ∈ td := by rw [hp]; simp [hlt]
       have hobj := hcome.2 p hpm
       have hpl := zf3 HK.out hobj
       obtain ⟨hrd, hin⟩ := HK.out.within p hobj
       have kr := zd HK1.out hR.2.2 z1
       have lr := hR.lt
       have lH : w.heap.size < wr.heap.size := by omega
       have hsb := za2 (za ws p)
       have HBw : Hid (Below w.heap.size w wr) := HB1.out.trans (hR.2.2.mono (Nat.le_of_lt z1))
       have HRr : Hid (Rst w1.heap.size ws.length w1 wr (.slice (some ⟨g, 0, none⟩) td.length cap) td) := hR
       have HCO : Hid (zb0 mk td) := hcome
       have HBF : Hid (Bfs ws n td R) := hbfs
       have HPD : Hid (p = td.getD n 0) := hp
       have HOB : Hid (zbb mk p) := hobj
       have KP : ∀ V, Below wr.heap.size wr V -> (Below wr.heap.size wr V /\ (∀ i, V.cell? ⟨w.heap.size, i, none⟩ = (#[.slice aw ws.length cw, .int .i64 smz, .int .i64 toh, .int .i64 top, .bool cyc, .int .i64 sn, .int .i64 old, .int .i64 cpz, .int .i64 sr, .slice ar rs.length cr] : Array Value)[i]?) /\ V.cell? ⟨g, n, none⟩ = some (.int .i64 (p : Int))) := fun V hV => ⟨hV, zd kr hV lH, by rw [hV.cell (p := ⟨g, n, none⟩) hg2]; exact hgc⟩
       have sb := zj8 ws (td.take n)
       have sl : (td.take n).length <= n := List.length_take_le _ _
       obtain ⟨sm, hsm⟩ : ∃ s, s = zb9 ws (td.take n) := ⟨_, rfl⟩
       rw [<- hsm] at sb ⊢
       have sb1 : sm <= 257 * 1048576 := by omega
       have HSM : Hid (sm + rdS (za ws p) + 1 = zb9 ws (td.take (n + 1))) := by
        show _ = _
        rw [List.take_succ_eq_append_getElem hlt, hsm]
        have e : td[n] = p := by rw [hp]; simp [hlt]
        rw [e, zk8]
       clear hR hcome hbfs hobj hp hsm hpm
       go_upto_region 15 with fail
       go_cut [8] from 70 to 75 (fun s8 wc => ∃ c8 : Nat, s8 = .pointer (some ⟨c8, 0, none⟩) /\ wc.cell? ⟨c8, 0, none⟩ = some (.int .i64 (rdK (za ws p))) /\ wc.cell? ⟨c8, 1, none⟩ = some (.int .i64 (rdS (za ws p))) /\ Below wr.heap.size wr wc)
       case first =>
        clear kr hgc
        go_region_held3 (fun V => (Below wr.heap.size wr V /\ (∀ i, V.cell? ⟨w.heap.size, i, none⟩ = (#[.slice aw ws.length cw, .int .i64 smz, .int .i64 toh, .int .i64 top, .bool cyc, .int .i64 sn, .int .i64 old, .int .i64 cpz, .int .i64 sr, .slice ar rs.length cr] : Array Value)[i]?) /\ V.cell? ⟨g, n, none⟩ = some (.int .i64 (p : Int)))) (first | exact KP _ (by assumption) | exact KP _ (Below.refl _ _) | exact KP _ (Below.refl _ _).drew | exact KP _ (za9 (And.left (by assumption)) _) | (refine KP _ ?_; repeat (first | assumption | exact And.left (by assumption) | refine Below.setCell ?_ (by first | exact Nat.le_refl _ | (simp; done) | (simp; omega)) _ | refine za9 ?_ _))) (first | (go_at_call 33; refine (zbl _ _ _ _ _ _ _ _ _ _ _ _ _ _ _ p _ rfl (HS.out.below (zb HBw.out (And.left (by assumption)))) hn hw hpl).mono ?_; rintro e w' ⟨rfl, hb⟩; have hB3 := zb (w := wr) (And.left (by assumption)) hb; have hz3 := hB3.size; obtain ⟨hc, hf⟩ := zn hb; have hz := hb.size; simp at hz; clear hb))
        · go_wp2_with fail
          go_meet
          exact ⟨_, rfl, by simp [go_sem], by simp [go_sem], za9 hB3 _⟩
        · go_wp2_with fail
          go_meet
          have p0 : (w'.cell? ⟨wr.heap.size, 0, none⟩).isSome = true := by rw [hc _ _ (by simp)]; simp [go_sem]
          have p1 : (w'.cell? ⟨wr.heap.size, 1, none⟩).isSome = true := by rw [hc _ _ (by simp)]; simp [go_sem]
          have p2 : (w'.cell? ⟨wr.heap.size, 2, none⟩).isSome = true := by rw [hc _ _ (by simp)]; simp [go_sem]
          exact ⟨_, rfl, by simp [go_sem, p0, p1, p2], by simp [go_sem, p0, p1, p2], ((hB3.setCell (p := ⟨wr.heap.size, 0, none⟩) (Nat.le_refl _) _).setCell (p := ⟨wr.heap.size, 1, none⟩) (Nat.le_refl _) _).setCell (p := ⟨wr.heap.size, 2, none⟩) (Nat.le_refl _) _⟩
       case rest =>
        obtain ⟨c8, rfl, cv0, cv1, hBc⟩ := hcut
        have HRc : Hid (Rst w1.heap.size ws.length w1 wc (.slice (some ⟨g, 0, none⟩) td.length cap) td) := HRr.out.below hBc
        have lgc : g < wc.heap.size := Nat.lt_of_lt_of_le hg2 hBc.size
        clear KP kr hgc hBc HRr HBw
        have hsm1 : (0 : Int) <= rdS (za ws p) := hsb.1
        go_wp2_with fail
        refine (zhb _ _ _).mono ?_
        rintro e w4 ⟨v4, rfl, o4, b4⟩
        obtain ⟨asl, csl, rfl, hcase⟩ := o4
        obtain ⟨N, hN⟩ : ∃ N, N = slN (rdK (za ws p)) (rdS (za ws p)) := ⟨_, rfl⟩
        rw [<- hN] at hcase ⊢
        have hN1 : N <= 128 := by rw [hN]; exact zjn _ _
        have HN : Hid (N = slN (rdK (za ws p)) (rdS (za ws p))) := hN
        have HCASE : Hid (N = 0 \/ ∃ b M gg, asl = some ⟨b, 0, none⟩ /\ wc.heap.size <= b /\ b < w4.heap.size /\ N <= M /\ w4.rowIs b 3 M gg /\ ∀ i, i < N -> gg i = .int .i64 (fs (rdK (za ws p)) + 2 * (i : Int))) := hcase
        have HR4 : Hid (Rst w1.heap.size ws.length w1 w4 (.slice (some ⟨g, 0, none⟩) td.length cap) td) := HRc.out.below b4
        clear hN hcase b4 HRc cv0 cv1
        have HSL4 : Hid (SlR w1.heap.size asl N (rdK (za ws p)) w4 (.slice (some ⟨g, 0, none⟩) td.length cap)) := by
         rcases HCASE.out with h | ⟨b, M, gg, h1, h2, h3, h4, h5, h6⟩
         · exact .inl h
         · refine .inr ⟨b, M, gg, h1, h4, h5, h6, by omega, ?_⟩
           simp [Value.ownBlock]
           omega
        clear HCASE
        rename_i wr0 _ _
        go_wp2_with fail
        go_loopw [4, 10] (fun v i wr => ∃ k : Nat, k <= N /\ i = .int .i64 k /\ Rst w1.heap.size ws.length w1 wr v (zag ws (zdp ws p) k td) /\ SlR w1.heap.size asl N (rdK (za ws p)) wr v) (fun _ i _ => N - (intOf i).toNat)
        case atStart => exact ⟨0, Nat.zero_le _, rfl, HR4.out, HSL4.out⟩
        case round =>
         obtain ⟨k, hk, rfl, hR, hSl⟩ := hrel
         obtain ⟨tk, htk⟩ : ∃ tk, tk = zag ws (zdp ws p) k td := ⟨_, rfl⟩
         rw [<- htk] at hR
         by_cases hlt3 : k < N
         · have hlt3' : (k : Int) < (N : Int) := by omega
           have hck : zb0 mk tk := by rw [htk]; exact zeu k HCO.out (fun j hj => ze4 HK.out HOB.out hpl j (by have := HN.out; omega))
           obtain ⟨l, hl⟩ := zgc ws (zdp ws p) k td
           rw [<- htk] at hl
           have hnk : n < tk.length := by rw [hl, List.length_append]; omega
           have hpk : tk.getD n 0 = p := by rw [hl, zu2 hlt, HPD.out]
           have hkl : tk.length <= ws.length := zee HK.out hck
           obtain ⟨g', cap', rfl, hg1', hg2', hgc'⟩ := hR.item hnk
           rw [hpk] at hgc'
           obtain ⟨bsl, M, gg, rfl, hNM, hrow, hgg, hbb, hob⟩ : ∃ b M gg, asl = some ⟨b, 0, none⟩ /\ N <= M /\ wr.rowIs b 3 M gg /\ (∀ i, i < N -> gg i = .int .i64 (fs (rdK (za ws p)) + 2 * (i : Int))) /\ w1.heap.size < b /\ (Value.slice (some ⟨g', 0, none⟩) tk.length cap').ownBlock ≠ some b := by
            rcases hSl with h | h
            · omega
            · exact h
           have hJ : k < slN (rdK (za ws p)) (rdS (za ws p)) := by have := HN.out; omega
           obtain ⟨x1, x2⟩ := znn hrd hJ
           obtain ⟨X, hX⟩ : ∃ X, X = zc0 ws p k := ⟨_, rfl⟩
           rw [<- hX] at x1 x2
           have hX1 : X + 1 < ws.length := by omega
           obtain ⟨Y, hY⟩ : ∃ Y : Int, Y = fs (rdK (za ws p)) + 2 * (k : Int) := ⟨_, rfl⟩
           have hY0 : 0 <= Y := by have := zjm (rdK (za ws p)); omega
           have hXY : (p : Int) + Y = (X : Int) := by rw [hX, hY]; unfold zc0; have := zjm (rdK (za ws p)); omega
           have yk : wr.cell? ⟨bsl, k, none⟩ = some (.int .i64 Y) := by rw [hrow.cell (i := k) (by omega), hgg k hlt3, hY]
           obtain ⟨t, ht⟩ : ∃ t, t = rvT ws X := ⟨_, rfl⟩
           obtain ⟨m, hm⟩ : ∃ m, m = rvN ws X := ⟨_, rfl⟩
           have HNX : Hid (zag ws (zdp ws p) (k + 1) td = zax ws tk t m) := by
            show zax ws (zag ws (zdp ws p) k td) (rvT ws (zc0 ws p k)) (rvN ws (zc0 ws p k)) = _
            rw [<- htk, <- hX, <- ht, <- hm]
           have hleads : isR t = true -> ∃ mm q : Nat, m = (mm : Int) /\ mm < ws.length /\ zh ws mm = (q : Int) /\ q < ws.length := fun hr => by
            have ho := (HK.out.objs p hpl HOB.out).1 k (by have := HN.out; omega)
            have ho1 : zcj ws X = true := by rw [hX]; exact ho.1
            have ho2 := ho.2.1
            have hmp : 0 < m := by rw [hm]; exact zgt hw ho1 (by rw [<- ht]; exact hr)
            have hl2 := ho2 (by show isR (rvT ws (zc0 ws p k)) = true; rw [<- hX, <- ht]; exact hr)
            have hm' : rvN ws (p + (fs (rdK (za ws p)) + 2 * (k : Int)).toNat) = m := by rw [hm, hX]; rfl
            rw [hm'] at hl2
            obtain ⟨u1, u2, _⟩ := hl2
            have hmk := zb2 u2
            have hmm := HK.out.marks m.toNat (by omega) hmk
            exact ⟨m.toNat, (zh ws m.toNat).toNat, by omega, by omega, by omega, by omega⟩
           have kr := zd HK1.out hR.2.2 z1
           have lr := hR.lt
           have lH : w.heap.size < wr.heap.size := by omega
           have hB1r : Below w.heap.size w wr := HB1.out.trans (hR.2.2.mono (Nat.le_of_lt z1))
           have HRD : Hid (∀ (W : World) (x : Int), x = (X : Int) -> Below wr.heap.size wr W -> Calls Tryz.prog 35 #[.slice aw ws.length cw, .int .i64 x] W fun e w' => e = .returned (.tuple #[.agg #[.int .i64 t, .int .i64 m], .bool (zcj ws X)]) /\ Below W.heap.size W w') := fun W x hx hW => by
            rw [ht, hm]
            exact zdd _ ws _ X _ hx (HS.out.below (zb hB1r hW)) hn hw hX1
           have lbs : bsl < wr.heap.size := hrow.lt
           have KP : ∀ V, Below wr.heap.size wr V -> (Below wr.heap.size wr V /\ V.cell? ⟨w.heap.size, 0, none⟩ = some (.slice aw ws.length cw) /\ V.cell? ⟨g', n, none⟩ = some (.int .i64 (p : Int)) /\ V.cell? ⟨bsl, k, none⟩ = some (.int .i64 Y)) := fun V hV => ⟨hV, by rw [hV.cell (p := ⟨w.heap.size, 0, none⟩) lH, kr 0]; rfl, by rw [hV.cell (p := ⟨g', n, none⟩) hg2']; exact hgc', by rw [hV.cell (p := ⟨bsl, k, none⟩) lbs]; exact yk⟩
           have HXw : Hid (IntKind.i64.wrap ((p : Int) + Y) = (X : Int)) := by show IntKind.i64.wrap ((p : Int) + Y) = (X : Int); rw [IntKind.wrap_i64]; omega
           have HXy : Hid ((p : Int) + Y = (X : Int)) := hXY
           have HRk : Hid (Rst w1.heap.size ws.length w1 wr (.slice (some ⟨g', 0, none⟩) tk.length cap') tk) := hR
           have HLk : Hid (SlR w1.heap.size (some ⟨bsl, 0, none⟩) N (rdK (za ws p)) wr (.slice (some ⟨g', 0, none⟩) tk.length cap')) := hSl
           have hnk' : (n : Int) < (tk.length : Int) := by omega
           have hkl' : (tk.length : Int) <= (ws.length : Int) := by omega
           clear hR hSl hrow hgg hob hck hl hpk htk hX hY hXY ht hm x1 x2 hB1r hgc' yk
           go_upto_region 21 with fail
           go_cut [11, 12] from 92 to 106 (fun s11 s12 wc => ∃ cV : Nat, s11 = .pointer (some ⟨cV, 0, none⟩) /\ s12 = .bool (zcj ws X) /\ wc.cell? ⟨cV, 0, none⟩ = some (.int .i64 t) /\ wc.cell? ⟨cV, 1, none⟩ = some (.int .i64 m) /\ Below wr.heap.size wr wc)
           case first =>
            clear kr
            go_region_held3 (fun V => (Below wr.heap.size wr V /\ V.cell? ⟨w.heap.size, 0, none⟩ = some (.slice aw ws.length cw) /\ V.cell? ⟨g', n, none⟩ = some (.int .i64 (p : Int)) /\ V.cell? ⟨bsl, k, none⟩ = some (.int .i64 Y))) (first | exact KP _ (by assumption) | exact KP _ (Below.refl _ _) | exact KP _ (Below.refl _ _).drew | exact KP _ (za9 (And.left (by assumption)) _) | (refine KP _ ?_; repeat (first | assumption | exact And.left (by assumption) | refine Below.setCell ?_ (by first | exact Nat.le_refl _ | (simp; done) | (simp; omega)) _ | refine za9 ?_ _))) (first | (go_at_call 35; refine (HRD.out _ _ (by first | exact HXw.out | exact HXy.out) (And.left (by assumption))).mono ?_; rintro e w' ⟨rfl, hb⟩; have hB3 := zb (w := wr) (And.left (by assumption)) hb; have hz3 := hB3.size; obtain ⟨hc, hf⟩ := zn hb; have hz := hb.size; simp at hz; clear hb))
            · go_wp2_with fail
              go_meet
              exact ⟨_, rfl, rfl, by simp [go_sem], by simp [go_sem], za9 hB3 _⟩
            · go_wp2_with fail
              go_meet
              have p0 : (w'.cell? ⟨wr.heap.size, 0, none⟩).isSome = true := by rw [hc _ _ (by simp)]; simp [go_sem]
              have p1 : (w'.cell? ⟨wr.heap.size, 1, none⟩).isSome = true := by rw [hc _ _ (by simp)]; simp [go_sem]
              exact ⟨_, rfl, rfl, by simp [go_sem, p0, p1], by simp [go_sem, p0, p1], (hB3.setCell (p := ⟨wr.heap.size, 0, none⟩) (Nat.le_refl _) _).setCell (p := ⟨wr.heap.size, 1, none⟩) (Nat.le_refl _) _⟩
           case rest =>
            obtain ⟨cV, rfl, rfl, cv0, cv1, hBc⟩ := hcut
            have lcV : cV < wc.heap.size := World.block_lt_of_cell? _ ⟨cV, 0, none⟩ cv0
            have kc := zd kr hBc lH
            have lHc : w.heap.size < wc.heap.size := Nat.lt_of_lt_of_le lH hBc.size
            have lsc : w1.heap.size < wc.heap.size := Nat.lt_of_lt_of_le lr hBc.size
            have HRc : Hid (Rst w1.heap.size ws.length w1 wc (.slice (some ⟨g', 0, none⟩) tk.length cap') tk) := HRk.out.below hBc
            have HLc : Hid (SlR w1.heap.size (some ⟨bsl, 0, none⟩) N (rdK (za ws p)) wc (.slice (some ⟨g', 0, none⟩) tk.length cap')) := HLk.out.below hBc
            clear KP kr HRk HLk hBc HRD HXw HXy
            cases hr : isR t with
            | false =>
              have HRF : Hid (isR t = false) := hr
              have HE : Hid (zax ws tk t m = tk) := zi8 hr
              clear hleads hr
              go_wp2_with (go_at_call 32; refine (zan _ _ _).mono ?_; rw [HRF.out]; rintro e w4 ⟨rfl, b4⟩; obtain ⟨hc4, hf4⟩ := zn b4; have z4 := b4.size; have ls4 : w1.heap.size < w4.heap.size := Nat.lt_of_lt_of_le lsc z4; have lH4 : w.heap.size < w4.heap.size := Nat.lt_of_lt_of_le lHc z4; have lV4 : cV < w4.heap.size := Nat.lt_of_lt_of_le lcV z4; have Rn4 : Hid (Rst w1.heap.size ws.length w1 w4 (.slice (some ⟨g', 0, none⟩) tk.length cap') tk) := HRc.out.below b4; have Sl4 : Hid (SlR w1.heap.size (some ⟨bsl, 0, none⟩) N (rdK (za ws p)) w4 (.slice (some ⟨g', 0, none⟩) tk.length cap')) := HLc.out.below b4; clear b4)
              go_roundw
              case rel => exact ⟨k + 1, by omega, by go_num, by rw [HNX.out, HE.out]; exact Rn4.out, Sl4.out⟩
              case measure => simp [intOf]; omega
            | true =>
              have HRF : Hid (isR t = true) := hr
              obtain ⟨mm, q, rfl, hmw, hql, hqw⟩ := hleads hr
              have HQL : Hid (zh ws mm = (q : Int)) := hql
              have hqq : (zh ws (mm : Int).toNat).toNat = q := by rw [Int.toNat_natCast, hql, Int.toNat_natCast]
              have hqw' : (q : Int) < (ws.length : Int) := by omega
              by_cases hm : q ∈ tk
              · have HE : Hid (zax ws tk t (mm : Int) = tk) := zi9 hqq hm
                have xs : wc.cell? ⟨w1.heap.size, q, none⟩ = some (.bool true) := by rw [HRc.out.2.1.cell (by omega)]; simp [hm]
                clear hleads hr hm hqq hql
                go_wp2_with (first | (go_at_call 32; refine (zan _ _ _).mono ?_; rw [HRF.out]; rintro e w4 ⟨rfl, b4⟩; obtain ⟨hc4, hf4⟩ := zn b4; have z4 := b4.size; have ls4 : w1.heap.size < w4.heap.size := Nat.lt_of_lt_of_le lsc z4; have lH4 : w.heap.size < w4.heap.size := Nat.lt_of_lt_of_le lHc z4; have lV4 : cV < w4.heap.size := Nat.lt_of_lt_of_le lcV z4; have Rn4 : Hid (Rst w1.heap.size ws.length w1 w4 (.slice (some ⟨g', 0, none⟩) tk.length cap') tk) := HRc.out.below b4; have Sl4 : Hid (SlR w1.heap.size (some ⟨bsl, 0, none⟩) N (rdK (za ws p)) w4 (.slice (some ⟨g', 0, none⟩) tk.length cap')) := HLc.out.below b4; clear b4) | (go_at_call 36; refine (zca _ _ _ _ _ _ _ _ _ _ _ _ _ _ _ mm _ rfl (HS.out.below (HB1.out.trans (Rn4.out.2.2.mono (Nat.le_of_lt z1)))) hn hw hmw).mono ?_; rw [HQL.out]; rintro e w5 ⟨rfl, b5⟩; obtain ⟨hc5, hf5⟩ := zn b5; have z5 := b5.size; have ls5 : w1.heap.size < w5.heap.size := Nat.lt_of_lt_of_le ls4 z5; have Rn5 : Hid (Rst w1.heap.size ws.length w1 w5 (.slice (some ⟨g', 0, none⟩) tk.length cap') tk) := Rn4.out.below b5; have Sl5 : Hid (SlR w1.heap.size (some ⟨bsl, 0, none⟩) N (rdK (za ws p)) w5 (.slice (some ⟨g', 0, none⟩) tk.length cap')) := Sl4.out.below b5; clear b5))
                go_roundw
                case rel => exact ⟨k + 1, by omega, by go_num, by rw [HNX.out, HE.out]; exact Rn5.out, Sl5.out⟩
                case measure => simp [intOf]; omega
              · have HE : Hid (zax ws tk t (mm : Int) = tk ++ [q]) := zhy hr hqq hm
                have HM : Hid (q ∉ tk) := hm
                have xs : wc.cell? ⟨w1.heap.size, q, none⟩ = some (.bool false) := by rw [HRc.out.2.1.cell (by omega)]; simp [hm]
                have fz := HRc.out.2.1.frozen
                clear hleads hr hm hqq hql
                go_wp2_with (first | (go_at_call 32; refine (zan _ _ _).mono ?_; rw [HRF.out]; rintro e w4 ⟨rfl, b4⟩; obtain ⟨hc4, hf4⟩ := zn b4; have z4 := b4.size; have ls4 : w1.heap.size < w4.heap.size := Nat.lt_of_lt_of_le lsc z4; have lH4 : w.heap.size < w4.heap.size := Nat.lt_of_lt_of_le lHc z4; have lV4 : cV < w4.heap.size := Nat.lt_of_lt_of_le lcV z4; have Rn4 : Hid (Rst w1.heap.size ws.length w1 w4 (.slice (some ⟨g', 0, none⟩) tk.length cap') tk) := HRc.out.below b4; have Sl4 : Hid (SlR w1.heap.size (some ⟨bsl, 0, none⟩) N (rdK (za ws p)) w4 (.slice (some ⟨g', 0, none⟩) tk.length cap')) := HLc.out.below b4; clear b4) | (go_at_call 36; refine (zca _ _ _ _ _ _ _ _ _ _ _ _ _ _ _ mm _ rfl (HS.out.below (HB1.out.trans (Rn4.out.2.2.mono (Nat.le_of_lt z1)))) hn hw hmw).mono ?_; rw [HQL.out]; rintro e w5 ⟨rfl, b5⟩; obtain ⟨hc5, hf5⟩ := zn b5; have z5 := b5.size; have ls5 : w1.heap.size < w5.heap.size := Nat.lt_of_lt_of_le ls4 z5; have Rn5 : Hid (Rst w1.heap.size ws.length w1 w5 (.slice (some ⟨g', 0, none⟩) tk.length cap') tk) := Rn4.out.below b5; have Sl5 : Hid (SlR w1.heap.size (some ⟨bsl, 0, none⟩) N (rdK (za ws p)) w5 (.slice (some ⟨g', 0, none⟩) tk.length cap')) := Sl4.out.below b5; clear b5) | (at_builtin; refine wpList_append_own_at _ rfl _ _ 71 rfl (w1.heap.size + 1) 3 i0 (.int .i64 0) 1 8 Tryz.underlying71 hi hz0 hz1 hz2 rfl (by decide) _ tk.length (zc1 tk) rfl ((Rn5.out.marked _ _).alloc _) ⟨_, 0, none⟩ 1 1 [.int .i64 (q : Int)] rfl rfl (fun j u hj => by have h9 := cell_one_new (w5.setCell ⟨w1.heap.size, q, none⟩ (.bool true)) (.int .i64 (q : Int)) 3 j u hj; simpa using h9) (ints_oneCell .i64 [(q : Int)]) (by unfold maxLen; omega) (by omega) (by simp; omega) ?_))
                intro v' w6 hown hgrow _ hloc
                have R6 := Rn5.out.put hqw HM.out hown hgrow
                have S6 := Sl5.out.put hgrow (by simpa using hloc)
                clear hown hgrow hloc
                go_wp2
                go_roundw
                case rel => exact ⟨k + 1, by omega, by go_num, by rw [HNX.out, HE.out]; exact R6, S6⟩
                case measure => simp [intOf]; omega
         · have hge3 : (N : Int) <= (k : Int) := by omega
           have hkN : k = N := by omega
           have HGO : Hid (Bfs ws (n + 1) tk R) := by
            have := HBF.out.step hlt hll
            rw [<- HPD.out] at this
            have e : tk = zf2 ws p td := by rw [htk, hkN, HN.out]; rfl
            rw [e]
            exact this
           have HCK : Hid (zb0 mk tk) := by show zb0 mk tk; rw [htk]; exact zeu k HCO.out (fun j hj => ze4 HK.out HOB.out hpl j (by have := HN.out; omega))
           obtain ⟨l, hl⟩ := zgc ws (zdp ws p) k td
           rw [<- htk] at hl
           have HSU : Hid (sm + rdS (za ws p) + 1 = zb9 ws (tk.take (n + 1))) := by show _ = _; rw [HSM.out, hl, List.take_append_of_le_length (by omega)]
           have HLE : Hid (n + 1 <= tk.length) := by show _ <= _; rw [hl, List.length_append]; omega
           have HRk : Hid (Rst w1.heap.size ws.length w1 wr _ tk) := hR
           clear htk hl hSl hkN hR
           go_wp2
           go_roundw
           case rel => exact ⟨n + 1, tk, HLE.out, by go_num, by rw [HSU.out], HCK.out, HGO.out, HRk.out⟩
           case measure => simp [intOf]; omega
     · have hge : (td.length : Int) <= (n : Int) := by omega
       obtain ⟨ta, tc, rfl⟩ := hR.head
       have hRR : R = td := hbfs.done hlt
       have HSU : Hid (zb9 ws (td.take n) = zb9 ws R) := by show _ = _; rw [hRR, List.take_of_length_le (by omega)]
       have HBF : Hid (Below w.heap.size w wr) := HB1.out.trans (hR.2.2.mono (Nat.le_of_lt z1))
       clear hRR hR hbfs hcome
       go_wp2
       go_ret
       exact ⟨zbs HSU.out, HBF.out⟩
open Go.RowKit Go.Maps Go.Shelf
attribute [local go_sem] Oper.semAt_some
def Rsi (H bs n : Nat) (w0 w : World) (v : Value) (td : List Nat) : Prop :=
 w.ownsRow (bs + 4) 3 1 v td.length (zc1 td) /\ w.rowIs bs 4 n (fun i => .bool (decide (i ∈ td))) /\ w.cell? ⟨bs + 1, 0, none⟩ = some (.slice (some ⟨bs, 0, none⟩) n n) /\ w.rowIs (bs + 1 + 1) 71 1 (fun _ => v) /\ w.cell? ⟨bs + 1 + 1 + 1, 0, none⟩ = some (.func (.func 66) #[] #[.pointer (some ⟨H, 0, none⟩), .pointer (some ⟨bs + 1, 0, none⟩), .pointer (some ⟨bs + 1 + 1, 0, none⟩)]) /\ Below bs w0 w
theorem Rsi.lt {H bs n : Nat} {w0 w : World} {v : Value} {td : List Nat} (h : Rsi H bs n w0 w v td) : bs + 1 + 1 + 1 < w.heap.size := World.block_lt_of_cell? _ ⟨bs + 1 + 1 + 1, 0, none⟩ h.2.2.2.2.1
theorem Rsi.own {H bs n : Nat} {w0 w : World} {v : Value} {td : List Nat} (h : Rsi H bs n w0 w v td) : ∀ k, v.ownBlock = some k -> bs + 4 <= k /\ k < w.heap.size := fun k hk => by
 rcases h.1.2 with ⟨rfl, _⟩ | ⟨g, cap, cur, rfl, hb, hg, _⟩
 · simp [Value.ownBlock] at hk
 · simp [Value.ownBlock] at hk
   have := (Array.getElem?_eq_some_iff.1 hg).1
   omega
theorem Rsi.below {H bs n : Nat} {w0 w w' : World} {v : Value} {td : List Nat} (h : Rsi H bs n w0 w v td) (hb : Below w.heap.size w w') : Rsi H bs n w0 w' v td := by
 have hl := h.lt
 obtain ⟨h1, h2, h3, h4, h5, h6⟩ := h
 exact ⟨World.ownsRow.kept h1 (row := none) ⟨hb.os, hb.tape, hb.output, hb.size, fun k hk _ => hb.block k hk⟩ (by cases v.ownBlock <;> simp), h2.of_block (hb.block _ (by omega)), by rw [hb.cell (p := ⟨bs + 1, 0, none⟩) (by dsimp only; omega)]; exact h3, h4.of_block (hb.block _ (by omega)), by rw [hb.cell (p := ⟨bs + 1 + 1 + 1, 0, none⟩) hl]; exact h5, h6.trans (hb.mono (by omega))⟩
theorem Rsi.marked {H bs n : Nat} {w0 w : World} {v : Value} {td : List Nat} (h : Rsi H bs n w0 w v td) (p : Nat) (u : Value) : (w.setCell ⟨bs, p, none⟩ u).ownsRow (bs + 4) 3 1 v td.length (zc1 td) := by
 have hb := (Below.refl bs w).setCell (p := ⟨bs, p, none⟩) (Nat.le_refl _) u
 refine World.ownsRow.kept h.1 (row := some bs) ⟨hb.os, hb.tape, hb.output, hb.size, fun k _ hk => Below.heap_setCell _ _ _ _ (fun e => hk (by rw [e]))⟩ ?_
 cases e : v.ownBlock with
 | none => exact .inl rfl
 | some k => right; have := (h.own k e).1; simp; omega
def zfm (bs : Nat) (w : World) : Option Nat := match w.cell? ⟨bs + 1 + 1, 0, none⟩ with
 | some v => v.ownBlock
 | none => none
def za4 (bs : Nat) (W W' : World) : Prop :=
 W.heap.size <= W'.heap.size /\ ((W.cell? ⟨bs + 1 + 1, 0, none⟩).isSome = true ->
  (∀ (k : Nat) (o : Obj), k ≠ bs -> k ≠ bs + 1 + 1 -> zfm bs W ≠ some k -> W.heap[k]? = some o -> o.isCells = true -> W'.heap[k]? = some o) /\
  (W'.cell? ⟨bs + 1 + 1, 0, none⟩).isSome = true /\ (zfm bs W' = zfm bs W \/ ∃ k, zfm bs W' = some k /\ W.heap.size <= k))
theorem za4.refl (bs : Nat) (W : World) : za4 bs W W := ⟨Nat.le_refl _, fun h => ⟨fun _ _ _ _ _ h _ => h, h, .inl rfl⟩⟩
theorem za4.trans {bs : Nat} {A B C : World} (h : za4 bs A B) (k : za4 bs B C) : za4 bs A C := by
 refine ⟨Nat.le_trans h.1 k.1, fun hA => ?_⟩
 obtain ⟨h1, h2, h3⟩ := h.2 hA
 obtain ⟨k1, k2, k3⟩ := k.2 h2
 have hlt : ∀ (i : Nat) (o : Obj), A.heap[i]? = some o -> i < A.heap.size := fun i o hi => (Array.getElem?_eq_some_iff.1 hi).1
 refine ⟨fun i o e1 e2 e3 hi ho => k1 i o e1 e2 (fun e => ?_) (h1 i o e1 e2 e3 hi ho) ho, k2, ?_⟩
 · rcases h3 with g | ⟨x, g, gx⟩
   · exact e3 (g ▸ e)
   · rw [g] at e
     have := hlt i o hi
     simp at e
     omega
 · rcases k3 with g | ⟨x, g, gx⟩
   · rw [g]; exact h3
   · right; exact ⟨x, g, Nat.le_trans h.1 gx⟩
theorem za4.of_below {bs : Nat} {W W' : World} (hb : Below W.heap.size W W') : za4 bs W W' := by
 refine ⟨hb.size, fun hA => ?_⟩
 obtain ⟨v, hv⟩ := Option.isSome_iff_exists.1 hA
 have e : W'.cell? ⟨bs + 1 + 1, 0, none⟩ = some v := by rw [hb.cell (p := ⟨bs + 1 + 1, 0, none⟩) (World.block_lt_of_cell? _ ⟨bs + 1 + 1, 0, none⟩ hv)]; exact hv
 exact ⟨fun k o _ _ _ hk _ => by rw [hb.block k (Array.getElem?_eq_some_iff.1 hk).1]; exact hk, by rw [e]; rfl, .inl (by simp [zfm, e, hv])⟩
theorem za4.putObj (bs : Nat) (W : World) (l : Nat) (o o' : Obj) (h : W.heap[l]? = some o) (ho : o.isCells = false) : za4 bs W (W.putObj l o') := by
 have hk := zaf.putObj W l o o' h ho
 refine ⟨hk.size, fun hA => ?_⟩
 obtain ⟨v, hv⟩ := Option.isSome_iff_exists.1 hA
 have e : (W.putObj l o').cell? ⟨bs + 1 + 1, 0, none⟩ = some v := hk.cell hv
 exact ⟨fun k u _ _ _ hk' hu => hk.same k u hk' hu, by rw [e]; rfl, .inl (by simp [zfm, e, hv])⟩
theorem za4.cell {bs : Nat} {W W' : World} (h : za4 bs W W') {b o : Nat} {u v : Value} (hv : W.cell? ⟨bs + 1 + 1, 0, none⟩ = some v) (h1 : b ≠ bs) (h2 : b ≠ bs + 1 + 1) (h3 : v.ownBlock ≠ some b) (hc : W.cell? ⟨b, o, none⟩ = some u) : W'.cell? ⟨b, o, none⟩ = some u := by
 have hs := (h.2 (by rw [hv]; rfl)).1
 have e : W'.heap[b]? = W.heap[b]? := by
  cases hb : W.heap[b]? with
  | none => simp [World.cell?, hb] at hc
  | some ob =>
    cases ob with
    | cells c t fz => exact hs _ _ h1 h2 (by simp [zfm, hv]; exact h3) hb rfl
    | _ => simp [World.cell?, hb] at hc
 rw [World.cell?_of_block (w := W) e]; exact hc
theorem Rsi.put {H bs n : Nat} {w0 w w' : World} {v v' : Value} {td : List Nat} {o : Obj} (h : Rsi H bs n w0 w v td) {p : Nat} (hp : p < n) (hn : p ∉ td) (hown : w'.ownsRow (bs + 4) 3 1 v' (td.length + 1) (zc1 td ++ [.int .i64 (p : Int)])) (hg : ((w.setCell ⟨bs, p, none⟩ (.bool true)).alloc o).grownBy w' v.ownBlock) (hl : v'.ownBlock = v.ownBlock \/ v'.ownBlock = some (w.heap.size + 1)) :
 Rsi H bs n w0 (w'.setCell ⟨bs + 1 + 1, 0, none⟩ v') v' (td ++ [p]) /\ za4 bs w (w'.setCell ⟨bs + 1 + 1, 0, none⟩ v') /\ KeepsOthers w (w'.setCell ⟨bs + 1 + 1, 0, none⟩ v') := by
 have hlt := h.lt
 have hown' := h.own
 have hgs : w.heap.size + 1 <= w'.heap.size := by have := hg.size; simp at this; omega
 -- what lay in w, in w'
 have same : ∀ k, k < w.heap.size -> k ≠ bs -> v.ownBlock ≠ some k -> w'.heap[k]? = w.heap[k]? := fun k hk h1 h2 => by
  rw [hg.block k (by simp; omega) (fun e => h2 e.symm)]
  exact (((Below.refl _ _).alloc (Nat.le_refl _) _).block k (by simpa using hk)).trans (Below.heap_setCell _ _ _ _ h1)
 have ne2 : v.ownBlock ≠ some (bs + 1 + 1) := fun e => by have := hown' _ e; omega
 have same2 : ∀ k, k < w.heap.size -> k ≠ bs -> k ≠ bs + 1 + 1 -> v.ownBlock ≠ some k -> (w'.setCell ⟨bs + 1 + 1, 0, none⟩ v').heap[k]? = w.heap[k]? := fun k hk h1 h3 h2 => (Below.heap_setCell _ _ _ _ h3).trans (same k hk h1 h2)
 obtain ⟨h1, h2, h3, h4, h5, h6⟩ := h
 have r4 : w'.rowIs (bs + 1 + 1) 71 1 (fun _ => v) := h4.of_block (same _ (by omega) (by omega) ne2)
 have c4 : (w'.setCell ⟨bs + 1 + 1, 0, none⟩ v').cell? ⟨bs + 1 + 1, 0, none⟩ = some v' := World.cell?_setCell_same' w' ⟨bs + 1 + 1, 0, none⟩ v' (by rw [r4.cell (i := 0) (by omega)]; rfl)
 have hb4 := (Below.refl (bs + 1 + 1) w').setCell (p := ⟨bs + 1 + 1, 0, none⟩) (Nat.le_refl _) v'
 have vown' : ∀ k, v'.ownBlock = some k -> bs + 4 <= k := fun k hk => by
  rcases hl with e | e
  · exact (hown' k (e ▸ hk)).1
  · rw [e] at hk
    simp at hk
    omega
 refine ⟨⟨?_, ?_, ?_, ?_, ?_, ?_⟩, ⟨by simp; omega, fun _ => ⟨fun k o' e1 e2 e3 hk ho => ?_, by rw [c4]; rfl, ?_⟩⟩, by simp; omega, fun k o' hk ho => ?_⟩
 · have := World.ownsRow.kept hown (row := some (bs + 1 + 1)) (w' := w'.setCell ⟨bs + 1 + 1, 0, none⟩ v') ⟨hb4.os, hb4.tape, hb4.output, hb4.size, fun k _ hk => Below.heap_setCell _ _ _ _ (fun e => hk (by rw [e]))⟩ (by
    cases e : v'.ownBlock with
    | none => exact .inl rfl
    | some k => right; have := vown' k e; simp; omega)
   simpa [zc1] using this
 · have e1 : ((w.setCell ⟨bs, p, none⟩ (.bool true)).alloc o).rowIs bs 4 n (fun i => .bool (decide (i ∈ td ++ [p]))) := by
    refine World.rowIs.of_block (w := w.setCell ⟨bs, p, none⟩ (.bool true)) ((h2.set p (.bool true)).congr fun i hi => ?_) (((Below.refl _ _).alloc (Nat.le_refl _) _).block _ (by simp; omega))
    by_cases e : i = p
    · subst e; simp
    · simp [e]
   have e2 := e1.of_block (hg.block bs (by simp; omega) (fun e => by have := hown' bs e.symm; omega))
   exact e2.setOther (a := ⟨bs + 1 + 1, 0, none⟩) (by dsimp only; omega) _
 · rw [World.cell?_of_block (w := w) (same2 (bs + 1) (by omega) (by omega) (by omega) (fun e => by have := hown' _ e; omega))]; exact h3
 · exact (r4.set 0 v').congr fun i hi => by simp [show i = 0 by omega]
 · rw [World.cell?_of_block (w := w) (same2 (bs + 1 + 1 + 1) (by omega) (by omega) (by omega) (fun e => by have := hown' _ e; omega))]; exact h5
 · have f1 : Below bs w0 ((w.setCell ⟨bs, p, none⟩ (.bool true)).alloc o) := (h6.setCell (p := ⟨bs, p, none⟩) (Nat.le_refl _) (.bool true)).alloc (by simp; omega) o
   have f2 := f1.grown hg (by simp; omega) (fun k hk => by have := hown' k hk; omega)
   exact f2.setCell (p := ⟨bs + 1 + 1, 0, none⟩) (by dsimp only; omega) v'
 · have hv : w.cell? ⟨bs + 1 + 1, 0, none⟩ = some v := h4.cell (i := 0) (by omega)
   rw [same2 k (Array.getElem?_eq_some_iff.1 hk).1 e1 e2 (by simpa [zfm, hv] using e3)]
   exact hk
 · have hv : w.cell? ⟨bs + 1 + 1, 0, none⟩ = some v := h4.cell (i := 0) (by omega)
   simp only [zfm, c4, hv]
   rcases hl with e | e
   · exact .inl e
   · right; exact ⟨_, e, by omega⟩
 · rw [same2 k (Array.getElem?_eq_some_iff.1 hk).1 (fun e => ?_) (fun e => ?_) (fun e => ?_)]
   · exact hk
   · obtain ⟨A, hA, _⟩ := h2; rw [e, hA] at hk; cases hk; cases ho
   · obtain ⟨A, hA, _⟩ := h4; rw [e, hA] at hk; cases hk; cases ho
   · rcases h1.2 with ⟨rfl, _⟩ | ⟨g, cap, cur, rfl, _, hgg, _⟩
     · simp [Value.ownBlock] at e
     · simp [Value.ownBlock] at e; rw [<- e, hgg] at hk; cases hk; cases ho
theorem Rsi.item {H bs n : Nat} {w0 w : World} {v : Value} {td : List Nat} (h : Rsi H bs n w0 w v td) {i : Nat} (hi : i < td.length) : ∃ g cap, v = .slice (some ⟨g, 0, none⟩) td.length cap /\ bs + 4 <= g /\ g < w.heap.size /\ w.cell? ⟨g, i, none⟩ = some (.int .i64 ((td.getD i 0 : Nat) : Int)) := by
 obtain ⟨a, cap, rfl, hh⟩ := zef h.1
 rcases hh with h0 | ⟨b, M, g, rfl, hB, hT, hm, hrow, hg⟩
 · omega
 · exact ⟨b, cap, rfl, hB, hT, by rw [hrow.cell (by omega), hg i hi]⟩
theorem Rsi.head {H bs n : Nat} {w0 w : World} {v : Value} {td : List Nat} (h : Rsi H bs n w0 w v td) : ∃ a cap, v = .slice a td.length cap := by
 obtain ⟨a, cap, rfl, _⟩ := zef h.1
 exact ⟨a, cap, rfl⟩
set_option maxHeartbeats 2000000 in
theorem zpk (b off cw : Nat) (ws : List Int) (smz toh top : Int) (cyc : Bool) (sn old cpz sr : Int) (ar : Option Addr) (cr : Nat) (rs : List (Int × Int)) (H bs : Nat) (t m : Int) (w0 w : World) (v : Value) (td : List Nat) (h : Rsi H bs ws.length w0 w v td) (hH : H < bs) (hbs : bs <= w0.heap.size) (ka : ∀ i, w0.cell? ⟨H, i, none⟩ = (#[.slice (some ⟨b, off, none⟩) ws.length cw, .int .i64 smz, .int .i64 toh, .int .i64 top, .bool cyc, .int .i64 sn, .int .i64 old, .int .i64 cpz, .int .i64 sr, .slice ar rs.length cr] : Array Value)[i]?) (lb : b < bs) (hc : ∀ i, i < ws.length -> w0.cell? ⟨b, off + i, none⟩ = some (.int .u64 (za ws i))) (hn : ws.length <= 1048576) (hw : ze ws) (htl : td.length <= 1048576)
 (hl : isR t = true -> ∃ mm q : Nat, m = (mm : Int) /\ mm < ws.length /\ zh ws mm = (q : Int) /\ q < ws.length) :
 Calls Tryz.prog 66 #[.agg #[.int .i64 t, .int .i64 m], .pointer (some ⟨H, 0, none⟩), .pointer (some ⟨bs + 1, 0, none⟩), .pointer (some ⟨bs + 1 + 1, 0, none⟩)] w fun e w' => e = .returned (.tuple #[]) /\ ∃ v', Rsi H bs ws.length w0 w' v' (zax ws td t m) /\ za4 bs w w' /\ KeepsOthers w w' := by
 obtain ⟨i0, hi, hz0, hz1, hz2⟩ := info_parts zf8
 have hlt := h.lt
 have HR : Hid (Rsi H bs ws.length w0 w v td) := h
 have B1 : Below w.heap.size w (w.alloc (.cells #[.int .i64 t, .int .i64 m] 43)) := (Below.refl _ _).alloc (Nat.le_refl _) _
 cases hr : isR t with
 | false =>
   have HE : Hid (zax ws td t m = td) := zi8 hr
   clear hl
   go_enter Tryz.func66, Tryz.ntmps66
   go_wp2_with (go_at_call 67; refine (za3 _ _ _).mono ?_; rw [hr]; rintro e w4 ⟨rfl, b4⟩)
   have B4 : Below w.heap.size w w4 := zc b4
   refine bodyPost_ret (results_none rfl _ _ _) rfl ⟨rfl, v, ?_, za4.of_below B4, KeepsOthers.of_below B4⟩
   rw [HE.out]
   exact HR.out.below B4
 | true =>
   obtain ⟨mm, q, rfl, hmw, hql, hqw⟩ := hl hr
   have hqq : (zh ws (mm : Int).toNat).toNat = q := by rw [Int.toNat_natCast, hql, Int.toNat_natCast]
   have hqw' : (q : Int) < (ws.length : Int) := by omega
   have kw : ∀ V, Below w.heap.size w V -> (∀ i, V.cell? ⟨H, i, none⟩ = (#[.slice (some ⟨b, off, none⟩) ws.length cw, .int .i64 smz, .int .i64 toh, .int .i64 top, .bool cyc, .int .i64 sn, .int .i64 old, .int .i64 cpz, .int .i64 sr, .slice ar rs.length cr] : Array Value)[i]?) /\ b < V.heap.size /\ ∀ i, i < ws.length -> V.cell? ⟨b, off + i, none⟩ = some (.int .u64 (za ws i)) := fun V hV => by
    have hB : Below bs w0 V := h.2.2.2.2.2.trans (hV.mono (by omega))
    exact ⟨zd ka hB hH, by have := hV.size; omega, fun i hi => by rw [hB.cell (p := ⟨b, off + i, none⟩) lb]; exact hc i hi⟩
   have KW : Hid (∀ V, Below w.heap.size w V -> (∀ i, V.cell? ⟨H, i, none⟩ = (#[.slice (some ⟨b, off, none⟩) ws.length cw, .int .i64 smz, .int .i64 toh, .int .i64 top, .bool cyc, .int .i64 sn, .int .i64 old, .int .i64 cpz, .int .i64 sr, .slice ar rs.length cr] : Array Value)[i]?) /\ b < V.heap.size /\ ∀ i, i < ws.length -> V.cell? ⟨b, off + i, none⟩ = some (.int .u64 (za ws i))) := kw
   have hm0 : w.cell? ⟨bs, q, none⟩ = some (.bool (decide (q ∈ td))) := h.2.1.cell (by omega)
   have hs0 := h.2.2.1
   have hp0 : w.cell? ⟨bs + 1 + 1, 0, none⟩ = some v := h.2.2.2.1.cell (i := 0) (by omega)
   have HQL : Hid (zh ws mm = (q : Int)) := hql
   have fz := h.2.1.frozen
   have fp := h.2.2.2.1.frozen
   obtain ⟨va, vc, rfl⟩ := h.head
   by_cases hm : q ∈ td
   · have HE : Hid (zax ws td t (mm : Int) = td) := zi9 hqq hm
     simp only [hm, decide_true] at hm0
     have HRF : Hid (isR t = true) := hr
     clear hl hr hqq hql kw ka hc h
     go_enter Tryz.func66, Tryz.ntmps66
     go_wp2_with (first | (go_at_call 67; refine (za3 _ _ _).mono ?_; rw [HRF.out]; rintro e w4 ⟨rfl, b4⟩; have B4 : Below w.heap.size w w4 := zc b4; have v4 := zo b4 (by simp); have k4 := (KW.out _ B4).1; have lw4 : w.heap.size < w4.heap.size := zp b4; clear b4; have s4 : w4.cell? ⟨bs + 1, 0, none⟩ = some (.slice (some ⟨bs, 0, none⟩) ws.length ws.length) := (by rw [B4.cell (p := ⟨bs + 1, 0, none⟩) (by dsimp only; omega)]; exact hs0); have p4 : w4.cell? ⟨bs + 1 + 1, 0, none⟩ = some (.slice va td.length vc) := (by rw [B4.cell (p := ⟨bs + 1 + 1, 0, none⟩) (by dsimp only; omega)]; exact hp0); have m4 : w4.cell? ⟨bs, q, none⟩ = some (.bool true) := (by rw [B4.cell (p := ⟨bs, q, none⟩) (by dsimp only; omega)]; exact hm0)) | (go_at_call 68; refine (zfb _ _ _ _ _ _ _ _ _ _ _ _ _ _ _ _ _ mm _ rfl (KW.out _ B4).2.1 (KW.out _ B4).2.2 hn hw hmw).mono ?_; rw [HQL.out]; rintro e w5 ⟨rfl, b5⟩; have B5 : Below w.heap.size w w5 := zb B4 b5; have lw5 : w.heap.size < w5.heap.size := Nat.lt_of_lt_of_le lw4 b5.size; clear b5; have s5 : w5.cell? ⟨bs + 1, 0, none⟩ = some (.slice (some ⟨bs, 0, none⟩) ws.length ws.length) := (by rw [B5.cell (p := ⟨bs + 1, 0, none⟩) (by dsimp only; omega)]; exact hs0); have p5 : w5.cell? ⟨bs + 1 + 1, 0, none⟩ = some (.slice va td.length vc) := (by rw [B5.cell (p := ⟨bs + 1 + 1, 0, none⟩) (by dsimp only; omega)]; exact hp0); have m5 : w5.cell? ⟨bs, q, none⟩ = some (.bool true) := (by rw [B5.cell (p := ⟨bs, q, none⟩) (by dsimp only; omega)]; exact hm0)))
     go_end0
     exact ⟨rfl, .slice va td.length vc, by rw [HE.out]; exact HR.out.below B5, za4.of_below B5, KeepsOthers.of_below B5⟩
   · have HE : Hid (zax ws td t (mm : Int) = td ++ [q]) := zhy hr hqq hm
     have HM : Hid (q ∉ td) := hm
     have HRF : Hid (isR t = true) := hr
     simp only [hm, decide_false] at hm0
     clear hl hr hqq hql kw ka hc h hm
     go_enter Tryz.func66, Tryz.ntmps66
     go_wp2_with (first | (go_at_call 67; refine (za3 _ _ _).mono ?_; rw [HRF.out]; rintro e w4 ⟨rfl, b4⟩; have B4 : Below w.heap.size w w4 := zc b4; have v4 := zo b4 (by simp); have k4 := (KW.out _ B4).1; have lw4 : w.heap.size < w4.heap.size := zp b4; clear b4; have s4 : w4.cell? ⟨bs + 1, 0, none⟩ = some (.slice (some ⟨bs, 0, none⟩) ws.length ws.length) := (by rw [B4.cell (p := ⟨bs + 1, 0, none⟩) (by dsimp only; omega)]; exact hs0); have p4 : w4.cell? ⟨bs + 1 + 1, 0, none⟩ = some (.slice va td.length vc) := (by rw [B4.cell (p := ⟨bs + 1 + 1, 0, none⟩) (by dsimp only; omega)]; exact hp0); have m4 : w4.cell? ⟨bs, q, none⟩ = some (.bool false) := (by rw [B4.cell (p := ⟨bs, q, none⟩) (by dsimp only; omega)]; exact hm0)) | (go_at_call 68; refine (zfb _ _ _ _ _ _ _ _ _ _ _ _ _ _ _ _ _ mm _ rfl (KW.out _ B4).2.1 (KW.out _ B4).2.2 hn hw hmw).mono ?_; rw [HQL.out]; rintro e w5 ⟨rfl, b5⟩; have B5 : Below w.heap.size w w5 := zb B4 b5; have lw5 : w.heap.size < w5.heap.size := Nat.lt_of_lt_of_le lw4 b5.size; clear b5; have s5 : w5.cell? ⟨bs + 1, 0, none⟩ = some (.slice (some ⟨bs, 0, none⟩) ws.length ws.length) := (by rw [B5.cell (p := ⟨bs + 1, 0, none⟩) (by dsimp only; omega)]; exact hs0); have p5 : w5.cell? ⟨bs + 1 + 1, 0, none⟩ = some (.slice va td.length vc) := (by rw [B5.cell (p := ⟨bs + 1 + 1, 0, none⟩) (by dsimp only; omega)]; exact hp0); have m5 : w5.cell? ⟨bs, q, none⟩ = some (.bool false) := (by rw [B5.cell (p := ⟨bs, q, none⟩) (by dsimp only; omega)]; exact hm0); have f5 : ∀ i, w5.frozen? ⟨bs, i, none⟩ = false := (fun i => by rw [(zn B5).2 _ _ (by omega)]; exact fz i)) | (at_builtin; refine wpList_append_own_at _ rfl _ _ 71 rfl (bs + 4) 3 i0 (.int .i64 0) 1 8 Tryz.underlying71 hi hz0 hz1 hz2 rfl (by decide) _ td.length (zc1 td) rfl (((HR.out.below B5).marked _ _).alloc _) ⟨_, 0, none⟩ 1 1 [.int .i64 (q : Int)] rfl rfl (fun j u hj => by have h9 := cell_one_new (w5.setCell ⟨bs, q, none⟩ (.bool true)) (.int .i64 (q : Int)) 3 j u hj; simpa using h9) (ints_oneCell .i64 [(q : Int)]) (by unfold maxLen; omega) (by omega) (by simp; omega) ?_))
     intro v' w6 hown hgrow _ hloc
     obtain ⟨R6, K6, O6⟩ := (HR.out.below B5).put hqw HM.out hown hgrow (by simpa using hloc)
     have c6 : w6.cell? ⟨bs + 1 + 1, 0, none⟩ = some (.slice va td.length vc) := by
      have hv := (HR.out.below B5).own
      rw [World.cell?_of_block (w := w5) ((hgrow.block (bs + 1 + 1) (by simp; omega) (fun e => by have := hv _ e.symm; omega)).trans ((((Below.refl _ _).alloc (Nat.le_refl _) _).block _ (by simp; omega)).trans (Below.heap_setCell _ _ _ _ (by dsimp only; omega))))]
      exact p5
     have f6 : w6.frozen? ⟨bs + 1 + 1, 0, none⟩ = false := by
      have hv := (HR.out.below B5).own
      rw [World.frozen?_of_block (w := w5) ((hgrow.block (bs + 1 + 1) (by simp; omega) (fun e => by have := hv _ e.symm; omega)).trans ((((Below.refl _ _).alloc (Nat.le_refl _) _).block _ (by simp; omega)).trans (Below.heap_setCell _ _ _ _ (by dsimp only; omega)))), (zn B5).2 _ _ (by omega)]
      exact fp 0
     obtain ⟨va', vc', rfl⟩ := R6.head
     have el : (td ++ [q]).length = td.length + 1 := by simp
     rw [el] at R6 K6 O6
     clear hown hgrow hloc
     go_wp2
     go_end0
     exact ⟨rfl, .slice va' (td.length + 1) vc', by rw [HE.out]; exact R6, (za4.of_below B5).trans K6, (KeepsOthers.of_below B5).trans O6⟩
attribute [local go_sem] Oper.semAt_some
def zb4 (B T : Nat) (ds : List Deferred) (W : World) : Prop :=
 (ds.map fun d => d.target).Nodup /\ ∀ d ∈ ds, ∃ D, d = { target := .collected D, args := #[] } /\ B <= D /\ D < T /\ W.heap[D]? = some (.deferred (some []))
theorem zb4.keep {B T : Nat} {ds : List Deferred} {W W' : World} (h : zb4 B T ds W) (hk : ∀ D, D < T -> W.heap[D]? = some (.deferred (some [])) -> W'.heap[D]? = some (.deferred (some []))) : zb4 B T ds W' :=
 ⟨h.1, fun d hd => by obtain ⟨D, h1, h2, h3, h4⟩ := h.2 d hd; exact ⟨D, h1, h2, h3, hk D h3 h4⟩⟩
theorem zb4.mono {B T T' : Nat} {ds : List Deferred} {W : World} (h : zb4 B T ds W) (hT : T <= T') : zb4 B T' ds W :=
 ⟨h.1, fun d hd => by obtain ⟨D, h1, h2, h3, h4⟩ := h.2 d hd; exact ⟨D, h1, h2, Nat.lt_of_lt_of_le h3 hT, h4⟩⟩
theorem zb4.cons {B T D : Nat} {ds : List Deferred} {W : World} (h : zb4 B T ds W) (hT : T <= D) (hB : B <= D) (hD : W.heap[D]? = some (.deferred (some []))) : zb4 B (D + 1) ({ target := .collected D, args := #[] } :: ds) W := by
 refine ⟨?_, fun d hd => ?_⟩
 · simp only [List.map_cons, List.nodup_cons]
   refine ⟨fun hm => ?_, h.1⟩
   obtain ⟨d, hd, he⟩ := List.mem_map.1 hm
   obtain ⟨D', rfl, _, h3, _⟩ := h.2 d hd
   simp at he
   omega
 · rcases List.mem_cons.1 hd with rfl | hd
   · exact ⟨D, rfl, hB, Nat.lt_succ_self _, hD⟩
   · obtain ⟨D', h1, h2, h3, h4⟩ := h.2 d hd
     exact ⟨D', h1, h2, by omega, h4⟩
theorem zth {N : Nat} {pre : List (Fin N)} {x : Fin N} (h : pre ++ [x] = (List.finRange N).take (pre ++ [x]).length) : pre = (List.finRange N).take pre.length /\ (x : Nat) = pre.length := by
 have hl : pre.length + 1 <= N := by
  have := congrArg List.length h
  simp at this
  omega
 have hlt : pre.length < N := by omega
 rw [List.length_append, List.length_singleton, zfd hlt] at h
 have h2 := List.append_inj' h rfl
 refine ⟨h2.1, ?_⟩
 have := h2.2
 simp at this
 rw [this]
theorem zhz {n : Nat} {fn : Func} {tmps : Array Value} {R : Ending -> World -> Prop} {B T : Nat} : ∀ (ds : List Deferred) (W : World), zb4 B T ds W -> (∀ W', Below B W W' -> (∀ (k : Nat) (o : Obj), W.heap[k]? = some o -> o.isCells = true -> W'.heap[k]? = some o) -> LeavesIn Fence.wide n Tryz.prog fn tmps R [] .returning W') -> LeavesInM Fence.wide n Tryz.prog fn tmps R ds .returning W
 | [], W, _, h => h W (Below.refl _ _) (fun _ _ hk _ => hk)
 | d :: ds, W, hm, h => by
   obtain ⟨D, rfl, hB, _, hD⟩ := hm.2 d (List.mem_cons_self ..)
   refine ⟨by simp, .inl ⟨D, _, rfl, run_takeDeferred hD, ?_⟩⟩
   have hg := grownBy_putObj' W D (.deferred none)
   have hnd := hm.1
   simp only [List.map_cons, List.nodup_cons] at hnd
   refine zhz (B := B) (T := T) ds _ ⟨hnd.2, fun d' hd' => ?_⟩ (fun W' hW' hc => h W' ?_ (fun k o hk ho => hc k o ?_ ho))
   · obtain ⟨D', rfl, hB', hT', hD'⟩ := hm.2 d' (List.mem_cons_of_mem _ hd')
     have hne : D' ≠ D := fun e => hnd.1 (by subst e; exact List.mem_map.2 ⟨_, hd', rfl⟩)
     exact ⟨D', rfl, hB', hT', by rw [hg.block D' (Array.getElem?_eq_some_iff.1 hD').1 (fun e => by cases e; exact hne rfl)]; exact hD'⟩
   · exact (Below.trans ⟨hg.os, hg.tape, hg.output, hg.size, fun k hk => hg.block k (Nat.lt_of_lt_of_le hk (by have := (Array.getElem?_eq_some_iff.1 hD).1; omega)) (fun e => by cases e; omega)⟩ hW')
   · rw [hg.block k (Array.getElem?_eq_some_iff.1 hk).1 (fun e => by cases e; rw [hD] at hk; cases hk; cases ho)]
     exact hk
def zvd (mk : Nat -> Int) (ws : List Int) (H bs : Nat) (w0 : World) (p : Nat) (td : List Nat) (T : Nat) (ds : List Deferred) (N : Nat) (pre : List (Fin N)) (V : World) : Prop :=
 ∃ v tk, Rsi H bs ws.length w0 V v tk /\ zb0 mk tk /\ (pre = (List.finRange N).take pre.length -> tk = zag ws (zdp ws p) pre.length td) /\ zb4 (bs + 4) T ds V /\ T <= V.heap.size
theorem Rsi.grown {H bs n : Nat} {w0 w w' : World} {v : Value} {td : List Nat} {row : Option Nat} (h : Rsi H bs n w0 w v td) (hg : w.grownBy w' row) (hr : ∀ r, row = some r -> bs + 4 <= r /\ ∃ o : Obj, w.heap[r]? = some o /\ o.isCells = false) : Rsi H bs n w0 w' v td := by
 have hl := h.lt
 have hne : ∀ k, k < bs + 4 -> some k ≠ row := fun k hk e => by have := (hr k e.symm).1; omega
 have hne2 : v.ownBlock = none \/ v.ownBlock ≠ row := by
  cases e : v.ownBlock with
  | none => exact .inl rfl
  | some k =>
    right
    intro e2
    obtain ⟨_, o, ho, hc⟩ := hr k e2.symm
    rcases h.1.2 with ⟨rfl, _⟩ | ⟨g, cap, cur, rfl, _, hgg, _⟩
    · simp [Value.ownBlock] at e
    · simp [Value.ownBlock] at e; rw [<- e, hgg] at ho; cases ho; cases hc
 obtain ⟨h1, h2, h3, h4, h5, h6⟩ := h
 exact ⟨h1.kept hg hne2, h2.of_block (hg.block _ (by omega) (hne _ (by omega))), by rw [World.cell?_of_block (w := w) (hg.block (bs + 1) (by omega) (hne _ (by omega)))]; exact h3, h4.of_block (hg.block _ (by omega) (hne _ (by omega))), by rw [World.cell?_of_block (w := w) (hg.block (bs + 1 + 1 + 1) hl (hne _ (by omega)))]; exact h5, h6.grown hg (by omega) (fun k hk => by have := (hr k hk).1; omega)⟩
theorem zti {mk : Nat -> Int} {ws : List Int} {H bs : Nat} {w0 : World} {p : Nat} {td : List Nat} {T B : Nat} {ds : List Deferred} {N : Nat} (hB : T <= B) (hb : bs + 4 <= B) : OwnFrom B (zvd mk ws H bs w0 p td T ds N) := by
 rintro s W W' row ⟨v, tk, h1, h2, h3, h4, h5⟩ hg hr
 exact ⟨v, tk, h1.grown hg (fun r e => ⟨by have := (hr r e).1; omega, (hr r e).2⟩), h2, h3, h4.keep (fun D hD hk => by rw [hg.block D (Array.getElem?_eq_some_iff.1 hk).1 (fun e => by have := (hr D e.symm).1; omega)]; exact hk), Nat.le_trans h5 hg.size⟩
set_option maxRecDepth 100000 in
set_option maxHeartbeats 4000000 in
theorem zrj (b off cw : Nat) (ws : List Int) (smz toh top : Int) (cyc : Bool) (sn old cpz sr : Int) (ar : Option Addr) (cr : Nat) (rs : List (Int × Int)) (y : Nat -> Int) (mk : Nat -> Int) (R : List Nat) (w : World) (hb : b < w.heap.size) (hc : ∀ i, i < ws.length -> w.cell? ⟨b, off + i, none⟩ = some (.int .u64 (za ws i))) (hn : ws.length <= 1048576) (hw : ze ws) (hrt : SlF w.heap.size w (.slice ar rs.length cr) rs.length (2 * rs.length) (fun i => .int .i64 (y i))) (hn2 : rs.length <= 24)
 (hro : ∀ k, k < rs.length -> isR (y (2 * k)) = true -> ∃ mm q : Nat, y (2 * k + 1) = (mm : Int) /\ mm < ws.length /\ zh ws mm = (q : Int) /\ q < ws.length)
 (hK : zbw mk ws cyc sn) (hB : Bfs ws 0 (zag ws (zbf y) rs.length []) R) (hC : zb0 mk (zag ws (zbf y) rs.length [])) (hCN : ∀ k, (zag ws (zbf y) k []).length <= k) :
 Calls Tryz.prog 43 #[.agg #[.slice (some ⟨b, off, none⟩) ws.length cw, .int .i64 smz, .int .i64 toh, .int .i64 top, .bool cyc, .int .i64 sn, .int .i64 old, .int .i64 cpz, .int .i64 sr, .slice ar rs.length cr], .slice ar rs.length cr] w fun e w' => ∃ v, e = .returned v /\ za0 w.heap.size w'.heap.size 3 w' v R.length R.length (fun i => .int .i64 ((R.getD i 0 : Nat) : Int)) /\ Below w.heap.size w w' := by
 refine (callsIn_wide (n := 4)).1 ?_
 refine callsIn_of_wp_marks Tryz.func43 rfl trivial ?_ rfl
 simp only [Tryz.ntmps43, List.size_toArray, List.length_cons, List.length_nil, Nat.reduceAdd, Nat.reduceSub, Array.replicate_succ, Array.replicate_zero, List.push_toArray, List.append_toArray, List.nil_append, List.cons_append]
 have iaF := Tryz.isAgg115
 have szF := Tryz.sizeOf115
 have hn' : (ws.length : Int) <= 1048576 := by omega
 have hrl' : (rs.length : Int) <= 24 := by omega
 have hm1 := zk7 (ws.length : Int) (by omega) (by omega)
 rw [Int.toNat_natCast] at hm1
 have HC0 : Hid (∀ i, i < ws.length -> w.cell? ⟨b, off + i, none⟩ = some (.int .u64 (za ws i))) := hc
 have HR : Hid (SlF w.heap.size w (.slice ar rs.length cr) rs.length (2 * rs.length) (fun i => .int .i64 (y i))) := hrt
 have HRO : Hid (∀ k, k < rs.length -> isR (y (2 * k)) = true -> ∃ mm q : Nat, y (2 * k + 1) = (mm : Int) /\ mm < ws.length /\ zh ws mm = (q : Int) /\ q < ws.length) := hro
 have HK : Hid (zbw mk ws cyc sn) := hK
 have HB : Hid (Bfs ws 0 (zag ws (zbf y) rs.length []) R) := hB
 have HCO : Hid (zb0 mk (zag ws (zbf y) rs.length [])) := hC
 have HCN : Hid (∀ k, (zag ws (zbf y) k []).length <= k) := hCN
 obtain ⟨w0, hw0⟩ : ∃ w0, w0 = w.alloc (.cells #[.slice (some ⟨b, off, none⟩) ws.length cw, .int .i64 smz, .int .i64 toh, .int .i64 top, .bool cyc, .int .i64 sn, .int .i64 old, .int .i64 cpz, .int .i64 sr, .slice ar rs.length cr] 42) := ⟨_, rfl⟩
 have B0 : Below w.heap.size w w0 := by rw [hw0]; exact (Below.refl _ _).alloc (Nat.le_refl _) _
 have z0 : w0.heap.size = w.heap.size + 1 := by rw [hw0]; simp
 have ka : ∀ i, w0.cell? ⟨w.heap.size, i, none⟩ = (#[.slice (some ⟨b, off, none⟩) ws.length cw, .int .i64 smz, .int .i64 toh, .int .i64 top, .bool cyc, .int .i64 sn, .int .i64 old, .int .i64 cpz, .int .i64 sr, .slice ar rs.length cr] : Array Value)[i]? := fun i => by rw [hw0]; simp [go_sem]
 obtain ⟨w2, hw2⟩ : ∃ V, V = (((w0.alloc (.cells (madeCells #[.bool false] ws.length) 4)).alloc (.cells #[.slice (some ⟨w.heap.size + 1, 0, none⟩) ws.length ws.length] 70)).alloc (.cells #[.slice none 0 0] 71)).alloc (.cells #[.func (.func 66) #[] #[.pointer (some ⟨w.heap.size, 0, none⟩), .pointer (some ⟨w.heap.size + 1 + 1, 0, none⟩), .pointer (some ⟨w.heap.size + 1 + 1 + 1, 0, none⟩)]] 115) := ⟨_, rfl⟩
 clear hc hrt hro hK hB hC hCN
 gi_wp2_with fail
 rw [<- hw0, <- hw2]
 have z2 : w2.heap.size = w.heap.size + 1 + 4 := by rw [hw2]; simp; omega
 have ST : Rsi w.heap.size (w.heap.size + 1) ws.length w0 w2 (.slice none 0 0) [] := by
  have e1 : w2.rowIs (w.heap.size + 1) 4 ws.length (fun i => .bool (decide (i ∈ ([] : List Nat)))) := by
   have h := World.rowIs_made w0 (.bool false) ws.length 4
   rw [z0] at h
   rw [hw2]
   exact (h.of_block (((((Below.refl _ _).alloc (Nat.le_refl _) _).alloc (by simp) _).alloc (by first | (simp; done) | (simp; omega)) _).block _ (by simp [z0]))).congr fun i _ => by simp
  refine ⟨⟨rfl, .inl ⟨rfl, rfl⟩⟩, e1, ?_, ?_, ?_, ?_⟩
  · rw [hw2]; simp [go_sem, z0]
  · rw [hw2]
    refine ⟨#[.slice none 0 0], ?_, rfl, fun i hi => by simp [show i = 0 by omega]⟩
    exact (((Below.refl _ _).alloc (Nat.le_refl _) _).block _ (by simp [z0])).trans (zdh (by simp [z0]))
  · rw [hw2]; simp [go_sem, z0]
  · rw [hw2, <- z0]; exact ((((Below.refl _ _).alloc (Nat.le_refl _) _).alloc (by simp) _).alloc (by simp; omega) _).alloc (by simp; omega) _
 have HST : Hid (Rsi w.heap.size (w.heap.size + 1) ws.length w0 w2 (.slice none 0 0) []) := ST
 have hb0 : b < w0.heap.size := by omega
 have HC : Hid (∀ i, i < ws.length -> w0.cell? ⟨b, off + i, none⟩ = some (.int .u64 (za ws i))) := fun i hi => by rw [B0.cell (p := ⟨b, off + i, none⟩) hb]; exact HC0.out i hi
 have HKA : Hid (∀ i, w0.cell? ⟨w.heap.size, i, none⟩ = (#[.slice (some ⟨b, off, none⟩) ws.length cw, .int .i64 smz, .int .i64 toh, .int .i64 top, .bool cyc, .int .i64 sn, .int .i64 old, .int .i64 cpz, .int .i64 sr, .slice ar rs.length cr] : Array Value)[i]?) := ka
 have z0' : w0.heap.size <= w.heap.size + 1 /\ w.heap.size + 1 <= w0.heap.size := by omega
 have Z0 : Hid (w0.heap.size = w.heap.size + 1) := z0
 clear hw2 hw0 ST hm1 HC0 ka z0 z2
 gi_loopw [9, 20] (fun _ u20 wr => ∃ (k : Nat) (v : Value), k <= rs.length /\ u20 = .int .i64 k /\ Rsi w.heap.size (w.heap.size + 1) ws.length w0 wr v (zag ws (zbf y) k [])) (fun _ u20 _ => rs.length - (intOf u20).toNat)
 case atStart => exact ⟨0, _, Nat.zero_le _, rfl, HST.out⟩
 case round =>
  obtain ⟨k, v, hk, rfl, hR⟩ := hrel
  have hcl := HCN.out k
  have lr := hR.lt
  by_cases hlt : k < rs.length
  · have hlt' : (k : Int) < (rs.length : Int) := by omega
    obtain ⟨br, offr, cap', hv, _, lbr, hcr⟩ := HR.out.parts (k := 0) (by omega)
    simp only [Value.slice.injEq] at hv
    obtain ⟨rfl, _, rfl⟩ := hv
    obtain ⟨t, ht⟩ : ∃ t, t = y (2 * k) := ⟨_, rfl⟩
    obtain ⟨m, hm⟩ : ∃ m, m = y (2 * k + 1) := ⟨_, rfl⟩
    have hBw : Below w.heap.size w wr := B0.trans (hR.2.2.2.2.2.mono (by omega))
    have x0 : wr.cell? ⟨br, offr + k * 2, none⟩ = some (.int .i64 t) := by rw [hBw.cell (p := ⟨br, offr + k * 2, none⟩) lbr, ht, Nat.mul_comm]; exact hcr (2 * k) (by omega)
    have x1 : wr.cell? ⟨br, offr + k * 2 + 1, none⟩ = some (.int .i64 m) := by rw [hBw.cell (p := ⟨br, offr + k * 2 + 1, none⟩) lbr, hm, Nat.mul_comm]; exact hcr (2 * k + 1) (by omega)
    have lbr2 : br < wr.heap.size := Nat.lt_of_lt_of_le lbr hBw.size
    have hrt := HRO.out k hlt
    rw [<- ht, <- hm] at hrt
    obtain ⟨td, htd⟩ : ∃ td, td = zag ws (zbf y) k [] := ⟨_, rfl⟩
    have HN : Hid (zag ws (zbf y) (k + 1) [] = zax ws td t m) := by show _ = _; rw [htd, ht, hm]; rfl
    rw [<- htd] at hR hcl
    have HRr : Hid (Rsi w.heap.size (w.heap.size + 1) ws.length w0 wr v td) := hR
    have cf : wr.cell? ⟨w.heap.size + 1 + 1 + 1 + 1, 0, none⟩ = some (.func (.func 66) #[] #[.pointer (some ⟨w.heap.size, 0, none⟩), .pointer (some ⟨w.heap.size + 1 + 1, 0, none⟩), .pointer (some ⟨w.heap.size + 1 + 1 + 1, 0, none⟩)]) := hR.2.2.2.2.1
    have HRT : Hid (isR t = true -> ∃ mm q : Nat, m = (mm : Int) /\ mm < ws.length /\ zh ws mm = (q : Int) /\ q < ws.length) := hrt
    have Bx : Below wr.heap.size wr (wr.alloc (.cells #[.int .i64 t, .int .i64 m] 43)) := (Below.refl _ _).alloc (Nat.le_refl _) _
    clear hR hrt htd ht hm hcr hBw
    refine wpIn_wide.2 ?_
    go_wp2_with (go_at_call 66; refine (zpk b off cw ws smz toh top cyc sn old cpz sr (some ⟨br, offr, none⟩) cr rs w.heap.size (w.heap.size + 1) t m w0 _ v td (HRr.out.below Bx) (by omega) (by omega) HKA.out (by omega) HC.out hn hw (by omega) HRT.out).mono ?_; rintro e w4 ⟨rfl, v', R4, _⟩)
    exact ⟨⟨k + 1, v', by omega, by go_num, by rw [HN.out]; exact R4⟩, by simp [intOf]; omega⟩
  · have hge : (rs.length : Int) <= (k : Int) := by omega
    have hkk : k = rs.length := by omega
    have HR0 : Hid (Rsi w.heap.size (w.heap.size + 1) ws.length w0 wr v (zag ws (zbf y) rs.length [])) := by rw [<- hkk]; exact hR
    clear hkk hR hcl HRO HCN HST
    gi_wp2_with fail
    rename World => wr1
    refine wpIn_loop (I := fun a W => ∃ (n : Nat) (td : List Nat) (v : Value) (ds : List Deferred) (j28 j29 j30 j31 j32 j33 j34 j35 j36 j37 j38 j39 : Value), a = { tmps := #[.agg #[.slice (some ⟨b, off, none⟩) ws.length cw, .int .i64 smz, .int .i64 toh, .int .i64 top, .bool cyc, .int .i64 sn, .int .i64 old, .int .i64 cpz, .int .i64 sr, .slice ar rs.length cr], .slice ar rs.length cr, .pointer (some ⟨w.heap.size, 0, none⟩), undef, .slice none 0 0, .pointer (some ⟨w.heap.size + 1 + 1, 0, none⟩), .pointer (some ⟨w.heap.size + 1 + 1 + 1, 0, none⟩), .pointer (some ⟨w.heap.size + 1 + 1 + 1 + 1, 0, none⟩), undef, u9, .int .i64 (n : Int), undef, undef, .pointer (some ⟨w.heap.size, 0, none⟩), .slice (some ⟨b, off, none⟩) ws.length cw, .int .i64 (ws.length : Int), .slice (some ⟨w.heap.size + 1, 0, none⟩) ws.length ws.length, .func (.func 66) #[] #[.pointer (some ⟨w.heap.size, 0, none⟩), .pointer (some ⟨w.heap.size + 1 + 1, 0, none⟩), .pointer (some ⟨w.heap.size + 1 + 1 + 1, 0, none⟩)], .slice ar rs.length cr, .int .i64 (rs.length : Int), .int .i64 (k : Int), .bool false, u22, u23, u24, u25, u26, u27, j28, j29, j30, j31, j32, j33, j34, j35, j36, j37, j38, j39, undef, undef, undef, undef, undef, undef, undef, undef], defers := ds } /\ n <= td.length /\ zb0 mk td /\ Bfs ws n td R /\ Rsi w.heap.size (w.heap.size + 1) ws.length w0 W v td /\ zb4 (w.heap.size + 1 + 4) W.heap.size ds W) (μ := fun a _ => ws.length - (intOf (a.tmps.getD 10 undef)).toNat) ⟨0, _, v, [], undef, undef, undef, undef, undef, undef, undef, undef, undef, undef, undef, undef, rfl, Nat.zero_le _, HCO.out, HB.out, HR0.out, ⟨by simp, by simp⟩⟩ ?_
    clear HR0 HB HCO lr
    rintro _ wr ⟨n, td, v, ds, j28, j29, j30, j31, j32, j33, j34, j35, j36, j37, j38, j39, rfl, hnl, hcome, hbfs, hR, hMD⟩
    have hll : td.length <= ws.length := zee HK.out hcome
    have hll' : (td.length : Int) <= (ws.length : Int) := by omega
    have lr := hR.lt
    obtain ⟨va, vc, rfl⟩ := hR.head
    have cp : wr.cell? ⟨w.heap.size + 1 + 1 + 1, 0, none⟩ = some (.slice va td.length vc) := hR.2.2.2.1.cell (i := 0) (by omega)
    by_cases hlt : n < td.length
    · have hlt' : (n : Int) < (td.length : Int) := by omega
      obtain ⟨g, cap, hvv, hg1, hg2, hgc⟩ := hR.item hlt
      simp only [Value.slice.injEq] at hvv
      obtain ⟨rfl, _, rfl⟩ := hvv
      obtain ⟨p, hp⟩ : ∃ p, p = td.getD n 0 := ⟨_, rfl⟩
      rw [<- hp] at hgc
      have hpm : p ∈ td := by rw [hp]; simp [hlt]
      have hobj := hcome.2 p hpm
      have hpl := zf3 HK.out hobj
      obtain ⟨hrd, hin⟩ := HK.out.within p hobj
      have ka : ∀ i, wr.cell? ⟨w.heap.size, i, none⟩ = (#[.slice (some ⟨b, off, none⟩) ws.length cw, .int .i64 smz, .int .i64 toh, .int .i64 top, .bool cyc, .int .i64 sn, .int .i64 old, .int .i64 cpz, .int .i64 sr, .slice ar rs.length cr] : Array Value)[i]? := zd HKA.out hR.2.2.2.2.2 (by omega)
      have lH : w.heap.size < wr.heap.size := by omega
      have KP : ∀ V, Below wr.heap.size wr V -> (Below wr.heap.size wr V /\ (∀ i, V.cell? ⟨w.heap.size, i, none⟩ = (#[.slice (some ⟨b, off, none⟩) ws.length cw, .int .i64 smz, .int .i64 toh, .int .i64 top, .bool cyc, .int .i64 sn, .int .i64 old, .int .i64 cpz, .int .i64 sr, .slice ar rs.length cr] : Array Value)[i]?) /\ V.cell? ⟨w.heap.size + 1 + 1 + 1, 0, none⟩ = some (.slice (some ⟨g, 0, none⟩) td.length vc) /\ V.cell? ⟨g, n, none⟩ = some (.int .i64 (p : Int))) := fun V hV => ⟨hV, zd ka hV lH, by rw [hV.cell (p := ⟨w.heap.size + 1 + 1 + 1, 0, none⟩) (by dsimp only; omega)]; exact cp, by rw [hV.cell (p := ⟨g, n, none⟩) hg2]; exact hgc⟩
      have b0' := (Below.refl wr.heap.size wr).drew
      have HRr : Hid (Rsi w.heap.size (w.heap.size + 1) ws.length w0 wr (.slice (some ⟨g, 0, none⟩) td.length vc) td) := hR
      have HCO : Hid (zb0 mk td) := hcome
      have HBF : Hid (Bfs ws n td R) := hbfs
      have HPD : Hid (p = td.getD n 0) := hp
      have HOB : Hid (zbb mk p) := hobj
      have HMD : Hid (zb4 (w.heap.size + 1 + 4) wr.heap.size ds wr) := hMD
      clear hR hcome hbfs hp hobj hpm hMD
      gi_wp2_with fail
      refine wpIn_wide.2 ?_
      clear ka cp hgc
      go_region_held3 (fun V => (Below wr.heap.size wr V /\ (∀ i, V.cell? ⟨w.heap.size, i, none⟩ = (#[.slice (some ⟨b, off, none⟩) ws.length cw, .int .i64 smz, .int .i64 toh, .int .i64 top, .bool cyc, .int .i64 sn, .int .i64 old, .int .i64 cpz, .int .i64 sr, .slice ar rs.length cr] : Array Value)[i]?) /\ V.cell? ⟨w.heap.size + 1 + 1 + 1, 0, none⟩ = some (.slice (some ⟨g, 0, none⟩) td.length vc) /\ V.cell? ⟨g, n, none⟩ = some (.int .i64 (p : Int)))) (first | assumption | exact KP _ b0' | exact KP _ (by assumption) | (refine KP _ ?_; repeat (first | exact b0' | exact Below.refl _ _ | assumption | refine Below.drew ?_ | refine za9 ?_ _))) (first | (go_at_call 69; refine (zjw _ _ _ _ _ _ _ _ _ _ _ _ _ _ _ _ _).mono ?_; rintro e w' ⟨rfl, rfl⟩))
      obtain ⟨w5, hw5⟩ : ∃ w5, w5 = ((wr.alloc (.cells #[.slice (some ⟨b, off, none⟩) ws.length cw, .int .i64 smz, .int .i64 toh, .int .i64 top, .bool cyc, .int .i64 sn, .int .i64 old, .int .i64 cpz, .int .i64 sr, .slice ar rs.length cr] 42)).alloc (.cells #[.int .i64 (p : Int)] 3)).drew := ⟨_, rfl⟩
      have B5 : Below wr.heap.size wr w5 := by rw [hw5]; exact (((Below.refl _ _).alloc (Nat.le_refl _) _).alloc (by simp) _).drew
      have z5 : wr.heap.size + 1 + 1 <= w5.heap.size := by rw [hw5]; simp
      have ca : ∀ i, w5.cell? ⟨wr.heap.size, i, none⟩ = (#[.slice (some ⟨b, off, none⟩) ws.length cw, .int .i64 smz, .int .i64 toh, .int .i64 top, .bool cyc, .int .i64 sn, .int .i64 old, .int .i64 cpz, .int .i64 sr, .slice ar rs.length cr] : Array Value)[i]? := fun i => by rw [hw5]; simp [go_sem]
      have ct : w5.cell? ⟨wr.heap.size + 1, 0, none⟩ = some (.int .i64 (p : Int)) := by rw [hw5]; simp [go_sem]
      rw [<- hw5]
      clear hw5 b0' KP
      have R5 := HRr.out.below B5
      have HR5 : Hid (Rsi w.heap.size (w.heap.size + 1) ws.length w0 w5 (.slice (some ⟨g, 0, none⟩) td.length vc) td) := R5
      have M5 : zb4 (w.heap.size + 1 + 4) w5.heap.size ds w5 := (HMD.out.keep (fun D hD hk => by rw [B5.block D hD]; exact hk)).mono B5.size
      have HM5 : Hid (zb4 (w.heap.size + 1 + 4) w5.heap.size ds w5) := M5
      have c5 : w5.cell? ⟨w.heap.size + 1 + 1 + 1, 0, none⟩ = some (.slice (some ⟨g, 0, none⟩) td.length vc) := R5.2.2.2.1.cell (i := 0) (by omega)
      have W5 : Below (w.heap.size + 1) w0 w5 := R5.2.2.2.2.2
      have hk16 : 1 <= rdK (za ws p) /\ rdK (za ws p) <= 6 := by
       have h := of_decide_eq_true (zc9 hrd)
       omega
      obtain ⟨fF, hmF, hfF, henF⟩ := zjv hk16.1 hk16.2
      have hS0 := za2 (za ws p)
      have hfg := zva (rdK (za ws p))
      obtain ⟨N, hN⟩ : ∃ N, N = slN (rdK (za ws p)) (rdS (za ws p)) := ⟨_, rfl⟩
      have HNs : Hid (∀ m : Nat, fs (rdK (za ws p)) + 2 * m < rdS (za ws p) ↔ m < N) := fun m => by rw [hN]; exact ze9 (zc9 hrd) m
      have HN : Hid (N = slN (rdK (za ws p)) (rdS (za ws p))) := hN
      have hstops := znq (za4 (w.heap.size + 1)) (fun A => za4.refl _ A) (fun A B C h1 h2 => h1.trans h2) 3 (by omega) b off cw ws smz toh top cyc sn old cpz sr ar cr rs wr.heap.size (wr.heap.size + 1) p N fF (rdK (za ws p)) (rdS (za ws p)) (fs (rdK (za ws p))) (zdw (rdK (za ws p))) w5
       (fun A V b' o u hA hK hb' hc => hK.cell (v := .slice (some ⟨g, 0, none⟩) td.length vc) (by rw [hA.cell (p := ⟨w.heap.size + 1 + 1 + 1, 0, none⟩) (by dsimp only; omega)]; exact c5) (by omega) (by omega) (by simp [Value.ownBlock]; omega) hc)
       (by omega) ca ct (Nat.lt_of_lt_of_le (by omega) W5.size) (fun i hi => by rw [W5.cell (p := ⟨b, off + i, none⟩) (by dsimp only; omega)]; exact HC.out i hi) hn hw hpl rfl rfl hS0.1 (by omega) hfg.1 hfg.2 HNs.out rfl hmF hfF henF
      have hw50 : w.heap.size + 1 + 4 <= w5.heap.size := by have := R5.lt; omega
      clear ca ct c5 R5 M5 hmF hfF henF hN W5
      gi_wp2_with fail
      refine wpIn_rangeFunc_ownF rfl (by omega) (gf := 95) (lb := #[.pointer (some ⟨wr.heap.size, 0, none⟩), .pointer (some ⟨wr.heap.size + 1, 0, none⟩)]) rfl trivial (enters_of Tryz.func95 (by kernel_rfl) rfl) hstops za4.trans (fun W l o o' _ h ho _ => za4.putObj _ W l o o' h ho) (Below.refl _ _) (fun _ => rfl)
       (zvd mk ws w.heap.size (w.heap.size + 1) w0 p td w5.heap.size ds N)
       (fun _ _ _ => False)
       (zti (Nat.le_refl _) hw50) (fun _ _ _ _ _ h _ _ => h)
       ⟨_, td, HR5.out, HCO.out, fun _ => rfl, HM5.out, Nat.le_refl _⟩
       (fun x => { tmps := #[.agg #[.slice (some ⟨b, off, none⟩) ws.length cw, .int .i64 smz, .int .i64 toh, .int .i64 top, .bool cyc, .int .i64 sn, .int .i64 old, .int .i64 cpz, .int .i64 sr, .slice ar rs.length cr], .slice ar rs.length cr, .pointer (some ⟨w.heap.size, 0, none⟩), undef, .slice none 0 0, .pointer (some ⟨w.heap.size + 1 + 1, 0, none⟩), .pointer (some ⟨w.heap.size + 1 + 1 + 1, 0, none⟩), .pointer (some ⟨w.heap.size + 1 + 1 + 1 + 1, 0, none⟩), undef, u9, .int .i64 (n : Int), undef, (.int .i64 ((p : Int) + fs (rdK (za ws p)) + 2 * ((x : Nat) : Int))), .pointer (some ⟨w.heap.size, 0, none⟩), .slice (some ⟨b, off, none⟩) ws.length cw, .int .i64 (ws.length : Int), .slice (some ⟨w.heap.size + 1, 0, none⟩) ws.length ws.length, .func (.func 66) #[] #[.pointer (some ⟨w.heap.size, 0, none⟩), .pointer (some ⟨w.heap.size + 1 + 1, 0, none⟩), .pointer (some ⟨w.heap.size + 1 + 1 + 1, 0, none⟩)], .slice ar rs.length cr, .int .i64 (rs.length : Int), .int .i64 (k : Int), .bool false, u22, u23, u24, u25, u26, u27, .int .i64 (n : Int), .slice (some ⟨g, 0, none⟩) td.length vc, .int .i64 (td.length : Int), .bool true, j32, j33, .agg #[.slice (some ⟨b, off, none⟩) ws.length cw, .int .i64 smz, .int .i64 toh, .int .i64 top, .bool cyc, .int .i64 sn, .int .i64 old, .int .i64 cpz, .int .i64 sr, .slice ar rs.length cr], .slice (some ⟨g, 0, none⟩) td.length vc, .int .i64 (n : Int), .pointer (some ⟨g, n, none⟩), .int .i64 (p : Int), .func (.func 95) #[] #[.pointer (some ⟨wr.heap.size, 0, none⟩), .pointer (some ⟨wr.heap.size + 1, 0, none⟩)], (.int .i64 ((x : Nat) : Int)), (.int .i64 ((p : Int) + fs (rdK (za ws p)) + 2 * ((x : Nat) : Int))), undef, undef, undef, undef, undef, undef], defers := [] }) ?assign ?body ?done ?stop
      case assign =>
       intro l x W K hK
       gi_wp2
       exact hK
      case body =>
       rintro l pre x V ⟨v', tk, hRV, hCV, hord, hMV, hTV⟩ hpre
       obtain ⟨va', vc', rfl⟩ := hRV.head
       have hkl : tk.length <= ws.length := zee HK.out hCV
       have lV := hRV.lt
       have hxN : (x : Nat) < slN (rdK (za ws p)) (rdS (za ws p)) := by rw [<- HN.out]; exact x.2
       obtain ⟨x1, x2⟩ := znn hrd hxN
       obtain ⟨X, hX⟩ : ∃ X, X = zc0 ws p x := ⟨_, rfl⟩
       rw [<- hX] at x1 x2
       have hX1 : X + 1 < ws.length := by omega
       have hXY : (p : Int) + fs (rdK (za ws p)) + 2 * ((x : Nat) : Int) = (X : Int) := by rw [hX]; unfold zc0; omega
       obtain ⟨t, ht⟩ : ∃ t, t = rvT ws X := ⟨_, rfl⟩
       obtain ⟨m, hm⟩ : ∃ m, m = rvN ws X := ⟨_, rfl⟩
       have hleads : isR t = true -> ∃ mm q : Nat, m = (mm : Int) /\ mm < ws.length /\ zh ws mm = (q : Int) /\ q < ws.length := fun hr => by
        have ho := (HK.out.objs p hpl HOB.out).1 x hxN
        have ho1 : zcj ws X = true := by rw [hX]; exact ho.1
        have ho2 := ho.2.1
        have hmp : 0 < m := by rw [hm]; exact zgt hw ho1 (by rw [<- ht]; exact hr)
        have hl2 := ho2 (by show isR (rvT ws (zc0 ws p x)) = true; rw [<- hX, <- ht]; exact hr)
        have hm' : rvN ws (p + (fs (rdK (za ws p)) + 2 * ((x : Nat) : Int)).toNat) = m := by rw [hm, hX]; rfl
        rw [hm'] at hl2
        obtain ⟨u1, u2, _⟩ := hl2
        have hmm := HK.out.marks m.toNat (by omega) (zb2 u2)
        exact ⟨m.toNat, (zh ws m.toNat).toNat, by omega, by omega, by omega, by omega⟩
       have HLD : Hid (isR t = true -> ∃ mm q : Nat, m = (mm : Int) /\ mm < ws.length /\ zh ws mm = (q : Int) /\ q < ws.length) := hleads
       have HCM : Hid (zb0 mk (zax ws tk t m)) := zj7 hCV (fun hr => by
        have := ze4 HK.out HOB.out hpl x hxN (by show isR (rvT ws (zc0 ws p x)) = true; rw [<- hX, <- ht]; exact hr)
        have e : (zdp ws p x).2 = m := by show rvN ws (zc0 ws p x) = m; rw [<- hX, <- hm]
        rw [e] at this
        exact this)
       have HOR : Hid (pre ++ [x] = (List.finRange N).take (pre ++ [x]).length -> zax ws tk t m = zag ws (zdp ws p) (pre ++ [x]).length td) := fun h => by
        obtain ⟨h1, h2⟩ := zth h
        rw [hord h1, List.length_append, List.length_singleton]
        show _ = zax ws (zag ws (zdp ws p) pre.length td) (rvT ws (zc0 ws p pre.length)) (rvN ws (zc0 ws p pre.length))
        rw [<- h2, <- hX, <- ht, <- hm]
       have HSA : Hid (∀ W, Below V.heap.size V W -> Calls Tryz.prog 70 #[.agg #[.slice (some ⟨b, off, none⟩) ws.length cw, .int .i64 smz, .int .i64 toh, .int .i64 top, .bool cyc, .int .i64 sn, .int .i64 old, .int .i64 cpz, .int .i64 sr, .slice ar rs.length cr], .int .i64 ((p : Int) + fs (rdK (za ws p)) + 2 * ((x : Nat) : Int))] W fun e w' => e = .returned (.agg #[.int .i64 t, .int .i64 m]) /\ Below W.heap.size W w') := fun W hW => by
        rw [ht, hm]
        have hB : Below (w.heap.size + 1) w0 W := hRV.2.2.2.2.2.trans (hW.mono (by omega))
        exact zga _ _ _ _ _ _ _ _ _ _ _ _ _ _ _ X _ hXY (zcm (by have := hB.size; omega) (fun i hi => by rw [hB.cell (p := ⟨b, off + i, none⟩) (by dsimp only; omega)]; exact HC.out i hi)) hn hw hX1
       have cV := hRV.2.2.2.2.1
       have kaV : ∀ i, V.cell? ⟨w.heap.size, i, none⟩ = (#[.slice (some ⟨b, off, none⟩) ws.length cw, .int .i64 smz, .int .i64 toh, .int .i64 top, .bool cyc, .int .i64 sn, .int .i64 old, .int .i64 cpz, .int .i64 sr, .slice ar rs.length cr] : Array Value)[i]? := zd HKA.out hRV.2.2.2.2.2 (by omega)
       have KV : ∀ V', za4 (w.heap.size + 1) V V' -> KeepsOthers V V' -> Below V.heap.size V V' -> (za4 (w.heap.size + 1) V V' /\ KeepsOthers V V' /\ V'.cell? ⟨w.heap.size + 1 + 1 + 1 + 1, 0, none⟩ = some (.func (.func 66) #[] #[.pointer (some ⟨w.heap.size, 0, none⟩), .pointer (some ⟨w.heap.size + 1 + 1, 0, none⟩), .pointer (some ⟨w.heap.size + 1 + 1 + 1, 0, none⟩)]) /\ (∀ i, V'.cell? ⟨w.heap.size, i, none⟩ = (#[.slice (some ⟨b, off, none⟩) ws.length cw, .int .i64 smz, .int .i64 toh, .int .i64 top, .bool cyc, .int .i64 sn, .int .i64 old, .int .i64 cpz, .int .i64 sr, .slice ar rs.length cr] : Array Value)[i]?)) := fun V' h1 h2 h3 => ⟨h1, h2, by rw [h3.cell (p := ⟨w.heap.size + 1 + 1 + 1 + 1, 0, none⟩) (by dsimp only; omega)]; exact cV, zd kaV h3 (by omega)⟩
       have HRV : Hid (Rsi w.heap.size (w.heap.size + 1) ws.length w0 V (.slice va' tk.length vc') tk) := hRV
       have HMV : Hid (zb4 (w.heap.size + 1 + 4) w5.heap.size ds V) := hMV
       have KV0 := KV V.drew (za4.of_below (Below.refl _ _).drew) (KeepsOthers.of_below (Below.refl _ _).drew) (Below.refl _ _).drew
       obtain ⟨v', hv'⟩ : ∃ z, z = Value.slice va' tk.length vc' := ⟨_, rfl⟩
       rw [<- hv'] at HRV
       clear hRV hCV hord hMV hXY hX ht hm hleads hstops x1 x2 cV kaV hv'
       gi_wp2_with fail
       refine zkb (S := fun V' => (za4 (w.heap.size + 1) V V' /\ KeepsOthers V V' /\ V'.cell? ⟨w.heap.size + 1 + 1 + 1 + 1, 0, none⟩ = some (.func (.func 66) #[] #[.pointer (some ⟨w.heap.size, 0, none⟩), .pointer (some ⟨w.heap.size + 1 + 1, 0, none⟩), .pointer (some ⟨w.heap.size + 1 + 1 + 1, 0, none⟩)]) /\ (∀ i, V'.cell? ⟨w.heap.size, i, none⟩ = (#[.slice (some ⟨b, off, none⟩) ws.length cw, .int .i64 smz, .int .i64 toh, .int .i64 top, .bool cyc, .int .i64 sn, .int .i64 old, .int .i64 cpz, .int .i64 sr, .slice ar rs.length cr] : Array Value)[i]?))) (by kernel_rfl) (by kernel_rfl) (by rintro ⟨_, _, h⟩; exact h) KV0 (fun hHeld => ?_)
       refine wpAnyH_take (i := 0) (oi := { dst := some 42, op := _, type := _, pos := _, after := _, guard := _ }) (v := .func (.func 66) #[] #[.pointer (some ⟨w.heap.size, 0, none⟩), .pointer (some ⟨w.heap.size + 1 + 1, 0, none⟩), .pointer (some ⟨w.heap.size + 1 + 1 + 1, 0, none⟩)]) rfl (by kernel_rfl) (by kernel_rfl) (by kernel_rfl) (fun _ _ _ h => h) (Or.inl ⟨by kernel_rfl, ?_⟩) hHeld ?_
       · intro w hSw
         (try dsimp only at hSw)
         go_simp
       try simp only [Act.put, zwr, zws, zwt]
       refine wpAnyH_take (i := 1) (oi := { dst := some 43, op := _, type := _, pos := _, after := _, guard := _ }) (v := .agg #[.slice (some ⟨b, off, none⟩) ws.length cw, .int .i64 smz, .int .i64 toh, .int .i64 top, .bool cyc, .int .i64 sn, .int .i64 old, .int .i64 cpz, .int .i64 sr, .slice ar rs.length cr]) rfl (by kernel_rfl) (by kernel_rfl) (by kernel_rfl) (fun _ _ _ h => h) (Or.inl ⟨by kernel_rfl, ?_⟩) hHeld ?_
       · intro w hSw
         (try dsimp only at hSw)
         go_simp
       try simp only [Act.put, zwr, zws, zwt]
       refine wpAnyH_take (i := 2) (oi := { dst := some 44, op := _, type := _, pos := _, after := _, guard := _ }) (v := (.int .i64 ((p : Int) + fs (rdK (za ws p)) + 2 * ((x : Nat) : Int)))) rfl (by kernel_rfl) (by kernel_rfl) (by kernel_rfl) (fun _ _ _ h => h) (Or.inl ⟨by kernel_rfl, ?_⟩) hHeld ?_
       · intro w hSw
         (try dsimp only at hSw)
         go_simp
       try simp only [Act.put, zwr, zws, zwt]
       refine wpAnyH_ready (rs := [3]) (by kernel_rfl) (by simp) ?_
       refine AllReadyH.cons (o := { dst := some 45, op := _, type := _, pos := _, after := _, guard := _ }) rfl (fun K hK => ?_) AllReadyH.nil
       go_simp
       go_at_call 70
       refine (HSA.out _ (Below.refl _ _).drew).mono ?_
       rintro e w7 ⟨rfl, b7⟩
       have B7 : Below V.heap.size V w7 := zb (Below.refl _ _).drew b7
       clear b7
       clear hHeld
       refine hK.out _ _ (KV _ (za4.of_below B7) (KeepsOthers.of_below B7) B7) (fun hHeld => ?_)
       clear hK K
       try simp only [Act.put, zwr, zws, zwt]
       refine wpAnyH_ready (rs := [4]) (by kernel_rfl) (by simp) ?_
       refine AllReadyH.cons (o := { dst := some 46, op := _, type := _, pos := _, after := _, guard := _ }) rfl (fun K hK => ?_) AllReadyH.nil
       go_simp
       go_at_call 66
       refine (zpk b off cw ws smz toh top cyc sn old cpz sr ar cr rs w.heap.size (w.heap.size + 1) t m w0 _ v' tk (HRV.out.below B7) (by omega) (by omega) HKA.out (by omega) HC.out hn hw (by omega) HLD.out).mono ?_
       rintro e w8 ⟨rfl, v8, R8, K8, O8⟩
       have K9 := (za4.of_below B7).trans K8
       have O9 := (KeepsOthers.of_below B7).trans O8
       clear hHeld
       refine hK.out _ _ (⟨K9, O9, R8.2.2.2.2.1, zd HKA.out R8.2.2.2.2.2 (by omega)⟩) (fun hHeld => ?_)
       clear hK K
       try simp only [Act.put, zwr, zws, zwt]
       refine wpAnyH_done (by kernel_rfl) ?_ _
       gi_wp2_with fail
       refine ⟨O9, K9, v8, _, R8, HCM.out, HOR.out, HMV.out.keep (fun D hD hk => O9.same D _ hk rfl), Nat.le_trans hTV K9.1⟩
      case done =>
       rintro D ys V hD rfl ⟨v', tk, hRV, hCV, hord, hMV, hTV⟩ hK
       have htk : tk = zag ws (zdp ws p) N td := by
        have := hord (by rw [List.take_of_length_le (by simp)])
        simpa using this
       have hgo : tk = zf2 ws p td := by rw [htk, HN.out]; rfl
       have HGO : Hid (Bfs ws (n + 1) tk R) := by
        have := HBF.out.step hlt hll
        rw [<- HPD.out] at this
        rw [hgo]
        exact this
       have HLE : Hid (n + 1 <= tk.length) := by
        obtain ⟨l, hl⟩ := zgc ws (zdp ws p) N td
        show _ <= _
        rw [htk, hl, List.length_append]
        omega
       have HRV : Hid (Rsi w.heap.size (w.heap.size + 1) ws.length w0 V v' tk) := hRV
       have HCV : Hid (zb0 mk tk) := hCV
       have hDl : D < V.heap.size := (Array.getElem?_eq_some_iff.1 hK).1
       have HMV : Hid (zb4 (w.heap.size + 1 + 4) V.heap.size ({ target := .collected D, args := #[] } :: ds) V) := (hMV.cons hD (by omega) hK).mono (by omega)
       clear hRV hCV hord hMV htk hgo hK hstops
       gi_wp2
       refine ⟨⟨n + 1, tk, v', _, _, _, _, _, _, _, _, _, _, _, _, _, by first | rfl | go_num, HLE.out, HCV.out, HGO.out, HRV.out, HMV.out⟩, by simp [intOf]; omega⟩
      case stop =>
       rintro D c pre V hD hpre h hK
       exact h.elim
    · have hge : (td.length : Int) <= (n : Int) := by omega
      have hRR : R = td := hbfs.done hlt
      have HRR : Hid (R = td) := hRR
      have HRr : Hid (Rsi w.heap.size (w.heap.size + 1) ws.length w0 wr (.slice va td.length vc) td) := hR
      have HMD : Hid (zb4 (w.heap.size + 1 + 4) wr.heap.size ds wr) := hMD
      have HBw : Hid (Below w.heap.size w wr) := B0.trans (hR.2.2.2.2.2.mono (by omega))
      clear hRR hR hMD hbfs hcome
      gi_wp2_with fail
      refine zhz (B := w.heap.size + 1 + 4) ds wr HMD.out (fun W' hW' hcc => ?_)
      have HO : W'.ownsRow (w.heap.size + 1 + 4) 3 1 (.slice va td.length vc) td.length (zc1 td) := by
       refine ⟨HRr.out.1.1, ?_⟩
       rcases HRr.out.1.2 with h | ⟨g, cap, cur, h1, h2, h3, h4⟩
       · exact .inl h
       · exact .inr ⟨g, cap, cur, h1, h2, hcc g _ h3 rfl, h4⟩
      have hlw := HRr.out.lt
      refine ⟨.slice va td.length vc, by simp [results, Tryz.results43, go_sem], _, rfl, ?_, HBw.out.trans (hW'.mono (by omega))⟩
      rw [HRR.out]
      exact (zef HO).mono (by omega) (Nat.le_refl _)
theorem zio (ws : List Int) (f : Nat -> Int × Int) : ∀ k, (zag ws f k []).length <= k
 | 0 => by simp [zag]
 | k + 1 => by
   have ih := zio ws f k
   show (zax ws (zag ws f k []) _ _).length <= k + 1
   unfold zax
   split
   · split
     · omega
     · simp; omega
   · omega
set_option maxHeartbeats 2000000 in
theorem zka (aw : Option Addr) (cw : Nat) (ws : List Int) (smz toh top : Int) (cyc : Bool) (sn old cpz sr : Int) (ar : Option Addr) (cr : Nat) (rs : List (Int × Int)) (y : Nat -> Int) (Tr : Nat) (w : World) (hs : Sl w (.slice aw ws.length cw) ws) (hcw : ws.length <= cw) (hn : ws.length <= 1048576) (hw : ze ws) (hrt : SlF Tr w (.slice ar rs.length cr) rs.length (2 * rs.length) (fun i => .int .i64 (y i))) (hn2 : rs.length <= 1048576) (hok : zdt ws smz toh top cyc sn old cpz sr y rs.length) (mk : Nat -> Int) (R : List Nat) (hK : zbw mk ws cyc sn) (hB : Bfs ws 0 (zag ws (zbf y) rs.length []) R) (hC : zb0 mk (zag ws (zbf y) rs.length [])) (hR : zb0 mk R) :
 Calls Tryz.prog 21 #[.agg #[.slice aw ws.length cw, .int .i64 smz, .int .i64 toh, .int .i64 top, .bool cyc, .int .i64 sn, .int .i64 old, .int .i64 cpz, .int .i64 sr, .slice ar rs.length cr]] w fun e w' => e = .returned (.int .i64 (zb9 ws R)) /\ Below w.heap.size w w' := by
 obtain ⟨s0, s1, hl, t0, t1, hrl, h1, h2, hold⟩ := zdc hok.1
 obtain ⟨b, off, rfl, hb, hc⟩ := zh2 hs (by omega)
 have HRO : Hid (∀ k, k < rs.length -> isR (y (2 * k)) = true -> ∃ mm q : Nat, y (2 * k + 1) = (mm : Int) /\ mm < ws.length /\ zh ws mm = (q : Int) /\ q < ws.length) := fun k hk hr => by
  obtain ⟨p, h1, _, _, h4, h5, _⟩ := zpi hw hok hk hr
  exact ⟨p, p, h1, by omega, h5, by omega⟩
 have HS : Hid (Sl w (.slice (some ⟨b, off, none⟩) ws.length cw) ws) := hs
 have HR : Hid (SlF w.heap.size w (.slice ar rs.length cr) rs.length (2 * rs.length) (fun i => .int .i64 (y i))) := hrt.here
 have HQ : Hid (zdt ws smz toh top cyc sn old cpz sr y rs.length) := hok
 have HK : Hid (zbw mk ws cyc sn) := hK
 have HB : Hid (Bfs ws 0 (zag ws (zbf y) rs.length []) R) := hB
 have HC : Hid (zb0 mk (zag ws (zbf y) rs.length [])) := hC
 have HCR : Hid (zb0 mk R) := hR
 have hRl : R.length <= ws.length := zee hK hR
 have HPL : Hid (∀ i, i < R.length -> R.getD i 0 < ws.length) := fun i hi => zf3 hK (hR.2 _ (by simp [hi]))
 clear hs hrt hok hK hB hC hR hc h1 h2 hold
 go_enter Tryz.func21, Tryz.ntmps21
 go_wp2_with fail
 refine (zgo _ _ _ _ _ _ _ _ _ _ _ _ _ _ y w.heap.size _ (HS.out.below (zc (Below.refl _ _))) hcw hn hw (HR.out.below (zc (Below.refl _ _)) (Nat.le_refl _)) hn2).mono ?_
 rintro e w1 ⟨q, rfl, hq, b1⟩
 obtain rfl := hq.2 HQ.out
 have B1 := zc b1
 have k1 := zo b1 (by simp)
 have z1 := zp b1
 clear b1 hq
 go_wp2_with fail
 obtain ⟨b', off', hv, hb', hc'⟩ := zh2 (HS.out.below B1) (by omega)
 simp only [Option.some.injEq, Addr.mk.injEq] at hv
 obtain ⟨rfl, rfl, _⟩ := hv
 refine (zrj b off cw ws smz toh top cyc sn old cpz sr ar cr rs y mk R _ hb' hc' hn hw ((HR.out.below B1 (Nat.le_refl _)).here) hrl HRO.out HK.out HB.out HC.out (zio ws (zbf y))).mono ?_
 rintro e w2 ⟨v, rfl, hO, b2⟩
 have B2 := zb B1 b2
 have k2 := zd k1 b2 z1
 have z2 := Nat.lt_of_lt_of_le z1 b2.size
 obtain ⟨va, vc, rfl, hcase⟩ := hO
 have HCS : Hid (R.length = 0 \/ ∃ b M g, va = some ⟨b, 0, none⟩ /\ b < w2.heap.size /\ R.length <= M /\ w2.rowIs b 3 M g /\ ∀ i, i < R.length -> g i = .int .i64 ((R.getD i 0 : Nat) : Int)) := by
  rcases hcase with h | ⟨b, M, g, h1, _, h3, h4, h5, h6⟩
  · exact .inl h
  · exact .inr ⟨b, M, g, h1, h3, h4, h5, h6⟩
 have HB2 : Hid (Below w.heap.size w w2) := B2
 have HK2 : Hid (∀ i, w2.cell? ⟨w.heap.size, i, none⟩ = (#[.slice (some ⟨b, off, none⟩) ws.length cw, .int .i64 smz, .int .i64 toh, .int .i64 top, .bool cyc, .int .i64 sn, .int .i64 old, .int .i64 cpz, .int .i64 sr, .slice ar rs.length cr] : Array Value)[i]?) := k2
 have hRl' : (R.length : Int) <= 1048576 := by omega
 clear hcase b2 B1 B2 k1 k2 hc' hb' HRO HQ HB HC
 go_wp2_with fail
 go_loopw [3, 5, 14] (fun u3 _ u14 wr => ∃ n : Nat, n <= R.length /\ u14 = .int .i64 n /\ u3 = .int .i64 (zb9 ws (R.take n)) /\ Below w2.heap.size w2 wr) (fun _ _ u14 _ => R.length - (intOf u14).toNat)
 case atStart => exact ⟨0, Nat.zero_le _, rfl, rfl, Below.refl _ _⟩
 case round =>
  obtain ⟨n, hnl, rfl, rfl, hF⟩ := hrel
  by_cases hlt : n < R.length
  · have hlt' : (n : Int) < (R.length : Int) := by omega
    obtain ⟨g, M, gg, rfl, hg, hM, hrow, hgg⟩ : ∃ b M g, va = some ⟨b, 0, none⟩ /\ b < w2.heap.size /\ R.length <= M /\ w2.rowIs b 3 M g /\ ∀ i, i < R.length -> g i = .int .i64 ((R.getD i 0 : Nat) : Int) := by
     rcases HCS.out with h | h
     · omega
     · exact h
    obtain ⟨p, hp⟩ : ∃ p, p = R.getD n 0 := ⟨_, rfl⟩
    have hpl : p < ws.length := by rw [hp]; exact HPL.out n hlt
    have cg : wr.cell? ⟨g, n, none⟩ = some (.int .i64 (p : Int)) := by rw [hF.cell (p := ⟨g, n, none⟩) hg, hrow.cell (by omega), hgg n hlt, hp]
    have kr := zd HK2.out hF z2
    have hsb := za2 (za ws p)
    have sb := zj8 ws (R.take n)
    have sl : (R.take n).length <= n := List.length_take_le _ _
    have HSM : Hid (zb9 ws (R.take n) + (rdS (za ws p) + 1) = zb9 ws (R.take (n + 1))) := by
     show _ = _
     rw [List.take_succ_eq_append_getElem hlt]
     have e : R[n] = p := by rw [hp]; simp [hlt]
     rw [e, zk8]
     omega
    obtain ⟨sm, hsm⟩ : ∃ s, s = zb9 ws (R.take n) := ⟨_, rfl⟩
    rw [<- hsm] at sb HSM ⊢
    have sb1 : sm <= 257 * 1048576 := by omega
    have HF : Hid (Below w2.heap.size w2 wr) := hF
    clear hp hrow hgg hsm hF
    go_wp2_with (go_at_call 44; refine (zju _ _ _ _ _ _ _ _ _ _ _ _ _ _ _ p _ rfl (HS.out.below (zb HB2.out HF.out)) hn hw hpl).mono ?_; rintro e w4 ⟨rfl, b4⟩)
    go_roundw
    case rel => exact ⟨n + 1, by omega, by go_num, by rw [<- HSM.out], zb HF.out b4⟩
    case measure => simp [intOf]; omega
  · have hge : (R.length : Int) <= (n : Int) := by omega
    have HSU : Hid (zb9 ws (R.take n) = zb9 ws R) := by show _ = _; rw [List.take_of_length_le (by omega)]
    have HF : Hid (Below w2.heap.size w2 wr) := hF
    clear hF
    go_wp2
    go_ret
    exact ⟨zbs HSU.out, zb HB2.out HF.out⟩
end Go.Proofs.YtglolopfeambfaaGreat
