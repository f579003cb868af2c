/- - -/
import Derived.Test.YtiglkhkfbgjjoaaGreatDoorPLxI
import Derived.Test.YtiglkhkfbgjjoaaGreatDoorPShelf
namespace Go.Proofs.YtiglkhkfbgjjoaaGreatDoor
set_option maxRecDepth 20000
open Go.RowKit Go.PlainAid
set_option linter.unusedSimpArgs false
set_option linter.unusedVariables false
def MkV (w : World) : Prop := 0 < w.heap.size /\ ∀ i, i < 21 -> w.cell? ⟨0, i, none⟩ = some (.string (zaf mkP i))
theorem MkV.below {w w' : World} {B : Nat} (h : MkV w) (hb : Below B w w') (hB : 0 < B) : MkV w' := ⟨Nat.lt_of_lt_of_le h.1 hb.size, fun i hi => by rw [hb.cell (p := ⟨0, i, none⟩) hB]; exact h.2 i hi⟩
theorem zkt {j : Nat} (h : j < 21) : zaf mkP j = mkP[j]'(by simpa [mkP] using h) := by
 unfold zaf
 rw [List.getD_eq_getElem?_getD, List.getElem?_eq_getElem (by simpa [mkP] using h)]
 rfl
theorem zrm : Tryz.prog.underlying 103 = some (.array 21 9) := by kernel_rfl
def zgw (M : Nat -> ByteArray) : Array Value := ((List.range 21).map fun j => Value.string (M j)).toArray
theorem zsx (M : Nat -> ByteArray) {j : Nat} (h : j < 21) : (zgw M)[j]? = some (.string (M j)) := by
 unfold zgw
 simp [h]
theorem zqj (M : Nat -> ByteArray) {j : Nat} (hj : j < 21) (w : World) : (Instr.index 103 (.agg (zgw M)) (.int .i64 (j : Int))).run Tryz.prog w = .ok (.string (M j)) w := by
 have hn : 0 <= (j : Int) /\ (j : Int) < (21 : Nat) := by omega
 have e := zsx M hj
 simp [Instr.index, run_underlying zrm, asIntOf, hn, go_sem, e]
 omega
theorem zo7 : (Tryz.prog.info? 103).map (·.size) = some 21 := by kernel_rfl
theorem zsy (M : Nat -> ByteArray) (w : World) (hc : ∀ i, i < 21 -> w.cell? ⟨0, i, none⟩ = some (.string (M i))) : (Instr.loadAt 103 (.pointer (some ⟨0, 0, none⟩))).run Tryz.prog w = .ok (.agg (zgw M)) w := by
 have hl := run_loadCells (P := Tryz.prog) w ⟨0, 0, none⟩ 21 (fun j => Value.string (M j)) (fun j hj => by rw [Addr.add_lit, Nat.zero_add]; exact hc j hj)
 cases hq : Tryz.prog.info? 103 with
 | none => have := zo7; rw [hq] at this; cases this
 | some i =>
   have hs : i.size = 21 := by have := zo7; rw [hq] at this; simpa using this
   have hagg : (isAgg 103).run Tryz.prog w = .ok true w := by
    unfold isAgg
    rw [Sem.run_bind, run_underlying zrm w]
    simp
   simp [Instr.loadAt, Instr.sureAddr, loadVar, Sem.run_bind, hagg, sizeOf, typeInfo, hq, hs, hl, zgw]
theorem zfb {P : Program} {w : World} {ops : Array Oper} {rest : List Oper} {o : Oper} {a : Act} {Q : Exit -> Act -> World -> Prop} (hgd : o.guard = none) (t : TypeId) (x : Operand) (ho : o.op = .load t x) (v : Value) (hr : (Instr.loadAt t (a.eval x)).run P w = .ok v w) (h : wpList P ops Q rest (a.put o.dst v) w) : wpList P ops Q (o :: rest) a w := by
 refine wpList_plain hgd fun K hK => ?_
 unfold Oper.wp execOp
 simp only [ho, Sem.run_bind, Sem.run_pure, Result.andThen_ok, hr]
 exact hK _ _ h
theorem zu4 (M : Nat -> ByteArray) (p : ByteArray -> Bool) : ∀ (l : List ByteArray) (n : Nat), l.length = n -> (∀ j (h : j < l.length), M j = l[j]) -> ∀ j, j < n -> (∀ k, k < j -> p (M k) = false) -> p (M j) = true -> l.find? p = some (M j) := by
 intro l n hn hM j hj h hp
 rw [List.find?_eq_some_iff_getElem]
 refine ⟨hp, j, by omega, (hM j (by omega)).symm, fun k hk => ?_⟩
 have := h k hk
 rw [hM k (by omega)] at this
 simpa using this
set_option maxHeartbeats 1000000 in
theorem zjl (M : Nat -> ByteArray) (s : ByteArray) (r : Int) (w : World) (hc : ∀ i, i < 21 -> w.cell? ⟨0, i, none⟩ = some (.string (M i))) (hs : ∀ i, i < 21 -> (M i).size <= 2) (h1 : ∀ j, j < 21 -> (∀ k, k < j -> Lib.hasPrefix s.data.toList (M k).data.toList = false) -> Lib.hasPrefix s.data.toList (M j).data.toList = true -> r = ((M j).size : Int)) (h2 : (∀ k, k < 21 -> Lib.hasPrefix s.data.toList (M k).data.toList = false) -> r = 0) :
 Calls Tryz.prog 68 #[.string s] w fun e w' => e = .returned (.int .i64 r) /\ w = w' := by
 have HL := zsy M w hc
 have HI : ∀ (j : Nat) W, j < 21 -> (Instr.index 103 (.agg (zgw M)) (.int .i64 (j : Int))).run Tryz.prog W = .ok (.string (M j)) W := fun j W hj => zqj M hj W
 generalize zgw M = A at HL HI
 have H1 : Hid _ := h1
 have H2 : Hid _ := h2
 have HS : Hid (∀ i, i < 21 -> (M i).size <= 2) := hs
 have HII : Hid _ := HI
 clear hc hs h1 h2 HI
 go_enter Tryz.func68, Tryz.ntmps68
 go_wp2_with (refine zfb rfl _ _ rfl _ HL ?_)
 go_loopw [4, 6] (fun _ q wr => wr = w /\ ∃ j : Nat, q = .int .i64 j /\ j <= 21 /\ Hid (∀ k, k < j -> Lib.hasPrefix s.data.toList (M k).data.toList = false)) (fun _ q _ => 21 - (intOf q).toNat)
 case atStart => exact ⟨rfl, 0, by go_num, by omega, fun k hk => absurd hk (Nat.not_lt_zero _)⟩
 case round =>
  obtain ⟨rfl, j, rfl, hj, hp⟩ := hrel
  by_cases hlt : j < 21
  · have hlt' : (j : Int) < 21 := by omega
    have hi := HII.out j wr hlt
    have hsz := HS.out j hlt
    cases hq : Lib.hasPrefix s.data.toList (M j).data.toList with
    | true =>
      have HRR : Hid (r = ((M j).size : Int)) := H1.out j hlt hp.out hq
      clear H1 H2 HS HII hp
      generalize M j = m at hi hq hsz HRR
      go_wp2_with (go_at_call 56; refine (Tryz.strings_HasPrefix _ _ _).mono ?_; rw [hq]; rintro e w1 ⟨rfl, rfl⟩)
      go_ret
      exact ⟨by rw [HRR.out]; rfl, rfl⟩
    | false =>
      have hp2 : Hid (∀ k, k < j + 1 -> Lib.hasPrefix s.data.toList (M k).data.toList = false) := fun k hk => if e : k = j then e ▸ hq else hp.out k (by omega)
      clear H1 H2 HS HII hp
      generalize M j = m at hi hq hsz
      go_wp2_with (go_at_call 56; refine (Tryz.strings_HasPrefix _ _ _).mono ?_; rw [hq]; rintro e w1 ⟨rfl, rfl⟩)
      go_roundw
      case rel => exact ⟨trivial, j + 1, by go_num, by omega, hp2⟩
      case measure => simp [intOf]; omega
  · have hlt' : ¬ (j : Int) < 21 := by omega
    have hr := H2.out fun k hk => hp.out k (by omega)
    subst hr
    go_wp2
    go_ret
    exact ⟨rfl, rfl⟩
def zag (t : ByteArray) (i : Nat) : Nat := match zbo t i with | some m => m.size | none => 0
theorem zd8 (t : ByteArray) (i : Nat) (w : World) (hi : i <= t.size) (h : MkV w) :
 Calls Tryz.prog 68 #[.string (t.extract i t.size)] w fun e w' => e = .returned (.int .i64 (zag t i : Int)) /\ w = w' := by
 have hf := zqf t i hi
 have hm : ∀ j, j < 21 -> zaf mkP j ∈ mkP := fun j hj => by rw [zkt hj]; exact List.getElem_mem _
 have hsz : ∀ j, j < 21 -> (zaf mkP j).size <= 2 := fun j hj => by
  have : ∀ m ∈ mkP, m.size <= 2 := by decide
  exact this _ (hm j hj)
 refine zjl (zaf mkP) _ _ w h.2 hsz (fun j hj h1 h2 => ?_) (fun h1 => ?_)
 · have e := zu4 (zaf mkP) (fun m => Lib.hasPrefix (t.extract i t.size).data.toList m.data.toList) mkP 21 rfl (fun j hj => zkt (by simpa [mkP] using hj)) j hj h1 h2
   rw [hf] at e
   unfold zag
   rw [e]
 · have e : mkP.find? (fun m => Lib.hasPrefix (t.extract i t.size).data.toList m.data.toList) = none := by
    rw [List.find?_eq_none]
    intro x hx
    obtain ⟨k, hk, rfl⟩ := List.mem_iff_getElem.1 hx
    have hk' : k < 21 := by simpa [mkP] using hk
    have := h1 k hk'
    rw [zkt hk'] at this
    simpa using this
   rw [hf] at e
   unfold zag
   rw [e]
   rfl
set_option maxHeartbeats 1000000 in
theorem zl3 (s : ByteArray) (w : World) (hs : s.size <= 15) (hd : ∀ k, k < s.size -> dgB (bt s k) = true) :
 Calls Tryz.prog 65 #[.string s] w fun e w' => e = .returned (.int .i64 (zad s 0 s.size)) /\ w = w' := by
 have hb := get_bt s
 have hs' : (s.size : Int) <= 15 := by omega
 have HD : Hid (∀ k, k < s.size -> dgB (bt s k) = true) := hd
 clear hd
 go_enter Tryz.func65, Tryz.ntmps65
 go_wp2_with fail
 go_loopw [3, 4, 7] (fun n _ q wr => wr = w /\ ∃ j : Nat, q = .int .i64 j /\ j <= s.size /\ n = .int .i64 (zad s 0 j)) (fun _ _ q _ => s.size - (intOf q).toNat)
 case atStart => exact ⟨rfl, 0, by go_num, by omega, rfl⟩
 case round =>
  obtain ⟨rfl, j, rfl, hj, rfl⟩ := hrel
  by_cases hlt : j < s.size
  · have hlt' : (j : Int) < s.size := by omega
    have h1 := zgg s 0 j fun k hk => by rw [Nat.zero_add]; exact HD.out k (by omega)
    have h2 : 10 ^ j <= 10 ^ 14 := Nat.pow_le_pow_right (by omega) (by omega)
    simp only [Nat.reducePow] at h2
    have hN0 : 0 <= zad s 0 j := h1.1
    have hN1 : zad s 0 j < 100000000000000 := by omega
    have hst : Hid (zad s 0 (j + 1) = zad s 0 j * 10 + (bt s j - 48)) := by show zad s 0 j * 10 + (bt s (0 + j) - 48) = _; rw [Nat.zero_add]
    obtain ⟨d0, d1⟩ := of_decide_eq_true (HD.out j hlt)
    clear h1 h2
    generalize zad s 0 j = N at *
    go_wp2
    go_roundw
    case rel => exact ⟨trivial, j + 1, by go_num, by omega, by rw [hst.out]; congr 1; omega⟩
    case measure => simp [intOf]; omega
  · have hlt' : ¬ (j : Int) < s.size := by omega
    have e : j = s.size := by omega
    subst e
    go_wp2
    go_ret
    exact ⟨rfl, rfl⟩
theorem zbb (t : ByteArray) (a b k : Nat) (hb : b <= t.size) (hk : a + k < b) : bt (t.extract a b) k = bt t (a + k) := by
 have hs : (t.extract a b).size = b - a := by rw [ByteArray.size_extract]; omega
 unfold bt
 rw [dif_pos (by omega), dif_pos (by omega), ByteArray.getElem_extract]
theorem zem (t : ByteArray) (a b : Nat) (hb : b <= t.size) : ∀ k, a + k <= b -> zad (t.extract a b) 0 k = zad t a k
 | 0, _ => rfl
 | k + 1, h => by
   show zad (t.extract a b) 0 k * 10 + (bt (t.extract a b) (0 + k) - 48) = zad t a k * 10 + (bt t (a + k) - 48)
   rw [zem t a b hb k (by omega), Nat.zero_add, zbb t a b k hb (by omega)]
end Go.Proofs.YtiglkhkfbgjjoaaGreatDoor
