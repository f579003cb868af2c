/- The library's names: LibOf of both packages. -/
import Derived.Test.YtekhgakededicaaDoorProg
import Derived.Test.YtekhgakededicaaDoorBRowF
import Derived.Test.YtekhgakededicaaDoorBLxW
import Derived.WalkKit
import Derived.WalkSpells
import Derived.WalkLawsBesides
import Derived.Below
import Derived.Outline
import Derived.Deep.Light
namespace Go.Proofs.YtekhgakededicaaDoor
set_option maxRecDepth 20000
open Go.RowKit
set_option linter.unusedSimpArgs false
set_option linter.unusedVariables false

/-- The library's names, in order. -/
def libP : List ByteArray := [⟨#[112, 114, 105, 110, 116]⟩, ⟨#[116, 111, 115, 116, 114]⟩, ⟨#[116, 121, 112, 101]⟩, ⟨#[110, 101, 120, 116]⟩, ⟨#[112, 99, 97, 108, 108]⟩, ⟨#[101, 114, 114, 111, 114]⟩, ⟨#[102, 97, 105, 108, 101, 100]⟩, ⟨#[99, 111]⟩, ⟨#[114, 101, 115, 117, 109, 101]⟩, ⟨#[121, 105, 101, 108, 100]⟩, ⟨#[115, 116, 97, 116, 101]⟩]
/-- The model's list has an empty text ahead of them. -/
def libQ : List ByteArray := ⟨#[]⟩ :: libP
/-- A name's number: 1 for the first one; 0: it is none of them. -/
def libN (t : ByteArray) : Nat := match libP.findIdx? (fun x => x.toList == t.toList) with
  | some j => j + 1
  | none => 0
theorem libP_at {j : Nat} (h : j < 11) : txAt libP j = libP[j]'(by simpa [libP] using h) := by
  unfold txAt
  rw [List.getD_eq_getElem?_getD, List.getElem?_eq_getElem (by simpa [libP] using h)]
  rfl
theorem libN_yes {t : ByteArray} {j : Nat} (hj : j < 11) (h : ∀ k, k < j → ((txAt libP k).toList == t.toList) = false) (hy : ((txAt libP j).toList == t.toList) = true) : libN t = j + 1 := by
  have hf : libP.findIdx? (fun x => x.toList == t.toList) = some j := by
    rw [List.findIdx?_eq_some_iff_getElem]
    refine ⟨by simpa [libP] using hj, by rw [← libP_at hj]; exact hy, fun k hk => ?_⟩
    have := h k hk
    rw [libP_at (by omega)] at this
    simpa using this
  unfold libN
  rw [hf]
theorem libN_no {t : ByteArray} (h : ∀ k, k < 11 → ((txAt libP k).toList == t.toList) = false) : libN t = 0 := by
  have hf : libP.findIdx? (fun x => x.toList == t.toList) = none := by
    rw [List.findIdx?_eq_none_iff]
    intro x hx
    obtain ⟨p, hp, rfl⟩ := List.mem_iff_getElem.1 hx
    have := h p (by simpa [libP] using hp)
    rw [libP_at (by simpa [libP] using hp)] at this
    simpa using this
  unfold libN
  rw [hf]
/-- The table of names in its variable. -/
def LbV (w : World) : Prop := 0 < w.heap.size ∧ ∀ i, i < 11 → w.cell? ⟨0, i, none⟩ = some (.string (txAt libP i))
theorem LbV.below {w w' : World} {B : Nat} (h : LbV w) (hb : Below B w w') (hB : 0 < B) : LbV w' := ⟨Nat.lt_of_lt_of_le h.1 hb.size, fun i hi => by rw [hb.cell (p := ⟨0, i, none⟩) hB]; exact h.2 i hi⟩
theorem undLb : Tryd.prog.underlying 26 = some (.array 11 9) := by kernel_rfl
def arrL (M : Nat → ByteArray) : Array Value := ((List.range 11).map fun j => Value.string (M j)).toArray
theorem arrL_at (M : Nat → ByteArray) {j : Nat} (h : j < 11) : (arrL M)[j]? = some (.string (M j)) := by
  unfold arrL
  simp [h]
theorem index_lb (M : Nat → ByteArray) {j : Nat} (hj : j < 11) (w : World) : (Instr.index 26 (.agg (arrL M)) (.int .i64 (j : Int))).run Tryd.prog w = .ok (.string (M j)) w := by
  have hn : 0 ≤ (j : Int) ∧ (j : Int) < (11 : Nat) := by omega
  have e := arrL_at M hj
  simp [Instr.index, run_underlying undLb, asIntOf, hn, go_sem, e]
  omega
theorem infoLb : (Tryd.prog.info? 26).map (·.size) = some 11 := by kernel_rfl
theorem load_lb (M : Nat → ByteArray) (w : World) (hc : ∀ i, i < 11 → w.cell? ⟨0, i, none⟩ = some (.string (M i))) : (Instr.loadAt 26 (.pointer (some ⟨0, 0, none⟩))).run Tryd.prog w = .ok (.agg (arrL M)) w := by
  have hl := run_loadCells (P := Tryd.prog) w ⟨0, 0, none⟩ 11 (fun j => Value.string (M j)) (fun j hj => by rw [Addr.add_lit, Nat.zero_add]; exact hc j hj)
  cases hq : Tryd.prog.info? 26 with
  | none => have := infoLb; rw [hq] at this; cases this
  | some i =>
    have hs : i.size = 11 := by have := infoLb; rw [hq] at this; simpa using this
    have hagg : (isAgg 26).run Tryd.prog w = .ok true w := by
      unfold isAgg
      rw [Sem.run_bind, run_underlying undLb w]
      simp
    simp [Instr.loadAt, Instr.sureAddr, loadVar, Sem.run_bind, hagg, sizeOf, typeInfo, hq, hs, hl, arrL]
theorem wpList_load_lb {P : Program} {w : World} {ops : Array Oper} {rest : List Oper} {o : Oper} {a : Act} {Q : Exit → Act → World → Prop} (hgd : o.guard = none) (t : TypeId) (x : Operand) (ho : o.op = .load t x) (v : Value) (hr : (Instr.loadAt t (a.eval x)).run P w = .ok v w) (h : wpList P ops Q rest (a.put o.dst v) w) : wpList P ops Q (o :: rest) a w := by
  refine wpList_plain hgd fun K hK => ?_
  unfold Oper.wp execOp
  simp only [ho, Sem.run_bind, Sem.run_pure, Result.andThen_ok, hr]
  exact hK _ _ h
set_option maxHeartbeats 1000000 in
theorem implLibOf_by (M : Nat → ByteArray) (t : ByteArray) (r : Int) (w : World) (hc : ∀ i, i < 11 → w.cell? ⟨0, i, none⟩ = some (.string (M i))) (h1 : ∀ j, j < 11 → (∀ k, k < j → ((M k).toList == t.toList) = false) → ((M j).toList == t.toList) = true → r = (j : Int) + 1) (h2 : (∀ k, k < 11 → ((M k).toList == t.toList) = false) → r = 0) :
    Calls Tryd.prog 5 #[.string t] w fun e w' => e = .returned (.int .i64 r) ∧ w = w' := by
  have HL := load_lb M w hc
  have HI : ∀ (j : Nat) W, j < 11 → (Instr.index 26 (.agg (arrL M)) (.int .i64 (j : Int))).run Tryd.prog W = .ok (.string (M j)) W := fun j W hj => index_lb M hj W
  generalize arrL M = A at HL HI
  have H1 : Hid _ := h1
  have H2 : Hid _ := h2
  have HII : Hid _ := HI
  clear hc h1 h2 HI
  go_enter Tryd.func5, Tryd.ntmps5
  go_wp2_with (refine wpList_load_lb rfl _ _ rfl _ HL ?_)
  go_loopw [6] (fun q wr => wr = w ∧ ∃ j : Nat, q = .int .i64 j ∧ j ≤ 11 ∧ Hid (∀ k, k < j → ((M k).toList == t.toList) = false)) (fun q _ => 11 - (intOf q).toNat)
  case atStart => exact ⟨rfl, 0, by go_num, by omega, fun k hk => absurd hk (Nat.not_lt_zero _)⟩
  case round =>
    obtain ⟨rfl, j, rfl, hj, hp⟩ := hrel
    by_cases hlt : j < 11
    · have hlt' : (j : Int) < 11 := by omega
      have hi := HII.out j wr hlt
      cases hq : ((M j).toList == t.toList) with
      | true =>
        have HRR : Hid (r = (j : Int) + 1) := H1.out j hlt hp.out hq
        clear H1 H2 HII hp
        generalize M j = m at hi hq
        go_wp2
        go_ret
        exact ⟨by rw [HRR.out]; rfl, rfl⟩
      | false =>
        have hp2 : Hid (∀ k, k < j + 1 → ((M k).toList == t.toList) = false) := fun k hk => if e : k = j then e ▸ hq else hp.out k (by omega)
        clear H1 H2 HII hp
        generalize M j = m at hi hq
        go_wp2
        go_roundw
        case rel => exact ⟨trivial, j + 1, by go_num, by omega, hp2⟩
        case measure => simp [intOf]; omega
    · have hlt' : ¬ (j : Int) < 11 := by omega
      have hr := H2.out fun k hk => hp.out k (by omega)
      subst hr
      go_wp2
      go_ret
      exact ⟨rfl, rfl⟩
theorem implLibOf_at (t : ByteArray) (w : World) (h : LbV w) :
    Calls Tryd.prog 5 #[.string t] w fun e w' => e = .returned (.int .i64 (libN t : Int)) ∧ w = w' :=
  implLibOf_by (txAt libP) t _ w h.2 (fun j hj h1 h2 => by rw [libN_yes hj h1 h2]; omega) (fun h1 => by rw [libN_no h1]; rfl)
theorem l10Libs_at (w : World) :
    Calls Tryd.prog 6 #[] w fun e w' => e = .returned (.slice (some ⟨w.heap.size, 0, none⟩) 12 12) ∧ SlF (w.heap.size + 1) w' (.slice (some ⟨w.heap.size, 0, none⟩) 12 12) 12 12 (fun i => .string (txAt libQ i)) ∧ Below w.heap.size w w' := by
  go_enter Tryd.func6, Tryd.ntmps6
  go_wp2
  go_ret
  refine ⟨rfl, ?_, below_first (Below.refl _ _)⟩
  refine ⟨_, 12, rfl, .inr ⟨w.heap.size, 0, rfl, by omega, by simp, fun i hi => ?_⟩⟩
  rcases i with _ | _ | _ | _ | _ | _ | _ | _ | _ | _ | _ | _ | i
  all_goals first | (simp [go_sem, txAt, libQ, libP]; done) | omega
theorem libQ_at (j : Nat) : txAt libQ (j + 1) = txAt libP j := by simp [txAt, libQ]
set_option maxHeartbeats 1000000 in
theorem specLibOf_at (t : ByteArray) (w : World) :
    Calls Tryd.prog 4 #[.string t] w fun e w' => e = .returned (.int .i64 (libN t : Int)) ∧ Below w.heap.size w w' := by
  go_enter Tryd.func4, Tryd.ntmps4
  go_wp2_with fail
  refine (l10Libs_at _).mono ?_
  rintro e w1 ⟨rfl, s1, b1⟩
  have HS : Hid _ := s1
  obtain ⟨b, off, cap, hv, _, lz, hc⟩ := s1.parts (k := 0) (by omega)
  simp only [Value.slice.injEq, Option.some.injEq, Addr.mk.injEq] at hv
  obtain ⟨⟨rfl, rfl, _⟩, _, rfl⟩ := hv
  have HC : Hid _ := hc
  clear hc s1 HS
  generalize w.heap.size = B at lz HC ⊢
  go_wp2
  go_loopw [4] (fun q wr => wr = w1 ∧ ∃ j : Nat, q = .int .i64 ((j : Int) + 1) ∧ j ≤ 11 ∧ Hid (∀ k, k < j → ((txAt libP k).toList == t.toList) = false)) (fun q _ => 12 - (intOf q).toNat)
  case atStart => exact ⟨rfl, 0, by go_num, by omega, fun k hk => absurd hk (Nat.not_lt_zero _)⟩
  case round =>
    obtain ⟨rfl, j, rfl, hj, hp⟩ := hrel
    by_cases hlt : j < 11
    · have hlt' : (j : Int) < 11 := by omega
      have hi := HC.out (j + 1) (by omega)
      rw [libQ_at, Nat.zero_add] at hi
      cases hq : ((txAt libP j).toList == t.toList) with
      | true =>
        have HRR : Hid (libN t = j + 1) := libN_yes hlt hp.out hq
        clear HC hp
        generalize txAt libP j = m at hi hq
        go_wp2
        go_ret
        exact ⟨by rw [HRR.out]; rfl, b1⟩
      | false =>
        have hp2 : Hid (∀ k, k < j + 1 → ((txAt libP k).toList == t.toList) = false) := fun k hk => if e : k = j then e ▸ hq else hp.out k (by omega)
        clear HC hp
        generalize txAt libP j = m at hi hq
        go_wp2
        go_roundw
        case rel => exact ⟨trivial, j + 1, by go_num, by omega, hp2⟩
        case measure => simp [intOf]; omega
    · have hlt' : ¬ (j : Int) < 11 := by omega
      have HRR : Hid (libN t = 0) := libN_no fun k hk => hp.out k (by omega)
      go_wp2
      go_ret
      exact ⟨by rw [HRR.out]; rfl, b1⟩
end Go.Proofs.YtekhgakededicaaDoor
