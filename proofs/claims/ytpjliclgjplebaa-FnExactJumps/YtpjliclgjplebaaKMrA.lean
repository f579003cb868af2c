/- Rows of pairs and of texts: marked, and found marked. -/
import Derived.Test.YtpjliclgjplebaaKMrT
import Derived.Test.YtpjliclgjplebaaKMdA
import Derived.BigQuiet
import Derived.Deep.RegionHeld3
namespace Go.Proofs.Ytpjliclgjplebaa
set_option maxRecDepth 20000
open Go.RowKit Go.PlainAid
set_option linter.unusedSimpArgs false
set_option linter.unusedVariables false

/-- Blocks bear tags: all that were there but those whose tags are meant are as they were. -/
structure TagK (ow : Nat → Nat) (p : Nat → Prop) (w w' : World) : Prop where
  os : w'.os = w.os
  tape : w'.tape = w.tape
  output : w'.output = w.output
  size : w.heap.size ≤ w'.heap.size
  block : ∀ k, k < w.heap.size → ¬ p (ow k) → w'.heap[k]? = w.heap[k]?
theorem TagK.refl (ow : Nat → Nat) (p : Nat → Prop) (w : World) : TagK ow p w w := ⟨rfl, rfl, rfl, Nat.le_refl _, fun _ _ _ => rfl⟩
theorem TagK.trans {ow : Nat → Nat} {p : Nat → Prop} {a b c : World} (h : TagK ow p a b) (k : TagK ow p b c) : TagK ow p a c := ⟨k.os.trans h.os, k.tape.trans h.tape, k.output.trans h.output, Nat.le_trans h.size k.size, fun j hj hp => (k.block j (Nat.lt_of_lt_of_le hj h.size) hp).trans (h.block j hj hp)⟩
theorem TagK.mono {ow : Nat → Nat} {p q : Nat → Prop} {a b : World} (h : TagK ow p a b) (hq : ∀ t, p t → q t) : TagK ow q a b := ⟨h.os, h.tape, h.output, h.size, fun j hj hp => h.block j hj (fun e => hp (hq _ e))⟩
theorem TagK.of_below {ow : Nat → Nat} {p : Nat → Prop} {a b : World} (h : Below a.heap.size a b) : TagK ow p a b := ⟨h.os, h.tape, h.output, h.size, fun j hj _ => h.block j hj⟩
theorem TagK.set {ow : Nat → Nat} {p : Nat → Prop} {a b : World} (h : TagK ow p a b) {k : Nat} (hk : p (ow k)) (i : Nat) (v : Value) : TagK ow p a (b.setCell ⟨k, i, none⟩ v) := h.trans ⟨rfl, rfl, rfl, by simp [World.setCell], fun j _ hp => Below.heap_setCell _ _ _ _ (by show j ≠ k; intro e; exact hp (e ▸ hk))⟩
/-- A row of m cells under the tag g, from block B on. -/
def RwT (ow : Nat → Nat) (B g : Nat) (t : TypeId) (w : World) (a : Option Addr) (m : Nat) (f : Nat → Value) : Prop :=
  m = 0 ∨ ∃ b M h, a = some ⟨b, 0, none⟩ ∧ ow b = g ∧ B ≤ b ∧ m ≤ M ∧ w.rowIs b t M h ∧ ∀ i, i < m → h i = f i
theorem RwT.kept {ow : Nat → Nat} {B g : Nat} {t : TypeId} {w w' : World} {a : Option Addr} {m : Nat} {f : Nat → Value} {p : Nat → Prop} (h : RwT ow B g t w a m f) (hk : TagK ow p w w') (hp : ¬ p g) : RwT ow B g t w' a m f := by
  rcases h with h | ⟨b, M, h, rfl, e, hB, hm, hr, hf⟩
  · exact .inl h
  · exact .inr ⟨b, M, h, rfl, e, hB, hm, hr.of_block (hk.block _ hr.lt (by rw [e]; exact hp)), hf⟩
theorem RwT.sl {ow : Nat → Nat} {B g : Nat} {t : TypeId} {w : World} {a : Option Addr} {m : Nat} {f : Nat → Value} (h : RwT ow B g t w a m f) (n c : Nat) : SlF w.heap.size w (.slice a n c) n m f := by
  refine ⟨a, c, rfl, ?_⟩
  rcases h with h | ⟨b, M, h, rfl, e, hB, hm, hr, hf⟩
  · exact .inl h
  · exact .inr ⟨b, 0, rfl, hr.lt, hr.lt, fun i hi => by rw [Nat.zero_add, hr.cell (by omega), hf i hi]⟩
/-- The first k cells are marked. -/
def MkT (ow : Nat → Nat) (B g : Nat) (t : TypeId) (w wr : World) (a : Option Addr) (m : Nat) (f u : Nat → Value) (k : Nat) : Prop :=
  TagK ow (· = g) w wr ∧ RwT ow B g t wr a m (fun j => if j < k then u j else f j)
theorem MkT.begin {ow : Nat → Nat} {B g : Nat} {t : TypeId} {w : World} {a : Option Addr} {m : Nat} {f u : Nat → Value} (h : RwT ow B g t w a m f) : MkT ow B g t w w a m f u 0 := by
  refine ⟨TagK.refl _ _ _, ?_⟩
  rcases h with h | ⟨b, M, h, e0, e, hB, hm, hr, hf⟩
  · exact .inl h
  · exact .inr ⟨b, M, h, e0, e, hB, hm, hr, fun i hi => by simp [hf i hi]⟩
theorem MkT.done {ow : Nat → Nat} {B g : Nat} {t : TypeId} {w wr : World} {a : Option Addr} {m : Nat} {f u : Nat → Value} {k : Nat} (h : MkT ow B g t w wr a m f u k) (hk : m ≤ k) : RwT ow B g t wr a m u := by
  rcases h.2 with h | ⟨b, M, h, e0, e, hB, hm, hr, hf⟩
  · exact .inl h
  · exact .inr ⟨b, M, h, e0, e, hB, hm, hr, fun i hi => by rw [hf i hi]; simp [show i < k by omega]⟩
theorem MkT.below {ow : Nat → Nat} {B g : Nat} {t : TypeId} {w wr w' : World} {a : Option Addr} {m : Nat} {f u : Nat → Value} {k : Nat} (h : MkT ow B g t w wr a m f u k) (hb : Below wr.heap.size wr w') : MkT ow B g t w w' a m f u k := by
  refine ⟨h.1.trans (TagK.of_below hb), ?_⟩
  rcases h.2 with h | ⟨b, M, h, e0, e, hB, hm, hr, hf⟩
  · exact .inl h
  · exact .inr ⟨b, M, h, e0, e, hB, hm, hr.of_block (hb.block _ hr.lt), hf⟩
/-- Where the next cell lies. -/
theorem MkT.here {ow : Nat → Nat} {B g : Nat} {t : TypeId} {w wr : World} {a : Option Addr} {m : Nat} {f u : Nat → Value} {k : Nat} (h : MkT ow B g t w wr a m f u k) (hk : k < m) : ∃ b, a = some ⟨b, 0, none⟩ ∧ b < wr.heap.size ∧ (∀ j, k ≤ j → j < m → wr.cell? ⟨b, j, none⟩ = some (f j)) ∧ (∀ j, wr.frozen? ⟨b, j, none⟩ = false) ∧ MkT ow B g t w (wr.setCell ⟨b, k, none⟩ (u k)) a m f u (k + 1) := by
  rcases h.2 with h0 | ⟨b, M, h', rfl, e, hB, hm, hr, hf⟩
  · omega
  · refine ⟨b, rfl, hr.lt, fun j h1 h2 => by rw [hr.cell (by omega), hf j h2]; simp [show ¬ j < k by omega], hr.frozen, h.1.set e _ _, .inr ⟨b, M, _, rfl, e, hB, hm, hr.set k (u k), fun i hi => ?_⟩⟩
    by_cases e2 : i = k
    · subst e2; simp
    · by_cases e3 : i < k
      · simp [e2, e3, hf i hi, show i < k + 1 by omega]
      · simp [e2, e3, hf i hi, show ¬ i < k + 1 by omega]
/-- The marks of a row of pairs: two numbers; a Boolean and a number. -/
def mkI (k0 : Int) : Nat → Value := fun j => .int .i64 (k0 + j)
def mkU (k0 : Int) : Nat → Value := fun j => if j % 2 = 0 then .bool ((k0 + j) % 3 == 0) else .int .i64 (k0 + j)
set_option maxHeartbeats 1000000 in
theorem markInsS_at (ow : Nat → Nat) (B g : Nat) (a : Option Addr) (n c : Nat) (pp qq : Nat → Int) (k0 : Int) (w : World) (h : RwT ow B g 42 w a (2 * n) (inF pp qq)) (hn : (n : Int) ≤ 1048576) (hk0 : 0 ≤ k0) (hk1 : k0 ≤ 9000000) :
    Calls Try.prog 26 #[.slice a n c, .int .i64 k0] w fun e w' => e = .returned (.int .i64 (k0 + 2 * n)) ∧ RwT ow B g 42 w' a (2 * n) (mkI k0) ∧ TagK ow (· = g) w w' := by
  have hst : MkT ow B g 42 w w a (2 * n) (inF pp qq) (mkI k0) 0 := MkT.begin h
  have HS : Hid (MkT ow B g 42 w w a (2 * n) (inF pp qq) (mkI k0) 0) := hst
  clear h hst
  go_enter Try.func26, Try.ntmps26
  go_wp2
  go_loopw [1, 5] (fun q i wr => ∃ k : Nat, k ≤ n ∧ i = .int .i64 k ∧ q = .int .i64 (k0 + 2 * k) ∧ Hid (MkT ow B g 42 w wr a (2 * n) (inF pp qq) (mkI k0) (k * 2))) (fun _ i _ => n - (intOf i).toNat)
  case atStart => exact ⟨0, Nat.zero_le _, rfl, by simp, HS.out⟩
  case round =>
    obtain ⟨k, hk, rfl, rfl, HR⟩ := hrel
    by_cases hlt : k < n
    · have hlt' : (k : Int) < (n : Int) := by omega
      obtain ⟨b, rfl, lb, hc, hf, h1⟩ := HR.out.here (by omega)
      obtain ⟨b', e', _, _, _, h2⟩ := h1.here (by omega)
      injection e' with e'
      injection e' with e'
      subst e'
      have q1 : wr.cell? ⟨b, k * 2, none⟩ = some (.int .i64 (pp k)) := (hc (k * 2) (by omega) (by omega)).trans (by rw [inF_a])
      have q2 : wr.cell? ⟨b, k * 2 + 1, none⟩ = some (.int .i64 (qq k)) := (hc (k * 2 + 1) (by omega) (by omega)).trans (by rw [inF_b])
      have f1 := hf (k * 2)
      have f2 := hf (k * 2 + 1)
      have e1 : mkI k0 (k * 2) = .int .i64 (k0 + 2 * k) := by show Value.int .i64 (k0 + ((k * 2 : Nat) : Int)) = _; rw [show k0 + ((k * 2 : Nat) : Int) = k0 + 2 * k by omega]
      have e2 : mkI k0 (k * 2 + 1) = .int .i64 (k0 + 2 * k + 1) := by show Value.int .i64 (k0 + ((k * 2 + 1 : Nat) : Int)) = _; rw [show k0 + ((k * 2 + 1 : Nat) : Int) = k0 + 2 * k + 1 by omega]
      rw [e1, e2] at h2
      have HN : Hid (MkT ow B g 42 w _ _ (2 * n) (inF pp qq) (mkI k0) (k * 2 + 1 + 1)) := h2
      clear h1 h2 hc hf e1 e2 HR HS
      go_wp2
      go_roundw
      case rel => exact ⟨k + 1, by omega, by go_num, by go_num, by have := HN.out; rw [show (k + 1) * 2 = k * 2 + 1 + 1 by omega]; exact this⟩
      case measure => simp [intOf]; omega
    · have hge : (n : Int) ≤ (k : Int) := by omega
      obtain rfl : k = n := by omega
      go_wp2
      go_ret
      exact ⟨rfl, HR.out.done (by omega), HR.out.1⟩
set_option maxHeartbeats 1000000 in
theorem markUpS_at (ow : Nat → Nat) (B g : Nat) (a : Option Addr) (n c : Nat) (pp : Nat → Bool) (qq : Nat → Int) (k0 : Int) (w : World) (h : RwT ow B g 59 w a (2 * n) (upF pp qq)) (hn : (n : Int) ≤ 1048576) (hk0 : 0 ≤ k0) (hk1 : k0 ≤ 9000000) :
    Calls Try.prog 25 #[.slice a n c, .int .i64 k0] w fun e w' => e = .returned (.int .i64 (k0 + 2 * n)) ∧ RwT ow B g 59 w' a (2 * n) (mkU k0) ∧ TagK ow (· = g) w w' := by
  have hst : MkT ow B g 59 w w a (2 * n) (upF pp qq) (mkU k0) 0 := MkT.begin h
  have HS : Hid (MkT ow B g 59 w w a (2 * n) (upF pp qq) (mkU k0) 0) := hst
  clear h hst
  go_enter Try.func25, Try.ntmps25
  go_wp2
  go_loopw [1, 5] (fun q i wr => ∃ k : Nat, k ≤ n ∧ i = .int .i64 k ∧ q = .int .i64 (k0 + 2 * k) ∧ Hid (MkT ow B g 59 w wr a (2 * n) (upF pp qq) (mkU k0) (k * 2))) (fun _ i _ => n - (intOf i).toNat)
  case atStart => exact ⟨0, Nat.zero_le _, rfl, by simp, HS.out⟩
  case round =>
    obtain ⟨k, hk, rfl, rfl, HR⟩ := hrel
    by_cases hlt : k < n
    · have hlt' : (k : Int) < (n : Int) := by omega
      obtain ⟨b, rfl, lb, hc, hf, h1⟩ := HR.out.here (by omega)
      obtain ⟨b', e', _, _, _, h2⟩ := h1.here (by omega)
      injection e' with e'
      injection e' with e'
      subst e'
      have q1 : wr.cell? ⟨b, k * 2, none⟩ = some (.bool (pp k)) := (hc (k * 2) (by omega) (by omega)).trans (by rw [upF_a])
      have q2 : wr.cell? ⟨b, k * 2 + 1, none⟩ = some (.int .i64 (qq k)) := (hc (k * 2 + 1) (by omega) (by omega)).trans (by rw [upF_b])
      have f1 := hf (k * 2)
      have f2 := hf (k * 2 + 1)
      have e1 : mkU k0 (k * 2) = .bool ((k0 + 2 * (k : Int)) % 3 == 0) := by unfold mkU; rw [if_pos (by omega), show k0 + ((k * 2 : Nat) : Int) = k0 + 2 * k by omega]
      have e2 : mkU k0 (k * 2 + 1) = .int .i64 (k0 + 2 * k + 1) := by unfold mkU; rw [if_neg (by omega), show k0 + ((k * 2 + 1 : Nat) : Int) = k0 + 2 * k + 1 by omega]
      rw [e1, e2] at h2
      have HN : Hid (MkT ow B g 59 w _ _ (2 * n) (upF pp qq) (mkU k0) (k * 2 + 1 + 1)) := h2
      clear h1 h2 hc hf e1 e2 HR HS
      have hmd : (k0 + 2 * (k : Int)).tmod 3 = (k0 + 2 * (k : Int)) % 3 := Int.tmod_eq_emod_of_nonneg (by omega)
      go_wp2
      go_roundw
      case rel => exact ⟨k + 1, by omega, by go_num, by go_num, by have := HN.out; rw [show (k + 1) * 2 = k * 2 + 1 + 1 by omega]; exact this⟩
      case measure => simp [intOf]; omega
    · have hge : (n : Int) ≤ (k : Int) := by omega
      obtain rfl : k = n := by omega
      go_wp2
      go_ret
      exact ⟨rfl, HR.out.done (by omega), HR.out.1⟩
end Go.Proofs.Ytpjliclgjplebaa
