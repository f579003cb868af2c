/- The nodes that Parse has made, as a tree that is read; the twelve texts, and what is read of them. -/
import Derived.Test.YtiglkhkfbgjjoaaDoorProg
import Derived.Test.YtiglkhkfbgjjoaaDoorBPbO
import Derived.Test.YtiglkhkfbgjjoaaDoorBTrC
namespace Go.Proofs.YtiglkhkfbgjjoaaDoor
set_option maxRecDepth 20000
open Go.RowKit Go.PlainAid Go.Maps
set_option linter.unusedSimpArgs false
set_option linter.unusedVariables false

theorem knC_at : ∀ {xs : List KnL} {vs : List Value}, xs.length = vs.length → ∀ (i : Nat) (x : KnL) (u : Value), xs[i]? = some x → vs[i]? = some u → (knC xs vs)[i * 4]? = some (.int .i64 x.k) ∧ (knC xs vs)[i * 4 + 1]? = some (.string x.t) ∧ (knC xs vs)[i * 4 + 2]? = some (.int .i64 x.i) ∧ (knC xs vs)[i * 4 + 3]? = some u
  | [], _, _, i, x, u, h1, _ => by simp at h1
  | a :: xs, [], h, _, _, _, _, _ => by simp at h
  | a :: xs, b :: vs, h, 0, x, u, h1, h2 => by
    simp at h1 h2
    subst h1 h2
    simp [knC]
  | a :: xs, b :: vs, h, i + 1, x, u, h1, h2 => by
    have := knC_at (xs := xs) (vs := vs) (by simpa using h) i x u (by simpa using h1) (by simpa using h2)
    have e : (i + 1) * 4 = i * 4 + 1 + 1 + 1 + 1 := by omega
    rw [e]
    simpa [knC] using this
def knd (x : KnL) : KnD := ⟨x.k, x.t, x.i, x.ks.length, fun j => x.ks.getD j 0⟩
def kz : KnL := ⟨0, eT, 0, []⟩
theorem NdR.knF {B : Nat} {w : World} {v : Value} {ns : List KnL} {kv : List Value} (h : NdR B w v ns kv) : KnF w.heap.size w v ns.length (fun i => knd (ns.getD i kz)) := by
  have ho := h.own
  obtain ⟨a, c, rfl⟩ := h.form
  refine ⟨a, c, rfl, ?_⟩
  by_cases h0 : ns.length = 0
  · exact .inl h0
  obtain ⟨_, ⟨e1, e2⟩ | ⟨g, cap, cur, e1, hg, hc, _⟩⟩ := ho
  · exact absurd e2 h0
  have lg : g < w.heap.size := by
    rcases Nat.lt_or_ge g w.heap.size with h | h
    · exact h
    · rw [Array.getElem?_eq_none h] at hc; cases hc
  injection e1 with e1 _ e3
  subst e1 e3
  refine .inr ⟨g, 0, rfl, lg, lg, fun i hi => ?_⟩
  have hx : ns[i]? = some ns[i] := List.getElem?_eq_getElem hi
  have hi' : i < kv.length := by rw [← h.len]; exact hi
  have hu : kv[i]? = some kv[i] := List.getElem?_eq_getElem hi'
  obtain ⟨k0, k1, k2, k3⟩ := knC_at h.len i _ _ hx hu
  have hk := h.kid i _ _ hx hu
  have hs := hk.sl
  obtain ⟨a', c', hf⟩ := hk.form
  have hq : ns.getD i kz = ns[i] := by rw [List.getD_eq_getElem?_getD, hx]; rfl
  simp only [hq]
  generalize kv[i] = u at k3 hf hs
  subst hf
  have cl := fun j (hj : j < ns.length * 4) => World.ownsRow.cellAt h.own j hj
  refine ⟨a', c', ?_, ?_, ?_, ?_, hs⟩
  · rw [Nat.zero_add, cl _ (by omega)]; exact k0
  · rw [Nat.zero_add, cl _ (by omega)]; exact k1
  · rw [Nat.zero_add, cl _ (by omega)]; exact k2
  · rw [Nat.zero_add, cl _ (by omega)]; exact k3
/-- The text is read: its tree. -/
def PK (t : ByteArray) (n : Int) (ns : List KnL) : Prop := t.size ≤ 1048576 ∧ (lexR t).1 = 0 ∧ topP (lexR t).2.2 t.size = .ok (n, ns)
def okL (r : Except (Int × Int) (Int × List KnL)) : Bool := match r with
  | .error _ => false
  | .ok (_, ns) => decide (5 < ns.length) && decide (ns.length ≤ 1000) && ns.all (fun x => decide (x.ks.length ≤ 1000))
theorem pk_of {t u : ByteArray} (h1 : decide (t.size ≤ 1048576) = true) (h2 : decide (u.size ≤ 1048576) = true) (h3 : (lexR t).1 = 0) (h4 : (lexR u).1 = 0) (h5 : okL (topP (lexR t).2.2 t.size) = true) (h6 : topP (lexR u).2.2 u.size = topP (lexR t).2.2 t.size) : ∃ n ns, PK t n ns ∧ PK u n ns ∧ 5 < ns.length ∧ ns.length ≤ 1000 ∧ ∀ j, j < ns.length → (knd (ns.getD j kz)).len ≤ 1048576 := by
  rcases e : topP (lexR t).2.2 t.size with ⟨x⟩ | ⟨n, ns⟩
  · rw [e] at h5; cases h5
  · rw [e] at h5
    simp only [okL, Bool.and_eq_true, decide_eq_true_eq, List.all_eq_true] at h5
    refine ⟨n, ns, ⟨of_decide_eq_true h1, h3, e⟩, ⟨of_decide_eq_true h2, h4, h6.trans e⟩, h5.1.1, h5.1.2, fun j hj => ?_⟩
    rw [List.getD_eq_getElem?_getD, List.getElem?_eq_getElem hj]
    have := h5.2 ns[j] (List.getElem_mem _)
    show ns[j].ks.length ≤ 1048576
    omega
def txP (s : ByteArray) : ByteArray := ⟨#[108, 111, 99, 97, 108, 32, 122, 32, 61, 32]⟩ ++ s ++ ⟨#[59]⟩
theorem pk0 : ∃ n ns, PK (txP ⟨#[97, 32, 111, 114, 32, 98, 32, 97, 110, 100, 32, 99, 32, 61, 61, 32, 100, 32, 46, 46, 32, 101, 32, 43, 32, 102, 32, 42, 32, 45, 32, 103]⟩) n ns ∧ PK (txP ⟨#[40, 97, 32, 111, 114, 32, 40, 98, 32, 97, 110, 100, 32, 40, 99, 32, 61, 61, 32, 40, 100, 32, 46, 46, 32, 40, 101, 32, 43, 32, 40, 102, 32, 42, 32, 40, 45, 32, 103, 41, 41, 41, 41, 41, 41, 41]⟩) n ns ∧ 5 < ns.length ∧ ns.length ≤ 1000 ∧ ∀ j, j < ns.length → (knd (ns.getD j kz)).len ≤ 1048576 := pk_of (by kernel_rfl) (by kernel_rfl) (by kernel_rfl) (by kernel_rfl) (by kernel_rfl) (by kernel_rfl)
theorem pk1 : ∃ n ns, PK (txP ⟨#[97, 32, 45, 32, 98, 32, 45, 32, 99]⟩) n ns ∧ PK (txP ⟨#[40, 40, 97, 32, 45, 32, 98, 41, 32, 45, 32, 99, 41]⟩) n ns ∧ 5 < ns.length ∧ ns.length ≤ 1000 ∧ ∀ j, j < ns.length → (knd (ns.getD j kz)).len ≤ 1048576 := pk_of (by kernel_rfl) (by kernel_rfl) (by kernel_rfl) (by kernel_rfl) (by kernel_rfl) (by kernel_rfl)
theorem pk2 : ∃ n ns, PK (txP ⟨#[97, 32, 46, 46, 32, 98, 32, 46, 46, 32, 99]⟩) n ns ∧ PK (txP ⟨#[40, 40, 97, 32, 46, 46, 32, 98, 41, 32, 46, 46, 32, 99, 41]⟩) n ns ∧ 5 < ns.length ∧ ns.length ≤ 1000 ∧ ∀ j, j < ns.length → (knd (ns.getD j kz)).len ≤ 1048576 := pk_of (by kernel_rfl) (by kernel_rfl) (by kernel_rfl) (by kernel_rfl) (by kernel_rfl) (by kernel_rfl)
theorem pk3 : ∃ n ns, PK (txP ⟨#[110, 111, 116, 32, 97, 32, 61, 61, 32, 35, 32, 98]⟩) n ns ∧ PK (txP ⟨#[40, 40, 110, 111, 116, 32, 97, 41, 32, 61, 61, 32, 40, 35, 32, 98, 41, 41]⟩) n ns ∧ 5 < ns.length ∧ ns.length ≤ 1000 ∧ ∀ j, j < ns.length → (knd (ns.getD j kz)).len ≤ 1048576 := pk_of (by kernel_rfl) (by kernel_rfl) (by kernel_rfl) (by kernel_rfl) (by kernel_rfl) (by kernel_rfl)
theorem pk4 : ∃ n ns, PK (txP ⟨#[45, 32, 97, 46, 98, 91, 49, 93, 40, 99, 41, 32, 42, 32, 100]⟩) n ns ∧ PK (txP ⟨#[40, 40, 45, 32, 40, 40, 40, 97, 46, 98, 41, 91, 49, 93, 41, 40, 99, 41, 41, 41, 32, 42, 32, 100, 41]⟩) n ns ∧ 5 < ns.length ∧ ns.length ≤ 1000 ∧ ∀ j, j < ns.length → (knd (ns.getD j kz)).len ≤ 1048576 := pk_of (by kernel_rfl) (by kernel_rfl) (by kernel_rfl) (by kernel_rfl) (by kernel_rfl) (by kernel_rfl)
theorem pk5 : ∃ n ns, PK (txP ⟨#[97, 32, 97, 110, 100, 32, 98, 32, 111, 114, 32, 99, 32, 97, 110, 100, 32, 100]⟩) n ns ∧ PK (txP ⟨#[40, 40, 97, 32, 97, 110, 100, 32, 98, 41, 32, 111, 114, 32, 40, 99, 32, 97, 110, 100, 32, 100, 41, 41]⟩) n ns ∧ 5 < ns.length ∧ ns.length ≤ 1000 ∧ ∀ j, j < ns.length → (knd (ns.getD j kz)).len ≤ 1048576 := pk_of (by kernel_rfl) (by kernel_rfl) (by kernel_rfl) (by kernel_rfl) (by kernel_rfl) (by kernel_rfl)
def txE : ByteArray := ⟨#[108, 111, 99, 97, 108, 32, 122, 32, 61, 32, 97, 32, 60, 32, 98, 32, 60, 32, 99, 59]⟩
def erC (r : Except (Int × Int) (Int × List KnL)) : Option (Int × Int) := match r with
  | .error x => some x
  | .ok _ => none
theorem pkE : txE.size ≤ 1048576 ∧ (lexR txE).1 = 0 ∧ ∃ x : Int × Int, topP (lexR txE).2.2 txE.size = .error x ∧ x.1 = 2 := by
  have h1 : decide (txE.size ≤ 1048576) = true := by kernel_rfl
  have h2 : (lexR txE).1 = 0 := by kernel_rfl
  have h3 : (erC (topP (lexR txE).2.2 txE.size)).map (·.1) = some 2 := by kernel_rfl
  refine ⟨of_decide_eq_true h1, h2, ?_⟩
  rcases e : topP (lexR txE).2.2 txE.size with ⟨x⟩ | ⟨n, ns⟩
  · rw [e] at h3
    exact ⟨x, rfl, by simpa [erC] using h3⟩
  · rw [e] at h3; cases h3
theorem same_tree (n : Int) (ns : List KnL) : TEq ns.length ns.length n n (fun i => knd (ns.getD i kz)) (fun i => knd (ns.getD i kz)) := ⟨rfl, rfl, fun i hi => ⟨rfl, by simp, rfl, rfl, fun _ _ => rfl⟩⟩
end Go.Proofs.YtiglkhkfbgjjoaaDoor

/- The walk of FnBinds. -/
namespace Go.Proofs.YtiglkhkfbgjjoaaDoor
set_option maxRecDepth 20000
open Go.RowKit Go.PlainAid Go.Maps
set_option linter.unusedSimpArgs false
set_option linter.unusedVariables false

theorem bigBn (a : Option Addr) (n cap : Nat) (w : World) :
    Calls Tryd.prog 13 #[.slice a n cap] w fun e w' => e = .returned (.bool (decide ((1048576 : Int) < n))) ∧ w' = w := by
  go_enter Tryd.func13, Tryd.ntmps13
  go_wp2
  go_ret
  exact ⟨rfl, rfl⟩
theorem atBn (a : Option Addr) (n cap : Nat) (w : World) (hn : n ≤ 1048576) (h : n = 0 ∨ ∃ bb off x, a = some ⟨bb, off, none⟩ ∧ bb < w.heap.size ∧ w.cell? ⟨bb, off, none⟩ = some (.int .u8 x) ∧ 0 ≤ x ∧ x ≤ 255) :
    Calls Tryd.prog 20 #[.slice a n cap, .int .i64 0] w fun e w' => ∃ z : Nat, e = .returned (.int .i64 (z : Int)) ∧ w' = w := by
  by_cases h0 : n = 0
  · subst h0
    go_enter Tryd.func20, Tryd.ntmps20
    go_wp2
    go_ret
    first | exact ⟨0, rfl, rfl⟩ | exact ⟨⟨0, rfl⟩, rfl⟩ | exact ⟨⟨0, rfl⟩, trivial⟩
  · obtain h | ⟨bb, off, x, rfl, hb, hc, x0, x1⟩ := h
    · exact absurd h h0
    have h0' : (0 : Int) < (n : Int) := by omega
    obtain ⟨z, rfl⟩ := Int.eq_ofNat_of_zero_le x0
    go_enter Tryd.func20, Tryd.ntmps20
    go_wp2
    go_ret
    first | exact ⟨z, rfl, rfl⟩ | exact ⟨⟨z, rfl⟩, rfl⟩ | exact ⟨⟨z, rfl⟩, trivial⟩
theorem MkV.up {w w' : World} {B : Nat} (h : MkV w) (hb : Below B w w') (hB : 0 < B) : MkV w' := h.below hb hB
set_option maxHeartbeats 4000000 in
theorem binds_small (a : Option Addr) (n cap : Nat) (w : World) (hn : n ≤ 1048576) (h : n = 0 ∨ ∃ bb off x, a = some ⟨bb, off, none⟩ ∧ bb < w.heap.size ∧ w.cell? ⟨bb, off, none⟩ = some (.int .u8 x) ∧ 0 ≤ x ∧ x ≤ 255) (hM : MkV w) (hTb : TabR w.heap.size w) :
    Calls Tryd.prog 6 #[.slice a n cap] w fun e w' => e = .returned (.bool true) ∧ Below w.heap.size w w' := by
  have HAT : Hid (∀ W, Below w.heap.size w W → _) := fun W (hW : Below w.heap.size w W) => atBn a n cap W hn (by
    rcases h with h | ⟨bb, off, x, e1, e2, e3, e4⟩
    · exact .inl h
    · exact .inr ⟨bb, off, x, e1, Nat.lt_of_lt_of_le e2 hW.size, by rw [hW.cell (p := ⟨bb, off, none⟩) e2]; exact e3, e4⟩)
  have HYES : Hid (∀ (t : ByteArray) (m : Int) (ns : List KnL) W, PK t m ns → Below w.heap.size w W → _) := fun t m ns W (hp : PK t m ns) (hW : Below w.heap.size w W) => parse_yes t W hp.1 (hM.up hW hM.1) (hTb.up hW hW.size) hp.2.1 m ns hp.2.2
  have HNO : Hid (∀ W, Below w.heap.size w W → _) := fun W (hW : Below w.heap.size w W) => parse_no txE W pkE.1 (hM.up hW hM.1) (hTb.up hW hW.size) pkE.2.1 _ pkE.2.2.choose_spec.1
  rw [pkE.2.2.choose_spec.2] at HNO
  have HB : Hid (∀ W, Calls Tryd.prog 13 #[.slice a n cap] W fun e w' => e = .returned (.bool false) ∧ w' = W) := fun W => (bigBn a n cap W).mono fun e w' ⟨h1, h2⟩ => ⟨by rw [h1, decide_eq_false (by omega)], h2⟩
  clear h hM hTb
  go_enter Tryd.func6, Tryd.ntmps6
  go_wp2_with fail
  refine (HB.out _).mono ?_
  rintro e w0 ⟨rfl, h0⟩
  rw [h0]
  clear h0 w0
  go_wp2_with fail
  refine (HAT.out _ ((Below.refl _ _).alloc (Nat.le_refl _) _)).mono ?_
  rintro e w0 ⟨z, rfl, h0⟩
  rw [h0]
  clear h0 w0
  have ht : Int.tmod (z : Int) 6 = ((z % 6 : Nat) : Int) := by rw [Int.tmod_eq_emod_of_nonneg (by omega)]; omega
  generalize hk : z % 6 = k at ht
  have hk6 : k < 6 := by omega
  clear hk
  obtain rfl | rfl | rfl | rfl | rfl | rfl : k = 0 ∨ k = 1 ∨ k = 2 ∨ k = 3 ∨ k = 4 ∨ k = 5 := by omega
  · obtain ⟨m, ns, p1, p2, l1, l2, l3⟩ := pk0
    have HP1 : Hid (PK _ m ns) := p1
    have HP2 : Hid (PK _ m ns) := p2
    have l1' : 5 < (ns.length : Int) := by omega
    have l2' : (ns.length : Int) ≤ 1000 := by omega
    have HL3 : Hid (∀ j, j < ns.length → (knd (ns.getD j kz)).len ≤ 1048576) := l3
    clear p1 p2 l3
    go_wp2_with fail
    obtain ⟨W0, hW0⟩ : ∃ W, W = w.alloc (.cells #[.string ⟨#[97, 32, 111, 114, 32, 98, 32, 97, 110, 100, 32, 99, 32, 61, 61, 32, 100, 32, 46, 46, 32, 101, 32, 43, 32, 102, 32, 42, 32, 45, 32, 103]⟩, .string ⟨#[40, 97, 32, 111, 114, 32, 40, 98, 32, 97, 110, 100, 32, 40, 99, 32, 61, 61, 32, 40, 100, 32, 46, 46, 32, 40, 101, 32, 43, 32, 40, 102, 32, 42, 32, 40, 45, 32, 103, 41, 41, 41, 41, 41, 41, 41]⟩, .string ⟨#[97, 32, 45, 32, 98, 32, 45, 32, 99]⟩, .string ⟨#[40, 40, 97, 32, 45, 32, 98, 41, 32, 45, 32, 99, 41]⟩, .string ⟨#[97, 32, 46, 46, 32, 98, 32, 46, 46, 32, 99]⟩, .string ⟨#[40, 40, 97, 32, 46, 46, 32, 98, 41, 32, 46, 46, 32, 99, 41]⟩, .string ⟨#[110, 111, 116, 32, 97, 32, 61, 61, 32, 35, 32, 98]⟩, .string ⟨#[40, 40, 110, 111, 116, 32, 97, 41, 32, 61, 61, 32, 40, 35, 32, 98, 41, 41]⟩, .string ⟨#[45, 32, 97, 46, 98, 91, 49, 93, 40, 99, 41, 32, 42, 32, 100]⟩, .string ⟨#[40, 40, 45, 32, 40, 40, 40, 97, 46, 98, 41, 91, 49, 93, 41, 40, 99, 41, 41, 41, 32, 42, 32, 100, 41]⟩, .string ⟨#[97, 32, 97, 110, 100, 32, 98, 32, 111, 114, 32, 99, 32, 97, 110, 100, 32, 100]⟩, .string ⟨#[40, 40, 97, 32, 97, 110, 100, 32, 98, 41, 32, 111, 114, 32, 40, 99, 32, 97, 110, 100, 32, 100, 41, 41]⟩] 9) := ⟨_, rfl⟩
    have B0 : Below w.heap.size w W0 := by rw [hW0]; exact (Below.refl _ _).alloc (Nat.le_refl _) _
    have q0 : W0.cell? ⟨w.heap.size, 1, none⟩ = some (.string ⟨#[40, 97, 32, 111, 114, 32, 40, 98, 32, 97, 110, 100, 32, 40, 99, 32, 61, 61, 32, 40, 100, 32, 46, 46, 32, 40, 101, 32, 43, 32, 40, 102, 32, 42, 32, 40, 45, 32, 103, 41, 41, 41, 41, 41, 41, 41]⟩) := by rw [hW0]; simp [go_sem]
    have z0 : w.heap.size < W0.heap.size := by rw [hW0]; simp
    rw [← hW0]
    clear hW0
    refine (HYES.out _ m ns _ HP1.out B0).mono ?_
    rintro e w1 ⟨v1, kv1, rfl, n1, b1⟩
    have B1 := below_next B0 b1
    have q1 : w1.cell? ⟨w.heap.size, 1, none⟩ = some (.string ⟨#[40, 97, 32, 111, 114, 32, 40, 98, 32, 97, 110, 100, 32, 40, 99, 32, 61, 61, 32, 40, 100, 32, 46, 46, 32, 40, 101, 32, 43, 32, 40, 102, 32, 42, 32, 40, 45, 32, 103, 41, 41, 41, 41, 41, 41, 41]⟩) := by rw [(bcell b1).1 _ _ z0]; exact q0
    have z1 : w.heap.size < w1.heap.size := Nat.lt_of_lt_of_le z0 b1.size
    obtain ⟨a1, c1, rfl⟩ := n1.form
    have N1 : Hid (KnF w1.heap.size w1 (.slice a1 ns.length c1) ns.length (fun i => knd (ns.getD i kz))) := n1.knF
    clear b1 q0 z0 n1 B0
    go_wp2_with fail
    obtain ⟨W1, hW1⟩ : ∃ W, W = w1.alloc (.cells #[.slice a1 ns.length c1, .int .i64 m] 41) := ⟨_, rfl⟩
    have bW1 : Below w1.heap.size w1 W1 := by rw [hW1]; exact (Below.refl _ _).alloc (Nat.le_refl _) _
    have k1 : ∀ i, W1.cell? ⟨w1.heap.size, i, none⟩ = (#[.slice a1 ns.length c1, .int .i64 m] : Array Value)[i]? := fun i => by rw [hW1]; simp [go_sem]
    have z2 : w1.heap.size < W1.heap.size := by rw [hW1]; simp
    rw [← hW1]
    clear hW1
    refine (HYES.out _ m ns _ HP2.out (below_next B1 bW1)).mono ?_
    rintro e w2 ⟨v2, kv2, rfl, n2, b2⟩
    have B2 := below_next (below_next B1 bW1) b2
    have k2 : ∀ i, w2.cell? ⟨w1.heap.size, i, none⟩ = (#[.slice a1 ns.length c1, .int .i64 m] : Array Value)[i]? := fun i => by rw [(bcell b2).1 _ _ z2]; exact k1 i
    have z3 : w1.heap.size < w2.heap.size := Nat.lt_of_lt_of_le z2 b2.size
    obtain ⟨a2, c2, rfl⟩ := n2.form
    have N2 : Hid (KnF w2.heap.size w2 (.slice a2 ns.length c2) ns.length (fun i => knd (ns.getD i kz))) := n2.knF
    have N12 : Hid (KnF w2.heap.size w2 (.slice a1 ns.length c1) ns.length (fun i => knd (ns.getD i kz))) := (((N1.out.below bW1 (Nat.le_refl _)).mono bW1.size).below b2 (Nat.le_refl _)).mono b2.size
    clear b2 q1 z1 n2 k1 z2 bW1 B1 N1
    go_wp2_with fail
    obtain ⟨W2, hW2⟩ : ∃ W, W = w2.alloc (.cells #[.slice a2 ns.length c2, .int .i64 m] 41) := ⟨_, rfl⟩
    have bW2 : Below w2.heap.size w2 W2 := by rw [hW2]; exact (Below.refl _ _).alloc (Nat.le_refl _) _
    have j2 : ∀ i, W2.cell? ⟨w2.heap.size, i, none⟩ = (#[.slice a2 ns.length c2, .int .i64 m] : Array Value)[i]? := fun i => by rw [hW2]; simp [go_sem]
    have z4 : w2.heap.size < W2.heap.size := by rw [hW2]; simp
    rw [← hW2]
    clear hW2
    refine (HNO.out _ (below_next B2 bW2)).mono ?_
    rintro e w3 ⟨rfl, b3⟩
    have bb := below_next (w := w2) bW2 b3
    have B3 := below_next B2 bb
    have k3 : ∀ i, w3.cell? ⟨w1.heap.size, i, none⟩ = (#[.slice a1 ns.length c1, .int .i64 m] : Array Value)[i]? := fun i => by rw [(bcell bb).1 _ _ z3]; exact k2 i
    have j3 : ∀ i, w3.cell? ⟨w2.heap.size, i, none⟩ = (#[.slice a2 ns.length c2, .int .i64 m] : Array Value)[i]? := fun i => by rw [(bcell b3).1 _ _ z4]; exact j2 i
    have z5 : w2.heap.size < w3.heap.size := Nat.lt_of_lt_of_le z4 b3.size
    have z6 : w1.heap.size < w3.heap.size := Nat.lt_trans z3 z5
    have zn : w1.heap.size ≠ w2.heap.size := by omega
    have bE : Below w3.heap.size w3 (w3.alloc (.cells #[.slice none 0 0, .int .i64 0] 41)) := (Below.refl _ _).alloc (Nat.le_refl _) _
    have bb2 := below_next (w := w2) bb bE
    have HTS : Hid (∀ W, Below w2.heap.size w2 W → Calls Tryd.prog 22 #[.agg #[.slice a1 ns.length c1, .int .i64 m], .agg #[.slice a2 ns.length c2, .int .i64 m]] W fun e w' => e = .returned (.bool true) ∧ Below W.heap.size W w') := fun W hW => (implTreeSame_any a1 a2 c1 c2 ns.length ns.length m m _ _ w2.heap.size W (N12.out.below hW (Nat.le_refl _)) (N2.out.below hW (Nat.le_refl _)) hW.size (by omega) (by omega) HL3.out HL3.out).mono fun e w' ⟨q, e1, e2, e3⟩ => ⟨by rw [e1, e2.2 (same_tree m ns)], e3⟩
    clear k2 j2 b3 bW2 B2 z4 HYES HNO HAT HB N12 N2 HL3 HP1 HP2
    go_wp2_with (go_at_call 22; refine (HTS.out _ bb2).mono ?_; rintro e w4 ⟨rfl, b4⟩; have B4 := below_next (below_next B3 bE) b4; have k4 : ∀ i, w4.cell? ⟨w1.heap.size, i, none⟩ = (#[.slice a1 ns.length c1, .int .i64 m] : Array Value)[i]? := fun i => by rw [(bcell b4).1 _ _ (by simp; omega), (bcell bE).1 _ _ z6]; exact k3 i)
    go_ret
    exact ⟨rfl, B4⟩
  · obtain ⟨m, ns, p1, p2, l1, l2, l3⟩ := pk1
    have HP1 : Hid (PK _ m ns) := p1
    have HP2 : Hid (PK _ m ns) := p2
    have l1' : 5 < (ns.length : Int) := by omega
    have l2' : (ns.length : Int) ≤ 1000 := by omega
    have HL3 : Hid (∀ j, j < ns.length → (knd (ns.getD j kz)).len ≤ 1048576) := l3
    clear p1 p2 l3
    go_wp2_with fail
    obtain ⟨W0, hW0⟩ : ∃ W, W = w.alloc (.cells #[.string ⟨#[97, 32, 111, 114, 32, 98, 32, 97, 110, 100, 32, 99, 32, 61, 61, 32, 100, 32, 46, 46, 32, 101, 32, 43, 32, 102, 32, 42, 32, 45, 32, 103]⟩, .string ⟨#[40, 97, 32, 111, 114, 32, 40, 98, 32, 97, 110, 100, 32, 40, 99, 32, 61, 61, 32, 40, 100, 32, 46, 46, 32, 40, 101, 32, 43, 32, 40, 102, 32, 42, 32, 40, 45, 32, 103, 41, 41, 41, 41, 41, 41, 41]⟩, .string ⟨#[97, 32, 45, 32, 98, 32, 45, 32, 99]⟩, .string ⟨#[40, 40, 97, 32, 45, 32, 98, 41, 32, 45, 32, 99, 41]⟩, .string ⟨#[97, 32, 46, 46, 32, 98, 32, 46, 46, 32, 99]⟩, .string ⟨#[40, 40, 97, 32, 46, 46, 32, 98, 41, 32, 46, 46, 32, 99, 41]⟩, .string ⟨#[110, 111, 116, 32, 97, 32, 61, 61, 32, 35, 32, 98]⟩, .string ⟨#[40, 40, 110, 111, 116, 32, 97, 41, 32, 61, 61, 32, 40, 35, 32, 98, 41, 41]⟩, .string ⟨#[45, 32, 97, 46, 98, 91, 49, 93, 40, 99, 41, 32, 42, 32, 100]⟩, .string ⟨#[40, 40, 45, 32, 40, 40, 40, 97, 46, 98, 41, 91, 49, 93, 41, 40, 99, 41, 41, 41, 32, 42, 32, 100, 41]⟩, .string ⟨#[97, 32, 97, 110, 100, 32, 98, 32, 111, 114, 32, 99, 32, 97, 110, 100, 32, 100]⟩, .string ⟨#[40, 40, 97, 32, 97, 110, 100, 32, 98, 41, 32, 111, 114, 32, 40, 99, 32, 97, 110, 100, 32, 100, 41, 41]⟩] 9) := ⟨_, rfl⟩
    have B0 : Below w.heap.size w W0 := by rw [hW0]; exact (Below.refl _ _).alloc (Nat.le_refl _) _
    have q0 : W0.cell? ⟨w.heap.size, 3, none⟩ = some (.string ⟨#[40, 40, 97, 32, 45, 32, 98, 41, 32, 45, 32, 99, 41]⟩) := by rw [hW0]; simp [go_sem]
    have z0 : w.heap.size < W0.heap.size := by rw [hW0]; simp
    rw [← hW0]
    clear hW0
    refine (HYES.out _ m ns _ HP1.out B0).mono ?_
    rintro e w1 ⟨v1, kv1, rfl, n1, b1⟩
    have B1 := below_next B0 b1
    have q1 : w1.cell? ⟨w.heap.size, 3, none⟩ = some (.string ⟨#[40, 40, 97, 32, 45, 32, 98, 41, 32, 45, 32, 99, 41]⟩) := by rw [(bcell b1).1 _ _ z0]; exact q0
    have z1 : w.heap.size < w1.heap.size := Nat.lt_of_lt_of_le z0 b1.size
    obtain ⟨a1, c1, rfl⟩ := n1.form
    have N1 : Hid (KnF w1.heap.size w1 (.slice a1 ns.length c1) ns.length (fun i => knd (ns.getD i kz))) := n1.knF
    clear b1 q0 z0 n1 B0
    go_wp2_with fail
    obtain ⟨W1, hW1⟩ : ∃ W, W = w1.alloc (.cells #[.slice a1 ns.length c1, .int .i64 m] 41) := ⟨_, rfl⟩
    have bW1 : Below w1.heap.size w1 W1 := by rw [hW1]; exact (Below.refl _ _).alloc (Nat.le_refl _) _
    have k1 : ∀ i, W1.cell? ⟨w1.heap.size, i, none⟩ = (#[.slice a1 ns.length c1, .int .i64 m] : Array Value)[i]? := fun i => by rw [hW1]; simp [go_sem]
    have z2 : w1.heap.size < W1.heap.size := by rw [hW1]; simp
    rw [← hW1]
    clear hW1
    refine (HYES.out _ m ns _ HP2.out (below_next B1 bW1)).mono ?_
    rintro e w2 ⟨v2, kv2, rfl, n2, b2⟩
    have B2 := below_next (below_next B1 bW1) b2
    have k2 : ∀ i, w2.cell? ⟨w1.heap.size, i, none⟩ = (#[.slice a1 ns.length c1, .int .i64 m] : Array Value)[i]? := fun i => by rw [(bcell b2).1 _ _ z2]; exact k1 i
    have z3 : w1.heap.size < w2.heap.size := Nat.lt_of_lt_of_le z2 b2.size
    obtain ⟨a2, c2, rfl⟩ := n2.form
    have N2 : Hid (KnF w2.heap.size w2 (.slice a2 ns.length c2) ns.length (fun i => knd (ns.getD i kz))) := n2.knF
    have N12 : Hid (KnF w2.heap.size w2 (.slice a1 ns.length c1) ns.length (fun i => knd (ns.getD i kz))) := (((N1.out.below bW1 (Nat.le_refl _)).mono bW1.size).below b2 (Nat.le_refl _)).mono b2.size
    clear b2 q1 z1 n2 k1 z2 bW1 B1 N1
    go_wp2_with fail
    obtain ⟨W2, hW2⟩ : ∃ W, W = w2.alloc (.cells #[.slice a2 ns.length c2, .int .i64 m] 41) := ⟨_, rfl⟩
    have bW2 : Below w2.heap.size w2 W2 := by rw [hW2]; exact (Below.refl _ _).alloc (Nat.le_refl _) _
    have j2 : ∀ i, W2.cell? ⟨w2.heap.size, i, none⟩ = (#[.slice a2 ns.length c2, .int .i64 m] : Array Value)[i]? := fun i => by rw [hW2]; simp [go_sem]
    have z4 : w2.heap.size < W2.heap.size := by rw [hW2]; simp
    rw [← hW2]
    clear hW2
    refine (HNO.out _ (below_next B2 bW2)).mono ?_
    rintro e w3 ⟨rfl, b3⟩
    have bb := below_next (w := w2) bW2 b3
    have B3 := below_next B2 bb
    have k3 : ∀ i, w3.cell? ⟨w1.heap.size, i, none⟩ = (#[.slice a1 ns.length c1, .int .i64 m] : Array Value)[i]? := fun i => by rw [(bcell bb).1 _ _ z3]; exact k2 i
    have j3 : ∀ i, w3.cell? ⟨w2.heap.size, i, none⟩ = (#[.slice a2 ns.length c2, .int .i64 m] : Array Value)[i]? := fun i => by rw [(bcell b3).1 _ _ z4]; exact j2 i
    have z5 : w2.heap.size < w3.heap.size := Nat.lt_of_lt_of_le z4 b3.size
    have z6 : w1.heap.size < w3.heap.size := Nat.lt_trans z3 z5
    have zn : w1.heap.size ≠ w2.heap.size := by omega
    have bE : Below w3.heap.size w3 (w3.alloc (.cells #[.slice none 0 0, .int .i64 0] 41)) := (Below.refl _ _).alloc (Nat.le_refl _) _
    have bb2 := below_next (w := w2) bb bE
    have HTS : Hid (∀ W, Below w2.heap.size w2 W → Calls Tryd.prog 22 #[.agg #[.slice a1 ns.length c1, .int .i64 m], .agg #[.slice a2 ns.length c2, .int .i64 m]] W fun e w' => e = .returned (.bool true) ∧ Below W.heap.size W w') := fun W hW => (implTreeSame_any a1 a2 c1 c2 ns.length ns.length m m _ _ w2.heap.size W (N12.out.below hW (Nat.le_refl _)) (N2.out.below hW (Nat.le_refl _)) hW.size (by omega) (by omega) HL3.out HL3.out).mono fun e w' ⟨q, e1, e2, e3⟩ => ⟨by rw [e1, e2.2 (same_tree m ns)], e3⟩
    clear k2 j2 b3 bW2 B2 z4 HYES HNO HAT HB N12 N2 HL3 HP1 HP2
    go_wp2_with (go_at_call 22; refine (HTS.out _ bb2).mono ?_; rintro e w4 ⟨rfl, b4⟩; have B4 := below_next (below_next B3 bE) b4; have k4 : ∀ i, w4.cell? ⟨w1.heap.size, i, none⟩ = (#[.slice a1 ns.length c1, .int .i64 m] : Array Value)[i]? := fun i => by rw [(bcell b4).1 _ _ (by simp; omega), (bcell bE).1 _ _ z6]; exact k3 i)
    go_ret
    exact ⟨rfl, B4⟩
  · obtain ⟨m, ns, p1, p2, l1, l2, l3⟩ := pk2
    have HP1 : Hid (PK _ m ns) := p1
    have HP2 : Hid (PK _ m ns) := p2
    have l1' : 5 < (ns.length : Int) := by omega
    have l2' : (ns.length : Int) ≤ 1000 := by omega
    have HL3 : Hid (∀ j, j < ns.length → (knd (ns.getD j kz)).len ≤ 1048576) := l3
    clear p1 p2 l3
    go_wp2_with fail
    obtain ⟨W0, hW0⟩ : ∃ W, W = w.alloc (.cells #[.string ⟨#[97, 32, 111, 114, 32, 98, 32, 97, 110, 100, 32, 99, 32, 61, 61, 32, 100, 32, 46, 46, 32, 101, 32, 43, 32, 102, 32, 42, 32, 45, 32, 103]⟩, .string ⟨#[40, 97, 32, 111, 114, 32, 40, 98, 32, 97, 110, 100, 32, 40, 99, 32, 61, 61, 32, 40, 100, 32, 46, 46, 32, 40, 101, 32, 43, 32, 40, 102, 32, 42, 32, 40, 45, 32, 103, 41, 41, 41, 41, 41, 41, 41]⟩, .string ⟨#[97, 32, 45, 32, 98, 32, 45, 32, 99]⟩, .string ⟨#[40, 40, 97, 32, 45, 32, 98, 41, 32, 45, 32, 99, 41]⟩, .string ⟨#[97, 32, 46, 46, 32, 98, 32, 46, 46, 32, 99]⟩, .string ⟨#[40, 40, 97, 32, 46, 46, 32, 98, 41, 32, 46, 46, 32, 99, 41]⟩, .string ⟨#[110, 111, 116, 32, 97, 32, 61, 61, 32, 35, 32, 98]⟩, .string ⟨#[40, 40, 110, 111, 116, 32, 97, 41, 32, 61, 61, 32, 40, 35, 32, 98, 41, 41]⟩, .string ⟨#[45, 32, 97, 46, 98, 91, 49, 93, 40, 99, 41, 32, 42, 32, 100]⟩, .string ⟨#[40, 40, 45, 32, 40, 40, 40, 97, 46, 98, 41, 91, 49, 93, 41, 40, 99, 41, 41, 41, 32, 42, 32, 100, 41]⟩, .string ⟨#[97, 32, 97, 110, 100, 32, 98, 32, 111, 114, 32, 99, 32, 97, 110, 100, 32, 100]⟩, .string ⟨#[40, 40, 97, 32, 97, 110, 100, 32, 98, 41, 32, 111, 114, 32, 40, 99, 32, 97, 110, 100, 32, 100, 41, 41]⟩] 9) := ⟨_, rfl⟩
    have B0 : Below w.heap.size w W0 := by rw [hW0]; exact (Below.refl _ _).alloc (Nat.le_refl _) _
    have q0 : W0.cell? ⟨w.heap.size, 5, none⟩ = some (.string ⟨#[40, 40, 97, 32, 46, 46, 32, 98, 41, 32, 46, 46, 32, 99, 41]⟩) := by rw [hW0]; simp [go_sem]
    have z0 : w.heap.size < W0.heap.size := by rw [hW0]; simp
    rw [← hW0]
    clear hW0
    refine (HYES.out _ m ns _ HP1.out B0).mono ?_
    rintro e w1 ⟨v1, kv1, rfl, n1, b1⟩
    have B1 := below_next B0 b1
    have q1 : w1.cell? ⟨w.heap.size, 5, none⟩ = some (.string ⟨#[40, 40, 97, 32, 46, 46, 32, 98, 41, 32, 46, 46, 32, 99, 41]⟩) := by rw [(bcell b1).1 _ _ z0]; exact q0
    have z1 : w.heap.size < w1.heap.size := Nat.lt_of_lt_of_le z0 b1.size
    obtain ⟨a1, c1, rfl⟩ := n1.form
    have N1 : Hid (KnF w1.heap.size w1 (.slice a1 ns.length c1) ns.length (fun i => knd (ns.getD i kz))) := n1.knF
    clear b1 q0 z0 n1 B0
    go_wp2_with fail
    obtain ⟨W1, hW1⟩ : ∃ W, W = w1.alloc (.cells #[.slice a1 ns.length c1, .int .i64 m] 41) := ⟨_, rfl⟩
    have bW1 : Below w1.heap.size w1 W1 := by rw [hW1]; exact (Below.refl _ _).alloc (Nat.le_refl _) _
    have k1 : ∀ i, W1.cell? ⟨w1.heap.size, i, none⟩ = (#[.slice a1 ns.length c1, .int .i64 m] : Array Value)[i]? := fun i => by rw [hW1]; simp [go_sem]
    have z2 : w1.heap.size < W1.heap.size := by rw [hW1]; simp
    rw [← hW1]
    clear hW1
    refine (HYES.out _ m ns _ HP2.out (below_next B1 bW1)).mono ?_
    rintro e w2 ⟨v2, kv2, rfl, n2, b2⟩
    have B2 := below_next (below_next B1 bW1) b2
    have k2 : ∀ i, w2.cell? ⟨w1.heap.size, i, none⟩ = (#[.slice a1 ns.length c1, .int .i64 m] : Array Value)[i]? := fun i => by rw [(bcell b2).1 _ _ z2]; exact k1 i
    have z3 : w1.heap.size < w2.heap.size := Nat.lt_of_lt_of_le z2 b2.size
    obtain ⟨a2, c2, rfl⟩ := n2.form
    have N2 : Hid (KnF w2.heap.size w2 (.slice a2 ns.length c2) ns.length (fun i => knd (ns.getD i kz))) := n2.knF
    have N12 : Hid (KnF w2.heap.size w2 (.slice a1 ns.length c1) ns.length (fun i => knd (ns.getD i kz))) := (((N1.out.below bW1 (Nat.le_refl _)).mono bW1.size).below b2 (Nat.le_refl _)).mono b2.size
    clear b2 q1 z1 n2 k1 z2 bW1 B1 N1
    go_wp2_with fail
    obtain ⟨W2, hW2⟩ : ∃ W, W = w2.alloc (.cells #[.slice a2 ns.length c2, .int .i64 m] 41) := ⟨_, rfl⟩
    have bW2 : Below w2.heap.size w2 W2 := by rw [hW2]; exact (Below.refl _ _).alloc (Nat.le_refl _) _
    have j2 : ∀ i, W2.cell? ⟨w2.heap.size, i, none⟩ = (#[.slice a2 ns.length c2, .int .i64 m] : Array Value)[i]? := fun i => by rw [hW2]; simp [go_sem]
    have z4 : w2.heap.size < W2.heap.size := by rw [hW2]; simp
    rw [← hW2]
    clear hW2
    refine (HNO.out _ (below_next B2 bW2)).mono ?_
    rintro e w3 ⟨rfl, b3⟩
    have bb := below_next (w := w2) bW2 b3
    have B3 := below_next B2 bb
    have k3 : ∀ i, w3.cell? ⟨w1.heap.size, i, none⟩ = (#[.slice a1 ns.length c1, .int .i64 m] : Array Value)[i]? := fun i => by rw [(bcell bb).1 _ _ z3]; exact k2 i
    have j3 : ∀ i, w3.cell? ⟨w2.heap.size, i, none⟩ = (#[.slice a2 ns.length c2, .int .i64 m] : Array Value)[i]? := fun i => by rw [(bcell b3).1 _ _ z4]; exact j2 i
    have z5 : w2.heap.size < w3.heap.size := Nat.lt_of_lt_of_le z4 b3.size
    have z6 : w1.heap.size < w3.heap.size := Nat.lt_trans z3 z5
    have zn : w1.heap.size ≠ w2.heap.size := by omega
    have bE : Below w3.heap.size w3 (w3.alloc (.cells #[.slice none 0 0, .int .i64 0] 41)) := (Below.refl _ _).alloc (Nat.le_refl _) _
    have bb2 := below_next (w := w2) bb bE
    have HTS : Hid (∀ W, Below w2.heap.size w2 W → Calls Tryd.prog 22 #[.agg #[.slice a1 ns.length c1, .int .i64 m], .agg #[.slice a2 ns.length c2, .int .i64 m]] W fun e w' => e = .returned (.bool true) ∧ Below W.heap.size W w') := fun W hW => (implTreeSame_any a1 a2 c1 c2 ns.length ns.length m m _ _ w2.heap.size W (N12.out.below hW (Nat.le_refl _)) (N2.out.below hW (Nat.le_refl _)) hW.size (by omega) (by omega) HL3.out HL3.out).mono fun e w' ⟨q, e1, e2, e3⟩ => ⟨by rw [e1, e2.2 (same_tree m ns)], e3⟩
    clear k2 j2 b3 bW2 B2 z4 HYES HNO HAT HB N12 N2 HL3 HP1 HP2
    go_wp2_with (go_at_call 22; refine (HTS.out _ bb2).mono ?_; rintro e w4 ⟨rfl, b4⟩; have B4 := below_next (below_next B3 bE) b4; have k4 : ∀ i, w4.cell? ⟨w1.heap.size, i, none⟩ = (#[.slice a1 ns.length c1, .int .i64 m] : Array Value)[i]? := fun i => by rw [(bcell b4).1 _ _ (by simp; omega), (bcell bE).1 _ _ z6]; exact k3 i)
    go_ret
    exact ⟨rfl, B4⟩
  · obtain ⟨m, ns, p1, p2, l1, l2, l3⟩ := pk3
    have HP1 : Hid (PK _ m ns) := p1
    have HP2 : Hid (PK _ m ns) := p2
    have l1' : 5 < (ns.length : Int) := by omega
    have l2' : (ns.length : Int) ≤ 1000 := by omega
    have HL3 : Hid (∀ j, j < ns.length → (knd (ns.getD j kz)).len ≤ 1048576) := l3
    clear p1 p2 l3
    go_wp2_with fail
    obtain ⟨W0, hW0⟩ : ∃ W, W = w.alloc (.cells #[.string ⟨#[97, 32, 111, 114, 32, 98, 32, 97, 110, 100, 32, 99, 32, 61, 61, 32, 100, 32, 46, 46, 32, 101, 32, 43, 32, 102, 32, 42, 32, 45, 32, 103]⟩, .string ⟨#[40, 97, 32, 111, 114, 32, 40, 98, 32, 97, 110, 100, 32, 40, 99, 32, 61, 61, 32, 40, 100, 32, 46, 46, 32, 40, 101, 32, 43, 32, 40, 102, 32, 42, 32, 40, 45, 32, 103, 41, 41, 41, 41, 41, 41, 41]⟩, .string ⟨#[97, 32, 45, 32, 98, 32, 45, 32, 99]⟩, .string ⟨#[40, 40, 97, 32, 45, 32, 98, 41, 32, 45, 32, 99, 41]⟩, .string ⟨#[97, 32, 46, 46, 32, 98, 32, 46, 46, 32, 99]⟩, .string ⟨#[40, 40, 97, 32, 46, 46, 32, 98, 41, 32, 46, 46, 32, 99, 41]⟩, .string ⟨#[110, 111, 116, 32, 97, 32, 61, 61, 32, 35, 32, 98]⟩, .string ⟨#[40, 40, 110, 111, 116, 32, 97, 41, 32, 61, 61, 32, 40, 35, 32, 98, 41, 41]⟩, .string ⟨#[45, 32, 97, 46, 98, 91, 49, 93, 40, 99, 41, 32, 42, 32, 100]⟩, .string ⟨#[40, 40, 45, 32, 40, 40, 40, 97, 46, 98, 41, 91, 49, 93, 41, 40, 99, 41, 41, 41, 32, 42, 32, 100, 41]⟩, .string ⟨#[97, 32, 97, 110, 100, 32, 98, 32, 111, 114, 32, 99, 32, 97, 110, 100, 32, 100]⟩, .string ⟨#[40, 40, 97, 32, 97, 110, 100, 32, 98, 41, 32, 111, 114, 32, 40, 99, 32, 97, 110, 100, 32, 100, 41, 41]⟩] 9) := ⟨_, rfl⟩
    have B0 : Below w.heap.size w W0 := by rw [hW0]; exact (Below.refl _ _).alloc (Nat.le_refl _) _
    have q0 : W0.cell? ⟨w.heap.size, 7, none⟩ = some (.string ⟨#[40, 40, 110, 111, 116, 32, 97, 41, 32, 61, 61, 32, 40, 35, 32, 98, 41, 41]⟩) := by rw [hW0]; simp [go_sem]
    have z0 : w.heap.size < W0.heap.size := by rw [hW0]; simp
    rw [← hW0]
    clear hW0
    refine (HYES.out _ m ns _ HP1.out B0).mono ?_
    rintro e w1 ⟨v1, kv1, rfl, n1, b1⟩
    have B1 := below_next B0 b1
    have q1 : w1.cell? ⟨w.heap.size, 7, none⟩ = some (.string ⟨#[40, 40, 110, 111, 116, 32, 97, 41, 32, 61, 61, 32, 40, 35, 32, 98, 41, 41]⟩) := by rw [(bcell b1).1 _ _ z0]; exact q0
    have z1 : w.heap.size < w1.heap.size := Nat.lt_of_lt_of_le z0 b1.size
    obtain ⟨a1, c1, rfl⟩ := n1.form
    have N1 : Hid (KnF w1.heap.size w1 (.slice a1 ns.length c1) ns.length (fun i => knd (ns.getD i kz))) := n1.knF
    clear b1 q0 z0 n1 B0
    go_wp2_with fail
    obtain ⟨W1, hW1⟩ : ∃ W, W = w1.alloc (.cells #[.slice a1 ns.length c1, .int .i64 m] 41) := ⟨_, rfl⟩
    have bW1 : Below w1.heap.size w1 W1 := by rw [hW1]; exact (Below.refl _ _).alloc (Nat.le_refl _) _
    have k1 : ∀ i, W1.cell? ⟨w1.heap.size, i, none⟩ = (#[.slice a1 ns.length c1, .int .i64 m] : Array Value)[i]? := fun i => by rw [hW1]; simp [go_sem]
    have z2 : w1.heap.size < W1.heap.size := by rw [hW1]; simp
    rw [← hW1]
    clear hW1
    refine (HYES.out _ m ns _ HP2.out (below_next B1 bW1)).mono ?_
    rintro e w2 ⟨v2, kv2, rfl, n2, b2⟩
    have B2 := below_next (below_next B1 bW1) b2
    have k2 : ∀ i, w2.cell? ⟨w1.heap.size, i, none⟩ = (#[.slice a1 ns.length c1, .int .i64 m] : Array Value)[i]? := fun i => by rw [(bcell b2).1 _ _ z2]; exact k1 i
    have z3 : w1.heap.size < w2.heap.size := Nat.lt_of_lt_of_le z2 b2.size
    obtain ⟨a2, c2, rfl⟩ := n2.form
    have N2 : Hid (KnF w2.heap.size w2 (.slice a2 ns.length c2) ns.length (fun i => knd (ns.getD i kz))) := n2.knF
    have N12 : Hid (KnF w2.heap.size w2 (.slice a1 ns.length c1) ns.length (fun i => knd (ns.getD i kz))) := (((N1.out.below bW1 (Nat.le_refl _)).mono bW1.size).below b2 (Nat.le_refl _)).mono b2.size
    clear b2 q1 z1 n2 k1 z2 bW1 B1 N1
    go_wp2_with fail
    obtain ⟨W2, hW2⟩ : ∃ W, W = w2.alloc (.cells #[.slice a2 ns.length c2, .int .i64 m] 41) := ⟨_, rfl⟩
    have bW2 : Below w2.heap.size w2 W2 := by rw [hW2]; exact (Below.refl _ _).alloc (Nat.le_refl _) _
    have j2 : ∀ i, W2.cell? ⟨w2.heap.size, i, none⟩ = (#[.slice a2 ns.length c2, .int .i64 m] : Array Value)[i]? := fun i => by rw [hW2]; simp [go_sem]
    have z4 : w2.heap.size < W2.heap.size := by rw [hW2]; simp
    rw [← hW2]
    clear hW2
    refine (HNO.out _ (below_next B2 bW2)).mono ?_
    rintro e w3 ⟨rfl, b3⟩
    have bb := below_next (w := w2) bW2 b3
    have B3 := below_next B2 bb
    have k3 : ∀ i, w3.cell? ⟨w1.heap.size, i, none⟩ = (#[.slice a1 ns.length c1, .int .i64 m] : Array Value)[i]? := fun i => by rw [(bcell bb).1 _ _ z3]; exact k2 i
    have j3 : ∀ i, w3.cell? ⟨w2.heap.size, i, none⟩ = (#[.slice a2 ns.length c2, .int .i64 m] : Array Value)[i]? := fun i => by rw [(bcell b3).1 _ _ z4]; exact j2 i
    have z5 : w2.heap.size < w3.heap.size := Nat.lt_of_lt_of_le z4 b3.size
    have z6 : w1.heap.size < w3.heap.size := Nat.lt_trans z3 z5
    have zn : w1.heap.size ≠ w2.heap.size := by omega
    have bE : Below w3.heap.size w3 (w3.alloc (.cells #[.slice none 0 0, .int .i64 0] 41)) := (Below.refl _ _).alloc (Nat.le_refl _) _
    have bb2 := below_next (w := w2) bb bE
    have HTS : Hid (∀ W, Below w2.heap.size w2 W → Calls Tryd.prog 22 #[.agg #[.slice a1 ns.length c1, .int .i64 m], .agg #[.slice a2 ns.length c2, .int .i64 m]] W fun e w' => e = .returned (.bool true) ∧ Below W.heap.size W w') := fun W hW => (implTreeSame_any a1 a2 c1 c2 ns.length ns.length m m _ _ w2.heap.size W (N12.out.below hW (Nat.le_refl _)) (N2.out.below hW (Nat.le_refl _)) hW.size (by omega) (by omega) HL3.out HL3.out).mono fun e w' ⟨q, e1, e2, e3⟩ => ⟨by rw [e1, e2.2 (same_tree m ns)], e3⟩
    clear k2 j2 b3 bW2 B2 z4 HYES HNO HAT HB N12 N2 HL3 HP1 HP2
    go_wp2_with (go_at_call 22; refine (HTS.out _ bb2).mono ?_; rintro e w4 ⟨rfl, b4⟩; have B4 := below_next (below_next B3 bE) b4; have k4 : ∀ i, w4.cell? ⟨w1.heap.size, i, none⟩ = (#[.slice a1 ns.length c1, .int .i64 m] : Array Value)[i]? := fun i => by rw [(bcell b4).1 _ _ (by simp; omega), (bcell bE).1 _ _ z6]; exact k3 i)
    go_ret
    exact ⟨rfl, B4⟩
  · obtain ⟨m, ns, p1, p2, l1, l2, l3⟩ := pk4
    have HP1 : Hid (PK _ m ns) := p1
    have HP2 : Hid (PK _ m ns) := p2
    have l1' : 5 < (ns.length : Int) := by omega
    have l2' : (ns.length : Int) ≤ 1000 := by omega
    have HL3 : Hid (∀ j, j < ns.length → (knd (ns.getD j kz)).len ≤ 1048576) := l3
    clear p1 p2 l3
    go_wp2_with fail
    obtain ⟨W0, hW0⟩ : ∃ W, W = w.alloc (.cells #[.string ⟨#[97, 32, 111, 114, 32, 98, 32, 97, 110, 100, 32, 99, 32, 61, 61, 32, 100, 32, 46, 46, 32, 101, 32, 43, 32, 102, 32, 42, 32, 45, 32, 103]⟩, .string ⟨#[40, 97, 32, 111, 114, 32, 40, 98, 32, 97, 110, 100, 32, 40, 99, 32, 61, 61, 32, 40, 100, 32, 46, 46, 32, 40, 101, 32, 43, 32, 40, 102, 32, 42, 32, 40, 45, 32, 103, 41, 41, 41, 41, 41, 41, 41]⟩, .string ⟨#[97, 32, 45, 32, 98, 32, 45, 32, 99]⟩, .string ⟨#[40, 40, 97, 32, 45, 32, 98, 41, 32, 45, 32, 99, 41]⟩, .string ⟨#[97, 32, 46, 46, 32, 98, 32, 46, 46, 32, 99]⟩, .string ⟨#[40, 40, 97, 32, 46, 46, 32, 98, 41, 32, 46, 46, 32, 99, 41]⟩, .string ⟨#[110, 111, 116, 32, 97, 32, 61, 61, 32, 35, 32, 98]⟩, .string ⟨#[40, 40, 110, 111, 116, 32, 97, 41, 32, 61, 61, 32, 40, 35, 32, 98, 41, 41]⟩, .string ⟨#[45, 32, 97, 46, 98, 91, 49, 93, 40, 99, 41, 32, 42, 32, 100]⟩, .string ⟨#[40, 40, 45, 32, 40, 40, 40, 97, 46, 98, 41, 91, 49, 93, 41, 40, 99, 41, 41, 41, 32, 42, 32, 100, 41]⟩, .string ⟨#[97, 32, 97, 110, 100, 32, 98, 32, 111, 114, 32, 99, 32, 97, 110, 100, 32, 100]⟩, .string ⟨#[40, 40, 97, 32, 97, 110, 100, 32, 98, 41, 32, 111, 114, 32, 40, 99, 32, 97, 110, 100, 32, 100, 41, 41]⟩] 9) := ⟨_, rfl⟩
    have B0 : Below w.heap.size w W0 := by rw [hW0]; exact (Below.refl _ _).alloc (Nat.le_refl _) _
    have q0 : W0.cell? ⟨w.heap.size, 9, none⟩ = some (.string ⟨#[40, 40, 45, 32, 40, 40, 40, 97, 46, 98, 41, 91, 49, 93, 41, 40, 99, 41, 41, 41, 32, 42, 32, 100, 41]⟩) := by rw [hW0]; simp [go_sem]
    have z0 : w.heap.size < W0.heap.size := by rw [hW0]; simp
    rw [← hW0]
    clear hW0
    refine (HYES.out _ m ns _ HP1.out B0).mono ?_
    rintro e w1 ⟨v1, kv1, rfl, n1, b1⟩
    have B1 := below_next B0 b1
    have q1 : w1.cell? ⟨w.heap.size, 9, none⟩ = some (.string ⟨#[40, 40, 45, 32, 40, 40, 40, 97, 46, 98, 41, 91, 49, 93, 41, 40, 99, 41, 41, 41, 32, 42, 32, 100, 41]⟩) := by rw [(bcell b1).1 _ _ z0]; exact q0
    have z1 : w.heap.size < w1.heap.size := Nat.lt_of_lt_of_le z0 b1.size
    obtain ⟨a1, c1, rfl⟩ := n1.form
    have N1 : Hid (KnF w1.heap.size w1 (.slice a1 ns.length c1) ns.length (fun i => knd (ns.getD i kz))) := n1.knF
    clear b1 q0 z0 n1 B0
    go_wp2_with fail
    obtain ⟨W1, hW1⟩ : ∃ W, W = w1.alloc (.cells #[.slice a1 ns.length c1, .int .i64 m] 41) := ⟨_, rfl⟩
    have bW1 : Below w1.heap.size w1 W1 := by rw [hW1]; exact (Below.refl _ _).alloc (Nat.le_refl _) _
    have k1 : ∀ i, W1.cell? ⟨w1.heap.size, i, none⟩ = (#[.slice a1 ns.length c1, .int .i64 m] : Array Value)[i]? := fun i => by rw [hW1]; simp [go_sem]
    have z2 : w1.heap.size < W1.heap.size := by rw [hW1]; simp
    rw [← hW1]
    clear hW1
    refine (HYES.out _ m ns _ HP2.out (below_next B1 bW1)).mono ?_
    rintro e w2 ⟨v2, kv2, rfl, n2, b2⟩
    have B2 := below_next (below_next B1 bW1) b2
    have k2 : ∀ i, w2.cell? ⟨w1.heap.size, i, none⟩ = (#[.slice a1 ns.length c1, .int .i64 m] : Array Value)[i]? := fun i => by rw [(bcell b2).1 _ _ z2]; exact k1 i
    have z3 : w1.heap.size < w2.heap.size := Nat.lt_of_lt_of_le z2 b2.size
    obtain ⟨a2, c2, rfl⟩ := n2.form
    have N2 : Hid (KnF w2.heap.size w2 (.slice a2 ns.length c2) ns.length (fun i => knd (ns.getD i kz))) := n2.knF
    have N12 : Hid (KnF w2.heap.size w2 (.slice a1 ns.length c1) ns.length (fun i => knd (ns.getD i kz))) := (((N1.out.below bW1 (Nat.le_refl _)).mono bW1.size).below b2 (Nat.le_refl _)).mono b2.size
    clear b2 q1 z1 n2 k1 z2 bW1 B1 N1
    go_wp2_with fail
    obtain ⟨W2, hW2⟩ : ∃ W, W = w2.alloc (.cells #[.slice a2 ns.length c2, .int .i64 m] 41) := ⟨_, rfl⟩
    have bW2 : Below w2.heap.size w2 W2 := by rw [hW2]; exact (Below.refl _ _).alloc (Nat.le_refl _) _
    have j2 : ∀ i, W2.cell? ⟨w2.heap.size, i, none⟩ = (#[.slice a2 ns.length c2, .int .i64 m] : Array Value)[i]? := fun i => by rw [hW2]; simp [go_sem]
    have z4 : w2.heap.size < W2.heap.size := by rw [hW2]; simp
    rw [← hW2]
    clear hW2
    refine (HNO.out _ (below_next B2 bW2)).mono ?_
    rintro e w3 ⟨rfl, b3⟩
    have bb := below_next (w := w2) bW2 b3
    have B3 := below_next B2 bb
    have k3 : ∀ i, w3.cell? ⟨w1.heap.size, i, none⟩ = (#[.slice a1 ns.length c1, .int .i64 m] : Array Value)[i]? := fun i => by rw [(bcell bb).1 _ _ z3]; exact k2 i
    have j3 : ∀ i, w3.cell? ⟨w2.heap.size, i, none⟩ = (#[.slice a2 ns.length c2, .int .i64 m] : Array Value)[i]? := fun i => by rw [(bcell b3).1 _ _ z4]; exact j2 i
    have z5 : w2.heap.size < w3.heap.size := Nat.lt_of_lt_of_le z4 b3.size
    have z6 : w1.heap.size < w3.heap.size := Nat.lt_trans z3 z5
    have zn : w1.heap.size ≠ w2.heap.size := by omega
    have bE : Below w3.heap.size w3 (w3.alloc (.cells #[.slice none 0 0, .int .i64 0] 41)) := (Below.refl _ _).alloc (Nat.le_refl _) _
    have bb2 := below_next (w := w2) bb bE
    have HTS : Hid (∀ W, Below w2.heap.size w2 W → Calls Tryd.prog 22 #[.agg #[.slice a1 ns.length c1, .int .i64 m], .agg #[.slice a2 ns.length c2, .int .i64 m]] W fun e w' => e = .returned (.bool true) ∧ Below W.heap.size W w') := fun W hW => (implTreeSame_any a1 a2 c1 c2 ns.length ns.length m m _ _ w2.heap.size W (N12.out.below hW (Nat.le_refl _)) (N2.out.below hW (Nat.le_refl _)) hW.size (by omega) (by omega) HL3.out HL3.out).mono fun e w' ⟨q, e1, e2, e3⟩ => ⟨by rw [e1, e2.2 (same_tree m ns)], e3⟩
    clear k2 j2 b3 bW2 B2 z4 HYES HNO HAT HB N12 N2 HL3 HP1 HP2
    go_wp2_with (go_at_call 22; refine (HTS.out _ bb2).mono ?_; rintro e w4 ⟨rfl, b4⟩; have B4 := below_next (below_next B3 bE) b4; have k4 : ∀ i, w4.cell? ⟨w1.heap.size, i, none⟩ = (#[.slice a1 ns.length c1, .int .i64 m] : Array Value)[i]? := fun i => by rw [(bcell b4).1 _ _ (by simp; omega), (bcell bE).1 _ _ z6]; exact k3 i)
    go_ret
    exact ⟨rfl, B4⟩
  · obtain ⟨m, ns, p1, p2, l1, l2, l3⟩ := pk5
    have HP1 : Hid (PK _ m ns) := p1
    have HP2 : Hid (PK _ m ns) := p2
    have l1' : 5 < (ns.length : Int) := by omega
    have l2' : (ns.length : Int) ≤ 1000 := by omega
    have HL3 : Hid (∀ j, j < ns.length → (knd (ns.getD j kz)).len ≤ 1048576) := l3
    clear p1 p2 l3
    go_wp2_with fail
    obtain ⟨W0, hW0⟩ : ∃ W, W = w.alloc (.cells #[.string ⟨#[97, 32, 111, 114, 32, 98, 32, 97, 110, 100, 32, 99, 32, 61, 61, 32, 100, 32, 46, 46, 32, 101, 32, 43, 32, 102, 32, 42, 32, 45, 32, 103]⟩, .string ⟨#[40, 97, 32, 111, 114, 32, 40, 98, 32, 97, 110, 100, 32, 40, 99, 32, 61, 61, 32, 40, 100, 32, 46, 46, 32, 40, 101, 32, 43, 32, 40, 102, 32, 42, 32, 40, 45, 32, 103, 41, 41, 41, 41, 41, 41, 41]⟩, .string ⟨#[97, 32, 45, 32, 98, 32, 45, 32, 99]⟩, .string ⟨#[40, 40, 97, 32, 45, 32, 98, 41, 32, 45, 32, 99, 41]⟩, .string ⟨#[97, 32, 46, 46, 32, 98, 32, 46, 46, 32, 99]⟩, .string ⟨#[40, 40, 97, 32, 46, 46, 32, 98, 41, 32, 46, 46, 32, 99, 41]⟩, .string ⟨#[110, 111, 116, 32, 97, 32, 61, 61, 32, 35, 32, 98]⟩, .string ⟨#[40, 40, 110, 111, 116, 32, 97, 41, 32, 61, 61, 32, 40, 35, 32, 98, 41, 41]⟩, .string ⟨#[45, 32, 97, 46, 98, 91, 49, 93, 40, 99, 41, 32, 42, 32, 100]⟩, .string ⟨#[40, 40, 45, 32, 40, 40, 40, 97, 46, 98, 41, 91, 49, 93, 41, 40, 99, 41, 41, 41, 32, 42, 32, 100, 41]⟩, .string ⟨#[97, 32, 97, 110, 100, 32, 98, 32, 111, 114, 32, 99, 32, 97, 110, 100, 32, 100]⟩, .string ⟨#[40, 40, 97, 32, 97, 110, 100, 32, 98, 41, 32, 111, 114, 32, 40, 99, 32, 97, 110, 100, 32, 100, 41, 41]⟩] 9) := ⟨_, rfl⟩
    have B0 : Below w.heap.size w W0 := by rw [hW0]; exact (Below.refl _ _).alloc (Nat.le_refl _) _
    have q0 : W0.cell? ⟨w.heap.size, 11, none⟩ = some (.string ⟨#[40, 40, 97, 32, 97, 110, 100, 32, 98, 41, 32, 111, 114, 32, 40, 99, 32, 97, 110, 100, 32, 100, 41, 41]⟩) := by rw [hW0]; simp [go_sem]
    have z0 : w.heap.size < W0.heap.size := by rw [hW0]; simp
    rw [← hW0]
    clear hW0
    refine (HYES.out _ m ns _ HP1.out B0).mono ?_
    rintro e w1 ⟨v1, kv1, rfl, n1, b1⟩
    have B1 := below_next B0 b1
    have q1 : w1.cell? ⟨w.heap.size, 11, none⟩ = some (.string ⟨#[40, 40, 97, 32, 97, 110, 100, 32, 98, 41, 32, 111, 114, 32, 40, 99, 32, 97, 110, 100, 32, 100, 41, 41]⟩) := by rw [(bcell b1).1 _ _ z0]; exact q0
    have z1 : w.heap.size < w1.heap.size := Nat.lt_of_lt_of_le z0 b1.size
    obtain ⟨a1, c1, rfl⟩ := n1.form
    have N1 : Hid (KnF w1.heap.size w1 (.slice a1 ns.length c1) ns.length (fun i => knd (ns.getD i kz))) := n1.knF
    clear b1 q0 z0 n1 B0
    go_wp2_with fail
    obtain ⟨W1, hW1⟩ : ∃ W, W = w1.alloc (.cells #[.slice a1 ns.length c1, .int .i64 m] 41) := ⟨_, rfl⟩
    have bW1 : Below w1.heap.size w1 W1 := by rw [hW1]; exact (Below.refl _ _).alloc (Nat.le_refl _) _
    have k1 : ∀ i, W1.cell? ⟨w1.heap.size, i, none⟩ = (#[.slice a1 ns.length c1, .int .i64 m] : Array Value)[i]? := fun i => by rw [hW1]; simp [go_sem]
    have z2 : w1.heap.size < W1.heap.size := by rw [hW1]; simp
    rw [← hW1]
    clear hW1
    refine (HYES.out _ m ns _ HP2.out (below_next B1 bW1)).mono ?_
    rintro e w2 ⟨v2, kv2, rfl, n2, b2⟩
    have B2 := below_next (below_next B1 bW1) b2
    have k2 : ∀ i, w2.cell? ⟨w1.heap.size, i, none⟩ = (#[.slice a1 ns.length c1, .int .i64 m] : Array Value)[i]? := fun i => by rw [(bcell b2).1 _ _ z2]; exact k1 i
    have z3 : w1.heap.size < w2.heap.size := Nat.lt_of_lt_of_le z2 b2.size
    obtain ⟨a2, c2, rfl⟩ := n2.form
    have N2 : Hid (KnF w2.heap.size w2 (.slice a2 ns.length c2) ns.length (fun i => knd (ns.getD i kz))) := n2.knF
    have N12 : Hid (KnF w2.heap.size w2 (.slice a1 ns.length c1) ns.length (fun i => knd (ns.getD i kz))) := (((N1.out.below bW1 (Nat.le_refl _)).mono bW1.size).below b2 (Nat.le_refl _)).mono b2.size
    clear b2 q1 z1 n2 k1 z2 bW1 B1 N1
    go_wp2_with fail
    obtain ⟨W2, hW2⟩ : ∃ W, W = w2.alloc (.cells #[.slice a2 ns.length c2, .int .i64 m] 41) := ⟨_, rfl⟩
    have bW2 : Below w2.heap.size w2 W2 := by rw [hW2]; exact (Below.refl _ _).alloc (Nat.le_refl _) _
    have j2 : ∀ i, W2.cell? ⟨w2.heap.size, i, none⟩ = (#[.slice a2 ns.length c2, .int .i64 m] : Array Value)[i]? := fun i => by rw [hW2]; simp [go_sem]
    have z4 : w2.heap.size < W2.heap.size := by rw [hW2]; simp
    rw [← hW2]
    clear hW2
    refine (HNO.out _ (below_next B2 bW2)).mono ?_
    rintro e w3 ⟨rfl, b3⟩
    have bb := below_next (w := w2) bW2 b3
    have B3 := below_next B2 bb
    have k3 : ∀ i, w3.cell? ⟨w1.heap.size, i, none⟩ = (#[.slice a1 ns.length c1, .int .i64 m] : Array Value)[i]? := fun i => by rw [(bcell bb).1 _ _ z3]; exact k2 i
    have j3 : ∀ i, w3.cell? ⟨w2.heap.size, i, none⟩ = (#[.slice a2 ns.length c2, .int .i64 m] : Array Value)[i]? := fun i => by rw [(bcell b3).1 _ _ z4]; exact j2 i
    have z5 : w2.heap.size < w3.heap.size := Nat.lt_of_lt_of_le z4 b3.size
    have z6 : w1.heap.size < w3.heap.size := Nat.lt_trans z3 z5
    have zn : w1.heap.size ≠ w2.heap.size := by omega
    have bE : Below w3.heap.size w3 (w3.alloc (.cells #[.slice none 0 0, .int .i64 0] 41)) := (Below.refl _ _).alloc (Nat.le_refl _) _
    have bb2 := below_next (w := w2) bb bE
    have HTS : Hid (∀ W, Below w2.heap.size w2 W → Calls Tryd.prog 22 #[.agg #[.slice a1 ns.length c1, .int .i64 m], .agg #[.slice a2 ns.length c2, .int .i64 m]] W fun e w' => e = .returned (.bool true) ∧ Below W.heap.size W w') := fun W hW => (implTreeSame_any a1 a2 c1 c2 ns.length ns.length m m _ _ w2.heap.size W (N12.out.below hW (Nat.le_refl _)) (N2.out.below hW (Nat.le_refl _)) hW.size (by omega) (by omega) HL3.out HL3.out).mono fun e w' ⟨q, e1, e2, e3⟩ => ⟨by rw [e1, e2.2 (same_tree m ns)], e3⟩
    clear k2 j2 b3 bW2 B2 z4 HYES HNO HAT HB N12 N2 HL3 HP1 HP2
    go_wp2_with (go_at_call 22; refine (HTS.out _ bb2).mono ?_; rintro e w4 ⟨rfl, b4⟩; have B4 := below_next (below_next B3 bE) b4; have k4 : ∀ i, w4.cell? ⟨w1.heap.size, i, none⟩ = (#[.slice a1 ns.length c1, .int .i64 m] : Array Value)[i]? := fun i => by rw [(bcell b4).1 _ _ (by simp; omega), (bcell bE).1 _ _ z6]; exact k3 i)
    go_ret
    exact ⟨rfl, B4⟩
end Go.Proofs.YtiglkhkfbgjjoaaDoor
