/- - -/
import Derived.Test.YtblcfbhlmdhnpaaGreatBMkI
import Derived.Deep.SlicePairs
import Derived.Lib.SmallJoins
import Derived.ChangeArms
import Derived.WideShapes
namespace Go.Proofs.YtblcfbhlmdhnpaaGreat
set_option maxRecDepth 20000
open Go.ChangeShapes Go.WideShapes Go.ChangeAt Go.RowKit Go.Joins Go.Deep
set_option linter.unusedSimpArgs false
set_option linter.unusedVariables false
theorem zfv : Tryz.prog.cellsOf 145 = 2 := by kernel_rfl
theorem zh6 {H : Type} {enc : TypeId × Value -> H} {w : World} {fuel : Nat} {v : Value} {x : DataW H × List MemPlace} (h : DataW.trod enc Tryz.prog w 0 (fun _ => true) true fuel 74 [v] = some x) :
 ∃ (ar : Option Addr) (n cr : Nat) (p : Nat -> Bool) (q : Nat -> Int), v = .slice ar n cr /\ n <= 9223372036854775807 /\ SlF w.heap.size w (.slice ar n cr) n (2 * n) (upF p q) := by
 obtain ⟨f0, f1, hf, g0, g1, g2, g3, g4, g5⟩ : ∃ f0 f1 : Field, Tryz.prog.underlying 145 = some (.struct #[f0, f1]) /\ f0.offset = 0 /\ f1.offset = 1 /\ Tryz.prog.cellsOf f0.type = 1 /\ Tryz.prog.cellsOf f1.type = 1 /\ Tryz.prog.underlying f0.type = some (.bool) /\ Tryz.prog.underlying f1.type = some (.int .i64) := ⟨_, _, Tryz.underlying145, by kernel_rfl, by kernel_rfl, by kernel_rfl, by kernel_rfl, by kernel_rfl, by kernel_rfl⟩
 rcases open_slice_pairs Tryz.underlying74 hf zfv g0 g1 g2 g3 h with ⟨hcs, _⟩ | ⟨a, len, cap, m, n, V0, V1, D0, D1, P0, P1, hcs, _, hl, hm, hmm, _, hx⟩
 · simp only [List.cons.injEq, and_true] at hcs
   exact ⟨none, 0, 0, fun _ => false, fun _ => 0, hcs, by simp, ⟨none, 0, rfl, .inl rfl⟩⟩
 · simp only [List.cons.injEq, and_true] at hcs
   have hmc : m = cap := by simpa using hmm
   subst hmc
   have hi : ∀ i, i < m -> ∃ p : Bool × Int, w.cell? (a.add (i * 2)) = some (.bool p.1) /\ w.cell? (a.add (i * 2 + 1)) = some (.int .i64 p.2) := fun i hi => by
    obtain ⟨h1, h2, h3, h4⟩ := hx i hi
    obtain ⟨z0, e0, _⟩ := DataW.trod_bool g4 h3
    obtain ⟨z1, e1, _⟩ := DataW.trod_int g5 h4
    simp only [List.cons.injEq, and_true] at e0 e1
    exact ⟨(z0, z1), by rw [h1, e0], by rw [h2, e1]⟩
   obtain ⟨q, hq⟩ := choose_lt hi
   refine ⟨some a, len, m, fun j => (q j).1, fun j => (q j).2, by simpa using hcs, by simp [maxLen] at hm ⊢; omega, ?_⟩
   refine ⟨some a, m, rfl, ?_⟩
   by_cases h0 : len = 0
   · exact .inl (by simp [h0])
   · obtain ⟨b, off, spot⟩ := a
     have h1 := (hq 0 (by omega)).1
     have hspot : spot = none := by simpa [Addr.add] using World.cell?_spot h1
     subst hspot
     refine .inr ⟨b, off, rfl, ?_, ?_, fun j hj => ?_⟩
     · rw [Addr.add_lit] at h1
       exact World.block_lt_of_cell? _ _ h1
     · rw [Addr.add_lit] at h1
       exact World.block_lt_of_cell? _ _ h1
     · obtain ⟨h2, h3⟩ := hq (j / 2) (by omega)
       rw [Addr.add_lit] at h2 h3
       unfold upF
       by_cases e : j % 2 = 0
       · have : j / 2 * 2 = j := by omega
         rw [this] at h2
         rw [if_pos e, h2]
       · have : j / 2 * 2 + 1 = j := by omega
         rw [this] at h3
         rw [if_neg e, h3]
theorem zfc : Tryz.prog.cellsOf 147 = 2 := by kernel_rfl
theorem zhp {H : Type} {enc : TypeId × Value -> H} {w : World} {fuel : Nat} {v : Value} {x : DataW H × List MemPlace} (h : DataW.trod enc Tryz.prog w 0 (fun _ => true) true fuel 75 [v] = some x) :
 ∃ (ar : Option Addr) (n cr : Nat) (p q : Nat -> Int), v = .slice ar n cr /\ n <= 9223372036854775807 /\ SlF w.heap.size w (.slice ar n cr) n (2 * n) (inF p q) /\ ∀ k, k < n -> -9223372036854775808 <= q k /\ q k <= 9223372036854775807 := by
 obtain ⟨f0, f1, hf, g0, g1, g2, g3, g4, g5⟩ : ∃ f0 f1 : Field, Tryz.prog.underlying 147 = some (.struct #[f0, f1]) /\ f0.offset = 0 /\ f1.offset = 1 /\ Tryz.prog.cellsOf f0.type = 1 /\ Tryz.prog.cellsOf f1.type = 1 /\ Tryz.prog.underlying f0.type = some (.int .i64) /\ Tryz.prog.underlying f1.type = some (.int .i64) := ⟨_, _, Tryz.underlying147, by kernel_rfl, by kernel_rfl, by kernel_rfl, by kernel_rfl, by kernel_rfl, by kernel_rfl⟩
 rcases open_slice_pairs Tryz.underlying75 hf zfc g0 g1 g2 g3 h with ⟨hcs, _⟩ | ⟨a, len, cap, m, n, V0, V1, D0, D1, P0, P1, hcs, _, hl, hm, hmm, _, hx⟩
 · simp only [List.cons.injEq, and_true] at hcs
   exact ⟨none, 0, 0, fun _ => 0, fun _ => 0, hcs, by simp, ⟨none, 0, rfl, .inl rfl⟩, fun k hk => absurd hk (Nat.not_lt_zero _)⟩
 · simp only [List.cons.injEq, and_true] at hcs
   have hmc : m = cap := by simpa using hmm
   subst hmc
   have hi : ∀ i, i < m -> ∃ p : Int × Int, w.cell? (a.add (i * 2)) = some (.int .i64 p.1) /\ w.cell? (a.add (i * 2 + 1)) = some (.int .i64 p.2) /\ -9223372036854775808 <= p.2 /\ p.2 <= 9223372036854775807 := fun i hi => by
    obtain ⟨h1, h2, h3, h4⟩ := hx i hi
    obtain ⟨z0, e0, _⟩ := DataW.trod_int g4 h3
    obtain ⟨z1, e1, _, wz⟩ := DataW.trod_int g5 h4
    simp only [List.cons.injEq, and_true] at e0 e1
    have wz' : -9223372036854775808 <= z1 /\ z1 <= 9223372036854775807 := by
     simp only [Lit.wf, Bool.and_eq_true, decide_eq_true_eq, show IntKind.i64.min = -9223372036854775808 from rfl, show IntKind.i64.max = 9223372036854775807 from rfl] at wz
     exact wz
    exact ⟨(z0, z1), by rw [h1, e0], by rw [h2, e1], wz'⟩
   obtain ⟨q, hq⟩ := choose_lt hi
   refine ⟨some a, len, m, fun j => (q j).1, fun j => (q j).2, by simpa using hcs, by simp [maxLen] at hm ⊢; omega, ?_, fun k hk => (hq k (by omega)).2.2⟩
   refine ⟨some a, m, rfl, ?_⟩
   by_cases h0 : len = 0
   · exact .inl (by simp [h0])
   · obtain ⟨b, off, spot⟩ := a
     have h1 := (hq 0 (by omega)).1
     have hspot : spot = none := by simpa [Addr.add] using World.cell?_spot h1
     subst hspot
     refine .inr ⟨b, off, rfl, ?_, ?_, fun j hj => ?_⟩
     · rw [Addr.add_lit] at h1
       exact World.block_lt_of_cell? _ _ h1
     · rw [Addr.add_lit] at h1
       exact World.block_lt_of_cell? _ _ h1
     · obtain ⟨h2, h3, _⟩ := hq (j / 2) (by omega)
       rw [Addr.add_lit] at h2 h3
       unfold inF
       by_cases e : j % 2 = 0
       · have : j / 2 * 2 = j := by omega
         rw [this] at h2
         rw [if_pos e, h2]
       · have : j / 2 * 2 + 1 = j := by omega
         rw [this] at h3
         rw [if_neg e, h3]
theorem zdz : Tryz.prog.cellsOf 77 = 4 := by kernel_rfl
theorem zdh : Tryz.prog.cellsOf 25 = 2 := by kernel_rfl
theorem zgn : Tryz.prog.cellsOf 9 = 1 := by kernel_rfl
theorem zfd : Tryz.prog.underlying 77 = some (.struct (Tryz.prog.fieldsOf 77)) := by kernel_rfl
theorem zfw : (Tryz.prog.fieldsOf 77).toList.map (fun f => (f.type, f.offset, Tryz.prog.cellsOf f.type)) = [(3, 0, 1), (3, 1, 1), (74, 2, 1), (75, 3, 1)] := by kernel_rfl
theorem zbz : Tryz.prog.underlying 25 = some (.struct (Tryz.prog.fieldsOf 25)) := by kernel_rfl
theorem zfe : (Tryz.prog.fieldsOf 25).toList.map (fun f => (f.type, f.offset, Tryz.prog.cellsOf f.type)) = [(22, 0, 1), (23, 1, 1)] := by kernel_rfl
theorem zg7 {H : Type} {enc : TypeId × Value -> H} {w : World} {fuel : Nat} {v : Value} {x : DataW H × List MemPlace} (h : DataW.trod enc Tryz.prog w 0 (fun _ => true) true fuel 23 [v] = some x) :
 ∃ (a : Option Addr) (n c : Nat) (s : Nat -> ByteArray), v = .slice a n c /\ n <= 9223372036854775807 /\ TxF w.heap.size w (.slice a n c) n s /\ ∀ j, j < n -> (s j).size <= 9223372036854775807 := by
 rcases open_slice Tryz.underlying23 h with ⟨hcs, _⟩ | ⟨a, len, cap, m, n, D, Pl, hcs, _, hl, hm, hmm, _, hx⟩
 · simp only [List.cons.injEq, and_true] at hcs
   exact ⟨none, 0, 0, fun _ => ⟨#[]⟩, hcs, by simp, ⟨none, 0, rfl, .inl rfl⟩, fun j hj => absurd hj (Nat.not_lt_zero _)⟩
 · simp only [List.cons.injEq, and_true] at hcs
   have hmc : m = cap := by simpa using hmm
   subst hmc
   rw [zgn] at hx
   by_cases h0 : len = 0
   · subst h0
     exact ⟨some a, 0, m, fun _ => ⟨#[]⟩, hcs, by simp, ⟨some a, m, rfl, .inl rfl⟩, fun j hj => absurd hj (Nat.not_lt_zero _)⟩
   · obtain ⟨b, off, spot⟩ := a
     obtain ⟨cs0, q0, _⟩ := hx 0 (by omega)
     obtain ⟨_, q1, q2⟩ := World.cells?_some q0
     have q3 := q2 0 (by omega)
     obtain ⟨v0, hv0⟩ : ∃ v0, cs0[0]? = some v0 := ⟨cs0[0]'(by omega), by simp⟩
     rw [hv0] at q3
     have hspot : spot = none := by simpa [Addr.add] using World.cell?_spot q3
     subst hspot
     simp only [Addr.add_lit] at hx q3
     have hb : b < w.heap.size := World.block_lt_of_cell? _ _ q3
     haveI : Inhabited ByteArray := ⟨⟨#[]⟩⟩
     obtain ⟨s, hs⟩ := choose_lt (n := m) (p := fun i (s : ByteArray) => w.cell? ⟨b, off + i, none⟩ = some (.string s) /\ s.size <= 9223372036854775807) (fun i hi => by
      obtain ⟨cs, c1, c2⟩ := hx i hi
      obtain ⟨s, e1, _, e3⟩ := DataW.trod_string Tryz.underlying9 c2
      subst e1
      obtain ⟨_, _, c3⟩ := World.cells?_some c1
      have c4 := c3 0 (by omega)
      simp only [Addr.add_lit, Nat.mul_one, Nat.add_zero] at c4
      exact ⟨s, by simpa using c4, by simp [maxLen] at e3; omega⟩)
     exact ⟨_, len, m, s, hcs, by simp [maxLen] at hm; omega, ⟨_, m, rfl, .inr ⟨b, off, rfl, hb, hb, fun i hi => (hs i (by omega)).1⟩⟩, fun j hj => (hs j (by omega)).2⟩
theorem zg8 {H : Type} {enc : TypeId × Value -> H} {w : World} {fuel : Nat} {b o : Nat} {cs : List Value} {x : DataW H × List MemPlace} (h1 : w.cells? 0 ⟨b, o, none⟩ 4 = some cs) (h : DataW.trod enc Tryz.prog w 0 (fun _ => true) true fuel 77 cs = some x) :
 ∃ X : PtD, zbs w.heap.size w b o X /\ PLr X := by
 obtain ⟨_, hlen6, hcell⟩ := World.cells?_some h1
 obtain ⟨xs, n, _, _, _, hlen, hall⟩ := DataW.trod_struct zfd h
 have hfld := zfw
 generalize Tryz.prog.fieldsOf 77 = fs at hall hfld hlen
 obtain ⟨l⟩ := fs
 have hl : l.length = 4 := by have := congrArg List.length hfld; simpa using this
 match l, hl with
 | [f0, f1, f2, f3], _ =>
   simp only [List.map_cons, List.map_nil, List.cons.injEq, Prod.mk.injEq, and_true] at hfld
   obtain ⟨⟨a0, b0, d0⟩, ⟨a1, b1, d1⟩, ⟨a2, b2, d2⟩, a3, b3, d3⟩ := hfld
   simp at hlen
   match xs, hlen, cs, hlen6 with
   | [y0, y1, y2, y3], _, [v0, v1, v2, v3], _ =>
     have e0 := hall 0 f0 rfl
     have e1 := hall 1 f1 rfl
     have e2 := hall 2 f2 rfl
     have e3 := hall 3 f3 rfl
     rw [a0, b0] at e0
     rw [a1, b1] at e1
     rw [a2, b2] at e2
     rw [a3, b3] at e3
     rw [a0] at d0
     rw [a2] at d2
     rw [a3] at d3
     simp [d0, d2, d3] at e0 e1 e2 e3
     obtain ⟨z0, k0, _⟩ := DataW.trod_int Tryz.underlying3 e0
     obtain ⟨z1, k1, _⟩ := DataW.trod_int Tryz.underlying3 e1
     obtain ⟨ar, n1, cr, ub, ui, rfl, l2, s2⟩ := zh6 e2
     obtain ⟨ar', n2, cr', co, ca, rfl, l3, s3, r3⟩ := zhp e3
     simp only [List.cons.injEq, and_true] at k0 k1
     subst k0 k1
     have g0 := hcell 0 (by omega)
     have g1 := hcell 1 (by omega)
     have g2 := hcell 2 (by omega)
     have g3 := hcell 3 (by omega)
     simp only [Addr.add_lit] at g0 g1 g2 g3
     exact ⟨⟨z0, z1, n1, ub, ui, n2, co, ca⟩, ⟨ar, cr, ar', cr', by simpa using g0, by simpa using g1, by simpa using g2, by simpa using g3, s2, s3⟩, ⟨l2, l3⟩, r3⟩
theorem zgo {H : Type} {enc : TypeId × Value -> H} {w : World} {fuel : Nat} {v : Value} {x : DataW H × List MemPlace} (h : DataW.trod enc Tryz.prog w 0 (fun _ => true) true fuel 22 [v] = some x) :
 ∃ (a : Option Addr) (c L : Nat) (X : Nat -> PtD), v = .slice a L c /\ L <= 9223372036854775807 /\ PtF w.heap.size w (.slice a L c) L X /\ ∀ j, j < L -> PLr (X j) := by
 rcases open_slice Tryz.underlying22 h with ⟨hcs, _⟩ | ⟨a, len, cap, m, n, D, Pl, hcs, _, hl, hm, hmm, _, hx⟩
 · simp only [List.cons.injEq, and_true] at hcs
   exact ⟨none, 0, 0, fun _ => ⟨0, 0, 0, fun _ => false, fun _ => 0, 0, fun _ => 0, fun _ => 0⟩, hcs, by simp, ⟨none, 0, rfl, .inl rfl⟩, fun j hj => absurd hj (Nat.not_lt_zero _)⟩
 · simp only [List.cons.injEq, and_true] at hcs
   have hmc : m = cap := by simpa using hmm
   subst hmc
   rw [zdz] at hx
   by_cases h0 : len = 0
   · subst h0
     exact ⟨some a, m, 0, fun _ => ⟨0, 0, 0, fun _ => false, fun _ => 0, 0, fun _ => 0, fun _ => 0⟩, hcs, by simp, ⟨some a, m, rfl, .inl rfl⟩, fun j hj => absurd hj (Nat.not_lt_zero _)⟩
   · obtain ⟨b, off, spot⟩ := a
     obtain ⟨cs0, q0, _⟩ := hx 0 (by omega)
     obtain ⟨_, q1, q2⟩ := World.cells?_some q0
     have q3 := q2 0 (by omega)
     obtain ⟨v0, hv0⟩ : ∃ v0, cs0[0]? = some v0 := ⟨cs0[0]'(by omega), by simp⟩
     rw [hv0] at q3
     have hspot : spot = none := by simpa [Addr.add] using World.cell?_spot q3
     subst hspot
     simp only [Addr.add_lit] at hx q3
     have hb : b < w.heap.size := World.block_lt_of_cell? _ _ q3
     haveI : Inhabited PtD := ⟨⟨0, 0, 0, fun _ => false, fun _ => 0, 0, fun _ => 0, fun _ => 0⟩⟩
     obtain ⟨X, hX⟩ := choose_lt (n := m) (p := fun i X => zbs w.heap.size w b (off + i * 4) X /\ PLr X) (fun i hi => by
      obtain ⟨cs, c1, c2⟩ := hx i hi
      exact zg8 c1 c2)
     exact ⟨_, m, len, X, hcs, by simp [maxLen] at hm; omega, ⟨_, m, rfl, .inr ⟨b, off, rfl, hb, hb, fun i hi => (hX i (by omega)).1⟩⟩, fun j hj => (hX j (by omega)).2⟩
theorem zff {H : Type} {enc : TypeId × Value -> H} {w : World} {r : Reach} {b0 : Nat} {v : Value} {d : DataW H} {p : List MemPlace} (hv : Value.okWide Tryz.prog w r b0 25 v) (h : DataW.Trod enc Tryz.prog w 0 (fun _ => true) true 25 v d p) :
 ∃ (a1 : Option Addr) (L c1 : Nat) (a2 : Option Addr) (n c2 : Nat) (X : Nat -> PtD) (s : Nat -> ByteArray), v = .agg #[.slice a1 L c1, .slice a2 n c2] /\ MdF w.heap.size w (.slice a1 L c1) (.slice a2 n c2) L X n s /\ L <= 9223372036854775807 /\ n <= 9223372036854775807 /\ (∀ j, j < L -> PLr (X j)) /\ ∀ j, j < n -> (s j).size <= 9223372036854775807 := by
 obtain ⟨cs, rfl, hsz⟩ := okWide_struct zbz hv
 obtain ⟨cs⟩ := cs
 have hsz := hsz.trans zdh
 match cs, hsz with
 | [c0, c1], _ =>
 obtain ⟨fuel, hf⟩ := h
 obtain ⟨xs, n, _, _, _, hlen, hall⟩ := DataW.trod_struct zbz hf
 have hfld := zfe
 generalize Tryz.prog.fieldsOf 25 = fs at hall hfld hlen
 obtain ⟨l⟩ := fs
 have hl : l.length = 2 := by have := congrArg List.length hfld; simpa using this
 match l, hl with
 | [f0, f1], _ =>
   simp only [List.map_cons, List.map_nil, List.cons.injEq, Prod.mk.injEq, and_true] at hfld
   obtain ⟨⟨a0, b0, d0⟩, a1, b1, d1⟩ := hfld
   simp at hlen
   match xs, hlen with
   | [y0, y1], _ =>
     have e0 := hall 0 f0 rfl
     have e1 := hall 1 f1 rfl
     rw [a0, b0] at e0
     rw [a1, b1] at e1
     rw [a0] at d0
     rw [a1] at d1
     simp [Value.cells, d0, d1] at e0 e1
     obtain ⟨a2, c2, L, X, rfl, l2, s2, hX⟩ := zgo e0
     obtain ⟨ar, n, cr, s, rfl, l1, s1, hS⟩ := zg7 e1
     exact ⟨a2, L, c2, ar, n, cr, X, s, rfl, ⟨s2, s1⟩, l2, l1, hX, hS⟩
end Go.Proofs.YtblcfbhlmdhnpaaGreat
