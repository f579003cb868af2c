/- - -/
import Derived.Test.YtmckcnmlhgpnhaaGreatWMcC
namespace Go.Proofs.YtmckcnmlhgpnhaaGreat
set_option maxRecDepth 20000
open Go.ChangeShapes Go.WideShapes Go.ChangeAt Go.RowKit Go.Joins Go.Deep
set_option linter.unusedSimpArgs false
set_option linter.unusedVariables false
theorem zsk : Tryz.prog.cellsOf 234 = 2 := by kernel_rfl
theorem zxy {H : Type} {enc : TypeId × Value -> H} {w : World} {fuel : Nat} {v : Value} {x : DataW H × List MemPlace} (h : DataW.trod enc Tryz.prog w 0 (fun _ => true) true fuel 169 [v] = some x) :
 ∃ (ar : Option Addr) (n cr : Nat) (p : Nat -> Bool) (q : Nat -> Int), v = .slice ar n cr /\ n <= 9223372036854775807 /\ SlF w.heap.size w (.slice ar n cr) n (2 * n) (upF p q) := by
 obtain ⟨f0, f1, hf, g0, g1, g2, g3, g4, g5⟩ : ∃ f0 f1 : Field, Tryz.prog.underlying 234 = some (.struct #[f0, f1]) /\ f0.offset = 0 /\ f1.offset = 1 /\ Tryz.prog.cellsOf f0.type = 1 /\ Tryz.prog.cellsOf f1.type = 1 /\ Tryz.prog.underlying f0.type = some (.bool) /\ Tryz.prog.underlying f1.type = some (.int .i64) := ⟨_, _, Tryz.underlying234, by kernel_rfl, by kernel_rfl, by kernel_rfl, by kernel_rfl, by kernel_rfl, by kernel_rfl⟩
 rcases open_slice_pairs Tryz.underlying169 hf zsk g0 g1 g2 g3 h with ⟨hcs, _⟩ | ⟨a, len, cap, m, n, V0, V1, D0, D1, P0, P1, hcs, _, hl, hm, hmm, _, hx⟩
 · simp only [List.cons.injEq, and_true] at hcs
   exact ⟨none, 0, 0, fun _ => false, fun _ => 0, hcs, by simp, ⟨none, 0, rfl, .inl rfl⟩⟩
 · simp only [List.cons.injEq, and_true] at hcs
   have hmc : m = cap := by simpa using hmm
   subst hmc
   have hi : ∀ i, i < m -> ∃ p : Bool × Int, w.cell? (a.add (i * 2)) = some (.bool p.1) /\ w.cell? (a.add (i * 2 + 1)) = some (.int .i64 p.2) := fun i hi => by
    obtain ⟨h1, h2, h3, h4⟩ := hx i hi
    obtain ⟨z0, e0, _⟩ := DataW.trod_bool g4 h3
    obtain ⟨z1, e1, _⟩ := DataW.trod_int g5 h4
    simp only [List.cons.injEq, and_true] at e0 e1
    exact ⟨(z0, z1), by rw [h1, e0], by rw [h2, e1]⟩
   obtain ⟨q, hq⟩ := choose_lt hi
   refine ⟨some a, len, m, fun j => (q j).1, fun j => (q j).2, by simpa using hcs, by simp [maxLen] at hm ⊢; omega, ?_⟩
   refine ⟨some a, m, rfl, ?_⟩
   by_cases h0 : len = 0
   · exact .inl (by simp [h0])
   · obtain ⟨b, off, spot⟩ := a
     have h1 := (hq 0 (by omega)).1
     have hspot : spot = none := by simpa [Addr.add] using World.cell?_spot h1
     subst hspot
     refine .inr ⟨b, off, rfl, ?_, ?_, fun j hj => ?_⟩
     · rw [Addr.add_lit] at h1
       exact World.block_lt_of_cell? _ _ h1
     · rw [Addr.add_lit] at h1
       exact World.block_lt_of_cell? _ _ h1
     · obtain ⟨h2, h3⟩ := hq (j / 2) (by omega)
       rw [Addr.add_lit] at h2 h3
       unfold upF
       by_cases e : j % 2 = 0
       · have : j / 2 * 2 = j := by omega
         rw [this] at h2
         rw [if_pos e, h2]
       · have : j / 2 * 2 + 1 = j := by omega
         rw [this] at h3
         rw [if_neg e, h3]
theorem zpo : Tryz.prog.cellsOf 236 = 2 := by kernel_rfl
theorem zxb {H : Type} {enc : TypeId × Value -> H} {w : World} {fuel : Nat} {v : Value} {x : DataW H × List MemPlace} (h : DataW.trod enc Tryz.prog w 0 (fun _ => true) true fuel 170 [v] = some x) :
 ∃ (ar : Option Addr) (n cr : Nat) (p q : Nat -> Int), v = .slice ar n cr /\ n <= 9223372036854775807 /\ SlF w.heap.size w (.slice ar n cr) n (2 * n) (inF p q) /\ ∀ k, k < n -> -9223372036854775808 <= q k /\ q k <= 9223372036854775807 := by
 obtain ⟨f0, f1, hf, g0, g1, g2, g3, g4, g5⟩ : ∃ f0 f1 : Field, Tryz.prog.underlying 236 = some (.struct #[f0, f1]) /\ f0.offset = 0 /\ f1.offset = 1 /\ Tryz.prog.cellsOf f0.type = 1 /\ Tryz.prog.cellsOf f1.type = 1 /\ Tryz.prog.underlying f0.type = some (.int .i64) /\ Tryz.prog.underlying f1.type = some (.int .i64) := ⟨_, _, Tryz.underlying236, by kernel_rfl, by kernel_rfl, by kernel_rfl, by kernel_rfl, by kernel_rfl, by kernel_rfl⟩
 rcases open_slice_pairs Tryz.underlying170 hf zpo g0 g1 g2 g3 h with ⟨hcs, _⟩ | ⟨a, len, cap, m, n, V0, V1, D0, D1, P0, P1, hcs, _, hl, hm, hmm, _, hx⟩
 · simp only [List.cons.injEq, and_true] at hcs
   exact ⟨none, 0, 0, fun _ => 0, fun _ => 0, hcs, by simp, ⟨none, 0, rfl, .inl rfl⟩, fun k hk => absurd hk (Nat.not_lt_zero _)⟩
 · simp only [List.cons.injEq, and_true] at hcs
   have hmc : m = cap := by simpa using hmm
   subst hmc
   have hi : ∀ i, i < m -> ∃ p : Int × Int, w.cell? (a.add (i * 2)) = some (.int .i64 p.1) /\ w.cell? (a.add (i * 2 + 1)) = some (.int .i64 p.2) /\ -9223372036854775808 <= p.2 /\ p.2 <= 9223372036854775807 := fun i hi => by
    obtain ⟨h1, h2, h3, h4⟩ := hx i hi
    obtain ⟨z0, e0, _⟩ := DataW.trod_int g4 h3
    obtain ⟨z1, e1, _, wz⟩ := DataW.trod_int g5 h4
    simp only [List.cons.injEq, and_true] at e0 e1
    have wz' : -9223372036854775808 <= z1 /\ z1 <= 9223372036854775807 := by
     simp only [Lit.wf, Bool.and_eq_true, decide_eq_true_eq, show IntKind.i64.min = -9223372036854775808 from rfl, show IntKind.i64.max = 9223372036854775807 from rfl] at wz
     exact wz
    exact ⟨(z0, z1), by rw [h1, e0], by rw [h2, e1], wz'⟩
   obtain ⟨q, hq⟩ := choose_lt hi
   refine ⟨some a, len, m, fun j => (q j).1, fun j => (q j).2, by simpa using hcs, by simp [maxLen] at hm ⊢; omega, ?_, fun k hk => (hq k (by omega)).2.2⟩
   refine ⟨some a, m, rfl, ?_⟩
   by_cases h0 : len = 0
   · exact .inl (by simp [h0])
   · obtain ⟨b, off, spot⟩ := a
     have h1 := (hq 0 (by omega)).1
     have hspot : spot = none := by simpa [Addr.add] using World.cell?_spot h1
     subst hspot
     refine .inr ⟨b, off, rfl, ?_, ?_, fun j hj => ?_⟩
     · rw [Addr.add_lit] at h1
       exact World.block_lt_of_cell? _ _ h1
     · rw [Addr.add_lit] at h1
       exact World.block_lt_of_cell? _ _ h1
     · obtain ⟨h2, h3, _⟩ := hq (j / 2) (by omega)
       rw [Addr.add_lit] at h2 h3
       unfold inF
       by_cases e : j % 2 = 0
       · have : j / 2 * 2 = j := by omega
         rw [this] at h2
         rw [if_pos e, h2]
       · have : j / 2 * 2 + 1 = j := by omega
         rw [this] at h3
         rw [if_neg e, h3]
theorem zl6 : Tryz.prog.cellsOf 172 = 4 := by kernel_rfl
theorem zup : Tryz.prog.cellsOf 9 = 1 := by kernel_rfl
theorem zpp : Tryz.prog.underlying 172 = some (.struct (Tryz.prog.fieldsOf 172)) := by kernel_rfl
theorem zsl : (Tryz.prog.fieldsOf 172).toList.map (fun f => (f.type, f.offset, Tryz.prog.cellsOf f.type)) = [(3, 0, 1), (3, 1, 1), (169, 2, 1), (170, 3, 1)] := by kernel_rfl
theorem zoe : Tryz.prog.underlying 37 = some (.struct (Tryz.prog.fieldsOf 37)) := by kernel_rfl
theorem zpq : (Tryz.prog.fieldsOf 37).toList.map (fun f => (f.type, f.offset, Tryz.prog.cellsOf f.type)) = [(34, 0, 1), (35, 1, 1)] := by kernel_rfl
theorem zof {H : Type} {enc : TypeId × Value -> H} {w : World} {fuel : Nat} {v : Value} {x : DataW H × List MemPlace} (h : DataW.trod enc Tryz.prog w 0 (fun _ => true) true fuel 35 [v] = some x) :
 ∃ (a : Option Addr) (n c : Nat) (s : Nat -> ByteArray), v = .slice a n c /\ n <= 9223372036854775807 /\ TxF w.heap.size w (.slice a n c) n s /\ ∀ j, j < n -> (s j).size <= 9223372036854775807 := by
 rcases open_slice Tryz.underlying35 h with ⟨hcs, _⟩ | ⟨a, len, cap, m, n, D, Pl, hcs, _, hl, hm, hmm, _, hx⟩
 · simp only [List.cons.injEq, and_true] at hcs
   exact ⟨none, 0, 0, fun _ => ⟨#[]⟩, hcs, by simp, ⟨none, 0, rfl, .inl rfl⟩, fun j hj => absurd hj (Nat.not_lt_zero _)⟩
 · simp only [List.cons.injEq, and_true] at hcs
   have hmc : m = cap := by simpa using hmm
   subst hmc
   rw [zup] at hx
   by_cases h0 : len = 0
   · subst h0
     exact ⟨some a, 0, m, fun _ => ⟨#[]⟩, hcs, by simp, ⟨some a, m, rfl, .inl rfl⟩, fun j hj => absurd hj (Nat.not_lt_zero _)⟩
   · obtain ⟨b, off, spot⟩ := a
     obtain ⟨cs0, q0, _⟩ := hx 0 (by omega)
     obtain ⟨_, q1, q2⟩ := World.cells?_some q0
     have q3 := q2 0 (by omega)
     obtain ⟨v0, hv0⟩ : ∃ v0, cs0[0]? = some v0 := ⟨cs0[0]'(by omega), by simp⟩
     rw [hv0] at q3
     have hspot : spot = none := by simpa [Addr.add] using World.cell?_spot q3
     subst hspot
     simp only [Addr.add_lit] at hx q3
     have hb : b < w.heap.size := World.block_lt_of_cell? _ _ q3
     haveI : Inhabited ByteArray := ⟨⟨#[]⟩⟩
     obtain ⟨s, hs⟩ := choose_lt (n := m) (p := fun i (s : ByteArray) => w.cell? ⟨b, off + i, none⟩ = some (.string s) /\ s.size <= 9223372036854775807) (fun i hi => by
      obtain ⟨cs, c1, c2⟩ := hx i hi
      obtain ⟨s, e1, _, e3⟩ := DataW.trod_string Tryz.underlying9 c2
      subst e1
      obtain ⟨_, _, c3⟩ := World.cells?_some c1
      have c4 := c3 0 (by omega)
      simp only [Addr.add_lit, Nat.mul_one, Nat.add_zero] at c4
      exact ⟨s, by simpa using c4, by simp [maxLen] at e3; omega⟩)
     exact ⟨_, len, m, s, hcs, by simp [maxLen] at hm; omega, ⟨_, m, rfl, .inr ⟨b, off, rfl, hb, hb, fun i hi => (hs i (by omega)).1⟩⟩, fun j hj => (hs j (by omega)).2⟩
theorem zwe {H : Type} {enc : TypeId × Value -> H} {w : World} {fuel : Nat} {b o : Nat} {cs : List Value} {x : DataW H × List MemPlace} (h1 : w.cells? 0 ⟨b, o, none⟩ 4 = some cs) (h : DataW.trod enc Tryz.prog w 0 (fun _ => true) true fuel 172 cs = some x) :
 ∃ X : PtD, zh5 w.heap.size w b o X /\ PLr X := by
 obtain ⟨_, hlen6, hcell⟩ := World.cells?_some h1
 obtain ⟨xs, n, _, _, _, hlen, hall⟩ := DataW.trod_struct zpp h
 have hfld := zsl
 generalize Tryz.prog.fieldsOf 172 = fs at hall hfld hlen
 obtain ⟨l⟩ := fs
 have hl : l.length = 4 := by have := congrArg List.length hfld; simpa using this
 match l, hl with
 | [f0, f1, f2, f3], _ =>
   simp only [List.map_cons, List.map_nil, List.cons.injEq, Prod.mk.injEq, and_true] at hfld
   obtain ⟨⟨a0, b0, d0⟩, ⟨a1, b1, d1⟩, ⟨a2, b2, d2⟩, a3, b3, d3⟩ := hfld
   simp at hlen
   match xs, hlen, cs, hlen6 with
   | [y0, y1, y2, y3], _, [v0, v1, v2, v3], _ =>
     have e0 := hall 0 f0 rfl
     have e1 := hall 1 f1 rfl
     have e2 := hall 2 f2 rfl
     have e3 := hall 3 f3 rfl
     rw [a0, b0] at e0
     rw [a1, b1] at e1
     rw [a2, b2] at e2
     rw [a3, b3] at e3
     rw [a0] at d0
     rw [a2] at d2
     rw [a3] at d3
     simp [d0, d2, d3] at e0 e1 e2 e3
     obtain ⟨z0, k0, _⟩ := DataW.trod_int Tryz.underlying3 e0
     obtain ⟨z1, k1, _⟩ := DataW.trod_int Tryz.underlying3 e1
     obtain ⟨ar, n1, cr, ub, ui, rfl, l2, s2⟩ := zxy e2
     obtain ⟨ar', n2, cr', co, ca, rfl, l3, s3, r3⟩ := zxb e3
     simp only [List.cons.injEq, and_true] at k0 k1
     subst k0 k1
     have g0 := hcell 0 (by omega)
     have g1 := hcell 1 (by omega)
     have g2 := hcell 2 (by omega)
     have g3 := hcell 3 (by omega)
     simp only [Addr.add_lit] at g0 g1 g2 g3
     exact ⟨⟨z0, z1, n1, ub, ui, n2, co, ca⟩, ⟨ar, cr, ar', cr', by simpa using g0, by simpa using g1, by simpa using g2, by simpa using g3, s2, s3⟩, ⟨l2, l3⟩, r3⟩
theorem zuq {H : Type} {enc : TypeId × Value -> H} {w : World} {fuel : Nat} {v : Value} {x : DataW H × List MemPlace} (h : DataW.trod enc Tryz.prog w 0 (fun _ => true) true fuel 34 [v] = some x) :
 ∃ (a : Option Addr) (c L : Nat) (X : Nat -> PtD), v = .slice a L c /\ L <= 9223372036854775807 /\ PtF w.heap.size w (.slice a L c) L X /\ ∀ j, j < L -> PLr (X j) := by
 rcases open_slice Tryz.underlying34 h with ⟨hcs, _⟩ | ⟨a, len, cap, m, n, D, Pl, hcs, _, hl, hm, hmm, _, hx⟩
 · simp only [List.cons.injEq, and_true] at hcs
   exact ⟨none, 0, 0, fun _ => ⟨0, 0, 0, fun _ => false, fun _ => 0, 0, fun _ => 0, fun _ => 0⟩, hcs, by simp, ⟨none, 0, rfl, .inl rfl⟩, fun j hj => absurd hj (Nat.not_lt_zero _)⟩
 · simp only [List.cons.injEq, and_true] at hcs
   have hmc : m = cap := by simpa using hmm
   subst hmc
   rw [zl6] at hx
   by_cases h0 : len = 0
   · subst h0
     exact ⟨some a, m, 0, fun _ => ⟨0, 0, 0, fun _ => false, fun _ => 0, 0, fun _ => 0, fun _ => 0⟩, hcs, by simp, ⟨some a, m, rfl, .inl rfl⟩, fun j hj => absurd hj (Nat.not_lt_zero _)⟩
   · obtain ⟨b, off, spot⟩ := a
     obtain ⟨cs0, q0, _⟩ := hx 0 (by omega)
     obtain ⟨_, q1, q2⟩ := World.cells?_some q0
     have q3 := q2 0 (by omega)
     obtain ⟨v0, hv0⟩ : ∃ v0, cs0[0]? = some v0 := ⟨cs0[0]'(by omega), by simp⟩
     rw [hv0] at q3
     have hspot : spot = none := by simpa [Addr.add] using World.cell?_spot q3
     subst hspot
     simp only [Addr.add_lit] at hx q3
     have hb : b < w.heap.size := World.block_lt_of_cell? _ _ q3
     haveI : Inhabited PtD := ⟨⟨0, 0, 0, fun _ => false, fun _ => 0, 0, fun _ => 0, fun _ => 0⟩⟩
     obtain ⟨X, hX⟩ := choose_lt (n := m) (p := fun i X => zh5 w.heap.size w b (off + i * 4) X /\ PLr X) (fun i hi => by
      obtain ⟨cs, c1, c2⟩ := hx i hi
      exact zwe c1 c2)
     exact ⟨_, m, len, X, hcs, by simp [maxLen] at hm; omega, ⟨_, m, rfl, .inr ⟨b, off, rfl, hb, hb, fun i hi => (hX i (by omega)).1⟩⟩, fun j hj => (hX j (by omega)).2⟩
theorem zsi {H : Type} {enc : TypeId × Value -> H} {w : World} {fuel : Nat} {x : DataW H × List MemPlace} {c0 c1 : Value} (h : DataW.trod enc Tryz.prog w 0 (fun _ => true) true fuel 37 [c0, c1] = some x) :
 ∃ (a1 : Option Addr) (L d1 : Nat) (a2 : Option Addr) (n d2 : Nat) (X : Nat -> PtD) (s : Nat -> ByteArray), c0 = .slice a1 L d1 /\ c1 = .slice a2 n d2 /\ MdF w.heap.size w (.slice a1 L d1) (.slice a2 n d2) L X n s /\ L <= 9223372036854775807 /\ n <= 9223372036854775807 /\ (∀ j, j < L -> PLr (X j)) /\ ∀ j, j < n -> (s j).size <= 9223372036854775807 := by
 obtain ⟨xs, n, _, _, _, hlen, hall⟩ := DataW.trod_struct zoe h
 have hfld := zpq
 generalize Tryz.prog.fieldsOf 37 = fs at hall hfld hlen
 obtain ⟨l⟩ := fs
 have hl : l.length = 2 := by have := congrArg List.length hfld; simpa using this
 match l, hl with
 | [f0, f1], _ =>
   simp only [List.map_cons, List.map_nil, List.cons.injEq, Prod.mk.injEq, and_true] at hfld
   obtain ⟨⟨a0, b0, d0⟩, a1, b1, d1⟩ := hfld
   simp at hlen
   match xs, hlen with
   | [y0, y1], _ =>
     have e0 := hall 0 f0 rfl
     have e1 := hall 1 f1 rfl
     rw [a0, b0] at e0
     rw [a1, b1] at e1
     rw [a0] at d0
     rw [a1] at d1
     simp [d0, d1] at e0 e1
     obtain ⟨a2, c2, L, X, rfl, l2, s2, hX⟩ := zuq e0
     obtain ⟨ar, n, cr, s, rfl, l1, s1, hS⟩ := zof e1
     exact ⟨a2, L, c2, ar, n, cr, X, s, rfl, rfl, ⟨s2, s1⟩, l2, l1, hX, hS⟩
theorem zun {H : Type} {enc : TypeId × Value -> H} {w : World} {fuel : Nat} {x : DataW H × List MemPlace} {c0 c1 c2 c3 c4 c5 c6 c7 c8 c9 : Value} (h : DataW.trod enc Tryz.prog w 0 (fun _ => true) true fuel 25 [c0, c1, c2, c3, c4, c5, c6, c7, c8, c9] = some x) :
 ∃ (aw : Option Addr) (cw : Nat) (ws : List Int) (smz toh top : Int) (cyc : Bool) (sn old cpz sr : Int) (ar : Option Addr) (cr : Nat) (rs : List (Int × Int)) (y : Nat -> Int), [c0, c1, c2, c3, c4, c5, c6, c7, c8, c9] = [.slice aw ws.length cw, .int .i64 smz, .int .i64 toh, .int .i64 top, .bool cyc, .int .i64 sn, .int .i64 old, .int .i64 cpz, .int .i64 sr, .slice ar rs.length cr] /\ Sl w (.slice aw ws.length cw) ws /\ zg ws /\ SlF w.heap.size w (.slice ar rs.length cr) rs.length (2 * rs.length) (fun i => .int .i64 (y i)) /\ ws.length <= 9223372036854775807 /\ rs.length <= 9223372036854775807 := by
 obtain ⟨xs, n, _, _, _, hlen, hall⟩ := DataW.trod_struct zps h
 have hfld := zsm
 generalize Tryz.prog.fieldsOf 25 = fs at hall hfld hlen
 obtain ⟨l⟩ := fs
 have hl : l.length = 10 := by have := congrArg List.length hfld; simpa using this
 match l, hl with
 | [f0, f1, f2, f3, f4, f5, f6, f7, f8, f9], _ =>
   simp only [List.map_cons, List.map_nil, List.cons.injEq, Prod.mk.injEq, and_true] at hfld
   obtain ⟨⟨a0, b0, d0⟩, ⟨a1, b1, d1⟩, ⟨a2, b2, d2⟩, ⟨a3, b3, d3⟩, ⟨a4, b4, d4⟩, ⟨a5, b5, d5⟩, ⟨a6, b6, d6⟩, ⟨a7, b7, d7⟩, ⟨a8, b8, d8⟩, a9, b9, d9⟩ := hfld
   simp at hlen
   match xs, hlen with
   | [y0, y1, y2, y3, y4, y5, y6, y7, y8, y9], _ =>
     have e0 := hall 0 f0 rfl
     have e1 := hall 1 f1 rfl
     have e2 := hall 2 f2 rfl
     have e3 := hall 3 f3 rfl
     have e4 := hall 4 f4 rfl
     have e5 := hall 5 f5 rfl
     have e6 := hall 6 f6 rfl
     have e7 := hall 7 f7 rfl
     have e8 := hall 8 f8 rfl
     have e9 := hall 9 f9 rfl
     rw [a0, b0] at e0
     rw [a1, b1] at e1
     rw [a2, b2] at e2
     rw [a3, b3] at e3
     rw [a4, b4] at e4
     rw [a5, b5] at e5
     rw [a6, b6] at e6
     rw [a7, b7] at e7
     rw [a8, b8] at e8
     rw [a9, b9] at e9
     rw [a0] at d0
     rw [a1] at d1
     rw [a4] at d4
     rw [a9] at d9
     simp [d0, d1, d4, d9] at e0 e1 e2 e3 e4 e5 e6 e7 e8 e9
     obtain ⟨aw, cw, ws, rfl, l1, s1, w1⟩ := zwf e0
     obtain ⟨z1, k1, _⟩ := DataW.trod_int Tryz.underlying3 e1
     obtain ⟨z2, k2, _⟩ := DataW.trod_int Tryz.underlying3 e2
     obtain ⟨z3, k3, _⟩ := DataW.trod_int Tryz.underlying3 e3
     obtain ⟨z4, k4, _⟩ := DataW.trod_bool Tryz.underlying4 e4
     obtain ⟨z5, k5, _⟩ := DataW.trod_int Tryz.underlying3 e5
     obtain ⟨z6, k6, _⟩ := DataW.trod_int Tryz.underlying3 e6
     obtain ⟨z7, k7, _⟩ := DataW.trod_int Tryz.underlying3 e7
     obtain ⟨z8, k8, _⟩ := DataW.trod_int Tryz.underlying3 e8
     obtain ⟨ar, cr, rs, y, rfl, l2, s2⟩ := zxc e9
     simp only [List.cons.injEq, and_true] at k1 k2 k3 k4 k5 k6 k7 k8
     subst k1 k2 k3 k4 k5 k6 k7 k8
     exact ⟨aw, cw, ws, z1, z2, z3, z4, z5, z6, z7, z8, ar, cr, rs, y, rfl, s1, w1, s2, l1, l2⟩
theorem zsj : Tryz.prog.underlying 39 = some (.struct (Tryz.prog.fieldsOf 39)) := by kernel_rfl
theorem zuo : (Tryz.prog.fieldsOf 39).toList.map (fun f => (f.type, f.offset, Tryz.prog.cellsOf f.type)) = [(3, 0, 1), (3, 1, 1)] := by kernel_rfl
theorem zw9 {H : Type} {enc : TypeId × Value -> H} {w : World} {fuel : Nat} {x : DataW H × List MemPlace} {c0 c1 : Value} (h : DataW.trod enc Tryz.prog w 0 (fun _ => true) true fuel 39 [c0, c1] = some x) : ∃ a b : Int, c0 = .int .i64 a /\ c1 = .int .i64 b := by
 obtain ⟨xs, n, _, _, _, hlen, hall⟩ := DataW.trod_struct zsj h
 have hfld := zuo
 generalize Tryz.prog.fieldsOf 39 = fs at hall hfld hlen
 obtain ⟨l⟩ := fs
 have hl : l.length = 2 := by have := congrArg List.length hfld; simpa using this
 match l, hl with
 | [f0, f1], _ =>
   simp only [List.map_cons, List.map_nil, List.cons.injEq, Prod.mk.injEq, and_true] at hfld
   obtain ⟨⟨a0, b0, d0⟩, a1, b1, d1⟩ := hfld
   simp at hlen
   match xs, hlen with
   | [y0, y1], _ =>
     have e0 := hall 0 f0 rfl
     have e1 := hall 1 f1 rfl
     rw [a0, b0] at e0
     rw [a1, b1] at e1
     rw [a0] at d0
     simp [d0] at e0 e1
     obtain ⟨z0, k0, _⟩ := DataW.trod_int Tryz.underlying3 e0
     obtain ⟨z1, k1, _⟩ := DataW.trod_int Tryz.underlying3 e1
     simp only [List.cons.injEq, and_true] at k0 k1
     exact ⟨z0, z1, k0, k1⟩
theorem zxa {α : Type} {cs : Array α} (h : cs.size = 20) : ∃ c0 c1 c2 c3 c4 c5 c6 c7 c8 c9 c10 c11 c12 c13 c14 c15 c16 c17 c18 c19, cs = #[c0, c1, c2, c3, c4, c5, c6, c7, c8, c9, c10, c11, c12, c13, c14, c15, c16, c17, c18, c19] := by
 obtain ⟨l⟩ := cs
 match l, h with
 | [c0, c1, c2, c3, c4, c5, c6, c7, c8, c9, c10, c11, c12, c13, c14, c15, c16, c17, c18, c19], _ => exact ⟨_, _, _, _, _, _, _, _, _, _, _, _, _, _, _, _, _, _, _, _, rfl⟩
theorem zob : Tryz.prog.cellsOf 41 = 20 := by kernel_rfl
theorem zho : Tryz.prog.underlying 41 = some (.struct (Tryz.prog.fieldsOf 41)) := by kernel_rfl
theorem zoc : (Tryz.prog.fieldsOf 41).toList.map (fun f => (f.type, f.offset, Tryz.prog.cellsOf f.type)) = [(37, 0, 2), (25, 2, 10), (4, 12, 1), (4, 13, 1), (4, 14, 1), (3, 15, 1), (39, 16, 2), (3, 18, 1), (35, 19, 1)] := by kernel_rfl
set_option maxHeartbeats 1000000 in
theorem zod {H : Type} {enc : TypeId × Value -> H} {w : World} {r : Reach} {b0 : Nat} {v : Value} {d : DataW H} {p : List MemPlace} (hv : Value.okWide Tryz.prog w r b0 41 v) (h : DataW.Trod enc Tryz.prog w 0 (fun _ => true) true 41 v d p) :
 ∃ (a1 : Option Addr) (L c1 : Nat) (a2 : Option Addr) (n c2 : Nat) (aw : Option Addr) (cw : Nat) (ws : List Int) (smz toh top : Int) (cyc : Bool) (sn old cpz sr : Int) (ar : Option Addr) (cr : Nat) (rs : List (Int × Int)) (fa de sh : Bool) (st et en sp : Int) (ao : Option Addr) (m co : Nat) (X : Nat -> PtD) (s : Nat -> ByteArray) (y : Nat -> Int) (u : Nat -> ByteArray), v = .agg #[.slice a1 L c1, .slice a2 n c2, .slice aw ws.length cw, .int .i64 smz, .int .i64 toh, .int .i64 top, .bool cyc, .int .i64 sn, .int .i64 old, .int .i64 cpz, .int .i64 sr, .slice ar rs.length cr, .bool fa, .bool de, .bool sh, .int .i64 st, .int .i64 et, .int .i64 en, .int .i64 sp, .slice ao m co] /\ McF w (.slice a1 L c1) (.slice a2 n c2) (.slice aw ws.length cw) (.slice ar rs.length cr) (.slice ao m co) L X n s ws rs.length y m u /\ zg ws /\ (L <= 9223372036854775807) /\ (n <= 9223372036854775807) /\ (∀ j, j < L -> PLr (X j)) /\ (∀ j, j < n -> (s j).size <= 9223372036854775807) /\ (ws.length <= 9223372036854775807) /\ (rs.length <= 9223372036854775807) /\ (m <= 9223372036854775807) /\ (∀ j, j < m -> (u j).size <= 9223372036854775807) := by
 obtain ⟨cs, rfl, hsz⟩ := okWide_struct zho hv
 obtain ⟨c0, c1, c2, c3, c4, c5, c6, c7, c8, c9, c10, c11, c12, c13, c14, c15, c16, c17, c18, c19, rfl⟩ := zxa (hsz.trans zob)
 obtain ⟨fuel, hf⟩ := h
 obtain ⟨xs, n, _, _, _, hlen, hall⟩ := DataW.trod_struct zho hf
 have hfld := zoc
 generalize Tryz.prog.fieldsOf 41 = fs at hall hfld hlen
 obtain ⟨l⟩ := fs
 have hl : l.length = 9 := by have := congrArg List.length hfld; simpa using this
 match l, hl with
 | [f0, f1, f2, f3, f4, f5, f6, f7, f8], _ =>
   simp only [List.map_cons, List.map_nil, List.cons.injEq, Prod.mk.injEq, and_true] at hfld
   obtain ⟨⟨a0, b0, d0⟩, ⟨a1, b1, d1⟩, ⟨a2, b2, d2⟩, ⟨a3, b3, d3⟩, ⟨a4, b4, d4⟩, ⟨a5, b5, d5⟩, ⟨a6, b6, d6⟩, ⟨a7, b7, d7⟩, a8, b8, d8⟩ := hfld
   simp at hlen
   match xs, hlen with
   | [y0, y1, y2, y3, y4, y5, y6, y7, y8], _ =>
     have e0 := hall 0 f0 rfl
     rw [a0, b0] at e0
     rw [a0] at d0
     have e1 := hall 1 f1 rfl
     rw [a1, b1] at e1
     rw [a1] at d1
     have e2 := hall 2 f2 rfl
     rw [a2, b2] at e2
     rw [a2] at d2
     have e3 := hall 3 f3 rfl
     rw [a3, b3] at e3
     rw [a3] at d3
     have e4 := hall 4 f4 rfl
     rw [a4, b4] at e4
     rw [a4] at d4
     have e5 := hall 5 f5 rfl
     rw [a5, b5] at e5
     rw [a5] at d5
     have e6 := hall 6 f6 rfl
     rw [a6, b6] at e6
     rw [a6] at d6
     have e7 := hall 7 f7 rfl
     rw [a7, b7] at e7
     rw [a7] at d7
     have e8 := hall 8 f8 rfl
     rw [a8, b8] at e8
     rw [a8] at d8
     simp [Value.cells, d0, d1, d2, d5, d6, d8] at e0 e1 e2 e3 e4 e5 e6 e7 e8
     obtain ⟨m1, L, m2, m3, n, m4, X, s, rfl, rfl, md, g1, g2, g3, g4⟩ := zsi e0
     obtain ⟨aw, cw, ws, z1, z2, z3, z4, z5, z6, z7, z8, ar, cr, rs, y, hc, s1, w1, s2, l1, l2⟩ := zun e1
     simp only [List.cons.injEq, and_true] at hc
     obtain ⟨rfl, rfl, rfl, rfl, rfl, rfl, rfl, rfl, rfl, rfl⟩ := hc
     obtain ⟨q2, k2, _⟩ := DataW.trod_bool Tryz.underlying4 e2
     obtain ⟨q3, k3, _⟩ := DataW.trod_bool Tryz.underlying4 e3
     obtain ⟨q4, k4, _⟩ := DataW.trod_bool Tryz.underlying4 e4
     obtain ⟨q5, k5, _⟩ := DataW.trod_int Tryz.underlying3 e5
     obtain ⟨t6, n6, rfl, rfl⟩ := zw9 e6
     obtain ⟨q7, k7, _⟩ := DataW.trod_int Tryz.underlying3 e7
     obtain ⟨ao, m, co, u, rfl, g7, ot, g8⟩ := zof e8
     simp only [List.cons.injEq, and_true] at k2 k3 k4 k5 k7
     subst k2 k3 k4 k5 k7
     exact ⟨_, _, _, _, _, _, _, _, _, _, _, _, _, _, _, _, _, _, _, _, _, _, _, _, _, _, _, _, _, _, X, s, y, u, rfl, ⟨md, s1, s2, ot⟩, w1, g1, g2, g3, g4, l1, l2, g7, g8⟩
end Go.Proofs.YtmckcnmlhgpnhaaGreat
