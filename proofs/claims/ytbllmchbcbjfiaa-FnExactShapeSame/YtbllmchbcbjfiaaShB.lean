/- The laws' copies of rows of values, of nodes and of shapes: what was handed in, in memory of its own. -/
import Derived.Test.YtbllmchbcbjfiaaProg
import Derived.Test.YtbllmchbcbjfiaaShA
import Derived.Test.YtbllmchbcbjfiaaValA
import Derived.Laws.MakeOwn
import Derived.Deep.CutRange
namespace Go.Proofs.Ytbllmchbcbjfiaa
set_option maxRecDepth 20000
open Go.RowKit
set_option linter.unusedSimpArgs false
set_option linter.unusedVariables false

theorem infoVS : (Try.prog.info? 42).map (fun i => (i.zero, i.size, i.bytes)) = some (some (.agg #[.int .i64 0, .int .i64 0]), 2, 16) := by kernel_rfl
theorem makeValsS (l : Int) (h0 : 0 ≤ l) (h1 : l ≤ 1048576) (w : World) : (Instr.makeSlice 28 (.int .i64 l) (.int .i64 l)).run Try.prog w = .ok (.slice (some ⟨w.heap.size, 0, none⟩) l.toNat l.toNat) (w.alloc (.cells (madeCells #[.int .i64 0, .int .i64 0] (l.toNat * 2)) 42)) := by
  obtain ⟨i, hi, hzz⟩ := Option.map_eq_some_iff.1 infoVS
  simp only [Prod.mk.injEq] at hzz
  obtain ⟨hz, hs, hb⟩ := hzz
  have := run_make (P := Try.prog) w 28 42 i _ Try.underlying28 hi hz .i64 .i64 l l h0 (Int.le_refl _) (by rw [hb]; omega) (by omega)
  rw [hs] at this
  exact this
theorem rowIs_valsS (w : World) (n : Nat) (t : TypeId) : (w.alloc (.cells (madeCells #[.int .i64 0, .int .i64 0] n) t)).rowIs w.heap.size t n (fun _ => .int .i64 0) :=
  ⟨_, Go.Deep.blk_alloc_new _ _, size_madeCells _ _, fun i hi => by
    have h : i % 2 = 0 ∨ i % 2 = 1 := by omega
    rcases h with h | h <;> simp [madeCells, hi, h]⟩

def FillS (w wr : World) (K n : Nat) (y : Nat → Int) (k : Nat) : Prop :=
  Below w.heap.size w wr ∧ wr.rowIs K 42 (n * 2) (fun j => .int .i64 (if j < 2 * k then y j else 0))
theorem fillS_step {w wr : World} {K n : Nat} {y : Nat → Int} {k : Nat} (h : FillS w wr K n y k) (hK : w.heap.size ≤ K) : FillS w ((wr.setCell ⟨K, k * 2, none⟩ (.int .i64 (y (2 * k)))).setCell ⟨K, k * 2 + 1, none⟩ (.int .i64 (y (2 * k + 1)))) K n y (k + 1) := by
  refine ⟨(h.1.setCell (p := ⟨K, k * 2, none⟩) hK _).setCell (p := ⟨K, k * 2 + 1, none⟩) hK _, ((h.2.set (k * 2) _).set (k * 2 + 1) _).congr fun j _ => ?_⟩
  by_cases e1 : j = k * 2 + 1
  · subst e1
    have : k * 2 + 1 < 2 * (k + 1) := by omega
    simp [this]
    congr 1
    omega
  · by_cases e2 : j = k * 2
    · subst e2
      have h1 : k * 2 < 2 * (k + 1) := by omega
      simp [h1]
      congr 1
      omega
    · by_cases e3 : j < 2 * k
      · have : j < 2 * (k + 1) := by omega
        simp [e1, e2, e3, this]
      · have : ¬ j < 2 * (k + 1) := by omega
        simp [e1, e2, e3, this]
theorem toValsS_at (a : Option Addr) (n cap : Nat) (y : Nat → Int) (T : Nat) (w : World) (hs : SlF T w (.slice a n cap) n (2 * n) (fun i => .int .i64 (y i))) (hn : n ≤ 1048576) :
    Calls Try.prog 12 #[.slice a n cap] w fun e w' => e = .returned (.slice (some ⟨w.heap.size, 0, none⟩) n n) ∧ w'.rowIs w.heap.size 42 (n * 2) (fun i => .int .i64 (y i)) ∧ Below w.heap.size w w' := by
  have hn' : (n : Int) ≤ 1048576 := by omega
  have hm1 := makeValsS (n : Int) (by omega) (by omega)
  rw [Int.toNat_natCast] at hm1
  have HS : Hid (SlF w.heap.size w (.slice a n cap) n (2 * n) (fun i => .int .i64 (y i))) := hs.here
  clear hs
  go_enter Try.func12, Try.ntmps12
  go_wp2
  go_loopw [4] (fun u4 wr => ∃ k : Nat, k ≤ n ∧ u4 = .int .i64 k ∧ FillS w wr w.heap.size n y k) (fun u4 _ => n - (intOf u4).toNat)
  case atStart => exact ⟨0, Nat.zero_le _, rfl, (Below.refl _ _).alloc (Nat.le_refl _) _, (rowIs_valsS w (n * 2) 42).congr (fun i _ => by simp)⟩
  case round =>
    obtain ⟨k, hk, rfl, hF⟩ := hrel
    by_cases hlt : k < n
    · have hlt' : (k : Int) < (n : Int) := by omega
      obtain ⟨br, offr, cap', hv, _, lbr, hcr⟩ := HS.out.parts (k := 0) (by omega)
      simp only [Value.slice.injEq] at hv
      obtain ⟨rfl, _, rfl⟩ := hv
      have hc1 : wr.cell? ⟨br, offr + k * 2, none⟩ = some (.int .i64 (y (2 * k))) := by rw [hF.1.cell (p := ⟨br, offr + k * 2, none⟩) lbr, Nat.mul_comm]; exact hcr (2 * k) (by omega)
      have hd1 : wr.cell? ⟨br, offr + k * 2 + 1, none⟩ = some (.int .i64 (y (2 * k + 1))) := by rw [hF.1.cell (p := ⟨br, offr + k * 2 + 1, none⟩) lbr, Nat.mul_comm]; exact hcr (2 * k + 1) (by omega)
      have HF : Hid (FillS w wr w.heap.size n y k) := hF
      have lK : w.heap.size < wr.heap.size := hF.2.lt
      clear hF hcr HS hm1
      go_wp2_with (go_at_call 20; refine (toVal_any _ _ _).mono ?_; rintro e w1 ⟨rfl, b1⟩; have hF1 : FillS w w1 w.heap.size n y k := ⟨below_next HF.out.1 b1, HF.out.2.of_block (b1.block _ lK)⟩; have g0 := hF1.2.cell (i := k * 2) (by omega); have g1 := hF1.2.cell (i := k * 2 + 1) (by omega); have gf := hF1.2.frozen)
      exact ⟨⟨k + 1, hlt, by go_num, fillS_step hF1 (Nat.le_refl _)⟩, by simp [intOf]; omega⟩
    · have hge : (n : Int) ≤ (k : Int) := by omega
      have hkn : k = n := by omega
      have hR : wr.rowIs w.heap.size 42 (n * 2) (fun i => .int .i64 (y i)) := hF.2.congr (fun j hj => by rw [if_pos (by omega)])
      clear hkn
      go_wp2
      go_ret
      exact ⟨rfl, hR, hF.1⟩
theorem infoN : (Try.prog.info? 38).map (fun i => (i.zero, i.size, i.bytes)) = some (some (.agg #[.int .i64 0, .int .i64 0, .int .i64 0, .int .i64 0, .string ⟨#[]⟩, .slice none 0 0]), 6, 72) := by kernel_rfl
theorem makeNodes (l : Int) (h0 : 0 ≤ l) (h1 : l ≤ 1048576) (w : World) : (Instr.makeSlice 29 (.int .i64 l) (.int .i64 l)).run Try.prog w = .ok (.slice (some ⟨w.heap.size, 0, none⟩) l.toNat l.toNat) (w.alloc (.cells (madeCells #[.int .i64 0, .int .i64 0, .int .i64 0, .int .i64 0, .string ⟨#[]⟩, .slice none 0 0] (l.toNat * 6)) 38)) := by
  obtain ⟨i, hi, hzz⟩ := Option.map_eq_some_iff.1 infoN
  simp only [Prod.mk.injEq] at hzz
  obtain ⟨hz, hs, hb⟩ := hzz
  have := run_make (P := Try.prog) w 29 38 i _ Try.underlying29 hi hz .i64 .i64 l l h0 (Int.le_refl _) (by rw [hb]; omega) (by omega)
  rw [hs] at this
  exact this
theorem slFS_set {W : World} {b n c m : Nat} {f : Nat → Value} (h : SlF W.heap.size W (.slice (some ⟨b, 0, none⟩) n c) n m f) {k i : Nat} (hne : k ≠ b) (v : Value) : SlF (W.setCell ⟨k, i, none⟩ v).heap.size (W.setCell ⟨k, i, none⟩ v) (.slice (some ⟨b, 0, none⟩) n c) n m f := by
  obtain ⟨a, cap, he, h⟩ := h
  refine ⟨a, cap, he, ?_⟩
  simp only [Value.slice.injEq] at he
  obtain ⟨rfl, _, _⟩ := he
  rcases h with h | ⟨b', off, ha, hb, hb2, hc⟩
  · exact .inl h
  · simp only [Option.some.injEq, Addr.mk.injEq] at ha
    obtain ⟨rfl, rfl, _⟩ := ha
    refine .inr ⟨_, _, rfl, by simpa using hb, by simpa using hb2, fun j hj => ?_⟩
    rw [World.cell?_setCell_other _ _ _ _ (fun e => hne (congrArg Addr.block e))]
    exact hc j hj
theorem slFS_six {W : World} {b n c m : Nat} {f : Nat → Value} (h : SlF W.heap.size W (.slice (some ⟨b, 0, none⟩) n c) n m f) {K : Nat} (hne : K ≠ b) (i0 i1 i2 i3 i4 i5 : Nat) (v0 v1 v2 v3 v4 v5 : Value) : SlF ((((((W.setCell ⟨K, i0, none⟩ v0).setCell ⟨K, i1, none⟩ v1).setCell ⟨K, i2, none⟩ v2).setCell ⟨K, i3, none⟩ v3).setCell ⟨K, i4, none⟩ v4).setCell ⟨K, i5, none⟩ v5).heap.size ((((((W.setCell ⟨K, i0, none⟩ v0).setCell ⟨K, i1, none⟩ v1).setCell ⟨K, i2, none⟩ v2).setCell ⟨K, i3, none⟩ v3).setCell ⟨K, i4, none⟩ v4).setCell ⟨K, i5, none⟩ v5) (.slice (some ⟨b, 0, none⟩) n c) n m f :=
  slFS_set (slFS_set (slFS_set (slFS_set (slFS_set (slFS_set h hne _) hne _) hne _) hne _) hne _) hne _
theorem rowIs_nodes (w : World) (n : Nat) (t : TypeId) : ∃ g, (w.alloc (.cells (madeCells #[.int .i64 0, .int .i64 0, .int .i64 0, .int .i64 0, .string ⟨#[]⟩, .slice none 0 0] n) t)).rowIs w.heap.size t n g :=
  ⟨fun i => (madeCells #[.int .i64 0, .int .i64 0, .int .i64 0, .int .i64 0, .string ⟨#[]⟩, .slice none 0 0] n).getD i (.bool false), _, Go.Deep.blk_alloc_new _ _, size_madeCells _ _, fun i hi => by
    simp [Array.getD, size_madeCells, hi]⟩
set_option maxHeartbeats 1000000 in
theorem toNode_at (k s n m : Int) (t : ByteArray) (a : Option Addr) (l c : Nat) (y : Nat → Int) (T : Nat) (w : World) (hs : SlF T w (.slice a l c) l (2 * l) (fun i => .int .i64 (y i))) (hn : l ≤ 1048576) :
    Calls Try.prog 21 #[.agg #[.int .i64 k, .int .i64 s, .int .i64 n, .int .i64 m, .string t, .slice a l c]] w fun e w' => ∃ b : Nat, e = .returned (.agg #[.int .i64 k, .int .i64 s, .int .i64 n, .int .i64 m, .string t, .slice (some ⟨b, 0, none⟩) l l]) ∧ SlF w'.heap.size w' (.slice (some ⟨b, 0, none⟩) l l) l (2 * l) (fun i => .int .i64 (y i)) ∧ w.heap.size ≤ b ∧ Below w.heap.size w w' := by
  have HS : Hid (SlF w.heap.size w (.slice a l c) l (2 * l) (fun i => .int .i64 (y i))) := hs.here
  clear hs
  go_enter Try.func21, Try.ntmps21
  have B3 : Below w.heap.size w (((w.alloc (.cells #[.int .i64 k, .int .i64 s, .int .i64 n, .int .i64 m, .string t, .slice a l c] 48)).alloc (.cells #[.int .i64 0, .int .i64 0, .int .i64 0, .int .i64 0, .string ⟨#[]⟩, .slice none 0 0] 38)).alloc (.cells #[.int .i64 k, .int .i64 s, .int .i64 n, .int .i64 m, .string t, .slice none 0 0] 38)) := (((Below.refl _ _).alloc (Nat.le_refl _) _).alloc (by simp) _).alloc (by simp; omega) _
  go_wp2_with (go_at_call 12; refine (toValsS_at _ _ _ y _ _ (HS.out.below B3 (Nat.le_refl _)) hn).mono ?_; rintro e w1 ⟨rfl, r1, b1⟩; have c5 := fun i => (bcell b1).1 (w.heap.size + 1 + 1) i (by simp); have c4 := fun i => (bcell b1).1 (w.heap.size + 1) i (by simp); have f5 := fun i => (bcell b1).2 (w.heap.size + 1 + 1) i (by simp); have f4 := fun i => (bcell b1).2 (w.heap.size + 1) i (by simp); have hz : w.heap.size + 1 + 1 + 1 ≤ w1.heap.size := (by have := b1.size; simp at this; omega); have BB : Hid (Below w.heap.size w w1) := B3.trans (b1.mono (by simp; omega)); have R1 : Hid (w1.rowIs (w.heap.size + 1 + 1 + 1) 42 (l * 2) (fun i => .int .i64 (y i))) := (by show World.rowIs _ _ _ _ _; simpa using r1); clear r1 b1)
  have p0 : ∀ i, i < 6 → (w1.cell? ⟨w.heap.size + 1, i, none⟩).isSome = true := fun i hi => by
    rw [c4]
    match i, hi with
    | 0, _ | 1, _ | 2, _ | 3, _ | 4, _ | 5, _ => simp [go_sem]
  have q0 := p0 0 (by omega)
  have q1 := p0 1 (by omega)
  have q2 := p0 2 (by omega)
  have q3 := p0 3 (by omega)
  have q4 := p0 4 (by omega)
  have q5 := p0 5 (by omega)
  clear c4 c5 f4 f5 p0
  refine bodyPost_ret (v := .agg #[.int .i64 k, .int .i64 s, .int .i64 n, .int .i64 m, .string t, .slice (some ⟨w.heap.size + 1 + 1 + 1, 0, none⟩) l l]) (by simp [results, Try.results21, go_sem, q0, q1, q2, q3, q4, q5]) rfl ⟨w.heap.size + 1 + 1 + 1, rfl, ?_, by omega, ?_⟩
  · refine slFS_six ?_ (by omega) _ _ _ _ _ _ _ _ _ _ _ _
    refine slFS_set ?_ (by omega) _
    exact ⟨_, _, rfl, .inr ⟨_, 0, rfl, R1.out.lt, R1.out.lt, fun i hi => by rw [Nat.zero_add]; exact R1.out.cell (by omega)⟩⟩
  · refine Below.setCell (Below.setCell (Below.setCell (Below.setCell (Below.setCell (Below.setCell (Below.setCell BB.out ?_ _) ?_ _) ?_ _) ?_ _) ?_ _) ?_ _) ?_ _ <;> (dsimp only; omega)

/-- The first j nodes stand in the row K, each with slots in a block of its own. -/
def FillN (w wr : World) (K L : Nat) (X : Nat → NodeD) (j : Nat) : Prop :=
  Below w.heap.size w wr ∧ ∃ g, wr.rowIs K 38 (L * 6) g ∧ ∀ p, p < j → ∃ B, g (p * 6) = .int .i64 (X p).k ∧ g (p * 6 + 1) = .int .i64 (X p).s ∧ g (p * 6 + 2) = .int .i64 (X p).n ∧ g (p * 6 + 3) = .int .i64 (X p).m ∧ g (p * 6 + 4) = .string (X p).t ∧ g (p * 6 + 5) = .slice (some ⟨B, 0, none⟩) (X p).len (X p).len ∧ K < B ∧ SlF wr.heap.size wr (.slice (some ⟨B, 0, none⟩) (X p).len (X p).len) (X p).len (2 * (X p).len) (fun i => .int .i64 ((X p).y i))
theorem fillN_below {w wr w1 : World} {K L : Nat} {X : Nat → NodeD} {j : Nat} (h : FillN w wr K L X j) (hb : Below wr.heap.size wr w1) : FillN w w1 K L X j := by
  obtain ⟨h0, g, h1, h2⟩ := h
  refine ⟨below_next h0 hb, g, h1.of_block (hb.block _ h1.lt), fun p hp => ?_⟩
  obtain ⟨B, g0, g1, g2, g3, g4, g5, hK, hs⟩ := h2 p hp
  exact ⟨B, g0, g1, g2, g3, g4, g5, hK, (hs.below hb (Nat.le_refl _)).here⟩
theorem fillN_step {w wr : World} {K L : Nat} {X : Nat → NodeD} {j : Nat} (h : FillN w wr K L X j) (hK : w.heap.size ≤ K) {x : NodeD} (hx : X j = x) {B : Nat} (hB : K < B) (hs : SlF wr.heap.size wr (.slice (some ⟨B, 0, none⟩) x.len x.len) x.len (2 * x.len) (fun i => .int .i64 (x.y i))) :
    FillN w ((((((wr.setCell ⟨K, j * 6, none⟩ (.int .i64 x.k)).setCell ⟨K, j * 6 + 1, none⟩ (.int .i64 x.s)).setCell ⟨K, j * 6 + 2, none⟩ (.int .i64 x.n)).setCell ⟨K, j * 6 + 3, none⟩ (.int .i64 x.m)).setCell ⟨K, j * 6 + 4, none⟩ (.string x.t)).setCell ⟨K, j * 6 + 5, none⟩ (.slice (some ⟨B, 0, none⟩) x.len x.len)) K L X (j + 1) := by
  subst hx
  obtain ⟨h0, g, h1, h2⟩ := h
  refine ⟨Below.setCell (Below.setCell (Below.setCell (Below.setCell (Below.setCell (Below.setCell h0 hK _) hK _) hK _) hK _) hK _) hK _, _, (((((h1.set (j * 6) _).set (j * 6 + 1) _).set (j * 6 + 2) _).set (j * 6 + 3) _).set (j * 6 + 4) _).set (j * 6 + 5) _, fun p hp => ?_⟩
  by_cases e : p = j
  · subst e
    refine ⟨B, ?_, ?_, ?_, ?_, ?_, ?_, hB, slFS_six hs (Nat.ne_of_lt hB) _ _ _ _ _ _ _ _ _ _ _ _⟩ <;> simp
  · obtain ⟨B', g0, g1, g2, g3, g4, g5, hK', hs'⟩ := h2 p (by omega)
    refine ⟨B', ?_, ?_, ?_, ?_, ?_, ?_, hK', slFS_six hs' (Nat.ne_of_lt hK') _ _ _ _ _ _ _ _ _ _ _ _⟩
    · repeat rw [if_neg (by omega)]
      exact g0
    · repeat rw [if_neg (by omega)]
      exact g1
    · repeat rw [if_neg (by omega)]
      exact g2
    · repeat rw [if_neg (by omega)]
      exact g3
    · repeat rw [if_neg (by omega)]
      exact g4
    · repeat rw [if_neg (by omega)]
      exact g5
/-- A slice of L nodes in blocks from B on. -/
def NdO (B : Nat) (w : World) (v : Value) (L : Nat) (X : Nat → NodeD) : Prop :=
  ∃ K cap, v = .slice (some ⟨K, 0, none⟩) L cap ∧ B ≤ K ∧ K < w.heap.size ∧ ∀ i, i < L → ∃ b c, B ≤ b ∧ w.cell? ⟨K, i * 6, none⟩ = some (.int .i64 (X i).k) ∧ w.cell? ⟨K, i * 6 + 1, none⟩ = some (.int .i64 (X i).s) ∧ w.cell? ⟨K, i * 6 + 2, none⟩ = some (.int .i64 (X i).n) ∧ w.cell? ⟨K, i * 6 + 3, none⟩ = some (.int .i64 (X i).m) ∧ w.cell? ⟨K, i * 6 + 4, none⟩ = some (.string (X i).t) ∧ w.cell? ⟨K, i * 6 + 5, none⟩ = some (.slice (some ⟨b, 0, none⟩) (X i).len c) ∧ SlF w.heap.size w (.slice (some ⟨b, 0, none⟩) (X i).len c) (X i).len (2 * (X i).len) (fun j => .int .i64 ((X i).y j))
theorem NdO.ndF {B : Nat} {w : World} {v : Value} {L : Nat} {X : Nat → NodeD} (h : NdO B w v L X) : NdF w.heap.size w v L X := by
  obtain ⟨K, cap, rfl, hB, hK, h⟩ := h
  refine ⟨_, _, rfl, .inr ⟨K, 0, rfl, hK, hK, fun i hi => ?_⟩⟩
  obtain ⟨b, c, _, h0, h1, h2, h3, h4, h5, h6⟩ := h i hi
  rw [Nat.zero_add]
  exact ⟨_, _, h0, h1, h2, h3, h4, h5, h6⟩
theorem NdO.set {B : Nat} {w : World} {v : Value} {L : Nat} {X : Nat → NodeD} (h : NdO B w v L X) {k j : Nat} (hk : k < B) (u : Value) : NdO B (w.setCell ⟨k, j, none⟩ u) v L X := by
  obtain ⟨K, cap, rfl, hB, hK, h⟩ := h
  refine ⟨K, cap, rfl, hB, by simpa using hK, fun i hi => ?_⟩
  obtain ⟨b, c, hb, h0, h1, h2, h3, h4, h5, h6⟩ := h i hi
  have e : ∀ o, (w.setCell ⟨k, j, none⟩ u).cell? ⟨K, o, none⟩ = w.cell? ⟨K, o, none⟩ := fun o => World.cell?_setCell_other _ _ _ _ (fun e => by have := congrArg Addr.block e; simp at this; omega)
  exact ⟨b, c, hb, by rw [e]; exact h0, by rw [e]; exact h1, by rw [e]; exact h2, by rw [e]; exact h3, by rw [e]; exact h4, by rw [e]; exact h5, slFS_set h6 (by omega) _⟩
theorem NdO.mono {B C : Nat} {w : World} {v : Value} {L : Nat} {X : Nat → NodeD} (h : NdO B w v L X) (hC : C ≤ B) : NdO C w v L X := by
  obtain ⟨K, cap, rfl, hB, hK, h⟩ := h
  refine ⟨K, cap, rfl, by omega, hK, fun i hi => ?_⟩
  obtain ⟨b, c, hb, r⟩ := h i hi
  exact ⟨b, c, by omega, r⟩
theorem fillN_end {w wr : World} {K L : Nat} {X : Nat → NodeD} (h : FillN w wr K L X L) : NdO K wr (.slice (some ⟨K, 0, none⟩) L L) L X := by
  obtain ⟨h0, g, h1, h2⟩ := h
  refine ⟨_, _, rfl, Nat.le_refl _, h1.lt, fun i hi => ?_⟩
  obtain ⟨B, g0, g1, g2, g3, g4, g5, hK, hs⟩ := h2 i hi
  exact ⟨_, _, Nat.le_of_lt hK, by rw [h1.cell (by omega), g0], by rw [h1.cell (by omega), g1], by rw [h1.cell (by omega), g2], by rw [h1.cell (by omega), g3], by rw [h1.cell (by omega), g4], by rw [h1.cell (by omega), g5], hs⟩
set_option maxHeartbeats 1000000 in
theorem toNodeS_at (a : Option Addr) (L cap : Nat) (X : Nat → NodeD) (T : Nat) (w : World) (hs : NdF T w (.slice a L cap) L X) (hT : T ≤ w.heap.size) (hn : L ≤ 1048576) (hX : ∀ j, j < L → (X j).len ≤ 1048576) :
    Calls Try.prog 13 #[.slice a L cap] w fun e w' => e = .returned (.slice (some ⟨w.heap.size, 0, none⟩) L L) ∧ NdO w.heap.size w' (.slice (some ⟨w.heap.size, 0, none⟩) L L) L X ∧ Below w.heap.size w w' := by
  have hn' : (L : Int) ≤ 1048576 := by omega
  have hm1 := makeNodes (L : Int) (by omega) (by omega)
  rw [Int.toNat_natCast] at hm1
  have HS : Hid (NdF T w (.slice a L cap) L X) := hs
  have HX : Hid (∀ j, j < L → (X j).len ≤ 1048576) := hX
  clear hs hX
  go_enter Try.func13, Try.ntmps13
  go_wp2
  go_loopw [4] (fun u4 wr => ∃ k : Nat, k ≤ L ∧ u4 = .int .i64 k ∧ FillN w wr w.heap.size L X k) (fun u4 _ => L - (intOf u4).toNat)
  case atStart =>
    obtain ⟨g, hg⟩ := rowIs_nodes w (L * 6) 38
    exact ⟨0, Nat.zero_le _, rfl, (Below.refl _ _).alloc (Nat.le_refl _) _, g, hg, fun p hp => absurd hp (Nat.not_lt_zero _)⟩
  case round =>
    obtain ⟨j, hk, rfl, hF⟩ := hrel
    by_cases hlt : j < L
    · have hlt' : (j : Int) < (L : Int) := by omega
      obtain ⟨b, off, rfl, lb, lz, hc⟩ := HS.out.at_ hlt
      obtain ⟨ax, cx, c0, c1, c2, c3, c4, c5, sx⟩ := (hc j hlt).below hF.1 hT lb
      have x1 := HX.out j hlt
      have HF : Hid (FillN w wr w.heap.size L X j) := hF
      obtain ⟨gK, hgK, -⟩ := hF.2
      have lK : w.heap.size < wr.heap.size := hgK.lt
      clear hgK
      have HE : Hid (∃ x, X j = x) := ⟨_, rfl⟩
      obtain ⟨x, hx⟩ := HE.out
      rw [hx] at c0 c1 c2 c3 c4 c5 sx x1
      have Hx : Hid (X j = x) := hx
      obtain ⟨k, s, n, m, t, l, y⟩ := x
      simp only at c0 c1 c2 c3 c4 c5 sx x1
      have SX : Hid (SlF T wr (.slice ax l cx) l (2 * l) (fun i => .int .i64 (y i))) := sx
      clear hF hc HS HX hm1 HE hx sx
      go_wp2_with (go_at_call 21; refine (toNode_at _ _ _ _ _ _ _ _ y _ _ SX.out x1).mono ?_; rintro e w1 ⟨B, rfl, s1, lB, b1⟩; have F1 : Hid (FillN w w1 w.heap.size L X j) := fillN_below HF.out b1; have S1 : Hid (SlF w1.heap.size w1 (.slice (some ⟨B, 0, none⟩) l l) l (2 * l) (fun i => .int .i64 (y i))) := s1; have HB : Hid (w.heap.size < B) := (by show w.heap.size < B; omega); obtain ⟨g, hg, -⟩ := F1.out.2; have g0 := hg.cell (i := j * 6) (by omega); have g1 := hg.cell (i := j * 6 + 1) (by omega); have g2 := hg.cell (i := j * 6 + 2) (by omega); have g3 := hg.cell (i := j * 6 + 3) (by omega); have g4 := hg.cell (i := j * 6 + 4) (by omega); have g5 := hg.cell (i := j * 6 + 5) (by omega); have gf := hg.frozen; clear hg s1 b1 lB)
      exact ⟨⟨j + 1, hlt, by go_num, fillN_step F1.out (Nat.le_refl _) Hx.out HB.out S1.out⟩, by simp [intOf]; omega⟩
    · have hge : (L : Int) ≤ (j : Int) := by omega
      have hkn : j = L := by omega
      have HF : Hid (FillN w wr w.heap.size L X L) := hkn ▸ hF
      clear hkn hF
      go_wp2
      go_ret
      exact ⟨rfl, fillN_end HF.out, HF.out.1⟩
/-- A shape's two rows. -/
def ShF (T : Nat) (w : World) (v1 v2 : Value) (n : Nat) (y : Nat → Int) (L : Nat) (X : Nat → NodeD) : Prop := SlF T w v1 n (2 * n) (fun i => .int .i64 (y i)) ∧ NdF T w v2 L X
theorem ShF.below {T C : Nat} {w w' : World} {v1 v2 : Value} {n : Nat} {y : Nat → Int} {L : Nat} {X : Nat → NodeD} (h : ShF T w v1 v2 n y L X) (hb : Below C w w') (hT : T ≤ C) : ShF T w' v1 v2 n y L X := ⟨h.1.below hb hT, h.2.below hb hT⟩
theorem ShF.mono {T T' : Nat} {w : World} {v1 v2 : Value} {n : Nat} {y : Nat → Int} {L : Nat} {X : Nat → NodeD} (h : ShF T w v1 v2 n y L X) (hT : T ≤ T') : ShF T' w v1 v2 n y L X := ⟨h.1.mono hT, h.2.mono hT⟩
set_option maxHeartbeats 1000000 in
/-- The laws' copy of a shape. -/
theorem toShape_at (a1 : Option Addr) (n c1 : Nat) (a2 : Option Addr) (L c2 : Nat) (y : Nat → Int) (X : Nat → NodeD) (T : Nat) (w : World) (hs : ShF T w (.slice a1 n c1) (.slice a2 L c2) n y L X) (hT : T ≤ w.heap.size) (hn : n ≤ 1048576) (hL : L ≤ 1048576) (hX : ∀ j, j < L → (X j).len ≤ 1048576) :
    Calls Try.prog 6 #[.agg #[.slice a1 n c1, .slice a2 L c2]] w fun e w' => ∃ b1 b2 : Nat, e = .returned (.agg #[.slice (some ⟨b1, 0, none⟩) n n, .slice (some ⟨b2, 0, none⟩) L L]) ∧ ShF w'.heap.size w' (.slice (some ⟨b1, 0, none⟩) n n) (.slice (some ⟨b2, 0, none⟩) L L) n y L X ∧ Below w.heap.size w w' := by
  have HS : Hid (ShF T w (.slice a1 n c1) (.slice a2 L c2) n y L X) := hs
  have HX : Hid (∀ j, j < L → (X j).len ≤ 1048576) := hX
  clear hs hX
  go_enter Try.func6, Try.ntmps6
  have B3 : Below w.heap.size w (((w.alloc (.cells #[.slice a1 n c1, .slice a2 L c2] 25)).alloc (.cells #[.slice none 0 0, .slice none 0 0] 31)).alloc (.cells #[.slice none 0 0, .slice none 0 0] 31)) := (((Below.refl _ _).alloc (Nat.le_refl _) _).alloc (by simp) _).alloc (by simp; omega) _
  go_wp2_with (first | (go_at_call 12; refine (toValsS_at _ _ _ y _ _ (HS.out.1.below B3 hT) hn).mono ?_; rintro e w1 ⟨rfl, r1, b1⟩; have c5 := fun i => (bcell b1).1 (w.heap.size + 1 + 1) i (by simp); have c4 := fun i => (bcell b1).1 (w.heap.size + 1) i (by simp); have c3 := fun i => (bcell b1).1 (w.heap.size) i (by simp; omega); have f5 := fun i => (bcell b1).2 (w.heap.size + 1 + 1) i (by simp); have f4 := fun i => (bcell b1).2 (w.heap.size + 1) i (by simp); have hz : w.heap.size + 1 + 1 + 1 < w1.heap.size := (by have := r1.lt; simp at this; omega); have BB : Hid (Below w.heap.size w w1) := B3.trans (b1.mono (by simp; omega)); have R1 : Hid (w1.rowIs (w.heap.size + 1 + 1 + 1) 42 (n * 2) (fun i => .int .i64 (y i))) := (by show World.rowIs _ _ _ _ _; simpa using r1); clear r1 b1))
  obtain ⟨W9, hW9⟩ : ∃ W, W = w1.setCell ⟨w.heap.size + 1 + 1, 0, none⟩ (.slice (some ⟨w.heap.size + 1 + 1 + 1, 0, none⟩) n n) := ⟨_, rfl⟩
  have z9 : W9.heap.size = w1.heap.size := by rw [hW9]; simp
  have B9 : Below w.heap.size w W9 := by rw [hW9]; exact BB.out.setCell (by dsimp only; omega) _
  have k2 : ∀ i, W9.cell? ⟨w.heap.size + 1, i, none⟩ = w1.cell? ⟨w.heap.size + 1, i, none⟩ := fun i => by rw [hW9]; exact World.cell?_setCell_other _ _ _ _ (fun e => by have := congrArg Addr.block e; simp at this)
  have m0 : W9.cell? ⟨w.heap.size + 1 + 1, 0, none⟩ = some (.slice (some ⟨w.heap.size + 1 + 1 + 1, 0, none⟩) n n) := by rw [hW9]; exact World.cell?_setCell_same' _ _ _ (by rw [c5]; simp [go_sem])
  have m1 : W9.cell? ⟨w.heap.size + 1 + 1, 1, none⟩ = some (.slice none 0 0) := by rw [hW9, World.cell?_setCell_other _ _ _ _ (fun e => by have := congrArg Addr.off e; simp at this), c5]; simp [go_sem]
  have q0 : W9.cell? ⟨w.heap.size + 1, 0, none⟩ = some (.slice none 0 0) := by rw [k2, c4]; simp [go_sem]
  have q1 : W9.cell? ⟨w.heap.size + 1, 1, none⟩ = some (.slice none 0 0) := by rw [k2, c4]; simp [go_sem]
  have e5 : ∀ i, W9.frozen? ⟨w.heap.size + 1 + 1, i, none⟩ = false := fun i => by rw [hW9]; simp [go_sem, f5]
  have e4 : ∀ i, W9.frozen? ⟨w.heap.size + 1, i, none⟩ = false := fun i => by rw [hW9]; simp [go_sem, f4]
  have R9 : W9.rowIs (w.heap.size + 1 + 1 + 1) 42 (n * 2) (fun i => .int .i64 (y i)) := by rw [hW9]; exact R1.out.setOther (a := ⟨w.heap.size + 1 + 1, 0, none⟩) (by dsimp only; omega) _
  rw [← hW9]
  clear hW9 c5 c4 c3 f5 f4 k2 R1 BB
  refine (toNodeS_at _ _ _ X _ _ (HS.out.2.below B9 hT) (by rw [z9]; omega) hL HX.out).mono ?_
  rintro e w2 ⟨rfl, s2, b2⟩
  have hz2 : W9.heap.size ≤ w2.heap.size := b2.size
  have n0 := ((bcell b2).1 (w.heap.size + 1 + 1) 0 (by omega)).trans m0
  have n1 := ((bcell b2).1 (w.heap.size + 1 + 1) 1 (by omega)).trans m1
  have p0 := ((bcell b2).1 (w.heap.size + 1) 0 (by omega)).trans q0
  have p1 := ((bcell b2).1 (w.heap.size + 1) 1 (by omega)).trans q1
  have g5 := fun i => ((bcell b2).2 (w.heap.size + 1 + 1) i (by omega)).trans (e5 i)
  have g4 := fun i => ((bcell b2).2 (w.heap.size + 1) i (by omega)).trans (e4 i)
  have R2 : Hid (w2.rowIs (w.heap.size + 1 + 1 + 1) 42 (n * 2) (fun i => .int .i64 (y i))) := R9.of_block (b2.block _ R9.lt)
  have S2 : Hid (NdO W9.heap.size w2 (.slice (some ⟨W9.heap.size, 0, none⟩) L L) L X) := s2
  have BB : Hid (Below w.heap.size w w2) := below_next B9 b2
  have lz : Hid (w.heap.size + 1 + 1 + 1 < W9.heap.size) := by show _ < _; omega
  clear m0 m1 q0 q1 e5 e4 R9 s2 b2 B9 HS HX
  go_wp2
  have i0 : (w2.cell? ⟨w.heap.size + 1, 0, none⟩).isSome = true := by rw [p0]; rfl
  have i1 : (w2.cell? ⟨w.heap.size + 1, 1, none⟩).isSome = true := by rw [p1]; rfl
  refine bodyPost_ret (v := .agg #[.slice (some ⟨w.heap.size + 1 + 1 + 1, 0, none⟩) n n, .slice (some ⟨W9.heap.size, 0, none⟩) L L]) (by simp [results, Try.results6, go_sem, i0, i1]) rfl ⟨_, _, rfl, ⟨?_, ?_⟩, ?_⟩
  · refine slFS_set (slFS_set (slFS_set ?_ (by omega) _) (by omega) _) (by omega) _
    exact ⟨_, _, rfl, .inr ⟨_, 0, rfl, R2.out.lt, R2.out.lt, fun i hi => by rw [Nat.zero_add]; exact R2.out.cell (by omega)⟩⟩
  · exact (((S2.out.set (by have := lz.out; omega) _).set (by have := lz.out; omega) _).set (by have := lz.out; omega) _).ndF
  · refine Below.setCell (Below.setCell (Below.setCell BB.out ?_ _) ?_ _) ?_ _ <;> (dsimp only; omega)

/-- The laws' helpers at two shapes that are alike. -/
theorem eqNode_twin (k s n m : Int) (t : ByteArray) (a : Option Addr) (l c : Nat) (a' : Option Addr) (c' : Nat) (y : Nat → Int) (T1 T2 : Nat) (w : World) (h1 : SlF T1 w (.slice a l c) l (2 * l) (fun i => .int .i64 (y i))) (h2 : SlF T2 w (.slice a' l c') l (2 * l) (fun i => .int .i64 (y i))) (hn : l ≤ 1048576) :
    Calls Try.prog 23 #[.agg #[.int .i64 k, .int .i64 s, .int .i64 n, .int .i64 m, .string t, .slice a l c], .agg #[.int .i64 k, .int .i64 s, .int .i64 n, .int .i64 m, .string t, .slice a' l c']] w fun e w' => e = .returned (.bool true) ∧ Below w.heap.size w w' := by
  have H1 : Hid (SlF w.heap.size w (.slice a l c) l (2 * l) (fun i => .int .i64 (y i))) := h1.here
  have H2 : Hid (SlF w.heap.size w (.slice a' l c') l (2 * l) (fun i => .int .i64 (y i))) := h2.here
  clear h1 h2
  go_enter Try.func23, Try.ntmps23
  have B2 : Below w.heap.size w ((w.alloc (.cells #[.int .i64 k, .int .i64 s, .int .i64 n, .int .i64 m, .string t, .slice a l c] 38)).alloc (.cells #[.int .i64 k, .int .i64 s, .int .i64 n, .int .i64 m, .string t, .slice a' l c'] 38)) := ((Below.refl _ _).alloc (Nat.le_refl _) _).alloc (by simp) _
  go_wp2_with (go_at_call 17; refine (eqValS_same _ _ _ _ _ y _ (H1.out.below B2 (Nat.le_refl _)) (H2.out.below B2 (Nat.le_refl _)) hn).mono ?_; rintro e w1 ⟨rfl, b1⟩; have BB : Hid (Below w.heap.size w w1) := B2.trans (b1.mono (by simp; omega)); clear b1)
  go_ret
  exact ⟨rfl, BB.out⟩
set_option maxHeartbeats 1000000 in
theorem eqNodeS_same (a1 a2 : Option Addr) (c1 c2 L : Nat) (X : Nat → NodeD) (T : Nat) (w : World) (h1 : NdF T w (.slice a1 L c1) L X) (h2 : NdF T w (.slice a2 L c2) L X) (hT : T ≤ w.heap.size) (hn : L ≤ 1048576) (hX : ∀ j, j < L → (X j).len ≤ 1048576) :
    Calls Try.prog 18 #[.slice a1 L c1, .slice a2 L c2] w fun e w' => e = .returned (.bool true) ∧ Below w.heap.size w w' := by
  have hn' : (L : Int) ≤ 1048576 := by omega
  have H1 : Hid (NdF T w (.slice a1 L c1) L X) := h1
  have H2 : Hid (NdF T w (.slice a2 L c2) L X) := h2
  have HX : Hid (∀ j, j < L → (X j).len ≤ 1048576) := hX
  clear h1 h2 hX
  go_enter Try.func18, Try.ntmps18
  go_wp2
  go_loopw [5] (fun i wr => ∃ k : Nat, k ≤ L ∧ i = .int .i64 k ∧ Below w.heap.size w wr) (fun i _ => L - (intOf i).toNat)
  case atStart => exact ⟨0, Nat.zero_le _, rfl, Below.refl _ _⟩
  case round =>
    obtain ⟨j, hk, rfl, hF⟩ := hrel
    by_cases hlt : j < L
    · have hlt' : (j : Int) < (L : Int) := by omega
      obtain ⟨b, off, rfl, lb, lz, hc⟩ := H1.out.at_ hlt
      obtain ⟨b', off', rfl, lb', lz', hc'⟩ := H2.out.at_ hlt
      obtain ⟨ax, cx, c0, c1, c2, c3, c4, c5, sx⟩ := (hc j hlt).below hF hT lb
      obtain ⟨ay, cy, d0, d1, d2, d3, d4, d5, sy⟩ := (hc' j hlt).below hF hT lb'
      have x1 := HX.out j hlt
      clear hc hc' H1 H2 HX
      generalize X j = x at c0 c1 c2 c3 c4 c5 sx d0 d1 d2 d3 d4 d5 sy x1
      obtain ⟨k, s, n, m, t, l, y⟩ := x
      simp only at c0 c1 c2 c3 c4 c5 sx d0 d1 d2 d3 d4 d5 sy x1
      have SX : Hid (SlF T wr (.slice ax l cx) l (2 * l) (fun i => .int .i64 (y i))) := sx
      have SY : Hid (SlF T wr (.slice ay l cy) l (2 * l) (fun i => .int .i64 (y i))) := sy
      have HF : Hid (Below w.heap.size w wr) := hF
      have hT2 : T ≤ wr.heap.size := Nat.le_trans hT hF.size
      clear sx sy hF
      go_wp2
      go_region_with (go_at_call 23; refine (eqNode_twin _ _ _ _ _ _ _ _ _ _ y _ _ _ (SX.out.below (Below.refl _ _).drew hT2) (SY.out.below (Below.refl _ _).drew hT2) x1).mono ?_; rintro e w1 ⟨rfl, b1⟩)
      all_goals
        have hB := below_next HF.out.drew b1
        clear b1
        go_wp2
        go_roundw
        case rel => exact ⟨j + 1, by omega, by go_num, hB⟩
        case measure => simp [intOf]; omega
    · have hge : (L : Int) ≤ (j : Int) := by omega
      go_wp2
      go_ret
      exact ⟨rfl, hF⟩
theorem eqShape_same (a1 a2 a1' a2' : Option Addr) (c1 c2 c1' c2' n L : Nat) (y : Nat → Int) (X : Nat → NodeD) (T : Nat) (w : World) (h1 : ShF T w (.slice a1 n c1) (.slice a2 L c2) n y L X) (h2 : ShF T w (.slice a1' n c1') (.slice a2' L c2') n y L X) (hT : T ≤ w.heap.size) (hn : n ≤ 1048576) (hL : L ≤ 1048576) (hX : ∀ j, j < L → (X j).len ≤ 1048576) :
    Calls Try.prog 8 #[.agg #[.slice a1 n c1, .slice a2 L c2], .agg #[.slice a1' n c1', .slice a2' L c2']] w fun e w' => e = .returned (.bool true) ∧ Below w.heap.size w w' := by
  have H1 : Hid (ShF T w (.slice a1 n c1) (.slice a2 L c2) n y L X) := h1
  have H2 : Hid (ShF T w (.slice a1' n c1') (.slice a2' L c2') n y L X) := h2
  have HX : Hid (∀ j, j < L → (X j).len ≤ 1048576) := hX
  clear h1 h2 hX
  go_enter Try.func8, Try.ntmps8
  have B2 : Below w.heap.size w ((w.alloc (.cells #[.slice a1 n c1, .slice a2 L c2] 31)).alloc (.cells #[.slice a1' n c1', .slice a2' L c2'] 31)) := ((Below.refl _ _).alloc (Nat.le_refl _) _).alloc (by simp) _
  go_wp2_with (first | (go_at_call 17; refine (eqValS_same _ _ _ _ _ y _ (H1.out.1.below B2 hT) (H2.out.1.below B2 hT) hn).mono ?_; rintro e w1 ⟨rfl, b1⟩; have k1 := fun i => (bcell b1).1 (w.heap.size + 1) i (by simp); have k0 := fun i => (bcell b1).1 w.heap.size i (by simp; omega); have z1 : w.heap.size + 1 + 1 ≤ w1.heap.size := (by have := b1.size; simp at this; omega); have BB : Hid (Below w.heap.size w w1) := B2.trans (b1.mono (by simp; omega)); clear b1) | (go_at_call 18; refine (eqNodeS_same _ _ _ _ _ X _ _ (H1.out.2.below BB.out hT) (H2.out.2.below BB.out hT) (by omega) hL HX.out).mono ?_; rintro e w2 ⟨rfl, b2⟩))
  go_ret
  exact ⟨rfl, below_next BB.out b2⟩
end Go.Proofs.Ytbllmchbcbjfiaa
