/- - -/
import Derived.Test.YtiglkhkfbgjjoaaDoorQTrB
namespace Go.Proofs.YtiglkhkfbgjjoaaDoor
set_option maxRecDepth 20000
open Go.RowKit
set_option linter.unusedSimpArgs false
set_option linter.unusedVariables false
def zdv (T : Nat) (w : World) (b o : Nat) (x : KnD) : Prop :=
 ∃ a c, w.cell? ⟨b, o, none⟩ = some (.int .i64 x.k) /\ w.cell? ⟨b, o + 1, none⟩ = some (.string x.t) /\ w.cell? ⟨b, o + 2, none⟩ = some (.int .i64 x.i) /\ w.cell? ⟨b, o + 3, none⟩ = some (.slice a x.len c) /\ SlF T w (.slice a x.len c) x.len x.len (fun i => .int .i64 (x.y i)) /\ x.len <= c /\ c <= 1048576
def za1 (T : Nat) (w : World) (v : Value) (L : Nat) (X : Nat -> KnD) : Prop :=
 ∃ a cap, v = .slice a L cap /\ (L = 0 \/ ∃ b off, a = some ⟨b, off, none⟩ /\ b < T /\ b < w.heap.size /\ ∀ i, i < L -> zdv T w b (off + i * 4) (X i))
theorem za1.knF {T : Nat} {w : World} {v : Value} {L : Nat} {X : Nat -> KnD} (h : za1 T w v L X) : KnF T w v L X := by
 obtain ⟨a, cap, rfl, h⟩ := h
 refine ⟨a, cap, rfl, ?_⟩
 rcases h with h | ⟨b, off, rfl, hl, hz, hc⟩
 · exact .inl h
 · refine .inr ⟨b, off, rfl, hl, hz, fun i hi => ?_⟩
   obtain ⟨a, c, h0, h1, h2, h3, h4, _⟩ := hc i hi
   exact ⟨a, c, h0, h1, h2, h3, h4⟩
theorem za1.below {T C : Nat} {w w' : World} {v : Value} {L : Nat} {X : Nat -> KnD} (h : za1 T w v L X) (hb : Below C w w') (hT : T <= C) : za1 T w' v L X := by
 obtain ⟨a, cap, rfl, h⟩ := h
 refine ⟨a, cap, rfl, ?_⟩
 rcases h with h | ⟨b, off, rfl, hl, hz, hc⟩
 · exact .inl h
 · refine .inr ⟨b, off, rfl, hl, Nat.lt_of_lt_of_le hz hb.size, fun i hi => ?_⟩
   obtain ⟨a, c, h0, h1, h2, h3, h4, h5⟩ := hc i hi
   have e := fun i => hb.cell (p := ⟨b, i, none⟩) (Nat.lt_of_lt_of_le hl hT)
   exact ⟨a, c, by rw [e]; exact h0, by rw [e]; exact h1, by rw [e]; exact h2, by rw [e]; exact h3, h4.below hb hT, h5⟩
theorem za1.mono {T T' : Nat} {w : World} {v : Value} {L : Nat} {X : Nat -> KnD} (h : za1 T w v L X) (hT : T <= T') : za1 T' w v L X := by
 obtain ⟨a, cap, rfl, h⟩ := h
 refine ⟨a, cap, rfl, ?_⟩
 rcases h with h | ⟨b, off, rfl, hl, hz, hc⟩
 · exact .inl h
 · refine .inr ⟨b, off, rfl, Nat.lt_of_lt_of_le hl hT, hz, fun i hi => ?_⟩
   obtain ⟨a, c, h0, h1, h2, h3, h4, h5⟩ := hc i hi
   exact ⟨a, c, h0, h1, h2, h3, h4.mono hT, h5⟩
def zbs (B : Nat) (w : World) (v : Value) (L : Nat) (X : Nat -> KnD) : Prop :=
 ∃ K cap, v = .slice (some ⟨K, 0, none⟩) L cap /\ B <= K /\ K < w.heap.size /\ ∀ i, i < L -> ∃ b, B <= b /\ w.cell? ⟨K, i * 4, none⟩ = some (.int .i64 (X i).k) /\ w.cell? ⟨K, i * 4 + 1, none⟩ = some (.string (X i).t) /\ w.cell? ⟨K, i * 4 + 2, none⟩ = some (.int .i64 (X i).i) /\ w.cell? ⟨K, i * 4 + 3, none⟩ = some (.slice (some ⟨b, 0, none⟩) (X i).len (X i).len) /\ SlF w.heap.size w (.slice (some ⟨b, 0, none⟩) (X i).len (X i).len) (X i).len (X i).len (fun j => .int .i64 ((X i).y j))
theorem zbs.knFc {B : Nat} {w : World} {v : Value} {L : Nat} {X : Nat -> KnD} (h : zbs B w v L X) (hX : ∀ j, j < L -> (X j).len <= 1048576) : za1 w.heap.size w v L X := by
 obtain ⟨K, cap, rfl, hB, hK, h⟩ := h
 refine ⟨_, _, rfl, .inr ⟨K, 0, rfl, hK, hK, fun i hi => ?_⟩⟩
 obtain ⟨b, _, h0, h1, h2, h3, h4⟩ := h i hi
 rw [Nat.zero_add]
 exact ⟨_, _, h0, h1, h2, h3, h4, Nat.le_refl _, hX i hi⟩
theorem zbs.set {B : Nat} {w : World} {v : Value} {L : Nat} {X : Nat -> KnD} (h : zbs B w v L X) {k j : Nat} (hk : k < B) (u : Value) : zbs B (w.setCell ⟨k, j, none⟩ u) v L X := by
 obtain ⟨K, cap, rfl, hB, hK, h⟩ := h
 refine ⟨K, cap, rfl, hB, by simpa using hK, fun i hi => ?_⟩
 obtain ⟨b, hb, h0, h1, h2, h3, h4⟩ := h i hi
 have e : ∀ o, (w.setCell ⟨k, j, none⟩ u).cell? ⟨K, o, none⟩ = w.cell? ⟨K, o, none⟩ := fun o => World.cell?_setCell_other _ _ _ _ (fun e => by have := congrArg Addr.block e; simp at this; omega)
 exact ⟨b, hb, by rw [e]; exact h0, by rw [e]; exact h1, by rw [e]; exact h2, by rw [e]; exact h3, zax h4 (by omega) _⟩
theorem zfh {w wr : World} {K L : Nat} {X : Nat -> KnD} (h : za8 w wr K L X L) : zbs K wr (.slice (some ⟨K, 0, none⟩) L L) L X := by
 obtain ⟨h0, g, h1, h2⟩ := h
 refine ⟨_, _, rfl, Nat.le_refl _, h1.lt, fun i hi => ?_⟩
 obtain ⟨B, g0, g1, g2, g3, hK, hs⟩ := h2 i hi
 exact ⟨_, Nat.le_of_lt hK, by rw [h1.cell (by omega), g0], by rw [h1.cell (by omega), g1], by rw [h1.cell (by omega), g2], by rw [h1.cell (by omega), g3], hs⟩
set_option maxHeartbeats 1000000 in
theorem zfx (a : Option Addr) (L cap : Nat) (X : Nat -> KnD) (T : Nat) (w : World) (hs : KnF T w (.slice a L cap) L X) (hT : T <= w.heap.size) (hn : L <= 1048576) (hX : ∀ j, j < L -> (X j).len <= 1048576) :
 Calls Tryd.prog 37 #[.slice a L cap] w fun e w' => e = .returned (.slice (some ⟨w.heap.size, 0, none⟩) L L) /\ zbs w.heap.size w' (.slice (some ⟨w.heap.size, 0, none⟩) L L) L X /\ Below w.heap.size w w' := by
 have hn' : (L : Int) <= 1048576 := by omega
 have hm1 := zfv (L : Int) (by omega) (by omega)
 rw [Int.toNat_natCast] at hm1
 have HS : Hid (KnF T w (.slice a L cap) L X) := hs
 have HX : Hid (∀ j, j < L -> (X j).len <= 1048576) := hX
 clear hs hX
 go_enter Tryd.func37, Tryd.ntmps37
 go_wp2
 go_loopw [4] (fun u4 wr => ∃ k : Nat, k <= L /\ u4 = .int .i64 k /\ za8 w wr w.heap.size L X k) (fun u4 _ => L - (intOf u4).toNat)
 case atStart =>
  obtain ⟨g, hg⟩ := zen w (L * 4) 71
  exact ⟨0, Nat.zero_le _, rfl, (Below.refl _ _).alloc (Nat.le_refl _) _, g, hg, fun p hp => absurd hp (Nat.not_lt_zero _)⟩
 case round =>
  obtain ⟨j, hk, rfl, hF⟩ := hrel
  by_cases hlt : j < L
  · have hlt' : (j : Int) < (L : Int) := by omega
    obtain ⟨b, off, rfl, lb, lz, hc⟩ := HS.out.at_ hlt
    obtain ⟨ax, cx, c0, c1, c2, c3, sx⟩ := (hc j hlt).below hF.1 hT lb
    have x1 := (HX.out j hlt)
    have HF : Hid (za8 w wr w.heap.size L X j) := hF
    obtain ⟨gK, hgK, -⟩ := hF.2
    have lK : w.heap.size < wr.heap.size := hgK.lt
    clear hgK
    have HE : Hid (∃ x, X j = x) := ⟨_, rfl⟩
    obtain ⟨x, hx⟩ := HE.out
    rw [hx] at c0 c1 c2 c3 sx x1
    have Hx : Hid (X j = x) := hx
    obtain ⟨k, t, i, l, y⟩ := x
    simp only at c0 c1 c2 c3 sx x1
    have SX : Hid (SlF T wr (.slice ax l cx) l l (fun i => .int .i64 (y i))) := sx
    clear hF hc HS HX hm1 HE hx sx
    go_wp2_with (go_at_call 81; refine (zfw _ _ _ _ _ _ y _ _ SX.out x1).mono ?_; rintro e w1 ⟨B, rfl, s1, lB, b1⟩; have F1 : Hid (za8 w w1 w.heap.size L X j) := zeo HF.out b1; have S1 : Hid (SlF w1.heap.size w1 (.slice (some ⟨B, 0, none⟩) l l) l l (fun i => .int .i64 (y i))) := s1; have HB : Hid (w.heap.size < B) := (by show w.heap.size < B; omega); obtain ⟨g, hg, -⟩ := F1.out.2; have g0 := hg.cell (i := j * 4) (by omega); have g1 := hg.cell (i := j * 4 + 1) (by omega); have g2 := hg.cell (i := j * 4 + 2) (by omega); have g3 := hg.cell (i := j * 4 + 3) (by omega); have gf := hg.frozen; clear hg s1 b1 lB)
    exact ⟨⟨j + 1, hlt, by go_num, zfg F1.out (Nat.le_refl _) Hx.out HB.out S1.out⟩, by simp [intOf]; omega⟩
  · have hge : (L : Int) <= (j : Int) := by omega
    have hkn : j = L := by omega
    have HF : Hid (za8 w wr w.heap.size L X L) := hkn ▸ hF
    clear hkn hF
    go_wp2
    go_ret
    exact ⟨rfl, zfh HF.out, HF.out.1⟩
set_option maxHeartbeats 1000000 in
theorem zgo (a : Option Addr) (L c : Nat) (top : Int) (X : Nat -> KnD) (T : Nat) (w : World) (hs : KnF T w (.slice a L c) L X) (hT : T <= w.heap.size) (hL : L <= 1048576) (hX : ∀ j, j < L -> (X j).len <= 1048576) :
 Calls Tryd.prog 17 #[.agg #[.slice a L c, .int .i64 top]] w fun e w' => ∃ b : Nat, e = .returned (.agg #[.slice (some ⟨b, 0, none⟩) L L, .int .i64 top]) /\ za1 w'.heap.size w' (.slice (some ⟨b, 0, none⟩) L L) L X /\ Below w.heap.size w w' := by
 have HS : Hid (KnF T w (.slice a L c) L X) := hs
 have HX : Hid (∀ j, j < L -> (X j).len <= 1048576) := hX
 clear hs hX
 go_enter Tryd.func17, Tryd.ntmps17
 have B3 : Below w.heap.size w (((w.alloc (.cells #[.slice a L c, .int .i64 top] 35)).alloc (.cells #[.slice none 0 0, .int .i64 0] 41)).alloc (.cells #[.slice none 0 0, .int .i64 0] 41)) := (((Below.refl _ _).alloc (Nat.le_refl _) _).alloc (by simp) _).alloc (by simp; omega) _
 go_wp2_with (go_at_call 37; refine (zfx _ _ _ X _ _ (HS.out.below B3 hT) (by simp; omega) hL HX.out).mono ?_; rintro e w2 ⟨rfl, s2, b2⟩; have n0 := fun i => (zab b2).1 (w.heap.size + 1 + 1) i (by simp); have p0 := fun i => (zab b2).1 (w.heap.size + 1) i (by simp); have r0 := fun i => (zab b2).1 w.heap.size i (by simp; omega); have g5 := fun i => (zab b2).2 (w.heap.size + 1 + 1) i (by simp); have g4 := fun i => (zab b2).2 (w.heap.size + 1) i (by simp); have hz : w.heap.size + 1 + 1 + 1 <= w2.heap.size := (by have := b2.size; simp at this; omega); have BB : Hid (Below w.heap.size w w2) := B3.trans (b2.mono (by simp; omega)); have S2 : Hid (zbs (w.heap.size + 1 + 1 + 1) w2 (.slice (some ⟨w.heap.size + 1 + 1 + 1, 0, none⟩) L L) L X) := (by show zbs _ _ _ _ _; simpa using s2); clear s2 b2)
 have i0 : (w2.cell? ⟨w.heap.size + 1, 0, none⟩).isSome = true := by rw [p0]; simp [go_sem]
 have i1 : (w2.cell? ⟨w.heap.size + 1, 1, none⟩).isSome = true := by rw [p0]; simp [go_sem]
 clear n0 p0 r0 g5 g4
 refine bodyPost_ret (v := .agg #[.slice (some ⟨w.heap.size + 1 + 1 + 1, 0, none⟩) L L, .int .i64 top]) (by simp [results, Tryd.results17, go_sem, i0, i1]) rfl ⟨_, rfl, ?_, ?_⟩
 · exact ((((S2.out.set (by omega) _).set (by omega) _).set (by omega) _).set (by omega) _).knFc HX.out
 · refine Below.setCell (Below.setCell (Below.setCell (Below.setCell BB.out ?_ _) ?_ _) ?_ _) ?_ _ <;> (dsimp only; omega)
end Go.Proofs.YtiglkhkfbgjjoaaDoor
