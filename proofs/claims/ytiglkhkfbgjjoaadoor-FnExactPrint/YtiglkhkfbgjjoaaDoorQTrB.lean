/- - -/
import Derived.Test.YtiglkhkfbgjjoaaDoorQTrA
import Derived.Test.YtiglkhkfbgjjoaaDoorQSlotsB
import Derived.Laws.MakeOwn
import Derived.Deep.CutRange
import Derived.Deep.RegionWith
namespace Go.Proofs.YtiglkhkfbgjjoaaDoor
set_option maxRecDepth 20000
open Go.RowKit
set_option linter.unusedSimpArgs false
set_option linter.unusedVariables false
theorem ziw : (Tryd.prog.info? 3).map (fun i => (i.zero, i.size, i.bytes)) = some (some (.int .i64 0), 1, 8) := by kernel_rfl
theorem zfu (l : Int) (h0 : 0 <= l) (h1 : l <= 1048576) (w : World) : (Instr.makeSlice 69 (.int .i64 l) (.int .i64 l)).run Tryd.prog w = .ok (.slice (some ⟨w.heap.size, 0, none⟩) l.toNat l.toNat) (w.alloc (.cells (madeCells #[.int .i64 0] l.toNat) 3)) := by
 obtain ⟨i, hi, hzz⟩ := Option.map_eq_some_iff.1 ziw
 simp only [Prod.mk.injEq] at hzz
 obtain ⟨hz, hs, hb⟩ := hzz
 have := run_make (P := Tryd.prog) w 69 3 i _ Tryd.underlying69 hi hz .i64 .i64 l l h0 (Int.le_refl _) (by rw [hb]; omega) (by omega)
 rw [hs, Nat.mul_one] at this
 exact this
theorem zem (w : World) (n : Nat) (t : TypeId) : (w.alloc (.cells (madeCells #[.int .i64 0] n) t)).rowIs w.heap.size t n (fun _ => .int .i64 0) :=
 ⟨_, Go.Deep.blk_alloc_new _ _, size_madeCells _ _, fun i hi => by
  simp [madeCells, hi, Nat.mod_one]⟩
def zdu (w wr : World) (K n : Nat) (y : Nat -> Int) (k : Nat) : Prop :=
 Below w.heap.size w wr /\ wr.rowIs K 3 n (fun j => .int .i64 (if j < k then y j else 0))
theorem zfe {w wr : World} {K n : Nat} {y : Nat -> Int} {k : Nat} (h : zdu w wr K n y k) (hK : w.heap.size <= K) : zdu w (wr.setCell ⟨K, k, none⟩ (.int .i64 (y k))) K n y (k + 1) := by
 refine ⟨h.1.setCell (p := ⟨K, k, none⟩) hK _, (h.2.set k _).congr fun j _ => ?_⟩
 by_cases e1 : j = k
 · subst e1
   simp
 · by_cases e3 : j < k
   · have : j < k + 1 := by omega
     simp [e1, e3, this]
   · have : ¬ j < k + 1 := by omega
     simp [e1, e3, this]
theorem zff (a : Option Addr) (n cap : Nat) (y : Nat -> Int) (T : Nat) (w : World) (hs : SlF T w (.slice a n cap) n n (fun i => .int .i64 (y i))) (hn : n <= 1048576) :
 Calls Tryd.prog 120 #[.slice a n cap] w fun e w' => e = .returned (.slice (some ⟨w.heap.size, 0, none⟩) n n) /\ w'.rowIs w.heap.size 3 n (fun i => .int .i64 (y i)) /\ Below w.heap.size w w' := by
 have hn' : (n : Int) <= 1048576 := by omega
 have hm1 := zfu (n : Int) (by omega) (by omega)
 rw [Int.toNat_natCast] at hm1
 have HS : Hid (SlF w.heap.size w (.slice a n cap) n n (fun i => .int .i64 (y i))) := hs.here
 clear hs
 go_enter Tryd.func120, Tryd.ntmps120
 go_wp2
 go_loopw [4] (fun u4 wr => ∃ k : Nat, k <= n /\ u4 = .int .i64 k /\ zdu w wr w.heap.size n y k) (fun u4 _ => n - (intOf u4).toNat)
 case atStart => exact ⟨0, Nat.zero_le _, rfl, (Below.refl _ _).alloc (Nat.le_refl _) _, (zem w n 3).congr (fun i _ => by simp)⟩
 case round =>
  obtain ⟨k, hk, rfl, hF⟩ := hrel
  by_cases hlt : k < n
  · have hlt' : (k : Int) < (n : Int) := by omega
    obtain ⟨br, offr, cap', hv, _, lbr, hcr⟩ := HS.out.parts (k := 0) (by omega)
    simp only [Value.slice.injEq] at hv
    obtain ⟨rfl, _, rfl⟩ := hv
    have hc1 : wr.cell? ⟨br, offr + k, none⟩ = some (.int .i64 (y k)) := by rw [hF.1.cell (p := ⟨br, offr + k, none⟩) lbr]; exact hcr k hlt
    have HF : Hid (zdu w wr w.heap.size n y k) := hF
    have lK : w.heap.size < wr.heap.size := hF.2.lt
    have g0 := hF.2.cell (i := k) hlt
    have gf := hF.2.frozen
    clear hF hcr HS hm1
    go_wp2
    exact ⟨⟨k + 1, hlt, by go_num, zfe HF.out (Nat.le_refl _)⟩, by simp [intOf]; omega⟩
  · have hge : (n : Int) <= (k : Int) := by omega
    have hkn : k = n := by omega
    have hR : wr.rowIs w.heap.size 3 n (fun i => .int .i64 (y i)) := hF.2.congr (fun j hj => by rw [if_pos (by omega)])
    clear hkn
    go_wp2
    go_ret
    exact ⟨rfl, hR, hF.1⟩
theorem zjx : (Tryd.prog.info? 71).map (fun i => (i.zero, i.size, i.bytes)) = some (some (.agg #[.int .i64 0, .string ⟨#[]⟩, .int .i64 0, .slice none 0 0]), 4, 56) := by kernel_rfl
theorem zfv (l : Int) (h0 : 0 <= l) (h1 : l <= 1048576) (w : World) : (Instr.makeSlice 39 (.int .i64 l) (.int .i64 l)).run Tryd.prog w = .ok (.slice (some ⟨w.heap.size, 0, none⟩) l.toNat l.toNat) (w.alloc (.cells (madeCells #[.int .i64 0, .string ⟨#[]⟩, .int .i64 0, .slice none 0 0] (l.toNat * 4)) 71)) := by
 obtain ⟨i, hi, hzz⟩ := Option.map_eq_some_iff.1 zjx
 simp only [Prod.mk.injEq] at hzz
 obtain ⟨hz, hs, hb⟩ := hzz
 have := run_make (P := Tryd.prog) w 39 71 i _ Tryd.underlying39 hi hz .i64 .i64 l l h0 (Int.le_refl _) (by rw [hb]; omega) (by omega)
 rw [hs] at this
 exact this
theorem zax {W : World} {b n c m : Nat} {f : Nat -> Value} (h : SlF W.heap.size W (.slice (some ⟨b, 0, none⟩) n c) n m f) {k i : Nat} (hne : k ≠ b) (v : Value) : SlF (W.setCell ⟨k, i, none⟩ v).heap.size (W.setCell ⟨k, i, none⟩ v) (.slice (some ⟨b, 0, none⟩) n c) n m f := by
 obtain ⟨a, cap, he, h⟩ := h
 refine ⟨a, cap, he, ?_⟩
 simp only [Value.slice.injEq] at he
 obtain ⟨rfl, _, _⟩ := he
 rcases h with h | ⟨b', off, ha, hb, hb2, hc⟩
 · exact .inl h
 · simp only [Option.some.injEq, Addr.mk.injEq] at ha
   obtain ⟨rfl, rfl, _⟩ := ha
   refine .inr ⟨_, _, rfl, by simpa using hb, by simpa using hb2, fun j hj => ?_⟩
   rw [World.cell?_setCell_other _ _ _ _ (fun e => hne (congrArg Addr.block e))]
   exact hc j hj
theorem zb1 {W : World} {b n c m : Nat} {f : Nat -> Value} (h : SlF W.heap.size W (.slice (some ⟨b, 0, none⟩) n c) n m f) {K : Nat} (hne : K ≠ b) (i0 i1 i2 i3 : Nat) (v0 v1 v2 v3 : Value) : SlF ((((W.setCell ⟨K, i0, none⟩ v0).setCell ⟨K, i1, none⟩ v1).setCell ⟨K, i2, none⟩ v2).setCell ⟨K, i3, none⟩ v3).heap.size ((((W.setCell ⟨K, i0, none⟩ v0).setCell ⟨K, i1, none⟩ v1).setCell ⟨K, i2, none⟩ v2).setCell ⟨K, i3, none⟩ v3) (.slice (some ⟨b, 0, none⟩) n c) n m f :=
 zax (zax (zax (zax h hne _) hne _) hne _) hne _
theorem zen (w : World) (n : Nat) (t : TypeId) : ∃ g, (w.alloc (.cells (madeCells #[.int .i64 0, .string ⟨#[]⟩, .int .i64 0, .slice none 0 0] n) t)).rowIs w.heap.size t n g :=
 ⟨fun i => (madeCells #[.int .i64 0, .string ⟨#[]⟩, .int .i64 0, .slice none 0 0] n).getD i (.bool false), _, Go.Deep.blk_alloc_new _ _, size_madeCells _ _, fun i hi => by
  simp [Array.getD, size_madeCells, hi]⟩
set_option maxHeartbeats 1000000 in
theorem zfw (k : Int) (t : ByteArray) (i : Int) (a : Option Addr) (l c : Nat) (y : Nat -> Int) (T : Nat) (w : World) (hs : SlF T w (.slice a l c) l l (fun i => .int .i64 (y i))) (hn : l <= 1048576) :
 Calls Tryd.prog 81 #[.agg #[.int .i64 k, .string t, .int .i64 i, .slice a l c]] w fun e w' => ∃ b : Nat, e = .returned (.agg #[.int .i64 k, .string t, .int .i64 i, .slice (some ⟨b, 0, none⟩) l l]) /\ SlF w'.heap.size w' (.slice (some ⟨b, 0, none⟩) l l) l l (fun i => .int .i64 (y i)) /\ w.heap.size <= b /\ Below w.heap.size w w' := by
 have HS : Hid (SlF w.heap.size w (.slice a l c) l l (fun i => .int .i64 (y i))) := hs.here
 clear hs
 go_enter Tryd.func81, Tryd.ntmps81
 have B3 : Below w.heap.size w (((w.alloc (.cells #[.int .i64 k, .string t, .int .i64 i, .slice a l c] 105)).alloc (.cells #[.int .i64 0, .string ⟨#[]⟩, .int .i64 0, .slice none 0 0] 71)).alloc (.cells #[.int .i64 k, .string t, .int .i64 i, .slice none 0 0] 71)) := (((Below.refl _ _).alloc (Nat.le_refl _) _).alloc (by simp) _).alloc (by simp; omega) _
 go_wp2_with (go_at_call 120; refine (zff _ _ _ y _ _ (HS.out.below B3 (Nat.le_refl _)) hn).mono ?_; rintro e w1 ⟨rfl, r1, b1⟩; have c5 := fun i => (zab b1).1 (w.heap.size + 1 + 1) i (by simp); have c4 := fun i => (zab b1).1 (w.heap.size + 1) i (by simp); have f5 := fun i => (zab b1).2 (w.heap.size + 1 + 1) i (by simp); have f4 := fun i => (zab b1).2 (w.heap.size + 1) i (by simp); have hz : w.heap.size + 1 + 1 + 1 <= w1.heap.size := (by have := b1.size; simp at this; omega); have BB : Hid (Below w.heap.size w w1) := B3.trans (b1.mono (by simp; omega)); have R1 : Hid (w1.rowIs (w.heap.size + 1 + 1 + 1) 3 l (fun i => .int .i64 (y i))) := (by show World.rowIs _ _ _ _ _; simpa using r1); clear r1 b1)
 have p0 : ∀ i, i < 4 -> (w1.cell? ⟨w.heap.size + 1, i, none⟩).isSome = true := fun i hi => by
  rw [c4]
  match i, hi with
  | 0, _ | 1, _ | 2, _ | 3, _ => simp [go_sem]
 have q0 := p0 0 (by omega)
 have q1 := p0 1 (by omega)
 have q2 := p0 2 (by omega)
 have q3 := p0 3 (by omega)
 clear c4 c5 f4 f5 p0
 refine bodyPost_ret (v := .agg #[.int .i64 k, .string t, .int .i64 i, .slice (some ⟨w.heap.size + 1 + 1 + 1, 0, none⟩) l l]) (by simp [results, Tryd.results81, go_sem, q0, q1, q2, q3]) rfl ⟨w.heap.size + 1 + 1 + 1, rfl, ?_, by omega, ?_⟩
 · refine zb1 ?_ (by omega) _ _ _ _ _ _ _ _
   refine zax ?_ (by omega) _
   exact ⟨_, _, rfl, .inr ⟨_, 0, rfl, R1.out.lt, R1.out.lt, fun i hi => by rw [Nat.zero_add]; exact R1.out.cell (by omega)⟩⟩
 · refine Below.setCell (Below.setCell (Below.setCell (Below.setCell (Below.setCell BB.out ?_ _) ?_ _) ?_ _) ?_ _) ?_ _ <;> (dsimp only; omega)
def za8 (w wr : World) (K L : Nat) (X : Nat -> KnD) (j : Nat) : Prop :=
 Below w.heap.size w wr /\ ∃ g, wr.rowIs K 71 (L * 4) g /\ ∀ p, p < j -> ∃ B, g (p * 4) = .int .i64 (X p).k /\ g (p * 4 + 1) = .string (X p).t /\ g (p * 4 + 2) = .int .i64 (X p).i /\ g (p * 4 + 3) = .slice (some ⟨B, 0, none⟩) (X p).len (X p).len /\ K < B /\ SlF wr.heap.size wr (.slice (some ⟨B, 0, none⟩) (X p).len (X p).len) (X p).len (X p).len (fun i => .int .i64 ((X p).y i))
theorem zeo {w wr w1 : World} {K L : Nat} {X : Nat -> KnD} {j : Nat} (h : za8 w wr K L X j) (hb : Below wr.heap.size wr w1) : za8 w w1 K L X j := by
 obtain ⟨h0, g, h1, h2⟩ := h
 refine ⟨zh h0 hb, g, h1.of_block (hb.block _ h1.lt), fun p hp => ?_⟩
 obtain ⟨B, g0, g1, g2, g3, hK, hs⟩ := h2 p hp
 exact ⟨B, g0, g1, g2, g3, hK, (hs.below hb (Nat.le_refl _)).here⟩
theorem zfg {w wr : World} {K L : Nat} {X : Nat -> KnD} {j : Nat} (h : za8 w wr K L X j) (hK : w.heap.size <= K) {x : KnD} (hx : X j = x) {B : Nat} (hB : K < B) (hs : SlF wr.heap.size wr (.slice (some ⟨B, 0, none⟩) x.len x.len) x.len x.len (fun i => .int .i64 (x.y i))) :
 za8 w ((((wr.setCell ⟨K, j * 4, none⟩ (.int .i64 x.k)).setCell ⟨K, j * 4 + 1, none⟩ (.string x.t)).setCell ⟨K, j * 4 + 2, none⟩ (.int .i64 x.i)).setCell ⟨K, j * 4 + 3, none⟩ (.slice (some ⟨B, 0, none⟩) x.len x.len)) K L X (j + 1) := by
 subst hx
 obtain ⟨h0, g, h1, h2⟩ := h
 refine ⟨Below.setCell (Below.setCell (Below.setCell (Below.setCell h0 hK _) hK _) hK _) hK _, _, (((h1.set (j * 4) _).set (j * 4 + 1) _).set (j * 4 + 2) _).set (j * 4 + 3) _, fun p hp => ?_⟩
 by_cases e : p = j
 · subst e
   refine ⟨B, ?_, ?_, ?_, ?_, hB, zb1 hs (Nat.ne_of_lt hB) _ _ _ _ _ _ _ _⟩ <;> simp
 · obtain ⟨B', g0, g1, g2, g3, hK', hs'⟩ := h2 p (by omega)
   refine ⟨B', ?_, ?_, ?_, ?_, hK', zb1 hs' (Nat.ne_of_lt hK') _ _ _ _ _ _ _ _⟩
   · repeat rw [if_neg (by omega)]
     exact g0
   · repeat rw [if_neg (by omega)]
     exact g1
   · repeat rw [if_neg (by omega)]
     exact g2
   · repeat rw [if_neg (by omega)]
     exact g3
def KnO (B : Nat) (w : World) (v : Value) (L : Nat) (X : Nat -> KnD) : Prop :=
 ∃ K cap, v = .slice (some ⟨K, 0, none⟩) L cap /\ B <= K /\ K < w.heap.size /\ ∀ i, i < L -> ∃ b c, B <= b /\ w.cell? ⟨K, i * 4, none⟩ = some (.int .i64 (X i).k) /\ w.cell? ⟨K, i * 4 + 1, none⟩ = some (.string (X i).t) /\ w.cell? ⟨K, i * 4 + 2, none⟩ = some (.int .i64 (X i).i) /\ w.cell? ⟨K, i * 4 + 3, none⟩ = some (.slice (some ⟨b, 0, none⟩) (X i).len c) /\ SlF w.heap.size w (.slice (some ⟨b, 0, none⟩) (X i).len c) (X i).len (X i).len (fun j => .int .i64 ((X i).y j))
theorem KnO.knF {B : Nat} {w : World} {v : Value} {L : Nat} {X : Nat -> KnD} (h : KnO B w v L X) : KnF w.heap.size w v L X := by
 obtain ⟨K, cap, rfl, hB, hK, h⟩ := h
 refine ⟨_, _, rfl, .inr ⟨K, 0, rfl, hK, hK, fun i hi => ?_⟩⟩
 obtain ⟨b, c, _, h0, h1, h2, h3, h4⟩ := h i hi
 rw [Nat.zero_add]
 exact ⟨_, _, h0, h1, h2, h3, h4⟩
theorem KnO.set {B : Nat} {w : World} {v : Value} {L : Nat} {X : Nat -> KnD} (h : KnO B w v L X) {k j : Nat} (hk : k < B) (u : Value) : KnO B (w.setCell ⟨k, j, none⟩ u) v L X := by
 obtain ⟨K, cap, rfl, hB, hK, h⟩ := h
 refine ⟨K, cap, rfl, hB, by simpa using hK, fun i hi => ?_⟩
 obtain ⟨b, c, hb, h0, h1, h2, h3, h4⟩ := h i hi
 have e : ∀ o, (w.setCell ⟨k, j, none⟩ u).cell? ⟨K, o, none⟩ = w.cell? ⟨K, o, none⟩ := fun o => World.cell?_setCell_other _ _ _ _ (fun e => by have := congrArg Addr.block e; simp at this; omega)
 exact ⟨b, c, hb, by rw [e]; exact h0, by rw [e]; exact h1, by rw [e]; exact h2, by rw [e]; exact h3, zax h4 (by omega) _⟩
theorem zep (k : Int) (t : ByteArray) (i : Int) (a : Option Addr) (l c : Nat) (a' : Option Addr) (c' : Nat) (y : Nat -> Int) (T1 T2 : Nat) (w : World) (h1 : SlF T1 w (.slice a l c) l l (fun i => .int .i64 (y i))) (h2 : SlF T2 w (.slice a' l c') l l (fun i => .int .i64 (y i))) (hn : l <= 1048576) :
 Calls Tryd.prog 91 #[.agg #[.int .i64 k, .string t, .int .i64 i, .slice a l c], .agg #[.int .i64 k, .string t, .int .i64 i, .slice a' l c']] w fun e w' => e = .returned (.bool true) /\ Below w.heap.size w w' := by
 have H1 : Hid (SlF w.heap.size w (.slice a l c) l l (fun i => .int .i64 (y i))) := h1.here
 have H2 : Hid (SlF w.heap.size w (.slice a' l c') l l (fun i => .int .i64 (y i))) := h2.here
 clear h1 h2
 go_enter Tryd.func91, Tryd.ntmps91
 have B2 : Below w.heap.size w ((w.alloc (.cells #[.int .i64 k, .string t, .int .i64 i, .slice a l c] 71)).alloc (.cells #[.int .i64 k, .string t, .int .i64 i, .slice a' l c'] 71)) := ((Below.refl _ _).alloc (Nat.le_refl _) _).alloc (by simp) _
 go_wp2_with (go_at_call 139; refine (zer _ _ _ _ _ y _ (H1.out.below B2 (Nat.le_refl _)) (H2.out.below B2 (Nat.le_refl _)) hn).mono ?_; rintro e w1 ⟨rfl, b1⟩; have BB : Hid (Below w.heap.size w w1) := B2.trans (b1.mono (by simp; omega)); clear b1)
 go_ret
 exact ⟨rfl, BB.out⟩
set_option maxHeartbeats 1000000 in
theorem zd6 (a1 a2 : Option Addr) (c1 c2 L : Nat) (X : Nat -> KnD) (T : Nat) (w : World) (h1 : KnF T w (.slice a1 L c1) L X) (h2 : KnF T w (.slice a2 L c2) L X) (hT : T <= w.heap.size) (hn : L <= 1048576) (hX : ∀ j, j < L -> (X j).len <= 1048576) :
 Calls Tryd.prog 41 #[.slice a1 L c1, .slice a2 L c2] w fun e w' => e = .returned (.bool true) /\ Below w.heap.size w w' := by
 have hn' : (L : Int) <= 1048576 := by omega
 have H1 : Hid (KnF T w (.slice a1 L c1) L X) := h1
 have H2 : Hid (KnF T w (.slice a2 L c2) L X) := h2
 have HX : Hid (∀ j, j < L -> (X j).len <= 1048576) := hX
 clear h1 h2 hX
 go_enter Tryd.func41, Tryd.ntmps41
 go_wp2
 go_loopw [5] (fun i wr => ∃ k : Nat, k <= L /\ i = .int .i64 k /\ Below w.heap.size w wr) (fun i _ => L - (intOf i).toNat)
 case atStart => exact ⟨0, Nat.zero_le _, rfl, Below.refl _ _⟩
 case round =>
  obtain ⟨j, hk, rfl, hF⟩ := hrel
  by_cases hlt : j < L
  · have hlt' : (j : Int) < (L : Int) := by omega
    obtain ⟨b, off, rfl, lb, lz, hc⟩ := H1.out.at_ hlt
    obtain ⟨b', off', rfl, lb', lz', hc'⟩ := H2.out.at_ hlt
    obtain ⟨ax, cx, c0, c1, c2, c3, sx⟩ := (hc j hlt).below hF hT lb
    obtain ⟨ay, cy, d0, d1, d2, d3, sy⟩ := (hc' j hlt).below hF hT lb'
    have x1 := HX.out j hlt
    clear hc hc' H1 H2 HX
    generalize X j = x at c0 c1 c2 c3 sx d0 d1 d2 d3 sy x1
    obtain ⟨k, t, i, l, y⟩ := x
    simp only at c0 c1 c2 c3 sx d0 d1 d2 d3 sy x1
    have SX : Hid (SlF T wr (.slice ax l cx) l l (fun i => .int .i64 (y i))) := sx
    have SY : Hid (SlF T wr (.slice ay l cy) l l (fun i => .int .i64 (y i))) := sy
    have HF : Hid (Below w.heap.size w wr) := hF
    have hT2 : T <= wr.heap.size := Nat.le_trans hT hF.size
    clear sx sy hF
    go_wp2
    go_region_with (go_at_call 91; refine (zep _ _ _ _ _ _ _ _ y _ _ _ (SX.out.below (Below.refl _ _).drew hT2) (SY.out.below (Below.refl _ _).drew hT2) x1).mono ?_; rintro e w1 ⟨rfl, b1⟩)
    all_goals
     have hB := zh HF.out.drew b1
     clear b1
     go_wp2
     go_roundw
     case rel => exact ⟨j + 1, by omega, by go_num, hB⟩
     case measure => simp [intOf]; omega
  · have hge : (L : Int) <= (j : Int) := by omega
    go_wp2
    go_ret
    exact ⟨rfl, hF⟩
theorem zeq (a a' : Option Addr) (c c' L : Nat) (top : Int) (X : Nat -> KnD) (T : Nat) (w : World) (h1 : KnF T w (.slice a L c) L X) (h2 : KnF T w (.slice a' L c') L X) (hT : T <= w.heap.size) (hL : L <= 1048576) (hX : ∀ j, j < L -> (X j).len <= 1048576) :
 Calls Tryd.prog 19 #[.agg #[.slice a L c, .int .i64 top], .agg #[.slice a' L c', .int .i64 top]] w fun e w' => e = .returned (.bool true) /\ Below w.heap.size w w' := by
 have H1 : Hid (KnF T w (.slice a L c) L X) := h1
 have H2 : Hid (KnF T w (.slice a' L c') L X) := h2
 have HX : Hid (∀ j, j < L -> (X j).len <= 1048576) := hX
 clear h1 h2 hX
 go_enter Tryd.func19, Tryd.ntmps19
 have B2 : Below w.heap.size w ((w.alloc (.cells #[.slice a L c, .int .i64 top] 41)).alloc (.cells #[.slice a' L c', .int .i64 top] 41)) := ((Below.refl _ _).alloc (Nat.le_refl _) _).alloc (by simp) _
 go_wp2_with (go_at_call 41; refine (zd6 _ _ _ _ _ X _ _ (H1.out.below B2 hT) (H2.out.below B2 hT) (by simp; omega) hL HX.out).mono ?_; rintro e w1 ⟨rfl, b1⟩; have k1 := fun i => (zab b1).1 (w.heap.size + 1) i (by simp); have k0 := fun i => (zab b1).1 w.heap.size i (by simp; omega); have z1 : w.heap.size + 1 + 1 <= w1.heap.size := (by have := b1.size; simp at this; omega); have BB : Hid (Below w.heap.size w w1) := B2.trans (b1.mono (by simp; omega)); clear b1)
 go_ret
 exact ⟨rfl, BB.out⟩
end Go.Proofs.YtiglkhkfbgjjoaaDoor
