/- - -/
import Derived.Test.YtblcfbhlmdhnpaaGreatBMdE
import Derived.Test.YtblcfbhlmdhnpaaGreatBMrJ
namespace Go.Proofs.YtblcfbhlmdhnpaaGreat
set_option maxRecDepth 20000
open Go.RowKit Go.PlainAid
set_option linter.unusedSimpArgs false
set_option linter.unusedVariables false
set_option maxHeartbeats 1000000 in
theorem zfb (pa sl : Int) (au : Option Addr) (un cu : Nat) (ac : Option Addr) (cn cc : Nat) (ub : Nat -> Bool) (ui co ca : Nat -> Int) (T : Nat) (w : World) (hs : SlF T w (.slice au un cu) un (2 * un) (upF ub ui)) (hs2 : SlF T w (.slice ac cn cc) cn (2 * cn) (inF co ca)) (hT : T <= w.heap.size) (hn : un <= 1048576) (hn2 : cn <= 1048576) :
 Calls Tryz.prog 50 #[.agg #[.int .i64 pa, .int .i64 sl, .slice au un cu, .slice ac cn cc]] w fun e w' => ∃ b1 b2 : Nat, e = .returned (.agg #[.int .i64 pa, .int .i64 sl, .slice (some ⟨b1, 0, none⟩) un un, .slice (some ⟨b2, 0, none⟩) cn cn]) /\ w'.rowIs b1 99 (un * 2) (upF ub ui) /\ w'.rowIs b2 80 (cn * 2) (inF co ca) /\ w.heap.size <= b1 /\ b1 < b2 /\ b2 < w'.heap.size /\ Below w.heap.size w w' := by
 have HS : Hid (SlF T w (.slice au un cu) un (2 * un) (upF ub ui)) := hs
 have HS2 : Hid (SlF T w (.slice ac cn cc) cn (2 * cn) (inF co ca)) := hs2
 clear hs hs2
 go_enter Tryz.func50, Tryz.ntmps50
 have B3 : Below w.heap.size w (((w.alloc (.cells #[.int .i64 pa, .int .i64 sl, .slice au un cu, .slice ac cn cc] 77)).alloc (.cells #[.int .i64 0, .int .i64 0, .slice none 0 0, .slice none 0 0] 58)).alloc (.cells #[.int .i64 pa, .int .i64 sl, .slice none 0 0, .slice none 0 0] 58)) := (((Below.refl _ _).alloc (Nat.le_refl _) _).alloc (by simp) _).alloc (by simp; omega) _
 go_wp2_with (first | (go_at_call 81; refine (zd4 _ _ _ ub ui _ _ (HS.out.below B3 hT) hn).mono ?_; rintro e w1 ⟨rfl, r1, b1⟩; have c5 := fun i => (ze b1).1 (w.heap.size + 1 + 1) i (by simp); have c4 := fun i => (ze b1).1 (w.heap.size + 1) i (by simp); have c3 := fun i => (ze b1).1 (w.heap.size) i (by simp; omega); have f5 := fun i => (ze b1).2 (w.heap.size + 1 + 1) i (by simp); have f4 := fun i => (ze b1).2 (w.heap.size + 1) i (by simp); have hz : w.heap.size + 1 + 1 + 1 < w1.heap.size := (by have := r1.lt; simp at this; omega); have BB : Hid (Below w.heap.size w w1) := B3.trans (b1.mono (by simp; omega)); have R1 : Hid (w1.rowIs (w.heap.size + 1 + 1 + 1) 99 (un * 2) (upF ub ui)) := (by show World.rowIs _ _ _ _ _; simpa using r1); clear r1 b1))
 obtain ⟨W9, hW9⟩ : ∃ W, W = w1.setCell ⟨w.heap.size + 1 + 1, 2, none⟩ (.slice (some ⟨w.heap.size + 1 + 1 + 1, 0, none⟩) un un) := ⟨_, rfl⟩
 have z9 : W9.heap.size = w1.heap.size := by rw [hW9]; simp
 have B9 : Below w.heap.size w W9 := by rw [hW9]; exact BB.out.setCell (by dsimp only; omega) _
 have k2 : ∀ i, W9.cell? ⟨w.heap.size + 1, i, none⟩ = w1.cell? ⟨w.heap.size + 1, i, none⟩ := fun i => by rw [hW9]; exact World.cell?_setCell_other _ _ _ _ (fun e => by have := congrArg Addr.block e; simp at this)
 have m2 : W9.cell? ⟨w.heap.size + 1 + 1, 2, none⟩ = some (.slice (some ⟨w.heap.size + 1 + 1 + 1, 0, none⟩) un un) := by rw [hW9]; exact World.cell?_setCell_same' _ _ _ (by rw [c5]; simp [go_sem])
 have m0 : W9.cell? ⟨w.heap.size + 1 + 1, 0, none⟩ = some (.int .i64 pa) := by rw [hW9, World.cell?_setCell_other _ _ _ _ (fun e => by have := congrArg Addr.off e; simp at this), c5]; simp [go_sem]
 have m1 : W9.cell? ⟨w.heap.size + 1 + 1, 1, none⟩ = some (.int .i64 sl) := by rw [hW9, World.cell?_setCell_other _ _ _ _ (fun e => by have := congrArg Addr.off e; simp at this), c5]; simp [go_sem]
 have m3 : W9.cell? ⟨w.heap.size + 1 + 1, 3, none⟩ = some (.slice none 0 0) := by rw [hW9, World.cell?_setCell_other _ _ _ _ (fun e => by have := congrArg Addr.off e; simp at this), c5]; simp [go_sem]
 have q0 : W9.cell? ⟨w.heap.size + 1, 0, none⟩ = some (.int .i64 0) := by rw [k2, c4]; simp [go_sem]
 have q1 : W9.cell? ⟨w.heap.size + 1, 1, none⟩ = some (.int .i64 0) := by rw [k2, c4]; simp [go_sem]
 have q2 : W9.cell? ⟨w.heap.size + 1, 2, none⟩ = some (.slice none 0 0) := by rw [k2, c4]; simp [go_sem]
 have q3 : W9.cell? ⟨w.heap.size + 1, 3, none⟩ = some (.slice none 0 0) := by rw [k2, c4]; simp [go_sem]
 have e5 : ∀ i, W9.frozen? ⟨w.heap.size + 1 + 1, i, none⟩ = false := fun i => by rw [hW9]; simp [go_sem, f5]
 have e4 : ∀ i, W9.frozen? ⟨w.heap.size + 1, i, none⟩ = false := fun i => by rw [hW9]; simp [go_sem, f4]
 have R9 : W9.rowIs (w.heap.size + 1 + 1 + 1) 99 (un * 2) (upF ub ui) := by rw [hW9]; exact R1.out.setOther (a := ⟨w.heap.size + 1 + 1, 2, none⟩) (by dsimp only; omega) _
 rw [<- hW9]
 clear hW9 c5 c4 c3 f5 f4 k2 R1 BB
 refine (zdk _ _ _ co ca _ _ (HS2.out.below B9 hT) hn2).mono ?_
 rintro e w2 ⟨rfl, s2, b2⟩
 have hz2 : W9.heap.size <= w2.heap.size := b2.size
 have n0 := ((ze b2).1 (w.heap.size + 1 + 1) 0 (by omega)).trans m0
 have n1 := ((ze b2).1 (w.heap.size + 1 + 1) 1 (by omega)).trans m1
 have n2 := ((ze b2).1 (w.heap.size + 1 + 1) 2 (by omega)).trans m2
 have n3 := ((ze b2).1 (w.heap.size + 1 + 1) 3 (by omega)).trans m3
 have p0 := ((ze b2).1 (w.heap.size + 1) 0 (by omega)).trans q0
 have p1 := ((ze b2).1 (w.heap.size + 1) 1 (by omega)).trans q1
 have p2 := ((ze b2).1 (w.heap.size + 1) 2 (by omega)).trans q2
 have p3 := ((ze b2).1 (w.heap.size + 1) 3 (by omega)).trans q3
 have g5 := fun i => ((ze b2).2 (w.heap.size + 1 + 1) i (by omega)).trans (e5 i)
 have g4 := fun i => ((ze b2).2 (w.heap.size + 1) i (by omega)).trans (e4 i)
 have R2 : Hid (w2.rowIs (w.heap.size + 1 + 1 + 1) 99 (un * 2) (upF ub ui)) := R9.of_block (b2.block _ R9.lt)
 have S2 : Hid (w2.rowIs W9.heap.size 80 (cn * 2) (inF co ca)) := s2
 have BB : Hid (Below w.heap.size w w2) := zb B9 b2
 have lz : Hid (w.heap.size + 1 + 1 + 1 < W9.heap.size) := by show _ < _; omega
 clear m0 m1 m2 m3 q0 q1 q2 q3 e5 e4 R9 s2 b2 B9 HS HS2
 go_wp2
 have i0 : (w2.cell? ⟨w.heap.size + 1, 0, none⟩).isSome = true := by rw [p0]; rfl
 have i1 : (w2.cell? ⟨w.heap.size + 1, 1, none⟩).isSome = true := by rw [p1]; rfl
 have i2 : (w2.cell? ⟨w.heap.size + 1, 2, none⟩).isSome = true := by rw [p2]; rfl
 have i3 : (w2.cell? ⟨w.heap.size + 1, 3, none⟩).isSome = true := by rw [p3]; rfl
 refine bodyPost_ret (v := .agg #[.int .i64 pa, .int .i64 sl, .slice (some ⟨w.heap.size + 1 + 1 + 1, 0, none⟩) un un, .slice (some ⟨W9.heap.size, 0, none⟩) cn cn]) (by simp [results, Tryz.results50, go_sem, i0, i1, i2, i3]) rfl ⟨_, _, rfl, ?_, ?_, by omega, lz.out, ?_, ?_⟩
 · refine World.rowIs.setOther (World.rowIs.setOther (World.rowIs.setOther (World.rowIs.setOther (World.rowIs.setOther R2.out ?_ _) ?_ _) ?_ _) ?_ _) ?_ _ <;> (dsimp only; omega)
 · have := lz.out
   refine World.rowIs.setOther (World.rowIs.setOther (World.rowIs.setOther (World.rowIs.setOther (World.rowIs.setOther S2.out ?_ _) ?_ _) ?_ _) ?_ _) ?_ _ <;> (dsimp only; omega)
 · have := S2.out.lt
   simpa using this
 · refine Below.setCell (Below.setCell (Below.setCell (Below.setCell (Below.setCell BB.out ?_ _) ?_ _) ?_ _) ?_ _) ?_ _ <;> (dsimp only; omega)
def zac (wr : World) (K L : Nat) (X : Nat -> PtD) (bu bc : Nat -> Nat) (j : Nat) : Prop :=
 (∃ g, wr.rowIs K 58 (L * 4) g /\ ∀ p, p < j -> g (p * 4) = .int .i64 (X p).pa /\ g (p * 4 + 1) = .int .i64 (X p).sl /\ g (p * 4 + 2) = .slice (some ⟨bu p, 0, none⟩) (X p).un (X p).un /\ g (p * 4 + 3) = .slice (some ⟨bc p, 0, none⟩) (X p).cn (X p).cn) /\ (∀ p, p < j -> K < bu p /\ bu p < bc p /\ bc p < wr.heap.size /\ wr.rowIs (bu p) 99 ((X p).un * 2) (upF (X p).ub (X p).ui) /\ wr.rowIs (bc p) 80 ((X p).cn * 2) (inF (X p).co (X p).ca)) /\ ∀ p q, p < q -> q < j -> bc p < bu q
theorem zac.below {wr w1 : World} {K L : Nat} {X : Nat -> PtD} {bu bc : Nat -> Nat} {j : Nat} (h : zac wr K L X bu bc j) (hb : Below wr.heap.size wr w1) : zac w1 K L X bu bc j := by
 obtain ⟨⟨g, h1, h2⟩, h3, h4⟩ := h
 refine ⟨⟨g, h1.of_block (hb.block _ h1.lt), h2⟩, fun p hp => ?_, h4⟩
 obtain ⟨a, b, c, d, e⟩ := h3 p hp
 exact ⟨a, b, Nat.lt_of_lt_of_le c hb.size, d.of_block (hb.block _ d.lt), e.of_block (hb.block _ e.lt)⟩
theorem zac.set {wr : World} {K L : Nat} {X : Nat -> PtD} {bu bc : Nat -> Nat} {i : Nat} (h : zac wr K L X bu bc i) {k j : Nat} (hk : k < K) (u : Value) : zac (wr.setCell ⟨k, j, none⟩ u) K L X bu bc i := by
 obtain ⟨⟨g, h1, h2⟩, h3, h4⟩ := h
 refine ⟨⟨g, h1.setOther (a := ⟨k, j, none⟩) (by dsimp only; omega) _, h2⟩, fun p hp => ?_, h4⟩
 obtain ⟨a, b, c, d, e⟩ := h3 p hp
 exact ⟨a, b, by simpa using c, d.setOther (a := ⟨k, j, none⟩) (by dsimp only; omega) _, e.setOther (a := ⟨k, j, none⟩) (by dsimp only; omega) _⟩
theorem zbl {wr : World} {b K m : Nat} {t : TypeId} {f : Nat -> Value} (h : wr.rowIs b t m f) (hn : K < b) (i0 i1 i2 i3 : Nat) (v0 v1 v2 v3 : Value) : ((((wr.setCell ⟨K, i0, none⟩ v0).setCell ⟨K, i1, none⟩ v1).setCell ⟨K, i2, none⟩ v2).setCell ⟨K, i3, none⟩ v3).rowIs b t m f :=
 (((h.setOther (a := ⟨K, i0, none⟩) (by dsimp only; omega) v0).setOther (a := ⟨K, i1, none⟩) (by dsimp only; omega) v1).setOther (a := ⟨K, i2, none⟩) (by dsimp only; omega) v2).setOther (a := ⟨K, i3, none⟩) (by dsimp only; omega) v3
theorem zac.step {wr : World} {K L : Nat} {X : Nat -> PtD} {bu bc : Nat -> Nat} {j : Nat} (h : zac wr K L X bu bc j) {x : PtD} (hx : X j = x) {B C : Nat} (hB : K < B) (hC : B < C) (hD : C < wr.heap.size) (hO : ∀ p, p < j -> bc p < B) (hs : wr.rowIs B 99 (x.un * 2) (upF x.ub x.ui)) (hs2 : wr.rowIs C 80 (x.cn * 2) (inF x.co x.ca)) :
 zac ((((wr.setCell ⟨K, j * 4, none⟩ (.int .i64 x.pa)).setCell ⟨K, j * 4 + 1, none⟩ (.int .i64 x.sl)).setCell ⟨K, j * 4 + 2, none⟩ (.slice (some ⟨B, 0, none⟩) x.un x.un)).setCell ⟨K, j * 4 + 3, none⟩ (.slice (some ⟨C, 0, none⟩) x.cn x.cn)) K L X (upd bu j B) (upd bc j C) (j + 1) := by
 subst hx
 obtain ⟨⟨g, h1, h2⟩, h3, h4⟩ := h
 refine ⟨⟨_, (((h1.set (j * 4) _).set (j * 4 + 1) _).set (j * 4 + 2) _).set (j * 4 + 3) _, fun p hp => ?_⟩, fun p hp => ?_, fun p q hpq hq => ?_⟩
 · by_cases e : p = j
   · subst e
     rw [zah, zah]
     refine ⟨?_, ?_, ?_, ?_⟩ <;> simp
   · obtain ⟨g0, g1, g2, g3⟩ := h2 p (by omega)
     rw [z6 _ _ e, z6 _ _ e]
     refine ⟨?_, ?_, ?_, ?_⟩
     · repeat rw [if_neg (by omega)]
       exact g0
     · repeat rw [if_neg (by omega)]
       exact g1
     · repeat rw [if_neg (by omega)]
       exact g2
     · repeat rw [if_neg (by omega)]
       exact g3
 · by_cases e : p = j
   · subst e
     rw [zah, zah]
     exact ⟨hB, hC, by simpa using hD, zbl hs hB _ _ _ _ _ _ _ _, zbl hs2 (by omega) _ _ _ _ _ _ _ _⟩
   · obtain ⟨a, b, c, d, f⟩ := h3 p (by omega)
     rw [z6 _ _ e, z6 _ _ e]
     exact ⟨a, b, by simpa using c, zbl d a _ _ _ _ _ _ _ _, zbl f (by omega) _ _ _ _ _ _ _ _⟩
 · rw [z6 _ _ (show p ≠ j by omega)]
   by_cases e : q = j
   · subst e
     rw [zah]
     exact hO p hpq
   · rw [z6 _ _ e]
     exact h4 p q hpq (by omega)
def zck (bu bc : Nat -> Nat) (j : Nat) : Nat -> Nat
 | 0 => 0
 | i + 1 => if j = bu i then 2 + 2 * i else if j = bc i then 3 + 2 * i else zck bu bc j i
theorem zdg {bu bc : Nat -> Nat} {j : Nat} : ∀ {L : Nat}, (∀ i, i < L -> j ≠ bu i /\ j ≠ bc i) -> zck bu bc j L = 0
 | 0, _ => rfl
 | L + 1, h => by
   unfold zck
   rw [if_neg (h L (by omega)).1, if_neg (h L (by omega)).2]
   exact zdg (fun i hi => h i (by omega))
theorem zfj {bu bc : Nat -> Nat} : ∀ {L : Nat}, (∀ p, p < L -> bu p < bc p) -> (∀ p q, p < q -> q < L -> bc p < bu q) -> ∀ i, i < L -> zck bu bc (bu i) L = 2 + 2 * i /\ zck bu bc (bc i) L = 3 + 2 * i
 | 0, _, _, i, hi => absurd hi (Nat.not_lt_zero _)
 | L + 1, h1, h2, i, hi => by
   unfold zck
   by_cases e : i = L
   · subst e
     have := h1 i (by omega)
     exact ⟨if_pos rfl, by rw [if_neg (by omega), if_pos rfl]⟩
   · have g := h2 i L (by omega) (by omega)
     have a := h1 i hi
     have b := h1 L (by omega)
     have r := zfj (bu := bu) (bc := bc) (L := L) (fun p hp => h1 p (by omega)) (fun p q hp hq => h2 p q hp (by omega)) i (by omega)
     exact ⟨by rw [if_neg (by omega), if_neg (by omega)]; exact r.1, by rw [if_neg (by omega), if_neg (by omega)]; exact r.2⟩
theorem zac.mdW {V : World} {K L B : Nat} {X : Nat -> PtD} {bu bc : Nat -> Nat} {b2 n : Nat} {s : Nat -> ByteArray} (h : zac V K L X bu bc L) (hO : ∀ p, p < L -> bc p < b2) (hK : K < b2) (hB : B <= K) (hs : V.rowIs b2 9 n (fun i => .string (s i))) :
 ∃ ow : Nat -> Nat, MdW ow B 1 V (some ⟨K, 0, none⟩) L X (fun p => some ⟨bu p, 0, none⟩) (fun p => (X p).un) (fun p => some ⟨bc p, 0, none⟩) (fun p => (X p).cn) (some ⟨b2, 0, none⟩) n s /\ (∀ j, j < B -> ow j = 0) /\ (∀ j, V.heap.size <= j -> ow j = 0) := by
 obtain ⟨⟨g, h1, h2⟩, h3, h4⟩ := h
 have l1 := h1.lt
 have l2 := hs.lt
 have t := zfj (bu := bu) (bc := bc) (L := L) (fun p hp => (h3 p hp).2.1) h4
 refine ⟨fun j => if j = K then 1 else if j = b2 then 2 + 2 * L else zck bu bc j L, ⟨⟨.inr ⟨K, L * 4, g, rfl, if_pos rfl, hB, by omega, h1, fun i hi => ?_⟩, fun i hi => ?_, fun i hi => ?_⟩, .inr ⟨b2, n, _, rfl, ?_, by omega, Nat.le_refl _, hs, fun i _ => rfl⟩⟩, fun j hj => ?_, fun j hj => ?_⟩
 · obtain ⟨g0, g1, g2, g3⟩ := h2 (i / 4) (by omega)
   unfold ptC
   by_cases e0 : i % 4 = 0
   · rw [if_pos e0, <- g0]; exact congrArg g (by omega)
   · rw [if_neg e0]
     by_cases e1 : i % 4 = 1
     · rw [if_pos e1, <- g1]; exact congrArg g (by omega)
     · rw [if_neg e1]
       by_cases e2 : i % 4 = 2
       · rw [if_pos e2, <- g2]; exact congrArg g (by omega)
       · rw [if_neg e2, <- g3]; exact congrArg g (by omega)
 · obtain ⟨a, b, c, d, f⟩ := h3 i hi
   have := hO i hi
   refine .inr ⟨bu i, _, _, rfl, ?_, by omega, by omega, d, fun _ _ => rfl⟩
   show (if bu i = K then 1 else if bu i = b2 then _ else _) = _
   rw [if_neg (by omega), if_neg (by omega), (t i hi).1]
 · obtain ⟨a, b, c, d, f⟩ := h3 i hi
   have := hO i hi
   refine .inr ⟨bc i, _, _, rfl, ?_, by omega, by omega, f, fun _ _ => rfl⟩
   show (if bc i = K then 1 else if bc i = b2 then _ else _) = _
   rw [if_neg (by omega), if_neg (by omega), (t i hi).2]
 · show (if b2 = K then 1 else if b2 = b2 then _ else _) = _
   rw [if_neg (by omega), if_pos rfl]
 · show (if j = K then 1 else if j = b2 then _ else _) = 0
   rw [if_neg (by omega), if_neg (by omega)]
   exact zdg (fun i hi => by obtain ⟨a, b, c, d, f⟩ := h3 i hi; omega)
 · show (if j = K then 1 else if j = b2 then _ else _) = 0
   rw [if_neg (by omega), if_neg (by omega)]
   exact zdg (fun i hi => by obtain ⟨a, b, c, d, f⟩ := h3 i hi; omega)
set_option maxHeartbeats 1000000 in
theorem zeo (a : Option Addr) (L cap : Nat) (X : Nat -> PtD) (T : Nat) (w : World) (hs : PtF T w (.slice a L cap) L X) (hT : T <= w.heap.size) (hn : L <= 1048576) (hX : ∀ j, j < L -> PLe (X j) 1048576) :
 Calls Tryz.prog 22 #[.slice a L cap] w fun e w' => e = .returned (.slice (some ⟨w.heap.size, 0, none⟩) L L) /\ (∃ bu bc, zac w' w.heap.size L X bu bc L) /\ Below w.heap.size w w' := by
 have hn' : (L : Int) <= 1048576 := by omega
 have hm1 := zfg (L : Int) (by omega) (by omega)
 rw [Int.toNat_natCast] at hm1
 have HS : Hid (PtF T w (.slice a L cap) L X) := hs
 have HX : Hid (∀ j, j < L -> PLe (X j) 1048576) := hX
 clear hs hX
 go_enter Tryz.func22, Tryz.ntmps22
 go_wp2
 go_loopw [4] (fun u4 wr => ∃ (k : Nat) (bu bc : Nat -> Nat), k <= L /\ u4 = .int .i64 k /\ zac wr w.heap.size L X bu bc k /\ Below w.heap.size w wr) (fun u4 _ => L - (intOf u4).toNat)
 case atStart =>
  obtain ⟨g, hg⟩ := rowIs_made #[.int .i64 0, .int .i64 0, .slice none 0 0, .slice none 0 0] (by decide) w (L * 4) 58
  exact ⟨0, fun _ => 0, fun _ => 0, Nat.zero_le _, rfl, ⟨⟨g, hg, fun p hp => absurd hp (Nat.not_lt_zero _)⟩, fun p hp => absurd hp (Nat.not_lt_zero _), fun p q _ hp => absurd hp (Nat.not_lt_zero _)⟩, (Below.refl _ _).alloc (Nat.le_refl _) _⟩
 case round =>
  obtain ⟨j, bu, bc, hk, rfl, hG, hF⟩ := hrel
  by_cases hlt : j < L
  · have hlt' : (j : Int) < (L : Int) := by omega
    obtain ⟨b, off, rfl, lb, lz, hc⟩ := HS.out.at_ hlt
    obtain ⟨ax, cx, ay, cy, c0, c1, c2, c3, sx, sy⟩ := (hc j hlt).below hF hT lb
    obtain ⟨x1, x2⟩ := (HX.out j hlt)
    have HF : Hid (zac wr w.heap.size L X bu bc j) := hG
    have HBw : Hid (Below w.heap.size w wr) := hF
    have HLo : Hid (∀ p, p < j -> bc p < wr.heap.size) := fun p hp => (hG.2.1 p hp).2.2.1
    obtain ⟨gK, hgK, -⟩ := hG.1
    have lK : w.heap.size < wr.heap.size := hgK.lt
    clear hgK
    have HE : Hid (∃ x, X j = x) := ⟨_, rfl⟩
    obtain ⟨x, hx⟩ := HE.out
    rw [hx] at c0 c1 c2 c3 sx sy x1 x2
    have Hx : Hid (X j = x) := hx
    obtain ⟨pa, sl, un, ub, ui, cn, co, ca⟩ := x
    simp only at c0 c1 c2 c3 sx sy x1 x2
    have SX : Hid (SlF T wr (.slice ax un cx) un (2 * un) (upF ub ui)) := sx
    have SY : Hid (SlF T wr (.slice ay cn cy) cn (2 * cn) (inF co ca)) := sy
    have hT2 : T <= wr.heap.size := Nat.le_trans hT hF.size
    clear hF hG hc HS HX hm1 HE hx sx sy
    go_wp2_with (go_at_call 50; refine (zfb _ _ _ _ _ _ _ _ ub ui co ca _ _ SX.out SY.out hT2 x1 x2).mono ?_; rintro e w1 ⟨B, C, rfl, s1, s2, lB, lC, lD, b1⟩; have F1 : Hid (zac w1 w.heap.size L X bu bc j) := HF.out.below b1; have S1 : Hid (w1.rowIs B 99 (un * 2) (upF ub ui)) := s1; have S2 : Hid (w1.rowIs C 80 (cn * 2) (inF co ca)) := s2; have HB : Hid (w.heap.size < B) := (by show w.heap.size < B; omega); have HC : Hid (B < C /\ C < w1.heap.size) := ⟨lC, lD⟩; have HO : Hid (∀ p, p < j -> bc p < B) := (fun p hp => Nat.lt_of_lt_of_le (HLo.out p hp) lB); have HBx : Hid (Below w.heap.size w w1) := zb HBw.out b1; obtain ⟨g, hg, -⟩ := F1.out.1; have g0 := hg.cell (i := j * 4) (by omega); have g1 := hg.cell (i := j * 4 + 1) (by omega); have g2 := hg.cell (i := j * 4 + 2) (by omega); have g3 := hg.cell (i := j * 4 + 3) (by omega); have gf := hg.frozen; clear hg s1 s2 b1 lB lC lD)
    exact ⟨⟨j + 1, upd bu j B, upd bc j C, hlt, by go_num, F1.out.step Hx.out HB.out HC.out.1 HC.out.2 HO.out S1.out S2.out, Below.setCell (Below.setCell (Below.setCell (Below.setCell HBx.out (Nat.le_refl _) _) (Nat.le_refl _) _) (Nat.le_refl _) _) (Nat.le_refl _) _⟩, by simp [intOf]; omega⟩
  · have hge : (L : Int) <= (j : Int) := by omega
    have hkn : j = L := by omega
    have HG : Hid (zac wr w.heap.size L X bu bc L) := hkn ▸ hG
    have HF : Hid (Below w.heap.size w wr) := hF
    clear hkn hF hG
    go_wp2
    go_ret
    exact ⟨rfl, ⟨bu, bc, HG.out⟩, HF.out⟩
set_option maxHeartbeats 1000000 in
theorem zep (a1 : Option Addr) (L c1 : Nat) (a2 : Option Addr) (n c2 : Nat) (X : Nat -> PtD) (s : Nat -> ByteArray) (T : Nat) (w : World) (hs : MdF T w (.slice a1 L c1) (.slice a2 n c2) L X n s) (hT : T <= w.heap.size) (hL : L <= 1048576) (hn : n <= 1048576) (hX : ∀ j, j < L -> PLe (X j) 1048576) :
 Calls Tryz.prog 6 #[.agg #[.slice a1 L c1, .slice a2 n c2]] w fun e w' => ∃ (ow : Nat -> Nat) (b1 b2 : Nat) (au : Nat -> Option Addr) (cu : Nat -> Nat) (ac : Nat -> Option Addr) (cc : Nat -> Nat), e = .returned (.agg #[.slice (some ⟨b1, 0, none⟩) L L, .slice (some ⟨b2, 0, none⟩) n n]) /\ MdW ow w.heap.size 1 w' (some ⟨b1, 0, none⟩) L X au cu ac cc (some ⟨b2, 0, none⟩) n s /\ (∀ j, j < w.heap.size -> ow j = 0) /\ (∀ j, w'.heap.size <= j -> ow j = 0) /\ Below w.heap.size w w' := by
 have HS : Hid (MdF T w (.slice a1 L c1) (.slice a2 n c2) L X n s) := hs
 have HX : Hid (∀ j, j < L -> PLe (X j) 1048576) := hX
 clear hs hX
 go_enter Tryz.func6, Tryz.ntmps6
 have B3 : Below w.heap.size w (((w.alloc (.cells #[.slice a1 L c1, .slice a2 n c2] 25)).alloc (.cells #[.slice none 0 0, .slice none 0 0] 29)).alloc (.cells #[.slice none 0 0, .slice none 0 0] 29)) := (((Below.refl _ _).alloc (Nat.le_refl _) _).alloc (by simp) _).alloc (by simp; omega) _
 go_wp2_with (first | (go_at_call 22; refine (zeo _ _ _ X _ _ (HS.out.1.below B3 hT) (by simp; omega) hL HX.out).mono ?_; rintro e w1 ⟨rfl, ⟨bu, bc, r1⟩, b1⟩; have c5 := fun i => (ze b1).1 (w.heap.size + 1 + 1) i (by simp); have c4 := fun i => (ze b1).1 (w.heap.size + 1) i (by simp); have c3 := fun i => (ze b1).1 (w.heap.size) i (by simp; omega); have f5 := fun i => (ze b1).2 (w.heap.size + 1 + 1) i (by simp); have f4 := fun i => (ze b1).2 (w.heap.size + 1) i (by simp); have hz : w.heap.size + 1 + 1 + 1 <= w1.heap.size := (by have := b1.size; simp at this; omega); have BB : Hid (Below w.heap.size w w1) := B3.trans (b1.mono (by simp; omega)); have R1 : Hid (zac w1 (w.heap.size + 1 + 1 + 1) L X bu bc L) := (by show zac _ _ _ _ _ _ _; simpa using r1); clear r1 b1))
 obtain ⟨W9, hW9⟩ : ∃ W, W = w1.setCell ⟨w.heap.size + 1 + 1, 0, none⟩ (.slice (some ⟨w.heap.size + 1 + 1 + 1, 0, none⟩) L L) := ⟨_, rfl⟩
 have z9 : W9.heap.size = w1.heap.size := by rw [hW9]; simp
 have B9 : Below w.heap.size w W9 := by rw [hW9]; exact BB.out.setCell (by dsimp only; omega) _
 have k2 : ∀ i, W9.cell? ⟨w.heap.size + 1, i, none⟩ = w1.cell? ⟨w.heap.size + 1, i, none⟩ := fun i => by rw [hW9]; exact World.cell?_setCell_other _ _ _ _ (fun e => by have := congrArg Addr.block e; simp at this)
 have m0 : W9.cell? ⟨w.heap.size + 1 + 1, 0, none⟩ = some (.slice (some ⟨w.heap.size + 1 + 1 + 1, 0, none⟩) L L) := by rw [hW9]; exact World.cell?_setCell_same' _ _ _ (by rw [c5]; simp [go_sem])
 have m1 : W9.cell? ⟨w.heap.size + 1 + 1, 1, none⟩ = some (.slice none 0 0) := by rw [hW9, World.cell?_setCell_other _ _ _ _ (fun e => by have := congrArg Addr.off e; simp at this), c5]; simp [go_sem]
 have q0 : W9.cell? ⟨w.heap.size + 1, 0, none⟩ = some (.slice none 0 0) := by rw [k2, c4]; simp [go_sem]
 have q1 : W9.cell? ⟨w.heap.size + 1, 1, none⟩ = some (.slice none 0 0) := by rw [k2, c4]; simp [go_sem]
 have e5 : ∀ i, W9.frozen? ⟨w.heap.size + 1 + 1, i, none⟩ = false := fun i => by rw [hW9]; simp [go_sem, f5]
 have e4 : ∀ i, W9.frozen? ⟨w.heap.size + 1, i, none⟩ = false := fun i => by rw [hW9]; simp [go_sem, f4]
 have R9 : zac W9 (w.heap.size + 1 + 1 + 1) L X bu bc L := by rw [hW9]; exact R1.out.set (by omega) _
 rw [<- hW9]
 clear hW9 c5 c4 c3 f5 f4 k2 R1 BB
 refine (zbr _ _ _ s _ _ (HS.out.2.below B9 hT) hn).mono ?_
 rintro e w2 ⟨rfl, s2, b2⟩
 have hz2 : W9.heap.size <= w2.heap.size := b2.size
 have n0 := ((ze b2).1 (w.heap.size + 1 + 1) 0 (by omega)).trans m0
 have n1 := ((ze b2).1 (w.heap.size + 1 + 1) 1 (by omega)).trans m1
 have p0 := ((ze b2).1 (w.heap.size + 1) 0 (by omega)).trans q0
 have p1 := ((ze b2).1 (w.heap.size + 1) 1 (by omega)).trans q1
 have g5 := fun i => ((ze b2).2 (w.heap.size + 1 + 1) i (by omega)).trans (e5 i)
 have g4 := fun i => ((ze b2).2 (w.heap.size + 1) i (by omega)).trans (e4 i)
 have R2 : Hid (zac w2 (w.heap.size + 1 + 1 + 1) L X bu bc L) := R9.below b2
 have HO : Hid (∀ p, p < L -> bc p < W9.heap.size) := fun p hp => (R9.2.1 p hp).2.2.1
 have HK : Hid (w.heap.size + 1 + 1 + 1 < W9.heap.size) := R9.1.choose_spec.1.lt
 have S2 : Hid (w2.rowIs W9.heap.size 9 n (fun i => .string (s i))) := s2
 have BB : Hid (Below w.heap.size w w2) := zb B9 b2
 have lz : Hid (w.heap.size + 1 + 1 + 1 <= W9.heap.size) := by show _ <= _; omega
 clear m0 m1 q0 q1 e5 e4 R9 s2 b2 B9 HS HX
 go_wp2
 have i0 : (w2.cell? ⟨w.heap.size + 1, 0, none⟩).isSome = true := by rw [p0]; rfl
 have i1 : (w2.cell? ⟨w.heap.size + 1, 1, none⟩).isSome = true := by rw [p1]; rfl
 refine bodyPost_ret (v := .agg #[.slice (some ⟨w.heap.size + 1 + 1 + 1, 0, none⟩) L L, .slice (some ⟨W9.heap.size, 0, none⟩) n n]) (by simp [results, Tryz.results6, go_sem, i0, i1]) rfl ?_
 have := lz.out
 obtain ⟨ow, h1, h2, h3⟩ := zac.mdW (B := w.heap.size) (n := n) (s := s) (((R2.out.set (k := w.heap.size + 1 + 1) (j := 1) (by omega) (.slice (some ⟨w1.heap.size, 0, none⟩) n n)).set (k := w.heap.size + 1) (j := 0) (by omega) (.slice (some ⟨w.heap.size + 1 + 1 + 1, 0, none⟩) L L)).set (k := w.heap.size + 1) (j := 1) (by omega) (.slice (some ⟨w1.heap.size, 0, none⟩) n n)) (b2 := W9.heap.size) HO.out HK.out (by omega) (World.rowIs.setOther (World.rowIs.setOther (World.rowIs.setOther S2.out (by dsimp only; omega) _) (by dsimp only; omega) _) (by dsimp only; omega) _)
 exact ⟨ow, _, _, _, _, _, _, rfl, h1, h2, h3, Below.setCell (Below.setCell (Below.setCell BB.out (by dsimp only; omega) _) (by dsimp only; omega) _) (by dsimp only; omega) _⟩
set_option maxHeartbeats 1000000 in
theorem zeq (a : Option Addr) (L cap : Nat) (X : Nat -> PtD) (T : Nat) (left : Int) (w : World) (hs : PtF T w (.slice a L cap) L X) (hT : T <= w.heap.size) (h0 : 0 <= left) (h1 : left <= 1048576) (hL : L <= 9223372036854775807) (hX : ∀ j, j < L -> PLe (X j) 9223372036854775807) :
 Calls Tryz.prog 13 #[.slice a L cap, .int .i64 left] w fun e w' => ∃ r : Int, e = .returned (.int .i64 r) /\ (r = -1 \/ 0 <= r /\ r <= left /\ L <= 1048576 /\ (∀ j, j < L -> PLe (X j) 1048576) /\ ptP X 1 L <= 1 + 2 * left) /\ Below w.heap.size w w' := by
 have hL' : (L : Int) <= 9223372036854775807 := by omega
 have HS : Hid (PtF T w (.slice a L cap) L X) := hs
 have HX : Hid (∀ j, j < L -> PLe (X j) 9223372036854775807) := hX
 clear hs hX
 by_cases g1 : (L : Int) <= left
 · have g0 : 0 <= left - (L : Int) := by omega
   go_enter Tryz.func13, Tryz.ntmps13
   go_wp2
   go_loopw [1, 5] (fun q i wr => ∃ (j : Nat) (z : Int), j <= L /\ i = .int .i64 j /\ q = .int .i64 z /\ 0 <= z /\ z <= left /\ (∀ p, p < j -> PLe (X p) 1048576) /\ Hid (ptP X 1 j + 2 * z <= 1 + 2 * (j : Int) + 2 * (left - (L : Int))) /\ Below w.heap.size w wr) (fun _ i _ => L - (intOf i).toNat)
   case atStart => exact ⟨0, _, Nat.zero_le _, rfl, rfl, g0, by omega, fun p hp => absurd hp (Nat.not_lt_zero _), (by show ptP X 1 0 + _ <= _; unfold ptP; omega), Below.refl _ _⟩
   case round =>
    obtain ⟨j, z, hj, rfl, rfl, z0, z1, hp, HQ, hF⟩ := hrel
    have HP : Hid (∀ p, p < j -> PLe (X p) 1048576) := hp
    clear hp
    by_cases hlt : j < L
    · have hlt' : (j : Int) < (L : Int) := by omega
      obtain ⟨b, off, rfl, lb, lz, hc⟩ := HS.out.at_ hlt
      obtain ⟨ax, cx, ay, cy, c0, c1, c2, c3, _, _⟩ := (hc j hlt).below hF hT lb
      obtain ⟨x1, x2⟩ := HX.out j hlt
      have HXj : Hid ((X j).un <= 1048576 /\ (X j).cn <= 1048576 -> ∀ p, p < j + 1 -> PLe (X p) 1048576) := fun h p hp => if e : p = j then e ▸ h else HP.out p (by omega)
      have HQj : Hid (ptP X 1 (j + 1) + 2 * (z - ((X j).un : Int) - ((X j).cn : Int)) <= 1 + 2 * ((j + 1 : Nat) : Int) + 2 * (left - (L : Int))) := by have := HQ.out; show ptP X 1 j + 2 + 2 * ((X j).un : Int) + 2 * ((X j).cn : Int) + _ <= _; omega
      clear hc HS HX HP HQ
      generalize X j = x at c0 c1 c2 c3 x1 x2 HXj HQj
      obtain ⟨pa, sl, un, ub, ui, cn, co, ca⟩ := x
      simp only at c0 c1 c2 c3 x1 x2 HXj HQj
      by_cases g2 : (un : Int) + cn <= z
      · have g3 : 0 <= z - (un : Int) - cn := by omega
        go_wp2_with (go_at_call 38; refine (zb9 _ _ _ _ _ _ _ _ _ _ z0 (by omega) x1 x2).mono ?_; rw [if_pos g2]; rintro e w1 ⟨rfl, b1⟩)
        go_roundw
        case rel => exact ⟨j + 1, _, by omega, by go_num, rfl, g3, by omega, HXj.out (by omega), HQj, zb hF b1⟩
        case measure => simp [intOf]; omega
      · go_wp2_with (go_at_call 38; refine (zb9 _ _ _ _ _ _ _ _ _ _ z0 (by omega) x1 x2).mono ?_; rw [if_neg g2]; rintro e w1 ⟨rfl, b1⟩)
        go_ret
        exact ⟨_, rfl, .inl rfl, zb hF b1⟩
    · have hge : (L : Int) <= (j : Int) := by omega
      clear hT
      go_wp2
      go_ret
      obtain rfl : j = L := by omega
      exact ⟨_, rfl, .inr ⟨z0, z1, by omega, fun p hp => HP.out p (by omega), by have := HQ.out; omega⟩, hF⟩
 · have g0 : left - (L : Int) < 0 := by omega
   go_enter Tryz.func13, Tryz.ntmps13
   go_wp2
   go_ret
   exact ⟨_, rfl, .inl rfl, Below.refl _ _⟩
theorem zer (a : Option Addr) (L c : Nat) (X : Nat -> PtD) (a' : Option Addr) (n c' : Nat) (s : Nat -> ByteArray) (T : Nat) (left : Int) (w : World) (hs : PtF T w (.slice a L c) L X) (hs' : TxF T w (.slice a' n c') n s) (hT : T <= w.heap.size) (h0 : 0 <= left) (h1 : left <= 1048576) (hL : L <= 9223372036854775807) (hX : ∀ j, j < L -> PLe (X j) 9223372036854775807) (hn : n <= 9223372036854775807) (hS : ∀ j, j < n -> (s j).size <= 9223372036854775807) :
 Calls Tryz.prog 4 #[.agg #[.slice a L c, .slice a' n c'], .int .i64 left] w fun e w' => ∃ r : Int, e = .returned (.int .i64 r) /\ (r = -1 \/ 0 <= r /\ r <= left /\ L <= 1048576 /\ (∀ j, j < L -> PLe (X j) 1048576) /\ n <= 1048576 /\ ptP X 1 L <= 1 + 2 * left) /\ Below w.heap.size w w' := by
 have B1 : Below w.heap.size w (w.alloc (.cells #[.slice a L c, .slice a' n c'] 25)) := (Below.refl _ _).alloc (Nat.le_refl _) _
 have HE : Hid (Calls _ _ _ _ _) := zeq a L c X T left _ (hs.below B1 hT) (by simp; omega) h0 h1 hL hX
 have HS' : Hid (TxF T w (.slice a' n c') n s) := hs'
 have HSz : Hid (∀ j, j < n -> (s j).size <= 9223372036854775807) := hS
 clear hs hs' hX hS
 go_enter Tryz.func4, Tryz.ntmps4
 go_wp2_with fail
 refine HE.out.mono ?_
 rintro e w1 ⟨r, rfl, hr, b1⟩
 have k1 : ∀ i, w1.cell? ⟨w.heap.size, i, none⟩ = (#[.slice a L c, .slice a' n c'] : Array Value)[i]? := fun i => by rw [(ze b1).1 _ _ (by simp)]; simp [go_sem]
 have BB := B1.trans (b1.mono (by simp))
 have z1 : w.heap.size < w1.heap.size := by have := b1.size; simp at this; omega
 clear b1 HE
 rcases hr with rfl | ⟨r0, r1, l3, hX2, hsum⟩
 · go_wp2
   go_ret
   exact ⟨_, rfl, .inl rfl, BB⟩
 have HSum : Hid (ptP X 1 L <= 1 + 2 * left) := hsum
 clear hsum
 have HX2 : Hid (∀ j, j < L -> PLe (X j) 1048576) := hX2
 have HE2 : Hid (Calls _ _ _ _ _) := zds a' n c' s T r w1 (HS'.out.below BB hT) r0 (by omega) hn HSz.out
 clear hX2 HSz HS'
 go_wp2_with fail
 refine HE2.out.mono ?_
 rintro e w2 ⟨q, rfl, hq, rfl⟩
 clear HE2
 rcases hq with rfl | ⟨q0, q1, l4, _⟩
 · go_wp2
   go_ret
   exact ⟨_, rfl, .inl rfl, BB⟩
 go_wp2
 go_ret
 exact ⟨_, rfl, .inr ⟨q0, by omega, l3, HX2.out, l4, HSum.out⟩, BB⟩
end Go.Proofs.YtblcfbhlmdhnpaaGreat
