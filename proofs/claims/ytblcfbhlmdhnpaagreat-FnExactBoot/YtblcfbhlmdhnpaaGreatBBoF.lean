/- - -/
import Derived.Test.YtblcfbhlmdhnpaaGreatBBoV
namespace Go.Proofs.YtblcfbhlmdhnpaaGreat
set_option maxRecDepth 20000
open Go.RowKit
set_option linter.unusedSimpArgs false
set_option linter.unusedVariables false
theorem RwT.retagN {ow ow' : Nat -> Nat} {B g : Nat} {t : TypeId} {w : World} {a : Option Addr} {m : Nat} {f : Nat -> Value} (h : RwT ow B g t w a m f) (hg : g ≠ 0) (ho : ∀ j, ow j ≠ 0 -> ow' j = ow j) : RwT ow' B g t w a m f := by
 rcases h with h | ⟨b, M, h, rfl, e, hB, hm, hr, hf⟩
 · exact .inl h
 · exact .inr ⟨b, M, h, rfl, by rw [ho b (by omega), e], hB, hm, hr, hf⟩
theorem MdW.retagN {ow ow' : Nat -> Nat} {B g : Nat} {w : World} {a1 : Option Addr} {L : Nat} {X : Nat -> PtD} {au : Nat -> Option Addr} {cu : Nat -> Nat} {ac : Nat -> Option Addr} {cc : Nat -> Nat} {a2 : Option Addr} {n : Nat} {s : Nat -> ByteArray} (h : MdW ow B g w a1 L X au cu ac cc a2 n s) (hg : 1 <= g) (ho : ∀ j, ow j ≠ 0 -> ow' j = ow j) : MdW ow' B g w a1 L X au cu ac cc a2 n s :=
 ⟨⟨h.pt.row.retagN (by omega) ho, fun i hi => (h.pt.ups i hi).retagN (by omega) ho, fun i hi => (h.pt.cod i hi).retagN (by omega) ho⟩, h.tx.retagN (by omega) ho⟩
theorem MdW.weak {ow : Nat -> Nat} {B B' g : Nat} {w : World} {a1 : Option Addr} {L : Nat} {X : Nat -> PtD} {au : Nat -> Option Addr} {cu : Nat -> Nat} {ac : Nat -> Option Addr} {cc : Nat -> Nat} {a2 : Option Addr} {n : Nat} {s : Nat -> ByteArray} (h : MdW ow B g w a1 L X au cu ac cc a2 n s) (hB : B' <= B) : MdW ow B' g w a1 L X au cu ac cc a2 n s :=
 ⟨⟨h.pt.row.weak hB, fun i hi => (h.pt.ups i hi).weak hB, fun i hi => (h.pt.cod i hi).weak hB⟩, h.tx.weak hB⟩
theorem zcj {ow : Nat -> Nat} {w : World} {b : Nat} (A : Array Value) (h : ow b = 0) : zc ow (· = 0) w (w.setRow b A) := ⟨rfl, rfl, rfl, by simp [World.setRow], fun j _ hp => zm (fun e => hp (by rw [e]; exact h)) A⟩
theorem zho {ow : Nat -> Nat} {w w' : World} {Y : List Nat} (h : Kp Y w w') (hY : ∀ x ∈ Y, ow x = 0) : zc ow (· = 0) w w' := ⟨h.os, h.tape, h.output, h.size, fun j hj hp => h.block j hj (fun g => hp (hY j g))⟩
set_option maxHeartbeats 4000000 in
theorem zen (a1 : Option Addr) (L c1 : Nat) (a2 : Option Addr) (n c2 : Nat) (X : Nat -> PtD) (s : Nat -> ByteArray) (smz : Int) (w : World) (h1 : MdF w.heap.size w (.slice a1 L c1) (.slice a2 n c2) L X n s) (hL : L <= 1048576) (hn : n <= 1048576) (hX : ∀ j, j < L -> PLe (X j) 1048576) (hsz : ∀ j, j < n -> (s j).size <= 9223372036854775807) (s0 : 256 <= smz) (s1 : smz <= 4000) (hm : MOk L X n s) :
 Calls Tryz.prog 7 #[.agg #[.slice a1 L c1, .slice a2 n c2], .int .i64 smz] w fun e w' => ∃ (ow : Nat -> Nat) (bp d1 : Nat) (au : Nat -> Option Addr) (cu : Nat -> Nat) (ac : Nat -> Option Addr) (cc : Nat -> Nat) (b2 : Option Addr) (d2 bw br : Nat), e = .returned (.tuple #[.agg #[.slice (some ⟨bp, 0, none⟩) L d1, .slice b2 n d2, .slice (some ⟨bw, 0, none⟩) (2 * smz).toNat (2 * smz).toNat, .int .i64 smz, .int .i64 0, .int .i64 130, .bool false, .int .i64 0, .int .i64 0, .int .i64 0, .int .i64 3, .slice (some ⟨br, 0, none⟩) 6 6, .bool false, .bool false, .bool false, .int .i64 0, .int .i64 0, .int .i64 0, .int .i64 0, .slice none 0 0], .bool true]) /\ MwW ow w.heap.size 1 w' (some ⟨bp, 0, none⟩) L X au cu ac cc b2 n s (some ⟨bw, 0, none⟩) (2 * smz).toNat (fun i => .int .u64 (zj (btW (2 * smz).toNat (X 0).sl) i)) (some ⟨br, 0, none⟩) 6 (fun i => .int .i64 (btR i)) none 0 (fun _ => ⟨#[]⟩) /\ (∀ j, j < w.heap.size -> ow j = 0) /\ (∀ j, w'.heap.size <= j -> ow j = 0) /\ Below w.heap.size w w' := by
 have HF : Hid (MdF w.heap.size w (.slice a1 L c1) (.slice a2 n c2) L X n s) := h1
 have HX : Hid (∀ j, j < L -> PLe (X j) 1048576) := hX
 have HS : Hid (∀ j, j < n -> (s j).size <= 9223372036854775807) := hsz
 have HM : Hid (MOk L X n s) := hm
 clear h1 hX hsz hm
 go_enter Tryz.func7, Tryz.ntmps7
 go_wp2_with fail
 obtain ⟨w0, hw0⟩ : ∃ V, V = (w.alloc (.cells #[.slice a1 L c1, .slice a2 n c2] 29)).alloc (.cells #[.slice none 0 0, .slice none 0 0, .slice none 0 0, .int .i64 0, .int .i64 0, .int .i64 0, .bool false, .int .i64 0, .int .i64 0, .int .i64 0, .int .i64 0, .slice none 0 0, .bool false, .bool false, .bool false, .int .i64 0, .int .i64 0, .int .i64 0, .int .i64 0, .slice none 0 0] 37) := ⟨_, rfl⟩
 have B0 : Below w.heap.size w w0 := by rw [hw0]; exact ((Below.refl _ _).alloc (Nat.le_refl _) _).alloc (by simp) _
 have X2 : za w0 w.heap.size 29 #[.slice a1 L c1, .slice a2 n c2] := by rw [hw0]; exact (za.new w _ _).alloc _
 have X4 : za w0 (w.heap.size + 1) 37 #[.slice none 0 0, .slice none 0 0, .slice none 0 0, .int .i64 0, .int .i64 0, .int .i64 0, .bool false, .int .i64 0, .int .i64 0, .int .i64 0, .int .i64 0, .slice none 0 0, .bool false, .bool false, .bool false, .int .i64 0, .int .i64 0, .int .i64 0, .int .i64 0, .slice none 0 0] := by rw [hw0]; have := za.new (w.alloc (.cells #[.slice a1 L c1, .slice a2 n c2] 29)) 37 #[.slice none 0 0, .slice none 0 0, .slice none 0 0, .int .i64 0, .int .i64 0, .int .i64 0, .bool false, .int .i64 0, .int .i64 0, .int .i64 0, .int .i64 0, .slice none 0 0, .bool false, .bool false, .bool false, .int .i64 0, .int .i64 0, .int .i64 0, .int .i64 0, .slice none 0 0]; simpa using this
 have zr0 := X4.lt
 rw [<- hw0]
 clear hw0
 refine (zbi smz 6 w0 s0 s1 (by omega) (by omega)).mono ?_
 rintro e w1 ⟨bw, br, rfl, hr1, hr2, l1, l2, nbr, b1⟩
 obtain ⟨w2, hw2⟩ : ∃ V, V = w1.alloc (.cells #[.slice (some ⟨bw, 0, none⟩) (2 * smz).toNat (2 * smz).toNat, .int .i64 smz, .int .i64 0, .int .i64 1, .bool false, .int .i64 0, .int .i64 0, .int .i64 0, .int .i64 1, .slice (some ⟨br, 0, none⟩) 6 6] 33) := ⟨_, rfl⟩
 have b2 : Below w1.heap.size w1 w2 := by rw [hw2]; exact (Below.refl _ _).alloc (Nat.le_refl _) _
 have YA : za w2 w1.heap.size 33 #[.slice (some ⟨bw, 0, none⟩) (2 * smz).toNat (2 * smz).toNat, .int .i64 smz, .int .i64 0, .int .i64 1, .bool false, .int .i64 0, .int .i64 0, .int .i64 0, .int .i64 1, .slice (some ⟨br, 0, none⟩) 6 6] := by rw [hw2]; exact za.new _ _ _
 have b02 := zb b1 b2
 have Y2 := X2.below b02 X2.lt
 have Y4 := X4.below b02 X4.lt
 have B2 := zb B0 b02
 have k0 := Y2.cell 0
 have k1 := Y2.cell 1
 simp at k0 k1
 have g1 := hr1.of_block (b2.block _ hr1.lt)
 have g2 := hr2.of_block (b2.block _ hr2.lt)
 clear X2 X4 b02 hr1 hr2
 go_upto_region 2 with fail
 rw [<- hw2]
 clear hw2
 go_wp2_with fail
 refine (za7 a1 L c1 a2 n c2 X s w.heap.size w2 (HF.out.below B2 (Nat.le_refl _)) B2.size hL hn HX.out HS.out).mono ?_
 rintro e w3 ⟨q, rfl, hq, b3⟩
 obtain rfl : q = true := hq.2 HM.out
 have Z2 := Y2.below b3 Y2.lt
 have Z4 := Y4.below b3 Y4.lt
 have ZA := YA.below b3 YA.lt
 have r1 := g1.of_block (b3.block _ g1.lt)
 have r2 := g2.of_block (b3.block _ g2.lt)
 have B3 := zb B2 b3
 have HF3 : Hid (MdF w.heap.size w3 (.slice a1 L c1) (.slice a2 n c2) L X n s) := HF.out.below B3 (Nat.le_refl _)
 have l1' : w.heap.size <= bw := Nat.le_trans B0.size l1
 have l2' : w.heap.size <= br := Nat.le_trans B0.size l2
 clear hq b3 Y2 Y4 YA k0 k1 B2 g1 g2 b1 b2
 go_upto_region 4 with fail
 go_cut [8] from 22 to 25 (fun s8 wc => ∃ (ow : Nat -> Nat) (b1 : Option Addr) (d1 : Nat) (au : Nat -> Option Addr) (cu : Nat -> Nat) (ac : Nat -> Option Addr) (cc : Nat -> Nat) (b2 : Option Addr) (d2 bm : Nat), s8 = .pointer (some ⟨bm, 0, none⟩) /\ za wc bm 37 #[.slice b1 L d1, .slice b2 n d2, .slice (some ⟨bw, 0, none⟩) (2 * smz).toNat (2 * smz).toNat, .int .i64 smz, .int .i64 0, .int .i64 1, .bool false, .int .i64 0, .int .i64 0, .int .i64 0, .int .i64 1, .slice (some ⟨br, 0, none⟩) 6 6, .bool false, .bool false, .bool false, .int .i64 0, .int .i64 0, .int .i64 0, .int .i64 0, .slice none 0 0] /\ MdW ow w3.heap.size 1 wc b1 L X au cu ac cc b2 n s /\ (∀ j, j < w3.heap.size -> ow j = 0) /\ (∀ j, wc.heap.size <= j -> ow j = 0) /\ ow bm = 0 /\ w3.heap.size <= bm /\ bm < wc.heap.size /\ Below w3.heap.size w3 wc)
 case first =>
  have HCL : Hid (∀ W, Below w3.heap.size w3 W -> Calls _ _ _ W _) := fun W hW => zc7 1 a1 L c1 a2 n c2 X s W ((HF3.out.below hW B3.size).1.mono (Nat.le_trans B3.size hW.size)) ((HF3.out.below hW B3.size).2.mono (Nat.le_trans B3.size hW.size)) (by omega) (by omega) HX.out (by omega) (fun i hi => by have := HM.out.1.2 i hi; omega)
  have KP : ∀ V, Below w3.heap.size w3 V -> (Below w3.heap.size w3 V /\ za V w.heap.size 29 #[.slice a1 L c1, .slice a2 n c2] /\ za V w1.heap.size 33 #[.slice (some ⟨bw, 0, none⟩) (2 * smz).toNat (2 * smz).toNat, .int .i64 smz, .int .i64 0, .int .i64 1, .bool false, .int .i64 0, .int .i64 0, .int .i64 0, .int .i64 1, .slice (some ⟨br, 0, none⟩) 6 6]) := fun V hV => ⟨hV, Z2.below hV Z2.lt, ZA.below hV ZA.lt⟩
  refine wp_region_held_drew (S := fun V => Below w3.heap.size w3 V /\ za V w.heap.size 29 #[.slice a1 L c1, .slice a2 n c2] /\ za V w1.heap.size 33 #[.slice (some ⟨bw, 0, none⟩) (2 * smz).toNat (2 * smz).toNat, .int .i64 smz, .int .i64 0, .int .i64 1, .bool false, .int .i64 0, .int .i64 0, .int .i64 0, .int .i64 1, .slice (some ⟨br, 0, none⟩) 6 6]) (by kernel_rfl) (KP _ (Below.refl _ _).drew) (fun hHeld => ?_)
  obtain ⟨wd, hwd⟩ : ∃ V, V = w3.drew := ⟨_, rfl⟩
  rw [<- hwd] at hHeld ⊢
  clear hwd
  refine tk 0 22 (.agg #[.slice a1 L c1, .slice a2 n c2]) hHeld rfl (by intro V hS; have q0 := hS.2.1.cell 0; have q1 := hS.2.1.cell 1; simp at q0 q1; go_simp) ?_
  try simp only [Act.put, zig, zih, zii]
  refine tk 2 24 (.agg #[.slice (some ⟨bw, 0, none⟩) (2 * smz).toNat (2 * smz).toNat, .int .i64 smz, .int .i64 0, .int .i64 1, .bool false, .int .i64 0, .int .i64 0, .int .i64 0, .int .i64 1, .slice (some ⟨br, 0, none⟩) 6 6]) hHeld rfl (by intro V hS; have q0 := hS.2.2.cell 0; have q1 := hS.2.2.cell 1; have q2 := hS.2.2.cell 2; have q3 := hS.2.2.cell 3; have q4 := hS.2.2.cell 4; have q5 := hS.2.2.cell 5; have q6 := hS.2.2.cell 6; have q7 := hS.2.2.cell 7; have q8 := hS.2.2.cell 8; have q9 := hS.2.2.cell 9; simp at q0 q1 q2 q3 q4 q5 q6 q7 q8 q9; go_simp) ?_
  try simp only [Act.put, zig, zih, zii]
  refine wpAnyH_ready (rs := [1, 4]) (by kernel_rfl) (by simp) ?_
  refine AllReadyH.cons (o := { dst := some 23, op := _, type := _, pos := _, after := _, guard := _ }) rfl (fun K hK => ?_) (AllReadyH.cons (o := { dst := some 8, op := _, type := _, pos := _, after := _, guard := _ }) rfl (fun K hK => ?_) AllReadyH.nil)
  · go_simp
    go_at_call 26
    refine (HCL.out _ hHeld.1).mono ?_
    rintro e w4 ⟨ow, b1, d1, au, cu, ac, cc, b2, d2, rfl, hD0, olow, ohigh, bC⟩
    have zB := hHeld.1.size
    have hN := zb (w := w3) hHeld.1 bC
    clear hHeld
    refine hK.out _ _ (KP _ hN) (fun hHeld => ?_)
    clear hK K hN
    try simp only [Act.put, zig, zih, zii]
    refine tk 3 25 (.agg #[.slice b1 L d1, .slice b2 n d2, .slice (some ⟨bw, 0, none⟩) (2 * smz).toNat (2 * smz).toNat, .int .i64 smz, .int .i64 0, .int .i64 1, .bool false, .int .i64 0, .int .i64 0, .int .i64 0, .int .i64 1, .slice (some ⟨br, 0, none⟩) 6 6, .bool false, .bool false, .bool false, .int .i64 0, .int .i64 0, .int .i64 0, .int .i64 0, .slice none 0 0]) hHeld rfl (by intro V hS; go_simp) ?_
    try simp only [Act.put, zig, zih, zii]
    refine wpAnyH_ready (rs := [4]) (by kernel_rfl) (by simp) ?_
    refine AllReadyH.cons (o := { dst := some 8, op := _, type := _, pos := _, after := _, guard := _ }) rfl (fun K hK => ?_) AllReadyH.nil
    go_simp
    obtain ⟨w5, hw5⟩ : ∃ V, V = w4.alloc (.cells #[.slice none 0 0, .slice none 0 0, .slice none 0 0, .int .i64 0, .int .i64 0, .int .i64 0, .bool false, .int .i64 0, .int .i64 0, .int .i64 0, .int .i64 0, .slice none 0 0, .bool false, .bool false, .bool false, .int .i64 0, .int .i64 0, .int .i64 0, .int .i64 0, .slice none 0 0] 37) := ⟨_, rfl⟩
    have bA : Below w4.heap.size w4 w5 := by rw [hw5]; exact (Below.refl _ _).alloc (Nat.le_refl _) _
    have XB : za w5 w4.heap.size 37 #[.slice none 0 0, .slice none 0 0, .slice none 0 0, .int .i64 0, .int .i64 0, .int .i64 0, .bool false, .int .i64 0, .int .i64 0, .int .i64 0, .int .i64 0, .slice none 0 0, .bool false, .bool false, .bool false, .int .i64 0, .int .i64 0, .int .i64 0, .int .i64 0, .slice none 0 0] := by rw [hw5]; exact za.new _ _ _
    rw [<- hw5]
    have z5 : w5.heap.size = w4.heap.size + 1 := by rw [hw5]; simp
    clear hw5
    have hN := zb (w := w3) hHeld.1 bA
    have gB : w3.heap.size <= w4.heap.size := hHeld.1.size
    have oB : ow w4.heap.size = 0 := ohigh _ (Nat.le_refl _)
    have hD := hD0.kept (zc.of_below (p := fun _ => False) bA) (fun t _ _ h => h)
    have ohigh := fun j (hj : w5.heap.size <= j) => ohigh j (by omega)
    have wB := zB
    clear hHeld bA hD0
    refine hK.out _ _ (KP _ hN) (fun hHeld => ?_)
    clear hK K hN
    try simp only [Act.put, zig, zih, zii]
    have HST := zt (A := #[.slice b1 L d1, .slice b2 n d2, .slice (some ⟨bw, 0, none⟩) (2 * smz).toNat (2 * smz).toNat, .int .i64 smz, .int .i64 0, .int .i64 1, .bool false, .int .i64 0, .int .i64 0, .int .i64 0, .int .i64 1, .slice (some ⟨br, 0, none⟩) 6 6, .bool false, .bool false, .bool false, .int .i64 0, .int .i64 0, .int .i64 0, .int .i64 0, .slice none 0 0]) rfl rfl (by simp [Value.oneCell']) XB
    refine wpAnyH_ready (rs := [5]) (by kernel_rfl) (by simp) ?_
    refine AllReadyH.cons (o := { dst := none, op := _, type := _, pos := _, after := _, guard := _ }) rfl (fun K hK => ?_) AllReadyH.nil
    rw [if_pos (by kernel_rfl)]
    refine z8 _ _ _ rfl HST ?_
    have hN := zx #[.slice b1 L d1, .slice b2 n d2, .slice (some ⟨bw, 0, none⟩) (2 * smz).toNat (2 * smz).toNat, .int .i64 smz, .int .i64 0, .int .i64 1, .bool false, .int .i64 0, .int .i64 0, .int .i64 0, .int .i64 1, .slice (some ⟨br, 0, none⟩) 6 6, .bool false, .bool false, .bool false, .int .i64 0, .int .i64 0, .int .i64 0, .int .i64 0, .slice none 0 0] hHeld.1 gB
    clear hHeld
    refine hK.out _ _ (KP _ hN) (fun hHeld => ?_)
    clear hK K
    try simp only [Act.put, zig, zih, zii]
    refine wpAnyH_done (by kernel_rfl) ?_ _
    go_wp2_with fail
    go_meet
    exact ⟨ow, b1, d1, au, cu, ac, cc, b2, d2, _, rfl, XB.row #[.slice b1 L d1, .slice b2 n d2, .slice (some ⟨bw, 0, none⟩) (2 * smz).toNat (2 * smz).toNat, .int .i64 smz, .int .i64 0, .int .i64 1, .bool false, .int .i64 0, .int .i64 0, .int .i64 0, .int .i64 1, .slice (some ⟨br, 0, none⟩) 6 6, .bool false, .bool false, .bool false, .int .i64 0, .int .i64 0, .int .i64 0, .int .i64 0, .slice none 0 0], (hD.kept (zcj _ oB) (fun t h1 h2 => by omega)).weak wB, fun j hj => olow j (Nat.lt_of_lt_of_le hj zB), fun j hj => ohigh j (by simpa [World.setRow] using hj), oB, gB, by simpa [World.setRow] using XB.lt, hN⟩
  · go_simp
    obtain ⟨w5, hw5⟩ : ∃ V, V = wd.alloc (.cells #[.slice none 0 0, .slice none 0 0, .slice none 0 0, .int .i64 0, .int .i64 0, .int .i64 0, .bool false, .int .i64 0, .int .i64 0, .int .i64 0, .int .i64 0, .slice none 0 0, .bool false, .bool false, .bool false, .int .i64 0, .int .i64 0, .int .i64 0, .int .i64 0, .slice none 0 0] 37) := ⟨_, rfl⟩
    have bA : Below wd.heap.size wd w5 := by rw [hw5]; exact (Below.refl _ _).alloc (Nat.le_refl _) _
    have XB0 : za w5 wd.heap.size 37 #[.slice none 0 0, .slice none 0 0, .slice none 0 0, .int .i64 0, .int .i64 0, .int .i64 0, .bool false, .int .i64 0, .int .i64 0, .int .i64 0, .int .i64 0, .slice none 0 0, .bool false, .bool false, .bool false, .int .i64 0, .int .i64 0, .int .i64 0, .int .i64 0, .slice none 0 0] := by rw [hw5]; exact za.new _ _ _
    rw [<- hw5]
    clear hw5
    have hN := zb (w := w3) hHeld.1 bA
    have gB : w3.heap.size <= wd.heap.size := hHeld.1.size
    clear hHeld bA
    refine hK.out _ _ (KP _ hN) (fun hHeld => ?_)
    clear hK K hN
    try simp only [Act.put, zig, zih, zii]
    refine wpAnyH_ready (rs := [1]) (by kernel_rfl) (by simp) ?_
    refine AllReadyH.cons (o := { dst := some 23, op := _, type := _, pos := _, after := _, guard := _ }) rfl (fun K hK => ?_) AllReadyH.nil
    go_simp
    go_at_call 26
    refine (HCL.out _ hHeld.1).mono ?_
    rintro e w6 ⟨ow, b1, d1, au, cu, ac, cc, b2, d2, rfl, hD, olow, ohigh, bC⟩
    have XB := XB0.below bC XB0.lt
    have oB : ow wd.heap.size = 0 := olow _ XB0.lt
    have zB := hHeld.1.size
    have wB := zB
    have hN := zb (w := w3) hHeld.1 bC
    clear hHeld bC XB0
    refine hK.out _ _ (KP _ hN) (fun hHeld => ?_)
    clear hK K hN
    try simp only [Act.put, zig, zih, zii]
    refine tk 3 25 (.agg #[.slice b1 L d1, .slice b2 n d2, .slice (some ⟨bw, 0, none⟩) (2 * smz).toNat (2 * smz).toNat, .int .i64 smz, .int .i64 0, .int .i64 1, .bool false, .int .i64 0, .int .i64 0, .int .i64 0, .int .i64 1, .slice (some ⟨br, 0, none⟩) 6 6, .bool false, .bool false, .bool false, .int .i64 0, .int .i64 0, .int .i64 0, .int .i64 0, .slice none 0 0]) hHeld rfl (by intro V hS; go_simp) ?_
    try simp only [Act.put, zig, zih, zii]
    have HST := zt (A := #[.slice b1 L d1, .slice b2 n d2, .slice (some ⟨bw, 0, none⟩) (2 * smz).toNat (2 * smz).toNat, .int .i64 smz, .int .i64 0, .int .i64 1, .bool false, .int .i64 0, .int .i64 0, .int .i64 0, .int .i64 1, .slice (some ⟨br, 0, none⟩) 6 6, .bool false, .bool false, .bool false, .int .i64 0, .int .i64 0, .int .i64 0, .int .i64 0, .slice none 0 0]) rfl rfl (by simp [Value.oneCell']) XB
    refine wpAnyH_ready (rs := [5]) (by kernel_rfl) (by simp) ?_
    refine AllReadyH.cons (o := { dst := none, op := _, type := _, pos := _, after := _, guard := _ }) rfl (fun K hK => ?_) AllReadyH.nil
    rw [if_pos (by kernel_rfl)]
    refine z8 _ _ _ rfl HST ?_
    have hN := zx #[.slice b1 L d1, .slice b2 n d2, .slice (some ⟨bw, 0, none⟩) (2 * smz).toNat (2 * smz).toNat, .int .i64 smz, .int .i64 0, .int .i64 1, .bool false, .int .i64 0, .int .i64 0, .int .i64 0, .int .i64 1, .slice (some ⟨br, 0, none⟩) 6 6, .bool false, .bool false, .bool false, .int .i64 0, .int .i64 0, .int .i64 0, .int .i64 0, .slice none 0 0] hHeld.1 gB
    clear hHeld
    refine hK.out _ _ (KP _ hN) (fun hHeld => ?_)
    clear hK K
    try simp only [Act.put, zig, zih, zii]
    refine wpAnyH_done (by kernel_rfl) ?_ _
    go_wp2_with fail
    go_meet
    exact ⟨ow, b1, d1, au, cu, ac, cc, b2, d2, _, rfl, XB.row #[.slice b1 L d1, .slice b2 n d2, .slice (some ⟨bw, 0, none⟩) (2 * smz).toNat (2 * smz).toNat, .int .i64 smz, .int .i64 0, .int .i64 1, .bool false, .int .i64 0, .int .i64 0, .int .i64 0, .int .i64 1, .slice (some ⟨br, 0, none⟩) 6 6, .bool false, .bool false, .bool false, .int .i64 0, .int .i64 0, .int .i64 0, .int .i64 0, .slice none 0 0], (hD.kept (zcj _ oB) (fun t h1 h2 => by omega)).weak wB, fun j hj => olow j (Nat.lt_of_lt_of_le hj zB), fun j hj => ohigh j (by simpa [World.setRow] using hj), oB, gB, by simpa [World.setRow] using XB.lt, hN⟩
 case rest =>
  obtain ⟨ow, b1, d1, au, cu, ac, cc, b2, d2, bm, rfl, XB, hD, olow, ohigh, oB, gB, lB, hBc⟩ := hcut
  rename World => w4
  have hL1 : 1 <= L := HM.out.2.1.1
  obtain ⟨bp, M, f', rfl, ep, pB, pm, pr, pf⟩ : ∃ bp M f', b1 = some ⟨bp, 0, none⟩ /\ ow bp = 1 /\ w3.heap.size <= bp /\ 4 * L <= M /\ w4.rowIs bp 58 M f' /\ ∀ i, i < 4 * L -> f' i = ptC X au cu ac cc i := by
   rcases hD.pt.row with h | ⟨bp, M, f', e0, e1, e2, e3, e4, e5⟩
   · omega
   · exact ⟨bp, M, f', e0, e1, e2, e3, e4, e5⟩
  have hsl := (HM.out.2.1.2.2.1 0 (by omega))
  have hp : w4.cell? ⟨bp, 1, none⟩ = some (.int .i64 (X 0).sl) := by
   rw [pr.cell (i := 1) (by omega), pf 1 (by omega)]
   have := zaq X au cu ac cc 0
   rw [Nat.zero_mul, Nat.zero_add] at this
   rw [this]
  have q1 := r1.of_block (hBc.block _ r1.lt)
  have q2 := r2.of_block (hBc.block _ r2.lt)
  have W4 : RwW w4 bw (zrW (2 * smz).toNat) := ⟨(2 * smz).toNat, _, by rw [zz]; exact Nat.le_refl _, q1, fun i hi => by show _ = Value.int .u64 (zj (zrW _) i); rw [zaw]⟩
  have R4 : RwR w4 br 6 (fun _ => 0) := ⟨_, _, Nat.le_refl _, q2, fun i hi => rfl⟩
  have lw3 := r1.lt
  have lr3 := r2.lt
  have npm : bp ≠ bm := fun e => by rw [e, oB] at ep; omega
  have Y4 := Z4.below hBc Z4.lt
  have z43 := Z4.lt
  have zA3 := ZA.lt
  have HST1 : Hid (Calls _ _ _ _ _) := zg4 bp L d1 b2 n d2 bw br (2 * smz).toNat smz bm (X 0).sl w4 XB W4 R4 (by omega) hp pr.lt (by omega) (by omega) nbr npm (by omega) (by omega) (by omega) s0 s1 (by have := hsl.1; have := hsl.2.1; omega) (by have := hsl.2.2.1; omega)
  have B4 := zb B3 hBc
  have HD4 : Hid (MdW ow w3.heap.size 1 w4 (some ⟨bp, 0, none⟩) L X au cu ac cc b2 n s) := hD
  clear hD pr pf hp q1 q2 W4 R4 hsl XB r1 r2 Z2 Z4 ZA HF3
  go_wp2_with fail
  refine HST1.out.mono ?_
  rintro e w5 ⟨rfl, X5, W5, R5, K5⟩
  have Z5 : za w5 (w.heap.size + 1) 37 #[.slice none 0 0, .slice none 0 0, .slice none 0 0, .int .i64 0, .int .i64 0, .int .i64 0, .bool false, .int .i64 0, .int .i64 0, .int .i64 0, .int .i64 0, .slice none 0 0, .bool false, .bool false, .bool false, .int .i64 0, .int .i64 0, .int .i64 0, .int .i64 0, .slice none 0 0] := (K5.block _ Y4.lt (by simp; omega)).trans Y4
  have HLD := zv rfl X5.cell
  have HSR := zt (A := #[.slice (some ⟨bp, 0, none⟩) L d1, .slice b2 n d2, .slice (some ⟨bw, 0, none⟩) (2 * smz).toNat (2 * smz).toNat, .int .i64 smz, .int .i64 0, .int .i64 130, .bool false, .int .i64 0, .int .i64 0, .int .i64 0, .int .i64 3, .slice (some ⟨br, 0, none⟩) 6 6, .bool false, .bool false, .bool false, .int .i64 0, .int .i64 0, .int .i64 0, .int .i64 0, .slice none 0 0]) rfl rfl (by simp [Value.oneCell']) Z5
  have B5 : Below w.heap.size w w5 := B4.trans (K5.below (fun x hx => by simp at hx; omega) B4.size)
  clear HST1
  go_wp2_with (first | refine zk rfl _ _ rfl _ HLD ?_ | refine zi rfl _ _ _ rfl HSR ?_)
  have nb0 : ow bw = 0 := olow _ lw3
  have nr0 : ow br = 0 := olow _ lr3
  have T5 : zc ow (· = 0) w4 w5 := zho K5 (fun x hx => by simp at hx; rcases hx with rfl | rfl | rfl; exact oB; exact nb0; exact nr0)
  have o4 : ow (w.heap.size + 1) = 0 := olow _ z43
  have T6 : zc ow (· = 0) w4 (w5.setRow (w.heap.size + 1) #[.slice (some ⟨bp, 0, none⟩) L d1, .slice b2 n d2, .slice (some ⟨bw, 0, none⟩) (2 * smz).toNat (2 * smz).toNat, .int .i64 smz, .int .i64 0, .int .i64 130, .bool false, .int .i64 0, .int .i64 0, .int .i64 0, .int .i64 3, .slice (some ⟨br, 0, none⟩) 6 6, .bool false, .bool false, .bool false, .int .i64 0, .int .i64 0, .int .i64 0, .int .i64 0, .slice none 0 0]) := T5.trans (zcj _ o4)
  have D6 := HD4.out.kept T6 (fun t h1 h2 => by omega)
  have hret : ∀ j, ow j ≠ 0 -> (fun j => if j = bw then 3 + 2 * L else if j = br then 4 + 2 * L else ow j) j = ow j := fun j hj => by
   show (if j = bw then 3 + 2 * L else if j = br then 4 + 2 * L else ow j) = ow j
   rw [if_neg (fun e => hj (by rw [e]; exact nb0)), if_neg (fun e => hj (by rw [e]; exact nr0))]
  have D7 := (D6.retagN (ow' := fun j => if j = bw then 3 + 2 * L else if j = br then 4 + 2 * L else ow j) (by omega) hret).weak B3.size
  have W6 : RwW (w5.setRow (w.heap.size + 1) #[.slice (some ⟨bp, 0, none⟩) L d1, .slice b2 n d2, .slice (some ⟨bw, 0, none⟩) (2 * smz).toNat (2 * smz).toNat, .int .i64 smz, .int .i64 0, .int .i64 130, .bool false, .int .i64 0, .int .i64 0, .int .i64 0, .int .i64 3, .slice (some ⟨br, 0, none⟩) 6 6, .bool false, .bool false, .bool false, .int .i64 0, .int .i64 0, .int .i64 0, .int .i64 0, .slice none 0 0]) bw (btW (2 * smz).toNat (X 0).sl) := Rw.of_block W5 (zm (by omega) _)
  have R6 : RwR (w5.setRow (w.heap.size + 1) #[.slice (some ⟨bp, 0, none⟩) L d1, .slice b2 n d2, .slice (some ⟨bw, 0, none⟩) (2 * smz).toNat (2 * smz).toNat, .int .i64 smz, .int .i64 0, .int .i64 130, .bool false, .int .i64 0, .int .i64 0, .int .i64 0, .int .i64 3, .slice (some ⟨br, 0, none⟩) 6 6, .bool false, .bool false, .bool false, .int .i64 0, .int .i64 0, .int .i64 0, .int .i64 0, .slice none 0 0]) br 6 btR := Rw.of_block R5 (zm (by omega) _)
  obtain ⟨M1, f1, m1, u1, v1⟩ := W6
  obtain ⟨M2, f2, m2, u2, v2⟩ := R6
  rw [zb5] at m1
  refine bodyPost_ret (zdd rfl (Z5.row #[.slice (some ⟨bp, 0, none⟩) L d1, .slice b2 n d2, .slice (some ⟨bw, 0, none⟩) (2 * smz).toNat (2 * smz).toNat, .int .i64 smz, .int .i64 0, .int .i64 130, .bool false, .int .i64 0, .int .i64 0, .int .i64 0, .int .i64 3, .slice (some ⟨br, 0, none⟩) 6 6, .bool false, .bool false, .bool false, .int .i64 0, .int .i64 0, .int .i64 0, .int .i64 0, .slice none 0 0]).cell rfl rfl) rfl ⟨fun j => if j = bw then 3 + 2 * L else if j = br then 4 + 2 * L else ow j, bp, d1, au, cu, ac, cc, b2, d2, bw, br, rfl, ⟨D7, ?_, ?_, .inl rfl⟩, fun j hj => ?_, fun j hj => ?_, zx _ B5 (by omega)⟩
  · exact .inr ⟨bw, M1, f1, rfl, (if_pos rfl).trans (by omega), l1', m1, u1, fun i hi => v1 i (by rw [zb5]; exact hi)⟩
  · exact .inr ⟨br, M2, f2, rfl, (if_neg (fun e => nbr e.symm)).trans ((if_pos rfl).trans (by omega)), l2', m2, u2, v2⟩
  · show (if j = bw then _ else if j = br then _ else ow j) = 0
    rw [if_neg (by omega), if_neg (by omega)]
    exact olow j (Nat.lt_of_lt_of_le hj B3.size)
  · have hj2 : w5.heap.size <= j := by simpa [World.setRow] using hj
    have hj3 := K5.size
    show (if j = bw then _ else if j = br then _ else ow j) = 0
    rw [if_neg (by have := hBc.size; omega), if_neg (by have := hBc.size; omega)]
    exact ohigh j (by omega)
end Go.Proofs.YtblcfbhlmdhnpaaGreat
