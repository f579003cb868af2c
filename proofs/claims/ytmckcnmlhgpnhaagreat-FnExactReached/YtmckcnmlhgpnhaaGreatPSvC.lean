/- - -/
import Derived.Test.YtmckcnmlhgpnhaaGreatPSvB
namespace Go.Proofs.YtmckcnmlhgpnhaaGreat
set_option maxRecDepth 20000
open Go.RowKit Go.Maps
set_option linter.unusedSimpArgs false
set_option linter.unusedVariables false
theorem zbx.mono {w : World} {B n m : Nat} {h : Int -> Bool} (a : zbx w B n h) (hm : n <= m) : zbx w B m h := by
 obtain ⟨D, hD, hh⟩ := a
 exact ⟨D, hD.mono hm, hh⟩
theorem zv.monoSer {B Bp : Nat} {w : World} {sv bl bs bc n : Nat} {C : Array Value} {vp : Value} {lead : Nat -> Int} {pl : List Nat} {ns nc m : Nat} {hser hcop : Int -> Bool} (h : zv B Bp w sv bl bs bc n C vp lead pl ns nc hser hcop) (hm : ns <= m) : zv B Bp w sv bl bs bc n C vp lead pl m nc hser hcop :=
 ⟨h.head, h.row, h.own, h.ser.mono hm, h.cop, h.ge, h.lt, h.ne, h.size⟩
theorem zan {B : Nat} {w w' : World} (h : Below w.heap.size w w') (hB : B <= w.heap.size) : Below B w w' := ⟨h.os, h.tape, h.output, h.size, fun k hk => h.block k (Nat.lt_of_lt_of_le hk hB)⟩
set_option maxHeartbeats 2000000 in
theorem zsl (b off cw : Nat) (ws : List Int) (smz toh top : Int) (cyc : Bool) (sn old cpz sr : Int) (ar : Option Addr) (cr : Nat) (rs : List (Int × Int)) (sv bl cl bs bc : Nat) (vp : Value) (lead : Nat -> Int) (x : Int) (p : Nat) (w : World) (lsv : sv < w.heap.size) (KS : ∀ i, w.cell? ⟨sv, i, none⟩ = (#[.slice (some ⟨b, off, none⟩) ws.length cw, .int .i64 smz, .int .i64 toh, .int .i64 top, .bool cyc, .int .i64 sn, .int .i64 old, .int .i64 cpz, .int .i64 sr, .slice ar rs.length cr, .slice (some ⟨bl, 0, none⟩) ws.length cl, vp, .map (some bs), .map (some bc)] : Array Value)[i]?) (lbl : bl < w.heap.size) (hl : ∀ i, i < ws.length -> w.cell? ⟨bl, i, none⟩ = some (.int .i64 (lead i))) (hb : b < w.heap.size) (hc : ∀ i, i < ws.length -> w.cell? ⟨b, off + i, none⟩ = some (.int .u64 (za ws i))) (hn : ws.length <= 1048576) (hw : zi ws) (hx : x = p) (hp : p < ws.length) (h : ¬ (zac (za ws p) = true /\ rdN (za ws p) < sr)) :
 Calls Tryz.prog 163 #[.pointer (some ⟨sv, 0, none⟩), .int .i64 x] w fun e w' => e = .returned (.bool false) /\ Below w.heap.size w w' := by
 have x0 : 0 <= x := by omega
 have x1 : x < (ws.length : Int) := by omega
 have x2 : x.toNat = p := by omega
 have hwp := zu hw p
 have hcp := hc p hp
 clear hx hl hc
 by_cases ho : zac (za ws p) = true
 · have hge : sr <= rdN (za ws p) := by
    by_cases g : rdN (za ws p) < sr
    · exact absurd ⟨ho, g⟩ h
    · omega
   clear h
   go_enter Tryz.func163, Tryz.ntmps163
   go_upto_region 2 with (go_at_call 115; refine (zb1 _ _ hwp.1 hwp.2).mono ?_; rw [ho]; rintro e w1 ⟨rfl, b1⟩)
   obtain ⟨w2, hw2⟩ : ∃ w2, w2 = w1.alloc (.cells #[.int .i64 (rdK (za ws p)), .int .i64 (rdS (za ws p)), .int .i64 (rdN (za ws p))] 78) := ⟨_, rfl⟩
   rw [<- hw2]
   have B2 : Below w.heap.size w w2 := by rw [hw2]; exact b1.alloc b1.size _
   have KS2 := ze KS B2 lsv
   have KH2 : ∀ i, w2.cell? ⟨w1.heap.size, i, none⟩ = (#[.int .i64 (rdK (za ws p)), .int .i64 (rdS (za ws p)), .int .i64 (rdN (za ws p))] : Array Value)[i]? := fun i => by rw [hw2]; simp [go_sem]
   clear hw2 KS hcp b1
   go_quiet (fail)
   all_goals
    go_wp2
    go_ret
    exact ⟨rfl, below_drewN B2 _⟩
 · rw [Bool.not_eq_true] at ho
   clear h
   go_enter Tryz.func163, Tryz.ntmps163
   go_upto_region 2 with (go_at_call 115; refine (zb1 _ _ hwp.1 hwp.2).mono ?_; rw [ho]; rintro e w1 ⟨rfl, b1⟩)
   obtain ⟨w2, hw2⟩ : ∃ w2, w2 = w1.alloc (.cells #[.int .i64 (rdK (za ws p)), .int .i64 (rdS (za ws p)), .int .i64 (rdN (za ws p))] 78) := ⟨_, rfl⟩
   rw [<- hw2]
   have B2 : Below w.heap.size w w2 := by rw [hw2]; exact b1.alloc b1.size _
   have KS2 := ze KS B2 lsv
   clear hw2 KS hcp b1
   go_quiet (fail)
   all_goals
    go_wp2
    go_ret
    exact ⟨rfl, below_drewN B2 _⟩
theorem zdh {B : Nat} {e : TypeId} {w : World} {v : Value} {n : Nat} {xs : List Value} (h : w.ownsRow B e 1 v n xs) : ∃ a c, v = .slice a n c := by
 obtain ⟨_, ⟨rfl, rfl⟩ | ⟨g, cap, cur, rfl, _⟩⟩ := h
 · exact ⟨_, _, rfl⟩
 · exact ⟨_, _, rfl⟩
theorem zpk : (Tryz.prog.info? 3).map (fun i => (i.zero, i.size, i.bytes)) = some (some (.int .i64 0), 1, 8) := by kernel_rfl
theorem zv.drewN {B Bp : Nat} {w : World} {sv bl bs bc n : Nat} {C : Array Value} {vp : Value} {lead : Nat -> Int} {pl : List Nat} {ns nc : Nat} {hser hcop : Int -> Bool} (h : zv B Bp w sv bl bs bc n C vp lead pl ns nc hser hcop) (k : Nat) : zv B Bp (w.drewN k) sv bl bs bc n C vp lead pl ns nc hser hcop :=
 h.below (below_drewN (Below.refl _ _) k)
set_option maxHeartbeats 4000000 in
theorem zrc (b off cw : Nat) (ws : List Int) (smz toh top : Int) (cyc : Bool) (sn old cpz sr : Int) (ar : Option Addr) (cr : Nat) (rs : List (Int × Int)) (B Bp sv bl cl bs bc : Nat) (vp : Value) (lead : Nat -> Int) (pl : List Nat) (ns nc : Nat) (hser hcop : Int -> Bool) (x : Int) (p : Nat) (w : World) (hS : zv B Bp w sv bl bs bc ws.length #[.slice (some ⟨b, off, none⟩) ws.length cw, .int .i64 smz, .int .i64 toh, .int .i64 top, .bool cyc, .int .i64 sn, .int .i64 old, .int .i64 cpz, .int .i64 sr, .slice ar rs.length cr, .slice (some ⟨bl, 0, none⟩) ws.length cl, vp, .map (some bs), .map (some bc)] vp lead pl ns nc hser hcop) (hb : b < w.heap.size) (hbB : b < B) (hc : ∀ i, i < ws.length -> w.cell? ⟨b, off + i, none⟩ = some (.int .u64 (za ws i))) (hn : ws.length <= 1048576) (hw : zi ws) (hns : ns <= 10000) (hpl : pl.length <= 10000) (hx : x = p) (hp : p < ws.length) (ho : zac (za ws p) = true) (hlt : rdN (za ws p) < sr) (h0 : rdN (za ws p) ≠ 0) (hd : hser (rdN (za ws p)) = false) :
 Calls Tryz.prog 163 #[.pointer (some ⟨sv, 0, none⟩), .int .i64 x] w fun e w' => e = .returned (.bool true) /\ Below B w w' /\ ∃ vp', (∃ a c, vp' = .slice a (pl.length + 1) c) /\ zv B Bp w' sv bl bs bc ws.length ((fun vp => #[.slice (some ⟨b, off, none⟩) ws.length cw, .int .i64 smz, .int .i64 toh, .int .i64 top, .bool cyc, .int .i64 sn, .int .i64 old, .int .i64 cpz, .int .i64 sr, .slice ar rs.length cr, .slice (some ⟨bl, 0, none⟩) ws.length cl, vp, .map (some bs), .map (some bc)]) vp') vp' (fun i => if i = p then (p : Int) else lead i) (pl ++ [p]) (ns + 1) nc (fun z => decide (z = rdN (za ws p)) || hser z) hcop := by
 obtain ⟨av, cv, rfl⟩ := zdh hS.own
 obtain ⟨i0, hi, hz0, hz1, hz2⟩ := info_parts zpk
 have x0 : 0 <= x := by omega
 have x1 : x < (ws.length : Int) := by omega
 have x2 : x.toNat = p := by omega
 have HX : Hid (x = (p : Int)) := hx
 have hwp := zu hw p
 have hcp := hc p hp
 have KS := hS.cells
 have hrb := zft (za ws p)
 have e0 : (rdN (za ws p) != 0) = true := by simpa using h0
 have hge := hS.ge
 have hsz := hS.size
 have hslt := hS.lt
 have lsv := hS.lsv
 have hltd : decide (sr <= rdN (za ws p)) = false := decide_eq_false (by omega)
 clear hx hc h0 hlt
 go_enter Tryz.func163, Tryz.ntmps163
 go_upto_region 2 with (go_at_call 115; refine (zb1 _ _ hwp.1 hwp.2).mono ?_; rw [ho]; rintro e w1 ⟨rfl, b1⟩)
 obtain ⟨w2, hw2⟩ : ∃ w2, w2 = w1.alloc (.cells #[.int .i64 (rdK (za ws p)), .int .i64 (rdS (za ws p)), .int .i64 (rdN (za ws p))] 78) := ⟨_, rfl⟩
 rw [<- hw2]
 have B2 : Below w.heap.size w w2 := by rw [hw2]; exact b1.alloc b1.size _
 have KS2 := ze KS B2 lsv
 have l1 : w1.heap.size < w2.heap.size := by rw [hw2]; simp
 have KH2 : ∀ i, w2.cell? ⟨w1.heap.size, i, none⟩ = (#[.int .i64 (rdK (za ws p)), .int .i64 (rdS (za ws p)), .int .i64 (rdN (za ws p))] : Array Value)[i]? := fun i => by rw [hw2]; simp [go_sem]
 have l2 : w.heap.size <= w1.heap.size := b1.size
 clear hw2 KS hcp b1
 generalize w1.heap.size = bh at *
 generalize rdK (za ws p) = K at *
 generalize rdS (za ws p) = Sz at *
 generalize hNe : rdN (za ws p) = N at *
 have HNe : Hid (rdN (za ws p) = N) := hNe
 clear hNe
 go_quiet (fail)
 rename_i nq
 obtain ⟨w3, hw3⟩ : ∃ w3, w3 = w2.drewN nq := ⟨_, rfl⟩
 rw [<- hw3]
 have B3 : Below w.heap.size w w3 := by rw [hw3]; exact below_drewN B2 nq
 have KH3 : ∀ i, w3.cell? ⟨bh, i, none⟩ = (#[.int .i64 K, .int .i64 Sz, .int .i64 N] : Array Value)[i]? := fun i => by rw [hw3]; simp [KH2]
 have l3 : bh < w3.heap.size := by rw [hw3]; simpa using l1
 clear hw3 KS2 KH2 B2 l1
 have S3 := hS.below B3
 have KS3 := S3.cells
 have wfN : (Lit.int .i64 N).wf = true := wfI (by omega) (by omega)
 have wfx : (Lit.int .i64 x).wf = true := wfI (by omega) (by omega)
 have S3d : zv B Bp w3.drew sv bl bs bc ws.length #[.slice (some ⟨b, off, none⟩) ws.length cw, .int .i64 smz, .int .i64 toh, .int .i64 top, .bool cyc, .int .i64 sn, .int .i64 old, .int .i64 cpz, .int .i64 sr, .slice ar rs.length cr, .slice (some ⟨bl, 0, none⟩) ws.length cl, .slice av pl.length cv, .map (some bs), .map (some bc)] (.slice av pl.length cv) lead pl ns nc hser hcop := S3.below (Below.refl _ _).drew
 obtain ⟨c, hlk⟩ := S3d.ser.look wfN
 rw [hd] at hlk
 go_upto_region 5 with fail
 go_region_held3 (fun W => W = w3.drew) (first | assumption | rfl) (fail)
 have S4 : zv B Bp w3.drew.drew sv bl bs bc ws.length #[.slice (some ⟨b, off, none⟩) ws.length cw, .int .i64 smz, .int .i64 toh, .int .i64 top, .bool cyc, .int .i64 sn, .int .i64 old, .int .i64 cpz, .int .i64 sr, .slice ar rs.length cr, .slice (some ⟨bl, 0, none⟩) ws.length cl, .slice av pl.length cv, .map (some bs), .map (some bc)] (.slice av pl.length cv) lead pl ns nc hser hcop := S3.below (Below.refl _ _).drew.drew
 obtain ⟨w5, hup, hm5, hg5⟩ := S4.ser.put (by omega) wfN wfx
 have S5 := S4.putSer hm5 hg5
 have KS5 := S5.cells
 have KH5 : ∀ i, w5.cell? ⟨bh, i, none⟩ = (#[.int .i64 K, .int .i64 Sz, .int .i64 N] : Array Value)[i]? := fun i => by
  rw [World.cell?_of_block (w := w3.drew.drew) (hg5.block bh (by simpa using l3) (by intro g; cases g; have := hslt.2.2.1; omega))]; exact KH3 i
 go_upto_region 8 with fail
 go_region_held3 (fun W => (∀ i, W.cell? ⟨sv, i, none⟩ = (#[.slice (some ⟨b, off, none⟩) ws.length cw, .int .i64 smz, .int .i64 toh, .int .i64 top, .bool cyc, .int .i64 sn, .int .i64 old, .int .i64 cpz, .int .i64 sr, .slice ar rs.length cr, .slice (some ⟨bl, 0, none⟩) ws.length cl, .slice av pl.length cv, .map (some bs), .map (some bc)] : Array Value)[i]?) /\ (∀ i, W.cell? ⟨bh, i, none⟩ = (#[.int .i64 K, .int .i64 Sz, .int .i64 N] : Array Value)[i]?)) (first | assumption | exact ⟨KS3, KH3⟩ | exact ⟨KS5, KH5⟩) (fail)
 have B5 : Below B w w5 := by
  have g1 : Below B w w3.drew.drew := zan B3.drew.drew (by omega)
  exact g1.trans ((zhw hg5).below (C := B) (by omega) (by simp; have := B3.size; omega))
 have q5 : w5.cell? ⟨bl, p, none⟩ = some (.int .i64 (lead p)) := S5.leads p hp
 have f5 := S5.row.frozen p
 clear hlk hup S3d S4 KH3 KS3
 go_upto_region 10 with fail
 obtain ⟨w6, hw6⟩ : ∃ w6, w6 = w5.setCell ⟨bl, p, none⟩ (.int .i64 x) := ⟨_, rfl⟩
 rw [<- hw6]
 have S6 : zv B Bp w6 sv bl bs bc ws.length #[.slice (some ⟨b, off, none⟩) ws.length cw, .int .i64 smz, .int .i64 toh, .int .i64 top, .bool cyc, .int .i64 sn, .int .i64 old, .int .i64 cpz, .int .i64 sr, .slice ar rs.length cr, .slice (some ⟨bl, 0, none⟩) ws.length cl, .slice av pl.length cv, .map (some bs), .map (some bc)] (.slice av pl.length cv) (fun i => if i = p then (p : Int) else lead i) pl (ns + 1) nc (fun z => decide (z = N) || hser z) hcop := by
  rw [hw6, HX.out]; exact S5.setLead p p
 have B6 : Below B w w6 := by rw [hw6]; exact B5.setCell (p := ⟨bl, p, none⟩) (by show B <= bl; omega) _
 clear hw6 S5 KS5 KH5 q5 f5 hg5 hm5 B5
 have KS6 := S6.cells
 have lsv6 := S6.lsv
 go_wp2_with (at_builtin; refine wpList_append_own _ rfl _ _ 64 rfl Bp 3 i0 (.int .i64 0) 1 8 Tryz.underlying64 hi hz0 hz1 hz2 rfl (by decide) _ pl.length (pl.map fun p : Nat => Value.int .i64 (p : Int)) rfl (S6.own.alloc _) ⟨w6.heap.size, 0, none⟩ 1 1 [.int .i64 x] rfl rfl (cell_one_new _ _ _) (ints_oneCell .i64 [x]) (by unfold maxLen; omega) (by omega) (by have := S6.size; simp; omega) ?_; intro v' w7 hown' hgrow hnil; clear hnil; obtain ⟨a', c', rfl⟩ := zdh hown'; have hs7 : w7.heap[sv]? = w6.heap[sv]? := (by rw [hgrow.block sv (by simp; omega) (fun e => by have := (S6.own.lt sv e.symm).1; omega)]; exact Go.Deep.blk_alloc_lt _ _ _ lsv6); have KS7 : ∀ i, w7.cell? ⟨sv, i, none⟩ = (#[.slice (some ⟨b, off, none⟩) ws.length cw, .int .i64 smz, .int .i64 toh, .int .i64 top, .bool cyc, .int .i64 sn, .int .i64 old, .int .i64 cpz, .int .i64 sr, .slice ar rs.length cr, .slice (some ⟨bl, 0, none⟩) ws.length cl, .slice av pl.length cv, .map (some bs), .map (some bc)] : Array Value)[i]? := fun i => (World.cell?_of_block (w := w6) hs7).trans (KS6 i); have F7 : ∀ i, w7.frozen? ⟨sv, i, none⟩ = false := fun i => (World.frozen?_of_block (w := w6) hs7).trans (S6.head.frozen i))
 go_ret
 have hB7 : Below B w w7 := B6.trans (((Below.refl B w6).alloc (Nat.le_trans (by omega) S6.size) _).grown hgrow (by have := S6.size; simp; omega) (fun k hk => by have := (S6.own.lt k hk).1; omega))
 refine ⟨rfl, hB7.setCell (p := ⟨sv, 11, none⟩) hge.1 _, .slice a' (pl.length + 1) c', ⟨_, _, rfl⟩, ?_⟩
 rw [HX.out] at hown'
 rw [HNe.out]
 refine S6.setPlaces (j := 11) (p := p) hgrow hown' rfl ?_
 intro i hi
 have h14 : i < 14 := hi
 have hcs : i = 0 \/ i = 1 \/ i = 2 \/ i = 3 \/ i = 4 \/ i = 5 \/ i = 6 \/ i = 7 \/ i = 8 \/ i = 9 \/ i = 10 \/ i = 11 \/ i = 12 \/ i = 13 := by omega
 rcases hcs with rfl | rfl | rfl | rfl | rfl | rfl | rfl | rfl | rfl | rfl | rfl | rfl | rfl | rfl <;> rfl
set_option maxHeartbeats 4000000 in
theorem zm7 (b off cw : Nat) (ws : List Int) (smz toh top : Int) (cyc : Bool) (sn old cpz sr : Int) (ar : Option Addr) (cr : Nat) (rs : List (Int × Int)) (B Bp sv bl cl bs bc : Nat) (vp : Value) (lead : Nat -> Int) (pl : List Nat) (ns nc : Nat) (hser hcop : Int -> Bool) (x : Int) (p : Nat) (w : World) (hS : zv B Bp w sv bl bs bc ws.length #[.slice (some ⟨b, off, none⟩) ws.length cw, .int .i64 smz, .int .i64 toh, .int .i64 top, .bool cyc, .int .i64 sn, .int .i64 old, .int .i64 cpz, .int .i64 sr, .slice ar rs.length cr, .slice (some ⟨bl, 0, none⟩) ws.length cl, vp, .map (some bs), .map (some bc)] vp lead pl ns nc hser hcop) (hb : b < w.heap.size) (hbB : b < B) (hc : ∀ i, i < ws.length -> w.cell? ⟨b, off + i, none⟩ = some (.int .u64 (za ws i))) (hn : ws.length <= 1048576) (hw : zi ws) (hns : ns <= 10000) (hpl : pl.length <= 10000) (hx : x = p) (hp : p < ws.length) (ho : zac (za ws p) = true) (hlt : rdN (za ws p) < sr) (h0 : rdN (za ws p) = 0) :
 Calls Tryz.prog 163 #[.pointer (some ⟨sv, 0, none⟩), .int .i64 x] w fun e w' => e = .returned (.bool true) /\ Below B w w' /\ ∃ vp', (∃ a c, vp' = .slice a (pl.length + 1) c) /\ zv B Bp w' sv bl bs bc ws.length ((fun vp => #[.slice (some ⟨b, off, none⟩) ws.length cw, .int .i64 smz, .int .i64 toh, .int .i64 top, .bool cyc, .int .i64 sn, .int .i64 old, .int .i64 cpz, .int .i64 sr, .slice ar rs.length cr, .slice (some ⟨bl, 0, none⟩) ws.length cl, vp, .map (some bs), .map (some bc)]) vp') vp' (fun i => if i = p then (p : Int) else lead i) (pl ++ [p]) ns nc hser hcop := by
 obtain ⟨av, cv, rfl⟩ := zdh hS.own
 obtain ⟨i0, hi, hz0, hz1, hz2⟩ := info_parts zpk
 have x0 : 0 <= x := by omega
 have x1 : x < (ws.length : Int) := by omega
 have x2 : x.toNat = p := by omega
 have HX : Hid (x = (p : Int)) := hx
 have hwp := zu hw p
 have hcp := hc p hp
 have KS := hS.cells
 have hrb := zft (za ws p)
 have e0 : (rdN (za ws p) != 0) = false := by simpa using h0
 have hge := hS.ge
 have hsz := hS.size
 have hslt := hS.lt
 have lsv := hS.lsv
 have hltd : decide (sr <= rdN (za ws p)) = false := decide_eq_false (by omega)
 clear hx hc h0 hlt
 go_enter Tryz.func163, Tryz.ntmps163
 go_upto_region 2 with (go_at_call 115; refine (zb1 _ _ hwp.1 hwp.2).mono ?_; rw [ho]; rintro e w1 ⟨rfl, b1⟩)
 obtain ⟨w2, hw2⟩ : ∃ w2, w2 = w1.alloc (.cells #[.int .i64 (rdK (za ws p)), .int .i64 (rdS (za ws p)), .int .i64 (rdN (za ws p))] 78) := ⟨_, rfl⟩
 rw [<- hw2]
 have B2 : Below w.heap.size w w2 := by rw [hw2]; exact b1.alloc b1.size _
 have KS2 := ze KS B2 lsv
 have l1 : w1.heap.size < w2.heap.size := by rw [hw2]; simp
 have KH2 : ∀ i, w2.cell? ⟨w1.heap.size, i, none⟩ = (#[.int .i64 (rdK (za ws p)), .int .i64 (rdS (za ws p)), .int .i64 (rdN (za ws p))] : Array Value)[i]? := fun i => by rw [hw2]; simp [go_sem]
 have l2 : w.heap.size <= w1.heap.size := b1.size
 clear hw2 KS hcp b1
 generalize w1.heap.size = bh at *
 generalize rdK (za ws p) = K at *
 generalize rdS (za ws p) = Sz at *
 generalize hNe : rdN (za ws p) = N at *
 have HNe : Hid (rdN (za ws p) = N) := hNe
 clear hNe
 go_quiet (fail)
 rename_i nq
 obtain ⟨w3, hw3⟩ : ∃ w3, w3 = w2.drewN nq := ⟨_, rfl⟩
 rw [<- hw3]
 have B3 : Below w.heap.size w w3 := by rw [hw3]; exact below_drewN B2 nq
 have KH3 : ∀ i, w3.cell? ⟨bh, i, none⟩ = (#[.int .i64 K, .int .i64 Sz, .int .i64 N] : Array Value)[i]? := fun i => by rw [hw3]; simp [KH2]
 have l3 : bh < w3.heap.size := by rw [hw3]; simpa using l1
 clear hw3 KS2 KH2 B2 l1
 have S3 := hS.below B3
 have KS3 := S3.cells
 have q5 : w3.cell? ⟨bl, p, none⟩ = some (.int .i64 (lead p)) := S3.leads p hp
 have f5 := S3.row.frozen p
 have B5 : Below B w w3 := zan B3 (by omega)
 go_upto_region 10 with fail
 obtain ⟨w6, hw6⟩ : ∃ w6, w6 = w3.setCell ⟨bl, p, none⟩ (.int .i64 x) := ⟨_, rfl⟩
 rw [<- hw6]
 have S6 : zv B Bp w6 sv bl bs bc ws.length #[.slice (some ⟨b, off, none⟩) ws.length cw, .int .i64 smz, .int .i64 toh, .int .i64 top, .bool cyc, .int .i64 sn, .int .i64 old, .int .i64 cpz, .int .i64 sr, .slice ar rs.length cr, .slice (some ⟨bl, 0, none⟩) ws.length cl, .slice av pl.length cv, .map (some bs), .map (some bc)] (.slice av pl.length cv) (fun i => if i = p then (p : Int) else lead i) pl ns nc hser hcop := by
  rw [hw6, HX.out]; exact S3.setLead p p
 have B6 : Below B w w6 := by rw [hw6]; exact B5.setCell (p := ⟨bl, p, none⟩) (by show B <= bl; omega) _
 clear hw6 S3 KS3 KH3 q5 f5 B5
 have KS6 := S6.cells
 have lsv6 := S6.lsv
 go_wp2_with (at_builtin; refine wpList_append_own _ rfl _ _ 64 rfl Bp 3 i0 (.int .i64 0) 1 8 Tryz.underlying64 hi hz0 hz1 hz2 rfl (by decide) _ pl.length (pl.map fun p : Nat => Value.int .i64 (p : Int)) rfl (S6.own.alloc _) ⟨w6.heap.size, 0, none⟩ 1 1 [.int .i64 x] rfl rfl (cell_one_new _ _ _) (ints_oneCell .i64 [x]) (by unfold maxLen; omega) (by omega) (by have := S6.size; simp; omega) ?_; intro v' w7 hown' hgrow hnil; clear hnil; obtain ⟨a', c', rfl⟩ := zdh hown'; have hs7 : w7.heap[sv]? = w6.heap[sv]? := (by rw [hgrow.block sv (by simp; omega) (fun e => by have := (S6.own.lt sv e.symm).1; omega)]; exact Go.Deep.blk_alloc_lt _ _ _ lsv6); have KS7 : ∀ i, w7.cell? ⟨sv, i, none⟩ = (#[.slice (some ⟨b, off, none⟩) ws.length cw, .int .i64 smz, .int .i64 toh, .int .i64 top, .bool cyc, .int .i64 sn, .int .i64 old, .int .i64 cpz, .int .i64 sr, .slice ar rs.length cr, .slice (some ⟨bl, 0, none⟩) ws.length cl, .slice av pl.length cv, .map (some bs), .map (some bc)] : Array Value)[i]? := fun i => (World.cell?_of_block (w := w6) hs7).trans (KS6 i); have F7 : ∀ i, w7.frozen? ⟨sv, i, none⟩ = false := fun i => (World.frozen?_of_block (w := w6) hs7).trans (S6.head.frozen i))
 go_ret
 have hB7 : Below B w w7 := B6.trans (((Below.refl B w6).alloc (Nat.le_trans (by omega) S6.size) _).grown hgrow (by have := S6.size; simp; omega) (fun k hk => by have := (S6.own.lt k hk).1; omega))
 refine ⟨rfl, hB7.setCell (p := ⟨sv, 11, none⟩) hge.1 _, .slice a' (pl.length + 1) c', ⟨_, _, rfl⟩, ?_⟩
 rw [HX.out] at hown'
 refine S6.setPlaces (j := 11) (p := p) hgrow hown' rfl ?_
 intro i hi
 have h14 : i < 14 := hi
 have hcs : i = 0 \/ i = 1 \/ i = 2 \/ i = 3 \/ i = 4 \/ i = 5 \/ i = 6 \/ i = 7 \/ i = 8 \/ i = 9 \/ i = 10 \/ i = 11 \/ i = 12 \/ i = 13 := by omega
 rcases hcs with rfl | rfl | rfl | rfl | rfl | rfl | rfl | rfl | rfl | rfl | rfl | rfl | rfl | rfl <;> rfl
set_option maxHeartbeats 4000000 in
theorem zrd (b off cw : Nat) (ws : List Int) (smz toh top : Int) (cyc : Bool) (sn old cpz sr : Int) (ar : Option Addr) (cr : Nat) (rs : List (Int × Int)) (B Bp sv bl cl bs bc : Nat) (vp : Value) (lead : Nat -> Int) (pl : List Nat) (ns nc : Nat) (hser hcop : Int -> Bool) (x : Int) (p : Nat) (w : World) (hS : zv B Bp w sv bl bs bc ws.length #[.slice (some ⟨b, off, none⟩) ws.length cw, .int .i64 smz, .int .i64 toh, .int .i64 top, .bool cyc, .int .i64 sn, .int .i64 old, .int .i64 cpz, .int .i64 sr, .slice ar rs.length cr, .slice (some ⟨bl, 0, none⟩) ws.length cl, vp, .map (some bs), .map (some bc)] vp lead pl ns nc hser hcop) (hb : b < w.heap.size) (hbB : b < B) (hc : ∀ i, i < ws.length -> w.cell? ⟨b, off + i, none⟩ = some (.int .u64 (za ws i))) (hn : ws.length <= 1048576) (hw : zi ws) (hns : ns <= 10000) (hpl : pl.length <= 10000) (hx : x = p) (hp : p < ws.length) (ho : zac (za ws p) = true) (hlt : rdN (za ws p) < sr) (h0 : rdN (za ws p) ≠ 0) (hd : hser (rdN (za ws p)) = true) :
 Calls Tryz.prog 163 #[.pointer (some ⟨sv, 0, none⟩), .int .i64 x] w fun e w' => e = .returned (.bool false) /\ Below w.heap.size w w' := by
 obtain ⟨av, cv, rfl⟩ := zdh hS.own
 obtain ⟨i0, hi, hz0, hz1, hz2⟩ := info_parts zpk
 have x0 : 0 <= x := by omega
 have x1 : x < (ws.length : Int) := by omega
 have x2 : x.toNat = p := by omega
 have HX : Hid (x = (p : Int)) := hx
 have hwp := zu hw p
 have hcp := hc p hp
 have KS := hS.cells
 have hrb := zft (za ws p)
 have e0 : (rdN (za ws p) != 0) = true := by simpa using h0
 have hge := hS.ge
 have hsz := hS.size
 have hslt := hS.lt
 have lsv := hS.lsv
 have hltd : decide (sr <= rdN (za ws p)) = false := decide_eq_false (by omega)
 clear hx hc h0 hlt
 go_enter Tryz.func163, Tryz.ntmps163
 go_upto_region 2 with (go_at_call 115; refine (zb1 _ _ hwp.1 hwp.2).mono ?_; rw [ho]; rintro e w1 ⟨rfl, b1⟩)
 obtain ⟨w2, hw2⟩ : ∃ w2, w2 = w1.alloc (.cells #[.int .i64 (rdK (za ws p)), .int .i64 (rdS (za ws p)), .int .i64 (rdN (za ws p))] 78) := ⟨_, rfl⟩
 rw [<- hw2]
 have B2 : Below w.heap.size w w2 := by rw [hw2]; exact b1.alloc b1.size _
 have KS2 := ze KS B2 lsv
 have l1 : w1.heap.size < w2.heap.size := by rw [hw2]; simp
 have KH2 : ∀ i, w2.cell? ⟨w1.heap.size, i, none⟩ = (#[.int .i64 (rdK (za ws p)), .int .i64 (rdS (za ws p)), .int .i64 (rdN (za ws p))] : Array Value)[i]? := fun i => by rw [hw2]; simp [go_sem]
 have l2 : w.heap.size <= w1.heap.size := b1.size
 clear hw2 KS hcp b1
 generalize w1.heap.size = bh at *
 generalize rdK (za ws p) = K at *
 generalize rdS (za ws p) = Sz at *
 generalize hNe : rdN (za ws p) = N at *
 have HNe : Hid (rdN (za ws p) = N) := hNe
 clear hNe
 go_quiet (fail)
 rename_i nq
 obtain ⟨w3, hw3⟩ : ∃ w3, w3 = w2.drewN nq := ⟨_, rfl⟩
 rw [<- hw3]
 have B3 : Below w.heap.size w w3 := by rw [hw3]; exact below_drewN B2 nq
 have KH3 : ∀ i, w3.cell? ⟨bh, i, none⟩ = (#[.int .i64 K, .int .i64 Sz, .int .i64 N] : Array Value)[i]? := fun i => by rw [hw3]; simp [KH2]
 have l3 : bh < w3.heap.size := by rw [hw3]; simpa using l1
 clear hw3 KS2 KH2 B2 l1
 have S3 := hS.below B3
 have KS3 := S3.cells
 have wfN : (Lit.int .i64 N).wf = true := wfI (by omega) (by omega)
 have wfx : (Lit.int .i64 x).wf = true := wfI (by omega) (by omega)
 have S3d : zv B Bp w3.drew sv bl bs bc ws.length #[.slice (some ⟨b, off, none⟩) ws.length cw, .int .i64 smz, .int .i64 toh, .int .i64 top, .bool cyc, .int .i64 sn, .int .i64 old, .int .i64 cpz, .int .i64 sr, .slice ar rs.length cr, .slice (some ⟨bl, 0, none⟩) ws.length cl, .slice av pl.length cv, .map (some bs), .map (some bc)] (.slice av pl.length cv) lead pl ns nc hser hcop := S3.below (Below.refl _ _).drew
 obtain ⟨c, hlk⟩ := S3d.ser.look wfN
 rw [hd] at hlk
 go_upto_region 5 with fail
 go_region_held3 (fun W => W = w3.drew) (first | assumption | rfl) (fail)
 go_wp2
 go_ret
 exact ⟨rfl, B3.drew⟩
def zb8 (ws : List Int) (sr : Int) (hser : Int -> Bool) (p : Nat) : Prop := zac (za ws p) = true /\ rdN (za ws p) < sr /\ (rdN (za ws p) ≠ 0 -> hser (rdN (za ws p)) = false)
def zfn (ws : List Int) (hser : Int -> Bool) (p : Nat) (z : Int) : Bool := (decide (rdN (za ws p) ≠ 0) && decide (z = rdN (za ws p))) || hser z
theorem zgq (b off cw : Nat) (ws : List Int) (smz toh top : Int) (cyc : Bool) (sn old cpz sr : Int) (ar : Option Addr) (cr : Nat) (rs : List (Int × Int)) (B Bp sv bl cl bs bc : Nat) (vp : Value) (lead : Nat -> Int) (pl : List Nat) (ns nc : Nat) (hser hcop : Int -> Bool) (x : Int) (p : Nat) (w : World) (hS : zv B Bp w sv bl bs bc ws.length #[.slice (some ⟨b, off, none⟩) ws.length cw, .int .i64 smz, .int .i64 toh, .int .i64 top, .bool cyc, .int .i64 sn, .int .i64 old, .int .i64 cpz, .int .i64 sr, .slice ar rs.length cr, .slice (some ⟨bl, 0, none⟩) ws.length cl, vp, .map (some bs), .map (some bc)] vp lead pl ns nc hser hcop) (hb : b < w.heap.size) (hbB : b < B) (hc : ∀ i, i < ws.length -> w.cell? ⟨b, off + i, none⟩ = some (.int .u64 (za ws i))) (hn : ws.length <= 1048576) (hw : zi ws) (hns : ns <= 10000) (hpl : pl.length <= 10000) (hx : x = p) (hp : p < ws.length) :
 Calls Tryz.prog 163 #[.pointer (some ⟨sv, 0, none⟩), .int .i64 x] w fun e w' => ∃ q, e = .returned (.bool q) /\ (q = true ↔ zb8 ws sr hser p) /\ Below B w w' /\ (q = false -> Below w.heap.size w w') /\ (q = true -> ∃ vp', zv B Bp w' sv bl bs bc ws.length ((fun vp => #[.slice (some ⟨b, off, none⟩) ws.length cw, .int .i64 smz, .int .i64 toh, .int .i64 top, .bool cyc, .int .i64 sn, .int .i64 old, .int .i64 cpz, .int .i64 sr, .slice ar rs.length cr, .slice (some ⟨bl, 0, none⟩) ws.length cl, vp, .map (some bs), .map (some bc)]) vp') vp' (fun i => if i = p then (p : Int) else lead i) (pl ++ [p]) (ns + 1) nc (zfn ws hser p) hcop) := by
 have hBw : B <= w.heap.size := by have := hS.ge; have := hS.lt; have := hS.size; omega
 by_cases h : zac (za ws p) = true /\ rdN (za ws p) < sr
 · by_cases h0 : rdN (za ws p) = 0
   · refine (zm7 b off cw ws smz toh top cyc sn old cpz sr ar cr rs B Bp sv bl cl bs bc vp lead pl ns nc hser hcop x p w hS hb hbB hc hn hw hns hpl hx hp h.1 h.2 h0).mono ?_
     rintro e w' ⟨he, hB', vp', _, hS'⟩
     have es : zfn ws hser p = hser := by funext z; simp [zfn, h0]
     refine ⟨true, he, ⟨fun _ => ⟨h.1, h.2, fun g => absurd h0 g⟩, fun _ => rfl⟩, hB', (fun g => by simp at g), fun _ => ⟨vp', ?_⟩⟩
     rw [es]
     exact hS'.monoSer (by omega)
   · cases hd : hser (rdN (za ws p)) with
     | true =>
       refine (zrd b off cw ws smz toh top cyc sn old cpz sr ar cr rs B Bp sv bl cl bs bc vp lead pl ns nc hser hcop x p w hS hb hbB hc hn hw hns hpl hx hp h.1 h.2 h0 hd).mono ?_
       rintro e w' ⟨he, hB'⟩
       exact ⟨false, he, ⟨fun g => by simp at g, fun g => by have := g.2.2 h0; rw [hd] at this; simp at this⟩, zan hB' hBw, fun _ => hB', fun g => by simp at g⟩
     | false =>
       refine (zrc b off cw ws smz toh top cyc sn old cpz sr ar cr rs B Bp sv bl cl bs bc vp lead pl ns nc hser hcop x p w hS hb hbB hc hn hw hns hpl hx hp h.1 h.2 h0 hd).mono ?_
       rintro e w' ⟨he, hB', vp', _, hS'⟩
       have es : zfn ws hser p = (fun z => decide (z = rdN (za ws p)) || hser z) := by funext z; simp [zfn, h0]
       refine ⟨true, he, ⟨fun _ => ⟨h.1, h.2, fun _ => hd⟩, fun _ => rfl⟩, hB', (fun g => by simp at g), fun _ => ⟨vp', ?_⟩⟩
       rw [es]
       exact hS'
 · refine (zsl b off cw ws smz toh top cyc sn old cpz sr ar cr rs sv bl cl bs bc vp lead x p w hS.lsv hS.cells hS.lbl hS.leads hb hc hn hw hx hp h).mono ?_
   rintro e w' ⟨he, hB'⟩
   exact ⟨false, he, ⟨fun g => by simp at g, fun g => absurd ⟨g.1, g.2.1⟩ h⟩, zan hB' hBw, fun _ => hB', fun g => by simp at g⟩
end Go.Proofs.YtmckcnmlhgpnhaaGreat
