/- - -/
import Derived.Test.YtmckcnmlhgpnhaaGreatWSvB
import Derived.Test.YtmckcnmlhgpnhaaGreatWOkA
namespace Go.Proofs.YtmckcnmlhgpnhaaGreat
set_option maxRecDepth 20000
open Go.RowKit Go.Maps
set_option linter.unusedSimpArgs false
set_option linter.unusedVariables false
theorem zb7.mono {w : World} {B n m : Nat} {h : Int -> Bool} (a : zb7 w B n h) (hm : n <= m) : zb7 w B m h := by
 obtain ⟨D, hD, hh⟩ := a
 exact ⟨D, hD.mono hm, hh⟩
theorem zad.monoSer {B Bp : Nat} {w : World} {sv bl bs bc n : Nat} {C : Array Value} {vp : Value} {lead : Nat -> Int} {pl : List Nat} {ns nc m : Nat} {hser hcop : Int -> Bool} (h : zad B Bp w sv bl bs bc n C vp lead pl ns nc hser hcop) (hm : ns <= m) : zad B Bp w sv bl bs bc n C vp lead pl m nc hser hcop :=
 ⟨h.head, h.row, h.own, h.ser.mono hm, h.cop, h.ge, h.lt, h.ne, h.size⟩
theorem zat {B : Nat} {w w' : World} (h : Below w.heap.size w w') (hB : B <= w.heap.size) : Below B w w' := ⟨h.os, h.tape, h.output, h.size, fun k hk => h.block k (Nat.lt_of_lt_of_le hk hB)⟩
set_option maxHeartbeats 2000000 in
theorem zvd (b off cw : Nat) (ws : List Int) (smz toh top : Int) (cyc : Bool) (sn old cpz sr : Int) (ar : Option Addr) (cr : Nat) (rs : List (Int × Int)) (sv bl cl bs bc : Nat) (vp : Value) (lead : Nat -> Int) (x : Int) (p : Nat) (w : World) (lsv : sv < w.heap.size) (KS : ∀ i, w.cell? ⟨sv, i, none⟩ = (#[.slice (some ⟨b, off, none⟩) ws.length cw, .int .i64 smz, .int .i64 toh, .int .i64 top, .bool cyc, .int .i64 sn, .int .i64 old, .int .i64 cpz, .int .i64 sr, .slice ar rs.length cr, .slice (some ⟨bl, 0, none⟩) ws.length cl, vp, .map (some bs), .map (some bc)] : Array Value)[i]?) (lbl : bl < w.heap.size) (hl : ∀ i, i < ws.length -> w.cell? ⟨bl, i, none⟩ = some (.int .i64 (lead i))) (hb : b < w.heap.size) (hc : ∀ i, i < ws.length -> w.cell? ⟨b, off + i, none⟩ = some (.int .u64 (za ws i))) (hn : ws.length <= 1048576) (hw : zg ws) (hx : x = p) (hp : p < ws.length) (h : ¬ (zai (za ws p) = true /\ rdN (za ws p) < sr)) :
 Calls Tryz.prog 163 #[.pointer (some ⟨sv, 0, none⟩), .int .i64 x] w fun e w' => e = .returned (.bool false) /\ Below w.heap.size w w' := by
 have x0 : 0 <= x := by omega
 have x1 : x < (ws.length : Int) := by omega
 have x2 : x.toNat = p := by omega
 have hwp := zac hw p
 have hcp := hc p hp
 clear hx hl hc
 by_cases ho : zai (za ws p) = true
 · have hge : sr <= rdN (za ws p) := by
    by_cases g : rdN (za ws p) < sr
    · exact absurd ⟨ho, g⟩ h
    · omega
   clear h
   go_enter Tryz.func163, Tryz.ntmps163
   go_upto_region 2 with (go_at_call 115; refine (zcb _ _ hwp.1 hwp.2).mono ?_; rw [ho]; rintro e w1 ⟨rfl, b1⟩)
   obtain ⟨w2, hw2⟩ : ∃ w2, w2 = w1.alloc (.cells #[.int .i64 (rdK (za ws p)), .int .i64 (rdS (za ws p)), .int .i64 (rdN (za ws p))] 78) := ⟨_, rfl⟩
   rw [<- hw2]
   have B2 : Below w.heap.size w w2 := by rw [hw2]; exact b1.alloc b1.size _
   have KS2 := ze KS B2 lsv
   have KH2 : ∀ i, w2.cell? ⟨w1.heap.size, i, none⟩ = (#[.int .i64 (rdK (za ws p)), .int .i64 (rdS (za ws p)), .int .i64 (rdN (za ws p))] : Array Value)[i]? := fun i => by rw [hw2]; simp [go_sem]
   clear hw2 KS hcp b1
   go_quiet (fail)
   all_goals
    go_wp2
    go_ret
    exact ⟨rfl, below_drewN B2 _⟩
 · rw [Bool.not_eq_true] at ho
   clear h
   go_enter Tryz.func163, Tryz.ntmps163
   go_upto_region 2 with (go_at_call 115; refine (zcb _ _ hwp.1 hwp.2).mono ?_; rw [ho]; rintro e w1 ⟨rfl, b1⟩)
   obtain ⟨w2, hw2⟩ : ∃ w2, w2 = w1.alloc (.cells #[.int .i64 (rdK (za ws p)), .int .i64 (rdS (za ws p)), .int .i64 (rdN (za ws p))] 78) := ⟨_, rfl⟩
   rw [<- hw2]
   have B2 : Below w.heap.size w w2 := by rw [hw2]; exact b1.alloc b1.size _
   have KS2 := ze KS B2 lsv
   clear hw2 KS hcp b1
   go_quiet (fail)
   all_goals
    go_wp2
    go_ret
    exact ⟨rfl, below_drewN B2 _⟩
theorem zdt {B : Nat} {e : TypeId} {w : World} {v : Value} {n : Nat} {xs : List Value} (h : w.ownsRow B e 1 v n xs) : ∃ a c, v = .slice a n c := by
 obtain ⟨_, ⟨rfl, rfl⟩ | ⟨g, cap, cur, rfl, _⟩⟩ := h
 · exact ⟨_, _, rfl⟩
 · exact ⟨_, _, rfl⟩
theorem zrr : (Tryz.prog.info? 3).map (fun i => (i.zero, i.size, i.bytes)) = some (some (.int .i64 0), 1, 8) := by kernel_rfl
theorem zad.drewN {B Bp : Nat} {w : World} {sv bl bs bc n : Nat} {C : Array Value} {vp : Value} {lead : Nat -> Int} {pl : List Nat} {ns nc : Nat} {hser hcop : Int -> Bool} (h : zad B Bp w sv bl bs bc n C vp lead pl ns nc hser hcop) (k : Nat) : zad B Bp (w.drewN k) sv bl bs bc n C vp lead pl ns nc hser hcop :=
 h.below (below_drewN (Below.refl _ _) k)
set_option maxHeartbeats 4000000 in
theorem zts (b off cw : Nat) (ws : List Int) (smz toh top : Int) (cyc : Bool) (sn old cpz sr : Int) (ar : Option Addr) (cr : Nat) (rs : List (Int × Int)) (B Bp sv bl cl bs bc : Nat) (vp : Value) (lead : Nat -> Int) (pl : List Nat) (ns nc : Nat) (hser hcop : Int -> Bool) (x : Int) (p : Nat) (w : World) (hS : zad B Bp w sv bl bs bc ws.length #[.slice (some ⟨b, off, none⟩) ws.length cw, .int .i64 smz, .int .i64 toh, .int .i64 top, .bool cyc, .int .i64 sn, .int .i64 old, .int .i64 cpz, .int .i64 sr, .slice ar rs.length cr, .slice (some ⟨bl, 0, none⟩) ws.length cl, vp, .map (some bs), .map (some bc)] vp lead pl ns nc hser hcop) (hb : b < w.heap.size) (hbB : b < B) (hc : ∀ i, i < ws.length -> w.cell? ⟨b, off + i, none⟩ = some (.int .u64 (za ws i))) (hn : ws.length <= 1048576) (hw : zg ws) (hns : ns <= 10000) (hpl : pl.length <= 10000) (hx : x = p) (hp : p < ws.length) (ho : zai (za ws p) = true) (hlt : rdN (za ws p) < sr) (h0 : rdN (za ws p) ≠ 0) (hd : hser (rdN (za ws p)) = false) :
 Calls Tryz.prog 163 #[.pointer (some ⟨sv, 0, none⟩), .int .i64 x] w fun e w' => e = .returned (.bool true) /\ Below B w w' /\ ∃ vp', (∃ a c, vp' = .slice a (pl.length + 1) c) /\ zad B Bp w' sv bl bs bc ws.length ((fun vp => #[.slice (some ⟨b, off, none⟩) ws.length cw, .int .i64 smz, .int .i64 toh, .int .i64 top, .bool cyc, .int .i64 sn, .int .i64 old, .int .i64 cpz, .int .i64 sr, .slice ar rs.length cr, .slice (some ⟨bl, 0, none⟩) ws.length cl, vp, .map (some bs), .map (some bc)]) vp') vp' (fun i => if i = p then (p : Int) else lead i) (pl ++ [p]) (ns + 1) nc (fun z => decide (z = rdN (za ws p)) || hser z) hcop := by
 obtain ⟨av, cv, rfl⟩ := zdt hS.own
 obtain ⟨i0, hi, hz0, hz1, hz2⟩ := info_parts zrr
 have x0 : 0 <= x := by omega
 have x1 : x < (ws.length : Int) := by omega
 have x2 : x.toNat = p := by omega
 have HX : Hid (x = (p : Int)) := hx
 have hwp := zac hw p
 have hcp := hc p hp
 have KS := hS.cells
 have hrb := zgc (za ws p)
 have e0 : (rdN (za ws p) != 0) = true := by simpa using h0
 have hge := hS.ge
 have hsz := hS.size
 have hslt := hS.lt
 have lsv := hS.lsv
 have hltd : decide (sr <= rdN (za ws p)) = false := decide_eq_false (by omega)
 clear hx hc h0 hlt
 go_enter Tryz.func163, Tryz.ntmps163
 go_upto_region 2 with (go_at_call 115; refine (zcb _ _ hwp.1 hwp.2).mono ?_; rw [ho]; rintro e w1 ⟨rfl, b1⟩)
 obtain ⟨w2, hw2⟩ : ∃ w2, w2 = w1.alloc (.cells #[.int .i64 (rdK (za ws p)), .int .i64 (rdS (za ws p)), .int .i64 (rdN (za ws p))] 78) := ⟨_, rfl⟩
 rw [<- hw2]
 have B2 : Below w.heap.size w w2 := by rw [hw2]; exact b1.alloc b1.size _
 have KS2 := ze KS B2 lsv
 have l1 : w1.heap.size < w2.heap.size := by rw [hw2]; simp
 have KH2 : ∀ i, w2.cell? ⟨w1.heap.size, i, none⟩ = (#[.int .i64 (rdK (za ws p)), .int .i64 (rdS (za ws p)), .int .i64 (rdN (za ws p))] : Array Value)[i]? := fun i => by rw [hw2]; simp [go_sem]
 have l2 : w.heap.size <= w1.heap.size := b1.size
 clear hw2 KS hcp b1
 generalize w1.heap.size = bh at *
 generalize rdK (za ws p) = K at *
 generalize rdS (za ws p) = Sz at *
 generalize hNe : rdN (za ws p) = N at *
 have HNe : Hid (rdN (za ws p) = N) := hNe
 clear hNe
 go_quiet (fail)
 rename_i nq
 obtain ⟨w3, hw3⟩ : ∃ w3, w3 = w2.drewN nq := ⟨_, rfl⟩
 rw [<- hw3]
 have B3 : Below w.heap.size w w3 := by rw [hw3]; exact below_drewN B2 nq
 have KH3 : ∀ i, w3.cell? ⟨bh, i, none⟩ = (#[.int .i64 K, .int .i64 Sz, .int .i64 N] : Array Value)[i]? := fun i => by rw [hw3]; simp [KH2]
 have l3 : bh < w3.heap.size := by rw [hw3]; simpa using l1
 clear hw3 KS2 KH2 B2 l1
 have S3 := hS.below B3
 have KS3 := S3.cells
 have wfN : (Lit.int .i64 N).wf = true := wfI (by omega) (by omega)
 have wfx : (Lit.int .i64 x).wf = true := wfI (by omega) (by omega)
 have S3d : zad B Bp w3.drew sv bl bs bc ws.length #[.slice (some ⟨b, off, none⟩) ws.length cw, .int .i64 smz, .int .i64 toh, .int .i64 top, .bool cyc, .int .i64 sn, .int .i64 old, .int .i64 cpz, .int .i64 sr, .slice ar rs.length cr, .slice (some ⟨bl, 0, none⟩) ws.length cl, .slice av pl.length cv, .map (some bs), .map (some bc)] (.slice av pl.length cv) lead pl ns nc hser hcop := S3.below (Below.refl _ _).drew
 obtain ⟨c, hlk⟩ := S3d.ser.look wfN
 rw [hd] at hlk
 go_upto_region 5 with fail
 go_region_held3 (fun W => W = w3.drew) (first | assumption | rfl) (fail)
 have S4 : zad B Bp w3.drew.drew sv bl bs bc ws.length #[.slice (some ⟨b, off, none⟩) ws.length cw, .int .i64 smz, .int .i64 toh, .int .i64 top, .bool cyc, .int .i64 sn, .int .i64 old, .int .i64 cpz, .int .i64 sr, .slice ar rs.length cr, .slice (some ⟨bl, 0, none⟩) ws.length cl, .slice av pl.length cv, .map (some bs), .map (some bc)] (.slice av pl.length cv) lead pl ns nc hser hcop := S3.below (Below.refl _ _).drew.drew
 obtain ⟨w5, hup, hm5, hg5⟩ := S4.ser.put (by omega) wfN wfx
 have S5 := S4.putSer hm5 hg5
 have KS5 := S5.cells
 have KH5 : ∀ i, w5.cell? ⟨bh, i, none⟩ = (#[.int .i64 K, .int .i64 Sz, .int .i64 N] : Array Value)[i]? := fun i => by
  rw [World.cell?_of_block (w := w3.drew.drew) (hg5.block bh (by simpa using l3) (by intro g; cases g; have := hslt.2.2.1; omega))]; exact KH3 i
 go_upto_region 8 with fail
 go_region_held3 (fun W => (∀ i, W.cell? ⟨sv, i, none⟩ = (#[.slice (some ⟨b, off, none⟩) ws.length cw, .int .i64 smz, .int .i64 toh, .int .i64 top, .bool cyc, .int .i64 sn, .int .i64 old, .int .i64 cpz, .int .i64 sr, .slice ar rs.length cr, .slice (some ⟨bl, 0, none⟩) ws.length cl, .slice av pl.length cv, .map (some bs), .map (some bc)] : Array Value)[i]?) /\ (∀ i, W.cell? ⟨bh, i, none⟩ = (#[.int .i64 K, .int .i64 Sz, .int .i64 N] : Array Value)[i]?)) (first | assumption | exact ⟨KS3, KH3⟩ | exact ⟨KS5, KH5⟩) (fail)
 have B5 : Below B w w5 := by
  have g1 : Below B w w3.drew.drew := zat B3.drew.drew (by omega)
  exact g1.trans ((ziw hg5).below (C := B) (by omega) (by simp; have := B3.size; omega))
 have q5 : w5.cell? ⟨bl, p, none⟩ = some (.int .i64 (lead p)) := S5.leads p hp
 have f5 := S5.row.frozen p
 clear hlk hup S3d S4 KH3 KS3
 go_upto_region 10 with fail
 obtain ⟨w6, hw6⟩ : ∃ w6, w6 = w5.setCell ⟨bl, p, none⟩ (.int .i64 x) := ⟨_, rfl⟩
 rw [<- hw6]
 have S6 : zad B Bp w6 sv bl bs bc ws.length #[.slice (some ⟨b, off, none⟩) ws.length cw, .int .i64 smz, .int .i64 toh, .int .i64 top, .bool cyc, .int .i64 sn, .int .i64 old, .int .i64 cpz, .int .i64 sr, .slice ar rs.length cr, .slice (some ⟨bl, 0, none⟩) ws.length cl, .slice av pl.length cv, .map (some bs), .map (some bc)] (.slice av pl.length cv) (fun i => if i = p then (p : Int) else lead i) pl (ns + 1) nc (fun z => decide (z = N) || hser z) hcop := by
  rw [hw6, HX.out]; exact S5.setLead p p
 have B6 : Below B w w6 := by rw [hw6]; exact B5.setCell (p := ⟨bl, p, none⟩) (by show B <= bl; omega) _
 clear hw6 S5 KS5 KH5 q5 f5 hg5 hm5 B5
 have KS6 := S6.cells
 have lsv6 := S6.lsv
 go_wp2_with (at_builtin; refine wpList_append_own _ rfl _ _ 64 rfl Bp 3 i0 (.int .i64 0) 1 8 Tryz.underlying64 hi hz0 hz1 hz2 rfl (by decide) _ pl.length (pl.map fun p : Nat => Value.int .i64 (p : Int)) rfl (S6.own.alloc _) ⟨w6.heap.size, 0, none⟩ 1 1 [.int .i64 x] rfl rfl (cell_one_new _ _ _) (ints_oneCell .i64 [x]) (by unfold maxLen; omega) (by omega) (by have := S6.size; simp; omega) ?_; intro v' w7 hown' hgrow hnil; clear hnil; obtain ⟨a', c', rfl⟩ := zdt hown'; have hs7 : w7.heap[sv]? = w6.heap[sv]? := (by rw [hgrow.block sv (by simp; omega) (fun e => by have := (S6.own.lt sv e.symm).1; omega)]; exact Go.Deep.blk_alloc_lt _ _ _ lsv6); have KS7 : ∀ i, w7.cell? ⟨sv, i, none⟩ = (#[.slice (some ⟨b, off, none⟩) ws.length cw, .int .i64 smz, .int .i64 toh, .int .i64 top, .bool cyc, .int .i64 sn, .int .i64 old, .int .i64 cpz, .int .i64 sr, .slice ar rs.length cr, .slice (some ⟨bl, 0, none⟩) ws.length cl, .slice av pl.length cv, .map (some bs), .map (some bc)] : Array Value)[i]? := fun i => (World.cell?_of_block (w := w6) hs7).trans (KS6 i); have F7 : ∀ i, w7.frozen? ⟨sv, i, none⟩ = false := fun i => (World.frozen?_of_block (w := w6) hs7).trans (S6.head.frozen i))
 go_ret
 have hB7 : Below B w w7 := B6.trans (((Below.refl B w6).alloc (Nat.le_trans (by omega) S6.size) _).grown hgrow (by have := S6.size; simp; omega) (fun k hk => by have := (S6.own.lt k hk).1; omega))
 refine ⟨rfl, hB7.setCell (p := ⟨sv, 11, none⟩) hge.1 _, .slice a' (pl.length + 1) c', ⟨_, _, rfl⟩, ?_⟩
 rw [HX.out] at hown'
 rw [HNe.out]
 refine S6.setPlaces (j := 11) (p := p) hgrow hown' rfl ?_
 intro i hi
 have h14 : i < 14 := hi
 have hcs : i = 0 \/ i = 1 \/ i = 2 \/ i = 3 \/ i = 4 \/ i = 5 \/ i = 6 \/ i = 7 \/ i = 8 \/ i = 9 \/ i = 10 \/ i = 11 \/ i = 12 \/ i = 13 := by omega
 rcases hcs with rfl | rfl | rfl | rfl | rfl | rfl | rfl | rfl | rfl | rfl | rfl | rfl | rfl | rfl <;> rfl
set_option maxHeartbeats 4000000 in
theorem zo6 (b off cw : Nat) (ws : List Int) (smz toh top : Int) (cyc : Bool) (sn old cpz sr : Int) (ar : Option Addr) (cr : Nat) (rs : List (Int × Int)) (B Bp sv bl cl bs bc : Nat) (vp : Value) (lead : Nat -> Int) (pl : List Nat) (ns nc : Nat) (hser hcop : Int -> Bool) (x : Int) (p : Nat) (w : World) (hS : zad B Bp w sv bl bs bc ws.length #[.slice (some ⟨b, off, none⟩) ws.length cw, .int .i64 smz, .int .i64 toh, .int .i64 top, .bool cyc, .int .i64 sn, .int .i64 old, .int .i64 cpz, .int .i64 sr, .slice ar rs.length cr, .slice (some ⟨bl, 0, none⟩) ws.length cl, vp, .map (some bs), .map (some bc)] vp lead pl ns nc hser hcop) (hb : b < w.heap.size) (hbB : b < B) (hc : ∀ i, i < ws.length -> w.cell? ⟨b, off + i, none⟩ = some (.int .u64 (za ws i))) (hn : ws.length <= 1048576) (hw : zg ws) (hns : ns <= 10000) (hpl : pl.length <= 10000) (hx : x = p) (hp : p < ws.length) (ho : zai (za ws p) = true) (hlt : rdN (za ws p) < sr) (h0 : rdN (za ws p) = 0) :
 Calls Tryz.prog 163 #[.pointer (some ⟨sv, 0, none⟩), .int .i64 x] w fun e w' => e = .returned (.bool true) /\ Below B w w' /\ ∃ vp', (∃ a c, vp' = .slice a (pl.length + 1) c) /\ zad B Bp w' sv bl bs bc ws.length ((fun vp => #[.slice (some ⟨b, off, none⟩) ws.length cw, .int .i64 smz, .int .i64 toh, .int .i64 top, .bool cyc, .int .i64 sn, .int .i64 old, .int .i64 cpz, .int .i64 sr, .slice ar rs.length cr, .slice (some ⟨bl, 0, none⟩) ws.length cl, vp, .map (some bs), .map (some bc)]) vp') vp' (fun i => if i = p then (p : Int) else lead i) (pl ++ [p]) ns nc hser hcop := by
 obtain ⟨av, cv, rfl⟩ := zdt hS.own
 obtain ⟨i0, hi, hz0, hz1, hz2⟩ := info_parts zrr
 have x0 : 0 <= x := by omega
 have x1 : x < (ws.length : Int) := by omega
 have x2 : x.toNat = p := by omega
 have HX : Hid (x = (p : Int)) := hx
 have hwp := zac hw p
 have hcp := hc p hp
 have KS := hS.cells
 have hrb := zgc (za ws p)
 have e0 : (rdN (za ws p) != 0) = false := by simpa using h0
 have hge := hS.ge
 have hsz := hS.size
 have hslt := hS.lt
 have lsv := hS.lsv
 have hltd : decide (sr <= rdN (za ws p)) = false := decide_eq_false (by omega)
 clear hx hc h0 hlt
 go_enter Tryz.func163, Tryz.ntmps163
 go_upto_region 2 with (go_at_call 115; refine (zcb _ _ hwp.1 hwp.2).mono ?_; rw [ho]; rintro e w1 ⟨rfl, b1⟩)
 obtain ⟨w2, hw2⟩ : ∃ w2, w2 = w1.alloc (.cells #[.int .i64 (rdK (za ws p)), .int .i64 (rdS (za ws p)), .int .i64 (rdN (za ws p))] 78) := ⟨_, rfl⟩
 rw [<- hw2]
 have B2 : Below w.heap.size w w2 := by rw [hw2]; exact b1.alloc b1.size _
 have KS2 := ze KS B2 lsv
 have l1 : w1.heap.size < w2.heap.size := by rw [hw2]; simp
 have KH2 : ∀ i, w2.cell? ⟨w1.heap.size, i, none⟩ = (#[.int .i64 (rdK (za ws p)), .int .i64 (rdS (za ws p)), .int .i64 (rdN (za ws p))] : Array Value)[i]? := fun i => by rw [hw2]; simp [go_sem]
 have l2 : w.heap.size <= w1.heap.size := b1.size
 clear hw2 KS hcp b1
 generalize w1.heap.size = bh at *
 generalize rdK (za ws p) = K at *
 generalize rdS (za ws p) = Sz at *
 generalize hNe : rdN (za ws p) = N at *
 have HNe : Hid (rdN (za ws p) = N) := hNe
 clear hNe
 go_quiet (fail)
 rename_i nq
 obtain ⟨w3, hw3⟩ : ∃ w3, w3 = w2.drewN nq := ⟨_, rfl⟩
 rw [<- hw3]
 have B3 : Below w.heap.size w w3 := by rw [hw3]; exact below_drewN B2 nq
 have KH3 : ∀ i, w3.cell? ⟨bh, i, none⟩ = (#[.int .i64 K, .int .i64 Sz, .int .i64 N] : Array Value)[i]? := fun i => by rw [hw3]; simp [KH2]
 have l3 : bh < w3.heap.size := by rw [hw3]; simpa using l1
 clear hw3 KS2 KH2 B2 l1
 have S3 := hS.below B3
 have KS3 := S3.cells
 have q5 : w3.cell? ⟨bl, p, none⟩ = some (.int .i64 (lead p)) := S3.leads p hp
 have f5 := S3.row.frozen p
 have B5 : Below B w w3 := zat B3 (by omega)
 go_upto_region 10 with fail
 obtain ⟨w6, hw6⟩ : ∃ w6, w6 = w3.setCell ⟨bl, p, none⟩ (.int .i64 x) := ⟨_, rfl⟩
 rw [<- hw6]
 have S6 : zad B Bp w6 sv bl bs bc ws.length #[.slice (some ⟨b, off, none⟩) ws.length cw, .int .i64 smz, .int .i64 toh, .int .i64 top, .bool cyc, .int .i64 sn, .int .i64 old, .int .i64 cpz, .int .i64 sr, .slice ar rs.length cr, .slice (some ⟨bl, 0, none⟩) ws.length cl, .slice av pl.length cv, .map (some bs), .map (some bc)] (.slice av pl.length cv) (fun i => if i = p then (p : Int) else lead i) pl ns nc hser hcop := by
  rw [hw6, HX.out]; exact S3.setLead p p
 have B6 : Below B w w6 := by rw [hw6]; exact B5.setCell (p := ⟨bl, p, none⟩) (by show B <= bl; omega) _
 clear hw6 S3 KS3 KH3 q5 f5 B5
 have KS6 := S6.cells
 have lsv6 := S6.lsv
 go_wp2_with (at_builtin; refine wpList_append_own _ rfl _ _ 64 rfl Bp 3 i0 (.int .i64 0) 1 8 Tryz.underlying64 hi hz0 hz1 hz2 rfl (by decide) _ pl.length (pl.map fun p : Nat => Value.int .i64 (p : Int)) rfl (S6.own.alloc _) ⟨w6.heap.size, 0, none⟩ 1 1 [.int .i64 x] rfl rfl (cell_one_new _ _ _) (ints_oneCell .i64 [x]) (by unfold maxLen; omega) (by omega) (by have := S6.size; simp; omega) ?_; intro v' w7 hown' hgrow hnil; clear hnil; obtain ⟨a', c', rfl⟩ := zdt hown'; have hs7 : w7.heap[sv]? = w6.heap[sv]? := (by rw [hgrow.block sv (by simp; omega) (fun e => by have := (S6.own.lt sv e.symm).1; omega)]; exact Go.Deep.blk_alloc_lt _ _ _ lsv6); have KS7 : ∀ i, w7.cell? ⟨sv, i, none⟩ = (#[.slice (some ⟨b, off, none⟩) ws.length cw, .int .i64 smz, .int .i64 toh, .int .i64 top, .bool cyc, .int .i64 sn, .int .i64 old, .int .i64 cpz, .int .i64 sr, .slice ar rs.length cr, .slice (some ⟨bl, 0, none⟩) ws.length cl, .slice av pl.length cv, .map (some bs), .map (some bc)] : Array Value)[i]? := fun i => (World.cell?_of_block (w := w6) hs7).trans (KS6 i); have F7 : ∀ i, w7.frozen? ⟨sv, i, none⟩ = false := fun i => (World.frozen?_of_block (w := w6) hs7).trans (S6.head.frozen i))
 go_ret
 have hB7 : Below B w w7 := B6.trans (((Below.refl B w6).alloc (Nat.le_trans (by omega) S6.size) _).grown hgrow (by have := S6.size; simp; omega) (fun k hk => by have := (S6.own.lt k hk).1; omega))
 refine ⟨rfl, hB7.setCell (p := ⟨sv, 11, none⟩) hge.1 _, .slice a' (pl.length + 1) c', ⟨_, _, rfl⟩, ?_⟩
 rw [HX.out] at hown'
 refine S6.setPlaces (j := 11) (p := p) hgrow hown' rfl ?_
 intro i hi
 have h14 : i < 14 := hi
 have hcs : i = 0 \/ i = 1 \/ i = 2 \/ i = 3 \/ i = 4 \/ i = 5 \/ i = 6 \/ i = 7 \/ i = 8 \/ i = 9 \/ i = 10 \/ i = 11 \/ i = 12 \/ i = 13 := by omega
 rcases hcs with rfl | rfl | rfl | rfl | rfl | rfl | rfl | rfl | rfl | rfl | rfl | rfl | rfl | rfl <;> rfl
set_option maxHeartbeats 4000000 in
theorem ztt (b off cw : Nat) (ws : List Int) (smz toh top : Int) (cyc : Bool) (sn old cpz sr : Int) (ar : Option Addr) (cr : Nat) (rs : List (Int × Int)) (B Bp sv bl cl bs bc : Nat) (vp : Value) (lead : Nat -> Int) (pl : List Nat) (ns nc : Nat) (hser hcop : Int -> Bool) (x : Int) (p : Nat) (w : World) (hS : zad B Bp w sv bl bs bc ws.length #[.slice (some ⟨b, off, none⟩) ws.length cw, .int .i64 smz, .int .i64 toh, .int .i64 top, .bool cyc, .int .i64 sn, .int .i64 old, .int .i64 cpz, .int .i64 sr, .slice ar rs.length cr, .slice (some ⟨bl, 0, none⟩) ws.length cl, vp, .map (some bs), .map (some bc)] vp lead pl ns nc hser hcop) (hb : b < w.heap.size) (hbB : b < B) (hc : ∀ i, i < ws.length -> w.cell? ⟨b, off + i, none⟩ = some (.int .u64 (za ws i))) (hn : ws.length <= 1048576) (hw : zg ws) (hns : ns <= 10000) (hpl : pl.length <= 10000) (hx : x = p) (hp : p < ws.length) (ho : zai (za ws p) = true) (hlt : rdN (za ws p) < sr) (h0 : rdN (za ws p) ≠ 0) (hd : hser (rdN (za ws p)) = true) :
 Calls Tryz.prog 163 #[.pointer (some ⟨sv, 0, none⟩), .int .i64 x] w fun e w' => e = .returned (.bool false) /\ Below w.heap.size w w' := by
 obtain ⟨av, cv, rfl⟩ := zdt hS.own
 obtain ⟨i0, hi, hz0, hz1, hz2⟩ := info_parts zrr
 have x0 : 0 <= x := by omega
 have x1 : x < (ws.length : Int) := by omega
 have x2 : x.toNat = p := by omega
 have HX : Hid (x = (p : Int)) := hx
 have hwp := zac hw p
 have hcp := hc p hp
 have KS := hS.cells
 have hrb := zgc (za ws p)
 have e0 : (rdN (za ws p) != 0) = true := by simpa using h0
 have hge := hS.ge
 have hsz := hS.size
 have hslt := hS.lt
 have lsv := hS.lsv
 have hltd : decide (sr <= rdN (za ws p)) = false := decide_eq_false (by omega)
 clear hx hc h0 hlt
 go_enter Tryz.func163, Tryz.ntmps163
 go_upto_region 2 with (go_at_call 115; refine (zcb _ _ hwp.1 hwp.2).mono ?_; rw [ho]; rintro e w1 ⟨rfl, b1⟩)
 obtain ⟨w2, hw2⟩ : ∃ w2, w2 = w1.alloc (.cells #[.int .i64 (rdK (za ws p)), .int .i64 (rdS (za ws p)), .int .i64 (rdN (za ws p))] 78) := ⟨_, rfl⟩
 rw [<- hw2]
 have B2 : Below w.heap.size w w2 := by rw [hw2]; exact b1.alloc b1.size _
 have KS2 := ze KS B2 lsv
 have l1 : w1.heap.size < w2.heap.size := by rw [hw2]; simp
 have KH2 : ∀ i, w2.cell? ⟨w1.heap.size, i, none⟩ = (#[.int .i64 (rdK (za ws p)), .int .i64 (rdS (za ws p)), .int .i64 (rdN (za ws p))] : Array Value)[i]? := fun i => by rw [hw2]; simp [go_sem]
 have l2 : w.heap.size <= w1.heap.size := b1.size
 clear hw2 KS hcp b1
 generalize w1.heap.size = bh at *
 generalize rdK (za ws p) = K at *
 generalize rdS (za ws p) = Sz at *
 generalize hNe : rdN (za ws p) = N at *
 have HNe : Hid (rdN (za ws p) = N) := hNe
 clear hNe
 go_quiet (fail)
 rename_i nq
 obtain ⟨w3, hw3⟩ : ∃ w3, w3 = w2.drewN nq := ⟨_, rfl⟩
 rw [<- hw3]
 have B3 : Below w.heap.size w w3 := by rw [hw3]; exact below_drewN B2 nq
 have KH3 : ∀ i, w3.cell? ⟨bh, i, none⟩ = (#[.int .i64 K, .int .i64 Sz, .int .i64 N] : Array Value)[i]? := fun i => by rw [hw3]; simp [KH2]
 have l3 : bh < w3.heap.size := by rw [hw3]; simpa using l1
 clear hw3 KS2 KH2 B2 l1
 have S3 := hS.below B3
 have KS3 := S3.cells
 have wfN : (Lit.int .i64 N).wf = true := wfI (by omega) (by omega)
 have wfx : (Lit.int .i64 x).wf = true := wfI (by omega) (by omega)
 have S3d : zad B Bp w3.drew sv bl bs bc ws.length #[.slice (some ⟨b, off, none⟩) ws.length cw, .int .i64 smz, .int .i64 toh, .int .i64 top, .bool cyc, .int .i64 sn, .int .i64 old, .int .i64 cpz, .int .i64 sr, .slice ar rs.length cr, .slice (some ⟨bl, 0, none⟩) ws.length cl, .slice av pl.length cv, .map (some bs), .map (some bc)] (.slice av pl.length cv) lead pl ns nc hser hcop := S3.below (Below.refl _ _).drew
 obtain ⟨c, hlk⟩ := S3d.ser.look wfN
 rw [hd] at hlk
 go_upto_region 5 with fail
 go_region_held3 (fun W => W = w3.drew) (first | assumption | rfl) (fail)
 go_wp2
 go_ret
 exact ⟨rfl, B3.drew⟩
def zcj (ws : List Int) (sr : Int) (hser : Int -> Bool) (p : Nat) : Prop := zai (za ws p) = true /\ rdN (za ws p) < sr /\ (rdN (za ws p) ≠ 0 -> hser (rdN (za ws p)) = false)
def zf3 (ws : List Int) (hser : Int -> Bool) (p : Nat) (z : Int) : Bool := (decide (rdN (za ws p) ≠ 0) && decide (z = rdN (za ws p))) || hser z
theorem zhe (b off cw : Nat) (ws : List Int) (smz toh top : Int) (cyc : Bool) (sn old cpz sr : Int) (ar : Option Addr) (cr : Nat) (rs : List (Int × Int)) (B Bp sv bl cl bs bc : Nat) (vp : Value) (lead : Nat -> Int) (pl : List Nat) (ns nc : Nat) (hser hcop : Int -> Bool) (x : Int) (p : Nat) (w : World) (hS : zad B Bp w sv bl bs bc ws.length #[.slice (some ⟨b, off, none⟩) ws.length cw, .int .i64 smz, .int .i64 toh, .int .i64 top, .bool cyc, .int .i64 sn, .int .i64 old, .int .i64 cpz, .int .i64 sr, .slice ar rs.length cr, .slice (some ⟨bl, 0, none⟩) ws.length cl, vp, .map (some bs), .map (some bc)] vp lead pl ns nc hser hcop) (hb : b < w.heap.size) (hbB : b < B) (hc : ∀ i, i < ws.length -> w.cell? ⟨b, off + i, none⟩ = some (.int .u64 (za ws i))) (hn : ws.length <= 1048576) (hw : zg ws) (hns : ns <= 10000) (hpl : pl.length <= 10000) (hx : x = p) (hp : p < ws.length) :
 Calls Tryz.prog 163 #[.pointer (some ⟨sv, 0, none⟩), .int .i64 x] w fun e w' => ∃ q, e = .returned (.bool q) /\ (q = true ↔ zcj ws sr hser p) /\ Below B w w' /\ (q = false -> Below w.heap.size w w') /\ (q = true -> ∃ vp', zad B Bp w' sv bl bs bc ws.length ((fun vp => #[.slice (some ⟨b, off, none⟩) ws.length cw, .int .i64 smz, .int .i64 toh, .int .i64 top, .bool cyc, .int .i64 sn, .int .i64 old, .int .i64 cpz, .int .i64 sr, .slice ar rs.length cr, .slice (some ⟨bl, 0, none⟩) ws.length cl, vp, .map (some bs), .map (some bc)]) vp') vp' (fun i => if i = p then (p : Int) else lead i) (pl ++ [p]) (ns + 1) nc (zf3 ws hser p) hcop) := by
 have hBw : B <= w.heap.size := by have := hS.ge; have := hS.lt; have := hS.size; omega
 by_cases h : zai (za ws p) = true /\ rdN (za ws p) < sr
 · by_cases h0 : rdN (za ws p) = 0
   · refine (zo6 b off cw ws smz toh top cyc sn old cpz sr ar cr rs B Bp sv bl cl bs bc vp lead pl ns nc hser hcop x p w hS hb hbB hc hn hw hns hpl hx hp h.1 h.2 h0).mono ?_
     rintro e w' ⟨he, hB', vp', _, hS'⟩
     have es : zf3 ws hser p = hser := by funext z; simp [zf3, h0]
     refine ⟨true, he, ⟨fun _ => ⟨h.1, h.2, fun g => absurd h0 g⟩, fun _ => rfl⟩, hB', (fun g => by simp at g), fun _ => ⟨vp', ?_⟩⟩
     rw [es]
     exact hS'.monoSer (by omega)
   · cases hd : hser (rdN (za ws p)) with
     | true =>
       refine (ztt b off cw ws smz toh top cyc sn old cpz sr ar cr rs B Bp sv bl cl bs bc vp lead pl ns nc hser hcop x p w hS hb hbB hc hn hw hns hpl hx hp h.1 h.2 h0 hd).mono ?_
       rintro e w' ⟨he, hB'⟩
       exact ⟨false, he, ⟨fun g => by simp at g, fun g => by have := g.2.2 h0; rw [hd] at this; simp at this⟩, zat hB' hBw, fun _ => hB', fun g => by simp at g⟩
     | false =>
       refine (zts b off cw ws smz toh top cyc sn old cpz sr ar cr rs B Bp sv bl cl bs bc vp lead pl ns nc hser hcop x p w hS hb hbB hc hn hw hns hpl hx hp h.1 h.2 h0 hd).mono ?_
       rintro e w' ⟨he, hB', vp', _, hS'⟩
       have es : zf3 ws hser p = (fun z => decide (z = rdN (za ws p)) || hser z) := by funext z; simp [zf3, h0]
       refine ⟨true, he, ⟨fun _ => ⟨h.1, h.2, fun _ => hd⟩, fun _ => rfl⟩, hB', (fun g => by simp at g), fun _ => ⟨vp', ?_⟩⟩
       rw [es]
       exact hS'
 · refine (zvd b off cw ws smz toh top cyc sn old cpz sr ar cr rs sv bl cl bs bc vp lead x p w hS.lsv hS.cells hS.lbl hS.leads hb hc hn hw hx hp h).mono ?_
   rintro e w' ⟨he, hB'⟩
   exact ⟨false, he, ⟨fun g => by simp at g, fun g => absurd ⟨g.1, g.2.1⟩ h⟩, zat hB' hBw, fun _ => hB', fun g => by simp at g⟩
def zb0 (F top : Int) (lead : Nat -> Int) (x : Int) : Bool := decide (F <= x /\ x < top) && (lead x.toNat == x)
def zc7 (ws : List Int) (F top : Int) (lead : Nat -> Int) (hcop : Int -> Bool) (p : Nat) : Prop := zca (za ws p) = true /\ zb0 F top lead (fwP (za ws p)) = true /\ hcop (fwP (za ws p)) = false
theorem zj3 (x : Int) : 0 <= fwP x /\ fwP x <= 2147483647 := by
 unfold fwP
 split
 · rename_i h
   have := of_decide_eq_true h
   omega
 · omega
theorem zf2 (x Y : Int) (w : World) (h0 : 0 <= x) (h1 : x < 18446744073709551616) (hY : fwP x = Y) :
 Calls Tryz.prog 158 #[.int .u64 x] w fun e w' => e = .returned (.tuple #[.int .i64 Y, .bool (zca x)]) /\ w = w' := by
 subst hY; exact (zc9 x w h0 h1).mono fun e w' g => ⟨g.1, g.2.symm⟩
set_option maxHeartbeats 2000000 in
theorem ztq (b off cw : Nat) (ws : List Int) (smz toh top : Int) (cyc : Bool) (sn old cpz sr : Int) (ar : Option Addr) (cr : Nat) (rs : List (Int × Int)) (sv bl cl bs bc : Nat) (vp : Value) (lead : Nat -> Int) (x F : Int) (p : Nat) (w : World) (lsv : sv < w.heap.size) (KS : ∀ i, w.cell? ⟨sv, i, none⟩ = (#[.slice (some ⟨b, off, none⟩) ws.length cw, .int .i64 smz, .int .i64 toh, .int .i64 top, .bool cyc, .int .i64 sn, .int .i64 old, .int .i64 cpz, .int .i64 sr, .slice ar rs.length cr, .slice (some ⟨bl, 0, none⟩) ws.length cl, vp, .map (some bs), .map (some bc)] : Array Value)[i]?) (lbl : bl < w.heap.size) (hl : ∀ i, i < ws.length -> w.cell? ⟨bl, i, none⟩ = some (.int .i64 (lead i))) (hb : b < w.heap.size) (hc : ∀ i, i < ws.length -> w.cell? ⟨b, off + i, none⟩ = some (.int .u64 (za ws i))) (hn : ws.length <= 1048576) (hw : zg ws) (t0 : 0 <= toh) (t1 : toh <= 1) (s0 : 256 <= smz) (s1 : smz <= 4000) (hF : toh * smz + 1 = F) (hT : top <= ws.length) (hx : x = p) (hp : p < ws.length) (h : ¬ (zca (za ws p) = true /\ zb0 F top lead (fwP (za ws p)) = true)) :
 Calls Tryz.prog 195 #[.pointer (some ⟨sv, 0, none⟩), .int .i64 x] w fun e w' => e = .returned (.bool false) /\ Below w.heap.size w w' := by
 have x0 : 0 <= x := by omega
 have x1 : x < (ws.length : Int) := by omega
 have x2 : x.toNat = p := by omega
 have hwp := zac hw p
 have hcp := hc p hp
 have HF : Hid (toh * smz + 1 = F) := hF
 have HL : Hid (∀ i, i < ws.length -> w.cell? ⟨bl, i, none⟩ = some (.int .i64 (lead i))) := hl
 have HC : Hid (∀ i, i < ws.length -> w.cell? ⟨b, off + i, none⟩ = some (.int .u64 (za ws i))) := hc
 clear hx hl hc hF
 cases ho : zca (za ws p) with
 | false =>
   clear h
   go_enter Tryz.func195, Tryz.ntmps195
   go_wp2_with (go_at_call 158; refine (zc9 _ _ hwp.1 hwp.2).mono ?_; rw [ho]; rintro e w1 ⟨rfl, rfl⟩)
   go_ret
   exact ⟨rfl, Below.refl _ _⟩
 | true =>
   have hst : (decide (F <= fwP (za ws p) /\ fwP (za ws p) < top) && (lead (fwP (za ws p)).toNat == fwP (za ws p))) = false := by
    rw [<- Bool.not_eq_true]; exact fun g => h ⟨ho, g⟩
   clear h
   generalize hYe : fwP (za ws p) = Y at *
   have HY : Hid (fwP (za ws p) = Y) := hYe
   clear hYe
   go_enter Tryz.func195, Tryz.ntmps195
   go_wp2_with (first | (go_at_call 158; refine (zf2 (za ws p) Y _ hwp.1 hwp.2 HY.out).mono ?_; rw [ho]; rintro e w1 ⟨rfl, rfl⟩) | (go_at_call 165; refine (zcw b off cw ws smz toh top cyc sn old cpz sr ar cr rs sv bl cl bs bc vp lead Y F _ lsv KS lbl HL.out hb HC.out hn hw t0 t1 s0 s1 HF.out hT).mono ?_; rw [hst]; rintro e w2 ⟨rfl, b2⟩))
   go_ret
   exact ⟨rfl, b2⟩
set_option maxHeartbeats 2000000 in
theorem ztr (b off cw : Nat) (ws : List Int) (smz toh top : Int) (cyc : Bool) (sn old cpz sr : Int) (ar : Option Addr) (cr : Nat) (rs : List (Int × Int)) (B Bp sv bl cl bs bc : Nat) (vp : Value) (lead : Nat -> Int) (pl : List Nat) (ns nc : Nat) (hser hcop : Int -> Bool) (x F Y : Int) (p : Nat) (w : World) (hS : zad B Bp w sv bl bs bc ws.length #[.slice (some ⟨b, off, none⟩) ws.length cw, .int .i64 smz, .int .i64 toh, .int .i64 top, .bool cyc, .int .i64 sn, .int .i64 old, .int .i64 cpz, .int .i64 sr, .slice ar rs.length cr, .slice (some ⟨bl, 0, none⟩) ws.length cl, vp, .map (some bs), .map (some bc)] vp lead pl ns nc hser hcop) (hb : b < w.heap.size) (hbB : b < B) (hc : ∀ i, i < ws.length -> w.cell? ⟨b, off + i, none⟩ = some (.int .u64 (za ws i))) (hn : ws.length <= 1048576) (hw : zg ws) (hnc : nc <= 10000) (t0 : 0 <= toh) (t1 : toh <= 1) (s0 : 256 <= smz) (s1 : smz <= 4000) (hF : toh * smz + 1 = F) (hT : top <= ws.length) (hx : x = p) (hp : p < ws.length) (ho : zca (za ws p) = true) (hY : fwP (za ws p) = Y) (hst : (decide (F <= Y /\ Y < top) && (lead Y.toNat == Y)) = true) :
 Calls Tryz.prog 195 #[.pointer (some ⟨sv, 0, none⟩), .int .i64 x] w fun e w' => (hcop Y = true /\ e = .returned (.bool false) /\ Below w.heap.size w w') \/ (hcop Y = false /\ e = .returned (.bool true) /\ Below B w w' /\ zad B Bp w' sv bl bs bc ws.length #[.slice (some ⟨b, off, none⟩) ws.length cw, .int .i64 smz, .int .i64 toh, .int .i64 top, .bool cyc, .int .i64 sn, .int .i64 old, .int .i64 cpz, .int .i64 sr, .slice ar rs.length cr, .slice (some ⟨bl, 0, none⟩) ws.length cl, vp, .map (some bs), .map (some bc)] vp (fun i => if i = p then Y else lead i) pl ns (nc + 1) hser (fun z => decide (z = Y) || hcop z)) := by
 have x0 : 0 <= x := by omega
 have x1 : x < (ws.length : Int) := by omega
 have x2 : x.toNat = p := by omega
 have hwp := zac hw p
 have hcp := hc p hp
 have hYb := zj3 (za ws p)
 rw [hY] at hYb
 have HF : Hid (toh * smz + 1 = F) := hF
 have HY : Hid (fwP (za ws p) = Y) := hY
 have HC : Hid (∀ i, i < ws.length -> w.cell? ⟨b, off + i, none⟩ = some (.int .u64 (za ws i))) := hc
 have KS := hS.cells
 have lsv := hS.lsv
 have hge := hS.ge
 have hsz := hS.size
 have hslt := hS.lt
 have wfY : (Lit.int .i64 Y).wf = true := wfI (by omega) (by omega)
 have wfx : (Lit.int .i64 x).wf = true := wfI (by omega) (by omega)
 clear hx hc hF hY
 go_enter Tryz.func195, Tryz.ntmps195
 go_upto_region 4 with (first | (go_at_call 158; refine (zf2 (za ws p) Y _ hwp.1 hwp.2 HY.out).mono ?_; rw [ho]; rintro e w1 ⟨rfl, rfl⟩) | (go_at_call 165; refine (zcw b off cw ws smz toh top cyc sn old cpz sr ar cr rs sv bl cl bs bc vp lead Y F _ lsv KS hS.lbl hS.leads hb HC.out hn hw t0 t1 s0 s1 HF.out hT).mono ?_; rw [hst]; rintro e w2 ⟨rfl, b2⟩))
 have S2 := hS.below b2
 have KS2 := S2.cells
 obtain ⟨c, hlk⟩ := S2.cop.look wfY
 clear KS hcp
 cases hd : hcop Y with
 | true =>
   rw [hd] at hlk
   go_wp2
   go_ret
   exact .inl ⟨hd, rfl, b2⟩
 | false =>
   rw [hd] at hlk
   obtain ⟨w3, hup, hm3, hg3⟩ := S2.cop.put (by omega) wfY wfx
   have S3 := S2.putCop hm3 hg3
   have KS3 := S3.cells
   have q3 : w3.cell? ⟨bl, p, none⟩ = some (.int .i64 (lead p)) := S3.leads p hp
   have f3 := S3.row.frozen p
   have B3 : Below B w w3 := (zat b2 (by omega)).trans ((ziw hg3).below (C := B) (by omega) (by have := b2.size; omega))
   go_wp2
   go_ret
   exact .inr ⟨hd, rfl, B3.setCell (p := ⟨bl, p, none⟩) (by show B <= bl; omega) _, S3.setLead p Y⟩
theorem zhz (b off cw : Nat) (ws : List Int) (smz toh top : Int) (cyc : Bool) (sn old cpz sr : Int) (ar : Option Addr) (cr : Nat) (rs : List (Int × Int)) (B Bp sv bl cl bs bc : Nat) (vp : Value) (lead : Nat -> Int) (pl : List Nat) (ns nc : Nat) (hser hcop : Int -> Bool) (x F : Int) (p : Nat) (w : World) (hS : zad B Bp w sv bl bs bc ws.length #[.slice (some ⟨b, off, none⟩) ws.length cw, .int .i64 smz, .int .i64 toh, .int .i64 top, .bool cyc, .int .i64 sn, .int .i64 old, .int .i64 cpz, .int .i64 sr, .slice ar rs.length cr, .slice (some ⟨bl, 0, none⟩) ws.length cl, vp, .map (some bs), .map (some bc)] vp lead pl ns nc hser hcop) (hb : b < w.heap.size) (hbB : b < B) (hc : ∀ i, i < ws.length -> w.cell? ⟨b, off + i, none⟩ = some (.int .u64 (za ws i))) (hn : ws.length <= 1048576) (hw : zg ws) (hnc : nc <= 10000) (t0 : 0 <= toh) (t1 : toh <= 1) (s0 : 256 <= smz) (s1 : smz <= 4000) (hF : toh * smz + 1 = F) (hT : top <= ws.length) (hx : x = p) (hp : p < ws.length) :
 Calls Tryz.prog 195 #[.pointer (some ⟨sv, 0, none⟩), .int .i64 x] w fun e w' => (¬ zc7 ws F top lead hcop p /\ e = .returned (.bool false) /\ Below w.heap.size w w') \/ (zc7 ws F top lead hcop p /\ e = .returned (.bool true) /\ Below B w w' /\ zad B Bp w' sv bl bs bc ws.length #[.slice (some ⟨b, off, none⟩) ws.length cw, .int .i64 smz, .int .i64 toh, .int .i64 top, .bool cyc, .int .i64 sn, .int .i64 old, .int .i64 cpz, .int .i64 sr, .slice ar rs.length cr, .slice (some ⟨bl, 0, none⟩) ws.length cl, vp, .map (some bs), .map (some bc)] vp (fun i => if i = p then fwP (za ws p) else lead i) pl ns (nc + 1) hser (fun z => decide (z = fwP (za ws p)) || hcop z)) := by
 by_cases h : zca (za ws p) = true /\ zb0 F top lead (fwP (za ws p)) = true
 · refine (ztr b off cw ws smz toh top cyc sn old cpz sr ar cr rs B Bp sv bl cl bs bc vp lead pl ns nc hser hcop x F _ p w hS hb hbB hc hn hw hnc t0 t1 s0 s1 hF hT hx hp h.1 rfl h.2).mono ?_
   rintro e w' (⟨hd, r⟩ | ⟨hd, r⟩)
   · exact .inl ⟨fun g => by have := g.2.2; rw [hd] at this; simp at this, r⟩
   · exact .inr ⟨⟨h.1, h.2, hd⟩, r⟩
 · refine (ztq b off cw ws smz toh top cyc sn old cpz sr ar cr rs sv bl cl bs bc vp lead x F p w hS.lsv hS.cells hS.lbl hS.leads hb hc hn hw t0 t1 s0 s1 hF hT hx hp h).mono ?_
   rintro e w' r
   exact .inl ⟨fun g => h ⟨g.1, g.2.1⟩, r⟩
def zag (ws : List Int) (L : List Nat) : List Int := (L.map fun p => rdN (za ws p)).filter (fun z => decide (z ≠ 0))
def za4 (ws : List Int) (L : List Nat) (z : Int) : Bool := decide (z ∈ zag ws L)
def zcf (L : List Nat) (i : Nat) : Int := if i ∈ L then (i : Int) else 0
theorem zfp (ws : List Int) (L : List Nat) (p : Nat) : zag ws (L ++ [p]) = zag ws L ++ (if rdN (za ws p) = 0 then [] else [rdN (za ws p)]) := by
 by_cases h : rdN (za ws p) = 0 <;> simp [zag, h]
theorem zeu (ws : List Int) (L M : List Nat) : zag ws (L ++ M) = zag ws L ++ zag ws M := by simp [zag]
theorem zle (ws : List Int) (L : List Nat) (p : Nat) : zf3 ws (za4 ws L) p = za4 ws (L ++ [p]) := by
 funext z
 unfold zf3 za4
 rw [zfp]
 by_cases h : rdN (za ws p) = 0
 · simp [h]
 · simp [h, Bool.or_comm]
theorem zrq (L : List Nat) (p : Nat) : (fun i => if i = p then (p : Int) else zcf L i) = zcf (L ++ [p]) := by
 funext i
 unfold zcf
 by_cases h : i = p
 · subst h; simp
 · simp [h]
theorem zn.len {nx : Nat -> Option Nat} {p q : Nat} {L : List Nat} (h : zn nx p q L) : p + L.length <= q := by
 refine zn.ind (motive := fun p L => p + L.length <= q) (by simp) (fun h t ih => ?_) h
 simp
 omega
def zdg (ws : List Int) (sr : Int) (S T : Nat) : Prop := ∃ L, zn (nx1 ws sr) S T L /\ (zag ws L).Nodup
def zds (ws : List Int) (sr : Int) (P T : Nat) (L : List Nat) : Prop := ∃ M, zn (nx1 ws sr) P T M /\ (zag ws (L ++ M)).Nodup
theorem zm9 (ws : List Int) (sr : Int) (T : Nat) (L : List Nat) (h : (zag ws L).Nodup) : zds ws sr T T L := ⟨[], .nil _, by simpa using h⟩
theorem zlt {ws : List Int} {sr : Int} {P T : Nat} {L : List Nat} (h : T < P) : ¬ zds ws sr P T L := fun ⟨M, hM, _⟩ => by have := hM.le; omega
theorem zjj {ws : List Int} {sr : Int} {L : List Nat} {P : Nat} (h : zcj ws sr (za4 ws L) P) : nx1 ws sr P = some (rdS (za ws P)).toNat := by
 unfold nx1
 rw [if_pos ⟨h.1, h.2.1⟩]
theorem ziv {ws : List Int} {sr : Int} {L : List Nat} {P : Nat} (h : zcj ws sr (za4 ws L) P) (hn : (zag ws L).Nodup) : (zag ws (L ++ [P])).Nodup := by
 rw [zfp]
 by_cases h0 : rdN (za ws P) = 0
 · simpa [h0] using hn
 · have := h.2.2 h0
   unfold za4 at this
   rw [if_neg h0, List.nodup_append]
   refine ⟨hn, by simp, ?_⟩
   intro a ha c hc
   simp at hc
   subst hc
   intro e
   subst e
   simp [ha] at this
theorem zlu {ws : List Int} {sr : Int} {P T : Nat} {L : List Nat} (h : zcj ws sr (za4 ws L) P) (hPT : P < T) : zds ws sr P T L ↔ zds ws sr (P + (rdS (za ws P)).toNat + 1) T (L ++ [P]) := by
 constructor
 · rintro ⟨M, hM, hn⟩
   cases M with
   | nil =>
     have hM' : T = P := hM
     omega
   | cons x M =>
     obtain ⟨rfl, s, hs, t⟩ := hM
     rw [zjj h] at hs
     cases hs
     exact ⟨_, t, by simpa using hn⟩
 · rintro ⟨M, hM, hn⟩
   exact ⟨P :: M, .cons (zjj h) hM, by simpa using hn⟩
theorem zo5 {ws : List Int} {sr : Int} {P T : Nat} {L : List Nat} (h : ¬ zcj ws sr (za4 ws L) P) (hPT : P < T) : ¬ zds ws sr P T L := by
 rintro ⟨M, hM, hn⟩
 cases M with
 | nil =>
   have hM' : T = P := hM
   omega
 | cons x M =>
   obtain ⟨rfl, s, hs, t⟩ := hM
   obtain ⟨g1, g2, _⟩ := zdo hs
   refine h ⟨g1, g2, fun h0 => ?_⟩
   unfold za4
   apply decide_eq_false
   intro hm
   have e : L ++ P :: M = (L ++ [P]) ++ M := by simp
   rw [e, zeu, zfp, if_neg h0] at hn
   have hn2 := (List.nodup_append.1 hn).1
   have := (List.nodup_append.1 hn2).2.2 _ hm _ (List.mem_singleton.2 rfl)
   exact this rfl
theorem zd4 {B b off : Nat} {w W : World} {ws : List Int} (hbB : b < B) (hb : b < w.heap.size) (hc : ∀ i, i < ws.length -> w.cell? ⟨b, off + i, none⟩ = some (.int .u64 (za ws i))) (hB : Below B w W) : b < W.heap.size /\ ∀ i, i < ws.length -> W.cell? ⟨b, off + i, none⟩ = some (.int .u64 (za ws i)) :=
 ⟨Nat.lt_of_lt_of_le hb hB.size, fun i hi => by rw [hB.cell (p := ⟨b, off + i, none⟩) hbB]; exact hc i hi⟩
set_option maxHeartbeats 4000000 in
theorem zec (b off cw : Nat) (ws : List Int) (smz toh top : Int) (cyc : Bool) (sn old cpz sr : Int) (ar : Option Addr) (cr : Nat) (rs : List (Int × Int)) (B Bp sv bl cl bs bc : Nat) (vp : Value) (nc : Nat) (hcop : Int -> Bool) (S T : Nat) (w : World) (hS : zad B Bp w sv bl bs bc ws.length #[.slice (some ⟨b, off, none⟩) ws.length cw, .int .i64 smz, .int .i64 toh, .int .i64 top, .bool cyc, .int .i64 sn, .int .i64 old, .int .i64 cpz, .int .i64 sr, .slice ar rs.length cr, .slice (some ⟨bl, 0, none⟩) ws.length cl, vp, .map (some bs), .map (some bc)] vp (zcf []) [] 0 nc (za4 ws []) hcop) (hb : b < w.heap.size) (hbB : b < B) (hc : ∀ i, i < ws.length -> w.cell? ⟨b, off + i, none⟩ = some (.int .u64 (za ws i))) (hn : ws.length <= 8000) (hw : zg ws) (t0 : 0 <= toh) (t1 : toh <= 1) (s0 : 256 <= smz) (s1 : smz <= 4000) (hF : toh * smz + 1 = S) (hT : top = T) (hST : S <= T) (hTn : T <= ws.length) :
 Calls Tryz.prog 132 #[.pointer (some ⟨sv, 0, none⟩)] w fun e w' => ∃ q, e = .returned (.bool q) /\ (q = true ↔ zdg ws sr S T) /\ Below B w w' /\ (q = true -> ∃ L vp', zn (nx1 ws sr) S T L /\ (zag ws L).Nodup /\ zad B Bp w' sv bl bs bc ws.length ((fun vp => #[.slice (some ⟨b, off, none⟩) ws.length cw, .int .i64 smz, .int .i64 toh, .int .i64 top, .bool cyc, .int .i64 sn, .int .i64 old, .int .i64 cpz, .int .i64 sr, .slice ar rs.length cr, .slice (some ⟨bl, 0, none⟩) ws.length cl, vp, .map (some bs), .map (some bc)]) vp') vp' (zcf L) L L.length nc (za4 ws L) hcop) := by
 have HF : Hid (toh * smz + 1 = (S : Int)) := hF
 have HT : Hid (top = (T : Int)) := hT
 have hBw : B <= w.heap.size := by have := hS.ge; have := hS.lt; have := hS.size; omega
 have hn' : ws.length <= 1048576 := by omega
 have KS := hS.cells
 have lsv := hS.lsv
 have HC : Hid (∀ i, i < ws.length -> w.cell? ⟨b, off + i, none⟩ = some (.int .u64 (za ws i))) := hc
 have KP : ∀ W, Below w.heap.size w W -> (Below w.heap.size w W /\ (∀ i, W.cell? ⟨sv, i, none⟩ = (#[.slice (some ⟨b, off, none⟩) ws.length cw, .int .i64 smz, .int .i64 toh, .int .i64 top, .bool cyc, .int .i64 sn, .int .i64 old, .int .i64 cpz, .int .i64 sr, .slice ar rs.length cr, .slice (some ⟨bl, 0, none⟩) ws.length cl, vp, .map (some bs), .map (some bc)] : Array Value)[i]?)) := fun W hW => ⟨hW, ze KS hW lsv⟩
 clear hF hc hT
 go_enter Tryz.func132, Tryz.ntmps132
 go_wp2
 have b1' := (Below.refl w.heap.size w).drew
 go_cut [3] from 4 to 13 (fun s3 wc => s3 = .int .i64 (S : Int) /\ Below w.heap.size w wc)
 case first =>
  go_region_held3 (fun W => Below w.heap.size w W /\ (∀ i, W.cell? ⟨sv, i, none⟩ = (#[.slice (some ⟨b, off, none⟩) ws.length cw, .int .i64 smz, .int .i64 toh, .int .i64 top, .bool cyc, .int .i64 sn, .int .i64 old, .int .i64 cpz, .int .i64 sr, .slice ar rs.length cr, .slice (some ⟨bl, 0, none⟩) ws.length cl, vp, .map (some bs), .map (some bc)] : Array Value)[i]?)) (first | exact KP _ (by assumption) | exact KP _ b1') (first | (go_at_call 62; refine (zdu _ _ _ _ _ _ _ _ _ _ _ _ _ _ toh (S : Int) _ t0 t1 s0 s1 HF.out).mono ?_; rintro e w' ⟨rfl, hb⟩; have hB3 := zc (w := w) (And.left (by assumption)) hb; clear hb))
  all_goals (go_wp2_with fail; go_meet; exact ⟨rfl, by assumption⟩)
 case rest =>
  obtain ⟨rfl, hBc⟩ := hcut
  have Sc := hS.below hBc
  have Bc := zat hBc hBw
  clear KP KS b1' hS
  go_wp2
  go_loopw [3] (fun u3 wr => ∃ (P : Nat) (L : List Nat) (vp' : Value), u3 = .int .i64 (P : Int) /\ P <= T + 257 /\ zn (nx1 ws sr) S P L /\ (zag ws L).Nodup /\ (zdg ws sr S T ↔ zds ws sr P T L) /\ zad B Bp wr sv bl bs bc ws.length ((fun vp => #[.slice (some ⟨b, off, none⟩) ws.length cw, .int .i64 smz, .int .i64 toh, .int .i64 top, .bool cyc, .int .i64 sn, .int .i64 old, .int .i64 cpz, .int .i64 sr, .slice ar rs.length cr, .slice (some ⟨bl, 0, none⟩) ws.length cl, vp, .map (some bs), .map (some bc)]) vp') vp' (zcf L) L L.length nc (za4 ws L) hcop /\ Below B w wr) (fun u3 _ => T + 300 - (intOf u3).toNat)
  case atStart => exact ⟨S, [], vp, rfl, by omega, .nil _, by simp [zag], by unfold zdg zds; simp, Sc, Bc⟩
  case round =>
   obtain ⟨P, L, vp', rfl, hPT, hCh, hnd, hgo, hR, hB⟩ := hrel
   have HG : Hid (zdg ws sr S T ↔ zds ws sr P T L) := hgo
   have HCH : Hid (zn (nx1 ws sr) S P L) := hCh
   have HND : Hid ((zag ws L).Nodup) := hnd
   have hlen := hCh.len
   clear hgo hCh hnd Sc
   have KR := hR.cells
   have CR := zd4 hbB hb HC.out hB
   have hfr : (fun vp => (#[.slice (some ⟨b, off, none⟩) ws.length cw, .int .i64 smz, .int .i64 toh, .int .i64 top, .bool cyc, .int .i64 sn, .int .i64 old, .int .i64 cpz, .int .i64 sr, .slice ar rs.length cr, .slice (some ⟨bl, 0, none⟩) ws.length cl, vp, .map (some bs), .map (some bc)] : Array Value)) vp' = (fun vp => (#[.slice (some ⟨b, off, none⟩) ws.length cw, .int .i64 smz, .int .i64 toh, .int .i64 top, .bool cyc, .int .i64 sn, .int .i64 old, .int .i64 cpz, .int .i64 sr, .slice ar rs.length cr, .slice (some ⟨bl, 0, none⟩) ws.length cl, vp, .map (some bs), .map (some bc)] : Array Value)) vp' := rfl
   obtain ⟨vq, hvq⟩ : ∃ vq, vq = vp' := ⟨_, rfl⟩
   subst hvq
   by_cases hlt : P < T
   · have hltd : (P : Int) < top := by rw [HT.out]; omega
     have hPn : P < ws.length := by omega
     by_cases hE : zcj ws sr (za4 ws L) P
     · have hstep := zlu hE hlt
       have HST : Hid (zdg ws sr S T ↔ zds ws sr (P + (rdS (za ws P)).toNat + 1) T (L ++ [P])) := HG.out.trans hstep
       have HCN : Hid (zn (nx1 ws sr) S (P + (rdS (za ws P)).toNat + 1) (L ++ [P])) := HCH.out.snoc (zjj hE)
       have HNN : Hid ((zag ws (L ++ [P])).Nodup) := ziv hE HND.out
       have HE : Hid (zcj ws sr (za4 ws L) P) := hE
       have hsb := za5 (za ws P)
       clear hE hstep
       go_wp2_with (first | (go_at_call 163; refine (zhe b off cw ws smz toh top cyc sn old cpz sr ar cr rs B Bp sv bl cl bs bc _ (zcf L) L L.length nc (za4 ws L) hcop _ P _ hR CR.1 hbB CR.2 hn' hw (by omega) (by omega) rfl hPn).mono ?_; rintro e w4 ⟨q, rfl, hq, b4, _, s4⟩; obtain rfl : q = true := hq.2 HE.out; clear hq; obtain ⟨v4, S4⟩ := s4 rfl; rw [zrq, zle] at S4; have hB4 := hB.trans b4; have C4 := zd4 hbB hb HC.out hB4) | (go_at_call 164; refine (zih b off cw ws smz toh top cyc sn old cpz sr ar cr rs sv bl cl bs bc v4 (zcf (L ++ [P])) _ P P _ S4.lsv S4.cells S4.lbl S4.leads C4.1 C4.2 hn' hw rfl hPn (by simp [zcf]) hPn).mono ?_; rintro e w5 ⟨rfl, b5⟩; have S5 := S4.below b5; have hB5 : Below B w w5 := hB4.trans (zat b5 (by have := S4.size; have := S4.lt; have := S4.ge; omega))))
       have eP : (P : Int) + (rdS (za ws P) + 1) = ((P + (rdS (za ws P)).toNat + 1 : Nat) : Int) := by omega
       first
        | (refine ⟨⟨P + (rdS (za ws P)).toNat + 1, L ++ [P], v4, by rw [<- eP], by omega, HCN.out, HNN.out, HST.out, by simpa using S5, hB5⟩, by simp [intOf]; omega⟩)
        | (go_roundw
           case rel => exact ⟨P + (rdS (za ws P)).toNat + 1, L ++ [P], v4, by rw [<- eP], by omega, HCN.out, HNN.out, HST.out, by simpa using S5, hB5⟩
           case measure => simp [intOf]; omega)
     · have HNO : Hid (¬ zdg ws sr S T) := fun g => zo5 hE hlt (HG.out.1 g)
       have HE : Hid (¬ zcj ws sr (za4 ws L) P) := hE
       clear hE
       go_wp2_with (go_at_call 163; refine (zhe b off cw ws smz toh top cyc sn old cpz sr ar cr rs B Bp sv bl cl bs bc _ (zcf L) L L.length nc (za4 ws L) hcop _ P _ hR CR.1 hbB CR.2 hn' hw (by omega) (by omega) rfl hPn).mono ?_; rintro e w4 ⟨q, rfl, hq, b4, _, s4⟩; obtain rfl : q = false := (by cases q with | false => rfl | true => exact absurd (hq.1 rfl) HE.out); clear hq s4)
       go_ret
       exact ⟨false, rfl, ⟨fun g => by simp at g, fun g => absurd g HNO.out⟩, hB.trans b4, fun g => by simp at g⟩
   · by_cases he : P = T
     · have hed : decide ((P : Int) < top) = false := decide_eq_false (by rw [HT.out]; omega)
       have heq : ((P : Int) == top) = true := by rw [HT.out]; simp; omega
       have HGG : Hid (zdg ws sr S T) := HG.out.2 (by rw [he]; exact zm9 _ _ _ _ HND.out)
       have HCT : Hid (zn (nx1 ws sr) S T L) := by show zn (nx1 ws sr) S T L; rw [<- he]; exact HCH.out
       clear he hlt
       go_wp2
       go_ret
       first
        | exact ⟨true, rfl, ⟨fun _ => HGG.out, fun _ => rfl⟩, hB, fun _ => ⟨L, _, HCT.out, HND.out, hR⟩⟩
        | exact Or.inr ⟨rfl, HGG.out, hB, L, HCT.out, HND.out, _, hR⟩
        | exact Or.inr ⟨rfl, HGG.out, hB, L, _, HCT.out, HND.out, hR⟩
     · have hed : decide ((P : Int) < top) = false := decide_eq_false (by rw [HT.out]; omega)
       have heq : ((P : Int) == top) = false := by rw [HT.out]; simp; omega
       have HNO : Hid (¬ zdg ws sr S T) := fun g => zlt (by omega) (HG.out.1 g)
       clear he hlt
       go_wp2
       go_ret
       first
        | exact ⟨false, rfl, ⟨fun g => by simp at g, fun g => absurd g HNO.out⟩, hB, fun g => by simp at g⟩
        | exact Or.inl ⟨rfl, HNO.out, hB⟩
def zl (ws : List Int) (O : List Nat) : List Nat := O.filter (fun p => !zav ws p)
def zm (ws : List Int) (L O : List Nat) (i : Nat) : Int := if i ∈ O then (if zav ws i = true then fwP (za ws i) else (i : Int)) else zcf L i
def zbn (ws : List Int) (O : List Nat) (z : Int) : Bool := decide (z ∈ (tgs ws O).map (fun q : Nat => (q : Int)))
theorem zpz {ws : List Int} {O : List Nat} {p : Nat} (h : zav ws p = true) : zl ws (O ++ [p]) = zl ws O := by simp [zl, h]
theorem zp0 {ws : List Int} {O : List Nat} {p : Nat} (h : zav ws p = false) : zl ws (O ++ [p]) = zl ws O ++ [p] := by simp [zl, h]
theorem zvb {ws : List Int} {L O : List Nat} {p : Nat} (h : zav ws p = true) : (fun i => if i = p then fwP (za ws p) else zm ws L O i) = zm ws L (O ++ [p]) := by
 funext i
 unfold zm
 by_cases e : i = p
 · subst e; simp [h]
 · simp [e]
theorem zvc {ws : List Int} {L O : List Nat} {p : Nat} (h : zav ws p = false) : (fun i => if i = p then (p : Int) else zm ws L O i) = zm ws L (O ++ [p]) := by
 funext i
 unfold zm
 by_cases e : i = p
 · subst e; simp [h]
 · simp [e]
theorem zm8 (x : Int) : ((fwP x).toNat : Int) = fwP x := by have := zj3 x; omega
theorem zwt {ws : List Int} {O : List Nat} {p : Nat} (h : zav ws p = true) : (fun z => decide (z = fwP (za ws p)) || zbn ws O z) = zbn ws (O ++ [p]) := by
 funext z
 unfold zbn
 rw [zgx h]
 have e := zm8 (za ws p)
 simp only [zu, List.map_append, List.map_cons, List.map_nil, List.mem_append, List.mem_singleton, e]
 rw [Bool.eq_iff_iff]
 simp
 exact Or.comm
theorem zwu {ws : List Int} {O : List Nat} {p : Nat} (h : zav ws p = false) : zbn ws (O ++ [p]) = zbn ws O := by
 funext z
 unfold zbn
 rw [zhs h]
theorem zp1 {ws : List Int} {p : Nat} (h : zca (za ws p) = true) : zav ws p = true := by
 have : zai (za ws p) = false := by
  rw [<- Bool.not_eq_true]
  intro g
  rw [zk7 g] at h
  simp at h
 simp [zav, h, this]
theorem zkw {ws : List Int} {p : Nat} (h : zai (za ws p) = true) : zav ws p = false := by simp [zav, h]
theorem zhd {ws : List Int} {sr : Int} {S T : Nat} {L O : List Nat} {y : Int} (hL : zn (nx1 ws sr) S T L) (hS : 1 <= S) (hO : ∀ p ∈ O, ¬ (S <= p /\ p < T)) (hy : 0 <= y) : zb0 (S : Int) (T : Int) (zm ws L O) y = true ↔ y.toNat ∈ L := by
 unfold zb0
 simp only [Bool.and_eq_true, decide_eq_true_eq, beq_iff_eq]
 constructor
 · rintro ⟨⟨h1, h2⟩, h3⟩
   have hn : y.toNat ∉ O := fun g => hO _ g (by omega)
   unfold zm zcf at h3
   rw [if_neg hn] at h3
   by_cases g : y.toNat ∈ L
   · exact g
   · rw [if_neg g] at h3; omega
 · intro h
   have := hL.mem _ h
   have hn : y.toNat ∉ O := fun g => hO _ g (by omega)
   refine ⟨by omega, ?_⟩
   unfold zm zcf
   rw [if_neg hn, if_pos h]
   omega
def zeb (ws : List Int) (sr : Int) (L : List Nat) (F Od : Nat) (cpz : Int) : Prop := ∃ O, zn (nx2 ws sr L) F Od O /\ (tgs ws O).Nodup /\ (zag ws (L ++ zl ws O)).Nodup /\ (zak ws O : Int) = cpz
def zcg (ws : List Int) (sr : Int) (L : List Nat) (P Od : Nat) (cpz : Int) (O : List Nat) : Prop := ∃ M, zn (nx2 ws sr L) P Od M /\ (tgs ws (O ++ M)).Nodup /\ (zag ws (L ++ zl ws (O ++ M))).Nodup /\ (zak ws (O ++ M) : Int) = cpz
theorem zro {ws : List Int} {sr : Int} {L : List Nat} {P Od : Nat} {cpz : Int} {O : List Nat} (h : Od < P) : ¬ zcg ws sr L P Od cpz O := fun ⟨M, hM, _⟩ => by have := hM.le; omega
theorem zto {ws : List Int} {sr : Int} {L : List Nat} {Od : Nat} {cpz : Int} {O : List Nat} (h1 : (tgs ws O).Nodup) (h2 : (zag ws (L ++ zl ws O)).Nodup) : zcg ws sr L Od Od cpz O ↔ (zak ws O : Int) = cpz := by
 constructor
 · rintro ⟨M, hM, _, _, hs⟩
   cases M with
   | nil => simpa using hs
   | cons x M =>
     obtain ⟨rfl, s, hs', t⟩ := hM
     have := t.le
     omega
 · exact fun h => ⟨[], .nil _, by simpa using h1, by simpa using h2, by simpa using h⟩
theorem zj2 {ws : List Int} {sr : Int} {L : List Nat} {P Od s : Nat} {cpz : Int} {O : List Nat} (hs : nx2 ws sr L P = some s) (hP : P < Od) : zcg ws sr L P Od cpz O ↔ zcg ws sr L (P + s + 1) Od cpz (O ++ [P]) := by
 constructor
 · rintro ⟨M, hM, r⟩
   cases M with
   | nil =>
     have hM' : Od = P := hM
     omega
   | cons x M =>
     obtain ⟨rfl, s', hs', t⟩ := hM
     rw [hs] at hs'
     cases hs'
     exact ⟨_, t, by simpa using r⟩
 · rintro ⟨M, hM, r⟩
   exact ⟨P :: M, .cons hs hM, by simpa using r⟩
theorem ztp {ws : List Int} {sr : Int} {S T : Nat} {L O : List Nat} {P : Nat} (hL : zn (nx1 ws sr) S T L) (hS : 1 <= S) (hO : ∀ p ∈ O, ¬ (S <= p /\ p < T)) (h : zc7 ws S T (zm ws L O) (zbn ws O) P) (hn : (tgs ws O).Nodup) :
 zav ws P = true /\ nx2 ws sr L P = some (rdS (za ws (zu ws P))).toNat /\ zu ws P ∈ L /\ (tgs ws (O ++ [P])).Nodup := by
 have hf := zp1 h.1
 have hm : zu ws P ∈ L := (zhd hL hS hO (zj3 _).1).1 h.2.1
 have hr : zai (za ws P) = false := by simp only [zav, Bool.and_eq_true, Bool.not_eq_true'] at hf; exact hf.1
 refine ⟨hf, ?_, hm, ?_⟩
 · unfold nx2
   rw [if_neg (by simp [hr]), if_pos ⟨h.1, hm⟩]
 · rw [zgx hf, List.nodup_append]
   refine ⟨hn, by simp, ?_⟩
   intro a ha c hc e
   simp at hc
   subst hc
   subst e
   have := h.2.2
   unfold zbn at this
   have := of_decide_eq_false this
   exact this (List.mem_map.2 ⟨_, ha, zm8 _⟩)
theorem zrp {ws : List Int} {sr : Int} {S T : Nat} {L O M : List Nat} {P s : Nat} (hL : zn (nx1 ws sr) S T L) (hS : 1 <= S) (hO : ∀ p ∈ O, ¬ (S <= p /\ p < T)) (h : ¬ zc7 ws S T (zm ws L O) (zbn ws O) P) (hs : nx2 ws sr L P = some s) (hn : (tgs ws (O ++ P :: M)).Nodup) : zai (za ws P) = true := by
 by_cases hr : zai (za ws P) = true
 · exact hr
 · rw [Bool.not_eq_true] at hr
   obtain ⟨g1, g2, _⟩ := zfv hs hr
   exfalso
   refine h ⟨g1, (zhd hL hS hO (zj3 _).1).2 g2, ?_⟩
   unfold zbn
   apply decide_eq_false
   intro hm
   obtain ⟨a, ha, e⟩ := List.mem_map.1 hm
   have ea : a = zu ws P := by unfold zu; omega
   subst ea
   have e2 : O ++ P :: M = (O ++ [P]) ++ M := by simp
   rw [e2] at hn
   unfold tgs at hn
   rw [List.filter_append, List.map_append] at hn
   have hn2 := (List.nodup_append.1 hn).1
   have hn3 : (tgs ws (O ++ [P])).Nodup := hn2
   rw [zgx (zp1 g1)] at hn3
   exact (List.nodup_append.1 hn3).2.2 _ ha _ (List.mem_singleton.2 rfl) rfl
theorem zad.mono {B Bp : Nat} {w : World} {sv bl bs bc n : Nat} {C : Array Value} {vp : Value} {lead : Nat -> Int} {pl : List Nat} {ns nc ms mc : Nat} {hser hcop : Int -> Bool} (h : zad B Bp w sv bl bs bc n C vp lead pl ns nc hser hcop) (hs : ns <= ms) (hc : nc <= mc) : zad B Bp w sv bl bs bc n C vp lead pl ms mc hser hcop :=
 ⟨h.head, h.row, h.own, h.ser.mono hs, h.cop.mono hc, h.ge, h.lt, h.ne, h.size⟩
theorem zu9 (ws : List Int) (O : List Nat) : (zl ws O).length <= O.length := List.length_filter_le _ _
theorem zrn {ws : List Int} {sr : Int} {h : Int -> Bool} {P : Nat} (hE : zcj ws sr h P) : zav ws P = false := zkw hE.1
theorem ztn {ws : List Int} {sr : Int} {h : Int -> Bool} {L : List Nat} {P : Nat} (hE : zcj ws sr h P) : nx2 ws sr L P = some (rdS (za ws P)).toNat := by
 unfold nx2
 rw [if_pos hE.1, if_pos hE.2.1]
theorem zva {ws : List Int} {sr : Int} {S T : Nat} {L O : List Nat} {P Od : Nat} {cpz : Int} (hL : zn (nx1 ws sr) S T L) (hS : 1 <= S) (hO : ∀ p ∈ O, ¬ (S <= p /\ p < T)) (hF : ¬ zc7 ws S T (zm ws L O) (zbn ws O) P) (hE : ¬ zcj ws sr (za4 ws (L ++ zl ws O)) P) (hP : P < Od) : ¬ zcg ws sr L P Od cpz O := by
 rintro ⟨M, hM, h1, h2, _⟩
 cases M with
 | nil =>
   have hM' : Od = P := hM
   omega
 | cons x M =>
   rename_i hsum'
   obtain ⟨rfl, s, hs, t⟩ := hM
   have hr := zrp hL hS hO hF hs h1
   have g2 := (zjb hs hr).1
   refine hE ⟨hr, g2, fun h0 => ?_⟩
   unfold za4
   apply decide_eq_false
   intro hm
   have e : zl ws (O ++ P :: M) = (zl ws O ++ [P]) ++ zl ws M := by simp [zl, zkw hr]
   rw [e, <- List.append_assoc, <- List.append_assoc, zeu, zfp, if_neg h0] at h2
   have h3 := (List.nodup_append.1 h2).1
   exact (List.nodup_append.1 h3).2.2 _ hm _ (List.mem_singleton.2 rfl) rfl
set_option maxHeartbeats 8000000 in
theorem zhy (b off cw : Nat) (ws : List Int) (smz toh top : Int) (cyc : Bool) (sn old cpz sr : Int) (ar : Option Addr) (cr : Nat) (rs : List (Int × Int)) (B Bp sv bl cl bs bc : Nat) (vp : Value) (S T F Od : Nat) (L : List Nat) (w : World) (hS : zad B Bp w sv bl bs bc ws.length #[.slice (some ⟨b, off, none⟩) ws.length cw, .int .i64 smz, .int .i64 toh, .int .i64 top, .bool cyc, .int .i64 sn, .int .i64 old, .int .i64 cpz, .int .i64 sr, .slice ar rs.length cr, .slice (some ⟨bl, 0, none⟩) ws.length cl, vp, .map (some bs), .map (some bc)] vp (zm ws L []) (L ++ zl ws []) L.length 0 (za4 ws (L ++ zl ws [])) (zbn ws [])) (hb : b < w.heap.size) (hbB : b < B) (hc : ∀ i, i < ws.length -> w.cell? ⟨b, off + i, none⟩ = some (.int .u64 (za ws i))) (hn : ws.length <= 8000) (hw : zg ws) (t0 : 0 <= toh) (t1 : toh <= 1) (s0 : 256 <= smz) (s1 : smz <= 4000) (hSe : toh * smz + 1 = S) (hT : top = T) (hF : (1 - toh) * smz + 1 = F) (hOd : old = Od) (hS1 : 1 <= S) (hTn : T <= ws.length) (hFO : F <= Od) (hOn : Od <= ws.length) (hap : T <= F \/ Od <= S) (hL : zn (nx1 ws sr) S T L) (hLn : (zag ws L).Nodup) :
 Calls Tryz.prog 166 #[.pointer (some ⟨sv, 0, none⟩)] w fun e w' => ∃ q, e = .returned (.bool q) /\ (q = true ↔ zeb ws sr L F Od cpz) /\ Below B w w' /\ (q = false -> ∃ vp' lead' pl' ns' nc' h1 h2, zad B Bp w' sv bl bs bc ws.length ((fun vp => #[.slice (some ⟨b, off, none⟩) ws.length cw, .int .i64 smz, .int .i64 toh, .int .i64 top, .bool cyc, .int .i64 sn, .int .i64 old, .int .i64 cpz, .int .i64 sr, .slice ar rs.length cr, .slice (some ⟨bl, 0, none⟩) ws.length cl, vp, .map (some bs), .map (some bc)]) vp') vp' lead' pl' ns' nc' h1 h2) /\ (q = true -> ∃ O vp', zn (nx2 ws sr L) F Od O /\ (tgs ws O).Nodup /\ (zag ws (L ++ zl ws O)).Nodup /\ (zak ws O : Int) = cpz /\ zad B Bp w' sv bl bs bc ws.length ((fun vp => #[.slice (some ⟨b, off, none⟩) ws.length cw, .int .i64 smz, .int .i64 toh, .int .i64 top, .bool cyc, .int .i64 sn, .int .i64 old, .int .i64 cpz, .int .i64 sr, .slice ar rs.length cr, .slice (some ⟨bl, 0, none⟩) ws.length cl, vp, .map (some bs), .map (some bc)]) vp') vp' (zm ws L O) (L ++ zl ws O) (L.length + O.length) O.length (za4 ws (L ++ zl ws O)) (zbn ws O)) := by
 have HSe : Hid (toh * smz + 1 = (S : Int)) := hSe
 have HF : Hid ((1 - toh) * smz + 1 = (F : Int)) := hF
 have HT : Hid (top = (T : Int)) := hT
 have HOd : Hid (old = (Od : Int)) := hOd
 have hTl : top <= ws.length := by omega
 have u0 : 0 <= 1 - toh := by omega
 have u1 : 1 - toh <= 1 := by omega
 have hBw : B <= w.heap.size := by have := hS.ge; have := hS.lt; have := hS.size; omega
 have hn' : ws.length <= 1048576 := by omega
 have KS := hS.cells
 have lsv := hS.lsv
 have hLl := hL.len
 have HL : Hid (zn (nx1 ws sr) S T L) := hL
 have HC : Hid (∀ i, i < ws.length -> w.cell? ⟨b, off + i, none⟩ = some (.int .u64 (za ws i))) := hc
 have HLN : Hid ((zag ws L).Nodup) := hLn
 have KP : ∀ W, Below w.heap.size w W -> (Below w.heap.size w W /\ (∀ i, W.cell? ⟨sv, i, none⟩ = (#[.slice (some ⟨b, off, none⟩) ws.length cw, .int .i64 smz, .int .i64 toh, .int .i64 top, .bool cyc, .int .i64 sn, .int .i64 old, .int .i64 cpz, .int .i64 sr, .slice ar rs.length cr, .slice (some ⟨bl, 0, none⟩) ws.length cl, vp, .map (some bs), .map (some bc)] : Array Value)[i]?)) := fun W hW => ⟨hW, ze KS hW lsv⟩
 clear hF hc hT hSe hOd hL hLn
 go_enter Tryz.func166, Tryz.ntmps166
 go_wp2
 have b1' := (Below.refl w.heap.size w).drew
 go_cut [3, 4] from 5 to 14 (fun s3 s4 wc => s3 = .int .i64 (F : Int) /\ s4 = .int .i64 0 /\ Below w.heap.size w wc)
 case first =>
  go_region_held3 (fun W => Below w.heap.size w W /\ (∀ i, W.cell? ⟨sv, i, none⟩ = (#[.slice (some ⟨b, off, none⟩) ws.length cw, .int .i64 smz, .int .i64 toh, .int .i64 top, .bool cyc, .int .i64 sn, .int .i64 old, .int .i64 cpz, .int .i64 sr, .slice ar rs.length cr, .slice (some ⟨bl, 0, none⟩) ws.length cl, vp, .map (some bs), .map (some bc)] : Array Value)[i]?)) (first | exact KP _ (by assumption) | exact KP _ b1') (first | (go_at_call 109; refine (zf4 _ _ _ _ _ _ _ _ _ _ _ _ _ _ _ t0 t1).mono ?_; rintro e w' ⟨rfl, hb⟩; have hB3 := zc (w := w) (And.left (by assumption)) hb; clear hb) | (go_at_call 62; refine (zdu _ _ _ _ _ _ _ _ _ _ _ _ _ _ (1 - toh) (F : Int) _ u0 u1 s0 s1 HF.out).mono ?_; rintro e w' ⟨rfl, hb⟩; have hB3 := zc (w := w) (And.left (by assumption)) hb; clear hb))
  all_goals (go_wp2_with fail; go_meet; exact ⟨rfl, rfl, by assumption⟩)
 case rest =>
  obtain ⟨rfl, rfl, hBc⟩ := hcut
  have Sc := hS.below hBc
  have Bc := zat hBc hBw
  clear KP KS b1' hS
  go_wp2
  go_loopw [3, 4] (fun u3 u4 wr => ∃ (P : Nat) (O : List Nat) (vp' : Value), u3 = .int .i64 (P : Int) /\ u4 = .int .i64 (zak ws O : Int) /\ P <= Od + 257 /\ zn (nx2 ws sr L) F P O /\ (tgs ws O).Nodup /\ (zag ws (L ++ zl ws O)).Nodup /\ (zeb ws sr L F Od cpz ↔ zcg ws sr L P Od cpz O) /\ (∀ p ∈ O, ¬ (S <= p /\ p < T)) /\ zad B Bp wr sv bl bs bc ws.length ((fun vp => #[.slice (some ⟨b, off, none⟩) ws.length cw, .int .i64 smz, .int .i64 toh, .int .i64 top, .bool cyc, .int .i64 sn, .int .i64 old, .int .i64 cpz, .int .i64 sr, .slice ar rs.length cr, .slice (some ⟨bl, 0, none⟩) ws.length cl, vp, .map (some bs), .map (some bc)]) vp') vp' (zm ws L O) (L ++ zl ws O) (L.length + O.length) O.length (za4 ws (L ++ zl ws O)) (zbn ws O) /\ Below B w wr) (fun u3 _ _ => Od + 300 - (intOf u3).toNat)
  case atStart => exact ⟨F, [], vp, rfl, rfl, by omega, .nil _, by simp [tgs], by simpa [zl] using HLN.out, by unfold zeb zcg; simp, by simp, Sc, Bc⟩
  case round =>
   obtain ⟨P, O, vq, rfl, rfl, hPT, hCh, hnt, hns, hgo, hO, hR, hB⟩ := hrel
   have hlen := hCh.len
   have hsum := zfd hCh
   have hhl := zu9 ws O
   have HG : Hid (zeb ws sr L F Od cpz ↔ zcg ws sr L P Od cpz O) := hgo
   have HCH : Hid (zn (nx2 ws sr L) F P O) := hCh
   have HNT : Hid ((tgs ws O).Nodup) := hnt
   have HNS : Hid ((zag ws (L ++ zl ws O)).Nodup) := hns
   have HOO : Hid (∀ p ∈ O, ¬ (S <= p /\ p < T)) := hO
   clear hgo hCh hnt hns hO Sc
   have KR := hR.cells
   have CR := zd4 hbB hb HC.out hB
   have hpl : (L ++ zl ws O).length <= 10000 := by simp; omega
   by_cases hlt : P < Od
   · have hltd : (P : Int) < old := by rw [HOd.out]; omega
     have hPn : P < ws.length := by omega
     have HON : Hid (∀ p ∈ O ++ [P], ¬ (S <= p /\ p < T)) := fun p hp => by
      rcases List.mem_append.1 hp with h | h
      · exact HOO.out p h
      · simp at h; subst h; have := HCH.out.le; omega
     by_cases hFo : zc7 ws S T (zm ws L O) (zbn ws O) P
     · obtain ⟨f1, f2, f3, f4⟩ := ztp HL.out hS1 HOO.out hFo HNT.out
       have hq := (HL.out.mem _ f3).2.1
       have HFo : Hid (zc7 ws S top (zm ws L O) (zbn ws O) P) := by show zc7 ws S top (zm ws L O) (zbn ws O) P; rw [HT.out]; exact hFo
       have HST : Hid (zeb ws sr L F Od cpz ↔ zcg ws sr L (P + (rdS (za ws (zu ws P))).toNat + 1) Od cpz (O ++ [P])) := HG.out.trans (zj2 f2 hlt)
       have HCN : Hid (zn (nx2 ws sr L) F (P + (rdS (za ws (zu ws P))).toNat + 1) (O ++ [P])) := HCH.out.snoc f2
       have HNN : Hid ((tgs ws (O ++ [P])).Nodup) := f4
       have HNS2 : Hid ((zag ws (L ++ zl ws (O ++ [P]))).Nodup) := by show (zag ws (L ++ zl ws (O ++ [P]))).Nodup; rw [zpz f1]; exact HNS.out
       have hsb := za5 (za ws (zu ws P))
       have hsn := zkp (O := O) f1
       have hqn : zu ws P < ws.length := by omega
       have hld : zm ws L (O ++ [P]) P = (zu ws P : Int) := by have e := zm8 (za ws P); unfold zm zu; rw [if_pos (by simp), if_pos f1, e]
       have HLD : Hid (zm ws L (O ++ [P]) P = (zu ws P : Int)) := hld
       have HF1 : Hid (zav ws P = true) := f1
       clear hFo f1 f2 f3 f4 hld
       go_wp2_with (first | (go_at_call 195; refine (zhz b off cw ws smz toh top cyc sn old cpz sr ar cr rs B Bp sv bl cl bs bc vq (zm ws L O) (L ++ zl ws O) (L.length + O.length) O.length (za4 ws (L ++ zl ws O)) (zbn ws O) _ (S : Int) P _ hR CR.1 hbB CR.2 hn' hw (by omega) t0 t1 s0 s1 HSe.out hTl rfl hPn).mono ?_; rintro e w4 (⟨hbad, _⟩ | ⟨_, rfl, b4, S4⟩); exact absurd HFo.out hbad; rw [zvb HF1.out, zwt HF1.out] at S4; have hB4 := hB.trans b4; have C4 := zd4 hbB hb HC.out hB4) | (go_at_call 164; first | (refine (zih b off cw ws smz toh top cyc sn old cpz sr ar cr rs sv bl cl bs bc vq (zm ws L (O ++ [P])) _ P (zu ws P) _ S5.lsv S5.cells S5.lbl S5.leads C5.1 C5.2 hn' hw rfl hPn HLD.out hqn).mono ?_; rintro e w6 ⟨rfl, b6⟩; have S6 := S5.below b6; have hB6 : Below B w w6 := hB5.trans (zat b6 (by have := S5.size; have := S5.lt; have := S5.ge; omega))) | (refine (zih b off cw ws smz toh top cyc sn old cpz sr ar cr rs sv bl cl bs bc vq (zm ws L (O ++ [P])) _ P (zu ws P) _ S4.lsv S4.cells S4.lbl S4.leads C4.1 C4.2 hn' hw rfl hPn HLD.out hqn).mono ?_; rintro e w5 ⟨rfl, b5⟩; have S5 := S4.below b5; have hB5 : Below B w w5 := hB4.trans (zat b5 (by have := S4.size; have := S4.lt; have := S4.ge; omega)); have C5 := zd4 hbB hb HC.out hB5)))
       have eP : (P : Int) + (rdS (za ws (zu ws P)) + 1) = ((P + (rdS (za ws (zu ws P))).toNat + 1 : Nat) : Int) := by omega
       have eS : (zak ws O : Int) + (rdS (za ws (zu ws P)) + 1) = ((zak ws (O ++ [P]) : Nat) : Int) := by omega
       have S7 : zad B Bp w6 sv bl bs bc ws.length ((fun vp => #[.slice (some ⟨b, off, none⟩) ws.length cw, .int .i64 smz, .int .i64 toh, .int .i64 top, .bool cyc, .int .i64 sn, .int .i64 old, .int .i64 cpz, .int .i64 sr, .slice ar rs.length cr, .slice (some ⟨bl, 0, none⟩) ws.length cl, vp, .map (some bs), .map (some bc)]) vq) vq (zm ws L (O ++ [P])) (L ++ zl ws (O ++ [P])) (L.length + (O ++ [P]).length) (O ++ [P]).length (za4 ws (L ++ zl ws (O ++ [P]))) (zbn ws (O ++ [P])) := by
        rw [zpz HF1.out]
        exact S6.mono (by simp) (by simp)
       first
        | (refine ⟨⟨P + (rdS (za ws (zu ws P))).toNat + 1, O ++ [P], vq, by rw [<- eP], by rw [<- eS], by omega, HCN.out, HNN.out, HNS2.out, HST.out, HON.out, S7, hB6⟩, by simp [intOf]; omega⟩)
        | (go_roundw
           case rel => exact ⟨P + (rdS (za ws (zu ws P))).toNat + 1, O ++ [P], vq, by rw [<- eP], by rw [<- eS], by omega, HCN.out, HNN.out, HNS2.out, HST.out, HON.out, S7, hB6⟩
           case measure => simp [intOf]; omega)
     · have HFo : Hid (¬ zc7 ws S top (zm ws L O) (zbn ws O) P) := by show ¬ zc7 ws S top (zm ws L O) (zbn ws O) P; rw [HT.out]; exact hFo
       by_cases hE : zcj ws sr (za4 ws (L ++ zl ws O)) P
       · have f1 := zrn hE
         have f2 := ztn (L := L) hE
         have HST : Hid (zeb ws sr L F Od cpz ↔ zcg ws sr L (P + (rdS (za ws P)).toNat + 1) Od cpz (O ++ [P])) := HG.out.trans (zj2 f2 hlt)
         have HCN : Hid (zn (nx2 ws sr L) F (P + (rdS (za ws P)).toNat + 1) (O ++ [P])) := HCH.out.snoc f2
         have HNN : Hid ((tgs ws (O ++ [P])).Nodup) := by show (tgs ws (O ++ [P])).Nodup; rw [zhs f1]; exact HNT.out
         have HNS2 : Hid ((zag ws (L ++ zl ws (O ++ [P]))).Nodup) := by show (zag ws (L ++ zl ws (O ++ [P]))).Nodup; rw [zp0 f1, <- List.append_assoc]; exact ziv hE HNS.out
         have HE : Hid (zcj ws sr (za4 ws (L ++ zl ws O)) P) := hE
         have hsb := za5 (za ws P)
         have hsn := zkq (O := O) f1
         have hld : zm ws L (O ++ [P]) P = (P : Int) := by unfold zm; rw [if_pos (by simp), if_neg (by simp [f1])]
         have HLD : Hid (zm ws L (O ++ [P]) P = (P : Int)) := hld
         have HF1 : Hid (zav ws P = false) := f1
         clear hFo f1 f2 hld hE
         go_wp2_with (first | (go_at_call 195; refine (zhz b off cw ws smz toh top cyc sn old cpz sr ar cr rs B Bp sv bl cl bs bc vq (zm ws L O) (L ++ zl ws O) (L.length + O.length) O.length (za4 ws (L ++ zl ws O)) (zbn ws O) _ (S : Int) P _ hR CR.1 hbB CR.2 hn' hw (by omega) t0 t1 s0 s1 HSe.out hTl rfl hPn).mono ?_; rintro e w4 (⟨_, rfl, b4⟩ | ⟨hbad, _⟩); rotate_left; exact absurd hbad HFo.out; have S4 := hR.below b4; have hB4 : Below B w w4 := hB.trans (zat b4 (by have := hR.size; have := hR.lt; have := hR.ge; omega)); have C4 := zd4 hbB hb HC.out hB4) | (go_at_call 163; refine (zhe b off cw ws smz toh top cyc sn old cpz sr ar cr rs B Bp sv bl cl bs bc vq (zm ws L O) (L ++ zl ws O) (L.length + O.length) O.length (za4 ws (L ++ zl ws O)) (zbn ws O) _ P _ S4 C4.1 hbB C4.2 hn' hw (by omega) hpl rfl hPn).mono ?_; rintro e w5 ⟨q, rfl, hq, b5, _, s5⟩; obtain rfl : q = true := hq.2 HE.out; clear hq; obtain ⟨v5, S5⟩ := s5 rfl; clear s5; rw [zvc HF1.out, zle] at S5; have hB5 := hB4.trans b5; have C5 := zd4 hbB hb HC.out hB5) | (go_at_call 164; refine (zih b off cw ws smz toh top cyc sn old cpz sr ar cr rs sv bl cl bs bc v5 (zm ws L (O ++ [P])) _ P P _ S5.lsv S5.cells S5.lbl S5.leads C5.1 C5.2 hn' hw rfl hPn HLD.out hPn).mono ?_; rintro e w6 ⟨rfl, b6⟩; have S6 := S5.below b6; have hB6 : Below B w w6 := hB5.trans (zat b6 (by have := S5.size; have := S5.lt; have := S5.ge; omega))))
         have eP : (P : Int) + (rdS (za ws P) + 1) = ((P + (rdS (za ws P)).toNat + 1 : Nat) : Int) := by omega
         have S7 : zad B Bp w6 sv bl bs bc ws.length ((fun vp => #[.slice (some ⟨b, off, none⟩) ws.length cw, .int .i64 smz, .int .i64 toh, .int .i64 top, .bool cyc, .int .i64 sn, .int .i64 old, .int .i64 cpz, .int .i64 sr, .slice ar rs.length cr, .slice (some ⟨bl, 0, none⟩) ws.length cl, vp, .map (some bs), .map (some bc)]) v5) v5 (zm ws L (O ++ [P])) (L ++ zl ws (O ++ [P])) (L.length + (O ++ [P]).length) (O ++ [P]).length (za4 ws (L ++ zl ws (O ++ [P]))) (zbn ws (O ++ [P])) := by
          rw [zp0 HF1.out, <- List.append_assoc, zwu HF1.out]
          exact S6.mono (by simp; omega) (by simp)
         first
          | (refine ⟨⟨P + (rdS (za ws P)).toNat + 1, O ++ [P], v5, by rw [<- eP], by rw [hsn], by omega, HCN.out, HNN.out, HNS2.out, HST.out, HON.out, S7, hB6⟩, by simp [intOf]; omega⟩)
          | (go_roundw
             case rel => exact ⟨P + (rdS (za ws P)).toNat + 1, O ++ [P], v5, by rw [<- eP], by rw [hsn], by omega, HCN.out, HNN.out, HNS2.out, HST.out, HON.out, S7, hB6⟩
             case measure => simp [intOf]; omega)
       · have HNO : Hid (¬ zeb ws sr L F Od cpz) := fun g => zva HL.out hS1 HOO.out hFo hE hlt (HG.out.1 g)
         have HE : Hid (¬ zcj ws sr (za4 ws (L ++ zl ws O)) P) := hE
         clear hFo hE
         go_wp2_with (first | (go_at_call 195; refine (zhz b off cw ws smz toh top cyc sn old cpz sr ar cr rs B Bp sv bl cl bs bc vq (zm ws L O) (L ++ zl ws O) (L.length + O.length) O.length (za4 ws (L ++ zl ws O)) (zbn ws O) _ (S : Int) P _ hR CR.1 hbB CR.2 hn' hw (by omega) t0 t1 s0 s1 HSe.out hTl rfl hPn).mono ?_; rintro e w4 (⟨_, rfl, b4⟩ | ⟨hbad, _⟩); rotate_left; exact absurd hbad HFo.out; have S4 := hR.below b4; have hB4 : Below B w w4 := hB.trans (zat b4 (by have := hR.size; have := hR.lt; have := hR.ge; omega)); have C4 := zd4 hbB hb HC.out hB4) | (go_at_call 163; refine (zhe b off cw ws smz toh top cyc sn old cpz sr ar cr rs B Bp sv bl cl bs bc vq (zm ws L O) (L ++ zl ws O) (L.length + O.length) O.length (za4 ws (L ++ zl ws O)) (zbn ws O) _ P _ S4 C4.1 hbB C4.2 hn' hw (by omega) hpl rfl hPn).mono ?_; rintro e w5 ⟨q, rfl, hq, b5, f5, s5⟩; obtain rfl : q = false := (by cases q with | false => rfl | true => exact absurd (hq.1 rfl) HE.out); have S5 := S4.below (f5 rfl); clear hq s5 f5))
         go_ret
         exact ⟨false, rfl, ⟨fun g => by simp at g, fun g => absurd g HNO.out⟩, hB4.trans b5, fun _ => ⟨_, _, _, _, _, _, _, S5⟩, fun g => by simp at g⟩
   · have hed : decide ((P : Int) < old) = false := decide_eq_false (by rw [HOd.out]; omega)
     by_cases he : P = Od
     · have heq : ((P : Int) == old) = true := by rw [HOd.out]; simp; omega
       have hge : zcg ws sr L P Od cpz O ↔ (zak ws O : Int) = cpz := by rw [he]; exact zto HNT.out HNS.out
       have HCT : Hid (zn (nx2 ws sr L) F Od O) := by show zn (nx2 ws sr L) F Od O; rw [<- he]; exact HCH.out
       clear he hlt
       by_cases hsm : (zak ws O : Int) = cpz
       · have hse : ((zak ws O : Int) == cpz) = true := by simpa using hsm
         have HSM : Hid ((zak ws O : Int) = cpz) := hsm
         have HGG : Hid (zeb ws sr L F Od cpz) := HG.out.2 (hge.2 hsm)
         clear hsm hge
         go_wp2
         go_ret
         first
          | exact ⟨true, rfl, ⟨fun _ => HGG.out, fun _ => rfl⟩, hB, (fun g => by simp at g), fun _ => ⟨O, vq, HCT.out, HNT.out, HNS.out, HSM.out, hR⟩⟩
          | exact Or.inr ⟨rfl, HGG.out, hB, O, HCT.out, HNT.out, HNS.out, HSM.out, vq, hR⟩
          | exact Or.inr ⟨rfl, HGG.out, hB, O, vq, HCT.out, HNT.out, HNS.out, HSM.out, hR⟩
       · have hse : ((zak ws O : Int) == cpz) = false := by simpa using hsm
         have HNO : Hid (¬ zeb ws sr L F Od cpz) := fun g => hsm (hge.1 (HG.out.1 g))
         clear hsm hge
         go_wp2
         go_ret
         first
          | exact ⟨false, rfl, ⟨fun g => by simp at g, fun g => absurd g HNO.out⟩, hB, fun _ => ⟨_, _, _, _, _, _, _, hR⟩, fun g => by simp at g⟩
          | exact Or.inl ⟨rfl, HNO.out, hB, _, _, _, _, _, _, _, hR⟩
     · have heq : ((P : Int) == old) = false := by rw [HOd.out]; simp; omega
       have HNO : Hid (¬ zeb ws sr L F Od cpz) := fun g => zro (by omega) (HG.out.1 g)
       clear he hlt
       go_wp2
       go_ret
       first
        | exact ⟨false, rfl, ⟨fun g => by simp at g, fun g => absurd g HNO.out⟩, hB, fun _ => ⟨_, _, _, _, _, _, _, hR⟩, fun g => by simp at g⟩
        | exact Or.inl ⟨rfl, HNO.out, hB, _, _, _, _, _, _, _, hR⟩
end Go.Proofs.YtmckcnmlhgpnhaaGreat
