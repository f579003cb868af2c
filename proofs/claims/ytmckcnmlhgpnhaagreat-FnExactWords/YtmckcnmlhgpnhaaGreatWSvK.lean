/- - -/
import Derived.Test.YtmckcnmlhgpnhaaGreatWSvG
namespace Go.Proofs.YtmckcnmlhgpnhaaGreat
set_option maxRecDepth 20000
open Go.RowKit Go.Maps
set_option linter.unusedSimpArgs false
set_option linter.unusedVariables false
def zf5 (ws : List Int) (lead : Nat -> Int) (t m : Int) : Bool := decide (m < ws.length) && (decide (lead m.toNat ≠ 0) && (rdK (za ws (lead m.toNat).toNat) == za2 t))
set_option maxHeartbeats 2000000 in
theorem znr (b off cw : Nat) (ws : List Int) (smz toh top : Int) (cyc : Bool) (sn old cpz sr : Int) (ar : Option Addr) (cr : Nat) (rs : List (Int × Int)) (sv bl cl bs bc : Nat) (vp : Value) (lead : Nat -> Int) (t m : Int) (w : World) (lsv : sv < w.heap.size) (KS : ∀ i, w.cell? ⟨sv, i, none⟩ = (#[.slice (some ⟨b, off, none⟩) ws.length cw, .int .i64 smz, .int .i64 toh, .int .i64 top, .bool cyc, .int .i64 sn, .int .i64 old, .int .i64 cpz, .int .i64 sr, .slice ar rs.length cr, .slice (some ⟨bl, 0, none⟩) ws.length cl, vp, .map (some bs), .map (some bc)] : Array Value)[i]?) (lbl : bl < w.heap.size) (hl : ∀ i, i < ws.length -> w.cell? ⟨bl, i, none⟩ = some (.int .i64 (lead i))) (hb : b < w.heap.size) (hc : ∀ i, i < ws.length -> w.cell? ⟨b, off + i, none⟩ = some (.int .u64 (za ws i))) (hn : ws.length <= 1048576) (hw : zg ws) (h : (ws.length : Int) <= m) :
 Calls Tryz.prog 174 #[.pointer (some ⟨sv, 0, none⟩), .agg #[.int .i64 t, .int .i64 m]] w fun e w' => e = .returned (.bool false) /\ Below w.heap.size w w' := by
 have KV : ∀ o, ∀ i, (w.alloc o).cell? ⟨sv, i, none⟩ = (#[.slice (some ⟨b, off, none⟩) ws.length cw, .int .i64 smz, .int .i64 toh, .int .i64 top, .bool cyc, .int .i64 sn, .int .i64 old, .int .i64 cpz, .int .i64 sr, .slice ar rs.length cr, .slice (some ⟨bl, 0, none⟩) ws.length cl, vp, .map (some bs), .map (some bc)] : Array Value)[i]? := fun o => ze KS ((Below.refl _ _).alloc (Nat.le_refl _) o) lsv
 clear hl hc KS
 go_enter Tryz.func174, Tryz.ntmps174
 go_wp2
 go_quiet (fail)
 go_wp2
 go_ret
 exact ⟨rfl, below_drewN (zd (Below.refl _ _)) _⟩
set_option maxHeartbeats 2000000 in
theorem zlz (b off cw : Nat) (ws : List Int) (smz toh top : Int) (cyc : Bool) (sn old cpz sr : Int) (ar : Option Addr) (cr : Nat) (rs : List (Int × Int)) (sv bl cl bs bc : Nat) (vp : Value) (lead : Nat -> Int) (t m : Int) (P : Nat) (q : Int) (w : World) (lsv : sv < w.heap.size) (KS : ∀ i, w.cell? ⟨sv, i, none⟩ = (#[.slice (some ⟨b, off, none⟩) ws.length cw, .int .i64 smz, .int .i64 toh, .int .i64 top, .bool cyc, .int .i64 sn, .int .i64 old, .int .i64 cpz, .int .i64 sr, .slice ar rs.length cr, .slice (some ⟨bl, 0, none⟩) ws.length cl, vp, .map (some bs), .map (some bc)] : Array Value)[i]?) (lbl : bl < w.heap.size) (hl : ∀ i, i < ws.length -> w.cell? ⟨bl, i, none⟩ = some (.int .i64 (lead i))) (hb : b < w.heap.size) (hc : ∀ i, i < ws.length -> w.cell? ⟨b, off + i, none⟩ = some (.int .u64 (za ws i))) (hn : ws.length <= 1048576) (hw : zg ws) (hm : m = P) (hP : P < ws.length) (hq : lead P = q) (hq0 : q = 0 \/ ∃ Q : Nat, q = Q /\ Q < ws.length /\ Q ≠ 0) :
 Calls Tryz.prog 174 #[.pointer (some ⟨sv, 0, none⟩), .agg #[.int .i64 t, .int .i64 m]] w fun e w' => e = .returned (.bool (decide (q ≠ 0) && (rdK (za ws q.toNat) == za2 t))) /\ Below w.heap.size w w' := by
 have m0 : 0 <= m := by omega
 have m1 : m < (ws.length : Int) := by omega
 have m1d : decide ((ws.length : Int) <= m) = false := decide_eq_false (by omega)
 have m2 : m.toNat = P := by omega
 have hlp := hl P hP
 rw [hq] at hlp
 have hs : Sl w (.slice (some ⟨b, off, none⟩) ws.length cw) ws := zcq hb hc
 have hfk := zdp
 have lpv : ∀ W, Below w.heap.size w W -> W.cell? ⟨bl, P, none⟩ = some (.int .i64 q) := fun W hW => by rw [hW.cell (p := ⟨bl, P, none⟩) lbl]; exact hlp
 have KSW : ∀ W, Below w.heap.size w W -> ∀ i, W.cell? ⟨sv, i, none⟩ = (#[.slice (some ⟨b, off, none⟩) ws.length cw, .int .i64 smz, .int .i64 toh, .int .i64 top, .bool cyc, .int .i64 sn, .int .i64 old, .int .i64 cpz, .int .i64 sr, .slice ar rs.length cr, .slice (some ⟨bl, 0, none⟩) ws.length cl, vp, .map (some bs), .map (some bc)] : Array Value)[i]? := fun W hW => ze KS hW lsv
 obtain ⟨w0, hw0⟩ : ∃ w0, w0 = w.alloc (.cells #[.int .i64 t, .int .i64 m] 48) := ⟨_, rfl⟩
 have B0 : Below w.heap.size w w0 := by rw [hw0]; exact (Below.refl _ _).alloc (Nat.le_refl _) _
 have l0 : w.heap.size < w0.heap.size := by rw [hw0]; simp
 have KV0 : ∀ i, w0.cell? ⟨w.heap.size, i, none⟩ = (#[.int .i64 t, .int .i64 m] : Array Value)[i]? := fun i => by rw [hw0]; simp [go_sem]
 clear hm hl hc hlp
 go_enter Tryz.func174, Tryz.ntmps174
 go_upto_region 1 with fail
 rw [<- hw0]
 clear hw0 KS
 have KS0 := KSW w0 B0
 go_quiet (fail)
 obtain ⟨w1, hw1⟩ : ∃ w1, w1 = w0.drewN nq := ⟨_, rfl⟩
 rw [<- hw1]
 have B1 : Below w.heap.size w w1 := by rw [hw1]; exact below_drewN B0 _
 have KS1 := KSW w1 B1
 have KL1 := lpv w1 B1
 have KV1 : ∀ i, w1.cell? ⟨w.heap.size, i, none⟩ = (#[.int .i64 t, .int .i64 m] : Array Value)[i]? := fun i => by rw [hw1]; simp [KV0]
 have l1 : w.heap.size < w1.heap.size := by rw [hw1]; simpa using l0
 clear hw1 KS0 KV0 l0 B0
 go_upto_region 3 with fail
 go_quiet (fail)
 obtain ⟨w2, hw2⟩ : ∃ w2, w2 = w1.drewN nq := ⟨_, rfl⟩
 rw [<- hw2]
 have B2 : Below w.heap.size w w2 := by rw [hw2]; exact below_drewN B1 _
 have KV2 : ∀ i, w2.cell? ⟨w.heap.size, i, none⟩ = (#[.int .i64 t, .int .i64 m] : Array Value)[i]? := fun i => by rw [hw2]; simp [KV1]
 have l2 : w.heap.size < w2.heap.size := by rw [hw2]; simpa using l1
 clear hw2 KS1 KL1 KV1 l1 B1
 have KP : ∀ W, Below w2.heap.size w2 W -> (Below w2.heap.size w2 W /\ (∀ i, W.cell? ⟨sv, i, none⟩ = (#[.slice (some ⟨b, off, none⟩) ws.length cw, .int .i64 smz, .int .i64 toh, .int .i64 top, .bool cyc, .int .i64 sn, .int .i64 old, .int .i64 cpz, .int .i64 sr, .slice ar rs.length cr, .slice (some ⟨bl, 0, none⟩) ws.length cl, vp, .map (some bs), .map (some bc)] : Array Value)[i]?) /\ (∀ i, W.cell? ⟨w.heap.size, i, none⟩ = (#[.int .i64 t, .int .i64 m] : Array Value)[i]?)) := fun W hW => ⟨hW, KSW W (zc B2 hW), ze KV2 hW l2⟩
 have b2' := (Below.refl w2.heap.size w2).drew
 go_upto_region 4 with fail
 rcases hq0 with h0 | ⟨Q, hQ, hQ1, hQ0⟩
 · have e0 : (q != 0) = false := by simpa using h0
   have HFN : Hid (false = (decide (q ≠ 0) && (rdK (za ws q.toNat) == za2 t))) := by show false = (decide (q ≠ 0) && (rdK (za ws q.toNat) == za2 t)); simp [h0]
   clear h0
   have KS2 := KSW w2 B2
   go_quiet (fail)
   go_wp2
   go_ret
   exact ⟨zbh HFN.out, below_drewN B2 _⟩
 · have HQ : Hid (q = (Q : Int)) := hQ
   have e0 : (q != 0) = true := by simp; omega
   have HFN : Hid ((rdK (za ws Q) == za2 t) = (decide (q ≠ 0) && (rdK (za ws q.toNat) == za2 t))) := by
    show (rdK (za ws Q) == za2 t) = (decide (q ≠ 0) && (rdK (za ws q.toNat) == za2 t))
    have e1 : q.toNat = Q := by omega
    have e2 : decide (q ≠ 0) = true := decide_eq_true (by omega)
    rw [e1, e2, Bool.true_and]
   clear hQ
   first
    | (go_region_held3 (fun W => Below w2.heap.size w2 W /\ (∀ i, W.cell? ⟨sv, i, none⟩ = (#[.slice (some ⟨b, off, none⟩) ws.length cw, .int .i64 smz, .int .i64 toh, .int .i64 top, .bool cyc, .int .i64 sn, .int .i64 old, .int .i64 cpz, .int .i64 sr, .slice ar rs.length cr, .slice (some ⟨bl, 0, none⟩) ws.length cl, vp, .map (some bs), .map (some bc)] : Array Value)[i]?) /\ (∀ i, W.cell? ⟨w.heap.size, i, none⟩ = (#[.int .i64 t, .int .i64 m] : Array Value)[i]?)) (first | assumption | exact KP _ (by assumption) | exact KP _ b2') (first | (go_at_call 81; refine (zc3 _ _ _ _ _ _ _ _ _ _ _ _ _ _ q Q _ HQ.out (hs.below (zc B2 (And.left (by assumption)))) hn hw hQ1).mono ?_; rintro e w' ⟨rfl, hb⟩; have hB3 := zc (w := w2) (And.left (by assumption)) hb; clear hb) | (go_at_call 203; refine (zo7 t _).mono ?_; rintro e w' ⟨rfl, rfl⟩)))
    | fail
   all_goals
    go_wp2
    go_ret
    exact ⟨zbh HFN.out, zc B2 (And.left (by assumption))⟩
theorem zix (b off cw : Nat) (ws : List Int) (smz toh top : Int) (cyc : Bool) (sn old cpz sr : Int) (ar : Option Addr) (cr : Nat) (rs : List (Int × Int)) (sv bl cl bs bc : Nat) (vp : Value) (lead : Nat -> Int) (t m : Int) (w : World) (lsv : sv < w.heap.size) (KS : ∀ i, w.cell? ⟨sv, i, none⟩ = (#[.slice (some ⟨b, off, none⟩) ws.length cw, .int .i64 smz, .int .i64 toh, .int .i64 top, .bool cyc, .int .i64 sn, .int .i64 old, .int .i64 cpz, .int .i64 sr, .slice ar rs.length cr, .slice (some ⟨bl, 0, none⟩) ws.length cl, vp, .map (some bs), .map (some bc)] : Array Value)[i]?) (lbl : bl < w.heap.size) (hl : ∀ i, i < ws.length -> w.cell? ⟨bl, i, none⟩ = some (.int .i64 (lead i))) (hb : b < w.heap.size) (hc : ∀ i, i < ws.length -> w.cell? ⟨b, off + i, none⟩ = some (.int .u64 (za ws i))) (hn : ws.length <= 1048576) (hw : zg ws) (hm : 0 <= m) (hlr : ∀ i, i < ws.length -> 0 <= lead i /\ lead i < ws.length) :
 Calls Tryz.prog 174 #[.pointer (some ⟨sv, 0, none⟩), .agg #[.int .i64 t, .int .i64 m]] w fun e w' => e = .returned (.bool (zf5 ws lead t m)) /\ Below w.heap.size w w' := by
 unfold zf5
 by_cases h : m < ws.length
 · rw [decide_eq_true h, Bool.true_and]
   obtain ⟨P, rfl⟩ := Int.eq_ofNat_of_zero_le hm
   have hP : P < ws.length := by omega
   have hr := hlr P hP
   rw [Int.toNat_natCast]
   refine zlz b off cw ws smz toh top cyc sn old cpz sr ar cr rs sv bl cl bs bc vp lead t P P (lead P) w lsv KS lbl hl hb hc hn hw rfl hP rfl ?_
   by_cases h0 : lead P = 0
   · exact .inl h0
   · exact .inr ⟨(lead P).toNat, by omega, by omega, by omega⟩
 · rw [decide_eq_false h, Bool.false_and]
   exact znr b off cw ws smz toh top cyc sn old cpz sr ar cr rs sv bl cl bs bc vp lead t m w lsv KS lbl hl hb hc hn hw (by omega)
def ze3 (F top : Int) (cyc : Bool) (sn x y : Int) : Bool := if F <= x /\ x < top then decide (F <= y /\ y < top) || (cyc && decide (sn <= x)) else !decide (F <= y /\ y < top)
set_option maxHeartbeats 2000000 in
theorem zru (b off cw : Nat) (ws : List Int) (smz toh top : Int) (cyc : Bool) (sn old cpz sr : Int) (ar : Option Addr) (cr : Nat) (rs : List (Int × Int)) (sv bl cl bs bc : Nat) (vp : Value) (lead : Nat -> Int) (x y F : Int) (w : World) (lsv : sv < w.heap.size) (KS : ∀ i, w.cell? ⟨sv, i, none⟩ = (#[.slice (some ⟨b, off, none⟩) ws.length cw, .int .i64 smz, .int .i64 toh, .int .i64 top, .bool cyc, .int .i64 sn, .int .i64 old, .int .i64 cpz, .int .i64 sr, .slice ar rs.length cr, .slice (some ⟨bl, 0, none⟩) ws.length cl, vp, .map (some bs), .map (some bc)] : Array Value)[i]?) (t0 : 0 <= toh) (t1 : toh <= 1) (s0 : 256 <= smz) (s1 : smz <= 4000) (hF : toh * smz + 1 = F) :
 Calls Tryz.prog 197 #[.pointer (some ⟨sv, 0, none⟩), .int .i64 x, .int .i64 y] w fun e w' => e = .returned (.bool (ze3 F top cyc sn x y)) /\ Below w.heap.size w w' := by
 have HF : Hid (toh * smz + 1 = F) := hF
 clear hF
 by_cases hx : F <= x /\ x < top
 · have dx : decide (F <= x /\ x < top) = true := decide_eq_true hx
   by_cases hy : F <= y /\ y < top
   · have dy : decide (F <= y /\ y < top) = true := decide_eq_true hy
     have e : ze3 F top cyc sn x y = true := by unfold ze3; rw [if_pos hx, dy]; rfl
     rw [e]
     clear hx hy e
     go_enter Tryz.func197, Tryz.ntmps197
     go_wp2_with (go_at_call 175; first | (go_at_call_of 175 x; refine (zcl _ _ _ _ _ _ _ _ _ _ _ _ _ _ x F _ t0 t1 s0 s1 HF.out).mono ?_; rw [dx]; rintro e w1 ⟨rfl, b1⟩; have KS1 := ze KS b1 lsv) | (refine (zcl _ _ _ _ _ _ _ _ _ _ _ _ _ _ y F _ t0 t1 s0 s1 HF.out).mono ?_; rw [dy]; rintro e w2 ⟨rfl, b2⟩; have KS2 := ze KS1 b2 (Nat.lt_of_lt_of_le lsv b1.size)))
     go_ret
     exact ⟨rfl, zc b1 b2⟩
   · have dy : decide (F <= y /\ y < top) = false := decide_eq_false hy
     have e : ze3 F top cyc sn x y = (cyc && decide (sn <= x)) := by unfold ze3; rw [if_pos hx, dy]; rfl
     rw [e]
     clear hx hy e
     cases hcy : cyc with
     | false =>
       rw [Bool.false_and]
       go_enter Tryz.func197, Tryz.ntmps197
       go_wp2_with (go_at_call 175; first | (go_at_call_of 175 x; refine (zcl _ _ _ _ _ _ _ _ _ _ _ _ _ _ x F _ t0 t1 s0 s1 HF.out).mono ?_; rw [dx]; rintro e w1 ⟨rfl, b1⟩; have KS1 := ze KS b1 lsv) | (refine (zcl _ _ _ _ _ _ _ _ _ _ _ _ _ _ y F _ t0 t1 s0 s1 HF.out).mono ?_; rw [dy]; rintro e w2 ⟨rfl, b2⟩; have KS2 := ze KS1 b2 (Nat.lt_of_lt_of_le lsv b1.size)))
       go_ret
       exact ⟨rfl, zc b1 b2⟩
     | true =>
       rw [Bool.true_and]
       go_enter Tryz.func197, Tryz.ntmps197
       go_wp2_with (go_at_call 175; first | (go_at_call_of 175 x; refine (zcl _ _ _ _ _ _ _ _ _ _ _ _ _ _ x F _ t0 t1 s0 s1 HF.out).mono ?_; rw [dx]; rintro e w1 ⟨rfl, b1⟩; have KS1 := ze KS b1 lsv) | (refine (zcl _ _ _ _ _ _ _ _ _ _ _ _ _ _ y F _ t0 t1 s0 s1 HF.out).mono ?_; rw [dy]; rintro e w2 ⟨rfl, b2⟩; have KS2 := ze KS1 b2 (Nat.lt_of_lt_of_le lsv b1.size)))
       go_ret
       exact ⟨rfl, zc b1 b2⟩
 · have dx : decide (F <= x /\ x < top) = false := decide_eq_false hx
   have e : ze3 F top cyc sn x y = !decide (F <= y /\ y < top) := by unfold ze3; rw [if_neg hx]
   rw [e]
   clear hx e
   go_enter Tryz.func197, Tryz.ntmps197
   go_wp2_with (go_at_call 175; first | (go_at_call_of 175 x; refine (zcl _ _ _ _ _ _ _ _ _ _ _ _ _ _ x F _ t0 t1 s0 s1 HF.out).mono ?_; rw [dx]; rintro e w1 ⟨rfl, b1⟩; have KS1 := ze KS b1 lsv) | (refine (zcl _ _ _ _ _ _ _ _ _ _ _ _ _ _ y F _ t0 t1 s0 s1 HF.out).mono ?_; rintro e w2 ⟨rfl, b2⟩; have KS2 := ze KS1 b2 (Nat.lt_of_lt_of_le lsv b1.size)))
   go_ret
   exact ⟨zbh (by rw [Bool.decide_and, Bool.not_and]), zc b1 b2⟩
end Go.Proofs.YtmckcnmlhgpnhaaGreat
