/- - -/
import Derived.Test.YtmckcnmlhgpnhaaGreatWReadsB
import Derived.Test.YtmckcnmlhgpnhaaGreatWRowF
namespace Go.Proofs.YtmckcnmlhgpnhaaGreat
set_option maxRecDepth 20000
open Go.RowKit
set_option linter.unusedSimpArgs false
set_option linter.unusedVariables false
theorem zfm {aw : Option Addr} {cw : Nat} {ws : List Int} {smz toh top : Int} {cyc : Bool} {sn old cpz sr : Int} {ar : Option Addr} {cr : Nat} {rs : List (Int × Int)} {t m : Int} {w w' : World} (hB : Below ((w.alloc (.cells #[.slice aw ws.length cw, .int .i64 smz, .int .i64 toh, .int .i64 top, .bool cyc, .int .i64 sn, .int .i64 old, .int .i64 cpz, .int .i64 sr, .slice ar rs.length cr] 30)).alloc (.cells #[.int .i64 t, .int .i64 m] 48)).heap.size ((w.alloc (.cells #[.slice aw ws.length cw, .int .i64 smz, .int .i64 toh, .int .i64 top, .bool cyc, .int .i64 sn, .int .i64 old, .int .i64 cpz, .int .i64 sr, .slice ar rs.length cr] 30)).alloc (.cells #[.int .i64 t, .int .i64 m] 48)) w') :
 (w'.cell? ⟨w.heap.size + 1, 0, none⟩ = some (.int .i64 t) /\ w'.cell? ⟨w.heap.size + 1, 1, none⟩ = some (.int .i64 m)) /\ w'.cell? ⟨w.heap.size, 0, none⟩ = some (.slice aw ws.length cw) /\ w'.cell? ⟨w.heap.size, 1, none⟩ = some (.int .i64 smz) /\ w'.cell? ⟨w.heap.size, 2, none⟩ = some (.int .i64 toh) /\ w'.cell? ⟨w.heap.size, 3, none⟩ = some (.int .i64 top) /\ w'.cell? ⟨w.heap.size, 4, none⟩ = some (.bool cyc) /\ w'.cell? ⟨w.heap.size, 5, none⟩ = some (.int .i64 sn) /\ w'.cell? ⟨w.heap.size, 6, none⟩ = some (.int .i64 old) /\ w'.cell? ⟨w.heap.size, 7, none⟩ = some (.int .i64 cpz) /\ w'.cell? ⟨w.heap.size, 8, none⟩ = some (.int .i64 sr) /\ w'.cell? ⟨w.heap.size, 9, none⟩ = some (.slice ar rs.length cr) := by
 have h : ∀ i, w'.cell? ⟨w.heap.size, i, none⟩ = ((w.alloc (.cells #[.slice aw ws.length cw, .int .i64 smz, .int .i64 toh, .int .i64 top, .bool cyc, .int .i64 sn, .int .i64 old, .int .i64 cpz, .int .i64 sr, .slice ar rs.length cr] 30)).alloc (.cells #[.int .i64 t, .int .i64 m] 48)).cell? ⟨w.heap.size, i, none⟩ := fun i => hB.cell (p := ⟨w.heap.size, i, none⟩) (by simp; omega)
 have k : ∀ i, w'.cell? ⟨w.heap.size + 1, i, none⟩ = ((w.alloc (.cells #[.slice aw ws.length cw, .int .i64 smz, .int .i64 toh, .int .i64 top, .bool cyc, .int .i64 sn, .int .i64 old, .int .i64 cpz, .int .i64 sr, .slice ar rs.length cr] 30)).alloc (.cells #[.int .i64 t, .int .i64 m] 48)).cell? ⟨w.heap.size + 1, i, none⟩ := fun i => hB.cell (p := ⟨w.heap.size + 1, i, none⟩) (by simp)
 refine ⟨⟨?_, ?_⟩, ?_, ?_, ?_, ?_, ?_, ?_, ?_, ?_, ?_, ?_⟩ <;> first | (rw [k]; simp [go_sem]; done) | (rw [h]; simp [go_sem])
def zb4 (mu fr : Int) : Bool := (decide (mu = 1) && !decide (fr = 3)) || ((decide (mu = 2) || decide (mu = 3)) && !decide (fr = 1))
theorem zlr (aw : Option Addr) (cw : Nat) (ws : List Int) (smz toh top : Int) (cyc : Bool) (sn old cpz sr : Int) (ar : Option Addr) (cr : Nat) (rs : List (Int × Int)) (vm : Value) (t m fr : Int) (w : World) (h : isR t = false) :
 Calls Tryz.prog 96 #[.agg #[.slice aw ws.length cw, .int .i64 smz, .int .i64 toh, .int .i64 top, .bool cyc, .int .i64 sn, .int .i64 old, .int .i64 cpz, .int .i64 sr, .slice ar rs.length cr], vm, .agg #[.int .i64 t, .int .i64 m], .int .i64 fr] w fun e w' => e = .returned (.bool true) /\ Below w.heap.size w w' := by
 go_enter Tryz.func96, Tryz.ntmps96
 go_wp2_with (go_at_call 42; refine (zaq _ _ _).mono ?_; rintro e w1 ⟨rfl, hb⟩; have hB := zae hb)
 go_ret
 exact ⟨rfl, hB⟩
theorem zos (aw : Option Addr) (cw : Nat) (ws : List Int) (smz toh top : Int) (cyc : Bool) (sn old cpz sr : Int) (ar : Option Addr) (cr : Nat) (rs : List (Int × Int)) (a : Option Addr) (n c : Nat) (t m fr : Int) (w : World) (h : isR t = true) (hm : (n : Int) <= m) :
 Calls Tryz.prog 96 #[.agg #[.slice aw ws.length cw, .int .i64 smz, .int .i64 toh, .int .i64 top, .bool cyc, .int .i64 sn, .int .i64 old, .int .i64 cpz, .int .i64 sr, .slice ar rs.length cr], .slice a n c, .agg #[.int .i64 t, .int .i64 m], .int .i64 fr] w fun e w' => e = .returned (.bool false) /\ Below w.heap.size w w' := by
 go_enter Tryz.func96, Tryz.ntmps96
 go_wp2_with (go_at_call 42; refine (zaq _ _ _).mono ?_; rintro e w1 ⟨rfl, hb⟩; have hB := zae hb; obtain ⟨⟨q0, q1⟩, _⟩ := zfm hb)
 go_ret
 exact ⟨rfl, hB⟩
theorem zqz (aw : Option Addr) (cw : Nat) (ws : List Int) (smz toh top : Int) (cyc : Bool) (sn old cpz sr : Int) (ar : Option Addr) (cr : Nat) (rs : List (Int × Int)) (b off n c : Nat) (t m fr mu : Int) (P : Nat) (w : World) (h : isR t = true) (hm : m = P) (hP : P < n) (hn : n <= 1048576) (hb' : b < w.heap.size) (hcm : w.cell? ⟨b, off + P, none⟩ = some (.int .i64 mu)) (hfr : fr = 1 \/ fr = 2 \/ fr = 3) (ho : zb4 mu fr = false) :
 Calls Tryz.prog 96 #[.agg #[.slice aw ws.length cw, .int .i64 smz, .int .i64 toh, .int .i64 top, .bool cyc, .int .i64 sn, .int .i64 old, .int .i64 cpz, .int .i64 sr, .slice ar rs.length cr], .slice (some ⟨b, off, none⟩) n c, .agg #[.int .i64 t, .int .i64 m], .int .i64 fr] w fun e w' => e = .returned (.bool false) /\ Below w.heap.size w w' := by
 subst hm
 have hP' : (P : Int) < (n : Int) := by omega
 have hcm' : ∀ W, Below w.heap.size w W -> W.cell? ⟨b, off + P, none⟩ = some (.int .i64 mu) := fun W hW => by rw [hW.cell (p := ⟨b, off + P, none⟩) hb']; exact hcm
 clear hcm
 have hway : (mu = 1 /\ fr = 3) \/ (mu = 2 /\ fr = 1) \/ (mu = 3 /\ fr = 1) \/ ((mu == 1) = false /\ (mu == 2) = false /\ (mu == 3) = false) := by
  simp only [zb4, Bool.or_eq_false_iff, Bool.and_eq_false_iff, decide_eq_false_iff_not, Bool.not_eq_false', decide_eq_true_eq] at ho
  simp only [beq_eq_false_iff_ne, ne_eq]
  omega
 clear ho hfr
 rcases hway with ⟨rfl, rfl⟩ | ⟨rfl, rfl⟩ | ⟨rfl, rfl⟩ | ⟨m1, m2, m3⟩
 all_goals
  go_enter Tryz.func96, Tryz.ntmps96
  go_wp2_with (go_at_call 42; refine (zaq _ _ _).mono ?_; rintro e w1 ⟨rfl, hb⟩; have hB := zae hb; obtain ⟨⟨q0, q1⟩, _⟩ := zfm hb; have q2 := hcm' _ hB)
  go_quiet (fail)
  go_wp2
  go_ret
  exact ⟨rfl, below_drewN hB _⟩
set_option maxHeartbeats 2000000 in
theorem zot (aw : Option Addr) (cw : Nat) (ws : List Int) (smz toh top : Int) (cyc : Bool) (sn old cpz sr : Int) (ar : Option Addr) (cr : Nat) (rs : List (Int × Int)) (b off n c : Nat) (t m fr mu : Int) (P Q : Nat) (w : World) (h : isR t = true) (hm : m = P) (hP : P < n) (hn : n <= 1048576) (hb' : b < w.heap.size) (hcm : w.cell? ⟨b, off + P, none⟩ = some (.int .i64 mu)) (hfr : fr = 1 \/ fr = 2 \/ fr = 3) (ho : zb4 mu fr = true)
 (hs : Sl w (.slice aw ws.length cw) ws) (hn2 : ws.length <= 1048576) (hw : zg ws) (hPw : P < ws.length) (hQ : zi ws P = Q) (hQw : Q < ws.length) :
 Calls Tryz.prog 96 #[.agg #[.slice aw ws.length cw, .int .i64 smz, .int .i64 toh, .int .i64 top, .bool cyc, .int .i64 sn, .int .i64 old, .int .i64 cpz, .int .i64 sr, .slice ar rs.length cr], .slice (some ⟨b, off, none⟩) n c, .agg #[.int .i64 t, .int .i64 m], .int .i64 fr] w fun e w' => e = .returned (.bool (rdK (za ws Q) == za2 t)) /\ Below w.heap.size w w' := by
 have HP : Hid (m = (P : Int)) := hm
 have m0 : 0 <= m := by omega
 have m1 : m < (n : Int) := by omega
 have m2 : m.toNat = P := by omega
 have hcm' : ∀ W, Below w.heap.size w W -> W.cell? ⟨b, off + P, none⟩ = some (.int .i64 mu) := fun W hW => by rw [hW.cell (p := ⟨b, off + P, none⟩) hb']; exact hcm
 have hfk := zdp
 have HQ : Hid (zi ws P = (Q : Int)) := hQ
 have HS : ∀ W, Below ((w.alloc (.cells #[.slice aw ws.length cw, .int .i64 smz, .int .i64 toh, .int .i64 top, .bool cyc, .int .i64 sn, .int .i64 old, .int .i64 cpz, .int .i64 sr, .slice ar rs.length cr] 30)).alloc (.cells #[.int .i64 t, .int .i64 m] 48)).heap.size ((w.alloc (.cells #[.slice aw ws.length cw, .int .i64 smz, .int .i64 toh, .int .i64 top, .bool cyc, .int .i64 sn, .int .i64 old, .int .i64 cpz, .int .i64 sr, .slice ar rs.length cr] 30)).alloc (.cells #[.int .i64 t, .int .i64 m] 48)) W -> Sl W (.slice aw ws.length cw) ws := fun W hW => (zas (zas hs _) _).below hW
 have hway : (mu = 1 /\ fr = 1) \/ (mu = 1 /\ fr = 2) \/ (mu = 2 /\ fr = 2) \/ (mu = 2 /\ fr = 3) \/ (mu = 3 /\ fr = 2) \/ (mu = 3 /\ fr = 3) := by
  simp only [zb4, Bool.or_eq_true, Bool.and_eq_true, decide_eq_true_eq, Bool.not_eq_true', decide_eq_false_iff_not] at ho
  omega
 clear ho hfr hQ hcm hm
 rcases hway with ⟨rfl, rfl⟩ | ⟨rfl, rfl⟩ | ⟨rfl, rfl⟩ | ⟨rfl, rfl⟩ | ⟨rfl, rfl⟩ | ⟨rfl, rfl⟩
 all_goals
  go_enter Tryz.func96, Tryz.ntmps96
  go_wp2_with (go_at_call 42; refine (zaq _ _ _).mono ?_; rintro e w1 ⟨rfl, hb⟩; have hB1 := zae hb; obtain ⟨⟨q0, q1⟩, r0, r1, r2, r3, r4, r5, r6, r7, r8, r9⟩ := zfm hb; have q2 := hcm' _ hB1)
  go_region_held3 (fun w' => Below ((w.alloc (.cells #[.slice aw ws.length cw, .int .i64 smz, .int .i64 toh, .int .i64 top, .bool cyc, .int .i64 sn, .int .i64 old, .int .i64 cpz, .int .i64 sr, .slice ar rs.length cr] 30)).alloc (.cells #[.int .i64 t, .int .i64 m] 48)).heap.size ((w.alloc (.cells #[.slice aw ws.length cw, .int .i64 smz, .int .i64 toh, .int .i64 top, .bool cyc, .int .i64 sn, .int .i64 old, .int .i64 cpz, .int .i64 sr, .slice ar rs.length cr] 30)).alloc (.cells #[.int .i64 t, .int .i64 m] 48)) w' /\ (w'.cell? ⟨w.heap.size + 1, 0, none⟩ = some (.int .i64 t) /\ w'.cell? ⟨w.heap.size + 1, 1, none⟩ = some (.int .i64 m)) /\ w'.cell? ⟨w.heap.size, 0, none⟩ = some (.slice aw ws.length cw) /\ w'.cell? ⟨w.heap.size, 1, none⟩ = some (.int .i64 smz) /\ w'.cell? ⟨w.heap.size, 2, none⟩ = some (.int .i64 toh) /\ w'.cell? ⟨w.heap.size, 3, none⟩ = some (.int .i64 top) /\ w'.cell? ⟨w.heap.size, 4, none⟩ = some (.bool cyc) /\ w'.cell? ⟨w.heap.size, 5, none⟩ = some (.int .i64 sn) /\ w'.cell? ⟨w.heap.size, 6, none⟩ = some (.int .i64 old) /\ w'.cell? ⟨w.heap.size, 7, none⟩ = some (.int .i64 cpz) /\ w'.cell? ⟨w.heap.size, 8, none⟩ = some (.int .i64 sr) /\ w'.cell? ⟨w.heap.size, 9, none⟩ = some (.slice ar rs.length cr)) (first | exact ⟨hB, zfm hB⟩ | (refine ⟨(by first | exact Below.refl _ _ | exact (Below.refl _ _).drew | exact Below.drew (by assumption) | assumption), ?_⟩; go_keep) | go_keep) (first | (go_at_call 46; refine (zce _ _ _ _ _ _ _ _ _ _ _ _ _ _ _ P _ HP.out (HS _ (by first | exact Below.refl _ _ | exact (Below.refl _ _).drew | exact Below.drew (by assumption) | assumption)) hn2 hw hPw).mono ?_; rintro e w' ⟨rfl, hb⟩; have hB := zc (w := ((w.alloc (.cells #[.slice aw ws.length cw, .int .i64 smz, .int .i64 toh, .int .i64 top, .bool cyc, .int .i64 sn, .int .i64 old, .int .i64 cpz, .int .i64 sr, .slice ar rs.length cr] 30)).alloc (.cells #[.int .i64 t, .int .i64 m] 48))) (by first | exact Below.refl _ _ | exact (Below.refl _ _).drew | exact Below.drew (by assumption) | assumption) hb) | (go_at_call 43; refine (zbr _ _ _ _ _ _ _ _ _ _ _ _ _ _ _ Q _ HQ.out (HS _ (by first | exact Below.refl _ _ | exact (Below.refl _ _).drew | exact Below.drew (by assumption) | assumption)) hn2 hw hQw).mono ?_; rintro e w' ⟨rfl, hb⟩; have hB := zc (w := ((w.alloc (.cells #[.slice aw ws.length cw, .int .i64 smz, .int .i64 toh, .int .i64 top, .bool cyc, .int .i64 sn, .int .i64 old, .int .i64 cpz, .int .i64 sr, .slice ar rs.length cr] 30)).alloc (.cells #[.int .i64 t, .int .i64 m] 48))) (by first | exact Below.refl _ _ | exact (Below.refl _ _).drew | exact Below.drew (by assumption) | assumption) hb) | (go_at_call 97; refine (zjw _ _).mono ?_; rintro e w' ⟨rfl, rfl⟩; have hB : Below ((w.alloc (.cells #[.slice aw ws.length cw, .int .i64 smz, .int .i64 toh, .int .i64 top, .bool cyc, .int .i64 sn, .int .i64 old, .int .i64 cpz, .int .i64 sr, .slice ar rs.length cr] 30)).alloc (.cells #[.int .i64 t, .int .i64 m] 48)).heap.size ((w.alloc (.cells #[.slice aw ws.length cw, .int .i64 smz, .int .i64 toh, .int .i64 top, .bool cyc, .int .i64 sn, .int .i64 old, .int .i64 cpz, .int .i64 sr, .slice ar rs.length cr] 30)).alloc (.cells #[.int .i64 t, .int .i64 m] 48)) _ := (by first | exact Below.refl _ _ | exact (Below.refl _ _).drew | exact Below.drew (by assumption) | assumption)))
  all_goals (go_wp2; go_ret; exact ⟨rfl, zae (by assumption)⟩)
def zbz (mk : Nat -> Int) (ws : List Int) (t m fr : Int) : Prop :=
 isR t = true -> m < ws.length /\ zb4 (mk m.toNat) fr = true /\ rdK (za ws (zi ws m.toNat).toNat) = za2 t
def zha (mk : Nat -> Int) (ws : List Int) : Prop := ∀ i, i < ws.length -> mk i ≠ 0 -> 0 <= zi ws i /\ zi ws i < ws.length
theorem zb6 {mu fr : Int} (h : zb4 mu fr = true) : mu ≠ 0 := fun e => by subst e; simp [zb4] at h
theorem zet (aw : Option Addr) (cw : Nat) (ws : List Int) (smz toh top : Int) (cyc : Bool) (sn old cpz sr : Int) (ar : Option Addr) (cr : Nat) (rs : List (Int × Int)) (b off c : Nat) (mk : Nat -> Int) (t m fr : Int) (w : World) (hn : ws.length <= 1048576) (hw : zg ws) (hs : Sl w (.slice aw ws.length cw) ws) (hb' : b < w.heap.size) (hmc : ∀ i, i < ws.length -> w.cell? ⟨b, off + i, none⟩ = some (.int .i64 (mk i))) (hM : zha mk ws) (hv : isR t = true -> 0 < m) (hfr : fr = 1 \/ fr = 2 \/ fr = 3) :
 Calls Tryz.prog 96 #[.agg #[.slice aw ws.length cw, .int .i64 smz, .int .i64 toh, .int .i64 top, .bool cyc, .int .i64 sn, .int .i64 old, .int .i64 cpz, .int .i64 sr, .slice ar rs.length cr], .slice (some ⟨b, off, none⟩) ws.length c, .agg #[.int .i64 t, .int .i64 m], .int .i64 fr] w fun e w' => ∃ q, e = .returned (.bool q) /\ (q = true ↔ zbz mk ws t m fr) /\ Below w.heap.size w w' := by
 by_cases hr : isR t = true
 · by_cases hm : (ws.length : Int) <= m
   · refine (zos aw cw ws smz toh top cyc sn old cpz sr ar cr rs (some ⟨b, off, none⟩) ws.length c t m fr w hr hm).mono ?_
     rintro e w' ⟨he, hb⟩
     exact ⟨false, he, ⟨fun g => by simp at g, fun g => absurd (g hr).1 (by omega)⟩, hb⟩
   · obtain ⟨P, rfl⟩ := Int.eq_ofNat_of_zero_le (a := m) (by have := hv hr; omega)
     have hP : P < ws.length := by omega
     by_cases ho : zb4 (mk P) fr = true
     · obtain ⟨h0, h1⟩ := hM P hP (zb6 ho)
       obtain ⟨Q, hQ⟩ := Int.eq_ofNat_of_zero_le h0
       refine (zot aw cw ws smz toh top cyc sn old cpz sr ar cr rs b off ws.length c t P fr (mk P) P Q w hr rfl hP hn hb' (hmc P hP) hfr ho hs hn hw hP hQ (by omega)).mono ?_
       rintro e w' ⟨he, hb⟩
       refine ⟨_, he, ?_, hb⟩
       unfold zbz
       simp only [Int.toNat_natCast, hQ, beq_iff_eq]
       exact ⟨fun g _ => ⟨by omega, ho, g⟩, fun g => (g hr).2.2⟩
     · rw [Bool.not_eq_true] at ho
       refine (zqz aw cw ws smz toh top cyc sn old cpz sr ar cr rs b off ws.length c t P fr (mk P) P w hr rfl hP hn hb' (hmc P hP) hfr ho).mono ?_
       rintro e w' ⟨he, hb⟩
       refine ⟨false, he, ⟨fun g => by simp at g, fun g => ?_⟩, hb⟩
       have := (g hr).2.1
       simp only [Int.toNat_natCast] at this
       rw [ho] at this
       simp at this
 · rw [Bool.not_eq_true] at hr
   refine (zlr aw cw ws smz toh top cyc sn old cpz sr ar cr rs _ t m fr w hr).mono ?_
   rintro e w' ⟨he, hb⟩
   exact ⟨true, he, ⟨fun _ g => by rw [hr] at g; simp at g, fun _ => rfl⟩, hb⟩
end Go.Proofs.YtmckcnmlhgpnhaaGreat
