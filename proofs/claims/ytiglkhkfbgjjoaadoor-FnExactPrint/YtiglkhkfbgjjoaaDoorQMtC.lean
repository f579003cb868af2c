/- - -/
import Derived.Test.YtiglkhkfbgjjoaaDoorQMtA
namespace Go.Proofs.YtiglkhkfbgjjoaaDoor
set_option maxRecDepth 20000
open Go.RowKit Go.PlainAid Go.Maps
set_option linter.unusedSimpArgs false
set_option linter.unusedVariables false
set_option maxHeartbeats 2000000 in
theorem zbm (a : Option Addr) (c L : Nat) (top : Int) (ak : Option Addr) (l ck : Nat) (y : Nat -> Int) (rec : Int -> List ByteArray) (T : Nat) (w : World) (hk : SlF T w (.slice ak l ck) l l (fun i => .int .i64 (y i))) (hT : T <= w.heap.size) (hl : l <= 1048576) (hs : smN rec y l <= 100000)
 (hr : ∀ (V : World) (m : Nat), m < l -> Below w.heap.size w V -> Calls Tryd.prog 36 #[.agg #[.slice a L c, .int .i64 top], .int .i64 (y m)] V (zc V (rec (y m)))) :
 Calls Tryd.prog 118 #[.agg #[.slice a L c, .int .i64 top], .slice ak l ck] w (zc w (cmN rec y l)) := by
 have hl' : (l : Int) <= 1048576 := by omega
 have HK : Hid (SlF T w (.slice ak l ck) l l (fun i => .int .i64 (y i))) := hk
 have HLE : Hid (∀ m, m < l -> (cmN rec y m).length <= 100000 /\ (rec (y m)).length <= 100000) := fun m hm => by
  have h1 := (zd rec y m).1
  have h3 := smU rec y m (l - m)
  rw [show m + (l - m) = l by omega] at h3
  have h4 := smA rec y hm
  exact ⟨by omega, by omega⟩
 obtain ⟨W0, hW0⟩ : ∃ V, V = w.alloc (.cells #[.slice a L c, .int .i64 top] 41) := ⟨_, rfl⟩
 have z0 : W0.heap.size = w.heap.size + 1 := by rw [hW0]; simp
 have B0 : Hid (Below w.heap.size w W0) := by rw [hW0]; exact (Below.refl _ _).alloc (Nat.le_refl _) _
 have T0 : Hid (∀ z, W0.cell? ⟨w.heap.size, z, none⟩ = (#[.slice a L c, .int .i64 top] : Array Value)[z]?) := fun z => by rw [hW0]; simp [go_sem]
 have HR : Hid (∀ (V : World) (m : Nat), m < l -> Below W0.heap.size W0 V -> Calls Tryd.prog 36 #[.agg #[.slice a L c, .int .i64 top], .int .i64 (y m)] V (zc V (rec (y m)))) := fun V m hm hV => hr V m hm (B0.out.trans (hV.mono (by omega)))
 have BK : Hid (∀ V, Below W0.heap.size W0 V -> Below w.heap.size w V) := fun V hV => B0.out.trans (hV.mono (by omega))
 have S0 : Hid (SR W0.heap.size (W0.alloc (.cells #[] 9)) (.slice (some ⟨W0.heap.size, 0, none⟩) 0 0) []) := SR.new1 rfl
 rw [z0] at S0
 clear hk hr hs
 go_enter Tryd.func118, Tryd.ntmps118
 go_wp2
 rw [<- hW0]
 clear hW0
 go_loopw [5, 6] (fun v q wr => ∃ (m : Nat), m <= l /\ q = .int .i64 m /\ Hid (SR W0.heap.size wr v (cmN rec y m)) /\ Hid (Below W0.heap.size W0 wr)) (fun _ q _ => l - (intOf q).toNat)
 case atStart => exact ⟨0, Nat.zero_le _, rfl, by rw [z0]; exact S0, (Below.refl _ _).alloc (Nat.le_refl _) _⟩
 case round =>
  obtain ⟨m, hm, rfl, S5, HB⟩ := hrel
  have R5 := rS S5.out
  clear S0
  by_cases hlt : m < l
  rotate_left
  · have hge : ¬ (m : Int) < (l : Int) := by omega
    obtain rfl : m = l := by omega
    go_wp2
    go_ret
    exact ⟨_, rfl, S5.out.mono (by omega), BK.out _ HB.out⟩
  have hlt' : (m : Int) < (l : Int) := by omega
  obtain ⟨n1, n2⟩ := HLE.out m hlt
  obtain ⟨bk, ok, ck2, hv, tk1, lk, hkk⟩ := HK.out.parts (k := 0) (by omega)
  simp only [Value.slice.injEq] at hv
  obtain ⟨rfl, _, rfl⟩ := hv
  have yk := hkk m hlt
  have KPH : Hid (∀ V, Below W0.heap.size W0 V -> SQT W0 w.heap.size #[.slice a L c, .int .i64 top] bk (ok + m) (y m) V) := fun V hV => ⟨hV, fun z => (hV.cell (p := ⟨w.heap.size, z, none⟩) (by dsimp only; omega)).trans (T0.out z), ((BK.out V hV).cell (p := ⟨bk, ok + m, none⟩) (by dsimp only; omega)).trans yk⟩
  clear hkk yk HLE HK T0
  by_cases h0 : m = 0
  · have hpos : ¬ ((0 : Int) < (m : Int)) := by omega
    have HCM : Hid (cmN rec y (m + 1) = cmN rec y m ++ rec (y m)) := by show cmN rec y (m + 1) = _; simp [cmN, h0]
    clear h0
    go_wp2_with fail
    have KP := KPH.out
    clear KPH
    refine wp_region_held_drew (by kernel_rfl) (KP _ HB.out.drew) (fun hHeld => ?_); obtain ⟨w1, h1, b1⟩ := dR wr; rw [<- h1] at hHeld ⊢; clear h1
    replace R5 := rB R5 b1; replace S5 := sB S5 b1
    clear b1
    refine tkm 0 19 (u5) hHeld rfl ?_; try simp only [Act.put, pa, pz, ps]
    have R19 := R5; clear R5
    have S19 := S5; clear S5
    refine tkm 1 20 (.agg #[.slice a L c, .int .i64 top]) hHeld rfl ?_; try simp only [Act.put, pa, pz, ps]
    refine tkm 2 21 (.slice (some ⟨bk, ok, none⟩) l ck) hHeld rfl ?_; try simp only [Act.put, pa, pz, ps]
    refine tkm 3 22 (.int .i64 (m : Int)) hHeld rfl ?_; try simp only [Act.put, pa, pz, ps]
    refine tkm 4 23 (.pointer (some ⟨bk, ok + m, none⟩)) hHeld rfl ?_; try simp only [Act.put, pa, pz, ps]
    refine tkm 5 24 (.int .i64 (y m)) hHeld rfl ?_; try simp only [Act.put, pa, pz, ps]
    refine rdy [6] (arc 25 rfl (fun K hK => ?_) AllReadyH.nil)
    go_simp; go_at_call 36; refine (HR.out w1 m hlt hHeld.1).mono ?_; rintro e w2 ⟨v25, rfl, s25, b2⟩; have B2 := bN hHeld.1 b2; have R25 := rS s25
    replace R19 := rB R19 b2; replace S19 := sB S19 b2
    clear b2 s25
    clear hHeld; refine hK.out _ _ (KP _ B2.out) (fun hHeld => ?_); clear hK K; try simp only [Act.put, pa, pz, ps]
    refine rdy [7] (arc 26 rfl (fun K hK => ?_) AllReadyH.nil)
    rw [if_pos (by kernel_rfl)]; refine zg (by rfl) W0.heap.size W0 _ _ (by rfl) S19.out hHeld.1 _ _ (by rfl) R25.out (by (try simp only [la, lc, ln]); omega) (by (try simp only [la, lc, ln]); omega) hHeld.1.size ?_
    intro v26 w3 s26 b3 hg; have B3 := hI b3; have S26 := hI s26; have R26 := rS s26
    clear R19
    clear R25
    clear S19 s26 b3 hg
    clear hHeld; refine hK.out _ _ (KP _ B3.out) (fun hHeld => ?_); clear hK K; try simp only [Act.put, pa, pz, ps]
    refine tkm 8 5 (v26) hHeld rfl ?_; try simp only [Act.put, pa, pz, ps]
    have R5 := R26; clear R26
    have S5 := S26; clear S26
    refine wpAnyH_done (by kernel_rfl) ?_ _
    go_wp2
    go_roundw
    case rel => exact ⟨m + 1, by omega, by go_num, by rw [HCM.out]; exact S5.out, B3⟩
    case measure => simp [intOf]; omega
  · have hpos : ¬ ((m : Int) <= 0) := by omega
    have hpos' : (0 : Int) < (m : Int) := by omega
    have HCM : Hid (cmN rec y (m + 1) = (cmN rec y m ++ [⟨#[44]⟩]) ++ rec (y m)) := by show cmN rec y (m + 1) = _; simp [cmN, h0]
    have RL : Hid (RdF (wr.alloc (.cells #[.string ⟨#[44]⟩] 9)) (.slice (some ⟨wr.heap.size, 0, none⟩) 1 1) [⟨#[44]⟩]) := RdF.new _ _ rfl rfl
    have SL' : Hid (SR W0.heap.size (wr.alloc (.cells #[.string ⟨#[44]⟩] 9)) u5 (cmN rec y m)) := S5.out.alloc _
    have BL : Hid (Below W0.heap.size W0 (wr.alloc (.cells #[.string ⟨#[44]⟩] 9))) := HB.out.alloc HB.out.size _
    clear S5 R5
    go_wp2_with (at_builtin; refine za5 rfl _ _ rfl W0.heap.size W0 u5 (cmN rec y m) rfl SL'.out BL.out _ [⟨#[44]⟩] rfl RL.out.rd (by omega) (by decide) BL.out.size ?_)
    intro vc wc s5 b5
    have S5 : Hid (SR W0.heap.size wc vc (cmN rec y m ++ [⟨#[44]⟩])) := by rw [z0] at *; exact s5
    have BC : Hid (Below W0.heap.size W0 wc) := by rw [z0] at *; exact b5
    have R5 := rS S5.out
    clear s5 b5 RL SL' BL HB
    go_wp2_with fail
    have KP := KPH.out
    clear KPH
    refine wp_region_held_drew (by kernel_rfl) (KP _ BC.out.drew) (fun hHeld => ?_); obtain ⟨w4, h4, b4⟩ := dR wc; rw [<- h4] at hHeld ⊢; clear h4
    replace R5 := rB R5 b4; replace S5 := sB S5 b4
    clear b4
    refine tkm 0 19 (vc) hHeld rfl ?_; try simp only [Act.put, pa, pz, ps]
    have R19 := R5; clear R5
    have S19 := S5; clear S5
    refine tkm 1 20 (.agg #[.slice a L c, .int .i64 top]) hHeld rfl ?_; try simp only [Act.put, pa, pz, ps]
    refine tkm 2 21 (.slice (some ⟨bk, ok, none⟩) l ck) hHeld rfl ?_; try simp only [Act.put, pa, pz, ps]
    refine tkm 3 22 (.int .i64 (m : Int)) hHeld rfl ?_; try simp only [Act.put, pa, pz, ps]
    refine tkm 4 23 (.pointer (some ⟨bk, ok + m, none⟩)) hHeld rfl ?_; try simp only [Act.put, pa, pz, ps]
    refine tkm 5 24 (.int .i64 (y m)) hHeld rfl ?_; try simp only [Act.put, pa, pz, ps]
    refine rdy [6] (arc 25 rfl (fun K hK => ?_) AllReadyH.nil)
    go_simp; go_at_call 36; refine (HR.out w4 m hlt hHeld.1).mono ?_; rintro e w5 ⟨v25, rfl, s25, b5⟩; have B5 := bN hHeld.1 b5; have R25 := rS s25
    replace R19 := rB R19 b5; replace S19 := sB S19 b5
    clear b5 s25
    clear hHeld; refine hK.out _ _ (KP _ B5.out) (fun hHeld => ?_); clear hK K; try simp only [Act.put, pa, pz, ps]
    refine rdy [7] (arc 26 rfl (fun K hK => ?_) AllReadyH.nil)
    rw [if_pos (by kernel_rfl)]; refine zg (by rfl) W0.heap.size W0 _ _ (by rfl) S19.out hHeld.1 _ _ (by rfl) R25.out (by (try simp only [la, lc, ln]); omega) (by (try simp only [la, lc, ln]); omega) hHeld.1.size ?_
    intro v26 w6 s26 b6 hg; have B6 := hI b6; have S26 := hI s26; have R26 := rS s26
    clear R19
    clear R25
    clear S19 s26 b6 hg
    clear hHeld; refine hK.out _ _ (KP _ B6.out) (fun hHeld => ?_); clear hK K; try simp only [Act.put, pa, pz, ps]
    refine tkm 8 5 (v26) hHeld rfl ?_; try simp only [Act.put, pa, pz, ps]
    have R5 := R26; clear R26
    have S5 := S26; clear S26
    refine wpAnyH_done (by kernel_rfl) ?_ _
    go_wp2
    go_roundw
    case rel => exact ⟨m + 1, by omega, by go_num, by rw [HCM.out]; exact S5.out, B6⟩
    case measure => simp [intOf]; omega
end Go.Proofs.YtiglkhkfbgjjoaaDoor
