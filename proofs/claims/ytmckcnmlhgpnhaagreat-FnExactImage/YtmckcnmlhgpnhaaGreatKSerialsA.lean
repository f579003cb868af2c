/- The model's l2CoOk. -/
import Derived.Test.YtmckcnmlhgpnhaaGreatProg
import Derived.Test.YtmckcnmlhgpnhaaGreatKReadsB
import Derived.Test.YtmckcnmlhgpnhaaGreatKChainA
import Derived.Maps.AppendAt
namespace Go.Proofs.YtmckcnmlhgpnhaaGreat
set_option maxRecDepth 20000
open Go.RowKit
set_option linter.unusedSimpArgs false
set_option linter.unusedVariables false

theorem l2Word_zf (aw : Option Addr) (cw : Nat) (ws : List Int) (semi toh top : Int) (cyc : Bool) (scan old copied serial : Int) (ar : Option Addr) (cr : Nat) (rs : List (Int × Int)) (x y : Int) (z : Int → Int) (p : Nat) (w : World) (hx : x = p) (hy : 1 ≤ y ∧ y ≤ 4) (hz : ∀ i : Nat, wrap64 (wordAt ws (p + i)) = z i) (hs : Sl w (.slice aw ws.length cw) ws) (hn : ws.length ≤ 1048576) (h : p + 4 < ws.length) :
    Calls Tryz.prog 126 #[.agg #[.slice aw ws.length cw, .int .i64 semi, .int .i64 toh, .int .i64 top, .bool cyc, .int .i64 scan, .int .i64 old, .int .i64 copied, .int .i64 serial, .slice ar rs.length cr], .int .i64 x, .int .i64 y] w fun e w' => e = .returned (.int .i64 (z y)) ∧ Below w.heap.size w w' := by
  obtain ⟨i, rfl⟩ := Int.eq_ofNat_of_zero_le (a := y) (by omega)
  exact l2Word_is aw cw ws semi toh top cyc scan old copied serial ar cr rs x i (z i) p i w hx rfl (hz i) hs hn (by omega)

set_option maxHeartbeats 20000000 in
theorem l2CoOk_first (aw : Option Addr) (cw : Nat) (ws : List Int) (semi toh top : Int) (cyc : Bool) (scan old copied serial : Int) (ar : Option Addr) (cr : Nat) (rs : List (Int × Int)) (x : Int) (z : Int → Int) (p : Nat) (w : World) (hx : x = p) (hs : Sl w (.slice aw ws.length cw) ws) (hn : ws.length ≤ 1048576) (h : p + 4 < ws.length) (hz : ∀ i : Nat, wrap64 (wordAt ws (p + i)) = z i)
    (hf : (inB (z 1) 0 4 && inB (z 2) 0 60 && inB (z 3) 0 (z 2) && inB (z 4) 0 4095) = false) :
    Calls Tryz.prog 127 #[.agg #[.slice aw ws.length cw, .int .i64 semi, .int .i64 toh, .int .i64 top, .bool cyc, .int .i64 scan, .int .i64 old, .int .i64 copied, .int .i64 serial, .slice ar rs.length cr], .int .i64 x] w fun e w' => e = .returned (.bool false) ∧ Below w.heap.size w w' := by
  have HX : Hid (x = (p : Int)) := hx
  have H1 : Hid (∀ i : Nat, wrap64 (wordAt ws (p + i)) = z i) := hz
  have HS : ∀ W, Below (w.alloc (.cells #[.slice aw ws.length cw, .int .i64 semi, .int .i64 toh, .int .i64 top, .bool cyc, .int .i64 scan, .int .i64 old, .int .i64 copied, .int .i64 serial, .slice ar rs.length cr] 30)).heap.size (w.alloc (.cells #[.slice aw ws.length cw, .int .i64 semi, .int .i64 toh, .int .i64 top, .bool cyc, .int .i64 scan, .int .i64 old, .int .i64 copied, .int .i64 serial, .slice ar rs.length cr] 30)) W → Sl W (.slice aw ws.length cw) ws := fun W hW => (sl_alloc hs _).below hW
  clear hx hz
  go_enter Tryz.func127, Tryz.ntmps127
  go_upto_region 1 with fail
  go_cut [5, 6, 7, 8] from 12 to 23 (fun s5 s6 s7 s8 wc => s5 = .int .i64 (z 1) ∧ s6 = .int .i64 (z 2) ∧ s7 = .int .i64 (z 3) ∧ s8 = .int .i64 (z 4) ∧ Below (w.alloc (.cells #[.slice aw ws.length cw, .int .i64 semi, .int .i64 toh, .int .i64 top, .bool cyc, .int .i64 scan, .int .i64 old, .int .i64 copied, .int .i64 serial, .slice ar rs.length cr] 30)).heap.size (w.alloc (.cells #[.slice aw ws.length cw, .int .i64 semi, .int .i64 toh, .int .i64 top, .bool cyc, .int .i64 scan, .int .i64 old, .int .i64 copied, .int .i64 serial, .slice ar rs.length cr] 30)) wc)
  case first =>
    go_region_held3 (fun w' => Below (w.alloc (.cells #[.slice aw ws.length cw, .int .i64 semi, .int .i64 toh, .int .i64 top, .bool cyc, .int .i64 scan, .int .i64 old, .int .i64 copied, .int .i64 serial, .slice ar rs.length cr] 30)).heap.size (w.alloc (.cells #[.slice aw ws.length cw, .int .i64 semi, .int .i64 toh, .int .i64 top, .bool cyc, .int .i64 scan, .int .i64 old, .int .i64 copied, .int .i64 serial, .slice ar rs.length cr] 30)) w' ∧ w'.cell? ⟨w.heap.size, 0, none⟩ = some (.slice aw ws.length cw) ∧ w'.cell? ⟨w.heap.size, 1, none⟩ = some (.int .i64 semi) ∧ w'.cell? ⟨w.heap.size, 2, none⟩ = some (.int .i64 toh) ∧ w'.cell? ⟨w.heap.size, 3, none⟩ = some (.int .i64 top) ∧ w'.cell? ⟨w.heap.size, 4, none⟩ = some (.bool cyc) ∧ w'.cell? ⟨w.heap.size, 5, none⟩ = some (.int .i64 scan) ∧ w'.cell? ⟨w.heap.size, 6, none⟩ = some (.int .i64 old) ∧ w'.cell? ⟨w.heap.size, 7, none⟩ = some (.int .i64 copied) ∧ w'.cell? ⟨w.heap.size, 8, none⟩ = some (.int .i64 serial) ∧ w'.cell? ⟨w.heap.size, 9, none⟩ = some (.slice ar rs.length cr)) (first | exact ⟨hB, box_cells hB⟩ | (refine ⟨(by first | exact Below.refl _ _ | exact (Below.refl _ _).drew | exact Below.drew (by assumption) | assumption), ?_⟩; go_keep) | go_keep) (first | (go_at_call 126; refine (l2Word_zf _ _ _ _ _ _ _ _ _ _ _ _ _ _ _ _ z p _ HX.out (by decide) H1.out (HS _ (by first | exact Below.refl _ _ | exact (Below.refl _ _).drew | exact Below.drew (by assumption) | assumption)) hn h).mono ?_; rintro e w' ⟨rfl, hb⟩; have hB := below_next (w := (w.alloc (.cells #[.slice aw ws.length cw, .int .i64 semi, .int .i64 toh, .int .i64 top, .bool cyc, .int .i64 scan, .int .i64 old, .int .i64 copied, .int .i64 serial, .slice ar rs.length cr] 30))) (by first | exact Below.refl _ _ | exact (Below.refl _ _).drew | exact Below.drew (by assumption) | assumption) hb))
    all_goals (go_wp2_with fail; go_meet; exact ⟨rfl, rfl, rfl, rfl, by assumption⟩)
  case rest =>
  obtain ⟨rfl, rfl, rfl, rfl, B1⟩ := hcut
  go_wp2_with (go_at_call 104; refine (l1In_any _ _ _ _).mono ?_; rintro e w' ⟨rfl, rfl⟩)
  all_goals first
    | (go_ret; exact ⟨rfl, below_first B1⟩)
    | (exfalso; go_light; simp_all)

/-- What is asked of a coroutine's words behind its numbers: who has resumed it; the stack's rest is nothing. -/
def CoRest (ws : List Int) (p : Nat) (z2 : Int) : Prop := (rvT ws (p + 5) = 0 ∨ rvT ws (p + 5) = 6) ∧ ∀ i : Nat, i < 60 → z2 ≤ (i : Int) → wordAt ws (p + 7 + 2 * i) = 0

theorem co_tag {t : Int} (h : (t != 0) = false ∨ (t != 6) = false) : t = 0 ∨ t = 6 := by simpa using h
theorem co_tag_no {ws : List Int} {p : Nat} {z2 : Int} (h : (rvT ws (p + 5) != 0) = true ∧ (rvT ws (p + 5) != 6) = true) : false = true ↔ CoRest ws p z2 := by
  simp only [bne_iff_ne, ne_eq] at h
  exact ⟨fun g => (by simp at g), fun g => absurd g.1 (by omega)⟩
theorem co_no {ws : List Int} {p k Z : Nat} {z2 : Int} (h : (wordAt ws (p + 7 + 2 * k) != 0) = true) (hk : k < 60) (hZ : Z ≤ k) (hz : z2 = Z) : false = true ↔ CoRest ws p z2 := by
  simp only [bne_iff_ne, ne_eq] at h
  exact ⟨fun g => (by simp at g), fun g => absurd (g.2 k hk (by omega)) h⟩
theorem co_yes {ws : List Int} {p Z : Nat} {z2 : Int} (hT : rvT ws (p + 5) = 0 ∨ rvT ws (p + 5) = 6) (h : ∀ j, Z ≤ j → j < 60 → wordAt ws (p + 7 + 2 * j) = 0) (hz : z2 = Z) : true = true ↔ CoRest ws p z2 :=
  ⟨fun _ => ⟨hT, fun i hi hz' => h i (by omega) hi⟩, fun _ => rfl⟩
theorem co_step {ws : List Int} {p Z k : Nat} (h : ∀ j, Z ≤ j → j < k → wordAt ws (p + 7 + 2 * j) = 0) (h0 : wordAt ws (p + 7 + 2 * k) = 0) : ∀ j, Z ≤ j → j < k + 1 → wordAt ws (p + 7 + 2 * j) = 0 := fun j h1 h2 => by
  by_cases e : j = k
  · subst e; exact h0
  · exact h j h1 (by omega)
set_option maxHeartbeats 20000000 in
theorem l2CoOk_rest (b off : Nat) (cw : Nat) (ws : List Int) (semi toh top : Int) (cyc : Bool) (scan old copied serial : Int) (ar : Option Addr) (cr : Nat) (rs : List (Int × Int)) (x : Int) (z : Int → Int) (p : Nat) (w : World) (hx : x = p) (hs : Sl w (.slice (some ⟨b, off, none⟩) ws.length cw) ws) (hn : ws.length ≤ 1048576) (hw : Words64 ws) (h : p + 4 < ws.length) (h126 : p + 126 < ws.length) (hz : ∀ i : Nat, wrap64 (wordAt ws (p + i)) = z i)
    (f1 : inB (z 1) 0 4 = true) (f2 : inB (z 2) 0 60 = true) (f3 : inB (z 3) 0 (z 2) = true) (f4 : inB (z 4) 0 4095 = true) (Z : Nat) (hZ : z 2 = Z) (hZ1 : Z ≤ 60) (hb : b < w.heap.size) (hc : ∀ i, i < ws.length → w.cell? ⟨b, off + i, none⟩ = some (.int .u64 (wordAt ws i))) :
    Calls Tryz.prog 127 #[.agg #[.slice (some ⟨b, off, none⟩) ws.length cw, .int .i64 semi, .int .i64 toh, .int .i64 top, .bool cyc, .int .i64 scan, .int .i64 old, .int .i64 copied, .int .i64 serial, .slice ar rs.length cr], .int .i64 x] w fun e w' => ∃ q, e = .returned (.bool q) ∧ (q = true ↔ CoRest ws p (z 2)) ∧ Below w.heap.size w w' := by
  have x0 : 0 ≤ x := by omega
  have x1 : x ≤ 1048576 := by omega
  have hn' : (ws.length : Int) ≤ 1048576 := by omega
  have HX5 : Hid (x + 5 = ((p + 5 : Nat) : Int)) := by show x + 5 = _; omega
  have h5 : p + 5 + 1 < ws.length := by omega
  have HX : Hid (x = (p : Int)) := hx
  have H1 : Hid (∀ i : Nat, wrap64 (wordAt ws (p + i)) = z i) := hz
  have HZ : Hid (z 2 = (Z : Int)) := hZ
  have HS : ∀ W, Below (w.alloc (.cells #[.slice (some ⟨b, off, none⟩) ws.length cw, .int .i64 semi, .int .i64 toh, .int .i64 top, .bool cyc, .int .i64 scan, .int .i64 old, .int .i64 copied, .int .i64 serial, .slice ar rs.length cr] 30)).heap.size (w.alloc (.cells #[.slice (some ⟨b, off, none⟩) ws.length cw, .int .i64 semi, .int .i64 toh, .int .i64 top, .bool cyc, .int .i64 scan, .int .i64 old, .int .i64 copied, .int .i64 serial, .slice ar rs.length cr] 30)) W → Sl W (.slice (some ⟨b, off, none⟩) ws.length cw) ws := fun W hW => (sl_alloc hs _).below hW
  clear hx hz hZ
  go_enter Tryz.func127, Tryz.ntmps127
  go_upto_region 1 with fail
  go_cut [5, 6, 7, 8] from 12 to 23 (fun s5 s6 s7 s8 wc => s5 = .int .i64 (z 1) ∧ s6 = .int .i64 (z 2) ∧ s7 = .int .i64 (z 3) ∧ s8 = .int .i64 (z 4) ∧ Below (w.alloc (.cells #[.slice (some ⟨b, off, none⟩) ws.length cw, .int .i64 semi, .int .i64 toh, .int .i64 top, .bool cyc, .int .i64 scan, .int .i64 old, .int .i64 copied, .int .i64 serial, .slice ar rs.length cr] 30)).heap.size (w.alloc (.cells #[.slice (some ⟨b, off, none⟩) ws.length cw, .int .i64 semi, .int .i64 toh, .int .i64 top, .bool cyc, .int .i64 scan, .int .i64 old, .int .i64 copied, .int .i64 serial, .slice ar rs.length cr] 30)) wc)
  case first =>
    go_region_held3 (fun w' => Below (w.alloc (.cells #[.slice (some ⟨b, off, none⟩) ws.length cw, .int .i64 semi, .int .i64 toh, .int .i64 top, .bool cyc, .int .i64 scan, .int .i64 old, .int .i64 copied, .int .i64 serial, .slice ar rs.length cr] 30)).heap.size (w.alloc (.cells #[.slice (some ⟨b, off, none⟩) ws.length cw, .int .i64 semi, .int .i64 toh, .int .i64 top, .bool cyc, .int .i64 scan, .int .i64 old, .int .i64 copied, .int .i64 serial, .slice ar rs.length cr] 30)) w' ∧ w'.cell? ⟨w.heap.size, 0, none⟩ = some (.slice (some ⟨b, off, none⟩) ws.length cw) ∧ w'.cell? ⟨w.heap.size, 1, none⟩ = some (.int .i64 semi) ∧ w'.cell? ⟨w.heap.size, 2, none⟩ = some (.int .i64 toh) ∧ w'.cell? ⟨w.heap.size, 3, none⟩ = some (.int .i64 top) ∧ w'.cell? ⟨w.heap.size, 4, none⟩ = some (.bool cyc) ∧ w'.cell? ⟨w.heap.size, 5, none⟩ = some (.int .i64 scan) ∧ w'.cell? ⟨w.heap.size, 6, none⟩ = some (.int .i64 old) ∧ w'.cell? ⟨w.heap.size, 7, none⟩ = some (.int .i64 copied) ∧ w'.cell? ⟨w.heap.size, 8, none⟩ = some (.int .i64 serial) ∧ w'.cell? ⟨w.heap.size, 9, none⟩ = some (.slice ar rs.length cr)) (first | exact ⟨hB, box_cells hB⟩ | (refine ⟨(by first | exact Below.refl _ _ | exact (Below.refl _ _).drew | exact Below.drew (by assumption) | assumption), ?_⟩; go_keep) | go_keep) (first | (go_at_call 126; refine (l2Word_zf _ _ _ _ _ _ _ _ _ _ _ _ _ _ _ _ z p _ HX.out (by decide) H1.out (HS _ (by first | exact Below.refl _ _ | exact (Below.refl _ _).drew | exact Below.drew (by assumption) | assumption)) hn h).mono ?_; rintro e w' ⟨rfl, hb⟩; have hB := below_next (w := (w.alloc (.cells #[.slice (some ⟨b, off, none⟩) ws.length cw, .int .i64 semi, .int .i64 toh, .int .i64 top, .bool cyc, .int .i64 scan, .int .i64 old, .int .i64 copied, .int .i64 serial, .slice ar rs.length cr] 30))) (by first | exact Below.refl _ _ | exact (Below.refl _ _).drew | exact Below.drew (by assumption) | assumption) hb))
    all_goals (go_wp2_with fail; go_meet; exact ⟨rfl, rfl, rfl, rfl, by assumption⟩)
  case rest =>
  obtain ⟨rfl, rfl, rfl, rfl, B1⟩ := hcut
  obtain ⟨k0, k1, k2, k3, k4, k5, k6, k7, k8, k9⟩ := box_cells B1
  go_wp2_with (first | (go_at_call 104; refine (l1In_any _ _ _ _).mono ?_; rintro e w' ⟨rfl, rfl⟩) | (go_at_call 45; refine (l1Read_at _ ws _ (p + 5) _ HX5.out (HS _ B1) hn hw h5).mono ?_; rintro e w2 ⟨rfl, b2⟩; have B2 := below_next B1 b2; clear b2))
  · have hT : rvT ws (p + 5) = 0 ∨ rvT ws (p + 5) = 6 := .inl (by assumption)
    have BA := fun o => B2.alloc B2.size o
    clear k0 k1 k2 k3 k4 k5 k6 k7 k8 k9 B1 HS hs
    go_loopw [11] (fun i wr => ∃ k : Nat, Z ≤ k ∧ k ≤ 60 ∧ i = .int .i64 k ∧ (∀ j, Z ≤ j → j < k → wordAt ws (p + 7 + 2 * j) = 0) ∧ Below (w.alloc (.cells #[.slice (some ⟨b, off, none⟩) ws.length cw, .int .i64 semi, .int .i64 toh, .int .i64 top, .bool cyc, .int .i64 scan, .int .i64 old, .int .i64 copied, .int .i64 serial, .slice ar rs.length cr] 30)).heap.size (w.alloc (.cells #[.slice (some ⟨b, off, none⟩) ws.length cw, .int .i64 semi, .int .i64 toh, .int .i64 top, .bool cyc, .int .i64 scan, .int .i64 old, .int .i64 copied, .int .i64 serial, .slice ar rs.length cr] 30)) wr) (fun i _ => 60 - (intOf i).toNat)
    case atStart => exact ⟨Z, Nat.le_refl _, hZ1, by rw [HZ.out], fun j h1 h2 => absurd h2 (by omega), BA _⟩
    case round =>
      obtain ⟨k, hk0, hk, rfl, hall, BR⟩ := hrel
      clear BA B2
      by_cases hlt : k < 60
      · have hk' : (k : Int) < 60 := by omega
        obtain ⟨k0, k1, k2, k3, k4, k5, k6, k7, k8, k9⟩ := box_cells BR
        have q : wr.cell? ⟨b, off + (p + 7 + 2 * k), none⟩ = some (.int .u64 (wordAt ws (p + 7 + 2 * k))) := by
          rw [(below_first BR).cell (p := ⟨b, off + (p + 7 + 2 * k), none⟩) hb]; exact hc _ (by omega)
        have hi0 : 0 ≤ x + 7 + 2 * (k : Int) := by omega
        have hi1 : x + 7 + 2 * (k : Int) < (ws.length : Int) := by have := HX.out; omega
        have hi2 : (x + 7 + 2 * (k : Int)).toNat = p + 7 + 2 * k := by have := HX.out; omega
        clear hc
        go_wp2
        · go_ret
          exact ⟨_, rfl, co_no (by assumption) hlt hk0 HZ.out, below_first BR⟩
        · have hz0 : wordAt ws (p + 7 + 2 * k) = 0 := by simpa using ‹(wordAt ws (p + 7 + 2 * k) != 0) = false›
          go_roundw
          case rel => exact ⟨k + 1, by omega, by omega, by go_num, co_step hall hz0, BR⟩
          case measure => simp [intOf]; omega
      · obtain rfl : k = 60 := by omega
        go_wp2
        go_ret
        exact ⟨_, rfl, co_yes hT hall HZ.out, below_first BR⟩
  · go_ret
    have B3 := B2.alloc (Nat.le_trans (by simp) B2.size) (.cells #[.int .i64 (rvT ws (p + 5)), .int .i64 (rvN ws (p + 5))] 48)
    exact ⟨_, rfl, co_tag_no (by assumption), below_first B3⟩
  · have hT : rvT ws (p + 5) = 0 ∨ rvT ws (p + 5) = 6 := co_tag (by assumption)
    have BA := fun o => B2.alloc B2.size o
    clear k0 k1 k2 k3 k4 k5 k6 k7 k8 k9 B1 HS hs
    go_loopw [11] (fun i wr => ∃ k : Nat, Z ≤ k ∧ k ≤ 60 ∧ i = .int .i64 k ∧ (∀ j, Z ≤ j → j < k → wordAt ws (p + 7 + 2 * j) = 0) ∧ Below (w.alloc (.cells #[.slice (some ⟨b, off, none⟩) ws.length cw, .int .i64 semi, .int .i64 toh, .int .i64 top, .bool cyc, .int .i64 scan, .int .i64 old, .int .i64 copied, .int .i64 serial, .slice ar rs.length cr] 30)).heap.size (w.alloc (.cells #[.slice (some ⟨b, off, none⟩) ws.length cw, .int .i64 semi, .int .i64 toh, .int .i64 top, .bool cyc, .int .i64 scan, .int .i64 old, .int .i64 copied, .int .i64 serial, .slice ar rs.length cr] 30)) wr) (fun i _ => 60 - (intOf i).toNat)
    case atStart => exact ⟨Z, Nat.le_refl _, hZ1, by rw [HZ.out], fun j h1 h2 => absurd h2 (by omega), BA _⟩
    case round =>
      obtain ⟨k, hk0, hk, rfl, hall, BR⟩ := hrel
      clear BA B2
      by_cases hlt : k < 60
      · have hk' : (k : Int) < 60 := by omega
        obtain ⟨k0, k1, k2, k3, k4, k5, k6, k7, k8, k9⟩ := box_cells BR
        have q : wr.cell? ⟨b, off + (p + 7 + 2 * k), none⟩ = some (.int .u64 (wordAt ws (p + 7 + 2 * k))) := by
          rw [(below_first BR).cell (p := ⟨b, off + (p + 7 + 2 * k), none⟩) hb]; exact hc _ (by omega)
        have hi0 : 0 ≤ x + 7 + 2 * (k : Int) := by omega
        have hi1 : x + 7 + 2 * (k : Int) < (ws.length : Int) := by have := HX.out; omega
        have hi2 : (x + 7 + 2 * (k : Int)).toNat = p + 7 + 2 * k := by have := HX.out; omega
        clear hc
        go_wp2
        · go_ret
          exact ⟨_, rfl, co_no (by assumption) hlt hk0 HZ.out, below_first BR⟩
        · have hz0 : wordAt ws (p + 7 + 2 * k) = 0 := by simpa using ‹(wordAt ws (p + 7 + 2 * k) != 0) = false›
          go_roundw
          case rel => exact ⟨k + 1, by omega, by omega, by go_num, co_step hall hz0, BR⟩
          case measure => simp [intOf]; omega
      · obtain rfl : k = 60 := by omega
        go_wp2
        go_ret
        exact ⟨_, rfl, co_yes hT hall HZ.out, below_first BR⟩

/-- A coroutine's words. -/
def CoOk (ws : List Int) (p : Nat) : Prop := wordAt ws (p + 1) ≤ 4 ∧ wordAt ws (p + 2) ≤ 60 ∧ wordAt ws (p + 3) ≤ wordAt ws (p + 2) ∧ wordAt ws (p + 4) ≤ 4095 ∧ CoRest ws p (wordAt ws (p + 2))
theorem l2CoOk_at (aw : Option Addr) (cw : Nat) (ws : List Int) (semi toh top : Int) (cyc : Bool) (scan old copied serial : Int) (ar : Option Addr) (cr : Nat) (rs : List (Int × Int)) (x : Int) (p : Nat) (w : World) (hx : x = p) (hs : Sl w (.slice aw ws.length cw) ws) (hn : ws.length ≤ 1048576) (hw : Words64 ws) (h : p + 126 < ws.length) :
    Calls Tryz.prog 127 #[.agg #[.slice aw ws.length cw, .int .i64 semi, .int .i64 toh, .int .i64 top, .bool cyc, .int .i64 scan, .int .i64 old, .int .i64 copied, .int .i64 serial, .slice ar rs.length cr], .int .i64 x] w fun e w' => ∃ q, e = .returned (.bool q) ∧ (q = true ↔ CoOk ws p) ∧ Below w.heap.size w w' := by
  have hz : ∀ i : Nat, wrap64 (wordAt ws (p + i)) = (fun j : Int => wrap64 (wordAt ws (p + j.toNat))) i := fun i => by simp
  have w1 := word_in hw (p + 1)
  have w2 := word_in hw (p + 2)
  have w3 := word_in hw (p + 3)
  have w4 := word_in hw (p + 4)
  have i1 : inB (wrap64 (wordAt ws (p + 1))) 0 4 = decide (wordAt ws (p + 1) ≤ 4) := word_in_small 4 w1.1 w1.2 (by omega) (by omega)
  have i2 : inB (wrap64 (wordAt ws (p + 2))) 0 60 = decide (wordAt ws (p + 2) ≤ 60) := word_in_small 60 w2.1 w2.2 (by omega) (by omega)
  have i4 : inB (wrap64 (wordAt ws (p + 4))) 0 4095 = decide (wordAt ws (p + 4) ≤ 4095) := word_in_small 4095 w4.1 w4.2 (by omega) (by omega)
  by_cases hf : (inB (wrap64 (wordAt ws (p + 1))) 0 4 && inB (wrap64 (wordAt ws (p + 2))) 0 60 && inB (wrap64 (wordAt ws (p + 3))) 0 (wrap64 (wordAt ws (p + 2))) && inB (wrap64 (wordAt ws (p + 4))) 0 4095) = true
  · have hf' := hf
    simp only [Bool.and_eq_true] at hf'
    obtain ⟨⟨⟨f1, f2⟩, f3⟩, f4⟩ := hf'
    obtain ⟨b, off, rfl, hl, hc⟩ := arena_opened hs (k := p) (by omega)
    have g2 : wordAt ws (p + 2) ≤ 60 := by rw [i2] at f2; simpa using f2
    have e2 : wrap64 (wordAt ws (p + 2)) = wordAt ws (p + 2) := word_wrap_small w2.1 (by omega)
    have := l2CoOk_rest b off cw ws semi toh top cyc scan old copied serial ar cr rs x (fun j : Int => wrap64 (wordAt ws (p + j.toNat))) p w hx hs hn hw (by omega) h hz f1 f2 f3 f4 (wordAt ws (p + 2)).toNat (by show wrap64 (wordAt ws (p + 2)) = _; rw [e2]; omega) (by omega) hl (fun i hi => by
      have := hc i hi (.cells #[] 0)
      rwa [World.cell?_alloc_lt w _ ⟨b, off + i, none⟩ hl] at this)
    refine this.mono ?_
    rintro e w' ⟨q, he, hq, hb⟩
    refine ⟨q, he, hq.trans ?_, hb⟩
    show CoRest ws p (wrap64 (wordAt ws (p + 2))) ↔ _
    rw [e2]
    rw [i1] at f1
    rw [i4] at f4
    rw [e2] at f3
    have g3 : wordAt ws (p + 3) ≤ wordAt ws (p + 2) := by
      rw [word_in_small _ w3.1 w3.2 w2.1 (by omega)] at f3; simpa using f3
    exact ⟨fun g => ⟨by simpa using f1, g2, g3, by simpa using f4, g⟩, fun g => g.2.2.2.2⟩
  · rw [Bool.not_eq_true] at hf
    have := l2CoOk_first aw cw ws semi toh top cyc scan old copied serial ar cr rs x (fun j : Int => wrap64 (wordAt ws (p + j.toNat))) p w hx hs hn (by omega) hz hf
    refine this.mono ?_
    rintro e w' ⟨he, hb⟩
    refine ⟨false, he, ⟨fun g => by simp at g, fun g => ?_⟩, hb⟩
    exfalso
    obtain ⟨g1, g2, g3, g4, _⟩ := g
    have e2 : wrap64 (wordAt ws (p + 2)) = wordAt ws (p + 2) := word_wrap_small w2.1 (by omega)
    rw [i1, i2, i4, e2, word_in_small _ w3.1 w3.2 w2.1 (by omega)] at hf
    simp [g1, g2, g3, g4] at hf
end Go.Proofs.YtmckcnmlhgpnhaaGreat

/- The model's l2Serials. -/
namespace Go.Proofs.YtmckcnmlhgpnhaaGreat
set_option maxRecDepth 20000
open Go.RowKit Go.Maps
set_option linter.unusedSimpArgs false
set_option linter.unusedVariables false

/-- Does the object at k count: it stands there, and has a serial. -/
def selB (mk : Nat → Int) (ws : List Int) (k : Nat) : Bool := (mk k == 1 || mk k == 2) && !(rdN (wordAt ws k) == 0)
/-- The serials of the first k places. -/
def hadL (mk : Nat → Int) (ws : List Int) : Nat → List Int
  | 0 => []
  | k + 1 => if selB mk ws k = true then hadL mk ws k ++ [rdN (wordAt ws k)] else hadL mk ws k
theorem hadL_yes {mk : Nat → Int} {ws : List Int} {k : Nat} (h : selB mk ws k = true) : hadL mk ws (k + 1) = hadL mk ws k ++ [rdN (wordAt ws k)] := by simp [hadL, h]
theorem hadL_no {mk : Nat → Int} {ws : List Int} {k : Nat} (h : selB mk ws k = false) : hadL mk ws (k + 1) = hadL mk ws k := by simp [hadL, h]
theorem hadL_len (mk : Nat → Int) (ws : List Int) (k : Nat) : (hadL mk ws k).length ≤ k := by
  induction k with
  | zero => simp [hadL]
  | succ k ih =>
    simp only [hadL]
    split
    · simp; omega
    · omega
theorem hadL_prefix (mk : Nat → Int) (ws : List Int) {k n : Nat} (h : k ≤ n) : ∃ t, hadL mk ws n = hadL mk ws k ++ t := by
  induction n with
  | zero =>
    obtain rfl : k = 0 := by omega
    exact ⟨[], by simp⟩
  | succ n ih =>
    by_cases e : k = n + 1
    · subst e; exact ⟨[], by simp⟩
    · obtain ⟨t, ht⟩ := ih (by omega)
      simp only [hadL]
      split
      · exact ⟨t ++ [rdN (wordAt ws n)], by rw [ht]; simp⟩
      · exact ⟨t, ht⟩
theorem hadL_dup {mk : Nat → Int} {ws : List Int} {k n : Nat} (hk : k < n) (hs : selB mk ws k = true) (h : rdN (wordAt ws k) ∈ hadL mk ws k) : ¬ (hadL mk ws n).Nodup := fun g => by
  obtain ⟨t, ht⟩ := hadL_prefix mk ws (k := k + 1) (n := n) (by omega)
  rw [ht, hadL_yes hs] at g
  exact (List.nodup_append.1 (List.nodup_append.1 g).1).2.2 _ h (rdN (wordAt ws k)) (by simp) rfl

theorem own_list {B : Nat} {w : World} {v : Value} {zs : List Int} (h : w.ownsRow B 3 1 v zs.length (zs.map (Value.int .i64))) : OwnF B w.heap.size 3 w v zs.length zs.length (fun i => .int .i64 (zs.getD i 0)) := by
  obtain ⟨_, ⟨rfl, h0⟩ | ⟨g, cap, cur, rfl, hB, hg, hn, hm, hs, ht⟩⟩ := h
  · exact ⟨none, 0, by rw [h0], .inl h0⟩
  · refine ⟨_, cap, rfl, .inr ⟨g, cur.size, fun i => cur.getD i (.int .i64 0), rfl, hB, ?_, by omega, ?_, fun i hi => ?_⟩⟩
    · exact (Array.getElem?_eq_some_iff.1 hg).1
    · exact ⟨cur, hg, rfl, fun i hi => by simp [hi]⟩
    · have h1 : (cur.toList.take (zs.length * 1))[i]? = some (.int .i64 (zs.getD i 0)) := by rw [ht]; simp [hi]
      rw [List.getElem?_take_of_lt (by omega)] at h1
      have h2 : cur[i]? = some (.int .i64 (zs.getD i 0)) := by simpa using h1
      simp only [Array.getD_eq_getD_getElem?, h2, Option.getD_some]
theorem infoI : (Tryz.prog.info? 3).map (fun i => (i.zero, i.size, i.bytes)) = some (some (.int .i64 0), 1, 8) := by kernel_rfl

theorem own_below {B : Nat} {e : TypeId} {n : Nat} {w w' : World} {v : Value} {xs : List Value} (h : w.ownsRow B e 1 v n xs) (hb : Below w.heap.size w w') : w'.ownsRow B e 1 v n xs := by
  obtain ⟨h1, h | ⟨g, cap, cur, rfl, hB, hg, r⟩⟩ := h
  · exact ⟨h1, .inl h⟩
  · exact ⟨h1, .inr ⟨g, cap, cur, rfl, hB, by rw [hb.block g (Array.getElem?_eq_some_iff.1 hg).1]; exact hg, r⟩⟩
theorem mem_getD {zs : List Int} {j : Nat} (h : j < zs.length) : zs.getD j 0 ∈ zs := by
  rw [List.getD_eq_getElem?_getD, List.getElem?_eq_getElem h]; exact List.getElem_mem h
theorem not_mem_getD {zs : List Int} {x : Int} (h : ∀ i, i < zs.length → zs.getD i 0 ≠ x) : x ∉ zs := fun hx => by
  obtain ⟨i, hi, rfl⟩ := List.getElem_of_mem hx
  exact h i hi (by rw [List.getD_eq_getElem?_getD, List.getElem?_eq_getElem hi]; rfl)
theorem no_step {zs : List Int} {x : Int} {j : Nat} (h : ∀ i, i < j → zs.getD i 0 ≠ x) (hj : ¬ zs.getD j 0 = x) : ∀ i, i < j + 1 → zs.getD i 0 ≠ x := fun i hi => by
  by_cases e : i = j
  · subst e; exact hj
  · exact h i (by omega)
theorem had_step {w wr w1 : World} {o o' : Obj} {zs : List Int} {x : Int} {u v' : Value} (hB : Below (w.alloc o').heap.size (w.alloc o') wr) (hown : wr.ownsRow (w.heap.size + 1) 3 1 u zs.length (zs.map (Value.int .i64)))
    (hown' : w1.ownsRow (w.heap.size + 1) 3 1 v' (zs.length + 1) (zs.map (Value.int .i64) ++ [.int .i64 x])) (hgrow : (wr.alloc o).grownBy w1 u.ownBlock) :
    w1.ownsRow (w.heap.size + 1) 3 1 v' (zs ++ [x]).length ((zs ++ [x]).map (Value.int .i64)) ∧ Below (w.alloc o').heap.size (w.alloc o') w1 := by
  refine ⟨by simpa using hown', ?_⟩
  have h1 := hB.size
  exact (hB.alloc hB.size o).grown hgrow (by simp at h1; simp; omega) (fun j hj => by have := (hown.lt j hj).1; simp; omega)
set_option maxHeartbeats 2000000 in
theorem l2Serials_at (aw : Option Addr) (cw : Nat) (ws : List Int) (semi toh top : Int) (cyc : Bool) (scan old copied serial : Int) (ar : Option Addr) (cr : Nat) (rs : List (Int × Int)) (T bm offm cm : Nat) (mk : Nat → Int) (w : World) (hs : Sl w (.slice aw ws.length cw) ws) (hn : ws.length ≤ 1048576) (hw : Words64 ws) (hbm : bm < w.heap.size) (hmc : ∀ i, i < ws.length → w.cell? ⟨bm, offm + i, none⟩ = some (.int .i64 (mk i))) :
    Calls Tryz.prog 92 #[.agg #[.slice aw ws.length cw, .int .i64 semi, .int .i64 toh, .int .i64 top, .bool cyc, .int .i64 scan, .int .i64 old, .int .i64 copied, .int .i64 serial, .slice ar rs.length cr], .slice (some ⟨bm, offm, none⟩) ws.length cm] w fun e w' => ∃ q, e = .returned (.bool q) ∧ (q = true ↔ (hadL mk ws ws.length).Nodup) ∧ Below w.heap.size w w' := by
  have hn' : (ws.length : Int) ≤ 1048576 := by omega
  have hfs := field_serial
  have HS : ∀ W, Below (w.alloc (.cells #[.slice aw ws.length cw, .int .i64 semi, .int .i64 toh, .int .i64 top, .bool cyc, .int .i64 scan, .int .i64 old, .int .i64 copied, .int .i64 serial, .slice ar rs.length cr] 30)).heap.size (w.alloc (.cells #[.slice aw ws.length cw, .int .i64 semi, .int .i64 toh, .int .i64 top, .bool cyc, .int .i64 scan, .int .i64 old, .int .i64 copied, .int .i64 serial, .slice ar rs.length cr] 30)) W → Sl W (.slice aw ws.length cw) ws := fun W hW => (sl_alloc hs _).below hW
  obtain ⟨i0, hi, hz0, hz1, hz2⟩ := info_parts infoI
  have hst0 : ((w.alloc (.cells #[.slice aw ws.length cw, .int .i64 semi, .int .i64 toh, .int .i64 top, .bool cyc, .int .i64 scan, .int .i64 old, .int .i64 copied, .int .i64 serial, .slice ar rs.length cr] 30)).alloc (.cells #[] 3)).ownsRow (w.alloc (.cells #[.slice aw ws.length cw, .int .i64 semi, .int .i64 toh, .int .i64 top, .bool cyc, .int .i64 scan, .int .i64 old, .int .i64 copied, .int .i64 serial, .slice ar rs.length cr] 30)).heap.size 3 1 (.slice (some ⟨(w.alloc (.cells #[.slice aw ws.length cw, .int .i64 semi, .int .i64 toh, .int .i64 top, .bool cyc, .int .i64 scan, .int .i64 old, .int .i64 copied, .int .i64 serial, .slice ar rs.length cr] 30)).heap.size, 0, none⟩) 0 0) (hadL mk ws 0).length ((hadL mk ws 0).map (Value.int .i64)) := by
    refine ⟨by simp [hadL], .inr ⟨_, 0, #[], rfl, Nat.le_refl _, Go.Deep.blk_alloc_new _ _, Nat.le_refl _, Nat.zero_le _, rfl, by simp [hadL]⟩⟩
  have hB0 : Below (w.alloc (.cells #[.slice aw ws.length cw, .int .i64 semi, .int .i64 toh, .int .i64 top, .bool cyc, .int .i64 scan, .int .i64 old, .int .i64 copied, .int .i64 serial, .slice ar rs.length cr] 30)).heap.size (w.alloc (.cells #[.slice aw ws.length cw, .int .i64 semi, .int .i64 toh, .int .i64 top, .bool cyc, .int .i64 scan, .int .i64 old, .int .i64 copied, .int .i64 serial, .slice ar rs.length cr] 30)) ((w.alloc (.cells #[.slice aw ws.length cw, .int .i64 semi, .int .i64 toh, .int .i64 top, .bool cyc, .int .i64 scan, .int .i64 old, .int .i64 copied, .int .i64 serial, .slice ar rs.length cr] 30)).alloc (.cells #[] 3)) := (Below.refl _ _).alloc (Nat.le_refl _) _
  have ez : (w.alloc (.cells #[.slice aw ws.length cw, .int .i64 semi, .int .i64 toh, .int .i64 top, .bool cyc, .int .i64 scan, .int .i64 old, .int .i64 copied, .int .i64 serial, .slice ar rs.length cr] 30)).heap.size = w.heap.size + 1 := by simp
  rw [ez] at hst0
  clear ez
  go_enter Tryz.func92, Tryz.ntmps92
  go_wp2
  go_loopw [5, 6] (fun u5 u6 wr => ∃ k : Nat, k ≤ ws.length ∧ u6 = .int .i64 k ∧ wr.ownsRow (w.heap.size + 1) 3 1 u5 (hadL mk ws k).length ((hadL mk ws k).map (Value.int .i64)) ∧ (hadL mk ws k).Nodup ∧ Below (w.alloc (.cells #[.slice aw ws.length cw, .int .i64 semi, .int .i64 toh, .int .i64 top, .bool cyc, .int .i64 scan, .int .i64 old, .int .i64 copied, .int .i64 serial, .slice ar rs.length cr] 30)).heap.size (w.alloc (.cells #[.slice aw ws.length cw, .int .i64 semi, .int .i64 toh, .int .i64 top, .bool cyc, .int .i64 scan, .int .i64 old, .int .i64 copied, .int .i64 serial, .slice ar rs.length cr] 30)) wr) (fun _ u6 _ => ws.length - (intOf u6).toNat)
  case atStart => exact ⟨0, Nat.zero_le _, rfl, hst0, by simp [hadL], hB0⟩
  case round =>
    obtain ⟨k, hk, rfl, hown, hnd, hB⟩ := hrel
    clear hst0 hB0
    obtain ⟨k0, k1, k2, k3, k4, k5, k6, k7, k8, k9⟩ := box_cells hB
    have hOF := own_list hown
    obtain ⟨ah, ch, rfl⟩ := hOF.sl.head
    have hlen := hadL_len mk ws k
    by_cases hlt : k < ws.length
    · have hlt' : (k : Int) < (ws.length : Int) := by omega
      have q : wr.cell? ⟨bm, offm + k, none⟩ = some (.int .i64 (mk k)) := by
        rw [(below_first hB).cell (p := ⟨bm, offm + k, none⟩) hbm]; exact hmc k hlt
      by_cases hm : (mk k == 1 || mk k == 2) = true
      · have hm' : mk k = 1 ∨ mk k = 2 := by simpa using hm
        have hNb := rdN_bound (wordAt ws k)
        clear hOF
        rcases hm' with hmu | hmu
        all_goals
          rw [hmu] at q
          go_wp2_with fail
          refine (l2Look_at _ _ _ _ _ _ _ _ _ _ _ _ _ _ _ k _ rfl (HS _ hB) hn hw hlt).mono ?_
          rintro e w2 ⟨rfl, b2⟩
          have hB2 := below_next hB b2
          have hown2 := own_below hown b2
          have hOF2 := own_list hown2
          clear hB hown b2 k0 k1 k2 k3 k4 k5 k6 k7 k8 k9 q
          obtain ⟨k0, k1, k2, k3, k4, k5, k6, k7, k8, k9⟩ := box_cells hB2
          by_cases hz : rdN (wordAt ws k) = 0
          · have hz' : (rdN (wordAt ws k) == 0) = true := by simpa using hz
            have e := hadL_no (mk := mk) (ws := ws) (k := k) (by simp [selB, hz])
            clear hz hOF2
            go_wp2
            go_roundw
            case rel => exact ⟨k + 1, by omega, by go_num, by rw [e]; exact hown2, by rw [e]; exact hnd, hB2⟩
            case measure => simp [intOf]; omega
          · have hz' : (rdN (wordAt ws k) == 0) = false := by simpa using hz
            have hsel : selB mk ws k = true := by simp [selB, hm, hz]
            have e := hadL_yes hsel
            have hln' : ((hadL mk ws k).length : Int) ≤ 1048576 := by omega
            obtain ⟨a', c', he', hcase⟩ := hOF2
            simp only [Value.slice.injEq] at he'
            obtain ⟨rfl, _, rfl⟩ := he'
            go_wp2
            go_loopw [8] (fun u8 wq => ∃ j : Nat, j ≤ (hadL mk ws k).length ∧ u8 = .int .i64 j ∧ (∀ i, i < j → (hadL mk ws k).getD i 0 ≠ rdN (wordAt ws k)) ∧ wq = w2) (fun u8 _ => (hadL mk ws k).length - (intOf u8).toNat)
            case atStart => exact ⟨0, Nat.zero_le _, rfl, fun i hi => absurd hi (by omega), rfl⟩
            case round =>
              obtain ⟨j, hj, rfl, hall, rfl⟩ := hrel
              by_cases hjl : j < (hadL mk ws k).length
              · rcases hcase with h0 | ⟨g, M, gg, rfl, hgB, hgT, hgM, hgr, hgf⟩
                · omega
                have hjl' : (j : Int) < ((hadL mk ws k).length : Int) := by omega
                have qj : wr.cell? ⟨g, j, none⟩ = some (.int .i64 ((hadL mk ws k).getD j 0)) := by rw [hgr.cell (by omega), hgf j hjl]
                by_cases heq : (hadL mk ws k).getD j 0 = rdN (wordAt ws k)
                · have hmem : rdN (wordAt ws k) ∈ hadL mk ws k := by rw [← heq]; exact mem_getD hjl
                  have hbad := hadL_dup hlt hsel hmem
                  rw [heq] at qj
                  have HB : Hid (¬ (hadL mk ws ws.length).Nodup) := hbad
                  clear hbad heq hall
                  go_wp2
                  go_ret
                  exact ⟨_, rfl, ⟨fun g => by simp at g, fun g => absurd g HB.out⟩, below_first hB2⟩
                · have hq2 := no_step hall heq
                  obtain ⟨zj, hzj⟩ : ∃ zj, zj = (hadL mk ws k).getD j 0 := ⟨_, rfl⟩
                  rw [← hzj] at qj heq
                  have heq' : (zj == rdN (wordAt ws k)) = false := by simpa using heq
                  clear heq hzj hall
                  go_wp2
                  go_roundw
                  case rel => exact ⟨j + 1, by omega, by go_num, hq2, by trivial⟩
                  case measure => simp [intOf]; omega
              · obtain rfl : j = (hadL mk ws k).length := by omega
                have hnm : rdN (wordAt ws k) ∉ hadL mk ws k := not_mem_getD hall
                have hnd2 : (hadL mk ws (k + 1)).Nodup := by
                  rw [e, List.nodup_append]
                  exact ⟨hnd, by simp, fun a ha c hc => by simp at hc; subst hc; intro e2; subst e2; exact hnm ha⟩
                clear hall hcase hnm
                go_wp2_with (at_builtin; refine wpList_append_own _ rfl _ _ 64 rfl (w.heap.size + 1) 3 i0 (.int .i64 0) 1 8 Tryz.underlying64 hi hz0 hz1 hz2 rfl (by decide) _ (hadL mk ws k).length ((hadL mk ws k).map (Value.int .i64)) rfl (hown2.alloc _) ⟨wr.heap.size, 0, none⟩ 1 1 [.int .i64 (rdN (wordAt ws k))] rfl rfl (cell_one_new _ _ _) (ints_oneCell .i64 [rdN (wordAt ws k)]) (by unfold maxLen; omega) (by omega) (by have := hB2.size; simp at this; simp; omega) ?_)
                intro v' w3 hown3 hgrow _
                have R := had_step hB2 hown2 hown3 hgrow
                clear hown3 hgrow hown2 hB2
                go_wp2
                go_roundw
                case rel => exact ⟨k + 1, by omega, by go_num, by rw [e]; exact R.1, hnd2, R.2⟩
                case measure => simp [intOf]; omega
      · have e1 : (mk k != 1) = true := by simp only [Bool.not_eq_true, Bool.or_eq_false_iff] at hm; simpa using hm.1
        have e2 : (mk k != 2) = true := by simp only [Bool.not_eq_true, Bool.or_eq_false_iff] at hm; simpa using hm.2
        have e := hadL_no (mk := mk) (ws := ws) (k := k) (by simp [selB, hm])
        clear hOF
        go_wp2
        go_roundw
        case rel => exact ⟨k + 1, by omega, by go_num, by rw [e]; exact hown, by rw [e]; exact hnd, hB⟩
        case measure => simp [intOf]; omega
    · obtain rfl : k = ws.length := by omega
      go_wp2
      go_ret
      exact ⟨_, rfl, ⟨fun _ => hnd, fun _ => rfl⟩, below_first hB⟩
end Go.Proofs.YtmckcnmlhgpnhaaGreat
