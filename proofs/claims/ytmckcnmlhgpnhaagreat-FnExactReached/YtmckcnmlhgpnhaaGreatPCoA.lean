/- - -/
import Derived.Test.YtmckcnmlhgpnhaaGreatPReadsB
namespace Go.Proofs.YtmckcnmlhgpnhaaGreat
set_option maxRecDepth 20000
open Go.RowKit
set_option linter.unusedSimpArgs false
set_option linter.unusedVariables false
theorem zj0 (aw : Option Addr) (cw : Nat) (ws : List Int) (smz toh top : Int) (cyc : Bool) (sn old cpz sr : Int) (ar : Option Addr) (cr : Nat) (rs : List (Int × Int)) (x y : Int) (z : Int -> Int) (p : Nat) (w : World) (hx : x = p) (hy : 1 <= y /\ y <= 4) (hz : ∀ i : Nat, wrap64 (za ws (p + i)) = z i) (hs : Sl w (.slice aw ws.length cw) ws) (hn : ws.length <= 1048576) (h : p + 4 < ws.length) :
 Calls Tryz.prog 126 #[.agg #[.slice aw ws.length cw, .int .i64 smz, .int .i64 toh, .int .i64 top, .bool cyc, .int .i64 sn, .int .i64 old, .int .i64 cpz, .int .i64 sr, .slice ar rs.length cr], .int .i64 x, .int .i64 y] w fun e w' => e = .returned (.int .i64 (z y)) /\ Below w.heap.size w w' := by
 obtain ⟨i, rfl⟩ := Int.eq_ofNat_of_zero_le (a := y) (by omega)
 exact zch aw cw ws smz toh top cyc sn old cpz sr ar cr rs x i (z i) p i w hx rfl (hz i) hs hn (by omega)
set_option maxHeartbeats 20000000 in
theorem zla (aw : Option Addr) (cw : Nat) (ws : List Int) (smz toh top : Int) (cyc : Bool) (sn old cpz sr : Int) (ar : Option Addr) (cr : Nat) (rs : List (Int × Int)) (x : Int) (z : Int -> Int) (p : Nat) (w : World) (hx : x = p) (hs : Sl w (.slice aw ws.length cw) ws) (hn : ws.length <= 1048576) (h : p + 4 < ws.length) (hz : ∀ i : Nat, wrap64 (za ws (p + i)) = z i)
 (hf : (inB (z 1) 0 4 && inB (z 2) 0 60 && inB (z 3) 0 (z 2) && inB (z 4) 0 4095) = false) :
 Calls Tryz.prog 127 #[.agg #[.slice aw ws.length cw, .int .i64 smz, .int .i64 toh, .int .i64 top, .bool cyc, .int .i64 sn, .int .i64 old, .int .i64 cpz, .int .i64 sr, .slice ar rs.length cr], .int .i64 x] w fun e w' => e = .returned (.bool false) /\ Below w.heap.size w w' := by
 have HX : Hid (x = (p : Int)) := hx
 have H1 : Hid (∀ i : Nat, wrap64 (za ws (p + i)) = z i) := hz
 have HS : ∀ W, Below (w.alloc (.cells #[.slice aw ws.length cw, .int .i64 smz, .int .i64 toh, .int .i64 top, .bool cyc, .int .i64 sn, .int .i64 old, .int .i64 cpz, .int .i64 sr, .slice ar rs.length cr] 30)).heap.size (w.alloc (.cells #[.slice aw ws.length cw, .int .i64 smz, .int .i64 toh, .int .i64 top, .bool cyc, .int .i64 sn, .int .i64 old, .int .i64 cpz, .int .i64 sr, .slice ar rs.length cr] 30)) W -> Sl W (.slice aw ws.length cw) ws := fun W hW => (zam hs _).below hW
 clear hx hz
 go_enter Tryz.func127, Tryz.ntmps127
 go_upto_region 1 with fail
 go_cut [5, 6, 7, 8] from 12 to 23 (fun s5 s6 s7 s8 wc => s5 = .int .i64 (z 1) /\ s6 = .int .i64 (z 2) /\ s7 = .int .i64 (z 3) /\ s8 = .int .i64 (z 4) /\ Below (w.alloc (.cells #[.slice aw ws.length cw, .int .i64 smz, .int .i64 toh, .int .i64 top, .bool cyc, .int .i64 sn, .int .i64 old, .int .i64 cpz, .int .i64 sr, .slice ar rs.length cr] 30)).heap.size (w.alloc (.cells #[.slice aw ws.length cw, .int .i64 smz, .int .i64 toh, .int .i64 top, .bool cyc, .int .i64 sn, .int .i64 old, .int .i64 cpz, .int .i64 sr, .slice ar rs.length cr] 30)) wc)
 case first =>
  go_region_held3 (fun w' => Below (w.alloc (.cells #[.slice aw ws.length cw, .int .i64 smz, .int .i64 toh, .int .i64 top, .bool cyc, .int .i64 sn, .int .i64 old, .int .i64 cpz, .int .i64 sr, .slice ar rs.length cr] 30)).heap.size (w.alloc (.cells #[.slice aw ws.length cw, .int .i64 smz, .int .i64 toh, .int .i64 top, .bool cyc, .int .i64 sn, .int .i64 old, .int .i64 cpz, .int .i64 sr, .slice ar rs.length cr] 30)) w' /\ w'.cell? ⟨w.heap.size, 0, none⟩ = some (.slice aw ws.length cw) /\ w'.cell? ⟨w.heap.size, 1, none⟩ = some (.int .i64 smz) /\ w'.cell? ⟨w.heap.size, 2, none⟩ = some (.int .i64 toh) /\ w'.cell? ⟨w.heap.size, 3, none⟩ = some (.int .i64 top) /\ w'.cell? ⟨w.heap.size, 4, none⟩ = some (.bool cyc) /\ w'.cell? ⟨w.heap.size, 5, none⟩ = some (.int .i64 sn) /\ w'.cell? ⟨w.heap.size, 6, none⟩ = some (.int .i64 old) /\ w'.cell? ⟨w.heap.size, 7, none⟩ = some (.int .i64 cpz) /\ w'.cell? ⟨w.heap.size, 8, none⟩ = some (.int .i64 sr) /\ w'.cell? ⟨w.heap.size, 9, none⟩ = some (.slice ar rs.length cr)) (first | exact ⟨hB, zbo hB⟩ | (refine ⟨(by first | exact Below.refl _ _ | exact (Below.refl _ _).drew | exact Below.drew (by assumption) | assumption), ?_⟩; go_keep) | go_keep) (first | (go_at_call 126; refine (zj0 _ _ _ _ _ _ _ _ _ _ _ _ _ _ _ _ z p _ HX.out (by decide) H1.out (HS _ (by first | exact Below.refl _ _ | exact (Below.refl _ _).drew | exact Below.drew (by assumption) | assumption)) hn h).mono ?_; rintro e w' ⟨rfl, hb⟩; have hB := zc (w := (w.alloc (.cells #[.slice aw ws.length cw, .int .i64 smz, .int .i64 toh, .int .i64 top, .bool cyc, .int .i64 sn, .int .i64 old, .int .i64 cpz, .int .i64 sr, .slice ar rs.length cr] 30))) (by first | exact Below.refl _ _ | exact (Below.refl _ _).drew | exact Below.drew (by assumption) | assumption) hb))
  all_goals (go_wp2_with fail; go_meet; exact ⟨rfl, rfl, rfl, rfl, by assumption⟩)
 case rest =>
 obtain ⟨rfl, rfl, rfl, rfl, B1⟩ := hcut
 go_wp2_with (go_at_call 104; refine (zag _ _ _ _).mono ?_; rintro e w' ⟨rfl, rfl⟩)
 all_goals first
  | (go_ret; exact ⟨rfl, zd B1⟩)
  | (exfalso; go_light; simp_all)
def zgd (ws : List Int) (p : Nat) (z2 : Int) : Prop := (rvT ws (p + 5) = 0 \/ rvT ws (p + 5) = 6) /\ ∀ i : Nat, i < 60 -> z2 <= (i : Int) -> za ws (p + 7 + 2 * i) = 0
theorem zub {t : Int} (h : (t != 0) = false \/ (t != 6) = false) : t = 0 \/ t = 6 := by simpa using h
theorem zqt {ws : List Int} {p : Nat} {z2 : Int} (h : (rvT ws (p + 5) != 0) = true /\ (rvT ws (p + 5) != 6) = true) : false = true ↔ zgd ws p z2 := by
 simp only [bne_iff_ne, ne_eq] at h
 exact ⟨fun g => (by simp at g), fun g => absurd g.1 (by omega)⟩
theorem ztg {ws : List Int} {p k Z : Nat} {z2 : Int} (h : (za ws (p + 7 + 2 * k) != 0) = true) (hk : k < 60) (hZ : Z <= k) (hz : z2 = Z) : false = true ↔ zgd ws p z2 := by
 simp only [bne_iff_ne, ne_eq] at h
 exact ⟨fun g => (by simp at g), fun g => absurd (g.2 k hk (by omega)) h⟩
theorem zqu {ws : List Int} {p Z : Nat} {z2 : Int} (hT : rvT ws (p + 5) = 0 \/ rvT ws (p + 5) = 6) (h : ∀ j, Z <= j -> j < 60 -> za ws (p + 7 + 2 * j) = 0) (hz : z2 = Z) : true = true ↔ zgd ws p z2 :=
 ⟨fun _ => ⟨hT, fun i hi hz' => h i (by omega) hi⟩, fun _ => rfl⟩
theorem znp {ws : List Int} {p Z k : Nat} (h : ∀ j, Z <= j -> j < k -> za ws (p + 7 + 2 * j) = 0) (h0 : za ws (p + 7 + 2 * k) = 0) : ∀ j, Z <= j -> j < k + 1 -> za ws (p + 7 + 2 * j) = 0 := fun j h1 h2 => by
 by_cases e : j = k
 · subst e; exact h0
 · exact h j h1 (by omega)
set_option maxHeartbeats 20000000 in
theorem zmv (b off : Nat) (cw : Nat) (ws : List Int) (smz toh top : Int) (cyc : Bool) (sn old cpz sr : Int) (ar : Option Addr) (cr : Nat) (rs : List (Int × Int)) (x : Int) (z : Int -> Int) (p : Nat) (w : World) (hx : x = p) (hs : Sl w (.slice (some ⟨b, off, none⟩) ws.length cw) ws) (hn : ws.length <= 1048576) (hw : zi ws) (h : p + 4 < ws.length) (h126 : p + 126 < ws.length) (hz : ∀ i : Nat, wrap64 (za ws (p + i)) = z i)
 (f1 : inB (z 1) 0 4 = true) (f2 : inB (z 2) 0 60 = true) (f3 : inB (z 3) 0 (z 2) = true) (f4 : inB (z 4) 0 4095 = true) (Z : Nat) (hZ : z 2 = Z) (hZ1 : Z <= 60) (hb : b < w.heap.size) (hc : ∀ i, i < ws.length -> w.cell? ⟨b, off + i, none⟩ = some (.int .u64 (za ws i))) :
 Calls Tryz.prog 127 #[.agg #[.slice (some ⟨b, off, none⟩) ws.length cw, .int .i64 smz, .int .i64 toh, .int .i64 top, .bool cyc, .int .i64 sn, .int .i64 old, .int .i64 cpz, .int .i64 sr, .slice ar rs.length cr], .int .i64 x] w fun e w' => ∃ q, e = .returned (.bool q) /\ (q = true ↔ zgd ws p (z 2)) /\ Below w.heap.size w w' := by
 have x0 : 0 <= x := by omega
 have x1 : x <= 1048576 := by omega
 have hn' : (ws.length : Int) <= 1048576 := by omega
 have HX5 : Hid (x + 5 = ((p + 5 : Nat) : Int)) := by show x + 5 = _; omega
 have h5 : p + 5 + 1 < ws.length := by omega
 have HX : Hid (x = (p : Int)) := hx
 have H1 : Hid (∀ i : Nat, wrap64 (za ws (p + i)) = z i) := hz
 have HZ : Hid (z 2 = (Z : Int)) := hZ
 have HS : ∀ W, Below (w.alloc (.cells #[.slice (some ⟨b, off, none⟩) ws.length cw, .int .i64 smz, .int .i64 toh, .int .i64 top, .bool cyc, .int .i64 sn, .int .i64 old, .int .i64 cpz, .int .i64 sr, .slice ar rs.length cr] 30)).heap.size (w.alloc (.cells #[.slice (some ⟨b, off, none⟩) ws.length cw, .int .i64 smz, .int .i64 toh, .int .i64 top, .bool cyc, .int .i64 sn, .int .i64 old, .int .i64 cpz, .int .i64 sr, .slice ar rs.length cr] 30)) W -> Sl W (.slice (some ⟨b, off, none⟩) ws.length cw) ws := fun W hW => (zam hs _).below hW
 clear hx hz hZ
 go_enter Tryz.func127, Tryz.ntmps127
 go_upto_region 1 with fail
 go_cut [5, 6, 7, 8] from 12 to 23 (fun s5 s6 s7 s8 wc => s5 = .int .i64 (z 1) /\ s6 = .int .i64 (z 2) /\ s7 = .int .i64 (z 3) /\ s8 = .int .i64 (z 4) /\ Below (w.alloc (.cells #[.slice (some ⟨b, off, none⟩) ws.length cw, .int .i64 smz, .int .i64 toh, .int .i64 top, .bool cyc, .int .i64 sn, .int .i64 old, .int .i64 cpz, .int .i64 sr, .slice ar rs.length cr] 30)).heap.size (w.alloc (.cells #[.slice (some ⟨b, off, none⟩) ws.length cw, .int .i64 smz, .int .i64 toh, .int .i64 top, .bool cyc, .int .i64 sn, .int .i64 old, .int .i64 cpz, .int .i64 sr, .slice ar rs.length cr] 30)) wc)
 case first =>
  go_region_held3 (fun w' => Below (w.alloc (.cells #[.slice (some ⟨b, off, none⟩) ws.length cw, .int .i64 smz, .int .i64 toh, .int .i64 top, .bool cyc, .int .i64 sn, .int .i64 old, .int .i64 cpz, .int .i64 sr, .slice ar rs.length cr] 30)).heap.size (w.alloc (.cells #[.slice (some ⟨b, off, none⟩) ws.length cw, .int .i64 smz, .int .i64 toh, .int .i64 top, .bool cyc, .int .i64 sn, .int .i64 old, .int .i64 cpz, .int .i64 sr, .slice ar rs.length cr] 30)) w' /\ w'.cell? ⟨w.heap.size, 0, none⟩ = some (.slice (some ⟨b, off, none⟩) ws.length cw) /\ w'.cell? ⟨w.heap.size, 1, none⟩ = some (.int .i64 smz) /\ w'.cell? ⟨w.heap.size, 2, none⟩ = some (.int .i64 toh) /\ w'.cell? ⟨w.heap.size, 3, none⟩ = some (.int .i64 top) /\ w'.cell? ⟨w.heap.size, 4, none⟩ = some (.bool cyc) /\ w'.cell? ⟨w.heap.size, 5, none⟩ = some (.int .i64 sn) /\ w'.cell? ⟨w.heap.size, 6, none⟩ = some (.int .i64 old) /\ w'.cell? ⟨w.heap.size, 7, none⟩ = some (.int .i64 cpz) /\ w'.cell? ⟨w.heap.size, 8, none⟩ = some (.int .i64 sr) /\ w'.cell? ⟨w.heap.size, 9, none⟩ = some (.slice ar rs.length cr)) (first | exact ⟨hB, zbo hB⟩ | (refine ⟨(by first | exact Below.refl _ _ | exact (Below.refl _ _).drew | exact Below.drew (by assumption) | assumption), ?_⟩; go_keep) | go_keep) (first | (go_at_call 126; refine (zj0 _ _ _ _ _ _ _ _ _ _ _ _ _ _ _ _ z p _ HX.out (by decide) H1.out (HS _ (by first | exact Below.refl _ _ | exact (Below.refl _ _).drew | exact Below.drew (by assumption) | assumption)) hn h).mono ?_; rintro e w' ⟨rfl, hb⟩; have hB := zc (w := (w.alloc (.cells #[.slice (some ⟨b, off, none⟩) ws.length cw, .int .i64 smz, .int .i64 toh, .int .i64 top, .bool cyc, .int .i64 sn, .int .i64 old, .int .i64 cpz, .int .i64 sr, .slice ar rs.length cr] 30))) (by first | exact Below.refl _ _ | exact (Below.refl _ _).drew | exact Below.drew (by assumption) | assumption) hb))
  all_goals (go_wp2_with fail; go_meet; exact ⟨rfl, rfl, rfl, rfl, by assumption⟩)
 case rest =>
 obtain ⟨rfl, rfl, rfl, rfl, B1⟩ := hcut
 obtain ⟨k0, k1, k2, k3, k4, k5, k6, k7, k8, k9⟩ := zbo B1
 go_wp2_with (first | (go_at_call 104; refine (zag _ _ _ _).mono ?_; rintro e w' ⟨rfl, rfl⟩) | (go_at_call 45; refine (zc7 _ ws _ (p + 5) _ HX5.out (HS _ B1) hn hw h5).mono ?_; rintro e w2 ⟨rfl, b2⟩; have B2 := zc B1 b2; clear b2))
 · have hT : rvT ws (p + 5) = 0 \/ rvT ws (p + 5) = 6 := .inl (by assumption)
   have BA := fun o => B2.alloc B2.size o
   clear k0 k1 k2 k3 k4 k5 k6 k7 k8 k9 B1 HS hs
   go_loopw [11] (fun i wr => ∃ k : Nat, Z <= k /\ k <= 60 /\ i = .int .i64 k /\ (∀ j, Z <= j -> j < k -> za ws (p + 7 + 2 * j) = 0) /\ Below (w.alloc (.cells #[.slice (some ⟨b, off, none⟩) ws.length cw, .int .i64 smz, .int .i64 toh, .int .i64 top, .bool cyc, .int .i64 sn, .int .i64 old, .int .i64 cpz, .int .i64 sr, .slice ar rs.length cr] 30)).heap.size (w.alloc (.cells #[.slice (some ⟨b, off, none⟩) ws.length cw, .int .i64 smz, .int .i64 toh, .int .i64 top, .bool cyc, .int .i64 sn, .int .i64 old, .int .i64 cpz, .int .i64 sr, .slice ar rs.length cr] 30)) wr) (fun i _ => 60 - (intOf i).toNat)
   case atStart => exact ⟨Z, Nat.le_refl _, hZ1, by rw [HZ.out], fun j h1 h2 => absurd h2 (by omega), BA _⟩
   case round =>
    obtain ⟨k, hk0, hk, rfl, hall, BR⟩ := hrel
    clear BA B2
    by_cases hlt : k < 60
    · have hk' : (k : Int) < 60 := by omega
      obtain ⟨k0, k1, k2, k3, k4, k5, k6, k7, k8, k9⟩ := zbo BR
      have q : wr.cell? ⟨b, off + (p + 7 + 2 * k), none⟩ = some (.int .u64 (za ws (p + 7 + 2 * k))) := by
       rw [(zd BR).cell (p := ⟨b, off + (p + 7 + 2 * k), none⟩) hb]; exact hc _ (by omega)
      have hi0 : 0 <= x + 7 + 2 * (k : Int) := by omega
      have hi1 : x + 7 + 2 * (k : Int) < (ws.length : Int) := by have := HX.out; omega
      have hi2 : (x + 7 + 2 * (k : Int)).toNat = p + 7 + 2 * k := by have := HX.out; omega
      clear hc
      go_wp2
      · go_ret
        exact ⟨_, rfl, ztg (by assumption) hlt hk0 HZ.out, zd BR⟩
      · have hz0 : za ws (p + 7 + 2 * k) = 0 := by simpa using ‹(za ws (p + 7 + 2 * k) != 0) = false›
        go_roundw
        case rel => exact ⟨k + 1, by omega, by omega, by go_num, znp hall hz0, BR⟩
        case measure => simp [intOf]; omega
    · obtain rfl : k = 60 := by omega
      go_wp2
      go_ret
      exact ⟨_, rfl, zqu hT hall HZ.out, zd BR⟩
 · go_ret
   have B3 := B2.alloc (Nat.le_trans (by simp) B2.size) (.cells #[.int .i64 (rvT ws (p + 5)), .int .i64 (rvN ws (p + 5))] 48)
   exact ⟨_, rfl, zqt (by assumption), zd B3⟩
 · have hT : rvT ws (p + 5) = 0 \/ rvT ws (p + 5) = 6 := zub (by assumption)
   have BA := fun o => B2.alloc B2.size o
   clear k0 k1 k2 k3 k4 k5 k6 k7 k8 k9 B1 HS hs
   go_loopw [11] (fun i wr => ∃ k : Nat, Z <= k /\ k <= 60 /\ i = .int .i64 k /\ (∀ j, Z <= j -> j < k -> za ws (p + 7 + 2 * j) = 0) /\ Below (w.alloc (.cells #[.slice (some ⟨b, off, none⟩) ws.length cw, .int .i64 smz, .int .i64 toh, .int .i64 top, .bool cyc, .int .i64 sn, .int .i64 old, .int .i64 cpz, .int .i64 sr, .slice ar rs.length cr] 30)).heap.size (w.alloc (.cells #[.slice (some ⟨b, off, none⟩) ws.length cw, .int .i64 smz, .int .i64 toh, .int .i64 top, .bool cyc, .int .i64 sn, .int .i64 old, .int .i64 cpz, .int .i64 sr, .slice ar rs.length cr] 30)) wr) (fun i _ => 60 - (intOf i).toNat)
   case atStart => exact ⟨Z, Nat.le_refl _, hZ1, by rw [HZ.out], fun j h1 h2 => absurd h2 (by omega), BA _⟩
   case round =>
    obtain ⟨k, hk0, hk, rfl, hall, BR⟩ := hrel
    clear BA B2
    by_cases hlt : k < 60
    · have hk' : (k : Int) < 60 := by omega
      obtain ⟨k0, k1, k2, k3, k4, k5, k6, k7, k8, k9⟩ := zbo BR
      have q : wr.cell? ⟨b, off + (p + 7 + 2 * k), none⟩ = some (.int .u64 (za ws (p + 7 + 2 * k))) := by
       rw [(zd BR).cell (p := ⟨b, off + (p + 7 + 2 * k), none⟩) hb]; exact hc _ (by omega)
      have hi0 : 0 <= x + 7 + 2 * (k : Int) := by omega
      have hi1 : x + 7 + 2 * (k : Int) < (ws.length : Int) := by have := HX.out; omega
      have hi2 : (x + 7 + 2 * (k : Int)).toNat = p + 7 + 2 * k := by have := HX.out; omega
      clear hc
      go_wp2
      · go_ret
        exact ⟨_, rfl, ztg (by assumption) hlt hk0 HZ.out, zd BR⟩
      · have hz0 : za ws (p + 7 + 2 * k) = 0 := by simpa using ‹(za ws (p + 7 + 2 * k) != 0) = false›
        go_roundw
        case rel => exact ⟨k + 1, by omega, by omega, by go_num, znp hall hz0, BR⟩
        case measure => simp [intOf]; omega
    · obtain rfl : k = 60 := by omega
      go_wp2
      go_ret
      exact ⟨_, rfl, zqu hT hall HZ.out, zd BR⟩
def zuc (ws : List Int) (p : Nat) : Prop := za ws (p + 1) <= 4 /\ za ws (p + 2) <= 60 /\ za ws (p + 3) <= za ws (p + 2) /\ za ws (p + 4) <= 4095 /\ zgd ws p (za ws (p + 2))
theorem zqv (aw : Option Addr) (cw : Nat) (ws : List Int) (smz toh top : Int) (cyc : Bool) (sn old cpz sr : Int) (ar : Option Addr) (cr : Nat) (rs : List (Int × Int)) (x : Int) (p : Nat) (w : World) (hx : x = p) (hs : Sl w (.slice aw ws.length cw) ws) (hn : ws.length <= 1048576) (hw : zi ws) (h : p + 126 < ws.length) :
 Calls Tryz.prog 127 #[.agg #[.slice aw ws.length cw, .int .i64 smz, .int .i64 toh, .int .i64 top, .bool cyc, .int .i64 sn, .int .i64 old, .int .i64 cpz, .int .i64 sr, .slice ar rs.length cr], .int .i64 x] w fun e w' => ∃ q, e = .returned (.bool q) /\ (q = true ↔ zuc ws p) /\ Below w.heap.size w w' := by
 have hz : ∀ i : Nat, wrap64 (za ws (p + i)) = (fun j : Int => wrap64 (za ws (p + j.toNat))) i := fun i => by simp
 have w1 := zu hw (p + 1)
 have w2 := zu hw (p + 2)
 have w3 := zu hw (p + 3)
 have w4 := zu hw (p + 4)
 have i1 : inB (wrap64 (za ws (p + 1))) 0 4 = decide (za ws (p + 1) <= 4) := zbv 4 w1.1 w1.2 (by omega) (by omega)
 have i2 : inB (wrap64 (za ws (p + 2))) 0 60 = decide (za ws (p + 2) <= 60) := zbv 60 w2.1 w2.2 (by omega) (by omega)
 have i4 : inB (wrap64 (za ws (p + 4))) 0 4095 = decide (za ws (p + 4) <= 4095) := zbv 4095 w4.1 w4.2 (by omega) (by omega)
 by_cases hf : (inB (wrap64 (za ws (p + 1))) 0 4 && inB (wrap64 (za ws (p + 2))) 0 60 && inB (wrap64 (za ws (p + 3))) 0 (wrap64 (za ws (p + 2))) && inB (wrap64 (za ws (p + 4))) 0 4095) = true
 · have hf' := hf
   simp only [Bool.and_eq_true] at hf'
   obtain ⟨⟨⟨f1, f2⟩, f3⟩, f4⟩ := hf'
   obtain ⟨b, off, rfl, hl, hc⟩ := zcl hs (k := p) (by omega)
   have g2 : za ws (p + 2) <= 60 := by rw [i2] at f2; simpa using f2
   have e2 : wrap64 (za ws (p + 2)) = za ws (p + 2) := zaz w2.1 (by omega)
   have := zmv b off cw ws smz toh top cyc sn old cpz sr ar cr rs x (fun j : Int => wrap64 (za ws (p + j.toNat))) p w hx hs hn hw (by omega) h hz f1 f2 f3 f4 (za ws (p + 2)).toNat (by show wrap64 (za ws (p + 2)) = _; rw [e2]; omega) (by omega) hl (fun i hi => by
    have := hc i hi (.cells #[] 0)
    rwa [World.cell?_alloc_lt w _ ⟨b, off + i, none⟩ hl] at this)
   refine this.mono ?_
   rintro e w' ⟨q, he, hq, hb⟩
   refine ⟨q, he, hq.trans ?_, hb⟩
   show zgd ws p (wrap64 (za ws (p + 2))) ↔ _
   rw [e2]
   rw [i1] at f1
   rw [i4] at f4
   rw [e2] at f3
   have g3 : za ws (p + 3) <= za ws (p + 2) := by
    rw [zbv _ w3.1 w3.2 w2.1 (by omega)] at f3; simpa using f3
   exact ⟨fun g => ⟨by simpa using f1, g2, g3, by simpa using f4, g⟩, fun g => g.2.2.2.2⟩
 · rw [Bool.not_eq_true] at hf
   have := zla aw cw ws smz toh top cyc sn old cpz sr ar cr rs x (fun j : Int => wrap64 (za ws (p + j.toNat))) p w hx hs hn (by omega) hz hf
   refine this.mono ?_
   rintro e w' ⟨he, hb⟩
   refine ⟨false, he, ⟨fun g => by simp at g, fun g => ?_⟩, hb⟩
   exfalso
   obtain ⟨g1, g2, g3, g4, _⟩ := g
   have e2 : wrap64 (za ws (p + 2)) = za ws (p + 2) := zaz w2.1 (by omega)
   rw [i1, i2, i4, e2, zbv _ w3.1 w3.2 w2.1 (by omega)] at hf
   simp [g1, g2, g3, g4] at hf
end Go.Proofs.YtmckcnmlhgpnhaaGreat
