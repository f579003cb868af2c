/- - -/
import Derived.Test.YtmckcnmlhgpnhaaGreatWChainA
import Derived.Maps.AppendAt
namespace Go.Proofs.YtmckcnmlhgpnhaaGreat
set_option maxRecDepth 20000
open Go.RowKit
set_option linter.unusedSimpArgs false
set_option linter.unusedVariables false
theorem zlb (aw : Option Addr) (cw : Nat) (ws : List Int) (smz toh top : Int) (cyc : Bool) (sn old cpz sr : Int) (ar : Option Addr) (cr : Nat) (rs : List (Int × Int)) (x y : Int) (z : Int -> Int) (p : Nat) (w : World) (hx : x = p) (hy : 1 <= y /\ y <= 4) (hz : ∀ i : Nat, wrap64 (za ws (p + i)) = z i) (hs : Sl w (.slice aw ws.length cw) ws) (hn : ws.length <= 1048576) (h : p + 4 < ws.length) :
 Calls Tryz.prog 126 #[.agg #[.slice aw ws.length cw, .int .i64 smz, .int .i64 toh, .int .i64 top, .bool cyc, .int .i64 sn, .int .i64 old, .int .i64 cpz, .int .i64 sr, .slice ar rs.length cr], .int .i64 x, .int .i64 y] w fun e w' => e = .returned (.int .i64 (z y)) /\ Below w.heap.size w w' := by
 obtain ⟨i, rfl⟩ := Int.eq_ofNat_of_zero_le (a := y) (by omega)
 exact zct aw cw ws smz toh top cyc sn old cpz sr ar cr rs x i (z i) p i w hx rfl (hz i) hs hn (by omega)
set_option maxHeartbeats 20000000 in
theorem zmu (aw : Option Addr) (cw : Nat) (ws : List Int) (smz toh top : Int) (cyc : Bool) (sn old cpz sr : Int) (ar : Option Addr) (cr : Nat) (rs : List (Int × Int)) (x : Int) (z : Int -> Int) (p : Nat) (w : World) (hx : x = p) (hs : Sl w (.slice aw ws.length cw) ws) (hn : ws.length <= 1048576) (h : p + 4 < ws.length) (hz : ∀ i : Nat, wrap64 (za ws (p + i)) = z i)
 (hf : (inB (z 1) 0 4 && inB (z 2) 0 60 && inB (z 3) 0 (z 2) && inB (z 4) 0 4095) = false) :
 Calls Tryz.prog 127 #[.agg #[.slice aw ws.length cw, .int .i64 smz, .int .i64 toh, .int .i64 top, .bool cyc, .int .i64 sn, .int .i64 old, .int .i64 cpz, .int .i64 sr, .slice ar rs.length cr], .int .i64 x] w fun e w' => e = .returned (.bool false) /\ Below w.heap.size w w' := by
 have HX : Hid (x = (p : Int)) := hx
 have H1 : Hid (∀ i : Nat, wrap64 (za ws (p + i)) = z i) := hz
 have HS : ∀ W, Below (w.alloc (.cells #[.slice aw ws.length cw, .int .i64 smz, .int .i64 toh, .int .i64 top, .bool cyc, .int .i64 sn, .int .i64 old, .int .i64 cpz, .int .i64 sr, .slice ar rs.length cr] 30)).heap.size (w.alloc (.cells #[.slice aw ws.length cw, .int .i64 smz, .int .i64 toh, .int .i64 top, .bool cyc, .int .i64 sn, .int .i64 old, .int .i64 cpz, .int .i64 sr, .slice ar rs.length cr] 30)) W -> Sl W (.slice aw ws.length cw) ws := fun W hW => (zas hs _).below hW
 clear hx hz
 go_enter Tryz.func127, Tryz.ntmps127
 go_upto_region 1 with fail
 go_cut [5, 6, 7, 8] from 12 to 23 (fun s5 s6 s7 s8 wc => s5 = .int .i64 (z 1) /\ s6 = .int .i64 (z 2) /\ s7 = .int .i64 (z 3) /\ s8 = .int .i64 (z 4) /\ Below (w.alloc (.cells #[.slice aw ws.length cw, .int .i64 smz, .int .i64 toh, .int .i64 top, .bool cyc, .int .i64 sn, .int .i64 old, .int .i64 cpz, .int .i64 sr, .slice ar rs.length cr] 30)).heap.size (w.alloc (.cells #[.slice aw ws.length cw, .int .i64 smz, .int .i64 toh, .int .i64 top, .bool cyc, .int .i64 sn, .int .i64 old, .int .i64 cpz, .int .i64 sr, .slice ar rs.length cr] 30)) wc)
 case first =>
  go_region_held3 (fun w' => Below (w.alloc (.cells #[.slice aw ws.length cw, .int .i64 smz, .int .i64 toh, .int .i64 top, .bool cyc, .int .i64 sn, .int .i64 old, .int .i64 cpz, .int .i64 sr, .slice ar rs.length cr] 30)).heap.size (w.alloc (.cells #[.slice aw ws.length cw, .int .i64 smz, .int .i64 toh, .int .i64 top, .bool cyc, .int .i64 sn, .int .i64 old, .int .i64 cpz, .int .i64 sr, .slice ar rs.length cr] 30)) w' /\ w'.cell? ⟨w.heap.size, 0, none⟩ = some (.slice aw ws.length cw) /\ w'.cell? ⟨w.heap.size, 1, none⟩ = some (.int .i64 smz) /\ w'.cell? ⟨w.heap.size, 2, none⟩ = some (.int .i64 toh) /\ w'.cell? ⟨w.heap.size, 3, none⟩ = some (.int .i64 top) /\ w'.cell? ⟨w.heap.size, 4, none⟩ = some (.bool cyc) /\ w'.cell? ⟨w.heap.size, 5, none⟩ = some (.int .i64 sn) /\ w'.cell? ⟨w.heap.size, 6, none⟩ = some (.int .i64 old) /\ w'.cell? ⟨w.heap.size, 7, none⟩ = some (.int .i64 cpz) /\ w'.cell? ⟨w.heap.size, 8, none⟩ = some (.int .i64 sr) /\ w'.cell? ⟨w.heap.size, 9, none⟩ = some (.slice ar rs.length cr)) (first | exact ⟨hB, zbx hB⟩ | (refine ⟨(by first | exact Below.refl _ _ | exact (Below.refl _ _).drew | exact Below.drew (by assumption) | assumption), ?_⟩; go_keep) | go_keep) (first | (go_at_call 126; refine (zlb _ _ _ _ _ _ _ _ _ _ _ _ _ _ _ _ z p _ HX.out (by decide) H1.out (HS _ (by first | exact Below.refl _ _ | exact (Below.refl _ _).drew | exact Below.drew (by assumption) | assumption)) hn h).mono ?_; rintro e w' ⟨rfl, hb⟩; have hB := zc (w := (w.alloc (.cells #[.slice aw ws.length cw, .int .i64 smz, .int .i64 toh, .int .i64 top, .bool cyc, .int .i64 sn, .int .i64 old, .int .i64 cpz, .int .i64 sr, .slice ar rs.length cr] 30))) (by first | exact Below.refl _ _ | exact (Below.refl _ _).drew | exact Below.drew (by assumption) | assumption) hb))
  all_goals (go_wp2_with fail; go_meet; exact ⟨rfl, rfl, rfl, rfl, by assumption⟩)
 case rest =>
 obtain ⟨rfl, rfl, rfl, rfl, B1⟩ := hcut
 go_wp2_with (go_at_call 104; refine (zw _ _ _ _).mono ?_; rintro e w' ⟨rfl, rfl⟩)
 all_goals first
  | (go_ret; exact ⟨rfl, zd B1⟩)
  | (exfalso; go_light; simp_all)
def zg0 (ws : List Int) (p : Nat) (z2 : Int) : Prop := (rvT ws (p + 5) = 0 \/ rvT ws (p + 5) = 6) /\ ∀ i : Nat, i < 60 -> z2 <= (i : Int) -> za ws (p + 7 + 2 * i) = 0
theorem zxo {t : Int} (h : (t != 0) = false \/ (t != 6) = false) : t = 0 \/ t = 6 := by simpa using h
theorem zs9 {ws : List Int} {p : Nat} {z2 : Int} (h : (rvT ws (p + 5) != 0) = true /\ (rvT ws (p + 5) != 6) = true) : false = true ↔ zg0 ws p z2 := by
 simp only [bne_iff_ne, ne_eq] at h
 exact ⟨fun g => (by simp at g), fun g => absurd g.1 (by omega)⟩
theorem zwi {ws : List Int} {p k Z : Nat} {z2 : Int} (h : (za ws (p + 7 + 2 * k) != 0) = true) (hk : k < 60) (hZ : Z <= k) (hz : z2 = Z) : false = true ↔ zg0 ws p z2 := by
 simp only [bne_iff_ne, ne_eq] at h
 exact ⟨fun g => (by simp at g), fun g => absurd (g.2 k hk (by omega)) h⟩
theorem zta {ws : List Int} {p Z : Nat} {z2 : Int} (hT : rvT ws (p + 5) = 0 \/ rvT ws (p + 5) = 6) (h : ∀ j, Z <= j -> j < 60 -> za ws (p + 7 + 2 * j) = 0) (hz : z2 = Z) : true = true ↔ zg0 ws p z2 :=
 ⟨fun _ => ⟨hT, fun i hi hz' => h i (by omega) hi⟩, fun _ => rfl⟩
theorem zpw {ws : List Int} {p Z k : Nat} (h : ∀ j, Z <= j -> j < k -> za ws (p + 7 + 2 * j) = 0) (h0 : za ws (p + 7 + 2 * k) = 0) : ∀ j, Z <= j -> j < k + 1 -> za ws (p + 7 + 2 * j) = 0 := fun j h1 h2 => by
 by_cases e : j = k
 · subst e; exact h0
 · exact h j h1 (by omega)
set_option maxHeartbeats 20000000 in
theorem zou (b off : Nat) (cw : Nat) (ws : List Int) (smz toh top : Int) (cyc : Bool) (sn old cpz sr : Int) (ar : Option Addr) (cr : Nat) (rs : List (Int × Int)) (x : Int) (z : Int -> Int) (p : Nat) (w : World) (hx : x = p) (hs : Sl w (.slice (some ⟨b, off, none⟩) ws.length cw) ws) (hn : ws.length <= 1048576) (hw : zg ws) (h : p + 4 < ws.length) (h126 : p + 126 < ws.length) (hz : ∀ i : Nat, wrap64 (za ws (p + i)) = z i)
 (f1 : inB (z 1) 0 4 = true) (f2 : inB (z 2) 0 60 = true) (f3 : inB (z 3) 0 (z 2) = true) (f4 : inB (z 4) 0 4095 = true) (Z : Nat) (hZ : z 2 = Z) (hZ1 : Z <= 60) (hb : b < w.heap.size) (hc : ∀ i, i < ws.length -> w.cell? ⟨b, off + i, none⟩ = some (.int .u64 (za ws i))) :
 Calls Tryz.prog 127 #[.agg #[.slice (some ⟨b, off, none⟩) ws.length cw, .int .i64 smz, .int .i64 toh, .int .i64 top, .bool cyc, .int .i64 sn, .int .i64 old, .int .i64 cpz, .int .i64 sr, .slice ar rs.length cr], .int .i64 x] w fun e w' => ∃ q, e = .returned (.bool q) /\ (q = true ↔ zg0 ws p (z 2)) /\ Below w.heap.size w w' := by
 have x0 : 0 <= x := by omega
 have x1 : x <= 1048576 := by omega
 have hn' : (ws.length : Int) <= 1048576 := by omega
 have HX5 : Hid (x + 5 = ((p + 5 : Nat) : Int)) := by show x + 5 = _; omega
 have h5 : p + 5 + 1 < ws.length := by omega
 have HX : Hid (x = (p : Int)) := hx
 have H1 : Hid (∀ i : Nat, wrap64 (za ws (p + i)) = z i) := hz
 have HZ : Hid (z 2 = (Z : Int)) := hZ
 have HS : ∀ W, Below (w.alloc (.cells #[.slice (some ⟨b, off, none⟩) ws.length cw, .int .i64 smz, .int .i64 toh, .int .i64 top, .bool cyc, .int .i64 sn, .int .i64 old, .int .i64 cpz, .int .i64 sr, .slice ar rs.length cr] 30)).heap.size (w.alloc (.cells #[.slice (some ⟨b, off, none⟩) ws.length cw, .int .i64 smz, .int .i64 toh, .int .i64 top, .bool cyc, .int .i64 sn, .int .i64 old, .int .i64 cpz, .int .i64 sr, .slice ar rs.length cr] 30)) W -> Sl W (.slice (some ⟨b, off, none⟩) ws.length cw) ws := fun W hW => (zas hs _).below hW
 clear hx hz hZ
 go_enter Tryz.func127, Tryz.ntmps127
 go_upto_region 1 with fail
 go_cut [5, 6, 7, 8] from 12 to 23 (fun s5 s6 s7 s8 wc => s5 = .int .i64 (z 1) /\ s6 = .int .i64 (z 2) /\ s7 = .int .i64 (z 3) /\ s8 = .int .i64 (z 4) /\ Below (w.alloc (.cells #[.slice (some ⟨b, off, none⟩) ws.length cw, .int .i64 smz, .int .i64 toh, .int .i64 top, .bool cyc, .int .i64 sn, .int .i64 old, .int .i64 cpz, .int .i64 sr, .slice ar rs.length cr] 30)).heap.size (w.alloc (.cells #[.slice (some ⟨b, off, none⟩) ws.length cw, .int .i64 smz, .int .i64 toh, .int .i64 top, .bool cyc, .int .i64 sn, .int .i64 old, .int .i64 cpz, .int .i64 sr, .slice ar rs.length cr] 30)) wc)
 case first =>
  go_region_held3 (fun w' => Below (w.alloc (.cells #[.slice (some ⟨b, off, none⟩) ws.length cw, .int .i64 smz, .int .i64 toh, .int .i64 top, .bool cyc, .int .i64 sn, .int .i64 old, .int .i64 cpz, .int .i64 sr, .slice ar rs.length cr] 30)).heap.size (w.alloc (.cells #[.slice (some ⟨b, off, none⟩) ws.length cw, .int .i64 smz, .int .i64 toh, .int .i64 top, .bool cyc, .int .i64 sn, .int .i64 old, .int .i64 cpz, .int .i64 sr, .slice ar rs.length cr] 30)) w' /\ w'.cell? ⟨w.heap.size, 0, none⟩ = some (.slice (some ⟨b, off, none⟩) ws.length cw) /\ w'.cell? ⟨w.heap.size, 1, none⟩ = some (.int .i64 smz) /\ w'.cell? ⟨w.heap.size, 2, none⟩ = some (.int .i64 toh) /\ w'.cell? ⟨w.heap.size, 3, none⟩ = some (.int .i64 top) /\ w'.cell? ⟨w.heap.size, 4, none⟩ = some (.bool cyc) /\ w'.cell? ⟨w.heap.size, 5, none⟩ = some (.int .i64 sn) /\ w'.cell? ⟨w.heap.size, 6, none⟩ = some (.int .i64 old) /\ w'.cell? ⟨w.heap.size, 7, none⟩ = some (.int .i64 cpz) /\ w'.cell? ⟨w.heap.size, 8, none⟩ = some (.int .i64 sr) /\ w'.cell? ⟨w.heap.size, 9, none⟩ = some (.slice ar rs.length cr)) (first | exact ⟨hB, zbx hB⟩ | (refine ⟨(by first | exact Below.refl _ _ | exact (Below.refl _ _).drew | exact Below.drew (by assumption) | assumption), ?_⟩; go_keep) | go_keep) (first | (go_at_call 126; refine (zlb _ _ _ _ _ _ _ _ _ _ _ _ _ _ _ _ z p _ HX.out (by decide) H1.out (HS _ (by first | exact Below.refl _ _ | exact (Below.refl _ _).drew | exact Below.drew (by assumption) | assumption)) hn h).mono ?_; rintro e w' ⟨rfl, hb⟩; have hB := zc (w := (w.alloc (.cells #[.slice (some ⟨b, off, none⟩) ws.length cw, .int .i64 smz, .int .i64 toh, .int .i64 top, .bool cyc, .int .i64 sn, .int .i64 old, .int .i64 cpz, .int .i64 sr, .slice ar rs.length cr] 30))) (by first | exact Below.refl _ _ | exact (Below.refl _ _).drew | exact Below.drew (by assumption) | assumption) hb))
  all_goals (go_wp2_with fail; go_meet; exact ⟨rfl, rfl, rfl, rfl, by assumption⟩)
 case rest =>
 obtain ⟨rfl, rfl, rfl, rfl, B1⟩ := hcut
 obtain ⟨k0, k1, k2, k3, k4, k5, k6, k7, k8, k9⟩ := zbx B1
 go_wp2_with (first | (go_at_call 104; refine (zw _ _ _ _).mono ?_; rintro e w' ⟨rfl, rfl⟩) | (go_at_call 45; refine (zdj _ ws _ (p + 5) _ HX5.out (HS _ B1) hn hw h5).mono ?_; rintro e w2 ⟨rfl, b2⟩; have B2 := zc B1 b2; clear b2))
 · have hT : rvT ws (p + 5) = 0 \/ rvT ws (p + 5) = 6 := .inl (by assumption)
   have BA := fun o => B2.alloc B2.size o
   clear k0 k1 k2 k3 k4 k5 k6 k7 k8 k9 B1 HS hs
   go_loopw [11] (fun i wr => ∃ k : Nat, Z <= k /\ k <= 60 /\ i = .int .i64 k /\ (∀ j, Z <= j -> j < k -> za ws (p + 7 + 2 * j) = 0) /\ Below (w.alloc (.cells #[.slice (some ⟨b, off, none⟩) ws.length cw, .int .i64 smz, .int .i64 toh, .int .i64 top, .bool cyc, .int .i64 sn, .int .i64 old, .int .i64 cpz, .int .i64 sr, .slice ar rs.length cr] 30)).heap.size (w.alloc (.cells #[.slice (some ⟨b, off, none⟩) ws.length cw, .int .i64 smz, .int .i64 toh, .int .i64 top, .bool cyc, .int .i64 sn, .int .i64 old, .int .i64 cpz, .int .i64 sr, .slice ar rs.length cr] 30)) wr) (fun i _ => 60 - (intOf i).toNat)
   case atStart => exact ⟨Z, Nat.le_refl _, hZ1, by rw [HZ.out], fun j h1 h2 => absurd h2 (by omega), BA _⟩
   case round =>
    obtain ⟨k, hk0, hk, rfl, hall, BR⟩ := hrel
    clear BA B2
    by_cases hlt : k < 60
    · have hk' : (k : Int) < 60 := by omega
      obtain ⟨k0, k1, k2, k3, k4, k5, k6, k7, k8, k9⟩ := zbx BR
      have q : wr.cell? ⟨b, off + (p + 7 + 2 * k), none⟩ = some (.int .u64 (za ws (p + 7 + 2 * k))) := by
       rw [(zd BR).cell (p := ⟨b, off + (p + 7 + 2 * k), none⟩) hb]; exact hc _ (by omega)
      have hi0 : 0 <= x + 7 + 2 * (k : Int) := by omega
      have hi1 : x + 7 + 2 * (k : Int) < (ws.length : Int) := by have := HX.out; omega
      have hi2 : (x + 7 + 2 * (k : Int)).toNat = p + 7 + 2 * k := by have := HX.out; omega
      clear hc
      go_wp2
      · go_ret
        exact ⟨_, rfl, zwi (by assumption) hlt hk0 HZ.out, zd BR⟩
      · have hz0 : za ws (p + 7 + 2 * k) = 0 := by simpa using ‹(za ws (p + 7 + 2 * k) != 0) = false›
        go_roundw
        case rel => exact ⟨k + 1, by omega, by omega, by go_num, zpw hall hz0, BR⟩
        case measure => simp [intOf]; omega
    · obtain rfl : k = 60 := by omega
      go_wp2
      go_ret
      exact ⟨_, rfl, zta hT hall HZ.out, zd BR⟩
 · go_ret
   have B3 := B2.alloc (Nat.le_trans (by simp) B2.size) (.cells #[.int .i64 (rvT ws (p + 5)), .int .i64 (rvN ws (p + 5))] 48)
   exact ⟨_, rfl, zs9 (by assumption), zd B3⟩
 · have hT : rvT ws (p + 5) = 0 \/ rvT ws (p + 5) = 6 := zxo (by assumption)
   have BA := fun o => B2.alloc B2.size o
   clear k0 k1 k2 k3 k4 k5 k6 k7 k8 k9 B1 HS hs
   go_loopw [11] (fun i wr => ∃ k : Nat, Z <= k /\ k <= 60 /\ i = .int .i64 k /\ (∀ j, Z <= j -> j < k -> za ws (p + 7 + 2 * j) = 0) /\ Below (w.alloc (.cells #[.slice (some ⟨b, off, none⟩) ws.length cw, .int .i64 smz, .int .i64 toh, .int .i64 top, .bool cyc, .int .i64 sn, .int .i64 old, .int .i64 cpz, .int .i64 sr, .slice ar rs.length cr] 30)).heap.size (w.alloc (.cells #[.slice (some ⟨b, off, none⟩) ws.length cw, .int .i64 smz, .int .i64 toh, .int .i64 top, .bool cyc, .int .i64 sn, .int .i64 old, .int .i64 cpz, .int .i64 sr, .slice ar rs.length cr] 30)) wr) (fun i _ => 60 - (intOf i).toNat)
   case atStart => exact ⟨Z, Nat.le_refl _, hZ1, by rw [HZ.out], fun j h1 h2 => absurd h2 (by omega), BA _⟩
   case round =>
    obtain ⟨k, hk0, hk, rfl, hall, BR⟩ := hrel
    clear BA B2
    by_cases hlt : k < 60
    · have hk' : (k : Int) < 60 := by omega
      obtain ⟨k0, k1, k2, k3, k4, k5, k6, k7, k8, k9⟩ := zbx BR
      have q : wr.cell? ⟨b, off + (p + 7 + 2 * k), none⟩ = some (.int .u64 (za ws (p + 7 + 2 * k))) := by
       rw [(zd BR).cell (p := ⟨b, off + (p + 7 + 2 * k), none⟩) hb]; exact hc _ (by omega)
      have hi0 : 0 <= x + 7 + 2 * (k : Int) := by omega
      have hi1 : x + 7 + 2 * (k : Int) < (ws.length : Int) := by have := HX.out; omega
      have hi2 : (x + 7 + 2 * (k : Int)).toNat = p + 7 + 2 * k := by have := HX.out; omega
      clear hc
      go_wp2
      · go_ret
        exact ⟨_, rfl, zwi (by assumption) hlt hk0 HZ.out, zd BR⟩
      · have hz0 : za ws (p + 7 + 2 * k) = 0 := by simpa using ‹(za ws (p + 7 + 2 * k) != 0) = false›
        go_roundw
        case rel => exact ⟨k + 1, by omega, by omega, by go_num, zpw hall hz0, BR⟩
        case measure => simp [intOf]; omega
    · obtain rfl : k = 60 := by omega
      go_wp2
      go_ret
      exact ⟨_, rfl, zta hT hall HZ.out, zd BR⟩
def zxp (ws : List Int) (p : Nat) : Prop := za ws (p + 1) <= 4 /\ za ws (p + 2) <= 60 /\ za ws (p + 3) <= za ws (p + 2) /\ za ws (p + 4) <= 4095 /\ zg0 ws p (za ws (p + 2))
theorem ztb (aw : Option Addr) (cw : Nat) (ws : List Int) (smz toh top : Int) (cyc : Bool) (sn old cpz sr : Int) (ar : Option Addr) (cr : Nat) (rs : List (Int × Int)) (x : Int) (p : Nat) (w : World) (hx : x = p) (hs : Sl w (.slice aw ws.length cw) ws) (hn : ws.length <= 1048576) (hw : zg ws) (h : p + 126 < ws.length) :
 Calls Tryz.prog 127 #[.agg #[.slice aw ws.length cw, .int .i64 smz, .int .i64 toh, .int .i64 top, .bool cyc, .int .i64 sn, .int .i64 old, .int .i64 cpz, .int .i64 sr, .slice ar rs.length cr], .int .i64 x] w fun e w' => ∃ q, e = .returned (.bool q) /\ (q = true ↔ zxp ws p) /\ Below w.heap.size w w' := by
 have hz : ∀ i : Nat, wrap64 (za ws (p + i)) = (fun j : Int => wrap64 (za ws (p + j.toNat))) i := fun i => by simp
 have w1 := zac hw (p + 1)
 have w2 := zac hw (p + 2)
 have w3 := zac hw (p + 3)
 have w4 := zac hw (p + 4)
 have i1 : inB (wrap64 (za ws (p + 1))) 0 4 = decide (za ws (p + 1) <= 4) := zb5 4 w1.1 w1.2 (by omega) (by omega)
 have i2 : inB (wrap64 (za ws (p + 2))) 0 60 = decide (za ws (p + 2) <= 60) := zb5 60 w2.1 w2.2 (by omega) (by omega)
 have i4 : inB (wrap64 (za ws (p + 4))) 0 4095 = decide (za ws (p + 4) <= 4095) := zb5 4095 w4.1 w4.2 (by omega) (by omega)
 by_cases hf : (inB (wrap64 (za ws (p + 1))) 0 4 && inB (wrap64 (za ws (p + 2))) 0 60 && inB (wrap64 (za ws (p + 3))) 0 (wrap64 (za ws (p + 2))) && inB (wrap64 (za ws (p + 4))) 0 4095) = true
 · have hf' := hf
   simp only [Bool.and_eq_true] at hf'
   obtain ⟨⟨⟨f1, f2⟩, f3⟩, f4⟩ := hf'
   obtain ⟨b, off, rfl, hl, hc⟩ := zcx hs (k := p) (by omega)
   have g2 : za ws (p + 2) <= 60 := by rw [i2] at f2; simpa using f2
   have e2 : wrap64 (za ws (p + 2)) = za ws (p + 2) := za8 w2.1 (by omega)
   have := zou b off cw ws smz toh top cyc sn old cpz sr ar cr rs x (fun j : Int => wrap64 (za ws (p + j.toNat))) p w hx hs hn hw (by omega) h hz f1 f2 f3 f4 (za ws (p + 2)).toNat (by show wrap64 (za ws (p + 2)) = _; rw [e2]; omega) (by omega) hl (fun i hi => by
    have := hc i hi (.cells #[] 0)
    rwa [World.cell?_alloc_lt w _ ⟨b, off + i, none⟩ hl] at this)
   refine this.mono ?_
   rintro e w' ⟨q, he, hq, hb⟩
   refine ⟨q, he, hq.trans ?_, hb⟩
   show zg0 ws p (wrap64 (za ws (p + 2))) ↔ _
   rw [e2]
   rw [i1] at f1
   rw [i4] at f4
   rw [e2] at f3
   have g3 : za ws (p + 3) <= za ws (p + 2) := by
    rw [zb5 _ w3.1 w3.2 w2.1 (by omega)] at f3; simpa using f3
   exact ⟨fun g => ⟨by simpa using f1, g2, g3, by simpa using f4, g⟩, fun g => g.2.2.2.2⟩
 · rw [Bool.not_eq_true] at hf
   have := zmu aw cw ws smz toh top cyc sn old cpz sr ar cr rs x (fun j : Int => wrap64 (za ws (p + j.toNat))) p w hx hs hn (by omega) hz hf
   refine this.mono ?_
   rintro e w' ⟨he, hb⟩
   refine ⟨false, he, ⟨fun g => by simp at g, fun g => ?_⟩, hb⟩
   exfalso
   obtain ⟨g1, g2, g3, g4, _⟩ := g
   have e2 : wrap64 (za ws (p + 2)) = za ws (p + 2) := za8 w2.1 (by omega)
   rw [i1, i2, i4, e2, zb5 _ w3.1 w3.2 w2.1 (by omega)] at hf
   simp [g1, g2, g3, g4] at hf
open Go.RowKit Go.Maps
def zf1 (mk : Nat -> Int) (ws : List Int) (k : Nat) : Bool := (mk k == 1 || mk k == 2) && !(rdN (za ws k) == 0)
def zap (mk : Nat -> Int) (ws : List Int) : Nat -> List Int
 | 0 => []
 | k + 1 => if zf1 mk ws k = true then zap mk ws k ++ [rdN (za ws k)] else zap mk ws k
theorem zji {mk : Nat -> Int} {ws : List Int} {k : Nat} (h : zf1 mk ws k = true) : zap mk ws (k + 1) = zap mk ws k ++ [rdN (za ws k)] := by simp [zap, h]
theorem zig {mk : Nat -> Int} {ws : List Int} {k : Nat} (h : zf1 mk ws k = false) : zap mk ws (k + 1) = zap mk ws k := by simp [zap, h]
theorem zu1 (mk : Nat -> Int) (ws : List Int) (k : Nat) : (zap mk ws k).length <= k := by
 induction k with
 | zero => simp [zap]
 | succ k ih =>
   simp only [zap]
   split
   · simp; omega
   · omega
theorem zo3 (mk : Nat -> Int) (ws : List Int) {k n : Nat} (h : k <= n) : ∃ t, zap mk ws n = zap mk ws k ++ t := by
 induction n with
 | zero =>
   obtain rfl : k = 0 := by omega
   exact ⟨[], by simp⟩
 | succ n ih =>
   by_cases e : k = n + 1
   · subst e; exact ⟨[], by simp⟩
   · obtain ⟨t, ht⟩ := ih (by omega)
     simp only [zap]
     split
     · exact ⟨t ++ [rdN (za ws n)], by rw [ht]; simp⟩
     · exact ⟨t, ht⟩
theorem zu2 {mk : Nat -> Int} {ws : List Int} {k n : Nat} (hk : k < n) (hs : zf1 mk ws k = true) (h : rdN (za ws k) ∈ zap mk ws k) : ¬ (zap mk ws n).Nodup := fun g => by
 obtain ⟨t, ht⟩ := zo3 mk ws (k := k + 1) (n := n) (by omega)
 rw [ht, zji hs] at g
 exact (List.nodup_append.1 (List.nodup_append.1 g).1).2.2 _ h (rdN (za ws k)) (by simp) rfl
theorem zm1 {B : Nat} {w : World} {v : Value} {zs : List Int} (h : w.ownsRow B 3 1 v zs.length (zs.map (Value.int .i64))) : zaz B w.heap.size 3 w v zs.length zs.length (fun i => .int .i64 (zs.getD i 0)) := by
 obtain ⟨_, ⟨rfl, h0⟩ | ⟨g, cap, cur, rfl, hB, hg, hn, hm, hs, ht⟩⟩ := h
 · exact ⟨none, 0, by rw [h0], .inl h0⟩
 · refine ⟨_, cap, rfl, .inr ⟨g, cur.size, fun i => cur.getD i (.int .i64 0), rfl, hB, ?_, by omega, ?_, fun i hi => ?_⟩⟩
   · exact (Array.getElem?_eq_some_iff.1 hg).1
   · exact ⟨cur, hg, rfl, fun i hi => by simp [hi]⟩
   · have h1 : (cur.toList.take (zs.length * 1))[i]? = some (.int .i64 (zs.getD i 0)) := by rw [ht]; simp [hi]
     rw [List.getElem?_take_of_lt (by omega)] at h1
     have h2 : cur[i]? = some (.int .i64 (zs.getD i 0)) := by simpa using h1
     simp only [Array.getD_eq_getD_getElem?, h2, Option.getD_some]
theorem zrm : (Tryz.prog.info? 3).map (fun i => (i.zero, i.size, i.bytes)) = some (some (.int .i64 0), 1, 8) := by kernel_rfl
theorem ztf {B : Nat} {e : TypeId} {n : Nat} {w w' : World} {v : Value} {xs : List Value} (h : w.ownsRow B e 1 v n xs) (hb : Below w.heap.size w w') : w'.ownsRow B e 1 v n xs := by
 obtain ⟨h1, h | ⟨g, cap, cur, rfl, hB, hg, r⟩⟩ := h
 · exact ⟨h1, .inl h⟩
 · exact ⟨h1, .inr ⟨g, cap, cur, rfl, hB, by rw [hb.block g (Array.getElem?_eq_some_iff.1 hg).1]; exact hg, r⟩⟩
theorem zu3 {zs : List Int} {j : Nat} (h : j < zs.length) : zs.getD j 0 ∈ zs := by
 rw [List.getD_eq_getElem?_getD, List.getElem?_eq_getElem h]; exact List.getElem_mem h
theorem zm2 {zs : List Int} {x : Int} (h : ∀ i, i < zs.length -> zs.getD i 0 ≠ x) : x ∉ zs := fun hx => by
 obtain ⟨i, hi, rfl⟩ := List.getElem_of_mem hx
 exact h i hi (by rw [List.getD_eq_getElem?_getD, List.getElem?_eq_getElem hi]; rfl)
theorem zws {zs : List Int} {x : Int} {j : Nat} (h : ∀ i, i < j -> zs.getD i 0 ≠ x) (hj : ¬ zs.getD j 0 = x) : ∀ i, i < j + 1 -> zs.getD i 0 ≠ x := fun i hi => by
 by_cases e : i = j
 · subst e; exact hj
 · exact h i (by omega)
theorem zu4 {w wr w1 : World} {o o' : Obj} {zs : List Int} {x : Int} {u v' : Value} (hB : Below (w.alloc o').heap.size (w.alloc o') wr) (hown : wr.ownsRow (w.heap.size + 1) 3 1 u zs.length (zs.map (Value.int .i64)))
 (hown' : w1.ownsRow (w.heap.size + 1) 3 1 v' (zs.length + 1) (zs.map (Value.int .i64) ++ [.int .i64 x])) (hgrow : (wr.alloc o).grownBy w1 u.ownBlock) :
 w1.ownsRow (w.heap.size + 1) 3 1 v' (zs ++ [x]).length ((zs ++ [x]).map (Value.int .i64)) /\ Below (w.alloc o').heap.size (w.alloc o') w1 := by
 refine ⟨by simpa using hown', ?_⟩
 have h1 := hB.size
 exact (hB.alloc hB.size o).grown hgrow (by simp at h1; simp; omega) (fun j hj => by have := (hown.lt j hj).1; simp; omega)
set_option maxHeartbeats 2000000 in
theorem zm3 (aw : Option Addr) (cw : Nat) (ws : List Int) (smz toh top : Int) (cyc : Bool) (sn old cpz sr : Int) (ar : Option Addr) (cr : Nat) (rs : List (Int × Int)) (T bm offm cm : Nat) (mk : Nat -> Int) (w : World) (hs : Sl w (.slice aw ws.length cw) ws) (hn : ws.length <= 1048576) (hw : zg ws) (hbm : bm < w.heap.size) (hmc : ∀ i, i < ws.length -> w.cell? ⟨bm, offm + i, none⟩ = some (.int .i64 (mk i))) :
 Calls Tryz.prog 92 #[.agg #[.slice aw ws.length cw, .int .i64 smz, .int .i64 toh, .int .i64 top, .bool cyc, .int .i64 sn, .int .i64 old, .int .i64 cpz, .int .i64 sr, .slice ar rs.length cr], .slice (some ⟨bm, offm, none⟩) ws.length cm] w fun e w' => ∃ q, e = .returned (.bool q) /\ (q = true ↔ (zap mk ws ws.length).Nodup) /\ Below w.heap.size w w' := by
 have hn' : (ws.length : Int) <= 1048576 := by omega
 have hfs := zfw
 have HS : ∀ W, Below (w.alloc (.cells #[.slice aw ws.length cw, .int .i64 smz, .int .i64 toh, .int .i64 top, .bool cyc, .int .i64 sn, .int .i64 old, .int .i64 cpz, .int .i64 sr, .slice ar rs.length cr] 30)).heap.size (w.alloc (.cells #[.slice aw ws.length cw, .int .i64 smz, .int .i64 toh, .int .i64 top, .bool cyc, .int .i64 sn, .int .i64 old, .int .i64 cpz, .int .i64 sr, .slice ar rs.length cr] 30)) W -> Sl W (.slice aw ws.length cw) ws := fun W hW => (zas hs _).below hW
 obtain ⟨i0, hi, hz0, hz1, hz2⟩ := info_parts zrm
 have hst0 : ((w.alloc (.cells #[.slice aw ws.length cw, .int .i64 smz, .int .i64 toh, .int .i64 top, .bool cyc, .int .i64 sn, .int .i64 old, .int .i64 cpz, .int .i64 sr, .slice ar rs.length cr] 30)).alloc (.cells #[] 3)).ownsRow (w.alloc (.cells #[.slice aw ws.length cw, .int .i64 smz, .int .i64 toh, .int .i64 top, .bool cyc, .int .i64 sn, .int .i64 old, .int .i64 cpz, .int .i64 sr, .slice ar rs.length cr] 30)).heap.size 3 1 (.slice (some ⟨(w.alloc (.cells #[.slice aw ws.length cw, .int .i64 smz, .int .i64 toh, .int .i64 top, .bool cyc, .int .i64 sn, .int .i64 old, .int .i64 cpz, .int .i64 sr, .slice ar rs.length cr] 30)).heap.size, 0, none⟩) 0 0) (zap mk ws 0).length ((zap mk ws 0).map (Value.int .i64)) := by
  refine ⟨by simp [zap], .inr ⟨_, 0, #[], rfl, Nat.le_refl _, Go.Deep.blk_alloc_new _ _, Nat.le_refl _, Nat.zero_le _, rfl, by simp [zap]⟩⟩
 have hB0 : Below (w.alloc (.cells #[.slice aw ws.length cw, .int .i64 smz, .int .i64 toh, .int .i64 top, .bool cyc, .int .i64 sn, .int .i64 old, .int .i64 cpz, .int .i64 sr, .slice ar rs.length cr] 30)).heap.size (w.alloc (.cells #[.slice aw ws.length cw, .int .i64 smz, .int .i64 toh, .int .i64 top, .bool cyc, .int .i64 sn, .int .i64 old, .int .i64 cpz, .int .i64 sr, .slice ar rs.length cr] 30)) ((w.alloc (.cells #[.slice aw ws.length cw, .int .i64 smz, .int .i64 toh, .int .i64 top, .bool cyc, .int .i64 sn, .int .i64 old, .int .i64 cpz, .int .i64 sr, .slice ar rs.length cr] 30)).alloc (.cells #[] 3)) := (Below.refl _ _).alloc (Nat.le_refl _) _
 have ez : (w.alloc (.cells #[.slice aw ws.length cw, .int .i64 smz, .int .i64 toh, .int .i64 top, .bool cyc, .int .i64 sn, .int .i64 old, .int .i64 cpz, .int .i64 sr, .slice ar rs.length cr] 30)).heap.size = w.heap.size + 1 := by simp
 rw [ez] at hst0
 clear ez
 go_enter Tryz.func92, Tryz.ntmps92
 go_wp2
 go_loopw [5, 6] (fun u5 u6 wr => ∃ k : Nat, k <= ws.length /\ u6 = .int .i64 k /\ wr.ownsRow (w.heap.size + 1) 3 1 u5 (zap mk ws k).length ((zap mk ws k).map (Value.int .i64)) /\ (zap mk ws k).Nodup /\ Below (w.alloc (.cells #[.slice aw ws.length cw, .int .i64 smz, .int .i64 toh, .int .i64 top, .bool cyc, .int .i64 sn, .int .i64 old, .int .i64 cpz, .int .i64 sr, .slice ar rs.length cr] 30)).heap.size (w.alloc (.cells #[.slice aw ws.length cw, .int .i64 smz, .int .i64 toh, .int .i64 top, .bool cyc, .int .i64 sn, .int .i64 old, .int .i64 cpz, .int .i64 sr, .slice ar rs.length cr] 30)) wr) (fun _ u6 _ => ws.length - (intOf u6).toNat)
 case atStart => exact ⟨0, Nat.zero_le _, rfl, hst0, by simp [zap], hB0⟩
 case round =>
  obtain ⟨k, hk, rfl, hown, hnd, hB⟩ := hrel
  clear hst0 hB0
  obtain ⟨k0, k1, k2, k3, k4, k5, k6, k7, k8, k9⟩ := zbx hB
  have hOF := zm1 hown
  obtain ⟨ah, ch, rfl⟩ := hOF.sl.head
  have hlen := zu1 mk ws k
  by_cases hlt : k < ws.length
  · have hlt' : (k : Int) < (ws.length : Int) := by omega
    have q : wr.cell? ⟨bm, offm + k, none⟩ = some (.int .i64 (mk k)) := by
     rw [(zd hB).cell (p := ⟨bm, offm + k, none⟩) hbm]; exact hmc k hlt
    by_cases hm : (mk k == 1 || mk k == 2) = true
    · have hm' : mk k = 1 \/ mk k = 2 := by simpa using hm
      have hNb := zgc (za ws k)
      clear hOF
      rcases hm' with hmu | hmu
      all_goals
       rw [hmu] at q
       go_wp2_with fail
       refine (zbr _ _ _ _ _ _ _ _ _ _ _ _ _ _ _ k _ rfl (HS _ hB) hn hw hlt).mono ?_
       rintro e w2 ⟨rfl, b2⟩
       have hB2 := zc hB b2
       have hown2 := ztf hown b2
       have hOF2 := zm1 hown2
       clear hB hown b2 k0 k1 k2 k3 k4 k5 k6 k7 k8 k9 q
       obtain ⟨k0, k1, k2, k3, k4, k5, k6, k7, k8, k9⟩ := zbx hB2
       by_cases hz : rdN (za ws k) = 0
       · have hz' : (rdN (za ws k) == 0) = true := by simpa using hz
         have e := zig (mk := mk) (ws := ws) (k := k) (by simp [zf1, hz])
         clear hz hOF2
         go_wp2
         go_roundw
         case rel => exact ⟨k + 1, by omega, by go_num, by rw [e]; exact hown2, by rw [e]; exact hnd, hB2⟩
         case measure => simp [intOf]; omega
       · have hz' : (rdN (za ws k) == 0) = false := by simpa using hz
         have hsel : zf1 mk ws k = true := by simp [zf1, hm, hz]
         have e := zji hsel
         have hln' : ((zap mk ws k).length : Int) <= 1048576 := by omega
         obtain ⟨a', c', he', hcase⟩ := hOF2
         simp only [Value.slice.injEq] at he'
         obtain ⟨rfl, _, rfl⟩ := he'
         go_wp2
         go_loopw [8] (fun u8 wq => ∃ j : Nat, j <= (zap mk ws k).length /\ u8 = .int .i64 j /\ (∀ i, i < j -> (zap mk ws k).getD i 0 ≠ rdN (za ws k)) /\ wq = w2) (fun u8 _ => (zap mk ws k).length - (intOf u8).toNat)
         case atStart => exact ⟨0, Nat.zero_le _, rfl, fun i hi => absurd hi (by omega), rfl⟩
         case round =>
          obtain ⟨j, hj, rfl, hall, rfl⟩ := hrel
          by_cases hjl : j < (zap mk ws k).length
          · rcases hcase with h0 | ⟨g, M, gg, rfl, hgB, hgT, hgM, hgr, hgf⟩
            · omega
            have hjl' : (j : Int) < ((zap mk ws k).length : Int) := by omega
            have qj : wr.cell? ⟨g, j, none⟩ = some (.int .i64 ((zap mk ws k).getD j 0)) := by rw [hgr.cell (by omega), hgf j hjl]
            by_cases heq : (zap mk ws k).getD j 0 = rdN (za ws k)
            · have hmem : rdN (za ws k) ∈ zap mk ws k := by rw [<- heq]; exact zu3 hjl
              have hbad := zu2 hlt hsel hmem
              rw [heq] at qj
              have HB : Hid (¬ (zap mk ws ws.length).Nodup) := hbad
              clear hbad heq hall
              go_wp2
              go_ret
              exact ⟨_, rfl, ⟨fun g => by simp at g, fun g => absurd g HB.out⟩, zd hB2⟩
            · have hq2 := zws hall heq
              obtain ⟨zj, hzj⟩ : ∃ zj, zj = (zap mk ws k).getD j 0 := ⟨_, rfl⟩
              rw [<- hzj] at qj heq
              have heq' : (zj == rdN (za ws k)) = false := by simpa using heq
              clear heq hzj hall
              go_wp2
              go_roundw
              case rel => exact ⟨j + 1, by omega, by go_num, hq2, by trivial⟩
              case measure => simp [intOf]; omega
          · obtain rfl : j = (zap mk ws k).length := by omega
            have hnm : rdN (za ws k) ∉ zap mk ws k := zm2 hall
            have hnd2 : (zap mk ws (k + 1)).Nodup := by
             rw [e, List.nodup_append]
             exact ⟨hnd, by simp, fun a ha c hc => by simp at hc; subst hc; intro e2; subst e2; exact hnm ha⟩
            clear hall hcase hnm
            go_wp2_with (at_builtin; refine wpList_append_own _ rfl _ _ 64 rfl (w.heap.size + 1) 3 i0 (.int .i64 0) 1 8 Tryz.underlying64 hi hz0 hz1 hz2 rfl (by decide) _ (zap mk ws k).length ((zap mk ws k).map (Value.int .i64)) rfl (hown2.alloc _) ⟨wr.heap.size, 0, none⟩ 1 1 [.int .i64 (rdN (za ws k))] rfl rfl (cell_one_new _ _ _) (ints_oneCell .i64 [rdN (za ws k)]) (by unfold maxLen; omega) (by omega) (by have := hB2.size; simp at this; simp; omega) ?_)
            intro v' w3 hown3 hgrow _
            have R := zu4 hB2 hown2 hown3 hgrow
            clear hown3 hgrow hown2 hB2
            go_wp2
            go_roundw
            case rel => exact ⟨k + 1, by omega, by go_num, by rw [e]; exact R.1, hnd2, R.2⟩
            case measure => simp [intOf]; omega
    · have e1 : (mk k != 1) = true := by simp only [Bool.not_eq_true, Bool.or_eq_false_iff] at hm; simpa using hm.1
      have e2 : (mk k != 2) = true := by simp only [Bool.not_eq_true, Bool.or_eq_false_iff] at hm; simpa using hm.2
      have e := zig (mk := mk) (ws := ws) (k := k) (by simp [zf1, hm])
      clear hOF
      go_wp2
      go_roundw
      case rel => exact ⟨k + 1, by omega, by go_num, by rw [e]; exact hown, by rw [e]; exact hnd, hB⟩
      case measure => simp [intOf]; omega
  · obtain rfl : k = ws.length := by omega
    go_wp2
    go_ret
    exact ⟨_, rfl, ⟨fun _ => hnd, fun _ => rfl⟩, zd hB⟩
end Go.Proofs.YtmckcnmlhgpnhaaGreat
