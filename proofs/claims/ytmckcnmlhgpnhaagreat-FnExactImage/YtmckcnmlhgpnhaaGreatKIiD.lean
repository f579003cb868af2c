/- The program's Image. -/
import Derived.Test.YtmckcnmlhgpnhaaGreatKIiC
import Derived.Test.YtmckcnmlhgpnhaaGreatKAllA
namespace Go.Proofs.YtmckcnmlhgpnhaaGreat
set_option maxRecDepth 20000
open Go.RowKit Go.Maps
set_option linter.unusedSimpArgs false
set_option linter.unusedVariables false

theorem bytesU_append (a b : List Int) : bytesU (a ++ b) = bytesU a ++ bytesU b := by simp [bytesU]
def pcs (ws : List Int) (S T F O : Nat) : Nat → List Int
  | 0 => []
  | 1 => cutW ws S T
  | _ => cutW ws S T ++ cutW ws F O
theorem own_parts {w : World} {B n : Nat} {t : TypeId} {v : Value} {xs : List Value} (h : w.ownsRow B t 1 v n xs) (h0 : 0 < n) : ∃ g c, v = .slice (some ⟨g, 0, none⟩) n c ∧ B ≤ g ∧ g < w.heap.size ∧ ∀ i u, xs[i]? = some u → w.cell? ⟨g, i, none⟩ = some u := by
  have h1 := h
  obtain ⟨_, ⟨_, h2⟩ | ⟨g, cap, cur, rfl, hB, hg, hn, hm, hs, ht⟩⟩ := h
  · omega
  · refine ⟨g, cap, rfl, hB, (Array.getElem?_eq_some_iff.1 hg).1, fun i u hu => ?_⟩
    have hi : i < xs.length := (List.getElem?_eq_some_iff.1 hu).1
    have hl : xs.length = n * 1 := h1.1
    rw [World.ownsRow.cellAt h1 i (by omega)]
    exact hu
theorem cutW_cell {ws : List Int} {S T j : Nat} (hT : T ≤ ws.length) (hj : j < T - S) : (some (Value.int .u64 (wordAt ws (S + j))) : Option Value) = some (.int .u64 ((cutW ws S T).getD j 0)) := by
  have hl : j < (cutW ws S T).length := by rw [cutW]; simp; omega
  rw [← cutW_at hT hj, ucl_at _ _ hl]
theorem cutW_rng {ws : List Int} (hw : Words64 ws) {S T i : Nat} (hT : T ≤ ws.length) (hi : i < (cutW ws S T).length) : 0 ≤ (cutW ws S T).getD i 0 ∧ (cutW ws S T).getD i 0 < 18446744073709551616 := by
  have hj : i < T - S := by rw [cutW] at hi; simp at hi; omega
  have h := cutW_cell hT hj
  simp only [Option.some.injEq, Value.int.injEq, true_and] at h
  rw [← h]
  exact word_in hw _
theorem bytesU_in {l : List Int} (hz : ∀ z ∈ l, 0 ≤ z ∧ z < 18446744073709551616) : ∀ x ∈ bytesU l, 0 ≤ x ∧ x < 256 := fun x hx => by
  unfold bytesU at hx
  obtain ⟨z, h1, h2⟩ := List.mem_flatMap.1 hx
  unfold le8 at h2
  obtain ⟨i, _, rfl⟩ := List.mem_map.1 h2
  omega
theorem u64of_in (z : Int) : 0 ≤ u64of z ∧ u64of z < 18446744073709551616 := by
  unfold u64of
  rw [IntKind.wrap_u64]
  omega
set_option maxHeartbeats 8000000 in
theorem implImage_false (b off cw : Nat) (ws : List Int) (semi toh scan old copied serial : Int) (ar : Option Addr) (cr : Nat) (rs : List (Int × Int)) (y : Nat → Int) (w : World) (S T F O : Nat) (hb : b < w.heap.size) (hc : ∀ i, i < ws.length → w.cell? ⟨b, off + i, none⟩ = some (.int .u64 (wordAt ws i))) (hcw : ws.length ≤ cw) (hn : ws.length ≤ 8000) (hw : Words64 ws) (hrt : SlF w.heap.size w (.slice ar rs.length cr) rs.length (2 * rs.length) (fun i => .int .i64 (y i))) (hrl : rs.length ≤ 24)
    (s0 : 256 ≤ semi) (s1 : semi ≤ 4000) (t0 : 0 ≤ toh) (t1 : toh ≤ 1) (hS : toh * semi + 1 = S) (hST : S ≤ T) (hT : T ≤ ws.length) (hS2 : S < ws.length) (n1 : 0 ≤ scan ∧ scan ≤ 100000) (n2 : 0 ≤ old ∧ old ≤ 100000) (n3 : 0 ≤ copied ∧ copied ≤ 100000) (n4 : 0 ≤ serial ∧ serial ≤ 10000000000)
    (hok : ArOk ws semi toh (T : Int) false scan old copied serial y rs.length) (hIn : (∀ z ∈ imgL ws semi toh (T : Int) false scan old copied serial y rs.length S T F O, 0 ≤ z ∧ z < 18446744073709551616) ∧ (imgL ws semi toh (T : Int) false scan old copied serial y rs.length S T F O).length ≤ 16060) :
    Calls Tryz.prog 21 #[.agg #[.slice (some ⟨b, off, none⟩) ws.length cw, .int .i64 semi, .int .i64 toh, .int .i64 (T : Int), .bool false, .int .i64 scan, .int .i64 old, .int .i64 copied, .int .i64 serial, .slice ar rs.length cr]] w fun e w' => ∃ v, e = .returned (.tuple #[v, .bool true]) ∧ BR w.heap.size w' v (bytesU (imgL ws semi toh (T : Int) false scan old copied serial y rs.length S T F O)) ∧ Below w.heap.size w w' := by
  have HS : Hid (Sl w (.slice (some ⟨b, off, none⟩) ws.length cw) ws) := ar_sl hb hc
  have HC : Hid (∀ i, i < ws.length → w.cell? ⟨b, off + i, none⟩ = some (.int .u64 (wordAt ws i))) := hc
  have HR : Hid (SlF w.heap.size w (.slice ar rs.length cr) rs.length (2 * rs.length) (fun i => .int .i64 (y i))) := hrt
  have HQ : Hid (ArOk ws semi toh (T : Int) false scan old copied serial y rs.length) := hok
  have HIN : Hid ((∀ z ∈ imgL ws semi toh (T : Int) false scan old copied serial y rs.length S T F O, 0 ≤ z ∧ z < 18446744073709551616) ∧ (imgL ws semi toh (T : Int) false scan old copied serial y rs.length S T F O).length ≤ 16060) := hIn
  have hrl' : (rs.length : Int) ≤ 24 := by omega
  clear hc hrt hok hIn
  go_enter Tryz.func21, Tryz.ntmps21
  go_wp2_with fail
  refine (implArenaOk_at _ _ _ _ _ _ _ _ _ _ _ _ _ _ y w.heap.size _ (HS.out.below (below_first (Below.refl _ _))) hcw (by omega) hw (HR.out.below (below_first (Below.refl _ _)) (Nat.le_refl _)) (by omega)).mono ?_
  rintro e w1 ⟨q, rfl, hq, b1⟩
  obtain rfl := hq.2 HQ.out
  have B1 : Hid (Below w.heap.size w w1) := below_first b1
  have k1 := one_cells b1 (by simp)
  have z1 := size_first b1
  have K1 : Hid (∀ i, w1.cell? ⟨w.heap.size, i, none⟩ = (#[.slice (some ⟨b, off, none⟩) ws.length cw, .int .i64 semi, .int .i64 toh, .int .i64 (T : Int), .bool false, .int .i64 scan, .int .i64 old, .int .i64 copied, .int .i64 serial, .slice ar rs.length cr] : Array Value)[i]?) := k1
  clear b1 hq HQ
  obtain ⟨A9, hA9⟩ : ∃ A, A = [semi, toh, (T : Int), 0, scan, old, copied, serial, (rs.length : Int)] := ⟨_, rfl⟩
  have HA9 : Hid (A9 = [semi, toh, (T : Int), 0, scan, old, copied, serial, (rs.length : Int)]) := hA9
  go_wp2_with fail
  refine (layI_at w1.heap.size (.slice none 0 0) [] [semi, toh, (T : Int), 0, scan, old, copied, serial, (rs.length : Int)] (some ⟨w1.heap.size, 0, none⟩) 9 (fun i => [semi, toh, (T : Int), 0, scan, old, copied, serial, (rs.length : Int)].getD i 0) _ (BR.nil _ _) (by simp) (by simp) (fun i hi => ?nine) (.inr ⟨_, 0, rfl, by simp, by simp [Value.ownBlock], fun i hi => ?cells⟩) (fun i hi => ?wraps)).mono ?_
  case nine =>
    have : i < 9 := by simpa using hi
    rcases (by omega : i = 0 ∨ i = 1 ∨ i = 2 ∨ i = 3 ∨ i = 4 ∨ i = 5 ∨ i = 6 ∨ i = 7 ∨ i = 8) with rfl | rfl | rfl | rfl | rfl | rfl | rfl | rfl | rfl <;> simp <;> omega
  case cells =>
    have : i < 9 := by simpa using hi
    rcases (by omega : i = 0 ∨ i = 1 ∨ i = 2 ∨ i = 3 ∨ i = 4 ∨ i = 5 ∨ i = 6 ∨ i = 7 ∨ i = 8) with rfl | rfl | rfl | rfl | rfl | rfl | rfl | rfl | rfl <;> simp [go_sem]
  case wraps =>
    have : i < 9 := by simpa using hi
    rcases (by omega : i = 0 ∨ i = 1 ∨ i = 2 ∨ i = 3 ∨ i = 4 ∨ i = 5 ∨ i = 6 ∨ i = 7 ∨ i = 8) with rfl | rfl | rfl | rfl | rfl | rfl | rfl | rfl | rfl <;> simp <;> (first | rfl | (rw [IntKind.wrap_u64]; omega))
  rintro e w2 ⟨v2, rfl, U2, G2⟩
  rw [List.nil_append] at U2
  have hG : Below w1.heap.size w1 w2 := ((Below.refl w1.heap.size w1).alloc (Nat.le_refl _) _).trans (G2.below (by simp) (fun k hk => by simp [Value.ownBlock] at hk))
  have k2 : Hid (∀ i, w2.cell? ⟨w.heap.size, i, none⟩ = (#[.slice (some ⟨b, off, none⟩) ws.length cw, .int .i64 semi, .int .i64 toh, .int .i64 (T : Int), .bool false, .int .i64 scan, .int .i64 old, .int .i64 copied, .int .i64 serial, .slice ar rs.length cr] : Array Value)[i]?) := has_below k1 hG (by omega)
  have B2 : Hid (Below w1.heap.size w1 w2) := hG
  have HU2 : Hid (BR w1.heap.size w2 v2 (bytesU (A9 ++ imgR y 0))) := by show BR _ _ _ _; rw [HA9.out]; simpa [imgR] using U2
  have z2 : w1.heap.size ≤ w2.heap.size := hG.size
  have k20 := k2.out 9
  have l9 : A9.length = 9 := by rw [hA9]; rfl
  clear U2 G2 hG k1 hA9
  simp at k20
  go_wp2_with fail
  clear k20
  go_loopw [5, 7, 38] (fun u5 _ u38 wr => ∃ (k : Nat) (u : Value), k ≤ rs.length ∧ u = u5 ∧ u38 = .int .i64 k ∧ BR w1.heap.size wr u (bytesU (A9 ++ imgR y k)) ∧ Below w1.heap.size w1 wr) (fun _ _ u38 _ => rs.length - (intOf u38).toNat)
  case atStart => exact ⟨0, _, Nat.zero_le _, rfl, rfl, HU2.out, B2.out⟩
  case round =>
    obtain ⟨k, u, hk, rfl, rfl, hU, hF⟩ := hrel
    have zr : w1.heap.size ≤ wr.heap.size := hF.size
    have BW : Below w.heap.size w wr := B1.out.trans (hF.mono (by omega))
    by_cases hlt : k < rs.length
    · have hlt' : (k : Int) < (rs.length : Int) := by omega
      obtain ⟨br, offr, cap', hv, _, lbr, hcr⟩ := HR.out.parts (k := 0) (by omega)
      simp only [Value.slice.injEq] at hv
      obtain ⟨rfl, _, rfl⟩ := hv
      obtain ⟨t, ht⟩ : ∃ t, t = y (2 * k) := ⟨_, rfl⟩
      obtain ⟨m, hm⟩ : ∃ m, m = y (2 * k + 1) := ⟨_, rfl⟩
      have x0 : wr.cell? ⟨br, offr + k * 2, none⟩ = some (.int .i64 t) := by rw [BW.cell (p := ⟨br, offr + k * 2, none⟩) lbr, ht, Nat.mul_comm]; exact hcr (2 * k) (by omega)
      have x1 : wr.cell? ⟨br, offr + k * 2 + 1, none⟩ = some (.int .i64 m) := by rw [BW.cell (p := ⟨br, offr + k * 2 + 1, none⟩) lbr, hm, Nat.mul_comm]; exact hcr (2 * k + 1) (by omega)
      have HT : Hid (bytesU (A9 ++ imgR y (k + 1)) = bytesU (A9 ++ imgR y k) ++ bytesU [u64of t, u64of m]) := by show _ = _; rw [ht, hm, ← bytesU_append, List.append_assoc]; rfl
      have hXl : (bytesU (A9 ++ imgR y k)).length ≤ 8 * 60 := by rw [bytesU_len, List.length_append, imgR_len, l9]; omega
      have HU : Hid (BR w1.heap.size wr u (bytesU (A9 ++ imgR y k))) := hU
      have HF : Hid (Below w1.heap.size w1 wr) := hF
      obtain ⟨wb, hwb⟩ : ∃ V, V = wr.alloc (.cells #[.int .i64 t, .int .i64 m] 48) := ⟨_, rfl⟩
      have Bb : Below wr.heap.size wr wb := by rw [hwb]; exact (Below.refl _ _).alloc (Nat.le_refl _) _
      have y0 : wb.cell? ⟨wr.heap.size, 0, none⟩ = some (.int .i64 t) := by rw [hwb]; simp [go_sem]
      have y1 : wb.cell? ⟨wr.heap.size, 1, none⟩ = some (.int .i64 m) := by rw [hwb]; simp [go_sem]
      have HBb : Hid (Below wr.heap.size wr wb) := Bb
      clear hU hF hcr ht hm BW Bb
      go_upto_region 10 with fail
      rw [← hwb]
      clear hwb x0 x1
      have Ub : BR w1.heap.size (wb.alloc (.cells #[.int .i64 t, .int .i64 m] 3)) u (bytesU (A9 ++ imgR y k)) := (HU.out.below HBb.out).alloc _
      have hown : ∀ g, u.ownBlock = some g → w1.heap.size ≤ g ∧ g < wb.heap.size := (HU.out.below HBb.out).lt
      have zb : w1.heap.size ≤ wb.heap.size := by have := HBb.out.size; omega
      have HLY : Hid (Calls Tryz.prog 68 #[u, .slice (some ⟨wb.heap.size, 0, none⟩) 2 2] (wb.alloc (.cells #[.int .i64 t, .int .i64 m] 3)) fun e w' => ∃ v', e = .returned v' ∧ BR w1.heap.size w' v' (bytesU (A9 ++ imgR y k) ++ bytesU [u64of t, u64of m]) ∧ Gr (wb.alloc (.cells #[.int .i64 t, .int .i64 m] 3)) w' u v') := by
        refine layI_at w1.heap.size u _ [u64of t, u64of m] (some ⟨wb.heap.size, 0, none⟩) 2 (fun i => [t, m].getD i 0) _ Ub (by simp; omega) (by simp; omega) (fun i hi => ?_) (.inr ⟨_, 0, rfl, by simp, fun e => by have := (hown _ e).2; omega, fun i hi => ?_⟩) (fun i hi => ?_)
        all_goals
          have hi2 : i < 2 := by simpa using hi
          rcases (by omega : i = 0 ∨ i = 1) with rfl | rfl
        · have := u64of_in t; simpa using this
        · have := u64of_in m; simpa using this
        · simp [go_sem]
        · simp [go_sem]
        · rfl
        · rfl
      have hB3 : Hid (∀ W v', Gr (wb.alloc (.cells #[.int .i64 t, .int .i64 m] 3)) W u v' → Below w1.heap.size w1 W) := fun W v' h => ((HF.out.trans (HBb.out.mono zr)).alloc zb _).trans (h.below (by simp; omega) (fun g hg => (hown g hg).1))
      clear Ub hown HU
      go_wp2_with fail
      refine HLY.out.mono ?_
      rintro e w3 ⟨v3, rfl, U3, G3⟩
      have HU3 : Hid (BR w1.heap.size w3 v3 (bytesU (A9 ++ imgR y (k + 1)))) := by show BR _ _ _ _; rw [HT.out]; exact U3
      have B3 : Hid (Below w1.heap.size w1 w3) := hB3.out _ _ G3
      clear U3 G3 HLY hB3 y0 y1
      go_wp2
      go_roundw
      case rel => exact ⟨k + 1, _, by omega, rfl, by go_num, HU3.out, B3.out⟩
      case measure => simp [intOf]; omega
    · have hge : (rs.length : Int) ≤ (k : Int) := by omega
      obtain rfl : k = rs.length := by omega
      obtain ⟨X, hX⟩ : ∃ X, X = A9 ++ imgR y rs.length := ⟨_, rfl⟩
      have HX : Hid (X = A9 ++ imgR y rs.length) := hX
      rw [← hX] at hU
      have hXl : X.length ≤ 60 := by rw [hX, List.length_append, imgR_len, l9]; omega
      have kr := has_below K1.out hF z1
      have HU : Hid (BR w1.heap.size wr u (bytesU X)) := hU
      have HF : Hid (Below w1.heap.size w1 wr) := hF
      have hown := hU.lt
      clear hU hF BW hX HU2 B2 k2
      go_wp2_with fail
      refine (imaged_false b off cw ws semi toh scan old copied serial ar cr rs wr S T F O hcw hn s0 s1 t0 t1 hS hST hT hS2).mono ?_
      rintro e w4 ⟨v4, rfl, P4, b4⟩
      obtain ⟨g, c4, rfl, hg1, hg2, hgc⟩ := own_parts P4 (by omega)
      have HU4 : Hid (BR w1.heap.size w4 u (bytesU X)) := HU.out.below b4
      have B4 : Hid (Below w1.heap.size w1 w4) := HF.out.trans (b4.mono zr)
      have zz4 : w1.heap.size ≤ w4.heap.size := B4.out.size
      have hng : u.ownBlock ≠ some g := fun e => by have := (hown _ e).2; omega
      have PC0 : w4.cell? ⟨g, 0, none⟩ = some (.slice (some ⟨b, off + S, none⟩) (T - S) (cw - S)) := hgc 0 _ rfl
      clear P4 b4 hgc hown HU HF kr
      go_wp2_with fail
      go_loopw [5, 9, 53] (fun u5 _ u53 wr => ∃ (k : Nat) (u2 : Value), k ≤ 1 ∧ u2 = u5 ∧ u53 = .int .i64 k ∧ BR w1.heap.size wr u2 (bytesU (X ++ pcs ws S T F O k)) ∧ Gr w4 wr u u2) (fun _ _ u53 _ => 1 - (intOf u53).toNat)
      case atStart => exact ⟨0, _, Nat.zero_le _, rfl, rfl, by have := HU4.out; simpa [pcs] using this, Gr.refl _ _⟩
      case round =>
        obtain ⟨k, u2, hk, rfl, rfl, hU, hG⟩ := hrel
        have hF : Below w1.heap.size w1 wr := B4.out.trans (hG.below zz4 (fun j hj => (HU4.out.lt j hj).1))
        have zr2 : w1.heap.size ≤ wr.heap.size := hF.size
        have BW : Below w.heap.size w wr := B1.out.trans (hF.mono (by omega))
        have hown := hU.lt
        have hnb : u2.ownBlock ≠ some b := fun e => by have := (hown _ e).1; have := B1.out.size; omega
        have lbr : b < wr.heap.size := by have := BW.size; omega
        have HWC : Hid (∀ i, i < ws.length → wr.cell? ⟨b, off + i, none⟩ = some (.int .u64 (wordAt ws i))) := fun i hi => by rw [BW.cell (p := ⟨b, off + i, none⟩) hb]; exact HC.out i hi
        have HU5 : Hid (BR w1.heap.size wr u2 (bytesU (X ++ pcs ws S T F O k))) := hU
        have HG5 : Hid (Gr w4 wr u u2) := hG
        by_cases hlt : k < 1
        · have hlt' : (k : Int) < 1 := by omega
          obtain rfl : k = 0 := by omega
          have x9 : wr.cell? ⟨g, 0, none⟩ = some (.slice (some ⟨b, off + S, none⟩) (T - S) (cw - S)) := by rw [hG.cell hg2 hng]; exact PC0
          have HLY : Hid (Calls Tryz.prog 70 #[u2, .slice (some ⟨b, off + S, none⟩) (T - S) (cw - S)] wr fun e w' => ∃ v', e = .returned v' ∧ BR w1.heap.size w' v' (bytesU (X ++ pcs ws S T F O 0) ++ bytesU (cutW ws S T)) ∧ Gr wr w' u2 v') := by
            have h := layU_at w1.heap.size u2 _ (cutW ws S T) (some ⟨b, off + S, none⟩) (cw - S) wr hU zr2 (by rw [cutW_len (by omega) (by omega), bytesU_len]; simp [pcs, cutW_len hST hT]; omega) (fun i hi => cutW_rng hw (by omega) hi) (.inr ⟨b, off + S, rfl, lbr, hnb, fun i hi => by
              rw [cutW_len (by omega) (by omega)] at hi
              have h1 := HWC.out (S + i) (by omega)
              rw [Nat.add_assoc, h1]
              exact cutW_cell (by omega) hi⟩)
            rw [cutW_len (by omega) (by omega)] at h
            exact h
          have HN : Hid (bytesU (X ++ pcs ws S T F O 0) ++ bytesU (cutW ws S T) = bytesU (X ++ pcs ws S T F O 1)) := by show _ = _; simp [← bytesU_append, pcs]
          clear hU hG hF BW hnb HWC hown HU5
          go_wp2_with (go_at_call 70; refine HLY.out.mono ?_; rintro e w5 ⟨v5, rfl, U5, G5⟩)
          have HU6 : Hid (BR w1.heap.size w5 v5 (bytesU (X ++ pcs ws S T F O 1))) := by show BR _ _ _ _; rw [← HN.out]; exact U5
          have HG6 : Hid (Gr w4 w5 u v5) := HG5.out.trans G5
          clear U5 G5 HG5
          go_roundw
          case rel => exact ⟨1, _, by omega, rfl, by go_num, HU6.out, HG6.out⟩
          case measure => simp [intOf]
        · have hge : (1 : Int) ≤ (k : Int) := by omega
          obtain rfl : k = 1 := by omega
          obtain ⟨W, hW⟩ : ∃ W, W = X ++ pcs ws S T F O 1 := ⟨_, rfl⟩
          have hWI : imgL ws semi toh (T : Int) false scan old copied serial y rs.length S T F O = W ++ [sumU W] := by
            have : imgW ws semi toh (T : Int) false scan old copied serial y rs.length S T F O = W := by
              rw [hW, HX.out, HA9.out]
              simp [imgW, pcs]
            unfold imgL
            rw [this]
          have hIN := HIN.out
          rw [hWI] at hIN
          have hWl : W.length ≤ 16060 := by have := hIN.2; simp at this; omega
          have hWz : ∀ z ∈ W, 0 ≤ z ∧ z < 18446744073709551616 := fun z hz => hIN.1 z (by simp [hz])
          have hsm := hIN.1 (sumU W) (by simp)
          rw [← hW] at hU
          obtain ⟨a5, c5, rfl⟩ := hU.form
          have hBL : (bytesU W).length = 8 * W.length := bytesU_len W
          have HWI : Hid (imgL ws semi toh (T : Int) false scan old copied serial y rs.length S T F O = W ++ [sumU W]) := hWI
          have HNB : Hid (numsB (bytesU W) W.length = W) := numsB_bytesU hWz
          have HB5 : Hid (BR w1.heap.size wr (.slice a5 (bytesU W).length c5) (bytesU W)) := hU
          have HRN : Hid (Calls Tryz.prog 72 #[.slice a5 (bytesU W).length c5] wr fun e w' => e = .returned (.slice (some ⟨wr.heap.size, 0, none⟩) W.length W.length) ∧ UR wr.heap.size w' (.slice (some ⟨wr.heap.size, 0, none⟩) W.length W.length) (numsB (bytesU W) W.length) ∧ Below wr.heap.size wr w') := readN_at W.length (bytesU W) hBL (by omega) (bytesU_in hWz) a5 c5 wr hU.sl
          have BWE : Hid (Below w.heap.size w wr) := BW
          clear hU hG HG5 HU5 hW hWI hIN hF BW hnb HWC
          obtain ⟨L8, hL8⟩ : ∃ n, n = (bytesU W).length := ⟨_, rfl⟩
          rw [← hL8] at HB5 HRN hBL hown ⊢
          have HBL : Hid (L8 = 8 * W.length) := hBL
          have HL8 : Hid ((bytesU W).length = L8) := hL8.symm
          clear hBL hL8
          go_wp2_with fail
          refine HRN.out.mono ?_
          rintro e w6 ⟨rfl, U6, b6⟩
          rw [HNB.out] at U6
          have HU6 : Hid (UR wr.heap.size w6 (.slice (some ⟨wr.heap.size, 0, none⟩) W.length W.length) W) := U6
          have HB6 : Hid (BR w1.heap.size w6 (.slice a5 L8 c5) (bytesU W)) := HB5.out.below b6
          have hb6 : Hid (Below wr.heap.size wr w6) := b6
          clear U6 b6 HRN HB5
          go_wp2_with fail
          refine (sumOf_at W (some ⟨wr.heap.size, 0, none⟩) W.length _ w6 (by omega) HU6.out.sl).mono ?_
          rintro e w' ⟨rfl, he⟩
          subst he
          have hown6 := HB6.out.lt
          obtain ⟨w7, hw7⟩ : ∃ V, V = w'.alloc (.cells #[.int .u64 (sumU W)] 100) := ⟨_, rfl⟩
          have b7 : Below w'.heap.size w' w7 := by rw [hw7]; exact (Below.refl _ _).alloc (Nat.le_refl _) _
          have c7 : w7.cell? ⟨w'.heap.size, 0, none⟩ = some (.int .u64 (sumU W)) := by rw [hw7]; simp [go_sem]
          have l7 : w'.heap.size < w7.heap.size := by rw [hw7]; simp
          have hz6 : wr.heap.size ≤ w'.heap.size := hb6.out.size
          have HLY : Hid (Calls Tryz.prog 70 #[.slice a5 L8 c5, .slice (some ⟨w'.heap.size, 0, none⟩) 1 1] w7 fun e w' => ∃ v', e = .returned v' ∧ BR w1.heap.size w' v' (bytesU W ++ bytesU [sumU W]) ∧ Gr w7 w' (.slice a5 L8 c5) v') :=
            layU_at w1.heap.size (.slice a5 L8 c5) _ [sumU W] (some ⟨w'.heap.size, 0, none⟩) 1 w7 (HB6.out.below b7) (by omega) (by rw [HL8.out, HBL.out]; simp; omega) (fun i hi => by obtain rfl : i = 0 := (by simpa using hi); simpa using hsm) (.inr ⟨_, 0, rfl, l7, fun e => by have := (hown6 _ e).2; omega, fun i hi => by obtain rfl : i = 0 := (by simpa using hi); simpa using c7⟩)
          have HGB : Hid (∀ V v', Gr w7 V (.slice a5 L8 c5) v' → Below w.heap.size w V) := fun V v' h => BWE.out.trans ((hb6.out.mono (by omega)).trans ((b7.mono (by omega)).trans (h.below (by omega) (fun j hj => by have := (hown6 j hj).1; omega))))
          clear c7 b7 hown hown6 HB6
          go_upto_region 18 with (first | (go_at_call 70; rw [← hw7]; refine HLY.out.mono ?_; rintro e w8 ⟨v8, rfl, U8, G8⟩; have HU8 : Hid (BR w.heap.size w8 v8 (bytesU (imgL ws semi toh (T : Int) false scan old copied serial y rs.length S T F O))) := (by show BR _ _ _ _; rw [HWI.out, bytesU_append]; exact U8.mono (by omega)); have B8 : Hid (Below w.heap.size w w8) := HGB.out _ _ G8; clear U8 G8))
          refine bodyPost_ret (v := .tuple #[v8, .bool true]) (by simp [results, Tryz.results21, go_sem]) rfl ?_
          exact ⟨_, rfl, HU8.out, B8.out⟩
set_option maxHeartbeats 8000000 in
theorem implImage_true (b off cw : Nat) (ws : List Int) (semi toh scan old copied serial : Int) (ar : Option Addr) (cr : Nat) (rs : List (Int × Int)) (y : Nat → Int) (w : World) (S T F O : Nat) (hb : b < w.heap.size) (hc : ∀ i, i < ws.length → w.cell? ⟨b, off + i, none⟩ = some (.int .u64 (wordAt ws i))) (hcw : ws.length ≤ cw) (hn : ws.length ≤ 8000) (hw : Words64 ws) (hrt : SlF w.heap.size w (.slice ar rs.length cr) rs.length (2 * rs.length) (fun i => .int .i64 (y i))) (hrl : rs.length ≤ 24)
    (s0 : 256 ≤ semi) (s1 : semi ≤ 4000) (t0 : 0 ≤ toh) (t1 : toh ≤ 1) (hS : toh * semi + 1 = S) (hST : S ≤ T) (hT : T ≤ ws.length) (hS2 : S < ws.length) (hF : (1 - toh) * semi + 1 = F) (hFO : F ≤ O) (hO : O ≤ ws.length) (hF2 : F < ws.length) (n1 : 0 ≤ scan ∧ scan ≤ 100000) (n2 : 0 ≤ (O : Int) ∧ (O : Int) ≤ 100000) (n3 : 0 ≤ copied ∧ copied ≤ 100000) (n4 : 0 ≤ serial ∧ serial ≤ 10000000000)
    (hok : ArOk ws semi toh (T : Int) true scan (O : Int) copied serial y rs.length) (hIn : (∀ z ∈ imgL ws semi toh (T : Int) true scan (O : Int) copied serial y rs.length S T F O, 0 ≤ z ∧ z < 18446744073709551616) ∧ (imgL ws semi toh (T : Int) true scan (O : Int) copied serial y rs.length S T F O).length ≤ 16060) :
    Calls Tryz.prog 21 #[.agg #[.slice (some ⟨b, off, none⟩) ws.length cw, .int .i64 semi, .int .i64 toh, .int .i64 (T : Int), .bool true, .int .i64 scan, .int .i64 (O : Int), .int .i64 copied, .int .i64 serial, .slice ar rs.length cr]] w fun e w' => ∃ v, e = .returned (.tuple #[v, .bool true]) ∧ BR w.heap.size w' v (bytesU (imgL ws semi toh (T : Int) true scan (O : Int) copied serial y rs.length S T F O)) ∧ Below w.heap.size w w' := by
  have HS : Hid (Sl w (.slice (some ⟨b, off, none⟩) ws.length cw) ws) := ar_sl hb hc
  have HC : Hid (∀ i, i < ws.length → w.cell? ⟨b, off + i, none⟩ = some (.int .u64 (wordAt ws i))) := hc
  have HR : Hid (SlF w.heap.size w (.slice ar rs.length cr) rs.length (2 * rs.length) (fun i => .int .i64 (y i))) := hrt
  have HQ : Hid (ArOk ws semi toh (T : Int) true scan (O : Int) copied serial y rs.length) := hok
  have HIN : Hid ((∀ z ∈ imgL ws semi toh (T : Int) true scan (O : Int) copied serial y rs.length S T F O, 0 ≤ z ∧ z < 18446744073709551616) ∧ (imgL ws semi toh (T : Int) true scan (O : Int) copied serial y rs.length S T F O).length ≤ 16060) := hIn
  have hrl' : (rs.length : Int) ≤ 24 := by omega
  clear hc hrt hok hIn
  go_enter Tryz.func21, Tryz.ntmps21
  go_wp2_with fail
  refine (implArenaOk_at _ _ _ _ _ _ _ _ _ _ _ _ _ _ y w.heap.size _ (HS.out.below (below_first (Below.refl _ _))) hcw (by omega) hw (HR.out.below (below_first (Below.refl _ _)) (Nat.le_refl _)) (by omega)).mono ?_
  rintro e w1 ⟨q, rfl, hq, b1⟩
  obtain rfl := hq.2 HQ.out
  have B1 : Hid (Below w.heap.size w w1) := below_first b1
  have k1 := one_cells b1 (by simp)
  have z1 := size_first b1
  have K1 : Hid (∀ i, w1.cell? ⟨w.heap.size, i, none⟩ = (#[.slice (some ⟨b, off, none⟩) ws.length cw, .int .i64 semi, .int .i64 toh, .int .i64 (T : Int), .bool true, .int .i64 scan, .int .i64 (O : Int), .int .i64 copied, .int .i64 serial, .slice ar rs.length cr] : Array Value)[i]?) := k1
  clear b1 hq HQ
  obtain ⟨A9, hA9⟩ : ∃ A, A = [semi, toh, (T : Int), 1, scan, (O : Int), copied, serial, (rs.length : Int)] := ⟨_, rfl⟩
  have HA9 : Hid (A9 = [semi, toh, (T : Int), 1, scan, (O : Int), copied, serial, (rs.length : Int)]) := hA9
  go_wp2_with fail
  refine (layI_at w1.heap.size (.slice none 0 0) [] [semi, toh, (T : Int), 1, scan, (O : Int), copied, serial, (rs.length : Int)] (some ⟨w1.heap.size, 0, none⟩) 9 (fun i => [semi, toh, (T : Int), 1, scan, (O : Int), copied, serial, (rs.length : Int)].getD i 0) _ (BR.nil _ _) (by simp) (by simp) (fun i hi => ?nine) (.inr ⟨_, 0, rfl, by simp, by simp [Value.ownBlock], fun i hi => ?cells⟩) (fun i hi => ?wraps)).mono ?_
  case nine =>
    have : i < 9 := by simpa using hi
    rcases (by omega : i = 0 ∨ i = 1 ∨ i = 2 ∨ i = 3 ∨ i = 4 ∨ i = 5 ∨ i = 6 ∨ i = 7 ∨ i = 8) with rfl | rfl | rfl | rfl | rfl | rfl | rfl | rfl | rfl <;> simp <;> omega
  case cells =>
    have : i < 9 := by simpa using hi
    rcases (by omega : i = 0 ∨ i = 1 ∨ i = 2 ∨ i = 3 ∨ i = 4 ∨ i = 5 ∨ i = 6 ∨ i = 7 ∨ i = 8) with rfl | rfl | rfl | rfl | rfl | rfl | rfl | rfl | rfl <;> simp [go_sem]
  case wraps =>
    have : i < 9 := by simpa using hi
    rcases (by omega : i = 0 ∨ i = 1 ∨ i = 2 ∨ i = 3 ∨ i = 4 ∨ i = 5 ∨ i = 6 ∨ i = 7 ∨ i = 8) with rfl | rfl | rfl | rfl | rfl | rfl | rfl | rfl | rfl <;> simp <;> (first | rfl | (rw [IntKind.wrap_u64]; omega))
  rintro e w2 ⟨v2, rfl, U2, G2⟩
  rw [List.nil_append] at U2
  have hG : Below w1.heap.size w1 w2 := ((Below.refl w1.heap.size w1).alloc (Nat.le_refl _) _).trans (G2.below (by simp) (fun k hk => by simp [Value.ownBlock] at hk))
  have k2 : Hid (∀ i, w2.cell? ⟨w.heap.size, i, none⟩ = (#[.slice (some ⟨b, off, none⟩) ws.length cw, .int .i64 semi, .int .i64 toh, .int .i64 (T : Int), .bool true, .int .i64 scan, .int .i64 (O : Int), .int .i64 copied, .int .i64 serial, .slice ar rs.length cr] : Array Value)[i]?) := has_below k1 hG (by omega)
  have B2 : Hid (Below w1.heap.size w1 w2) := hG
  have HU2 : Hid (BR w1.heap.size w2 v2 (bytesU (A9 ++ imgR y 0))) := by show BR _ _ _ _; rw [HA9.out]; simpa [imgR] using U2
  have z2 : w1.heap.size ≤ w2.heap.size := hG.size
  have k20 := k2.out 9
  have l9 : A9.length = 9 := by rw [hA9]; rfl
  clear U2 G2 hG k1 hA9
  simp at k20
  go_wp2_with fail
  clear k20
  go_loopw [5, 7, 38] (fun u5 _ u38 wr => ∃ (k : Nat) (u : Value), k ≤ rs.length ∧ u = u5 ∧ u38 = .int .i64 k ∧ BR w1.heap.size wr u (bytesU (A9 ++ imgR y k)) ∧ Below w1.heap.size w1 wr) (fun _ _ u38 _ => rs.length - (intOf u38).toNat)
  case atStart => exact ⟨0, _, Nat.zero_le _, rfl, rfl, HU2.out, B2.out⟩
  case round =>
    obtain ⟨k, u, hk, rfl, rfl, hU, hF⟩ := hrel
    have zr : w1.heap.size ≤ wr.heap.size := hF.size
    have BW : Below w.heap.size w wr := B1.out.trans (hF.mono (by omega))
    by_cases hlt : k < rs.length
    · have hlt' : (k : Int) < (rs.length : Int) := by omega
      obtain ⟨br, offr, cap', hv, _, lbr, hcr⟩ := HR.out.parts (k := 0) (by omega)
      simp only [Value.slice.injEq] at hv
      obtain ⟨rfl, _, rfl⟩ := hv
      obtain ⟨t, ht⟩ : ∃ t, t = y (2 * k) := ⟨_, rfl⟩
      obtain ⟨m, hm⟩ : ∃ m, m = y (2 * k + 1) := ⟨_, rfl⟩
      have x0 : wr.cell? ⟨br, offr + k * 2, none⟩ = some (.int .i64 t) := by rw [BW.cell (p := ⟨br, offr + k * 2, none⟩) lbr, ht, Nat.mul_comm]; exact hcr (2 * k) (by omega)
      have x1 : wr.cell? ⟨br, offr + k * 2 + 1, none⟩ = some (.int .i64 m) := by rw [BW.cell (p := ⟨br, offr + k * 2 + 1, none⟩) lbr, hm, Nat.mul_comm]; exact hcr (2 * k + 1) (by omega)
      have HT : Hid (bytesU (A9 ++ imgR y (k + 1)) = bytesU (A9 ++ imgR y k) ++ bytesU [u64of t, u64of m]) := by show _ = _; rw [ht, hm, ← bytesU_append, List.append_assoc]; rfl
      have hXl : (bytesU (A9 ++ imgR y k)).length ≤ 8 * 60 := by rw [bytesU_len, List.length_append, imgR_len, l9]; omega
      have HU : Hid (BR w1.heap.size wr u (bytesU (A9 ++ imgR y k))) := hU
      have HF : Hid (Below w1.heap.size w1 wr) := hF
      obtain ⟨wb, hwb⟩ : ∃ V, V = wr.alloc (.cells #[.int .i64 t, .int .i64 m] 48) := ⟨_, rfl⟩
      have Bb : Below wr.heap.size wr wb := by rw [hwb]; exact (Below.refl _ _).alloc (Nat.le_refl _) _
      have y0 : wb.cell? ⟨wr.heap.size, 0, none⟩ = some (.int .i64 t) := by rw [hwb]; simp [go_sem]
      have y1 : wb.cell? ⟨wr.heap.size, 1, none⟩ = some (.int .i64 m) := by rw [hwb]; simp [go_sem]
      have HBb : Hid (Below wr.heap.size wr wb) := Bb
      clear hU hF hcr ht hm BW Bb
      go_upto_region 10 with fail
      rw [← hwb]
      clear hwb x0 x1
      have Ub : BR w1.heap.size (wb.alloc (.cells #[.int .i64 t, .int .i64 m] 3)) u (bytesU (A9 ++ imgR y k)) := (HU.out.below HBb.out).alloc _
      have hown : ∀ g, u.ownBlock = some g → w1.heap.size ≤ g ∧ g < wb.heap.size := (HU.out.below HBb.out).lt
      have zb : w1.heap.size ≤ wb.heap.size := by have := HBb.out.size; omega
      have HLY : Hid (Calls Tryz.prog 68 #[u, .slice (some ⟨wb.heap.size, 0, none⟩) 2 2] (wb.alloc (.cells #[.int .i64 t, .int .i64 m] 3)) fun e w' => ∃ v', e = .returned v' ∧ BR w1.heap.size w' v' (bytesU (A9 ++ imgR y k) ++ bytesU [u64of t, u64of m]) ∧ Gr (wb.alloc (.cells #[.int .i64 t, .int .i64 m] 3)) w' u v') := by
        refine layI_at w1.heap.size u _ [u64of t, u64of m] (some ⟨wb.heap.size, 0, none⟩) 2 (fun i => [t, m].getD i 0) _ Ub (by simp; omega) (by simp; omega) (fun i hi => ?_) (.inr ⟨_, 0, rfl, by simp, fun e => by have := (hown _ e).2; omega, fun i hi => ?_⟩) (fun i hi => ?_)
        all_goals
          have hi2 : i < 2 := by simpa using hi
          rcases (by omega : i = 0 ∨ i = 1) with rfl | rfl
        · have := u64of_in t; simpa using this
        · have := u64of_in m; simpa using this
        · simp [go_sem]
        · simp [go_sem]
        · rfl
        · rfl
      have hB3 : Hid (∀ W v', Gr (wb.alloc (.cells #[.int .i64 t, .int .i64 m] 3)) W u v' → Below w1.heap.size w1 W) := fun W v' h => ((HF.out.trans (HBb.out.mono zr)).alloc zb _).trans (h.below (by simp; omega) (fun g hg => (hown g hg).1))
      clear Ub hown HU
      go_wp2_with fail
      refine HLY.out.mono ?_
      rintro e w3 ⟨v3, rfl, U3, G3⟩
      have HU3 : Hid (BR w1.heap.size w3 v3 (bytesU (A9 ++ imgR y (k + 1)))) := by show BR _ _ _ _; rw [HT.out]; exact U3
      have B3 : Hid (Below w1.heap.size w1 w3) := hB3.out _ _ G3
      clear U3 G3 HLY hB3 y0 y1
      go_wp2
      go_roundw
      case rel => exact ⟨k + 1, _, by omega, rfl, by go_num, HU3.out, B3.out⟩
      case measure => simp [intOf]; omega
    · have hge : (rs.length : Int) ≤ (k : Int) := by omega
      obtain rfl : k = rs.length := by omega
      obtain ⟨X, hX⟩ : ∃ X, X = A9 ++ imgR y rs.length := ⟨_, rfl⟩
      have HX : Hid (X = A9 ++ imgR y rs.length) := hX
      rw [← hX] at hU
      have hXl : X.length ≤ 60 := by rw [hX, List.length_append, imgR_len, l9]; omega
      have kr := has_below K1.out hF z1
      have HU : Hid (BR w1.heap.size wr u (bytesU X)) := hU
      have HF : Hid (Below w1.heap.size w1 wr) := hF
      have hown := hU.lt
      clear hU hF BW hX HU2 B2 k2
      go_wp2_with fail
      refine (imaged_true b off cw ws semi toh scan old copied serial ar cr rs wr S T F O hcw hn s0 s1 t0 t1 hS hST hT hS2 hF hFO hO hF2).mono ?_
      rintro e w4 ⟨v4, rfl, P4, b4⟩
      obtain ⟨g, c4, rfl, hg1, hg2, hgc⟩ := own_parts P4 (by omega)
      have HU4 : Hid (BR w1.heap.size w4 u (bytesU X)) := HU.out.below b4
      have B4 : Hid (Below w1.heap.size w1 w4) := HF.out.trans (b4.mono zr)
      have zz4 : w1.heap.size ≤ w4.heap.size := B4.out.size
      have hng : u.ownBlock ≠ some g := fun e => by have := (hown _ e).2; omega
      have PC0 : w4.cell? ⟨g, 0, none⟩ = some (.slice (some ⟨b, off + S, none⟩) (T - S) (cw - S)) := hgc 0 _ rfl
      have PC1 : w4.cell? ⟨g, 1, none⟩ = some (.slice (some ⟨b, off + F, none⟩) (O - F) (cw - F)) := hgc 1 _ rfl
      clear P4 b4 hgc hown HU HF kr
      go_wp2_with fail
      go_loopw [5, 9, 53] (fun u5 _ u53 wr => ∃ (k : Nat) (u2 : Value), k ≤ 2 ∧ u2 = u5 ∧ u53 = .int .i64 k ∧ BR w1.heap.size wr u2 (bytesU (X ++ pcs ws S T F O k)) ∧ Gr w4 wr u u2) (fun _ _ u53 _ => 2 - (intOf u53).toNat)
      case atStart => exact ⟨0, _, Nat.zero_le _, rfl, rfl, by have := HU4.out; simpa [pcs] using this, Gr.refl _ _⟩
      case round =>
        obtain ⟨k, u2, hk, rfl, rfl, hU, hG⟩ := hrel
        have hF : Below w1.heap.size w1 wr := B4.out.trans (hG.below zz4 (fun j hj => (HU4.out.lt j hj).1))
        have zr2 : w1.heap.size ≤ wr.heap.size := hF.size
        have BW : Below w.heap.size w wr := B1.out.trans (hF.mono (by omega))
        have hown := hU.lt
        have hnb : u2.ownBlock ≠ some b := fun e => by have := (hown _ e).1; have := B1.out.size; omega
        have lbr : b < wr.heap.size := by have := BW.size; omega
        have HWC : Hid (∀ i, i < ws.length → wr.cell? ⟨b, off + i, none⟩ = some (.int .u64 (wordAt ws i))) := fun i hi => by rw [BW.cell (p := ⟨b, off + i, none⟩) hb]; exact HC.out i hi
        have HU5 : Hid (BR w1.heap.size wr u2 (bytesU (X ++ pcs ws S T F O k))) := hU
        have HG5 : Hid (Gr w4 wr u u2) := hG
        by_cases hlt : k < 2
        · have hlt' : (k : Int) < 2 := by omega
          rcases (by omega : k = 0 ∨ k = 1) with rfl | rfl
          · have x9 : wr.cell? ⟨g, 0, none⟩ = some (.slice (some ⟨b, off + S, none⟩) (T - S) (cw - S)) := by rw [hG.cell hg2 hng]; exact PC0
            have HLY : Hid (Calls Tryz.prog 70 #[u2, .slice (some ⟨b, off + S, none⟩) (T - S) (cw - S)] wr fun e w' => ∃ v', e = .returned v' ∧ BR w1.heap.size w' v' (bytesU (X ++ pcs ws S T F O 0) ++ bytesU (cutW ws S T)) ∧ Gr wr w' u2 v') := by
              have h := layU_at w1.heap.size u2 _ (cutW ws S T) (some ⟨b, off + S, none⟩) (cw - S) wr hU zr2 (by rw [cutW_len (by omega) (by omega), bytesU_len]; simp [pcs, cutW_len hST hT]; omega) (fun i hi => cutW_rng hw (by omega) hi) (.inr ⟨b, off + S, rfl, lbr, hnb, fun i hi => by
                rw [cutW_len (by omega) (by omega)] at hi
                have h1 := HWC.out (S + i) (by omega)
                rw [Nat.add_assoc, h1]
                exact cutW_cell (by omega) hi⟩)
              rw [cutW_len (by omega) (by omega)] at h
              exact h
            have HN : Hid (bytesU (X ++ pcs ws S T F O 0) ++ bytesU (cutW ws S T) = bytesU (X ++ pcs ws S T F O 1)) := by show _ = _; simp [← bytesU_append, pcs]
            clear hU hG hF BW hnb HWC hown HU5
            go_wp2_with (go_at_call 70; refine HLY.out.mono ?_; rintro e w5 ⟨v5, rfl, U5, G5⟩)
            have HU6 : Hid (BR w1.heap.size w5 v5 (bytesU (X ++ pcs ws S T F O 1))) := by show BR _ _ _ _; rw [← HN.out]; exact U5
            have HG6 : Hid (Gr w4 w5 u v5) := HG5.out.trans G5
            clear U5 G5 HG5
            go_roundw
            case rel => exact ⟨1, _, by omega, rfl, by go_num, HU6.out, HG6.out⟩
            case measure => simp [intOf]
          · have x9 : wr.cell? ⟨g, 1, none⟩ = some (.slice (some ⟨b, off + F, none⟩) (O - F) (cw - F)) := by rw [hG.cell hg2 hng]; exact PC1
            have HLY : Hid (Calls Tryz.prog 70 #[u2, .slice (some ⟨b, off + F, none⟩) (O - F) (cw - F)] wr fun e w' => ∃ v', e = .returned v' ∧ BR w1.heap.size w' v' (bytesU (X ++ pcs ws S T F O 1) ++ bytesU (cutW ws F O)) ∧ Gr wr w' u2 v') := by
              have h := layU_at w1.heap.size u2 _ (cutW ws F O) (some ⟨b, off + F, none⟩) (cw - F) wr hU zr2 (by rw [cutW_len (by omega) (by omega), bytesU_len]; simp [pcs, cutW_len hST hT]; omega) (fun i hi => cutW_rng hw (by omega) hi) (.inr ⟨b, off + F, rfl, lbr, hnb, fun i hi => by
                rw [cutW_len (by omega) (by omega)] at hi
                have h1 := HWC.out (F + i) (by omega)
                rw [Nat.add_assoc, h1]
                exact cutW_cell (by omega) hi⟩)
              rw [cutW_len (by omega) (by omega)] at h
              exact h
            have HN : Hid (bytesU (X ++ pcs ws S T F O 1) ++ bytesU (cutW ws F O) = bytesU (X ++ pcs ws S T F O 2)) := by show _ = _; simp [← bytesU_append, pcs]
            clear hU hG hF BW hnb HWC hown HU5
            go_wp2_with (go_at_call 70; refine HLY.out.mono ?_; rintro e w5 ⟨v5, rfl, U5, G5⟩)
            have HU6 : Hid (BR w1.heap.size w5 v5 (bytesU (X ++ pcs ws S T F O 2))) := by show BR _ _ _ _; rw [← HN.out]; exact U5
            have HG6 : Hid (Gr w4 w5 u v5) := HG5.out.trans G5
            clear U5 G5 HG5
            go_roundw
            case rel => exact ⟨2, _, by omega, rfl, by go_num, HU6.out, HG6.out⟩
            case measure => simp [intOf]
        · have hge : (2 : Int) ≤ (k : Int) := by omega
          obtain rfl : k = 2 := by omega
          obtain ⟨W, hW⟩ : ∃ W, W = X ++ pcs ws S T F O 2 := ⟨_, rfl⟩
          have hWI : imgL ws semi toh (T : Int) true scan (O : Int) copied serial y rs.length S T F O = W ++ [sumU W] := by
            have : imgW ws semi toh (T : Int) true scan (O : Int) copied serial y rs.length S T F O = W := by
              rw [hW, HX.out, HA9.out]
              simp [imgW, pcs]
            unfold imgL
            rw [this]
          have hIN := HIN.out
          rw [hWI] at hIN
          have hWl : W.length ≤ 16060 := by have := hIN.2; simp at this; omega
          have hWz : ∀ z ∈ W, 0 ≤ z ∧ z < 18446744073709551616 := fun z hz => hIN.1 z (by simp [hz])
          have hsm := hIN.1 (sumU W) (by simp)
          rw [← hW] at hU
          obtain ⟨a5, c5, rfl⟩ := hU.form
          have hBL : (bytesU W).length = 8 * W.length := bytesU_len W
          have HWI : Hid (imgL ws semi toh (T : Int) true scan (O : Int) copied serial y rs.length S T F O = W ++ [sumU W]) := hWI
          have HNB : Hid (numsB (bytesU W) W.length = W) := numsB_bytesU hWz
          have HB5 : Hid (BR w1.heap.size wr (.slice a5 (bytesU W).length c5) (bytesU W)) := hU
          have HRN : Hid (Calls Tryz.prog 72 #[.slice a5 (bytesU W).length c5] wr fun e w' => e = .returned (.slice (some ⟨wr.heap.size, 0, none⟩) W.length W.length) ∧ UR wr.heap.size w' (.slice (some ⟨wr.heap.size, 0, none⟩) W.length W.length) (numsB (bytesU W) W.length) ∧ Below wr.heap.size wr w') := readN_at W.length (bytesU W) hBL (by omega) (bytesU_in hWz) a5 c5 wr hU.sl
          have BWE : Hid (Below w.heap.size w wr) := BW
          clear hU hG HG5 HU5 hW hWI hIN hF BW hnb HWC
          obtain ⟨L8, hL8⟩ : ∃ n, n = (bytesU W).length := ⟨_, rfl⟩
          rw [← hL8] at HB5 HRN hBL hown ⊢
          have HBL : Hid (L8 = 8 * W.length) := hBL
          have HL8 : Hid ((bytesU W).length = L8) := hL8.symm
          clear hBL hL8
          go_wp2_with fail
          refine HRN.out.mono ?_
          rintro e w6 ⟨rfl, U6, b6⟩
          rw [HNB.out] at U6
          have HU6 : Hid (UR wr.heap.size w6 (.slice (some ⟨wr.heap.size, 0, none⟩) W.length W.length) W) := U6
          have HB6 : Hid (BR w1.heap.size w6 (.slice a5 L8 c5) (bytesU W)) := HB5.out.below b6
          have hb6 : Hid (Below wr.heap.size wr w6) := b6
          clear U6 b6 HRN HB5
          go_wp2_with fail
          refine (sumOf_at W (some ⟨wr.heap.size, 0, none⟩) W.length _ w6 (by omega) HU6.out.sl).mono ?_
          rintro e w' ⟨rfl, he⟩
          subst he
          have hown6 := HB6.out.lt
          obtain ⟨w7, hw7⟩ : ∃ V, V = w'.alloc (.cells #[.int .u64 (sumU W)] 100) := ⟨_, rfl⟩
          have b7 : Below w'.heap.size w' w7 := by rw [hw7]; exact (Below.refl _ _).alloc (Nat.le_refl _) _
          have c7 : w7.cell? ⟨w'.heap.size, 0, none⟩ = some (.int .u64 (sumU W)) := by rw [hw7]; simp [go_sem]
          have l7 : w'.heap.size < w7.heap.size := by rw [hw7]; simp
          have hz6 : wr.heap.size ≤ w'.heap.size := hb6.out.size
          have HLY : Hid (Calls Tryz.prog 70 #[.slice a5 L8 c5, .slice (some ⟨w'.heap.size, 0, none⟩) 1 1] w7 fun e w' => ∃ v', e = .returned v' ∧ BR w1.heap.size w' v' (bytesU W ++ bytesU [sumU W]) ∧ Gr w7 w' (.slice a5 L8 c5) v') :=
            layU_at w1.heap.size (.slice a5 L8 c5) _ [sumU W] (some ⟨w'.heap.size, 0, none⟩) 1 w7 (HB6.out.below b7) (by omega) (by rw [HL8.out, HBL.out]; simp; omega) (fun i hi => by obtain rfl : i = 0 := (by simpa using hi); simpa using hsm) (.inr ⟨_, 0, rfl, l7, fun e => by have := (hown6 _ e).2; omega, fun i hi => by obtain rfl : i = 0 := (by simpa using hi); simpa using c7⟩)
          have HGB : Hid (∀ V v', Gr w7 V (.slice a5 L8 c5) v' → Below w.heap.size w V) := fun V v' h => BWE.out.trans ((hb6.out.mono (by omega)).trans ((b7.mono (by omega)).trans (h.below (by omega) (fun j hj => by have := (hown6 j hj).1; omega))))
          clear c7 b7 hown hown6 HB6
          go_upto_region 18 with (first | (go_at_call 70; rw [← hw7]; refine HLY.out.mono ?_; rintro e w8 ⟨v8, rfl, U8, G8⟩; have HU8 : Hid (BR w.heap.size w8 v8 (bytesU (imgL ws semi toh (T : Int) true scan (O : Int) copied serial y rs.length S T F O))) := (by show BR _ _ _ _; rw [HWI.out, bytesU_append]; exact U8.mono (by omega)); have B8 : Hid (Below w.heap.size w w8) := HGB.out _ _ G8; clear U8 G8))
          refine bodyPost_ret (v := .tuple #[v8, .bool true]) (by simp [results, Tryz.results21, go_sem]) rfl ?_
          exact ⟨_, rfl, HU8.out, B8.out⟩
theorem br_own {B : Nat} {w : World} {v : Value} {xs : List Int} (h : BR B w v xs) : OwnF B w.heap.size 5 w v xs.length xs.length (fun i => .int .u8 (xs.getD i 0)) := by
  obtain ⟨_, ⟨rfl, h0⟩ | ⟨g, cap, cur, rfl, hB, hg, hn, hm, hs, ht⟩⟩ := h
  · exact ⟨none, 0, by rw [h0], .inl h0⟩
  · refine ⟨_, cap, rfl, .inr ⟨g, cur.size, fun i => cur.getD i (.int .u8 0), rfl, hB, ?_, by omega, ?_, fun i hi => ?_⟩⟩
    · exact (Array.getElem?_eq_some_iff.1 hg).1
    · exact ⟨cur, hg, rfl, fun i hi => by simp [hi]⟩
    · have h1 : (cur.toList.take (xs.length * 1))[i]? = some (.int .u8 (xs.getD i 0)) := by rw [ht]; exact bcl_at xs i hi
      rw [List.getElem?_take_of_lt (by omega)] at h1
      have h2 : cur[i]? = some (.int .u8 (xs.getD i 0)) := by simpa using h1
      simp [Array.getD_eq_getD_getElem?, h2]
set_option maxHeartbeats 1000000 in
theorem implImage_yes (aw : Option Addr) (cw : Nat) (ws : List Int) (semi toh top : Int) (cyc : Bool) (scan old copied serial : Int) (ar : Option Addr) (cr : Nat) (rs : List (Int × Int)) (y : Nat → Int) (Tr : Nat) (w : World) (S T F O : Nat) (hs : Sl w (.slice aw ws.length cw) ws) (hcw : ws.length ≤ cw) (hw : Words64 ws) (hrt : SlF Tr w (.slice ar rs.length cr) rs.length (2 * rs.length) (fun i => .int .i64 (y i))) (hok : ArOk ws semi toh top cyc scan old copied serial y rs.length)
    (hS : toh * semi + 1 = S) (hT : top = T) (hF : (1 - toh) * semi + 1 = F) (hST : S ≤ T) (hTn : T ≤ ws.length) (hS2 : S < ws.length) (hF2 : F < ws.length) (hn : ws.length ≤ 8000) (hrl : rs.length ≤ 24) (n1 : 0 ≤ scan ∧ scan ≤ 100000) (n2 : 0 ≤ old ∧ old ≤ 100000) (n3 : 0 ≤ copied ∧ copied ≤ 100000) (n4 : 0 ≤ serial ∧ serial ≤ 10000000000) (hO : cyc = true → old = O ∧ F ≤ O ∧ O ≤ ws.length)
    (hIn : (∀ z ∈ imgL ws semi toh top cyc scan old copied serial y rs.length S T F O, 0 ≤ z ∧ z < 18446744073709551616) ∧ (imgL ws semi toh top cyc scan old copied serial y rs.length S T F O).length ≤ 16060) :
    Calls Tryz.prog 21 #[.agg #[.slice aw ws.length cw, .int .i64 semi, .int .i64 toh, .int .i64 top, .bool cyc, .int .i64 scan, .int .i64 old, .int .i64 copied, .int .i64 serial, .slice ar rs.length cr]] w fun e w' => ∃ v, e = .returned (.tuple #[v, .bool true]) ∧ BR w.heap.size w' v (bytesU (imgL ws semi toh top cyc scan old copied serial y rs.length S T F O)) ∧ Below w.heap.size w w' := by
  obtain ⟨s0, s1, hl, t0, t1, _⟩ := num_facts hok.1
  obtain ⟨b, off, rfl, hb, hc⟩ := sl_open hs (by omega)
  subst hT
  cases cyc with
  | false => exact implImage_false b off cw ws semi toh scan old copied serial ar cr rs y w S T F O hb hc hcw hn hw hrt.here hrl s0 s1 t0 t1 hS hST hTn hS2 n1 n2 n3 n4 hok hIn
  | true =>
    obtain ⟨rfl, h2, h3⟩ := hO rfl
    exact implImage_true b off cw ws semi toh scan (O : Int) copied serial ar cr rs y w S T F O hb hc hcw hn hw hrt.here hrl s0 s1 t0 t1 hS hST hTn hS2 hF h2 h3 hF2 n1 n2 n3 n4 hok hIn
set_option maxHeartbeats 1000000 in
theorem implImage_no (aw : Option Addr) (cw : Nat) (ws : List Int) (semi toh top : Int) (cyc : Bool) (scan old copied serial : Int) (ar : Option Addr) (cr : Nat) (rs : List (Int × Int)) (y : Nat → Int) (Tr : Nat) (w : World) (hs : Sl w (.slice aw ws.length cw) ws) (hcw : ws.length ≤ cw) (hn : ws.length ≤ 1048576) (hw : Words64 ws) (hrt : SlF Tr w (.slice ar rs.length cr) rs.length (2 * rs.length) (fun i => .int .i64 (y i))) (hn2 : rs.length ≤ 1048576) (hok : ¬ ArOk ws semi toh top cyc scan old copied serial y rs.length) :
    Calls Tryz.prog 21 #[.agg #[.slice aw ws.length cw, .int .i64 semi, .int .i64 toh, .int .i64 top, .bool cyc, .int .i64 scan, .int .i64 old, .int .i64 copied, .int .i64 serial, .slice ar rs.length cr]] w fun e w' => e = .returned (.tuple #[.slice none 0 0, .bool false]) ∧ Below w.heap.size w w' := by
  have HS : Hid (Sl w (.slice aw ws.length cw) ws) := hs
  have HR : Hid (SlF w.heap.size w (.slice ar rs.length cr) rs.length (2 * rs.length) (fun i => .int .i64 (y i))) := hrt.here
  have HQ : Hid (¬ ArOk ws semi toh top cyc scan old copied serial y rs.length) := hok
  clear hs hrt hok
  go_enter Tryz.func21, Tryz.ntmps21
  go_wp2_with fail
  refine (implArenaOk_at _ _ _ _ _ _ _ _ _ _ _ _ _ _ y w.heap.size _ (HS.out.below (below_first (Below.refl _ _))) hcw hn hw (HR.out.below (below_first (Below.refl _ _)) (Nat.le_refl _)) hn2).mono ?_
  rintro e w1 ⟨q, rfl, hq, b1⟩
  obtain rfl : q = false := by
    cases q with
    | false => rfl
    | true => exact absurd (hq.1 rfl) HQ.out
  have B1 := below_first b1
  clear hq b1
  go_wp2
  go_ret2
  exact ⟨rfl, B1⟩
end Go.Proofs.YtmckcnmlhgpnhaaGreat
