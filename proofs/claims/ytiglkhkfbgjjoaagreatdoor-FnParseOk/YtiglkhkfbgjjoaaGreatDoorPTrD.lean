/- - -/
import Derived.Test.YtiglkhkfbgjjoaaGreatDoorPBnA
namespace Go.Proofs.YtiglkhkfbgjjoaaGreatDoor
set_option maxRecDepth 20000
open Go.RowKit
set_option linter.unusedSimpArgs false
set_option linter.unusedVariables false
set_option maxHeartbeats 2000000 in
theorem zg6 (a1 a2 : Option Addr) (c1 c2 L1 L2 : Nat) (p1 p2 : Int) (X Y : Nat -> KnD) (T : Nat) (w : World) (h1 : KnF T w (.slice a1 L1 c1) L1 X) (h2 : KnF T w (.slice a2 L2 c2) L2 Y) (hT : T <= w.heap.size) (hL1 : L1 <= 1048576) (hL2 : L2 <= 1048576) (hX : ∀ j, j < L1 -> (X j).len <= 1048576) (hY : ∀ j, j < L2 -> (Y j).len <= 1048576) :
 Calls Tryz.prog 9 #[.agg #[.slice a1 L1 c1, .int .i64 p1], .agg #[.slice a2 L2 c2, .int .i64 p2]] w fun e w' => ∃ q, e = .returned (.bool q) /\ (q = true ↔ TEq L1 L2 p1 p2 X Y) /\ Below w.heap.size w w' := by
 have H1 : Hid (KnF T w (.slice a1 L1 c1) L1 X) := h1
 have H2 : Hid (KnF T w (.slice a2 L2 c2) L2 Y) := h2
 have HX : Hid (∀ j, j < L1 -> (X j).len <= 1048576) := hX
 have HY : Hid (∀ j, j < L2 -> (Y j).len <= 1048576) := hY
 have l1' : (L1 : Int) <= 1048576 := by omega
 have l2' : (L2 : Int) <= 1048576 := by omega
 clear h1 h2 hX hY
 have B2 : Below w.heap.size w ((w.alloc (.cells #[.slice a1 L1 c1, .int .i64 p1] 27)).alloc (.cells #[.slice a2 L2 c2, .int .i64 p2] 27)) := ((Below.refl _ _).alloc (Nat.le_refl _) _).alloc (by simp) _
 by_cases hn : L1 = L2
 · subst hn
   by_cases hp : p1 = p2
   · subst hp
     go_enter Tryz.func9, Tryz.ntmps9
     go_wp2
     go_loopw [5] (fun i wr => ∃ k : Nat, k <= L1 /\ i = .int .i64 k /\ (∀ p, p < k -> KEq (X p) (Y p)) /\ Below w.heap.size w wr /\ wr.cell? ⟨w.heap.size, 0, none⟩ = some (.slice a1 L1 c1) /\ wr.cell? ⟨w.heap.size + 1, 0, none⟩ = some (.slice a2 L1 c2) /\ w.heap.size + 1 + 1 <= wr.heap.size) (fun i _ => L1 - (intOf i).toNat)
     case atStart => exact ⟨0, Nat.zero_le _, rfl, fun p hp => by omega, B2, by simp [go_sem], by simp [go_sem], by simp⟩
     case round =>
      rename World => wo
      obtain ⟨j, hk, rfl, hp, hF, K1, K2, z1⟩ := hrel
      have HP : Hid (∀ p, p < j -> KEq (X p) (Y p)) := hp
      clear hp
      by_cases hlt : j < L1
      · have hlt' : (j : Int) < (L1 : Int) := by omega
        obtain ⟨b, off, rfl, lb, lz, hc⟩ := H1.out.at_ hlt
        obtain ⟨b', off', rfl, lb', lz', hc'⟩ := H2.out.at_ hlt
        obtain ⟨ax, cx, c0, c1, c2, c3, sx⟩ := (hc j hlt).below hF hT lb
        obtain ⟨ay, cy, d0, d1, d2, d3, sy⟩ := (hc' j hlt).below hF hT lb'
        have x1 := HX.out j hlt
        have x2 := HY.out j hlt
        obtain ⟨x, hx⟩ : ∃ x, X j = x := ⟨_, rfl⟩
        obtain ⟨u, hu⟩ : ∃ x, Y j = x := ⟨_, rfl⟩
        rw [hx] at c0 c1 c2 c3 sx x1
        rw [hu] at d0 d1 d2 d3 sy x2
        obtain ⟨k, t, i, l, y⟩ := x
        obtain ⟨k', t', i', l', y'⟩ := u
        simp only at c0 c1 c2 c3 sx x1 d0 d1 d2 d3 sy x2
        have SX : Hid (SlF T wo (.slice ax l cx) l l (fun i => .int .i64 (y i))) := sx
        have SY : Hid (SlF T wo (.slice ay l' cy) l' l' (fun i => .int .i64 (y' i))) := sy
        have HF : Hid (Below w.heap.size w wo) := hF
        have hT2 : T <= wo.heap.size := Nat.le_trans hT hF.size
        have lb1 : b < wo.heap.size := by omega
        have lb2 : b' < wo.heap.size := by omega
        have NQ : Hid (KEq (X j) (Y j) ↔ (k = k' /\ (t.toList == t'.toList) = true /\ i = i' /\ IEq l l' y y')) := by show _ ↔ _; rw [hx, hu]; exact Iff.rfl
        clear hc hc' H1 H2 HX HY hx hu sx sy hF
        have lw : w.heap.size < wo.heap.size := by omega
        have lw1 : w.heap.size + 1 < wo.heap.size := by omega
        have x1' : (l : Int) <= 1048576 := by omega
        have x2' : (l' : Int) <= 1048576 := by omega
        go_wp2
        go_region
        · by_cases g1 : k = k'
          rotate_left
          · go_wp2
            go_ret
            exact ⟨false, rfl, ⟨fun h => (by cases h), fun h => absurd (NQ.out.1 (h.2.2 j hlt)).1 g1⟩, zg HF.out ((((Below.refl _ _).alloc (Nat.le_refl _) _).alloc (by simp) _).drew)⟩
          cases ht : t.toList == t'.toList with
          | false =>
            go_wp2
            go_ret
            exact ⟨false, rfl, ⟨fun h => (by cases h), fun h => absurd ((NQ.out.1 (h.2.2 j hlt)).2.1) (by simp [ht])⟩, zg HF.out ((((Below.refl _ _).alloc (Nat.le_refl _) _).alloc (by simp) _).drew)⟩
          | true =>
            by_cases g2 : i = i'
            rotate_left
            · go_wp2
              go_ret
              exact ⟨false, rfl, ⟨fun h => (by cases h), fun h => absurd (NQ.out.1 (h.2.2 j hlt)).2.2.1 g2⟩, zg HF.out ((((Below.refl _ _).alloc (Nat.le_refl _) _).alloc (by simp) _).drew)⟩
            by_cases g3 : l = l'
            rotate_left
            · have g3' : ¬ (l : Int) = l' := by omega
              go_wp2
              go_ret
              exact ⟨false, rfl, ⟨fun h => (by cases h), fun h => absurd (NQ.out.1 (h.2.2 j hlt)).2.2.2.1 g3⟩, zg HF.out ((((Below.refl _ _).alloc (Nat.le_refl _) _).alloc (by simp) _).drew)⟩
            subst g3
            go_wp2
            go_loopw [8] (fun q wr => ∃ m : Nat, m <= l /\ q = .int .i64 m /\ (∀ p, p < m -> y p = y' p) /\ Below wo.heap.size wo wr /\ wr.cell? ⟨wo.heap.size, 3, none⟩ = some (.slice ax l cx) /\ wr.cell? ⟨wo.heap.size + 1, 3, none⟩ = some (.slice ay l cy) /\ wo.heap.size + 1 + 1 <= wr.heap.size) (fun q _ => l - (intOf q).toNat)
            case atStart => exact ⟨0, Nat.zero_le _, rfl, fun p hp => by omega, (((Below.refl _ _).alloc (Nat.le_refl _) _).alloc (by simp) _).drew, by simp [go_sem], by simp [go_sem], by simp⟩
            case round =>
             obtain ⟨m, hm, rfl, hpp, hG, q1, q2, zq⟩ := hrel
             have HQ : Hid (∀ p, p < m -> y p = y' p) := hpp
             clear hpp
             by_cases hmt : m < l
             · have hmt' : (m : Int) < (l : Int) := by omega
               obtain ⟨br, offr, cap', hv, _, lbr, hcr⟩ := SX.out.parts (k := 0) (by omega)
               simp only [Value.slice.injEq] at hv
               obtain ⟨rfl, _, rfl⟩ := hv
               obtain ⟨bs, offs, cap', hv, _, lbs, hcs⟩ := SY.out.parts (k := 0) (by omega)
               simp only [Value.slice.injEq] at hv
               obtain ⟨rfl, _, rfl⟩ := hv
               have e1 : wr.cell? ⟨br, offr + m, none⟩ = some (.int .i64 (y m)) := by rw [hG.cell (p := ⟨br, offr + m, none⟩) lbr]; exact hcr m hmt
               have e2 : wr.cell? ⟨bs, offs + m, none⟩ = some (.int .i64 (y' m)) := by rw [hG.cell (p := ⟨bs, offs + m, none⟩) lbs]; exact hcs m hmt
               have HG : Hid (Below wo.heap.size wo wr) := hG
               clear hcr hcs SX SY hG c0 c1 c2 c3 d0 d1 d2 d3
               by_cases hq : y m = y' m
               · have HV : Hid (∀ i, i < m + 1 -> y i = y' i) := zlc HQ.out hq
                 rw [hq] at e1
                 generalize y' m = yy at e1 e2
                 clear hq
                 go_wp2
                 go_quiet (fail)
                 go_wp2
                 go_roundw
                 case rel => exact ⟨m + 1, by omega, by go_num, HV.out, below_drewN HG.out _, q1, q2, zq⟩
                 case measure => simp [intOf]; omega
               · have HN : Hid (¬ IEq l l y y') := zlb hmt hq
                 generalize y m = yx at e1 hq
                 generalize y' m = yy at e2 hq
                 go_wp2
                 go_quiet (fail)
                 go_wp2
                 go_ret
                 exact ⟨false, rfl, ⟨fun h => (by cases h), fun h => absurd ((NQ.out.1 (h.2.2 j hlt)).2.2.2) HN.out⟩, zg HF.out (below_drewN HG.out _)⟩
             · have hge : (l : Int) <= (m : Int) := by omega
               have HV : Hid (KEq (X j) (Y j)) := NQ.out.2 ⟨g1, ht, g2, rfl, fun p hp => HQ.out p (by omega)⟩
               have k1' := (hG.cell (p := ⟨w.heap.size, 0, none⟩) lw).trans K1
               have k2' := (hG.cell (p := ⟨w.heap.size + 1, 0, none⟩) lw1).trans K2
               have HG : Hid (Below wo.heap.size wo wr) := hG
               clear SX SY hG c0 c1 c2 c3 d0 d1 d2 d3
               go_wp2
               go_roundw
               case rel => exact ⟨j + 1, by omega, by go_num, zld HP.out HV.out, zg HF.out HG.out, k1', k2', Nat.le_trans z1 HG.out.size⟩
               case measure => simp [intOf]; omega
        · by_cases g1 : k = k'
          rotate_left
          · go_wp2
            go_ret
            exact ⟨false, rfl, ⟨fun h => (by cases h), fun h => absurd (NQ.out.1 (h.2.2 j hlt)).1 g1⟩, zg HF.out ((((Below.refl _ _).alloc (Nat.le_refl _) _).alloc (by simp) _).drew)⟩
          cases ht : t.toList == t'.toList with
          | false =>
            go_wp2
            go_ret
            exact ⟨false, rfl, ⟨fun h => (by cases h), fun h => absurd ((NQ.out.1 (h.2.2 j hlt)).2.1) (by simp [ht])⟩, zg HF.out ((((Below.refl _ _).alloc (Nat.le_refl _) _).alloc (by simp) _).drew)⟩
          | true =>
            by_cases g2 : i = i'
            rotate_left
            · go_wp2
              go_ret
              exact ⟨false, rfl, ⟨fun h => (by cases h), fun h => absurd (NQ.out.1 (h.2.2 j hlt)).2.2.1 g2⟩, zg HF.out ((((Below.refl _ _).alloc (Nat.le_refl _) _).alloc (by simp) _).drew)⟩
            by_cases g3 : l = l'
            rotate_left
            · have g3' : ¬ (l : Int) = l' := by omega
              go_wp2
              go_ret
              exact ⟨false, rfl, ⟨fun h => (by cases h), fun h => absurd (NQ.out.1 (h.2.2 j hlt)).2.2.2.1 g3⟩, zg HF.out ((((Below.refl _ _).alloc (Nat.le_refl _) _).alloc (by simp) _).drew)⟩
            subst g3
            go_wp2
            go_loopw [8] (fun q wr => ∃ m : Nat, m <= l /\ q = .int .i64 m /\ (∀ p, p < m -> y p = y' p) /\ Below wo.heap.size wo wr /\ wr.cell? ⟨wo.heap.size + 1, 3, none⟩ = some (.slice ax l cx) /\ wr.cell? ⟨wo.heap.size, 3, none⟩ = some (.slice ay l cy) /\ wo.heap.size + 1 + 1 <= wr.heap.size) (fun q _ => l - (intOf q).toNat)
            case atStart => exact ⟨0, Nat.zero_le _, rfl, fun p hp => by omega, (((Below.refl _ _).alloc (Nat.le_refl _) _).alloc (by simp) _).drew, by simp [go_sem], by simp [go_sem], by simp⟩
            case round =>
             obtain ⟨m, hm, rfl, hpp, hG, q1, q2, zq⟩ := hrel
             have HQ : Hid (∀ p, p < m -> y p = y' p) := hpp
             clear hpp
             by_cases hmt : m < l
             · have hmt' : (m : Int) < (l : Int) := by omega
               obtain ⟨br, offr, cap', hv, _, lbr, hcr⟩ := SX.out.parts (k := 0) (by omega)
               simp only [Value.slice.injEq] at hv
               obtain ⟨rfl, _, rfl⟩ := hv
               obtain ⟨bs, offs, cap', hv, _, lbs, hcs⟩ := SY.out.parts (k := 0) (by omega)
               simp only [Value.slice.injEq] at hv
               obtain ⟨rfl, _, rfl⟩ := hv
               have e1 : wr.cell? ⟨br, offr + m, none⟩ = some (.int .i64 (y m)) := by rw [hG.cell (p := ⟨br, offr + m, none⟩) lbr]; exact hcr m hmt
               have e2 : wr.cell? ⟨bs, offs + m, none⟩ = some (.int .i64 (y' m)) := by rw [hG.cell (p := ⟨bs, offs + m, none⟩) lbs]; exact hcs m hmt
               have HG : Hid (Below wo.heap.size wo wr) := hG
               clear hcr hcs SX SY hG c0 c1 c2 c3 d0 d1 d2 d3
               by_cases hq : y m = y' m
               · have HV : Hid (∀ i, i < m + 1 -> y i = y' i) := zlc HQ.out hq
                 rw [hq] at e1
                 generalize y' m = yy at e1 e2
                 clear hq
                 go_wp2
                 go_quiet (fail)
                 go_wp2
                 go_roundw
                 case rel => exact ⟨m + 1, by omega, by go_num, HV.out, below_drewN HG.out _, q1, q2, zq⟩
                 case measure => simp [intOf]; omega
               · have HN : Hid (¬ IEq l l y y') := zlb hmt hq
                 generalize y m = yx at e1 hq
                 generalize y' m = yy at e2 hq
                 go_wp2
                 go_quiet (fail)
                 go_wp2
                 go_ret
                 exact ⟨false, rfl, ⟨fun h => (by cases h), fun h => absurd ((NQ.out.1 (h.2.2 j hlt)).2.2.2) HN.out⟩, zg HF.out (below_drewN HG.out _)⟩
             · have hge : (l : Int) <= (m : Int) := by omega
               have HV : Hid (KEq (X j) (Y j)) := NQ.out.2 ⟨g1, ht, g2, rfl, fun p hp => HQ.out p (by omega)⟩
               have k1' := (hG.cell (p := ⟨w.heap.size, 0, none⟩) lw).trans K1
               have k2' := (hG.cell (p := ⟨w.heap.size + 1, 0, none⟩) lw1).trans K2
               have HG : Hid (Below wo.heap.size wo wr) := hG
               clear SX SY hG c0 c1 c2 c3 d0 d1 d2 d3
               go_wp2
               go_roundw
               case rel => exact ⟨j + 1, by omega, by go_num, zld HP.out HV.out, zg HF.out HG.out, k1', k2', Nat.le_trans z1 HG.out.size⟩
               case measure => simp [intOf]; omega
      · have hge : (L1 : Int) <= (j : Int) := by omega
        go_wp2
        go_ret
        exact ⟨true, rfl, ⟨fun _ => ⟨rfl, by trivial, fun i hi => HP.out i (by omega)⟩, fun _ => rfl⟩, hF⟩
   · clear H1 H2
     go_enter Tryz.func9, Tryz.ntmps9
     go_wp2
     go_ret
     exact ⟨false, rfl, ⟨fun h => (by cases h), fun h => absurd h.1 hp⟩, B2⟩
 · have hn' : ¬ ((L1 : Int) = L2) := by omega
   go_enter Tryz.func9, Tryz.ntmps9
   go_wp2
   go_ret
   exact ⟨false, rfl, ⟨fun h => (by cases h), fun h => absurd h.2.1 hn⟩, B2⟩
end Go.Proofs.YtiglkhkfbgjjoaaGreatDoor
