/- The model's l8Token: marks. -/
import Derived.Test.YtiglkhkfbgjjoaaDoorProg
import Derived.Test.YtiglkhkfbgjjoaaDoorPLxO
import Derived.Deep.RegionHeld3
import Derived.BigQuiet
namespace Go.Proofs.YtiglkhkfbgjjoaaDoor
set_option maxRecDepth 20000
open Go.RowKit Go.PlainAid
set_option linter.unusedSimpArgs false
set_option linter.unusedVariables false

theorem mkS_at {j : Nat} (h : j < 21) : txAt mkS j = mkS[j]'(by simpa [mkS] using h) := by
  unfold txAt
  rw [List.getD_eq_getElem?_getD, List.getElem?_eq_getElem (by simpa [mkS] using h)]
  rfl
theorem find_first {p : ByteArray → Bool} {j : Nat} (hj : j < 21) (h : ∀ k, k < j → p (txAt mkS k) = false) (hp : p (txAt mkS j) = true) : mkS.find? p = some (txAt mkS j) := by
  rw [List.find?_eq_some_iff_getElem]
  refine ⟨hp, j, by simpa [mkS] using hj, (mkS_at hj).symm, fun k hk => ?_⟩
  have := h k hk
  rw [mkS_at (by omega)] at this
  simpa using this
theorem find_none {p : ByteArray → Bool} (h : ∀ k, k < 21 → p (txAt mkS k) = false) : mkS.find? p = none := by
  rw [List.find?_eq_none]
  intro x hx
  obtain ⟨k, hk, rfl⟩ := List.mem_iff_getElem.1 hx
  have hk' : k < 21 := by simpa [mkS] using hk
  have := h k hk'
  rw [mkS_at hk'] at this
  simpa using this
set_option maxHeartbeats 2000000 in
theorem l8Token_mark (t : ByteArray) (i : Nat) (m : ByteArray) (w : World) (hi : i < t.size) (ht : t.size ≤ 3000) (h : ltB (bt t i) = false) (h2 : dgB (bt t i) = false) (h3 : (bt t i == 34) = false) (hm : Hid (mkAt t i = some m)) :
    Calls Tryd.prog 26 #[.string t, .int .i64 (i : Int)] w fun e w' => e = .returned (.tuple #[.agg #[.int .i64 5, .int .i64 (i : Int), .string m, .int .i64 0], .int .i64 0, .int .i64 ((i + m.size : Nat) : Int)]) ∧ Below w.heap.size w w' := by
  have HM : Hid (mkAt t i = some m) := hm
  clear hm
  have hb := get_bt t
  have hi' : (i : Int) < t.size := by omega
  have ht' : (t.size : Int) ≤ 3000 := by omega
  go_enter Tryd.func26, Tryd.ntmps26
  go_wp2_with fail
  refine (l8Letter_at _ _).mono ?_
  rw [h]
  rintro e w1 ⟨rfl, rfl⟩
  go_wp2_with fail
  refine (l8Digit_at _ _).mono ?_
  rw [h2]
  rintro e w1 ⟨rfl, rfl⟩
  go_wp2_with fail
  refine (l8Marks_at _).mono ?_
  rintro e w1 ⟨rfl, s1, b1⟩
  have B1 : TkB w w1 #[.int .i64 0, .int .i64 (i : Int), .string ⟨#[]⟩, .int .i64 0] := TkB.of b1
  simp only [World.size_alloc] at s1 ⊢
  obtain ⟨bm, om, cm, hv, lm, lz, hc⟩ := s1.parts (k := 0) (by omega)
  simp only [Value.slice.injEq, Option.some.injEq, Addr.mk.injEq] at hv
  obtain ⟨⟨rfl, rfl, _⟩, _, rfl⟩ := hv
  have HC : Hid (∀ k, k < 21 → w1.cell? ⟨w.heap.size + 1 + 1, k, none⟩ = some (.string (txAt mkS k))) := fun k hk => by have := hc k hk; rwa [Nat.zero_add] at this
  have HB : Hid (TkB w w1 #[.int .i64 0, .int .i64 (i : Int), .string ⟨#[]⟩, .int .i64 0]) := B1
  clear s1 b1 hc B1
  go_wp2_with fail
  go_loopw [11] (fun q wr => ∃ j : Nat, q = .int .i64 j ∧ j ≤ 21 ∧ Hid (∀ k, k < j → isMk t i (txAt mkS k) = false) ∧ Hid (Below w1.heap.size w1 wr)) (fun q _ => 21 - (intOf q).toNat)
  case atStart => exact ⟨0, by go_num, by omega, fun k hk => absurd hk (Nat.not_lt_zero _), Below.refl _ _⟩
  case round =>
    obtain ⟨j, rfl, hj, hp, hB⟩ := hrel
    obtain ⟨c1, c2, z1, b2, f1, f2⟩ := HB.out.keep hB.out
    by_cases hlt : j < 21
    · have hlt' : (j : Int) < 21 := by omega
      have lz' : w.heap.size + 1 + 1 < wr.heap.size := Nat.lt_of_lt_of_le lz hB.out.size
      have cj : wr.cell? ⟨w.heap.size + 1 + 1, j, none⟩ = some (.string (txAt mkS j)) := by rw [hB.out.cell (p := ⟨w.heap.size + 1 + 1, j, none⟩) lz]; exact HC.out j hlt
      have hsz : (txAt mkS j).size ≤ 2 := (mkS_size _ (by rw [mkS_at hlt]; exact List.getElem_mem _)).2
      cases hm : isMk t i (txAt mkS j) with
      | true =>
        have hf : mkAt t i = some (txAt mkS j) := find_first hlt hp.out hm
        have e : txAt mkS j = m := by have := hf.symm.trans HM.out; injection this
        simp only [isMk, Bool.and_eq_true, decide_eq_true_eq] at hm
        obtain ⟨m1, m2⟩ := hm
        rw [e] at m1 m2 cj hsz
        clear HB HC hp hf e
        have m1' : (i : Int) + m.size ≤ t.size := by omega
        have m3 : ((i : Int) + m.size).toNat = i + m.size := by omega
        go_wp2_with fail
        go_region
        all_goals
          go_wp2
          (try simp only [Exit.inBlock, Exit.then])
          refine bodyPost_ret (v := .tuple #[.agg #[.int .i64 5, .int .i64 (i : Int), .string m, .int .i64 0], .int .i64 0, .int .i64 ((i + m.size : Nat) : Int)]) (by simp [results, Tryd.results26, go_sem, c1, c2, z1]) rfl ⟨rfl, ?_⟩
          repeat' first | (with_reducible exact b2) | (with_reducible refine Below.drew ?_) | with_reducible refine Below.setCell ?_ (by first | exact Nat.le_refl _ | exact Nat.le_succ _) _
      | false =>
        have hp2 : Hid (∀ k, k < j + 1 → isMk t i (txAt mkS k) = false) := fun k hk => if e : k = j then e ▸ hm else hp.out k (by omega)
        clear HB HC hp
        by_cases m1 : i + (txAt mkS j).size ≤ t.size
        · have m2 : ((t.extract i (i + (txAt mkS j).size)).toList == (txAt mkS j).toList) = false := by simpa [isMk, m1] using hm
          clear hm
          generalize txAt mkS j = m0 at *
          have m1' : (i : Int) + m0.size ≤ t.size := by omega
          have m3 : ((i : Int) + m0.size).toNat = i + m0.size := by omega
          go_wp2_with fail
          go_region
          all_goals
            go_wp2
            go_roundw
            case rel => exact ⟨j + 1, by go_num, by omega, hp2, hB.out.drew⟩
            case measure => simp [intOf]; omega
        · clear hm
          generalize txAt mkS j = m0 at *
          have m1' : ¬ (i : Int) + m0.size ≤ t.size := by omega
          go_wp2_with fail
          refine wp_region_held_drew (S := fun V => V = wr.drew) (by kernel_rfl) (rfl) (fun hHeld => ?_)
          refine wpAnyH_take (i := 0) (oi := { dst := some 182, op := _, type := _, pos := _, after := _, guard := _ }) (v := .int .i64 (i : Int)) rfl (by kernel_rfl) (by kernel_rfl) (by kernel_rfl) (fun _ _ _ h => h) (Or.inl ⟨by kernel_rfl, ?_⟩) hHeld ?_
          · intro w hSw
            (try dsimp only at hSw)
            go_simp
          try simp only [Act.put, List.setIfInBounds_toArray, List.set_cons_zero, List.set_cons_succ]
          refine wpAnyH_take (i := 1) (oi := { dst := some 183, op := _, type := _, pos := _, after := _, guard := _ }) (v := .int .i64 (m0.size : Int)) rfl (by kernel_rfl) (by kernel_rfl) (by kernel_rfl) (fun _ _ _ h => h) (Or.inl ⟨by kernel_rfl, ?_⟩) hHeld ?_
          · intro w hSw
            (try dsimp only at hSw)
            go_simp
          try simp only [Act.put, List.setIfInBounds_toArray, List.set_cons_zero, List.set_cons_succ]
          refine wpAnyH_take (i := 2) (oi := { dst := some 184, op := _, type := _, pos := _, after := _, guard := _ }) (v := .int .i64 ((i : Int) + m0.size)) rfl (by kernel_rfl) (by kernel_rfl) (by kernel_rfl) (fun _ _ _ h => h) (Or.inl ⟨by kernel_rfl, ?_⟩) hHeld ?_
          · intro w hSw
            (try dsimp only at hSw)
            go_simp
            exact IntWalk.i64_in _ ⟨by omega, by omega⟩
          try simp only [Act.put, List.setIfInBounds_toArray, List.set_cons_zero, List.set_cons_succ]
          refine wpAnyH_take (i := 3) (oi := { dst := some 185, op := _, type := _, pos := _, after := _, guard := _ }) (v := .string t) rfl (by kernel_rfl) (by kernel_rfl) (by kernel_rfl) (fun _ _ _ h => h) (Or.inl ⟨by kernel_rfl, ?_⟩) hHeld ?_
          · intro w hSw
            (try dsimp only at hSw)
            go_simp
          try simp only [Act.put, List.setIfInBounds_toArray, List.set_cons_zero, List.set_cons_succ]
          refine wpAnyH_take (i := 4) (oi := { dst := some 186, op := _, type := _, pos := _, after := _, guard := _ }) (v := .int .i64 (t.size : Int)) rfl (by kernel_rfl) (by kernel_rfl) (by kernel_rfl) (fun _ _ _ h => h) (Or.inl ⟨by kernel_rfl, ?_⟩) hHeld ?_
          · intro w hSw
            (try dsimp only at hSw)
            go_simp
          try simp only [Act.put, List.setIfInBounds_toArray, List.set_cons_zero, List.set_cons_succ]
          refine wpAnyH_take (i := 5) (oi := { dst := some 187, op := _, type := _, pos := _, after := _, guard := _ }) (v := .bool false) rfl (by kernel_rfl) (by kernel_rfl) (by kernel_rfl) (fun _ _ _ h => h) (Or.inl ⟨by kernel_rfl, ?_⟩) hHeld ?_
          · intro w hSw
            (try dsimp only at hSw)
            go_simp
          try simp only [Act.put, List.setIfInBounds_toArray, List.set_cons_zero, List.set_cons_succ]
          refine wpAnyH_take (i := 6) (oi := { dst := some 188, op := _, type := _, pos := _, after := _, guard := _ }) (v := .bool false) rfl (by kernel_rfl) (by kernel_rfl) (by kernel_rfl) (fun _ _ _ h => h) (Or.inl ⟨by kernel_rfl, ?_⟩) hHeld ?_
          · intro w hSw
            (try dsimp only at hSw)
            go_simp
          try simp only [Act.put, List.setIfInBounds_toArray, List.set_cons_zero, List.set_cons_succ]
          refine wpAnyH_take (i := 7) (oi := { dst := some 189, op := _, type := _, pos := _, after := _, guard := _ }) (v := undef) rfl (by kernel_rfl) (by kernel_rfl) (by kernel_rfl) (fun _ _ _ h => h) (Or.inr ⟨by kernel_rfl, rfl⟩) hHeld ?_
          try simp only [Act.put, List.setIfInBounds_toArray, List.set_cons_zero, List.set_cons_succ]
          refine wpAnyH_take (i := 8) (oi := { dst := some 190, op := _, type := _, pos := _, after := _, guard := _ }) (v := undef) rfl (by kernel_rfl) (by kernel_rfl) (by kernel_rfl) (fun _ _ _ h => h) (Or.inr ⟨by kernel_rfl, rfl⟩) hHeld ?_
          try simp only [Act.put, List.setIfInBounds_toArray, List.set_cons_zero, List.set_cons_succ]
          refine wpAnyH_take (i := 9) (oi := { dst := some 191, op := _, type := _, pos := _, after := _, guard := _ }) (v := undef) rfl (by kernel_rfl) (by kernel_rfl) (by kernel_rfl) (fun _ _ _ h => h) (Or.inr ⟨by kernel_rfl, rfl⟩) hHeld ?_
          try simp only [Act.put, List.setIfInBounds_toArray, List.set_cons_zero, List.set_cons_succ]
          refine wpAnyH_take (i := 10) (oi := { dst := some 192, op := _, type := _, pos := _, after := _, guard := _ }) (v := undef) rfl (by kernel_rfl) (by kernel_rfl) (by kernel_rfl) (fun _ _ _ h => h) (Or.inr ⟨by kernel_rfl, rfl⟩) hHeld ?_
          try simp only [Act.put, List.setIfInBounds_toArray, List.set_cons_zero, List.set_cons_succ]
          refine wpAnyH_take (i := 11) (oi := { dst := some 193, op := _, type := _, pos := _, after := _, guard := _ }) (v := undef) rfl (by kernel_rfl) (by kernel_rfl) (by kernel_rfl) (fun _ _ _ h => h) (Or.inr ⟨by kernel_rfl, rfl⟩) hHeld ?_
          try simp only [Act.put, List.setIfInBounds_toArray, List.set_cons_zero, List.set_cons_succ]
          refine wpAnyH_take (i := 12) (oi := { dst := some 194, op := _, type := _, pos := _, after := _, guard := _ }) (v := undef) rfl (by kernel_rfl) (by kernel_rfl) (by kernel_rfl) (fun _ _ _ h => h) (Or.inr ⟨by kernel_rfl, rfl⟩) hHeld ?_
          try simp only [Act.put, List.setIfInBounds_toArray, List.set_cons_zero, List.set_cons_succ]
          refine wpAnyH_take (i := 13) (oi := { dst := some 195, op := _, type := _, pos := _, after := _, guard := _ }) (v := undef) rfl (by kernel_rfl) (by kernel_rfl) (by kernel_rfl) (fun _ _ _ h => h) (Or.inr ⟨by kernel_rfl, rfl⟩) hHeld ?_
          try simp only [Act.put, List.setIfInBounds_toArray, List.set_cons_zero, List.set_cons_succ]
          refine wpAnyH_take (i := 14) (oi := { dst := some 196, op := _, type := _, pos := _, after := _, guard := _ }) (v := undef) rfl (by kernel_rfl) (by kernel_rfl) (by kernel_rfl) (fun _ _ _ h => h) (Or.inr ⟨by kernel_rfl, rfl⟩) hHeld ?_
          try simp only [Act.put, List.setIfInBounds_toArray, List.set_cons_zero, List.set_cons_succ]
          refine wpAnyH_take (i := 15) (oi := { dst := some 197, op := _, type := _, pos := _, after := _, guard := _ }) (v := undef) rfl (by kernel_rfl) (by kernel_rfl) (by kernel_rfl) (fun _ _ _ h => h) (Or.inr ⟨by kernel_rfl, rfl⟩) hHeld ?_
          try simp only [Act.put, List.setIfInBounds_toArray, List.set_cons_zero, List.set_cons_succ]
          refine wpAnyH_take (i := 16) (oi := { dst := some 198, op := _, type := _, pos := _, after := _, guard := _ }) (v := undef) rfl (by kernel_rfl) (by kernel_rfl) (by kernel_rfl) (fun _ _ _ h => h) (Or.inr ⟨by kernel_rfl, rfl⟩) hHeld ?_
          try simp only [Act.put, List.setIfInBounds_toArray, List.set_cons_zero, List.set_cons_succ]
          refine wpAnyH_take (i := 17) (oi := { dst := some 199, op := _, type := _, pos := _, after := _, guard := _ }) (v := undef) rfl (by kernel_rfl) (by kernel_rfl) (by kernel_rfl) (fun _ _ _ h => h) (Or.inr ⟨by kernel_rfl, rfl⟩) hHeld ?_
          try simp only [Act.put, List.setIfInBounds_toArray, List.set_cons_zero, List.set_cons_succ]
          refine wpAnyH_take (i := 18) (oi := { dst := some 200, op := _, type := _, pos := _, after := _, guard := _ }) (v := .bool false) rfl (by kernel_rfl) (by kernel_rfl) (by kernel_rfl) (fun _ _ _ h => h) (Or.inl ⟨by kernel_rfl, ?_⟩) hHeld ?_
          · intro w hSw
            (try dsimp only at hSw)
            go_simp
          try simp only [Act.put, List.setIfInBounds_toArray, List.set_cons_zero, List.set_cons_succ]
          refine wpAnyH_done (by kernel_rfl) ?_ _
          go_wp2
          go_roundw
          case rel => exact ⟨j + 1, by go_num, by omega, hp2, hB.out.drew⟩
          case measure => simp [intOf]; omega
    · have hlt' : ¬ (j : Int) < 21 := by omega
      have hf : mkAt t i = none := find_none fun k hk => hp.out k (by omega)
      exact absurd (hf.symm.trans HM.out) (by simp)
set_option maxHeartbeats 2000000 in
theorem l8Token_none (t : ByteArray) (i : Nat) (w : World) (hi : i < t.size) (ht : t.size ≤ 3000) (h : ltB (bt t i) = false) (h2 : dgB (bt t i) = false) (h3 : (bt t i == 34) = false) (hm : Hid (mkAt t i = none)) :
    Calls Tryd.prog 26 #[.string t, .int .i64 (i : Int)] w fun e w' => e = .returned (.tuple #[.agg #[.int .i64 0, .int .i64 (i : Int), .string ⟨#[]⟩, .int .i64 0], .int .i64 2, .int .i64 (i : Int)]) ∧ Below w.heap.size w w' := by
  have HM : Hid (mkAt t i = none) := hm
  clear hm
  have hb := get_bt t
  have hi' : (i : Int) < t.size := by omega
  have ht' : (t.size : Int) ≤ 3000 := by omega
  go_enter Tryd.func26, Tryd.ntmps26
  go_wp2_with fail
  refine (l8Letter_at _ _).mono ?_
  rw [h]
  rintro e w1 ⟨rfl, rfl⟩
  go_wp2_with fail
  refine (l8Digit_at _ _).mono ?_
  rw [h2]
  rintro e w1 ⟨rfl, rfl⟩
  go_wp2_with fail
  refine (l8Marks_at _).mono ?_
  rintro e w1 ⟨rfl, s1, b1⟩
  have B1 : TkB w w1 #[.int .i64 0, .int .i64 (i : Int), .string ⟨#[]⟩, .int .i64 0] := TkB.of b1
  simp only [World.size_alloc] at s1 ⊢
  obtain ⟨bm, om, cm, hv, lm, lz, hc⟩ := s1.parts (k := 0) (by omega)
  simp only [Value.slice.injEq, Option.some.injEq, Addr.mk.injEq] at hv
  obtain ⟨⟨rfl, rfl, _⟩, _, rfl⟩ := hv
  have HC : Hid (∀ k, k < 21 → w1.cell? ⟨w.heap.size + 1 + 1, k, none⟩ = some (.string (txAt mkS k))) := fun k hk => by have := hc k hk; rwa [Nat.zero_add] at this
  have HB : Hid (TkB w w1 #[.int .i64 0, .int .i64 (i : Int), .string ⟨#[]⟩, .int .i64 0]) := B1
  clear s1 b1 hc B1
  go_wp2_with fail
  go_loopw [11] (fun q wr => ∃ j : Nat, q = .int .i64 j ∧ j ≤ 21 ∧ Hid (∀ k, k < j → isMk t i (txAt mkS k) = false) ∧ Hid (Below w1.heap.size w1 wr)) (fun q _ => 21 - (intOf q).toNat)
  case atStart => exact ⟨0, by go_num, by omega, fun k hk => absurd hk (Nat.not_lt_zero _), Below.refl _ _⟩
  case round =>
    obtain ⟨j, rfl, hj, hp, hB⟩ := hrel
    obtain ⟨c1, c2, z1, b2, f1, f2⟩ := HB.out.keep hB.out
    by_cases hlt : j < 21
    · have hlt' : (j : Int) < 21 := by omega
      have lz' : w.heap.size + 1 + 1 < wr.heap.size := Nat.lt_of_lt_of_le lz hB.out.size
      have cj : wr.cell? ⟨w.heap.size + 1 + 1, j, none⟩ = some (.string (txAt mkS j)) := by rw [hB.out.cell (p := ⟨w.heap.size + 1 + 1, j, none⟩) lz]; exact HC.out j hlt
      have hsz : (txAt mkS j).size ≤ 2 := (mkS_size _ (by rw [mkS_at hlt]; exact List.getElem_mem _)).2
      cases hm : isMk t i (txAt mkS j) with
      | true =>
        have hf : mkAt t i = some (txAt mkS j) := find_first hlt hp.out hm
        exact absurd (hf.symm.trans HM.out) (by simp)
      | false =>
        have hp2 : Hid (∀ k, k < j + 1 → isMk t i (txAt mkS k) = false) := fun k hk => if e : k = j then e ▸ hm else hp.out k (by omega)
        clear HB HC hp
        by_cases m1 : i + (txAt mkS j).size ≤ t.size
        · have m2 : ((t.extract i (i + (txAt mkS j).size)).toList == (txAt mkS j).toList) = false := by simpa [isMk, m1] using hm
          clear hm
          generalize txAt mkS j = m at *
          have m1' : (i : Int) + m.size ≤ t.size := by omega
          have m3 : ((i : Int) + m.size).toNat = i + m.size := by omega
          go_wp2_with fail
          go_region
          all_goals
            go_wp2
            go_roundw
            case rel => exact ⟨j + 1, by go_num, by omega, hp2, hB.out.drew⟩
            case measure => simp [intOf]; omega
        · clear hm
          generalize txAt mkS j = m at *
          have m1' : ¬ (i : Int) + m.size ≤ t.size := by omega
          go_wp2_with fail
          refine wp_region_held_drew (S := fun V => V = wr.drew) (by kernel_rfl) (rfl) (fun hHeld => ?_)
          refine wpAnyH_take (i := 0) (oi := { dst := some 182, op := _, type := _, pos := _, after := _, guard := _ }) (v := .int .i64 (i : Int)) rfl (by kernel_rfl) (by kernel_rfl) (by kernel_rfl) (fun _ _ _ h => h) (Or.inl ⟨by kernel_rfl, ?_⟩) hHeld ?_
          · intro w hSw
            (try dsimp only at hSw)
            go_simp
          try simp only [Act.put, List.setIfInBounds_toArray, List.set_cons_zero, List.set_cons_succ]
          refine wpAnyH_take (i := 1) (oi := { dst := some 183, op := _, type := _, pos := _, after := _, guard := _ }) (v := .int .i64 (m.size : Int)) rfl (by kernel_rfl) (by kernel_rfl) (by kernel_rfl) (fun _ _ _ h => h) (Or.inl ⟨by kernel_rfl, ?_⟩) hHeld ?_
          · intro w hSw
            (try dsimp only at hSw)
            go_simp
          try simp only [Act.put, List.setIfInBounds_toArray, List.set_cons_zero, List.set_cons_succ]
          refine wpAnyH_take (i := 2) (oi := { dst := some 184, op := _, type := _, pos := _, after := _, guard := _ }) (v := .int .i64 ((i : Int) + m.size)) rfl (by kernel_rfl) (by kernel_rfl) (by kernel_rfl) (fun _ _ _ h => h) (Or.inl ⟨by kernel_rfl, ?_⟩) hHeld ?_
          · intro w hSw
            (try dsimp only at hSw)
            go_simp
            exact IntWalk.i64_in _ ⟨by omega, by omega⟩
          try simp only [Act.put, List.setIfInBounds_toArray, List.set_cons_zero, List.set_cons_succ]
          refine wpAnyH_take (i := 3) (oi := { dst := some 185, op := _, type := _, pos := _, after := _, guard := _ }) (v := .string t) rfl (by kernel_rfl) (by kernel_rfl) (by kernel_rfl) (fun _ _ _ h => h) (Or.inl ⟨by kernel_rfl, ?_⟩) hHeld ?_
          · intro w hSw
            (try dsimp only at hSw)
            go_simp
          try simp only [Act.put, List.setIfInBounds_toArray, List.set_cons_zero, List.set_cons_succ]
          refine wpAnyH_take (i := 4) (oi := { dst := some 186, op := _, type := _, pos := _, after := _, guard := _ }) (v := .int .i64 (t.size : Int)) rfl (by kernel_rfl) (by kernel_rfl) (by kernel_rfl) (fun _ _ _ h => h) (Or.inl ⟨by kernel_rfl, ?_⟩) hHeld ?_
          · intro w hSw
            (try dsimp only at hSw)
            go_simp
          try simp only [Act.put, List.setIfInBounds_toArray, List.set_cons_zero, List.set_cons_succ]
          refine wpAnyH_take (i := 5) (oi := { dst := some 187, op := _, type := _, pos := _, after := _, guard := _ }) (v := .bool false) rfl (by kernel_rfl) (by kernel_rfl) (by kernel_rfl) (fun _ _ _ h => h) (Or.inl ⟨by kernel_rfl, ?_⟩) hHeld ?_
          · intro w hSw
            (try dsimp only at hSw)
            go_simp
          try simp only [Act.put, List.setIfInBounds_toArray, List.set_cons_zero, List.set_cons_succ]
          refine wpAnyH_take (i := 6) (oi := { dst := some 188, op := _, type := _, pos := _, after := _, guard := _ }) (v := .bool false) rfl (by kernel_rfl) (by kernel_rfl) (by kernel_rfl) (fun _ _ _ h => h) (Or.inl ⟨by kernel_rfl, ?_⟩) hHeld ?_
          · intro w hSw
            (try dsimp only at hSw)
            go_simp
          try simp only [Act.put, List.setIfInBounds_toArray, List.set_cons_zero, List.set_cons_succ]
          refine wpAnyH_take (i := 7) (oi := { dst := some 189, op := _, type := _, pos := _, after := _, guard := _ }) (v := undef) rfl (by kernel_rfl) (by kernel_rfl) (by kernel_rfl) (fun _ _ _ h => h) (Or.inr ⟨by kernel_rfl, rfl⟩) hHeld ?_
          try simp only [Act.put, List.setIfInBounds_toArray, List.set_cons_zero, List.set_cons_succ]
          refine wpAnyH_take (i := 8) (oi := { dst := some 190, op := _, type := _, pos := _, after := _, guard := _ }) (v := undef) rfl (by kernel_rfl) (by kernel_rfl) (by kernel_rfl) (fun _ _ _ h => h) (Or.inr ⟨by kernel_rfl, rfl⟩) hHeld ?_
          try simp only [Act.put, List.setIfInBounds_toArray, List.set_cons_zero, List.set_cons_succ]
          refine wpAnyH_take (i := 9) (oi := { dst := some 191, op := _, type := _, pos := _, after := _, guard := _ }) (v := undef) rfl (by kernel_rfl) (by kernel_rfl) (by kernel_rfl) (fun _ _ _ h => h) (Or.inr ⟨by kernel_rfl, rfl⟩) hHeld ?_
          try simp only [Act.put, List.setIfInBounds_toArray, List.set_cons_zero, List.set_cons_succ]
          refine wpAnyH_take (i := 10) (oi := { dst := some 192, op := _, type := _, pos := _, after := _, guard := _ }) (v := undef) rfl (by kernel_rfl) (by kernel_rfl) (by kernel_rfl) (fun _ _ _ h => h) (Or.inr ⟨by kernel_rfl, rfl⟩) hHeld ?_
          try simp only [Act.put, List.setIfInBounds_toArray, List.set_cons_zero, List.set_cons_succ]
          refine wpAnyH_take (i := 11) (oi := { dst := some 193, op := _, type := _, pos := _, after := _, guard := _ }) (v := undef) rfl (by kernel_rfl) (by kernel_rfl) (by kernel_rfl) (fun _ _ _ h => h) (Or.inr ⟨by kernel_rfl, rfl⟩) hHeld ?_
          try simp only [Act.put, List.setIfInBounds_toArray, List.set_cons_zero, List.set_cons_succ]
          refine wpAnyH_take (i := 12) (oi := { dst := some 194, op := _, type := _, pos := _, after := _, guard := _ }) (v := undef) rfl (by kernel_rfl) (by kernel_rfl) (by kernel_rfl) (fun _ _ _ h => h) (Or.inr ⟨by kernel_rfl, rfl⟩) hHeld ?_
          try simp only [Act.put, List.setIfInBounds_toArray, List.set_cons_zero, List.set_cons_succ]
          refine wpAnyH_take (i := 13) (oi := { dst := some 195, op := _, type := _, pos := _, after := _, guard := _ }) (v := undef) rfl (by kernel_rfl) (by kernel_rfl) (by kernel_rfl) (fun _ _ _ h => h) (Or.inr ⟨by kernel_rfl, rfl⟩) hHeld ?_
          try simp only [Act.put, List.setIfInBounds_toArray, List.set_cons_zero, List.set_cons_succ]
          refine wpAnyH_take (i := 14) (oi := { dst := some 196, op := _, type := _, pos := _, after := _, guard := _ }) (v := undef) rfl (by kernel_rfl) (by kernel_rfl) (by kernel_rfl) (fun _ _ _ h => h) (Or.inr ⟨by kernel_rfl, rfl⟩) hHeld ?_
          try simp only [Act.put, List.setIfInBounds_toArray, List.set_cons_zero, List.set_cons_succ]
          refine wpAnyH_take (i := 15) (oi := { dst := some 197, op := _, type := _, pos := _, after := _, guard := _ }) (v := undef) rfl (by kernel_rfl) (by kernel_rfl) (by kernel_rfl) (fun _ _ _ h => h) (Or.inr ⟨by kernel_rfl, rfl⟩) hHeld ?_
          try simp only [Act.put, List.setIfInBounds_toArray, List.set_cons_zero, List.set_cons_succ]
          refine wpAnyH_take (i := 16) (oi := { dst := some 198, op := _, type := _, pos := _, after := _, guard := _ }) (v := undef) rfl (by kernel_rfl) (by kernel_rfl) (by kernel_rfl) (fun _ _ _ h => h) (Or.inr ⟨by kernel_rfl, rfl⟩) hHeld ?_
          try simp only [Act.put, List.setIfInBounds_toArray, List.set_cons_zero, List.set_cons_succ]
          refine wpAnyH_take (i := 17) (oi := { dst := some 199, op := _, type := _, pos := _, after := _, guard := _ }) (v := undef) rfl (by kernel_rfl) (by kernel_rfl) (by kernel_rfl) (fun _ _ _ h => h) (Or.inr ⟨by kernel_rfl, rfl⟩) hHeld ?_
          try simp only [Act.put, List.setIfInBounds_toArray, List.set_cons_zero, List.set_cons_succ]
          refine wpAnyH_take (i := 18) (oi := { dst := some 200, op := _, type := _, pos := _, after := _, guard := _ }) (v := .bool false) rfl (by kernel_rfl) (by kernel_rfl) (by kernel_rfl) (fun _ _ _ h => h) (Or.inl ⟨by kernel_rfl, ?_⟩) hHeld ?_
          · intro w hSw
            (try dsimp only at hSw)
            go_simp
          try simp only [Act.put, List.setIfInBounds_toArray, List.set_cons_zero, List.set_cons_succ]
          refine wpAnyH_done (by kernel_rfl) ?_ _
          go_wp2
          go_roundw
          case rel => exact ⟨j + 1, by go_num, by omega, hp2, hB.out.drew⟩
          case measure => simp [intOf]; omega
    · have hlt' : ¬ (j : Int) < 21 := by omega
      have hf : mkAt t i = none := find_none fun k hk => hp.out k (by omega)
      go_wp2_with fail
      (try simp only [Exit.inBlock, Exit.then])
      refine bodyPost_ret (v := .tuple #[.agg #[.int .i64 0, .int .i64 (i : Int), .string ⟨#[]⟩, .int .i64 0], .int .i64 2, .int .i64 (i : Int)]) (by simp [results, Tryd.results26, go_sem, c1, c2, z1]) rfl ⟨rfl, ?_⟩
      repeat' first | exact b2 | refine Below.setCell ?_ (by first | exact Nat.le_refl _ | exact Nat.le_succ _) _
end Go.Proofs.YtiglkhkfbgjjoaaDoor
