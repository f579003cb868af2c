/- - -/
import Derived.Test.YtiglkhkfbgjjoaaGreatDoorPLxO
import Derived.Test.YtiglkhkfbgjjoaaGreatDoorPLxT
namespace Go.Proofs.YtiglkhkfbgjjoaaGreatDoor
set_option maxRecDepth 20000
open Go.RowKit Go.PlainAid
set_option linter.unusedSimpArgs false
set_option linter.unusedVariables false
theorem zf5 {j : Nat} (h : j < 21) : zaf mkS j = mkS[j]'(by simpa [mkS] using h) := by
 unfold zaf
 rw [List.getD_eq_getElem?_getD, List.getElem?_eq_getElem (by simpa [mkS] using h)]
 rfl
theorem zhh {p : ByteArray -> Bool} {j : Nat} (hj : j < 21) (h : ∀ k, k < j -> p (zaf mkS k) = false) (hp : p (zaf mkS j) = true) : mkS.find? p = some (zaf mkS j) := by
 rw [List.find?_eq_some_iff_getElem]
 refine ⟨hp, j, by simpa [mkS] using hj, (zf5 hj).symm, fun k hk => ?_⟩
 have := h k hk
 rw [zf5 (by omega)] at this
 simpa using this
theorem zi5 {p : ByteArray -> Bool} (h : ∀ k, k < 21 -> p (zaf mkS k) = false) : mkS.find? p = none := by
 rw [List.find?_eq_none]
 intro x hx
 obtain ⟨k, hk, rfl⟩ := List.mem_iff_getElem.1 hx
 have hk' : k < 21 := by simpa [mkS] using hk
 have := h k hk'
 rw [zf5 hk'] at this
 simpa using this
set_option maxHeartbeats 2000000 in
theorem zkp (t : ByteArray) (i : Nat) (m : ByteArray) (w : World) (hi : i < t.size) (ht : t.size <= 3000) (h : ltB (bt t i) = false) (h2 : dgB (bt t i) = false) (h3 : (bt t i == 34) = false) (hm : Hid (zbo t i = some m)) :
 Calls Tryz.prog 32 #[.string t, .int .i64 (i : Int)] w fun e w' => e = .returned (.tuple #[.agg #[.int .i64 5, .int .i64 (i : Int), .string m, .int .i64 0], .int .i64 0, .int .i64 ((i + m.size : Nat) : Int)]) /\ Below w.heap.size w w' := by
 have HM : Hid (zbo t i = some m) := hm
 clear hm
 have hb := get_bt t
 have hi' : (i : Int) < t.size := by omega
 have ht' : (t.size : Int) <= 3000 := by omega
 go_enter Tryz.func32, Tryz.ntmps32
 go_wp2_with fail
 refine (za0 _ _).mono ?_
 rw [h]
 rintro e w1 ⟨rfl, rfl⟩
 go_wp2_with fail
 refine (zba _ _).mono ?_
 rw [h2]
 rintro e w1 ⟨rfl, rfl⟩
 go_wp2_with fail
 refine (zhg _).mono ?_
 rintro e w1 ⟨rfl, s1, b1⟩
 have B1 : TkB w w1 #[.int .i64 0, .int .i64 (i : Int), .string ⟨#[]⟩, .int .i64 0] := TkB.of b1
 simp only [World.size_alloc] at s1 ⊢
 obtain ⟨bm, om, cm, hv, lm, lz, hc⟩ := s1.parts (k := 0) (by omega)
 simp only [Value.slice.injEq, Option.some.injEq, Addr.mk.injEq] at hv
 obtain ⟨⟨rfl, rfl, _⟩, _, rfl⟩ := hv
 have HC : Hid (∀ k, k < 21 -> w1.cell? ⟨w.heap.size + 1 + 1, k, none⟩ = some (.string (zaf mkS k))) := fun k hk => by have := hc k hk; rwa [Nat.zero_add] at this
 have HB : Hid (TkB w w1 #[.int .i64 0, .int .i64 (i : Int), .string ⟨#[]⟩, .int .i64 0]) := B1
 clear s1 b1 hc B1
 go_wp2_with fail
 go_loopw [11] (fun q wr => ∃ j : Nat, q = .int .i64 j /\ j <= 21 /\ Hid (∀ k, k < j -> zcs t i (zaf mkS k) = false) /\ Hid (Below w1.heap.size w1 wr)) (fun q _ => 21 - (intOf q).toNat)
 case atStart => exact ⟨0, by go_num, by omega, fun k hk => absurd hk (Nat.not_lt_zero _), Below.refl _ _⟩
 case round =>
  obtain ⟨j, rfl, hj, hp, hB⟩ := hrel
  obtain ⟨c1, c2, z1, b2, f1, f2⟩ := HB.out.keep hB.out
  by_cases hlt : j < 21
  · have hlt' : (j : Int) < 21 := by omega
    have lz' : w.heap.size + 1 + 1 < wr.heap.size := Nat.lt_of_lt_of_le lz hB.out.size
    have cj : wr.cell? ⟨w.heap.size + 1 + 1, j, none⟩ = some (.string (zaf mkS j)) := by rw [hB.out.cell (p := ⟨w.heap.size + 1 + 1, j, none⟩) lz]; exact HC.out j hlt
    have hsz : (zaf mkS j).size <= 2 := (zc5 _ (by rw [zf5 hlt]; exact List.getElem_mem _)).2
    cases hm : zcs t i (zaf mkS j) with
    | true =>
      have hf : zbo t i = some (zaf mkS j) := zhh hlt hp.out hm
      have e : zaf mkS j = m := by have := hf.symm.trans HM.out; injection this
      simp only [zcs, Bool.and_eq_true, decide_eq_true_eq] at hm
      obtain ⟨m1, m2⟩ := hm
      rw [e] at m1 m2 cj hsz
      clear HB HC hp hf e
      have m1' : (i : Int) + m.size <= t.size := by omega
      have m3 : ((i : Int) + m.size).toNat = i + m.size := by omega
      go_wp2_with fail
      go_region
      all_goals
       go_wp2
       (try simp only [Exit.inBlock, Exit.then])
       refine bodyPost_ret (v := .tuple #[.agg #[.int .i64 5, .int .i64 (i : Int), .string m, .int .i64 0], .int .i64 0, .int .i64 ((i + m.size : Nat) : Int)]) (by simp [results, Tryz.results32, go_sem, c1, c2, z1]) rfl ⟨rfl, ?_⟩
       repeat' first | (with_reducible exact b2) | (with_reducible refine Below.drew ?_) | with_reducible refine Below.setCell ?_ (by first | exact Nat.le_refl _ | exact Nat.le_succ _) _
    | false =>
      have hp2 : Hid (∀ k, k < j + 1 -> zcs t i (zaf mkS k) = false) := fun k hk => if e : k = j then e ▸ hm else hp.out k (by omega)
      clear HB HC hp
      by_cases m1 : i + (zaf mkS j).size <= t.size
      · have m2 : ((t.extract i (i + (zaf mkS j).size)).toList == (zaf mkS j).toList) = false := by simpa [zcs, m1] using hm
        clear hm
        generalize zaf mkS j = m0 at *
        have m1' : (i : Int) + m0.size <= t.size := by omega
        have m3 : ((i : Int) + m0.size).toNat = i + m0.size := by omega
        go_wp2_with fail
        go_region
        all_goals
         go_wp2
         go_roundw
         case rel => exact ⟨j + 1, by go_num, by omega, hp2, hB.out.drew⟩
         case measure => simp [intOf]; omega
      · clear hm
        generalize zaf mkS j = m0 at *
        have m1' : ¬ (i : Int) + m0.size <= t.size := by omega
        go_wp2_with fail
        refine wp_region_held_drew (S := fun V => V = wr.drew) (by kernel_rfl) (rfl) (fun hHeld => ?_)
        refine wpAnyH_take (i := 0) (oi := { dst := some 182, op := _, type := _, pos := _, after := _, guard := _ }) (v := .int .i64 (i : Int)) rfl (by kernel_rfl) (by kernel_rfl) (by kernel_rfl) (fun _ _ _ h => h) (Or.inl ⟨by kernel_rfl, ?_⟩) hHeld ?_
        · intro w hSw
          (try dsimp only at hSw)
          go_simp
        try simp only [Act.put, zv2, zv3, zv4]
        refine wpAnyH_take (i := 1) (oi := { dst := some 183, op := _, type := _, pos := _, after := _, guard := _ }) (v := .int .i64 (m0.size : Int)) rfl (by kernel_rfl) (by kernel_rfl) (by kernel_rfl) (fun _ _ _ h => h) (Or.inl ⟨by kernel_rfl, ?_⟩) hHeld ?_
        · intro w hSw
          (try dsimp only at hSw)
          go_simp
        try simp only [Act.put, zv2, zv3, zv4]
        refine wpAnyH_take (i := 2) (oi := { dst := some 184, op := _, type := _, pos := _, after := _, guard := _ }) (v := .int .i64 ((i : Int) + m0.size)) rfl (by kernel_rfl) (by kernel_rfl) (by kernel_rfl) (fun _ _ _ h => h) (Or.inl ⟨by kernel_rfl, ?_⟩) hHeld ?_
        · intro w hSw
          (try dsimp only at hSw)
          go_simp
          exact IntWalk.i64_in _ ⟨by omega, by omega⟩
        try simp only [Act.put, zv2, zv3, zv4]
        refine wpAnyH_take (i := 3) (oi := { dst := some 185, op := _, type := _, pos := _, after := _, guard := _ }) (v := .string t) rfl (by kernel_rfl) (by kernel_rfl) (by kernel_rfl) (fun _ _ _ h => h) (Or.inl ⟨by kernel_rfl, ?_⟩) hHeld ?_
        · intro w hSw
          (try dsimp only at hSw)
          go_simp
        try simp only [Act.put, zv2, zv3, zv4]
        refine wpAnyH_take (i := 4) (oi := { dst := some 186, op := _, type := _, pos := _, after := _, guard := _ }) (v := .int .i64 (t.size : Int)) rfl (by kernel_rfl) (by kernel_rfl) (by kernel_rfl) (fun _ _ _ h => h) (Or.inl ⟨by kernel_rfl, ?_⟩) hHeld ?_
        · intro w hSw
          (try dsimp only at hSw)
          go_simp
        try simp only [Act.put, zv2, zv3, zv4]
        refine wpAnyH_take (i := 5) (oi := { dst := some 187, op := _, type := _, pos := _, after := _, guard := _ }) (v := .bool false) rfl (by kernel_rfl) (by kernel_rfl) (by kernel_rfl) (fun _ _ _ h => h) (Or.inl ⟨by kernel_rfl, ?_⟩) hHeld ?_
        · intro w hSw
          (try dsimp only at hSw)
          go_simp
        try simp only [Act.put, zv2, zv3, zv4]
        refine wpAnyH_take (i := 6) (oi := { dst := some 188, op := _, type := _, pos := _, after := _, guard := _ }) (v := .bool false) rfl (by kernel_rfl) (by kernel_rfl) (by kernel_rfl) (fun _ _ _ h => h) (Or.inl ⟨by kernel_rfl, ?_⟩) hHeld ?_
        · intro w hSw
          (try dsimp only at hSw)
          go_simp
        try simp only [Act.put, zv2, zv3, zv4]
        refine wpAnyH_take (i := 7) (oi := { dst := some 189, op := _, type := _, pos := _, after := _, guard := _ }) (v := undef) rfl (by kernel_rfl) (by kernel_rfl) (by kernel_rfl) (fun _ _ _ h => h) (Or.inr ⟨by kernel_rfl, rfl⟩) hHeld ?_
        try simp only [Act.put, zv2, zv3, zv4]
        refine wpAnyH_take (i := 8) (oi := { dst := some 190, op := _, type := _, pos := _, after := _, guard := _ }) (v := undef) rfl (by kernel_rfl) (by kernel_rfl) (by kernel_rfl) (fun _ _ _ h => h) (Or.inr ⟨by kernel_rfl, rfl⟩) hHeld ?_
        try simp only [Act.put, zv2, zv3, zv4]
        refine wpAnyH_take (i := 9) (oi := { dst := some 191, op := _, type := _, pos := _, after := _, guard := _ }) (v := undef) rfl (by kernel_rfl) (by kernel_rfl) (by kernel_rfl) (fun _ _ _ h => h) (Or.inr ⟨by kernel_rfl, rfl⟩) hHeld ?_
        try simp only [Act.put, zv2, zv3, zv4]
        refine wpAnyH_take (i := 10) (oi := { dst := some 192, op := _, type := _, pos := _, after := _, guard := _ }) (v := undef) rfl (by kernel_rfl) (by kernel_rfl) (by kernel_rfl) (fun _ _ _ h => h) (Or.inr ⟨by kernel_rfl, rfl⟩) hHeld ?_
        try simp only [Act.put, zv2, zv3, zv4]
        refine wpAnyH_take (i := 11) (oi := { dst := some 193, op := _, type := _, pos := _, after := _, guard := _ }) (v := undef) rfl (by kernel_rfl) (by kernel_rfl) (by kernel_rfl) (fun _ _ _ h => h) (Or.inr ⟨by kernel_rfl, rfl⟩) hHeld ?_
        try simp only [Act.put, zv2, zv3, zv4]
        refine wpAnyH_take (i := 12) (oi := { dst := some 194, op := _, type := _, pos := _, after := _, guard := _ }) (v := undef) rfl (by kernel_rfl) (by kernel_rfl) (by kernel_rfl) (fun _ _ _ h => h) (Or.inr ⟨by kernel_rfl, rfl⟩) hHeld ?_
        try simp only [Act.put, zv2, zv3, zv4]
        refine wpAnyH_take (i := 13) (oi := { dst := some 195, op := _, type := _, pos := _, after := _, guard := _ }) (v := undef) rfl (by kernel_rfl) (by kernel_rfl) (by kernel_rfl) (fun _ _ _ h => h) (Or.inr ⟨by kernel_rfl, rfl⟩) hHeld ?_
        try simp only [Act.put, zv2, zv3, zv4]
        refine wpAnyH_take (i := 14) (oi := { dst := some 196, op := _, type := _, pos := _, after := _, guard := _ }) (v := undef) rfl (by kernel_rfl) (by kernel_rfl) (by kernel_rfl) (fun _ _ _ h => h) (Or.inr ⟨by kernel_rfl, rfl⟩) hHeld ?_
        try simp only [Act.put, zv2, zv3, zv4]
        refine wpAnyH_take (i := 15) (oi := { dst := some 197, op := _, type := _, pos := _, after := _, guard := _ }) (v := undef) rfl (by kernel_rfl) (by kernel_rfl) (by kernel_rfl) (fun _ _ _ h => h) (Or.inr ⟨by kernel_rfl, rfl⟩) hHeld ?_
        try simp only [Act.put, zv2, zv3, zv4]
        refine wpAnyH_take (i := 16) (oi := { dst := some 198, op := _, type := _, pos := _, after := _, guard := _ }) (v := undef) rfl (by kernel_rfl) (by kernel_rfl) (by kernel_rfl) (fun _ _ _ h => h) (Or.inr ⟨by kernel_rfl, rfl⟩) hHeld ?_
        try simp only [Act.put, zv2, zv3, zv4]
        refine wpAnyH_take (i := 17) (oi := { dst := some 199, op := _, type := _, pos := _, after := _, guard := _ }) (v := undef) rfl (by kernel_rfl) (by kernel_rfl) (by kernel_rfl) (fun _ _ _ h => h) (Or.inr ⟨by kernel_rfl, rfl⟩) hHeld ?_
        try simp only [Act.put, zv2, zv3, zv4]
        refine wpAnyH_take (i := 18) (oi := { dst := some 200, op := _, type := _, pos := _, after := _, guard := _ }) (v := .bool false) rfl (by kernel_rfl) (by kernel_rfl) (by kernel_rfl) (fun _ _ _ h => h) (Or.inl ⟨by kernel_rfl, ?_⟩) hHeld ?_
        · intro w hSw
          (try dsimp only at hSw)
          go_simp
        try simp only [Act.put, zv2, zv3, zv4]
        refine wpAnyH_done (by kernel_rfl) ?_ _
        go_wp2
        go_roundw
        case rel => exact ⟨j + 1, by go_num, by omega, hp2, hB.out.drew⟩
        case measure => simp [intOf]; omega
  · have hlt' : ¬ (j : Int) < 21 := by omega
    have hf : zbo t i = none := zi5 fun k hk => hp.out k (by omega)
    exact absurd (hf.symm.trans HM.out) (by simp)
set_option maxHeartbeats 2000000 in
theorem zkq (t : ByteArray) (i : Nat) (w : World) (hi : i < t.size) (ht : t.size <= 3000) (h : ltB (bt t i) = false) (h2 : dgB (bt t i) = false) (h3 : (bt t i == 34) = false) (hm : Hid (zbo t i = none)) :
 Calls Tryz.prog 32 #[.string t, .int .i64 (i : Int)] w fun e w' => e = .returned (.tuple #[.agg #[.int .i64 0, .int .i64 (i : Int), .string ⟨#[]⟩, .int .i64 0], .int .i64 2, .int .i64 (i : Int)]) /\ Below w.heap.size w w' := by
 have HM : Hid (zbo t i = none) := hm
 clear hm
 have hb := get_bt t
 have hi' : (i : Int) < t.size := by omega
 have ht' : (t.size : Int) <= 3000 := by omega
 go_enter Tryz.func32, Tryz.ntmps32
 go_wp2_with fail
 refine (za0 _ _).mono ?_
 rw [h]
 rintro e w1 ⟨rfl, rfl⟩
 go_wp2_with fail
 refine (zba _ _).mono ?_
 rw [h2]
 rintro e w1 ⟨rfl, rfl⟩
 go_wp2_with fail
 refine (zhg _).mono ?_
 rintro e w1 ⟨rfl, s1, b1⟩
 have B1 : TkB w w1 #[.int .i64 0, .int .i64 (i : Int), .string ⟨#[]⟩, .int .i64 0] := TkB.of b1
 simp only [World.size_alloc] at s1 ⊢
 obtain ⟨bm, om, cm, hv, lm, lz, hc⟩ := s1.parts (k := 0) (by omega)
 simp only [Value.slice.injEq, Option.some.injEq, Addr.mk.injEq] at hv
 obtain ⟨⟨rfl, rfl, _⟩, _, rfl⟩ := hv
 have HC : Hid (∀ k, k < 21 -> w1.cell? ⟨w.heap.size + 1 + 1, k, none⟩ = some (.string (zaf mkS k))) := fun k hk => by have := hc k hk; rwa [Nat.zero_add] at this
 have HB : Hid (TkB w w1 #[.int .i64 0, .int .i64 (i : Int), .string ⟨#[]⟩, .int .i64 0]) := B1
 clear s1 b1 hc B1
 go_wp2_with fail
 go_loopw [11] (fun q wr => ∃ j : Nat, q = .int .i64 j /\ j <= 21 /\ Hid (∀ k, k < j -> zcs t i (zaf mkS k) = false) /\ Hid (Below w1.heap.size w1 wr)) (fun q _ => 21 - (intOf q).toNat)
 case atStart => exact ⟨0, by go_num, by omega, fun k hk => absurd hk (Nat.not_lt_zero _), Below.refl _ _⟩
 case round =>
  obtain ⟨j, rfl, hj, hp, hB⟩ := hrel
  obtain ⟨c1, c2, z1, b2, f1, f2⟩ := HB.out.keep hB.out
  by_cases hlt : j < 21
  · have hlt' : (j : Int) < 21 := by omega
    have lz' : w.heap.size + 1 + 1 < wr.heap.size := Nat.lt_of_lt_of_le lz hB.out.size
    have cj : wr.cell? ⟨w.heap.size + 1 + 1, j, none⟩ = some (.string (zaf mkS j)) := by rw [hB.out.cell (p := ⟨w.heap.size + 1 + 1, j, none⟩) lz]; exact HC.out j hlt
    have hsz : (zaf mkS j).size <= 2 := (zc5 _ (by rw [zf5 hlt]; exact List.getElem_mem _)).2
    cases hm : zcs t i (zaf mkS j) with
    | true =>
      have hf : zbo t i = some (zaf mkS j) := zhh hlt hp.out hm
      exact absurd (hf.symm.trans HM.out) (by simp)
    | false =>
      have hp2 : Hid (∀ k, k < j + 1 -> zcs t i (zaf mkS k) = false) := fun k hk => if e : k = j then e ▸ hm else hp.out k (by omega)
      clear HB HC hp
      by_cases m1 : i + (zaf mkS j).size <= t.size
      · have m2 : ((t.extract i (i + (zaf mkS j).size)).toList == (zaf mkS j).toList) = false := by simpa [zcs, m1] using hm
        clear hm
        generalize zaf mkS j = m at *
        have m1' : (i : Int) + m.size <= t.size := by omega
        have m3 : ((i : Int) + m.size).toNat = i + m.size := by omega
        go_wp2_with fail
        go_region
        all_goals
         go_wp2
         go_roundw
         case rel => exact ⟨j + 1, by go_num, by omega, hp2, hB.out.drew⟩
         case measure => simp [intOf]; omega
      · clear hm
        generalize zaf mkS j = m at *
        have m1' : ¬ (i : Int) + m.size <= t.size := by omega
        go_wp2_with fail
        refine wp_region_held_drew (S := fun V => V = wr.drew) (by kernel_rfl) (rfl) (fun hHeld => ?_)
        refine wpAnyH_take (i := 0) (oi := { dst := some 182, op := _, type := _, pos := _, after := _, guard := _ }) (v := .int .i64 (i : Int)) rfl (by kernel_rfl) (by kernel_rfl) (by kernel_rfl) (fun _ _ _ h => h) (Or.inl ⟨by kernel_rfl, ?_⟩) hHeld ?_
        · intro w hSw
          (try dsimp only at hSw)
          go_simp
        try simp only [Act.put, zv2, zv3, zv4]
        refine wpAnyH_take (i := 1) (oi := { dst := some 183, op := _, type := _, pos := _, after := _, guard := _ }) (v := .int .i64 (m.size : Int)) rfl (by kernel_rfl) (by kernel_rfl) (by kernel_rfl) (fun _ _ _ h => h) (Or.inl ⟨by kernel_rfl, ?_⟩) hHeld ?_
        · intro w hSw
          (try dsimp only at hSw)
          go_simp
        try simp only [Act.put, zv2, zv3, zv4]
        refine wpAnyH_take (i := 2) (oi := { dst := some 184, op := _, type := _, pos := _, after := _, guard := _ }) (v := .int .i64 ((i : Int) + m.size)) rfl (by kernel_rfl) (by kernel_rfl) (by kernel_rfl) (fun _ _ _ h => h) (Or.inl ⟨by kernel_rfl, ?_⟩) hHeld ?_
        · intro w hSw
          (try dsimp only at hSw)
          go_simp
          exact IntWalk.i64_in _ ⟨by omega, by omega⟩
        try simp only [Act.put, zv2, zv3, zv4]
        refine wpAnyH_take (i := 3) (oi := { dst := some 185, op := _, type := _, pos := _, after := _, guard := _ }) (v := .string t) rfl (by kernel_rfl) (by kernel_rfl) (by kernel_rfl) (fun _ _ _ h => h) (Or.inl ⟨by kernel_rfl, ?_⟩) hHeld ?_
        · intro w hSw
          (try dsimp only at hSw)
          go_simp
        try simp only [Act.put, zv2, zv3, zv4]
        refine wpAnyH_take (i := 4) (oi := { dst := some 186, op := _, type := _, pos := _, after := _, guard := _ }) (v := .int .i64 (t.size : Int)) rfl (by kernel_rfl) (by kernel_rfl) (by kernel_rfl) (fun _ _ _ h => h) (Or.inl ⟨by kernel_rfl, ?_⟩) hHeld ?_
        · intro w hSw
          (try dsimp only at hSw)
          go_simp
        try simp only [Act.put, zv2, zv3, zv4]
        refine wpAnyH_take (i := 5) (oi := { dst := some 187, op := _, type := _, pos := _, after := _, guard := _ }) (v := .bool false) rfl (by kernel_rfl) (by kernel_rfl) (by kernel_rfl) (fun _ _ _ h => h) (Or.inl ⟨by kernel_rfl, ?_⟩) hHeld ?_
        · intro w hSw
          (try dsimp only at hSw)
          go_simp
        try simp only [Act.put, zv2, zv3, zv4]
        refine wpAnyH_take (i := 6) (oi := { dst := some 188, op := _, type := _, pos := _, after := _, guard := _ }) (v := .bool false) rfl (by kernel_rfl) (by kernel_rfl) (by kernel_rfl) (fun _ _ _ h => h) (Or.inl ⟨by kernel_rfl, ?_⟩) hHeld ?_
        · intro w hSw
          (try dsimp only at hSw)
          go_simp
        try simp only [Act.put, zv2, zv3, zv4]
        refine wpAnyH_take (i := 7) (oi := { dst := some 189, op := _, type := _, pos := _, after := _, guard := _ }) (v := undef) rfl (by kernel_rfl) (by kernel_rfl) (by kernel_rfl) (fun _ _ _ h => h) (Or.inr ⟨by kernel_rfl, rfl⟩) hHeld ?_
        try simp only [Act.put, zv2, zv3, zv4]
        refine wpAnyH_take (i := 8) (oi := { dst := some 190, op := _, type := _, pos := _, after := _, guard := _ }) (v := undef) rfl (by kernel_rfl) (by kernel_rfl) (by kernel_rfl) (fun _ _ _ h => h) (Or.inr ⟨by kernel_rfl, rfl⟩) hHeld ?_
        try simp only [Act.put, zv2, zv3, zv4]
        refine wpAnyH_take (i := 9) (oi := { dst := some 191, op := _, type := _, pos := _, after := _, guard := _ }) (v := undef) rfl (by kernel_rfl) (by kernel_rfl) (by kernel_rfl) (fun _ _ _ h => h) (Or.inr ⟨by kernel_rfl, rfl⟩) hHeld ?_
        try simp only [Act.put, zv2, zv3, zv4]
        refine wpAnyH_take (i := 10) (oi := { dst := some 192, op := _, type := _, pos := _, after := _, guard := _ }) (v := undef) rfl (by kernel_rfl) (by kernel_rfl) (by kernel_rfl) (fun _ _ _ h => h) (Or.inr ⟨by kernel_rfl, rfl⟩) hHeld ?_
        try simp only [Act.put, zv2, zv3, zv4]
        refine wpAnyH_take (i := 11) (oi := { dst := some 193, op := _, type := _, pos := _, after := _, guard := _ }) (v := undef) rfl (by kernel_rfl) (by kernel_rfl) (by kernel_rfl) (fun _ _ _ h => h) (Or.inr ⟨by kernel_rfl, rfl⟩) hHeld ?_
        try simp only [Act.put, zv2, zv3, zv4]
        refine wpAnyH_take (i := 12) (oi := { dst := some 194, op := _, type := _, pos := _, after := _, guard := _ }) (v := undef) rfl (by kernel_rfl) (by kernel_rfl) (by kernel_rfl) (fun _ _ _ h => h) (Or.inr ⟨by kernel_rfl, rfl⟩) hHeld ?_
        try simp only [Act.put, zv2, zv3, zv4]
        refine wpAnyH_take (i := 13) (oi := { dst := some 195, op := _, type := _, pos := _, after := _, guard := _ }) (v := undef) rfl (by kernel_rfl) (by kernel_rfl) (by kernel_rfl) (fun _ _ _ h => h) (Or.inr ⟨by kernel_rfl, rfl⟩) hHeld ?_
        try simp only [Act.put, zv2, zv3, zv4]
        refine wpAnyH_take (i := 14) (oi := { dst := some 196, op := _, type := _, pos := _, after := _, guard := _ }) (v := undef) rfl (by kernel_rfl) (by kernel_rfl) (by kernel_rfl) (fun _ _ _ h => h) (Or.inr ⟨by kernel_rfl, rfl⟩) hHeld ?_
        try simp only [Act.put, zv2, zv3, zv4]
        refine wpAnyH_take (i := 15) (oi := { dst := some 197, op := _, type := _, pos := _, after := _, guard := _ }) (v := undef) rfl (by kernel_rfl) (by kernel_rfl) (by kernel_rfl) (fun _ _ _ h => h) (Or.inr ⟨by kernel_rfl, rfl⟩) hHeld ?_
        try simp only [Act.put, zv2, zv3, zv4]
        refine wpAnyH_take (i := 16) (oi := { dst := some 198, op := _, type := _, pos := _, after := _, guard := _ }) (v := undef) rfl (by kernel_rfl) (by kernel_rfl) (by kernel_rfl) (fun _ _ _ h => h) (Or.inr ⟨by kernel_rfl, rfl⟩) hHeld ?_
        try simp only [Act.put, zv2, zv3, zv4]
        refine wpAnyH_take (i := 17) (oi := { dst := some 199, op := _, type := _, pos := _, after := _, guard := _ }) (v := undef) rfl (by kernel_rfl) (by kernel_rfl) (by kernel_rfl) (fun _ _ _ h => h) (Or.inr ⟨by kernel_rfl, rfl⟩) hHeld ?_
        try simp only [Act.put, zv2, zv3, zv4]
        refine wpAnyH_take (i := 18) (oi := { dst := some 200, op := _, type := _, pos := _, after := _, guard := _ }) (v := .bool false) rfl (by kernel_rfl) (by kernel_rfl) (by kernel_rfl) (fun _ _ _ h => h) (Or.inl ⟨by kernel_rfl, ?_⟩) hHeld ?_
        · intro w hSw
          (try dsimp only at hSw)
          go_simp
        try simp only [Act.put, zv2, zv3, zv4]
        refine wpAnyH_done (by kernel_rfl) ?_ _
        go_wp2
        go_roundw
        case rel => exact ⟨j + 1, by go_num, by omega, hp2, hB.out.drew⟩
        case measure => simp [intOf]; omega
  · have hlt' : ¬ (j : Int) < 21 := by omega
    have hf : zbo t i = none := zi5 fun k hk => hp.out k (by omega)
    go_wp2_with fail
    (try simp only [Exit.inBlock, Exit.then])
    refine bodyPost_ret (v := .tuple #[.agg #[.int .i64 0, .int .i64 (i : Int), .string ⟨#[]⟩, .int .i64 0], .int .i64 2, .int .i64 (i : Int)]) (by simp [results, Tryz.results32, go_sem, c1, c2, z1]) rfl ⟨rfl, ?_⟩
    repeat' first | exact b2 | refine Below.setCell ?_ (by first | exact Nat.le_refl _ | exact Nat.le_succ _) _
theorem znp (t : ByteArray) (i : Nat) (w : World) (hi : i < t.size) (ht : t.size <= 3000) :
 Calls Tryz.prog 32 #[.string t, .int .i64 (i : Int)] w fun e w' => e = .returned (.tuple #[.agg #[.int .i64 (zh t i).x.k, .int .i64 ((zh t i).x.at_ : Int), .string (zh t i).x.tx, .int .i64 (zh t i).x.n], .int .i64 (zh t i).code, .int .i64 ((zh t i).e : Int)]) /\ Below w.heap.size w w' := by
 cases h1 : ltB (bt t i) with
 | true =>
   refine (zl0 t i _ _ _ w hi ht h1 rfl rfl rfl).mono ?_
   rintro e w' ⟨rfl, b⟩
   refine ⟨?_, b⟩
   unfold zh
   cases hq : isW (t.extract i (ze ltB t i)) <;> by_cases hg : 12 < ze ltB t i - i <;> simp [h1, hq, hg]
 | false =>
   cases h2 : dgB (bt t i) with
   | true =>
     refine (zlz t i _ _ w hi ht h1 h2 rfl rfl).mono ?_
     rintro e w' ⟨rfl, b⟩
     refine ⟨?_, b⟩
     unfold zh
     by_cases hq : 15 < ze dgB t i - i \/ (1 < ze dgB t i - i /\ bt t i = 48) \/ (ze dgB t i < t.size /\ ltB (bt t (ze dgB t i)) = true) <;> simp [h1, h2, hq]
   | false =>
     cases h3 : (bt t i == 34) with
     | true =>
       have h3' : bt t i = 34 := by simpa using h3
       refine (zly t i _ _ w hi ht h1 h2 h3 rfl rfl).mono ?_
       rintro e w' ⟨rfl, b⟩
       refine ⟨?_, b⟩
       by_cases hq : t.size <= ze plB t (i + 1) \/ bt t (ze plB t (i + 1)) ≠ 34 \/ 160 < ze plB t (i + 1) - i - 1
       · have e1 : decide (t.size <= ze plB t (i + 1) \/ bt t (ze plB t (i + 1)) ≠ 34 \/ 160 < ze plB t (i + 1) - i - 1) = true := decide_eq_true hq
         have eT : zh t i = ⟨5, ⟨0, i, ⟨#[]⟩, 0⟩, ze plB t (i + 1)⟩ := by
          unfold zh
          rw [if_neg (by simp [h1]), if_neg (by simp [h2]), if_pos h3', if_pos hq]
         rw [e1, eT]
         rfl
       · have e1 : decide (t.size <= ze plB t (i + 1) \/ bt t (ze plB t (i + 1)) ≠ 34 \/ 160 < ze plB t (i + 1) - i - 1) = false := decide_eq_false hq
         have eT : zh t i = ⟨0, ⟨4, i, t.extract (i + 1) (ze plB t (i + 1)), 0⟩, ze plB t (i + 1) + 1⟩ := by
          unfold zh
          rw [if_neg (by simp [h1]), if_neg (by simp [h2]), if_pos h3', if_neg hq]
         rw [e1, eT]
         rfl
     | false =>
       have h3' : ¬ bt t i = 34 := by simpa using h3
       cases hm : zbo t i with
       | some m =>
         refine (zkp t i m w hi ht h1 h2 h3 hm).mono ?_
         rintro e w' ⟨rfl, b⟩
         refine ⟨?_, b⟩
         unfold zh
         rw [if_neg (by simp [h1]), if_neg (by simp [h2]), if_neg h3', hm]
       | none =>
         refine (zkq t i w hi ht h1 h2 h3 hm).mono ?_
         rintro e w' ⟨rfl, b⟩
         refine ⟨?_, b⟩
         unfold zh
         rw [if_neg (by simp [h1]), if_neg (by simp [h2]), if_neg h3', hm]
set_option maxHeartbeats 2000000 in
theorem zhf (t : ByteArray) (w : World) (ht0 : t.size <= 1048576) :
 Calls Tryz.prog 15 #[.string t] w fun e w' => ∃ v, e = .returned (.tuple #[v, .int .i64 (zn t).1, .int .i64 ((zn t).2.1 : Int)]) /\ zaa w.heap.size w' v (zn t).2.2 /\ Below w.heap.size w w' := by
 by_cases hL : 3000 < t.size
 · have hL' : 3000 < (t.size : Int) := by omega
   have e : zn t = (1, 0, []) := by unfold zn; rw [if_pos hL]
   rw [e]
   go_enter Tryz.func15, Tryz.ntmps15
   go_wp2
   go_ret3
   exact ⟨_, rfl, zaa.nil _ _, Below.refl _ _⟩
 · have ht : t.size <= 3000 := by omega
   have hL' : ¬ 3000 < (t.size : Int) := by omega
   have e : zn t = zab t 0 [] := by unfold zn; rw [if_neg hL]
   rw [e]
   obtain ⟨R, hR⟩ : ∃ R, R = zab t 0 [] := ⟨_, rfl⟩
   rw [<- hR]
   have HR : Hid (zab t 0 [] = R) := hR.symm
   clear hR e hL ht0
   have hb := get_bt t
   have ht' : (t.size : Int) <= 3000 := by omega
   obtain ⟨i0, hi, hz0, hz1, hz2⟩ := zke
   go_enter Tryz.func15, Tryz.ntmps15
   go_wp2_with fail
   go_loopw [5, 6] (fun vo q wr => ∃ (i : Nat) (acc : List za), q = .int .i64 i /\ i <= t.size /\ acc.length <= i /\ zaa w.heap.size wr vo acc /\ Hid (Below w.heap.size w wr) /\ Hid (zab t i acc = R)) (fun _ q _ => t.size - (intOf q).toNat)
   case atStart => exact ⟨0, [], by go_num, by omega, by simp, World.ownsRow_lit w #[] 0 (Nat.le_refl _) (by unfold maxLen; omega) rfl, (Below.refl _ _).alloc (Nat.le_refl _) _, HR⟩
   case round =>
    obtain ⟨i, acc, rfl, his, hacc, hT, hB, hr⟩ := hrel
    obtain ⟨va, vc, rfl⟩ := hT.form
    have HT : Hid (zaa w.heap.size wr (.slice va acc.length vc) acc) := hT
    clear hT
    by_cases hlt : i < t.size
    · have hlt' : (i : Int) < t.size := by omega
      cases hbk : bkB (bt t i) with
      | true =>
        have hr2 : Hid (zab t (i + 1) acc = R) := by show zab t (i + 1) acc = R; rw [<- zej hlt hbk]; exact hr.out
        rcases of_decide_eq_true hbk with e | e | e
        · have e9 : (bt t i == 9) = true := by simpa using e
          clear e hbk
          go_wp2
          go_roundw
          case rel => exact ⟨i + 1, acc, by go_num, by omega, by omega, HT.out, hB, hr2⟩
          case measure => simp [intOf]; omega
        · have e9 : (bt t i == 9) = false := by rw [e]; rfl
          have e10 : (bt t i == 10) = true := by simpa using e
          clear e hbk
          go_wp2
          go_roundw
          case rel => exact ⟨i + 1, acc, by go_num, by omega, by omega, HT.out, hB, hr2⟩
          case measure => simp [intOf]; omega
        · have e9 : (bt t i == 9) = false := by rw [e]; rfl
          have e10 : (bt t i == 10) = false := by rw [e]; rfl
          have e32 : (bt t i == 32) = true := by simpa using e
          clear e hbk
          go_wp2
          go_roundw
          case rel => exact ⟨i + 1, acc, by go_num, by omega, by omega, HT.out, hB, hr2⟩
          case measure => simp [intOf]; omega
      | false =>
        have hbk' := of_decide_eq_false hbk
        simp only [not_or] at hbk'
        have e9 : (bt t i == 9) = false := by simpa using hbk'.1
        have e10 : (bt t i == 10) = false := by simpa using hbk'.2.1
        have e32 : (bt t i == 32) = false := by simpa using hbk'.2.2
        clear hbk'
        cases hrm : zbk t i with
        | true =>
          have hrm' := of_decide_eq_true hrm
          have e45 : (bt t i == 45) = true := by simpa using hrm'.1
          have h1 : (i : Int) + 1 < t.size := by omega
          have h45 : (bt t (i + 1) == 45) = true := by simpa using hrm'.2.2
          have h2 : ((i : Int) + 1).toNat = i + 1 := by omega
          have hr2 : Hid (zab t (ze lnB t i) acc = R) := by show zab t (ze lnB t i) acc = R; rw [<- zfm hlt hbk hrm]; exact hr.out
          have hgt : Hid (i < ze lnB t i) := ze7 hrm
          clear hrm' hrm hbk
          go_wp2_with fail
          go_loopw [6] (fun q wz => wz = wr /\ ∃ j : Nat, q = .int .i64 j /\ i <= j /\ j <= t.size /\ Hid (ze lnB t j = ze lnB t i)) (fun q _ => t.size - (intOf q).toNat)
          case atStart => exact ⟨rfl, i, by go_num, Nat.le_refl _, his, rfl⟩
          case round =>
           obtain ⟨rfl, j, rfl, hij, hj, hj2⟩ := hrel
           by_cases hjl : j < t.size
           · have hjl' : (j : Int) < t.size := by omega
             cases hc : (bt t j == 10) with
             | false =>
               have hc2 : (bt t j != 10) = true := by simp only [bne, hc]; rfl
               have hj3 : Hid (ze lnB t (j + 1) = ze lnB t i) := by show ze lnB t (j + 1) = ze lnB t i; rw [<- zbn hjl (by simpa [lnB] using hc)]; exact hj2.out
               clear hc
               go_wp2
               go_roundw
               case rel => exact ⟨trivial, j + 1, by go_num, by omega, by omega, hj3⟩
               case measure => simp [intOf]; omega
             | true =>
               have hc2 : (bt t j != 10) = false := by simp only [bne, hc]; rfl
               have e : ze lnB t i = j := by rw [<- hj2.out]; exact zcc (by simpa [lnB] using hc)
               rw [e] at hr2 hgt
               have hgt' := hgt.out
               clear hc
               go_wp2
               go_roundw
               case rel => exact ⟨j, acc, by go_num, by omega, by omega, HT.out, hB, hr2⟩
               case measure => simp [intOf]; omega
           · have hjl' : ¬ (j : Int) < t.size := by omega
             have e : ze lnB t i = j := by rw [<- hj2.out]; exact zbx hjl
             rw [e] at hr2 hgt
             have hgt' := hgt.out
             go_wp2
             go_roundw
             case rel => exact ⟨j, acc, by go_num, by omega, by omega, HT.out, hB, hr2⟩
             case measure => simp [intOf]; omega
        | false =>
          have HK := znp t i
          have hE := zd2 hlt
          have hr3 : Hid ((zh t i).code = 0 -> zab t (zh t i).e (acc ++ [(zh t i).x]) = R) := fun h => by rw [<- zc6 hlt hbk hrm h]; exact hr.out
          have hr4 : Hid ((zh t i).code ≠ 0 -> ((zh t i).code, i, []) = R) := fun h => by rw [<- zdt hlt hbk hrm h]; exact hr.out
          generalize zh t i = r at HK hE hr3 hr4
          obtain ⟨co, ⟨k, at_, tx, n⟩, en⟩ := r
          simp only at HK hE hr3 hr4
          have HKK : Hid _ := HK
          have HE : Hid (co = 0 -> i < en /\ en <= t.size) := hE
          have hrm' := of_decide_eq_false hrm
          clear HK hE hrm hbk
          by_cases e45 : (bt t i == 45) = true
          · have h45 : ¬ (i + 1 < t.size /\ bt t (i + 1) = 45) := fun h => hrm' ⟨by simpa using e45, h⟩
            clear hrm'
            by_cases h1 : i + 1 < t.size
            · have h1' : (i : Int) + 1 < t.size := by omega
              have h2 : ((i : Int) + 1).toNat = i + 1 := by omega
              have h46 : (bt t (i + 1) == 45) = false := by simpa [h1] using h45
              clear h45
              go_wp2_with fail
              refine (HKK.out _ hlt ht).mono ?_
              rintro e w1 ⟨rfl, b1⟩
              have B1 : Hid (Below w.heap.size w w1) := zg hB.out b1
              have T1 : Hid (zaa w.heap.size w1 (.slice va acc.length vc) acc) := HT.out.below b1
              clear HKK HT b1
              by_cases hc : co = 0
              · obtain ⟨en1, en2⟩ := HE.out hc
                have hr5 := hr3.out hc
                subst hc
                have HR5 : Hid (zab t en (acc ++ [⟨k, at_, tx, n⟩]) = R) := hr5
                clear hr5 hr3 hr4 HE
                have lz : w.heap.size <= w1.heap.size := B1.out.size
                go_wp2_with (at_builtin; refine wpList_append_own _ rfl _ _ 38 rfl w.heap.size 68 i0 (.agg #[.int .i64 0, .int .i64 0, .string ⟨#[]⟩, .int .i64 0]) 4 40 Tryz.underlying38 hi hz0 hz1 hz2 rfl (by decide) _ acc.length (zw acc) rfl ((T1.out.alloc _).alloc _) ⟨w1.heap.size + 1, 0, none⟩ 1 1 (zb9 ⟨k, at_, tx, n⟩) rfl rfl (zda (by simp) ⟨k, at_, tx, n⟩ _) (zcd (X := [⟨k, at_, tx, n⟩])) (by unfold maxLen; omega) (by omega) (by simp; omega) ?_; intro v' w3 hown' hgrow hnil; clear hnil; have T3 : Hid (zaa w.heap.size w3 v' (acc ++ [⟨k, at_, tx, n⟩])) := zaa.grow hown'; have B3 : Hid (Below w.heap.size w w3) := Below.grown (((B1.out.alloc lz _).alloc (by simp; omega) _)) hgrow (by simp; omega) (fun j hj => (World.ownsRow.lt T1.out j hj).1); clear hown' hgrow T1 B1)
                go_roundw
                case rel => exact ⟨en, acc ++ [⟨k, at_, tx, n⟩], by go_num, by omega, by simp; omega, T3.out, B3, HR5⟩
                case measure => simp [intOf]; omega
              · have hc' : (co != 0) = true := by simpa using hc
                have e := hr4.out hc
                subst e
                clear hr3 hr4 HE hc
                go_wp2
                go_ret3
                exact ⟨_, rfl, zaa.nil _ _, (B1.out.alloc B1.out.size _)⟩
            · have h1' : ¬ (i : Int) + 1 < t.size := by omega
              clear h45
              go_wp2_with fail
              refine (HKK.out _ hlt ht).mono ?_
              rintro e w1 ⟨rfl, b1⟩
              have B1 : Hid (Below w.heap.size w w1) := zg hB.out b1
              have T1 : Hid (zaa w.heap.size w1 (.slice va acc.length vc) acc) := HT.out.below b1
              clear HKK HT b1
              by_cases hc : co = 0
              · obtain ⟨en1, en2⟩ := HE.out hc
                have hr5 := hr3.out hc
                subst hc
                have HR5 : Hid (zab t en (acc ++ [⟨k, at_, tx, n⟩]) = R) := hr5
                clear hr5 hr3 hr4 HE
                have lz : w.heap.size <= w1.heap.size := B1.out.size
                go_wp2_with (at_builtin; refine wpList_append_own _ rfl _ _ 38 rfl w.heap.size 68 i0 (.agg #[.int .i64 0, .int .i64 0, .string ⟨#[]⟩, .int .i64 0]) 4 40 Tryz.underlying38 hi hz0 hz1 hz2 rfl (by decide) _ acc.length (zw acc) rfl ((T1.out.alloc _).alloc _) ⟨w1.heap.size + 1, 0, none⟩ 1 1 (zb9 ⟨k, at_, tx, n⟩) rfl rfl (zda (by simp) ⟨k, at_, tx, n⟩ _) (zcd (X := [⟨k, at_, tx, n⟩])) (by unfold maxLen; omega) (by omega) (by simp; omega) ?_; intro v' w3 hown' hgrow hnil; clear hnil; have T3 : Hid (zaa w.heap.size w3 v' (acc ++ [⟨k, at_, tx, n⟩])) := zaa.grow hown'; have B3 : Hid (Below w.heap.size w w3) := Below.grown (((B1.out.alloc lz _).alloc (by simp; omega) _)) hgrow (by simp; omega) (fun j hj => (World.ownsRow.lt T1.out j hj).1); clear hown' hgrow T1 B1)
                go_roundw
                case rel => exact ⟨en, acc ++ [⟨k, at_, tx, n⟩], by go_num, by omega, by simp; omega, T3.out, B3, HR5⟩
                case measure => simp [intOf]; omega
              · have hc' : (co != 0) = true := by simpa using hc
                have e := hr4.out hc
                subst e
                clear hr3 hr4 HE hc
                go_wp2
                go_ret3
                exact ⟨_, rfl, zaa.nil _ _, (B1.out.alloc B1.out.size _)⟩
          · have e45 : (bt t i == 45) = false := by simpa using e45
            clear hrm'
            go_wp2_with fail
            refine (HKK.out _ hlt ht).mono ?_
            rintro e w1 ⟨rfl, b1⟩
            have B1 : Hid (Below w.heap.size w w1) := zg hB.out b1
            have T1 : Hid (zaa w.heap.size w1 (.slice va acc.length vc) acc) := HT.out.below b1
            clear HKK HT b1
            by_cases hc : co = 0
            · obtain ⟨en1, en2⟩ := HE.out hc
              have hr5 := hr3.out hc
              subst hc
              have HR5 : Hid (zab t en (acc ++ [⟨k, at_, tx, n⟩]) = R) := hr5
              clear hr5 hr3 hr4 HE
              have lz : w.heap.size <= w1.heap.size := B1.out.size
              go_wp2_with (at_builtin; refine wpList_append_own _ rfl _ _ 38 rfl w.heap.size 68 i0 (.agg #[.int .i64 0, .int .i64 0, .string ⟨#[]⟩, .int .i64 0]) 4 40 Tryz.underlying38 hi hz0 hz1 hz2 rfl (by decide) _ acc.length (zw acc) rfl ((T1.out.alloc _).alloc _) ⟨w1.heap.size + 1, 0, none⟩ 1 1 (zb9 ⟨k, at_, tx, n⟩) rfl rfl (zda (by simp) ⟨k, at_, tx, n⟩ _) (zcd (X := [⟨k, at_, tx, n⟩])) (by unfold maxLen; omega) (by omega) (by simp; omega) ?_; intro v' w3 hown' hgrow hnil; clear hnil; have T3 : Hid (zaa w.heap.size w3 v' (acc ++ [⟨k, at_, tx, n⟩])) := zaa.grow hown'; have B3 : Hid (Below w.heap.size w w3) := Below.grown (((B1.out.alloc lz _).alloc (by simp; omega) _)) hgrow (by simp; omega) (fun j hj => (World.ownsRow.lt T1.out j hj).1); clear hown' hgrow T1 B1)
              go_roundw
              case rel => exact ⟨en, acc ++ [⟨k, at_, tx, n⟩], by go_num, by omega, by simp; omega, T3.out, B3, HR5⟩
              case measure => simp [intOf]; omega
            · have hc' : (co != 0) = true := by simpa using hc
              have e := hr4.out hc
              subst e
              clear hr3 hr4 HE hc
              go_wp2
              go_ret3
              exact ⟨_, rfl, zaa.nil _ _, (B1.out.alloc B1.out.size _)⟩
    · have hlt' : ¬ (i : Int) < t.size := by omega
      have e : R = (0, 0, acc) := by rw [<- hr.out, zfl hlt]
      subst e
      go_wp2
      go_ret3
      exact ⟨_, rfl, HT.out, hB.out⟩
end Go.Proofs.YtiglkhkfbgjjoaaGreatDoor
