/- - -/
import Derived.Test.YtiglkhkfbgjjoaaGreatDoorPLxA
import Derived.Deep.RegionHeld3
import Derived.BigQuiet
namespace Go.Proofs.YtiglkhkfbgjjoaaGreatDoor
set_option maxRecDepth 20000
open Go.RowKit Go.PlainAid
set_option linter.unusedSimpArgs false
set_option linter.unusedVariables false
theorem za0 (r : Int) (w : World) : Calls Tryz.prog 77 #[.int .u8 r] w fun e w' => e = .returned (.bool (ltB r)) /\ w = w' := by
 by_cases h1 : 97 <= r <;> by_cases h2 : r <= 122 <;> by_cases h3 : 65 <= r <;> by_cases h4 : r <= 90
 all_goals
  have e1 : ltB r = decide ((97 <= r /\ r <= 122) \/ (65 <= r /\ r <= 90)) := rfl
  simp only [h1, h2, h3, h4] at e1
  simp at e1
  rw [e1]
  clear e1
  go_enter Tryz.func77, Tryz.ntmps77
  go_wp2
  go_ret
  exact ⟨rfl, rfl⟩
theorem zba (r : Int) (w : World) : Calls Tryz.prog 79 #[.int .u8 r] w fun e w' => e = .returned (.bool (dgB r)) /\ w = w' := by
 by_cases h1 : 48 <= r <;> by_cases h2 : r <= 57
 all_goals
  have e1 : dgB r = decide (48 <= r /\ r <= 57) := rfl
  simp only [h1, h2] at e1
  simp at e1
  rw [e1]
  clear e1
  go_enter Tryz.func79, Tryz.ntmps79
  go_wp2
  go_ret
  exact ⟨rfl, rfl⟩
theorem zea (r : Int) (w : World) : Calls Tryz.prog 80 #[.int .u8 r] w fun e w' => e = .returned (.bool (plB r)) /\ w = w' := by
 by_cases h3 : r = 34
 · subst h3
   have e1 : plB 34 = false := rfl
   rw [e1]
   clear e1
   go_enter Tryz.func80, Tryz.ntmps80
   go_wp2
   go_ret
   exact ⟨rfl, rfl⟩
 · have e2 : (r != 34) = true := by simp [h3]
   by_cases h1 : 32 <= r <;> by_cases h2 : r <= 126
   all_goals
    have e1 : plB r = decide (32 <= r /\ r <= 126 /\ r ≠ 34) := rfl
    simp only [h1, h2, h3, ne_eq] at e1
    simp at e1
    rw [e1]
    clear e1 h3
    go_enter Tryz.func80, Tryz.ntmps80
    go_wp2
    go_ret
    exact ⟨rfl, rfl⟩
theorem zhg (w : World) :
 Calls Tryz.prog 81 #[] w fun e w' => e = .returned (.slice (some ⟨w.heap.size, 0, none⟩) 21 21) /\ SlF (w.heap.size + 1) w' (.slice (some ⟨w.heap.size, 0, none⟩) 21 21) 21 21 (fun i => .string (zaf mkS i)) /\ Below w.heap.size w w' := by
 go_enter Tryz.func81, Tryz.ntmps81
 go_wp2
 go_ret
 refine ⟨rfl, ?_, zat (Below.refl _ _)⟩
 refine ⟨_, 21, rfl, .inr ⟨w.heap.size, 0, rfl, by omega, by simp, fun i hi => ?_⟩⟩
 rcases i with _ | _ | _ | _ | _ | _ | _ | _ | _ | _ | _ | _ | _ | _ | _ | _ | _ | _ | _ | _ | _ | i
 all_goals first | (simp [go_sem, zaf, mkS]; done) | omega
theorem zcu {w W : World} {A B : Array Value} {t : TypeId} (hB : Below ((w.alloc (.cells A t)).alloc (.cells B t)).heap.size ((w.alloc (.cells A t)).alloc (.cells B t)) W) :
 (∀ i, W.cell? ⟨w.heap.size, i, none⟩ = A[i]?) /\ (∀ i, W.cell? ⟨w.heap.size + 1, i, none⟩ = B[i]?) /\ w.heap.size + 1 < W.heap.size /\ Below w.heap.size w W /\ (∀ i, W.frozen? ⟨w.heap.size, i, none⟩ = false) /\ (∀ i, W.frozen? ⟨w.heap.size + 1, i, none⟩ = false) := by
 refine ⟨fun i => ?_, fun i => ?_, ?_, ?_, fun i => ?_, fun i => ?_⟩
 · rw [hB.cell (p := ⟨w.heap.size, i, none⟩) (by simp; omega)]; simp [go_sem]
 · rw [hB.cell (p := ⟨w.heap.size + 1, i, none⟩) (by simp)]; simp [go_sem]
 · have := hB.size
   simp at this
   omega
 · exact zg (((Below.refl w.heap.size w).alloc (Nat.le_refl _) _).alloc (by simp) _) hB
 · rw [hB.frozen (p := ⟨w.heap.size, i, none⟩) (by simp; omega)]; simp [go_sem]
 · rw [hB.frozen (p := ⟨w.heap.size + 1, i, none⟩) (by simp)]; simp [go_sem]
theorem zbs {w : World} {o o2 : Obj} : Below w.heap.size w ((w.alloc o).alloc o2) := ((Below.refl w.heap.size w).alloc (Nat.le_refl _) o).alloc (by simp) o2
set_option maxHeartbeats 1000000 in
theorem zl0 (t : ByteArray) (i E : Nat) (q g : Bool) (w : World) (hi : i < t.size) (ht : t.size <= 3000) (h : ltB (bt t i) = true) (hE : Hid (ze ltB t i = E)) (hq : isW (t.extract i E) = q) (hg : Hid (decide (12 < E - i) = g)) :
 Calls Tryz.prog 32 #[.string t, .int .i64 (i : Int)] w fun e w' => e = .returned (.tuple #[.agg #[.int .i64 (if q then 2 else 1), .int .i64 (i : Int), .string (t.extract i E), .int .i64 0], .int .i64 (if q then 0 else if g then 4 else 0), .int .i64 (E : Int)]) /\ Below w.heap.size w w' := by
 have hb := get_bt t
 have hi' : (i : Int) < t.size := by omega
 have ht' : (t.size : Int) <= 3000 := by omega
 go_enter Tryz.func32, Tryz.ntmps32
 go_wp2_with fail
 refine (za0 _ _).mono ?_
 rw [h]
 rintro e w1 ⟨rfl, rfl⟩
 go_wp2_with fail
 go_loopw [7] (fun q wr => wr = ((w.alloc (.cells #[.int .i64 0, .int .i64 0, .string ⟨#[]⟩, .int .i64 0] 68)).alloc (.cells #[.int .i64 0, .int .i64 (i : Int), .string ⟨#[]⟩, .int .i64 0] 68)) /\ ∃ j : Nat, q = .int .i64 j /\ i <= j /\ j <= t.size /\ Hid (ze ltB t j = E)) (fun q _ => t.size - (intOf q).toNat)
 case atStart => exact ⟨rfl, i, by go_num, Nat.le_refl _, by omega, hE⟩
 case round =>
  obtain ⟨rfl, j, rfl, hij, hj, hr⟩ := hrel
  by_cases hlt : j < t.size
  · have hlt' : (j : Int) < t.size := by omega
    cases hc : ltB (bt t j) with
    | true =>
      have hr2 : Hid (ze ltB t (j + 1) = E) := by show ze ltB t (j + 1) = E; rw [<- zbn hlt hc]; exact hr.out
      go_wp2_with (go_at_call 77; refine (za0 _ _).mono ?_; rw [hc]; rintro e w1 ⟨rfl, rfl⟩)
      go_roundw
      case rel => exact ⟨trivial, j + 1, by go_num, by omega, by omega, hr2⟩
      case measure => simp [intOf]; omega
    | false =>
      have e : j = E := by rw [<- hr.out, zcc hc]
      subst e
      go_wp2_with (go_at_call 77; refine (za0 _ _).mono ?_; rw [hc]; rintro e w1 ⟨rfl, rfl⟩)
      have ij : (i : Int) <= j := by omega
      have js : (j : Int) <= t.size := by omega
      cases q with
      | true =>
        go_wp2_with (go_at_call 78; refine (zbw _ _).mono ?_; rw [hq]; rintro e w1 ⟨rfl, b1⟩; obtain ⟨c1, c2, z1, b2, f1, f2⟩ := zcu b1; clear b1)
        (try simp only [Exit.inBlock, Exit.then])
        refine bodyPost_ret (v := .tuple #[.agg #[.int .i64 2, .int .i64 (i : Int), .string (t.extract i j), .int .i64 0], .int .i64 0, .int .i64 (j : Int)]) (by simp [results, Tryz.results32, go_sem, c1, c2, z1]) rfl ⟨rfl, ?_⟩
        repeat' first | exact b2 | refine Below.setCell ?_ (by first | exact Nat.le_refl _ | exact Nat.le_succ _) _
      | false =>
        cases g with
        | true =>
          have hg' : 12 < (j : Int) - i := by have := of_decide_eq_true hg.out; omega
          go_wp2_with (go_at_call 78; refine (zbw _ _).mono ?_; rw [hq]; rintro e w1 ⟨rfl, b1⟩; obtain ⟨c1, c2, z1, b2, f1, f2⟩ := zcu b1; clear b1)
          (try simp only [Exit.inBlock, Exit.then])
          refine bodyPost_ret (v := .tuple #[.agg #[.int .i64 1, .int .i64 (i : Int), .string (t.extract i j), .int .i64 0], .int .i64 4, .int .i64 (j : Int)]) (by simp [results, Tryz.results32, go_sem, c1, c2, z1]) rfl ⟨rfl, ?_⟩
          repeat' first | exact b2 | refine Below.setCell ?_ (by first | exact Nat.le_refl _ | exact Nat.le_succ _) _
        | false =>
          have hg' : ¬ 12 < (j : Int) - i := by have := of_decide_eq_false hg.out; omega
          go_wp2_with (go_at_call 78; refine (zbw _ _).mono ?_; rw [hq]; rintro e w1 ⟨rfl, b1⟩; obtain ⟨c1, c2, z1, b2, f1, f2⟩ := zcu b1; clear b1)
          (try simp only [Exit.inBlock, Exit.then])
          refine bodyPost_ret (v := .tuple #[.agg #[.int .i64 1, .int .i64 (i : Int), .string (t.extract i j), .int .i64 0], .int .i64 0, .int .i64 (j : Int)]) (by simp [results, Tryz.results32, go_sem, c1, c2, z1]) rfl ⟨rfl, ?_⟩
          repeat' first | exact b2 | refine Below.setCell ?_ (by first | exact Nat.le_refl _ | exact Nat.le_succ _) _
  · have hlt' : ¬ (j : Int) < t.size := by omega
    have e : j = E := by rw [<- hr.out, zbx hlt]
    subst e
    go_wp2_with fail
    have ij : (i : Int) <= j := by omega
    have js : (j : Int) <= t.size := by omega
    cases q with
    | true =>
      go_wp2_with (go_at_call 78; refine (zbw _ _).mono ?_; rw [hq]; rintro e w1 ⟨rfl, b1⟩; obtain ⟨c1, c2, z1, b2, f1, f2⟩ := zcu b1; clear b1)
      (try simp only [Exit.inBlock, Exit.then])
      refine bodyPost_ret (v := .tuple #[.agg #[.int .i64 2, .int .i64 (i : Int), .string (t.extract i j), .int .i64 0], .int .i64 0, .int .i64 (j : Int)]) (by simp [results, Tryz.results32, go_sem, c1, c2, z1]) rfl ⟨rfl, ?_⟩
      repeat' first | exact b2 | refine Below.setCell ?_ (by first | exact Nat.le_refl _ | exact Nat.le_succ _) _
    | false =>
      cases g with
      | true =>
        have hg' : 12 < (j : Int) - i := by have := of_decide_eq_true hg.out; omega
        go_wp2_with (go_at_call 78; refine (zbw _ _).mono ?_; rw [hq]; rintro e w1 ⟨rfl, b1⟩; obtain ⟨c1, c2, z1, b2, f1, f2⟩ := zcu b1; clear b1)
        (try simp only [Exit.inBlock, Exit.then])
        refine bodyPost_ret (v := .tuple #[.agg #[.int .i64 1, .int .i64 (i : Int), .string (t.extract i j), .int .i64 0], .int .i64 4, .int .i64 (j : Int)]) (by simp [results, Tryz.results32, go_sem, c1, c2, z1]) rfl ⟨rfl, ?_⟩
        repeat' first | exact b2 | refine Below.setCell ?_ (by first | exact Nat.le_refl _ | exact Nat.le_succ _) _
      | false =>
        have hg' : ¬ 12 < (j : Int) - i := by have := of_decide_eq_false hg.out; omega
        go_wp2_with (go_at_call 78; refine (zbw _ _).mono ?_; rw [hq]; rintro e w1 ⟨rfl, b1⟩; obtain ⟨c1, c2, z1, b2, f1, f2⟩ := zcu b1; clear b1)
        (try simp only [Exit.inBlock, Exit.then])
        refine bodyPost_ret (v := .tuple #[.agg #[.int .i64 1, .int .i64 (i : Int), .string (t.extract i j), .int .i64 0], .int .i64 0, .int .i64 (j : Int)]) (by simp [results, Tryz.results32, go_sem, c1, c2, z1]) rfl ⟨rfl, ?_⟩
        repeat' first | exact b2 | refine Below.setCell ?_ (by first | exact Nat.le_refl _ | exact Nat.le_succ _) _
structure TkB (w W : World) (B : Array Value) : Prop where
 c1 : ∀ i, W.cell? ⟨w.heap.size, i, none⟩ = (#[.int .i64 0, .int .i64 0, .string ⟨#[]⟩, .int .i64 0] : Array Value)[i]?
 c2 : ∀ i, W.cell? ⟨w.heap.size + 1, i, none⟩ = B[i]?
 z : w.heap.size + 1 < W.heap.size
 b : Below w.heap.size w W
 f1 : ∀ i, W.frozen? ⟨w.heap.size, i, none⟩ = false
 f2 : ∀ i, W.frozen? ⟨w.heap.size + 1, i, none⟩ = false
theorem TkB.of {w W : World} {B : Array Value} {t : TypeId} (hB : Below ((w.alloc (.cells #[.int .i64 0, .int .i64 0, .string ⟨#[]⟩, .int .i64 0] t)).alloc (.cells B t)).heap.size ((w.alloc (.cells #[.int .i64 0, .int .i64 0, .string ⟨#[]⟩, .int .i64 0] t)).alloc (.cells B t)) W) : TkB w W B := by
 obtain ⟨h1, h2, h3, h4, h5, h6⟩ := zcu hB
 exact ⟨h1, h2, h3, h4, h5, h6⟩
theorem TkB.setN {w W : World} {a b c d : Value} (h : TkB w W #[a, b, c, d]) (v : Value) : TkB w (W.setCell ⟨w.heap.size + 1, 3, none⟩ v) #[a, b, c, v] := by
 have hne : w.heap.size ≠ w.heap.size + 1 := by omega
 have e3 := h.c2 3
 refine ⟨fun i => ?_, fun i => ?_, by simpa using h.z, h.b.setCell (Nat.le_succ _) _, fun i => ?_, fun i => ?_⟩
 · rw [World.cell?_setCell_other _ _ _ _ (by intro e; injection e; omega)]; exact h.c1 i
 · by_cases e : i = 3
   · subst e
     rw [World.cell?_setCell_same _ _ _ (u := d) (by rw [e3]; rfl)]
     rfl
   · rw [World.cell?_setCell_other _ _ _ _ (by intro e; injection e; omega), h.c2 i]
     rcases i with _ | _ | _ | _ | i <;> first | rfl | omega | simp
 · rw [World.frozen?_setCell]; exact h.f1 i
 · rw [World.frozen?_setCell]; exact h.f2 i
theorem TkB.drew {w W : World} {B : Array Value} (h : TkB w W B) : TkB w W.drew B := ⟨h.c1, h.c2, h.z, h.b.drew, h.f1, h.f2⟩
theorem TkB.keep {w W V : World} {B : Array Value} (h : TkB w W B) (hb : Below W.heap.size W V) : TkB w V B := by
 have hz := h.z
 refine ⟨fun i => ?_, fun i => ?_, Nat.lt_of_lt_of_le hz hb.size, zg h.b hb, fun i => ?_, fun i => ?_⟩
 · rw [hb.cell (p := ⟨w.heap.size, i, none⟩) (by dsimp only; omega)]; exact h.c1 i
 · rw [hb.cell (p := ⟨w.heap.size + 1, i, none⟩) (by dsimp only; omega)]; exact h.c2 i
 · rw [hb.frozen (p := ⟨w.heap.size, i, none⟩) (by dsimp only; omega)]; exact h.f1 i
 · rw [hb.frozen (p := ⟨w.heap.size + 1, i, none⟩) (by dsimp only; omega)]; exact h.f2 i
theorem zey {t : ByteArray} {i j : Nat} (h : i <= j) : zad t i (j + 1 - i) = zad t i (j - i) * 10 + (bt t j - 48) := by
 rw [show j + 1 - i = (j - i) + 1 by omega]
 show zad t i (j - i) * 10 + (bt t (i + (j - i)) - 48) = _
 rw [show i + (j - i) = j by omega]
theorem zd9 {t : ByteArray} {i j E : Nat} (h : i <= j) (hj : j < E) (hE : E - i <= 15) (hd : ∀ k, i <= k -> k < E -> dgB (bt t k) = true) : 0 <= zad t i (j - i) /\ zad t i (j - i) < 100000000000000 := by
 have h1 := zgg t i (j - i) fun k hk => hd (i + k) (by omega) (by omega)
 refine ⟨h1.1, ?_⟩
 have h2 : 10 ^ (j - i) <= 10 ^ 14 := Nat.pow_le_pow_right (by omega) (by omega)
 simp only [Nat.reducePow] at h2
 omega
set_option maxHeartbeats 1000000 in
theorem zlz (t : ByteArray) (i E : Nat) (q : Bool) (w : World) (hi : i < t.size) (ht : t.size <= 3000) (h : ltB (bt t i) = false) (h2 : dgB (bt t i) = true) (hE : Hid (ze dgB t i = E)) (hq : Hid (decide (15 < E - i \/ (1 < E - i /\ bt t i = 48) \/ (E < t.size /\ ltB (bt t E) = true)) = q)) :
 Calls Tryz.prog 32 #[.string t, .int .i64 (i : Int)] w fun e w' => e = .returned (.tuple #[.agg #[.int .i64 (if q then 0 else 3), .int .i64 (i : Int), .string (if q then ⟨#[]⟩ else t.extract i E), .int .i64 (if q then 0 else zad t i (E - i))], .int .i64 (if q then 3 else 0), .int .i64 (E : Int)]) /\ Below w.heap.size w w' := by
 have hb := get_bt t
 have hi' : (i : Int) < t.size := by omega
 have ht' : (t.size : Int) <= 3000 := by omega
 have iE : i < E := by rw [<- hE.out]; exact zc8 hi h2
 have HD : Hid (∀ k, i <= k -> k < E -> dgB (bt t k) = true) := fun k h1 h2 => zeg h1 (by rw [hE.out]; exact h2)
 go_enter Tryz.func32, Tryz.ntmps32
 go_wp2_with fail
 refine (za0 _ _).mono ?_
 rw [h]
 rintro e w1 ⟨rfl, rfl⟩
 go_wp2_with fail
 refine (zba _ _).mono ?_
 rw [h2]
 rintro e w1 ⟨rfl, rfl⟩
 go_wp2_with fail
 go_loopw [7] (fun q wr => wr = ((w.alloc (.cells #[.int .i64 0, .int .i64 0, .string ⟨#[]⟩, .int .i64 0] 68)).alloc (.cells #[.int .i64 0, .int .i64 (i : Int), .string ⟨#[]⟩, .int .i64 0] 68)) /\ ∃ j : Nat, q = .int .i64 j /\ i <= j /\ j <= t.size /\ Hid (ze dgB t j = E)) (fun q _ => t.size - (intOf q).toNat)
 case atStart => exact ⟨rfl, i, by go_num, Nat.le_refl _, by omega, hE⟩
 case round =>
  obtain ⟨rfl, j, rfl, hij, hj, hr⟩ := hrel
  by_cases hlt : j < t.size
  · have hlt' : (j : Int) < t.size := by omega
    cases hc : dgB (bt t j) with
    | true =>
      have hr2 : Hid (ze dgB t (j + 1) = E) := by show ze dgB t (j + 1) = E; rw [<- zbn hlt hc]; exact hr.out
      go_wp2_with (go_at_call 79; refine (zba _ _).mono ?_; rw [hc]; rintro e w1 ⟨rfl, rfl⟩)
      go_roundw
      case rel => exact ⟨trivial, j + 1, by go_num, by omega, by omega, hr2⟩
      case measure => simp [intOf]; omega
    | false =>
      have e : j = E := by rw [<- hr.out, zcc hc]
      subst e
      have ij : (i : Int) <= j := by omega
      have js : (j : Int) <= t.size := by omega
      cases q with
      | true =>
        have hq1 := of_decide_eq_true hq.out
        by_cases g1 : 15 < j - i
        · have g1' : 15 < (j : Int) - i := by omega
          clear hq1
          go_wp2_with (go_at_call 79; refine (zba _ _).mono ?_; rw [hc]; rintro e w1 ⟨rfl, rfl⟩)
          (try simp only [Exit.inBlock, Exit.then])
          refine bodyPost_ret (v := .tuple #[.agg #[.int .i64 0, .int .i64 (i : Int), .string ⟨#[]⟩, .int .i64 0], .int .i64 3, .int .i64 (j : Int)]) (by simp [results, Tryz.results32, go_sem, World.cell?_alloc_lt]) rfl ⟨rfl, ?_⟩
          repeat' first | exact zbs | refine Below.setCell ?_ (by first | exact Nat.le_refl _ | exact Nat.le_succ _) _
        · have g1' : ¬ 15 < (j : Int) - i := by omega
          by_cases g2 : 1 < j - i /\ bt t i = 48
          · have g2' : 1 < (j : Int) - i := by omega
            have g3 : (bt t i == 48) = true := by simpa using g2.2
            clear hq1 g2
            go_wp2_with (go_at_call 79; refine (zba _ _).mono ?_; rw [hc]; rintro e w1 ⟨rfl, rfl⟩)
            (try simp only [Exit.inBlock, Exit.then])
            refine bodyPost_ret (v := .tuple #[.agg #[.int .i64 0, .int .i64 (i : Int), .string ⟨#[]⟩, .int .i64 0], .int .i64 3, .int .i64 (j : Int)]) (by simp [results, Tryz.results32, go_sem, World.cell?_alloc_lt]) rfl ⟨rfl, ?_⟩
            repeat' first | exact zbs | refine Below.setCell ?_ (by first | exact Nat.le_refl _ | exact Nat.le_succ _) _
          · have hl : ltB (bt t j) = true := by rcases hq1 with k | k | k; exact absurd k g1; exact absurd k g2; exact k.2
            clear hq1
            by_cases g4 : 1 < j - i
            · have g2' : 1 < (j : Int) - i := by omega
              have g3 : (bt t i == 48) = false := by simpa [g4] using g2
              clear g2
              go_wp2_with (first | (go_at_call 77; refine (za0 _ _).mono ?_; rw [hl]; rintro e w1 ⟨rfl, rfl⟩) | (go_at_call 79; refine (zba _ _).mono ?_; rw [hc]; rintro e w1 ⟨rfl, rfl⟩))
              (try simp only [Exit.inBlock, Exit.then])
              refine bodyPost_ret (v := .tuple #[.agg #[.int .i64 0, .int .i64 (i : Int), .string ⟨#[]⟩, .int .i64 0], .int .i64 3, .int .i64 (j : Int)]) (by simp [results, Tryz.results32, go_sem, World.cell?_alloc_lt]) rfl ⟨rfl, ?_⟩
              repeat' first | exact zbs | refine Below.setCell ?_ (by first | exact Nat.le_refl _ | exact Nat.le_succ _) _
            · have g2' : ¬ 1 < (j : Int) - i := by omega
              clear g2
              go_wp2_with (first | (go_at_call 77; refine (za0 _ _).mono ?_; rw [hl]; rintro e w1 ⟨rfl, rfl⟩) | (go_at_call 79; refine (zba _ _).mono ?_; rw [hc]; rintro e w1 ⟨rfl, rfl⟩))
              (try simp only [Exit.inBlock, Exit.then])
              refine bodyPost_ret (v := .tuple #[.agg #[.int .i64 0, .int .i64 (i : Int), .string ⟨#[]⟩, .int .i64 0], .int .i64 3, .int .i64 (j : Int)]) (by simp [results, Tryz.results32, go_sem, World.cell?_alloc_lt]) rfl ⟨rfl, ?_⟩
              repeat' first | exact zbs | refine Below.setCell ?_ (by first | exact Nat.le_refl _ | exact Nat.le_succ _) _
      | false =>
        have hq1 := of_decide_eq_false hq.out
        simp only [not_or, not_and] at hq1
        obtain ⟨k1, k2, k3⟩ := hq1
        have g1' : ¬ 15 < (j : Int) - i := by omega
        by_cases g2 : 1 < j - i
        · have g2' : 1 < (j : Int) - i := by omega
          have g3 : (bt t i == 48) = false := by simpa using k2 g2
          clear k2
          have hl : ltB (bt t j) = false := by simpa using k3 hlt
          go_wp2_with (first | (go_at_call 77; refine (za0 _ _).mono ?_; rw [hl]; rintro e w1 ⟨rfl, rfl⟩) | (go_at_call 79; refine (zba _ _).mono ?_; rw [hc]; rintro e w1 ⟨rfl, rfl⟩))
          go_loopw [9] (fun q wr => ∃ p : Nat, q = .int .i64 p /\ i <= p /\ p <= j /\ TkB w wr #[.int .i64 3, .int .i64 (i : Int), .string (t.extract i j), .int .i64 (zad t i (p - i))]) (fun q _ => j - (intOf q).toNat)
          case atStart => exact ⟨i, by go_num, Nat.le_refl _, by omega, by rw [Nat.sub_self]; exact TkB.of (Below.refl _ _)⟩
          case round =>
           obtain ⟨p, rfl, hip, hpj, hB⟩ := hrel
           have HB : Hid (TkB w wr #[.int .i64 3, .int .i64 (i : Int), .string (t.extract i j), .int .i64 (zad t i (p - i))]) := hB
           obtain ⟨c1, c2, z1, b2, f1, f2⟩ := hB
           by_cases hp : p < j
           · have hp' : (p : Int) < j := by omega
             have hps : (p : Int) < t.size := by omega
             have hN := zd9 hip hp (by omega) HD.out
             have hs : Hid (zad t i (p + 1 - i) = zad t i (p - i) * 10 + (bt t p - 48)) := zey hip
             have hd := of_decide_eq_true (HD.out p hip hp)
             generalize zad t i (p - i) = N at *
             obtain ⟨N0, N1⟩ := hN
             obtain ⟨d0, d1⟩ := hd
             go_wp2_with fail
             go_region
             all_goals
              go_wp2
              go_roundw
              case rel =>
               refine ⟨p + 1, by go_num, by omega, by omega, ?_⟩
               rw [hs.out]
               exact (HB.out.setN _).drew
              case measure => simp [intOf]; omega
           · have hp' : ¬ (p : Int) < j := by omega
             have e : p = j := by omega
             subst e
             clear HB
             go_wp2
             (try simp only [Exit.inBlock, Exit.then])
             refine bodyPost_ret (v := .tuple #[.agg #[.int .i64 3, .int .i64 (i : Int), .string (t.extract i p), .int .i64 (zad t i (p - i))], .int .i64 0, .int .i64 (p : Int)]) (by simp [results, Tryz.results32, go_sem, c1, c2, z1]) rfl ⟨rfl, ?_⟩
             repeat' first | exact b2 | refine Below.setCell ?_ (by first | exact Nat.le_refl _ | exact Nat.le_succ _) _
        · have g2' : ¬ 1 < (j : Int) - i := by omega
          clear k2
          have hl : ltB (bt t j) = false := by simpa using k3 hlt
          go_wp2_with (first | (go_at_call 77; refine (za0 _ _).mono ?_; rw [hl]; rintro e w1 ⟨rfl, rfl⟩) | (go_at_call 79; refine (zba _ _).mono ?_; rw [hc]; rintro e w1 ⟨rfl, rfl⟩))
          go_loopw [9] (fun q wr => ∃ p : Nat, q = .int .i64 p /\ i <= p /\ p <= j /\ TkB w wr #[.int .i64 3, .int .i64 (i : Int), .string (t.extract i j), .int .i64 (zad t i (p - i))]) (fun q _ => j - (intOf q).toNat)
          case atStart => exact ⟨i, by go_num, Nat.le_refl _, by omega, by rw [Nat.sub_self]; exact TkB.of (Below.refl _ _)⟩
          case round =>
           obtain ⟨p, rfl, hip, hpj, hB⟩ := hrel
           have HB : Hid (TkB w wr #[.int .i64 3, .int .i64 (i : Int), .string (t.extract i j), .int .i64 (zad t i (p - i))]) := hB
           obtain ⟨c1, c2, z1, b2, f1, f2⟩ := hB
           by_cases hp : p < j
           · have hp' : (p : Int) < j := by omega
             have hps : (p : Int) < t.size := by omega
             have hN := zd9 hip hp (by omega) HD.out
             have hs : Hid (zad t i (p + 1 - i) = zad t i (p - i) * 10 + (bt t p - 48)) := zey hip
             have hd := of_decide_eq_true (HD.out p hip hp)
             generalize zad t i (p - i) = N at *
             obtain ⟨N0, N1⟩ := hN
             obtain ⟨d0, d1⟩ := hd
             go_wp2_with fail
             go_region
             all_goals
              go_wp2
              go_roundw
              case rel =>
               refine ⟨p + 1, by go_num, by omega, by omega, ?_⟩
               rw [hs.out]
               exact (HB.out.setN _).drew
              case measure => simp [intOf]; omega
           · have hp' : ¬ (p : Int) < j := by omega
             have e : p = j := by omega
             subst e
             clear HB
             go_wp2
             (try simp only [Exit.inBlock, Exit.then])
             refine bodyPost_ret (v := .tuple #[.agg #[.int .i64 3, .int .i64 (i : Int), .string (t.extract i p), .int .i64 (zad t i (p - i))], .int .i64 0, .int .i64 (p : Int)]) (by simp [results, Tryz.results32, go_sem, c1, c2, z1]) rfl ⟨rfl, ?_⟩
             repeat' first | exact b2 | refine Below.setCell ?_ (by first | exact Nat.le_refl _ | exact Nat.le_succ _) _
  · have hlt' : ¬ (j : Int) < t.size := by omega
    have e : j = E := by rw [<- hr.out, zbx hlt]
    subst e
    have ij : (i : Int) <= j := by omega
    have js : (j : Int) <= t.size := by omega
    cases q with
    | true =>
      have hq1 := of_decide_eq_true hq.out
      by_cases g1 : 15 < j - i
      · have g1' : 15 < (j : Int) - i := by omega
        clear hq1
        go_wp2_with fail
        (try simp only [Exit.inBlock, Exit.then])
        refine bodyPost_ret (v := .tuple #[.agg #[.int .i64 0, .int .i64 (i : Int), .string ⟨#[]⟩, .int .i64 0], .int .i64 3, .int .i64 (j : Int)]) (by simp [results, Tryz.results32, go_sem, World.cell?_alloc_lt]) rfl ⟨rfl, ?_⟩
        repeat' first | exact zbs | refine Below.setCell ?_ (by first | exact Nat.le_refl _ | exact Nat.le_succ _) _
      · have g1' : ¬ 15 < (j : Int) - i := by omega
        by_cases g2 : 1 < j - i /\ bt t i = 48
        · have g2' : 1 < (j : Int) - i := by omega
          have g3 : (bt t i == 48) = true := by simpa using g2.2
          clear hq1 g2
          go_wp2_with fail
          (try simp only [Exit.inBlock, Exit.then])
          refine bodyPost_ret (v := .tuple #[.agg #[.int .i64 0, .int .i64 (i : Int), .string ⟨#[]⟩, .int .i64 0], .int .i64 3, .int .i64 (j : Int)]) (by simp [results, Tryz.results32, go_sem, World.cell?_alloc_lt]) rfl ⟨rfl, ?_⟩
          repeat' first | exact zbs | refine Below.setCell ?_ (by first | exact Nat.le_refl _ | exact Nat.le_succ _) _
        · exact absurd hq1 (by omega)
    | false =>
      have hq1 := of_decide_eq_false hq.out
      simp only [not_or, not_and] at hq1
      obtain ⟨k1, k2, k3⟩ := hq1
      have g1' : ¬ 15 < (j : Int) - i := by omega
      by_cases g2 : 1 < j - i
      · have g2' : 1 < (j : Int) - i := by omega
        have g3 : (bt t i == 48) = false := by simpa using k2 g2
        clear k2
        go_wp2_with fail
        go_loopw [9] (fun q wr => ∃ p : Nat, q = .int .i64 p /\ i <= p /\ p <= j /\ TkB w wr #[.int .i64 3, .int .i64 (i : Int), .string (t.extract i j), .int .i64 (zad t i (p - i))]) (fun q _ => j - (intOf q).toNat)
        case atStart => exact ⟨i, by go_num, Nat.le_refl _, by omega, by rw [Nat.sub_self]; exact TkB.of (Below.refl _ _)⟩
        case round =>
         obtain ⟨p, rfl, hip, hpj, hB⟩ := hrel
         have HB : Hid (TkB w wr #[.int .i64 3, .int .i64 (i : Int), .string (t.extract i j), .int .i64 (zad t i (p - i))]) := hB
         obtain ⟨c1, c2, z1, b2, f1, f2⟩ := hB
         by_cases hp : p < j
         · have hp' : (p : Int) < j := by omega
           have hps : (p : Int) < t.size := by omega
           have hN := zd9 hip hp (by omega) HD.out
           have hs : Hid (zad t i (p + 1 - i) = zad t i (p - i) * 10 + (bt t p - 48)) := zey hip
           have hd := of_decide_eq_true (HD.out p hip hp)
           generalize zad t i (p - i) = N at *
           obtain ⟨N0, N1⟩ := hN
           obtain ⟨d0, d1⟩ := hd
           go_wp2_with fail
           go_region
           all_goals
            go_wp2
            go_roundw
            case rel =>
             refine ⟨p + 1, by go_num, by omega, by omega, ?_⟩
             rw [hs.out]
             exact (HB.out.setN _).drew
            case measure => simp [intOf]; omega
         · have hp' : ¬ (p : Int) < j := by omega
           have e : p = j := by omega
           subst e
           clear HB
           go_wp2
           (try simp only [Exit.inBlock, Exit.then])
           refine bodyPost_ret (v := .tuple #[.agg #[.int .i64 3, .int .i64 (i : Int), .string (t.extract i p), .int .i64 (zad t i (p - i))], .int .i64 0, .int .i64 (p : Int)]) (by simp [results, Tryz.results32, go_sem, c1, c2, z1]) rfl ⟨rfl, ?_⟩
           repeat' first | exact b2 | refine Below.setCell ?_ (by first | exact Nat.le_refl _ | exact Nat.le_succ _) _
      · have g2' : ¬ 1 < (j : Int) - i := by omega
        clear k2
        go_wp2_with fail
        go_loopw [9] (fun q wr => ∃ p : Nat, q = .int .i64 p /\ i <= p /\ p <= j /\ TkB w wr #[.int .i64 3, .int .i64 (i : Int), .string (t.extract i j), .int .i64 (zad t i (p - i))]) (fun q _ => j - (intOf q).toNat)
        case atStart => exact ⟨i, by go_num, Nat.le_refl _, by omega, by rw [Nat.sub_self]; exact TkB.of (Below.refl _ _)⟩
        case round =>
         obtain ⟨p, rfl, hip, hpj, hB⟩ := hrel
         have HB : Hid (TkB w wr #[.int .i64 3, .int .i64 (i : Int), .string (t.extract i j), .int .i64 (zad t i (p - i))]) := hB
         obtain ⟨c1, c2, z1, b2, f1, f2⟩ := hB
         by_cases hp : p < j
         · have hp' : (p : Int) < j := by omega
           have hps : (p : Int) < t.size := by omega
           have hN := zd9 hip hp (by omega) HD.out
           have hs : Hid (zad t i (p + 1 - i) = zad t i (p - i) * 10 + (bt t p - 48)) := zey hip
           have hd := of_decide_eq_true (HD.out p hip hp)
           generalize zad t i (p - i) = N at *
           obtain ⟨N0, N1⟩ := hN
           obtain ⟨d0, d1⟩ := hd
           go_wp2_with fail
           go_region
           all_goals
            go_wp2
            go_roundw
            case rel =>
             refine ⟨p + 1, by go_num, by omega, by omega, ?_⟩
             rw [hs.out]
             exact (HB.out.setN _).drew
            case measure => simp [intOf]; omega
         · have hp' : ¬ (p : Int) < j := by omega
           have e : p = j := by omega
           subst e
           clear HB
           go_wp2
           (try simp only [Exit.inBlock, Exit.then])
           refine bodyPost_ret (v := .tuple #[.agg #[.int .i64 3, .int .i64 (i : Int), .string (t.extract i p), .int .i64 (zad t i (p - i))], .int .i64 0, .int .i64 (p : Int)]) (by simp [results, Tryz.results32, go_sem, c1, c2, z1]) rfl ⟨rfl, ?_⟩
           repeat' first | exact b2 | refine Below.setCell ?_ (by first | exact Nat.le_refl _ | exact Nat.le_succ _) _
set_option maxHeartbeats 1000000 in
theorem zly (t : ByteArray) (i E : Nat) (q : Bool) (w : World) (hi : i < t.size) (ht : t.size <= 3000) (h : ltB (bt t i) = false) (h2 : dgB (bt t i) = false) (h3 : (bt t i == 34) = true) (hE : Hid (ze plB t (i + 1) = E)) (hq : Hid (decide (t.size <= E \/ bt t E ≠ 34 \/ 160 < E - i - 1) = q)) :
 Calls Tryz.prog 32 #[.string t, .int .i64 (i : Int)] w fun e w' => e = .returned (.tuple #[.agg #[.int .i64 (if q then 0 else 4), .int .i64 (i : Int), .string (if q then ⟨#[]⟩ else t.extract (i + 1) E), .int .i64 0], .int .i64 (if q then 5 else 0), .int .i64 (if q then (E : Int) else E + 1)]) /\ Below w.heap.size w w' := by
 have hb := get_bt t
 have hi' : (i : Int) < t.size := by omega
 have ht' : (t.size : Int) <= 3000 := by omega
 go_enter Tryz.func32, Tryz.ntmps32
 go_wp2_with fail
 refine (za0 _ _).mono ?_
 rw [h]
 rintro e w1 ⟨rfl, rfl⟩
 go_wp2_with fail
 refine (zba _ _).mono ?_
 rw [h2]
 rintro e w1 ⟨rfl, rfl⟩
 go_wp2_with fail
 go_loopw [7] (fun q wr => wr = ((w.alloc (.cells #[.int .i64 0, .int .i64 0, .string ⟨#[]⟩, .int .i64 0] 68)).alloc (.cells #[.int .i64 0, .int .i64 (i : Int), .string ⟨#[]⟩, .int .i64 0] 68)) /\ ∃ j : Nat, q = .int .i64 j /\ i + 1 <= j /\ j <= t.size /\ Hid (ze plB t j = E)) (fun q _ => t.size - (intOf q).toNat)
 case atStart => exact ⟨rfl, i + 1, by go_num, Nat.le_refl _, by omega, hE⟩
 case round =>
  obtain ⟨rfl, j, rfl, hij, hj, hr⟩ := hrel
  have ij : (i : Int) + 1 <= j := by omega
  have js : (j : Int) <= t.size := by omega
  by_cases hlt : j < t.size
  · have hlt' : (j : Int) < t.size := by omega
    cases hc : plB (bt t j) with
    | true =>
      have hr2 : Hid (ze plB t (j + 1) = E) := by show ze plB t (j + 1) = E; rw [<- zbn hlt hc]; exact hr.out
      go_wp2_with (go_at_call 80; refine (zea _ _).mono ?_; rw [hc]; rintro e w1 ⟨rfl, rfl⟩)
      go_roundw
      case rel => exact ⟨trivial, j + 1, by go_num, by omega, by omega, hr2⟩
      case measure => simp [intOf]; omega
    | false =>
      have e : j = E := by rw [<- hr.out, zcc hc]
      subst e
      cases g1 : (bt t j == 34) with
      | false =>
        have g1' : (bt t j != 34) = true := by simp only [bne, g1]; rfl
        have e : q = true := by rw [<- hq.out]; exact decide_eq_true (Or.inr (Or.inl (by simpa using g1)))
        subst e
        clear g1
        go_wp2_with (go_at_call 80; refine (zea _ _).mono ?_; rw [hc]; rintro e w1 ⟨rfl, rfl⟩)
        (try simp only [Exit.inBlock, Exit.then])
        refine bodyPost_ret (v := .tuple #[.agg #[.int .i64 0, .int .i64 (i : Int), .string ⟨#[]⟩, .int .i64 0], .int .i64 5, .int .i64 (j : Int)]) (by simp [results, Tryz.results32, go_sem, World.cell?_alloc_lt]) rfl ⟨rfl, ?_⟩
        repeat' first | exact zbs | refine Below.setCell ?_ (by first | exact Nat.le_refl _ | exact Nat.le_succ _) _
      | true =>
        have g1' : (bt t j != 34) = false := by simp only [bne, g1]; rfl
        by_cases g2 : 160 < j - i - 1
        · have g2' : 160 < (j : Int) - i - 1 := by omega
          have e : q = true := by rw [<- hq.out]; exact decide_eq_true (Or.inr (Or.inr g2))
          subst e
          clear g1
          go_wp2_with (go_at_call 80; refine (zea _ _).mono ?_; rw [hc]; rintro e w1 ⟨rfl, rfl⟩)
          (try simp only [Exit.inBlock, Exit.then])
          refine bodyPost_ret (v := .tuple #[.agg #[.int .i64 0, .int .i64 (i : Int), .string ⟨#[]⟩, .int .i64 0], .int .i64 5, .int .i64 (j : Int)]) (by simp [results, Tryz.results32, go_sem, World.cell?_alloc_lt]) rfl ⟨rfl, ?_⟩
          repeat' first | exact zbs | refine Below.setCell ?_ (by first | exact Nat.le_refl _ | exact Nat.le_succ _) _
        · have g2' : ¬ 160 < (j : Int) - i - 1 := by omega
          have e : q = false := by rw [<- hq.out]; exact decide_eq_false (by simp only [not_or, Nat.not_le]; exact ⟨hlt, by simpa using g1, g2⟩)
          subst e
          clear g1
          go_wp2_with (go_at_call 80; refine (zea _ _).mono ?_; rw [hc]; rintro e w1 ⟨rfl, rfl⟩)
          (try simp only [Exit.inBlock, Exit.then])
          refine bodyPost_ret (v := .tuple #[.agg #[.int .i64 4, .int .i64 (i : Int), .string (t.extract (i + 1) j), .int .i64 0], .int .i64 0, .int .i64 ((j : Int) + 1)]) (by simp [results, Tryz.results32, go_sem, World.cell?_alloc_lt]) rfl ⟨rfl, ?_⟩
          repeat' first | exact zbs | refine Below.setCell ?_ (by first | exact Nat.le_refl _ | exact Nat.le_succ _) _
  · have hlt' : ¬ (j : Int) < t.size := by omega
    have e : j = E := by rw [<- hr.out, zbx hlt]
    subst e
    have e : q = true := by rw [<- hq.out]; exact decide_eq_true (Or.inl (by omega))
    subst e
    have g3 : (t.size : Int) <= j := by omega
    go_wp2_with fail
    (try simp only [Exit.inBlock, Exit.then])
    refine bodyPost_ret (v := .tuple #[.agg #[.int .i64 0, .int .i64 (i : Int), .string ⟨#[]⟩, .int .i64 0], .int .i64 5, .int .i64 (j : Int)]) (by simp [results, Tryz.results32, go_sem, World.cell?_alloc_lt]) rfl ⟨rfl, ?_⟩
    repeat' first | exact zbs | refine Below.setCell ?_ (by first | exact Nat.le_refl _ | exact Nat.le_succ _) _
end Go.Proofs.YtiglkhkfbgjjoaaGreatDoor
