/- - -/
import Derived.Test.YtiglkhkfbgjjoaaGreatDoorPLxU
namespace Go.Proofs.YtiglkhkfbgjjoaaGreatDoor
set_option maxRecDepth 20000
open Go.RowKit Go.PlainAid
set_option linter.unusedSimpArgs false
set_option linter.unusedVariables false
theorem zms (t : ByteArray) (j : Nat) (w : World) (hj : j <= t.size) : Calls Tryz.prog 56 #[.string (t.extract j t.size), .string ⟨#[45, 45]⟩] w fun e w' => e = .returned (.bool (zbk t j)) /\ w' = w := by
 rw [<- znr t j hj]
 exact Tryz.strings_HasPrefix (t.extract j t.size) ⟨#[45, 45]⟩ w
theorem zk3 (t : ByteArray) (i E : Nat) (h : i < E) (hE : E <= t.size) : (t.extract i E).extract 1 (E - i) = t.extract (i + 1) E := by
 apply ByteArray.ext
 apply Array.toList_inj.1
 rw [zby, zby, zby, List.drop_take, List.drop_drop, List.take_take]
 congr 1
 omega
theorem zaz {sb : Nat} {tm : Array Value} (hs : tm.size = 136) (h0 : tm[0]? = some (.pointer (some ⟨sb, 0, none⟩))) : ∃ f : Nat -> Value, ({ tmps := tm, defers := [] } : Act) = { tmps := #[.pointer (some ⟨sb, 0, none⟩), f 1, f 2, f 3, f 4, f 5, f 6, f 7, f 8, f 9, f 10, f 11, f 12, f 13, f 14, f 15, f 16, f 17, f 18, f 19, f 20, f 21, f 22, f 23, f 24, f 25, f 26, f 27, f 28, f 29, f 30, f 31, f 32, f 33, f 34, f 35, f 36, f 37, f 38, f 39, f 40, f 41, f 42, f 43, f 44, f 45, f 46, f 47, f 48, f 49, f 50, f 51, f 52, f 53, f 54, f 55, f 56, f 57, f 58, f 59, f 60, f 61, f 62, f 63, f 64, f 65, f 66, f 67, f 68, f 69, f 70, f 71, f 72, f 73, f 74, f 75, f 76, f 77, f 78, f 79, f 80, f 81, f 82, f 83, f 84, f 85, f 86, f 87, f 88, f 89, f 90, f 91, f 92, f 93, f 94, f 95, f 96, f 97, f 98, f 99, f 100, f 101, f 102, f 103, f 104, f 105, f 106, f 107, f 108, f 109, f 110, f 111, f 112, f 113, f 114, f 115, f 116, f 117, f 118, f 119, f 120, f 121, f 122, f 123, f 124, f 125, f 126, f 127, f 128, f 129, f 130, f 131, f 132, f 133, f 134, f 135], defers := [] } := by
 refine ⟨fun i => tm.getD i undef, ?_⟩
 have e : tm.toList = (List.range 136).map fun i => tm.getD i undef := by
  apply List.ext_getElem
  · simp [hs]
  · intro i h1 h2
    have h3 : i < tm.size := by simpa using h1
    simp [h3]
 have hl : ∀ g : Nat -> Value, (List.range 136).map g = [g 0, g 1, g 2, g 3, g 4, g 5, g 6, g 7, g 8, g 9, g 10, g 11, g 12, g 13, g 14, g 15, g 16, g 17, g 18, g 19, g 20, g 21, g 22, g 23, g 24, g 25, g 26, g 27, g 28, g 29, g 30, g 31, g 32, g 33, g 34, g 35, g 36, g 37, g 38, g 39, g 40, g 41, g 42, g 43, g 44, g 45, g 46, g 47, g 48, g 49, g 50, g 51, g 52, g 53, g 54, g 55, g 56, g 57, g 58, g 59, g 60, g 61, g 62, g 63, g 64, g 65, g 66, g 67, g 68, g 69, g 70, g 71, g 72, g 73, g 74, g 75, g 76, g 77, g 78, g 79, g 80, g 81, g 82, g 83, g 84, g 85, g 86, g 87, g 88, g 89, g 90, g 91, g 92, g 93, g 94, g 95, g 96, g 97, g 98, g 99, g 100, g 101, g 102, g 103, g 104, g 105, g 106, g 107, g 108, g 109, g 110, g 111, g 112, g 113, g 114, g 115, g 116, g 117, g 118, g 119, g 120, g 121, g 122, g 123, g 124, g 125, g 126, g 127, g 128, g 129, g 130, g 131, g 132, g 133, g 134, g 135] := fun g => rfl
 have e0 : tm.getD 0 undef = .pointer (some ⟨sb, 0, none⟩) := by
  have h3 : 0 < tm.size := by omega
  rw [Array.getElem?_eq_getElem h3] at h0
  simp only [Option.some.injEq] at h0
  simpa [h3] using h0
 rw [hl, e0] at e
 congr 1
 exact Array.toList_inj.1 e
set_option maxHeartbeats 8000000 in
theorem zs4 (sb : Nat) (t : ByteArray) (w : World) (ht : t.size <= 3000) (hsb : 0 < sb) (hM : MkV w) (h : Scn w sb t 0 0 (.slice none 0 0)) :
 Calls Tryz.prog 28 #[.pointer (some ⟨sb, 0, none⟩)] w fun e w' => zuc t sb w (zab t 0 []) e w' := by
 obtain ⟨R, hR⟩ : ∃ R, R = zab t 0 [] := ⟨_, rfl⟩
 rw [<- hR]
 have HR : Hid (zab t 0 [] = R) := hR.symm
 have HW : Hid (ScW t sb w w 0 0 none 0 []) := ⟨h, zaa.nil _ _, Below.refl _ _⟩
 have HM : Hid (MkV w) := hM
 clear hR h hM
 have hb := get_bt t
 have ht' : (t.size : Int) <= 3000 := by omega
 go_enter Tryz.func28, Tryz.ntmps28
 go_wp2
 refine zjk (fun l m a w' => (∃ f : Nat -> Value, a = { tmps := #[.pointer (some ⟨sb, 0, none⟩), f 1, f 2, f 3, f 4, f 5, f 6, f 7, f 8, f 9, f 10, f 11, f 12, f 13, f 14, f 15, f 16, f 17, f 18, f 19, f 20, f 21, f 22, f 23, f 24, f 25, f 26, f 27, f 28, f 29, f 30, f 31, f 32, f 33, f 34, f 35, f 36, f 37, f 38, f 39, f 40, f 41, f 42, f 43, f 44, f 45, f 46, f 47, f 48, f 49, f 50, f 51, f 52, f 53, f 54, f 55, f 56, f 57, f 58, f 59, f 60, f 61, f 62, f 63, f 64, f 65, f 66, f 67, f 68, f 69, f 70, f 71, f 72, f 73, f 74, f 75, f 76, f 77, f 78, f 79, f 80, f 81, f 82, f 83, f 84, f 85, f 86, f 87, f 88, f 89, f 90, f 91, f 92, f 93, f 94, f 95, f 96, f 97, f 98, f 99, f 100, f 101, f 102, f 103, f 104, f 105, f 106, f 107, f 108, f 109, f 110, f 111, f 112, f 113, f 114, f 115, f 116, f 117, f 118, f 119, f 120, f 121, f 122, f 123, f 124, f 125, f 126, f 127, f 128, f 129, f 130, f 131, f 132, f 133, f 134, f 135], defers := [] }) /\ zvt t sb w R l m w') (2 * t.size + 1) ?start ?P0 ?pass
 case start => exact ⟨zaz rfl rfl, 0, 0, none, 0, [], HW.out, by simp, by omega, HR.out, .inl ⟨rfl, by omega⟩⟩
 case P0 =>
  intro m a wz hJ
  obtain ⟨⟨f, rfl⟩, i, fr, va, vc, acc, H, hacc, his, hr, hl⟩ := hJ
  have hm : m = 2 * (t.size - i) + 1 := by rcases hl with ⟨_, h⟩ | ⟨_, _, _, _, h⟩; exact h; exact h.elim
  clear hl
  have HH : Hid (ScW t sb w wz fr i va vc acc) := H
  have HRR : Hid (zab t i acc = R) := hr
  clear H hr
  go_wp2_with fail
  refine (zqm sb t fr i _ _ ht HH.out.s his).mono ?_
  rintro e w1 ⟨rfl, s1, g1⟩
  have H1 : Hid (ScW t sb w w1 fr (ze bkB t i) va vc acc) := HH.out.grown s1 g1
  have hge := zcv bkB t i
  have hle := zbc (p := bkB) his
  have hbk : ze bkB t i < t.size -> bkB (bt t (ze bkB t i)) = false := zkd his
  have HR1 : Hid (zab t (ze bkB t i) acc = R) := by show zab t (ze bkB t i) acc = R; rw [zow]; exact HRR.out
  have hl1 := s1.lt
  obtain ⟨c0, c1, c2, c3⟩ := s1.cells
  have f1 := s1.f 1
  clear s1 g1 HH HRR
  generalize ze bkB t i = j at *
  go_wp2_with fail
  obtain ⟨w2, hw2⟩ : ∃ V, V = w1.setCell ⟨sb, 1, none⟩ (.int .i64 (j : Int)) := ⟨_, rfl⟩
  have H2 : Hid (ScW t sb w w2 j j va vc acc) := by show ScW t sb w w2 j j va vc acc; rw [hw2]; exact H1.out.setFrom j
  rw [<- hw2]
  clear hw2 H1 c0 c1 c2 c3 f1 hl1
  have hl2 := H2.out.s.lt
  obtain ⟨c0, c1, c2, c3⟩ := H2.out.s.cells
  have j0 : 0 <= (j : Int) := by omega
  have j1 : (j : Int) <= t.size := by omega
  by_cases he : j < t.size
  · have e1 : ((j : Int) == (t.size : Int)) = false := by simp; omega
    have hbk' := hbk he
    clear hbk
    go_quiet (fail)
    obtain ⟨w3, hw3⟩ : ∃ V, V = w2.drewN nq := ⟨_, rfl⟩
    have H3 : Hid (ScW t sb w w3 j j va vc acc) := by show ScW t sb w w3 j j va vc acc; rw [hw3]; exact H2.out.drewN _
    rw [<- hw3]
    clear hw3 H2 c0 c1 c2 c3 hl2
    have hl3 := H3.out.s.lt
    obtain ⟨c0, c1, c2, c3⟩ := H3.out.s.cells
    go_wp2_with fail
    cases hrm : zbk t j with
    | true =>
      go_quiet (first | (refine (zms t j _ hle).mono ?_; rw [hrm]; rintro e w1 ⟨rfl, rfl⟩; exact ⟨rfl, _, rfl⟩))
      obtain ⟨w4, hw4⟩ : ∃ V, V = w3.drewN nq := ⟨_, rfl⟩
      have H4 : Hid (ScW t sb w w4 j j va vc acc) := by show ScW t sb w w4 j j va vc acc; rw [hw4]; exact H3.out.drewN _
      rw [<- hw4]
      clear hw4 H3 c0 c1 c2 c3 hl3
      have hl4 := H4.out.s.lt
      obtain ⟨c0, c1, c2, c3⟩ := H4.out.s.cells
      go_wp2_with fail
      go_step3
      (try simp only [Exit.inBlock, Exit.then, za8])
      exact ⟨2 * (t.size - j), by omega, zaz rfl rfl, j, j, va, vc, acc, H4.out, by omega, hle, HR1.out, .inr ⟨rfl, he, rfl, hbk', hrm⟩⟩
    | false =>
      go_quiet (first | (refine (zms t j _ hle).mono ?_; rw [hrm]; rintro e w1 ⟨rfl, rfl⟩; exact ⟨rfl, _, rfl⟩))
      obtain ⟨w4, hw4⟩ : ∃ V, V = w3.drewN nq := ⟨_, rfl⟩
      have H4 : Hid (ScW t sb w w4 j j va vc acc) := by show ScW t sb w w4 j j va vc acc; rw [hw4]; exact H3.out.drewN _
      rw [<- hw4]
      clear hw4 H3 c0 c1 c2 c3 hl3
      have hl4 := H4.out.s.lt
      obtain ⟨c0, c1, c2, c3⟩ := H4.out.s.cells
      go_wp2_with fail
      refine (zeb sb t j j _ _ ht H4.out.s hle).mono ?_
      rw [show decide (j < t.size) = true from decide_eq_true he, Bool.true_and]
      rintro e w5 ⟨rfl, b5⟩
      have H5 : Hid (ScW t sb w w5 j j va vc acc) := H4.out.read b5
      clear b5 H4 c0 c1 c2 c3 hl4
      cases hlt : ltB (bt t j) with
      | true =>
        go_wp2_with fail
        go_step3
        (try simp only [Exit.inBlock, Exit.then, za8])
        exact ⟨2 * (t.size - j), by omega, zaz rfl rfl, j, j, va, vc, acc, H5.out, by omega, hle, HR1.out, .inr ⟨rfl, he, rfl, hbk', ⟨hrm, hlt⟩⟩⟩
      | false =>
        go_wp2_with fail
        refine (zfq sb t j j _ _ ht H5.out.s hle).mono ?_
        rw [show decide (j < t.size) = true from decide_eq_true he, Bool.true_and]
        rintro e w6 ⟨rfl, b6⟩
        have H6 : Hid (ScW t sb w w6 j j va vc acc) := H5.out.read b6
        clear b6 H5
        have hl6 := H6.out.s.lt
        obtain ⟨c0, c1, c2, c3⟩ := H6.out.s.cells
        cases hdg : dgB (bt t j) with
        | true =>
          go_wp2_with fail
          go_step3
          (try simp only [Exit.inBlock, Exit.then, za8])
          exact ⟨2 * (t.size - j), by omega, zaz rfl rfl, j, j, va, vc, acc, H6.out, by omega, hle, HR1.out, .inr ⟨rfl, he, rfl, hbk', ⟨hrm, hlt, hdg⟩⟩⟩
        | false =>
          go_wp2_with fail
          have j2 : (j : Int) < t.size := by omega
          cases hqu : (bt t j == 34) with
          | true =>
            go_quiet (fail)
            obtain ⟨w7, hw7⟩ : ∃ V, V = w6.drewN nq := ⟨_, rfl⟩
            have H7 : Hid (ScW t sb w w7 j j va vc acc) := by show ScW t sb w w7 j j va vc acc; rw [hw7]; exact H6.out.drewN _
            rw [<- hw7]
            clear hw7 H6 c0 c1 c2 c3 hl6
            have hl7 := H7.out.s.lt
            obtain ⟨c0, c1, c2, c3⟩ := H7.out.s.cells
            go_wp2_with fail
            go_step3
            (try simp only [Exit.inBlock, Exit.then, za8])
            exact ⟨2 * (t.size - j), by omega, zaz rfl rfl, j, j, va, vc, acc, H7.out, by omega, hle, HR1.out, .inr ⟨rfl, he, rfl, hbk', ⟨hrm, hlt, hdg, by simpa using hqu⟩⟩⟩
          | false =>
            go_quiet (fail)
            obtain ⟨w7, hw7⟩ : ∃ V, V = w6.drewN nq := ⟨_, rfl⟩
            have H7 : Hid (ScW t sb w w7 j j va vc acc) := by show ScW t sb w w7 j j va vc acc; rw [hw7]; exact H6.out.drewN _
            rw [<- hw7]
            clear hw7 H6 c0 c1 c2 c3 hl6
            have hl7 := H7.out.s.lt
            obtain ⟨c0, c1, c2, c3⟩ := H7.out.s.cells
            go_wp2_with fail
            go_step3
            (try simp only [Exit.inBlock, Exit.then, za8])
            exact ⟨2 * (t.size - j), by omega, zaz rfl rfl, j, j, va, vc, acc, H7.out, by omega, hle, HR1.out, .inr ⟨rfl, he, rfl, hbk', ⟨hrm, hlt, hdg, by simpa using hqu⟩⟩⟩
  · have e1 : ((j : Int) == (t.size : Int)) = true := by simp; omega
    clear hbk
    go_quiet (fail)
    obtain ⟨w3, hw3⟩ : ∃ V, V = w2.drewN nq := ⟨_, rfl⟩
    have H3 : Hid (ScW t sb w w3 j j va vc acc) := by show ScW t sb w w3 j j va vc acc; rw [hw3]; exact H2.out.drewN _
    rw [<- hw3]
    clear hw3 H2 c0 c1 c2 c3 hl2
    have hl3 := H3.out.s.lt
    obtain ⟨c0, c1, c2, c3⟩ := H3.out.s.cells
    go_wp2_with fail
    (try simp only [Exit.inBlock, Exit.then, za8])
    go_ret
    have e : R = (0, 0, acc) := by rw [<- HR1.out, zfl he]
    subst e
    exact ⟨rfl, j, j, va, vc, acc, H3.out, fun _ => ⟨rfl, rfl⟩, fun h => absurd rfl h⟩
 case pass =>
  intro l m a wz hl0 hJ
  obtain ⟨⟨f, rfl⟩, i, fr, va, vc, acc, H, hacc, his, hr, hl⟩ := hJ
  rcases hl with ⟨h, _⟩ | ⟨hfr, hi, hm, hbk, hc⟩
  · exact absurd h hl0
  obtain rfl : i = fr := hfr.symm
  have HH : Hid (ScW t sb w wz i i va vc acc) := H
  have HRR : Hid (zab t i acc = R) := hr
  clear H hr
  rcases l with _ | _ | _ | _ | _ | _ | l
  · exact absurd rfl hl0
  · clear hl0
    refine ⟨_, rfl, ?_⟩
    have hrm : zbk t i = true := hc
    obtain ⟨E, hE⟩ : ∃ E, E = ze lnB t i := ⟨_, rfl⟩
    have hgt : i < E := by rw [hE]; exact ze7 hrm
    have hEs : E <= t.size := by rw [hE]; exact zbc his
    have HR1 : Hid (zab t E acc = R) := by show zab t E acc = R; rw [hE, <- zfm hi hbk hrm]; exact HRR.out
    have HK := fun W (hW : Scn W sb t i i (.slice va acc.length vc)) => zqn sb t i i _ W ht hW his
    rw [<- hE] at HK
    clear hE hrm hc HRR
    go_wp2_with fail
    refine (HK _ HH.out.s).mono ?_
    rintro e w1 ⟨rfl, s1, g1⟩
    have H1 : Hid (ScW t sb w w1 i E va vc acc) := HH.out.grown s1 g1
    clear s1 g1 HH HK
    go_wp2_with fail
    go_step3
    (try simp only [Exit.inBlock, Exit.then, za8])
    exact ⟨2 * (t.size - E) + 1, by omega, zaz rfl rfl, E, i, va, vc, acc, H1.out, by first | omega | (simp; omega), by omega, HR1.out, .inl ⟨rfl, rfl⟩⟩
  · clear hl0
    refine ⟨_, rfl, ?_⟩
    obtain ⟨hrm, hlt⟩ : zbk t i = false /\ ltB (bt t i) = true := hc
    obtain ⟨E, hE⟩ : ∃ E, E = ze ltB t i := ⟨_, rfl⟩
    have hgt : i < E := by rw [hE]; exact zc8 hi hlt
    have hEs : E <= t.size := by rw [hE]; exact zbc his
    have hT : zh t i = if isW (t.extract i E) then ⟨0, ⟨2, i, t.extract i E, 0⟩, E⟩ else if 12 < E - i then ⟨4, ⟨1, i, t.extract i E, 0⟩, E⟩ else ⟨0, ⟨1, i, t.extract i E, 0⟩, E⟩ := by
     unfold zh
     rw [if_pos hlt, hE]
    have hsz : (t.extract i E).size = E - i := by rw [ByteArray.size_extract]; omega
    have HK := fun W (hW : Scn W sb t i i (.slice va acc.length vc)) => zqk sb t i i _ W ht hW his
    rw [<- hE] at HK
    have HTK : Hid ((zh t i).code = 0 -> zab t (zh t i).e (acc ++ [(zh t i).x]) = R) := fun h => by rw [<- zc6 hi hbk hrm h]; exact HRR.out
    have HTB : Hid ((zh t i).code ≠ 0 -> ((zh t i).code, i, []) = R) := fun h => by rw [<- zdt hi hbk hrm h]; exact HRR.out
    clear hE HRR hrm hlt
    go_wp2_with fail
    refine (HK _ HH.out.s).mono ?_
    rintro e w1 ⟨rfl, s1, g1⟩
    have H1 : Hid (ScW t sb w w1 i E va vc acc) := HH.out.grown s1 g1
    clear s1 g1 HH HK
    go_wp2_with fail
    refine (zbd sb t i E _ _ ht H1.out.s (by omega) hEs).mono ?_
    rintro e w2 ⟨rfl, b⟩
    have H2 : Hid (ScW t sb w w2 i E va vc acc) := H1.out.read b
    clear b H1
    go_wp2_with fail
    refine (zdu _ _).mono ?_
    cases hw : isW (t.extract i E) with
    | true =>
      rintro e wk ⟨rfl, rfl⟩
      rw [hw, if_pos rfl] at hT
      rw [hT] at HTK HTB
      have HQ : Hid (zab t E (acc ++ [⟨2, i, t.extract i E, 0⟩]) = R) := HTK.out rfl
      clear HTK HTB hT
      go_wp2_with fail
      refine (zbd sb t i E _ _ ht H2.out.s (by omega) hEs).mono ?_
      rintro e w3 ⟨rfl, b⟩
      have H3 : Hid (ScW t sb w w3 i E va vc acc) := H2.out.read b
      clear b H2
      go_wp2_with fail
      refine (zek sb t i E va vc acc 2 (t.extract i E) (0) _ (by first | (rw [ByteArray.size_extract]; omega) | omega) (by omega) H3.out.s H3.out.k).mono ?_
      rintro e w9 ⟨rfl, v', s9, k9, b9⟩
      obtain ⟨va9, vc9, rfl⟩ := k9.form
      have H9 : Hid (ScW t sb w w9 i E va9 vc9 (acc ++ [⟨2, i, t.extract i E, 0⟩])) := ⟨s9, k9, H3.out.b.trans b9⟩
      have hl9 := s9.lt
      clear s9 k9 b9 H3
      go_wp2_with fail
      go_step3
      (try simp only [Exit.inBlock, Exit.then, za8])
      exact ⟨2 * (t.size - E) + 1, by omega, zaz rfl rfl, E, i, va9, vc9, (acc ++ [⟨2, i, t.extract i E, 0⟩]), H9.out, by first | omega | (simp; omega), by omega, HQ.out, .inl ⟨rfl, rfl⟩⟩
    | false =>
      rintro e wk ⟨rfl, rfl⟩
      rw [hw, if_neg (by simp)] at hT
      by_cases hg : 12 < E - i
      · rw [if_pos hg] at hT
        rw [hT] at HTK HTB
        have HB : Hid (((4 : Int), i, ([] : List za)) = R) := HTB.out (by simp)
        have hg' : 12 < ((t.extract i E).size : Int) := by omega
        clear HTK HTB hT
        go_wp2_with fail
        refine (zbd sb t i E _ _ ht H2.out.s (by omega) hEs).mono ?_
        rintro e w3 ⟨rfl, b⟩
        have H3 : Hid (ScW t sb w w3 i E va vc acc) := H2.out.read b
        clear b H2
        go_wp2_with fail
        (try simp only [Exit.inBlock, Exit.then, za8])
        go_ret
        exact ⟨by rw [<- HB.out]; rfl, i, E, va, vc, acc, H3.out, fun h0 => absurd h0 (by rw [<- HB.out]; simp), fun _ => by rw [<- HB.out]; exact ⟨rfl, rfl⟩⟩
      · rw [if_neg hg] at hT
        rw [hT] at HTK HTB
        have HQ : Hid (zab t E (acc ++ [⟨1, i, t.extract i E, 0⟩]) = R) := HTK.out rfl
        have hg' : ¬ 12 < ((t.extract i E).size : Int) := by omega
        clear HTK HTB hT
        go_wp2_with fail
        refine (zbd sb t i E _ _ ht H2.out.s (by omega) hEs).mono ?_
        rintro e w3 ⟨rfl, b⟩
        have H3 : Hid (ScW t sb w w3 i E va vc acc) := H2.out.read b
        clear b H2
        go_wp2_with fail
        refine (zbd sb t i E _ _ ht H3.out.s (by omega) hEs).mono ?_
        rintro e w4 ⟨rfl, b⟩
        have H4 : Hid (ScW t sb w w4 i E va vc acc) := H3.out.read b
        clear b H3
        go_wp2_with fail
        refine (zek sb t i E va vc acc 1 (t.extract i E) (0) _ (by first | (rw [ByteArray.size_extract]; omega) | omega) (by omega) H4.out.s H4.out.k).mono ?_
        rintro e w9 ⟨rfl, v', s9, k9, b9⟩
        obtain ⟨va9, vc9, rfl⟩ := k9.form
        have H9 : Hid (ScW t sb w w9 i E va9 vc9 (acc ++ [⟨1, i, t.extract i E, 0⟩])) := ⟨s9, k9, H4.out.b.trans b9⟩
        have hl9 := s9.lt
        clear s9 k9 b9 H4
        go_wp2_with fail
        go_step3
        (try simp only [Exit.inBlock, Exit.then, za8])
        exact ⟨2 * (t.size - E) + 1, by omega, zaz rfl rfl, E, i, va9, vc9, (acc ++ [⟨1, i, t.extract i E, 0⟩]), H9.out, by first | omega | (simp; omega), by omega, HQ.out, .inl ⟨rfl, rfl⟩⟩
  · clear hl0
    refine ⟨_, rfl, ?_⟩
    obtain ⟨hrm, hlt, hdg⟩ : zbk t i = false /\ ltB (bt t i) = false /\ dgB (bt t i) = true := hc
    obtain ⟨E, hE⟩ : ∃ E, E = ze dgB t i := ⟨_, rfl⟩
    have hgt : i < E := by rw [hE]; exact zc8 hi hdg
    have hEs : E <= t.size := by rw [hE]; exact zbc his
    have hdd : Hid (∀ k, i <= k -> k < E -> dgB (bt t k) = true) := fun k h1 h2 => zeg h1 (by rw [<- hE]; exact h2)
    have hT : zh t i = if zir t i E then ⟨3, ⟨0, i, ⟨#[]⟩, 0⟩, E⟩ else ⟨0, ⟨3, i, t.extract i E, zad t i (E - i)⟩, E⟩ := by
     unfold zh zir
     rw [if_neg (by simp [hlt]), if_pos hdg, hE]
     simp only [decide_eq_true_eq]
    have hsz : (t.extract i E).size = E - i := by rw [ByteArray.size_extract]; omega
    have HK := fun W (hW : Scn W sb t i i (.slice va acc.length vc)) => zql sb t i i _ W ht hW his
    rw [<- hE] at HK
    have HTK : Hid ((zh t i).code = 0 -> zab t (zh t i).e (acc ++ [(zh t i).x]) = R) := fun h => by rw [<- zc6 hi hbk hrm h]; exact HRR.out
    have HTB : Hid ((zh t i).code ≠ 0 -> ((zh t i).code, i, []) = R) := fun h => by rw [<- zdt hi hbk hrm h]; exact HRR.out
    clear hE HRR hrm hlt hdg
    go_wp2_with fail
    refine (HK _ HH.out.s).mono ?_
    rintro e w1 ⟨rfl, s1, g1⟩
    have H1 : Hid (ScW t sb w w1 i E va vc acc) := HH.out.grown s1 g1
    clear s1 g1 HH HK
    go_wp2_with fail
    refine (zl1 sb t i E _ _ ht H1.out.s hgt hEs).mono ?_
    cases hw : zir t i E with
    | true =>
      rintro e w2 ⟨rfl, b⟩
      have H2 : Hid (ScW t sb w w2 i E va vc acc) := H1.out.read b
      clear b H1
      rw [hw, if_pos rfl] at hT
      rw [hT] at HTK HTB
      have HB : Hid (((3 : Int), i, ([] : List za)) = R) := HTB.out (by simp)
      clear HTK HTB hT
      go_wp2_with fail
      (try simp only [Exit.inBlock, Exit.then, za8])
      go_ret
      exact ⟨by rw [<- HB.out]; rfl, i, E, va, vc, acc, H2.out, fun h0 => absurd h0 (by rw [<- HB.out]; simp), fun _ => by rw [<- HB.out]; exact ⟨rfl, rfl⟩⟩
    | false =>
      rintro e w2 ⟨rfl, b⟩
      have H2 : Hid (ScW t sb w w2 i E va vc acc) := H1.out.read b
      clear b H1
      rw [hw, if_neg (by simp)] at hT
      rw [hT] at HTK HTB
      have HQ : Hid (zab t E (acc ++ [⟨3, i, t.extract i E, zad t i (E - i)⟩]) = R) := HTK.out rfl
      have h15 : E - i <= 15 := by have := of_decide_eq_false hw; omega
      clear HTK HTB hT
      go_wp2_with fail
      refine (zbd sb t i E _ _ ht H2.out.s (by omega) hEs).mono ?_
      rintro e w3 ⟨rfl, b⟩
      have H3 : Hid (ScW t sb w w3 i E va vc acc) := H2.out.read b
      clear b H2
      go_wp2_with fail
      refine (zbd sb t i E _ _ ht H3.out.s (by omega) hEs).mono ?_
      rintro e w4 ⟨rfl, b⟩
      have H4 : Hid (ScW t sb w w4 i E va vc acc) := H3.out.read b
      clear b H3
      have HNU := fun W => zl3 (t.extract i E) W (by omega) (fun k hk => by rw [zbb t i E k hEs (by omega)]; exact hdd.out (i + k) (by omega) (by omega))
      rw [hsz, zem t i E hEs (E - i) (by omega)] at HNU
      go_wp2_with fail
      refine (HNU _).mono ?_
      rintro e wk ⟨rfl, rfl⟩
      clear HNU
      go_wp2_with fail
      refine (zek sb t i E va vc acc 3 (t.extract i E) (zad t i (E - i)) _ (by first | (rw [ByteArray.size_extract]; omega) | omega) (by omega) H4.out.s H4.out.k).mono ?_
      rintro e w9 ⟨rfl, v', s9, k9, b9⟩
      obtain ⟨va9, vc9, rfl⟩ := k9.form
      have H9 : Hid (ScW t sb w w9 i E va9 vc9 (acc ++ [⟨3, i, t.extract i E, zad t i (E - i)⟩])) := ⟨s9, k9, H4.out.b.trans b9⟩
      have hl9 := s9.lt
      clear s9 k9 b9 H4
      go_wp2_with fail
      go_step3
      (try simp only [Exit.inBlock, Exit.then, za8])
      exact ⟨2 * (t.size - E) + 1, by omega, zaz rfl rfl, E, i, va9, vc9, (acc ++ [⟨3, i, t.extract i E, zad t i (E - i)⟩]), H9.out, by first | omega | (simp; omega), by omega, HQ.out, .inl ⟨rfl, rfl⟩⟩
  · clear hl0
    refine ⟨_, rfl, ?_⟩
    obtain ⟨hrm, hlt, hdg, hqu⟩ : zbk t i = false /\ ltB (bt t i) = false /\ dgB (bt t i) = false /\ bt t i = 34 := hc
    obtain ⟨E, hE⟩ : ∃ E, E = ze plB t (i + 1) := ⟨_, rfl⟩
    have hgt : i + 1 <= E := by rw [hE]; exact zcv _ _ _
    have hEs : E <= t.size := by rw [hE]; exact zbc (by omega)
    have hT : zh t i = if zel t i E then ⟨0, ⟨4, i, t.extract (i + 1) E, 0⟩, E + 1⟩ else ⟨5, ⟨0, i, ⟨#[]⟩, 0⟩, E⟩ := by
     unfold zh
     rw [if_neg (by simp [hlt]), if_neg (by simp [hdg]), if_pos hqu, <- hE]
     by_cases hq : t.size <= E \/ bt t E ≠ 34 \/ 160 < E - i - 1
     · have e : zel t i E = false := by
        unfold zel
        rcases hq with h | h | h
        · rw [show decide (E < t.size) = false from decide_eq_false (by omega)]; rfl
        · rw [show (bt t E == 34) = false from by simpa using h]; simp
        · rw [show decide ((E : Int) - i - 1 <= 160) = false from decide_eq_false (by omega)]; simp
       rw [if_pos hq, e, if_neg (by simp)]
     · simp only [not_or, Nat.not_le] at hq
       have e : zel t i E = true := by
        unfold zel
        rw [show decide (E < t.size) = true from decide_eq_true hq.1, show (bt t E == 34) = true from by simpa using hq.2.1, show decide ((E : Int) - i - 1 <= 160) = true from decide_eq_true (by omega)]
        rfl
       rw [if_neg (by omega), e, if_pos rfl]
    have hcl : zel t i E = true -> E < t.size := fun h => by
     unfold zel at h
     simp only [Bool.and_eq_true, decide_eq_true_eq] at h
     exact h.1
    have hsz : (t.extract i E).size = E - i := by rw [ByteArray.size_extract]; omega
    have HK := fun W (hW : Scn W sb t i (i + 1) (.slice va acc.length vc)) => zqo sb t i (i + 1) _ W ht hW (by omega)
    rw [<- hE] at HK
    have HTK : Hid ((zh t i).code = 0 -> zab t (zh t i).e (acc ++ [(zh t i).x]) = R) := fun h => by rw [<- zc6 hi hbk hrm h]; exact HRR.out
    have HTB : Hid ((zh t i).code ≠ 0 -> ((zh t i).code, i, []) = R) := fun h => by rw [<- zdt hi hbk hrm h]; exact HRR.out
    have HCL : Hid (zel t i E = true -> E < t.size) := hcl
    clear hE HRR hrm hlt hdg hqu hcl
    have hl0 := HH.out.s.lt
    have f2 := HH.out.s.f 2
    obtain ⟨c0, c1, c2, c3⟩ := HH.out.s.cells
    have i9 : (i : Int) < 3000 := by omega
    go_wp2_with fail
    obtain ⟨w1, hw1⟩ : ∃ V, V = wz.setCell ⟨sb, 2, none⟩ (.int .i64 ((i : Int) + 1)) := ⟨_, rfl⟩
    have H1 : Hid (ScW t sb w w1 i (i + 1) va vc acc) := by show ScW t sb w w1 i (i + 1) va vc acc; rw [hw1, show (i : Int) + 1 = ((i + 1 : Nat) : Int) from by omega]; exact HH.out.setAt (i + 1)
    rw [<- hw1]
    clear hw1 HH c0 c1 c2 c3 f2 hl0
    refine (HK _ H1.out.s).mono ?_
    rintro e w2 ⟨rfl, s1, g1⟩
    have H2 : Hid (ScW t sb w w2 i E va vc acc) := H1.out.grown s1 g1
    clear s1 g1 H1 HK
    go_wp2_with fail
    refine (zl2 sb t i E _ _ ht H2.out.s (by omega) hEs).mono ?_
    cases hw : zel t i E with
    | false =>
      rintro e w3 ⟨rfl, b⟩
      have H3 : Hid (ScW t sb w w3 i E va vc acc) := H2.out.read b
      clear b H2
      rw [hw, if_neg (by simp)] at hT
      rw [hT] at HTK HTB
      have HB : Hid (((5 : Int), i, ([] : List za)) = R) := HTB.out (by simp)
      clear HTK HTB hT
      go_wp2_with fail
      (try simp only [Exit.inBlock, Exit.then, za8])
      go_ret
      exact ⟨by rw [<- HB.out]; rfl, i, E, va, vc, acc, H3.out, fun h0 => absurd h0 (by rw [<- HB.out]; simp), fun _ => by rw [<- HB.out]; exact ⟨rfl, rfl⟩⟩
    | true =>
      rintro e w3 ⟨rfl, b⟩
      have H3 : Hid (ScW t sb w w3 i E va vc acc) := H2.out.read b
      clear b H2
      rw [hw, if_pos rfl] at hT
      rw [hT] at HTK HTB
      have hEl := HCL.out hw
      have HQ : Hid (zab t (E + 1) (acc ++ [⟨4, i, t.extract (i + 1) E, 0⟩]) = R) := HTK.out rfl
      have z1 : (1 : Int) <= ((t.extract i E).size : Int) := by omega
      clear HTK HTB hT HCL hsz
      go_wp2_with fail
      refine (zbd sb t i E _ _ ht H3.out.s (by omega) hEs).mono ?_
      rintro e w4 ⟨rfl, b⟩
      have H4 : Hid (ScW t sb w w4 i E va vc acc) := H3.out.read b
      clear b H3
      go_wp2_with fail
      refine (zek sb t i E va vc acc 4 ((t.extract i E).extract 1 (E - i)) (0) _ (by rw [zk3 t i E (by omega) hEs, ByteArray.size_extract]; omega) (by omega) H4.out.s H4.out.k).mono ?_
      rintro e w9 ⟨rfl, v', s9, k9, b9⟩
      obtain ⟨va9, vc9, rfl⟩ := k9.form
      have H9 : Hid (ScW t sb w w9 i E va9 vc9 (acc ++ [⟨4, i, (t.extract i E).extract 1 (E - i), 0⟩])) := ⟨s9, k9, H4.out.b.trans b9⟩
      have hl9 := s9.lt
      clear s9 k9 b9 H4
      rw [zk3 t i E (by omega) hEs] at H9
      have f2 := H9.out.s.f 2
      obtain ⟨c0, c1, c2, c3⟩ := H9.out.s.cells
      have E9 : (E : Int) < 3000 := by omega
      go_wp2_with fail
      obtain ⟨w10, hw10⟩ : ∃ V, V = w9.setCell ⟨sb, 2, none⟩ (.int .i64 ((E : Int) + 1)) := ⟨_, rfl⟩
      have H10 : Hid (ScW t sb w w10 i (E + 1) va9 vc9 (acc ++ [⟨4, i, t.extract (i + 1) E, 0⟩])) := by show ScW t sb w w10 i (E + 1) va9 vc9 (acc ++ [⟨4, i, t.extract (i + 1) E, 0⟩]); rw [hw10, show (E : Int) + 1 = ((E + 1 : Nat) : Int) from by omega]; exact H9.out.setAt (E + 1)
      rw [<- hw10]
      clear hw10 H9 c0 c1 c2 c3 f2 hl9
      go_step3
      (try simp only [Exit.inBlock, Exit.then, za8])
      exact ⟨2 * (t.size - (E + 1)) + 1, by omega, zaz rfl rfl, (E + 1), i, va9, vc9, (acc ++ [⟨4, i, t.extract (i + 1) E, 0⟩]), H10.out, by first | omega | (simp; omega), by omega, HQ.out, .inl ⟨rfl, rfl⟩⟩
  · clear hl0
    refine ⟨_, rfl, ?_⟩
    obtain ⟨hrm, hlt, hdg, hqu⟩ : zbk t i = false /\ ltB (bt t i) = false /\ dgB (bt t i) = false /\ ¬ bt t i = 34 := hc
    have HTT : Hid (zh t i = match zbo t i with | some m => ⟨0, ⟨5, i, m, 0⟩, i + m.size⟩ | none => ⟨2, ⟨0, i, ⟨#[]⟩, 0⟩, i⟩) := by
     show zh t i = _
     unfold zh
     rw [if_neg (by simp [hlt]), if_neg (by simp [hdg]), if_neg hqu]
     cases zbo t i <;> rfl
    have hmz : zag t i <= 2 := by
     unfold zag
     cases hmk : zbo t i with
     | none => simp
     | some m => exact (zc5 m (zc9 hmk).2.2).2
    have HTK : Hid ((zh t i).code = 0 -> zab t (zh t i).e (acc ++ [(zh t i).x]) = R) := fun h => by rw [<- zc6 hi hbk hrm h]; exact HRR.out
    have HTB : Hid ((zh t i).code ≠ 0 -> ((zh t i).code, i, []) = R) := fun h => by rw [<- zdt hi hbk hrm h]; exact HRR.out
    clear HRR hrm hlt hdg hqu
    have MV : Hid (MkV wz.drew) := (HM.out.below HH.out.b.drew hsb)
    replace HH : Hid (ScW t sb w wz.drew i i va vc acc) := HH.out.drew
    have hl0 := HH.out.s.lt
    have f2 := HH.out.s.f 2
    obtain ⟨c0, c1, c2, c3⟩ := HH.out.s.cells
    have c0s := (HH.out.setAt (i + zag t i)).s.cells.1
    rw [show (((i + zag t i : Nat)) : Int) = (i : Int) + (zag t i : Int) from by omega] at c0s
    have i8 : (i : Int) <= t.size := by omega
    have i9 : 0 <= (i : Int) := by omega
    go_wp2_with fail
    refine wp_region_held_drew (S := fun V => V.cell? ⟨sb, 0, none⟩ = some (.string t)) (by kernel_rfl) c0 (fun hHeld => ?_)
    generalize wz.drew = w0 at *
    refine zd 0 106 (.pointer (some ⟨sb, 0, none⟩)) hHeld rfl ?_
    try simp only [Act.put, zv2, zv3, zv4]
    refine zd 1 107 (.pointer (some ⟨sb, 0, none⟩)) hHeld rfl ?_
    try simp only [Act.put, zv2, zv3, zv4]
    refine zd 2 108 (.pointer (some ⟨sb, 2, none⟩)) hHeld rfl ?_
    try simp only [Act.put, zv2, zv3, zv4]
    refine zd 4 110 (.pointer (some ⟨sb, 0, none⟩)) hHeld rfl ?_
    try simp only [Act.put, zv2, zv3, zv4]
    refine zd 5 111 (.pointer (some ⟨sb, 0, none⟩)) hHeld rfl ?_
    try simp only [Act.put, zv2, zv3, zv4]
    refine zd 6 112 (.pointer (some ⟨sb, 0, none⟩)) hHeld rfl ?_
    try simp only [Act.put, zv2, zv3, zv4]
    refine zd 7 113 (.string t) hHeld rfl ?_
    try simp only [Act.put, zv2, zv3, zv4]
    refine zd 8 114 (.pointer (some ⟨sb, 0, none⟩)) hHeld rfl ?_
    try simp only [Act.put, zv2, zv3, zv4]
    refine zd 9 115 (.pointer (some ⟨sb, 0, none⟩)) hHeld rfl ?_
    try simp only [Act.put, zv2, zv3, zv4]
    refine zd 10 116 (.pointer (some ⟨sb, 2, none⟩)) hHeld rfl ?_
    try simp only [Act.put, zv2, zv3, zv4]
    refine wpAnyH_ready (rs := [3, 11]) (by kernel_rfl) (by simp) ?_
    refine AllReadyH.cons (o := { dst := some 109, op := _, type := _, pos := _, after := _, guard := _ }) rfl (fun K hK => ?_) (AllReadyH.cons (o := { dst := some 117, op := _, type := _, pos := _, after := _, guard := _ }) rfl (fun K hK => ?_) AllReadyH.nil)
    · go_simp
      clear hHeld
      refine hK.out _ _ (c0) (fun hHeld => ?_)
      clear hK K
      try simp only [Act.put, zv2, zv3, zv4]
      refine wpAnyH_ready (rs := [11]) (by kernel_rfl) (by simp) ?_
      refine AllReadyH.cons (o := { dst := some 117, op := _, type := _, pos := _, after := _, guard := _ }) rfl (fun K hK => ?_) AllReadyH.nil
      go_simp
      clear hHeld
      refine hK.out _ _ (c0) (fun hHeld => ?_)
      clear hK K
      try simp only [Act.put, zv2, zv3, zv4]
      refine zd 12 118 (.string (t.extract i t.size)) hHeld rfl ?_
      try simp only [Act.put, zv2, zv3, zv4]
      refine wpAnyH_ready (rs := [13]) (by kernel_rfl) (by simp) ?_
      refine AllReadyH.cons (o := { dst := some 119, op := _, type := _, pos := _, after := _, guard := _ }) rfl (fun K hK => ?_) AllReadyH.nil
      go_simp
      go_at_call 68
      refine (zd8 t i _ his MV.out).mono ?_
      rintro e wk ⟨rfl, rfl⟩
      clear hHeld
      refine hK.out _ _ (c0) (fun hHeld => ?_)
      clear hK K
      try simp only [Act.put, zv2, zv3, zv4]
      refine wpAnyH_take (i := 14) (oi := { dst := some 120, op := _, type := _, pos := _, after := _, guard := _ }) (v := .int .i64 ((i : Int) + (zag t i : Int))) rfl (by kernel_rfl) (by kernel_rfl) (by kernel_rfl) (fun _ _ _ h => h) (Or.inl ⟨by kernel_rfl, ?_⟩) hHeld ?_
      · intro w hSw
        (try dsimp only at hSw)
        go_simp
        exact IntWalk.i64_in _ ⟨by omega, by omega⟩
      try simp only [Act.put, zv2, zv3, zv4]
      refine zd 15 121 (.pointer (some ⟨sb, 0, none⟩)) hHeld rfl ?_
      try simp only [Act.put, zv2, zv3, zv4]
      refine zd 16 122 (.pointer (some ⟨sb, 2, none⟩)) hHeld rfl ?_
      try simp only [Act.put, zv2, zv3, zv4]
      refine wpAnyH_ready (rs := [17]) (by kernel_rfl) (by simp) ?_
      refine AllReadyH.cons (o := { dst := none, op := _, type := _, pos := _, after := _, guard := _ }) rfl (fun K hK => ?_) AllReadyH.nil
      go_simp
      clear hHeld
      refine hK.out _ _ (c0s) (fun hHeld => ?_)
      clear hK K
      try simp only [Act.put, zv2, zv3, zv4]
      refine wpAnyH_done (by kernel_rfl) ?_ _
      obtain ⟨w1, hw1⟩ : ∃ V, V = w0.setCell ⟨sb, 2, none⟩ (.int .i64 ((i : Int) + (zag t i : Int))) := ⟨_, rfl⟩
      have H1 : Hid (ScW t sb w w1 i (i + zag t i) va vc acc) := by show ScW t sb w w1 i (i + zag t i) va vc acc; rw [hw1, show (i : Int) + (zag t i : Int) = ((i + zag t i : Nat) : Int) from by omega]; exact HH.out.setAt (i + zag t i)
      rw [<- hw1]
      clear hw1 HH c0 c0s c1 c2 c3 f2 hl0 hHeld MV
      have hl1 := H1.out.s.lt
      obtain ⟨c0, c1, c2, c3⟩ := H1.out.s.cells
      go_wp2_with fail
      cases hmk : zbo t i with
      | none =>
        have hn : zag t i = 0 := by unfold zag; rw [hmk]
        rw [hn, Nat.add_zero] at H1 c2
        have HB : Hid (((2 : Int), i, ([] : List za)) = R) := by
         have hT := HTT.out
         rw [hmk] at hT
         rw [hT] at HTB
         exact HTB.out (by simp)
        have ee : ((i : Int) == (i : Int)) = true := by simp
        clear HTK HTB HTT
        go_quiet (fail)
        go_wp2_with fail
        (try simp only [Exit.inBlock, Exit.then, za8])
        go_ret
        exact ⟨by rw [<- HB.out]; rfl, i, i, va, vc, acc, H1.out.drewN _, fun h0 => absurd h0 (by rw [<- HB.out]; simp), fun _ => by rw [<- HB.out]; exact ⟨rfl, rfl⟩⟩
      | some m =>
        obtain ⟨q1, q2, q3⟩ := zc9 hmk
        have q4 := zc5 m q3
        have hn : zag t i = m.size := by unfold zag; rw [hmk]
        obtain ⟨E, hE⟩ : ∃ E, E = i + m.size := ⟨_, rfl⟩
        rw [hn, <- hE] at H1 c2
        have hEs : E <= t.size := by omega
        have hgt : i < E := by omega
        have HQ : Hid (zab t E (acc ++ [⟨5, i, t.extract i E, 0⟩]) = R) := by
         have hT := HTT.out
         rw [hmk] at hT
         rw [hT] at HTK
         have := HTK.out rfl
         simp only at this
         show zab t E (acc ++ [⟨5, i, t.extract i E, 0⟩]) = R
         rw [hE, q2]
         exact this
        have ee : ((E : Int) == (i : Int)) = false := by simp; omega
        clear HTK HTB HTT q1 q2 q3 hE hn hmk
        go_quiet (fail)
        obtain ⟨w2, hw2⟩ : ∃ V, V = w1.drewN nq := ⟨_, rfl⟩
        have H2 : Hid (ScW t sb w w2 i E va vc acc) := by show ScW t sb w w2 i E va vc acc; rw [hw2]; exact H1.out.drewN _
        rw [<- hw2]
        clear hw2 H1 c0 c1 c2 c3 hl1
        go_wp2_with fail
        refine (zbd sb t i E _ _ ht H2.out.s (by omega) hEs).mono ?_
        rintro e w3 ⟨rfl, b⟩
        have H3 : Hid (ScW t sb w w3 i E va vc acc) := H2.out.read b
        clear b H2
        go_wp2_with fail
        refine (zek sb t i E va vc acc 5 (t.extract i E) (0) _ (by first | (rw [ByteArray.size_extract]; omega) | omega) (by omega) H3.out.s H3.out.k).mono ?_
        rintro e w9 ⟨rfl, v', s9, k9, b9⟩
        obtain ⟨va9, vc9, rfl⟩ := k9.form
        have H9 : Hid (ScW t sb w w9 i E va9 vc9 (acc ++ [⟨5, i, t.extract i E, 0⟩])) := ⟨s9, k9, H3.out.b.trans b9⟩
        have hl9 := s9.lt
        clear s9 k9 b9 H3
        go_wp2_with fail
        go_step3
        (try simp only [Exit.inBlock, Exit.then, za8])
        exact ⟨2 * (t.size - E) + 1, by omega, zaz rfl rfl, E, i, va9, vc9, (acc ++ [⟨5, i, t.extract i E, 0⟩]), H9.out, by first | omega | (simp; omega), by omega, HQ.out, .inl ⟨rfl, rfl⟩⟩
    · go_simp
      clear hHeld
      refine hK.out _ _ (c0) (fun hHeld => ?_)
      clear hK K
      try simp only [Act.put, zv2, zv3, zv4]
      refine zd 12 118 (.string (t.extract i t.size)) hHeld rfl ?_
      try simp only [Act.put, zv2, zv3, zv4]
      refine wpAnyH_ready (rs := [3, 13]) (by kernel_rfl) (by simp) ?_
      refine AllReadyH.cons (o := { dst := some 109, op := _, type := _, pos := _, after := _, guard := _ }) rfl (fun K hK => ?_) (AllReadyH.cons (o := { dst := some 119, op := _, type := _, pos := _, after := _, guard := _ }) rfl (fun K hK => ?_) AllReadyH.nil)
      · go_simp
        clear hHeld
        refine hK.out _ _ (c0) (fun hHeld => ?_)
        clear hK K
        try simp only [Act.put, zv2, zv3, zv4]
        refine wpAnyH_ready (rs := [13]) (by kernel_rfl) (by simp) ?_
        refine AllReadyH.cons (o := { dst := some 119, op := _, type := _, pos := _, after := _, guard := _ }) rfl (fun K hK => ?_) AllReadyH.nil
        go_simp
        go_at_call 68
        refine (zd8 t i _ his MV.out).mono ?_
        rintro e wk ⟨rfl, rfl⟩
        clear hHeld
        refine hK.out _ _ (c0) (fun hHeld => ?_)
        clear hK K
        try simp only [Act.put, zv2, zv3, zv4]
        refine wpAnyH_take (i := 14) (oi := { dst := some 120, op := _, type := _, pos := _, after := _, guard := _ }) (v := .int .i64 ((i : Int) + (zag t i : Int))) rfl (by kernel_rfl) (by kernel_rfl) (by kernel_rfl) (fun _ _ _ h => h) (Or.inl ⟨by kernel_rfl, ?_⟩) hHeld ?_
        · intro w hSw
          (try dsimp only at hSw)
          go_simp
          exact IntWalk.i64_in _ ⟨by omega, by omega⟩
        try simp only [Act.put, zv2, zv3, zv4]
        refine zd 15 121 (.pointer (some ⟨sb, 0, none⟩)) hHeld rfl ?_
        try simp only [Act.put, zv2, zv3, zv4]
        refine zd 16 122 (.pointer (some ⟨sb, 2, none⟩)) hHeld rfl ?_
        try simp only [Act.put, zv2, zv3, zv4]
        refine wpAnyH_ready (rs := [17]) (by kernel_rfl) (by simp) ?_
        refine AllReadyH.cons (o := { dst := none, op := _, type := _, pos := _, after := _, guard := _ }) rfl (fun K hK => ?_) AllReadyH.nil
        go_simp
        clear hHeld
        refine hK.out _ _ (c0s) (fun hHeld => ?_)
        clear hK K
        try simp only [Act.put, zv2, zv3, zv4]
        refine wpAnyH_done (by kernel_rfl) ?_ _
        obtain ⟨w1, hw1⟩ : ∃ V, V = w0.setCell ⟨sb, 2, none⟩ (.int .i64 ((i : Int) + (zag t i : Int))) := ⟨_, rfl⟩
        have H1 : Hid (ScW t sb w w1 i (i + zag t i) va vc acc) := by show ScW t sb w w1 i (i + zag t i) va vc acc; rw [hw1, show (i : Int) + (zag t i : Int) = ((i + zag t i : Nat) : Int) from by omega]; exact HH.out.setAt (i + zag t i)
        rw [<- hw1]
        clear hw1 HH c0 c0s c1 c2 c3 f2 hl0 hHeld MV
        have hl1 := H1.out.s.lt
        obtain ⟨c0, c1, c2, c3⟩ := H1.out.s.cells
        go_wp2_with fail
        cases hmk : zbo t i with
        | none =>
          have hn : zag t i = 0 := by unfold zag; rw [hmk]
          rw [hn, Nat.add_zero] at H1 c2
          have HB : Hid (((2 : Int), i, ([] : List za)) = R) := by
           have hT := HTT.out
           rw [hmk] at hT
           rw [hT] at HTB
           exact HTB.out (by simp)
          have ee : ((i : Int) == (i : Int)) = true := by simp
          clear HTK HTB HTT
          go_quiet (fail)
          go_wp2_with fail
          (try simp only [Exit.inBlock, Exit.then, za8])
          go_ret
          exact ⟨by rw [<- HB.out]; rfl, i, i, va, vc, acc, H1.out.drewN _, fun h0 => absurd h0 (by rw [<- HB.out]; simp), fun _ => by rw [<- HB.out]; exact ⟨rfl, rfl⟩⟩
        | some m =>
          obtain ⟨q1, q2, q3⟩ := zc9 hmk
          have q4 := zc5 m q3
          have hn : zag t i = m.size := by unfold zag; rw [hmk]
          obtain ⟨E, hE⟩ : ∃ E, E = i + m.size := ⟨_, rfl⟩
          rw [hn, <- hE] at H1 c2
          have hEs : E <= t.size := by omega
          have hgt : i < E := by omega
          have HQ : Hid (zab t E (acc ++ [⟨5, i, t.extract i E, 0⟩]) = R) := by
           have hT := HTT.out
           rw [hmk] at hT
           rw [hT] at HTK
           have := HTK.out rfl
           simp only at this
           show zab t E (acc ++ [⟨5, i, t.extract i E, 0⟩]) = R
           rw [hE, q2]
           exact this
          have ee : ((E : Int) == (i : Int)) = false := by simp; omega
          clear HTK HTB HTT q1 q2 q3 hE hn hmk
          go_quiet (fail)
          obtain ⟨w2, hw2⟩ : ∃ V, V = w1.drewN nq := ⟨_, rfl⟩
          have H2 : Hid (ScW t sb w w2 i E va vc acc) := by show ScW t sb w w2 i E va vc acc; rw [hw2]; exact H1.out.drewN _
          rw [<- hw2]
          clear hw2 H1 c0 c1 c2 c3 hl1
          go_wp2_with fail
          refine (zbd sb t i E _ _ ht H2.out.s (by omega) hEs).mono ?_
          rintro e w3 ⟨rfl, b⟩
          have H3 : Hid (ScW t sb w w3 i E va vc acc) := H2.out.read b
          clear b H2
          go_wp2_with fail
          refine (zek sb t i E va vc acc 5 (t.extract i E) (0) _ (by first | (rw [ByteArray.size_extract]; omega) | omega) (by omega) H3.out.s H3.out.k).mono ?_
          rintro e w9 ⟨rfl, v', s9, k9, b9⟩
          obtain ⟨va9, vc9, rfl⟩ := k9.form
          have H9 : Hid (ScW t sb w w9 i E va9 vc9 (acc ++ [⟨5, i, t.extract i E, 0⟩])) := ⟨s9, k9, H3.out.b.trans b9⟩
          have hl9 := s9.lt
          clear s9 k9 b9 H3
          go_wp2_with fail
          go_step3
          (try simp only [Exit.inBlock, Exit.then, za8])
          exact ⟨2 * (t.size - E) + 1, by omega, zaz rfl rfl, E, i, va9, vc9, (acc ++ [⟨5, i, t.extract i E, 0⟩]), H9.out, by first | omega | (simp; omega), by omega, HQ.out, .inl ⟨rfl, rfl⟩⟩
      · go_simp
        go_at_call 68
        refine (zd8 t i _ his MV.out).mono ?_
        rintro e wk ⟨rfl, rfl⟩
        clear hHeld
        refine hK.out _ _ (c0) (fun hHeld => ?_)
        clear hK K
        try simp only [Act.put, zv2, zv3, zv4]
        refine wpAnyH_ready (rs := [3]) (by kernel_rfl) (by simp) ?_
        refine AllReadyH.cons (o := { dst := some 109, op := _, type := _, pos := _, after := _, guard := _ }) rfl (fun K hK => ?_) AllReadyH.nil
        go_simp
        clear hHeld
        refine hK.out _ _ (c0) (fun hHeld => ?_)
        clear hK K
        try simp only [Act.put, zv2, zv3, zv4]
        refine wpAnyH_take (i := 14) (oi := { dst := some 120, op := _, type := _, pos := _, after := _, guard := _ }) (v := .int .i64 ((i : Int) + (zag t i : Int))) rfl (by kernel_rfl) (by kernel_rfl) (by kernel_rfl) (fun _ _ _ h => h) (Or.inl ⟨by kernel_rfl, ?_⟩) hHeld ?_
        · intro w hSw
          (try dsimp only at hSw)
          go_simp
          exact IntWalk.i64_in _ ⟨by omega, by omega⟩
        try simp only [Act.put, zv2, zv3, zv4]
        refine zd 15 121 (.pointer (some ⟨sb, 0, none⟩)) hHeld rfl ?_
        try simp only [Act.put, zv2, zv3, zv4]
        refine zd 16 122 (.pointer (some ⟨sb, 2, none⟩)) hHeld rfl ?_
        try simp only [Act.put, zv2, zv3, zv4]
        refine wpAnyH_ready (rs := [17]) (by kernel_rfl) (by simp) ?_
        refine AllReadyH.cons (o := { dst := none, op := _, type := _, pos := _, after := _, guard := _ }) rfl (fun K hK => ?_) AllReadyH.nil
        go_simp
        clear hHeld
        refine hK.out _ _ (c0s) (fun hHeld => ?_)
        clear hK K
        try simp only [Act.put, zv2, zv3, zv4]
        refine wpAnyH_done (by kernel_rfl) ?_ _
        obtain ⟨w1, hw1⟩ : ∃ V, V = w0.setCell ⟨sb, 2, none⟩ (.int .i64 ((i : Int) + (zag t i : Int))) := ⟨_, rfl⟩
        have H1 : Hid (ScW t sb w w1 i (i + zag t i) va vc acc) := by show ScW t sb w w1 i (i + zag t i) va vc acc; rw [hw1, show (i : Int) + (zag t i : Int) = ((i + zag t i : Nat) : Int) from by omega]; exact HH.out.setAt (i + zag t i)
        rw [<- hw1]
        clear hw1 HH c0 c0s c1 c2 c3 f2 hl0 hHeld MV
        have hl1 := H1.out.s.lt
        obtain ⟨c0, c1, c2, c3⟩ := H1.out.s.cells
        go_wp2_with fail
        cases hmk : zbo t i with
        | none =>
          have hn : zag t i = 0 := by unfold zag; rw [hmk]
          rw [hn, Nat.add_zero] at H1 c2
          have HB : Hid (((2 : Int), i, ([] : List za)) = R) := by
           have hT := HTT.out
           rw [hmk] at hT
           rw [hT] at HTB
           exact HTB.out (by simp)
          have ee : ((i : Int) == (i : Int)) = true := by simp
          clear HTK HTB HTT
          go_quiet (fail)
          go_wp2_with fail
          (try simp only [Exit.inBlock, Exit.then, za8])
          go_ret
          exact ⟨by rw [<- HB.out]; rfl, i, i, va, vc, acc, H1.out.drewN _, fun h0 => absurd h0 (by rw [<- HB.out]; simp), fun _ => by rw [<- HB.out]; exact ⟨rfl, rfl⟩⟩
        | some m =>
          obtain ⟨q1, q2, q3⟩ := zc9 hmk
          have q4 := zc5 m q3
          have hn : zag t i = m.size := by unfold zag; rw [hmk]
          obtain ⟨E, hE⟩ : ∃ E, E = i + m.size := ⟨_, rfl⟩
          rw [hn, <- hE] at H1 c2
          have hEs : E <= t.size := by omega
          have hgt : i < E := by omega
          have HQ : Hid (zab t E (acc ++ [⟨5, i, t.extract i E, 0⟩]) = R) := by
           have hT := HTT.out
           rw [hmk] at hT
           rw [hT] at HTK
           have := HTK.out rfl
           simp only at this
           show zab t E (acc ++ [⟨5, i, t.extract i E, 0⟩]) = R
           rw [hE, q2]
           exact this
          have ee : ((E : Int) == (i : Int)) = false := by simp; omega
          clear HTK HTB HTT q1 q2 q3 hE hn hmk
          go_quiet (fail)
          obtain ⟨w2, hw2⟩ : ∃ V, V = w1.drewN nq := ⟨_, rfl⟩
          have H2 : Hid (ScW t sb w w2 i E va vc acc) := by show ScW t sb w w2 i E va vc acc; rw [hw2]; exact H1.out.drewN _
          rw [<- hw2]
          clear hw2 H1 c0 c1 c2 c3 hl1
          go_wp2_with fail
          refine (zbd sb t i E _ _ ht H2.out.s (by omega) hEs).mono ?_
          rintro e w3 ⟨rfl, b⟩
          have H3 : Hid (ScW t sb w w3 i E va vc acc) := H2.out.read b
          clear b H2
          go_wp2_with fail
          refine (zek sb t i E va vc acc 5 (t.extract i E) (0) _ (by first | (rw [ByteArray.size_extract]; omega) | omega) (by omega) H3.out.s H3.out.k).mono ?_
          rintro e w9 ⟨rfl, v', s9, k9, b9⟩
          obtain ⟨va9, vc9, rfl⟩ := k9.form
          have H9 : Hid (ScW t sb w w9 i E va9 vc9 (acc ++ [⟨5, i, t.extract i E, 0⟩])) := ⟨s9, k9, H3.out.b.trans b9⟩
          have hl9 := s9.lt
          clear s9 k9 b9 H3
          go_wp2_with fail
          go_step3
          (try simp only [Exit.inBlock, Exit.then, za8])
          exact ⟨2 * (t.size - E) + 1, by omega, zaz rfl rfl, E, i, va9, vc9, (acc ++ [⟨5, i, t.extract i E, 0⟩]), H9.out, by first | omega | (simp; omega), by omega, HQ.out, .inl ⟨rfl, rfl⟩⟩
  · exact hc.elim
end Go.Proofs.YtiglkhkfbgjjoaaGreatDoor
