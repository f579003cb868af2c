/- 'laws.FnExactPutVal' holds at every input: impl.PutVal answers as the model's PutVal at every slice of words, every place and every value; it writes into no argument, and its answer owns its memory. No condition. -/
import Derived.Test.YthoncomjemknnaaRows
import Derived.Test.YthoncomjemknnaaMarkA
import Derived.WalkKit
import Derived.WalkSpells
import Derived.WalkLawsBesides
import Derived.ProofKit
import Derived.OpenShut
import Derived.ShutString
import Derived.ChangeOld
import Derived.Below
import Derived.Outline
import Derived.Lib.SmallJoins
import Derived.Deep.CutRange
import Derived.Deep.RegionWith
namespace Go.Proofs.Ythoncomjemknnaa
set_option maxRecDepth 20000
open Go.ChangeShapes Go.WideShapes Go.ChangeAt Go.RowKit Go.Joins
set_option linter.unusedVariables false
set_option maxHeartbeats 4000000 in
theorem fnExactPutVal_t (v : Value) (ys : List Int) (i t m : Int) (w : World) (hs : Sl w v ys) (hn : ys.length ≤ 1048576) (hg : putV ys.length i t m = true) :
    Calls Try.prog 4 #[v, .int .i64 i, .agg #[.int .i64 t, .int .i64 m]] w fun e w' => e = .returned (.bool true) ∧ Below w.heap.size w w' := by
  have hs0 : ∀ W, Below (w.alloc (.cells #[.int .i64 t, .int .i64 m] 35)).heap.size (w.alloc (.cells #[.int .i64 t, .int .i64 m] 35)) W → Sl W v ys := fun W h => (hs.below ((Below.refl _ _).alloc (Nat.le_refl _) _)).below h
  obtain ⟨a0, cap0, rfl⟩ := hs.head
  have hn' : ¬ (1048576 : Int) < (ys.length : Int) := by omega
  have hnr : ((put2 ys i t m)).length ≤ 1048576 := by rw [put2_length]; exact hn
  have hk1 : ¬ (1 + (ys.length : Int)) < 0 := by omega
  have hk2 : ¬ (1 + (((put2 ys i t m)).length : Int)) < 0 := by omega
  go_enter Try.func4, Try.ntmps4
  go_upto_region 3 with fail
  go_cut [7, 8] from 20 to 28 (fun s7 s8 wc => Sl wc s7 (put2 ys i t m) ∧ s8 = .bool true ∧ Below (w.alloc (.cells #[.int .i64 t, .int .i64 m] 35)).heap.size (w.alloc (.cells #[.int .i64 t, .int .i64 m] 35)) wc)
  case first =>
    go_region_with (first | (go_at_call 11; refine (toUint64S_any _ ys _ (hs0 _ (by first | exact Below.refl _ _ | exact (Below.refl _ _).drew | assumption)) hn).mono ?_; rintro e w' ⟨v', rfl, o', hb⟩; have S1 := o'.sl; have hB := below_next (w := (w.alloc (.cells #[.int .i64 t, .int .i64 m] 35))) (by first | exact Below.refl _ _ | exact (Below.refl _ _).drew | assumption) hb; obtain ⟨hc, hf⟩ := bcell hB) | (go_at_call 12; refine (toVal_any _ _ _).mono ?_; rintro e w' ⟨rfl, hb⟩; try (have S1 := S1.below hb); have hB := below_next (w := (w.alloc (.cells #[.int .i64 t, .int .i64 m] 35))) (by first | exact Below.refl _ _ | exact (Below.refl _ _).drew | assumption) hb; obtain ⟨hc, hf⟩ := bcell hB) | (go_at_call 8; refine (specPutVal_t _ ys _ _ _ _ S1 hn hg).mono ?_; rintro e w' ⟨v', rfl, o', hb⟩; have S3 := o'.sl; have hB := below_next (w := (w.alloc (.cells #[.int .i64 t, .int .i64 m] 35))) (by assumption) hb))
    all_goals (go_wp2_with fail; go_meet; exact ⟨S3, rfl, hB⟩)
  case rest =>
  obtain ⟨S7, rfl, B7⟩ := hcut
  have T7 := S7.t
  clear S7
  go_wp2_with fail
  refine (toUint64S_any _ ys _ (hs0 _ B7) hn).mono ?_
  rintro e w9 ⟨x0, rfl, ox, b9⟩
  have B9 := below_next B7 b9
  obtain ⟨c9, f9⟩ := bcell B9
  have OX := ox.within
  have T9 := T7.below b9 (Nat.le_refl _)
  go_wp2_with fail
  refine (toVal_any _ _ _).mono ?_
  rintro e w10 ⟨rfl, b10⟩
  have B10 := below_next B9 b10
  have OX10 := OX.below b10 (Nat.le_refl _)
  have T10 := T9.below b10 b9.size
  go_wp2_with fail
  refine (implPutVal_t _ ys _ _ _ _ OX10.own.sl hn hg).mono ?_
  rintro e w11 ⟨g0, rfl, og, b11⟩
  have B11 := below_next B10 b11
  have OG := og.within
  have OX11 := OX10.below b11 b10.size
  have T11 := T10.below b11 (Nat.le_trans b9.size b10.size)
  go_wp2_with fail
  refine (eqUint64S_same _ _ (put2 ys i t m) _ OG.own.sl T11.sl hnr).mono ?_
  rintro e w12 ⟨rfl, b12⟩
  have B12 := below_next B11 b12
  have OG12 := OG.below b12 (Nat.le_refl _)
  have OX12 := OX11.below b12 (Nat.le_trans b10.size b11.size)
  have T12 := T11.below b12 (Nat.le_trans b9.size (Nat.le_trans b10.size b11.size))
  go_wp2_with fail
  refine (toUint64S_any _ ys _ (hs0 _ B12) hn).mono ?_
  rintro e w13 ⟨v13, rfl, o13, b13⟩
  have B13 := below_next B12 b13
  have OG13 := OG12.below b13 b12.size
  have OX13 := OX12.below b13 (Nat.le_trans (Nat.le_trans b10.size b11.size) b12.size)
  have T13 := T12.below b13 (Nat.le_trans (Nat.le_trans b9.size (Nat.le_trans b10.size b11.size)) b12.size)
  go_wp2_with fail
  refine (eqUint64S_same _ _ ys _ OX13.own.sl o13.sl hn).mono ?_
  rintro e w14 ⟨rfl, b14⟩
  have B14 := below_next B13 b14
  have OG14 := OG13.below b14 (Nat.le_trans b12.size b13.size)
  have OX14 := OX13.below b14 (Nat.le_trans (Nat.le_trans (Nat.le_trans b10.size b11.size) b12.size) b13.size)
  have T14 := T13.below b14 (Nat.le_trans (Nat.le_trans (Nat.le_trans b9.size (Nat.le_trans b10.size b11.size)) b12.size) b13.size)
  clear T7 T9 T10 T11 T12 T13 OX OX10 OX11 OX12 OX13 OG OG12 OG13 o13 og ox
  go_wp2_with fail
  refine (mark2_any _ _ _ ys _ OX14 hn).mono ?_
  rintro e w15 ⟨rfl, OX15, U15⟩
  have B15 := B14.trans (U15.below B7.size)
  have OG15 := OG14.outside U15 b10.size
  have T15 := T14.below (U15.below (Nat.le_refl _)) (Nat.le_refl _)
  clear OX14 OX15 OG14 T14
  go_wp2_with fail
  refine (eqUint64S_same _ _ (put2 ys i t m) _ OG15.own.sl T15.sl hnr).mono ?_
  rintro e w16 ⟨rfl, b16⟩
  have B16 := below_next B15 b16
  have OG16 := OG15.below b16 (Nat.le_trans (Nat.le_trans (Nat.le_trans b12.size b13.size) b14.size) U15.size)
  have T16 := T15.below b16 (Nat.le_trans (Nat.le_trans (Nat.le_trans (Nat.le_trans (Nat.le_trans b9.size (Nat.le_trans b10.size b11.size)) b12.size) b13.size) b14.size) U15.size)
  clear OG15 T15
  go_wp2_with fail
  refine (mark2_any _ _ _ (put2 ys i t m) _ OG16 hnr).mono ?_
  rintro e w17 ⟨rfl, OG17, U17⟩
  have B17 := B16.trans (U17.below (Nat.le_trans B7.size (Nat.le_trans b9.size b10.size)))
  have T17 := T16.below (U17.below (Nat.le_trans b9.size b10.size)) (Nat.le_refl _)
  clear OG16 T16
  go_wp2_with fail
  refine (heldUint64S_any _ ((put2 ys i t m)).length _ OG17.own.sl hnr).mono ?_
  rintro e w18 ⟨rfl, b18⟩
  have z18 := size_first (below_next B17 b18)
  have B18 := below_next B17 b18
  obtain ⟨c18, f18⟩ := bcell B18
  have OG18 := OG17.own.sl.below b18
  have T18 := (T17.below b18 (Nat.le_trans (Nat.le_trans (Nat.le_trans (Nat.le_trans (Nat.le_trans (Nat.le_trans (Nat.le_trans b9.size (Nat.le_trans b10.size b11.size)) b12.size) b13.size) b14.size) U15.size) b16.size) U17.size)).sl
  have hs18 : ∀ W, Below w18.heap.size w18 W → Sl W (.slice a0 ys.length cap0) ys := fun W h => (hs0 _ B18).below h
  clear OG17 T17 c9 f9
  go_upto_region 22 with fail
  go_cut [15, 16] from 80 to 88 (fun s15 s16 wc => Sl wc s15 (put2 ys i t m) ∧ s16 = .bool true ∧ Below w18.heap.size w18 wc)
  case first =>
    go_region_with (first | (go_at_call 11; refine (toUint64S_any _ ys _ (hs18 _ (by first | exact Below.refl _ _ | exact (Below.refl _ _).drew | assumption)) hn).mono ?_; rintro e w' ⟨v', rfl, o', hb⟩; have S1 := o'.sl; have hB := below_next (w := w18) (by first | exact Below.refl _ _ | exact (Below.refl _ _).drew | assumption) hb; obtain ⟨hc, hf⟩ := bcell hB) | (go_at_call 12; refine (toVal_any _ _ _).mono ?_; rintro e w' ⟨rfl, hb⟩; try (have S1 := S1.below hb); have hB := below_next (w := w18) (by first | exact Below.refl _ _ | exact (Below.refl _ _).drew | assumption) hb; obtain ⟨hc, hf⟩ := bcell hB) | (go_at_call 7; refine (implPutVal_t _ ys _ _ _ _ S1 hn hg).mono ?_; rintro e w' ⟨v', rfl, o', hb⟩; have S3 := o'.sl; have hB := below_next (w := w18) (by assumption) hb))
    all_goals (go_wp2_with fail; go_meet; exact ⟨S3, rfl, hB⟩)
  case rest =>
  obtain ⟨S15, rfl, b19⟩ := hcut
  have B19 := below_next B18 b19
  have T19 := T18.below b19
  have OG19 := OG18.below b19
  go_wp2_with fail
  refine (eqUint64S_same _ _ (put2 ys i t m) _ S15 T19 hnr).mono ?_
  rintro e w20 ⟨rfl, b20⟩
  have B20 := below_next B19 b20
  have OG20 := OG19.below b20
  go_wp2_with fail
  refine (heldUint64S_any _ ((put2 ys i t m)).length _ OG20 hnr).mono ?_
  rintro e w21 ⟨rfl, b21⟩
  have B21 := below_next B20 b21
  go_wp2
  go_ret
  exact ⟨rfl, below_first B21⟩

set_option maxHeartbeats 4000000 in
theorem fnExactPutVal_f (v : Value) (ys : List Int) (i t m : Int) (w : World) (hs : Sl w v ys) (hn : ys.length ≤ 1048576) (hg : putV ys.length i t m = false) :
    Calls Try.prog 4 #[v, .int .i64 i, .agg #[.int .i64 t, .int .i64 m]] w fun e w' => e = .returned (.bool true) ∧ Below w.heap.size w w' := by
  have hs0 : ∀ W, Below (w.alloc (.cells #[.int .i64 t, .int .i64 m] 35)).heap.size (w.alloc (.cells #[.int .i64 t, .int .i64 m] 35)) W → Sl W v ys := fun W h => (hs.below ((Below.refl _ _).alloc (Nat.le_refl _) _)).below h
  obtain ⟨a0, cap0, rfl⟩ := hs.head
  have hn' : ¬ (1048576 : Int) < (ys.length : Int) := by omega
  have hnr : (ys).length ≤ 1048576 := hn
  have hk1 : ¬ (1 + (ys.length : Int)) < 0 := by omega
  have hk2 : ¬ (1 + ((ys).length : Int)) < 0 := by omega
  go_enter Try.func4, Try.ntmps4
  go_upto_region 3 with fail
  go_cut [7, 8] from 20 to 28 (fun s7 s8 wc => Sl wc s7 ys ∧ s8 = .bool false ∧ Below (w.alloc (.cells #[.int .i64 t, .int .i64 m] 35)).heap.size (w.alloc (.cells #[.int .i64 t, .int .i64 m] 35)) wc)
  case first =>
    go_region_with (first | (go_at_call 11; refine (toUint64S_any _ ys _ (hs0 _ (by first | exact Below.refl _ _ | exact (Below.refl _ _).drew | assumption)) hn).mono ?_; rintro e w' ⟨v', rfl, o', hb⟩; have S1 := o'.sl; have hB := below_next (w := (w.alloc (.cells #[.int .i64 t, .int .i64 m] 35))) (by first | exact Below.refl _ _ | exact (Below.refl _ _).drew | assumption) hb; obtain ⟨hc, hf⟩ := bcell hB) | (go_at_call 12; refine (toVal_any _ _ _).mono ?_; rintro e w' ⟨rfl, hb⟩; try (have S1 := S1.below hb); have hB := below_next (w := (w.alloc (.cells #[.int .i64 t, .int .i64 m] 35))) (by first | exact Below.refl _ _ | exact (Below.refl _ _).drew | assumption) hb; obtain ⟨hc, hf⟩ := bcell hB) | (go_at_call 8; refine (specPutVal_f _ ys _ _ _ _ S1 hn hg).mono ?_; rintro e w' ⟨v', rfl, o', hb⟩; have S3 := o'.sl; have hB := below_next (w := (w.alloc (.cells #[.int .i64 t, .int .i64 m] 35))) (by assumption) hb))
    all_goals (go_wp2_with fail; go_meet; exact ⟨S3, rfl, hB⟩)
  case rest =>
  obtain ⟨S7, rfl, B7⟩ := hcut
  have T7 := S7.t
  clear S7
  go_wp2_with fail
  refine (toUint64S_any _ ys _ (hs0 _ B7) hn).mono ?_
  rintro e w9 ⟨x0, rfl, ox, b9⟩
  have B9 := below_next B7 b9
  obtain ⟨c9, f9⟩ := bcell B9
  have OX := ox.within
  have T9 := T7.below b9 (Nat.le_refl _)
  go_wp2_with fail
  refine (toVal_any _ _ _).mono ?_
  rintro e w10 ⟨rfl, b10⟩
  have B10 := below_next B9 b10
  have OX10 := OX.below b10 (Nat.le_refl _)
  have T10 := T9.below b10 b9.size
  go_wp2_with fail
  refine (implPutVal_f _ ys _ _ _ _ OX10.own.sl hn hg).mono ?_
  rintro e w11 ⟨g0, rfl, og, b11⟩
  have B11 := below_next B10 b11
  have OG := og.within
  have OX11 := OX10.below b11 b10.size
  have T11 := T10.below b11 (Nat.le_trans b9.size b10.size)
  go_wp2_with fail
  refine (eqUint64S_same _ _ ys _ OG.own.sl T11.sl hnr).mono ?_
  rintro e w12 ⟨rfl, b12⟩
  have B12 := below_next B11 b12
  have OG12 := OG.below b12 (Nat.le_refl _)
  have OX12 := OX11.below b12 (Nat.le_trans b10.size b11.size)
  have T12 := T11.below b12 (Nat.le_trans b9.size (Nat.le_trans b10.size b11.size))
  go_wp2_with fail
  refine (toUint64S_any _ ys _ (hs0 _ B12) hn).mono ?_
  rintro e w13 ⟨v13, rfl, o13, b13⟩
  have B13 := below_next B12 b13
  have OG13 := OG12.below b13 b12.size
  have OX13 := OX12.below b13 (Nat.le_trans (Nat.le_trans b10.size b11.size) b12.size)
  have T13 := T12.below b13 (Nat.le_trans (Nat.le_trans b9.size (Nat.le_trans b10.size b11.size)) b12.size)
  go_wp2_with fail
  refine (eqUint64S_same _ _ ys _ OX13.own.sl o13.sl hn).mono ?_
  rintro e w14 ⟨rfl, b14⟩
  have B14 := below_next B13 b14
  have OG14 := OG13.below b14 (Nat.le_trans b12.size b13.size)
  have OX14 := OX13.below b14 (Nat.le_trans (Nat.le_trans (Nat.le_trans b10.size b11.size) b12.size) b13.size)
  have T14 := T13.below b14 (Nat.le_trans (Nat.le_trans (Nat.le_trans b9.size (Nat.le_trans b10.size b11.size)) b12.size) b13.size)
  clear T7 T9 T10 T11 T12 T13 OX OX10 OX11 OX12 OX13 OG OG12 OG13 o13 og ox
  go_wp2_with fail
  refine (mark2_any _ _ _ ys _ OX14 hn).mono ?_
  rintro e w15 ⟨rfl, OX15, U15⟩
  have B15 := B14.trans (U15.below B7.size)
  have OG15 := OG14.outside U15 b10.size
  have T15 := T14.below (U15.below (Nat.le_refl _)) (Nat.le_refl _)
  clear OX14 OX15 OG14 T14
  go_wp2_with fail
  refine (eqUint64S_same _ _ ys _ OG15.own.sl T15.sl hnr).mono ?_
  rintro e w16 ⟨rfl, b16⟩
  have B16 := below_next B15 b16
  have OG16 := OG15.below b16 (Nat.le_trans (Nat.le_trans (Nat.le_trans b12.size b13.size) b14.size) U15.size)
  have T16 := T15.below b16 (Nat.le_trans (Nat.le_trans (Nat.le_trans (Nat.le_trans (Nat.le_trans b9.size (Nat.le_trans b10.size b11.size)) b12.size) b13.size) b14.size) U15.size)
  clear OG15 T15
  go_wp2_with fail
  refine (mark2_any _ _ _ ys _ OG16 hnr).mono ?_
  rintro e w17 ⟨rfl, OG17, U17⟩
  have B17 := B16.trans (U17.below (Nat.le_trans B7.size (Nat.le_trans b9.size b10.size)))
  have T17 := T16.below (U17.below (Nat.le_trans b9.size b10.size)) (Nat.le_refl _)
  clear OG16 T16
  go_wp2_with fail
  refine (heldUint64S_any _ (ys).length _ OG17.own.sl hnr).mono ?_
  rintro e w18 ⟨rfl, b18⟩
  have z18 := size_first (below_next B17 b18)
  have B18 := below_next B17 b18
  obtain ⟨c18, f18⟩ := bcell B18
  have OG18 := OG17.own.sl.below b18
  have T18 := (T17.below b18 (Nat.le_trans (Nat.le_trans (Nat.le_trans (Nat.le_trans (Nat.le_trans (Nat.le_trans (Nat.le_trans b9.size (Nat.le_trans b10.size b11.size)) b12.size) b13.size) b14.size) U15.size) b16.size) U17.size)).sl
  have hs18 : ∀ W, Below w18.heap.size w18 W → Sl W (.slice a0 ys.length cap0) ys := fun W h => (hs0 _ B18).below h
  clear OG17 T17 c9 f9
  go_upto_region 22 with fail
  go_cut [15, 16] from 80 to 88 (fun s15 s16 wc => Sl wc s15 ys ∧ s16 = .bool false ∧ Below w18.heap.size w18 wc)
  case first =>
    go_region_with (first | (go_at_call 11; refine (toUint64S_any _ ys _ (hs18 _ (by first | exact Below.refl _ _ | exact (Below.refl _ _).drew | assumption)) hn).mono ?_; rintro e w' ⟨v', rfl, o', hb⟩; have S1 := o'.sl; have hB := below_next (w := w18) (by first | exact Below.refl _ _ | exact (Below.refl _ _).drew | assumption) hb; obtain ⟨hc, hf⟩ := bcell hB) | (go_at_call 12; refine (toVal_any _ _ _).mono ?_; rintro e w' ⟨rfl, hb⟩; try (have S1 := S1.below hb); have hB := below_next (w := w18) (by first | exact Below.refl _ _ | exact (Below.refl _ _).drew | assumption) hb; obtain ⟨hc, hf⟩ := bcell hB) | (go_at_call 7; refine (implPutVal_f _ ys _ _ _ _ S1 hn hg).mono ?_; rintro e w' ⟨v', rfl, o', hb⟩; have S3 := o'.sl; have hB := below_next (w := w18) (by assumption) hb))
    all_goals (go_wp2_with fail; go_meet; exact ⟨S3, rfl, hB⟩)
  case rest =>
  obtain ⟨S15, rfl, b19⟩ := hcut
  have B19 := below_next B18 b19
  have T19 := T18.below b19
  have OG19 := OG18.below b19
  go_wp2_with fail
  refine (eqUint64S_same _ _ ys _ S15 T19 hnr).mono ?_
  rintro e w20 ⟨rfl, b20⟩
  have B20 := below_next B19 b20
  have OG20 := OG19.below b20
  go_wp2_with fail
  refine (heldUint64S_any _ (ys).length _ OG20 hnr).mono ?_
  rintro e w21 ⟨rfl, b21⟩
  have B21 := below_next B20 b21
  go_wp2
  go_ret
  exact ⟨rfl, below_first B21⟩

theorem fnExactPutVal_walk (a : Option Addr) (len cap : Nat) (zs : List Int) (i : Int) (t m : Int) (w : World) (h : IsRow .u64 w a len cap zs) (wi : (Lit.int .i64 i).wf = true) (wt : (Lit.int .i64 t).wf = true) (wm : (Lit.int .i64 m).wf = true) :
    Calls Try.prog 4 #[.slice a len cap, .int .i64 i, .agg #[.int .i64 t, .int .i64 m]] w fun e w' => e = .returned (.bool true) ∧ Below w.heap.size w w' := by
  obtain ⟨ys, rfl, hs, hw⟩ := h.sl
  clear h wi wt wm
  by_cases hn : ys.length ≤ 1048576
  · by_cases hg : putV ys.length i t m = true
    · exact fnExactPutVal_t _ ys i t m w hs hn hg
    · exact fnExactPutVal_f _ ys i t m w hs hn (by rwa [Bool.not_eq_true] at hg)
  · have hn' : (1048576 : Int) < (ys.length : Int) := by omega
    go_enter Try.func4, Try.ntmps4
    go_wp2
    go_ret
    exact ⟨rfl, (Below.refl _ _).alloc (Nat.le_refl _) _⟩

theorem own : ownKnob Try.prog.godebug = none := by kernel_rfl
theorem laidOut : laidOutB Try.prog = true := by kernel_rfl

set_option maxRecDepth 100000 in
theorem lifted (os : Os) (started : os.Started) (H : Type) (enc : TypeId × Value → H) :
    ReturnsInHanded {} Try.checked os 4 .any (Rows.fnExactPutValSpec.pre6 enc Try.prog Try.f4 Rows.fnExactPutValRow.domain false) (Rows.fnExactPutValSpec.post enc Try.prog Try.f4 false true false false) := by
  refine returnsInHanded_of_change (C := Try.checked) own started (by kernel_rfl) Try.func4
    (ChangeSpec.witness6 (enc := enc) (C := Try.checked) false ⟨#[], #[.slice none 0 0, .int .i64 0, .agg #[.int .i64 0, .int .i64 0]], []⟩ 8 (by kernel_rfl) (by kernel_rfl) (by kernel_rfl) (by kernel_rfl)) ?_
  intro W base args ds gs before hval0 hW hcnd _
  have hval : ∀ (j : Nat) t v, Try.f4.params[j]? = some t → args[j]? = some v → Value.okWide Try.prog W .any base t v := hval0
  have hW' := hW
  obtain ⟨p, q, hA0, hV, rfl, hfz, hnd⟩ := hW
  have hA : DataW.TrodAll enc Try.prog W 0 (fun _ => true) true Try.f4.params.toList args.toList ds p := hA0
  rw [Try.params4] at hA hval
  obtain ⟨v0, vs0, d0, ds0, p0, q0, hargs, rfl, rfl, h0, r0⟩ := trodAll_cons hA
  obtain ⟨v1, vs1, d1, ds1, p1, q1, rfl, rfl, rfl, h1, r1⟩ := trodAll_cons r0
  obtain ⟨v2, vs2, d2, ds2, p2, q2, rfl, rfl, rfl, h2, r2⟩ := trodAll_cons r1
  obtain ⟨rfl, rfl, rfl⟩ := trodAll_nil r2
  obtain rfl : args = #[v0, v1, v2] := by cases args; simp_all
  obtain ⟨rfl, rfl⟩ := trodVars_none hV
  have k0 := h0
  have lt0 : ∀ x ∈ p0, x.block < W.heap.size := by obtain ⟨m, hm⟩ := k0; exact DataW.trod_lt m _ _ _ hm
  obtain ⟨a0, len0, cap0, rfl⟩ := okWide_slice Try.underlying24 (hval 0 24 v0 rfl rfl)
  obtain ⟨z0, w0⟩ : ∃ zs, IsRow .u64 W a0 len0 cap0 zs := by
    obtain ⟨fuel, hf⟩ := h0
    rcases open_ints Try.underlying24 Try.underlying31 (by kernel_rfl) hf with ⟨hcs, _⟩ | ⟨x, l, c, zs, hcs, _, hl, hm, hz, _, hcell, hwz⟩
    · simp [Value.cells] at hcs
      obtain ⟨rfl, rfl, rfl⟩ := hcs
      exact ⟨[], .inl ⟨rfl, rfl, rfl, rfl⟩⟩
    · simp [Value.cells] at hcs
      obtain ⟨rfl, rfl, rfl⟩ := hcs
      exact ⟨zs, .inr ⟨_, rfl, hl, hm, by simpa using hz, hcell, hwz⟩⟩
  have k1 := h1
  have lt1 : ∀ x ∈ p1, x.block < W.heap.size := by obtain ⟨m, hm⟩ := k1; exact DataW.trod_lt m _ _ _ hm
  obtain ⟨a1, rfl, rfl, rfl, w1⟩ := open_int Try.underlying3 (hval 1 3 v1 rfl rfl) h1
  have k2 := h2
  have lt2 : ∀ x ∈ p2, x.block < W.heap.size := by obtain ⟨m, hm⟩ := k2; exact DataW.trod_lt m _ _ _ hm
  obtain ⟨c20, c21, y20, y21, m2, rfl, rfl, rfl, hy20, hy21⟩ := open_agg2 Try.underlying35 (by kernel_rfl) (by kernel_rfl) (hval 2 35 v2 rfl rfl) h2
  obtain ⟨a20, e20, rfl, w20⟩ := DataW.trod_int Try.underlying3 hy20
  obtain ⟨a21, e21, rfl, w21⟩ := DataW.trod_int Try.underlying3 hy21
  simp at e20 e21
  subst e20 e21
  clear hA0 hval0
  refine (fnExactPutVal_walk a0 len0 cap0 z0 a1 a20 a21 W w0 w1 w20 w21).mono fun e W' ⟨he, bel⟩ => ?_
  subst he
  exact ⟨_, rfl, _, _, _, [], _, [], hW', trodAll_mk1 (shut_bool Try.underlying4 _), (trodAll_cons_mk (Below.trod laidOut (by kernel_rfl) (of_decide_eq_true (by kernel_rfl)) k0 bel lt0) (trodAll_cons_mk (Below.trod laidOut (by kernel_rfl) (of_decide_eq_true (by kernel_rfl)) k1 bel lt1) (trodAll_cons_mk (Below.trod laidOut (by kernel_rfl) (of_decide_eq_true (by kernel_rfl)) k2 bel lt2) trodAll_mk0))), rfl, bel.frame _, fun h => by cases h⟩

theorem over : Rows.fnExactPutValRow.holds Try.pinned (OpenSpec.ofChange Rows.fnExactPutValSpec) :=
  OpenClaim.holds_of_wide 4 Try.f4 rfl rfl rfl rfl rfl rfl rfl ⟨rfl, rfl, rfl, rfl, rfl⟩ rfl rfl rfl rfl rfl (by kernel_rfl) Try.func4 (by kernel_rfl)
    (of_decide_eq_true (by kernel_rfl)) (by unfold Func.isWrapper; first | (rw [if_pos (by decide +kernel)]; kernel_rfl) | (rw [if_neg (by decide +kernel)]; exact ⟨rfl, rfl⟩))
    (fun os started H enc _ => lifted os started H enc)

theorem fnExactPutVal_holds : Rows.FnExactPutValSaid := over

#print axioms fnExactPutVal_holds
end Go.Proofs.Ythoncomjemknnaa
