/- 'laws.FnExactPlain' holds at every input: impl.Plain answers as the model's Plain, field by field; it writes into no argument, and its answer owns its memory. No condition. -/
import Derived.Test.YtohfkcanljngoaaRows
import Derived.Test.YtohfkcanljngoaaKPnB
import Derived.ProofKit
import Derived.OpenShut
import Derived.ShutString
import Derived.ChangeOld
import Derived.Lib.SmallJoins
import Derived.Deep.SlicePairs
import Derived.ChangeArms
import Derived.WideShapes
namespace Go.Proofs.Ytohfkcanljngoaa
set_option maxRecDepth 20000
open Go.ChangeShapes Go.WideShapes Go.ChangeAt Go.RowKit Go.Joins Go.Deep
set_option linter.unusedVariables false
set_option linter.unusedSimpArgs false

theorem cellsLawAct : Try.prog.cellsOf 33 = 2 := by kernel_rfl
theorem lawActs {H : Type} {enc : TypeId × Value → H} {w : World} {fuel : Nat} {v : Value} {x : DataW H × List MemPlace} (h : DataW.trod enc Try.prog w 0 (fun _ => true) true fuel 22 [v] = some x) :
    ∃ (ar : Option Addr) (cr : Nat) (rs : List (Int × Int)) (y : Nat → Int), v = .slice ar rs.length cr ∧ rs.length ≤ 9223372036854775807 ∧ SlF w.heap.size w (.slice ar rs.length cr) rs.length (2 * rs.length) (fun i => .int .i64 (y i)) := by
  obtain ⟨f0, f1, hf, g0, g1, g2, g3, g4, g5⟩ : ∃ f0 f1 : Field, Try.prog.underlying 33 = some (.struct #[f0, f1]) ∧ f0.offset = 0 ∧ f1.offset = 1 ∧ Try.prog.cellsOf f0.type = 1 ∧ Try.prog.cellsOf f1.type = 1 ∧ Try.prog.underlying f0.type = some (.int .i64) ∧ Try.prog.underlying f1.type = some (.int .i64) := ⟨_, _, Try.underlying33, by kernel_rfl, by kernel_rfl, by kernel_rfl, by kernel_rfl, by kernel_rfl, by kernel_rfl⟩
  rcases open_slice_pairs Try.underlying22 hf cellsLawAct g0 g1 g2 g3 h with ⟨hcs, _⟩ | ⟨a, len, cap, m, n, V0, V1, D0, D1, P0, P1, hcs, _, hl, hm, hmm, _, hx⟩
  · simp only [List.cons.injEq, and_true] at hcs
    exact ⟨none, 0, [], fun _ => 0, hcs, by simp, ⟨none, 0, rfl, .inl rfl⟩⟩
  · simp only [List.cons.injEq, and_true] at hcs
    have hmc : m = cap := by simpa using hmm
    subst hmc
    have hi : ∀ i, i < m → ∃ p : Int × Int, w.cell? (a.add (i * 2)) = some (.int .i64 p.1) ∧ w.cell? (a.add (i * 2 + 1)) = some (.int .i64 p.2) := fun i hi => by
      obtain ⟨h1, h2, h3, h4⟩ := hx i hi
      obtain ⟨z0, e0, _⟩ := DataW.trod_int g4 h3
      obtain ⟨z1, e1, _⟩ := DataW.trod_int g5 h4
      simp only [List.cons.injEq, and_true] at e0 e1
      exact ⟨(z0, z1), by rw [h1, e0], by rw [h2, e1]⟩
    obtain ⟨q, hq⟩ := choose_lt hi
    refine ⟨some a, m, List.replicate len (0, 0), fun j => if j % 2 = 0 then (q (j / 2)).1 else (q (j / 2)).2, by simpa using hcs, by simp [maxLen] at hm ⊢; omega, ?_⟩
    refine ⟨some a, m, rfl, ?_⟩
    by_cases h0 : len = 0
    · exact .inl (by simp [h0])
    · obtain ⟨b, off, spot⟩ := a
      have h1 := (hq 0 (by omega)).1
      have hspot : spot = none := by simpa [Addr.add] using World.cell?_spot h1
      subst hspot
      refine .inr ⟨b, off, rfl, ?_, ?_, fun j hj => ?_⟩
      · rw [Addr.add_lit] at h1
        exact World.block_lt_of_cell? _ _ h1
      · rw [Addr.add_lit] at h1
        exact World.block_lt_of_cell? _ _ h1
      · simp only [List.length_replicate] at hj
        obtain ⟨h2, h3⟩ := hq (j / 2) (by omega)
        rw [Addr.add_lit] at h2 h3
        by_cases e : j % 2 = 0
        · have : j / 2 * 2 = j := by omega
          rw [this] at h2
          simp [e, h2]
        · have : j / 2 * 2 + 1 = j := by omega
          rw [this] at h3
          simp [e, h3]

theorem hid {p : Prop} (h : p) : Hid p := h
theorem ownF_sl2 {b m c n B : Nat} {w : World} {y : Nat → Int} (h : w.rowIs b 31 (n * 2) (fun i => .int .i64 (y i))) (hB : B ≤ b) : OwnF B w.heap.size 31 w (.slice (some ⟨b, 0, none⟩) n n) n (2 * n) (fun i => .int .i64 (y i)) :=
  ⟨_, _, rfl, .inr ⟨b, n * 2, _, rfl, hB, h.lt, by omega, h, fun _ _ => rfl⟩⟩
theorem fnExactPlain_small (a : Option Addr) (n c : Nat) (y : Nat → Int) (w : World) (hs : SlF w.heap.size w (.slice a n c) n (2 * n) (fun i => .int .i64 (y i))) (hn : n ≤ 1048576) :
    Calls Try.prog 3 #[.slice a n c] w fun e w' => e = .returned (.bool true) ∧ Below w.heap.size w w' := by
  have hn9 : n ≤ 9223372036854775807 := by omega
  have hn0 : (n : Int) ≤ 1048576 := by omega
  have hn1 : ¬ (1048576 - (n : Int)) < 0 := by omega
  obtain ⟨L, hL⟩ : ∃ L, L = (plT y n).length := ⟨_, rfl⟩
  have HL : Hid (L = (plT y n).length) := hL
  have hL1 : L ≤ 1048576 := by rw [hL]; exact Nat.le_trans (plT_len y n) hn
  have hL2 : ¬ (1 + 2 * (L : Int)) < 0 := by omega
  have hL3 : ¬ (1 + 2 * (n : Int)) < 0 := by omega
  obtain ⟨z, hz⟩ : ∃ z, z = acv (plT y n) := ⟨_, rfl⟩
  have P1 : ∀ (a' : Option Addr) (c' : Nat) (W : World), SlF W.heap.size W (.slice a' n c') n (2 * n) (fun i => .int .i64 (y i)) → Calls Try.prog 5 #[.slice a' n c'] W fun e w' => ∃ v', e = .returned v' ∧ OwnF W.heap.size w'.heap.size 31 w' v' L (2 * L) (fun i => .int .i64 (z i)) ∧ Below W.heap.size W w' := fun a' c' W h => by rw [hL, hz]; exact specPlain_at a' n c' y _ W h hn
  have P2 : ∀ (a' : Option Addr) (c' : Nat) (W : World), SlF W.heap.size W (.slice a' n c') n (2 * n) (fun i => .int .i64 (y i)) → Calls Try.prog 7 #[.slice a' n c'] W fun e w' => ∃ v', e = .returned v' ∧ OwnF W.heap.size w'.heap.size 31 w' v' L (2 * L) (fun i => .int .i64 (z i)) ∧ Below W.heap.size W w' := fun a' c' W h => by rw [hL, hz]; exact implPlain_at a' n c' y _ W h hn
  have HP1 := hid (P1)
  have HP2 := hid (P2)
  have HS : Hid (SlF w.heap.size w (.slice a n c) n (2 * n) (fun i => .int .i64 (y i))) := hs
  clear hL hz P1 P2 hs HL
  go_enter Try.func3, Try.ntmps3
  go_wp2_with fail
  refine (szActs_any _ _ _ _ _ (by omega) (by omega) hn9).mono ?_
  rw [if_pos hn0]
  rintro e w0 ⟨rfl, rfl⟩
  go_wp2_with fail
  refine (toActs_at a n c y _ _ HS.out hn).mono ?_
  rintro e w1 ⟨rfl, r1, b1⟩
  have s1 := hid ((ownF_sl2 (m := 0) (c := 0) r1 (Nat.le_refl _)).sl)
  go_wp2_with fail
  refine (HP1.out _ _ _ s1.out).mono ?_
  rintro e w2 ⟨v2, rfl, o2, b2⟩
  have B2 : Hid (Below w0.heap.size w0 w2) := below_next b1 b2
  have S2 := hid (o2.sl)
  have h2 : Hid (w0.heap.size ≤ w1.heap.size ∧ w1.heap.size ≤ w2.heap.size) := ⟨b1.size, b2.size⟩
  clear r1 b1 s1 o2 b2
  go_wp2_with fail
  refine (toActs_at a n c y _ _ (HS.out.below B2.out (Nat.le_refl _)) hn).mono ?_
  rintro e w3 ⟨rfl, r3, b3⟩
  have B3 : Hid (Below w0.heap.size w0 w3) := below_next B2.out b3
  have S3 := hid (S2.out.below b3 (Nat.le_refl _))
  have X3 : Hid (OwnF w2.heap.size w3.heap.size 31 w3 (.slice (some ⟨w2.heap.size, 0, none⟩) n n) n (2 * n) (fun i => .int .i64 (y i))) := ownF_sl2 (m := 0) (c := 0) r3 (Nat.le_refl _)
  have h3 : Hid (w2.heap.size ≤ w3.heap.size) := b3.size
  clear r3 b3 S2
  go_wp2_with fail
  refine (HP2.out _ _ _ X3.out.sl).mono ?_
  rintro e w4 ⟨v4, rfl, o4, b4⟩
  have B4 : Hid (Below w0.heap.size w0 w4) := below_next B3.out b4
  have S4 := hid (S3.out.below b4 h3.out)
  have X4 := hid (X3.out.below b4 (Nat.le_refl _))
  have O4 := hid (o4)
  have h4 : Hid (w3.heap.size ≤ w4.heap.size) := b4.size
  clear b4 o4 S3 X3
  go_wp2_with fail
  refine (eqActS_same _ _ _ _ _ z _ O4.out.sl S4.out hL1).mono ?_
  rintro e w5 ⟨rfl, b5⟩
  have B5 : Hid (Below w0.heap.size w0 w5) := below_next B4.out b5
  have S5 := hid (S4.out.below b5 (by have := h2.out; have := h3.out; have := h4.out; omega))
  have X5 := hid (X4.out.below b5 h4.out)
  have O5 := hid (O4.out.below b5 (Nat.le_refl _))
  have h5 : Hid (w4.heap.size ≤ w5.heap.size) := b5.size
  clear b5 S4 X4 O4
  go_wp2_with fail
  refine (toActs_at a n c y _ _ (HS.out.below B5.out (Nat.le_refl _)) hn).mono ?_
  rintro e w6 ⟨rfl, r6, b6⟩
  have B6 : Hid (Below w0.heap.size w0 w6) := below_next B5.out b6
  have Y6 := hid ((ownF_sl2 (m := 0) (c := 0) r6 (Nat.le_refl _)).sl)
  have S6 := hid (S5.out.below b6 (by have := h2.out; have := h3.out; have := h4.out; have := h5.out; omega))
  have X6 := hid (X5.out.below b6 (by have := h4.out; have := h5.out; omega))
  have O6 := hid (O5.out.below b6 h5.out)
  have h6 : Hid (w5.heap.size ≤ w6.heap.size) := b6.size
  clear b6 r6 S5 X5 O5
  go_wp2_with fail
  refine (eqActS_same _ _ _ _ _ y _ X6.out.sl Y6.out hn).mono ?_
  rintro e w7 ⟨rfl, b7⟩
  have B7 : Hid (Below w0.heap.size w0 w7) := below_next B6.out b7
  have S7 := hid (S6.out.below b7 (by have := h2.out; have := h3.out; have := h4.out; have := h5.out; have := h6.out; omega))
  have X7 := hid (X6.out.below b7 (by have := h4.out; have := h5.out; have := h6.out; omega))
  have O7 := hid (O6.out.below b7 (by have := h5.out; have := h6.out; omega))
  have h7 : Hid (w6.heap.size ≤ w7.heap.size) := b7.size
  clear b7 Y6 S6 X6 O6
  go_wp2_with fail
  refine (markActS_any _ _ _ _ y _ _ X7.out hn (by omega) (by omega)).mono ?_
  rintro e w8 ⟨rfl, _, U8⟩
  have B8 : Hid (Below w0.heap.size w0 w8) := B7.out.trans (U8.below (by have := h2.out; omega))
  have S8 := hid (S7.out.below (U8.below (Nat.le_refl _)) (Nat.le_refl _))
  have O8 := hid (O7.out.outside U8 (.inl (Nat.le_refl _)))
  have h8 : Hid (w7.heap.size ≤ w8.heap.size) := U8.size
  clear U8 S7 X7 O7
  go_wp2_with fail
  refine (eqActS_same _ _ _ _ _ z _ O8.out.sl S8.out hL1).mono ?_
  rintro e w9 ⟨rfl, b9⟩
  have hh := h2.out
  have hh3 := h3.out
  have hh4 := h4.out
  have hh5 := h5.out
  have hh6 := h6.out
  have hh7 := h7.out
  have hh8 := h8.out
  have B9 : Hid (Below w0.heap.size w0 w9) := below_next B8.out b9
  have S9 := hid (S8.out.below b9 (by omega))
  have O9 := hid (O8.out.below b9 (by omega))
  have hh9 := b9.size
  clear b9 S8 O8 h2 h3 h4 h5 h6 h7 h8
  have HH : Hid (w0.heap.size ≤ w2.heap.size ∧ w2.heap.size ≤ w3.heap.size ∧ w3.heap.size ≤ w4.heap.size ∧ w4.heap.size ≤ w9.heap.size) := ⟨by omega, by omega, by omega, by omega⟩
  clear hh hh3 hh4 hh5 hh6 hh7 hh8 hh9
  go_wp2_with fail
  refine (markActS_any _ _ _ _ z _ _ O9.out hL1 (by omega) (by omega)).mono ?_
  rintro e w10 ⟨rfl, o10, U10⟩
  have B10 : Hid (Below w0.heap.size w0 w10) := B9.out.trans (U10.below (by have := HH.out; omega))
  have S10 := hid (S9.out.below (U10.below (B := w3.heap.size) (C := w3.heap.size) (Nat.le_refl _)) (by have := HH.out; omega))
  have O10 := hid (o10)
  have h10 : Hid (w9.heap.size ≤ w10.heap.size) := U10.size
  clear U10 S9 O9 o10
  go_wp2_with fail
  refine (heldActS_any _ _ _ _ _ O10.out.sl hL1 (by omega) (by omega)).mono ?_
  rintro e w11 ⟨rfl, b11⟩
  have B11 : Hid (Below w0.heap.size w0 w11) := below_next B10.out b11
  have S11 := hid (S10.out.below b11 (by have := HH.out; have := h10.out; omega))
  have O11 := hid (O10.out.below b11 (by have := HH.out; have := h10.out; omega))
  have h11 : Hid (w10.heap.size ≤ w11.heap.size) := b11.size
  clear b11 S10 O10
  go_wp2_with fail
  refine (toActs_at a n c y _ _ (HS.out.below B11.out (Nat.le_refl _)) hn).mono ?_
  rintro e w12 ⟨rfl, r12, b12⟩
  have B12 : Hid (Below w0.heap.size w0 w12) := below_next B11.out b12
  have Y12 := hid ((ownF_sl2 (m := 0) (c := 0) r12 (Nat.le_refl _)).sl)
  have S12 := hid (S11.out.below b12 (by have := HH.out; have := h10.out; have := h11.out; omega))
  have O12 := hid (O11.out.below b12 (by have := HH.out; have := h10.out; have := h11.out; omega))
  have h12 : Hid (w11.heap.size ≤ w12.heap.size) := b12.size
  clear b12 r12 S11 O11
  go_wp2_with fail
  refine (HP2.out _ _ _ Y12.out).mono ?_
  rintro e w13 ⟨v13, rfl, o13, b13⟩
  have B13 : Hid (Below w0.heap.size w0 w13) := below_next B12.out b13
  have S13 := hid (S12.out.below b13 (by have := HH.out; have := h10.out; have := h11.out; have := h12.out; omega))
  have O13 := hid (O12.out.below b13 (by have := HH.out; have := h10.out; have := h11.out; have := h12.out; omega))
  have H13 := hid (o13)
  have h13 : Hid (w12.heap.size ≤ w13.heap.size) := b13.size
  clear b13 o13 S12 O12 Y12
  go_wp2_with fail
  refine (eqActS_same _ _ _ _ _ z _ H13.out.sl S13.out hL1).mono ?_
  rintro e w14 ⟨rfl, b14⟩
  have B14 : Hid (Below w0.heap.size w0 w14) := below_next B13.out b14
  have O14 := hid (O13.out.below b14 (by have := HH.out; have := h10.out; have := h11.out; have := h12.out; have := h13.out; omega))
  clear b14 S13 O13 H13
  go_wp2_with fail
  refine (heldActS_any _ _ _ _ _ O14.out.sl hL1 (by omega) (by omega)).mono ?_
  rintro e w15 ⟨rfl, b15⟩
  have B15 : Hid (Below w0.heap.size w0 w15) := below_next B14.out b15
  clear b15 O14
  go_wp2
  go_ret
  exact ⟨rfl, B15.out⟩
theorem fnExactPlain_walk (a : Option Addr) (n c : Nat) (y : Nat → Int) (w : World) (hs : SlF w.heap.size w (.slice a n c) n (2 * n) (fun i => .int .i64 (y i))) (hn : n ≤ 9223372036854775807) :
    Calls Try.prog 3 #[.slice a n c] w fun e w' => e = .returned (.bool true) ∧ Below w.heap.size w w' := by
  by_cases h : n ≤ 1048576
  · exact fnExactPlain_small a n c y w hs h
  · have hi : ¬ (n : Int) ≤ 1048576 := by omega
    have hm : (-1 : Int) < 0 := by omega
    clear hs
    go_enter Try.func3, Try.ntmps3
    go_wp2_with fail
    refine (szActs_any _ _ _ _ _ (by omega) (by omega) hn).mono ?_
    rw [if_neg (by omega)]
    rintro e w0 ⟨rfl, rfl⟩
    go_wp2
    go_ret
    exact ⟨rfl, Below.refl _ _⟩

theorem own : ownKnob Try.prog.godebug = none := by kernel_rfl
theorem laidOut : laidOutB Try.prog = true := by kernel_rfl

set_option maxRecDepth 100000 in
theorem lifted (os : Os) (started : os.Started) (H : Type) (enc : TypeId × Value → H) :
    ReturnsInHanded {} Try.checked os 3 .any (Rows.fnExactPlainSpec.pre6 enc Try.prog Try.f3 Rows.fnExactPlainRow.domain false) (Rows.fnExactPlainSpec.post enc Try.prog Try.f3 false true false false) := by
  refine returnsInHanded_of_change (C := Try.checked) own started (by kernel_rfl) Try.func3
    (ChangeSpec.witness6 (enc := enc) (C := Try.checked) false ⟨#[], #[.slice none 0 0], []⟩ 8 (by kernel_rfl) (by kernel_rfl) (by kernel_rfl) (by kernel_rfl)) ?_
  intro W base args ds gs before hval0 hW hcnd _
  have hval : ∀ (j : Nat) t v, Try.f3.params[j]? = some t → args[j]? = some v → Value.okWide Try.prog W .any base t v := hval0
  have hW' := hW
  obtain ⟨p, q, hA0, hV, rfl, hfz, hnd⟩ := hW
  have hA : DataW.TrodAll enc Try.prog W 0 (fun _ => true) true Try.f3.params.toList args.toList ds p := hA0
  rw [Try.params3] at hA hval
  obtain ⟨v0, vs0, d0, ds0, p0, q0, hargs, rfl, rfl, h0, r0⟩ := trodAll_cons hA
  obtain ⟨rfl, rfl, rfl⟩ := trodAll_nil r0
  obtain rfl : args = #[v0] := by cases args; simp_all
  obtain ⟨rfl, rfl⟩ := trodVars_none hV
  have k0 := h0
  have lt0 : ∀ x ∈ p0, x.block < W.heap.size := by obtain ⟨m, hm⟩ := k0; exact DataW.trod_lt m _ _ _ hm
  obtain ⟨a0, c0, rs0, y0, rfl, w0b, w0a⟩ : ∃ (a : Option Addr) (c : Nat) (rs : List (Int × Int)) (y : Nat → Int), v0 = .slice a rs.length c ∧ rs.length ≤ 9223372036854775807 ∧ SlF W.heap.size W (.slice a rs.length c) rs.length (2 * rs.length) (fun i => .int .i64 (y i)) := by
    obtain ⟨a', l', c', rfl⟩ := okWide_slice Try.underlying22 (hval 0 22 v0 rfl rfl)
    obtain ⟨fuel, hf⟩ := h0
    simp only [Value.cells] at hf
    exact lawActs hf
  clear hA0 hval0
  refine (fnExactPlain_walk a0 rs0.length c0 y0 W w0a w0b).mono fun e W' ⟨he, bel⟩ => ?_
  subst he
  exact ⟨_, rfl, _, _, _, [], _, [], hW', trodAll_mk1 (shut_bool Try.underlying4 _), (trodAll_cons_mk (Below.trod laidOut (by kernel_rfl) (of_decide_eq_true (by kernel_rfl)) k0 bel lt0) trodAll_mk0), rfl, bel.frame _, fun h => by cases h⟩

theorem and_in {a b : Bool} (ha : a = true) (hb : b = true) : (a && b) = true := by rw [ha, hb]; rfl
theorem fits9 : (Rows.fnExactPlainRow.inPlace == Try.prog.inPlace 3) = true := by kernel_rfl
theorem fits10 : (Rows.fnExactPlainRow.unfollowed == Try.prog.unfollowed 3) = true := by kernel_rfl
theorem fits11 : (Rows.fnExactPlainRow.recurses == Try.prog.recurses 3) = true := by kernel_rfl
theorem fits12 : (Rows.fnExactPlainRow.named == Try.prog.varsNamed 3) = true := by kernel_rfl
theorem ws_word : ∀ (w rest : List Char), (∀ c ∈ w, c ≠ Char.ofNat 32) → wordsSigns (w ++ Char.ofNat 32 :: rest) = w :: wordsSigns rest
  | [], rest, _ => rfl
  | c :: w, rest, h => by
    rw [List.cons_append, wordsSigns.eq_3 _ _ (fun e => h c (List.mem_cons_self ..) e), ws_word w rest (fun x hx => h x (List.mem_cons_of_mem _ hx))]
theorem order_words : ∃ ws, wordsSigns Try.prog.initOrder.toList = List.map Char.ofNat [104, 97, 114, 110, 101, 115, 115] :: List.map Char.ofNat [54, 101, 98, 101, 48, 97, 98, 48, 54, 54, 56, 50, 102, 51, 48, 56, 101, 50, 97, 100, 100, 53, 52, 102, 97, 102, 52, 51, 56, 48, 48, 56, 48, 51, 101, 101, 97, 52, 57, 56, 53, 97, 49, 99, 98, 99, 57, 57, 57, 51, 56, 50, 102, 54, 54, 51, 53, 100, 48, 102, 56, 97, 52, 102] :: List.map Char.ofNat [99, 117, 116] :: ws := by
  have h : Try.prog.initOrder = String.ofList (List.map Char.ofNat [104, 97, 114, 110, 101, 115, 115] ++ Char.ofNat 32 :: (List.map Char.ofNat [54, 101, 98, 101, 48, 97, 98, 48, 54, 54, 56, 50, 102, 51, 48, 56, 101, 50, 97, 100, 100, 53, 52, 102, 97, 102, 52, 51, 56, 48, 48, 56, 48, 51, 101, 101, 97, 52, 57, 56, 53, 97, 49, 99, 98, 99, 57, 57, 57, 51, 56, 50, 102, 54, 54, 51, 53, 100, 48, 102, 56, 97, 52, 102] ++ Char.ofNat 32 :: (List.map Char.ofNat [99, 117, 116] ++ Char.ofNat 32 :: List.map Char.ofNat [97, 116, 32, 108, 111, 111, 112, 46, 101, 120, 97, 109, 112, 108, 101, 47, 103, 48, 48, 49, 48, 49, 47, 108, 97, 119, 115, 46, 70, 110, 69, 120, 97, 99, 116, 80, 108, 97, 105, 110]))) := by kernel_rfl
  rw [h, String.toList_ofList, ws_word _ _ (by decide +kernel), ws_word _ _ (by decide +kernel), ws_word _ _ (by decide +kernel)]
  exact ⟨_, rfl⟩
theorem cut_is : List.map Char.ofNat [99, 117, 116] = "cut".toList := by decide +kernel
theorem order_cut : ∃ ws, behindMainWord (wordsSigns Try.prog.initOrder.toList) = "cut".toList :: ws := by
  obtain ⟨ws, h⟩ := order_words
  refine ⟨ws, ?_⟩
  rw [h, ← cut_is]
  kernel_rfl
theorem strip_cut (ws : List (List Char)) : stripLifts liftWords ("cut".toList :: ws) = ([], "cut".toList :: ws) := by kernel_rfl
theorem make_cut {P : Program} {ws : List (List Char)} (h : behindMainWord (wordsSigns P.initOrder.toList) = "cut".toList :: ws) : P.make = some .cut := by
  unfold Program.make
  rw [h]
  kernel_rfl
theorem enter_cut {P : Program} {ws : List (List Char)} (h : behindMainWord (wordsSigns P.initOrder.toList) = "cut".toList :: ws) (h1 : P.laysLater = false) (h2 : P.bearsReflect = false) (h3 : P.doorFits [] = true) : P.mayEnter = true := by
  unfold Program.mayEnter
  rw [h]
  simp only [strip_cut, h1, h2, h3]
  kernel_rfl
theorem fits25 : Try.prog.mayEnter = true := by
  obtain ⟨ws, h⟩ := order_cut
  exact enter_cut h (by kernel_rfl) (by kernel_rfl) (by kernel_rfl)
theorem fits26 : (Rows.fnExactPlainRow.lifted == Try.prog.liftsFinal) = true := by obtain ⟨ws, h⟩ := order_words; unfold Program.liftsFinal Program.headLifts; rw [h]; kernel_rfl
theorem fits27 : (Try.prog.make == some Rows.fnExactPlainRow.make) = true := by
  obtain ⟨ws, h⟩ := order_cut
  rw [make_cut h]
  kernel_rfl
theorem fits : joinedFacts Try.prog 3 Try.f3 Rows.fnExactPlainSpec Rows.fnExactPlainRow = true := by
  unfold joinedFacts
  iterate 4 refine and_in ?_ (by kernel_rfl)
  refine and_in (and_in (and_in ?_ fits25) fits26) fits27
  iterate 12 refine and_in ?_ (by kernel_rfl)
  exact and_in (and_in (and_in (and_in (by kernel_rfl) fits9) fits10) fits11) fits12
theorem over : Rows.fnExactPlainRow.holds Try.pinned (OpenSpec.ofChange Rows.fnExactPlainSpec) :=
  OpenClaim.holds_of_wide 3 Try.f3 rfl rfl rfl rfl rfl rfl rfl ⟨rfl, rfl, rfl, rfl, rfl⟩ rfl rfl rfl rfl rfl (by kernel_rfl) Try.func3 fits
    (of_decide_eq_true (by kernel_rfl)) (by unfold Func.isWrapper; first | (rw [if_pos (by decide +kernel)]; kernel_rfl) | (rw [if_neg (by decide +kernel)]; exact ⟨rfl, rfl⟩))
    (fun os started H enc _ => lifted os started H enc)

theorem fnExactPlain_holds : Rows.FnExactPlainSaid := over

#print axioms fnExactPlain_holds
end Go.Proofs.Ytohfkcanljngoaa
