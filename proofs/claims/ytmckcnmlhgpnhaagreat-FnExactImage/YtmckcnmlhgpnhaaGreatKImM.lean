/- The model's Image. -/
import Derived.Test.YtmckcnmlhgpnhaaGreatKImN
import Derived.Test.YtmckcnmlhgpnhaaGreatKImR
import Derived.Test.YtmckcnmlhgpnhaaGreatKFreeA
import Derived.Test.YtmckcnmlhgpnhaaGreatKHeadL
namespace Go.Proofs.YtmckcnmlhgpnhaaGreat
set_option maxRecDepth 20000
open Go.RowKit Go.Maps
set_option linter.unusedSimpArgs false
set_option linter.unusedVariables false

/-- What an image wants of a right arena's numbers. -/
theorem ar_image {ws : List Int} {semi toh top : Int} {cyc : Bool} {scan old copied serial : Int} {y : Nat → Int} {rl : Nat} (hok : ArOk ws semi toh top cyc scan old copied serial y rl) :
    ∃ S T F O : Nat, toh * semi + 1 = S ∧ top = T ∧ (1 - toh) * semi + 1 = F ∧ S ≤ T ∧ T ≤ ws.length ∧ S < ws.length ∧ F < ws.length ∧ ws.length ≤ 8000 ∧ rl ≤ 24 ∧ (0 ≤ scan ∧ scan ≤ 100000) ∧ (0 ≤ old ∧ old ≤ 100000) ∧ (0 ≤ copied ∧ copied ≤ 100000) ∧ (0 ≤ serial ∧ serial ≤ 10000000000) ∧ (cyc = true → old = O ∧ F ≤ O ∧ O ≤ ws.length) := by
  obtain ⟨S, T, F, L, O, hS, hT, hF, hTn, hST, hlaid⟩ := ar_chain hok
  obtain ⟨s0, s1, hl, t0, t1, hrl, h1, h2, hold⟩ := num_facts hok.1
  obtain ⟨g1, g2, g3, g4, g5⟩ := num_halves s0 s1 hl t0 t1 h1 h2
  have hnum := hok.1
  unfold numOk at hnum
  simp only [Bool.and_eq_true] at hnum
  obtain ⟨⟨hn1, _⟩, hn3⟩ := hnum
  have hn1 := of_decide_eq_true hn1
  have hSl : S < ws.length := by rcases (by omega : toh = 0 ∨ toh = 1) with rfl | rfl <;> omega
  have hFl : F < ws.length := by rcases (by omega : toh = 0 ∨ toh = 1) with rfl | rfl <;> omega
  refine ⟨S, T, F, old.toNat, hS, hT, hF, hST, hTn, hSl, hFl, by omega, hrl, ?_⟩
  cases cyc with
  | false =>
    simp only [Bool.false_eq_true, if_false] at hn3
    have hn4 := of_decide_eq_true hn3
    exact ⟨by omega, by omega, by omega, by omega, fun h => by cases h⟩
  | true =>
    simp only [if_true] at hn3
    have hn4 := of_decide_eq_true hn3
    unfold firstOf at hn4
    obtain ⟨a, b⟩ := hold rfl
    have h5 := (g5 old a b).1
    have h6 := (hlaid.til.runs rfl).2.2.2
    exact ⟨by omega, by omega, by omega, by omega, fun _ => ⟨by omega, by omega, by omega⟩⟩
theorem l15Numbers_at (aw : Option Addr) (cw : Nat) (ws : List Int) (semi toh top : Int) (cyc : Bool) (scan old copied serial : Int) (ar : Option Addr) (cr : Nat) (rs : List (Int × Int)) (y : Nat → Int) (w : World) (S T F O : Nat) (hs : Sl w (.slice aw ws.length cw) ws) (hcw : ws.length ≤ cw) (hw : Words64 ws) (hrt : SlF w.heap.size w (.slice ar rs.length cr) rs.length (2 * rs.length) (fun i => .int .i64 (y i))) (hok : ArOk ws semi toh top cyc scan old copied serial y rs.length)
    (hS : toh * semi + 1 = S) (hT : top = T) (hF : (1 - toh) * semi + 1 = F) (hST : S ≤ T) (hTn : T ≤ ws.length) (hS2 : S < ws.length) (hF2 : F < ws.length) (hn : ws.length ≤ 8000) (hrl : rs.length ≤ 24) (n1 : 0 ≤ scan ∧ scan ≤ 100000) (n2 : 0 ≤ old ∧ old ≤ 100000) (n3 : 0 ≤ copied ∧ copied ≤ 100000) (n4 : 0 ≤ serial ∧ serial ≤ 10000000000) (hO : cyc = true → old = O ∧ F ≤ O ∧ O ≤ ws.length) :
    Calls Tryz.prog 66 #[.agg #[.slice aw ws.length cw, .int .i64 semi, .int .i64 toh, .int .i64 top, .bool cyc, .int .i64 scan, .int .i64 old, .int .i64 copied, .int .i64 serial, .slice ar rs.length cr]] w fun e w' => ∃ v', e = .returned v' ∧ UR w.heap.size w' v' (imgL ws semi toh top cyc scan old copied serial y rs.length S T F O) ∧ Below w.heap.size w w' := by
  obtain ⟨s0, s1, hl, t0, t1, _⟩ := num_facts hok.1
  obtain ⟨b, off, rfl, hb, hc⟩ := sl_open hs (by omega)
  subst hT
  cases cyc with
  | false => exact l15Numbers_false b off cw ws semi toh scan old copied serial ar cr rs y w S T F O hb hc hcw hn hw hrt hrl s0 s1 t0 t1 hS hST hTn hS2 trivial n1.1 n1.2 n2.1 n2.2 n3.1 n3.2 n4.1 n4.2
  | true =>
    obtain ⟨rfl, h2, h3⟩ := hO rfl
    exact l15Numbers_true b off cw ws semi toh scan copied serial ar cr rs y w S T F O hb hc hcw hn hw hrt hrl s0 s1 t0 t1 hS hST hTn hS2 ⟨hF, h2, h3, hF2⟩ n1.1 n1.2 n3.1 n3.2 n4.1 n4.2
theorem wrapU_img (x : Int) : 0 ≤ IntKind.u64.wrap x ∧ IntKind.u64.wrap x < 18446744073709551616 := by rw [IntKind.wrap_u64]; omega
theorem imgR_in (y : Nat → Int) : ∀ k, ∀ z ∈ imgR y k, 0 ≤ z ∧ z < 18446744073709551616
  | 0, z, h => by simp [imgR] at h
  | k + 1, z, h => by
    simp only [imgR, List.mem_append, List.mem_cons, List.not_mem_nil, or_false] at h
    rcases h with h | rfl | rfl
    · exact imgR_in y k z h
    · exact wrapU_img _
    · exact wrapU_img _
theorem cutW_in {ws : List Int} (hw : Words64 ws) (S T : Nat) : ∀ z ∈ cutW ws S T, 0 ≤ z ∧ z < 18446744073709551616 := fun z h => hw z (List.mem_of_mem_drop (List.mem_of_mem_take h))
theorem sumU_in (l : List Int) : 0 ≤ sumU l ∧ sumU l < 18446744073709551616 := by
  have h : ∀ (l : List Int) (s : Int), (0 ≤ s ∧ s < 18446744073709551616) → 0 ≤ l.foldl (fun s z => IntKind.u64.wrap (s + z)) s ∧ l.foldl (fun s z => IntKind.u64.wrap (s + z)) s < 18446744073709551616 := by
    intro l
    induction l with
    | nil => intro s hs; exact hs
    | cons x l ih => intro s _; exact ih _ (wrapU_img _)
  exact h l 0 (by omega)
/-- All numbers of an image are words, and so many. -/
theorem imgL_in {ws : List Int} {semi toh top : Int} {cyc : Bool} {scan old copied serial : Int} {y : Nat → Int} {k S T F O : Nat} (hw : Words64 ws) (s0 : 256 ≤ semi ∧ semi ≤ 4000) (t0 : 0 ≤ toh ∧ toh ≤ 1) (hT : top = T) (hTn : T ≤ ws.length) (hn : ws.length ≤ 8000) (hrl : k ≤ 24) (n1 : 0 ≤ scan ∧ scan ≤ 100000) (n2 : 0 ≤ old ∧ old ≤ 100000) (n3 : 0 ≤ copied ∧ copied ≤ 100000) (n4 : 0 ≤ serial ∧ serial ≤ 10000000000) (hO : cyc = true → O ≤ ws.length) :
    (∀ z ∈ imgL ws semi toh top cyc scan old copied serial y k S T F O, 0 ≤ z ∧ z < 18446744073709551616) ∧ (imgL ws semi toh top cyc scan old copied serial y k S T F O).length ≤ 16060 := by
  have hW : (∀ z ∈ imgW ws semi toh top cyc scan old copied serial y k S T F O, 0 ≤ z ∧ z < 18446744073709551616) ∧ (imgW ws semi toh top cyc scan old copied serial y k S T F O).length ≤ 16059 := by
    constructor
    · intro z h
      unfold imgW at h
      simp only [List.mem_append] at h
      rcases h with ((h | h) | h) | h
      · simp only [List.mem_cons, List.not_mem_nil, or_false] at h
        rcases h with rfl | rfl | rfl | rfl | rfl | rfl | rfl | rfl | rfl <;> first | omega | (split <;> omega)
      · exact imgR_in y k z h
      · exact cutW_in hw _ _ z h
      · cases cyc with
        | false => simp at h
        | true => exact cutW_in hw _ _ z (by simpa using h)
    · have e1 : (cutW ws S T).length ≤ 8000 := by unfold cutW; simp; omega
      have e2 : (if cyc = true then cutW ws F O else []).length ≤ 8000 := by
        cases cyc with
        | false => simp
        | true => have := hO rfl; unfold cutW; simp; omega
      unfold imgW
      simp only [List.length_append, imgR_len, List.length_cons, List.length_nil]
      omega
  constructor
  · intro z h
    unfold imgL at h
    rcases List.mem_append.1 h with h | h
    · exact hW.1 z h
    · simp at h; subst h; exact sumU_in _
  · unfold imgL
    have := hW.2
    simp only [List.length_append, List.length_cons, List.length_nil]
    omega
/-- Numbers as bytes, eight each. -/
def bytesU (l : List Int) : List Int := l.flatMap fun z => le8 z 8
theorem bytesU_len (l : List Int) : (bytesU l).length = 8 * l.length := by
  induction l with
  | nil => rfl
  | cons x l ih => simp only [bytesU, List.flatMap_cons, List.length_append, le8_len, List.length_cons] at ih ⊢; omega
theorem bytesU_take {l : List Int} {k : Nat} (h : k < l.length) : bytesU (l.take (k + 1)) = bytesU (l.take k) ++ le8 (l.getD k 0) 8 := by
  rw [List.take_succ_eq_append_getElem h]
  unfold bytesU
  rw [List.flatMap_append]
  simp [h]
theorem bytes_empty {w : World} : BR w.heap.size (w.alloc (.cells #[] 5)) (.slice (some ⟨w.heap.size, 0, none⟩) 0 0) [] :=
  ⟨rfl, .inr ⟨w.heap.size, 0, #[], rfl, Nat.le_refl _, Go.Deep.blk_alloc_new _ _, Nat.le_refl _, by simp [maxLen], rfl, rfl⟩⟩
set_option maxHeartbeats 2000000 in
theorem specImage_no (aw : Option Addr) (cw : Nat) (ws : List Int) (semi toh top : Int) (cyc : Bool) (scan old copied serial : Int) (ar : Option Addr) (cr : Nat) (rs : List (Int × Int)) (y : Nat → Int) (Tr : Nat) (w : World) (hs : Sl w (.slice aw ws.length cw) ws) (hn : ws.length ≤ 1048576) (hw : Words64 ws) (hrt : SlF Tr w (.slice ar rs.length cr) rs.length (2 * rs.length) (fun i => .int .i64 (y i))) (hn2 : rs.length ≤ 1048576) (hok : ¬ ArOk ws semi toh top cyc scan old copied serial y rs.length) :
    Calls Tryz.prog 20 #[.agg #[.slice aw ws.length cw, .int .i64 semi, .int .i64 toh, .int .i64 top, .bool cyc, .int .i64 scan, .int .i64 old, .int .i64 copied, .int .i64 serial, .slice ar rs.length cr]] w fun e w' => e = .returned (.tuple #[.slice none 0 0, .bool false]) ∧ Below w.heap.size w w' := by
  have HS : Hid (Sl w (.slice aw ws.length cw) ws) := hs
  have HR : Hid (SlF w.heap.size w (.slice ar rs.length cr) rs.length (2 * rs.length) (fun i => .int .i64 (y i))) := hrt.here
  have HQ : Hid (¬ ArOk ws semi toh top cyc scan old copied serial y rs.length) := hok
  clear hs hrt hok
  go_enter Tryz.func20, Tryz.ntmps20
  go_wp2_with fail
  refine (specArenaOk_at _ _ _ _ _ _ _ _ _ _ _ _ _ _ y w.heap.size _ (HS.out.below (below_first (Below.refl _ _))) hn hw (HR.out.below (below_first (Below.refl _ _)) (Nat.le_refl _)) hn2).mono ?_
  rintro e w1 ⟨q, rfl, hq, b1⟩
  obtain rfl : q = false := by
    cases q with
    | false => rfl
    | true => exact absurd (hq.1 rfl) HQ.out
  have B1 := below_first b1
  clear hq b1
  go_wp2
  go_ret2
  exact ⟨rfl, B1⟩
set_option maxHeartbeats 4000000 in
theorem specImage_yes (aw : Option Addr) (cw : Nat) (ws : List Int) (semi toh top : Int) (cyc : Bool) (scan old copied serial : Int) (ar : Option Addr) (cr : Nat) (rs : List (Int × Int)) (y : Nat → Int) (Tr : Nat) (w : World) (I : List Int) (hs : Sl w (.slice aw ws.length cw) ws) (hn : ws.length ≤ 1048576) (hw : Words64 ws) (hrt : SlF Tr w (.slice ar rs.length cr) rs.length (2 * rs.length) (fun i => .int .i64 (y i))) (hn2 : rs.length ≤ 1048576) (hok : ArOk ws semi toh top cyc scan old copied serial y rs.length) (hI : (∀ z ∈ I, 0 ≤ z ∧ z < 18446744073709551616) ∧ I.length ≤ 16060)
    (hnum : ∀ W, Below w.heap.size w W → Calls Tryz.prog 66 #[.agg #[.slice aw ws.length cw, .int .i64 semi, .int .i64 toh, .int .i64 top, .bool cyc, .int .i64 scan, .int .i64 old, .int .i64 copied, .int .i64 serial, .slice ar rs.length cr]] W fun e w' => ∃ v', e = .returned v' ∧ UR W.heap.size w' v' I ∧ Below W.heap.size W w') :
    Calls Tryz.prog 20 #[.agg #[.slice aw ws.length cw, .int .i64 semi, .int .i64 toh, .int .i64 top, .bool cyc, .int .i64 scan, .int .i64 old, .int .i64 copied, .int .i64 serial, .slice ar rs.length cr]] w fun e w' => ∃ v', e = .returned (.tuple #[v', .bool true]) ∧ BR w.heap.size w' v' (bytesU I) ∧ Below w.heap.size w w' := by
  have HS : Hid (Sl w (.slice aw ws.length cw) ws) := hs
  have HR : Hid (SlF w.heap.size w (.slice ar rs.length cr) rs.length (2 * rs.length) (fun i => .int .i64 (y i))) := hrt.here
  have HQ : Hid (ArOk ws semi toh top cyc scan old copied serial y rs.length) := hok
  have HNM : Hid (∀ W, Below w.heap.size w W → Calls Tryz.prog 66 #[.agg #[.slice aw ws.length cw, .int .i64 semi, .int .i64 toh, .int .i64 top, .bool cyc, .int .i64 scan, .int .i64 old, .int .i64 copied, .int .i64 serial, .slice ar rs.length cr]] W fun e w' => ∃ v', e = .returned v' ∧ UR W.heap.size w' v' I ∧ Below W.heap.size W w') := hnum
  have HI : Hid (∀ k, k < I.length → 0 ≤ I.getD k 0 ∧ I.getD k 0 < 18446744073709551616) := fun k hk => hI.1 _ (by simp [hk])
  have hIl := hI.2
  have hIl' : (I.length : Int) ≤ 16060 := by omega
  clear hs hrt hok hnum hI
  go_enter Tryz.func20, Tryz.ntmps20
  go_wp2_with fail
  refine (specArenaOk_at _ _ _ _ _ _ _ _ _ _ _ _ _ _ y w.heap.size _ (HS.out.below (below_first (Below.refl _ _))) hn hw (HR.out.below (below_first (Below.refl _ _)) (Nat.le_refl _)) hn2).mono ?_
  rintro e w1 ⟨q, rfl, hq, b1⟩
  obtain rfl := hq.2 HQ.out
  have B1 := below_first b1
  have k1 := one_cells b1 (by simp)
  clear b1 hq
  go_wp2_with fail
  refine (HNM.out _ B1).mono ?_
  rintro e w2 ⟨v2, rfl, u2, b2⟩
  obtain ⟨va, vc, rfl⟩ := UR.form u2
  have B2 : Hid (Below w.heap.size w w2) := below_next B1 b2
  have U2 : Hid (SlF w2.heap.size w2 (.slice va I.length vc) I.length I.length (fun i => .int .u64 (I.getD i 0))) := UR.sl u2
  clear u2 b2 k1 B1 HNM HS HR HQ
  go_upto_region 5 with fail
  obtain ⟨w3, hw3⟩ : ∃ V, V = w2.alloc (.cells #[] 5) := ⟨_, rfl⟩
  rw [← hw3]
  have R3 : Hid (BR w2.heap.size w3 (.slice (some ⟨w2.heap.size, 0, none⟩) 0 0) []) := by rw [hw3]; exact bytes_empty
  have B3 : Hid (Below w2.heap.size w2 w3) := by rw [hw3]; exact (Below.refl _ _).alloc (Nat.le_refl _) _
  clear hw3
  go_wp2_with fail
  go_loopw [5, 6] (fun v i wr => ∃ (k : Nat) (u : Value), k ≤ I.length ∧ u = v ∧ i = .int .i64 k ∧ BR w2.heap.size wr u (bytesU (I.take k)) ∧ Below w2.heap.size w2 wr) (fun _ i _ => I.length - (intOf i).toNat)
  case atStart => exact ⟨0, _, Nat.zero_le _, rfl, rfl, by simpa [bytesU] using R3.out, B3.out⟩
  case round =>
    obtain ⟨k, u, hk, rfl, rfl, hR, hF⟩ := hrel
    by_cases hlt : k < I.length
    · have hlt' : (k : Int) < (I.length : Int) := by omega
      obtain ⟨bx, ox, cx, hv, _, lbx, hcx⟩ := U2.out.parts (k := k) hlt
      simp only [Value.slice.injEq] at hv
      obtain ⟨rfl, _, rfl⟩ := hv
      have x0 : wr.cell? ⟨bx, ox + k, none⟩ = some (.int .u64 (I.getD k 0)) := by rw [hF.cell (p := ⟨bx, ox + k, none⟩) lbx]; exact hcx k hlt
      obtain ⟨z0, z1⟩ := HI.out k hlt
      have hT : bytesU (I.take (k + 1)) = bytesU (I.take k) ++ le8 (I.getD k 0) 8 := bytesU_take hlt
      have HT : Hid (bytesU (I.take (k + 1)) = bytesU (I.take k) ++ le8 (I.getD k 0) 8) := hT
      have hl : (bytesU (I.take k)).length ≤ 200000 := by rw [bytesU_len, List.length_take]; omega
      have HRr : Hid (BR w2.heap.size wr u (bytesU (I.take k))) := hR
      have HF : Hid (Below w2.heap.size w2 wr) := hF
      have zr := hF.size
      generalize I.getD k 0 = z at x0 z0 z1 HT
      generalize bytesU (I.take k) = xs at HRr HT hl
      clear hcx hT hR hF
      go_wp2_with (go_at_call 67; refine (l15Bytes_at w2.heap.size u xs z _ HRr.out zr hl z0 z1).mono ?_; rintro e w4 ⟨v4, rfl, r4, b4⟩; have HR4 : Hid (BR w2.heap.size w4 v4 (bytesU (I.take (k + 1)))) := (by show BR _ _ _ _; rw [HT.out]; exact r4); have HF4 : Hid (Below w2.heap.size w2 w4) := HF.out.trans b4; clear r4 b4 HRr HF HT)
      go_roundw
      case rel => exact ⟨k + 1, _, by omega, rfl, by go_num, HR4.out, HF4.out⟩
      case measure => simp [intOf]; omega
    · have hge : (I.length : Int) ≤ (k : Int) := by omega
      obtain rfl : k = I.length := by omega
      rw [List.take_length] at hR
      have HRr : Hid (BR w.heap.size wr u (bytesU I)) := BR.mono hR (B2.out.size)
      have HF : Hid (Below w.heap.size w wr) := B2.out.trans (hF.mono B2.out.size)
      clear hR hF
      go_wp2
      go_ret2
      exact ⟨_, rfl, HRr.out, HF.out⟩
end Go.Proofs.YtmckcnmlhgpnhaaGreat
