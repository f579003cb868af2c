/- The laws' markText of greater numbers; markIntS and heldIntS at a row of ints that is owned. -/
import Derived.Test.YtiglkhkfbgjjoaaDoorPPbO
import Derived.Test.YtiglkhkfbgjjoaaDoorPBnA
import Derived.BigQuiet
import Derived.Deep.QuietTactic
import Derived.Deep.RegionHeld3
import Derived.Test.YtiglkhkfbgjjoaaDoorPPcA
import Derived.Test.YtiglkhkfbgjjoaaDoorPMpY
namespace Go.Proofs.YtiglkhkfbgjjoaaDoor
set_option maxRecDepth 20000
open Go.RowKit Go.PlainAid Go.Maps
set_option linter.unusedSimpArgs false
set_option linter.unusedVariables false

/-- The text that marks a place, of nine digits at most. -/
def mty (k : Nat) : ByteArray := ⟨#[109]⟩ ++ dgs 9 k ⟨#[]⟩
set_option maxHeartbeats 1000000 in
theorem markText9_by (k : Nat) (M : ByteArray) (w : World) (h0 : 0 < k) (h1 : (k : Int) ≤ 900000000) (hM : ∀ o : ByteArray, o = dgs 9 k ⟨#[]⟩ → (⟨#[109]⟩ : ByteArray) ++ o = M) :
    Calls Tryd.prog 29 #[.int .i64 (k : Int)] w fun e w' => e = .returned (.string M) ∧ Below w.heap.size w w' := by
  have h0' : 0 < (k : Int) := by omega
  have HX : Hid (∀ o : ByteArray, o = dgs 9 k ⟨#[]⟩ → (⟨#[109]⟩ : ByteArray) ++ o = M) := hM
  clear hM
  go_enter Tryd.func29, Tryd.ntmps29
  go_wp2
  go_loopw [0, 3] (fun q o wr => ∃ (n j : Nat) (s : ByteArray), q = .int .i64 (j : Int) ∧ o = .string s ∧ j < 10 ^ n ∧ n ≤ 9 ∧ s.size + n ≤ 9 ∧ Hid (dgs n j s = dgs 9 k ⟨#[]⟩) ∧ Hid (Below w.heap.size w wr)) (fun q _ _ => (intOf q).toNat)
  case atStart => exact ⟨9, k, ⟨#[]⟩, rfl, rfl, by simp only [Nat.reducePow]; omega, Nat.le_refl _, (show 0 + 9 ≤ 9 by omega), rfl, Below.refl _ _⟩
  case round =>
    obtain ⟨n, j, s, rfl, rfl, hj, hn, hs, hd, hB⟩ := hrel
    by_cases hp : 0 < j
    · have hp' : 0 < (j : Int) := by omega
      have h5 : 10 ^ n ≤ 10 ^ 9 := Nat.pow_le_pow_right (by omega) hn
      simp only [Nat.reducePow] at h5
      have hj' : (j : Int) ≤ 1000000000 := by omega
      obtain ⟨n, rfl⟩ : ∃ m, n = m + 1 := by
        cases n with
        | zero => simp at hj; omega
        | succ m => exact ⟨m, rfl⟩
      have hd2 : Hid (dgs n (j / 10) (one1 (48 + ((j % 10 : Nat) : Int)) ++ s) = dgs 9 k ⟨#[]⟩) := by
        have := hd.out
        unfold dgs at this
        rw [if_pos hp] at this
        exact this
      have hj2 : j / 10 < 10 ^ n := by
        rw [Nat.pow_succ] at hj
        omega
      have hlt : j / 10 < j := by omega
      have hm : (j : Int).tmod 10 = ((j % 10 : Nat) : Int) := by rw [Int.tmod_eq_emod_of_nonneg (by omega)]; omega
      have hdv : (j : Int).tdiv 10 = ((j / 10 : Nat) : Int) := by rw [Int.tdiv_eq_ediv_of_nonneg (by omega)]; omega
      have hm1 : ((j % 10 : Nat) : Int) ≤ 9 := by omega
      have hm0 : 0 ≤ ((j % 10 : Nat) : Int) := by omega
      have hB2 : Hid (∀ o, Below w.heap.size w (wr.alloc o)) := fun o => hB.out.alloc hB.out.size o
      generalize ((j % 10 : Nat) : Int) = r at *
      generalize j / 10 = q at *
      have hcv : ∀ z, (convert 28 9 (.slice (some ⟨wr.heap.size, 0, none⟩) 1 1)).run Tryd.prog (wr.alloc (.cells #[.int .u8 z] 5)) = .ok (.string (one1 z)) (wr.alloc (.cells #[.int .u8 z] 5)) := fun z => conv_one _ _ z (by simp [go_sem])
      have hs1 : ∀ z, (one1 z).size = 1 := one1_size
      have hs2 : (s.size : Int) ≤ 9 := by omega
      clear hd hj h5
      go_wp2
      go_roundw
      case rel =>
        refine ⟨n, q, _, by go_num, rfl, hj2, by omega, ?_, hd2, hB2.out _⟩
        rw [ByteArray.size_append, hs1]
        omega
      case measure => simp [intOf]; omega
    · have hp' : ¬ 0 < (j : Int) := by omega
      have e : s = dgs 9 k ⟨#[]⟩ := by
        rw [← hd.out]
        cases n with
        | zero => rfl
        | succ n => unfold dgs; rw [if_neg hp]
      have hs2 : (s.size : Int) ≤ 9 := by omega
      have HY : Hid ((⟨#[109]⟩ : ByteArray) ++ s = M) := HX.out s e
      clear e hd HX
      go_wp2
      go_ret
      exact ⟨by rw [← HY.out]; rfl, hB.out⟩
theorem markText9_at (k : Nat) (w : World) (h0 : 0 < k) (h1 : (k : Int) ≤ 900000000) :
    Calls Tryd.prog 29 #[.int .i64 (k : Int)] w fun e w' => e = .returned (.string (mty k)) ∧ Below w.heap.size w w' :=
  markText9_by k (mty k) w h0 h1 (fun o ho => by rw [ho]; rfl)
/-- Numbers from k on. -/
def mkK (k n : Nat) : List Int := (List.range n).map fun j => ((k + j : Nat) : Int)
theorem mkK_len (k n : Nat) : (mkK k n).length = n := by simp [mkK]
theorem mkK_succ (k n : Nat) : mkK k (n + 1) = mkK k n ++ [((k + n : Nat) : Int)] := by
  unfold mkK
  rw [List.range_succ, List.map_append]
  rfl
theorem icl_set (A : List Int) (x y : Int) (R : List Int) (j : Nat) (h : A.length = j) : (icl (A ++ x :: R)).set j (.int .i64 y) = icl ((A ++ [y]) ++ R) := by
  subst h
  unfold icl
  simp
theorem grownBy_trans {w w1 w2 : World} {r : Option Nat} (h : w.grownBy w1 r) (k : w1.grownBy w2 r) : w.grownBy w2 r := ⟨k.os.trans h.os, k.tape.trans h.tape, k.output.trans h.output, Nat.le_trans h.size k.size, fun j hj hr => (k.block j (Nat.lt_of_lt_of_le hj h.size) hr).trans (h.block j hj hr)⟩
theorem grownBy_refl (w : World) (r : Option Nat) : w.grownBy w r := ⟨rfl, rfl, rfl, Nat.le_refl _, fun _ _ _ => rfl⟩
theorem grownBy_below {w w1 : World} (h : Below w.heap.size w w1) (r : Option Nat) : w.grownBy w1 r := ⟨h.os, h.tape, h.output, h.size, fun k hk _ => h.block k hk⟩
theorem below_grownR {B : Nat} {w w1 : World} {r : Option Nat} (h : w.grownBy w1 r) (hr : ∀ g, r = some g → B ≤ g) (hB : B ≤ w.heap.size) : Below B w w1 := ⟨h.os, h.tape, h.output, h.size, fun k hk => h.block k (by omega) (fun e => by have := hr k e.symm; omega)⟩
set_option maxHeartbeats 1000000 in
theorem markIntR_at (B : Nat) (u : Value) (xs : List Int) (k0 : Nat) (w : World) (h : IR B w u xs) (hl : xs.length ≤ 4000) (hk : (k0 : Int) ≤ 800000000) :
    Calls Tryd.prog 102 #[u, .int .i64 (k0 : Int)] w fun e w' => e = .returned (.int .i64 ((k0 + xs.length : Nat) : Int)) ∧ IR B w' u (mkK k0 xs.length) ∧ w.grownBy w' u.ownBlock := by
  have hl' : (xs.length : Int) ≤ 4000 := by omega
  obtain ⟨va, vc, rfl⟩ := h.form
  have HI : Hid (IR B w (.slice va xs.length vc) xs) := h
  clear h
  obtain ⟨L, hL⟩ : ∃ L, L = xs.length := ⟨_, rfl⟩
  rw [← hL] at HI hl hl' ⊢
  have HL : Hid (L = xs.length) := hL
  clear hL
  go_enter Tryd.func102, Tryd.ntmps102
  go_wp2
  go_loopw [1, 5] (fun kk q wr => ∃ j : Nat, j ≤ L ∧ kk = .int .i64 ((k0 : Int) + (j : Int)) ∧ q = .int .i64 j ∧ Hid (IR B wr (.slice va L vc) (mkK k0 j ++ xs.drop j)) ∧ Hid (w.grownBy wr (Value.slice va L vc).ownBlock)) (fun _ q _ => L - (intOf q).toNat)
  case atStart => exact ⟨0, Nat.zero_le _, by simp, rfl, HI, grownBy_refl _ _⟩
  case round =>
    obtain ⟨j, hj, rfl, rfl, hI, hG⟩ := hrel
    by_cases hlt : j < L
    · have hlt' : (j : Int) < L := by omega
      have hjX : j < xs.length := by rw [← HL.out]; exact hlt
      have hlen : (mkK k0 j ++ xs.drop j).length = L := by rw [List.length_append, mkK_len, List.length_drop, ← HL.out]; omega
      have hI' := hI.out
      unfold IR at hI'
      rw [hlen, List.drop_eq_getElem_cons hjX] at hI'
      obtain ⟨x, hx⟩ : ∃ x, x = xs[j] := ⟨_, rfl⟩
      rw [← hx] at hI'
      obtain ⟨g, cap, hv⟩ : ∃ g cap, (Value.slice va L vc) = .slice (some ⟨g, 0, none⟩) L cap := by
        rcases hI'.2 with ⟨_, h0⟩ | ⟨g, cap, cur, h0, _⟩
        · omega
        · exact ⟨g, cap, h0⟩
      simp only [Value.slice.injEq, true_and] at hv
      obtain ⟨rfl, rfl⟩ := hv
      have hst := hI'.stored j (.int .i64 ((k0 : Int) + (j : Int)))
      rw [icl_set _ _ _ _ j (mkK_len k0 j)] at hst
      have e0 := hI'.cellAt j (by omega)
      have hxl : (icl (mkK k0 j ++ x :: xs.drop (j + 1))).length = L * 1 := hI'.1
      obtain ⟨y0, hy0⟩ : ∃ y, (icl (mkK k0 j ++ x :: xs.drop (j + 1)))[j]? = some y := ⟨_, List.getElem?_eq_getElem (by omega)⟩
      rw [hy0] at e0
      have f0 := hI'.frozenAt j
      have HS1 : Hid (IR B (wr.setCell ⟨g, j, none⟩ (.int .i64 ((k0 : Int) + (j : Int)))) (.slice (some ⟨g, 0, none⟩) L vc) (mkK k0 (j + 1) ++ xs.drop (j + 1))) := by
        show IR _ _ _ _
        unfold IR
        have hl2 : (mkK k0 (j + 1) ++ xs.drop (j + 1)).length = L := by rw [List.length_append, mkK_len, List.length_drop, ← HL.out]; omega
        rw [hl2, mkK_succ]
        exact hst.1
      have HG1 : Hid (w.grownBy (wr.setCell ⟨g, j, none⟩ (.int .i64 ((k0 : Int) + (j : Int)))) (some g)) := grownBy_trans hG.out hst.2
      have hgw := (World.ownsRow.lt hI' g rfl).2
      clear hI' hst hxl hy0 hI hG hlen hx
      go_wp2
      go_roundw
      case rel => exact ⟨j + 1, by omega, by go_num, by go_num, HS1, HG1⟩
      case measure => simp [intOf]; omega
    · obtain rfl : j = L := by omega
      have hge : (j : Int) ≤ (j : Int) := Int.le_refl _
      go_wp2
      go_ret
      refine ⟨by simp, ?_, hG.out⟩
      have := hI.out
      rw [List.drop_eq_nil_of_le (by rw [← HL.out]; exact Nat.le_refl _), List.append_nil] at this
      exact this
set_option maxHeartbeats 1000000 in
theorem heldIntR_at (B : Nat) (u : Value) (k0 L : Nat) (w : World) (h : IR B w u (mkK k0 L)) (hl : L ≤ 4000) (hk : (k0 : Int) ≤ 800000000) :
    Calls Tryd.prog 103 #[u, .int .i64 (k0 : Int)] w fun e w' => e = .returned (.int .i64 ((k0 + L : Nat) : Int)) ∧ Below w.heap.size w w' := by
  have hl' : (L : Int) ≤ 4000 := by omega
  obtain ⟨va, vc, hv⟩ := h.form
  rw [mkK_len] at hv
  subst hv
  have HI : Hid (IR B w (.slice va L vc) (mkK k0 L)) := h
  clear h
  go_enter Tryd.func103, Tryd.ntmps103
  go_wp2
  go_loopw [1, 5] (fun kk q wr => ∃ j : Nat, j ≤ L ∧ kk = .int .i64 ((k0 : Int) + (j : Int)) ∧ q = .int .i64 j ∧ Hid (Below w.heap.size w wr)) (fun _ q _ => L - (intOf q).toNat)
  case atStart => exact ⟨0, Nat.zero_le _, by simp, rfl, Below.refl _ _⟩
  case round =>
    obtain ⟨j, hj, rfl, rfl, hB⟩ := hrel
    by_cases hlt : j < L
    · have hlt' : (j : Int) < L := by omega
      have hI' := HI.out
      unfold IR at hI'
      rw [mkK_len] at hI'
      obtain ⟨g, cap, hv⟩ : ∃ g cap, (Value.slice va L vc) = .slice (some ⟨g, 0, none⟩) L cap := by
        rcases hI'.2 with ⟨_, h0⟩ | ⟨g, cap, cur, h0, _⟩
        · omega
        · exact ⟨g, cap, h0⟩
      simp only [Value.slice.injEq, true_and] at hv
      obtain ⟨rfl, rfl⟩ := hv
      have hgw := (World.ownsRow.lt hI' g rfl).2
      have e0 : wr.cell? ⟨g, j, none⟩ = some (.int .i64 ((k0 : Int) + (j : Int))) := by
        rw [hB.out.cell (p := ⟨g, j, none⟩) hgw, hI'.cellAt j (by omega)]
        unfold icl mkK
        simp [hlt]
      clear hI'
      go_wp2
      go_roundw
      case rel => exact ⟨j + 1, by omega, by go_num, by go_num, hB⟩
      case measure => simp [intOf]; omega
    · obtain rfl : j = L := by omega
      have hge : (j : Int) ≤ (j : Int) := Int.le_refl _
      go_wp2
      go_ret
      exact ⟨by simp, hB.out⟩
end Go.Proofs.YtiglkhkfbgjjoaaDoor

/- The laws' markTree and heldTree at a row of nodes that is owned. -/
namespace Go.Proofs.YtiglkhkfbgjjoaaDoor
set_option maxRecDepth 20000
open Go.RowKit Go.PlainAid Go.Maps
set_option linter.unusedSimpArgs false
set_option linter.unusedVariables false

/-- The nodes of a row, marked from k on; where the marks end. -/
def mkNd (k : Nat) (x : KnL) : KnL := ⟨(k : Int), mty (k + 1), ((k + 2 : Nat) : Int), mkK (k + 3) x.ks.length⟩
def mkNs : Nat → List KnL → List KnL
  | _, [] => []
  | k, x :: xs => mkNd k x :: mkNs (k + 3 + x.ks.length) xs
def cntN : Nat → List KnL → Nat
  | k, [] => k
  | k, x :: xs => cntN (k + 3 + x.ks.length) xs
theorem cntN_snoc : ∀ (A : List KnL) (k : Nat) (x : KnL), cntN k (A ++ [x]) = cntN k A + 3 + x.ks.length
  | [], k, x => rfl
  | y :: A, k, x => cntN_snoc A _ x
theorem mkNs_snoc : ∀ (A : List KnL) (k : Nat) (x : KnL), mkNs k (A ++ [x]) = mkNs k A ++ [mkNd (cntN k A) x]
  | [], k, x => rfl
  | y :: A, k, x => by
    show mkNd k y :: mkNs _ (A ++ [x]) = mkNd k y :: (mkNs _ A ++ _)
    rw [mkNs_snoc A _ x]
    rfl
theorem mkNs_len : ∀ (A : List KnL) (k : Nat), (mkNs k A).length = A.length
  | [], k => rfl
  | y :: A, k => by
    show (mkNs _ A).length + 1 = A.length + 1
    rw [mkNs_len A]
theorem cntN_le : ∀ (A : List KnL) (k M : Nat), (∀ x ∈ A, x.ks.length ≤ M) → cntN k A ≤ k + A.length * (M + 3)
  | [], k, M, _ => by simp [cntN]
  | y :: A, k, M, h => by
    have h1 := cntN_le A (k + 3 + y.ks.length) M (fun x hx => h x (List.mem_cons_of_mem _ hx))
    have h2 := h y List.mem_cons_self
    show cntN (k + 3 + y.ks.length) A ≤ k + (A.length + 1) * (M + 3)
    rw [Nat.add_mul]
    omega
theorem knC_split : ∀ (A : List KnL) (KA : List Value), A.length = KA.length → ∀ (x : KnL) (u : Value) (R : List KnL) (KR : List Value), knC (A ++ x :: R) (KA ++ u :: KR) = knC A KA ++ ([.int .i64 x.k, .string x.t, .int .i64 x.i, u] ++ knC R KR)
  | [], [], _, x, u, R, KR => rfl
  | y :: A, z :: KA, h, x, u, R, KR => by
    show [.int .i64 y.k, .string y.t, .int .i64 y.i, z] ++ knC (A ++ x :: R) (KA ++ u :: KR) = ([.int .i64 y.k, .string y.t, .int .i64 y.i, z] ++ knC A KA) ++ _
    rw [knC_split A KA (by simpa using h), List.append_assoc]
theorem knC_put (A : List KnL) (KA : List Value) (h : A.length = KA.length) (x y : KnL) (u : Value) (R : List KnL) (KR : List Value) (j : Nat) (hj : A.length = j) :
    (((knC (A ++ x :: R) (KA ++ u :: KR)).set (j * 4) (.int .i64 y.k)).set (j * 4 + 1) (.string y.t)).set (j * 4 + 2) (.int .i64 y.i) = knC (A ++ y :: R) (KA ++ u :: KR) := by
  have hl : (knC A KA).length = j * 4 := by rw [knC_len h, hj]
  rw [knC_split A KA h, knC_split A KA h]
  have g : ∀ (r : Nat) (Z : List Value) (v : Value), (knC A KA ++ Z).set (j * 4 + r) v = knC A KA ++ Z.set r v := fun r Z v => by
    rw [List.set_append_right _ _ (by omega)]
    congr 2
    omega
  have g0 := g 0
  simp only [Nat.add_zero] at g0
  rw [g0, g, g]
  rfl
/-- One node is marked, and its Kids. -/
theorem NdR.remark {B : Nat} {wr w3 w4 : World} {g n c : Nat} {A R : List KnL} {x y : KnL} {KA KR : List Value} {u : Value} (h : NdR B wr (.slice (some ⟨g, 0, none⟩) n c) (A ++ x :: R) (KA ++ u :: KR)) (hA : A.length = KA.length)
    (O3 : w3.ownsRow B 71 4 (.slice (some ⟨g, 0, none⟩) n c) (A ++ y :: R).length (knC (A ++ y :: R) (KA ++ u :: KR))) (hG : wr.grownBy w3 (some g)) (hI : IR B w4 u y.ks) (hG2 : w3.grownBy w4 u.ownBlock) : NdR B w4 (.slice (some ⟨g, 0, none⟩) n c) (A ++ y :: R) (KA ++ u :: KR) := by
  have hu : (KA ++ u :: KR)[A.length]? = some u := by rw [hA]; simp
  have hgu : (Value.slice (some ⟨g, 0, none⟩) n c).ownBlock ≠ u.ownBlock := fun e => h.ne A.length u g hu e.symm rfl
  refine ⟨by have := h.len; simpa using this, World.ownsRow.kept O3 hG2 (.inr hgu), fun i z q hz hq => ?_, h.ne, h.nd⟩
  by_cases hi : i = A.length
  · subst hi
    rw [hu] at hq
    injection hq with hq
    subst hq
    have hz' : z = y := by simpa using hz.symm
    rw [hz']
    exact hI
  · have hz' : (A ++ x :: R)[i]? = some z := by
      rcases Nat.lt_or_ge i A.length with h1 | h1
      · rw [List.getElem?_append_left h1] at hz ⊢
        exact hz
      · rw [List.getElem?_append_right h1] at hz ⊢
        obtain ⟨m, hm⟩ : ∃ m, i - A.length = m + 1 := ⟨i - A.length - 1, by omega⟩
        rw [hm] at hz ⊢
        simpa using hz
    have k1 := h.kid i z q hz' hq
    have n1 : q.ownBlock = none ∨ q.ownBlock ≠ some g := by
      cases e : q.ownBlock with
      | none => exact .inl rfl
      | some r => exact .inr (fun e2 => h.ne i q g hq (by rw [e, e2]) rfl)
    have n2 : q.ownBlock = none ∨ q.ownBlock ≠ u.ownBlock := by
      cases e : q.ownBlock with
      | none => exact .inl rfl
      | some r => exact .inr (fun e2 => h.nd i A.length q u r hq hu hi e e2.symm)
    exact World.ownsRow.kept (World.ownsRow.kept k1 hG n1) hG2 n2
set_option maxHeartbeats 2000000 in
theorem markKnotS_at (B C : Nat) (v : Value) (ns : List KnL) (kv : List Value) (w : World) (h : NdR B w v ns kv) (hB0 : B ≤ w.heap.size) (hl : ns.length ≤ 30000) (hk : ∀ x ∈ ns, x.ks.length ≤ 4000) (hvC : ∀ g, v.ownBlock = some g → g < C) (huC : ∀ u ∈ kv, ∀ g, u.ownBlock = some g → g < C) :
    Calls Tryd.prog 48 #[v, .int .i64 1] w fun e w' => e = .returned (.int .i64 (cntN 1 ns : Int)) ∧ NdR B w' v (mkNs 1 ns) kv ∧ Below B w w' ∧ (∀ k, k < w.heap.size → C ≤ k → w'.heap[k]? = w.heap[k]?) := by
  obtain ⟨va, vc, rfl⟩ := h.form
  obtain ⟨L, hL⟩ : ∃ L, L = ns.length := ⟨_, rfl⟩
  have hl' : (L : Int) ≤ 30000 := by omega
  have HN : Hid (NdR B w (.slice va L vc) ns kv) := by show NdR _ _ _ _ _; rw [hL]; exact h
  rw [← hL]
  have HL : Hid (L = ns.length) := hL
  have HKK : Hid (∀ x ∈ ns, x.ks.length ≤ 4000) := hk
  have HLL : Hid (ns.length ≤ 30000) := hl
  have HVC : Hid (∀ g, (Value.slice va L vc).ownBlock = some g → g < C) := by intro g e; exact hvC g (by rw [← hL]; exact e)
  have HUC : Hid (∀ u ∈ kv, ∀ g, u.ownBlock = some g → g < C) := huC
  clear h hk hL hl hvC huC
  go_enter Tryd.func48, Tryd.ntmps48
  go_wp2
  go_loopw [1, 5] (fun kk q wr => ∃ (j : Nat) (A R : List KnL), j ≤ L ∧ kk = .int .i64 (cntN 1 A : Int) ∧ q = .int .i64 j ∧ Hid (ns = A ++ R ∧ A.length = j) ∧ Hid (NdR B wr (.slice va L vc) (mkNs 1 A ++ R) kv) ∧ Hid (Below B w wr) ∧ Hid (∀ k, k < w.heap.size → C ≤ k → wr.heap[k]? = w.heap[k]?)) (fun _ q _ => L - (intOf q).toNat)
  case atStart => exact ⟨0, [], ns, Nat.zero_le _, rfl, rfl, ⟨rfl, rfl⟩, HN, Below.refl _ _, fun _ _ _ => rfl⟩
  case round =>
    obtain ⟨j, A, R, hj, rfl, rfl, HA, hN, hB, HQ⟩ := hrel
    obtain ⟨hnA, hAj⟩ := HA.out
    have hlen : A.length + R.length = L := by rw [HL.out, hnA, List.length_append]
    by_cases hlt : j < L
    · have hlt' : (j : Int) < L := by omega
      obtain ⟨x, R, rfl⟩ : ∃ x R', R = x :: R' := by
        cases R with
        | nil => simp at hlen; omega
        | cons x R' => exact ⟨x, R', rfl⟩
      have hx4 : x.ks.length ≤ 4000 := HKK.out x (by rw [hnA]; simp)
      have hc1 := cntN_le A 1 4000 (fun y hy => HKK.out y (by rw [hnA]; exact List.mem_append_left _ hy))
      have hA3 : A.length ≤ 30000 := by have := HLL.out; rw [HL.out] at hlen; omega
      have hcM : cntN 1 A ≤ 121000000 := by have : A.length * 4003 ≤ 30000 * 4003 := Nat.mul_le_mul_right _ hA3; omega
      obtain ⟨k, hk⟩ : ∃ k, k = cntN 1 A := ⟨_, rfl⟩
      have HK : Hid (k = cntN 1 A) := hk
      rw [← hk] at hcM ⊢
      have hk' : (k : Int) ≤ 121000000 := by omega
      have hN' := hN.out
      have hml : (mkNs 1 A).length = j := by rw [mkNs_len]; exact hAj
      have hkl : kv.length = j + (R.length + 1) := by have := hN'.len; rw [List.length_append, hml] at this; simpa using this.symm
      obtain ⟨KA, u, KR, hkv, hKA⟩ : ∃ KA u KR, kv = KA ++ u :: KR ∧ KA.length = j := by
        refine ⟨kv.take j, kv[j]'(by omega), kv.drop (j + 1), ?_, by rw [List.length_take]; omega⟩
        rw [← List.drop_eq_getElem_cons (by omega), List.take_append_drop]
      subst hkv
      have hnl : (mkNs 1 A ++ x :: R).length = L := by rw [List.length_append, hml]; simp only [List.length_cons] at hlen ⊢; omega
      obtain ⟨g, cap, hv⟩ : ∃ g cap, (Value.slice va L vc) = .slice (some ⟨g, 0, none⟩) L cap := by
        rcases hN'.own.2 with ⟨_, h0⟩ | ⟨g, cap, cur, h0, _⟩
        · omega
        · rw [hnl] at h0; exact ⟨g, cap, h0⟩
      simp only [Value.slice.injEq, true_and] at hv
      obtain ⟨rfl, rfl⟩ := hv
      have O0 := hN'.own
      rw [hnl] at O0
      have hgB := World.ownsRow.lt O0 g rfl
      have hIu : IR B wr u x.ks := hN'.kid j x u (by rw [← hml]; simp) (by rw [← hKA]; simp)
      obtain ⟨ua, uc, hu⟩ := hIu.form
      subst hu
      obtain ⟨e0, e1, e2, e3⟩ := knC_at hN'.len j x (.slice ua x.ks.length uc) (by rw [← hml]; simp) (by rw [← hKA]; simp)
      have d0 := (O0.cellAt (j * 4) (by omega)).trans e0
      have d1 := (O0.cellAt (j * 4 + 1) (by omega)).trans e1
      have d2 := (O0.cellAt (j * 4 + 2) (by omega)).trans e2
      have d3 := (O0.cellAt (j * 4 + 3) (by omega)).trans e3
      have f0 := fun r => O0.frozenAt r
      obtain ⟨hg1, hg2⟩ := hgB
      obtain ⟨xs, hxs⟩ : ∃ xs, xs = knC (mkNs 1 A ++ x :: R) (KA ++ .slice ua x.ks.length uc :: KR) := ⟨_, rfl⟩
      rw [← hxs] at O0
      have HXS : Hid (xs = knC (mkNs 1 A ++ x :: R) (KA ++ .slice ua x.ks.length uc :: KR)) := hxs
      have HO : Hid (wr.ownsRow B 71 4 (.slice (some ⟨g, 0, none⟩) L vc) L xs) := O0
      have HN0 : Hid (NdR B wr (.slice (some ⟨g, 0, none⟩) L vc) (mkNs 1 A ++ x :: R) (KA ++ .slice ua x.ks.length uc :: KR)) := hN'
      have HIU : Hid (IR B wr (.slice ua x.ks.length uc) x.ks) := hIu
      have HME : Hid ((mkNs 1 A).length = j ∧ KA.length = j ∧ (mkNs 1 A ++ x :: R).length = L ∧ x.ks.length ≤ 4000) := ⟨hml, hKA, hnl, hx4⟩
      have hug : ∀ q, (Value.slice ua x.ks.length uc).ownBlock = some q → q ≠ g := fun q e e2 => hN'.ne j (.slice ua x.ks.length uc) g (by rw [← hKA]; simp) (by rw [e, e2]) rfl
      have HUG : Hid (∀ q, (Value.slice ua x.ks.length uc).ownBlock = some q → q ≠ g) := hug
      clear hN hN' O0 e0 e1 e2 e3 hxs hIu hml hKA hnl hug hlen hc1 hA3 hcM hkl hk hnA hAj hx4
      go_wp2_with fail
      obtain ⟨w2, hw2⟩ : ∃ V, V = wr.setCell ⟨g, j * 4, none⟩ (.int .i64 (k : Int)) := ⟨_, rfl⟩
      have O2 : w2.ownsRow B 71 4 (.slice (some ⟨g, 0, none⟩) L vc) L (xs.set (j * 4) (.int .i64 (k : Int))) := by rw [hw2]; exact (HO.out.stored _ _).1
      have G2 : wr.grownBy w2 (some g) := by rw [hw2]; exact (HO.out.stored _ _).2
      have HO2 : Hid _ := O2
      have HG2 : Hid (wr.grownBy w2 (some g)) := G2
      rw [← hw2]
      clear hw2 O2 G2 d0
      have hmt := markText9_at (k + 1) w2 (by omega) (by omega)
      have hkc : ((k + 1 : Nat) : Int) = (k : Int) + 1 := by omega
      rw [hkc] at hmt
      refine hmt.mono ?_
      rintro e w3 ⟨rfl, b3⟩
      have HO3 : Hid (w3.ownsRow B 71 4 (.slice (some ⟨g, 0, none⟩) L vc) L (xs.set (j * 4) (.int .i64 (k : Int)))) := ownsRow_blocks (show w2.ownsRow B 71 4 (.slice (some ⟨g, 0, none⟩) L vc) L (xs.set (j * 4) (.int .i64 (k : Int))) from HO2.out) (Nat.le_refl _) (fun q _ h2 => b3.block q h2)
      have HG3 : Hid (wr.grownBy w3 (some g)) := grownBy_trans HG2.out (grownBy_below b3 _)
      clear hmt HO2 HG2 b3 d1 d2 d3 f0
      have hz : (xs.set (j * 4) (.int .i64 (k : Int))).length = L * 4 := HO3.out.1
      have c1 := HO3.out.cellAt (j * 4 + 1) (by omega)
      obtain ⟨y1, hy1⟩ : ∃ y, (xs.set (j * 4) (.int .i64 (k : Int)))[j * 4 + 1]? = some y := ⟨_, List.getElem?_eq_getElem (by omega)⟩
      rw [hy1] at c1
      have c2 := HO3.out.cellAt (j * 4 + 2) (by omega)
      obtain ⟨y2, hy2⟩ : ∃ y, (xs.set (j * 4) (.int .i64 (k : Int)))[j * 4 + 2]? = some y := ⟨_, List.getElem?_eq_getElem (by omega)⟩
      rw [hy2] at c2
      have c3 : w3.cell? ⟨g, j * 4 + 3, none⟩ = some (.slice ua x.ks.length uc) := by
        rw [HO3.out.cellAt (j * 4 + 3) (by omega), List.getElem?_set_ne (by omega), HXS.out]
        exact (knC_at HN0.out.len j x (.slice ua x.ks.length uc) (by rw [← HME.out.1]; simp) (by rw [← HME.out.2.1]; simp)).2.2.2
      have f3 := fun r => HO3.out.frozenAt r
      have hg3 := (World.ownsRow.lt HO3.out g rfl).2
      clear hy1 hy2 hz hg2
      go_wp2_with fail
      obtain ⟨w5, hw5⟩ : ∃ V, V = (w3.setCell ⟨g, j * 4 + 1, none⟩ (.string (mty (k + 1)))).setCell ⟨g, j * 4 + 2, none⟩ (.int .i64 ((k : Int) + 1 + 1)) := ⟨_, rfl⟩
      have O4 := HO3.out.stored (j * 4 + 1) (.string (mty (k + 1)))
      have O5 := O4.1.stored (j * 4 + 2) (.int .i64 ((k : Int) + 1 + 1))
      rw [← hw5] at O5
      rw [← hw5]
      have HG5 : Hid (wr.grownBy w5 (some g)) := grownBy_trans (grownBy_trans HG3.out O4.2) O5.2
      have h12 : (k : Int) + 1 + 1 = ((k + 2 : Nat) : Int) := by omega
      have hp5 : w5.ownsRow B 71 4 (.slice (some ⟨g, 0, none⟩) L vc) L (knC (mkNs 1 A ++ mkNd k x :: R) (KA ++ .slice ua x.ks.length uc :: KR)) := by
        rw [← knC_put (mkNs 1 A) KA (by rw [HME.out.1, HME.out.2.1]) x (mkNd k x) _ R KR j HME.out.1, ← HXS.out]
        have := O5.1
        rw [h12] at this
        exact this
      have HP5 : Hid _ := hp5
      have HI5 : Hid (IR B w5 (.slice ua x.ks.length uc) x.ks) := World.ownsRow.kept HIU.out HG5.out (by
        cases e : (Value.slice ua x.ks.length uc).ownBlock with
        | none => exact .inl rfl
        | some q => exact .inr (fun e2 => by injection e2 with e2; exact HUG.out q e e2))
      clear O4 O5 hp5 hw5 HO3 HG3 c1 c2 c3 f3 hg3
      have hmi := markIntR_at B (.slice ua x.ks.length uc) x.ks (k + 3) w5 HI5.out HME.out.2.2.2 (by omega)
      have hk3 : ((k + 3 : Nat) : Int) = (k : Int) + 1 + 1 + 1 := by omega
      rw [hk3] at hmi
      refine hmi.mono ?_
      rintro e w6 ⟨rfl, hI6, hG6⟩
      have HN6 : Hid (NdR B w6 (.slice (some ⟨g, 0, none⟩) L vc) (mkNs 1 (A ++ [x]) ++ R) (KA ++ .slice ua x.ks.length uc :: KR)) := by
        show NdR _ _ _ _ _
        rw [mkNs_snoc, List.append_assoc, ← HK.out]
        refine HN0.out.remark (y := mkNd k x) (by rw [HME.out.1, HME.out.2.1]) ?_ HG5.out hI6 hG6
        have hz : (mkNs 1 A ++ mkNd k x :: R).length = L := by have := HME.out.2.2.1; simp only [List.length_append, List.length_cons] at this ⊢; exact this
        rw [hz]
        exact HP5.out
      have HB6 : Hid (Below B w w6) := by
        have b5 : Below B wr w5 := below_grownR HG5.out (fun q e => by injection e with e; omega) (by have := hB.out.size; omega)
        have b6 : Below B w5 w6 := below_grownR hG6 (fun q e => (World.ownsRow.lt HI5.out q e).1) (by have := b5.size; have := hB.out.size; omega)
        exact (hB.out.trans b5).trans b6
      have HQ6 : Hid (∀ k, k < w.heap.size → C ≤ k → w6.heap[k]? = w.heap[k]?) := fun q h1 h2 => by
        have hs5 := HG5.out.size
        have hsr := hB.out.size
        rw [hG6.block q (by omega) (fun e => by have := HUC.out (.slice ua x.ks.length uc) (by simp) q e.symm; omega), HG5.out.block q (by omega) (fun e => by injection e with e; have := HVC.out g rfl; omega)]
        exact HQ.out q h1 h2
      have HC6 : Hid (k + 3 + x.ks.length = cntN 1 (A ++ [x])) := by show _ = _; rw [cntN_snoc, ← HK.out]
      have HA6 : Hid (ns = (A ++ [x]) ++ R ∧ (A ++ [x]).length = j + 1) := ⟨by rw [HA.out.1]; simp, by rw [List.length_append, HA.out.2]; rfl⟩
      clear hmi hI6 hG6 HN0 HG5 HP5 HI5 HIU HXS HO
      go_wp2_with fail
      go_roundw
      case rel => exact ⟨j + 1, A ++ [x], R, by omega, by rw [← HC6.out]; exact congrArg _ (by omega), by go_num, HA6, HN6, HB6, HQ6⟩
      case measure => simp [intOf]; omega
    · obtain rfl : j = L := by omega
      have hR0 : R = [] := by
        cases R with
        | nil => rfl
        | cons x R' => simp at hlen; omega
      subst hR0
      have hge : (j : Int) ≤ (j : Int) := Int.le_refl _
      have e1 : ns = A := by rw [hnA]; simp
      have HE1 : Hid (ns = A) := e1
      clear hnA hlen hAj e1
      go_wp2
      go_ret
      refine ⟨by rw [HE1.out]; rfl, ?_, hB.out, HQ.out⟩
      have := hN.out
      rw [List.append_nil] at this
      rw [HE1.out]
      exact this
theorem mkNs_app : ∀ (A : List KnL) (k : Nat) (R : List KnL), mkNs k (A ++ R) = mkNs k A ++ mkNs (cntN k A) R
  | [], k, R => rfl
  | y :: A, k, R => by
    show mkNd k y :: mkNs _ (A ++ R) = mkNd k y :: (mkNs _ A ++ _)
    rw [mkNs_app A _ R]
    rfl
set_option maxHeartbeats 2000000 in
theorem heldKnotS_at (B : Nat) (v : Value) (ns : List KnL) (kv : List Value) (w : World) (h : NdR B w v (mkNs 1 ns) kv) (hl : ns.length ≤ 30000) (hk : ∀ x ∈ ns, x.ks.length ≤ 4000) :
    Calls Tryd.prog 49 #[v, .int .i64 1] w fun e w' => e = .returned (.int .i64 (cntN 1 ns : Int)) ∧ Below w.heap.size w w' := by
  obtain ⟨va, vc, hv⟩ := h.form
  rw [mkNs_len] at hv
  subst hv
  obtain ⟨L, hL⟩ : ∃ L, L = ns.length := ⟨_, rfl⟩
  have hl' : (L : Int) ≤ 30000 := by omega
  have HN : Hid (NdR B w (.slice va L vc) (mkNs 1 ns) kv) := by show NdR _ _ _ _ _; rw [hL]; exact h
  rw [← hL]
  have HL : Hid (L = ns.length) := hL
  have HKK : Hid (∀ x ∈ ns, x.ks.length ≤ 4000) := hk
  have HLL : Hid (ns.length ≤ 30000) := hl
  clear h hk hL hl
  go_enter Tryd.func49, Tryd.ntmps49
  go_wp2
  go_loopw [1, 5] (fun kk q wr => ∃ (j : Nat) (A R : List KnL), j ≤ L ∧ kk = .int .i64 (cntN 1 A : Int) ∧ q = .int .i64 j ∧ Hid (ns = A ++ R ∧ A.length = j) ∧ Hid (Below w.heap.size w wr)) (fun _ q _ => L - (intOf q).toNat)
  case atStart => exact ⟨0, [], ns, Nat.zero_le _, rfl, rfl, ⟨rfl, rfl⟩, Below.refl _ _⟩
  case round =>
    obtain ⟨j, A, R, hj, rfl, rfl, HA, hB⟩ := hrel
    obtain ⟨hnA, hAj⟩ := HA.out
    have hlen : A.length + R.length = L := by rw [HL.out, hnA, List.length_append]
    by_cases hlt : j < L
    · have hlt' : (j : Int) < L := by omega
      obtain ⟨x, R, rfl⟩ : ∃ x R', R = x :: R' := by
        cases R with
        | nil => simp at hlen; omega
        | cons x R' => exact ⟨x, R', rfl⟩
      have hx4 : x.ks.length ≤ 4000 := HKK.out x (by rw [hnA]; simp)
      have hc1 := cntN_le A 1 4000 (fun y hy => HKK.out y (by rw [hnA]; exact List.mem_append_left _ hy))
      have hA3 : A.length ≤ 30000 := by have := HLL.out; rw [HL.out] at hlen; omega
      have hcM : cntN 1 A ≤ 121000000 := by have : A.length * 4003 ≤ 30000 * 4003 := Nat.mul_le_mul_right _ hA3; omega
      obtain ⟨k, hk⟩ : ∃ k, k = cntN 1 A := ⟨_, rfl⟩
      have HK : Hid (k = cntN 1 A) := hk
      rw [← hk] at hcM ⊢
      have hk' : (k : Int) ≤ 121000000 := by omega
      have hN' := HN.out
      have hml : (mkNs 1 A).length = j := by rw [mkNs_len]; exact hAj
      have hmn : mkNs 1 ns = mkNs 1 A ++ mkNd k x :: mkNs (k + 3 + x.ks.length) R := by rw [hnA, mkNs_app, ← hk]; rfl
      rw [hmn] at hN'
      have hnl : (mkNs 1 A ++ mkNd k x :: mkNs (k + 3 + x.ks.length) R).length = L := by rw [← hmn, mkNs_len, HL.out]
      have hkl : kv.length = L := by rw [← hN'.len, hnl]
      obtain ⟨u, hu⟩ : ∃ u, kv[j]? = some u := ⟨_, List.getElem?_eq_getElem (by omega)⟩
      obtain ⟨g, cap, hv⟩ : ∃ g cap, (Value.slice va L vc) = .slice (some ⟨g, 0, none⟩) L cap := by
        rcases hN'.own.2 with ⟨_, h0⟩ | ⟨g, cap, cur, h0, _⟩
        · omega
        · rw [hnl] at h0; exact ⟨g, cap, h0⟩
      simp only [Value.slice.injEq, true_and] at hv
      obtain ⟨rfl, rfl⟩ := hv
      have O0 := hN'.own
      rw [hnl] at O0
      have hnx : (mkNs 1 A ++ mkNd k x :: mkNs (k + 3 + x.ks.length) R)[j]? = some (mkNd k x) := by rw [← hml]; simp
      have hIu : IR B w u (mkK (k + 3) x.ks.length) := hN'.kid j (mkNd k x) u hnx hu
      obtain ⟨ua, uc, hue⟩ := hIu.form
      rw [mkK_len] at hue
      subst hue
      obtain ⟨e0, e1, e2, e3⟩ := knC_at hN'.len j (mkNd k x) (.slice ua x.ks.length uc) hnx hu
      have d0 := (O0.cellAt (j * 4) (by omega)).trans e0
      have d1 := (O0.cellAt (j * 4 + 1) (by omega)).trans e1
      have d2 := (O0.cellAt (j * 4 + 2) (by omega)).trans e2
      have d3 := (O0.cellAt (j * 4 + 3) (by omega)).trans e3
      have hgw := (World.ownsRow.lt O0 g rfl).2
      have h12 : ((k + 2 : Nat) : Int) = (k : Int) + 1 + 1 := by omega
      have KP : ∀ V, Below wr.heap.size wr V → (Below wr.heap.size wr V ∧ V.cell? ⟨g, j * 4, none⟩ = some (.int .i64 (k : Int)) ∧ V.cell? ⟨g, j * 4 + 1, none⟩ = some (.string (mty (k + 1))) ∧ V.cell? ⟨g, j * 4 + 2, none⟩ = some (.int .i64 ((k : Int) + 1 + 1)) ∧ V.cell? ⟨g, j * 4 + 3, none⟩ = some (.slice ua x.ks.length uc)) := fun V hV => by
        have hV2 := below_next hB.out hV
        refine ⟨hV, (hV2.cell (p := ⟨g, j * 4, none⟩) hgw).trans d0, (hV2.cell (p := ⟨g, j * 4 + 1, none⟩) hgw).trans d1, ?_, (hV2.cell (p := ⟨g, j * 4 + 3, none⟩) hgw).trans d3⟩
        rw [← h12]
        exact (hV2.cell (p := ⟨g, j * 4 + 2, none⟩) hgw).trans d2
      obtain ⟨_, p0, p1, p2, p3⟩ := KP wr (Below.refl _ _)
      have lz' : g < wr.heap.size := Nat.lt_of_lt_of_le hgw hB.out.size
      have bd' := (Below.refl wr.heap.size wr).drew
      have HKP : Hid (∀ V, Below wr.heap.size wr V → _) := KP
      have MT : ∀ W, Calls Tryd.prog 29 #[.int .i64 ((k : Int) + 1)] W fun e w' => e = .returned (.string (mty (k + 1))) ∧ Below W.heap.size W w' := fun W => by
        have := markText9_at (k + 1) W (by omega) (by omega)
        rw [show ((k + 1 : Nat) : Int) = (k : Int) + 1 by omega] at this
        exact this
      have HIU : Hid (IR B w (.slice ua x.ks.length uc) (mkK (k + 3) x.ks.length)) := hIu
      have HME : Hid (x.ks.length ≤ 4000) := hx4
      have HC6 : Hid (k + 3 + x.ks.length = cntN 1 (A ++ [x])) := by show _ = _; rw [cntN_snoc, ← HK.out]
      have HA6 : Hid (ns = (A ++ [x]) ++ R ∧ (A ++ [x]).length = j + 1) := ⟨by rw [HA.out.1]; simp, by rw [List.length_append, HA.out.2]; rfl⟩
      clear hN' O0 e0 e1 e2 e3 d0 d1 d2 d3 hIu hml hnl hlen hc1 hA3 hcM hkl hk hnA hAj hx4 hu hnx hmn KP
      generalize mty (k + 1) = M at *
      have HMT : Hid (∀ W, _) := MT
      clear MT h12
      go_wp2_with fail
      clear p0 p1 p2 p3
      go_region_held3 (fun V => Below wr.heap.size wr V ∧ V.cell? ⟨g, j * 4, none⟩ = some (.int .i64 (k : Int)) ∧ V.cell? ⟨g, j * 4 + 1, none⟩ = some (.string M) ∧ V.cell? ⟨g, j * 4 + 2, none⟩ = some (.int .i64 ((k : Int) + 1 + 1)) ∧ V.cell? ⟨g, j * 4 + 3, none⟩ = some (.slice ua x.ks.length uc)) (first | assumption | exact HKP.out _ bd' | exact HKP.out _ (by assumption)) (first | (go_at_call 29; refine (HMT.out _).mono ?_; rintro e w1 ⟨rfl, b1'⟩; have hB1 := below_next (w := wr) (And.left (by assumption)) b1'; clear b1'))
      all_goals
        obtain ⟨_, p0, p1, p2, p3⟩ := HKP.out _ hB1
        have lz2 : g < w1.heap.size := Nat.lt_of_lt_of_le lz' hB1.size
        have HI1 : Hid (IR B w1 (.slice ua x.ks.length uc) (mkK (k + 3) x.ks.length)) := HIU.out.below (below_next hB.out hB1)
        have hhi := heldIntR_at B (.slice ua x.ks.length uc) (k + 3) x.ks.length w1 HI1.out HME.out (by omega)
        have hk3 : ((k + 3 : Nat) : Int) = (k : Int) + 1 + 1 + 1 := by omega
        rw [hk3] at hhi
        have HHI : Hid (Calls _ _ _ _ _) := hhi
        clear hhi hk3
        go_wp2_with (go_at_call 103; refine HHI.out.mono ?_; rintro e w6 ⟨rfl, b6⟩; have HB6 : Hid (Below w.heap.size w w6) := below_next (below_next hB.out hB1) b6; have hnn : ¬ ((k + 3 + x.ks.length : Nat) : Int) < 0 := (by omega); clear b6)
        go_roundw
        case rel => exact ⟨j + 1, A ++ [x], R, by omega, by rw [← HC6.out]; exact congrArg _ (by omega), by go_num, HA6, HB6⟩
        case measure => simp [intOf]; omega
    · obtain rfl : j = L := by omega
      have hR0 : R = [] := by
        cases R with
        | nil => rfl
        | cons x R' => simp at hlen; omega
      subst hR0
      have hge : (j : Int) ≤ (j : Int) := Int.le_refl _
      have e1 : ns = A := by rw [hnA]; simp
      have HE1 : Hid (ns = A) := e1
      clear hnA hlen hAj e1
      go_wp2
      go_ret
      exact ⟨by rw [HE1.out]; rfl, hB.out⟩
set_option maxHeartbeats 1000000 in
theorem markTree_at (B C : Nat) (v : Value) (top : Int) (ns : List KnL) (kv : List Value) (w : World) (h : NdR B w v ns kv) (hB0 : B ≤ w.heap.size) (hl : ns.length ≤ 30000) (hk : ∀ x ∈ ns, x.ks.length ≤ 4000) (hvC : ∀ g, v.ownBlock = some g → g < C) (huC : ∀ u ∈ kv, ∀ g, u.ownBlock = some g → g < C) :
    Calls Tryd.prog 24 #[.agg #[v, .int .i64 top], .int .i64 1] w fun e w' => e = .returned (.int .i64 (cntN 1 ns : Int)) ∧ NdR B w' v (mkNs 1 ns) kv ∧ Below B w w' ∧ (∀ k, k < w.heap.size → C ≤ k → w'.heap[k]? = w.heap[k]?) := by
  obtain ⟨va, vc, rfl⟩ := h.form
  have HM : Hid (Calls _ _ _ _ _) := markKnotS_at B C (.slice va ns.length vc) ns kv (w.alloc (.cells #[.slice va ns.length vc, .int .i64 top] 41)) (h.below ((Below.refl _ _).alloc (Nat.le_refl _) _)) (by simp; omega) hl hk hvC huC
  have HB : Hid (Below B w (w.alloc (.cells #[.slice va ns.length vc, .int .i64 top] 41))) := ((Below.refl _ _).alloc (Nat.le_refl _) _).mono hB0
  have HA : Hid (∀ k, k < w.heap.size → (w.alloc (.cells #[.slice va ns.length vc, .int .i64 top] 41)).heap[k]? = w.heap[k]?) := fun k h1 => ((Below.refl w.heap.size w).alloc (Nat.le_refl _) _).block k h1
  clear h hl hk hvC huC
  go_enter Tryd.func24, Tryd.ntmps24
  go_wp2_with fail
  refine HM.out.mono ?_
  rintro e w1 ⟨rfl, h1, h2, h3⟩
  have H1 : Hid _ := h1
  have H2 : Hid (Below B w w1) := HB.out.trans h2
  have H3 : Hid (∀ k, k < w.heap.size → C ≤ k → w1.heap[k]? = w.heap[k]?) := fun k q1 q2 => (h3 k (by simp; omega) q2).trans (HA.out k q1)
  clear h1 h2 h3 HM HB HA
  go_wp2
  go_ret
  exact ⟨rfl, H1.out, H2.out, H3.out⟩
set_option maxHeartbeats 1000000 in
theorem heldTree_at (B : Nat) (v : Value) (top : Int) (ns : List KnL) (kv : List Value) (w : World) (h : NdR B w v (mkNs 1 ns) kv) (hl : ns.length ≤ 30000) (hk : ∀ x ∈ ns, x.ks.length ≤ 4000) :
    Calls Tryd.prog 25 #[.agg #[v, .int .i64 top], .int .i64 1] w fun e w' => e = .returned (.int .i64 (cntN 1 ns : Int)) ∧ Below w.heap.size w w' := by
  obtain ⟨va, vc, hv⟩ := h.form
  rw [mkNs_len] at hv
  subst hv
  have HM : Hid (Calls _ _ _ _ _) := heldKnotS_at B (.slice va ns.length vc) ns kv (w.alloc (.cells #[.slice va ns.length vc, .int .i64 top] 41)) (h.below ((Below.refl _ _).alloc (Nat.le_refl _) _)) hl hk
  have HB : Hid (Below w.heap.size w (w.alloc (.cells #[.slice va ns.length vc, .int .i64 top] 41))) := (Below.refl _ _).alloc (Nat.le_refl _) _
  have hc0 : ¬ (cntN 1 ns : Int) < 0 := by omega
  clear h hl hk
  go_enter Tryd.func25, Tryd.ntmps25
  go_wp2_with fail
  refine HM.out.mono ?_
  rintro e w1 ⟨rfl, h2⟩
  have H2 : Hid (Below w.heap.size w w1) := below_next HB.out h2
  clear h2 HM HB
  go_wp2
  go_ret
  exact ⟨rfl, H2.out⟩
end Go.Proofs.YtiglkhkfbgjjoaaDoor

/- The walk of FnExactParse. -/
namespace Go.Proofs.YtiglkhkfbgjjoaaDoor
set_option maxRecDepth 20000
open Go.RowKit Go.PlainAid Go.Maps
set_option linter.unusedSimpArgs false
set_option linter.unusedVariables false

/-- What Parse answers: the top, the nodes, the code, the place. -/
def paR (t : ByteArray) : Int × List KnL × Int × Int := if (lexR t).1 = 0 then match topP (lexR t).2.2 t.size with
    | .error x => (0, [], x.1, x.2)
    | .ok (n, ns) => (n, ns, 0, 0)
  else (0, [], 1, ((lexR t).2.1 : Int))
theorem paR_lex {t : ByteArray} (h : (lexR t).1 ≠ 0) : paR t = (0, [], 1, ((lexR t).2.1 : Int)) := by unfold paR; rw [if_neg h]
theorem paR_no {t : ByteArray} (h : (lexR t).1 = 0) {x : Int × Int} (hx : topP (lexR t).2.2 t.size = .error x) : paR t = (0, [], x.1, x.2) := by unfold paR; rw [if_pos h, hx]
theorem paR_yes {t : ByteArray} (h : (lexR t).1 = 0) {n : Int} {ns : List KnL} (hx : topP (lexR t).2.2 t.size = .ok (n, ns)) : paR t = (n, ns, 0, 0) := by unfold paR; rw [if_pos h, hx]
theorem NdR.nil (B : Nat) (w : World) : NdR B w (.slice none 0 0) [] [] := ⟨rfl, World.ownsRow_nil _ _ _ 4, fun j x u h1 h2 => by simp at h1, fun j u g h1 => by simp at h1, fun i j u u' g h1 => by simp at h1⟩
theorem paR_kb (t : ByteArray) : (paR t).2.1.length ≤ 30000 ∧ ∀ x ∈ (paR t).2.1, x.ks.length ≤ 4000 := by
  have hl := lexR_len t
  by_cases h : (lexR t).1 = 0
  · rcases hx : topP (lexR t).2.2 t.size with x | ⟨n, ns⟩
    · rw [paR_no h hx]; simp
    · rw [paR_yes h hx]
      have := topP_kb (lexR t).2.2 t.size hx
      exact ⟨by simp only; omega, fun x hx => by have := this.2 x hx; omega⟩
  · rw [paR_lex h]; simp
def PaA (w : World) (P : Int × List KnL × Int × Int) (e : Ending) (w' : World) : Prop := ∃ a c kv, e = .returned (.tuple #[.agg #[.slice a P.2.1.length c, .int .i64 P.1], .int .i64 P.2.2.1, .int .i64 P.2.2.2]) ∧ NdR w.heap.size w' (.slice a P.2.1.length c) P.2.1 kv ∧ Below w.heap.size w w'
theorem paA_of {w w' : World} {P : Int × List KnL × Int × Int} {e : Ending} {v : Value} {kv : List Value} (he : e = .returned (.tuple #[.agg #[v, .int .i64 P.1], .int .i64 P.2.2.1, .int .i64 P.2.2.2])) (h : NdR w.heap.size w' v P.2.1 kv) (hb : Below w.heap.size w w') : PaA w P e w' := by
  obtain ⟨a, c, rfl⟩ := h.form
  exact ⟨a, c, kv, he, h, hb⟩
theorem spec_any (t : ByteArray) (w : World) (ht0 : t.size ≤ 1048576) : Calls Tryd.prog 23 #[.string t] w (PaA w (paR t)) := by
  by_cases h : (lexR t).1 = 0
  · refine (specParse_at t w ht0 h).mono fun e w' hh => ?_
    rcases hx : topP (lexR t).2.2 t.size with x | ⟨n, ns⟩
    · rw [paR_no h hx]
      obtain ⟨he, hb, _⟩ := hh.1 x hx
      exact paA_of he (NdR.nil _ _) hb
    · rw [paR_yes h hx]
      obtain ⟨v, kv, he, hn, hb⟩ := hh.2 n ns hx
      exact paA_of he hn hb
  · rw [paR_lex h]
    exact (specParse_lex t w ht0 h).mono fun e w' ⟨he, hb⟩ => paA_of he (NdR.nil _ _) hb
theorem impl_any (t : ByteArray) (w : World) (ht0 : t.size ≤ 1048576) (hM : MkV w) (hTb : TabR w.heap.size w) : Calls Tryd.prog 21 #[.string t] w (PaA w (paR t)) := by
  by_cases h : (lexR t).1 = 0
  · rcases hx : topP (lexR t).2.2 t.size with x | ⟨n, ns⟩
    · rw [paR_no h hx]
      exact (parse_no t w ht0 hM hTb h x hx).mono fun e w' ⟨he, hb⟩ => paA_of he (NdR.nil _ _) hb
    · rw [paR_yes h hx]
      exact (parse_yes t w ht0 hM hTb h n ns hx).mono fun e w' ⟨v, kv, he, hn, hb⟩ => paA_of he hn hb
  · rw [paR_lex h]
    exact (parse_lex t w ht0 hM h).mono fun e w' ⟨he, hb⟩ => paA_of he (NdR.nil _ _) hb
theorem eqTree_nd {B1 B2 : Nat} {w : World} {a a' : Option Addr} {c c' : Nat} {ns : List KnL} {kv kv' : List Value} (top : Int) (h1 : NdR B1 w (.slice a ns.length c) ns kv) (h2 : NdR B2 w (.slice a' ns.length c') ns kv') (hl : ns.length ≤ 30000) (hk : ∀ x ∈ ns, x.ks.length ≤ 4000) :
    Calls Tryd.prog 19 #[.agg #[.slice a ns.length c, .int .i64 top], .agg #[.slice a' ns.length c', .int .i64 top]] w fun e w' => e = .returned (.bool true) ∧ Below w.heap.size w w' :=
  eqTree_same a a' c c' ns.length top _ w.heap.size w h1.knF h2.knF (Nat.le_refl _) (by omega) (fun j hj => by
    show (ns.getD j kz).ks.length ≤ 1048576
    have := hk ns[j] (List.getElem_mem hj)
    rw [List.getD_eq_getElem?_getD, List.getElem?_eq_getElem hj]
    simp only [Option.getD_some]
    omega)
/-- A box with a tree. -/
def TrX (w : World) (b : Nat) (v : Value) (n : Int) : Prop := b < w.heap.size ∧ w.cell? ⟨b, 0, none⟩ = some v ∧ w.cell? ⟨b, 1, none⟩ = some (.int .i64 n)
theorem TrX.below {w w' : World} {b B : Nat} {v : Value} {n : Int} (h : TrX w b v n) (hb : Below B w w') (hB : b < B) : TrX w' b v n := ⟨Nat.lt_of_lt_of_le h.1 hb.size, (hb.cell (p := ⟨b, 0, none⟩) hB).trans h.2.1, (hb.cell (p := ⟨b, 1, none⟩) hB).trans h.2.2⟩
theorem TrX.new (w : World) (v : Value) (n : Int) : TrX (w.alloc (.cells #[v, .int .i64 n] 41)) w.heap.size v n := ⟨by simp, by simp [go_sem], by simp [go_sem]⟩
theorem TrX.block {w w' : World} {b : Nat} {v : Value} {n : Int} (h : TrX w b v n) (hs : w.heap.size ≤ w'.heap.size) (hb : w'.heap[b]? = w.heap[b]?) : TrX w' b v n := ⟨Nat.lt_of_lt_of_le h.1 hs, (World.cell?_of_block (a := ⟨b, 0, none⟩) hb).trans h.2.1, (World.cell?_of_block (a := ⟨b, 1, none⟩) hb).trans h.2.2⟩
theorem NdR.blt {B : Nat} {w : World} {v : Value} {ns : List KnL} {kv : List Value} (h : NdR B w v ns kv) : (∀ g, v.ownBlock = some g → g < w.heap.size) ∧ ∀ u ∈ kv, ∀ g, u.ownBlock = some g → g < w.heap.size := by
  refine ⟨fun g e => (World.ownsRow.lt h.own g e).2, fun u hu g e => ?_⟩
  obtain ⟨j, hj, he⟩ := List.getElem_of_mem hu
  have hx : j < ns.length := by rw [h.len]; exact hj
  exact (World.ownsRow.lt (h.kid j ns[j] u (List.getElem?_eq_getElem hx) (by rw [List.getElem?_eq_getElem hj, he])) g e).2
theorem ownsRow_low {B : Nat} {e : TypeId} {sz n : Nat} {w w' : World} {v : Value} {X : List Value} (h : w.ownsRow B e sz v n X) (hg : ∀ g, v.ownBlock = some g → w'.heap[g]? = w.heap[g]?) : w'.ownsRow B e sz v n X := by
  obtain ⟨h1, h2⟩ := h
  refine ⟨h1, ?_⟩
  rcases h2 with h2 | ⟨g, cap, cur, hv, hgB, hc, r⟩
  · exact .inl h2
  · exact .inr ⟨g, cap, cur, hv, hgB, by rw [hg g (by rw [hv]; rfl)]; exact hc, r⟩
/-- Rows that lie below D stay while nothing below D is written. -/
theorem NdR.low {B D : Nat} {w w' : World} {v : Value} {ns : List KnL} {kv : List Value} (h : NdR B w v ns kv) (h1 : ∀ g, v.ownBlock = some g → g < D) (h2 : ∀ u ∈ kv, ∀ g, u.ownBlock = some g → g < D) (hb : Below D w w') : NdR B w' v ns kv :=
  ⟨h.len, ownsRow_low h.own (fun g e => hb.block g (h1 g e)), fun j x u q1 q2 => ownsRow_low (h.kid j x u q1 q2) (fun g e => hb.block g (h2 u (List.mem_of_getElem? q2) g e)), h.ne, h.nd⟩
set_option maxHeartbeats 4000000 in
theorem parse_walk (t : ByteArray) (w : World) (hM : MkV w) (hTb : TabR w.heap.size w) :
    Calls Tryd.prog 7 #[.string t] w fun e w' => e = .returned (.bool true) ∧ Below w.heap.size w w' := by
  by_cases h : (t.size : Int) ≤ 1048576
  · have ht : t.size ≤ 1048576 := by omega
    have HSp := fun W => spec_any t W ht
    have HIm := fun W (h1 : MkV W) (h2 : TabR W.heap.size W) => impl_any t W ht h1 h2
    obtain ⟨hl, hk⟩ := paR_kb t
    generalize paR t = P at HSp HIm hl hk
    obtain ⟨pn, ns, pc, pa⟩ := P
    simp only at hl hk
    have hp : 0 < w.heap.size := hM.1
    have HSP : Hid (∀ W, _) := HSp
    have HIM : Hid (∀ W, MkV W → TabR W.heap.size W → _) := HIm
    have HM : Hid (MkV w) := hM
    have HT : Hid (TabR w.heap.size w) := hTb
    have HL : Hid (ns.length ≤ 30000) := hl
    have HK : Hid (∀ x ∈ ns, x.ks.length ≤ 4000) := hk
    clear HSp HIm hM hTb hl hk
    go_enter Tryd.func7, Tryd.ntmps7
    go_wp2_with fail
    refine (HSP.out _).mono ?_
    rintro e w1 ⟨a1, c1, kv1, rfl, n1, b1⟩
    simp only at n1
    have N1 : Hid (NdR w.heap.size w1 (.slice a1 ns.length c1) ns kv1) := n1
    have B1 : Hid (Below w.heap.size w w1) := b1
    clear n1 b1
    go_wp2_with fail
    obtain ⟨V1, hV1⟩ : ∃ V, V = w1.alloc (.cells #[.slice a1 ns.length c1, .int .i64 pn] 41) := ⟨_, rfl⟩
    obtain ⟨b3, hb3⟩ : ∃ b, b = w1.heap.size := ⟨_, rfl⟩
    have bA : Below w1.heap.size w1 V1 := by rw [hV1]; exact (Below.refl _ _).alloc (Nat.le_refl _) _
    have X3 : Hid (TrX V1 b3 (.slice a1 ns.length c1) pn) := by show TrX _ _ _ _; rw [hV1, hb3]; exact TrX.new _ _ _
    have NV1 : Hid (NdR w.heap.size V1 (.slice a1 ns.length c1) ns kv1) := N1.out.below bA
    have BV1 : Hid (Below w.heap.size w V1) := below_next B1.out bA
    rw [← hV1, ← hb3]
    clear hV1 hb3 bA N1 B1
    refine (HIM.out V1 (HM.out.below BV1.out hp) (HT.out.up BV1.out BV1.out.size)).mono ?_
    rintro e w2 ⟨a2, c2, kv2, rfl, n2, b2⟩
    simp only at n2
    have q2 := n2.blt
    have HC2 : Hid ((∀ g, (Value.slice a2 ns.length c2).ownBlock = some g → g < w2.heap.size) ∧ ∀ u ∈ kv2, ∀ g, u.ownBlock = some g → g < w2.heap.size) := q2
    have N2 : Hid (NdR V1.heap.size w2 (.slice a2 ns.length c2) ns kv2) := n2
    have X32 : Hid (TrX w2 b3 (.slice a1 ns.length c1) pn) := X3.out.below b2 X3.out.1
    have HD : Hid (b3 < V1.heap.size ∧ (∀ g, (Value.slice a1 ns.length c1).ownBlock = some g → g < V1.heap.size) ∧ ∀ u ∈ kv1, ∀ g, u.ownBlock = some g → g < V1.heap.size) := ⟨X3.out.1, NV1.out.blt⟩
    have N12 : Hid (NdR w.heap.size w2 (.slice a1 ns.length c1) ns kv1) := NV1.out.below b2
    have B2 : Hid (Below w.heap.size w w2) := below_next BV1.out b2
    have z2 : V1.heap.size ≤ w2.heap.size := b2.size
    have HZW : Hid (w.heap.size ≤ V1.heap.size) := BV1.out.size
    clear n2 q2 b2 X3 NV1 BV1
    obtain ⟨x3l, x30, x31⟩ := X32.out
    go_wp2_with fail
    obtain ⟨V2, hV2⟩ : ∃ V, V = w2.alloc (.cells #[.slice a2 ns.length c2, .int .i64 pn] 41) := ⟨_, rfl⟩
    obtain ⟨b6, hb6⟩ : ∃ b, b = w2.heap.size := ⟨_, rfl⟩
    have bA : Below w2.heap.size w2 V2 := by rw [hV2]; exact (Below.refl _ _).alloc (Nat.le_refl _) _
    have X6 : Hid (TrX V2 b6 (.slice a2 ns.length c2) pn) := by show TrX _ _ _ _; rw [hV2, hb6]; exact TrX.new _ _ _
    have X3V : Hid (TrX V2 b3 (.slice a1 ns.length c1) pn) := X32.out.below bA X32.out.1
    have N1V : Hid (NdR w.heap.size V2 (.slice a1 ns.length c1) ns kv1) := N12.out.below bA
    have N2V : Hid (NdR V1.heap.size V2 (.slice a2 ns.length c2) ns kv2) := N2.out.below bA
    have BV2 : Hid (Below w.heap.size w V2) := below_next B2.out bA
    have HZ2 : Hid (V1.heap.size ≤ b6 ∧ (∀ g, (Value.slice a2 ns.length c2).ownBlock = some g → g < b6) ∧ ∀ u ∈ kv2, ∀ g, u.ownBlock = some g → g < b6) := by rw [hb6]; exact ⟨z2, HC2.out⟩
    rw [← hV2, ← hb6]
    clear hV2 hb6 bA N12 N2 X32 B2 HC2 x3l x30 x31 z2
    refine (eqTree_nd pn N2V.out N1V.out HL.out HK.out).mono ?_
    rintro e w3 ⟨rfl, t3⟩
    have X63 : Hid (TrX w3 b6 (.slice a2 ns.length c2) pn) := X6.out.below t3 X6.out.1
    have X33 : Hid (TrX w3 b3 (.slice a1 ns.length c1) pn) := X3V.out.below t3 X3V.out.1
    have N13 : Hid (NdR w.heap.size w3 (.slice a1 ns.length c1) ns kv1) := N1V.out.below t3
    have N23 : Hid (NdR V1.heap.size w3 (.slice a2 ns.length c2) ns kv2) := N2V.out.below t3
    have B3 : Hid (Below w.heap.size w w3) := below_next BV2.out t3
    clear t3 X6 X3V N1V N2V BV2
    obtain ⟨x6l, x60, x61⟩ := X63.out
    go_wp2_with fail
    refine (markTree_at V1.heap.size b6 _ pn ns kv2 w3 N23.out (by have := HZ2.out.1; omega) HL.out HK.out HZ2.out.2.1 HZ2.out.2.2).mono ?_
    rintro e w4 ⟨rfl, n4, t4, f4⟩
    have X64 : Hid (TrX w4 b6 (.slice a2 ns.length c2) pn) := X63.out.block t4.size (f4 b6 x6l (Nat.le_refl _))
    have X34 : Hid (TrX w4 b3 (.slice a1 ns.length c1) pn) := X33.out.below t4 HD.out.1
    have N14 : Hid (NdR w.heap.size w4 (.slice a1 ns.length c1) ns kv1) := N13.out.low HD.out.2.1 HD.out.2.2 t4
    have N24 : Hid (NdR V1.heap.size w4 (.slice a2 ns.length c2) (mkNs 1 ns) kv2) := n4
    have B4 : Hid (Below w.heap.size w w4) := B3.out.trans (t4.mono HZW.out)
    clear n4 t4 f4 X63 X33 N13 N23 B3 x6l x60 x61
    obtain ⟨x6l, x60, x61⟩ := X64.out
    go_wp2_with fail
    refine (heldTree_at V1.heap.size _ pn ns kv2 w4 N24.out HL.out HK.out).mono ?_
    rintro e w5 ⟨rfl, t5⟩
    have X65 : Hid (TrX w5 b6 (.slice a2 ns.length c2) pn) := X64.out.below t5 X64.out.1
    have X35 : Hid (TrX w5 b3 (.slice a1 ns.length c1) pn) := X34.out.below t5 X34.out.1
    have N15 : Hid (NdR w.heap.size w5 (.slice a1 ns.length c1) ns kv1) := N14.out.below t5
    have N25 : Hid (NdR V1.heap.size w5 (.slice a2 ns.length c2) (mkNs 1 ns) kv2) := N24.out.below t5
    have B5 : Hid (Below w.heap.size w w5) := below_next B4.out t5
    have hc0 : ¬ (cntN 1 ns : Int) < 0 := by omega
    clear t5 X64 X34 N14 N24 B4 x6l x60 x61
    go_wp2_with fail
    refine (HIM.out w5 (HM.out.below B5.out hp) (HT.out.up B5.out B5.out.size)).mono ?_
    rintro e w6 ⟨a6, c6, kv6, rfl, n6, t6⟩
    simp only at n6
    have N6 : Hid (NdR w5.heap.size w6 (.slice a6 ns.length c6) ns kv6) := n6
    have X66 : Hid (TrX w6 b6 (.slice a2 ns.length c2) pn) := X65.out.below t6 X65.out.1
    have X36 : Hid (TrX w6 b3 (.slice a1 ns.length c1) pn) := X35.out.below t6 X35.out.1
    have N16 : Hid (NdR w.heap.size w6 (.slice a1 ns.length c1) ns kv1) := N15.out.below t6
    have N26 : Hid (NdR V1.heap.size w6 (.slice a2 ns.length c2) (mkNs 1 ns) kv2) := N25.out.below t6
    have B6 : Hid (Below w.heap.size w w6) := below_next B5.out t6
    clear n6 t6 X65 X35 N15 N25 B5
    obtain ⟨x3l, x30, x31⟩ := X36.out
    go_wp2_with fail
    obtain ⟨V6, hV6⟩ : ∃ V, V = w6.alloc (.cells #[.slice a6 ns.length c6, .int .i64 pn] 41) := ⟨_, rfl⟩
    have bA : Below w6.heap.size w6 V6 := by rw [hV6]; exact (Below.refl _ _).alloc (Nat.le_refl _) _
    have X6V : Hid (TrX V6 b6 (.slice a2 ns.length c2) pn) := X66.out.below bA X66.out.1
    have N1V : Hid (NdR w.heap.size V6 (.slice a1 ns.length c1) ns kv1) := N16.out.below bA
    have N2V : Hid (NdR V1.heap.size V6 (.slice a2 ns.length c2) (mkNs 1 ns) kv2) := N26.out.below bA
    have N6V : Hid (NdR w5.heap.size V6 (.slice a6 ns.length c6) ns kv6) := N6.out.below bA
    have BV6 : Hid (Below w.heap.size w V6) := below_next B6.out bA
    rw [← hV6]
    clear hV6 bA X66 X36 N16 N26 N6 B6 x3l x30 x31
    refine (eqTree_nd pn N6V.out N1V.out HL.out HK.out).mono ?_
    rintro e w7 ⟨rfl, t7⟩
    have X67 : Hid (TrX w7 b6 (.slice a2 ns.length c2) pn) := X6V.out.below t7 X6V.out.1
    have N27 : Hid (NdR V1.heap.size w7 (.slice a2 ns.length c2) (mkNs 1 ns) kv2) := N2V.out.below t7
    have B7 : Hid (Below w.heap.size w w7) := below_next BV6.out t7
    clear t7 X6V N1V N2V N6V BV6
    obtain ⟨x6l, x60, x61⟩ := X67.out
    go_wp2_with fail
    refine (heldTree_at V1.heap.size _ pn ns kv2 w7 N27.out HL.out HK.out).mono ?_
    rintro e w8 ⟨rfl, t8⟩
    have B8 : Hid (Below w.heap.size w w8) := below_next B7.out t8
    clear t8 X67 N27 B7 x6l x60 x61
    go_wp2
    go_ret
    exact ⟨rfl, B8.out⟩
  · go_enter Tryd.func7, Tryd.ntmps7
    go_wp2
    go_ret
    exact ⟨rfl, Below.refl _ _⟩
end Go.Proofs.YtiglkhkfbgjjoaaDoor
