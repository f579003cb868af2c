/- The program's slotsOf: the iterator over an object's slots. -/
import Derived.Test.YtdcniiihanjjnaaGreatProg
import Derived.Test.YtdcniiihanjjnaaGreatKSlotsB
import Derived.Test.YtdcniiihanjjnaaGreatKSvB
import Derived.RangeFuncNested
import Derived.RangeFuncBound
import Derived.RangeFuncCalls
import Derived.RangeFuncLeaves
import Derived.Shelf.Abstract
import Derived.Shelf.RegionOpen
import Derived.WalkKit
import Derived.OwnWalkIn
import Derived.TacticsInMore
import Derived.LoopNIn
import Derived.LoopIn
namespace Go.Proofs.YtdcniiihanjjnaaGreat
set_option maxRecDepth 20000
open Go.RowKit Go.Shelf
set_option linter.unusedSimpArgs false
set_option linter.unusedVariables false
attribute [local go_sem] Oper.semAt_some

/-- All blocks of cells are as they were. -/
structure KeepsCells (W W' : World) : Prop where
  size : W.heap.size ≤ W'.heap.size
  same : ∀ (k : Nat) (o : Obj), W.heap[k]? = some o → o.isCells = true → W'.heap[k]? = some o
theorem KeepsCells.refl (W : World) : KeepsCells W W := ⟨Nat.le_refl _, fun _ _ h _ => h⟩
theorem KeepsCells.trans {A B C : World} (h : KeepsCells A B) (k : KeepsCells B C) : KeepsCells A C :=
  ⟨Nat.le_trans h.size k.size, fun i o hi ho => k.same i o (h.same i o hi ho) ho⟩
theorem KeepsCells.of_below {W W' : World} (h : Below W.heap.size W W') : KeepsCells W W' :=
  ⟨h.size, fun k o hk _ => (h.block k (Array.getElem?_eq_some_iff.1 hk).1).trans hk⟩
theorem KeepsOthers.of_below {W W' : World} (h : Below W.heap.size W W') : KeepsOthers W W' :=
  ⟨h.size, fun k o hk _ => (h.block k (Array.getElem?_eq_some_iff.1 hk).1).trans hk⟩
theorem KeepsCells.putObj (W : World) (l : Nat) (o o' : Obj) (h : W.heap[l]? = some o) (ho : o.isCells = false) : KeepsCells W (W.putObj l o') := by
  have g := grownBy_putObj' W l o'
  refine ⟨g.size, fun k u hk hu => ?_⟩
  have hne : some k ≠ some l := fun e => by
    cases e
    rw [h] at hk
    cases hk
    rw [ho] at hu
    simp at hu
  exact (g.block k (Array.getElem?_eq_some_iff.1 hk).1 hne).trans hk
theorem KeepsCells.cell {W W' : World} (h : KeepsCells W W') {p : Addr} {v : Value} (hc : W.cell? p = some v) : W'.cell? p = some v := by
  have e : W'.heap[p.block]? = W.heap[p.block]? := by
    cases hb : W.heap[p.block]? with
    | none => simp [World.cell?, hb] at hc
    | some o =>
      cases o with
      | cells c t fz => exact h.same _ _ hb rfl
      | _ => simp [World.cell?, hb] at hc
  rw [World.cell?_of_block e]; exact hc
theorem below_grown {W W' : World} (h : Below W.heap.size W W') : W.grownBy W' none := ⟨h.os, h.tape, h.output, h.size, fun k hk _ => h.block k hk⟩
theorem abides_below {β : Type} {B : Nat} {J : β → World → Prop} (h : AbidesFrom B J) {s : β} {W W' : World} (hs : J s W) (hb : Below W.heap.size W W') : J s W' :=
  h s W W' none hs (below_grown hb) (fun r e => by cases e)
theorem finRange_take {N j : Nat} (h : j < N) : (List.finRange N).take (j + 1) = (List.finRange N).take j ++ [⟨j, h⟩] := by
  rw [List.take_add_one]; simp [h]

theorem slotsOf_at (b off cw : Nat) (ws : List Int) (semi toh top : Int) (cyc : Bool) (scan old copied serial : Int) (ar : Option Addr) (cr : Nat) (rs : List (Int × Int)) (x : Int) (w : World) :
    Calls Tryz.prog 75 #[(.agg #[.slice (some ⟨b, off, none⟩) ws.length cw, .int .i64 semi, .int .i64 toh, .int .i64 top, .bool cyc, .int .i64 scan, .int .i64 old, .int .i64 copied, .int .i64 serial, .slice ar rs.length cr]), .int .i64 x] w fun e w' => e = .returned (.func (.func 97) #[] #[.pointer (some ⟨w.heap.size, 0, none⟩), .pointer (some ⟨w.heap.size + 1, 0, none⟩)]) ∧ w' = (w.alloc (.cells #[.slice (some ⟨b, off, none⟩) ws.length cw, .int .i64 semi, .int .i64 toh, .int .i64 top, .bool cyc, .int .i64 scan, .int .i64 old, .int .i64 copied, .int .i64 serial, .slice ar rs.length cr] 29)).alloc (.cells #[.int .i64 x] 3) := by
  go_enter Tryz.func75, Tryz.ntmps75
  go_wp2
  go_ret
  exact ⟨rfl, rfl⟩

set_option maxRecDepth 100000 in
set_option maxHeartbeats 2000000 in
theorem slots_in (l n : Nat) (hn1 : 1 ≤ n) (b off cw : Nat) (ws : List Int) (semi toh top : Int) (cyc : Bool) (scan old copied serial : Int) (ar : Option Addr) (cr : Nat) (rs : List (Int × Int)) (Ba Bt P N fF : Nat) (k s f : Int) (T : TypeId) (J Jx : List (Fin N) → World → Prop)
    (hY : ∀ pre (x : Fin N) W1, J pre W1 → pre.length < N → YieldAt Fence.wide (n - 1) Tryz.prog l #[.int .i64 ((x : Nat) : Int), .int .i64 ((P : Int) + f + 2 * ((x : Nat) : Int))] W1 fun e W' =>
      (e = .returned (.bool true) ∧ J (pre ++ [x]) W' ∧ KeepsCells W1 W') ∨ (e = .returned (.bool false) ∧ Jx (pre ++ [x]) W'))
    (W : World) (hJ : AbidesFrom W.heap.size J)
    (lBa : Ba < W.heap.size) (ca : ∀ i, W.cell? ⟨Ba, i, none⟩ = (#[.slice (some ⟨b, off, none⟩) ws.length cw, .int .i64 semi, .int .i64 toh, .int .i64 top, .bool cyc, .int .i64 scan, .int .i64 old, .int .i64 copied, .int .i64 serial, .slice ar rs.length cr] : Array Value)[i]?) (ct : W.cell? ⟨Bt, 0, none⟩ = some (.int .i64 (P : Int))) (hb : b < W.heap.size) (hc : ∀ i, i < ws.length → W.cell? ⟨b, off + i, none⟩ = some (.int .u64 (wordAt ws i))) (hn : ws.length ≤ 1048576) (hw : Words64 ws) (hP : P < ws.length) (hk : rdK (wordAt ws P) = k) (hs : rdS (wordAt ws P) = s) (hs0 : 0 ≤ s) (hs1 : s ≤ 65536) (hf0 : 1 ≤ f) (hf1 : f ≤ 65536)
    (hNs : ∀ m : Nat, f + 2 * m < s ↔ m < N) (hT : bodyT k = T) (hm : ∀ v w, Sem.run Tryz.prog (method 265 T v "loop.example/g00101/impl.firstSlot") w = .ok (fF, v) w) (hfF : ∀ v w, Calls Tryz.prog fF #[v] w fun e w' => e = .returned (.int .i64 f) ∧ w' = w) (hen : ∀ args w, (callFunc fF args).run Tryz.prog w = .ok (.enter fF args) w) (h0 : J [] W) :
    CallsIn Fence.wide n Tryz.prog 97 #[.func (.yield l) #[] #[], .pointer (some ⟨Ba, 0, none⟩), .pointer (some ⟨Bt, 0, none⟩)] W fun e W' => (∃ v, e = .returned v) ∧
      ((∃ xs, xs = List.finRange N ∧ J xs W') ∨ (∃ pre, True ∧ Jx pre W')) := by
  have hfk := field_kind
  have HC : Hid (∀ i, i < ws.length → W.cell? ⟨b, off + i, none⟩ = some (.int .u64 (wordAt ws i))) := hc
  have hn' : (ws.length : Int) ≤ 1048576 := by omega
  have hP' : (P : Int) < (ws.length : Int) := by omega
  refine callsIn_of_wp Tryz.func97 rfl trivial ?_ rfl
  simp only [Tryz.ntmps97, List.size_toArray, List.length_cons, List.length_nil, Nat.reduceAdd, Nat.reduceSub, Array.replicate_succ, Array.replicate_zero, List.push_toArray, List.append_toArray, List.nil_append, List.cons_append]
  gi_wp2_with (refine ⟨trivial, ?_⟩; gi_at_call 77; refine (callsIn_wide.2 (headAt_at _ _ _ _ _ _ _ _ _ _ _ _ _ _ _ P _ rfl (ar_sl hb HC.out) hn hw hP)).mono ?_; rw [hk, hs]; rintro e w1 ⟨rfl, b1⟩)
  obtain ⟨w2, hw2⟩ : ∃ w2, w2 = w1.alloc (.cells #[.int .i64 k, .int .i64 s, .int .i64 (rdN (wordAt ws P))] 56) := ⟨_, rfl⟩
  have kh : ∀ i, w2.cell? ⟨w1.heap.size, i, none⟩ = (#[.int .i64 k, .int .i64 s, .int .i64 (rdN (wordAt ws P))] : Array Value)[i]? := fun i => by rw [hw2]; simp [go_sem]
  have B2 : Below W.heap.size W w2 := by rw [hw2]; exact b1.alloc b1.size _
  have ct2 : w2.cell? ⟨Bt, 0, none⟩ = some (.int .i64 (P : Int)) := by rw [B2.cell (p := ⟨Bt, 0, none⟩) (World.block_lt_of_cell? _ ⟨Bt, 0, none⟩ ct)]; exact ct
  rw [← hw2]
  have hJ2 : J [] w2 := abides_below hJ h0 B2
  clear hw2 ct h0 ca HC hc b1
  refine wpIn_wide.2 ?_
  go_region_held3 (fun V => V = w2.drew) (first | assumption | rfl) (first | (go_at_call 98; refine (bodyOf_any _ _ _).mono ?_; rw [hT]; rintro e w' ⟨rfl, rfl⟩) | (refine (hfF _ _).mono ?_; rintro e w' ⟨rfl, rfl⟩))
  have hwr : IntKind.i64.wrap ((P : Int) + f) = (P : Int) + f := by rw [IntKind.wrap_i64]; omega
  rw [hwr]
  obtain ⟨w3, hw3⟩ : ∃ w3, w3 = w2.drew := ⟨_, rfl⟩
  rw [← hw3]
  have kh3 : ∀ i, w3.cell? ⟨w1.heap.size, i, none⟩ = (#[.int .i64 k, .int .i64 s, .int .i64 (rdN (wordAt ws P))] : Array Value)[i]? := fun i => by rw [hw3]; exact kh i
  have ct3 : w3.cell? ⟨Bt, 0, none⟩ = some (.int .i64 (P : Int)) := by rw [hw3]; exact ct2
  have hJ3 : J [] w3 := by rw [hw3]; exact abides_below hJ hJ2 (Below.refl _ _).drew
  have KH : ∀ V, KeepsCells w3 V → V.cell? ⟨Bt, 0, none⟩ = some (.int .i64 (P : Int)) ∧ V.cell? ⟨w1.heap.size, 1, none⟩ = some (.int .i64 s) := fun V hV => ⟨hV.cell ct3, hV.cell (by rw [kh3 1]; rfl)⟩
  clear hw3 ct2 kh kh3 hJ2 hwr hm hen hfk
  gi_wp2
  have hN1 : N ≤ 65536 := by
    by_cases e : N = 0
    · omega
    · have := (hNs (N - 1)).2 (by omega)
      omega
  have HNs : Hid (∀ m : Nat, f + 2 * m < s ↔ m < N) := hNs
  have HY : Hid (∀ pre (x : Fin N) W1, J pre W1 → pre.length < N → YieldAt Fence.wide (n - 1) Tryz.prog l #[.int .i64 ((x : Nat) : Int), .int .i64 ((P : Int) + f + 2 * ((x : Nat) : Int))] W1 fun e W' =>
      (e = .returned (.bool true) ∧ J (pre ++ [x]) W' ∧ KeepsCells W1 W') ∨ (e = .returned (.bool false) ∧ Jx (pre ++ [x]) W')) := hY
  clear hNs hY hJ hfF
  gi_loopw [5, 6] (fun u5 u6 wr => ∃ j : Nat, j ≤ N ∧ u6 = .int .i64 j ∧ u5 = .int .i64 ((P : Int) + f + 2 * (j : Int)) ∧ J ((List.finRange N).take j) wr ∧ KeepsCells w3 wr) (fun _ u6 _ => N - (intOf u6).toNat)
  case atStart => exact ⟨0, Nat.zero_le _, rfl, by simp, hJ3, KeepsCells.refl _⟩
  case round =>
    obtain ⟨j, hj, rfl, rfl, hJr, hKr⟩ := hrel
    obtain ⟨ctr, csr⟩ := KH _ hKr
    by_cases hlt : j < N
    · have h1 := (HNs.out j).2 hlt
      have h1' : (P : Int) + f + 2 * (j : Int) < (P : Int) + s := by omega
      have hT1 := finRange_take hlt
      obtain ⟨fn, tmps, assign, body, hy, hR⟩ := HY.out ((List.finRange N).take j) ⟨j, hlt⟩ wr hJr (by simp; omega)
      dsimp only at hy
      gi_wp2
      refine hR.mono ?_
      rintro e W3 (⟨rfl, hJ', hk'⟩ | ⟨rfl, hJx'⟩)
      · rw [← hT1] at hJ'
        gi_wp2
        exact ⟨⟨j + 1, hlt, by go_num, by go_num, hJ', hKr.trans hk'⟩, by simp [intOf]; omega⟩
      · gi_wp2
        refine bodyPost_ret (results_none rfl _ _ _) rfl ?_
        exact ⟨⟨_, rfl⟩, .inr ⟨_, trivial, hJx'⟩⟩
    · have hjN : j = N := by omega
      have h1 : ¬ f + 2 * (j : Int) < s := fun h => hlt ((HNs.out j).1 h)
      have h1' : (P : Int) + s ≤ (P : Int) + f + 2 * (j : Int) := by omega
      have hJN : J (List.finRange N) wr := by
        have e : (List.finRange N).take j = List.finRange N := by rw [hjN]; exact List.take_of_length_le (by simp)
        rw [e] at hJr; exact hJr
      clear hjN
      gi_wp2
      go_end0
      first
        | exact ⟨⟨_, rfl⟩, .inl ⟨_, rfl, hJN⟩⟩
        | exact .inl hJN
        | exact ⟨⟨_, rfl⟩, .inl hJN⟩
end Go.Proofs.YtdcniiihanjjnaaGreat
