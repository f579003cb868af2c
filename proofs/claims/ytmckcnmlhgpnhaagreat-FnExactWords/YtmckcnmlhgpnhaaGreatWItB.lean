/- - -/
import Derived.RangeFuncNested
import Derived.RangeFuncBound
import Derived.RangeFuncCalls
import Derived.RangeFuncLeaves
import Derived.Shelf.Abstract
import Derived.Shelf.RegionOpen
import Derived.OwnWalkIn
import Derived.TacticsInMore
import Derived.LoopNIn
import Derived.LoopIn
import Derived.Test.YtmckcnmlhgpnhaaGreatWRootA
namespace Go.Proofs.YtmckcnmlhgpnhaaGreat
set_option maxRecDepth 20000
open Go.RowKit Go.Shelf
set_option linter.unusedSimpArgs false
set_option linter.unusedVariables false
attribute [local go_sem] Oper.semAt_some
structure zah (W W' : World) : Prop where
 size : W.heap.size <= W'.heap.size
 same : ∀ (k : Nat) (o : Obj), W.heap[k]? = some o -> o.isCells = true -> W'.heap[k]? = some o
theorem zah.refl (W : World) : zah W W := ⟨Nat.le_refl _, fun _ _ h _ => h⟩
theorem zah.trans {A B C : World} (h : zah A B) (k : zah B C) : zah A C :=
 ⟨Nat.le_trans h.size k.size, fun i o hi ho => k.same i o (h.same i o hi ho) ho⟩
theorem zah.of_below {W W' : World} (h : Below W.heap.size W W') : zah W W' :=
 ⟨h.size, fun k o hk _ => (h.block k (Array.getElem?_eq_some_iff.1 hk).1).trans hk⟩
theorem KeepsOthers.of_below {W W' : World} (h : Below W.heap.size W W') : KeepsOthers W W' :=
 ⟨h.size, fun k o hk _ => (h.block k (Array.getElem?_eq_some_iff.1 hk).1).trans hk⟩
theorem zah.putObj (W : World) (l : Nat) (o o' : Obj) (h : W.heap[l]? = some o) (ho : o.isCells = false) : zah W (W.putObj l o') := by
 have g := grownBy_putObj' W l o'
 refine ⟨g.size, fun k u hk hu => ?_⟩
 have hne : some k ≠ some l := fun e => by
  cases e
  rw [h] at hk
  cases hk
  rw [ho] at hu
  simp at hu
 exact (g.block k (Array.getElem?_eq_some_iff.1 hk).1 hne).trans hk
theorem zah.cell {W W' : World} (h : zah W W') {p : Addr} {v : Value} (hc : W.cell? p = some v) : W'.cell? p = some v := by
 have e : W'.heap[p.block]? = W.heap[p.block]? := by
  cases hb : W.heap[p.block]? with
  | none => simp [World.cell?, hb] at hc
  | some o =>
    cases o with
    | cells c t fz => exact h.same _ _ hb rfl
    | _ => simp [World.cell?, hb] at hc
 rw [World.cell?_of_block e]; exact hc
theorem zpb {W W' : World} (h : Below W.heap.size W W') : W.grownBy W' none := ⟨h.os, h.tape, h.output, h.size, fun k hk _ => h.block k hk⟩
theorem zew {β : Type} {B : Nat} {J : β -> World -> Prop} (h : AbidesFrom B J) {s : β} {W W' : World} (hs : J s W) (hb : Below W.heap.size W W') : J s W' :=
 h s W W' none hs (zpb hb) (fun r e => by cases e)
theorem zfk {N j : Nat} (h : j < N) : (List.finRange N).take (j + 1) = (List.finRange N).take j ++ [⟨j, h⟩] := by
 rw [List.take_add_one]; simp [h]
theorem zj8 (b off cw : Nat) (ws : List Int) (smz toh top : Int) (cyc : Bool) (sn old cpz sr : Int) (ar : Option Addr) (cr : Nat) (rs : List (Int × Int)) (x : Int) (w : World) :
 Calls Tryz.prog 121 #[(.agg #[.slice (some ⟨b, off, none⟩) ws.length cw, .int .i64 smz, .int .i64 toh, .int .i64 top, .bool cyc, .int .i64 sn, .int .i64 old, .int .i64 cpz, .int .i64 sr, .slice ar rs.length cr]), .int .i64 x] w fun e w' => e = .returned (.func (.func 159) #[] #[.pointer (some ⟨w.heap.size, 0, none⟩), .pointer (some ⟨w.heap.size + 1, 0, none⟩)]) /\ w' = (w.alloc (.cells #[.slice (some ⟨b, off, none⟩) ws.length cw, .int .i64 smz, .int .i64 toh, .int .i64 top, .bool cyc, .int .i64 sn, .int .i64 old, .int .i64 cpz, .int .i64 sr, .slice ar rs.length cr] 30)).alloc (.cells #[.int .i64 x] 3) := by
 go_enter Tryz.func121, Tryz.ntmps121
 go_wp2
 go_ret
 exact ⟨rfl, rfl⟩
set_option maxRecDepth 100000 in
set_option maxHeartbeats 2000000 in
theorem zvs (l n : Nat) (hn1 : 1 <= n) (b off cw : Nat) (ws : List Int) (smz toh top : Int) (cyc : Bool) (sn old cpz sr : Int) (ar : Option Addr) (cr : Nat) (rs : List (Int × Int)) (Ba Bt P N fF : Nat) (k s f : Int) (T : TypeId) (J Jx : List (Fin N) -> World -> Prop)
 (hY : ∀ pre (x : Fin N) W1, J pre W1 -> pre.length < N -> YieldAt Fence.wide (n - 1) Tryz.prog l #[.int .i64 ((x : Nat) : Int), .int .i64 ((P : Int) + f + 2 * ((x : Nat) : Int))] W1 fun e W' =>
   (e = .returned (.bool true) /\ J (pre ++ [x]) W' /\ zah W1 W') \/ (e = .returned (.bool false) /\ Jx (pre ++ [x]) W'))
 (W : World) (hJ : AbidesFrom W.heap.size J)
 (lBa : Ba < W.heap.size) (ca : ∀ i, W.cell? ⟨Ba, i, none⟩ = (#[.slice (some ⟨b, off, none⟩) ws.length cw, .int .i64 smz, .int .i64 toh, .int .i64 top, .bool cyc, .int .i64 sn, .int .i64 old, .int .i64 cpz, .int .i64 sr, .slice ar rs.length cr] : Array Value)[i]?) (ct : W.cell? ⟨Bt, 0, none⟩ = some (.int .i64 (P : Int))) (hb : b < W.heap.size) (hc : ∀ i, i < ws.length -> W.cell? ⟨b, off + i, none⟩ = some (.int .u64 (za ws i))) (hn : ws.length <= 1048576) (hw : zg ws) (hP : P < ws.length) (hk : rdK (za ws P) = k) (hs : rdS (za ws P) = s) (hs0 : 0 <= s) (hs1 : s <= 65536) (hf0 : 1 <= f) (hf1 : f <= 65536)
 (hNs : ∀ m : Nat, f + 2 * m < s ↔ m < N) (hT : zd1 k = T) (hm : ∀ v w, Sem.run Tryz.prog (method 372 T v "loop.example/g00101/impl.firstSlot") w = .ok (fF, v) w) (hfF : ∀ v w, Calls Tryz.prog fF #[v] w fun e w' => e = .returned (.int .i64 f) /\ w' = w) (hen : ∀ args w, (callFunc fF args).run Tryz.prog w = .ok (.enter fF args) w) (h0 : J [] W) :
 CallsIn Fence.wide n Tryz.prog 159 #[.func (.yield l) #[] #[], .pointer (some ⟨Ba, 0, none⟩), .pointer (some ⟨Bt, 0, none⟩)] W fun e W' => (∃ v, e = .returned v) /\
  ((∃ xs, xs = List.finRange N /\ J xs W') \/ (∃ pre, True /\ Jx pre W')) := by
 have hfk := zdp
 have HC : Hid (∀ i, i < ws.length -> W.cell? ⟨b, off + i, none⟩ = some (.int .u64 (za ws i))) := hc
 have hn' : (ws.length : Int) <= 1048576 := by omega
 have hP' : (P : Int) < (ws.length : Int) := by omega
 refine callsIn_of_wp Tryz.func159 rfl trivial ?_ rfl
 simp only [Tryz.ntmps159, List.size_toArray, List.length_cons, List.length_nil, Nat.reduceAdd, Nat.reduceSub, Array.replicate_succ, Array.replicate_zero, List.push_toArray, List.append_toArray, List.nil_append, List.cons_append]
 gi_wp2_with (refine ⟨trivial, ?_⟩; gi_at_call 81; refine (callsIn_wide.2 (zc3 _ _ _ _ _ _ _ _ _ _ _ _ _ _ _ P _ rfl (zcq hb HC.out) hn hw hP)).mono ?_; rw [hk, hs]; rintro e w1 ⟨rfl, b1⟩)
 obtain ⟨w2, hw2⟩ : ∃ w2, w2 = w1.alloc (.cells #[.int .i64 k, .int .i64 s, .int .i64 (rdN (za ws P))] 78) := ⟨_, rfl⟩
 have kh : ∀ i, w2.cell? ⟨w1.heap.size, i, none⟩ = (#[.int .i64 k, .int .i64 s, .int .i64 (rdN (za ws P))] : Array Value)[i]? := fun i => by rw [hw2]; simp [go_sem]
 have B2 : Below W.heap.size W w2 := by rw [hw2]; exact b1.alloc b1.size _
 have ct2 : w2.cell? ⟨Bt, 0, none⟩ = some (.int .i64 (P : Int)) := by rw [B2.cell (p := ⟨Bt, 0, none⟩) (World.block_lt_of_cell? _ ⟨Bt, 0, none⟩ ct)]; exact ct
 rw [<- hw2]
 have hJ2 : J [] w2 := zew hJ h0 B2
 clear hw2 ct h0 ca HC hc b1
 refine wpIn_wide.2 ?_
 go_region_held3 (fun V => V = w2.drew) (first | assumption | rfl) (first | (go_at_call 160; refine (zhb _ _ _).mono ?_; rw [hT]; rintro e w' ⟨rfl, rfl⟩) | (refine (hfF _ _).mono ?_; rintro e w' ⟨rfl, rfl⟩))
 have hwr : IntKind.i64.wrap ((P : Int) + f) = (P : Int) + f := by rw [IntKind.wrap_i64]; omega
 rw [hwr]
 obtain ⟨w3, hw3⟩ : ∃ w3, w3 = w2.drew := ⟨_, rfl⟩
 rw [<- hw3]
 have kh3 : ∀ i, w3.cell? ⟨w1.heap.size, i, none⟩ = (#[.int .i64 k, .int .i64 s, .int .i64 (rdN (za ws P))] : Array Value)[i]? := fun i => by rw [hw3]; exact kh i
 have ct3 : w3.cell? ⟨Bt, 0, none⟩ = some (.int .i64 (P : Int)) := by rw [hw3]; exact ct2
 have hJ3 : J [] w3 := by rw [hw3]; exact zew hJ hJ2 (Below.refl _ _).drew
 have KH : ∀ V, zah w3 V -> V.cell? ⟨Bt, 0, none⟩ = some (.int .i64 (P : Int)) /\ V.cell? ⟨w1.heap.size, 1, none⟩ = some (.int .i64 s) := fun V hV => ⟨hV.cell ct3, hV.cell (by rw [kh3 1]; rfl)⟩
 clear hw3 ct2 kh kh3 hJ2 hwr hm hen hfk
 gi_wp2
 have hN1 : N <= 65536 := by
  by_cases e : N = 0
  · omega
  · have := (hNs (N - 1)).2 (by omega)
    omega
 have HNs : Hid (∀ m : Nat, f + 2 * m < s ↔ m < N) := hNs
 have HY : Hid (∀ pre (x : Fin N) W1, J pre W1 -> pre.length < N -> YieldAt Fence.wide (n - 1) Tryz.prog l #[.int .i64 ((x : Nat) : Int), .int .i64 ((P : Int) + f + 2 * ((x : Nat) : Int))] W1 fun e W' =>
  (e = .returned (.bool true) /\ J (pre ++ [x]) W' /\ zah W1 W') \/ (e = .returned (.bool false) /\ Jx (pre ++ [x]) W')) := hY
 clear hNs hY hJ hfF
 gi_loopw [5, 6] (fun u5 u6 wr => ∃ j : Nat, j <= N /\ u6 = .int .i64 j /\ u5 = .int .i64 ((P : Int) + f + 2 * (j : Int)) /\ J ((List.finRange N).take j) wr /\ zah w3 wr) (fun _ u6 _ => N - (intOf u6).toNat)
 case atStart => exact ⟨0, Nat.zero_le _, rfl, by simp, hJ3, zah.refl _⟩
 case round =>
  obtain ⟨j, hj, rfl, rfl, hJr, hKr⟩ := hrel
  obtain ⟨ctr, csr⟩ := KH _ hKr
  by_cases hlt : j < N
  · have h1 := (HNs.out j).2 hlt
    have h1' : (P : Int) + f + 2 * (j : Int) < (P : Int) + s := by omega
    have hT1 := zfk hlt
    obtain ⟨fn, tmps, assign, body, hy, hR⟩ := HY.out ((List.finRange N).take j) ⟨j, hlt⟩ wr hJr (by simp; omega)
    dsimp only at hy
    gi_wp2
    refine hR.mono ?_
    rintro e W3 (⟨rfl, hJ', hk'⟩ | ⟨rfl, hJx'⟩)
    · rw [<- hT1] at hJ'
      gi_wp2
      exact ⟨⟨j + 1, hlt, by go_num, by go_num, hJ', hKr.trans hk'⟩, by simp [intOf]; omega⟩
    · gi_wp2
      refine bodyPost_ret (results_none rfl _ _ _) rfl ?_
      exact ⟨⟨_, rfl⟩, .inr ⟨_, trivial, hJx'⟩⟩
  · have hjN : j = N := by omega
    have h1 : ¬ f + 2 * (j : Int) < s := fun h => hlt ((HNs.out j).1 h)
    have h1' : (P : Int) + s <= (P : Int) + f + 2 * (j : Int) := by omega
    have hJN : J (List.finRange N) wr := by
     have e : (List.finRange N).take j = List.finRange N := by rw [hjN]; exact List.take_of_length_le (by simp)
     rw [e] at hJr; exact hJr
    clear hjN
    gi_wp2
    go_end0
    first
     | exact ⟨⟨_, rfl⟩, .inl ⟨_, rfl, hJN⟩⟩
     | exact .inl hJN
     | exact ⟨⟨_, rfl⟩, .inl hJN⟩
attribute [local go_sem] Oper.semAt_some
theorem zpa (n : Nat) (hn1 : 1 <= n) (b off cw : Nat) (ws : List Int) (smz toh top : Int) (cyc : Bool) (sn old cpz sr : Int) (ar : Option Addr) (cr : Nat) (rs : List (Int × Int)) (Ba Bt P N fF : Nat) (k s f : Int) (T : TypeId) (w : World)
 (lBa : Ba < w.heap.size) (ca : ∀ i, w.cell? ⟨Ba, i, none⟩ = (#[.slice (some ⟨b, off, none⟩) ws.length cw, .int .i64 smz, .int .i64 toh, .int .i64 top, .bool cyc, .int .i64 sn, .int .i64 old, .int .i64 cpz, .int .i64 sr, .slice ar rs.length cr] : Array Value)[i]?) (ct : w.cell? ⟨Bt, 0, none⟩ = some (.int .i64 (P : Int))) (hb : b < w.heap.size) (hc : ∀ i, i < ws.length -> w.cell? ⟨b, off + i, none⟩ = some (.int .u64 (za ws i))) (hn : ws.length <= 1048576) (hw : zg ws) (hP : P < ws.length) (hk : rdK (za ws P) = k) (hs : rdS (za ws P) = s) (hs0 : 0 <= s) (hs1 : s <= 65536) (hf0 : 1 <= f) (hf1 : f <= 65536)
 (hNs : ∀ m : Nat, f + 2 * m < s ↔ m < N) (hT : zd1 k = T) (hm : ∀ v w, Sem.run Tryz.prog (method 372 T v "loop.example/g00101/impl.firstSlot") w = .ok (fF, v) w) (hfF : ∀ v w, Calls Tryz.prog fF #[v] w fun e w' => e = .returned (.int .i64 f) /\ w' = w) (hen : ∀ args w, (callFunc fF args).run Tryz.prog w = .ok (.enter fF args) w) :
 SeqStopsK Fence.wide n Tryz.prog 159 #[.pointer (some ⟨Ba, 0, none⟩), .pointer (some ⟨Bt, 0, none⟩)] (fun x : Fin N => #[.int .i64 ((x : Nat) : Int), .int .i64 ((P : Int) + f + 2 * ((x : Nat) : Int))]) zah (fun xs => xs = List.finRange N) (fun _ => True) N w :=
 fun l J Jx W hW hJ hJx hY h0 =>
  zvs l n hn1 b off cw ws smz toh top cyc sn old cpz sr ar cr rs Ba Bt P N fF k s f T J Jx hY W hJ (Nat.lt_of_lt_of_le lBa hW.size) (ze ca hW lBa) (by rw [hW.cell (p := ⟨Bt, 0, none⟩) (World.block_lt_of_cell? _ ⟨Bt, 0, none⟩ ct)]; exact ct) (zh hb hc hW).1 (zh hb hc hW).2 hn hw hP hk hs hs0 hs1 hf0 hf1 hNs hT hm hfF hen h0
theorem zeo {w : World} {p : Addr} (o : Obj) (hl : p.block < w.heap.size) (h : w.frozen? p = false) : (w.alloc o).frozen? p = false := by
 rw [World.frozen?_of_block (Below.heap_alloc w o p.block hl)]; exact h
theorem zvr {b : Bool} (h : some undef = some (Value.bool b)) : False := by simp [undef] at h
def zbv (ws : List Int) (lead : Nat -> Int) (F top : Int) (cyc : Bool) (sn : Int) (mh : Nat -> Int -> Int -> Bool) (P : Nat) (X : Nat -> Nat) (j : Nat) : Bool :=
 zcn ws (X j) && (mh j (rvT ws (X j)) (rvN ws (X j)) && (!isR (rvT ws (X j)) || (zf5 ws lead (rvT ws (X j)) (rvN ws (X j)) && ze3 F top cyc sn P (rvN ws (X j)))))
set_option maxRecDepth 100000 in
set_option maxHeartbeats 2000000 in
theorem zrt (b off cw : Nat) (ws : List Int) (smz toh top : Int) (cyc : Bool) (sn old cpz sr : Int) (ar : Option Addr) (cr : Nat) (rs : List (Int × Int)) (sv bl cl bs bc : Nat) (vp : Value) (lead : Nat -> Int) (P N fF fM : Nat) (k s f F : Int) (T : TypeId) (bv : Value) (mh : Nat -> Int -> Int -> Bool) (X : Nat -> Nat) (w : World) (lsv : sv < w.heap.size) (KS : ∀ i, w.cell? ⟨sv, i, none⟩ = (#[.slice (some ⟨b, off, none⟩) ws.length cw, .int .i64 smz, .int .i64 toh, .int .i64 top, .bool cyc, .int .i64 sn, .int .i64 old, .int .i64 cpz, .int .i64 sr, .slice ar rs.length cr, .slice (some ⟨bl, 0, none⟩) ws.length cl, vp, .map (some bs), .map (some bc)] : Array Value)[i]?) (lbl : bl < w.heap.size) (hl : ∀ i, i < ws.length -> w.cell? ⟨bl, i, none⟩ = some (.int .i64 (lead i))) (hb : b < w.heap.size) (hc : ∀ i, i < ws.length -> w.cell? ⟨b, off + i, none⟩ = some (.int .u64 (za ws i))) (hn : ws.length <= 1048576) (hw : zg ws) (hlr : ∀ i, i < ws.length -> 0 <= lead i /\ lead i < ws.length) (t0 : 0 <= toh) (t1 : toh <= 1) (s0 : 256 <= smz) (s1 : smz <= 4000) (hF : toh * smz + 1 = F) (hP : P < ws.length) (hk : rdK (za ws P) = k) (hs : rdS (za ws P) = s) (hs0 : 0 <= s) (hs1 : s <= 65536) (hf0 : 1 <= f) (hf1 : f <= 65536) (hPs : (P : Int) + s < ws.length)
 (hNs : ∀ m : Nat, f + 2 * m < s ↔ m < N) (hX : ∀ j : Nat, (P : Int) + f + 2 * (j : Int) = (X j : Int)) (hT : zd1 k = T) (hm : ∀ v w, Sem.run Tryz.prog (method 372 T v "loop.example/g00101/impl.firstSlot") w = .ok (fF, v) w) (hfF : ∀ v w, Calls Tryz.prog fF #[v] w fun e w' => e = .returned (.int .i64 f) /\ w' = w) (hen : ∀ args w, (callFunc fF args).run Tryz.prog w = .ok (.enter fF args) w)
 (hmM : ∀ w, Sem.run Tryz.prog (method 372 T bv "loop.example/g00101/impl.mayHold") w = .ok (fM, bv) w) (henM : ∀ args w, (callFunc fM args).run Tryz.prog w = .ok (.enter fM args) w) (hM : ∀ (j : Nat) (t m : Int) (W : World), j < N -> Below w.heap.size w W -> Calls Tryz.prog fM #[bv, .int .i64 (j : Int), .agg #[.int .i64 t, .int .i64 m]] W fun e w' => e = .returned (.bool (mh j t m)) /\ Below W.heap.size W w') :
 Calls Tryz.prog 169 #[.pointer (some ⟨sv, 0, none⟩), .int .i64 (P : Int), .iface T bv] w fun e w' => ∃ q, e = .returned (.bool q) /\ (q = true ↔ ∀ j, j < N -> zbv ws lead F top cyc sn mh P X j = true) /\ Below w.heap.size w w' := by
 refine (callsIn_wide (n := 4)).1 ?_
 refine callsIn_of_wp_marks Tryz.func169 rfl trivial ?_ rfl
 simp only [Tryz.ntmps169, List.size_toArray, List.length_cons, List.length_nil, Nat.reduceAdd, Nat.reduceSub, Array.replicate_succ, Array.replicate_zero, List.push_toArray, List.append_toArray, List.nil_append, List.cons_append]
 obtain ⟨w0, hw0⟩ : ∃ w0, w0 = (((w.alloc (.cells #[.pointer (some ⟨sv, 0, none⟩)] 136)).alloc (.cells #[.int .i64 (P : Int)] 3)).alloc (.cells #[.iface T bv] 194)).alloc (.cells #[.bool false] 4) := ⟨_, rfl⟩
 have B0 : Below w.heap.size w w0 := by rw [hw0]; exact ((((Below.refl _ _).alloc (Nat.le_refl _) _).alloc (by simp) _).alloc (by simp; omega) _).alloc (by simp; omega) _
 have z0 : w0.heap.size = w.heap.size + 1 + 1 + 1 + 1 := by rw [hw0]; simp
 have c0 : w0.cell? ⟨w.heap.size, 0, none⟩ = some (.pointer (some ⟨sv, 0, none⟩)) := by rw [hw0]; simp [go_sem]
 have c1 : w0.cell? ⟨w.heap.size + 1, 0, none⟩ = some (.int .i64 (P : Int)) := by rw [hw0]; simp [go_sem]
 have c2 : w0.cell? ⟨w.heap.size + 1 + 1, 0, none⟩ = some (.iface T bv) := by rw [hw0]; simp [go_sem]
 have c3 : w0.cell? ⟨w.heap.size + 1 + 1 + 1, 0, none⟩ = some (.bool false) := by rw [hw0]; simp [go_sem]
 have f3 : w0.frozen? ⟨w.heap.size + 1 + 1 + 1, 0, none⟩ = false := by rw [hw0]; simp [go_sem]
 have KS0 := ze KS B0 lsv
 have HHM : Hid (∀ w, Sem.run Tryz.prog (method 372 T bv "loop.example/g00101/impl.mayHold") w = .ok (fM, bv) w) := hmM
 have HNs : Hid (∀ m : Nat, f + 2 * m < s ↔ m < N) := hNs
 have HX : Hid (∀ j : Nat, (P : Int) + f + 2 * (j : Int) = (X j : Int)) := hX
 have HT : Hid (zd1 k = T) := hT
 have HF1 : Hid (∀ v w, Sem.run Tryz.prog (method 372 T v "loop.example/g00101/impl.firstSlot") w = .ok (fF, v) w) := hm
 have HF2 : Hid (∀ v w, Calls Tryz.prog fF #[v] w fun e w' => e = .returned (.int .i64 f) /\ w' = w) := hfF
 have HF3 : Hid (∀ args w, (callFunc fF args).run Tryz.prog w = .ok (.enter fF args) w) := hen
 have HM1 : Hid (∀ (j : Nat) (t m : Int) (W : World), j < N -> Below w.heap.size w W -> Calls Tryz.prog fM #[bv, .int .i64 (j : Int), .agg #[.int .i64 t, .int .i64 m]] W fun e w' => e = .returned (.bool (mh j t m)) /\ Below W.heap.size W w') := hM
 have HC : Hid (∀ i, i < ws.length -> w.cell? ⟨b, off + i, none⟩ = some (.int .u64 (za ws i))) := hc
 have HL : Hid (∀ i, i < ws.length -> w.cell? ⟨bl, i, none⟩ = some (.int .i64 (lead i))) := hl
 have HLR : Hid (∀ i, i < ws.length -> 0 <= lead i /\ lead i < ws.length) := hlr
 have HF : Hid (toh * smz + 1 = F) := hF
 have HK : Hid (rdK (za ws P) = k) := hk
 have HS : Hid (rdS (za ws P) = s) := hs
 clear hmM hNs hX hT hm hfF hen hM hc hl hlr hF hk hs
 gi_wp2_with fail
 rw [<- hw0]
 clear hw0
 have KP : ∀ V, Below w0.heap.size w0 V -> (Below w0.heap.size w0 V /\ V.cell? ⟨w.heap.size, 0, none⟩ = some (.pointer (some ⟨sv, 0, none⟩)) /\ V.cell? ⟨w.heap.size + 1, 0, none⟩ = some (.int .i64 (P : Int)) /\ (∀ i, V.cell? ⟨sv, i, none⟩ = (#[.slice (some ⟨b, off, none⟩) ws.length cw, .int .i64 smz, .int .i64 toh, .int .i64 top, .bool cyc, .int .i64 sn, .int .i64 old, .int .i64 cpz, .int .i64 sr, .slice ar rs.length cr, .slice (some ⟨bl, 0, none⟩) ws.length cl, vp, .map (some bs), .map (some bc)] : Array Value)[i]?)) := fun V hV => ⟨hV, by rw [hV.cell (p := ⟨w.heap.size, 0, none⟩) (by show w.heap.size < w0.heap.size; omega)]; exact c0, by rw [hV.cell (p := ⟨w.heap.size + 1, 0, none⟩) (by show w.heap.size + 1 < w0.heap.size; omega)]; exact c1, ze KS0 hV (by omega)⟩
 have b0' := (Below.refl w0.heap.size w0).drew
 refine wpIn_wide.2 ?_
 go_region_held3 (fun V => Below w0.heap.size w0 V /\ V.cell? ⟨w.heap.size, 0, none⟩ = some (.pointer (some ⟨sv, 0, none⟩)) /\ V.cell? ⟨w.heap.size + 1, 0, none⟩ = some (.int .i64 (P : Int)) /\ (∀ i, V.cell? ⟨sv, i, none⟩ = (#[.slice (some ⟨b, off, none⟩) ws.length cw, .int .i64 smz, .int .i64 toh, .int .i64 top, .bool cyc, .int .i64 sn, .int .i64 old, .int .i64 cpz, .int .i64 sr, .slice ar rs.length cr, .slice (some ⟨bl, 0, none⟩) ws.length cl, vp, .map (some bs), .map (some bc)] : Array Value)[i]?)) (first | assumption | exact KP _ b0' | exact KP _ (by assumption) | (refine KP _ ?_; repeat (first | exact b0' | exact Below.refl _ _ | assumption | refine Below.drew ?_ | refine zbd ?_ _))) (first | (go_at_call 121; refine (zj8 _ _ _ _ _ _ _ _ _ _ _ _ _ _ _ _ _).mono ?_; rintro e w' ⟨rfl, rfl⟩))
 obtain ⟨w5, hw5⟩ : ∃ w5, w5 = ((w0.alloc (.cells #[.slice (some ⟨b, off, none⟩) ws.length cw, .int .i64 smz, .int .i64 toh, .int .i64 top, .bool cyc, .int .i64 sn, .int .i64 old, .int .i64 cpz, .int .i64 sr, .slice ar rs.length cr] 30)).alloc (.cells #[.int .i64 (P : Int)] 3)).drew := ⟨_, rfl⟩
 have B5 : Below w0.heap.size w0 w5 := by rw [hw5]; exact (((Below.refl _ _).alloc (Nat.le_refl _) _).alloc (by simp) _).drew
 have z5 : w5.heap.size = w0.heap.size + 1 + 1 := by rw [hw5]; simp
 have ca : ∀ i, w5.cell? ⟨w.heap.size + 1 + 1 + 1 + 1, i, none⟩ = (#[.slice (some ⟨b, off, none⟩) ws.length cw, .int .i64 smz, .int .i64 toh, .int .i64 top, .bool cyc, .int .i64 sn, .int .i64 old, .int .i64 cpz, .int .i64 sr, .slice ar rs.length cr] : Array Value)[i]? := fun i => by rw [hw5, <- z0]; simp [go_sem]
 have ct : w5.cell? ⟨w.heap.size + 1 + 1 + 1 + 1 + 1, 0, none⟩ = some (.int .i64 (P : Int)) := by rw [hw5, <- z0]; simp [go_sem]
 rw [<- hw5]
 clear hw5 b0' KP
 have KP : ∀ V, Below w5.heap.size w5 V -> Below w0.heap.size w0 V := fun V hV => B5.trans (hV.mono (by omega))
 have KW : ∀ V, Below w5.heap.size w5 V -> Below w.heap.size w V := fun V hV => zc B0 (KP V hV)
 have KB : ∀ V, Below w5.heap.size w5 V -> V.cell? ⟨w.heap.size, 0, none⟩ = some (.pointer (some ⟨sv, 0, none⟩)) /\ V.cell? ⟨w.heap.size + 1, 0, none⟩ = some (.int .i64 (P : Int)) /\ V.cell? ⟨w.heap.size + 1 + 1, 0, none⟩ = some (.iface T bv) /\ V.cell? ⟨w.heap.size + 1 + 1 + 1, 0, none⟩ = some (.bool false) /\ V.frozen? ⟨w.heap.size + 1 + 1 + 1, 0, none⟩ = false /\ (∀ i, V.cell? ⟨sv, i, none⟩ = (#[.slice (some ⟨b, off, none⟩) ws.length cw, .int .i64 smz, .int .i64 toh, .int .i64 top, .bool cyc, .int .i64 sn, .int .i64 old, .int .i64 cpz, .int .i64 sr, .slice ar rs.length cr, .slice (some ⟨bl, 0, none⟩) ws.length cl, vp, .map (some bs), .map (some bc)] : Array Value)[i]?) := fun V hV => by
  have h := KP V hV
  refine ⟨?_, ?_, ?_, ?_, ?_, ze KS0 h (by omega)⟩
  · rw [h.cell (p := ⟨w.heap.size, 0, none⟩) (by show w.heap.size < w0.heap.size; omega)]; exact c0
  · rw [h.cell (p := ⟨w.heap.size + 1, 0, none⟩) (by show w.heap.size + 1 < w0.heap.size; omega)]; exact c1
  · rw [h.cell (p := ⟨w.heap.size + 1 + 1, 0, none⟩) (by show w.heap.size + 1 + 1 < w0.heap.size; omega)]; exact c2
  · rw [h.cell (p := ⟨w.heap.size + 1 + 1 + 1, 0, none⟩) (by show w.heap.size + 1 + 1 + 1 < w0.heap.size; omega)]; exact c3
  · rw [World.frozen?_of_block (h.block _ (by show w.heap.size + 1 + 1 + 1 < w0.heap.size; omega))]; exact f3
 have HSB := fun V hV => KW V hV
 have hc5 := zh hb HC.out (KW w5 (Below.refl _ _))
 have hstops := zpa 3 (by omega) b off cw ws smz toh top cyc sn old cpz sr ar cr rs (w.heap.size + 1 + 1 + 1 + 1) (w.heap.size + 1 + 1 + 1 + 1 + 1) P N fF k s f T w5 (by omega) ca ct hc5.1 hc5.2 hn hw hP HK.out HS.out hs0 hs1 hf0 hf1 HNs.out HT.out HF1.out HF2.out HF3.out
 have hsz5 : w.heap.size + 1 + 1 + 1 < w5.heap.size := by omega
 clear ca ct hc5 c0 c1 c2 c3 f3 KS0 z5 HSB
 gi_wp2_with fail
 refine wpIn_rangeFunc_ownF rfl (by omega) (gf := 159) (lb := #[.pointer (some ⟨w.heap.size + 1 + 1 + 1 + 1, 0, none⟩), .pointer (some ⟨w.heap.size + 1 + 1 + 1 + 1 + 1, 0, none⟩)]) rfl trivial (enters_of Tryz.func159 (by kernel_rfl) rfl) hstops zah.trans (fun W l o o' _ h ho _ => zah.putObj W l o o' h ho) (Below.refl _ _) (fun _ => rfl)
  (fun pre V => Hid (∀ x ∈ pre, zbv ws lead F top cyc sn mh P X (x : Fin N) = true) /\ Below w5.heap.size w5 V)
  (fun c pre V => (c = .ret /\ (∃ j, j < N /\ zbv ws lead F top cyc sn mh P X j = false) /\ V.cell? ⟨w.heap.size + 1 + 1 + 1, 0, none⟩ = some (.bool false)) /\ Below w.heap.size w V)
  (OwnFrom.and (Own.from (fun s A B row hs hg hr => hs) _) (ownFrom_below (Nat.le_refl _) (Nat.le_refl _)))
  (fun c => OwnFrom.and (Own.from (fun s A B row hs hg hr => ⟨hs.1, hs.2.1, cell_kept hs.2.2 hg hr⟩) _) (ownFrom_below (Nat.le_refl _) (by omega)))
  ⟨by intro x hx; simp at hx, Below.refl _ _⟩
  (fun x => { tmps := #[.pointer (some ⟨sv, 0, none⟩), .int .i64 (P : Int), .iface T bv, .pointer (some ⟨w.heap.size, 0, none⟩), .pointer (some ⟨w.heap.size + 1, 0, none⟩), .pointer (some ⟨w.heap.size + 1 + 1, 0, none⟩), .pointer (some ⟨w.heap.size + 1 + 1 + 1, 0, none⟩), .int .i64 ((x : Nat) : Int), .int .i64 ((P : Int) + f + 2 * ((x : Nat) : Int)), undef, undef, .pointer (some ⟨sv, 0, none⟩), .pointer (some ⟨sv, 0, none⟩), .pointer (some ⟨sv, 0, none⟩), (.agg #[.slice (some ⟨b, off, none⟩) ws.length cw, .int .i64 smz, .int .i64 toh, .int .i64 top, .bool cyc, .int .i64 sn, .int .i64 old, .int .i64 cpz, .int .i64 sr, .slice ar rs.length cr]), .int .i64 (P : Int), .func (.func 159) #[] #[.pointer (some ⟨w.heap.size + 1 + 1 + 1 + 1, 0, none⟩), .pointer (some ⟨w.heap.size + 1 + 1 + 1 + 1 + 1, 0, none⟩)], .int .i64 ((x : Nat) : Int), .int .i64 ((P : Int) + f + 2 * ((x : Nat) : Int)), undef, undef, undef, undef, undef, undef, undef, undef, undef, undef, undef, undef, undef, undef, undef, undef, undef, undef, undef, undef, undef, undef, undef, undef, undef, undef, undef, undef, undef, undef, undef, undef, undef, undef], defers := [] }) ?assign ?body ?done ?stop
 case assign =>
  intro l x W K hK
  gi_wp2
  exact hK
 case body =>
  rintro l pre x V ⟨hok, hB⟩ hlen
  obtain ⟨k0, k1, k2, k3, kf, ks⟩ := KB V hB
  have hbV := zh hb HC.out (KW V hB)
  have HXx : Hid ((P : Int) + f + 2 * (((x : Fin N) : Nat) : Int) = (X x : Int)) := HX.out x
  have hXl : X x + 1 < ws.length := by have := (HNs.out x).2 x.2; have := HXx.out; omega
  have HIO : ∀ W t m, Below w.heap.size w W -> 0 <= m -> Calls Tryz.prog 174 #[.pointer (some ⟨sv, 0, none⟩), .agg #[.int .i64 t, .int .i64 m]] W fun e w' => e = .returned (.bool (zf5 ws lead t m)) /\ Below W.heap.size W w' := fun W t m hW hm =>
   zix b off cw ws smz toh top cyc sn old cpz sr ar cr rs sv bl cl bs bc vp lead t m W (Nat.lt_of_lt_of_le lsv hW.size) (ze KS hW lsv) (Nat.lt_of_lt_of_le lbl hW.size) (fun i hi => by rw [hW.cell (p := ⟨bl, i, none⟩) lbl]; exact HL.out i hi) (zh hb HC.out hW).1 (zh hb HC.out hW).2 hn hw hm HLR.out
  have HML : ∀ W y, Below w.heap.size w W -> Calls Tryz.prog 197 #[.pointer (some ⟨sv, 0, none⟩), .int .i64 (P : Int), .int .i64 y] W fun e w' => e = .returned (.bool (ze3 F top cyc sn P y)) /\ Below W.heap.size W w' := fun W y hW =>
   zru b off cw ws smz toh top cyc sn old cpz sr ar cr rs sv bl cl bs bc vp lead (P : Int) y F W (Nat.lt_of_lt_of_le lsv hW.size) (ze KS hW lsv) t0 t1 s0 s1 HF.out
  have hmM := HHM.out
  have HST : Hid (zbv ws lead F top cyc sn mh P X x = true -> ∀ y ∈ pre ++ [x], zbv ws lead F top cyc sn mh P X (y : Fin N) = true) := fun g y hy => by
   rcases List.mem_append.1 hy with h | h
   · exact hok.out y h
   · simp at h; subst h; exact g
  clear KS hok HK HS HF1 HF2 HF3 HT hstops
  cases ho : zcn ws (X x) with
  | false =>
    have HBAD : Hid (zbv ws lead F top cyc sn mh P X x = false) := by show _ = _; simp [zbv, ho]
    clear HIO HML HST
    gi_wp2_with (first | (refine ⟨trivial, ?_⟩; gi_at_call 145; refine (CallsIn.inRound l (callsIn_wide.2 (zd5 _ ws _ (X x) _ HXx.out (zcq hbV.1 hbV.2) hn hw hXl))).mono ?_; rw [ho]; rintro e v1 ⟨rfl, b1⟩; have hB1 := hB.trans (b1.mono hB.size); have q2 := fun o => zx (o := o) (World.block_lt_of_cell? _ _ (KB v1 hB1).2.2.1) (KB v1 hB1).2.2.1; have q3 := fun o => zx (o := o) (World.block_lt_of_cell? _ _ (KB v1 hB1).2.2.2.1) (KB v1 hB1).2.2.2.1; have q3f := fun o => zeo o (World.block_lt_of_cell? _ _ (KB v1 hB1).2.2.2.1) (KB v1 hB1).2.2.2.2.1; have bVv := b1.alloc b1.size (.cells #[.int .i64 (rvT ws (X x)), .int .i64 (rvN ws (X x))] 48); have hBv := hB.trans (bVv.mono hB.size); clear b1))
    all_goals
     first
      | exact ⟨(KeepsOthers.of_below bVv).trans (KeepsOthers.setCell _ _ _), ⟨rfl, ⟨x, x.2, HBAD.out⟩, World.cell?_setCell_same' _ _ _ (by rw [q3]; rfl)⟩, (KW _ hBv).setCell (p := ⟨w.heap.size + 1 + 1 + 1, 0, none⟩) (by show w.heap.size <= w.heap.size + 1 + 1 + 1; omega) _⟩
      | (refine ⟨fun _ _ => trivial, ?_⟩
         gi_wp2
         exact ⟨(KeepsOthers.of_below bVv).trans (KeepsOthers.setCell _ _ _), ⟨rfl, ⟨x, x.2, HBAD.out⟩, World.cell?_setCell_same' _ _ _ (by rw [q3]; rfl)⟩, (KW _ hBv).setCell (p := ⟨w.heap.size + 1 + 1 + 1, 0, none⟩) (by show w.heap.size <= w.heap.size + 1 + 1 + 1; omega) _⟩)
      | (gi_wp2
         exact ⟨(KeepsOthers.of_below bVv).trans (KeepsOthers.setCell _ _ _), ⟨rfl, ⟨x, x.2, HBAD.out⟩, World.cell?_setCell_same' _ _ _ (by rw [q3]; rfl)⟩, (KW _ hBv).setCell (p := ⟨w.heap.size + 1 + 1 + 1, 0, none⟩) (by show w.heap.size <= w.heap.size + 1 + 1 + 1; omega) _⟩)
      | trace_state
  | true =>
    have hm0 : isR (rvT ws (X x)) = true -> 0 <= rvN ws (X x) := fun g => by have := zgz hw ho g; omega
    cases hmh : mh x (rvT ws (X x)) (rvN ws (X x)) with
    | false =>
      have HBAD : Hid (zbv ws lead F top cyc sn mh P X x = false) := by show _ = _; simp [zbv, hmh]
      clear HIO HML HST hm0
      gi_wp2_with (first | (refine ⟨trivial, ?_⟩; gi_at_call 145; refine (CallsIn.inRound l (callsIn_wide.2 (zd5 _ ws _ (X x) _ HXx.out (zcq hbV.1 hbV.2) hn hw hXl))).mono ?_; rw [ho]; rintro e v1 ⟨rfl, b1⟩; have hB1 := hB.trans (b1.mono hB.size); have q2 := fun o => zx (o := o) (World.block_lt_of_cell? _ _ (KB v1 hB1).2.2.1) (KB v1 hB1).2.2.1; have q3 := fun o => zx (o := o) (World.block_lt_of_cell? _ _ (KB v1 hB1).2.2.2.1) (KB v1 hB1).2.2.2.1; have q3f := fun o => zeo o (World.block_lt_of_cell? _ _ (KB v1 hB1).2.2.2.1) (KB v1 hB1).2.2.2.2.1; have bVv := b1.alloc b1.size (.cells #[.int .i64 (rvT ws (X x)), .int .i64 (rvN ws (X x))] 48); have hBv := hB.trans (bVv.mono hB.size); clear b1) | (refine ⟨trivial, ?_⟩; refine (CallsIn.inRound l (callsIn_wide.2 (HM1.out x (rvT ws (X x)) (rvN ws (X x)) _ x.2 (KW _ hBv)))).mono ?_; rw [hmh]; rintro e v3 ⟨rfl, b3⟩; have bV3 := zc bVv b3; have hB3 := hB.trans (bV3.mono hB.size); obtain ⟨r0, r1, r2, r3, rf, rs3⟩ := KB v3 hB3; have u3 := zp b3 (by simp); have lv3 := zq b3; clear b3))
      exact ⟨(KeepsOthers.of_below bV3).trans (KeepsOthers.setCell _ _ _), ⟨rfl, ⟨x, x.2, HBAD.out⟩, World.cell?_setCell_same' _ _ _ (by rw [r3]; rfl)⟩, (KW _ hB3).setCell (p := ⟨w.heap.size + 1 + 1 + 1, 0, none⟩) (by show w.heap.size <= w.heap.size + 1 + 1 + 1; omega) _⟩
    | true =>
      cases hr : isR (rvT ws (X x)) with
      | false =>
        have HNX : Hid (∀ y ∈ pre ++ [x], zbv ws lead F top cyc sn mh P X (y : Fin N) = true) := HST.out (by simp [zbv, ho, hmh, hr])
        clear HIO HML HST hm0
        gi_wp2_with (first | (refine ⟨trivial, ?_⟩; gi_at_call 145; refine (CallsIn.inRound l (callsIn_wide.2 (zd5 _ ws _ (X x) _ HXx.out (zcq hbV.1 hbV.2) hn hw hXl))).mono ?_; rw [ho]; rintro e v1 ⟨rfl, b1⟩; have hB1 := hB.trans (b1.mono hB.size); have q2 := fun o => zx (o := o) (World.block_lt_of_cell? _ _ (KB v1 hB1).2.2.1) (KB v1 hB1).2.2.1; have q3 := fun o => zx (o := o) (World.block_lt_of_cell? _ _ (KB v1 hB1).2.2.2.1) (KB v1 hB1).2.2.2.1; have q3f := fun o => zeo o (World.block_lt_of_cell? _ _ (KB v1 hB1).2.2.2.1) (KB v1 hB1).2.2.2.2.1; have bVv := b1.alloc b1.size (.cells #[.int .i64 (rvT ws (X x)), .int .i64 (rvN ws (X x))] 48); have hBv := hB.trans (bVv.mono hB.size); clear b1) | (refine ⟨trivial, ?_⟩; gi_at_call 119; refine (CallsIn.inRound l (callsIn_wide.2 (za6 _ _ _))).mono ?_; rw [hr]; rintro e v4 ⟨rfl, b4⟩; have bV4 := zc bV3 b4; have hB4 := hB.trans (bV4.mono hB.size); obtain ⟨d0, d1, d2, d3, df, ds4⟩ := KB v4 hB4; have u4 := ze u3 b4 lv3; have lv4 := Nat.lt_of_lt_of_le lv3 b4.size; clear b4) | (refine ⟨trivial, ?_⟩; refine (CallsIn.inRound l (callsIn_wide.2 (HM1.out x (rvT ws (X x)) (rvN ws (X x)) _ x.2 (KW _ hBv)))).mono ?_; rw [hmh]; rintro e v3 ⟨rfl, b3⟩; have bV3 := zc bVv b3; have hB3 := hB.trans (bV3.mono hB.size); obtain ⟨r0, r1, r2, r3, rf, rs3⟩ := KB v3 hB3; have u3 := zp b3 (by simp); have lv3 := zq b3; clear b3))
        refine ⟨trivial, ?_⟩
        gi_wp2
        all_goals first
         | (exfalso; exact zvr ‹some undef = some (Value.bool _)›)
         | exact ⟨KeepsOthers.of_below bV4, zah.of_below bV4, HNX, hB4⟩
         | (refine ⟨trivial, ?_⟩; gi_wp2; exact ⟨KeepsOthers.of_below bV4, zah.of_below bV4, HNX, hB4⟩)
      | true =>
        cases hob : zf5 ws lead (rvT ws (X x)) (rvN ws (X x)) with
        | false =>
          have HBAD : Hid (zbv ws lead F top cyc sn mh P X x = false) := by show _ = _; simp [zbv, hr, hob]
          clear HML HST
          gi_wp2_with (first | (refine ⟨trivial, ?_⟩; gi_at_call 145; refine (CallsIn.inRound l (callsIn_wide.2 (zd5 _ ws _ (X x) _ HXx.out (zcq hbV.1 hbV.2) hn hw hXl))).mono ?_; rw [ho]; rintro e v1 ⟨rfl, b1⟩; have hB1 := hB.trans (b1.mono hB.size); have q2 := fun o => zx (o := o) (World.block_lt_of_cell? _ _ (KB v1 hB1).2.2.1) (KB v1 hB1).2.2.1; have q3 := fun o => zx (o := o) (World.block_lt_of_cell? _ _ (KB v1 hB1).2.2.2.1) (KB v1 hB1).2.2.2.1; have q3f := fun o => zeo o (World.block_lt_of_cell? _ _ (KB v1 hB1).2.2.2.1) (KB v1 hB1).2.2.2.2.1; have bVv := b1.alloc b1.size (.cells #[.int .i64 (rvT ws (X x)), .int .i64 (rvN ws (X x))] 48); have hBv := hB.trans (bVv.mono hB.size); clear b1) | (refine ⟨trivial, ?_⟩; gi_at_call 119; refine (CallsIn.inRound l (callsIn_wide.2 (za6 _ _ _))).mono ?_; rw [hr]; rintro e v4 ⟨rfl, b4⟩; have bV4 := zc bV3 b4; have hB4 := hB.trans (bV4.mono hB.size); obtain ⟨d0, d1, d2, d3, df, ds4⟩ := KB v4 hB4; have u4 := ze u3 b4 lv3; have lv4 := Nat.lt_of_lt_of_le lv3 b4.size; clear b4) | (refine ⟨trivial, ?_⟩; gi_at_call 174; refine (CallsIn.inRound l (callsIn_wide.2 (HIO _ _ _ (KW _ hB4) (hm0 hr)))).mono ?_; rw [hob]; rintro e v6 ⟨rfl, b6⟩; have bV6 := zc bV4 b6; have hB6 := hB.trans (bV6.mono hB.size); obtain ⟨g0, g1, g2, g3, gf, gs6⟩ := KB v6 hB6; have u6 := ze u4 b6 lv4; clear b6) | (refine ⟨trivial, ?_⟩; refine (CallsIn.inRound l (callsIn_wide.2 (HM1.out x (rvT ws (X x)) (rvN ws (X x)) _ x.2 (KW _ hBv)))).mono ?_; rw [hmh]; rintro e v3 ⟨rfl, b3⟩; have bV3 := zc bVv b3; have hB3 := hB.trans (bV3.mono hB.size); obtain ⟨r0, r1, r2, r3, rf, rs3⟩ := KB v3 hB3; have u3 := zp b3 (by simp); have lv3 := zq b3; clear b3))
          first
           | exact ⟨(KeepsOthers.of_below bV6).trans (KeepsOthers.setCell _ _ _), ⟨rfl, ⟨x, x.2, HBAD.out⟩, World.cell?_setCell_same' _ _ _ (by rw [g3]; rfl)⟩, (KW _ hB6).setCell (p := ⟨w.heap.size + 1 + 1 + 1, 0, none⟩) (by show w.heap.size <= w.heap.size + 1 + 1 + 1; omega) _⟩
           | (refine ⟨trivial, ?_⟩; gi_wp2; exact ⟨(KeepsOthers.of_below bV6).trans (KeepsOthers.setCell _ _ _), ⟨rfl, ⟨x, x.2, HBAD.out⟩, World.cell?_setCell_same' _ _ _ (by rw [g3]; rfl)⟩, (KW _ hB6).setCell (p := ⟨w.heap.size + 1 + 1 + 1, 0, none⟩) (by show w.heap.size <= w.heap.size + 1 + 1 + 1; omega) _⟩)
           | (refine ⟨trivial, ?_⟩; gi_wp2; refine ⟨trivial, ?_⟩; gi_wp2; exact ⟨(KeepsOthers.of_below bV6).trans (KeepsOthers.setCell _ _ _), ⟨rfl, ⟨x, x.2, HBAD.out⟩, World.cell?_setCell_same' _ _ _ (by rw [g3]; rfl)⟩, (KW _ hB6).setCell (p := ⟨w.heap.size + 1 + 1 + 1, 0, none⟩) (by show w.heap.size <= w.heap.size + 1 + 1 + 1; omega) _⟩)
        | true =>
          cases hml : ze3 F top cyc sn P (rvN ws (X x)) with
          | false =>
            have HBAD : Hid (zbv ws lead F top cyc sn mh P X x = false) := by show _ = _; simp [zbv, hr, hml]
            clear HST
            gi_wp2_with (first | (refine ⟨trivial, ?_⟩; gi_at_call 145; refine (CallsIn.inRound l (callsIn_wide.2 (zd5 _ ws _ (X x) _ HXx.out (zcq hbV.1 hbV.2) hn hw hXl))).mono ?_; rw [ho]; rintro e v1 ⟨rfl, b1⟩; have hB1 := hB.trans (b1.mono hB.size); have q2 := fun o => zx (o := o) (World.block_lt_of_cell? _ _ (KB v1 hB1).2.2.1) (KB v1 hB1).2.2.1; have q3 := fun o => zx (o := o) (World.block_lt_of_cell? _ _ (KB v1 hB1).2.2.2.1) (KB v1 hB1).2.2.2.1; have q3f := fun o => zeo o (World.block_lt_of_cell? _ _ (KB v1 hB1).2.2.2.1) (KB v1 hB1).2.2.2.2.1; have bVv := b1.alloc b1.size (.cells #[.int .i64 (rvT ws (X x)), .int .i64 (rvN ws (X x))] 48); have hBv := hB.trans (bVv.mono hB.size); clear b1) | (refine ⟨trivial, ?_⟩; gi_at_call 119; refine (CallsIn.inRound l (callsIn_wide.2 (za6 _ _ _))).mono ?_; rw [hr]; rintro e v4 ⟨rfl, b4⟩; have bV4 := zc bV3 b4; have hB4 := hB.trans (bV4.mono hB.size); obtain ⟨d0, d1, d2, d3, df, ds4⟩ := KB v4 hB4; have u4 := ze u3 b4 lv3; have lv4 := Nat.lt_of_lt_of_le lv3 b4.size; clear b4) | (refine ⟨trivial, ?_⟩; gi_at_call 174; refine (CallsIn.inRound l (callsIn_wide.2 (HIO _ _ _ (KW _ hB4) (hm0 hr)))).mono ?_; rw [hob]; rintro e v6 ⟨rfl, b6⟩; have bV6 := zc bV4 b6; have hB6 := hB.trans (bV6.mono hB.size); obtain ⟨g0, g1, g2, g3, gf, gs6⟩ := KB v6 hB6; have u6 := ze u4 b6 lv4; clear b6) | (refine ⟨trivial, ?_⟩; gi_at_call 197; refine (CallsIn.inRound l (callsIn_wide.2 (HML _ _ (KW _ hB6)))).mono ?_; rw [hml]; rintro e v7 ⟨rfl, b7⟩; have bV7 := zc bV6 b7; have hB7 := hB.trans (bV7.mono hB.size); obtain ⟨i0, i1, i2, i3, if7, is7⟩ := KB v7 hB7; clear b7) | (refine ⟨trivial, ?_⟩; refine (CallsIn.inRound l (callsIn_wide.2 (HM1.out x (rvT ws (X x)) (rvN ws (X x)) _ x.2 (KW _ hBv)))).mono ?_; rw [hmh]; rintro e v3 ⟨rfl, b3⟩; have bV3 := zc bVv b3; have hB3 := hB.trans (bV3.mono hB.size); obtain ⟨r0, r1, r2, r3, rf, rs3⟩ := KB v3 hB3; have u3 := zp b3 (by simp); have lv3 := zq b3; clear b3))
            exact ⟨(KeepsOthers.of_below bV7).trans (KeepsOthers.setCell _ _ _), ⟨rfl, ⟨x, x.2, HBAD.out⟩, World.cell?_setCell_same' _ _ _ (by rw [i3]; rfl)⟩, (KW _ hB7).setCell (p := ⟨w.heap.size + 1 + 1 + 1, 0, none⟩) (by show w.heap.size <= w.heap.size + 1 + 1 + 1; omega) _⟩
          | true =>
            have HNX : Hid (∀ y ∈ pre ++ [x], zbv ws lead F top cyc sn mh P X (y : Fin N) = true) := HST.out (by simp [zbv, ho, hmh, hob, hml])
            clear HST
            gi_wp2_with (first | (refine ⟨trivial, ?_⟩; gi_at_call 145; refine (CallsIn.inRound l (callsIn_wide.2 (zd5 _ ws _ (X x) _ HXx.out (zcq hbV.1 hbV.2) hn hw hXl))).mono ?_; rw [ho]; rintro e v1 ⟨rfl, b1⟩; have hB1 := hB.trans (b1.mono hB.size); have q2 := fun o => zx (o := o) (World.block_lt_of_cell? _ _ (KB v1 hB1).2.2.1) (KB v1 hB1).2.2.1; have q3 := fun o => zx (o := o) (World.block_lt_of_cell? _ _ (KB v1 hB1).2.2.2.1) (KB v1 hB1).2.2.2.1; have q3f := fun o => zeo o (World.block_lt_of_cell? _ _ (KB v1 hB1).2.2.2.1) (KB v1 hB1).2.2.2.2.1; have bVv := b1.alloc b1.size (.cells #[.int .i64 (rvT ws (X x)), .int .i64 (rvN ws (X x))] 48); have hBv := hB.trans (bVv.mono hB.size); clear b1) | (refine ⟨trivial, ?_⟩; gi_at_call 119; refine (CallsIn.inRound l (callsIn_wide.2 (za6 _ _ _))).mono ?_; rw [hr]; rintro e v4 ⟨rfl, b4⟩; have bV4 := zc bV3 b4; have hB4 := hB.trans (bV4.mono hB.size); obtain ⟨d0, d1, d2, d3, df, ds4⟩ := KB v4 hB4; have u4 := ze u3 b4 lv3; have lv4 := Nat.lt_of_lt_of_le lv3 b4.size; clear b4) | (refine ⟨trivial, ?_⟩; gi_at_call 174; refine (CallsIn.inRound l (callsIn_wide.2 (HIO _ _ _ (KW _ hB4) (hm0 hr)))).mono ?_; rw [hob]; rintro e v6 ⟨rfl, b6⟩; have bV6 := zc bV4 b6; have hB6 := hB.trans (bV6.mono hB.size); obtain ⟨g0, g1, g2, g3, gf, gs6⟩ := KB v6 hB6; have u6 := ze u4 b6 lv4; clear b6) | (refine ⟨trivial, ?_⟩; gi_at_call 197; refine (CallsIn.inRound l (callsIn_wide.2 (HML _ _ (KW _ hB6)))).mono ?_; rw [hml]; rintro e v7 ⟨rfl, b7⟩; have bV7 := zc bV6 b7; have hB7 := hB.trans (bV7.mono hB.size); obtain ⟨i0, i1, i2, i3, if7, is7⟩ := KB v7 hB7; clear b7) | (refine ⟨trivial, ?_⟩; refine (CallsIn.inRound l (callsIn_wide.2 (HM1.out x (rvT ws (X x)) (rvN ws (X x)) _ x.2 (KW _ hBv)))).mono ?_; rw [hmh]; rintro e v3 ⟨rfl, b3⟩; have bV3 := zc bVv b3; have hB3 := hB.trans (bV3.mono hB.size); obtain ⟨r0, r1, r2, r3, rf, rs3⟩ := KB v3 hB3; have u3 := zp b3 (by simp); have lv3 := zq b3; clear b3))
            exact ⟨KeepsOthers.of_below bV7, zah.of_below bV7, HNX, hB7⟩
 case done =>
  rintro D ys V hD rfl ⟨hok, hB⟩ hK
  obtain ⟨k0, k1, k2, k3, kf, ks⟩ := KB V hB
  gi_wp2
  have hK' := (KeepsOthers.setCell V ⟨w.heap.size + 1 + 1 + 1, 0, none⟩ (.bool true)).same D _ hK rfl
  refine ⟨by simp, .inl ⟨_, _, rfl, run_takeDeferred hK', ?_⟩⟩
  have hc5 := cell_kept (World.cell?_setCell_same' V ⟨w.heap.size + 1 + 1 + 1, 0, none⟩ (.bool true) (by rw [k3]; rfl)) (grownBy_putObj' _ D (.deferred none)) (fun r e => by cases e; exact ⟨_, hK', rfl⟩)
  refine ⟨.bool true, ?_, true, rfl, ⟨fun _ j hj => hok.out ⟨j, hj⟩ (List.mem_finRange _), fun _ => rfl⟩, ((KW V hB).setCell (p := ⟨w.heap.size + 1 + 1 + 1, 0, none⟩) (by show w.heap.size <= w.heap.size + 1 + 1 + 1; omega) _).trans (belowK_b (w := w) (Nat.le_refl _) _ D _ _ (by omega) hK' rfl rfl)⟩
  simp [results, Tryz.results169, go_sem, hc5]
 case stop =>
  rintro D c pre V hD hpre ⟨⟨rfl, hin, hcr⟩, hB⟩ hK
  obtain ⟨j, hj, hbad⟩ := hin
  gi_wp2
  refine ⟨by simp, .inl ⟨_, _, rfl, run_takeDeferred hK, ?_⟩⟩
  have hc5 := cell_kept hcr (grownBy_putObj' _ D (.deferred none)) (fun r e => by cases e; exact ⟨_, hK, rfl⟩)
  refine ⟨.bool false, ?_, false, rfl, ⟨fun g => by simp at g, fun g => by have := g j hj; rw [hbad] at this; simp at this⟩, hB.trans (belowK_b (w := w) (Nat.le_refl _) V D _ _ (by omega) hK rfl rfl)⟩
  simp [results, Tryz.results169, go_sem, hc5]
end Go.Proofs.YtmckcnmlhgpnhaaGreat
