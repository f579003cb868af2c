/- - -/
import Derived.Test.YtmckcnmlhgpnhaaGreatWItB
import Derived.OrdersIn
import Derived.OrdersHeld
namespace Go.Proofs.YtmckcnmlhgpnhaaGreat
set_option maxRecDepth 20000
open Go.RowKit Go.Shelf
set_option linter.unusedSimpArgs false
set_option linter.unusedVariables false
attribute [local go_sem] Oper.semAt_some
structure zc8 (X : List Nat) (W W' : World) : Prop where
 size : W.heap.size <= W'.heap.size
 same : ∀ (k : Nat) (o : Obj), k ∉ X -> W.heap[k]? = some o -> o.isCells = true -> W'.heap[k]? = some o
theorem zc8.refl (X : List Nat) (W : World) : zc8 X W W := ⟨Nat.le_refl _, fun _ _ _ h _ => h⟩
theorem zc8.trans {X : List Nat} {A B C : World} (h : zc8 X A B) (k : zc8 X B C) : zc8 X A C :=
 ⟨Nat.le_trans h.size k.size, fun i o hx hi ho => k.same i o hx (h.same i o hx hi ho) ho⟩
theorem zc8.putObj (X : List Nat) (W : World) (l : Nat) (o o' : Obj) (h : W.heap[l]? = some o) (ho : o.isCells = false) : zc8 X W (W.putObj l o') :=
 ⟨(zah.putObj W l o o' h ho).size, fun k u _ hk hu => (zah.putObj W l o o' h ho).same k u hk hu⟩
theorem zc8.cell {X : List Nat} {W W' : World} (h : zc8 X W W') {p : Addr} {v : Value} (hx : p.block ∉ X) (hc : W.cell? p = some v) : W'.cell? p = some v := by
 have e : W'.heap[p.block]? = W.heap[p.block]? := by
  cases hb : W.heap[p.block]? with
  | none => simp [World.cell?, hb] at hc
  | some o =>
    cases o with
    | cells c t fz => exact h.same _ _ hx hb rfl
    | _ => simp [World.cell?, hb] at hc
 rw [World.cell?_of_block e]; exact hc
theorem zv8 {l n : Nat} {P : Program} {o : Oper} {a : Act} {w : World} {K : Act -> World -> Prop} {Q : Exit -> Act -> World -> Prop} (hd : ∀ c, o.op ≠ .defer c) (h : o.wp P a w K Q) : o.wpIn (Fence.wide.inRound l) n P a w K Q := by
 unfold Oper.wp at h
 unfold Oper.wpIn
 refine ⟨fun _ _ => trivial, ?_⟩
 rw [show (Fence.wide.inRound l).round = some l from rfl, Oper.semAt_some l _ o hd]
 generalize (execOp a.eval o).run P w = r at *
 cases r with
 | ok x w' =>
   cases x <;> simp only [Oper.upon, Oper.uponIn] at h ⊢ <;>
    first
     | exact h
     | exact ⟨fun g => (by cases g), CallsIn.inRound l (callsIn_wide.2 h)⟩
     | exact ⟨fun g => (by cases g), fun c cs _ => let ⟨v, w', r, s⟩ := h c cs; ⟨v, w', r, stepsIn_wide.2 s⟩⟩
     | exact h.elim
 | halt x w' => cases x <;> simp only [Oper.upon, Oper.uponIn] at h ⊢ <;> exact h
theorem zgj {l n : Nat} {P : Program} {md : Region.Mode} {ops : Array Oper} {Q : Exit -> Act -> World -> Prop} (hd : ∀ (i : Nat) (o : Oper), ops[i]? = some o -> ∀ c, o.op ≠ .defer c) (hL : ¬ LetsOut Q) : ∀ (fuel : Nat) (listed : Array Bool) (a : Act) (w : World), wpAny P md ops Q fuel listed a w -> wpAnyIn (Fence.wide.inRound l) n P md ops Q fuel listed a w
 | 0, _, _, _, h => h
 | fuel + 1, listed, a, w, h => ⟨h.1, fun i hi => by
    have g := h.2 i hi
    unfold wpOp at g
    unfold wpOpIn
    split
    · rename_i ho
      simp only [ho] at g
      exact zgj hd hL fuel _ a w g
    · rename_i o ho
      simp only [ho] at g
      split
      · rename_i hw
        simp only [hw, if_true] at g
        rcases g with g | g
        · exact Oper.wpIn_mono (fun a w => zgj hd hL fuel _ a w) (zv8 (hd i o ho) g)
        · exact absurd g.2 hL
      · rename_i hw
        simp only [hw] at g
        exact ⟨fun _ _ => trivial, zgj hd hL fuel _ _ w g⟩⟩
def zqb (o : Oper) : Bool := match o.op with
 | .defer _ => false
 | _ => true
theorem zkm {l n id : Nat} {P : Program} {ops : Array Oper} {Q : Exit -> Act -> World -> Prop} {a : Act} {w : World} {S : World -> Prop} (hm : P.follows .mixedOrders = true) (hd : (ops.toList.all zqb) = true) (hL : ¬ LetsOut Q) (hS : S w.drew) (h : S w.drew -> wpAnyH P .any ops Q S ops.size (Array.replicate ops.size false) a w.drew) :
 (Code.region id ops true).wpIn (Fence.wide.inRound l) n P Q a w :=
 wpIn_region_any hm (zgj (fun i o ho c e => by
  have h := List.all_eq_true.1 hd o (by rw [Array.mem_toList_iff]; exact Array.mem_of_getElem? ho)
  simp [zqb, e] at h) hL _ _ _ _ (wpAny_of_held _ _ _ _ (h hS)))
attribute [local go_sem] Oper.semAt_some
set_option maxRecDepth 100000 in
set_option maxHeartbeats 2000000 in
theorem zuk (Kr : World -> World -> Prop) (hKr : ∀ A, Kr A A) (hKt : ∀ A B C, Kr A B -> Kr B C -> Kr A C) (l n : Nat) (hn1 : 1 <= n) (b off cw : Nat) (ws : List Int) (smz toh top : Int) (cyc : Bool) (sn old cpz sr : Int) (ar : Option Addr) (cr : Nat) (rs : List (Int × Int)) (Ba Bt P N fF : Nat) (k s f : Int) (T : TypeId) (J Jx : List (Fin N) -> World -> Prop)
 (hY : ∀ pre (x : Fin N) W1, J pre W1 -> pre.length < N -> YieldAt Fence.wide (n - 1) Tryz.prog l #[.int .i64 ((x : Nat) : Int), .int .i64 ((P : Int) + f + 2 * ((x : Nat) : Int))] W1 fun e W' =>
   (e = .returned (.bool true) /\ J (pre ++ [x]) W' /\ Kr W1 W') \/ (e = .returned (.bool false) /\ Jx (pre ++ [x]) W'))
 (W : World) (w0 : World) (hKc : ∀ (A V : World) (b' o : Nat) (v : Value), Below w0.heap.size w0 A -> Kr A V -> (b' = Bt \/ w0.heap.size <= b') -> A.cell? ⟨b', o, none⟩ = some v -> V.cell? ⟨b', o, none⟩ = some v) (hW0 : Below w0.heap.size w0 W) (hJ : AbidesFrom W.heap.size J)
 (lBa : Ba < W.heap.size) (ca : ∀ i, W.cell? ⟨Ba, i, none⟩ = (#[.slice (some ⟨b, off, none⟩) ws.length cw, .int .i64 smz, .int .i64 toh, .int .i64 top, .bool cyc, .int .i64 sn, .int .i64 old, .int .i64 cpz, .int .i64 sr, .slice ar rs.length cr] : Array Value)[i]?) (ct : W.cell? ⟨Bt, 0, none⟩ = some (.int .i64 (P : Int))) (hb : b < W.heap.size) (hc : ∀ i, i < ws.length -> W.cell? ⟨b, off + i, none⟩ = some (.int .u64 (za ws i))) (hn : ws.length <= 1048576) (hw : zg ws) (hP : P < ws.length) (hk : rdK (za ws P) = k) (hs : rdS (za ws P) = s) (hs0 : 0 <= s) (hs1 : s <= 65536) (hf0 : 1 <= f) (hf1 : f <= 65536)
 (hNs : ∀ m : Nat, f + 2 * m < s ↔ m < N) (hT : zd1 k = T) (hm : ∀ v w, Sem.run Tryz.prog (method 372 T v "loop.example/g00101/impl.firstSlot") w = .ok (fF, v) w) (hfF : ∀ v w, Calls Tryz.prog fF #[v] w fun e w' => e = .returned (.int .i64 f) /\ w' = w) (hen : ∀ args w, (callFunc fF args).run Tryz.prog w = .ok (.enter fF args) w) (h0 : J [] W) :
 CallsIn Fence.wide n Tryz.prog 159 #[.func (.yield l) #[] #[], .pointer (some ⟨Ba, 0, none⟩), .pointer (some ⟨Bt, 0, none⟩)] W fun e W' => (∃ v, e = .returned v) /\
  ((∃ xs, xs = List.finRange N /\ J xs W') \/ (∃ pre, True /\ Jx pre W')) := by
 have hfk := zdp
 have HC : Hid (∀ i, i < ws.length -> W.cell? ⟨b, off + i, none⟩ = some (.int .u64 (za ws i))) := hc
 have hn' : (ws.length : Int) <= 1048576 := by omega
 have hP' : (P : Int) < (ws.length : Int) := by omega
 refine callsIn_of_wp Tryz.func159 rfl trivial ?_ rfl
 simp only [Tryz.ntmps159, List.size_toArray, List.length_cons, List.length_nil, Nat.reduceAdd, Nat.reduceSub, Array.replicate_succ, Array.replicate_zero, List.push_toArray, List.append_toArray, List.nil_append, List.cons_append]
 gi_wp2_with (refine ⟨trivial, ?_⟩; gi_at_call 81; refine (callsIn_wide.2 (zc3 _ _ _ _ _ _ _ _ _ _ _ _ _ _ _ P _ rfl (zcq hb HC.out) hn hw hP)).mono ?_; rw [hk, hs]; rintro e w1 ⟨rfl, b1⟩)
 obtain ⟨w2, hw2⟩ : ∃ w2, w2 = w1.alloc (.cells #[.int .i64 k, .int .i64 s, .int .i64 (rdN (za ws P))] 78) := ⟨_, rfl⟩
 have kh : ∀ i, w2.cell? ⟨w1.heap.size, i, none⟩ = (#[.int .i64 k, .int .i64 s, .int .i64 (rdN (za ws P))] : Array Value)[i]? := fun i => by rw [hw2]; simp [go_sem]
 have B2 : Below W.heap.size W w2 := by rw [hw2]; exact b1.alloc b1.size _
 have ct2 : w2.cell? ⟨Bt, 0, none⟩ = some (.int .i64 (P : Int)) := by rw [B2.cell (p := ⟨Bt, 0, none⟩) (World.block_lt_of_cell? _ ⟨Bt, 0, none⟩ ct)]; exact ct
 rw [<- hw2]
 have hJ2 : J [] w2 := zew hJ h0 B2
 have hzW : W.heap.size <= w1.heap.size := b1.size
 clear hw2 ct h0 ca HC hc b1
 refine wpIn_wide.2 ?_
 go_region_held3 (fun V => V = w2.drew) (first | assumption | rfl) (first | (go_at_call 160; refine (zhb _ _ _).mono ?_; rw [hT]; rintro e w' ⟨rfl, rfl⟩) | (refine (hfF _ _).mono ?_; rintro e w' ⟨rfl, rfl⟩))
 have hwr : IntKind.i64.wrap ((P : Int) + f) = (P : Int) + f := by rw [IntKind.wrap_i64]; omega
 rw [hwr]
 obtain ⟨w3, hw3⟩ : ∃ w3, w3 = w2.drew := ⟨_, rfl⟩
 rw [<- hw3]
 have kh3 : ∀ i, w3.cell? ⟨w1.heap.size, i, none⟩ = (#[.int .i64 k, .int .i64 s, .int .i64 (rdN (za ws P))] : Array Value)[i]? := fun i => by rw [hw3]; exact kh i
 have ct3 : w3.cell? ⟨Bt, 0, none⟩ = some (.int .i64 (P : Int)) := by rw [hw3]; exact ct2
 have hJ3 : J [] w3 := by rw [hw3]; exact zew hJ hJ2 (Below.refl _ _).drew
 have hW3 : Below w0.heap.size w0 w3 := by rw [hw3]; exact (hW0.trans (B2.mono hW0.size)).drew
 have KH : ∀ V, Kr w3 V -> V.cell? ⟨Bt, 0, none⟩ = some (.int .i64 (P : Int)) /\ V.cell? ⟨w1.heap.size, 1, none⟩ = some (.int .i64 s) := fun V hV => ⟨hKc w3 V Bt 0 _ hW3 hV (.inl rfl) ct3, hKc w3 V w1.heap.size 1 _ hW3 hV (.inr (Nat.le_trans hW0.size hzW)) (by rw [kh3 1]; rfl)⟩
 clear hw3 ct2 kh kh3 hJ2 hwr hm hen hfk
 gi_wp2
 have hN1 : N <= 65536 := by
  by_cases e : N = 0
  · omega
  · have := (hNs (N - 1)).2 (by omega)
    omega
 have HNs : Hid (∀ m : Nat, f + 2 * m < s ↔ m < N) := hNs
 have HY : Hid (∀ pre (x : Fin N) W1, J pre W1 -> pre.length < N -> YieldAt Fence.wide (n - 1) Tryz.prog l #[.int .i64 ((x : Nat) : Int), .int .i64 ((P : Int) + f + 2 * ((x : Nat) : Int))] W1 fun e W' =>
  (e = .returned (.bool true) /\ J (pre ++ [x]) W' /\ Kr W1 W') \/ (e = .returned (.bool false) /\ Jx (pre ++ [x]) W')) := hY
 clear hNs hY hJ hfF
 gi_loopw [5, 6] (fun u5 u6 wr => ∃ j : Nat, j <= N /\ u6 = .int .i64 j /\ u5 = .int .i64 ((P : Int) + f + 2 * (j : Int)) /\ J ((List.finRange N).take j) wr /\ Kr w3 wr) (fun _ u6 _ => N - (intOf u6).toNat)
 case atStart => exact ⟨0, Nat.zero_le _, rfl, by simp, hJ3, hKr _⟩
 case round =>
  obtain ⟨j, hj, rfl, rfl, hJr, hKw⟩ := hrel
  obtain ⟨ctr, csr⟩ := KH _ hKw
  by_cases hlt : j < N
  · have h1 := (HNs.out j).2 hlt
    have h1' : (P : Int) + f + 2 * (j : Int) < (P : Int) + s := by omega
    have hT1 := zfk hlt
    obtain ⟨fn, tmps, assign, body, hy, hR⟩ := HY.out ((List.finRange N).take j) ⟨j, hlt⟩ wr hJr (by simp; omega)
    dsimp only at hy
    gi_wp2
    refine hR.mono ?_
    rintro e W3 (⟨rfl, hJ', hk'⟩ | ⟨rfl, hJx'⟩)
    · rw [<- hT1] at hJ'
      gi_wp2
      exact ⟨⟨j + 1, hlt, by go_num, by go_num, hJ', hKt _ _ _ hKw hk'⟩, by simp [intOf]; omega⟩
    · gi_wp2
      refine bodyPost_ret (results_none rfl _ _ _) rfl ?_
      exact ⟨⟨_, rfl⟩, .inr ⟨_, trivial, hJx'⟩⟩
  · have hjN : j = N := by omega
    have h1 : ¬ f + 2 * (j : Int) < s := fun h => hlt ((HNs.out j).1 h)
    have h1' : (P : Int) + s <= (P : Int) + f + 2 * (j : Int) := by omega
    have hJN : J (List.finRange N) wr := by
     have e : (List.finRange N).take j = List.finRange N := by rw [hjN]; exact List.take_of_length_le (by simp)
     rw [e] at hJr; exact hJr
    clear hjN
    gi_wp2
    go_end0
    first
     | exact ⟨⟨_, rfl⟩, .inl ⟨_, rfl, hJN⟩⟩
     | exact .inl hJN
     | exact ⟨⟨_, rfl⟩, .inl hJN⟩
theorem zn9 (Kr : World -> World -> Prop) (hKr : ∀ A, Kr A A) (hKt : ∀ A B C, Kr A B -> Kr B C -> Kr A C) (n : Nat) (hn1 : 1 <= n) (b off cw : Nat) (ws : List Int) (smz toh top : Int) (cyc : Bool) (sn old cpz sr : Int) (ar : Option Addr) (cr : Nat) (rs : List (Int × Int)) (Ba Bt P N fF : Nat) (k s f : Int) (T : TypeId) (w : World) (hKc : ∀ (A V : World) (b' o : Nat) (v : Value), Below w.heap.size w A -> Kr A V -> (b' = Bt \/ w.heap.size <= b') -> A.cell? ⟨b', o, none⟩ = some v -> V.cell? ⟨b', o, none⟩ = some v)
 (lBa : Ba < w.heap.size) (ca : ∀ i, w.cell? ⟨Ba, i, none⟩ = (#[.slice (some ⟨b, off, none⟩) ws.length cw, .int .i64 smz, .int .i64 toh, .int .i64 top, .bool cyc, .int .i64 sn, .int .i64 old, .int .i64 cpz, .int .i64 sr, .slice ar rs.length cr] : Array Value)[i]?) (ct : w.cell? ⟨Bt, 0, none⟩ = some (.int .i64 (P : Int))) (hb : b < w.heap.size) (hc : ∀ i, i < ws.length -> w.cell? ⟨b, off + i, none⟩ = some (.int .u64 (za ws i))) (hn : ws.length <= 1048576) (hw : zg ws) (hP : P < ws.length) (hk : rdK (za ws P) = k) (hs : rdS (za ws P) = s) (hs0 : 0 <= s) (hs1 : s <= 65536) (hf0 : 1 <= f) (hf1 : f <= 65536)
 (hNs : ∀ m : Nat, f + 2 * m < s ↔ m < N) (hT : zd1 k = T) (hm : ∀ v w, Sem.run Tryz.prog (method 372 T v "loop.example/g00101/impl.firstSlot") w = .ok (fF, v) w) (hfF : ∀ v w, Calls Tryz.prog fF #[v] w fun e w' => e = .returned (.int .i64 f) /\ w' = w) (hen : ∀ args w, (callFunc fF args).run Tryz.prog w = .ok (.enter fF args) w) :
 SeqStopsK Fence.wide n Tryz.prog 159 #[.pointer (some ⟨Ba, 0, none⟩), .pointer (some ⟨Bt, 0, none⟩)] (fun x : Fin N => #[.int .i64 ((x : Nat) : Int), .int .i64 ((P : Int) + f + 2 * ((x : Nat) : Int))]) Kr (fun xs => xs = List.finRange N) (fun _ => True) N w :=
 fun l J Jx W hW hJ hJx hY h0 =>
  zuk Kr hKr hKt l n hn1 b off cw ws smz toh top cyc sn old cpz sr ar cr rs Ba Bt P N fF k s f T J Jx hY W w hKc hW hJ (Nat.lt_of_lt_of_le lBa hW.size) (ze ca hW lBa) (by rw [hW.cell (p := ⟨Bt, 0, none⟩) (World.block_lt_of_cell? _ ⟨Bt, 0, none⟩ ct)]; exact ct) (zh hb hc hW).1 (zh hb hc hW).2 hn hw hP hk hs hs0 hs1 hf0 hf1 hNs hT hm hfF hen h0
end Go.Proofs.YtmckcnmlhgpnhaaGreat
