/- Rows of words of a call's own, that grow; the numbers of an image. No Go here. -/
import Derived.Test.YtmckcnmlhgpnhaaGreatProg
import Derived.Test.YtmckcnmlhgpnhaaGreatKRowF
import Derived.Test.YtmckcnmlhgpnhaaGreatKArenaA
import Derived.Deep.OwnRows
import Derived.Maps.AppendAt
import Derived.OwnWalk
namespace Go.Proofs.YtmckcnmlhgpnhaaGreat
set_option maxRecDepth 20000
open Go.RowKit Go.Maps
set_option linter.unusedSimpArgs false
set_option linter.unusedVariables false

theorem infoU64 : (Tryz.prog.info? 100).map (fun i => (i.zero, i.size, i.bytes)) = some (some (.int .u64 0), 1, 8) := by kernel_rfl
def ucl (xs : List Int) : List Value := xs.map fun x => .int .u64 x
theorem ucl_len (xs : List Int) : (ucl xs).length = xs.length := by simp [ucl]
theorem ucl_snoc (xs : List Int) (x : Int) : ucl (xs ++ [x]) = ucl xs ++ [.int .u64 x] := by simp [ucl]
theorem ucl_at (xs : List Int) (i : Nat) (h : i < xs.length) : (ucl xs)[i]? = some (.int .u64 (xs.getD i 0)) := by simp [ucl, h]
/-- A row of numbers in a block of its own, from block B on. -/
def UR (B : Nat) (w : World) (v : Value) (xs : List Int) : Prop := w.ownsRow B 100 1 v xs.length (ucl xs)
theorem UR.form {B : Nat} {w : World} {v : Value} {xs : List Int} (h : UR B w v xs) : ∃ a c, v = .slice a xs.length c := by
  obtain ⟨_, ⟨rfl, h0⟩ | ⟨g, cap, cur, rfl, _⟩⟩ := h
  · exact ⟨none, 0, by rw [h0]⟩
  · exact ⟨_, _, rfl⟩
theorem UR.nil (B : Nat) (w : World) : UR B w (.slice none 0 0) [] := World.ownsRow_nil w B _ 1
theorem UR.alloc {B : Nat} {w : World} {v : Value} {xs : List Int} (h : UR B w v xs) (o : Obj) : UR B (w.alloc o) v xs := World.ownsRow.alloc h o
theorem UR.below {B : Nat} {w w' : World} {v : Value} {xs : List Int} (h : UR B w v xs) (hb : Below w.heap.size w w') : UR B w' v xs :=
  World.ownsRow.kept h (row := none) ⟨hb.os, hb.tape, hb.output, hb.size, fun k hk _ => hb.block k hk⟩ (by cases v.ownBlock <;> simp)
theorem UR.mono {B C : Nat} {w : World} {v : Value} {xs : List Int} (h : UR B w v xs) (hC : C ≤ B) : UR C w v xs := by
  obtain ⟨h1, h2⟩ := h
  refine ⟨h1, ?_⟩
  rcases h2 with h2 | ⟨g, cap, cur, hv, hg, r⟩
  · exact .inl h2
  · exact .inr ⟨g, cap, cur, hv, Nat.le_trans hC hg, r⟩
theorem UR.sl {B : Nat} {w : World} {v : Value} {xs : List Int} (h : UR B w v xs) : SlF w.heap.size w v xs.length xs.length (fun i => .int .u64 (xs.getD i 0)) := by
  obtain ⟨h1, ⟨rfl, h0⟩ | ⟨g, cap, cur, rfl, hg, hc, hn, hcap, hs, hx⟩⟩ := h
  · exact ⟨none, 0, by rw [h0], .inl h0⟩
  · have lg : g < w.heap.size := by
      rcases Nat.lt_or_ge g w.heap.size with h | h
      · exact h
      · rw [Array.getElem?_eq_none h] at hc; cases hc
    refine ⟨_, cap, rfl, .inr ⟨g, 0, rfl, lg, lg, fun i hi => ?_⟩⟩
    have hown : w.ownsRow B 100 1 (.slice (some ⟨g, 0, none⟩) xs.length cap) xs.length (ucl xs) := ⟨h1, .inr ⟨g, cap, cur, rfl, hg, hc, hn, hcap, hs, hx⟩⟩
    rw [Nat.zero_add, hown.cellAt i (by omega)]
    exact ucl_at xs i hi
theorem UR.step {B : Nat} {w wr w1 : World} {u v' : Value} {o : Obj} {xs : List Int} {x : Int} (hB : B ≤ wr.heap.size) (hown : UR B wr u xs) (hnx : Below B w wr)
    (hown' : w1.ownsRow B 100 1 v' (xs.length + 1) (ucl xs ++ [.int .u64 x])) (hgrow : (wr.alloc o).grownBy w1 u.ownBlock) : UR B w1 v' (xs ++ [x]) ∧ Below B w w1 := by
  refine ⟨?_, (hnx.alloc hB o).grown hgrow (by simp; omega) (fun j hj => by have := (World.ownsRow.lt hown j hj).1; omega)⟩
  unfold UR
  rw [ucl_snoc, List.length_append]
  exact hown'
theorem UR.new {B : Nat} {w : World} (xs : List Int) (hB : B ≤ w.heap.size) (hl : xs.length ≤ 1048576) : UR B (w.alloc (.cells (ucl xs).toArray 100)) (.slice (some ⟨w.heap.size, 0, none⟩) xs.length xs.length) xs := by
  refine ⟨by rw [ucl_len, Nat.mul_one], .inr ⟨w.heap.size, xs.length, (ucl xs).toArray, rfl, hB, Go.Deep.blk_alloc_new _ _, Nat.le_refl _, by unfold maxLen; omega, by simp [ucl_len], ?_⟩⟩
  rw [List.toList_toArray, List.take_of_length_le (by rw [ucl_len]; omega)]
theorem UR.take {B : Nat} {w : World} {a : Option Addr} {c : Nat} {xs : List Int} (h : UR B w (.slice a xs.length c) xs) {m : Nat} (hm : m ≤ xs.length) : UR B w (.slice a m c) (xs.take m) := by
  obtain ⟨h1, ⟨hv, h0⟩ | ⟨g, cap, cur, hv, hg, hc, hn, hcap, hs, hx⟩⟩ := h
  · simp only [Value.slice.injEq] at hv
    obtain ⟨rfl, _, rfl⟩ := hv
    obtain rfl : m = 0 := by omega
    obtain rfl : xs = [] := List.eq_nil_of_length_eq_zero h0
    exact UR.nil _ _
  · simp only [Value.slice.injEq] at hv
    obtain ⟨rfl, _, rfl⟩ := hv
    have e : (xs.take m).length = m := by rw [List.length_take]; omega
    unfold UR
    rw [e]
    refine ⟨by rw [ucl_len, e, Nat.mul_one], .inr ⟨g, c, cur, rfl, hg, hc, by omega, hcap, hs, ?_⟩⟩
    have : ucl (xs.take m) = (ucl xs).take m := by simp [ucl, List.map_take]
    rw [this, ← hx, List.take_take, Nat.mul_one, Nat.mul_one, Nat.min_eq_left hm]
theorem ucl_append (xs ys : List Int) : ucl (xs ++ ys) = ucl xs ++ ucl ys := by simp [ucl]
/-- Behind an append of news. -/
theorem UR.grow {B : Nat} {w wr w1 : World} {u v' : Value} {xs news : List Int} (hB : B ≤ wr.heap.size) (hown : UR B wr u xs) (hnx : Below B w wr)
    (hown' : w1.ownsRow B 100 1 v' (xs.length + news.length) (ucl xs ++ ucl news)) (hgrow : wr.grownBy w1 u.ownBlock) : UR B w1 v' (xs ++ news) ∧ Below B w w1 := by
  refine ⟨?_, hnx.grown hgrow hB (fun j hj => by have := (World.ownsRow.lt hown j hj).1; omega)⟩
  unfold UR
  rw [ucl_append, List.length_append]
  exact hown'
theorem UR.grow1 {B : Nat} {w wr w1 : World} {u v' : Value} {o : Obj} {xs news : List Int} (hB : B ≤ wr.heap.size) (hown : UR B wr u xs) (hnx : Below B w wr)
    (hown' : w1.ownsRow B 100 1 v' (xs.length + news.length) (ucl xs ++ ucl news)) (hgrow : (wr.alloc o).grownBy w1 u.ownBlock) : UR B w1 v' (xs ++ news) ∧ Below B w w1 :=
  UR.grow (wr := wr.alloc o) (by simp; omega) (hown.alloc o) (hnx.alloc hB o) hown' hgrow
/-- A number as a word. -/
def u64of (z : Int) : Int := IntKind.u64.wrap z
/-- The words of the first k Roots. -/
def imgR (y : Nat → Int) : Nat → List Int
  | 0 => []
  | k + 1 => imgR y k ++ [u64of (y (2 * k)), u64of (y (2 * k + 1))]
theorem imgR_len (y : Nat → Int) : ∀ k, (imgR y k).length = 2 * k
  | 0 => rfl
  | k + 1 => by simp [imgR, imgR_len y k]; omega
/-- The words from S on and below T. -/
def cutW (ws : List Int) (S T : Nat) : List Int := (ws.drop S).take (T - S)
theorem cutW_len {ws : List Int} {S T : Nat} (h : S ≤ T) (hT : T ≤ ws.length) : (cutW ws S T).length = T - S := by simp [cutW]; omega
theorem cutW_at {ws : List Int} {S T j : Nat} (hT : T ≤ ws.length) (hj : j < T - S) : (ucl (cutW ws S T))[j]? = some (.int .u64 (wordAt ws (S + j))) := by
  have hl : j < (cutW ws S T).length := by rw [cutW]; simp; omega
  rw [ucl_at _ _ hl]
  congr 2
  simp [cutW, wordAt, List.getElem?_take, hj]
/-- The sum of words, wrapped. -/
def sumU (l : List Int) : Int := l.foldl (fun s z => IntKind.u64.wrap (s + z)) 0
theorem sumU_take {l : List Int} {k : Nat} (h : k < l.length) : sumU (l.take (k + 1)) = IntKind.u64.wrap (sumU (l.take k) + l.getD k 0) := by
  rw [List.take_succ_eq_append_getElem h]
  unfold sumU
  rw [List.foldl_append]
  simp only [List.foldl_cons, List.foldl_nil]
  congr 2
  simp [h]
/-- The numbers of an image without its sum. -/
def imgW (ws : List Int) (semi toh top : Int) (cyc : Bool) (scan old copied serial : Int) (y : Nat → Int) (k S T F O : Nat) : List Int :=
  [semi, toh, top, (if cyc = true then 1 else 0), scan, old, copied, serial, (k : Int)] ++ imgR y k ++ cutW ws S T ++ (if cyc = true then cutW ws F O else [])
def imgL (ws : List Int) (semi toh top : Int) (cyc : Bool) (scan old copied serial : Int) (y : Nat → Int) (k S T F O : Nat) : List Int :=
  imgW ws semi toh top cyc scan old copied serial y k S T F O ++ [sumU (imgW ws semi toh top cyc scan old copied serial y k S T F O)]
end Go.Proofs.YtmckcnmlhgpnhaaGreat
