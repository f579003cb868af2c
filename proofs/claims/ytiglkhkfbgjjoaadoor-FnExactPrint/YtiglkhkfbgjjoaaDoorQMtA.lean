/- - -/
import Derived.Test.YtiglkhkfbgjjoaaDoorQPrC
import Derived.Test.YtiglkhkfbgjjoaaDoorQTrE
import Derived.Deep.RegionHeld
namespace Go.Proofs.YtiglkhkfbgjjoaaDoor
set_option maxRecDepth 20000
open Go.RowKit Go.PlainAid Go.Maps
set_option linter.unusedSimpArgs false
set_option linter.unusedVariables false
def RdF (w : World) (v : Value) (xs : List ByteArray) : Prop := ∃ g c, v = .slice (some ⟨g, 0, none⟩) xs.length c /\ g < w.heap.size /\ ∀ j u, (scl xs)[j]? = some u -> w.cell? ((⟨g, 0, none⟩ : Addr).add j) = some u
theorem RdF.rd {w : World} {v : Value} {xs : List ByteArray} (h : RdF w v xs) : RdS w v xs := .inr h
theorem SR.rdF {B : Nat} {w : World} {v : Value} {xs : List ByteArray} (h : SR B w v xs) : RdF w v xs := by
 obtain ⟨g, c, rfl, _, h2⟩ := h.form
 exact ⟨g, c, rfl, h2, h.cells⟩
theorem RdF.below {w w' : World} {v : Value} {xs : List ByteArray} (h : RdF w v xs) (hb : Below w.heap.size w w') : RdF w' v xs := by
 obtain ⟨g, c, rfl, h2, h3⟩ := h
 refine ⟨g, c, rfl, Nat.lt_of_lt_of_le h2 hb.size, fun j u hj => ?_⟩
 rw [hb.cell (p := (⟨g, 0, none⟩ : Addr).add j) (by rw [Addr.add_lit]; exact h2)]
 exact h3 j u hj
theorem RdF.new {w : World} (xs : List ByteArray) (A : Array Value) (hA : A = (scl xs).toArray) {n : Nat} (hn : xs.length = n) : RdF (w.alloc (.cells A 9)) (.slice (some ⟨w.heap.size, 0, none⟩) n n) xs := by
 subst hn hA
 refine ⟨_, _, rfl, by simp, fun j u hj => ?_⟩
 rw [Addr.add_lit, Nat.zero_add]
 simpa [go_sem] using hj
theorem RdF.grown {w w1 : World} {v : Value} {xs : List ByteArray} {row : Option Nat} (h : RdF w v xs) (hg : w.grownBy w1 row) (hne : v.ownBlock ≠ row) : RdF w1 v xs := by
 obtain ⟨g, c, rfl, h2, h3⟩ := h
 refine ⟨g, c, rfl, Nat.lt_of_lt_of_le h2 hg.size, fun j u hj => ?_⟩
 have hb : w1.heap[g]? = w.heap[g]? := hg.block g h2 hne
 rw [World.cell?_of_block (w := w) (a := (⟨g, 0, none⟩ : Addr).add j) (by rw [Addr.add_lit]; exact hb)]
 exact h3 j u hj
theorem RdF.at_ {w : World} {v : Value} {xs : List ByteArray} (h : RdF w v xs) {g n c : Nat} (hv : v = .slice (some ⟨g, 0, none⟩) n c) {j : Nat} (hj : j < xs.length) : w.cell? ⟨g, j, none⟩ = some (.string (xs.getD j ⟨#[]⟩)) := by
 obtain ⟨g', c', he, h2, h3⟩ := h
 rw [hv] at he
 simp only [Value.slice.injEq, Option.some.injEq, Addr.mk.injEq] at he
 obtain ⟨⟨rfl, _⟩, _⟩ := he
 have := h3 j (.string (xs.getD j ⟨#[]⟩)) (by simp [scl, List.getD_eq_getElem?_getD, List.getElem?_eq_getElem hj])
 rw [Addr.add_lit, Nat.zero_add] at this
 exact this
theorem SR.own_ge {B : Nat} {w : World} {v : Value} {xs : List ByteArray} (h : SR B w v xs) {g : Nat} (hg : v.ownBlock = some g) : B <= g := (World.ownsRow.lt h.1 g hg).1
theorem zhh (b n c : Nat) : ∀ g, (Value.slice (some ⟨b, 0, none⟩) n c).ownBlock = some g -> b <= g := fun g h => by
 have : b = g := by simpa [Value.ownBlock] using h
 omega
theorem zfr {w : World} {v v' : Value} {xs : List ByteArray} (h : RdF w v xs) (h' : ∀ g, v'.ownBlock = some g -> w.heap.size <= g) : v.ownBlock ≠ v'.ownBlock := fun e => by
 obtain ⟨g, c, rfl, h2, _⟩ := h
 have := h' g (by rw [<- e]; rfl)
 omega
theorem pa {α : Type} {l : List α} {i : Nat} {x : α} : l.toArray.setIfInBounds i x = (l.set i x).toArray := List.setIfInBounds_toArray ..
theorem pz {α : Type} {l : List α} {a x : α} : (a :: l).set 0 x = x :: l := List.set_cons_zero ..
theorem ps {α : Type} {l : List α} {n : Nat} {a x : α} : (a :: l).set (n + 1) x = a :: l.set n x := List.set_cons_succ ..
theorem la {α : Type} {l r : List α} : (l ++ r).length = l.length + r.length := List.length_append ..
theorem lc {α : Type} {l : List α} {a : α} : (a :: l).length = l.length + 1 := List.length_cons ..
theorem ln {α : Type} : ([] : List α).length = 0 := rfl
theorem RdS.nil (w : World) : RdS w (.slice none 0 0) [] := .inl ⟨rfl, rfl⟩
theorem hI {p : Prop} (h : p) : Hid p := h
theorem bN {w0 w w' : World} (h : Below w0.heap.size w0 w) (b : Below w.heap.size w w') : Hid (Below w0.heap.size w0 w') := zh h b
theorem rB {w w' : World} {v : Value} {xs : List ByteArray} (h : Hid (RdF w v xs)) (b : Below w.heap.size w w') : Hid (RdF w' v xs) := h.out.below b
theorem sB {B : Nat} {w w' : World} {v : Value} {xs : List ByteArray} (h : Hid (SR B w v xs)) (b : Below w.heap.size w w') : Hid (SR B w' v xs) := h.out.below b
theorem rS {B : Nat} {w : World} {v : Value} {xs : List ByteArray} (h : SR B w v xs) : Hid (RdF w v xs) := h.rdF
theorem sM {B C : Nat} {w : World} {v : Value} {xs : List ByteArray} (h : SR B w v xs) (hC : C <= B) : Hid (SR C w v xs) := h.mono hC
theorem rG {w w1 : World} {v : Value} {xs : List ByteArray} {row : Option Nat} (h : Hid (RdF w v xs)) (hg : w.grownBy w1 row) (hne : Hid (v.ownBlock ≠ row)) : Hid (RdF w1 v xs) := h.out.grown hg hne.out
theorem nC {w w' : World} {v v' : Value} {xs ys : List ByteArray} (h : Hid (RdF w v xs)) (s : SR w.heap.size w' v' ys) : Hid (v.ownBlock ≠ v'.ownBlock) := zfr h.out fun g hg => s.own_ge hg
theorem nL {w : World} {v : Value} {xs : List ByteArray} (h : Hid (RdF w v xs)) (n : Nat) : Hid ((Value.slice (some ⟨w.heap.size, 0, none⟩) n n).ownBlock ≠ v.ownBlock) := (zfr h.out (zhh _ n n)).symm
theorem nB {w0 w : World} (h : Below w0.heap.size w0 w) (xs : List ByteArray) (A : Array Value) (hA : A = (scl xs).toArray) {n : Nat} (hn : xs.length = n) : ∃ V, V = w.alloc (.cells A 9) /\ Below w.heap.size w V /\ Hid (Below w0.heap.size w0 V) /\ Hid (RdF V (.slice (some ⟨w.heap.size, 0, none⟩) n n) xs) :=
 ⟨_, rfl, (Below.refl _ _).alloc (Nat.le_refl _) _, zh h ((Below.refl _ _).alloc (Nat.le_refl _) _), RdF.new xs A hA hn⟩
theorem dR (w : World) : ∃ V, V = w.drew /\ Below w.heap.size w V := ⟨_, rfl, (Below.refl _ _).drew⟩
section
variable {P : Program} {md : Region.Mode} {ops : Array Oper} {Q : Exit -> Act -> World -> Prop} {S : World -> Prop} {fuel : Nat} {listed : Array Bool} {a : Act} {w : World}
theorem arc {i : Nat} {rs : List Nat} {o : Op} {ty : TypeId} {ps : String} {af : Array Edge} {gd : Option (Nat × Bool)} (d : Nat) (ho : ops[i]? = some { dst := some d, op := o, type := ty, pos := ps, after := af, guard := gd })
 (h : ∀ K' : Act -> World -> Prop, Shut (∀ a w, S w -> (S w -> wpAnyH P md ops Q S fuel (listed.setIfInBounds i true) a w) -> K' a w) -> if Region.wanted { dst := some d, op := o, type := ty, pos := ps, after := af, guard := gd } (yielded ops a.tmps) = true then Oper.wp P { dst := some d, op := o, type := ty, pos := ps, after := af, guard := gd } a w K' Q else K' (a.put (some d) undef) w)
 (hs : AllReadyH P md ops Q S fuel listed a w rs) : AllReadyH P md ops Q S fuel listed a w (i :: rs) := AllReadyH.cons ho h hs
theorem rdy (rs : List Nat) (h : AllReadyH P md ops Q S fuel listed a w rs) (hr : Region.ready md ops listed = rs := by kernel_rfl) (hne : rs ≠ [] := by simp) : wpAnyH P md ops Q S (fuel + 1) listed a w := wpAnyH_ready hr hne h
end
def SQ0 (w0 : World) (n : Nat) (tr kn : Array Value) (V : World) : Prop := Below w0.heap.size w0 V /\ (∀ z, V.cell? ⟨n, z, none⟩ = tr[z]?) /\ (∀ z, V.cell? ⟨n + 1, z, none⟩ = kn[z]?)
def SQ1 (w0 : World) (n : Nat) (tr kn : Array Value) (b o0 : Nat) (y0 : Int) (V : World) : Prop := Below w0.heap.size w0 V /\ (∀ z, V.cell? ⟨n, z, none⟩ = tr[z]?) /\ (∀ z, V.cell? ⟨n + 1, z, none⟩ = kn[z]?) /\ V.cell? ⟨b, o0, none⟩ = some (.int .i64 y0)
def SQ2 (w0 : World) (n : Nat) (tr kn : Array Value) (b o0 : Nat) (y0 : Int) (o1 : Nat) (y1 : Int) (V : World) : Prop := Below w0.heap.size w0 V /\ (∀ z, V.cell? ⟨n, z, none⟩ = tr[z]?) /\ (∀ z, V.cell? ⟨n + 1, z, none⟩ = kn[z]?) /\ V.cell? ⟨b, o0, none⟩ = some (.int .i64 y0) /\ V.cell? ⟨b, o1, none⟩ = some (.int .i64 y1)
def SQ3 (w0 : World) (n : Nat) (tr kn : Array Value) (b o0 : Nat) (y0 : Int) (o1 : Nat) (y1 : Int) (o2 : Nat) (y2 : Int) (V : World) : Prop := Below w0.heap.size w0 V /\ (∀ z, V.cell? ⟨n, z, none⟩ = tr[z]?) /\ (∀ z, V.cell? ⟨n + 1, z, none⟩ = kn[z]?) /\ V.cell? ⟨b, o0, none⟩ = some (.int .i64 y0) /\ V.cell? ⟨b, o1, none⟩ = some (.int .i64 y1) /\ V.cell? ⟨b, o2, none⟩ = some (.int .i64 y2)
def SQT (w0 : World) (n : Nat) (tr : Array Value) (b o0 : Nat) (y0 : Int) (V : World) : Prop := Below w0.heap.size w0 V /\ (∀ z, V.cell? ⟨n, z, none⟩ = tr[z]?) /\ V.cell? ⟨b, o0, none⟩ = some (.int .i64 y0)
theorem tkm {P : Program} {md : Region.Mode} {ops : Array Oper} {Q : Exit -> Act -> World -> Prop} {S : World -> Prop} {fuel : Nat} {listed : Array Bool} {a : Act} {w : World} {o : Op} {ty : TypeId} {ps : String} {af : Array Edge} {gd : Option (Nat × Bool)} (i d : Nat) (v : Value) (hS : S w) (hi : ops[i]? = some { dst := some d, op := o, type := ty, pos := ps, after := af, guard := gd })
 (h : wpAnyH P md ops Q S fuel (listed.setIfInBounds i true) (a.put (some d) v) w)
 (hv : ∀ w, S w -> (execOp a.eval { dst := some d, op := o, type := ty, pos := ps, after := af, guard := gd }).run P w = .ok (.value v) w := by intro w hSw; (try dsimp only [SQ0, SQ1, SQ2, SQ3, SQT] at hSw); go_simp)
 (hw : Region.wanted { dst := some d, op := o, type := ty, pos := ps, after := af, guard := gd } (yielded ops a.tmps) = true := by kernel_rfl)
 (hs : Region.noSelect ops = true := by kernel_rfl) (hf : Region.free md ops listed i = true := by kernel_rfl) (hr : (Region.ready md ops listed).contains i = true := by kernel_rfl)
 (hQ : ∀ c a w, Q (.panic c) (a.put (some d) v) w -> Q (.panic c) a w := by exact fun _ _ _ h => h) : wpAnyH P md ops Q S (fuel + 1) listed a w :=
 wpAnyH_take hi hs hf hr hQ (Or.inl ⟨hw, hv⟩) hS h
theorem zg {o : Oper} {a : Act} {w : World} {K : Act -> World -> Prop} {Q : Exit -> Act -> World -> Prop} {s x : Operand}
 (ho : o.op = .call { callee := .builtin .append, args := #[s, x], argTypes := #[45, 45] })
 (B : Nat) (w0 : World) (v : Value) (xs : List ByteArray) (hs : a.eval s = v) (hown : SR B w v xs) (hb0 : Below B w0 w) (v2 : Value) (ys : List ByteArray) (hx : a.eval x = v2) (hrd : RdF w v2 ys) (hl1 : xs.length <= 300000) (hl2 : ys.length <= 300000) (hB : B <= w.heap.size)
 (h : ∀ v' w', SR B w' v' (xs ++ ys) -> Below B w0 w' -> w.grownBy w' v.ownBlock -> K (a.put o.dst v') w') : o.wp Tryd.prog a w K Q := by
 obtain ⟨i0, hi, hz0, hz1, hz2⟩ := info_parts zc5
 obtain ⟨g, c, rfl, h2, h3⟩ := hrd
 refine wp_append_own w s x 45 ho B 9 i0 (.string ⟨#[]⟩) 1 16 Tryd.underlying45 hi hz0 hz1 hz2 rfl (by decide) v xs.length (scl xs) hs hown.1 ⟨g, 0, none⟩ ys.length c (scl ys) hx (by rw [zbq, Nat.mul_one]) h3 (zc6 ys) (by unfold maxLen; omega) (by omega) hB ?_
 intro v' w1 hown' hgrow hni
 have R := SR.app hB hown hb0 hown' hgrow hni
 exact h _ _ R.1 R.2 hgrow
theorem zch (w : World) : Calls Tryd.prog 119 #[] w fun e w' => e = .returned (.slice (some ⟨w.heap.size, 0, none⟩) 11 11) /\ SR w.heap.size w' (.slice (some ⟨w.heap.size, 0, none⟩) 11 11) opL /\ Below w.heap.size w w' := by
 have H : Hid (SR w.heap.size (w.alloc (.cells (scl opL).toArray 9)) (.slice (some ⟨w.heap.size, 0, none⟩) 11 11) opL) := SR.new opL (Nat.le_refl _) (by decide) _ rfl
 go_enter Tryd.func119, Tryd.ntmps119
 go_wp2
 go_ret
 exact ⟨rfl, H.out, (Below.refl _ _).alloc (Nat.le_refl _) _⟩
theorem smA (rec : Int -> List ByteArray) (y : Nat -> Int) : ∀ {l m : Nat}, m < l -> (rec (y m)).length <= smN rec y l
 | l + 1, m, h => by
   have e : smN rec y (l + 1) = smN rec y l + ((rec (y l)).length + 1) := rfl
   by_cases hm : m = l
   · subst hm; omega
   · have := smA rec y (l := l) (m := m) (by omega); omega
theorem smU (rec : Int -> List ByteArray) (y : Nat -> Int) (m : Nat) : ∀ d, smN rec y m <= smN rec y (m + d)
 | 0 => Nat.le_refl _
 | d + 1 => by
   have := smU rec y m d
   have e : smN rec y (m + (d + 1)) = smN rec y (m + d) + ((rec (y (m + d))).length + 1) := rfl
   omega
theorem zkm (b o l q ck : Nat) (h : q <= ck) (W : World) : (Instr.sliceAt 69 (.slice (some ⟨b, o, none⟩) l ck) none (some (.int .i64 (q : Int))) none).run Tryd.prog W = .ok (.slice (some ⟨b, o, none⟩) q ck) W := by
 have hz := Tryd.sizeOf3
 have he : Tryd.prog.elem 69 = 3 := by kernel_rfl
 rw [run_sliceAt_slice W 69 _ _ _ _ (by kernel_rfl), run_slice_h W 69 _ _ _ (by rw [he]; exact Tryd.underlying69) .i64 _ (by omega) (by omega), he, hz]
 simp [Result.andThen, sliced, Addr.add]
theorem zkn (b o q ck : Nat) : ∃ ad, (q ≠ 0 -> q + 1 <= ck -> ad = some ⟨b, o + 1, none⟩) /\ ∀ W, (Instr.sliceAt 69 (.slice (some ⟨b, o, none⟩) (q + 1) ck) (some (.int .i64 1)) none none).run Tryd.prog W = .ok (.slice ad q (ck - 1)) W := by
 have hz := Tryd.sizeOf3
 have he : Tryd.prog.elem 69 = 3 := by kernel_rfl
 refine ⟨if ck = 1 then some ⟨b, o, none⟩ else some ⟨b, o + 1, none⟩, fun h1 h2 => by rw [if_neg (by omega)], fun W => ?_⟩
 rw [run_sliceAt_slice W 69 _ _ _ _ (by kernel_rfl), run_slice_l W 69 _ _ _ (by rw [he]; exact Tryd.underlying69) .i64 _ (by omega) (by omega), he, hz]
 by_cases h : ck = 1
 · simp [Result.andThen, sliced, Addr.add, h]
 · simp [Result.andThen, sliced, Addr.add, h, Ne.symm h]
   try omega
theorem SlF.tail1 {T : Nat} {w : World} {b off l c : Nat} {y : Nat -> Int} (h : SlF T w (.slice (some ⟨b, off, none⟩) (l + 1) c) (l + 1) (l + 1) (fun i => .int .i64 (y i))) (ad : Option Addr) (c' : Nat) (had : l ≠ 0 -> ad = some ⟨b, off + 1, none⟩) : SlF T w (.slice ad l c') l l (fun i => .int .i64 (y (i + 1))) := by
 by_cases h0 : l = 0
 · subst h0
   exact ⟨ad, c', rfl, .inl rfl⟩
 · obtain ⟨b', o', c2, hv, ht, hl, hc⟩ := h.parts (k := 0) (by omega)
   simp only [Value.slice.injEq, Option.some.injEq, Addr.mk.injEq] at hv
   obtain ⟨⟨rfl, rfl, _⟩, _, _⟩ := hv
   refine ⟨ad, c', rfl, .inr ⟨_, _, had h0, ht, hl, fun j hj => ?_⟩⟩
   rw [show off + 1 + j = off + (j + 1) by omega]
   exact hc (j + 1) (by omega)
theorem SlF.head1 {T : Nat} {w : World} {b off l m c : Nat} {y : Nat -> Int} (h : SlF T w (.slice (some ⟨b, off, none⟩) l c) l l (fun i => .int .i64 (y i))) (hm : m <= l) : SlF T w (.slice (some ⟨b, off, none⟩) m c) m m (fun i => .int .i64 (y i)) := by
 by_cases h0 : m = 0
 · subst h0
   exact ⟨_, c, rfl, .inl rfl⟩
 · obtain ⟨b', o', c2, hv, ht, hl, hc⟩ := h.parts (k := 0) (by omega)
   simp only [Value.slice.injEq, Option.some.injEq, Addr.mk.injEq] at hv
   obtain ⟨⟨rfl, rfl, _⟩, _, _⟩ := hv
   exact ⟨_, c, rfl, .inr ⟨_, _, rfl, ht, hl, fun j hj => hc j (by omega)⟩⟩
end Go.Proofs.YtiglkhkfbgjjoaaDoor
