/- - -/
import Derived.Test.YtiglkhkfbgjjoaaGreatDoorPSlotsB
import Derived.Laws.MakeOwn
import Derived.Deep.CutRange
import Derived.Deep.RegionWith
import Derived.Test.YtiglkhkfbgjjoaaGreatDoorPPbO
namespace Go.Proofs.YtiglkhkfbgjjoaaGreatDoor
set_option maxRecDepth 20000
open Go.RowKit
set_option linter.unusedSimpArgs false
set_option linter.unusedVariables false
structure KnD where
 k : Int
 t : ByteArray
 i : Int
 len : Nat
 y : Nat -> Int
def zk7 (T : Nat) (w : World) (b o : Nat) (x : KnD) : Prop :=
 ∃ a c, w.cell? ⟨b, o, none⟩ = some (.int .i64 x.k) /\ w.cell? ⟨b, o + 1, none⟩ = some (.string x.t) /\ w.cell? ⟨b, o + 2, none⟩ = some (.int .i64 x.i) /\ w.cell? ⟨b, o + 3, none⟩ = some (.slice a x.len c) /\ SlF T w (.slice a x.len c) x.len x.len (fun i => .int .i64 (x.y i))
def KnF (T : Nat) (w : World) (v : Value) (L : Nat) (X : Nat -> KnD) : Prop :=
 ∃ a cap, v = .slice a L cap /\ (L = 0 \/ ∃ b off, a = some ⟨b, off, none⟩ /\ b < T /\ b < w.heap.size /\ ∀ i, i < L -> zk7 T w b (off + i * 4) (X i))
theorem zk7.below {T C : Nat} {w w' : World} {b o : Nat} {x : KnD} (h : zk7 T w b o x) (hb : Below C w w') (hT : T <= C) (hl : b < T) : zk7 T w' b o x := by
 obtain ⟨a, c, h0, h1, h2, h3, h4⟩ := h
 have e := fun i => hb.cell (p := ⟨b, i, none⟩) (Nat.lt_of_lt_of_le hl hT)
 exact ⟨a, c, by rw [e]; exact h0, by rw [e]; exact h1, by rw [e]; exact h2, by rw [e]; exact h3, h4.below hb hT⟩
theorem KnF.below {T C : Nat} {w w' : World} {v : Value} {L : Nat} {X : Nat -> KnD} (h : KnF T w v L X) (hb : Below C w w') (hT : T <= C) : KnF T w' v L X := by
 obtain ⟨a, cap, rfl, h⟩ := h
 refine ⟨a, cap, rfl, ?_⟩
 rcases h with h | ⟨b, off, rfl, hl, hz, hc⟩
 · exact .inl h
 · exact .inr ⟨b, off, rfl, hl, Nat.lt_of_lt_of_le hz hb.size, fun i hi => (hc i hi).below hb hT hl⟩
theorem KnF.mono {T T' : Nat} {w : World} {v : Value} {L : Nat} {X : Nat -> KnD} (h : KnF T w v L X) (hT : T <= T') : KnF T' w v L X := by
 obtain ⟨a, cap, rfl, h⟩ := h
 refine ⟨a, cap, rfl, ?_⟩
 rcases h with h | ⟨b, off, rfl, hl, hz, hc⟩
 · exact .inl h
 · refine .inr ⟨b, off, rfl, Nat.lt_of_lt_of_le hl hT, hz, fun i hi => ?_⟩
   obtain ⟨a, c, h0, h1, h2, h3, h4⟩ := hc i hi
   exact ⟨a, c, h0, h1, h2, h3, h4.mono hT⟩
theorem KnF.at_ {T : Nat} {w : World} {a : Option Addr} {cap L : Nat} {X : Nat -> KnD} (h : KnF T w (.slice a L cap) L X) {j : Nat} (hj : j < L) : ∃ b off, a = some ⟨b, off, none⟩ /\ b < T /\ b < w.heap.size /\ ∀ i, i < L -> zk7 T w b (off + i * 4) (X i) := by
 obtain ⟨a', cap', he, h⟩ := h
 simp only [Value.slice.injEq] at he
 obtain ⟨rfl, _, _⟩ := he
 rcases h with h | h
 · omega
 · exact h
def IEq (n1 n2 : Nat) (y1 y2 : Nat -> Int) : Prop := n1 = n2 /\ ∀ i, i < n1 -> y1 i = y2 i
def KEq (x y : KnD) : Prop := x.k = y.k /\ (x.t.toList == y.t.toList) = true /\ x.i = y.i /\ IEq x.len y.len x.y y.y
theorem zqw {W : World} {b n c m : Nat} {f : Nat -> Value} (h : SlF W.heap.size W (.slice (some ⟨b, 0, none⟩) n c) n m f) {k i : Nat} (hne : k ≠ b) (v : Value) : SlF (W.setCell ⟨k, i, none⟩ v).heap.size (W.setCell ⟨k, i, none⟩ v) (.slice (some ⟨b, 0, none⟩) n c) n m f := by
 obtain ⟨a, cap, he, h⟩ := h
 refine ⟨a, cap, he, ?_⟩
 simp only [Value.slice.injEq] at he
 obtain ⟨rfl, _, _⟩ := he
 rcases h with h | ⟨b', off, ha, hb, hb2, hc⟩
 · exact .inl h
 · simp only [Option.some.injEq, Addr.mk.injEq] at ha
   obtain ⟨rfl, rfl, _⟩ := ha
   refine .inr ⟨_, _, rfl, by simpa using hb, by simpa using hb2, fun j hj => ?_⟩
   rw [World.cell?_setCell_other _ _ _ _ (fun e => hne (congrArg Addr.block e))]
   exact hc j hj
def KnO (B : Nat) (w : World) (v : Value) (L : Nat) (X : Nat -> KnD) : Prop :=
 ∃ K cap, v = .slice (some ⟨K, 0, none⟩) L cap /\ B <= K /\ K < w.heap.size /\ ∀ i, i < L -> ∃ b c, B <= b /\ w.cell? ⟨K, i * 4, none⟩ = some (.int .i64 (X i).k) /\ w.cell? ⟨K, i * 4 + 1, none⟩ = some (.string (X i).t) /\ w.cell? ⟨K, i * 4 + 2, none⟩ = some (.int .i64 (X i).i) /\ w.cell? ⟨K, i * 4 + 3, none⟩ = some (.slice (some ⟨b, 0, none⟩) (X i).len c) /\ SlF w.heap.size w (.slice (some ⟨b, 0, none⟩) (X i).len c) (X i).len (X i).len (fun j => .int .i64 ((X i).y j))
theorem KnO.knF {B : Nat} {w : World} {v : Value} {L : Nat} {X : Nat -> KnD} (h : KnO B w v L X) : KnF w.heap.size w v L X := by
 obtain ⟨K, cap, rfl, hB, hK, h⟩ := h
 refine ⟨_, _, rfl, .inr ⟨K, 0, rfl, hK, hK, fun i hi => ?_⟩⟩
 obtain ⟨b, c, _, h0, h1, h2, h3, h4⟩ := h i hi
 rw [Nat.zero_add]
 exact ⟨_, _, h0, h1, h2, h3, h4⟩
theorem KnO.set {B : Nat} {w : World} {v : Value} {L : Nat} {X : Nat -> KnD} (h : KnO B w v L X) {k j : Nat} (hk : k < B) (u : Value) : KnO B (w.setCell ⟨k, j, none⟩ u) v L X := by
 obtain ⟨K, cap, rfl, hB, hK, h⟩ := h
 refine ⟨K, cap, rfl, hB, by simpa using hK, fun i hi => ?_⟩
 obtain ⟨b, c, hb, h0, h1, h2, h3, h4⟩ := h i hi
 have e : ∀ o, (w.setCell ⟨k, j, none⟩ u).cell? ⟨K, o, none⟩ = w.cell? ⟨K, o, none⟩ := fun o => World.cell?_setCell_other _ _ _ _ (fun e => by have := congrArg Addr.block e; simp at this; omega)
 exact ⟨b, c, hb, by rw [e]; exact h0, by rw [e]; exact h1, by rw [e]; exact h2, by rw [e]; exact h3, zqw h4 (by omega) _⟩
theorem zlb {n1 n2 j : Nat} {y1 y2 : Nat -> Int} (hj : j < n1) (h : y1 j ≠ y2 j) : ¬ IEq n1 n2 y1 y2 := fun h2 => h (h2.2 j hj)
theorem zlc {j : Nat} {y1 y2 : Nat -> Int} (hp : ∀ i, i < j -> y1 i = y2 i) (h : y1 j = y2 j) : ∀ i, i < j + 1 -> y1 i = y2 i := fun i hi => if e : i = j then e ▸ h else hp i (by omega)
set_option maxHeartbeats 1000000 in
theorem zec (a1 a2 : Option Addr) (n1 c1 n2 c2 : Nat) (y1 y2 : Nat -> Int) (T1 T2 : Nat) (w : World) (h1 : SlF T1 w (.slice a1 n1 c1) n1 n1 (fun i => .int .i64 (y1 i))) (h2 : SlF T2 w (.slice a2 n2 c2) n2 n2 (fun i => .int .i64 (y2 i))) (l1 : n1 <= 1048576) (l2 : n2 <= 1048576) :
 Calls Tryz.prog 39 #[.slice a1 n1 c1, .slice a2 n2 c2] w fun e w' => ∃ q, e = .returned (.bool q) /\ (q = true ↔ IEq n1 n2 y1 y2) /\ Below w.heap.size w w' := by
 have H1 : Hid (SlF w.heap.size w (.slice a1 n1 c1) n1 n1 (fun i => .int .i64 (y1 i))) := h1.here
 have H2 : Hid (SlF w.heap.size w (.slice a2 n2 c2) n2 n2 (fun i => .int .i64 (y2 i))) := h2.here
 have l1' : (n1 : Int) <= 1048576 := by omega
 have l2' : (n2 : Int) <= 1048576 := by omega
 clear h1 h2
 by_cases hn : n1 = n2
 · subst hn
   go_enter Tryz.func39, Tryz.ntmps39
   go_wp2
   go_loopw [13] (fun i wr => ∃ k : Nat, k <= n1 /\ i = .int .i64 k /\ (∀ p, p < k -> y1 p = y2 p) /\ Below w.heap.size w wr) (fun i _ => n1 - (intOf i).toNat)
   case atStart => exact ⟨0, Nat.zero_le _, rfl, fun p hp => by omega, Below.refl _ _⟩
   case round =>
    obtain ⟨j, hk, rfl, hp, hF⟩ := hrel
    have HP : Hid (∀ p, p < j -> y1 p = y2 p) := hp
    clear hp
    by_cases hlt : j < n1
    · have hlt' : (j : Int) < (n1 : Int) := by omega
      obtain ⟨br, offr, cap', hv, _, lbr, hcr⟩ := H1.out.parts (k := 0) (by omega)
      simp only [Value.slice.injEq] at hv
      obtain ⟨rfl, _, rfl⟩ := hv
      obtain ⟨bs, offs, cap', hv, _, lbs, hcs⟩ := H2.out.parts (k := 0) (by omega)
      simp only [Value.slice.injEq] at hv
      obtain ⟨rfl, _, rfl⟩ := hv
      have hc1 : wr.cell? ⟨br, offr + j, none⟩ = some (.int .i64 (y1 j)) := by rw [hF.cell (p := ⟨br, offr + j, none⟩) lbr]; exact hcr j hlt
      have hc2 : wr.cell? ⟨bs, offs + j, none⟩ = some (.int .i64 (y2 j)) := by rw [hF.cell (p := ⟨bs, offs + j, none⟩) lbs]; exact hcs j hlt
      clear hcr hcs H1 H2
      by_cases hq : y1 j = y2 j
      · have HV : Hid (∀ i, i < j + 1 -> y1 i = y2 i) := zlc HP.out hq
        rw [hq] at hc1
        generalize y2 j = yy at hc1 hc2
        clear hq
        go_wp2
        go_quiet (fail)
        go_wp2
        go_roundw
        case rel => exact ⟨j + 1, by omega, by go_num, HV.out, below_drewN hF _⟩
        case measure => simp [intOf]; omega
      · have HN : Hid (¬ IEq n1 n1 y1 y2) := zlb hlt hq
        generalize y1 j = yx at hc1 hq
        generalize y2 j = yy at hc2 hq
        go_wp2
        go_quiet (fail)
        go_wp2
        go_ret
        exact ⟨false, rfl, ⟨fun h => (by cases h), fun h => absurd h HN.out⟩, below_drewN hF _⟩
    · have hge : (n1 : Int) <= (j : Int) := by omega
      go_wp2
      go_ret
      exact ⟨true, rfl, ⟨fun _ => ⟨rfl, fun i hi => HP.out i (by omega)⟩, fun _ => rfl⟩, hF⟩
 · have hn' : ¬ ((n1 : Int) = n2) := by omega
   go_enter Tryz.func39, Tryz.ntmps39
   go_wp2
   go_ret
   exact ⟨false, rfl, ⟨fun h => (by cases h), fun h => absurd h.1 hn⟩, Below.refl _ _⟩
theorem zld {X Y : Nat -> KnD} {j : Nat} (hp : ∀ i, i < j -> KEq (X i) (Y i)) (h : KEq (X j) (Y j)) : ∀ i, i < j + 1 -> KEq (X i) (Y i) := fun i hi => if e : i = j then e ▸ h else hp i (by omega)
def TEq (L1 L2 : Nat) (p1 p2 : Int) (X Y : Nat -> KnD) : Prop := p1 = p2 /\ L1 = L2 /\ ∀ i, i < L1 -> KEq (X i) (Y i)
open Go.RowKit Go.PlainAid Go.Maps
theorem zpq : ∀ {xs : List KnL} {vs : List Value}, xs.length = vs.length -> ∀ (i : Nat) (x : KnL) (u : Value), xs[i]? = some x -> vs[i]? = some u -> (knC xs vs)[i * 4]? = some (.int .i64 x.k) /\ (knC xs vs)[i * 4 + 1]? = some (.string x.t) /\ (knC xs vs)[i * 4 + 2]? = some (.int .i64 x.i) /\ (knC xs vs)[i * 4 + 3]? = some u
 | [], _, _, i, x, u, h1, _ => by simp at h1
 | a :: xs, [], h, _, _, _, _, _ => by simp at h
 | a :: xs, b :: vs, h, 0, x, u, h1, h2 => by
   simp at h1 h2
   subst h1 h2
   simp [knC]
 | a :: xs, b :: vs, h, i + 1, x, u, h1, h2 => by
   have := zpq (xs := xs) (vs := vs) (by simpa using h) i x u (by simpa using h1) (by simpa using h2)
   have e : (i + 1) * 4 = i * 4 + 1 + 1 + 1 + 1 := by omega
   rw [e]
   simpa [knC] using this
def knd (x : KnL) : KnD := ⟨x.k, x.t, x.i, x.ks.length, fun j => x.ks.getD j 0⟩
def kz : KnL := ⟨0, eT, 0, []⟩
theorem NdR.knF {B : Nat} {w : World} {v : Value} {ns : List KnL} {kv : List Value} (h : NdR B w v ns kv) : KnF w.heap.size w v ns.length (fun i => knd (ns.getD i kz)) := by
 have ho := h.own
 obtain ⟨a, c, rfl⟩ := h.form
 refine ⟨a, c, rfl, ?_⟩
 by_cases h0 : ns.length = 0
 · exact .inl h0
 obtain ⟨_, ⟨e1, e2⟩ | ⟨g, cap, cur, e1, hg, hc, _⟩⟩ := ho
 · exact absurd e2 h0
 have lg : g < w.heap.size := by
  rcases Nat.lt_or_ge g w.heap.size with h | h
  · exact h
  · rw [Array.getElem?_eq_none h] at hc; cases hc
 injection e1 with e1 _ e3
 subst e1 e3
 refine .inr ⟨g, 0, rfl, lg, lg, fun i hi => ?_⟩
 have hx : ns[i]? = some ns[i] := List.getElem?_eq_getElem hi
 have hi' : i < kv.length := by rw [<- h.len]; exact hi
 have hu : kv[i]? = some kv[i] := List.getElem?_eq_getElem hi'
 obtain ⟨k0, k1, k2, k3⟩ := zpq h.len i _ _ hx hu
 have hk := h.kid i _ _ hx hu
 have hs := hk.sl
 obtain ⟨a', c', hf⟩ := hk.form
 have hq : ns.getD i kz = ns[i] := by rw [List.getD_eq_getElem?_getD, hx]; rfl
 simp only [hq]
 generalize kv[i] = u at k3 hf hs
 subst hf
 have cl := fun j (hj : j < ns.length * 4) => World.ownsRow.cellAt h.own j hj
 refine ⟨a', c', ?_, ?_, ?_, ?_, hs⟩
 · rw [Nat.zero_add, cl _ (by omega)]; exact k0
 · rw [Nat.zero_add, cl _ (by omega)]; exact k1
 · rw [Nat.zero_add, cl _ (by omega)]; exact k2
 · rw [Nat.zero_add, cl _ (by omega)]; exact k3
theorem zpr (n : Int) (ns : List KnL) : TEq ns.length ns.length n n (fun i => knd (ns.getD i kz)) (fun i => knd (ns.getD i kz)) := ⟨rfl, rfl, fun i hi => ⟨rfl, by simp, rfl, rfl, fun _ _ => rfl⟩⟩
end Go.Proofs.YtiglkhkfbgjjoaaGreatDoor
