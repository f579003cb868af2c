/- - -/
import Derived.Test.YtblcfbhlmdhnpaaGreatBMrG
namespace Go.Proofs.YtblcfbhlmdhnpaaGreat
set_option maxRecDepth 20000
open Go.RowKit Go.PlainAid
set_option linter.unusedSimpArgs false
set_option linter.unusedVariables false
def upd {α : Type} (f : Nat -> α) (k : Nat) (v : α) : Nat -> α := fun i => if i = k then v else f i
theorem zah {α : Type} (f : Nat -> α) (k : Nat) (v : α) : upd f k v k = v := if_pos rfl
theorem z6 {α : Type} (f : Nat -> α) {k i : Nat} (v : α) (h : i ≠ k) : upd f k v i = f i := if_neg h
theorem RwT.retag {ow ow' : Nat -> Nat} {B g : Nat} {t : TypeId} {w : World} {a : Option Addr} {m : Nat} {f : Nat -> Value} (h : RwT ow B g t w a m f) (ho : ∀ j, j < w.heap.size -> ow' j = ow j) : RwT ow' B g t w a m f := by
 rcases h with h | ⟨b, M, h, rfl, e, hB, hm, hr, hf⟩
 · exact .inl h
 · exact .inr ⟨b, M, h, rfl, (ho b hr.lt).trans e, hB, hm, hr, hf⟩
structure PcI (ow : Nat -> Nat) (H g : Nat) (w : World) (a : Option Addr) (L : Nat) (X : Nat -> PtD) (au : Nat -> Option Addr) (cu : Nat -> Nat) (ac : Nat -> Option Addr) (cc : Nat -> Nat) (ku kc : Nat) : Prop where
 row : RwT ow H g 58 w a (4 * L) (ptC X au cu ac cc)
 ups : ∀ i, i < ku -> RwT ow H (g + 1 + 2 * i) 99 w (au i) (2 * (X i).un) (upF (X i).ub (X i).ui)
 cod : ∀ i, i < kc -> RwT ow H (g + 2 + 2 * i) 80 w (ac i) (2 * (X i).cn) (inF (X i).co (X i).ca)
 up0 : ∀ i, ku <= i -> i < L -> SlF H w (.slice (au i) (X i).un (cu i)) (X i).un (2 * (X i).un) (upF (X i).ub (X i).ui)
 co0 : ∀ i, kc <= i -> i < L -> SlF H w (.slice (ac i) (X i).cn (cc i)) (X i).cn (2 * (X i).cn) (inF (X i).co (X i).ca)
 low : ∀ j, j < H -> ow j = 0
 high : ∀ j, w.heap.size <= j -> ow j = 0
 sz : H <= w.heap.size
theorem PcI.below {ow : Nat -> Nat} {H g : Nat} {w w' : World} {a : Option Addr} {L : Nat} {X : Nat -> PtD} {au : Nat -> Option Addr} {cu : Nat -> Nat} {ac : Nat -> Option Addr} {cc : Nat -> Nat} {ku kc : Nat} (h : PcI ow H g w a L X au cu ac cc ku kc) (hb : Below w.heap.size w w') : PcI ow H g w' a L X au cu ac cc ku kc :=
 have t : zc ow (fun _ => False) w w' := zc.of_below hb
 ⟨h.row.kept t (fun h => h), fun i hi => (h.ups i hi).kept t (fun h => h), fun i hi => (h.cod i hi).kept t (fun h => h), fun i h1 h2 => (h.up0 i h1 h2).below hb h.sz, fun i h1 h2 => (h.co0 i h1 h2).below hb h.sz, h.low, fun j hj => h.high j (Nat.le_trans hb.size hj), Nat.le_trans h.sz hb.size⟩
theorem PcI.putUps {ow : Nat -> Nat} {H g : Nat} {w V : World} {b L : Nat} {X : Nat -> PtD} {au : Nat -> Option Addr} {cu : Nat -> Nat} {ac : Nat -> Option Addr} {cc : Nat -> Nat} {ku kc : Nat} {a' : Option Addr} {c' : Nat} (h : PcI ow H g w (some ⟨b, 0, none⟩) L X au cu ac cc ku kc) (hb : Below w.heap.size w V) (hk : ku < L) (hg : 1 <= g)
 (r : RwT (fun _ => 0) w.heap.size 0 99 V a' (2 * (X ku).un) (upF (X ku).ub (X ku).ui)) :
 ∃ ow', PcI ow' H g (V.setCell ⟨b, ku * 4 + 2, none⟩ (.slice a' (X ku).un c')) (some ⟨b, 0, none⟩) L X (upd au ku a') (upd cu ku c') ac cc (ku + 1) kc := by
 obtain ⟨ow', h1, h2, h3⟩ : ∃ ow' : Nat -> Nat, (∀ j, j < w.heap.size -> ow' j = ow j) /\ (∀ j, V.heap.size <= j -> ow' j = 0) /\ RwT ow' H (g + 1 + 2 * ku) 99 V a' (2 * (X ku).un) (upF (X ku).ub (X ku).ui) := by
  rcases r with r | ⟨b', M, f', rfl, e, hB, hm, hr, hf⟩
  · exact ⟨ow, fun _ _ => rfl, fun j hj => h.high j (Nat.le_trans hb.size hj), .inl r⟩
  · refine ⟨fun j => if j = b' then g + 1 + 2 * ku else ow j, fun j hj => if_neg (by omega), fun j hj => ?_, .inr ⟨b', M, f', rfl, if_pos rfl, Nat.le_trans h.sz hB, hm, hr, hf⟩⟩
    have := hr.lt
    show (if j = b' then _ else ow j) = 0
    rw [if_neg (by omega)]
    exact h.high j (Nat.le_trans hb.size hj)
 obtain ⟨eb, Hb, lb⟩ : ow b = g /\ H <= b /\ b < w.heap.size := by
  rcases h.row with h0 | ⟨b', M, f', e0, e, hB, hm, hr, hf⟩
  · omega
  · injection e0 with e0
    injection e0 with e0
    subst e0
    exact ⟨e, hB, hr.lt⟩
 have eb' : ow' b = g := (h1 b lb).trans eb
 have t0 : zc ow' (fun _ => False) w V := zc.of_below hb
 have t1 : zc ow' (· = g) V (V.setCell ⟨b, ku * 4 + 2, none⟩ (.slice a' (X ku).un c')) := (zc.refl ow' _ V).set eb' _ _
 have bl : Below H V (V.setCell ⟨b, ku * 4 + 2, none⟩ (.slice a' (X ku).un c')) := (Below.refl H V).setCell (p := ⟨b, ku * 4 + 2, none⟩) Hb _
 have row := ((h.row.retag h1).kept t0 (fun h => h)).put (ku * 4 + 2) (.slice a' (X ku).un c') (fun j _ => rfl)
 refine ⟨ow', row.congr fun j hj => ?_, fun i hi => ?_, fun i hi => ?_, fun i hi hl => ?_, fun i hi hl => ?_, fun j hj => (h1 j (Nat.lt_of_lt_of_le hj h.sz)).trans (h.low j hj), fun j hj => h2 j (by simpa [World.setCell] using hj), by have := Nat.le_trans h.sz hb.size; simpa [World.setCell] using this⟩
 · by_cases e1 : j = ku * 4 + 2
   · subst e1
     simp only [if_true]
     rw [zaj, zah, zah]
   · rw [if_neg e1]
     unfold ptC
     by_cases e : j / 4 = ku
     · obtain q | q | q : j % 4 = 0 \/ j % 4 = 1 \/ j % 4 = 3 := by omega
       · simp [q]
       · simp [q]
       · simp [q]
     · rw [z6 _ _ e, z6 _ _ e]
 · by_cases e : i = ku
   · subst e
     rw [zah]
     exact h3.kept t1 (by omega)
   · rw [z6 _ _ e]
     exact (((h.ups i (by omega)).retag h1).kept t0 (fun h => h)).kept t1 (by omega)
 · exact (((h.cod i hi).retag h1).kept t0 (fun h => h)).kept t1 (by omega)
 · rw [z6 _ _ (by omega), z6 _ _ (by omega)]
   exact ((h.up0 i (by omega) hl).below hb h.sz).below bl (Nat.le_refl _)
 · exact ((h.co0 i hi hl).below hb h.sz).below bl (Nat.le_refl _)
theorem PcI.putCode {ow : Nat -> Nat} {H g : Nat} {w V : World} {b L : Nat} {X : Nat -> PtD} {au : Nat -> Option Addr} {cu : Nat -> Nat} {ac : Nat -> Option Addr} {cc : Nat -> Nat} {ku kc : Nat} {a' : Option Addr} {c' : Nat} (h : PcI ow H g w (some ⟨b, 0, none⟩) L X au cu ac cc ku kc) (hb : Below w.heap.size w V) (hk : kc < L) (hg : 1 <= g)
 (r : RwT (fun _ => 0) w.heap.size 0 80 V a' (2 * (X kc).cn) (inF (X kc).co (X kc).ca)) :
 ∃ ow', PcI ow' H g (V.setCell ⟨b, kc * 4 + 3, none⟩ (.slice a' (X kc).cn c')) (some ⟨b, 0, none⟩) L X au cu (upd ac kc a') (upd cc kc c') ku (kc + 1) := by
 obtain ⟨ow', h1, h2, h3⟩ : ∃ ow' : Nat -> Nat, (∀ j, j < w.heap.size -> ow' j = ow j) /\ (∀ j, V.heap.size <= j -> ow' j = 0) /\ RwT ow' H (g + 2 + 2 * kc) 80 V a' (2 * (X kc).cn) (inF (X kc).co (X kc).ca) := by
  rcases r with r | ⟨b', M, f', rfl, e, hB, hm, hr, hf⟩
  · exact ⟨ow, fun _ _ => rfl, fun j hj => h.high j (Nat.le_trans hb.size hj), .inl r⟩
  · refine ⟨fun j => if j = b' then g + 2 + 2 * kc else ow j, fun j hj => if_neg (by omega), fun j hj => ?_, .inr ⟨b', M, f', rfl, if_pos rfl, Nat.le_trans h.sz hB, hm, hr, hf⟩⟩
    have := hr.lt
    show (if j = b' then _ else ow j) = 0
    rw [if_neg (by omega)]
    exact h.high j (Nat.le_trans hb.size hj)
 obtain ⟨eb, Hb, lb⟩ : ow b = g /\ H <= b /\ b < w.heap.size := by
  rcases h.row with h0 | ⟨b', M, f', e0, e, hB, hm, hr, hf⟩
  · omega
  · injection e0 with e0
    injection e0 with e0
    subst e0
    exact ⟨e, hB, hr.lt⟩
 have eb' : ow' b = g := (h1 b lb).trans eb
 have t0 : zc ow' (fun _ => False) w V := zc.of_below hb
 have t1 : zc ow' (· = g) V (V.setCell ⟨b, kc * 4 + 3, none⟩ (.slice a' (X kc).cn c')) := (zc.refl ow' _ V).set eb' _ _
 have bl : Below H V (V.setCell ⟨b, kc * 4 + 3, none⟩ (.slice a' (X kc).cn c')) := (Below.refl H V).setCell (p := ⟨b, kc * 4 + 3, none⟩) Hb _
 have row := ((h.row.retag h1).kept t0 (fun h => h)).put (kc * 4 + 3) (.slice a' (X kc).cn c') (fun j _ => rfl)
 refine ⟨ow', row.congr fun j hj => ?_, fun i hi => ?_, fun i hi => ?_, fun i hi hl => ?_, fun i hi hl => ?_, fun j hj => (h1 j (Nat.lt_of_lt_of_le hj h.sz)).trans (h.low j hj), fun j hj => h2 j (by simpa [World.setCell] using hj), by have := Nat.le_trans h.sz hb.size; simpa [World.setCell] using this⟩
 · by_cases e1 : j = kc * 4 + 3
   · subst e1
     simp only [if_true]
     rw [zak, zah, zah]
   · rw [if_neg e1]
     unfold ptC
     by_cases e : j / 4 = kc
     · obtain q | q | q : j % 4 = 0 \/ j % 4 = 1 \/ j % 4 = 2 := by omega
       · simp [q]
       · simp [q]
       · simp [q]
     · rw [z6 _ _ e, z6 _ _ e]
 · exact (((h.ups i hi).retag h1).kept t0 (fun h => h)).kept t1 (by omega)
 · by_cases e : i = kc
   · subst e
     rw [zah]
     exact h3.kept t1 (by omega)
   · rw [z6 _ _ e]
     exact (((h.cod i (by omega)).retag h1).kept t0 (fun h => h)).kept t1 (by omega)
 · exact ((h.up0 i hi hl).below hb h.sz).below bl (Nat.le_refl _)
 · rw [z6 _ _ (by omega), z6 _ _ (by omega)]
   exact ((h.co0 i (by omega) hl).below hb h.sz).below bl (Nat.le_refl _)
theorem PtF.open_ {T : Nat} {w : World} {a : Option Addr} {L c : Nat} {X : Nat -> PtD} (h : PtF T w (.slice a L c) L X) : ∃ (au : Nat -> Option Addr) (cu : Nat -> Nat) (ac : Nat -> Option Addr) (cc : Nat -> Nat), SlF T w (.slice a L c) L (L * 4) (ptC X au cu ac cc) /\ (∀ i, i < L -> SlF T w (.slice (au i) (X i).un (cu i)) (X i).un (2 * (X i).un) (upF (X i).ub (X i).ui)) /\ (∀ i, i < L -> SlF T w (.slice (ac i) (X i).cn (cc i)) (X i).cn (2 * (X i).cn) (inF (X i).co (X i).ca)) := by
 obtain ⟨a', cap, e, h⟩ := h
 simp only [Value.slice.injEq] at e
 obtain ⟨rfl, _, rfl⟩ := e
 rcases h with h0 | ⟨b, off, rfl, hT, hl, h⟩
 · subst h0
   exact ⟨fun _ => none, fun _ => 0, fun _ => none, fun _ => 0, ⟨a, c, rfl, .inl (Nat.zero_mul _)⟩, fun i hi => by omega, fun i hi => by omega⟩
 · have h' : ∀ i, ∃ q : Option Addr × Nat × Option Addr × Nat, i < L -> (w.cell? ⟨b, off + i * 4, none⟩ = some (.int .i64 (X i).pa) /\ w.cell? ⟨b, off + i * 4 + 1, none⟩ = some (.int .i64 (X i).sl) /\ w.cell? ⟨b, off + i * 4 + 2, none⟩ = some (.slice q.1 (X i).un q.2.1) /\ w.cell? ⟨b, off + i * 4 + 3, none⟩ = some (.slice q.2.2.1 (X i).cn q.2.2.2) /\ SlF T w (.slice q.1 (X i).un q.2.1) (X i).un (2 * (X i).un) (upF (X i).ub (X i).ui) /\ SlF T w (.slice q.2.2.1 (X i).cn q.2.2.2) (X i).cn (2 * (X i).cn) (inF (X i).co (X i).ca)) := fun i => by
    by_cases hi : i < L
    · obtain ⟨a, c, a', c', hh⟩ := h i hi
      exact ⟨(a, c, a', c'), fun _ => hh⟩
    · exact ⟨(none, 0, none, 0), fun h => absurd h hi⟩
   obtain ⟨q, hq⟩ := Classical.axiomOfChoice h'
   refine ⟨fun i => (q i).1, fun i => (q i).2.1, fun i => (q i).2.2.1, fun i => (q i).2.2.2, ⟨_, c, rfl, .inr ⟨b, off, rfl, hT, hl, fun j hj => ?_⟩⟩, fun i hi => (hq i hi).2.2.2.2.1, fun i hi => (hq i hi).2.2.2.2.2⟩
   obtain ⟨i, e | e | e | e⟩ : ∃ i, j = i * 4 \/ j = i * 4 + 1 \/ j = i * 4 + 2 \/ j = i * 4 + 3 := ⟨j / 4, by omega⟩
   · subst e; rw [za0]; exact (hq i (by omega)).1
   · subst e; rw [zaq, <- Nat.add_assoc]; exact (hq i (by omega)).2.1
   · subst e; rw [zaj, <- Nat.add_assoc]; exact (hq i (by omega)).2.2.1
   · subst e; rw [zak, <- Nat.add_assoc]; exact (hq i (by omega)).2.2.2.1
theorem zhf (X : Nat -> PtD) (au : Nat -> Option Addr) (cu : Nat -> Nat) (ac : Nat -> Option Addr) (cc : Nat -> Nat) (j : Nat) : (ptC X au cu ac cc j).oneCell' = true := by
 unfold ptC
 split
 · rfl
 · split
   · rfl
   · split <;> rfl
theorem zhg (p : Nat -> Bool) (q : Nat -> Int) (j : Nat) : (upF p q j).oneCell' = true := by unfold upF; split <;> rfl
theorem zhh (p q : Nat -> Int) (j : Nat) : (inF p q j).oneCell' = true := by unfold inF; split <;> rfl
theorem PcI.begin {H g : Nat} {w w' : World} {a : Option Addr} {L c : Nat} {X : Nat -> PtD} {au : Nat -> Option Addr} {cu : Nat -> Nat} {ac : Nat -> Option Addr} {cc : Nat -> Nat} (h : w'.ownsRow H 58 4 (.slice a L c) L (zo (L * 4) (ptC X au cu ac cc))) (hb : Below H w w') (hH : H = w.heap.size)
 (hu : ∀ i, i < L -> SlF H w (.slice (au i) (X i).un (cu i)) (X i).un (2 * (X i).un) (upF (X i).ub (X i).ui)) (hc : ∀ i, i < L -> SlF H w (.slice (ac i) (X i).cn (cc i)) (X i).cn (2 * (X i).cn) (inF (X i).co (X i).ca)) : ∃ ow, PcI ow H g w' a L X au cu ac cc 0 0 := by
 subst hH
 have r := RwT.of_owns (ow := fun _ => 0) (g := 0) h (fun _ _ _ => rfl)
 rw [Nat.mul_comm] at r
 rcases r with r | ⟨b', M, f', rfl, e, hB, hm, hr, hf⟩
 · exact ⟨fun _ => 0, .inl r, fun i hi => by omega, fun i hi => by omega, fun i _ hi => (hu i hi).below hb (Nat.le_refl _), fun i _ hi => (hc i hi).below hb (Nat.le_refl _), fun _ _ => rfl, fun _ _ => rfl, hb.size⟩
 · have hl := hr.lt
   exact ⟨fun j => if j = b' then g else 0, .inr ⟨b', M, f', rfl, if_pos rfl, hB, hm, hr, hf⟩, fun i hi => by omega, fun i hi => by omega, fun i _ hi => (hu i hi).below hb (Nat.le_refl _), fun i _ hi => (hc i hi).below hb (Nat.le_refl _), fun j hj => if_neg (by omega), fun j hj => if_neg (by omega), hb.size⟩
theorem PcI.cells {ow : Nat -> Nat} {H g : Nat} {w : World} {b L : Nat} {X : Nat -> PtD} {au : Nat -> Option Addr} {cu : Nat -> Nat} {ac : Nat -> Option Addr} {cc : Nat -> Nat} {ku kc k : Nat} (h : PcI ow H g w (some ⟨b, 0, none⟩) L X au cu ac cc ku kc) (hk : k < L) : w.cell? ⟨b, k * 4 + 2, none⟩ = some (.slice (au k) (X k).un (cu k)) /\ w.cell? ⟨b, k * 4 + 3, none⟩ = some (.slice (ac k) (X k).cn (cc k)) /\ (∀ j, w.frozen? ⟨b, j, none⟩ = false) /\ H <= b /\ b < w.heap.size := by
 rcases h.row with h0 | ⟨b', M, f', e0, e, hB, hm, hr, hf⟩
 · omega
 · injection e0 with e0
   injection e0 with e0
   subst e0
   exact ⟨by rw [hr.cell (by omega), hf _ (by omega), zaj], by rw [hr.cell (by omega), hf _ (by omega), zak], hr.frozen, hB, hr.lt⟩
theorem RwT.weak {ow : Nat -> Nat} {B B' g : Nat} {t : TypeId} {w : World} {a : Option Addr} {m : Nat} {f : Nat -> Value} (h : RwT ow B g t w a m f) (hB : B' <= B) : RwT ow B' g t w a m f := by
 rcases h with h | ⟨b, M, h, rfl, e, hb, hm, hr, hf⟩
 · exact .inl h
 · exact .inr ⟨b, M, h, rfl, e, Nat.le_trans hB hb, hm, hr, hf⟩
theorem PcI.done {ow : Nat -> Nat} {H B g : Nat} {w V V' : World} {a : Option Addr} {L : Nat} {X : Nat -> PtD} {au : Nat -> Option Addr} {cu : Nat -> Nat} {ac : Nat -> Option Addr} {cc : Nat -> Nat} {a2 : Option Addr} {n q : Nat} {s : Nat -> ByteArray} (h : PcI ow H g w a L X au cu ac cc L L) (hb : Below w.heap.size w V) (hg : 1 <= g) (hB : B <= H) (hq : q < H)
 (r : RwT (fun _ => 0) w.heap.size 0 9 V a2 n (fun i => .string (s i))) (ht : ∀ ow : Nat -> Nat, ow q = 0 -> zc ow (· = 0) V V') (hz : V'.heap.size = V.heap.size) :
 ∃ ow', MdW ow' B g V' a L X au cu ac cc a2 n s /\ (∀ j, j < B -> ow' j = 0) /\ (∀ j, V'.heap.size <= j -> ow' j = 0) := by
 obtain ⟨ow', h1, h2, h3⟩ : ∃ ow' : Nat -> Nat, (∀ j, j < w.heap.size -> ow' j = ow j) /\ (∀ j, V.heap.size <= j -> ow' j = 0) /\ RwT ow' H (g + 1 + 2 * L) 9 V a2 n (fun i => .string (s i)) := by
  rcases r with r | ⟨b', M, f', rfl, e, hB, hm, hr, hf⟩
  · exact ⟨ow, fun _ _ => rfl, fun j hj => h.high j (Nat.le_trans hb.size hj), .inl r⟩
  · refine ⟨fun j => if j = b' then g + 1 + 2 * L else ow j, fun j hj => if_neg (by omega), fun j hj => ?_, .inr ⟨b', M, f', rfl, if_pos rfl, Nat.le_trans h.sz hB, hm, hr, hf⟩⟩
    have := hr.lt
    show (if j = b' then _ else ow j) = 0
    rw [if_neg (by omega)]
    exact h.high j (Nat.le_trans hb.size hj)
 have hs := h.sz
 have t0 : zc ow' (fun _ => False) w V := zc.of_below hb
 have t1 : zc ow' (· = 0) V V' := ht ow' ((h1 q (by omega)).trans (h.low q hq))
 refine ⟨ow', ⟨⟨?_, fun i hi => ?_, fun i hi => ?_⟩, ?_⟩, fun j hj => (h1 j (by omega)).trans (h.low j (by omega)), fun j hj => h2 j (by omega)⟩
 · exact ((((h.row.retag h1).kept t0 (fun h => h)).kept t1 (by omega)).weak hB)
 · exact (((((h.ups i hi).retag h1).kept t0 (fun h => h)).kept t1 (by omega)).weak hB)
 · exact (((((h.cod i hi).retag h1).kept t0 (fun h => h)).kept t1 (by omega)).weak hB)
 · exact (h3.kept t1 (by omega)).weak hB
set_option maxHeartbeats 4000000 in
theorem zc7 (g : Nat) (a1 : Option Addr) (L c1 : Nat) (a2 : Option Addr) (n c2 : Nat) (X : Nat -> PtD) (s : Nat -> ByteArray) (w : World) (h1 : PtF w.heap.size w (.slice a1 L c1) L X) (h2 : TxF w.heap.size w (.slice a2 n c2) n s) (hg : 1 <= g) (hL : (L : Int) <= 1048576) (hX : ∀ j, j < L -> PLe (X j) 1048576) (hn : (n : Int) <= 1048576) (hs : ∀ i, i < n -> (s i).size <= 281474976710656) :
 Calls Tryz.prog 26 #[.agg #[.slice a1 L c1, .slice a2 n c2]] w fun e w' => ∃ (ow : Nat -> Nat) (b1 : Option Addr) (d1 : Nat) (au : Nat -> Option Addr) (cu : Nat -> Nat) (ac : Nat -> Option Addr) (cc : Nat -> Nat) (b2 : Option Addr) (d2 : Nat), e = .returned (.agg #[.slice b1 L d1, .slice b2 n d2]) /\ MdW ow w.heap.size g w' b1 L X au cu ac cc b2 n s /\ (∀ j, j < w.heap.size -> ow j = 0) /\ (∀ j, w'.heap.size <= j -> ow j = 0) /\ Below w.heap.size w w' := by
 obtain ⟨W0, hW0⟩ : ∃ W, W = (w.alloc (.cells #[.slice a1 L c1, .slice a2 n c2] 29)).alloc (.cells #[.slice none 0 0, .slice none 0 0] 29) := ⟨_, rfl⟩
 have z0 : W0.heap.size = w.heap.size + 1 + 1 := by rw [hW0]; simp
 have b0 : Below w.heap.size w W0 := by rw [hW0]; exact ((Below.refl _ _).alloc (Nat.le_refl _) _).alloc (by simp) _
 have x0 : za W0 w.heap.size 29 #[.slice a1 L c1, .slice a2 n c2] := by rw [hW0]; exact (za.new _ _ _).alloc _
 have y0 : za W0 (w.heap.size + 1) 29 #[.slice none 0 0, .slice none 0 0] := by
  rw [hW0]
  have := za.new (w.alloc (.cells #[.slice a1 L c1, .slice a2 n c2] 29)) 29 #[.slice none 0 0, .slice none 0 0]
  simpa using this
 obtain ⟨au, cu, ac, cc, r0, u0, c0⟩ := (h1.below b0 (Nat.le_refl _)).open_
 have HC : Hid (Calls _ _ _ _ _) := zgc _ a1 L c1 (ptC X au cu ac cc) W0 r0 (fun i _ => zhf X au cu ac cc i) hL
 have HT : Hid (TxF w.heap.size W0 (.slice a2 n c2) n s) := h2.below b0 (Nat.le_refl _)
 have HU : Hid (∀ i, i < L -> SlF W0.heap.size W0 (.slice (au i) (X i).un (cu i)) (X i).un (2 * (X i).un) (upF (X i).ub (X i).ui)) := fun i hi => (u0 i hi).mono b0.size
 have HO : Hid (∀ i, i < L -> SlF W0.heap.size W0 (.slice (ac i) (X i).cn (cc i)) (X i).cn (2 * (X i).cn) (inF (X i).co (X i).ca)) := fun i hi => (c0 i hi).mono b0.size
 have HX : Hid (∀ j, j < L -> PLe (X j) 1048576) := hX
 have HZ : Hid (∀ i, i < n -> (s i).size <= 281474976710656) := hs
 have HB0 : Hid (Below w.heap.size w W0) := b0
 have k0 := x0.cell
 have X0 : Hid (za W0 w.heap.size 29 #[.slice a1 L c1, .slice a2 n c2]) := x0
 have Y0 : Hid (za W0 (w.heap.size + 1) 29 #[.slice none 0 0, .slice none 0 0]) := y0
 clear h1 h2 hX hs r0 u0 c0 b0 x0 y0
 go_enter Tryz.func26, Tryz.ntmps26
 go_wp2_with fail
 rw [<- hW0]
 refine HC.out.mono ?_
 rintro e w1 ⟨e1, d1, rfl, o1, b1⟩
 obtain ⟨ow1, I1⟩ := PcI.begin (g := g) o1 b1 rfl HU.out HO.out
 have HI : Hid (PcI ow1 W0.heap.size g w1 e1 L X au cu ac cc 0 0) := I1
 have HB1 : Hid (Below W0.heap.size W0 w1) := b1
 clear o1 b1 I1 HC HU HO k0 hW0
 go_wp2
 go_loopw [11] (fun i wr => ∃ k : Nat, k <= L /\ i = .int .i64 k /\ Hid (∃ ow au cu ac cc, PcI ow W0.heap.size g wr e1 L X au cu ac cc k k) /\ Hid (Below W0.heap.size W0 wr)) (fun i _ => L - (intOf i).toNat)
 case atStart => exact ⟨0, Nat.zero_le _, rfl, ⟨_, _, _, _, _, HI.out⟩, HB1.out⟩
 case round =>
  obtain ⟨k, hk, rfl, HR, HB⟩ := hrel
  clear HI HB1
  obtain ⟨ow, au, cu, ac, cc, hp⟩ := HR.out
  by_cases hlt : k < L
  · have hlt' : (k : Int) < (L : Int) := by omega
    obtain ⟨b, rfl, lb, eb, hc, hf⟩ := hp.row.at_ (k := k * 4) (by omega)
    have q0 := (hc (k * 4) (by omega)).trans (congrArg some (za0 _ au cu ac cc k))
    have q1 := (hc (k * 4 + 1) (by omega)).trans (congrArg some (zaq _ au cu ac cc k))
    have q2 := (hc (k * 4 + 2) (by omega)).trans (congrArg some (zaj _ au cu ac cc k))
    have q3 := (hc (k * 4 + 3) (by omega)).trans (congrArg some (zak _ au cu ac cc k))
    obtain ⟨x1, x2⟩ := HX.out k hlt
    have HP : Hid (PcI ow W0.heap.size g wr (some ⟨b, 0, none⟩) L X au cu ac cc k k) := hp
    have ne1 : ¬ b = wr.heap.size := by omega
    have ne2 : ¬ wr.heap.size = b := by omega
    clear hp HR hc
    go_wp2_with fail
    have bv := (Below.refl wr.heap.size wr).alloc (Nat.le_refl _) (.cells #[.int .i64 (X k).pa, .int .i64 (X k).sl, .slice (au k) (X k).un (cu k), .slice (ac k) (X k).cn (cc k)] 58)
    have xv := za.new wr 58 #[.int .i64 (X k).pa, .int .i64 (X k).sl, .slice (au k) (X k).un (cu k), .slice (ac k) (X k).cn (cc k)]
    have P0 := HP.out.below bv
    refine (zgz W0.heap.size (au k) (X k).un (cu k) (upF (X k).ub (X k).ui) _ (by rw [Nat.mul_comm (X k).un 2]; exact P0.up0 k (Nat.le_refl _) hlt) (fun i _ => zhg _ _ i) (by omega)).mono ?_
    rintro e w2 ⟨a3, c3, rfl, o2, b2⟩
    have r2 := RwT.of_owns (ow := fun _ => 0) (g := 0) o2 (fun _ _ _ => rfl)
    rw [Nat.mul_comm (X k).un 2] at r2
    obtain ⟨ow2, P2⟩ := P0.putUps (c' := c3) b2 hlt hg r2
    obtain ⟨m2, m3, mf, mH, ml⟩ := (P0.below b2).cells hlt
    have x2v := xv.below b2 xv.lt
    have k2 := x2v.cell
    have l2 := x2v.lt
    have f2 := mf (k * 4 + 2)
    have HP2 : Hid (PcI ow2 W0.heap.size g (w2.setCell ⟨b, k * 4 + 2, none⟩ (.slice a3 (X k).un c3)) (some ⟨b, 0, none⟩) L X (upd au k a3) (upd cu k c3) ac cc (k + 1) k) := P2
    have HB2 : Hid (Below W0.heap.size W0 (w2.setCell ⟨b, k * 4 + 2, none⟩ (.slice a3 (X k).un c3))) := (zb (zb HB.out bv) b2).setCell (p := ⟨b, k * 4 + 2, none⟩) mH _
    clear P0 P2 o2 b2 r2 bv xv x2v HP HB mf m3 q0 q1 q2 q3 hf
    go_wp2_with fail
    refine (zgd W0.heap.size (ac k) (X k).cn (cc k) (inF (X k).co (X k).ca) _ (by rw [Nat.mul_comm (X k).cn 2]; exact HP2.out.co0 k (Nat.le_refl _) hlt) (fun i _ => zhh _ _ i) (by omega)).mono ?_
    rintro e w3 ⟨a4, c4, rfl, o3, b3⟩
    have r3 := RwT.of_owns (ow := fun _ => 0) (g := 0) o3 (fun _ _ _ => rfl)
    rw [Nat.mul_comm (X k).cn 2] at r3
    obtain ⟨ow3, P3⟩ := HP2.out.putCode (c' := c4) b3 hlt hg r3
    obtain ⟨_, n3, nf, nH, nl⟩ := (HP2.out.below b3).cells hlt
    have f3 := nf (k * 4 + 3)
    have HP3 : Hid (PcI ow3 W0.heap.size g (w3.setCell ⟨b, k * 4 + 3, none⟩ (.slice a4 (X k).cn c4)) (some ⟨b, 0, none⟩) L X (upd au k a3) (upd cu k c3) (upd ac k a4) (upd cc k c4) (k + 1) (k + 1)) := P3
    have HB3 : Hid (Below W0.heap.size W0 (w3.setCell ⟨b, k * 4 + 3, none⟩ (.slice a4 (X k).cn c4))) := (zb HB2.out b3).setCell (p := ⟨b, k * 4 + 3, none⟩) nH _
    clear P3 o3 b3 r3 HP2 HB2 nf k2 m2 f2
    go_wp2
    go_roundw
    case rel => exact ⟨k + 1, by omega, by go_num, ⟨_, _, _, _, _, HP3.out⟩, HB3.out⟩
    case measure => simp [intOf]; omega
  · have hge : (L : Int) <= (k : Int) := by omega
    obtain rfl : k = L := by omega
    have HP : Hid (PcI ow W0.heap.size g wr e1 k X au cu ac cc k k) := hp
    have k1 := (X0.out.below HB.out X0.out.lt).cell
    have l1 := (X0.out.below HB.out X0.out.lt).lt
    clear hp HR
    go_wp2_with fail
    refine (zed _ a2 n c2 s wr (HT.out.below HB.out (by omega)) HZ.out hn).mono ?_
    rintro e w5 ⟨a5, c5, rfl, r5, b5⟩
    have y5 := (Y0.out.below HB.out Y0.out.lt).below b5 (by have := HB.out.size; omega)
    have k5 := y5.cell
    have f5 := y5.frozen
    have l5 := y5.lt
    have HE : Hid (∀ V', (∀ ow : Nat -> Nat, ow (w.heap.size + 1) = 0 -> zc ow (· = 0) w5 V') -> V'.heap.size = w5.heap.size -> ∃ ow', MdW ow' w.heap.size g V' e1 k X au cu ac cc a5 n s /\ (∀ j, j < w.heap.size -> ow' j = 0) /\ (∀ j, V'.heap.size <= j -> ow' j = 0)) := fun V' ht hz => HP.out.done b5 hg (by omega) (by omega) r5 ht hz
    have HB5 : Hid (Below w.heap.size w w5) := zb (zb HB0.out HB.out) b5
    clear r5 b5 y5 k1 HP HB HT HZ X0 Y0
    go_wp2
    have i0 : (w5.cell? ⟨w.heap.size + 1, 0, none⟩).isSome = true := by rw [k5]; rfl
    have i1 : (w5.cell? ⟨w.heap.size + 1, 1, none⟩).isSome = true := by rw [k5]; rfl
    obtain ⟨ow', M, lo, hi⟩ := HE.out ((w5.setCell ⟨w.heap.size + 1, 0, none⟩ (.slice e1 k d1)).setCell ⟨w.heap.size + 1, 1, none⟩ (.slice a5 n c5)) (fun ow h => ((zc.refl ow _ w5).set h _ _).set h _ _) (by simp [World.setCell])
    exact bodyPost_ret (v := .agg #[.slice e1 k d1, .slice a5 n c5]) (by simp [results, Tryz.results26, go_sem, i0, i1]) rfl ⟨ow', _, _, _, _, _, _, _, _, rfl, M, lo, hi, (HB5.out.setCell (p := ⟨w.heap.size + 1, 0, none⟩) (by dsimp only; omega) _).setCell (p := ⟨w.heap.size + 1, 1, none⟩) (by dsimp only; omega) _⟩
end Go.Proofs.YtblcfbhlmdhnpaaGreat
