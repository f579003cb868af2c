/- - -/
import Derived.Test.YtmckcnmlhgpnhaaGreatWReadsB
import Derived.Test.YtmckcnmlhgpnhaaGreatWRowF
namespace Go.Proofs.YtmckcnmlhgpnhaaGreat
set_option maxRecDepth 20000
open Go.RowKit
set_option linter.unusedVariables false
def zn (nx : Nat -> Option Nat) : Nat -> Nat -> List Nat -> Prop
 | p, q, [] => q = p
 | p, q, x :: L => p = x /\ ∃ s, nx p = some s /\ zn nx (p + s + 1) q L
theorem zn.nil {nx : Nat -> Option Nat} (p : Nat) : zn nx p p [] := rfl
theorem zn.cons {nx : Nat -> Option Nat} {p q s : Nat} {L : List Nat} (h : nx p = some s) (t : zn nx (p + s + 1) q L) : zn nx p q (p :: L) := ⟨rfl, s, h, t⟩
theorem zn.ind {nx : Nat -> Option Nat} {q : Nat} {motive : Nat -> List Nat -> Prop} (h0 : motive q []) (h1 : ∀ {p s : Nat} {L : List Nat}, nx p = some s -> zn nx (p + s + 1) q L -> motive (p + s + 1) L -> motive p (p :: L)) : ∀ {p : Nat} {L : List Nat}, zn nx p q L -> motive p L := by
 intro p L
 induction L generalizing p with
 | nil =>
   intro h
   obtain rfl : q = p := h
   exact h0
 | cons x L ih =>
   intro h
   obtain ⟨rfl, s, hs, t⟩ := h
   exact h1 hs t (ih t)
theorem zn.le {nx : Nat -> Option Nat} {p q : Nat} {L : List Nat} (h : zn nx p q L) : p <= q :=
 zn.ind (motive := fun p _ => p <= q) (Nat.le_refl _) (fun h t ih => by omega) h
theorem zn.lt_of_cons {nx : Nat -> Option Nat} {p q x : Nat} {L : List Nat} (h : zn nx p q (x :: L)) : x = p /\ ∃ s, nx p = some s /\ p + s + 1 <= q /\ zn nx (p + s + 1) q L := by
 obtain ⟨rfl, s, hs, t⟩ := h
 exact ⟨rfl, s, hs, t.le, t⟩
theorem zn.mem {nx : Nat -> Option Nat} {p q : Nat} {L : List Nat} (h : zn nx p q L) : ∀ x ∈ L, p <= x /\ x < q /\ ∃ s, nx x = some s /\ x + s + 1 <= q := by
 refine zn.ind (motive := fun p L => ∀ x ∈ L, p <= x /\ x < q /\ ∃ s, nx x = some s /\ x + s + 1 <= q) (fun x hx => by simp at hx) (fun h t ih => ?_) h
 intro x hx
 rcases List.mem_cons.1 hx with rfl | hx
 · exact ⟨Nat.le_refl _, by have := t.le; omega, _, h, t.le⟩
 · have := ih x hx
   exact ⟨by omega, this.2⟩
theorem zn.snoc {nx : Nat -> Option Nat} {p q s : Nat} {L : List Nat} (h : zn nx p q L) (hs : nx q = some s) : zn nx p (q + s + 1) (L ++ [q]) :=
 zn.ind (motive := fun p L => zn nx p (q + s + 1) (L ++ [q])) (zn.cons hs (zn.nil _)) (fun h t ih => zn.cons h ih) h
theorem zn.unique {nx : Nat -> Option Nat} {p q : Nat} {L M : List Nat} (h : zn nx p q L) (k : zn nx p q M) : L = M := by
 refine zn.ind (motive := fun p L => ∀ M, zn nx p q M -> L = M) (fun M k => ?_) (fun {p s L} h t ih M k => ?_) h M k
 · cases M with
   | nil => rfl
   | cons x M =>
     obtain ⟨rfl, s, hs, t⟩ := k
     have := t.le
     omega
 · cases M with
   | nil =>
     have k' : q = p := k
     have := t.le
     omega
   | cons x M =>
     obtain ⟨rfl, s', hs, t'⟩ := k
     rw [h] at hs
     cases hs
     rw [ih M t']
theorem zn.nodup {nx : Nat -> Option Nat} {p q : Nat} {L : List Nat} (h : zn nx p q L) : L.Pairwise (· < ·) :=
 zn.ind (motive := fun _ L => L.Pairwise (· < ·)) .nil (fun h t ih => .cons (fun x hx => by have := (t.mem x hx).1; omega) ih) h
theorem zn.none_from {nx : Nat -> Option Nat} {p q s : Nat} (h : ¬ ∃ L, zn nx p q L) (hs : nx p = some s) : ¬ ∃ L, zn nx (p + s + 1) q L := fun ⟨L, hL⟩ => h ⟨p :: L, .cons hs hL⟩
def nx1 (ws : List Int) (sr : Int) (p : Nat) : Option Nat := if zai (za ws p) = true /\ rdN (za ws p) < sr then some (rdS (za ws p)).toNat else none
theorem zdo {ws : List Int} {sr : Int} {p s : Nat} (h : nx1 ws sr p = some s) : zai (za ws p) = true /\ rdN (za ws p) < sr /\ (rdS (za ws p)).toNat = s := by
 unfold nx1 at h
 split at h
 · rename_i g; exact ⟨g.1, g.2, by simpa using h⟩
 · simp at h
theorem za5 (x : Int) : 0 <= rdS x /\ rdS x <= 256 := by
 unfold rdS
 split
 · rename_i h
   unfold zai at h
   rw [zen] at h
   unfold HOk at h
   omega
 · omega
theorem zgc (x : Int) : 0 <= rdN x /\ rdN x <= 1000000000 := by
 unfold rdN
 split
 · rename_i h
   unfold zai at h
   rw [zen] at h
   unfold HOk at h
   omega
 · omega
def SlX (bm : Nat) (w : World) (v : Value) (zs : List Int) : Prop :=
 ∃ a cap, v = .slice a zs.length cap /\ (zs = [] \/ ∃ b off, a = some ⟨b, off, none⟩ /\ b ≠ bm /\ b < w.heap.size /\ ∀ i, i < zs.length -> w.cell? ⟨b, off + i, none⟩ = some (.int .u64 (zs.getD i 0)))
theorem SlX.sl {bm : Nat} {w : World} {v : Value} {zs : List Int} (h : SlX bm w v zs) : Sl w v zs := by
 obtain ⟨a, cap, rfl, h⟩ := h
 refine ⟨a, cap, rfl, ?_⟩
 rcases h with h | ⟨b, off, rfl, _, hl, hc⟩
 · exact .inl h
 · exact .inr ⟨b, off, rfl, hl, hc⟩
theorem SlX.apart {bm : Nat} {w w' : World} {v : Value} {zs : List Int} (h : SlX bm w v zs) (ha : zz bm (bm + 1) w w') : SlX bm w' v zs := by
 obtain ⟨a, cap, rfl, h⟩ := h
 refine ⟨a, cap, rfl, ?_⟩
 rcases h with h | ⟨b, off, rfl, hne, hl, hc⟩
 · exact .inl h
 · exact .inr ⟨b, off, rfl, hne, Nat.lt_of_lt_of_le hl ha.size, fun i hi => by rw [World.cell?_of_block (w := w) (ha.block b hl (by omega))]; exact hc i hi⟩
theorem SlX.opened {bm : Nat} {w : World} {aw : Option Addr} {cw : Nat} {ws : List Int} (h : SlX bm w (.slice aw ws.length cw) ws) {k : Nat} (hk : k < ws.length) :
 ∃ b off, aw = some ⟨b, off, none⟩ /\ b ≠ bm /\ b < w.heap.size /\ ∀ i, i < ws.length -> w.cell? ⟨b, off + i, none⟩ = some (.int .u64 (za ws i)) := by
 obtain ⟨a', c', he, h⟩ := h
 simp only [Value.slice.injEq] at he
 obtain ⟨rfl, _, _⟩ := he
 rcases h with rfl | ⟨b, off, rfl, hne, hl, hc⟩
 · simp at hk
 · exact ⟨b, off, rfl, hne, hl, hc⟩
end Go.Proofs.YtmckcnmlhgpnhaaGreat
