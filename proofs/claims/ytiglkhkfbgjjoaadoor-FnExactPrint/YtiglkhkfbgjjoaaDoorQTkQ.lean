/- - -/
import Derived.Test.YtiglkhkfbgjjoaaDoorQTkP
namespace Go.Proofs.YtiglkhkfbgjjoaaDoor
set_option maxRecDepth 20000
open Go.RowKit Go.PlainAid
set_option linter.unusedSimpArgs false
set_option linter.unusedVariables false
section
variable {X : Nat -> KnD}
theorem zp (i : Nat) : (zq X i).length = (X i).len := by simp [zq, zj]
theorem zdk {i m : Nat} (h : m < (zq X i).length) : (zq X i)[m] = (X ((X i).y m).toNat).k := by simp [zq, zj]
theorem ze1 {L n : Nat} {i c : Int} (h : FIT X L i c n) : chn X n (zj X i.toNat) i.toNat := by
 obtain ⟨h1, h2, h3, h4, h5⟩ := h
 have h6 := zas X i.toNat
 have h7 := (h5 i.toNat (by omega) (Nat.le_refl _)).1
 unfold zal at h7
 rw [h4] at h7
 exact h7
theorem zfd (i m : Nat) (hm : m < (X i).len) : zj X i = (zj X i).take m ++ ((X i).y m :: (zj X i).drop (m + 1)) := by
 have hl : m < (zj X i).length := by rw [zo]; exact hm
 have e := List.take_append_drop m (zj X i)
 rw [List.drop_eq_getElem_cons hl, zy] at e
 exact e.symm
theorem zft (i m : Nat) (hm : m < (X i).len) : (zj X i).take (m + 1) = (zj X i).take m ++ [(X i).y m] := by
 have hl : m < (zj X i).length := by rw [zo]; exact hm
 rw [List.take_succ_eq_append_getElem hl, zy]
theorem ze2 {L n : Nat} {i c : Int} (h : FIT X L i c n) {m nx : Nat} (hm : m < (X i.toNat).len) (hc : chn X n ((zj X i.toNat).take m) nx) : FIT X L ((X i.toNat).y m) ((shp (X i.toNat).k (X i.toNat).len).getD m 0) nx /\ (X i.toNat).y m < i := by
 have hn := ze1 h
 rw [zfd i.toNat m hm] at hn
 obtain ⟨p, h1, h2⟩ := (zaq X).1 hn
 obtain rfl := zck X hc h1
 obtain ⟨k0, k1, k2⟩ := h2
 have k3 := zai X k2
 have k4 := zai X h1
 obtain ⟨g1, g2, g3, g4, g5⟩ := h
 have s1 := zas X i.toNat
 have s2 := zas X ((X i.toNat).y m).toNat
 have gi := (g5 i.toNat (by omega) (Nat.le_refl _)).2.2.2
 unfold zi at gi
 rw [Bool.and_eq_true, zp] at gi
 obtain ⟨f1, f2⟩ := zc4.1 gi.2
 have hm2 : m < (zq X i.toNat).length := by rw [zp]; exact hm
 have f3 := f2 m (by rw [f1]; exact hm2) hm2
 rw [zdk] at f3
 refine ⟨⟨k0, by omega, ?_, k1, fun j h1 h2 => g5 j (by omega) (by omega)⟩, by omega⟩
 rw [List.getD_eq_getElem?_getD, List.getElem?_eq_getElem (by rw [f1]; exact hm2)]
 exact f3
theorem zd4 {L n m nx : Nat} {i c' : Int} (hm : m < (X i.toNat).len) (hc : chn X n ((zj X i.toNat).take m) nx) (hg : ∀ j, n <= j -> j < nx -> zao X j) (hk : FIT X L ((X i.toNat).y m) c' nx) :
 chn X n ((zj X i.toNat).take (m + 1)) (((X i.toNat).y m).toNat + 1) /\ ∀ j, n <= j -> j < ((X i.toNat).y m).toNat + 1 -> zao X j := by
 obtain ⟨g1, g2, g3, g4, g5⟩ := hk
 refine ⟨?_, fun j h1 h2 => ?_⟩
 · rw [zft i.toNat m hm]
   exact (zaq X).2 ⟨nx, hc, (zba X).2 ⟨g1, g4, rfl⟩⟩
 · by_cases h : j < nx
   · exact hg j h1 h
   · exact g5 j (by omega) (by omega)
theorem zd5 {L n nx : Nat} {i c : Int} (h0 : 0 <= i) (h1 : i.toNat < L) (h2 : zk c (X i.toNat).k = true) (h3 : zl (X i.toNat).k (X i.toNat).t = true) (h4 : zm (X i.toNat).k (X i.toNat).i = true) (h5 : (shp (X i.toNat).k (X i.toNat).len).length = (X i.toNat).len)
 (h6 : ∀ m, m < (X i.toNat).len -> zk ((shp (X i.toNat).k (X i.toNat).len).getD m 0) (X ((X i.toNat).y m).toNat).k = true) (hc : chn X n (zj X i.toNat) nx) (hg : ∀ j, n <= j -> j < nx -> zao X j) : FIT X L i c n ↔ (nx : Int) = i := by
 constructor
 · intro h
   have := zck X hc (ze1 h)
   omega
 · intro h
   obtain rfl : nx = i.toNat := by omega
   have hs := zcp X hc
   refine ⟨h0, h1, h2, hs, fun j j1 j2 => ?_⟩
   by_cases e : j < i.toNat
   · exact hg j j1 e
   · obtain rfl : j = i.toNat := by omega
     refine ⟨?_, h3, h4, ?_⟩
     · unfold zal
       rw [hs]
       exact hc
     · unfold zi
       rw [Bool.and_eq_true, decide_eq_true_iff, zp]
       refine ⟨zgm h2, zc4.2 ⟨by rw [h5, zp], fun m m1 m2 => ?_⟩⟩
       rw [zdk]
       have := h6 m (by rw [<- zp]; exact m2)
       rw [List.getD_eq_getElem?_getD, List.getElem?_eq_getElem m1] at this
       exact this
theorem zb7 {L n : Nat} {i c : Int} (h : FIT X L i c n) : 0 <= i /\ i.toNat < L /\ n <= i.toNat /\ zk c (X i.toNat).k = true /\ zl (X i.toNat).k (X i.toNat).t = true /\ zm (X i.toNat).k (X i.toNat).i = true /\ (shp (X i.toNat).k (X i.toNat).len).length = (X i.toNat).len := by
 obtain ⟨g1, g2, g3, g4, g5⟩ := h
 have s1 := zas X i.toNat
 obtain ⟨a1, a2, a3, a4⟩ := g5 i.toNat (by omega) (Nat.le_refl _)
 unfold zi at a4
 rw [Bool.and_eq_true, zp] at a4
 have := zaw a4.2
 rw [zp] at this
 exact ⟨g1, g2, by omega, g3, a2, a3, this⟩
end
end Go.Proofs.YtiglkhkfbgjjoaaDoor
