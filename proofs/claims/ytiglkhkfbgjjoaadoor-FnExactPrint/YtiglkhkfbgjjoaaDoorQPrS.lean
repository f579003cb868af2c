/- - -/
import Derived.Test.YtiglkhkfbgjjoaaDoorQPrO
import Derived.Test.YtiglkhkfbgjjoaaDoorQTkO
namespace Go.Proofs.YtiglkhkfbgjjoaaDoor
set_option maxRecDepth 20000
open Go.RowKit Go.PlainAid Go.Maps
set_option linter.unusedSimpArgs false
set_option linter.unusedVariables false
def zad (X : Nat -> KnD) (p : Nat) : List ByteArray := flN (fun q => tkn X p q.toNat) (X p).y (X p).len
def zc8 (X : Nat -> KnD) (p : Nat) : ByteArray := ⟨(Lib.join ((zad X p).map (·.data.toList)) [32]).toArray⟩ ++ ⟨#[10]⟩
theorem zcn {X : Nat -> KnD} {L p : Nat} (hg : ∀ j, j < L -> zao X j) (hp : p < L) : (zad X p).length <= 8 * p := by
 have g1 := (hg p hp).1
 have h := (zez (rec := fun q => tkn X p q.toNat) (X p).len g1 (fun j hj => by
  have h4 := zat X g1 ((X p).y j) (by
   have h5 := zy X (i := p) (j := j) (by rw [zo]; exact hj)
   rw [<- h5]
   exact List.getElem_mem _)
  exact zc3 hg p _ (by omega) (by omega))).2
 unfold zad
 omega
theorem zd8 {X : Nat -> KnD} {L : Nat} {top : Int} (h : TOK X L top) : L <= 3000 /\ top + 1 = L /\ 0 <= top /\ ∀ j, j < L -> zao X j := by
 obtain ⟨h1, ⟨f0, f1, f2, f3, f4⟩, h3⟩ := h
 exact ⟨h1, h3, f0, fun j hj => f4 j (Nat.zero_le _) (by omega)⟩
def zd9 (X : Nat -> KnD) (L : Nat) (top : Int) (w : World) (e : Ending) (w' : World) : Prop :=
 ((TOK X L top /\ e = .returned (.tuple #[.string (zc8 X top.toNat), .bool true])) \/ (¬ TOK X L top /\ e = .returned (.tuple #[.string ⟨#[]⟩, .bool false]))) /\ Below w.heap.size w w'
set_option maxHeartbeats 4000000 in
theorem zea (a : Option Addr) (c L : Nat) (top : Int) (X : Nat -> KnD) (T : Nat) (w : World) (hs : za1 T w (.slice a L c) L X) (hT : T <= w.heap.size) (hL : L <= 1048576) (hX : ∀ j, j < L -> (X j).len <= 1048576 /\ (X j).t.size <= 1048576)
 (htab : ∀ V, Below w.heap.size w V -> zbt V) (hj : TOK X L top -> (Lib.join ((zad X top.toNat).map (·.data.toList)) [32]).length <= 140737488355328) :
 Calls Tryd.prog 18 #[.agg #[.slice a L c, .int .i64 top]] w (zd9 X L top w) := by
 have BA : Below w.heap.size w (w.alloc (.cells #[.slice a L c, .int .i64 top] 41)) := (Below.refl _ _).alloc (Nat.le_refl _) _
 have HOK : Hid (∀ W : World, Below w.heap.size w W -> _) := fun W (hW : Below w.heap.size w W) => zdq a c L top X T W (hs.knF.below hW hT) (Nat.le_trans hT hW.size) hL hX
 by_cases hok : TOK X L top
 rotate_left
 · have HN : Hid (¬ TOK X L top) := hok
   clear hs hX hj htab hok
   go_enter Tryd.func18, Tryd.ntmps18
   go_wp2_with fail
   refine (HOK.out _ BA).mono ?_
   rintro e w1 ⟨q, rfl, hq, b1⟩
   obtain rfl : q = false := (by cases q with | false => rfl | true => exact absurd (hq.1 rfl) HN.out)
   clear hq
   go_wp2
   go_ret2
   exact ⟨.inr ⟨HN.out, rfl⟩, BA.trans (b1.mono (by simp))⟩
 obtain ⟨h3000, hpL, hp0, hgd⟩ := zd8 hok
 obtain ⟨p, rfl⟩ : ∃ p : Nat, top = (p : Int) := ⟨top.toNat, by omega⟩
 have hpL2 : p < L := by omega
 have hpL' : (p : Int) < (L : Int) := by omega
 have hL' : (L : Int) <= 3000 := by omega
 have htl := zcn hgd hpL2
 have HTK : Hid (TOK X L p) := hok
 have hjj := hj hok
 rw [Int.toNat_natCast] at hjj
 obtain ⟨a', c', hv, hc⟩ := hs
 simp only [Value.slice.injEq] at hv
 obtain ⟨rfl, _, rfl⟩ := hv
 rcases hc with hc | ⟨b, off, rfl, lb, lz, hkc⟩
 · omega
 have HKC : Hid (∀ i, i < L -> zdv T w b (off + i * 4) (X i)) := hkc
 have HTB : Hid (∀ V, Below w.heap.size w V -> zbt V) := htab
 have HGD : Hid (∀ j, j < L -> zao X j) := hgd
 have HJ : Hid ((Lib.join ((zad X p).map (·.data.toList)) [32]).length <= 140737488355328) := hjj
 obtain ⟨ak, ck, k0, k1, k2, k3, k4, k5, k6⟩ := hkc p hpL2
 have lp := (hX p hpL2).1
 obtain ⟨W0, hW0⟩ : ∃ V, V = w.alloc (.cells #[.slice (some ⟨b, off, none⟩) L c, .int .i64 (p : Int)] 41) := ⟨_, rfl⟩
 have z0 : W0.heap.size = w.heap.size + 1 := by rw [hW0]; simp
 have T0 : ∀ z, W0.cell? ⟨w.heap.size, z, none⟩ = (#[.slice (some ⟨b, off, none⟩) L c, .int .i64 (p : Int)] : Array Value)[z]? := fun z => by rw [hW0]; simp [go_sem]
 rw [<- hW0] at BA
 clear hX hj htab hok hjj hgd hkc
 go_enter Tryd.func18, Tryd.ntmps18
 go_wp2_with fail
 rw [<- hW0]
 refine (HOK.out _ BA).mono ?_
 rintro e w1 ⟨q, rfl, hq, b1⟩
 obtain rfl : q = true := hq.2 HTK.out
 clear hq
 have s1 := b1.size
 have B1 : Below (w.heap.size + 1) W0 w1 := b1.mono (by omega)
 have t0 : w1.cell? ⟨w.heap.size, 0, none⟩ = some (.slice (some ⟨b, off, none⟩) L c) := by rw [B1.cell (p := ⟨w.heap.size, 0, none⟩) (by dsimp only; omega), T0]; rfl
 have t1 : w1.cell? ⟨w.heap.size, 1, none⟩ = some (.int .i64 (p : Int)) := by rw [B1.cell (p := ⟨w.heap.size, 1, none⟩) (by dsimp only; omega), T0]; rfl
 have BW1 : Hid (Below w.heap.size w w1) := BA.trans (B1.mono (by omega))
 have lb2 : b < w1.heap.size := by omega
 rw [<- BW1.out.cell (p := ⟨b, off + p * 4 + 3, none⟩) (Nat.lt_of_lt_of_le lb hT)] at k3
 have lw1 : w.heap.size < w1.heap.size := by omega
 clear k0 k1 k2 b1 B1 hW0 T0
 obtain ⟨W2, hW2⟩ : ∃ V, V = w1.alloc (.cells #[.slice (some ⟨b, off, none⟩) L c, .slice none 0 0] 67) := ⟨_, rfl⟩
 have z2 : W2.heap.size = w1.heap.size + 1 := by rw [hW2]; simp
 have B2 : Below w1.heap.size w1 W2 := by rw [hW2]; exact (Below.refl _ _).alloc (Nat.le_refl _) _
 have HP : Hid (Pnt w1.heap.size (.slice (some ⟨b, off, none⟩) L c) W2 (.slice none 0 0) []) := ⟨by omega, by rw [hW2]; simp [go_sem], by rw [hW2]; simp [go_sem], fun i => by rw [hW2]; simp [go_sem], World.ownsRow_nil _ _ _ _⟩
 have BW2 : Hid (Below w.heap.size w W2) := BW1.out.trans (B2.mono (by omega))
 have HR : Hid (∀ N i, i < N -> i < L -> Pr w1.heap.size (.slice (some ⟨b, off, none⟩) L c) W2 (fun q => tkn X N q.toNat) (i : Int)) := zeb w1.heap.size b off c L X T W2 (by omega) h3000 (by omega) (fun i hi => by
  obtain ⟨a, c, h0, h1, h2, h3, h4, h5⟩ := HKC.out i hi
  have e := fun i => BW2.out.cell (p := ⟨b, i, none⟩) (Nat.lt_of_lt_of_le lb hT)
  exact ⟨a, c, by rw [e]; exact h0, by rw [e]; exact h1, by rw [e]; exact h2, by rw [e]; exact h3, h4.below BW2.out hT, h5⟩) HGD.out (fun V hV => HTB.out V (BW2.out.trans (hV.mono (by omega))))
 have HK : Hid (SlF T W2 (.slice ak (X p).len ck) (X p).len (X p).len (fun i => .int .i64 ((X p).y i))) := k4.below BW2.out hT
 clear k4
 go_wp2_with fail
 rw [<- hW2]
 refine (za6 w1.heap.size _ _ [] ak (X p).len ck (X p).y (fun q => tkn X p q.toNat) T W2 W2 HK.out (by omega) lp (by
  show 0 + 40 * ((zad X p).length + 1) <= 1000000
  omega) HP.out (Below.refl _ _) (fun m hm => by
  have g1 := (HGD.out p hpL2).1
  have h4 := zat X g1 ((X p).y m) (by
   have h5 := zy X (i := p) (j := m) (by rw [zo]; exact hm)
   rw [<- h5]
   exact List.getElem_mem _)
  have h6 := HR.out p ((X p).y m).toNat (by omega) (by omega)
  rw [Int.toNat_of_nonneg h4.1] at h6
  exact h6)).mono ?_
 rintro e w3 ⟨rfl, v3, p3, g3⟩
 have P3 : Pnt w1.heap.size (.slice (some ⟨b, off, none⟩) L c) w3 v3 (zad X p) := p3
 have BW3 : Hid (Below w.heap.size w w3) := BW2.out.trans ((g3.low HP.out).mono (by omega))
 have n1 := P3.c1
 have n2 := P3.lt
 have lt3 := htl
 obtain ⟨hlen, ⟨rfl, hz⟩ | ⟨g, cap, cur, rfl, hg, hcur, hcap, hmax, hsz, htake⟩⟩ := P3.own
 · have hnil : zad X p = [] := List.eq_nil_of_length_eq_zero hz
   have HE : Hid (zc8 X p = ⟨#[]⟩ ++ ⟨#[10]⟩) := (by show zc8 X p = _; unfold zc8; rw [hnil]; rfl)
   clear p3 g3 P3 hlen hz hnil htl lt3 HP hW2 B2 HR HK
   go_wp2_with fail
   refine (Tryd.strings_Join_none _ _ _ _).mono ?_
   rintro e w4 ⟨rfl, hw4⟩
   rw [hw4]
   clear hw4 w4
   go_wp2
   go_ret2
   exact ⟨.inl ⟨HTK.out, by rw [Int.toNat_natCast, HE.out]; rfl⟩, BW3.out⟩
 · have hS : SR (w1.heap.size + 1) w3 (.slice (some ⟨g, 0, none⟩) (zad X p).length cap) (zad X p) := ⟨P3.own, by simp⟩
   have lg : g < w3.heap.size := by
    rcases Nat.lt_or_ge g w3.heap.size with h | h
    · exact h
    · rw [Array.getElem?_eq_none h] at hcur
      cases hcur
   have HJC : Hid (∀ (j : Nat) x, (zad X p)[j]? = some x -> w3.cell? ⟨g, 0 + j, none⟩ = some (.string x)) := fun j x hx => by
    have h := hS.cells j (.string x) (by simp [scl, hx])
    have e : (⟨g, 0, none⟩ : Addr).add j = ⟨g, 0 + j, none⟩ := by
     unfold Addr.add
     split
     · rename_i hj0; rw [hj0]
     · rfl
    rw [<- e]
    exact h
   have HL : Hid ((zad X p).length <= 140737488355328) := (by show _ <= _; omega)
   have HE : Hid (zc8 X p = ⟨(Lib.join ((zad X p).map (·.data.toList)) [32]).toArray⟩ ++ ⟨#[10]⟩) := rfl
   clear p3 g3 P3 hlen htl hS hcur hsz htake HP hW2 B2 HR HK
   go_wp2_with fail
   refine (Tryd.strings_Join g 0 cap (zad X p) _ w3 HJC.out lg HL.out hcap HJ.out).mono ?_
   obtain ⟨J, hJ⟩ : ∃ J : ByteArray, J = ⟨(Lib.join ((zad X p).map (·.data.toList)) [32]).toArray⟩ := ⟨_, rfl⟩
   have sJ : J.size <= 140737488355328 := by
    rw [hJ]
    have := HJ.out
    simpa [ByteArray.size] using this
   rintro e w4 ⟨rfl, b4⟩
   have e32 : (⟨#[32]⟩ : ByteArray).data.toList = [32] := rfl
   rw [e32, <- hJ]
   rw [<- hJ] at HE
   clear hJ e32
   go_wp2
   go_ret2
   exact ⟨.inl ⟨HTK.out, by rw [Int.toNat_natCast, HE.out]; rfl⟩, BW3.out.trans (b4.mono (by have := BW3.out.size; omega))⟩
end Go.Proofs.YtiglkhkfbgjjoaaDoor
