/- - -/
import Derived.Test.YtiglkhkfbgjjoaaDoorQMtT
import Derived.Test.YtiglkhkfbgjjoaaDoorQMe6
import Derived.Test.YtiglkhkfbgjjoaaDoorQMe8
import Derived.Test.YtiglkhkfbgjjoaaDoorQMe9
import Derived.Test.YtiglkhkfbgjjoaaDoorQMe10
import Derived.Test.YtiglkhkfbgjjoaaDoorQMe11
import Derived.Test.YtiglkhkfbgjjoaaDoorQMe12
import Derived.Test.YtiglkhkfbgjjoaaDoorQMe13
import Derived.Test.YtiglkhkfbgjjoaaDoorQMs14
import Derived.Test.YtiglkhkfbgjjoaaDoorQMs16
import Derived.Test.YtiglkhkfbgjjoaaDoorQMs17
import Derived.Test.YtiglkhkfbgjjoaaDoorQMs18
namespace Go.Proofs.YtiglkhkfbgjjoaaDoor
set_option maxRecDepth 20000
open Go.RowKit Go.PlainAid Go.Maps
set_option linter.unusedSimpArgs false
set_option linter.unusedVariables false
set_option maxHeartbeats 2000000 in
theorem zfq (b off L c z : Nat) (top : Int) (x : KnD) (ak : Option Addr) (ck : Nat) (rec : Int -> List ByteArray) (T : Nat) (w : World) (hb : b < w.heap.size) (hz : z < L) (hL : L <= 3000) (c0 : w.cell? ⟨b, off + z * 4, none⟩ = some (.int .i64 x.k)) (c1 : w.cell? ⟨b, off + z * 4 + 1, none⟩ = some (.string x.t)) (c2 : w.cell? ⟨b, off + z * 4 + 2, none⟩ = some (.int .i64 x.i)) (c3 : w.cell? ⟨b, off + z * 4 + 3, none⟩ = some (.slice ak x.len ck))
 (hk : SlF T w (.slice ak x.len ck) x.len x.len (fun i => .int .i64 (x.y i))) (hT : T <= w.heap.size) (hc1 : x.len <= ck) (hc2 : ck <= 1048576) (ht : zl x.k x.t = true) (hi : zm x.k x.i = true) (hq : zt x.k ≠ 0) (hn : (shp x.k x.len).length = x.len) (hs : smN rec x.y x.len <= 100000)
 (hr : ∀ (V : World) (m : Nat), m < x.len -> Below w.heap.size w V -> Calls Tryd.prog 36 #[.agg #[.slice (some ⟨b, off, none⟩) L c, .int .i64 top], .int .i64 (x.y m)] V (zc V (rec (x.y m)))) :
 Calls Tryd.prog 36 #[.agg #[.slice (some ⟨b, off, none⟩) L c, .int .i64 top], .int .i64 (z : Int)] w (zc w (bod rec x)) := by
 obtain ⟨k, t, i, l, y⟩ := x
 dsimp only at *
 rcases zbu hq with rfl | rfl | rfl | rfl | rfl | rfl | rfl | rfl | rfl | rfl | rfl | rfl | rfl | rfl | rfl | rfl | rfl | rfl | rfl | rfl | rfl | rfl | rfl | rfl
 · obtain rfl : l = 0 := by simp [shp] at hn; omega
   exact tt1 b off L c z top 1 t _ ak _ ck _ w (by decide) hb hz hL c0 c1 c2 c3 (fun V hV => et1 (some ⟨b, off, none⟩) L c top t i ak 0 ck y rec V)
 · obtain rfl : l = 0 := by simp [shp] at hn; omega
   have hi' : i = 0 \/ i = 1 := by simpa [zm] using hi
   rcases hi' with rfl | rfl
   · exact tt1 b off L c z top 2 t _ ak _ ck _ w (by decide) hb hz hL c0 c1 c2 c3 (fun V hV => zkk (some ⟨b, off, none⟩) L c top t ak 0 ck y rec V)
   · exact tt1 b off L c z top 2 t _ ak _ ck _ w (by decide) hb hz hL c0 c1 c2 c3 (fun V hV => zkl (some ⟨b, off, none⟩) L c top t ak 0 ck y rec V)
 · obtain rfl : l = 0 := by simp [shp] at hn; omega
   have hi' : 0 <= i /\ i <= 999999999999999 := by simpa [zm] using hi
   obtain ⟨m, rfl⟩ : ∃ m : Nat, i = (m : Int) := ⟨i.toNat, by omega⟩
   exact tt1 b off L c z top 3 t _ ak _ ck _ w (by decide) hb hz hL c0 c1 c2 c3 (fun V hV => et3 (some ⟨b, off, none⟩) L c top t m ak 0 ck y rec V (by omega))
 · obtain rfl : l = 0 := by simp [shp] at hn; omega
   have ht' : t.size <= 160 := (by simp [zl, zac] at ht; exact ht.2)
   exact tt1 b off L c z top 4 t _ ak _ ck _ w (by decide) hb hz hL c0 c1 c2 c3 (fun V hV => et4 (some ⟨b, off, none⟩) L c top t i ak 0 ck y rec V ht')
 · obtain rfl : l = 0 := by simp [shp] at hn; omega
   exact tt1 b off L c z top 5 t _ ak _ ck _ w (by decide) hb hz hL c0 c1 c2 c3 (fun V hV => et5 (some ⟨b, off, none⟩) L c top t i ak 0 ck y rec V)
 · obtain ⟨q, rfl⟩ : ∃ q, l = q + 1 := ⟨l - 1, by simp [shp] at hn; omega⟩
   exact tt1 b off L c z top 6 t _ ak _ ck _ w (by decide) hb hz hL c0 c1 c2 c3 (fun V hV => et6 (some ⟨b, off, none⟩) L c top t i ak q ck y rec T V (hk.below hV hT) (Nat.le_trans hT hV.size) hc1 hc2 hs (fun V' m hm hV' => hr V' m hm (hV.trans (hV'.mono hV.size))))
 · exact tt1 b off L c z top 7 t _ ak _ ck _ w (by decide) hb hz hL c0 c1 c2 c3 (fun V hV => et7 (some ⟨b, off, none⟩) L c top t i ak l ck y rec V T (hk.below hV hT) (Nat.le_trans hT hV.size) (by omega) hs (fun V' m hm hV' => hr V' m hm (hV.trans (hV'.mono hV.size))))
 · obtain rfl : l = 2 := by simp [shp] at hn; omega
   exact tt1 b off L c z top 8 t _ ak _ ck _ w (by decide) hb hz hL c0 c1 c2 c3 (fun V hV => et8 (some ⟨b, off, none⟩) L c top t i ak ck y rec T V (hk.below hV hT) (Nat.le_trans hT hV.size) hc1 hc2 hs (fun V' m hm hV' => hr V' m hm (hV.trans (hV'.mono hV.size))))
 · obtain ⟨q, rfl⟩ : ∃ q, l = q + 1 := ⟨l - 1, by simp [shp] at hn; omega⟩
   exact tt1 b off L c z top 9 t _ ak _ ck _ w (by decide) hb hz hL c0 c1 c2 c3 (fun V hV => et9 (some ⟨b, off, none⟩) L c top t i ak q ck y rec T V (hk.below hV hT) (Nat.le_trans hT hV.size) hc1 hc2 hs (fun V' m hm hV' => hr V' m hm (hV.trans (hV'.mono hV.size))))
 · obtain rfl : l = 2 := by simp [shp] at hn; omega
   have hi' : 1 <= i /\ i <= 10 := by simpa [zm] using hi
   obtain ⟨m, rfl⟩ : ∃ m : Nat, i = (m : Int) := ⟨i.toNat, by omega⟩
   exact tt1 b off L c z top 10 t _ ak _ ck _ w (by decide) hb hz hL c0 c1 c2 c3 (fun V hV => zks (some ⟨b, off, none⟩) L c top t m ak ck y rec T V (by omega) (hk.below hV hT) (Nat.le_trans hT hV.size) hc1 hc2 hs (fun V' m hm hV' => hr V' m hm (hV.trans (hV'.mono hV.size))))
 · obtain rfl : l = 1 := by simp [shp] at hn; omega
   have hi' : 1 <= i /\ i <= 3 := by simpa [zm] using hi
   obtain ⟨m, rfl⟩ : ∃ m : Nat, i = (m : Int) := ⟨i.toNat, by omega⟩
   exact tt1 b off L c z top 11 t _ ak _ ck _ w (by decide) hb hz hL c0 c1 c2 c3 (fun V hV => zkt (some ⟨b, off, none⟩) L c top t m ak ck y rec T V (by omega) (hk.below hV hT) (Nat.le_trans hT hV.size) hc1 hc2 hs (fun V' m hm hV' => hr V' m hm (hV.trans (hV'.mono hV.size))))
 · obtain rfl : l = 2 := by simp [shp] at hn; omega
   have hi' : i = 0 := by simpa [zm] using hi
   obtain ⟨m, rfl⟩ : ∃ m : Nat, i = (m : Int) := ⟨0, by omega⟩
   exact tt1 b off L c z top 12 t _ ak _ ck _ w (by decide) hb hz hL c0 c1 c2 c3 (fun V hV => zku (some ⟨b, off, none⟩) L c top t m ak ck y rec T V (by omega) (hk.below hV hT) (Nat.le_trans hT hV.size) hc1 hc2 hs (fun V' m hm hV' => hr V' m hm (hV.trans (hV'.mono hV.size))))
 · obtain rfl : l = 2 := by simp [shp] at hn; omega
   have hi' : i = 0 := by simpa [zm] using hi
   obtain ⟨m, rfl⟩ : ∃ m : Nat, i = (m : Int) := ⟨0, by omega⟩
   exact tt1 b off L c z top 13 t _ ak _ ck _ w (by decide) hb hz hL c0 c1 c2 c3 (fun V hV => zkv (some ⟨b, off, none⟩) L c top t m ak ck y rec T V (by omega) (hk.below hV hT) (Nat.le_trans hT hV.size) hc1 hc2 hs (fun V' m hm hV' => hr V' m hm (hV.trans (hV'.mono hV.size))))
 · obtain rfl : l = 1 := by simp [shp] at hn; omega
   exact tt2 b off L c z top 14 t _ ak _ ck _ w (by decide) hb hz hL c0 c1 c2 c3 (fun V hV => zkw (some ⟨b, off, none⟩) L c top t i ak ck y rec T V (hk.below hV hT) (Nat.le_trans hT hV.size) hc1 hc2 hs (fun V' m hm hV' => hr V' m hm (hV.trans (hV'.mono hV.size))))
 · obtain rfl : l = 1 := by simp [shp] at hn; omega
   exact tt2 b off L c z top 15 t _ ak _ ck _ w (by decide) hb hz hL c0 c1 c2 c3 (fun V hV => zkx (some ⟨b, off, none⟩) L c top t i ak ck y rec T V (hk.below hV hT) (Nat.le_trans hT hV.size) hc1 hc2 hs (fun V' m hm hV' => hr V' m hm (hV.trans (hV'.mono hV.size))))
 · obtain rfl : l = 3 := by simp [shp] at hn; omega
   exact tt2 b off L c z top 16 t _ ak _ ck _ w (by decide) hb hz hL c0 c1 c2 c3 (fun V hV => zky (some ⟨b, off, none⟩) L c top t i ak ck y rec T V (hk.below hV hT) (Nat.le_trans hT hV.size) hc1 hc2 hs (fun V' m hm hV' => hr V' m hm (hV.trans (hV'.mono hV.size))))
 · have hl : l = 2 \/ l = 3 := by
    by_cases h3 : l = 3
    · exact .inr h3
    · simp [shp, h3] at hn; omega
   rcases hl with rfl | rfl
   · exact tt2 b off L c z top 17 t _ ak _ ck _ w (by decide) hb hz hL c0 c1 c2 c3 (fun V hV => zkz (some ⟨b, off, none⟩) L c top t i ak ck y rec T V (hk.below hV hT) (Nat.le_trans hT hV.size) hc1 hc2 hs (fun V' m hm hV' => hr V' m hm (hV.trans (hV'.mono hV.size))))
   · exact tt2 b off L c z top 17 t _ ak _ ck _ w (by decide) hb hz hL c0 c1 c2 c3 (fun V hV => zke (some ⟨b, off, none⟩) L c top t i ak ck y rec T V (hk.below hV hT) (Nat.le_trans hT hV.size) hc1 hc2 hs (fun V' m hm hV' => hr V' m hm (hV.trans (hV'.mono hV.size))))
 · obtain rfl : l = 2 := by simp [shp] at hn; omega
   exact tt2 b off L c z top 18 t _ ak _ ck _ w (by decide) hb hz hL c0 c1 c2 c3 (fun V hV => zk0 (some ⟨b, off, none⟩) L c top t i ak ck y rec T V (hk.below hV hT) (Nat.le_trans hT hV.size) hc1 hc2 hs (fun V' m hm hV' => hr V' m hm (hV.trans (hV'.mono hV.size))))
 · obtain rfl : l = 1 := by simp [shp] at hn; omega
   exact tt2 b off L c z top 19 t _ ak _ ck _ w (by decide) hb hz hL c0 c1 c2 c3 (fun V hV => zk1 (some ⟨b, off, none⟩) L c top t i ak ck y rec T V (hk.below hV hT) (Nat.le_trans hT hV.size) hc1 hc2 hs (fun V' m hm hV' => hr V' m hm (hV.trans (hV'.mono hV.size))))
 · obtain rfl : l = 1 := by simp [shp] at hn; omega
   exact tt2 b off L c z top 20 t _ ak _ ck _ w (by decide) hb hz hL c0 c1 c2 c3 (fun V hV => zk2 (some ⟨b, off, none⟩) L c top t i ak ck y rec T V (hk.below hV hT) (Nat.le_trans hT hV.size) hc1 hc2 hs (fun V' m hm hV' => hr V' m hm (hV.trans (hV'.mono hV.size))))
 · exact zkj b off L c z top t i ak l ck y rec T w hb hz hL c0 c1 c2 c3 hk hT (by omega) hs hr
 · exact zkg b off L c z top t i ak l ck y rec w hb hz hL c0 c1 c2 c3
 · obtain rfl : l = 1 := by simp [shp] at hn; omega
   exact zkh b off L c z top t i ak ck y rec T w hb hz hL c0 c1 c2 c3 hk hT hc1 hc2 hs hr
 · obtain rfl : l = 2 := by simp [shp] at hn; omega
   exact zki b off L c z top t i ak ck y rec T w hb hz hL c0 c1 c2 c3 hk hT hc1 hc2 hs hr
theorem zd1 (b off c L : Nat) (top : Int) (X : Nat -> KnD) (T : Nat) (w0 : World) (hb : b < T) (hL : L <= 3000) (hT : T <= w0.heap.size) (hc : ∀ i, i < L -> zdv T w0 b (off + i * 4) (X i)) (hg : ∀ j, j < L -> zao X j) :
 ∀ (N i : Nat), i < N -> i < L -> ∀ V, Below w0.heap.size w0 V -> Calls Tryd.prog 36 #[.agg #[.slice (some ⟨b, off, none⟩) L c, .int .i64 top], .int .i64 (i : Int)] V (zc V (tkn X N i))
 | 0, i, h, _ => absurd h (Nat.not_lt_zero _)
 | N + 1, i, h, hi => by
   intro V hV
   obtain ⟨g1, g2, g3, g4⟩ := hg i hi
   unfold zi at g4
   rw [Bool.and_eq_true, decide_eq_true_iff, zp] at g4
   have h1 := zaw g4.2
   rw [zp] at h1
   obtain ⟨a, ck, c0, c1, c2, c3, c4, c5, c6⟩ := hc i hi
   have e := fun i => hV.cell (p := ⟨b, i, none⟩) (Nat.lt_of_lt_of_le hb hT)
   have hkid : ∀ m, m < (X i).len -> 0 <= (X i).y m /\ ((X i).y m).toNat < i := fun m hm => by
    have h4 := zat X g1 ((X i).y m) (by
     have h5 := zy X (i := i) (j := m) (by rw [zo]; exact hm)
     rw [<- h5]
     exact List.getElem_mem _)
    exact ⟨h4.1, h4.2.1⟩
   have hsm : smN (fun q => tkn X N q.toNat) (X i).y (X i).len <= 100000 := by
    have h5 := zd2 (X := X) (rec := fun q => tkn X N q.toNat) (y := (X i).y) (n := stt X i) (X i).len (e := i) g1 (fun j hj => by
     have := hkid j hj
     exact zc3 hg N _ (by omega) (by omega))
    omega
   show Calls _ _ _ _ (zc V (bod (fun q => tkn X N q.toNat) (X i)))
   refine zfq b off L c i top (X i) a ck _ T V (Nat.lt_of_lt_of_le hb (Nat.le_trans hT hV.size)) hi hL (by rw [e]; exact c0) (by rw [e]; exact c1) (by rw [e]; exact c2) (by rw [e]; exact c3) (c4.below hV hT) (Nat.le_trans hT hV.size) c5 c6 g2 g3 g4.1 h1 hsm (fun V' m hm hV' => ?_)
   have h4 := hkid m hm
   have h6 := zd1 b off c L top X T w0 hb hL hT hc hg N ((X i).y m).toNat (by omega) (by omega) V' (hV.trans (hV'.mono hV.size))
   rw [Int.toNat_of_nonneg h4.1] at h6
   exact h6
end Go.Proofs.YtiglkhkfbgjjoaaDoor
