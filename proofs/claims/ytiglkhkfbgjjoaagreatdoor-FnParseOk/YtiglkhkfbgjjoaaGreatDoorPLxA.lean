/- - -/
import Derived.Test.YtiglkhkfbgjjoaaGreatDoorPLxW
import Derived.PlainAid
import Derived.Lib.Strings
namespace Go.Proofs.YtiglkhkfbgjjoaaGreatDoor
set_option maxRecDepth 20000
open Go.RowKit Go.PlainAid
set_option linter.unusedSimpArgs false
set_option linter.unusedVariables false
def ltB (r : Int) : Bool := decide ((97 <= r /\ r <= 122) \/ (65 <= r /\ r <= 90))
def dgB (r : Int) : Bool := decide (48 <= r /\ r <= 57)
def bkB (r : Int) : Bool := decide (r = 9 \/ r = 10 \/ r = 32)
def lnB (r : Int) : Bool := decide (r ≠ 10)
def plB (r : Int) : Bool := decide (32 <= r /\ r <= 126 /\ r ≠ 34)
def zdk (p : Int -> Bool) (t : ByteArray) : Nat -> Nat -> Nat
 | 0, i => i
 | n + 1, i => if p (bt t i) then zdk p t n (i + 1) else i
def ze (p : Int -> Bool) (t : ByteArray) (i : Nat) : Nat := zdk p t (t.size - i) i
theorem zbx {p : Int -> Bool} {t : ByteArray} {i : Nat} (h : ¬ i < t.size) : ze p t i = i := by
 unfold ze
 rw [show t.size - i = 0 by omega]
 rfl
theorem zbn {p : Int -> Bool} {t : ByteArray} {i : Nat} (h : i < t.size) (hp : p (bt t i) = true) : ze p t i = ze p t (i + 1) := by
 unfold ze
 rw [show t.size - i = (t.size - (i + 1)) + 1 by omega]
 simp [zdk, hp]
theorem zcc {p : Int -> Bool} {t : ByteArray} {i : Nat} (hp : p (bt t i) = false) : ze p t i = i := by
 unfold ze
 cases h : t.size - i with
 | zero => rfl
 | succ n => simp [zdk, hp]
theorem zig (p : Int -> Bool) (t : ByteArray) : ∀ n i, i <= zdk p t n i /\ zdk p t n i <= i + n
 | 0, i => ⟨Nat.le_refl _, Nat.le_refl _⟩
 | n + 1, i => by
   unfold zdk
   split
   · have := zig p t n (i + 1); omega
   · omega
theorem zcv (p : Int -> Bool) (t : ByteArray) (i : Nat) : i <= ze p t i := (zig p t _ i).1
theorem zbc {p : Int -> Bool} {t : ByteArray} {i : Nat} (h : i <= t.size) : ze p t i <= t.size := by
 have := (zig p t (t.size - i) i).2
 unfold ze
 omega
theorem zc8 {p : Int -> Bool} {t : ByteArray} {i : Nat} (h : i < t.size) (hp : p (bt t i) = true) : i < ze p t i := by
 rw [zbn h hp]
 have := zcv p t (i + 1)
 omega
theorem zmh (p : Int -> Bool) (t : ByteArray) : ∀ n i k, i <= k -> k < zdk p t n i -> p (bt t k) = true
 | 0, i, k, h1, h2 => by unfold zdk at h2; omega
 | n + 1, i, k, h1, h2 => by
   unfold zdk at h2
   split at h2
   · rename_i h
     by_cases e : k = i
     · rw [e]; exact h
     · exact zmh p t n (i + 1) k (by omega) h2
   · omega
theorem zeg {p : Int -> Bool} {t : ByteArray} {i k : Nat} (h1 : i <= k) (h2 : k < ze p t i) : p (bt t k) = true := zmh p t _ i k h1 h2
theorem zkc (p : Int -> Bool) (t : ByteArray) : ∀ n i, zdk p t n i < i + n -> p (bt t (zdk p t n i)) = false
 | 0, i, h => by unfold zdk at h; omega
 | n + 1, i, h => by
   unfold zdk at h ⊢
   split
   · rename_i h1
     rw [if_pos h1] at h
     exact zkc p t n (i + 1) (by omega)
   · rename_i h1
     exact Bool.eq_false_iff.2 h1
theorem zkd {p : Int -> Bool} {t : ByteArray} {i : Nat} (hi : i <= t.size) (h : ze p t i < t.size) : p (bt t (ze p t i)) = false := zkc p t _ i (by unfold ze at h; omega)
def zad (t : ByteArray) (i : Nat) : Nat -> Int
 | 0 => 0
 | k + 1 => zad t i k * 10 + (bt t (i + k) - 48)
theorem zgg (t : ByteArray) (i : Nat) : ∀ k, (∀ j, j < k -> dgB (bt t (i + j)) = true) -> 0 <= zad t i k /\ zad t i k < ((10 ^ k : Nat) : Int)
 | 0, _ => by simp [zad]
 | k + 1, h => by
   have h1 := zgg t i k fun j hj => h j (by omega)
   have h2 := of_decide_eq_true (h k (by omega))
   have h3 : 10 ^ (k + 1) = 10 ^ k * 10 := Nat.pow_succ ..
   unfold zad
   rw [h3]
   omega
structure za where
 k : Int
 at_ : Nat
 tx : ByteArray
 n : Int
structure TkR where
 code : Int
 x : za
 e : Nat
def mkS : List ByteArray := [⟨#[123]⟩, ⟨#[125]⟩, ⟨#[40]⟩, ⟨#[41]⟩, ⟨#[91]⟩, ⟨#[93]⟩, ⟨#[59]⟩, ⟨#[44]⟩, ⟨#[46, 46]⟩, ⟨#[46]⟩, ⟨#[61, 61]⟩, ⟨#[61]⟩, ⟨#[126, 61]⟩, ⟨#[60, 61]⟩, ⟨#[60]⟩, ⟨#[43]⟩, ⟨#[45]⟩, ⟨#[42]⟩, ⟨#[47]⟩, ⟨#[37]⟩, ⟨#[35]⟩]
def mkP : List ByteArray := [⟨#[46, 46]⟩, ⟨#[61, 61]⟩, ⟨#[126, 61]⟩, ⟨#[60, 61]⟩, ⟨#[123]⟩, ⟨#[125]⟩, ⟨#[40]⟩, ⟨#[41]⟩, ⟨#[91]⟩, ⟨#[93]⟩, ⟨#[59]⟩, ⟨#[44]⟩, ⟨#[46]⟩, ⟨#[61]⟩, ⟨#[60]⟩, ⟨#[43]⟩, ⟨#[45]⟩, ⟨#[42]⟩, ⟨#[47]⟩, ⟨#[37]⟩, ⟨#[35]⟩]
def zcs (t : ByteArray) (i : Nat) (m : ByteArray) : Bool := decide (i + m.size <= t.size) && ((t.extract i (i + m.size)).toList == m.toList)
def zbo (t : ByteArray) (i : Nat) : Option ByteArray := mkS.find? (zcs t i)
theorem zce (t : ByteArray) : t.size = t.data.toList.length := by rw [Array.length_toList]; rfl
theorem zby (t : ByteArray) (a b : Nat) : (t.extract a b).data.toList = (t.data.toList.drop a).take (b - a) := by
 simp [ByteArray.data_extract]
theorem zov (t : ByteArray) (i : Nat) (m : ByteArray) (hi : i <= t.size) : zcs t i m = m.data.toList.isPrefixOf (t.data.toList.drop i) := by
 unfold zcs
 rw [zce t] at hi
 rw [ByteArray.toList_eq, ByteArray.toList_eq, zby, zce t, zce m, show i + m.data.toList.length - i = m.data.toList.length by omega]
 generalize t.data.toList = l at *
 generalize m.data.toList = r at *
 rw [Bool.eq_iff_iff]
 simp only [Bool.and_eq_true, decide_eq_true_eq, beq_iff_eq, List.isPrefixOf_iff_prefix]
 constructor
 · rintro ⟨h1, h2⟩
   rw [<- h2]
   exact List.take_prefix _ _
 · intro h
   have h1 := h.length_le
   rw [List.length_drop] at h1
   by_cases e : r.length = 0
   · have : r = [] := List.eq_nil_of_length_eq_zero e
     subst this
     exact ⟨by simpa using hi, by simp⟩
   · exact ⟨by omega, List.prefix_iff_eq_take.1 h |>.symm⟩
theorem zhc {x y a b : UInt8} (h : ¬ (a = x /\ b = y)) : (x == a && (y == b && true)) = false := by
 rw [Bool.and_true, Bool.eq_false_iff]
 simp only [ne_eq, Bool.and_eq_true, beq_iff_eq]
 rintro ⟨rfl, rfl⟩
 exact h ⟨rfl, rfl⟩
theorem zqe (l : List UInt8) : mkP.find? (fun m => m.data.toList.isPrefixOf l) = mkS.find? (fun m => m.data.toList.isPrefixOf l) := by
 rcases l with _ | ⟨a, _ | ⟨b, r⟩⟩
 · rfl
 · simp only [mkP, mkS, List.find?, List.isPrefixOf, Bool.and_false, Bool.and_true]
 · by_cases h1 : a = 46 /\ b = 46
   · obtain ⟨rfl, rfl⟩ := h1; rfl
   by_cases h2 : a = 61 /\ b = 61
   · obtain ⟨rfl, rfl⟩ := h2; rfl
   by_cases h3 : a = 126 /\ b = 61
   · obtain ⟨rfl, rfl⟩ := h3; rfl
   by_cases h4 : a = 60 /\ b = 61
   · obtain ⟨rfl, rfl⟩ := h4; rfl
   have e1 : ((46 : UInt8) == a && ((46 : UInt8) == b && true)) = false := zhc h1
   have e2 : ((61 : UInt8) == a && ((61 : UInt8) == b && true)) = false := zhc h2
   have e3 : ((126 : UInt8) == a && ((61 : UInt8) == b && true)) = false := zhc h3
   have e4 : ((60 : UInt8) == a && ((61 : UInt8) == b && true)) = false := zhc h4
   simp only [mkP, mkS, List.find?, List.isPrefixOf, e1, e2, e3, e4]
theorem zqf (t : ByteArray) (i : Nat) (hi : i <= t.size) : mkP.find? (fun m => Lib.hasPrefix (t.extract i t.size).data.toList m.data.toList) = zbo t i := by
 have e1 : (fun m : ByteArray => Lib.hasPrefix (t.extract i t.size).data.toList m.data.toList) = fun m => m.data.toList.isPrefixOf (t.data.toList.drop i) := by
  funext m
  unfold Lib.hasPrefix
  rw [zby, List.take_of_length_le (by rw [List.length_drop, <- zce]; omega)]
 have e2 : zcs t i = fun m => m.data.toList.isPrefixOf (t.data.toList.drop i) := by
  funext m
  exact zov t i m hi
 unfold zbo
 rw [e1, e2]
 exact zqe _
theorem zc9 {t : ByteArray} {i : Nat} {m : ByteArray} (h : zbo t i = some m) : i + m.size <= t.size /\ t.extract i (i + m.size) = m /\ m ∈ mkS := by
 have h1 := List.find?_some h
 simp only [zcs, Bool.and_eq_true, decide_eq_true_eq, beq_iff_eq] at h1
 refine ⟨h1.1, ?_, List.mem_of_find?_eq_some h⟩
 have := h1.2
 rw [ByteArray.toList_eq, ByteArray.toList_eq] at this
 exact ByteArray.ext (Array.toList_inj.1 this)
theorem zc5 : ∀ m ∈ mkS, 0 < m.size /\ m.size <= 2 := by
 intro m hm
 simp only [mkS, List.mem_cons, List.not_mem_nil, or_false] at hm
 rcases hm with rfl | rfl | rfl | rfl | rfl | rfl | rfl | rfl | rfl | rfl | rfl | rfl | rfl | rfl | rfl | rfl | rfl | rfl | rfl | rfl | rfl <;> decide
def zh (t : ByteArray) (i : Nat) : TkR :=
 if ltB (bt t i) then
  if isW (t.extract i (ze ltB t i)) then ⟨0, ⟨2, i, t.extract i (ze ltB t i), 0⟩, ze ltB t i⟩
  else if 12 < ze ltB t i - i then ⟨4, ⟨1, i, t.extract i (ze ltB t i), 0⟩, ze ltB t i⟩
  else ⟨0, ⟨1, i, t.extract i (ze ltB t i), 0⟩, ze ltB t i⟩
 else if dgB (bt t i) then
  if 15 < ze dgB t i - i \/ (1 < ze dgB t i - i /\ bt t i = 48) \/ (ze dgB t i < t.size /\ ltB (bt t (ze dgB t i)) = true) then ⟨3, ⟨0, i, ⟨#[]⟩, 0⟩, ze dgB t i⟩
  else ⟨0, ⟨3, i, t.extract i (ze dgB t i), zad t i (ze dgB t i - i)⟩, ze dgB t i⟩
 else if bt t i = 34 then
  if t.size <= ze plB t (i + 1) \/ bt t (ze plB t (i + 1)) ≠ 34 \/ 160 < ze plB t (i + 1) - i - 1 then ⟨5, ⟨0, i, ⟨#[]⟩, 0⟩, ze plB t (i + 1)⟩
  else ⟨0, ⟨4, i, t.extract (i + 1) (ze plB t (i + 1)), 0⟩, ze plB t (i + 1) + 1⟩
 else match zbo t i with
  | some m => ⟨0, ⟨5, i, m, 0⟩, i + m.size⟩
  | none => ⟨2, ⟨0, i, ⟨#[]⟩, 0⟩, i⟩
theorem zd2 {t : ByteArray} {i : Nat} (hi : i < t.size) (h : (zh t i).code = 0) : i < (zh t i).e /\ (zh t i).e <= t.size := by
 unfold zh at h ⊢
 have r1 := zbc (p := ltB) (t := t) (i := i) (by omega)
 have r2 := zbc (p := dgB) (t := t) (i := i) (by omega)
 have r3 := zbc (p := plB) (t := t) (i := i + 1) (by omega)
 have r4 := zcv plB t (i + 1)
 split
 · rename_i h1
   have := zc8 hi h1
   split <;> rename_i h2 <;> simp only [h1, h2, if_true, if_false] at h ⊢
   · omega
   · split <;> simp only [] <;> omega
 · rename_i h1
   simp only [h1, if_false] at h
   split
   · rename_i h2
     have := zc8 hi h2
     split <;> simp only [] <;> omega
   · rename_i h2
     simp only [h2, if_false] at h
     split
     · rename_i h3
       simp only [h3, if_true] at h
       split
       · rename_i h4
         simp only [h4, if_true] at h
         simp at h
       · rename_i h4
         simp only [not_or, Nat.not_le] at h4
         simp only []
         omega
     · rename_i h3
       simp only [h3, if_false] at h
       cases hm : zbo t i with
       | none => simp only [hm] at h; simp at h
       | some m =>
         have a := zc9 hm
         have b := zc5 m a.2.2
         simp only []
         omega
def zbk (t : ByteArray) (i : Nat) : Bool := decide (bt t i = 45 /\ i + 1 < t.size /\ bt t (i + 1) = 45)
def zcm (t : ByteArray) : Nat -> Nat -> List za -> Int × Nat × List za
 | 0, i, acc => (0, 0, acc)
 | n + 1, i, acc =>
   if i < t.size then
    if bkB (bt t i) then zcm t n (i + 1) acc
    else if zbk t i then zcm t n (ze lnB t i) acc
    else if (zh t i).code = 0 then zcm t n (zh t i).e (acc ++ [(zh t i).x])
    else ((zh t i).code, i, [])
   else (0, 0, acc)
def zab (t : ByteArray) (i : Nat) (acc : List za) : Int × Nat × List za := zcm t (t.size - i) i acc
theorem ze7 {t : ByteArray} {i : Nat} (h : zbk t i = true) : i < ze lnB t i := by
 have h' := of_decide_eq_true h
 exact zc8 (by omega) (by simp [lnB, h'.1])
theorem zd3 (t : ByteArray) : ∀ n m i acc, t.size - i <= n -> t.size - i <= m -> zcm t n i acc = zcm t m i acc
 | 0, 0, i, acc, _, _ => rfl
 | 0, m + 1, i, acc, h1, h2 => by
   unfold zcm
   rw [if_neg (by omega)]
 | n + 1, 0, i, acc, h1, h2 => by
   unfold zcm
   rw [if_neg (by omega)]
 | n + 1, m + 1, i, acc, h1, h2 => by
   unfold zcm
   split
   · rename_i hi
     split
     · exact zd3 t n m _ _ (by omega) (by omega)
     · split
       · rename_i h3
         have := ze7 h3
         exact zd3 t n m _ _ (by omega) (by omega)
       · split
         · rename_i h4
           have := (zd2 hi h4).1
           exact zd3 t n m _ _ (by omega) (by omega)
         · rfl
   · rfl
theorem zfl {t : ByteArray} {i : Nat} {acc : List za} (h : ¬ i < t.size) : zab t i acc = (0, 0, acc) := by
 unfold zab
 rw [show t.size - i = 0 by omega]
 rfl
theorem zej {t : ByteArray} {i : Nat} {acc : List za} (h : i < t.size) (hb : bkB (bt t i) = true) : zab t i acc = zab t (i + 1) acc := by
 unfold zab
 rw [show t.size - i = (t.size - (i + 1)) + 1 by omega]
 conv => lhs; unfold zcm
 rw [if_pos h, if_pos hb]
theorem zfm {t : ByteArray} {i : Nat} {acc : List za} (h : i < t.size) (hb : bkB (bt t i) = false) (hr : zbk t i = true) : zab t i acc = zab t (ze lnB t i) acc := by
 have := ze7 hr
 unfold zab
 rw [show t.size - i = (t.size - (i + 1)) + 1 by omega]
 conv => lhs; unfold zcm
 rw [if_pos h, if_neg (by simp [hb]), if_pos hr]
 exact zd3 t _ _ _ _ (by omega) (by omega)
theorem zc6 {t : ByteArray} {i : Nat} {acc : List za} (h : i < t.size) (hb : bkB (bt t i) = false) (hr : zbk t i = false) (hc : (zh t i).code = 0) : zab t i acc = zab t (zh t i).e (acc ++ [(zh t i).x]) := by
 have := (zd2 h hc).1
 unfold zab
 rw [show t.size - i = (t.size - (i + 1)) + 1 by omega]
 conv => lhs; unfold zcm
 rw [if_pos h, if_neg (by simp [hb]), if_neg (by simp [hr]), if_pos hc]
 exact zd3 t _ _ _ _ (by omega) (by omega)
theorem zdt {t : ByteArray} {i : Nat} {acc : List za} (h : i < t.size) (hb : bkB (bt t i) = false) (hr : zbk t i = false) (hc : (zh t i).code ≠ 0) : zab t i acc = ((zh t i).code, i, []) := by
 unfold zab
 rw [show t.size - i = (t.size - (i + 1)) + 1 by omega]
 conv => lhs; unfold zcm
 rw [if_pos h, if_neg (by simp [hb]), if_neg (by simp [hr]), if_neg hc]
theorem zi2 (t : ByteArray) (acc : List za) : ∀ n i, t.size - i = n -> zab t (ze bkB t i) acc = zab t i acc
 | 0, i, h => by rw [zbx (by omega)]
 | n + 1, i, h => by
   cases hb : bkB (bt t i) with
   | true => rw [zbn (by omega) hb, zej (by omega) hb]; exact zi2 t acc n (i + 1) (by omega)
   | false => rw [zcc hb]
theorem zow (t : ByteArray) (i : Nat) (acc : List za) : zab t (ze bkB t i) acc = zab t i acc := zi2 t acc _ i rfl
theorem zex (t : ByteArray) : ∀ n i acc, (zcm t n i acc).2.2.length <= acc.length + n
 | 0, i, acc => by simp [zcm]
 | n + 1, i, acc => by
   unfold zcm
   split
   · split
     · have := zex t n (i + 1) acc; omega
     · split
       · have := zex t n (ze lnB t i) acc; omega
       · split
         · have := zex t n (zh t i).e (acc ++ [(zh t i).x]); simp at this; omega
         · simp
   · simp
end Go.Proofs.YtiglkhkfbgjjoaaGreatDoor
