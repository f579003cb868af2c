/- - -/
import Derived.Test.YtiglkhkfbgjjoaaDoorQTkP
import Derived.Lib.ItoaNum
namespace Go.Proofs.YtiglkhkfbgjjoaaDoor
set_option maxRecDepth 20000
open Go.RowKit Go.PlainAid
set_option linter.unusedSimpArgs false
set_option linter.unusedVariables false
def opL : List ByteArray := [⟨#[]⟩, ⟨#[43]⟩, ⟨#[45]⟩, ⟨#[42]⟩, ⟨#[47]⟩, ⟨#[37]⟩, ⟨#[46, 46]⟩, ⟨#[61, 61]⟩, ⟨#[126, 61]⟩, ⟨#[60]⟩, ⟨#[60, 61]⟩]
def tnL : List ByteArray := [⟨#[]⟩, ⟨#[45]⟩, ⟨#[110, 111, 116]⟩, ⟨#[35]⟩]
def cmN (rec : Int -> List ByteArray) (y : Nat -> Int) : Nat -> List ByteArray
 | 0 => []
 | m + 1 => cmN rec y m ++ ((if m = 0 then [] else [⟨#[44]⟩]) ++ rec (y m))
def flN (rec : Int -> List ByteArray) (y : Nat -> Int) : Nat -> List ByteArray
 | 0 => []
 | m + 1 => flN rec y m ++ rec (y m)
def opB (k i : Int) : ByteArray := if k = 12 then ⟨#[97, 110, 100]⟩ else if k = 13 then ⟨#[111, 114]⟩ else opL.getD i.toNat ⟨#[]⟩
def bod (rec : Int -> List ByteArray) (x : KnD) : List ByteArray :=
 if x.k = 1 then [⟨#[110, 105, 108]⟩]
 else if x.k = 2 then [if x.i = 1 then ⟨#[116, 114, 117, 101]⟩ else ⟨#[102, 97, 108, 115, 101]⟩]
 else if x.k = 3 then [⟨(Lib.itoa x.i).toArray⟩]
 else if x.k = 4 then [⟨#[34]⟩ ++ x.t ++ ⟨#[34]⟩]
 else if x.k = 6 then [⟨#[40]⟩, ⟨#[102, 110]⟩, ⟨#[40]⟩] ++ cmN rec x.y (x.len - 1) ++ [⟨#[41]⟩] ++ rec (x.y (x.len - 1)) ++ [⟨#[41]⟩]
 else if x.k = 7 then [⟨#[40]⟩, ⟨#[123]⟩] ++ cmN rec x.y x.len ++ [⟨#[125]⟩, ⟨#[41]⟩]
 else if x.k = 8 then rec (x.y 0) ++ [⟨#[91]⟩] ++ rec (x.y 1) ++ [⟨#[93]⟩]
 else if x.k = 9 then rec (x.y 0) ++ [⟨#[40]⟩] ++ cmN rec (fun m => x.y (m + 1)) (x.len - 1) ++ [⟨#[41]⟩]
 else if x.k = 10 \/ x.k = 12 \/ x.k = 13 then [⟨#[40]⟩] ++ rec (x.y 0) ++ [opB x.k x.i] ++ rec (x.y 1) ++ [⟨#[41]⟩]
 else if x.k = 11 then [⟨#[40]⟩, tnL.getD x.i.toNat ⟨#[]⟩] ++ rec (x.y 0) ++ [⟨#[41]⟩]
 else if x.k = 14 then [⟨#[108, 111, 99, 97, 108]⟩, x.t, ⟨#[61]⟩] ++ rec (x.y 0) ++ [⟨#[59]⟩]
 else if x.k = 15 then [x.t, ⟨#[61]⟩] ++ rec (x.y 0) ++ [⟨#[59]⟩]
 else if x.k = 16 then rec (x.y 0) ++ [⟨#[91]⟩] ++ rec (x.y 1) ++ [⟨#[93]⟩, ⟨#[61]⟩] ++ rec (x.y 2) ++ [⟨#[59]⟩]
 else if x.k = 17 then [⟨#[105, 102]⟩] ++ rec (x.y 0) ++ rec (x.y 1) ++ (if x.len = 3 then [⟨#[101, 108, 115, 101]⟩] ++ rec (x.y 2) else [])
 else if x.k = 18 then [⟨#[119, 104, 105, 108, 101]⟩] ++ rec (x.y 0) ++ rec (x.y 1)
 else if x.k = 19 then [⟨#[114, 101, 116, 117, 114, 110]⟩] ++ rec (x.y 0) ++ [⟨#[59]⟩]
 else if x.k = 20 then rec (x.y 0) ++ [⟨#[59]⟩]
 else if x.k = 21 then [⟨#[123]⟩] ++ flN rec x.y x.len ++ [⟨#[125]⟩]
 else if x.k = 23 then rec (x.y 0)
 else if x.k = 24 then [⟨#[91]⟩] ++ rec (x.y 0) ++ [⟨#[93]⟩, ⟨#[61]⟩] ++ rec (x.y 1)
 else [x.t]
def tkn (X : Nat -> KnD) : Nat -> Nat -> List ByteArray
 | 0, _ => []
 | n + 1, i => bod (fun q => tkn X n q.toNat) (X i)
theorem zez {X : Nat -> KnD} {rec : Int -> List ByteArray} {y : Nat -> Int} {n : Nat} : ∀ (m : Nat) {e : Nat}, chn X n ((List.range m).map y) e -> (∀ j, j < m -> (rec (y j)).length + 1 <= 8 * ((y j).toNat + 1 - stt X (y j).toNat)) -> (cmN rec y m).length <= 8 * (e - n) /\ (flN rec y m).length <= 8 * (e - n)
 | 0, e, h, hr => ⟨Nat.zero_le _, Nat.zero_le _⟩
 | m + 1, e, h, hr => by
   rw [List.range_succ, List.map_append] at h
   obtain ⟨p, h1, h2⟩ := (zaq X).1 h
   obtain ⟨k0, k1, k2⟩ := (zba X).1 h2
   have i1 := zez m h1 (fun j hj => hr j (by omega))
   have i2 := hr m (by omega)
   have i3 := zai X h1
   have i4 := zas X (y m).toNat
   have hc : (if m = 0 then ([] : List ByteArray) else [⟨#[44]⟩]).length <= 1 := by split <;> simp
   constructor
   · show (cmN rec y m ++ (_ ++ rec (y m))).length <= _
     rw [List.length_append, List.length_append]
     omega
   · show (flN rec y m ++ rec (y m)).length <= _
     rw [List.length_append]
     omega
end Go.Proofs.YtiglkhkfbgjjoaaDoor
