/- The reader of trees, as a function on tokens. No Go here. -/
import Derived.Test.YtiglkhkfbgjjoaaDoorProg
import Derived.Test.YtiglkhkfbgjjoaaDoorBLxA
namespace Go.Proofs.YtiglkhkfbgjjoaaDoor
set_option maxRecDepth 20000
open Go.RowKit Go.PlainAid
set_option linter.unusedSimpArgs false
set_option linter.unusedVariables false

/-- A node that was read: its kind, text, number, Kids. -/
structure KnL where
  k : Int
  t : ByteArray
  i : Int
  ks : List Int
/-- Where the reader is: the next token, how many are open, the nodes. -/
structure PS where
  i : Nat
  d : Nat
  ns : List KnL
def eT : ByteArray := ⟨#[]⟩
section
variable (ts : List TokD) (en : Nat)
def fh (c : Int) (s : PS) : Int × Int := match ts[s.i]? with
  | none => (2, (en : Int))
  | some x => (c, (x.at_ : Int))
def isT (x : TokD) (b : ByteArray) : Bool := (x.k == 2 || x.k == 5) && (x.tx.toList == b.toList)
def isN (b : ByteArray) (s : PS) : Bool := match ts[s.i]? with
  | none => false
  | some x => isT x b
def kdN (k : Int) (s : PS) : Bool := match ts[s.i]? with
  | none => false
  | some x => x.k == k
def adv (s : PS) : PS := ⟨s.i + 1, s.d, s.ns⟩
def shutP (s : PS) : PS := ⟨s.i, s.d - 1, s.ns⟩
def wantP (b : ByteArray) (s : PS) : Except (Int × Int) PS := if isN ts b s then .ok (adv s) else .error (fh ts en 2 s)
def nameP (s : PS) : Except (Int × Int) (ByteArray × PS) := match ts[s.i]? with
  | none => .error (fh ts en 2 s)
  | some x => if x.k = 1 then .ok (x.tx, adv s) else .error (fh ts en 2 s)
def openP (s : PS) : Except (Int × Int) PS := if s.d = 30 then .error (fh ts en 3 s) else .ok ⟨s.i, s.d + 1, s.ns⟩
def addP (k : Int) (t : ByteArray) (i : Int) (ks : List Int) (s : PS) : Int × PS := ((s.ns.length : Int), ⟨s.i, s.d, s.ns ++ [⟨k, t, i, ks⟩]⟩)
/-- The readers of one fuel. -/
structure Rd where
  wh : PS → Except (Int × Int) (Int × PS)
  lv : Nat → PS → Except (Int × Int) (Int × PS)
  tn : PS → Except (Int × Int) (Int × PS)
  bl : PS → Except (Int × Int) (Int × PS)
  st : PS → Except (Int × Int) (Int × PS)
/-- What stands between commas, from the first one on; with the mark that ends it. -/
def lsL (rd : PS → Except (Int × Int) (Int × PS)) (e : ByteArray) : Nat → List Int → PS → Except (Int × Int) (List Int × PS)
  | 0, _, s => .error (0, 0)
  | n + 1, ks, s => match rd s with
    | .error x => .error x
    | .ok (v, s1) => if isN ts e s1 then .ok (ks ++ [v], adv s1) else match wantP ts en ⟨#[44]⟩ s1 with
      | .error x => .error x
      | .ok s2 => lsL rd e n (ks ++ [v]) s2
def lsP (rd : PS → Except (Int × Int) (Int × PS)) (e : ByteArray) (n : Nat) (s : PS) : Except (Int × Int) (List Int × PS) := if isN ts e s then .ok ([], adv s) else lsL ts en rd e n [] s
def paP (s : PS) : Except (Int × Int) (Int × PS) := match nameP ts en s with
  | .error x => .error x
  | .ok (nm, s1) => .ok (addP 22 nm 0 [] s1)
def pairP (r : Rd) (k : Int) (s : PS) : Except (Int × Int) (Int × PS) := match wantP ts en ⟨#[61]⟩ s with
  | .error x => .error x
  | .ok s1 => match r.wh s1 with
    | .error x => .error x
    | .ok (e, s2) => .ok (addP 24 eT 0 [k, e] s2)
def fdP (r : Rd) (s : PS) : Except (Int × Int) (Int × PS) :=
  if isN ts ⟨#[91]⟩ s then match r.wh (adv s) with
    | .error x => .error x
    | .ok (k, s1) => match wantP ts en ⟨#[93]⟩ s1 with
      | .error x => .error x
      | .ok s2 => pairP ts en r k s2
  else if kdN ts 1 s && isN ts ⟨#[61]⟩ (adv s) then match nameP ts en s with
    | .error x => .error x
    | .ok (nm, s1) => pairP ts en r (addP 4 nm 0 [] s1).1 (addP 4 nm 0 [] s1).2
  else match r.wh s with
    | .error x => .error x
    | .ok (e, s1) => .ok (addP 23 eT 0 [e] s1)
/-- Calls and indexes behind an operand. -/
def bhP (r : Rd) : Nat → Int → PS → Except (Int × Int) (Int × PS)
  | 0, _, s => .error (0, 0)
  | n + 1, a, s =>
    if isN ts ⟨#[40]⟩ s then match lsP ts en r.wh ⟨#[41]⟩ (ts.length + 1) (adv s) with
      | .error x => .error x
      | .ok (ks, s1) => bhP r n (addP 9 eT 0 (a :: ks) s1).1 (addP 9 eT 0 (a :: ks) s1).2
    else if isN ts ⟨#[91]⟩ s then match r.wh (adv s) with
      | .error x => .error x
      | .ok (k, s1) => match wantP ts en ⟨#[93]⟩ s1 with
        | .error x => .error x
        | .ok s2 => bhP r n (addP 8 eT 0 [a, k] s2).1 (addP 8 eT 0 [a, k] s2).2
    else if isN ts ⟨#[46]⟩ s then match nameP ts en (adv s) with
      | .error x => .error x
      | .ok (nm, s1) => bhP r n (addP 8 eT 0 [a, (addP 4 nm 0 [] s1).1] (addP 4 nm 0 [] s1).2).1 (addP 8 eT 0 [a, (addP 4 nm 0 [] s1).1] (addP 4 nm 0 [] s1).2).2
    else .ok (a, s)
def opdP (r : Rd) (s : PS) : Except (Int × Int) (Int × PS) := match ts[s.i]? with
  | none => .error (fh ts en 2 s)
  | some x =>
    if x.k = 3 then .ok (addP 3 eT x.n [] (adv s))
    else if x.k = 4 then .ok (addP 4 x.tx 0 [] (adv s))
    else if x.k = 1 then .ok (addP 5 x.tx 0 [] (adv s))
    else if isT x ⟨#[110, 105, 108]⟩ then .ok (addP 1 eT 0 [] (adv s))
    else if isT x ⟨#[102, 97, 108, 115, 101]⟩ then .ok (addP 2 eT 0 [] (adv s))
    else if isT x ⟨#[116, 114, 117, 101]⟩ then .ok (addP 2 eT 1 [] (adv s))
    else if isT x ⟨#[102, 110]⟩ then match wantP ts en ⟨#[40]⟩ (adv s) with
      | .error x => .error x
      | .ok s1 => match lsP ts en (paP ts en) ⟨#[41]⟩ (ts.length + 1) s1 with
        | .error x => .error x
        | .ok (ks, s2) => match r.bl s2 with
          | .error x => .error x
          | .ok (b, s3) => .ok (addP 6 eT 0 (ks ++ [b]) s3)
    else if isT x ⟨#[123]⟩ then match lsP ts en (fdP ts en r) ⟨#[125]⟩ (ts.length + 1) (adv s) with
      | .error x => .error x
      | .ok (ks, s1) => .ok (addP 7 eT 0 ks s1)
    else if isT x ⟨#[40]⟩ then match r.wh (adv s) with
      | .error x => .error x
      | .ok (v, s1) => match wantP ts en ⟨#[41]⟩ s1 with
        | .error x => .error x
        | .ok s2 => .ok (v, s2)
    else .error (fh ts en 2 s)
/-- Which turn comes next; 0: none. -/
def tnOf (s : PS) : Int := if isN ts ⟨#[45]⟩ s then 1 else if isN ts ⟨#[110, 111, 116]⟩ s then 2 else if isN ts ⟨#[35]⟩ s then 3 else 0
def tnP (r : Rd) (s : PS) : Except (Int × Int) (Int × PS) :=
  if tnOf ts s = 0 then match opdP ts en r s with
    | .error x => .error x
    | .ok (a, s1) => bhP ts en r (ts.length + 1) a s1
  else match openP ts en s with
    | .error x => .error x
    | .ok s1 => match r.tn (adv s1) with
      | .error x => .error x
      | .ok (e, s2) => .ok ((addP 11 eT (tnOf ts s) [e] s2).1, shutP (addP 11 eT (tnOf ts s) [e] s2).2)
/-- The operator that comes next: its level (0: none), the node's kind, its Op. -/
def opT (x : TokD) : Nat × Int × Int := if isT x ⟨#[111, 114]⟩ then (1, 13, 0) else if isT x ⟨#[97, 110, 100]⟩ then (2, 12, 0) else if isT x ⟨#[61, 61]⟩ then (3, 10, 7) else if isT x ⟨#[126, 61]⟩ then (3, 10, 8) else if isT x ⟨#[60]⟩ then (3, 10, 9) else if isT x ⟨#[60, 61]⟩ then (3, 10, 10) else if isT x ⟨#[46, 46]⟩ then (4, 10, 6) else if isT x ⟨#[43]⟩ then (5, 10, 1) else if isT x ⟨#[45]⟩ then (5, 10, 2) else if isT x ⟨#[42]⟩ then (6, 10, 3) else if isT x ⟨#[47]⟩ then (6, 10, 4) else if isT x ⟨#[37]⟩ then (6, 10, 5) else (0, 0, 0)
def opAt (s : PS) : Nat × Int × Int := match ts[s.i]? with
  | none => (0, 0, 0)
  | some x => opT x
/-- Operators of one level, behind an operand. -/
def mlp (r : Rd) (level : Nat) : Nat → Int → PS → Except (Int × Int) (Int × PS)
  | 0, _, s => .error (0, 0)
  | n + 1, a, s =>
    if (opAt ts s).1 = level then match r.lv (level + 1) (adv s) with
      | .error x => .error x
      | .ok (b, s1) => if level = 3 then .ok (addP (opAt ts s).2.1 eT (opAt ts s).2.2 [a, b] s1) else mlp r level n (addP (opAt ts s).2.1 eT (opAt ts s).2.2 [a, b] s1).1 (addP (opAt ts s).2.1 eT (opAt ts s).2.2 [a, b] s1).2
    else .ok (a, s)
/-- Operators of all levels from h down to lv. -/
def casP (r : Rd) (lv : Nat) : Nat → Int → PS → Except (Int × Int) (Int × PS)
  | 0, a, s => .ok (a, s)
  | h + 1, a, s => if h + 1 < lv then .ok (a, s) else match mlp ts r (h + 1) (ts.length + 1) a s with
    | .error x => .error x
    | .ok (b, s1) => casP r lv h b s1
def lvP (r : Rd) (lv : Nat) (s : PS) : Except (Int × Int) (Int × PS) := match tnP ts en r s with
  | .error x => .error x
  | .ok (a, s1) => casP ts r lv 6 a s1
def whP (r : Rd) (s : PS) : Except (Int × Int) (Int × PS) := match openP ts en s with
  | .error x => .error x
  | .ok s1 => match lvP ts en r 1 s1 with
    | .error x => .error x
    | .ok (v, s2) => .ok (v, shutP s2)
/-- Statements up to the mark that ends them. -/
def bsP (r : Rd) : Nat → List Int → PS → Except (Int × Int) (List Int × PS)
  | 0, _, s => .error (0, 0)
  | n + 1, ks, s => if isN ts ⟨#[125]⟩ s then .ok (ks, adv s) else match r.st s with
    | .error x => .error x
    | .ok (v, s1) => bsP r n (ks ++ [v]) s1
def blP (r : Rd) (s : PS) : Except (Int × Int) (Int × PS) := match openP ts en s with
  | .error x => .error x
  | .ok s1 => match wantP ts en ⟨#[123]⟩ s1 with
    | .error x => .error x
    | .ok s2 => match bsP ts r (ts.length + 1) [] s2 with
      | .error x => .error x
      | .ok (ks, s3) => .ok (addP 21 eT 0 ks (shutP s3))
/-- A whole expression that ends its statement. -/
def laP (r : Rd) (s : PS) : Except (Int × Int) (Int × PS) := match r.wh s with
  | .error x => .error x
  | .ok (e, s1) => match wantP ts en ⟨#[59]⟩ s1 with
    | .error x => .error x
    | .ok s2 => .ok (e, s2)
def actP (r : Rd) (s : PS) : Except (Int × Int) (Int × PS) := match whP ts en r s with
  | .error x => .error x
  | .ok (e, s1) => match s1.ns[e.toNat]? with
    | none => .error (0, 0)
    | some x =>
      if x.k = 9 ∧ isN ts ⟨#[59]⟩ s1 = true then .ok (addP 20 eT 0 [e] (adv s1))
      else if x.k = 5 ∧ isN ts ⟨#[61]⟩ s1 = true then match laP ts en r ⟨s1.i + 1, s1.d, s1.ns.take e.toNat⟩ with
        | .error x => .error x
        | .ok (v, s2) => .ok (addP 15 x.t 0 [v] s2)
      else if x.k = 8 ∧ isN ts ⟨#[61]⟩ s1 = true then match laP ts en r ⟨s1.i + 1, s1.d, s1.ns.take e.toNat⟩ with
        | .error x => .error x
        | .ok (v, s2) => .ok (addP 16 eT 0 (x.ks ++ [v]) s2)
      else .error (fh ts en 2 s1)
def stP (r : Rd) (s : PS) : Except (Int × Int) (Int × PS) :=
  if isN ts ⟨#[108, 111, 99, 97, 108]⟩ s then match nameP ts en (adv s) with
    | .error x => .error x
    | .ok (nm, s1) => match wantP ts en ⟨#[61]⟩ s1 with
      | .error x => .error x
      | .ok s2 => match laP ts en r s2 with
        | .error x => .error x
        | .ok (e, s3) => .ok (addP 14 nm 0 [e] s3)
  else if isN ts ⟨#[105, 102]⟩ s then match r.wh (adv s) with
    | .error x => .error x
    | .ok (e, s1) => match r.bl s1 with
      | .error x => .error x
      | .ok (b, s2) => if isN ts ⟨#[101, 108, 115, 101]⟩ s2 then match r.bl (adv s2) with
          | .error x => .error x
          | .ok (c, s3) => .ok (addP 17 eT 0 [e, b, c] s3)
        else .ok (addP 17 eT 0 [e, b] s2)
  else if isN ts ⟨#[119, 104, 105, 108, 101]⟩ s then match r.wh (adv s) with
    | .error x => .error x
    | .ok (e, s1) => match r.bl s1 with
      | .error x => .error x
      | .ok (b, s2) => .ok (addP 18 eT 0 [e, b] s2)
  else if isN ts ⟨#[114, 101, 116, 117, 114, 110]⟩ s then match laP ts en r (adv s) with
    | .error x => .error x
    | .ok (e, s1) => .ok (addP 19 eT 0 [e] s1)
  else actP ts en r s
def stepR (r : Rd) : Rd := ⟨whP ts en r, lvP ts en r, tnP ts en r, blP ts en r, stP ts en r⟩
def rds : Nat → Rd
  | 0 => ⟨fun _ => .error (0, 0), fun _ _ => .error (0, 0), fun _ => .error (0, 0), fun _ => .error (0, 0), fun _ => .error (0, 0)⟩
  | n + 1 => stepR ts en (rds n)
/-- All statements of the text. -/
def tpP (r : Rd) : Nat → List Int → PS → Except (Int × Int) (List Int × PS)
  | 0, _, s => .error (0, 0)
  | n + 1, ks, s => if s.i = ts.length then .ok (ks, s) else match r.st s with
    | .error x => .error x
    | .ok (v, s1) => tpP r n (ks ++ [v]) s1
/-- The whole text: a fault, or the top's number and the nodes. -/
def topP : Except (Int × Int) (Int × List KnL) := match tpP ts (rds ts en (ts.length + 1)) (ts.length + 1) [] ⟨0, 0, []⟩ with
  | .error x => .error x
  | .ok (ks, s) => .ok ((addP 21 eT 0 ks s).1, (addP 21 eT 0 ks s).2.ns)
end
end Go.Proofs.YtiglkhkfbgjjoaaDoor
