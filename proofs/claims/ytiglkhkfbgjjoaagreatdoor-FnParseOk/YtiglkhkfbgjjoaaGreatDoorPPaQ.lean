/- - -/
import Derived.Test.YtiglkhkfbgjjoaaGreatDoorPLxA
namespace Go.Proofs.YtiglkhkfbgjjoaaGreatDoor
set_option maxRecDepth 20000
open Go.RowKit Go.PlainAid
set_option linter.unusedSimpArgs false
set_option linter.unusedVariables false
structure KnL where
 k : Int
 t : ByteArray
 i : Int
 ks : List Int
structure PS where
 i : Nat
 d : Nat
 ns : List KnL
def eT : ByteArray := ⟨#[]⟩
section
variable (ts : List za) (en : Nat)
def fh (c : Int) (s : PS) : Int × Int := match ts[s.i]? with
 | none => (2, (en : Int))
 | some x => (c, (x.at_ : Int))
def isT (x : za) (b : ByteArray) : Bool := (x.k == 2 || x.k == 5) && (x.tx.toList == b.toList)
def isN (b : ByteArray) (s : PS) : Bool := match ts[s.i]? with
 | none => false
 | some x => isT x b
def kdN (k : Int) (s : PS) : Bool := match ts[s.i]? with
 | none => false
 | some x => x.k == k
def adv (s : PS) : PS := ⟨s.i + 1, s.d, s.ns⟩
def zap (s : PS) : PS := ⟨s.i, s.d - 1, s.ns⟩
def zaw (b : ByteArray) (s : PS) : Except (Int × Int) PS := if isN ts b s then .ok (adv s) else .error (fh ts en 2 s)
def zbf (s : PS) : Except (Int × Int) (ByteArray × PS) := match ts[s.i]? with
 | none => .error (fh ts en 2 s)
 | some x => if x.k = 1 then .ok (x.tx, adv s) else .error (fh ts en 2 s)
def zco (s : PS) : Except (Int × Int) PS := if s.d = 30 then .error (fh ts en 3 s) else .ok ⟨s.i, s.d + 1, s.ns⟩
def zb (k : Int) (t : ByteArray) (i : Int) (ks : List Int) (s : PS) : Int × PS := ((s.ns.length : Int), ⟨s.i, s.d, s.ns ++ [⟨k, t, i, ks⟩]⟩)
structure Rd where
 wh : PS -> Except (Int × Int) (Int × PS)
 lv : Nat -> PS -> Except (Int × Int) (Int × PS)
 tn : PS -> Except (Int × Int) (Int × PS)
 bl : PS -> Except (Int × Int) (Int × PS)
 st : PS -> Except (Int × Int) (Int × PS)
def lsL (rd : PS -> Except (Int × Int) (Int × PS)) (e : ByteArray) : Nat -> List Int -> PS -> Except (Int × Int) (List Int × PS)
 | 0, _, s => .error (0, 0)
 | n + 1, ks, s => match rd s with
   | .error x => .error x
   | .ok (v, s1) => if isN ts e s1 then .ok (ks ++ [v], adv s1) else match zaw ts en ⟨#[44]⟩ s1 with
     | .error x => .error x
     | .ok s2 => lsL rd e n (ks ++ [v]) s2
def lsP (rd : PS -> Except (Int × Int) (Int × PS)) (e : ByteArray) (n : Nat) (s : PS) : Except (Int × Int) (List Int × PS) := if isN ts e s then .ok ([], adv s) else lsL ts en rd e n [] s
def paP (s : PS) : Except (Int × Int) (Int × PS) := match zbf ts en s with
 | .error x => .error x
 | .ok (nm, s1) => .ok (zb 22 nm 0 [] s1)
def zv (r : Rd) (k : Int) (s : PS) : Except (Int × Int) (Int × PS) := match zaw ts en ⟨#[61]⟩ s with
 | .error x => .error x
 | .ok s1 => match r.wh s1 with
   | .error x => .error x
   | .ok (e, s2) => .ok (zb 24 eT 0 [k, e] s2)
def fdP (r : Rd) (s : PS) : Except (Int × Int) (Int × PS) :=
 if isN ts ⟨#[91]⟩ s then match r.wh (adv s) with
  | .error x => .error x
  | .ok (k, s1) => match zaw ts en ⟨#[93]⟩ s1 with
    | .error x => .error x
    | .ok s2 => zv ts en r k s2
 else if kdN ts 1 s && isN ts ⟨#[61]⟩ (adv s) then match zbf ts en s with
  | .error x => .error x
  | .ok (nm, s1) => zv ts en r (zb 4 nm 0 [] s1).1 (zb 4 nm 0 [] s1).2
 else match r.wh s with
  | .error x => .error x
  | .ok (e, s1) => .ok (zb 23 eT 0 [e] s1)
def bhP (r : Rd) : Nat -> Int -> PS -> Except (Int × Int) (Int × PS)
 | 0, _, s => .error (0, 0)
 | n + 1, a, s =>
   if isN ts ⟨#[40]⟩ s then match lsP ts en r.wh ⟨#[41]⟩ (ts.length + 1) (adv s) with
    | .error x => .error x
    | .ok (ks, s1) => bhP r n (zb 9 eT 0 (a :: ks) s1).1 (zb 9 eT 0 (a :: ks) s1).2
   else if isN ts ⟨#[91]⟩ s then match r.wh (adv s) with
    | .error x => .error x
    | .ok (k, s1) => match zaw ts en ⟨#[93]⟩ s1 with
      | .error x => .error x
      | .ok s2 => bhP r n (zb 8 eT 0 [a, k] s2).1 (zb 8 eT 0 [a, k] s2).2
   else if isN ts ⟨#[46]⟩ s then match zbf ts en (adv s) with
    | .error x => .error x
    | .ok (nm, s1) => bhP r n (zb 8 eT 0 [a, (zb 4 nm 0 [] s1).1] (zb 4 nm 0 [] s1).2).1 (zb 8 eT 0 [a, (zb 4 nm 0 [] s1).1] (zb 4 nm 0 [] s1).2).2
   else .ok (a, s)
def zu (r : Rd) (s : PS) : Except (Int × Int) (Int × PS) := match ts[s.i]? with
 | none => .error (fh ts en 2 s)
 | some x =>
   if x.k = 3 then .ok (zb 3 eT x.n [] (adv s))
   else if x.k = 4 then .ok (zb 4 x.tx 0 [] (adv s))
   else if x.k = 1 then .ok (zb 5 x.tx 0 [] (adv s))
   else if isT x ⟨#[110, 105, 108]⟩ then .ok (zb 1 eT 0 [] (adv s))
   else if isT x ⟨#[102, 97, 108, 115, 101]⟩ then .ok (zb 2 eT 0 [] (adv s))
   else if isT x ⟨#[116, 114, 117, 101]⟩ then .ok (zb 2 eT 1 [] (adv s))
   else if isT x ⟨#[102, 110]⟩ then match zaw ts en ⟨#[40]⟩ (adv s) with
    | .error x => .error x
    | .ok s1 => match lsP ts en (paP ts en) ⟨#[41]⟩ (ts.length + 1) s1 with
      | .error x => .error x
      | .ok (ks, s2) => match r.bl s2 with
        | .error x => .error x
        | .ok (b, s3) => .ok (zb 6 eT 0 (ks ++ [b]) s3)
   else if isT x ⟨#[123]⟩ then match lsP ts en (fdP ts en r) ⟨#[125]⟩ (ts.length + 1) (adv s) with
    | .error x => .error x
    | .ok (ks, s1) => .ok (zb 7 eT 0 ks s1)
   else if isT x ⟨#[40]⟩ then match r.wh (adv s) with
    | .error x => .error x
    | .ok (v, s1) => match zaw ts en ⟨#[41]⟩ s1 with
      | .error x => .error x
      | .ok s2 => .ok (v, s2)
   else .error (fh ts en 2 s)
def zy (s : PS) : Int := if isN ts ⟨#[45]⟩ s then 1 else if isN ts ⟨#[110, 111, 116]⟩ s then 2 else if isN ts ⟨#[35]⟩ s then 3 else 0
def tnP (r : Rd) (s : PS) : Except (Int × Int) (Int × PS) :=
 if zy ts s = 0 then match zu ts en r s with
  | .error x => .error x
  | .ok (a, s1) => bhP ts en r (ts.length + 1) a s1
 else match zco ts en s with
  | .error x => .error x
  | .ok s1 => match r.tn (adv s1) with
    | .error x => .error x
    | .ok (e, s2) => .ok ((zb 11 eT (zy ts s) [e] s2).1, zap (zb 11 eT (zy ts s) [e] s2).2)
def opT (x : za) : Nat × Int × Int := if isT x ⟨#[111, 114]⟩ then (1, 13, 0) else if isT x ⟨#[97, 110, 100]⟩ then (2, 12, 0) else if isT x ⟨#[61, 61]⟩ then (3, 10, 7) else if isT x ⟨#[126, 61]⟩ then (3, 10, 8) else if isT x ⟨#[60]⟩ then (3, 10, 9) else if isT x ⟨#[60, 61]⟩ then (3, 10, 10) else if isT x ⟨#[46, 46]⟩ then (4, 10, 6) else if isT x ⟨#[43]⟩ then (5, 10, 1) else if isT x ⟨#[45]⟩ then (5, 10, 2) else if isT x ⟨#[42]⟩ then (6, 10, 3) else if isT x ⟨#[47]⟩ then (6, 10, 4) else if isT x ⟨#[37]⟩ then (6, 10, 5) else (0, 0, 0)
def zi (s : PS) : Nat × Int × Int := match ts[s.i]? with
 | none => (0, 0, 0)
 | some x => opT x
def mlp (r : Rd) (level : Nat) : Nat -> Int -> PS -> Except (Int × Int) (Int × PS)
 | 0, _, s => .error (0, 0)
 | n + 1, a, s =>
   if (zi ts s).1 = level then match r.lv (level + 1) (adv s) with
    | .error x => .error x
    | .ok (b, s1) => if level = 3 then .ok (zb (zi ts s).2.1 eT (zi ts s).2.2 [a, b] s1) else mlp r level n (zb (zi ts s).2.1 eT (zi ts s).2.2 [a, b] s1).1 (zb (zi ts s).2.1 eT (zi ts s).2.2 [a, b] s1).2
   else .ok (a, s)
def zaj (r : Rd) (lv : Nat) : Nat -> Int -> PS -> Except (Int × Int) (Int × PS)
 | 0, a, s => .ok (a, s)
 | h + 1, a, s => if h + 1 < lv then .ok (a, s) else match mlp ts r (h + 1) (ts.length + 1) a s with
   | .error x => .error x
   | .ok (b, s1) => zaj r lv h b s1
def lvP (r : Rd) (lv : Nat) (s : PS) : Except (Int × Int) (Int × PS) := match tnP ts en r s with
 | .error x => .error x
 | .ok (a, s1) => zaj ts r lv 6 a s1
def whP (r : Rd) (s : PS) : Except (Int × Int) (Int × PS) := match zco ts en s with
 | .error x => .error x
 | .ok s1 => match lvP ts en r 1 s1 with
   | .error x => .error x
   | .ok (v, s2) => .ok (v, zap s2)
def bsP (r : Rd) : Nat -> List Int -> PS -> Except (Int × Int) (List Int × PS)
 | 0, _, s => .error (0, 0)
 | n + 1, ks, s => if isN ts ⟨#[125]⟩ s then .ok (ks, adv s) else match r.st s with
   | .error x => .error x
   | .ok (v, s1) => bsP r n (ks ++ [v]) s1
def blP (r : Rd) (s : PS) : Except (Int × Int) (Int × PS) := match zco ts en s with
 | .error x => .error x
 | .ok s1 => match zaw ts en ⟨#[123]⟩ s1 with
   | .error x => .error x
   | .ok s2 => match bsP ts r (ts.length + 1) [] s2 with
     | .error x => .error x
     | .ok (ks, s3) => .ok (zb 21 eT 0 ks (zap s3))
def laP (r : Rd) (s : PS) : Except (Int × Int) (Int × PS) := match r.wh s with
 | .error x => .error x
 | .ok (e, s1) => match zaw ts en ⟨#[59]⟩ s1 with
   | .error x => .error x
   | .ok s2 => .ok (e, s2)
def za9 (r : Rd) (s : PS) : Except (Int × Int) (Int × PS) := match whP ts en r s with
 | .error x => .error x
 | .ok (e, s1) => match s1.ns[e.toNat]? with
   | none => .error (0, 0)
   | some x =>
     if x.k = 9 /\ isN ts ⟨#[59]⟩ s1 = true then .ok (zb 20 eT 0 [e] (adv s1))
     else if x.k = 5 /\ isN ts ⟨#[61]⟩ s1 = true then match laP ts en r ⟨s1.i + 1, s1.d, s1.ns.take e.toNat⟩ with
      | .error x => .error x
      | .ok (v, s2) => .ok (zb 15 x.t 0 [v] s2)
     else if x.k = 8 /\ isN ts ⟨#[61]⟩ s1 = true then match laP ts en r ⟨s1.i + 1, s1.d, s1.ns.take e.toNat⟩ with
      | .error x => .error x
      | .ok (v, s2) => .ok (zb 16 eT 0 (x.ks ++ [v]) s2)
     else .error (fh ts en 2 s1)
def stP (r : Rd) (s : PS) : Except (Int × Int) (Int × PS) :=
 if isN ts ⟨#[108, 111, 99, 97, 108]⟩ s then match zbf ts en (adv s) with
  | .error x => .error x
  | .ok (nm, s1) => match zaw ts en ⟨#[61]⟩ s1 with
    | .error x => .error x
    | .ok s2 => match laP ts en r s2 with
      | .error x => .error x
      | .ok (e, s3) => .ok (zb 14 nm 0 [e] s3)
 else if isN ts ⟨#[105, 102]⟩ s then match r.wh (adv s) with
  | .error x => .error x
  | .ok (e, s1) => match r.bl s1 with
    | .error x => .error x
    | .ok (b, s2) => if isN ts ⟨#[101, 108, 115, 101]⟩ s2 then match r.bl (adv s2) with
       | .error x => .error x
       | .ok (c, s3) => .ok (zb 17 eT 0 [e, b, c] s3)
      else .ok (zb 17 eT 0 [e, b] s2)
 else if isN ts ⟨#[119, 104, 105, 108, 101]⟩ s then match r.wh (adv s) with
  | .error x => .error x
  | .ok (e, s1) => match r.bl s1 with
    | .error x => .error x
    | .ok (b, s2) => .ok (zb 18 eT 0 [e, b] s2)
 else if isN ts ⟨#[114, 101, 116, 117, 114, 110]⟩ s then match laP ts en r (adv s) with
  | .error x => .error x
  | .ok (e, s1) => .ok (zb 19 eT 0 [e] s1)
 else za9 ts en r s
def znf (r : Rd) : Rd := ⟨whP ts en r, lvP ts en r, tnP ts en r, blP ts en r, stP ts en r⟩
def rds : Nat -> Rd
 | 0 => ⟨fun _ => .error (0, 0), fun _ _ => .error (0, 0), fun _ => .error (0, 0), fun _ => .error (0, 0), fun _ => .error (0, 0)⟩
 | n + 1 => znf ts en (rds n)
def tpP (r : Rd) : Nat -> List Int -> PS -> Except (Int × Int) (List Int × PS)
 | 0, _, s => .error (0, 0)
 | n + 1, ks, s => if s.i = ts.length then .ok (ks, s) else match r.st s with
   | .error x => .error x
   | .ok (v, s1) => tpP r n (ks ++ [v]) s1
def zbj : Except (Int × Int) (Int × List KnL) := match tpP ts (rds ts en (ts.length + 1)) (ts.length + 1) [] ⟨0, 0, []⟩ with
 | .error x => .error x
 | .ok (ks, s) => .ok ((zb 21 eT 0 ks s).1, (zb 21 eT 0 ks s).2.ns)
end
section
variable (ts : List za) (en : Nat)
def Adv (k : Nat) (s s' : PS) : Prop := s.i < s'.i /\ s'.i <= ts.length /\ s'.d = s.d /\ (∃ l, s'.ns = s.ns ++ l) /\ s'.ns.length + k + 8 * s.i <= s.ns.length + 8 * s'.i
def OkR (s : PS) (v : Int) (s' : PS) : Prop := Adv ts 7 s s' /\ (∃ l x, s'.ns = s.ns ++ l ++ [x]) /\ v + 1 = s'.ns.length
def OkF (s : PS) (v : Int) (s' : PS) : Prop := Adv ts 6 s s' /\ (∃ l x, s'.ns = s.ns ++ l ++ [x]) /\ v + 1 = s'.ns.length
theorem zar {b : ByteArray} {s : PS} (h : isN ts b s = true) : s.i < ts.length := by
 unfold isN at h
 cases hx : ts[s.i]? with
 | none => rw [hx] at h; cases h
 | some x => exact (List.getElem?_eq_some_iff.1 hx).1
theorem zt3 {k : Int} {s : PS} (h : kdN ts k s = true) : s.i < ts.length := by
 unfold kdN at h
 cases hx : ts[s.i]? with
 | none => rw [hx] at h; cases h
 | some x => exact (List.getElem?_eq_some_iff.1 hx).1
theorem zax {b : ByteArray} {s s' : PS} (h : zaw ts en b s = .ok s') : s' = adv s /\ isN ts b s = true := by
 unfold zaw at h
 split at h
 · rename_i hb
   injection h with h
   exact ⟨h.symm, hb⟩
 · cases h
theorem zcq {b : ByteArray} {s s' : PS} (h : zaw ts en b s = .ok s') : Adv ts 8 s s' := by
 obtain ⟨rfl, hb⟩ := zax ts en h
 have := zar ts hb
 exact ⟨by simp [adv], by simp [adv]; omega, rfl, ⟨[], by simp [adv]⟩, by simp [adv]; omega⟩
theorem zao {b : ByteArray} {s : PS} (h : isN ts b s = true) : Adv ts 8 s (adv s) := by
 have := zar ts h
 exact ⟨by simp [adv], by simp [adv]; omega, rfl, ⟨[], by simp [adv]⟩, by simp [adv]; omega⟩
theorem zew {s : PS} (h : s.i < ts.length) : Adv ts 8 s (adv s) := ⟨by simp [adv], by simp [adv]; omega, rfl, ⟨[], by simp [adv]⟩, by simp [adv]; omega⟩
theorem zef {s s' : PS} {nm : ByteArray} (h : zbf ts en s = .ok (nm, s')) : s' = adv s /\ ∃ x, ts[s.i]? = some x /\ x.k = 1 /\ x.tx = nm := by
 unfold zbf at h
 split at h
 · cases h
 · rename_i x hx
   split at h
   · rename_i hk
     injection h with h
     simp only [Prod.mk.injEq] at h
     exact ⟨h.2.symm, x, hx, hk, h.1⟩
   · cases h
theorem zfk {s s' : PS} {nm : ByteArray} (h : zbf ts en s = .ok (nm, s')) : Adv ts 8 s s' := by
 obtain ⟨rfl, x, hx, _⟩ := zef ts en h
 exact zew ts (List.getElem?_eq_some_iff.1 hx).1
theorem Adv.trans {s s' s'' : PS} {k m : Nat} (h : Adv ts k s s') (h' : Adv ts m s' s'') : Adv ts (k + m) s s'' := by
 obtain ⟨a1, a2, a3, ⟨l, a4⟩, a5⟩ := h
 obtain ⟨b1, b2, b3, ⟨m, b4⟩, b5⟩ := h'
 exact ⟨by omega, b2, by omega, ⟨l ++ m, by rw [b4, a4, List.append_assoc]⟩, by omega⟩
theorem Adv.less {s s' : PS} {k m : Nat} (h : Adv ts k s s') (hm : m <= k := by omega) : Adv ts m s s' := by
 obtain ⟨a1, a2, a3, a4, a5⟩ := h
 exact ⟨a1, a2, a3, a4, by omega⟩
theorem Adv.addF {s s' : PS} {m : Nat} (h : Adv ts m s s') (k : Int) (t : ByteArray) (i : Int) (ks : List Int) (hm : 7 <= m := by omega) : OkF ts s (zb k t i ks s').1 (zb k t i ks s').2 := by
 obtain ⟨a1, a2, a3, ⟨l, a4⟩, a5⟩ := h
 refine ⟨⟨a1, a2, a3, ⟨l ++ [⟨k, t, i, ks⟩], by simp [zb, a4]⟩, by simp [zb]; omega⟩, ⟨l, _, by simp [zb, a4]; rfl⟩, by simp [zb]⟩
theorem Adv.add {s s' : PS} {m : Nat} (h : Adv ts m s s') (k : Int) (t : ByteArray) (i : Int) (ks : List Int) (hm : 8 <= m := by omega) : OkR ts s (zb k t i ks s').1 (zb k t i ks s').2 := by
 obtain ⟨a1, a2, a3, ⟨l, a4⟩, a5⟩ := h
 refine ⟨⟨a1, a2, a3, ⟨l ++ [⟨k, t, i, ks⟩], by simp [zb, a4]⟩, by simp [zb]; omega⟩, ⟨l, _, by simp [zb, a4]; rfl⟩, by simp [zb]⟩
theorem Adv.add2 {s s' : PS} {m : Nat} (h : Adv ts m s s') (k : Int) (t : ByteArray) (i : Int) (ks : List Int) (k' : Int) (t' : ByteArray) (i' : Int) (ks' : List Int) (hm : 9 <= m := by omega) : OkR ts s (zb k' t' i' ks' (zb k t i ks s').2).1 (zb k' t' i' ks' (zb k t i ks s').2).2 := by
 obtain ⟨a1, a2, a3, ⟨l, a4⟩, a5⟩ := h
 refine ⟨⟨a1, a2, a3, ⟨l ++ [⟨k, t, i, ks⟩, ⟨k', t', i', ks'⟩], by simp [zb, a4]⟩, by simp [zb]; omega⟩, ⟨l ++ [⟨k, t, i, ks⟩], ⟨k', t', i', ks'⟩, by simp [zb, a4]⟩, by simp [zb]; omega⟩
theorem OkR.field {s s' : PS} {v : Int} (h : OkR ts s v s') : OkF ts s v s' := ⟨h.1.less ts, h.2⟩
theorem OkR.pre {s s' s'' : PS} {v : Int} {k : Nat} (h : Adv ts k s s') (h' : OkR ts s' v s'') : OkR ts s v s'' := by
 obtain ⟨h1, ⟨l, x, h2⟩, h3⟩ := h'
 refine ⟨(h.trans ts h1).less ts, ?_, h3⟩
 obtain ⟨_, _, _, ⟨m, hm⟩, _⟩ := h
 exact ⟨m ++ l, x, by rw [h2, hm]; simp [List.append_assoc]⟩
theorem OkF.pre {s s' s'' : PS} {v : Int} {k : Nat} (h : Adv ts k s s') (h' : OkF ts s' v s'') : OkF ts s v s'' := by
 obtain ⟨h1, ⟨l, x, h2⟩, h3⟩ := h'
 refine ⟨(h.trans ts h1).less ts, ?_, h3⟩
 obtain ⟨_, _, _, ⟨m, hm⟩, _⟩ := h
 exact ⟨m ++ l, x, by rw [h2, hm]; simp [List.append_assoc]⟩
structure zk (r : Rd) : Prop where
 wh : ∀ {s v s'}, r.wh s = .ok (v, s') -> OkR ts s v s'
 lv : ∀ {n s v s'}, r.lv n s = .ok (v, s') -> OkR ts s v s'
 tn : ∀ {s v s'}, r.tn s = .ok (v, s') -> OkR ts s v s'
 bl : ∀ {s v s'}, r.bl s = .ok (v, s') -> OkR ts s v s'
 st : ∀ {s v s'}, r.st s = .ok (v, s') -> OkR ts s v s'
theorem zor {rd : PS -> Except (Int × Int) (Int × PS)} (hr : ∀ {s v s'}, rd s = .ok (v, s') -> OkF ts s v s') (e : ByteArray) : ∀ (n : Nat) {ks ks' : List Int} {s s' : PS}, lsL ts en rd e n ks s = .ok (ks', s') -> Adv ts 8 s s'
 | 0, ks, ks', s, s', h => by cases h
 | n + 1, ks, ks', s, s', h => by
   unfold lsL at h
   split at h
   · cases h
   · rename_i v s1 h1
     have a1 := (hr h1).1
     split at h
     · rename_i he
       injection h with h
       simp only [Prod.mk.injEq] at h
       rw [<- h.2]
       exact (a1.trans ts (zao ts he)).less ts
     · split at h
       · cases h
       · rename_i s2 h2
         exact ((a1.trans ts (zcq ts en h2)).trans ts (zor hr e n h)).less ts
theorem ze5 {rd : PS -> Except (Int × Int) (Int × PS)} (hr : ∀ {s v s'}, rd s = .ok (v, s') -> OkF ts s v s') {e : ByteArray} {n : Nat} {ks : List Int} {s s' : PS} (h : lsP ts en rd e n s = .ok (ks, s')) : Adv ts 8 s s' := by
 unfold lsP at h
 split at h
 · rename_i he
   injection h with h
   simp only [Prod.mk.injEq] at h
   rw [<- h.2]
   exact zao ts he
 · exact zor ts en hr e n h
theorem zcz {s s' : PS} {v : Int} (h : paP ts en s = .ok (v, s')) : OkR ts s v s' := by
 unfold paP at h
 split at h
 · cases h
 · rename_i nm s1 h1
   injection h with h
   rw [Prod.ext_iff] at h
   obtain ⟨rfl, rfl⟩ := h
   exact (zfk ts en h1).add ts _ _ _ _
theorem zkb {r : Rd} (hr : zk ts r) {k : Int} {s s' : PS} {v : Int} (h : zv ts en r k s = .ok (v, s')) : OkR ts s v s' := by
 unfold zv at h
 split at h
 · cases h
 · rename_i s1 h1
   split at h
   · cases h
   · rename_i e s2 h2
     injection h with h
     rw [Prod.ext_iff] at h
     obtain ⟨rfl, rfl⟩ := h
     exact ((zcq ts en h1).trans ts (hr.wh h2).1).add ts _ _ _ _
theorem zcr {r : Rd} (hr : zk ts r) {s s' : PS} {v : Int} (h : fdP ts en r s = .ok (v, s')) : OkF ts s v s' := by
 unfold fdP at h
 split at h
 · rename_i hb
   split at h
   · cases h
   · rename_i k s1 h1
     split at h
     · cases h
     · rename_i s2 h2
       exact (OkR.pre ts (((zao ts hb).trans ts (hr.wh h1).1).trans ts (zcq ts en h2)) (zkb ts en hr h)).field ts
 · split at h
   · split at h
     · cases h
     · rename_i nm s1 h1
       exact (OkR.pre ts ((zfk ts en h1).add ts 4 nm 0 []).1 (zkb ts en hr h)).field ts
   · split at h
     · cases h
     · rename_i e s1 h1
       injection h with h
       rw [Prod.ext_iff] at h
       obtain ⟨rfl, rfl⟩ := h
       exact (hr.wh h1).1.addF ts _ _ _ _
theorem zhb {r : Rd} (hr : zk ts r) {s0 : PS} : ∀ (n : Nat) {a : Int} {s s' : PS} {v : Int}, OkR ts s0 a s -> bhP ts en r n a s = .ok (v, s') -> OkR ts s0 v s'
 | 0, a, s, s', v, _, h => by cases h
 | n + 1, a, s, s', v, h0, h => by
   unfold bhP at h
   split at h
   · rename_i hb
     split at h
     · cases h
     · rename_i ks s1 h1
       exact zhb hr n (((h0.1.trans ts (zao ts hb)).trans ts (ze5 ts en (fun h => (hr.wh h).field ts) h1)).add ts _ _ _ _) h
   · split at h
     · rename_i hb
       split at h
       · cases h
       · rename_i k s1 h1
         split at h
         · cases h
         · rename_i s2 h2
           exact zhb hr n ((((h0.1.trans ts (zao ts hb)).trans ts (hr.wh h1).1).trans ts (zcq ts en h2)).add ts _ _ _ _) h
     · split at h
       · rename_i hb
         split at h
         · cases h
         · rename_i nm s1 h1
           exact zhb hr n ((((h0.1.trans ts (zao ts hb)).trans ts (zfk ts en h1)).add2 ts 4 nm 0 [] _ _ _ _)) h
       · injection h with h
         simp only [Prod.mk.injEq] at h
         obtain ⟨rfl, rfl⟩ := h
         exact h0
theorem zid {r : Rd} (hr : zk ts r) {s s' : PS} {v : Int} (h : zu ts en r s = .ok (v, s')) : OkR ts s v s' := by
 unfold zu at h
 split at h
 · cases h
 rename_i x hx
 have ha : Adv ts 8 s (adv s) := zew ts (List.getElem?_eq_some_iff.1 hx).1
 have fin : ∀ {k : Int} {t : ByteArray} {i : Int} {ks : List Int} {s1 : PS} {m : Nat}, 8 <= m -> Adv ts m s s1 -> (Except.ok (zb k t i ks s1) : Except (Int × Int) (Int × PS)) = .ok (v, s') -> OkR ts s v s' := fun hm hs h => by
  injection h with h
  rw [Prod.ext_iff] at h
  obtain ⟨rfl, rfl⟩ := h
  exact hs.add ts _ _ _ _ hm
 split at h
 · exact fin (by omega) ha h
 split at h
 · exact fin (by omega) ha h
 split at h
 · exact fin (by omega) ha h
 split at h
 · exact fin (by omega) ha h
 split at h
 · exact fin (by omega) ha h
 split at h
 · exact fin (by omega) ha h
 split at h
 · split at h
   · cases h
   rename_i s1 h1
   split at h
   · cases h
   rename_i ks s2 h2
   split at h
   · cases h
   rename_i b s3 h3
   exact fin (by omega) (((ha.trans ts (zcq ts en h1)).trans ts (ze5 ts en (fun h => (zcz ts en h).field ts) h2)).trans ts (hr.bl h3).1) h
 split at h
 · split at h
   · cases h
   rename_i ks s1 h1
   exact fin (by omega) (ha.trans ts (ze5 ts en (zcr ts en hr) h1)) h
 split at h
 · split at h
   · cases h
   rename_i w s1 h1
   split at h
   · cases h
   rename_i s2 h2
   injection h with h
   simp only [Prod.mk.injEq] at h
   obtain ⟨rfl, rfl⟩ := h
   obtain ⟨rfl, hb⟩ := zax ts en h2
   have hw := OkR.pre ts ha (hr.wh h1)
   exact ⟨(hw.1.trans ts (zao ts hb)).less ts, hw.2⟩
 · cases h
theorem zb5 {s s1 : PS} (h : zco ts en s = .ok s1) : s1 = ⟨s.i, s.d + 1, s.ns⟩ /\ s.d ≠ 30 := by
 unfold zco at h
 split at h
 · cases h
 · rename_i hd
   injection h with h
   exact ⟨h.symm, hd⟩
theorem OkR.shut {s s' : PS} {v : Int} (h : OkR ts ⟨s.i, s.d + 1, s.ns⟩ v s') : OkR ts s v (zap s') := by
 obtain ⟨⟨a1, a2, a3, a4⟩, h2, h3⟩ := h
 exact ⟨⟨a1, a2, by simp [zap, a3], a4⟩, h2, h3⟩
theorem zf2 {r : Rd} (hr : zk ts r) {s s' : PS} {v : Int} (h : tnP ts en r s = .ok (v, s')) : OkR ts s v s' := by
 unfold tnP at h
 split at h
 · split at h
   · cases h
   rename_i a s1 h1
   exact zhb ts en hr _ (zid ts en hr h1) h
 · rename_i h0
   split at h
   · cases h
   rename_i s1 h1
   obtain ⟨rfl, _⟩ := zb5 ts en h1
   split at h
   · cases h
   rename_i e s2 h2
   have hlt : s.i < ts.length := by
    unfold zy at h0
    by_cases g1 : isN ts ⟨#[45]⟩ s = true
    · exact zar ts g1
    · by_cases g2 : isN ts ⟨#[110, 111, 116]⟩ s = true
      · exact zar ts g2
      · by_cases g3 : isN ts ⟨#[35]⟩ s = true
        · exact zar ts g3
        · simp [g1, g2, g3] at h0
   injection h with h
   simp only [Prod.mk.injEq] at h
   obtain ⟨rfl, rfl⟩ := h
   have ha : Adv ts 8 ⟨s.i, s.d + 1, s.ns⟩ (adv ⟨s.i, s.d + 1, s.ns⟩) := zew ts hlt
   exact OkR.shut ts ((ha.trans ts (hr.tn h2).1).add ts _ _ _ _)
theorem zie {s : PS} (h : (zi ts s).1 ≠ 0) : s.i < ts.length := by
 unfold zi at h
 cases hx : ts[s.i]? with
 | none => rw [hx] at h; simp at h
 | some x => exact (List.getElem?_eq_some_iff.1 hx).1
theorem zos {r : Rd} (hr : zk ts r) {s0 : PS} {level : Nat} (hl : level ≠ 0) : ∀ (n : Nat) {a : Int} {s s' : PS} {v : Int}, OkR ts s0 a s -> mlp ts r level n a s = .ok (v, s') -> OkR ts s0 v s'
 | 0, a, s, s', v, _, h => by cases h
 | n + 1, a, s, s', v, h0, h => by
   unfold mlp at h
   split at h
   · rename_i hop
     have hlt : s.i < ts.length := zie ts (by omega)
     split at h
     · cases h
     rename_i b s1 h1
     have hk := ((h0.1.trans ts (zew ts hlt)).trans ts (hr.lv h1).1)
     split at h
     · injection h with h
       rw [Prod.ext_iff] at h
       obtain ⟨rfl, rfl⟩ := h
       exact hk.add ts _ _ _ _
     · exact zos hr hl n (hk.add ts _ _ _ _) h
   · injection h with h
     simp only [Prod.mk.injEq] at h
     obtain ⟨rfl, rfl⟩ := h
     exact h0
theorem zmg {r : Rd} (hr : zk ts r) {s0 : PS} (lv : Nat) : ∀ (m : Nat) {a : Int} {s s' : PS} {v : Int}, OkR ts s0 a s -> zaj ts r lv m a s = .ok (v, s') -> OkR ts s0 v s'
 | 0, a, s, s', v, h0, h => by
   injection h with h
   simp only [Prod.mk.injEq] at h
   obtain ⟨rfl, rfl⟩ := h
   exact h0
 | m + 1, a, s, s', v, h0, h => by
   unfold zaj at h
   split at h
   · injection h with h
     simp only [Prod.mk.injEq] at h
     obtain ⟨rfl, rfl⟩ := h
     exact h0
   · split at h
     · cases h
     rename_i b s1 h1
     exact zmg hr lv m (zos ts hr (by omega) _ h0 h1) h
theorem zf3 {r : Rd} (hr : zk ts r) {n : Nat} {s s' : PS} {v : Int} (h : lvP ts en r n s = .ok (v, s')) : OkR ts s v s' := by
 unfold lvP at h
 split at h
 · cases h
 rename_i a s1 h1
 exact zmg ts hr n 6 (zf2 ts en hr h1) h
theorem ze6 {r : Rd} (hr : zk ts r) {s s' : PS} {v : Int} (h : whP ts en r s = .ok (v, s')) : OkR ts s v s' := by
 unfold whP at h
 split at h
 · cases h
 rename_i s1 h1
 obtain ⟨rfl, _⟩ := zb5 ts en h1
 split at h
 · cases h
 rename_i w s2 h2
 injection h with h
 simp only [Prod.mk.injEq] at h
 obtain ⟨rfl, rfl⟩ := h
 exact OkR.shut ts (zf3 ts en hr h2)
theorem zot {r : Rd} (hr : zk ts r) : ∀ (n : Nat) {ks ks' : List Int} {s s' : PS}, bsP ts r n ks s = .ok (ks', s') -> Adv ts 8 s s'
 | 0, ks, ks', s, s', h => by cases h
 | n + 1, ks, ks', s, s', h => by
   unfold bsP at h
   split at h
   · rename_i hb
     injection h with h
     simp only [Prod.mk.injEq] at h
     rw [<- h.2]
     exact zao ts hb
   · split at h
     · cases h
     rename_i v s1 h1
     exact ((hr.st h1).1.trans ts (zot hr n h)).less ts
theorem zt4 {r : Rd} (hr : zk ts r) {s s' : PS} {v : Int} (h : blP ts en r s = .ok (v, s')) : OkR ts s v s' := by
 unfold blP at h
 split at h
 · cases h
 rename_i s1 h1
 obtain ⟨rfl, _⟩ := zb5 ts en h1
 split at h
 · cases h
 rename_i s2 h2
 split at h
 · cases h
 rename_i ks s3 h3
 injection h with h
 rw [Prod.ext_iff] at h
 obtain ⟨rfl, rfl⟩ := h
 have ha := (zcq ts en h2).trans ts (zot ts hr _ h3)
 exact OkR.shut ts (ha.add ts 21 eT 0 ks)
theorem zd1 {r : Rd} (hr : zk ts r) {s s' : PS} {v : Int} (h : laP ts en r s = .ok (v, s')) : OkR ts s v s' := by
 unfold laP at h
 split at h
 · cases h
 rename_i e s1 h1
 split at h
 · cases h
 rename_i s2 h2
 injection h with h
 simp only [Prod.mk.injEq] at h
 obtain ⟨rfl, rfl⟩ := h
 obtain ⟨rfl, hb⟩ := zax ts en h2
 exact ⟨((hr.wh h1).1.trans ts (zao ts hb)).less ts, (hr.wh h1).2⟩
theorem OkR.back {s s1 : PS} {e : Int} (h : OkR ts s e s1) {b : ByteArray} (hb : isN ts b s1 = true) : Adv ts 8 s ⟨s1.i + 1, s1.d, s1.ns.take e.toNat⟩ := by
 obtain ⟨⟨a1, a2, a3, _, a5⟩, ⟨l, x, h2⟩, h3⟩ := h
 have hlt := zar ts hb
 have hl : e.toNat = (s.ns ++ l).length := by
  rw [h2, List.length_append] at h3
  simp at h3
  simp
  omega
 have ht : s1.ns.take e.toNat = s.ns ++ l := by
  rw [h2, hl, List.take_left']
  rfl
 have hlen : s1.ns.length = (s.ns ++ l).length + 1 := by rw [h2, List.length_append]; rfl
 refine ⟨by simp; omega, by simp; omega, a3, ⟨l, ht⟩, ?_⟩
 show (s1.ns.take e.toNat).length + 8 + 8 * s.i <= s.ns.length + 8 * (s1.i + 1)
 rw [ht]
 omega
theorem zif {r : Rd} (hr : zk ts r) {s s' : PS} {v : Int} (h : za9 ts en r s = .ok (v, s')) : OkR ts s v s' := by
 unfold za9 at h
 split at h
 · cases h
 rename_i e s1 h1
 have hw := ze6 ts en hr h1
 split at h
 · cases h
 rename_i x hx
 split at h
 · rename_i hc
   injection h with h
   rw [Prod.ext_iff] at h
   obtain ⟨rfl, rfl⟩ := h
   exact (hw.1.trans ts (zao ts hc.2)).add ts _ _ _ _
 split at h
 · rename_i hc
   split at h
   · cases h
   rename_i w s2 h2
   injection h with h
   rw [Prod.ext_iff] at h
   obtain ⟨rfl, rfl⟩ := h
   exact ((hw.back ts hc.2).trans ts (zd1 ts en hr h2).1).add ts _ _ _ _
 split at h
 · rename_i hc
   split at h
   · cases h
   rename_i w s2 h2
   injection h with h
   rw [Prod.ext_iff] at h
   obtain ⟨rfl, rfl⟩ := h
   exact ((hw.back ts hc.2).trans ts (zd1 ts en hr h2).1).add ts _ _ _ _
 · cases h
theorem zou {r : Rd} (hr : zk ts r) {s s' : PS} {v : Int} (h : stP ts en r s = .ok (v, s')) : OkR ts s v s' := by
 have fin : ∀ {k : Int} {t : ByteArray} {i : Int} {ks : List Int} {s1 : PS} {m : Nat}, 8 <= m -> Adv ts m s s1 -> (Except.ok (zb k t i ks s1) : Except (Int × Int) (Int × PS)) = .ok (v, s') -> OkR ts s v s' := fun hm hs h => by
  injection h with h
  rw [Prod.ext_iff] at h
  obtain ⟨rfl, rfl⟩ := h
  exact hs.add ts _ _ _ _ hm
 unfold stP at h
 split at h
 · rename_i hb
   split at h
   · cases h
   rename_i nm s1 h1
   split at h
   · cases h
   rename_i s2 h2
   split at h
   · cases h
   rename_i e s3 h3
   exact fin (by omega) ((((zao ts hb).trans ts (zfk ts en h1)).trans ts (zcq ts en h2)).trans ts (zd1 ts en hr h3).1) h
 split at h
 · rename_i hb
   split at h
   · cases h
   rename_i e s1 h1
   split at h
   · cases h
   rename_i b s2 h2
   have ha := (((zao ts hb).trans ts (hr.wh h1).1).trans ts (hr.bl h2).1)
   split at h
   · rename_i hc
     split at h
     · cases h
     rename_i c s3 h3
     exact fin (by omega) ((ha.trans ts (zao ts hc)).trans ts (hr.bl h3).1) h
   · exact fin (by omega) ha h
 split at h
 · rename_i hb
   split at h
   · cases h
   rename_i e s1 h1
   split at h
   · cases h
   rename_i b s2 h2
   exact fin (by omega) (((zao ts hb).trans ts (hr.wh h1).1).trans ts (hr.bl h2).1) h
 split at h
 · rename_i hb
   split at h
   · cases h
   rename_i e s1 h1
   exact fin (by omega) ((zao ts hb).trans ts (zd1 ts en hr h1).1) h
 · exact zif ts en hr h
theorem zav : ∀ n, zk ts (rds ts en n)
 | 0 => ⟨(fun h => by cases h), (fun h => by cases h), (fun h => by cases h), (fun h => by cases h), (fun h => by cases h)⟩
 | n + 1 => ⟨fun h => ze6 ts en (zav n) h, fun h => zf3 ts en (zav n) h, fun h => zf2 ts en (zav n) h, fun h => zt4 ts en (zav n) h, fun h => zou ts en (zav n) h⟩
end
end Go.Proofs.YtiglkhkfbgjjoaaGreatDoor
