/- The program's reader: its steps from where a call began. -/
import Derived.Test.YtiglkhkfbgjjoaaDoorProg
import Derived.Test.YtiglkhkfbgjjoaaDoorBPaU
namespace Go.Proofs.YtiglkhkfbgjjoaaDoor
set_option maxRecDepth 20000
open Go.RowKit Go.PlainAid Go.Maps
set_option linter.unusedSimpArgs false
set_option linter.unusedVariables false

section
variable (rb : Nat) (ts : List TokD) (tv : Value) (en : Nat)
/-- From w the reader has come to w1: it stands at s1; K are the rows of Kids made since. -/
structure St (w : World) (v : Value) (kv : List Value) (w1 : World) (v1 : Value) (K : List Value) (s1 : PS) : Prop where
  lt : rb < w.heap.size
  ov : ∀ k, v.ownBlock = some k → rb < k
  rd : Rdr rb ts tv en w1 v1 (kv ++ K) s1
  rg : Rg rb w v w1 v1 K
/-- What a reader answers. -/
def RdE (w : World) (v : Value) (kv : List Value) (r : Except (Int × Int) (Int × PS)) (e : Ending) (w' : World) : Prop :=
  (∀ n s', r = .ok (n, s') → e = .returned (.int .i64 n) ∧ ∃ v' K, St rb ts tv en w v kv w' v' K s') ∧ (∀ x, r = .error x → e = pan x.1 x.2 ∧ Below rb w w')
/-- The readers of the program answer as r does, while there is fuel. -/
structure RP (r : Rd) (n : Nat) : Prop where
  wh : ∀ (w : World) (v : Value) (kv : List Value) (s : PS), Rdr rb ts tv en w v kv s → s.ns.length ≤ 8 * s.i → ts.length < s.i + n → Calls Tryd.prog 145 #[.pointer (some ⟨rb, 0, none⟩)] w (RdE rb ts tv en w v kv (r.wh s))
  lv : ∀ (l : Nat), 1 ≤ l → l ≤ 7 → ∀ (w : World) (v : Value) (kv : List Value) (s : PS), Rdr rb ts tv en w v kv s → s.ns.length ≤ 8 * s.i → ts.length < s.i + n → Calls Tryd.prog 173 #[.pointer (some ⟨rb, 0, none⟩), .int .i64 (l : Int)] w (RdE rb ts tv en w v kv (r.lv l s))
  tn : ∀ (w : World) (v : Value) (kv : List Value) (s : PS), Rdr rb ts tv en w v kv s → s.ns.length ≤ 8 * s.i → ts.length < s.i + n → Calls Tryd.prog 181 #[.pointer (some ⟨rb, 0, none⟩)] w (RdE rb ts tv en w v kv (r.tn s))
  bl : ∀ (w : World) (v : Value) (kv : List Value) (s : PS), Rdr rb ts tv en w v kv s → s.ns.length ≤ 8 * s.i → ts.length < s.i + n → Calls Tryd.prog 146 #[.pointer (some ⟨rb, 0, none⟩)] w (RdE rb ts tv en w v kv (r.bl s))
  st : ∀ (w : World) (v : Value) (kv : List Value) (s : PS), Rdr rb ts tv en w v kv s → s.ns.length ≤ 8 * s.i → ts.length < s.i + n → Calls Tryd.prog 93 #[.pointer (some ⟨rb, 0, none⟩)] w (RdE rb ts tv en w v kv (r.st s))
end
section
variable {rb : Nat} {ts : List TokD} {tv : Value} {en : Nat} {w w1 w2 : World} {v v1 v2 : Value} {kv K : List Value} {s s1 s2 : PS}
theorem St.begin (h : Rdr rb ts tv en w v kv s) : St rb ts tv en w v kv w v [] s := ⟨h.lt, fun k e => (World.ownsRow.lt h.nd.own k e).1, by rw [List.append_nil]; exact h, Rg.refl _ _ _⟩
theorem RdE.yes {r : Except (Int × Int) (Int × PS)} {n : Int} (h : St rb ts tv en w v kv w1 v1 K s1) (hE : r = .ok (n, s1)) : RdE rb ts tv en w v kv r (.returned (.int .i64 n)) w1 := by
  subst hE
  exact ⟨fun n' s' e => by injection e with e; injection e with e1 e2; subst e1 e2; exact ⟨rfl, _, _, h⟩, fun x e => by cases e⟩
theorem RdE.no {r : Except (Int × Int) (Int × PS)} {x : Int × Int} (h : Below rb w w1) (hE : r = .error x) : RdE rb ts tv en w v kv r (pan x.1 x.2) w1 := by
  subst hE
  exact ⟨fun n' s' e => (by cases e), fun x' e => by injection e with e; subst e; exact ⟨rfl, h⟩⟩
theorem St.low (h : St rb ts tv en w v kv w1 v1 K s1) : Below rb w w1 :=
  ⟨h.rg.os, h.rg.tape, h.rg.output, h.rg.size, fun k hk => h.rg.block k (Nat.lt_trans hk h.lt) (by omega) (fun e => by have := h.ov k e; omega)⟩
theorem St.u (h : St rb ts tv en w v kv w1 v1 K s1) (h1 : Rdr rb ts tv en w2 v1 (kv ++ K) s2) (h2 : Rg rb w1 v1 w2 v1 []) : St rb ts tv en w v kv w2 v1 K s2 :=
  ⟨h.lt, h.ov, h1, by simpa using h.rg.trans h2⟩
theorem St.below (h : St rb ts tv en w v kv w1 v1 K s1) (hb : Below w1.heap.size w1 w2) : St rb ts tv en w v kv w2 v1 K s1 := h.u (h.rd.below hb) (Rg.of_below hb)
theorem St.e (h : St rb ts tv en w v kv w1 v1 K s1) {k1 : List Value} (h1 : St rb ts tv en w1 v1 (kv ++ K) w2 v2 k1 s2) : St rb ts tv en w v kv w2 v2 (K ++ k1) s2 :=
  ⟨h.lt, h.ov, by rw [← List.append_assoc]; exact h1.rd, h.rg.trans h1.rg⟩
theorem St.pass_yes (h : St rb ts tv en w v kv w1 v1 K s1) (b : ByteArray) (hq : isN ts b s1 = true) :
    Calls Tryd.prog 140 #[.pointer (some ⟨rb, 0, none⟩), .string b] w1 fun e w2 => e = .returned (.bool true) ∧ St rb ts tv en w v kv w2 v1 K (adv s1) :=
  (Go.Proofs.YtiglkhkfbgjjoaaDoor.pass_yes rb ts tv en w1 v1 _ s1 h.rd b hq).mono fun e w2 ⟨h1, h2, h3⟩ => ⟨h1, h.u h2 h3⟩
theorem St.pass_no (h : St rb ts tv en w v kv w1 v1 K s1) (b : ByteArray) (hq : isN ts b s1 = false) :
    Calls Tryd.prog 140 #[.pointer (some ⟨rb, 0, none⟩), .string b] w1 fun e w2 => e = .returned (.bool false) ∧ St rb ts tv en w v kv w2 v1 K s1 :=
  (Go.Proofs.YtiglkhkfbgjjoaaDoor.pass_no rb ts tv en w1 v1 _ s1 h.rd b hq).mono fun e w2 ⟨h1, h2, h3⟩ => ⟨h1, h.u h2 h3⟩
theorem St.want_yes (h : St rb ts tv en w v kv w1 v1 K s1) (b : ByteArray) (hq : isN ts b s1 = true) :
    Calls Tryd.prog 142 #[.pointer (some ⟨rb, 0, none⟩), .string b] w1 fun e w2 => e = .returned (.tuple #[]) ∧ St rb ts tv en w v kv w2 v1 K (adv s1) :=
  (Go.Proofs.YtiglkhkfbgjjoaaDoor.want_yes rb ts tv en w1 v1 _ s1 h.rd b hq).mono fun e w2 ⟨h1, h2, h3⟩ => ⟨h1, h.u h2 h3⟩
theorem St.want_no (h : St rb ts tv en w v kv w1 v1 K s1) (b : ByteArray) (hq : isN ts b s1 = false) :
    Calls Tryd.prog 142 #[.pointer (some ⟨rb, 0, none⟩), .string b] w1 fun e w2 => e = pan (fh ts en 2 s1).1 (fh ts en 2 s1).2 ∧ Below rb w w2 :=
  (Go.Proofs.YtiglkhkfbgjjoaaDoor.want_no rb ts tv en w1 v1 _ s1 h.rd b hq).mono fun e w2 ⟨h1, h2⟩ => ⟨h1, h.low.trans h2⟩
theorem St.name_yes (h : St rb ts tv en w v kv w1 v1 K s1) (x : TokD) (hx : ts[s1.i]? = some x) (hk : x.k = 1) :
    Calls Tryd.prog 141 #[.pointer (some ⟨rb, 0, none⟩)] w1 fun e w2 => e = .returned (.string x.tx) ∧ St rb ts tv en w v kv w2 v1 K (adv s1) :=
  (wantName_yes rb ts tv en w1 v1 _ s1 h.rd x hx hk).mono fun e w2 ⟨h1, h2, h3⟩ => ⟨h1, h.u h2 h3⟩
theorem St.name_no (h : St rb ts tv en w v kv w1 v1 K s1) (hq : kdN ts 1 s1 = false) :
    Calls Tryd.prog 141 #[.pointer (some ⟨rb, 0, none⟩)] w1 fun e w2 => e = pan (fh ts en 2 s1).1 (fh ts en 2 s1).2 ∧ Below rb w w2 :=
  (wantName_no rb ts tv en w1 v1 _ s1 h.rd hq).mono fun e w2 ⟨h1, h2⟩ => ⟨h1, h.low.trans h2⟩
theorem St.take (h : St rb ts tv en w v kv w1 v1 K s1) (x : TokD) (hx : ts[s1.i]? = some x) :
    Calls Tryd.prog 171 #[.pointer (some ⟨rb, 0, none⟩)] w1 fun e w2 => e = .returned (.agg #[.int .i64 x.k, .int .i64 (x.at_ : Int), .string x.tx, .int .i64 x.n]) ∧ St rb ts tv en w v kv w2 v1 K (adv s1) :=
  (take_at rb ts tv en w1 v1 _ s1 h.rd x hx).mono fun e w2 ⟨h1, h2, h3⟩ => ⟨h1, h.u h2 h3⟩
theorem St.kind (h : St rb ts tv en w v kv w1 v1 K s1) (k : Int) (q : Bool) (hq : kdN ts k s1 = q) :
    Calls Tryd.prog 169 #[.pointer (some ⟨rb, 0, none⟩), .int .i64 k] w1 fun e w2 => e = .returned (.bool q) ∧ St rb ts tv en w v kv w2 v1 K s1 :=
  (isKindNext_at rb ts tv en w1 v1 _ s1 h.rd k q hq).mono fun e w2 ⟨h1, h2⟩ => ⟨h1, h.below h2⟩
theorem St.open_yes (h : St rb ts tv en w v kv w1 v1 K s1) (hd : ¬ s1.d = 30) :
    Calls Tryd.prog 172 #[.pointer (some ⟨rb, 0, none⟩)] w1 fun e w2 => e = .returned (.tuple #[]) ∧ St rb ts tv en w v kv w2 v1 K ⟨s1.i, s1.d + 1, s1.ns⟩ :=
  (Go.Proofs.YtiglkhkfbgjjoaaDoor.open_yes rb ts tv en w1 v1 _ s1 h.rd hd).mono fun e w2 ⟨h1, h2, h3⟩ => ⟨h1, h.u h2 h3⟩
theorem St.open_no (h : St rb ts tv en w v kv w1 v1 K s1) (hd : s1.d = 30) :
    Calls Tryd.prog 172 #[.pointer (some ⟨rb, 0, none⟩)] w1 fun e w2 => e = pan (fh ts en 3 s1).1 (fh ts en 3 s1).2 ∧ Below rb w w2 :=
  (Go.Proofs.YtiglkhkfbgjjoaaDoor.open_no rb ts tv en w1 v1 _ s1 h.rd hd).mono fun e w2 ⟨h1, h2⟩ => ⟨h1, h.low.trans h2⟩
theorem St.shut (h : St rb ts tv en w v kv w1 v1 K s1) (hd : 1 ≤ s1.d) :
    Calls Tryd.prog 174 #[.pointer (some ⟨rb, 0, none⟩)] w1 fun e w2 => e = .returned (.tuple #[]) ∧ St rb ts tv en w v kv w2 v1 K (shutP s1) :=
  (shut_at rb ts tv en w1 v1 _ s1 h.rd hd).mono fun e w2 ⟨h1, h2, h3⟩ => ⟨h1, h.u h2 h3⟩
theorem St.fault (h : St rb ts tv en w v kv w1 v1 K s1) (c : Int) :
    Calls Tryd.prog 170 #[.pointer (some ⟨rb, 0, none⟩), .int .i64 c] w1 fun e w2 => e = .returned (.agg #[.int .i64 (fh ts en c s1).1, .int .i64 (fh ts en c s1).2]) ∧ Below rb w w2 :=
  (faultHere_at rb ts tv en w1 v1 _ s1 h.rd c).mono fun e w2 ⟨h1, h2⟩ => ⟨h1, h.low.trans (h2.mono (Nat.le_of_lt h.rd.lt))⟩
/-- add with Kids that were just laid. -/
theorem St.add (h : St rb ts tv en w v kv w1 v1 K s1) (ks : List Int) (k : Int) (t : ByteArray) (i : Int) (hk : ks.length ≤ 10) (hn : s1.ns.length ≤ 100000) (A : Array Value) (n g : Nat) (hg : g = w1.heap.size) (hA : A = (icl ks).toArray) (hl : n = ks.length) :
    Calls Tryd.prog 94 #[.pointer (some ⟨rb, 0, none⟩), .int .i64 k, .string t, .int .i64 i, .slice (some ⟨g, 0, none⟩) n n] (w1.alloc (.cells A 3)) fun e w2 => e = .returned (.int .i64 (addP k t i ks s1).1) ∧ ∃ v2 K2, St rb ts tv en w v kv w2 v2 K2 (addP k t i ks s1).2 :=
  (add_new rb ts tv en w1 v1 _ s1 h.rd A n g ks hg hA hl (by omega) hn k t i).mono fun e w2 ⟨h1, v2, h2, h3⟩ => ⟨h1, v2, K ++ [.slice (some ⟨g, 0, none⟩) n n], h.lt, h.ov, by rw [← List.append_assoc]; exact h2, by
    have g1 : Rg rb w v w2 v2 K := by simpa using h.rg.trans h3
    refine g1.more (fun g' e => ?_)
    simp [Value.ownBlock] at e
    have := h.rg.size
    omega⟩
/-- add without Kids. -/
theorem St.add0 (h : St rb ts tv en w v kv w1 v1 K s1) (k : Int) (t : ByteArray) (i : Int) (hn : s1.ns.length ≤ 100000) :
    Calls Tryd.prog 94 #[.pointer (some ⟨rb, 0, none⟩), .int .i64 k, .string t, .int .i64 i, .slice none 0 0] w1 fun e w2 => e = .returned (.int .i64 (addP k t i [] s1).1) ∧ ∃ v2 K2, St rb ts tv en w v kv w2 v2 K2 (addP k t i [] s1).2 :=
  (addn_at rb ts tv en w1 v1 _ s1 k t i _ [] h.rd (Own.nil _ _ _ _) hn (by simp)).mono fun e w2 ⟨h1, v2, h2, h3⟩ => ⟨h1, v2, K ++ [.slice none 0 0], h.lt, h.ov, by rw [← List.append_assoc]; exact h2, by
    have g1 : Rg rb w v w2 v2 K := by simpa using h.rg.trans h3
    exact g1.more (fun g' e => by simp [Value.ownBlock] at e)⟩
/-- A reader that has read. -/
theorem St.yes (h : St rb ts tv en w v kv w1 v1 K s1) {f : Nat} {az : Array Value} {r : Except (Int × Int) (Int × PS)} {n : Int} (hc : Calls Tryd.prog f az w1 (RdE rb ts tv en w1 v1 (kv ++ K) r)) (hr : r = .ok (n, s2)) :
    Calls Tryd.prog f az w1 fun e w2 => e = .returned (.int .i64 n) ∧ ∃ v2 K2, St rb ts tv en w v kv w2 v2 K2 s2 :=
  hc.mono fun e w2 hh => by
    obtain ⟨h1, v2, k1, h2⟩ := hh.1 n s2 hr
    exact ⟨h1, v2, _, h.e h2⟩
/-- A reader that has refused. -/
theorem St.no (h : St rb ts tv en w v kv w1 v1 K s1) {f : Nat} {az : Array Value} {r : Except (Int × Int) (Int × PS)} {x : Int × Int} (hc : Calls Tryd.prog f az w1 (RdE rb ts tv en w1 v1 (kv ++ K) r)) (hr : r = .error x) :
    Calls Tryd.prog f az w1 fun e w2 => e = pan x.1 x.2 ∧ Below rb w w2 :=
  hc.mono fun e w2 hh => by
    obtain ⟨h1, h2⟩ := hh.2 x hr
    exact ⟨h1, h.low.trans h2⟩
theorem want_cases (ts : List TokD) (en : Nat) (b : ByteArray) (s : PS) : (isN ts b s = true ∧ wantP ts en b s = .ok (adv s)) ∨ (isN ts b s = false ∧ wantP ts en b s = .error (fh ts en 2 s)) := by
  unfold wantP
  cases h : isN ts b s <;> simp
theorem name_cases (ts : List TokD) (en : Nat) (s : PS) : (∃ x, ts[s.i]? = some x ∧ x.k = 1 ∧ nameP ts en s = .ok (x.tx, adv s)) ∨ (kdN ts 1 s = false ∧ nameP ts en s = .error (fh ts en 2 s)) := by
  unfold nameP kdN
  cases h : ts[s.i]? with
  | none => simp
  | some x =>
    by_cases hk : x.k = 1
    · left
      exact ⟨x, rfl, hk, by simp [hk]⟩
    · right
      simp [hk]
theorem open_cases (ts : List TokD) (en : Nat) (s : PS) : (¬ s.d = 30 ∧ openP ts en s = .ok ⟨s.i, s.d + 1, s.ns⟩) ∨ (s.d = 30 ∧ openP ts en s = .error (fh ts en 3 s)) := by
  unfold openP
  by_cases h : s.d = 30 <;> simp [h]
theorem Adv.phi {ts : List TokD} {k : Nat} {s s' : PS} (h : Adv ts k s s') (hp : s.ns.length ≤ 8 * s.i) : s'.ns.length + k ≤ 8 * s'.i := by
  have := h.2.2.2.2
  omega
end
end Go.Proofs.YtiglkhkfbgjjoaaDoor
