/- The model's reader: rows of Kids, where something fails. -/
import Derived.Test.YtiglkhkfbgjjoaaDoorPMpE
import Derived.Test.YtiglkhkfbgjjoaaDoorPMpG
import Derived.Test.YtiglkhkfbgjjoaaDoorPPaY
namespace Go.Proofs.YtiglkhkfbgjjoaaDoor
set_option maxRecDepth 20000
open Go.RowKit Go.PlainAid Go.Maps
set_option linter.unusedSimpArgs false
set_option linter.unusedVariables false

theorem Km.rf {rb : Nat} {w0 w1 w2 : World} {v1 : Value} {kv1 : List Value} {u : Value} {ks : List Int} (h : Km rb w0 w1 v1 kv1 u ks) (hr : Rf rb w1 v1 w2) : IR (rb + 1) w2 u ks := by
  have hl : ∀ g, u.ownBlock = some g → rb < g ∧ g < w1.heap.size := fun g e => by have := World.ownsRow.lt h.own.row g e; omega
  obtain ⟨h1, h2⟩ := h.own.row
  refine ⟨h1, ?_⟩
  rcases h2 with h2 | ⟨g, cap, cur, hv, hg, hc, r⟩
  · exact .inl h2
  · have e : u.ownBlock = some g := by rw [hv]; rfl
    have := hl g e
    exact .inr ⟨g, cap, cur, hv, hg, by rw [hr.block g this.2 (by omega) (h.own.ne g e)]; exact hc, r⟩
theorem Fl.grown {rb : Nat} {w w' : World} {c a : Int} {row : Option Nat} (h : Fl rb w c a) (hg : w.grownBy w' row) (hr : row ≠ some rb) : Fl rb w' c a := by
  have hb : w'.heap[rb]? = w.heap[rb]? := hg.block rb h.lt (fun e => hr e.symm)
  have e : ∀ i, w'.cell? ⟨rb, i, none⟩ = w.cell? ⟨rb, i, none⟩ := fun i => World.cell?_of_block (w := w) (a := ⟨rb, i, none⟩) hb
  obtain ⟨d, hd⟩ := h.c5
  exact ⟨Nat.lt_of_lt_of_le h.lt hg.size, by rw [e]; exact h.c3, by rw [e]; exact h.c4, ⟨d, by rw [e]; exact hd⟩, fun i => by rw [World.frozen?_of_block (w := w) (a := ⟨rb, i, none⟩) hb]; exact h.fz i, h.ne⟩
theorem Rf.grown {rb : Nat} {w w1 w2 : World} {v : Value} {row : Option Nat} (h : Rf rb w v w1) (hg : w1.grownBy w2 row) (hr : ∀ g, row = some g → w.heap.size ≤ g) : Rf rb w v w2 :=
  ⟨hg.os.trans h.os, hg.tape.trans h.tape, hg.output.trans h.output, Nat.le_trans h.size hg.size, fun k hk h1 h2 => (hg.block k (Nat.lt_of_lt_of_le hk h.size) (fun e => by have := hr k e.symm; omega)).trans (h.block k hk h1 h2)⟩
theorem Sm.both {rb : Nat} {ts : List TokD} {tv : Value} {en : Nat} {w w1 w2 : World} {v v1 v2 : Value} {kv K k1 : List Value} {s1 s2 : PS} {u : Value} {ks : List Int} (h : Sm rb ts tv en w v kv w1 v1 K s1) (hk : Km rb w w1 v1 (kv ++ K) u ks) (h2 : Sm rb ts tv en w1 v1 (kv ++ K) w2 v2 k1 s2) : Sm rb ts tv en w v kv w2 v2 (K ++ k1) s2 ∧ Km rb w w2 v2 (kv ++ (K ++ k1)) u ks :=
  ⟨h.e h2, by rw [← List.append_assoc]; exact hk.keep h2⟩
end Go.Proofs.YtiglkhkfbgjjoaaDoor

/- The model's reader and a row of Kids that no node has: where nothing, where something has failed. -/
namespace Go.Proofs.YtiglkhkfbgjjoaaDoor
set_option maxRecDepth 20000
open Go.RowKit Go.PlainAid Go.Maps
set_option linter.unusedSimpArgs false
set_option linter.unusedVariables false

/-- The reader stands at s1; u is a row of Kids that no node has. -/
structure SK (rb : Nat) (ts : List TokD) (tv : Value) (en : Nat) (w : World) (v : Value) (kv : List Value) (w1 : World) (v1 : Value) (K : List Value) (s1 : PS) (u : Value) (ks : List Int) : Prop where
  sm : Sm rb ts tv en w v kv w1 v1 K s1
  km : Km rb w w1 v1 (kv ++ K) u ks
/-- Something has failed; u is a row of Kids that no node has. -/
structure FK (rb : Nat) (w : World) (v : Value) (w1 : World) (u : Value) (ks : List Int) (x : Int × Int) : Prop where
  fl : Fl rb w1 x.1 x.2
  rf : Rf rb w v w1
  ir : IR (rb + 1) w1 u ks
  new : ∀ g, u.ownBlock = some g → w.heap.size ≤ g
section
variable {rb : Nat} {ts : List TokD} {tv : Value} {en : Nat} {w w1 w2 : World} {v v1 v2 : Value} {kv K : List Value} {s s1 s2 : PS} {u : Value} {ks : List Int} {x : Int × Int}
theorem SK.ext (h : SK rb ts tv en w v kv w1 v1 K s1 u ks) {k1 : List Value} (h2 : Sm rb ts tv en w1 v1 (kv ++ K) w2 v2 k1 s2) : SK rb ts tv en w v kv w2 v2 (K ++ k1) s2 u ks := ⟨(h.sm.both h.km h2).1, (h.sm.both h.km h2).2⟩
theorem SK.fk (h : SK rb ts tv en w v kv w1 v1 K s1 u ks) (hF : Fl rb w2 x.1 x.2) (hR : Rf rb w1 v1 w2) : FK rb w v w2 u ks x := ⟨hF, Rf.of_rg h.sm.rg hR, h.km.rf hR, h.km.new⟩
theorem FK.below (h : FK rb w v w1 u ks x) (b : Below w1.heap.size w1 w2) : FK rb w v w2 u ks x := ⟨h.fl.below b, h.rf.next b, h.ir.below b, h.new⟩
theorem SK.is (h : SK rb ts tv en w v kv w1 v1 K s1 u ks) (b : ByteArray) (q : Bool) (hq : isN ts b s1 = q) :
    Calls Tryd.prog 96 #[.pointer (some ⟨rb, 0, none⟩), .string b] w1 fun e w2 => e = .returned (.bool q) ∧ ∃ K2, SK rb ts tv en w v kv w2 v1 K2 s1 u ks :=
  ((Sm.begin h.sm.rd).is b q hq).mono fun e w2 ⟨h1, h2⟩ => ⟨h1, _, h.ext h2⟩
theorem SK.want_yes (h : SK rb ts tv en w v kv w1 v1 K s1 u ks) (b : ByteArray) (hq : isN ts b s1 = true) :
    Calls Tryd.prog 98 #[.pointer (some ⟨rb, 0, none⟩), .string b] w1 fun e w2 => e = .returned (.tuple #[]) ∧ ∃ K2, SK rb ts tv en w v kv w2 v1 K2 (adv s1) u ks :=
  ((Sm.begin h.sm.rd).want_yes b hq).mono fun e w2 ⟨h1, h2⟩ => ⟨h1, _, h.ext h2⟩
theorem SK.want_no (h : SK rb ts tv en w v kv w1 v1 K s1 u ks) (b : ByteArray) (hq : isN ts b s1 = false) :
    Calls Tryd.prog 98 #[.pointer (some ⟨rb, 0, none⟩), .string b] w1 fun e w2 => e = .returned (.tuple #[]) ∧ FK rb w v w2 u ks (fh ts en 2 s1) :=
  ((Sm.begin h.sm.rd).want_no b hq).mono fun e w2 ⟨h1, h2, h3⟩ => ⟨h1, h.fk h2 h3⟩
theorem SK.name_yes (h : SK rb ts tv en w v kv w1 v1 K s1 u ks) (x : TokD) (hx : ts[s1.i]? = some x) (hk : x.k = 1) :
    Calls Tryd.prog 97 #[.pointer (some ⟨rb, 0, none⟩)] w1 fun e w2 => e = .returned (.string x.tx) ∧ ∃ K2, SK rb ts tv en w v kv w2 v1 K2 (adv s1) u ks :=
  ((Sm.begin h.sm.rd).name_yes x hx hk).mono fun e w2 ⟨h1, h2⟩ => ⟨h1, _, h.ext h2⟩
theorem SK.name_no (h : SK rb ts tv en w v kv w1 v1 K s1 u ks) (hq : kdN ts 1 s1 = false) :
    Calls Tryd.prog 97 #[.pointer (some ⟨rb, 0, none⟩)] w1 fun e w2 => e = .returned (.string ⟨#[]⟩) ∧ FK rb w v w2 u ks (fh ts en 2 s1) :=
  ((Sm.begin h.sm.rd).name_no hq).mono fun e w2 ⟨h1, h2, h3⟩ => ⟨h1, h.fk h2 h3⟩
theorem SK.node0 (h : SK rb ts tv en w v kv w1 v1 K s1 u ks) (k : Int) (t : ByteArray) (i : Int) (hn : s1.ns.length ≤ 100000) (hk8 : k ≠ 8 := by decide) :
    Calls Tryd.prog 47 #[.pointer (some ⟨rb, 0, none⟩), .agg #[.int .i64 k, .string t, .int .i64 i, .slice none 0 0]] w1 fun e w2 => e = .returned (.int .i64 (addP k t i [] s1).1) ∧ ∃ v2 K2, SK rb ts tv en w v kv w2 v2 K2 (addP k t i [] s1).2 u ks :=
  ((Sm.begin h.sm.rd).node0 k t i hn hk8).mono fun e w2 ⟨h1, v2, K2, h2⟩ => ⟨h1, v2, _, h.ext h2⟩
theorem SK.node0' (h : SK rb ts tv en w v kv w1 v1 K s1 u ks) (k : Int) (t : ByteArray) (i : Int) (hn : s1.ns.length ≤ 100000) {a6 : Int} {s6 : PS} (hy : (a6, s6) = addP k t i [] s1) (hk8 : k ≠ 8 := by decide) :
    Calls Tryd.prog 47 #[.pointer (some ⟨rb, 0, none⟩), .agg #[.int .i64 k, .string t, .int .i64 i, .slice none 0 0]] w1 fun e w2 => e = .returned (.int .i64 a6) ∧ ∃ v2 K2, SK rb ts tv en w v kv w2 v2 K2 s6 u ks := by
  have := h.node0 k t i hn hk8
  rw [← hy] at this
  exact this
theorem SK.yes (h : SK rb ts tv en w v kv w1 v1 K s1 u ks) {f : Nat} {args : Array Value} {r : Except (Int × Int) (Int × PS)} (hc : Calls Tryd.prog f args w1 (RmE rb ts tv en w1 v1 (kv ++ K) r)) {n : Int} (hE : r = .ok (n, s2)) :
    Calls Tryd.prog f args w1 fun e w2 => e = .returned (.int .i64 n) ∧ ∃ v2 K2, SK rb ts tv en w v kv w2 v2 K2 s2 u ks :=
  hc.mono fun e w2 h2 => by
    obtain ⟨he, v2, K2, h3⟩ := h2.1 n s2 hE
    exact ⟨he, v2, _, h.ext h3⟩
theorem SK.no (h : SK rb ts tv en w v kv w1 v1 K s1 u ks) {f : Nat} {args : Array Value} {r : Except (Int × Int) (Int × PS)} (hc : Calls Tryd.prog f args w1 (RmE rb ts tv en w1 v1 (kv ++ K) r)) {x : Int × Int} (hE : r = .error x) :
    Calls Tryd.prog f args w1 fun e w2 => (∃ n, e = .returned (.int .i64 n)) ∧ FK rb w v w2 u ks x :=
  hc.mono fun e w2 h2 => by
    obtain ⟨he, h3, h4⟩ := h2.2 x hE
    exact ⟨he, h.fk h3 h4⟩
/-- The row becomes a node's. -/
theorem SK.node (h : SK rb ts tv en w v kv w1 v1 K s1 u ks) (k : Int) (t : ByteArray) (i : Int) (hn : s1.ns.length ≤ 100000) (hks : k = 8 → ks.length = 2 := by simp) :
    Calls Tryd.prog 47 #[.pointer (some ⟨rb, 0, none⟩), .agg #[.int .i64 k, .string t, .int .i64 i, u]] w1 fun e w2 => e = .returned (.int .i64 (addP k t i ks s1).1) ∧ ∃ v2 K2, Sm rb ts tv en w v kv w2 v2 K2 (addP k t i ks s1).2 := h.sm.node h.km k t i hn hks
theorem SK.laid (h : Sm rb ts tv en w v kv w1 v1 K s1) (ks : List Int) (hk : ks.length ≤ 1048576) : SK rb ts tv en w v kv (w1.alloc (.cells (icl ks).toArray 3)) v1 K s1 (.slice (some ⟨w1.heap.size, 0, none⟩) ks.length ks.length) ks := ⟨h.below ((Below.refl _ _).alloc (Nat.le_refl _) _), Km.laid h ks hk⟩
theorem SK.laid' (h : Sm rb ts tv en w v kv w1 v1 K s1) (ks : List Int) (hk : ks.length ≤ 1048576) (g n : Nat) (hg : g = w1.heap.size) (hn : n = ks.length) : SK rb ts tv en w v kv (w1.alloc (.cells (icl ks).toArray 3)) v1 K s1 (.slice (some ⟨g, 0, none⟩) n n) ks := by
  subst hg hn
  exact SK.laid h ks hk
theorem SK.adv (h : SK rb ts tv en w v kv w1 v1 K s1 u ks) (hi : s1.i < ts.length) : ∃ K2, SK rb ts tv en w v kv (w1.setCell ⟨rb, 1, none⟩ (.int .i64 ((s1.i : Int) + 1))) v1 K2 (Go.Proofs.YtiglkhkfbgjjoaaDoor.adv s1) u ks := ⟨_, h.ext ((Sm.begin h.sm.rd).adv hi)⟩
theorem SK.form (h : SK rb ts tv en w v kv w1 v1 K s1 u ks) : ∃ a c, u = .slice a ks.length c := h.km.own.row.form
theorem SK.formL (h : SK rb ts tv en w v kv w1 v1 K s1 u ks) : ∃ a L c, u = .slice a L c ∧ L = ks.length := by
  obtain ⟨a, c, e⟩ := h.form
  exact ⟨a, _, c, e, rfl⟩
theorem FK.form (h : FK rb w v w1 u ks x) : ∃ a L c, u = .slice a L c ∧ L = ks.length := by
  obtain ⟨a, c, e⟩ := h.ir.form
  exact ⟨a, _, c, e, rfl⟩
/-- 'kids = append(kids, n)'. -/
theorem app_sk {ops : Array Oper} {rest : List Oper} {o : Oper} {a : Act} {Q : Exit → Act → World → Prop} (hgd : o.guard = none) (sx y : Operand) (ho : o.op = .call { callee := .builtin .append, args := #[sx, y], argTypes := #[69, 69] })
    (h : SK rb ts tv en w v kv w1 v1 K s1 u ks) (n : Int) (g : Nat) (hg : g = w1.heap.size) (hs : a.eval sx = u) (hx : a.eval y = .slice (some ⟨g, 0, none⟩) 1 1) (hk : ks.length ≤ 100000)
    (hc : ∀ ua uc w2, SK rb ts tv en w v kv w2 v1 K s1 (.slice ua (ks.length + 1) uc) (ks ++ [n]) → wpList Tryd.prog ops Q rest (a.put o.dst (.slice ua (ks.length + 1) uc)) w2) :
    wpList Tryd.prog ops Q (o :: rest) a (w1.alloc (.cells #[.int .i64 n] 3)) := by
  obtain ⟨i0, hi0, hz0, hz1, hz2⟩ := info_parts infoInt
  subst hg
  refine wpList_append_own_at _ hgd sx y 69 ho (rb + 1) 3 i0 (.int .i64 0) 1 8 Tryd.underlying69 hi0 hz0 hz1 hz2 rfl (by decide) u ks.length (icl ks) hs (IR.alloc h.km.own.row _) ⟨w1.heap.size, 0, none⟩ 1 1 [.int .i64 n] hx rfl (cell_one_new _ _ _) (by simp [Value.oneCell']) (by unfold maxLen; omega) (by omega) (by have := h.sm.rd.lt; simp; omega) ?_
  intro u' w2 hown hgrow _ hat
  obtain ⟨ua, uc, rfl⟩ : ∃ a c, u' = .slice a (ks.length + 1) c := by
    obtain ⟨_, ⟨h1, h0⟩ | ⟨g, cap, cur, h1, _⟩⟩ := hown
    · omega
    · exact ⟨_, _, h1⟩
  obtain ⟨h6, k6⟩ := Km.grow h.sm h.km hown hgrow (by simpa using hat)
  exact hc ua uc w2 ⟨h6, k6⟩
/-- The same where something has failed. -/
theorem app_fk {ops : Array Oper} {rest : List Oper} {o : Oper} {a : Act} {Q : Exit → Act → World → Prop} (hgd : o.guard = none) (sx y : Operand) (ho : o.op = .call { callee := .builtin .append, args := #[sx, y], argTypes := #[69, 69] })
    (h : FK rb w v w1 u ks x) (n : Int) (g : Nat) (hg : g = w1.heap.size) (hs : a.eval sx = u) (hx : a.eval y = .slice (some ⟨g, 0, none⟩) 1 1) (hk : ks.length ≤ 100000)
    (hc : ∀ ua uc w2, FK rb w v w2 (.slice ua (ks.length + 1) uc) (ks ++ [n]) x → wpList Tryd.prog ops Q rest (a.put o.dst (.slice ua (ks.length + 1) uc)) w2) :
    wpList Tryd.prog ops Q (o :: rest) a (w1.alloc (.cells #[.int .i64 n] 3)) := by
  obtain ⟨i0, hi0, hz0, hz1, hz2⟩ := info_parts infoInt
  subst hg
  refine wpList_append_own_at _ hgd sx y 69 ho (rb + 1) 3 i0 (.int .i64 0) 1 8 Tryd.underlying69 hi0 hz0 hz1 hz2 rfl (by decide) u ks.length (icl ks) hs (IR.alloc h.ir _) ⟨w1.heap.size, 0, none⟩ 1 1 [.int .i64 n] hx rfl (cell_one_new _ _ _) (by simp [Value.oneCell']) (by unfold maxLen; omega) (by omega) (by have := h.fl.lt; simp; omega) ?_
  intro u' w2 hown hgrow _ hat
  obtain ⟨ua, uc, rfl⟩ : ∃ a c, u' = .slice a (ks.length + 1) c := by
    obtain ⟨_, ⟨h1, h0⟩ | ⟨g, cap, cur, h1, _⟩⟩ := hown
    · omega
    · exact ⟨_, _, h1⟩
  refine hc ua uc w2 ⟨(h.fl.below ((Below.refl _ _).alloc (Nat.le_refl _) _)).grown hgrow (fun e => by have := (World.ownsRow.lt h.ir rb e).1; omega), (h.rf.next ((Below.refl _ _).alloc (Nat.le_refl _) _)).grown hgrow h.new, ?_, fun g e => ?_⟩
  · unfold IR
    rw [icl_snoc, List.length_append]
    exact hown
  · rcases hat with h1 | h1
    · exact h.new g (h1 ▸ e)
    · rw [h1] at e
      injection e with e
      have := h.rf.size
      simp at e
      omega
end
section
variable (ts : List TokD) (en : Nat) (rd : PS → Except (Int × Int) (Int × PS)) (e : ByteArray)
/-- What stands between commas, from where the model asks whether it is over. -/
def lsG (k : Nat) (ks : List Int) (s : PS) : Except (Int × Int) (List Int × PS) := if isN ts e s then .ok (ks, adv s) else if ks = [] then lsL ts en rd e k [] s else match wantP ts en ⟨#[44]⟩ s with
  | .error x => .error x
  | .ok s2 => lsL ts en rd e k ks s2
theorem lsP_G (n : Nat) (s : PS) : lsP ts en rd e n s = lsG ts en rd e n [] s := by
  unfold lsP lsG
  simp
theorem lsL_G (k : Nat) (ks : List Int) (s : PS) : lsL ts en rd e (k + 1) ks s = match rd s with
    | .error x => .error x
    | .ok (v, s1) => lsG ts en rd e k (ks ++ [v]) s1 := by
  rw [lsL]
  cases rd s with
  | error x => rfl
  | ok y =>
    obtain ⟨v, s1⟩ := y
    simp only [lsG]
    split
    · rfl
    · rw [if_neg (by simp)]
      rfl
end
end Go.Proofs.YtiglkhkfbgjjoaaDoor
