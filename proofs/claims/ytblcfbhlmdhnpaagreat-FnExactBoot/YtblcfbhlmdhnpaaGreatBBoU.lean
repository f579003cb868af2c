/- - -/
import Derived.Test.YtblcfbhlmdhnpaaGreatBMrJ
import Derived.Test.YtblcfbhlmdhnpaaGreatBBoZ
import Derived.Laws.AppendOwnNone
namespace Go.Proofs.YtblcfbhlmdhnpaaGreat
set_option maxRecDepth 20000
open Go.RowKit Go.PlainAid
set_option linter.unusedSimpArgs false
set_option linter.unusedVariables false
theorem zcx {B es : Nat} {t : TypeId} {w : World} {v : Value} {n : Nat} {f : Nat -> Value} (h : w.ownsRow B t es v n (zo (n * es) f)) (hv : v ≠ .slice none 0 0) : ∃ b d, v = .slice (some ⟨b, 0, none⟩) n d /\ B <= b /\ Rw w b t (n * es) f := by
 obtain ⟨_, ⟨h0, _⟩ | ⟨b, cap, cur, hv2, hB, hg, hle, _, hcs, htk⟩⟩ := h
 · exact absurd h0 hv
 · have hm : n * es <= cap * es := Nat.mul_le_mul_right _ hle
   refine ⟨b, cap, hv2, hB, cap * es, fun i => cur.getD i (.bool false), hm, ⟨cur, hg, by omega, fun i hi => by simp [Array.getD, show i < cur.size by omega]⟩, fun i hi => ?_⟩
   have h1 : (cur.toList.take (n * es))[i]? = (zo (n * es) f)[i]? := by rw [htk]
   rw [List.getElem?_take] at h1
   simp [zo, hi] at h1
   simp [Array.getD, show i < cur.size by omega]
   have h2 := h1
   rw [Array.getElem?_eq_getElem (by omega)] at h2
   simpa using h2
theorem zau {ops : Array Oper} {rest : List Oper} {o : Oper} {a : Act} {Q : Exit -> Act -> World -> Prop} {W : World} (hgd : o.guard = none) (s x : Operand) (t e : TypeId) (ho : o.op = .call { callee := .builtin .append, args := #[s, x], argTypes := #[t, t] }) (i : TypeInfo) (z : Value) (es bt : Nat) (ht : Tryz.prog.underlying t = some (.slice e)) (hi : Tryz.prog.info? e = some i) (hz0 : i.zero = some z) (hz1 : i.size = es) (hz2 : i.bytes = bt) (hzs : z.cells.size = es) (hes : 0 < es) (g : Nat) (hs : a.eval s = .slice (some ⟨g, 0, none⟩) 0 0) (hg : W.heap[g]? = some (.cells #[] e (0, 0))) (T : Nat) (ad : Option Addr) (n c : Nat) (f : Nat -> Value) (hx : a.eval x = .slice ad n c) (hS : SlF T W (.slice ad n c) n (n * es) f) (h1 : ∀ j, j < n * es -> (f j).oneCell' = true) (hn : n <= 1048576) (hb : bt <= 64) (h : ∀ b d W', g <= b -> Rw W' b e (n * es) f -> Below g W W' -> wpList Tryz.prog ops Q rest (a.put o.dst (.slice (some ⟨b, 0, none⟩) n d)) W') : wpList Tryz.prog ops Q (o :: rest) a W := by
 have lg : g < W.heap.size := (Array.getElem?_eq_some_iff.1 hg).1
 have hown : W.ownsRow g e es (.slice (some ⟨g, 0, none⟩) 0 0) 0 [] := ⟨by simp, .inr ⟨g, 0, #[], rfl, Nat.le_refl _, hg, Nat.le_refl _, by simp [maxLen], by simp, by simp⟩⟩
 cases ad with
 | none =>
   have h0 : n = 0 := by
    obtain ⟨a, cap, he, hx⟩ := hS
    simp only [Value.slice.injEq] at he
    obtain ⟨rfl, _⟩ := he
    rcases hx with hx | ⟨b, off, hx, _⟩
    · rcases Nat.eq_zero_or_pos n with h | h
      · exact h
      · have := Nat.mul_pos h hes; omega
    · simp at hx
   subst h0
   refine wpList_plain hgd fun K hK => ?_
   have hrun : (Builtin.append_ #[t, t] o.type #[.slice (some ⟨g, 0, none⟩) 0 0, .slice none 0 c]).run Tryz.prog W = .ok (.slice (some ⟨g, 0, none⟩) 0 0) W := by simp [Builtin.append_, run_underlying ht, sizeOf, typeInfo, hi, Builtin.lenOf, Builtin.firstCells, storeCells]
   unfold Oper.wp
   simp [execOp, ho, resolve, invoke, builtin, hs, hx, hrun, Result.andThen]
   exact hK _ _ (h g 0 W (Nat.le_refl _) ⟨0, fun _ => .bool false, by simp, ⟨#[], hg, rfl, fun i hi => by omega⟩, fun i hi => by simp at hi⟩ (Below.refl _ _))
 | some ad =>
   refine wpList_append_own _ hgd _ _ t ho g e i z es bt ht hi hz0 hz1 hz2 hzs hes (.slice (some ⟨g, 0, none⟩) 0 0) 0 [] hs hown ad n c (zo (n * es) f) hx (zaf _ _) ?hnews (zao h1) ?h63 ?hby (Nat.le_of_lt lg) ?_
   case hnews =>
    intro j u hj
    obtain ⟨hj1, rfl⟩ := zax hj
    obtain ⟨b, off, cap', hv, _, lb, hc⟩ := hS.parts (k := 0) (by omega)
    simp only [Value.slice.injEq, Option.some.injEq] at hv
    obtain ⟨rfl, _, rfl⟩ := hv
    rw [Addr.add_lit]
    exact hc j hj1
   case h63 => unfold maxLen; omega
   case hby =>
    have := Nat.mul_le_mul (show 0 + n <= 1048576 by omega) hb
    omega
   intro v2 w2 hown' hgrow hnil
   have hB : Below g W w2 := (Below.refl g W).grown hgrow (Nat.le_of_lt lg) (by intro k hk; simp [Value.ownBlock] at hk; omega)
   rw [Nat.zero_add, List.nil_append] at hown'
   obtain ⟨b, d, rfl, gb, hr⟩ := zcx hown' (fun e0 => absurd (hnil.1 e0).1 (by simp))
   exact h b d w2 gb hr hB
def PcM (B : Nat) (w : World) (v : Value) (k : Nat) (X : Nat -> PtD) (bu cu bc cc : Nat -> Nat) : Prop :=
 w.ownsRow B 58 4 v k (zo (k * 4) (ptC X (fun i => some ⟨bu i, 0, none⟩) cu (fun i => some ⟨bc i, 0, none⟩) cc)) /\ ∀ i, i < k -> Rw w (bu i) 99 (2 * (X i).un) (upF (X i).ub (X i).ui) /\ Rw w (bc i) 80 (2 * (X i).cn) (inF (X i).co (X i).ca)
theorem zf9 {B es : Nat} {t t' : TypeId} {w : World} {v : Value} {n m b : Nat} {xs : List Value} {f : Nat -> Value} (h : w.ownsRow B t es v n xs) (r : Rw w b t' m f) (ht : t ≠ t') : v.ownBlock ≠ some b := fun e => by
 obtain ⟨_, ⟨h0, _⟩ | ⟨b', cap, cur, hv2, hB, hg, _⟩⟩ := h
 · rw [h0] at e; simp [Value.ownBlock] at e
 · rw [hv2] at e
   simp [Value.ownBlock] at e
   subst e
   obtain ⟨M, g, _, ⟨c, hc, _⟩, _⟩ := r
   rw [hg] at hc
   simp at hc
   exact ht hc.2
theorem ze0 (k : Nat) (f g : Nat -> Value) (h : ∀ j, j < k * 4 -> f j = g j) (c0 c1 c2 c3 : Value) (h0 : g (k * 4) = c0) (h1 : g (k * 4 + 1) = c1) (h2 : g (k * 4 + 2) = c2) (h3 : g (k * 4 + 3) = c3) : zo (k * 4) f ++ [c0, c1, c2, c3] = zo ((k + 1) * 4) g := by
 subst h0 h1 h2 h3
 unfold zo
 rw [show (k + 1) * 4 = k * 4 + 1 + 1 + 1 + 1 by omega, List.range_succ, List.range_succ, List.range_succ, List.range_succ]
 simp only [List.map_append, List.append_assoc, List.map_cons, List.map_nil, List.cons_append, List.nil_append]
 congr 1
 exact List.map_congr_left fun j hj => h j (List.mem_range.1 hj)
theorem PcM.step {B : Nat} {w w' : World} {v v' : Value} {k : Nat} {X : Nat -> PtD} {bu cu bc cc : Nat -> Nat} (h : PcM B w v k X bu cu bc cc) (b1 d1 b2 d2 : Nat) (r1 : Rw w b1 99 (2 * (X k).un) (upF (X k).ub (X k).ui)) (r2 : Rw w b2 80 (2 * (X k).cn) (inF (X k).co (X k).ca))
 (ho : w'.ownsRow B 58 4 v' (k + 1) (zo (k * 4) (ptC X (fun i => some ⟨bu i, 0, none⟩) cu (fun i => some ⟨bc i, 0, none⟩) cc) ++ [.int .i64 (X k).pa, .int .i64 (X k).sl, .slice (some ⟨b1, 0, none⟩) (X k).un d1, .slice (some ⟨b2, 0, none⟩) (X k).cn d2])) (hg : w.grownBy w' v.ownBlock) :
 PcM B w' v' (k + 1) X (fun i => if i = k then b1 else bu i) (fun i => if i = k then d1 else cu i) (fun i => if i = k then b2 else bc i) (fun i => if i = k then d2 else cc i) := by
 have gU : ∀ {b m f}, Rw w b 99 m f -> Rw w' b 99 m f := fun r => r.of_block (hg.block _ r.lt (fun e => zf9 h.1 r (by decide) e.symm))
 have gI : ∀ {b m f}, Rw w b 80 m f -> Rw w' b 80 m f := fun r => r.of_block (hg.block _ r.lt (fun e => zf9 h.1 r (by decide) e.symm))
 have e4 := ze0 k (ptC X (fun i => some ⟨bu i, 0, none⟩) cu (fun i => some ⟨bc i, 0, none⟩) cc) (ptC X (fun i => some ⟨if i = k then b1 else bu i, 0, none⟩) (fun i => if i = k then d1 else cu i) (fun i => some ⟨if i = k then b2 else bc i, 0, none⟩) (fun i => if i = k then d2 else cc i)) (fun j hj => by
  have e : ¬ j / 4 = k := by omega
  unfold ptC
  simp only [if_neg e]) (.int .i64 (X k).pa) (.int .i64 (X k).sl) (.slice (some ⟨b1, 0, none⟩) (X k).un d1) (.slice (some ⟨b2, 0, none⟩) (X k).cn d2) (za0 _ _ _ _ _ _) (zaq _ _ _ _ _ _) (by rw [zaj]; simp) (by rw [zak]; simp)
 rw [e4] at ho
 refine ⟨ho, fun i hi => ?_⟩
 by_cases e : i = k
 · subst e
   simp only [if_true]
   exact ⟨gU r1, gI r2⟩
 · simp only [if_neg e]
   obtain ⟨a1, a2⟩ := h.2 i (by omega)
   exact ⟨gU a1, gI a2⟩
end Go.Proofs.YtblcfbhlmdhnpaaGreat
