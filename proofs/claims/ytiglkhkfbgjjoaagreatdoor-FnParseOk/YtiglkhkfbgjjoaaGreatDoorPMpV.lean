/- - -/
import Derived.Test.YtiglkhkfbgjjoaaGreatDoorPMpN
import Derived.Test.YtiglkhkfbgjjoaaGreatDoorPPbG
namespace Go.Proofs.YtiglkhkfbgjjoaaGreatDoor
set_option maxRecDepth 20000
open Go.RowKit Go.PlainAid Go.Maps
set_option linter.unusedSimpArgs false
set_option linter.unusedVariables false
theorem Mdr.back2 {rb : Nat} {ts : List za} {tv : Value} {en : Nat} {w : World} {v : Value} {kv : List Value} {u : Value} {i d : Nat} {ns : List KnL} {x : KnL} {g c : Nat} (h : Mdr rb ts tv en w v (kv ++ [u]) ⟨i, d, ns ++ [x]⟩) (hv : v = .slice (some ⟨g, 0, none⟩) (ns.length + 1) c) (hB : rb + 1 <= g) (hn : NdR (rb + 1) w (.slice (some ⟨g, 0, none⟩) ns.length c) ns kv) (hu : IR (rb + 1) w u x.ks) (h1 : ∀ k, u.ownBlock = some k -> k ≠ g) (h2 : ∀ (y : Value) (k : Nat), y ∈ kv -> y.ownBlock = some k -> u.ownBlock ≠ some k) :
 Mdr rb ts tv en (w.setCell ⟨rb, 2, none⟩ (.slice (some ⟨g, 0, none⟩) ns.length c)) (.slice (some ⟨g, 0, none⟩) ns.length c) kv ⟨i, d, ns⟩ /\ Rg rb w v (w.setCell ⟨rb, 2, none⟩ (.slice (some ⟨g, 0, none⟩) ns.length c)) (.slice (some ⟨g, 0, none⟩) ns.length c) [] /\ Own rb (w.setCell ⟨rb, 2, none⟩ (.slice (some ⟨g, 0, none⟩) ns.length c)) (.slice (some ⟨g, 0, none⟩) ns.length c) kv u x.ks := by
 generalize hv' : (.slice (some ⟨g, 0, none⟩) ns.length c : Value) = v' at hn ⊢
 have o : ∀ i, i ≠ 2 -> (w.setCell ⟨rb, 2, none⟩ v').cell? ⟨rb, i, none⟩ = w.cell? ⟨rb, i, none⟩ := fun i hi => World.cell?_setCell_other _ _ _ _ (fun e => by have := congrArg Addr.off e; simp at this; omega)
 have hb : ∀ k, k ≠ rb -> (w.setCell ⟨rb, 2, none⟩ v').heap[k]? = w.heap[k]? := fun k hk => Below.heap_setCell w ⟨rb, 2, none⟩ _ k hk
 have hg : w.grownBy (w.setCell ⟨rb, 2, none⟩ v') (some rb) := ⟨rfl, rfl, rfl, by simp, fun k _ hk => hb k (fun e => hk (by rw [e]))⟩
 refine ⟨⟨by simpa using h.lt, by rw [o 0 (by omega)]; exact h.c0, by rw [o 1 (by omega)]; exact h.c1, World.cell?_setCell_same' _ _ _ (by rw [h.c2]; rfl), by rw [o 3 (by omega)]; exact h.c3, by rw [o 4 (by omega)]; exact h.c4, by rw [o 5 (by omega)]; exact h.c5, by rw [o 6 (by omega)]; exact h.c6, fun i => by simp [go_sem, h.fz], World.ownsRow.kept h.tk hg (.inr (fun e => by have := h.tlt rb e; omega)), h.tlt, h.il, h.tl, h.dl, (fun y hy => h.kl y (List.mem_append_left _ hy)), hn.keptBut hg (fun r e => by injection e with e; omega)⟩, ⟨rfl, rfl, rfl, by simp, fun k _ hk _ => hb k hk, fun r e => .inl (by rw [hv]; rw [<- hv'] at e; exact e), fun _ _ h => by simp at h⟩, ⟨World.ownsRow.kept hu hg ?_, fun k hk e => ?_, h2⟩⟩
 · cases hq : u.ownBlock with
   | none => exact .inl rfl
   | some k => exact .inr (fun e => by have := (World.ownsRow.lt hu k hq).1; injection e with e; omega)
 · rw [<- hv'] at e
   injection e with e
   exact h1 k hk e.symm
structure Bx (rb b : Nat) (A : Array Value) (w1 : World) (v1 : Value) : Prop where
 lt : b < w1.heap.size
 ne : b ≠ rb
 nv : v1.ownBlock ≠ some b
 cl : ∀ j, w1.cell? ⟨b, j, none⟩ = A[j]?
structure SX (rb : Nat) (ts : List za) (tv : Value) (en : Nat) (w : World) (v : Value) (kv : List Value) (w1 : World) (v1 : Value) (K : List Value) (s1 : PS) (b : Nat) (A : Array Value) : Prop where
 sm : Sm rb ts tv en w v kv w1 v1 K s1
 bx : Bx rb b A w1 v1
structure SB (rb : Nat) (ts : List za) (tv : Value) (en : Nat) (w : World) (v : Value) (kv : List Value) (w1 : World) (v1 : Value) (K : List Value) (s1 : PS) (u : Value) (ks : List Int) (b : Nat) (A : Array Value) : Prop where
 sk : SK rb ts tv en w v kv w1 v1 K s1 u ks
 bx : Bx rb b A w1 v1
structure FX (rb : Nat) (w : World) (v : Value) (w1 : World) (u : Value) (ks : List Int) (b : Nat) (A : Array Value) (x : Int × Int) : Prop where
 fk : FK rb w v w1 u ks x
 lt : b < w1.heap.size
 cl : ∀ j, w1.cell? ⟨b, j, none⟩ = A[j]?
section
variable {rb : Nat} {ts : List za} {tv : Value} {en : Nat} {w w1 w2 : World} {v v1 v2 : Value} {kv K : List Value} {s s1 s2 : PS} {u : Value} {ks : List Int} {x : Int × Int} {b : Nat} {A : Array Value}
theorem Bx.ext (h : Bx rb b A w1 v1) {kk k1 : List Value} (h2 : Sm rb ts tv en w1 v1 kk w2 v2 k1 s2) : Bx rb b A w2 v2 :=
 ⟨Nat.lt_of_lt_of_le h.lt h2.rg.size, h.ne, fun e => by
  rcases h2.rg.row b e with g | g
  · exact h.nv g
  · have := h.lt
    omega, fun j => by rw [World.cell?_of_block (w := w1) (a := ⟨b, j, none⟩) (h2.rg.block b h.lt h.ne h.nv)]; exact h.cl j⟩
theorem Bx.below (h : Bx rb b A w1 v1) (hb : Below w1.heap.size w1 w2) : Bx rb b A w2 v1 := ⟨Nat.lt_of_lt_of_le h.lt hb.size, h.ne, h.nv, fun j => (hb.cell (p := ⟨b, j, none⟩) h.lt).trans (h.cl j)⟩
theorem Bx.put (h : Bx rb b A w1 v1) (i : Nat) (y : Value) : Bx rb b A (w1.setCell ⟨rb, i, none⟩ y) v1 := ⟨by simpa using h.lt, h.ne, h.nv, fun j => by rw [World.cell?_setCell_other _ _ _ _ (fun e => h.ne (by have := congrArg Addr.block e; simp at this; omega))]; exact h.cl j⟩
theorem SX.below (h : SX rb ts tv en w v kv w1 v1 K s1 b A) (hb : Below w1.heap.size w1 w2) : SX rb ts tv en w v kv w2 v1 K s1 b A := ⟨h.sm.below hb, h.bx.below hb⟩
theorem SX.is (h : SX rb ts tv en w v kv w1 v1 K s1 b A) (t : ByteArray) (q : Bool) (hq : isN ts t s1 = q) :
 Calls Tryz.prog 33 #[.pointer (some ⟨rb, 0, none⟩), .string t] w1 fun e w2 => e = .returned (.bool q) /\ SX rb ts tv en w v kv w2 v1 K s1 b A :=
 (zee rb ts tv en w1 v1 _ s1 h.sm.rd t q hq).mono fun e w2 ⟨h1, h2⟩ => ⟨h1, h.below h2⟩
theorem SX.adv (h : SX rb ts tv en w v kv w1 v1 K s1 b A) (hi : s1.i < ts.length) : SX rb ts tv en w v kv (w1.setCell ⟨rb, 1, none⟩ (.int .i64 ((s1.i : Int) + 1))) v1 K (Go.Proofs.YtiglkhkfbgjjoaaGreatDoor.adv s1) b A := ⟨h.sm.adv hi, h.bx.put _ _⟩
theorem SB.ext (h : SB rb ts tv en w v kv w1 v1 K s1 u ks b A) {k1 : List Value} (h2 : Sm rb ts tv en w1 v1 (kv ++ K) w2 v2 k1 s2) : SB rb ts tv en w v kv w2 v2 (K ++ k1) s2 u ks b A := ⟨h.sk.ext h2, h.bx.ext h2⟩
theorem SB.fx (h : SB rb ts tv en w v kv w1 v1 K s1 u ks b A) (hF : Fl rb w2 x.1 x.2) (hR : Rf rb w1 v1 w2) : FX rb w v w2 u ks b A x := ⟨h.sk.fk hF hR, Nat.lt_of_lt_of_le h.bx.lt hR.size, fun j => by rw [World.cell?_of_block (w := w1) (a := ⟨b, j, none⟩) (hR.block b h.bx.lt h.bx.ne h.bx.nv)]; exact h.bx.cl j⟩
theorem FX.below (h : FX rb w v w1 u ks b A x) (hb : Below w1.heap.size w1 w2) : FX rb w v w2 u ks b A x := ⟨h.fk.below hb, Nat.lt_of_lt_of_le h.lt hb.size, fun j => (hb.cell (p := ⟨b, j, none⟩) h.lt).trans (h.cl j)⟩
theorem SB.want_yes (h : SB rb ts tv en w v kv w1 v1 K s1 u ks b A) (t : ByteArray) (hq : isN ts t s1 = true) :
 Calls Tryz.prog 35 #[.pointer (some ⟨rb, 0, none⟩), .string t] w1 fun e w2 => e = .returned (.tuple #[]) /\ ∃ K2, SB rb ts tv en w v kv w2 v1 K2 (Go.Proofs.YtiglkhkfbgjjoaaGreatDoor.adv s1) u ks b A :=
 ((Sm.begin h.sk.sm.rd).want_yes t hq).mono fun e w2 ⟨h1, h2⟩ => ⟨h1, _, h.ext h2⟩
theorem SB.want_no (h : SB rb ts tv en w v kv w1 v1 K s1 u ks b A) (t : ByteArray) (hq : isN ts t s1 = false) :
 Calls Tryz.prog 35 #[.pointer (some ⟨rb, 0, none⟩), .string t] w1 fun e w2 => e = .returned (.tuple #[]) /\ FX rb w v w2 u ks b A (fh ts en 2 s1) :=
 ((Sm.begin h.sk.sm.rd).want_no t hq).mono fun e w2 ⟨h1, h2, h3⟩ => ⟨h1, h.fx h2 h3⟩
theorem SB.yes (h : SB rb ts tv en w v kv w1 v1 K s1 u ks b A) {f : Nat} {args : Array Value} {r : Except (Int × Int) (Int × PS)} (hc : Calls Tryz.prog f args w1 (RmE rb ts tv en w1 v1 (kv ++ K) r)) {n : Int} (hE : r = .ok (n, s2)) :
 Calls Tryz.prog f args w1 fun e w2 => e = .returned (.int .i64 n) /\ ∃ v2 K2, SB rb ts tv en w v kv w2 v2 K2 s2 u ks b A :=
 hc.mono fun e w2 h2 => by
  obtain ⟨he, v2, K2, h3⟩ := h2.1 n s2 hE
  exact ⟨he, v2, _, h.ext h3⟩
theorem SB.no (h : SB rb ts tv en w v kv w1 v1 K s1 u ks b A) {f : Nat} {args : Array Value} {r : Except (Int × Int) (Int × PS)} (hc : Calls Tryz.prog f args w1 (RmE rb ts tv en w1 v1 (kv ++ K) r)) {x : Int × Int} (hE : r = .error x) :
 Calls Tryz.prog f args w1 fun e w2 => (∃ n, e = .returned (.int .i64 n)) /\ FX rb w v w2 u ks b A x :=
 hc.mono fun e w2 h2 => by
  obtain ⟨he, h3, h4⟩ := h2.2 x hE
  exact ⟨he, h.fx h3 h4⟩
theorem SB.nodeN (h : SB rb ts tv en w v kv w1 v1 K s1 u ks b A) (zs : List Int) (k : Int) (t : ByteArray) (i : Int) (hl : zs.length <= 10) (hn : s1.ns.length <= 100000) (B : Array Value) (n g : Nat) (hg : g = w1.heap.size) (hB : B = (icl zs).toArray) (hn2 : n = zs.length) (hk8 : k ≠ 8 := by decide) :
 Calls Tryz.prog 17 #[.pointer (some ⟨rb, 0, none⟩), .agg #[.int .i64 k, .string t, .int .i64 i, .slice (some ⟨g, 0, none⟩) n n]] (w1.alloc (.cells B 3)) fun e w2 => e = .returned (.int .i64 (zb k t i zs s1).1) /\ ∃ v2 K2, SB rb ts tv en w v kv w2 v2 K2 (zb k t i zs s1).2 u ks b A :=
 ((Sm.begin h.sk.sm.rd).nodeN zs k t i hl hn B n g hg hB hn2 (fun e => absurd e hk8)).mono fun e w2 ⟨h1, v2, K2, h2⟩ => ⟨h1, v2, _, h.ext h2⟩
end
theorem Sm.last {rb : Nat} {ts : List za} {tv : Value} {en : Nat} {w w1 : World} {v v1 : Value} {kv K : List Value} {i d : Nat} {N : List KnL} {x : KnL} (h : Sm rb ts tv en w v kv w1 v1 K ⟨i, d, N ++ [x]⟩) (hk : kv.length <= N.length) : ∃ K' u, K = K' ++ [u] /\ ∃ g c, v1 = .slice (some ⟨g, 0, none⟩) (N.length + 1) c /\ N.length + 1 <= c /\ g < w1.heap.size /\ rb < g /\ (∃ a m, u = .slice a x.ks.length m) /\ w1.cell? ⟨g, N.length * 4, none⟩ = some (.int .i64 x.k) /\ w1.cell? ⟨g, N.length * 4 + 1, none⟩ = some (.string x.t) /\ w1.cell? ⟨g, N.length * 4 + 2, none⟩ = some (.int .i64 x.i) /\ w1.cell? ⟨g, N.length * 4 + 3, none⟩ = some u := by
 have hh := h.rd.nd.len
 rcases List.eq_nil_or_concat K with rfl | ⟨K', u, rfl⟩
 · simp at hh
   omega
 · refine ⟨K', u, by simp, ?_⟩
   have hr := h.rd
   rw [List.concat_eq_append, <- List.append_assoc] at hr
   obtain ⟨g, c, hv, hc, _, hB, hgw, _, hu, _, _, c0, c1, c2, c3⟩ := hr.nd.back
   exact ⟨g, c, hv, hc, hgw, by omega, hu.form, c0, c1, c2, c3⟩
theorem SX.cut {rb : Nat} {ts : List za} {tv : Value} {en : Nat} {w w1 : World} {v : Value} {kv K : List Value} {u : Value} {i d : Nat} {ns : List KnL} {x : KnL} {g c b : Nat} {A : Array Value} (h : SX rb ts tv en w v kv w1 (.slice (some ⟨g, 0, none⟩) (ns.length + 1) c) (K ++ [u]) ⟨i, d, ns ++ [x]⟩ b A) :
 SB rb ts tv en w v kv (w1.setCell ⟨rb, 2, none⟩ (.slice (some ⟨g, 0, none⟩) ns.length c)) (.slice (some ⟨g, 0, none⟩) ns.length c) K ⟨i, d, ns⟩ u x.ks b A := by
 have hr := h.sm.rd
 rw [<- List.append_assoc] at hr
 obtain ⟨g', c', hv, hc, _, hB, hgw, hnd, hu, h1, h2, _⟩ := hr.nd.back
 injection hv with hv _ hv3
 injection hv with hv
 injection hv with hv _ _
 subst hv hv3
 obtain ⟨R1, R2, R3⟩ := hr.back2 rfl hB hnd hu h1 h2
 refine ⟨⟨⟨h.sm.lt, h.sm.ov, R1, ?_⟩, R3, fun q hq => h.sm.rg.kid u q (by simp) hq⟩, ⟨by simpa using h.bx.lt, h.bx.ne, fun e => h.bx.nv e, (h.bx.put _ _).cl⟩⟩
 have g1 := h.sm.rg.trans R2
 rw [List.append_nil] at g1
 exact ⟨g1.os, g1.tape, g1.output, g1.size, g1.block, g1.row, fun y q hy => g1.kid y q (List.mem_append_left _ hy)⟩
theorem zsu {ts : List za} {s : PS} (h : isN ts ⟨#[59]⟩ s = true) : isN ts ⟨#[61]⟩ s = false := by
 unfold isN at h ⊢
 cases hx : ts[s.i]? with
 | none => rfl
 | some x =>
   rw [hx] at h
   simp only [isT, Bool.and_eq_true, beq_iff_eq] at h
   simp only [isT, h.2, Bool.and_eq_false_iff]
   right
   simp [ByteArray.toList_eq]
theorem ir2 {B : Nat} {w : World} {gu uc : Nat} {y0 y1 : Int} (h : IR B w (.slice (some ⟨gu, 0, none⟩) 2 uc) [y0, y1]) : w.cell? ⟨gu, 0, none⟩ = some (.int .i64 y0) /\ w.cell? ⟨gu, 1, none⟩ = some (.int .i64 y1) := ⟨World.ownsRow.cellAt h 0 (by simp), World.ownsRow.cellAt h 1 (by simp)⟩
section
variable {ts : List za} {en : Nat} {r : Rd} {i1 d1 : Nat} {N : List KnL} {xt : ByteArray} {xi : Int} {xks : List Int}
def lsF (ts : List za) (en : Nat) (r : Rd) (i1 d1 : Nat) (N : List KnL) (x : KnL) : Except (Int × Int) (Int × PS) :=
 if x.k = 9 /\ isN ts ⟨#[59]⟩ ⟨i1, d1, N ++ [x]⟩ = true then .ok (zb 20 eT 0 [(N.length : Int)] (adv ⟨i1, d1, N ++ [x]⟩))
 else if x.k = 5 /\ isN ts ⟨#[61]⟩ ⟨i1, d1, N ++ [x]⟩ = true then match laP ts en r ⟨i1 + 1, d1, N⟩ with
  | .error y => .error y
  | .ok (v, s2) => .ok (zb 15 x.t 0 [v] s2)
 else if x.k = 8 /\ isN ts ⟨#[61]⟩ ⟨i1, d1, N ++ [x]⟩ = true then match laP ts en r ⟨i1 + 1, d1, N⟩ with
  | .error y => .error y
  | .ok (v, s2) => .ok (zb 16 eT 0 (x.ks ++ [v]) s2)
 else .error (fh ts en 2 ⟨i1, d1, N ++ [x]⟩)
theorem zki (f2 : isN ts ⟨#[61]⟩ ⟨i1, d1, N ++ [⟨5, xt, xi, xks⟩]⟩ = true) : lsF ts en r i1 d1 N ⟨5, xt, xi, xks⟩ = match laP ts en r ⟨i1 + 1, d1, N⟩ with
 | .error y => .error y
 | .ok (v, s2) => .ok (zb 15 xt 0 [v] s2) := by
 unfold lsF
 rw [if_neg (by simp), if_pos ⟨rfl, f2⟩]
theorem zkj {y0 y1 : Int} (f2 : isN ts ⟨#[61]⟩ ⟨i1, d1, N ++ [⟨8, xt, xi, [y0, y1]⟩]⟩ = true) : lsF ts en r i1 d1 N ⟨8, xt, xi, [y0, y1]⟩ = match laP ts en r ⟨i1 + 1, d1, N⟩ with
 | .error y => .error y
 | .ok (v, s2) => .ok (zb 16 eT 0 [y0, y1, v] s2) := by
 unfold lsF
 rw [if_neg (by simp), if_neg (by simp), if_pos ⟨rfl, f2⟩]
 rfl
theorem zu3 (f1 : isN ts ⟨#[59]⟩ ⟨i1, d1, N ++ [⟨9, xt, xi, xks⟩]⟩ = true) : lsF ts en r i1 d1 N ⟨9, xt, xi, xks⟩ = .ok (zb 20 eT 0 [(N.length : Int)] (adv ⟨i1, d1, N ++ [⟨9, xt, xi, xks⟩]⟩)) := by
 unfold lsF
 rw [if_pos ⟨rfl, f1⟩]
theorem znl {xk : Int} (h9 : ¬ (xk = 9 /\ isN ts ⟨#[59]⟩ ⟨i1, d1, N ++ [⟨xk, xt, xi, xks⟩]⟩ = true)) (h5 : ¬ (xk = 5 /\ isN ts ⟨#[61]⟩ ⟨i1, d1, N ++ [⟨xk, xt, xi, xks⟩]⟩ = true)) (h8 : ¬ (xk = 8 /\ isN ts ⟨#[61]⟩ ⟨i1, d1, N ++ [⟨xk, xt, xi, xks⟩]⟩ = true)) : lsF ts en r i1 d1 N ⟨xk, xt, xi, xks⟩ = .error (fh ts en 2 ⟨i1, d1, N ++ [⟨xk, xt, xi, xks⟩]⟩) := by
 unfold lsF
 rw [if_neg h9, if_neg h5, if_neg h8]
end
set_option maxHeartbeats 4000000 in
theorem zlw {rb : Nat} {ts : List za} {tv : Value} {en : Nat} {r : Rd} {n : Nat} (hr : RM rb ts tv en r n) (hro : zk ts r) (HWH : ∀ (w : World) (v : Value) (kv : List Value) (s : PS), Mdr rb ts tv en w v kv s -> s.ns.length <= 8 * s.i -> ts.length < s.i + (n + 1) -> Calls Tryz.prog 36 #[.pointer (some ⟨rb, 0, none⟩)] w (RmE rb ts tv en w v kv (whP ts en r s))) (w : World) (v : Value) (kv : List Value) (s : PS) (h : Mdr rb ts tv en w v kv s) (hp : s.ns.length <= 8 * s.i) (hf : ts.length < s.i + (n + 1)) :
 Calls Tryz.prog 38 #[.pointer (some ⟨rb, 0, none⟩)] w (RmE rb ts tv en w v kv (za9 ts en r s)) := by
 have HS0 : Hid (Sm rb ts tv en w v kv w v [] s) := Sm.begin h
 have hT : ts.length <= 3000 := h.tl
 have hI : s.i <= ts.length := h.il
 have hkv : s.ns.length = kv.length := h.nd.len
 clear h
 have lt := HS0.out.rd.lt
 have c1 := HS0.out.rd.c1
 have c3 := HS0.out.rd.c3
 have fz := HS0.out.rd.fz
 have wi := HS0.out.wri
 have c5 := HS0.out.rd.c5
 have wd := HS0.out.wrd
 go_enter Tryz.func38, Tryz.ntmps38
 rcases e1 : whP ts en r s with ⟨x1⟩ | ⟨a, s1⟩
 · skip
   go_wp2_with (go_at_call 36; refine (HS0.out.no (HWH _ _ _ _ HS0.out.rd hp (by omega)) e1).mono ?_; rintro e w1 ⟨⟨n1, rfl⟩, F1, b1⟩; clear lt c1 c3 c5 fz wi wd; have HR : Hid (Fl rb w1 x1.1 x1.2) := F1; have HB : Hid (Rf rb w v w1) := b1; have c3 := HR.out.c3; have lt := HR.out.lt; have ne := HR.out.ne; clear F1 b1 HS0)
   go_ret
   exact RmE.no HR.out HB.out (by unfold za9; rw [e1])
 · have o1 := ze6 ts en hro e1
   have p1 : s1.ns.length <= 8 * s1.i := by have := o1.1.phi hp; omega
   have i0 := o1.1.1
   have t1 := o1.1.2.1
   obtain ⟨l, x, hns0⟩ := o1.2.1
   obtain ⟨N, hN⟩ : ∃ N, N = s.ns ++ l := ⟨_, rfl⟩
   have hns : s1.ns = N ++ [x] := by rw [hns0, hN]
   have hsN : s.ns.length <= N.length := by rw [hN]; simp
   clear hns0 hN
   have hea : a + 1 = s1.ns.length := o1.2.2
   clear o1
   obtain ⟨i1, d1, N1⟩ := s1
   obtain ⟨xk, xt, xi, xks⟩ := x
   dsimp only at p1 i0 t1 hns hea
   subst hns
   have hNl : ((N ++ [(⟨xk, xt, xi, xks⟩ : KnL)]).length : Nat) = N.length + 1 := by simp
   obtain rfl : a = (N.length : Int) := by omega
   have hkN : kv.length <= N.length := by rw [<- hkv]; exact hsN
   have HA : Hid (za9 ts en r s = lsF ts en r i1 d1 N ⟨xk, xt, xi, xks⟩) := by
    show _ = _
    rw [zml ts en r s e1 (x := ⟨xk, xt, xi, xks⟩) (by simp)]
    unfold lsF
    have ht : ((N ++ [(⟨xk, xt, xi, xks⟩ : KnL)]).take (N.length : Int).toNat) = N := by simp
    simp only [ht]
    rfl
   have HP1 : Hid (N.length + 1 <= 8 * i1) := by show _ <= _; rw [<- hNl]; exact p1
   have HKN : Hid (kv.length <= N.length) := hkN
   clear c5 wd hea hNl p1 hkN hkv hsN
   go_wp2_with (go_at_call 36; refine (HS0.out.yes (HWH _ _ _ _ HS0.out.rd hp (by omega)) e1).mono ?_; rintro e w1 ⟨rfl, v1, K1, h1⟩; clear lt c1 c3 fz wi; have HS1 : Hid (Sm rb ts tv en w v kv w1 v1 K1 (⟨i1, d1, N ++ [⟨xk, xt, xi, xks⟩]⟩ : PS)) := h1; clear h1 HS0; obtain ⟨K', u, hK, g0, cg, hv1, hcg, hgw, hrg, ⟨ua, uc, hu⟩, y0, y1, y2, y3⟩ := HS1.out.last HKN.out; subst hK hv1 hu; have HCG : Hid (N.length + 1 <= cg) := hcg; clear hcg; have lt := HS1.out.rd.lt; have c3 := HS1.out.rd.c3; have c2 := HS1.out.rd.c2; (try dsimp only at y0 y1 y2 y3))
   obtain ⟨w0, hw0⟩ : ∃ V, V = w1.alloc (.cells #[.int .i64 xk, .string xt, .int .i64 xi, .slice ua xks.length uc] 34) := ⟨_, rfl⟩
   obtain ⟨b0, hb0⟩ : ∃ b, b = w1.heap.size := ⟨_, rfl⟩
   have HX0 : Hid (SX rb ts tv en w v kv w0 (.slice (some ⟨g0, 0, none⟩) (N.length + 1) cg) (K' ++ [.slice ua xks.length uc]) (⟨i1, d1, N ++ [⟨xk, xt, xi, xks⟩]⟩ : PS) b0 (#[.int .i64 xk, .string xt, .int .i64 xi, .slice ua xks.length uc])) := by
    show SX _ _ _ _ _ _ _ _ _ _ _ _ _
    rw [hw0, hb0]
    refine ⟨HS1.out.below ((Below.refl _ _).alloc (Nat.le_refl _) _), ⟨by simp, by omega, fun e => ?_, fun j => ?_⟩⟩
    · simp [Value.ownBlock] at e; omega
    · match j with | 0 => simp [go_sem] | 1 => simp [go_sem] | 2 => simp [go_sem] | 3 => simp [go_sem] | j + 4 => simp [go_sem]
   have hks8 : xk = 8 -> xks.length = 2 := fun e => HS1.out.rd.kl ⟨xk, xt, xi, xks⟩ (by simp) e
   have hIR : IR (rb + 1) w1 (.slice ua xks.length uc) xks := by
    have hr2 := HS1.out.rd
    rw [<- List.append_assoc] at hr2
    obtain ⟨_, _, _, _, _, _, _, _, hu, _⟩ := hr2.nd.back
    exact hu
   have huf : xk = 8 -> ∃ gu y0 y1, ua = some ⟨gu, 0, none⟩ /\ xks = [y0, y1] := fun e => by
    have h2 := hks8 e
    match xks, h2, hIR with
    | [y0, y1], _, h =>
      obtain ⟨_, ⟨hn, h0⟩ | ⟨gu, cap, cur, hn, _⟩⟩ := h
      · simp at h0
      · injection hn with hn _ _
        exact ⟨gu, y0, y1, hn, rfl⟩
   have HUF : Hid (xk = 8 -> ∃ gu y0 y1, ua = some ⟨gu, 0, none⟩ /\ xks = [y0, y1]) := huf
   rw [<- hw0, <- hb0]
   clear hw0 hb0 HS1 y0 y1 y2 y3 lt c2 c3 hgw hrg hks8 hIR huf
   have lt := HX0.out.sm.rd.lt
   have c1 := HX0.out.sm.rd.c1
   have c2 := HX0.out.sm.rd.c2
   have c3 := HX0.out.sm.rd.c3
   have fz := HX0.out.sm.rd.fz
   have wi := HX0.out.sm.wri
   have bl := HX0.out.bx.lt
   have bc := HX0.out.bx.cl 0
   simp only [List.getElem?_toArray, List.getElem?_cons_zero] at bc
   dsimp only at c1 wi
   have hcg' : (N.length : Int) + 1 <= (cg : Int) := by have := HCG.out; omega
   cases f1 : isN ts ⟨#[59]⟩ (⟨i1, d1, N ++ [⟨xk, xt, xi, xks⟩]⟩ : PS)
   · cases f2 : isN ts ⟨#[61]⟩ (⟨i1, d1, N ++ [⟨xk, xt, xi, xks⟩]⟩ : PS)
     · skip
       go_wp2_with (go_at_call 33; refine (HX0.out.is ⟨#[59]⟩ false f1).mono ?_; rintro e w2 ⟨rfl, h2⟩; clear lt c1 c2 c3 fz wi bl bc; have HX1 : Hid (SX rb ts tv en w v kv w2 _ _ (⟨i1, d1, N ++ [⟨xk, xt, xi, xks⟩]⟩ : PS) b0 (#[.int .i64 xk, .string xt, .int .i64 xi, .slice ua xks.length uc])) := h2; clear h2 HX0; have lt := HX1.out.sm.rd.lt; have c1 := HX1.out.sm.rd.c1; have c2 := HX1.out.sm.rd.c2; have c3 := HX1.out.sm.rd.c3; have fz := HX1.out.sm.rd.fz; have wi := HX1.out.sm.wri; have bl := HX1.out.bx.lt; have bc := HX1.out.bx.cl 0; simp only [List.getElem?_toArray, List.getElem?_cons_zero] at bc; dsimp only at c1 wi)
       go_wp2_with (go_at_call 33; refine (HX1.out.is ⟨#[61]⟩ false f2).mono ?_; rintro e w2 ⟨rfl, h2⟩; clear lt c1 c2 c3 fz wi bl bc; have HX2 : Hid (SX rb ts tv en w v kv w2 _ _ (⟨i1, d1, N ++ [⟨xk, xt, xi, xks⟩]⟩ : PS) b0 (#[.int .i64 xk, .string xt, .int .i64 xi, .slice ua xks.length uc])) := h2; clear h2 HX1; have lt := HX2.out.sm.rd.lt; have c1 := HX2.out.sm.rd.c1; have c2 := HX2.out.sm.rd.c2; have c3 := HX2.out.sm.rd.c3; have fz := HX2.out.sm.rd.fz; have wi := HX2.out.sm.wri; have bl := HX2.out.bx.lt; have bc := HX2.out.bx.cl 0; simp only [List.getElem?_toArray, List.getElem?_cons_zero] at bc; dsimp only at c1 wi)
       go_wp2_with (go_at_call 33; refine (HX2.out.is ⟨#[61]⟩ false f2).mono ?_; rintro e w2 ⟨rfl, h2⟩; clear lt c1 c2 c3 fz wi bl bc; have HX3 : Hid (SX rb ts tv en w v kv w2 _ _ (⟨i1, d1, N ++ [⟨xk, xt, xi, xks⟩]⟩ : PS) b0 (#[.int .i64 xk, .string xt, .int .i64 xi, .slice ua xks.length uc])) := h2; clear h2 HX2; have lt := HX3.out.sm.rd.lt; have c1 := HX3.out.sm.rd.c1; have c2 := HX3.out.sm.rd.c2; have c3 := HX3.out.sm.rd.c3; have fz := HX3.out.sm.rd.fz; have wi := HX3.out.sm.wri; have bl := HX3.out.bx.lt; have bc := HX3.out.bx.cl 0; simp only [List.getElem?_toArray, List.getElem?_cons_zero] at bc; dsimp only at c1 wi)
       go_wp2_with (go_at_call 83; refine (HX3.out.sm.fail).mono ?_; rintro e w9 ⟨rfl, F9, b9⟩; have HR : Hid (Fl rb w9 _ _) := F9; have HB : Hid (Rf rb w v w9) := b9; clear F9 b9 HX3)
       go_ret
       exact RmE.no HR.out HB.out (by rw [HA.out, znl (by rw [f1]; simp) (by rw [f2]; simp) (by rw [f2]; simp)])
     · by_cases k5 : xk = 5
       · subst k5
         obtain ⟨xo, hxo, hlt⟩ := zah f2
         go_wp2_with (go_at_call 33; refine (HX0.out.is ⟨#[59]⟩ false f1).mono ?_; rintro e w2 ⟨rfl, h2⟩; clear lt c1 c2 c3 fz wi bl bc; have HX1 : Hid (SX rb ts tv en w v kv w2 _ _ (⟨i1, d1, N ++ [⟨5, xt, xi, xks⟩]⟩ : PS) b0 (#[.int .i64 5, .string xt, .int .i64 xi, .slice ua xks.length uc])) := h2; clear h2 HX0; have lt := HX1.out.sm.rd.lt; have c1 := HX1.out.sm.rd.c1; have c2 := HX1.out.sm.rd.c2; have c3 := HX1.out.sm.rd.c3; have fz := HX1.out.sm.rd.fz; have wi := HX1.out.sm.wri; have bl := HX1.out.bx.lt; have bc := HX1.out.bx.cl 0; simp only [List.getElem?_toArray, List.getElem?_cons_zero] at bc; dsimp only at c1 wi)
         go_wp2_with (go_at_call 33; refine (HX1.out.is ⟨#[61]⟩ true f2).mono ?_; rintro e w2 ⟨rfl, h2⟩; clear lt c1 c2 c3 fz wi bl bc; have HX2 : Hid (SX rb ts tv en w v kv w2 _ _ (⟨i1, d1, N ++ [⟨5, xt, xi, xks⟩]⟩ : PS) b0 (#[.int .i64 5, .string xt, .int .i64 xi, .slice ua xks.length uc])) := h2; clear h2 HX1; have lt := HX2.out.sm.rd.lt; have c1 := HX2.out.sm.rd.c1; have c2 := HX2.out.sm.rd.c2; have c3 := HX2.out.sm.rd.c3; have fz := HX2.out.sm.rd.fz; have wi := HX2.out.sm.wri; have bl := HX2.out.bx.lt; have bc := HX2.out.bx.cl 0; simp only [List.getElem?_toArray, List.getElem?_cons_zero] at bc; dsimp only at c1 wi)
         have HB0 : Hid (SB rb ts tv en w v kv _ _ _ (⟨i1 + 1, d1, N⟩ : PS) _ _ b0 _) := (HX2.out.adv hlt).cut
         clear c1 wi c2 bc
         have p4 : (⟨i1 + 1, d1, N⟩ : PS).ns.length <= 8 * (⟨i1 + 1, d1, N⟩ : PS).i := by show N.length <= 8 * (i1 + 1); have := HP1.out; omega
         have i4 : (⟨i1 + 1, d1, N⟩ : PS).i = i1 + 1 := rfl
         rcases e5 : r.wh (⟨i1 + 1, d1, N⟩ : PS) with ⟨x5⟩ | ⟨a5, s5⟩
         · skip
           go_wp2_with (first | (go_at_call 36; refine (HB0.out.no (hr.wh _ _ _ _ HB0.out.sk.sm.rd p4 (by omega)) e5).mono ?_; rintro e w6 ⟨⟨nv, rfl⟩, h6⟩; clear lt c3 fz bl; have HF : Hid (FX rb w v w6 _ _ b0 _ _) := h6; clear h6; have c3 := HF.out.fk.fl.c3; have lt := HF.out.fk.fl.lt; have ne := HF.out.fk.fl.ne; have bl := HF.out.lt; have bt := HF.out.cl 1; simp only [List.getElem?_toArray, List.getElem?_cons_zero, List.getElem?_cons_succ] at bt) | (go_at_call 35; refine (zm rb _ _ _ HF.out.fk.fl _).mono ?_; rintro e w7 ⟨rfl, -, b7⟩; have HF7 : Hid (FX rb w v w7 _ _ b0 _ _) := HF.out.below b7; clear bt bl c3 lt ne b7; have HF := HF7; have c3 := HF.out.fk.fl.c3; have lt := HF.out.fk.fl.lt; have ne := HF.out.fk.fl.ne; have bl := HF.out.lt; have bt := HF.out.cl 1; simp only [List.getElem?_toArray, List.getElem?_cons_zero, List.getElem?_cons_succ] at bt) | (go_at_call 17; refine (zc rb _ _ _ (HF.out.fk.fl.below ((Below.refl _ _).alloc (Nat.le_refl _) _)) _ _ _ _ _ _).mono ?_; rintro e w8 ⟨rfl, b8⟩; have HR : Hid (Fl rb w8 _ _) := (HF.out.fk.fl.below ((Below.refl _ _).alloc (Nat.le_refl _) _)).below b8; have HB : Hid (Rf rb w v w8) := (HF.out.fk.rf.next ((Below.refl _ _).alloc (Nat.le_refl _) _)).next b8; clear b8))
           go_ret
           exact RmE.no HR.out HB.out (by rw [HA.out, zki f2]; simp only [laP, e5])
         · have o5 := hro.wh e5
           have p5 : s5.ns.length <= 8 * s5.i := by have := o5.1.phi p4; omega
           have t5 := o5.1.2.1
           rcases zac ts en ⟨#[59]⟩ s5 with ⟨q6, e6⟩ | ⟨q6, e6⟩
           · go_wp2_with (first | (go_at_call 36; refine (HB0.out.yes (hr.wh _ _ _ _ HB0.out.sk.sm.rd p4 (by omega)) e5).mono ?_; rintro e w6 ⟨rfl, v6, K6, h6⟩; clear lt c3 fz bl; have HB1 : Hid (SB rb ts tv en w v kv w6 _ _ s5 _ _ b0 _) := h6; clear h6) | (go_at_call 35; refine (HB1.out.want_yes _ q6).mono ?_; rintro e w7 ⟨rfl, K7, h7⟩; have HB5 : Hid (SB rb ts tv en w v kv w7 _ _ (adv s5) _ _ b0 _) := h7; clear h7; have bl := HB5.out.bx.lt; have bt := HB5.out.bx.cl 1; simp only [List.getElem?_toArray, List.getElem?_cons_zero, List.getElem?_cons_succ] at bt) | (go_at_call 17; refine (HB5.out.nodeN [a5] 15 xt 0 (by simp) (by show s5.ns.length <= 100000; omega) _ _ _ rfl rfl rfl).mono ?_; rintro e w8 ⟨rfl, v8, K8, h8⟩; have HS9 : Hid (Sm rb ts tv en w v kv w8 _ _ _) := h8.sk.sm; clear h8))
             go_ret
             exact RmE.yes HS9.out (by rw [HA.out, zki f2]; simp only [laP, e5, e6])
           · go_wp2_with (first | (go_at_call 36; refine (HB0.out.yes (hr.wh _ _ _ _ HB0.out.sk.sm.rd p4 (by omega)) e5).mono ?_; rintro e w6 ⟨rfl, v6, K6, h6⟩; clear lt c3 fz bl; have HB1 : Hid (SB rb ts tv en w v kv w6 _ _ s5 _ _ b0 _) := h6; clear h6) | (go_at_call 35; refine (HB1.out.want_no _ q6).mono ?_; rintro e w7 ⟨rfl, h7⟩; have HF : Hid (FX rb w v w7 _ _ b0 _ _) := h7; clear h7; have c3 := HF.out.fk.fl.c3; have lt := HF.out.fk.fl.lt; have ne := HF.out.fk.fl.ne; have bl := HF.out.lt; have bt := HF.out.cl 1; simp only [List.getElem?_toArray, List.getElem?_cons_zero, List.getElem?_cons_succ] at bt) | (go_at_call 17; refine (zc rb _ _ _ (HF.out.fk.fl.below ((Below.refl _ _).alloc (Nat.le_refl _) _)) _ _ _ _ _ _).mono ?_; rintro e w8 ⟨rfl, b8⟩; have HR : Hid (Fl rb w8 _ _) := (HF.out.fk.fl.below ((Below.refl _ _).alloc (Nat.le_refl _) _)).below b8; have HB : Hid (Rf rb w v w8) := (HF.out.fk.rf.next ((Below.refl _ _).alloc (Nat.le_refl _) _)).next b8; clear b8))
             go_ret
             exact RmE.no HR.out HB.out (by rw [HA.out, zki f2]; simp only [laP, e5, e6])
       · by_cases k8 : xk = 8
         · subst k8
           obtain ⟨gu, y0, y1, hua, hxs⟩ := HUF.out rfl
           subst hua hxs
           obtain ⟨xo, hxo, hlt⟩ := zah f2
           go_wp2_with (go_at_call 33; refine (HX0.out.is ⟨#[59]⟩ false f1).mono ?_; rintro e w2 ⟨rfl, h2⟩; clear lt c1 c2 c3 fz wi bl bc; have HX1 : Hid (SX rb ts tv en w v kv w2 _ _ (⟨i1, d1, N ++ [⟨8, xt, xi, [y0, y1]⟩]⟩ : PS) b0 (#[.int .i64 8, .string xt, .int .i64 xi, .slice (some ⟨gu, 0, none⟩) 2 uc])) := h2; clear h2 HX0; have lt := HX1.out.sm.rd.lt; have c1 := HX1.out.sm.rd.c1; have c2 := HX1.out.sm.rd.c2; have c3 := HX1.out.sm.rd.c3; have fz := HX1.out.sm.rd.fz; have wi := HX1.out.sm.wri; have bl := HX1.out.bx.lt; have bc := HX1.out.bx.cl 0; simp only [List.getElem?_toArray, List.getElem?_cons_zero] at bc; dsimp only at c1 wi)
           go_wp2_with (go_at_call 33; refine (HX1.out.is ⟨#[61]⟩ true f2).mono ?_; rintro e w2 ⟨rfl, h2⟩; clear lt c1 c2 c3 fz wi bl bc; have HX2 : Hid (SX rb ts tv en w v kv w2 _ _ (⟨i1, d1, N ++ [⟨8, xt, xi, [y0, y1]⟩]⟩ : PS) b0 (#[.int .i64 8, .string xt, .int .i64 xi, .slice (some ⟨gu, 0, none⟩) 2 uc])) := h2; clear h2 HX1; have lt := HX2.out.sm.rd.lt; have c1 := HX2.out.sm.rd.c1; have c2 := HX2.out.sm.rd.c2; have c3 := HX2.out.sm.rd.c3; have fz := HX2.out.sm.rd.fz; have wi := HX2.out.sm.wri; have bl := HX2.out.bx.lt; have bc := HX2.out.bx.cl 0; simp only [List.getElem?_toArray, List.getElem?_cons_zero] at bc; dsimp only at c1 wi)
           go_wp2_with (go_at_call 33; refine (HX2.out.is ⟨#[61]⟩ true f2).mono ?_; rintro e w2 ⟨rfl, h2⟩; clear lt c1 c2 c3 fz wi bl bc; have HX3 : Hid (SX rb ts tv en w v kv w2 _ _ (⟨i1, d1, N ++ [⟨8, xt, xi, [y0, y1]⟩]⟩ : PS) b0 (#[.int .i64 8, .string xt, .int .i64 xi, .slice (some ⟨gu, 0, none⟩) 2 uc])) := h2; clear h2 HX2; have lt := HX3.out.sm.rd.lt; have c1 := HX3.out.sm.rd.c1; have c2 := HX3.out.sm.rd.c2; have c3 := HX3.out.sm.rd.c3; have fz := HX3.out.sm.rd.fz; have wi := HX3.out.sm.wri; have bl := HX3.out.bx.lt; have bc := HX3.out.bx.cl 0; simp only [List.getElem?_toArray, List.getElem?_cons_zero] at bc; dsimp only at c1 wi)
           have HB0 : Hid (SB rb ts tv en w v kv _ _ _ (⟨i1 + 1, d1, N⟩ : PS) _ _ b0 _) := (HX3.out.adv hlt).cut
           clear c1 wi c2 bc
           have p4 : (⟨i1 + 1, d1, N⟩ : PS).ns.length <= 8 * (⟨i1 + 1, d1, N⟩ : PS).i := by show N.length <= 8 * (i1 + 1); have := HP1.out; omega
           have i4 : (⟨i1 + 1, d1, N⟩ : PS).i = i1 + 1 := rfl
           rcases e5 : r.wh (⟨i1 + 1, d1, N⟩ : PS) with ⟨x5⟩ | ⟨a5, s5⟩
           · skip
             go_wp2_with (first | (go_at_call 36; refine (HB0.out.no (hr.wh _ _ _ _ HB0.out.sk.sm.rd p4 (by omega)) e5).mono ?_; rintro e w6 ⟨⟨nv, rfl⟩, h6⟩; clear lt c3 fz bl; have HF : Hid (FX rb w v w6 _ _ b0 _ _) := h6; clear h6; have c3 := HF.out.fk.fl.c3; have lt := HF.out.fk.fl.lt; have ne := HF.out.fk.fl.ne; have bl := HF.out.lt; have bt := HF.out.cl 3; simp only [List.getElem?_toArray, List.getElem?_cons_zero, List.getElem?_cons_succ] at bt) | (go_at_call 35; refine (zm rb _ _ _ HF.out.fk.fl _).mono ?_; rintro e w7 ⟨rfl, -, b7⟩; have HF7 : Hid (FX rb w v w7 _ _ b0 _ _) := HF.out.below b7; clear bt bl c3 lt ne b7; have HF := HF7; have c3 := HF.out.fk.fl.c3; have lt := HF.out.fk.fl.lt; have ne := HF.out.fk.fl.ne; have bl := HF.out.lt; have bt := HF.out.cl 3; simp only [List.getElem?_toArray, List.getElem?_cons_zero, List.getElem?_cons_succ] at bt))
             go_upto_region 19 with fail
             obtain ⟨W, hW⟩ : ∃ V, V = w7 := ⟨_, rfl⟩
             have hS0 : w7.cell? ⟨b0, 3, none⟩ = some (.slice (some ⟨gu, 0, none⟩) 2 uc) /\ w7.cell? ⟨gu, 0, none⟩ = some (.int .i64 y0) /\ w7.cell? ⟨gu, 1, none⟩ = some (.int .i64 y1) := ⟨bt, (ir2 HF.out.fk.ir).1, (ir2 HF.out.fk.ir).2⟩
             clear hW W
             refine wp_region_held_drew (S := fun V => V.cell? ⟨b0, 3, none⟩ = some (.slice (some ⟨gu, 0, none⟩) 2 uc) /\ V.cell? ⟨gu, 0, none⟩ = some (.int .i64 y0) /\ V.cell? ⟨gu, 1, none⟩ = some (.int .i64 y1)) (by kernel_rfl) hS0 (fun hHeld => ?_)
             refine tk 0 104 (.pointer (some ⟨rb, 0, none⟩)) hHeld rfl (by intro V hS; (try dsimp only at hS); obtain ⟨q0, q1, q2⟩ := hS; go_simp) ?_
             try simp only [Act.put, zv2, zv3, zv4]
             refine tk 1 105 (.pointer (some ⟨b0, 3, none⟩)) hHeld rfl (by intro V hS; (try dsimp only at hS); obtain ⟨q0, q1, q2⟩ := hS; go_simp) ?_
             try simp only [Act.put, zv2, zv3, zv4]
             refine tk 2 106 (.slice (some ⟨gu, 0, none⟩) 2 uc) hHeld rfl (by intro V hS; (try dsimp only at hS); obtain ⟨q0, q1, q2⟩ := hS; go_simp) ?_
             try simp only [Act.put, zv2, zv3, zv4]
             refine tk 3 107 (.pointer (some ⟨gu, 0, none⟩)) hHeld rfl (by intro V hS; (try dsimp only at hS); obtain ⟨q0, q1, q2⟩ := hS; go_simp) ?_
             try simp only [Act.put, zv2, zv3, zv4]
             refine tk 4 108 (.int .i64 y0) hHeld rfl (by intro V hS; (try dsimp only at hS); obtain ⟨q0, q1, q2⟩ := hS; go_simp) ?_
             try simp only [Act.put, zv2, zv3, zv4]
             refine tk 5 109 (.pointer (some ⟨b0, 3, none⟩)) hHeld rfl (by intro V hS; (try dsimp only at hS); obtain ⟨q0, q1, q2⟩ := hS; go_simp) ?_
             try simp only [Act.put, zv2, zv3, zv4]
             refine tk 6 110 (.slice (some ⟨gu, 0, none⟩) 2 uc) hHeld rfl (by intro V hS; (try dsimp only at hS); obtain ⟨q0, q1, q2⟩ := hS; go_simp) ?_
             try simp only [Act.put, zv2, zv3, zv4]
             refine tk 7 111 (.pointer (some ⟨gu, 1, none⟩)) hHeld rfl (by intro V hS; (try dsimp only at hS); obtain ⟨q0, q1, q2⟩ := hS; go_simp) ?_
             try simp only [Act.put, zv2, zv3, zv4]
             refine tk 8 112 (.int .i64 y1) hHeld rfl (by intro V hS; (try dsimp only at hS); obtain ⟨q0, q1, q2⟩ := hS; go_simp) ?_
             try simp only [Act.put, zv2, zv3, zv4]
             refine tk 9 113 (.int .i64 nv) hHeld rfl (by intro V hS; (try dsimp only at hS); obtain ⟨q0, q1, q2⟩ := hS; go_simp) ?_
             try simp only [Act.put, zv2, zv3, zv4]
             refine wpAnyH_ready (rs := [10]) (by kernel_rfl) (by simp) ?_
             refine AllReadyH.cons (o := { dst := some 114, op := _, type := _, pos := _, after := _, guard := _ }) rfl (fun KK hK => ?_) AllReadyH.nil
             go_simp
             have HG : Hid (FX rb w v w7.drew _ _ b0 _ _) := HF.out.below ((Below.refl _ _).drew)
             have HG2 : Hid (FX rb w v _ _ _ b0 _ _) := HG.out.below ((Below.refl w7.drew.heap.size w7.drew).alloc (Nat.le_refl _) (.cells #[.int .i64 y0, .int .i64 y1, .int .i64 nv] 3))
             have hS1 : (w7.drew.alloc (.cells #[.int .i64 y0, .int .i64 y1, .int .i64 nv] 3)).cell? ⟨b0, 3, none⟩ = some (.slice (some ⟨gu, 0, none⟩) 2 uc) /\ (w7.drew.alloc (.cells #[.int .i64 y0, .int .i64 y1, .int .i64 nv] 3)).cell? ⟨gu, 0, none⟩ = some (.int .i64 y0) /\ (w7.drew.alloc (.cells #[.int .i64 y0, .int .i64 y1, .int .i64 nv] 3)).cell? ⟨gu, 1, none⟩ = some (.int .i64 y1) := ⟨HG2.out.cl 3, (ir2 HG2.out.fk.ir).1, (ir2 HG2.out.fk.ir).2⟩
             clear hHeld
             refine hK.out _ _ hS1 (fun hHeld => ?_)
             clear hK KK
             try simp only [Act.put, zv2, zv3, zv4]
             refine tk 11 115 (.agg #[.int .i64 16, .string ⟨#[]⟩, .int .i64 0, .slice (some ⟨w7.heap.size, 0, none⟩) 3 3]) hHeld rfl (by intro V hS; go_simp) ?_
             try simp only [Act.put, zv2, zv3, zv4]
             refine wpAnyH_ready (rs := [12]) (by kernel_rfl) (by simp) ?_
             refine AllReadyH.cons (o := { dst := some 116, op := _, type := _, pos := _, after := _, guard := _ }) rfl (fun KK hK => ?_) AllReadyH.nil
             go_simp
             go_at_call 17
             refine (zc rb _ _ _ HG2.out.fk.fl _ _ _ _ _ _).mono ?_
             rintro e w8 ⟨rfl, b8⟩
             have HG3 : Hid (FX rb w v w8 _ _ b0 _ _) := HG2.out.below b8
             have hS2 : w8.cell? ⟨b0, 3, none⟩ = some (.slice (some ⟨gu, 0, none⟩) 2 uc) /\ w8.cell? ⟨gu, 0, none⟩ = some (.int .i64 y0) /\ w8.cell? ⟨gu, 1, none⟩ = some (.int .i64 y1) := ⟨HG3.out.cl 3, (ir2 HG3.out.fk.ir).1, (ir2 HG3.out.fk.ir).2⟩
             clear hHeld b8
             refine hK.out _ _ hS2 (fun hHeld => ?_)
             clear hK KK
             try simp only [Act.put, zv2, zv3, zv4]
             refine tk 13 2 (.int .i64 (-1)) hHeld rfl (by intro V hS; go_simp) ?_
             try simp only [Act.put, zv2, zv3, zv4]
             refine wpAnyH_done (by kernel_rfl) ?_ _
             go_wp2
             go_ret
             have HR : Hid (Fl rb w8 _ _) := HG3.out.fk.fl
             have HB : Hid (Rf rb w v w8) := HG3.out.fk.rf
             exact RmE.no HR.out HB.out (by rw [HA.out, zkj f2]; simp only [laP, e5])
           · have o5 := hro.wh e5
             have p5 : s5.ns.length <= 8 * s5.i := by have := o5.1.phi p4; omega
             have t5 := o5.1.2.1
             rcases zac ts en ⟨#[59]⟩ s5 with ⟨q6, e6⟩ | ⟨q6, e6⟩
             · go_wp2_with (first | (go_at_call 36; refine (HB0.out.yes (hr.wh _ _ _ _ HB0.out.sk.sm.rd p4 (by omega)) e5).mono ?_; rintro e w6 ⟨rfl, v6, K6, h6⟩; clear lt c3 fz bl; have HB1 : Hid (SB rb ts tv en w v kv w6 _ _ s5 _ _ b0 _) := h6; clear h6) | (go_at_call 35; refine (HB1.out.want_yes _ q6).mono ?_; rintro e w7 ⟨rfl, K7, h7⟩; have HB5 : Hid (SB rb ts tv en w v kv w7 _ _ (adv s5) _ _ b0 _) := h7; clear h7; have bl := HB5.out.bx.lt; have bt := HB5.out.bx.cl 3; simp only [List.getElem?_toArray, List.getElem?_cons_zero, List.getElem?_cons_succ] at bt))
               go_upto_region 19 with fail
               obtain ⟨W, hW⟩ : ∃ V, V = w7 := ⟨_, rfl⟩
               have hS0 : w7.cell? ⟨b0, 3, none⟩ = some (.slice (some ⟨gu, 0, none⟩) 2 uc) /\ w7.cell? ⟨gu, 0, none⟩ = some (.int .i64 y0) /\ w7.cell? ⟨gu, 1, none⟩ = some (.int .i64 y1) := ⟨bt, (ir2 HB5.out.sk.km.own.row).1, (ir2 HB5.out.sk.km.own.row).2⟩
               clear hW W
               refine wp_region_held_drew (S := fun V => V.cell? ⟨b0, 3, none⟩ = some (.slice (some ⟨gu, 0, none⟩) 2 uc) /\ V.cell? ⟨gu, 0, none⟩ = some (.int .i64 y0) /\ V.cell? ⟨gu, 1, none⟩ = some (.int .i64 y1)) (by kernel_rfl) hS0 (fun hHeld => ?_)
               refine tk 0 104 (.pointer (some ⟨rb, 0, none⟩)) hHeld rfl (by intro V hS; (try dsimp only at hS); obtain ⟨q0, q1, q2⟩ := hS; go_simp) ?_
               try simp only [Act.put, zv2, zv3, zv4]
               refine tk 1 105 (.pointer (some ⟨b0, 3, none⟩)) hHeld rfl (by intro V hS; (try dsimp only at hS); obtain ⟨q0, q1, q2⟩ := hS; go_simp) ?_
               try simp only [Act.put, zv2, zv3, zv4]
               refine tk 2 106 (.slice (some ⟨gu, 0, none⟩) 2 uc) hHeld rfl (by intro V hS; (try dsimp only at hS); obtain ⟨q0, q1, q2⟩ := hS; go_simp) ?_
               try simp only [Act.put, zv2, zv3, zv4]
               refine tk 3 107 (.pointer (some ⟨gu, 0, none⟩)) hHeld rfl (by intro V hS; (try dsimp only at hS); obtain ⟨q0, q1, q2⟩ := hS; go_simp) ?_
               try simp only [Act.put, zv2, zv3, zv4]
               refine tk 4 108 (.int .i64 y0) hHeld rfl (by intro V hS; (try dsimp only at hS); obtain ⟨q0, q1, q2⟩ := hS; go_simp) ?_
               try simp only [Act.put, zv2, zv3, zv4]
               refine tk 5 109 (.pointer (some ⟨b0, 3, none⟩)) hHeld rfl (by intro V hS; (try dsimp only at hS); obtain ⟨q0, q1, q2⟩ := hS; go_simp) ?_
               try simp only [Act.put, zv2, zv3, zv4]
               refine tk 6 110 (.slice (some ⟨gu, 0, none⟩) 2 uc) hHeld rfl (by intro V hS; (try dsimp only at hS); obtain ⟨q0, q1, q2⟩ := hS; go_simp) ?_
               try simp only [Act.put, zv2, zv3, zv4]
               refine tk 7 111 (.pointer (some ⟨gu, 1, none⟩)) hHeld rfl (by intro V hS; (try dsimp only at hS); obtain ⟨q0, q1, q2⟩ := hS; go_simp) ?_
               try simp only [Act.put, zv2, zv3, zv4]
               refine tk 8 112 (.int .i64 y1) hHeld rfl (by intro V hS; (try dsimp only at hS); obtain ⟨q0, q1, q2⟩ := hS; go_simp) ?_
               try simp only [Act.put, zv2, zv3, zv4]
               refine tk 9 113 (.int .i64 a5) hHeld rfl (by intro V hS; (try dsimp only at hS); obtain ⟨q0, q1, q2⟩ := hS; go_simp) ?_
               try simp only [Act.put, zv2, zv3, zv4]
               refine wpAnyH_ready (rs := [10]) (by kernel_rfl) (by simp) ?_
               refine AllReadyH.cons (o := { dst := some 114, op := _, type := _, pos := _, after := _, guard := _ }) rfl (fun KK hK => ?_) AllReadyH.nil
               go_simp
               have HG : Hid (SB rb ts tv en w v kv w7.drew _ _ _ _ _ b0 _) := ⟨⟨HB5.out.sk.sm.below ((Below.refl _ _).drew), HB5.out.sk.km.below ((Below.refl _ _).drew)⟩, HB5.out.bx.below ((Below.refl _ _).drew)⟩
               have hS1 : (w7.drew.alloc (.cells #[.int .i64 y0, .int .i64 y1, .int .i64 a5] 3)).cell? ⟨b0, 3, none⟩ = some (.slice (some ⟨gu, 0, none⟩) 2 uc) /\ (w7.drew.alloc (.cells #[.int .i64 y0, .int .i64 y1, .int .i64 a5] 3)).cell? ⟨gu, 0, none⟩ = some (.int .i64 y0) /\ (w7.drew.alloc (.cells #[.int .i64 y0, .int .i64 y1, .int .i64 a5] 3)).cell? ⟨gu, 1, none⟩ = some (.int .i64 y1) := ⟨(HG.out.bx.below ((Below.refl w7.drew.heap.size w7.drew).alloc (Nat.le_refl _) (.cells #[.int .i64 y0, .int .i64 y1, .int .i64 a5] 3))).cl 3, (ir2 (HG.out.sk.km.below ((Below.refl w7.drew.heap.size w7.drew).alloc (Nat.le_refl _) (.cells #[.int .i64 y0, .int .i64 y1, .int .i64 a5] 3))).own.row).1, (ir2 (HG.out.sk.km.below ((Below.refl w7.drew.heap.size w7.drew).alloc (Nat.le_refl _) (.cells #[.int .i64 y0, .int .i64 y1, .int .i64 a5] 3))).own.row).2⟩
               clear hHeld
               refine hK.out _ _ hS1 (fun hHeld => ?_)
               clear hK KK
               try simp only [Act.put, zv2, zv3, zv4]
               refine tk 11 115 (.agg #[.int .i64 16, .string ⟨#[]⟩, .int .i64 0, .slice (some ⟨w7.heap.size, 0, none⟩) 3 3]) hHeld rfl (by intro V hS; go_simp) ?_
               try simp only [Act.put, zv2, zv3, zv4]
               refine wpAnyH_ready (rs := [12]) (by kernel_rfl) (by simp) ?_
               refine AllReadyH.cons (o := { dst := some 116, op := _, type := _, pos := _, after := _, guard := _ }) rfl (fun KK hK => ?_) AllReadyH.nil
               go_simp
               go_at_call 17
               refine (HG.out.nodeN [y0, y1, a5] 16 eT 0 (by simp) (by show s5.ns.length <= 100000; omega) _ _ _ rfl rfl rfl).mono ?_
               rintro e w8 ⟨rfl, v8, K8, h8⟩
               have HG3 : Hid (SB rb ts tv en w v kv w8 _ _ _ _ _ b0 _) := h8
               have hS2 : w8.cell? ⟨b0, 3, none⟩ = some (.slice (some ⟨gu, 0, none⟩) 2 uc) /\ w8.cell? ⟨gu, 0, none⟩ = some (.int .i64 y0) /\ w8.cell? ⟨gu, 1, none⟩ = some (.int .i64 y1) := ⟨HG3.out.bx.cl 3, (ir2 HG3.out.sk.km.own.row).1, (ir2 HG3.out.sk.km.own.row).2⟩
               clear hHeld h8
               refine hK.out _ _ hS2 (fun hHeld => ?_)
               clear hK KK
               try simp only [Act.put, zv2, zv3, zv4]
               refine tk 13 2 (.int .i64 (zb 16 eT 0 [y0, y1, a5] (adv s5)).1) hHeld rfl (by intro V hS; go_simp) ?_
               try simp only [Act.put, zv2, zv3, zv4]
               refine wpAnyH_done (by kernel_rfl) ?_ _
               go_wp2
               go_ret
               have HS9 : Hid (Sm rb ts tv en w v kv w8 _ _ _) := HG3.out.sk.sm
               exact RmE.yes HS9.out (by rw [HA.out, zkj f2]; simp only [laP, e5, e6])
             · go_wp2_with (first | (go_at_call 36; refine (HB0.out.yes (hr.wh _ _ _ _ HB0.out.sk.sm.rd p4 (by omega)) e5).mono ?_; rintro e w6 ⟨rfl, v6, K6, h6⟩; clear lt c3 fz bl; have HB1 : Hid (SB rb ts tv en w v kv w6 _ _ s5 _ _ b0 _) := h6; clear h6) | (go_at_call 35; refine (HB1.out.want_no _ q6).mono ?_; rintro e w7 ⟨rfl, h7⟩; have HF : Hid (FX rb w v w7 _ _ b0 _ _) := h7; clear h7; have c3 := HF.out.fk.fl.c3; have lt := HF.out.fk.fl.lt; have ne := HF.out.fk.fl.ne; have bl := HF.out.lt; have bt := HF.out.cl 3; simp only [List.getElem?_toArray, List.getElem?_cons_zero, List.getElem?_cons_succ] at bt))
               go_upto_region 19 with fail
               obtain ⟨W, hW⟩ : ∃ V, V = w7 := ⟨_, rfl⟩
               have hS0 : w7.cell? ⟨b0, 3, none⟩ = some (.slice (some ⟨gu, 0, none⟩) 2 uc) /\ w7.cell? ⟨gu, 0, none⟩ = some (.int .i64 y0) /\ w7.cell? ⟨gu, 1, none⟩ = some (.int .i64 y1) := ⟨bt, (ir2 HF.out.fk.ir).1, (ir2 HF.out.fk.ir).2⟩
               clear hW W
               refine wp_region_held_drew (S := fun V => V.cell? ⟨b0, 3, none⟩ = some (.slice (some ⟨gu, 0, none⟩) 2 uc) /\ V.cell? ⟨gu, 0, none⟩ = some (.int .i64 y0) /\ V.cell? ⟨gu, 1, none⟩ = some (.int .i64 y1)) (by kernel_rfl) hS0 (fun hHeld => ?_)
               refine tk 0 104 (.pointer (some ⟨rb, 0, none⟩)) hHeld rfl (by intro V hS; (try dsimp only at hS); obtain ⟨q0, q1, q2⟩ := hS; go_simp) ?_
               try simp only [Act.put, zv2, zv3, zv4]
               refine tk 1 105 (.pointer (some ⟨b0, 3, none⟩)) hHeld rfl (by intro V hS; (try dsimp only at hS); obtain ⟨q0, q1, q2⟩ := hS; go_simp) ?_
               try simp only [Act.put, zv2, zv3, zv4]
               refine tk 2 106 (.slice (some ⟨gu, 0, none⟩) 2 uc) hHeld rfl (by intro V hS; (try dsimp only at hS); obtain ⟨q0, q1, q2⟩ := hS; go_simp) ?_
               try simp only [Act.put, zv2, zv3, zv4]
               refine tk 3 107 (.pointer (some ⟨gu, 0, none⟩)) hHeld rfl (by intro V hS; (try dsimp only at hS); obtain ⟨q0, q1, q2⟩ := hS; go_simp) ?_
               try simp only [Act.put, zv2, zv3, zv4]
               refine tk 4 108 (.int .i64 y0) hHeld rfl (by intro V hS; (try dsimp only at hS); obtain ⟨q0, q1, q2⟩ := hS; go_simp) ?_
               try simp only [Act.put, zv2, zv3, zv4]
               refine tk 5 109 (.pointer (some ⟨b0, 3, none⟩)) hHeld rfl (by intro V hS; (try dsimp only at hS); obtain ⟨q0, q1, q2⟩ := hS; go_simp) ?_
               try simp only [Act.put, zv2, zv3, zv4]
               refine tk 6 110 (.slice (some ⟨gu, 0, none⟩) 2 uc) hHeld rfl (by intro V hS; (try dsimp only at hS); obtain ⟨q0, q1, q2⟩ := hS; go_simp) ?_
               try simp only [Act.put, zv2, zv3, zv4]
               refine tk 7 111 (.pointer (some ⟨gu, 1, none⟩)) hHeld rfl (by intro V hS; (try dsimp only at hS); obtain ⟨q0, q1, q2⟩ := hS; go_simp) ?_
               try simp only [Act.put, zv2, zv3, zv4]
               refine tk 8 112 (.int .i64 y1) hHeld rfl (by intro V hS; (try dsimp only at hS); obtain ⟨q0, q1, q2⟩ := hS; go_simp) ?_
               try simp only [Act.put, zv2, zv3, zv4]
               refine tk 9 113 (.int .i64 a5) hHeld rfl (by intro V hS; (try dsimp only at hS); obtain ⟨q0, q1, q2⟩ := hS; go_simp) ?_
               try simp only [Act.put, zv2, zv3, zv4]
               refine wpAnyH_ready (rs := [10]) (by kernel_rfl) (by simp) ?_
               refine AllReadyH.cons (o := { dst := some 114, op := _, type := _, pos := _, after := _, guard := _ }) rfl (fun KK hK => ?_) AllReadyH.nil
               go_simp
               have HG : Hid (FX rb w v w7.drew _ _ b0 _ _) := HF.out.below ((Below.refl _ _).drew)
               have HG2 : Hid (FX rb w v _ _ _ b0 _ _) := HG.out.below ((Below.refl w7.drew.heap.size w7.drew).alloc (Nat.le_refl _) (.cells #[.int .i64 y0, .int .i64 y1, .int .i64 a5] 3))
               have hS1 : (w7.drew.alloc (.cells #[.int .i64 y0, .int .i64 y1, .int .i64 a5] 3)).cell? ⟨b0, 3, none⟩ = some (.slice (some ⟨gu, 0, none⟩) 2 uc) /\ (w7.drew.alloc (.cells #[.int .i64 y0, .int .i64 y1, .int .i64 a5] 3)).cell? ⟨gu, 0, none⟩ = some (.int .i64 y0) /\ (w7.drew.alloc (.cells #[.int .i64 y0, .int .i64 y1, .int .i64 a5] 3)).cell? ⟨gu, 1, none⟩ = some (.int .i64 y1) := ⟨HG2.out.cl 3, (ir2 HG2.out.fk.ir).1, (ir2 HG2.out.fk.ir).2⟩
               clear hHeld
               refine hK.out _ _ hS1 (fun hHeld => ?_)
               clear hK KK
               try simp only [Act.put, zv2, zv3, zv4]
               refine tk 11 115 (.agg #[.int .i64 16, .string ⟨#[]⟩, .int .i64 0, .slice (some ⟨w7.heap.size, 0, none⟩) 3 3]) hHeld rfl (by intro V hS; go_simp) ?_
               try simp only [Act.put, zv2, zv3, zv4]
               refine wpAnyH_ready (rs := [12]) (by kernel_rfl) (by simp) ?_
               refine AllReadyH.cons (o := { dst := some 116, op := _, type := _, pos := _, after := _, guard := _ }) rfl (fun KK hK => ?_) AllReadyH.nil
               go_simp
               go_at_call 17
               refine (zc rb _ _ _ HG2.out.fk.fl _ _ _ _ _ _).mono ?_
               rintro e w8 ⟨rfl, b8⟩
               have HG3 : Hid (FX rb w v w8 _ _ b0 _ _) := HG2.out.below b8
               have hS2 : w8.cell? ⟨b0, 3, none⟩ = some (.slice (some ⟨gu, 0, none⟩) 2 uc) /\ w8.cell? ⟨gu, 0, none⟩ = some (.int .i64 y0) /\ w8.cell? ⟨gu, 1, none⟩ = some (.int .i64 y1) := ⟨HG3.out.cl 3, (ir2 HG3.out.fk.ir).1, (ir2 HG3.out.fk.ir).2⟩
               clear hHeld b8
               refine hK.out _ _ hS2 (fun hHeld => ?_)
               clear hK KK
               try simp only [Act.put, zv2, zv3, zv4]
               refine tk 13 2 (.int .i64 (-1)) hHeld rfl (by intro V hS; go_simp) ?_
               try simp only [Act.put, zv2, zv3, zv4]
               refine wpAnyH_done (by kernel_rfl) ?_ _
               go_wp2
               go_ret
               have HR : Hid (Fl rb w8 _ _) := HG3.out.fk.fl
               have HB : Hid (Rf rb w v w8) := HG3.out.fk.rf
               exact RmE.no HR.out HB.out (by rw [HA.out, zkj f2]; simp only [laP, e5, e6])
         · skip
           go_wp2_with (go_at_call 33; refine (HX0.out.is ⟨#[59]⟩ false f1).mono ?_; rintro e w2 ⟨rfl, h2⟩; clear lt c1 c2 c3 fz wi bl bc; have HX1 : Hid (SX rb ts tv en w v kv w2 _ _ (⟨i1, d1, N ++ [⟨xk, xt, xi, xks⟩]⟩ : PS) b0 (#[.int .i64 xk, .string xt, .int .i64 xi, .slice ua xks.length uc])) := h2; clear h2 HX0; have lt := HX1.out.sm.rd.lt; have c1 := HX1.out.sm.rd.c1; have c2 := HX1.out.sm.rd.c2; have c3 := HX1.out.sm.rd.c3; have fz := HX1.out.sm.rd.fz; have wi := HX1.out.sm.wri; have bl := HX1.out.bx.lt; have bc := HX1.out.bx.cl 0; simp only [List.getElem?_toArray, List.getElem?_cons_zero] at bc; dsimp only at c1 wi)
           go_wp2_with (go_at_call 33; refine (HX1.out.is ⟨#[61]⟩ true f2).mono ?_; rintro e w2 ⟨rfl, h2⟩; clear lt c1 c2 c3 fz wi bl bc; have HX2 : Hid (SX rb ts tv en w v kv w2 _ _ (⟨i1, d1, N ++ [⟨xk, xt, xi, xks⟩]⟩ : PS) b0 (#[.int .i64 xk, .string xt, .int .i64 xi, .slice ua xks.length uc])) := h2; clear h2 HX1; have lt := HX2.out.sm.rd.lt; have c1 := HX2.out.sm.rd.c1; have c2 := HX2.out.sm.rd.c2; have c3 := HX2.out.sm.rd.c3; have fz := HX2.out.sm.rd.fz; have wi := HX2.out.sm.wri; have bl := HX2.out.bx.lt; have bc := HX2.out.bx.cl 0; simp only [List.getElem?_toArray, List.getElem?_cons_zero] at bc; dsimp only at c1 wi)
           go_wp2_with (go_at_call 33; refine (HX2.out.is ⟨#[61]⟩ true f2).mono ?_; rintro e w2 ⟨rfl, h2⟩; clear lt c1 c2 c3 fz wi bl bc; have HX3 : Hid (SX rb ts tv en w v kv w2 _ _ (⟨i1, d1, N ++ [⟨xk, xt, xi, xks⟩]⟩ : PS) b0 (#[.int .i64 xk, .string xt, .int .i64 xi, .slice ua xks.length uc])) := h2; clear h2 HX2; have lt := HX3.out.sm.rd.lt; have c1 := HX3.out.sm.rd.c1; have c2 := HX3.out.sm.rd.c2; have c3 := HX3.out.sm.rd.c3; have fz := HX3.out.sm.rd.fz; have wi := HX3.out.sm.wri; have bl := HX3.out.bx.lt; have bc := HX3.out.bx.cl 0; simp only [List.getElem?_toArray, List.getElem?_cons_zero] at bc; dsimp only at c1 wi)
           go_wp2_with (go_at_call 83; refine (HX3.out.sm.fail).mono ?_; rintro e w9 ⟨rfl, F9, b9⟩; have HR : Hid (Fl rb w9 _ _) := F9; have HB : Hid (Rf rb w v w9) := b9; clear F9 b9 HX3)
           go_ret
           exact RmE.no HR.out HB.out (by rw [HA.out, znl (by rw [f1]; simp) (fun q => k5 q.1) (fun q => k8 q.1)])
   · have f2 := zsu f1
     by_cases k9 : xk = 9
     · subst k9
       obtain ⟨xo, hxo, hlt⟩ := zah f1
       go_wp2_with (go_at_call 33; refine (HX0.out.is ⟨#[59]⟩ true f1).mono ?_; rintro e w2 ⟨rfl, h2⟩; clear lt c1 c2 c3 fz wi bl bc; have HX1 : Hid (SX rb ts tv en w v kv w2 _ _ (⟨i1, d1, N ++ [⟨9, xt, xi, xks⟩]⟩ : PS) b0 (#[.int .i64 9, .string xt, .int .i64 xi, .slice ua xks.length uc])) := h2; clear h2 HX0; have lt := HX1.out.sm.rd.lt; have c1 := HX1.out.sm.rd.c1; have c2 := HX1.out.sm.rd.c2; have c3 := HX1.out.sm.rd.c3; have fz := HX1.out.sm.rd.fz; have wi := HX1.out.sm.wri; have bl := HX1.out.bx.lt; have bc := HX1.out.bx.cl 0; simp only [List.getElem?_toArray, List.getElem?_cons_zero] at bc; dsimp only at c1 wi)
       have HS5 : Hid (Sm rb ts tv en w v kv _ _ _ (adv (⟨i1, d1, N ++ [⟨9, xt, xi, xks⟩]⟩ : PS))) := (HX1.out.adv hlt).sm
       have hn5 : (adv (⟨i1, d1, N ++ [⟨9, xt, xi, xks⟩]⟩ : PS)).ns.length <= 100000 := by show (N ++ [_]).length <= 100000; have := HP1.out; simp; omega
       clear c1 wi c2 bc
       go_wp2_with (go_at_call 17; refine (HS5.out.nodeN [(N.length : Int)] 20 eT 0 (by simp) hn5 _ _ _ (by simp) rfl rfl).mono ?_; rintro e w8 ⟨rfl, v8, K8, h8⟩; have HS9 : Hid (Sm rb ts tv en w v kv _ _ _ _) := h8; clear h8)
       go_ret
       exact RmE.yes HS9.out (by rw [HA.out, zu3 f1])
     · skip
       go_wp2_with (go_at_call 33; refine (HX0.out.is ⟨#[59]⟩ true f1).mono ?_; rintro e w2 ⟨rfl, h2⟩; clear lt c1 c2 c3 fz wi bl bc; have HX1 : Hid (SX rb ts tv en w v kv w2 _ _ (⟨i1, d1, N ++ [⟨xk, xt, xi, xks⟩]⟩ : PS) b0 (#[.int .i64 xk, .string xt, .int .i64 xi, .slice ua xks.length uc])) := h2; clear h2 HX0; have lt := HX1.out.sm.rd.lt; have c1 := HX1.out.sm.rd.c1; have c2 := HX1.out.sm.rd.c2; have c3 := HX1.out.sm.rd.c3; have fz := HX1.out.sm.rd.fz; have wi := HX1.out.sm.wri; have bl := HX1.out.bx.lt; have bc := HX1.out.bx.cl 0; simp only [List.getElem?_toArray, List.getElem?_cons_zero] at bc; dsimp only at c1 wi)
       go_wp2_with (go_at_call 33; refine (HX1.out.is ⟨#[61]⟩ false f2).mono ?_; rintro e w2 ⟨rfl, h2⟩; clear lt c1 c2 c3 fz wi bl bc; have HX2 : Hid (SX rb ts tv en w v kv w2 _ _ (⟨i1, d1, N ++ [⟨xk, xt, xi, xks⟩]⟩ : PS) b0 (#[.int .i64 xk, .string xt, .int .i64 xi, .slice ua xks.length uc])) := h2; clear h2 HX1; have lt := HX2.out.sm.rd.lt; have c1 := HX2.out.sm.rd.c1; have c2 := HX2.out.sm.rd.c2; have c3 := HX2.out.sm.rd.c3; have fz := HX2.out.sm.rd.fz; have wi := HX2.out.sm.wri; have bl := HX2.out.bx.lt; have bc := HX2.out.bx.cl 0; simp only [List.getElem?_toArray, List.getElem?_cons_zero] at bc; dsimp only at c1 wi)
       go_wp2_with (go_at_call 33; refine (HX2.out.is ⟨#[61]⟩ false f2).mono ?_; rintro e w2 ⟨rfl, h2⟩; clear lt c1 c2 c3 fz wi bl bc; have HX3 : Hid (SX rb ts tv en w v kv w2 _ _ (⟨i1, d1, N ++ [⟨xk, xt, xi, xks⟩]⟩ : PS) b0 (#[.int .i64 xk, .string xt, .int .i64 xi, .slice ua xks.length uc])) := h2; clear h2 HX2; have lt := HX3.out.sm.rd.lt; have c1 := HX3.out.sm.rd.c1; have c2 := HX3.out.sm.rd.c2; have c3 := HX3.out.sm.rd.c3; have fz := HX3.out.sm.rd.fz; have wi := HX3.out.sm.wri; have bl := HX3.out.bx.lt; have bc := HX3.out.bx.cl 0; simp only [List.getElem?_toArray, List.getElem?_cons_zero] at bc; dsimp only at c1 wi)
       go_wp2_with (go_at_call 83; refine (HX3.out.sm.fail).mono ?_; rintro e w9 ⟨rfl, F9, b9⟩; have HR : Hid (Fl rb w9 _ _) := F9; have HB : Hid (Rf rb w v w9) := b9; clear F9 b9 HX3)
       go_ret
       exact RmE.no HR.out HB.out (by rw [HA.out, znl (fun q => k9 q.1) (by rw [f2]; simp) (by rw [f2]; simp)])
end Go.Proofs.YtiglkhkfbgjjoaaGreatDoor
