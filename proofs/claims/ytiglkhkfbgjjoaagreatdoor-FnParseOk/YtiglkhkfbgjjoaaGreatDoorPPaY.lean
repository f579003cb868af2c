/- - -/
import Derived.Test.YtiglkhkfbgjjoaaGreatDoorPPaV
namespace Go.Proofs.YtiglkhkfbgjjoaaGreatDoor
set_option maxRecDepth 20000
open Go.RowKit Go.PlainAid Go.Maps
set_option linter.unusedSimpArgs false
set_option linter.unusedVariables false
structure Kd (rb : Nat) (w0 w1 : World) (v1 : Value) (kv1 : List Value) (u : Value) (ks : List Int) : Prop where
 own : Own rb w1 v1 kv1 u ks
 new : ∀ g, u.ownBlock = some g -> w0.heap.size <= g
section
variable {rb : Nat} {ts : List za} {tv : Value} {en : Nat} {w w0 w1 w2 : World} {v v1 v2 : Value} {kv K : List Value} {s s1 s2 : PS} {u : Value} {ks : List Int}
theorem Kd.zero (rb : Nat) (w0 w1 : World) (v1 : Value) (kv1 : List Value) : Kd rb w0 w1 v1 kv1 (.slice none 0 0) [] := ⟨Own.nil _ _ _ _, fun g h => by simp [Value.ownBlock] at h⟩
theorem Kd.keep {kv1 k1 : List Value} (h : Kd rb w0 w1 v1 kv1 u ks) (hs : St rb ts tv en w1 v1 kv1 w2 v2 k1 s2) : Kd rb w0 w2 v2 (kv1 ++ k1) u ks := by
 have hl : ∀ g, u.ownBlock = some g -> rb < g /\ g < w1.heap.size := fun g e => by have := World.ownsRow.lt h.own.row g e; omega
 refine ⟨⟨?_, fun g e hv => ?_, fun y g hy hg e => ?_⟩, h.new⟩
 · obtain ⟨h1, h2⟩ := h.own.row
   refine ⟨h1, ?_⟩
   rcases h2 with h2 | ⟨g, cap, cur, hv, hg, hc, r⟩
   · exact .inl h2
   · have e : u.ownBlock = some g := by rw [hv]; rfl
     have := hl g e
     exact .inr ⟨g, cap, cur, hv, hg, by rw [hs.rg.block g this.2 (by omega) (h.own.ne g e)]; exact hc, r⟩
 · rcases hs.rg.row g hv with h1 | h1
   · exact h.own.ne g e h1
   · have := (hl g e).2
     omega
 · rcases List.mem_append.1 hy with h1 | h1
   · exact h.own.nd y g h1 hg e
   · have := hs.rg.kid y g h1 hg
     have := (hl g e).2
     omega
theorem Kd.below {kv1 : List Value} (h : Kd rb w0 w1 v1 kv1 u ks) (hb : Below w1.heap.size w1 w2) : Kd rb w0 w2 v1 kv1 u ks := ⟨⟨h.own.row.below hb, h.own.ne, h.own.nd⟩, h.new⟩
theorem Kd.laid (h : St rb ts tv en w v kv w1 v1 K s1) (ks : List Int) (hk : ks.length <= 1048576) : Kd rb w (w1.alloc (.cells (icl ks).toArray 3)) v1 (kv ++ K) (.slice (some ⟨w1.heap.size, 0, none⟩) ks.length ks.length) ks := by
 refine ⟨⟨IR.new (B := rb + 1) (w := w1) ks (by have := h.rd.lt; omega) hk, fun g hg e => ?_, fun y g hy hg e => ?_⟩, fun g hg => ?_⟩
 · have := (World.ownsRow.lt h.rd.nd.own g e).2
   simp [Value.ownBlock] at hg
   omega
 · have := (zha h.rd hy hg).2
   simp [Value.ownBlock] at e
   omega
 · simp [Value.ownBlock] at hg
   have := h.rg.size
   omega
theorem Kd.grow (h : St rb ts tv en w v kv w1 v1 K s1) (hk : Kd rb w w1 v1 (kv ++ K) u ks) {o : Obj} {u' : Value} {x : Int} (hown : w2.ownsRow (rb + 1) 3 1 u' (ks.length + 1) (icl ks ++ [.int .i64 x])) (hg : (w1.alloc o).grownBy w2 u.ownBlock) (hat : u'.ownBlock = u.ownBlock \/ u'.ownBlock = some (w1.heap.size + 1)) :
 St rb ts tv en w v kv w2 v1 K s1 /\ Kd rb w w2 v1 (kv ++ K) u' (ks ++ [x]) := by
 have a0 : Below w1.heap.size w1 (w1.alloc o) := (Below.refl _ _).alloc (Nat.le_refl _) _
 have ha := h.below a0
 have hu : ∀ g, u.ownBlock = some g -> rb < g /\ g < w1.heap.size := fun g e => by have := World.ownsRow.lt hk.own.row g e; omega
 have hbk : ∀ k, k < (w1.alloc o).heap.size -> u.ownBlock ≠ some k -> w2.heap[k]? = (w1.alloc o).heap[k]? := fun k h1 h2 => hg.block k h1 (fun e => h2 e.symm)
 have hrbu : u.ownBlock ≠ some rb := fun e => by have := (hu rb e).1; omega
 have hb := hbk rb ha.rd.lt hrbu
 have hc : ∀ i, w2.cell? ⟨rb, i, Option.none⟩ = (w1.alloc o).cell? ⟨rb, i, Option.none⟩ := fun i => World.cell?_of_block (a := ⟨rb, i, Option.none⟩) hb
 have vu : v1.ownBlock = Option.none \/ v1.ownBlock ≠ u.ownBlock := by
  cases hq : v1.ownBlock with
  | none => exact .inl rfl
  | some g => exact .inr (fun e => hk.own.ne g e.symm hq)
 have rdd : Rdr rb ts tv en w2 v1 (kv ++ K) s1 := by
  refine ⟨Nat.lt_of_lt_of_le ha.rd.lt hg.size, by rw [hc]; exact ha.rd.c0, by rw [hc]; exact ha.rd.c1, by rw [hc]; exact ha.rd.c2, by rw [hc]; exact ha.rd.c3, by rw [hc]; exact ha.rd.c4, fun i => by rw [World.frozen?_of_block (a := ⟨rb, i, Option.none⟩) hb]; exact ha.rd.fz i, ?_, ha.rd.tlt, ha.rd.il, ha.rd.tl, ha.rd.dl, ha.rd.tb.below ⟨hg.os, hg.tape, hg.output, hg.size, fun k hk2 => hbk k (Nat.lt_trans hk2 ha.rd.lt) (fun e => by have := (hu k e).1; omega)⟩, ha.rd.kl, ⟨ha.rd.nd.len, World.ownsRow.kept ha.rd.nd.own hg vu, fun j y z hy hz => World.ownsRow.kept (ha.rd.nd.kid j y z hy hz) hg ?_, ha.rd.nd.ne, ha.rd.nd.nd⟩⟩
  · refine World.ownsRow.kept ha.rd.tk hg ?_
    cases hq : tv.ownBlock with
    | none => exact .inl rfl
    | some g => exact .inr (fun e => by have := ha.rd.tlt g hq; have := (hu g e.symm).1; omega)
  · cases hq : z.ownBlock with
    | none => exact .inl rfl
    | some g => exact .inr (fun e => hk.own.nd z g (List.mem_of_getElem? hz) hq e.symm)
 refine ⟨⟨h.lt, h.ov, rdd, ⟨hg.os.trans ha.rg.os, hg.tape.trans ha.rg.tape, hg.output.trans ha.rg.output, Nat.le_trans ha.rg.size hg.size, fun k hk1 hk2 hk3 => ?_, ha.rg.row, ha.rg.kid⟩⟩, ⟨⟨?_, fun g e hv => ?_, fun y g hy hyg e => ?_⟩, fun g e => ?_⟩⟩
 · rw [hbk k (Nat.lt_of_lt_of_le hk1 ha.rg.size) (fun e => by have := hk.new k e; omega)]
   exact ha.rg.block k hk1 hk2 hk3
 · unfold IR
   rw [zfn, List.length_append]
   exact hown
 · rcases hat with h1 | h1
   · exact hk.own.ne g (h1 ▸ e) hv
   · have h2 := (World.ownsRow.lt h.rd.nd.own g hv).2
     rw [h1] at e
     injection e with e
     try simp at e
     omega
 · rcases hat with h1 | h1
   · exact hk.own.nd y g hy hyg (h1 ▸ e)
   · have h2 := (zha h.rd hy hyg).2
     rw [h1] at e
     injection e with e
     try simp at e
     omega
 · rcases hat with h1 | h1
   · exact hk.new g (h1 ▸ e)
   · rw [h1] at e
     injection e with e
     try simp at e
     have := h.rg.size
     omega
theorem Kd.growN (h : St rb ts tv en w v kv w1 v1 K s1) (hk : Kd rb w w1 v1 (kv ++ K) u ks) {u' : Value} {zs : List Int} (hown : w2.ownsRow (rb + 1) 3 1 u' (ks.length + zs.length) (icl ks ++ icl zs)) (hg : w1.grownBy w2 u.ownBlock) (hat : u'.ownBlock = u.ownBlock \/ u'.ownBlock = some w1.heap.size) :
 St rb ts tv en w v kv w2 v1 K s1 /\ Kd rb w w2 v1 (kv ++ K) u' (ks ++ zs) := by
 have ha := h
 have hu : ∀ g, u.ownBlock = some g -> rb < g /\ g < w1.heap.size := fun g e => by have := World.ownsRow.lt hk.own.row g e; omega
 have hbk : ∀ k, k < w1.heap.size -> u.ownBlock ≠ some k -> w2.heap[k]? = w1.heap[k]? := fun k h1 h2 => hg.block k h1 (fun e => h2 e.symm)
 have hrbu : u.ownBlock ≠ some rb := fun e => by have := (hu rb e).1; omega
 have hb := hbk rb ha.rd.lt hrbu
 have hc : ∀ i, w2.cell? ⟨rb, i, Option.none⟩ = w1.cell? ⟨rb, i, Option.none⟩ := fun i => World.cell?_of_block (a := ⟨rb, i, Option.none⟩) hb
 have vu : v1.ownBlock = Option.none \/ v1.ownBlock ≠ u.ownBlock := by
  cases hq : v1.ownBlock with
  | none => exact .inl rfl
  | some g => exact .inr (fun e => hk.own.ne g e.symm hq)
 have rdd : Rdr rb ts tv en w2 v1 (kv ++ K) s1 := by
  refine ⟨Nat.lt_of_lt_of_le ha.rd.lt hg.size, by rw [hc]; exact ha.rd.c0, by rw [hc]; exact ha.rd.c1, by rw [hc]; exact ha.rd.c2, by rw [hc]; exact ha.rd.c3, by rw [hc]; exact ha.rd.c4, fun i => by rw [World.frozen?_of_block (a := ⟨rb, i, Option.none⟩) hb]; exact ha.rd.fz i, ?_, ha.rd.tlt, ha.rd.il, ha.rd.tl, ha.rd.dl, ha.rd.tb.below ⟨hg.os, hg.tape, hg.output, hg.size, fun k hk2 => hbk k (Nat.lt_trans hk2 ha.rd.lt) (fun e => by have := (hu k e).1; omega)⟩, ha.rd.kl, ⟨ha.rd.nd.len, World.ownsRow.kept ha.rd.nd.own hg vu, fun j y z hy hz => World.ownsRow.kept (ha.rd.nd.kid j y z hy hz) hg ?_, ha.rd.nd.ne, ha.rd.nd.nd⟩⟩
  · refine World.ownsRow.kept ha.rd.tk hg ?_
    cases hq : tv.ownBlock with
    | none => exact .inl rfl
    | some g => exact .inr (fun e => by have := ha.rd.tlt g hq; have := (hu g e.symm).1; omega)
  · cases hq : z.ownBlock with
    | none => exact .inl rfl
    | some g => exact .inr (fun e => hk.own.nd z g (List.mem_of_getElem? hz) hq e.symm)
 refine ⟨⟨h.lt, h.ov, rdd, ⟨hg.os.trans ha.rg.os, hg.tape.trans ha.rg.tape, hg.output.trans ha.rg.output, Nat.le_trans ha.rg.size hg.size, fun k hk1 hk2 hk3 => ?_, ha.rg.row, ha.rg.kid⟩⟩, ⟨⟨?_, fun g e hv => ?_, fun y g hy hyg e => ?_⟩, fun g e => ?_⟩⟩
 · rw [hbk k (Nat.lt_of_lt_of_le hk1 ha.rg.size) (fun e => by have := hk.new k e; omega)]
   exact ha.rg.block k hk1 hk2 hk3
 · unfold IR
   rw [show icl (ks ++ zs) = icl ks ++ icl zs by simp [icl], List.length_append]
   exact hown
 · rcases hat with h1 | h1
   · exact hk.own.ne g (h1 ▸ e) hv
   · have h2 := (World.ownsRow.lt h.rd.nd.own g hv).2
     rw [h1] at e
     injection e with e
     try simp at e
     omega
 · rcases hat with h1 | h1
   · exact hk.own.nd y g hy hyg (h1 ▸ e)
   · have h2 := (zha h.rd hy hyg).2
     rw [h1] at e
     injection e with e
     try simp at e
     omega
 · rcases hat with h1 | h1
   · exact hk.new g (h1 ▸ e)
   · rw [h1] at e
     injection e with e
     try simp at e
     have := h.rg.size
     omega
theorem St.addK (h : St rb ts tv en w v kv w1 v1 K s1) (hk : Kd rb w w1 v1 (kv ++ K) u ks) (k : Int) (t : ByteArray) (i : Int) (hn : s1.ns.length <= 100000) (hks : k = 8 -> ks.length <= 10 := by simp) :
 Calls Tryz.prog 31 #[.pointer (some ⟨rb, 0, Option.none⟩), .int .i64 k, .string t, .int .i64 i, u] w1 fun e w2 => e = .returned (.int .i64 (zb k t i ks s1).1) /\ ∃ v2 K2, St rb ts tv en w v kv w2 v2 K2 (zb k t i ks s1).2 :=
 (zh9 rb ts tv en w1 v1 _ s1 k t i _ ks h.rd hk.own hn hks).mono fun e w2 ⟨h1, v2, h2, h3⟩ => ⟨h1, v2, K ++ [u], h.lt, h.ov, by rw [<- List.append_assoc]; exact h2, by
   have g1 : Rg rb w v w2 v2 K := by simpa using h.rg.trans h3
   exact g1.more hk.new⟩
end
def LsE (rb : Nat) (ts : List za) (tv : Value) (en : Nat) (w : World) (v : Value) (kv : List Value) (r : Except (Int × Int) (List Int × PS)) (e : Ending) (w' : World) : Prop :=
 (∀ ks s', r = .ok (ks, s') -> ∃ u, e = .returned u /\ ∃ v' K, St rb ts tv en w v kv w' v' K s' /\ Kd rb w w' v' (kv ++ K) u ks) /\ (∀ x, r = .error x -> e = pan x.1 x.2 /\ Below rb w w')
section
variable {rb : Nat} {ts : List za} {tv : Value} {en : Nat} {w w1 : World} {v v1 : Value} {kv K : List Value} {s1 : PS}
theorem LsE.yes {r : Except (Int × Int) (List Int × PS)} {ks : List Int} {u : Value} (h : St rb ts tv en w v kv w1 v1 K s1) (hk : Kd rb w w1 v1 (kv ++ K) u ks) (hE : r = .ok (ks, s1)) : LsE rb ts tv en w v kv r (.returned u) w1 := by
 subst hE
 exact ⟨fun n' s' e => by injection e with e; injection e with e1 e2; subst e1 e2; exact ⟨_, rfl, _, _, h, hk⟩, fun x e => by cases e⟩
theorem LsE.no {r : Except (Int × Int) (List Int × PS)} {x : Int × Int} (h : Below rb w w1) (hE : r = .error x) : LsE rb ts tv en w v kv r (pan x.1 x.2) w1 := by
 subst hE
 exact ⟨fun n' s' e => (by cases e), fun x' e => by injection e with e; subst e; exact ⟨rfl, h⟩⟩
end
theorem St.both {rb : Nat} {ts : List za} {tv : Value} {en : Nat} {w w1 w2 : World} {v v1 v2 : Value} {kv K k : List Value} {s1 s2 : PS} {u : Value} {ks : List Int} (h : St rb ts tv en w v kv w1 v1 K s1) (hk : Kd rb w w1 v1 (kv ++ K) u ks) (h2 : St rb ts tv en w1 v1 (kv ++ K) w2 v2 k s2) : St rb ts tv en w v kv w2 v2 (K ++ k) s2 /\ Kd rb w w2 v2 (kv ++ (K ++ k)) u ks :=
 ⟨h.e h2, by rw [<- List.append_assoc]; exact hk.keep h2⟩
def zca (rb : Nat) (w : World) : Nat := (intOf ((w.cell? ⟨rb, 1, none⟩).getD (.int .i64 0))).toNat
theorem zbm {rb : Nat} {ts : List za} {tv : Value} {en : Nat} {w : World} {v : Value} {kv : List Value} {s : PS} (h : Rdr rb ts tv en w v kv s) : zca rb w = s.i := by
 unfold zca
 rw [h.c1]
 simp [intOf]
set_option maxHeartbeats 2000000 in
theorem zih {rb : Nat} {ts : List za} {tv : Value} {en : Nat} {n F : Nat} {rd : PS -> Except (Int × Int) (Int × PS)} (hrd : ∀ (w : World) (v : Value) (kv : List Value) (s : PS), Rdr rb ts tv en w v kv s -> s.ns.length <= 8 * s.i -> ts.length < s.i + n -> Calls Tryz.prog F #[.pointer (some ⟨rb, 0, none⟩)] w (RdE rb ts tv en w v kv (rd s))) (hok : ∀ {s : PS} {a : Int} {s' : PS}, rd s = .ok (a, s') -> OkF ts s a s') (b : ByteArray) (w : World) (v : Value) (kv : List Value) (s : PS) (h : Rdr rb ts tv en w v kv s) (hp : s.ns.length <= 8 * s.i) (hf : ts.length < s.i + n) (hen : ∀ az w, (callFunc F az).run Tryz.prog w = .ok (.enter F az) w) :
 Calls Tryz.prog 122 #[.pointer (some ⟨rb, 0, none⟩), .string b, .func (.func F) #[.pointer (some ⟨rb, 0, none⟩)] #[]] w (LsE rb ts tv en w v kv (lsP ts en rd b (ts.length + 1) s)) := by
 obtain ⟨i0, hi, hz0, hz1, hz2⟩ := info_parts zb6
 have HS0 : Hid (St rb ts tv en w v kv w v [] s) := St.begin h
 have hT : ts.length <= 3000 := h.tl
 have hI : s.i <= ts.length := h.il
 clear h
 go_enter Tryz.func122, Tryz.ntmps122
 cases e1 : isN ts b s
 · go_wp2_with (go_at_call 69; refine (HS0.out.pass_no b e1).mono ?_; rintro e w1 ⟨rfl, h1⟩; have HS1 : Hid (St rb ts tv en w v kv _ _ _ s) := h1; clear h1 HS0)
   go_loopw [7] (fun u wr => ∃ (ks : List Int) (s' : PS) (v' : Value) (K' : List Value) (m : Nat), Hid (St rb ts tv en w v kv wr v' K' s') /\ Hid (Kd rb w wr v' (kv ++ K') u ks) /\ Hid (lsL ts en rd b m ks s' = lsP ts en rd b (ts.length + 1) s) /\ s'.ns.length <= 8 * s'.i /\ ts.length < s'.i + m /\ s.i <= s'.i /\ ks.length <= s'.i) (fun _ wr => ts.length - zca rb wr)
   case atStart => exact ⟨[], s, v, [], ts.length + 1, HS1.out, Kd.zero _ _ _ _ _, (by show _ = _; unfold lsP; rw [e1]; rfl), hp, by omega, Nat.le_refl _, Nat.zero_le _⟩
   case round =>
    obtain ⟨ks, s', v', K', m, HS2, HK, HE, hp2, hf2, hi2, hkl⟩ := hrel
    have hI2 : s'.i <= ts.length := HS2.out.rd.il
    have hq2 : Hid (zca rb wr = s'.i) := zbm HS2.out.rd
    obtain ⟨m', rfl⟩ : ∃ m', m = m' + 1 := ⟨m - 1, by omega⟩
    rcases hx : rd s' with ⟨x⟩ | ⟨a, s2⟩
    · go_wp2_with (refine (HS2.out.no (hrd _ _ _ _ HS2.out.rd hp2 (by omega)) hx).mono ?_; rintro e w3 ⟨he, b3⟩; unfold pan at he; subst he; have HB : Hid (Below rb w w3) := b3; clear b3 HS2)
      exact ⟨rfl, LsE.no HB.out (by rw [<- HE.out]; unfold lsL; rw [hx])⟩
    · have o3 := hok hx
      have p3 : s2.ns.length <= 8 * s2.i := by have := o3.1.phi hp2; omega
      have i3 := o3.1.1
      have t3 := o3.1.2.1
      have hu := HK.out.own.row
      go_wp2_with (first | (refine (hrd _ _ _ _ HS2.out.rd hp2 (by omega)).mono ?_; rintro e w3 hh; obtain ⟨rfl, v3, k3, h3⟩ := hh.1 a s2 hx; obtain ⟨h4, k4⟩ := HS2.out.both HK.out h3; have HS3 : Hid (St rb ts tv en w v kv w3 v3 (K' ++ k3) s2) := h4; have HK3 : Hid (Kd rb w w3 v3 (kv ++ (K' ++ k3)) u7 ks) := k4; clear h4 k4 h3 hh HS2 HK) | (at_builtin; refine wpList_append_own_at _ rfl _ _ 32 rfl (rb + 1) 3 i0 (.int .i64 0) 1 8 Tryz.underlying32 hi hz0 hz1 hz2 rfl (by decide) u7 ks.length (icl ks) rfl (IR.alloc HK3.out.own.row _) ⟨w3.heap.size, 0, none⟩ 1 1 [.int .i64 a] rfl rfl (fun j y hy => by have e : (w3.alloc (.cells #[.int .i64 a] 3)).cell? ((⟨w3.heap.size, 0, none⟩ : Addr).add j) = (#[.int .i64 a] : Array Value)[j]? := (by cases j <;> simp [go_sem, Addr.add]); rw [e, <- hy]; simp) (by simp [Value.oneCell']) (by unfold maxLen; omega) (by omega) (by have := HS3.out.rd.lt; simp; omega) ?_))
      intro u' w4 hown hgrow _ hat
      obtain ⟨h4, k4⟩ := Kd.grow HS3.out HK3.out hown hgrow hat
      have HS4 : Hid (St rb ts tv en w v kv w4 v3 (K' ++ k3) s2) := h4
      have HK4 : Hid (Kd rb w w4 v3 (kv ++ (K' ++ k3)) u' (ks ++ [a])) := k4
      clear h4 k4 hown hgrow hat HS3 HK3 hu
      cases e5 : isN ts b s2
      · go_wp2_with (go_at_call 69; refine ((St.begin HS4.out.rd).pass_no b e5).mono ?_; rintro e w5 ⟨rfl, h5⟩; obtain ⟨h6, k6⟩ := HS4.out.both HK4.out h5; have HS5 : Hid (St rb ts tv en w v kv w5 v3 (K' ++ k3 ++ []) s2) := h6; have HK5 : Hid (Kd rb w w5 v3 (kv ++ (K' ++ k3 ++ [])) u' (ks ++ [a])) := k6; clear h5 h6 k6 HS4 HK4)
        rcases zac ts en ⟨#[44]⟩ s2 with ⟨q6, e6⟩ | ⟨q6, e6⟩
        · go_wp2_with (go_at_call 71; refine ((St.begin HS5.out.rd).want_yes ⟨#[44]⟩ q6).mono ?_; rintro e w6 ⟨rfl, h7⟩; obtain ⟨h8, k8⟩ := HS5.out.both HK5.out h7; have HS6 : Hid (St rb ts tv en w v kv w6 v3 (K' ++ k3 ++ [] ++ []) (adv s2)) := h8; have HK6 : Hid (Kd rb w w6 v3 (kv ++ (K' ++ k3 ++ [] ++ [])) u' (ks ++ [a])) := k8; clear h7 h8 k8 HS5 HK5)
          have hq6 : Hid (zca rb w6 = s2.i + 1) := zbm HS6.out.rd
          have hi6 : s2.i < ts.length := zar ts q6
          go_roundw
          case rel => exact ⟨ks ++ [a], adv s2, v3, _, m', HS6.out, HK6.out, (by show _ = _; rw [<- HE.out]; conv => rhs; unfold lsL; simp only [hx, e5, e6, Bool.false_eq_true, ↓reduceIte]), (by show s2.ns.length <= 8 * (s2.i + 1); omega), (by show ts.length < s2.i + 1 + m'; omega), (by show s.i <= s2.i + 1; omega), (by rw [List.length_append]; show ks.length + 1 <= s2.i + 1; omega)⟩
          case measure => rw [hq6.out, hq2.out]; omega
        · go_wp2_with (go_at_call 71; refine (HS5.out.want_no ⟨#[44]⟩ q6).mono ?_; rintro e w6 ⟨he, b3⟩; unfold pan at he; subst he; have HB : Hid (Below rb w w6) := b3; clear b3 HS5)
          exact ⟨rfl, LsE.no HB.out (by rw [<- HE.out]; unfold lsL; simp only [hx, e5, e6, Bool.false_eq_true, ↓reduceIte])⟩
      · go_wp2_with (go_at_call 69; refine ((St.begin HS4.out.rd).pass_yes b e5).mono ?_; rintro e w5 ⟨rfl, h5⟩; obtain ⟨h6, k6⟩ := HS4.out.both HK4.out h5; have HS5 : Hid (St rb ts tv en w v kv w5 v3 (K' ++ k3 ++ []) (adv s2)) := h6; have HK5 : Hid (Kd rb w w5 v3 (kv ++ (K' ++ k3 ++ [])) u' (ks ++ [a])) := k6; clear h5 h6 k6 HS4 HK4)
        go_ret
        exact LsE.yes HS5.out HK5.out (by rw [<- HE.out]; unfold lsL; simp only [hx, e5, ↓reduceIte])
 · go_wp2_with (go_at_call 69; refine (HS0.out.pass_yes b e1).mono ?_; rintro e w1 ⟨rfl, h1⟩; have HS1 : Hid (St rb ts tv en w v kv _ _ _ (adv s)) := h1; clear h1 HS0)
   go_ret
   exact LsE.yes HS1.out (Kd.zero _ _ _ _ _) (by unfold lsP; rw [e1]; rfl)
end Go.Proofs.YtiglkhkfbgjjoaaGreatDoor
