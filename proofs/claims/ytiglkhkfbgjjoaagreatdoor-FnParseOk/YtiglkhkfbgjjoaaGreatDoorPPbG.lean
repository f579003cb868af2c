/- - -/
import Derived.Test.YtiglkhkfbgjjoaaGreatDoorPPbE
namespace Go.Proofs.YtiglkhkfbgjjoaaGreatDoor
set_option maxRecDepth 20000
open Go.RowKit Go.PlainAid Go.Maps
set_option linter.unusedSimpArgs false
set_option linter.unusedVariables false
theorem NdR.back {B : Nat} {w : World} {v : Value} {ns : List KnL} {x : KnL} {kv : List Value} {u : Value} (h : NdR B w v (ns ++ [x]) (kv ++ [u])) :
 ∃ g c, v = .slice (some ⟨g, 0, none⟩) (ns.length + 1) c /\ ns.length + 1 <= c /\ c <= maxLen /\ B <= g /\ g < w.heap.size /\ NdR B w (.slice (some ⟨g, 0, none⟩) ns.length c) ns kv /\ IR B w u x.ks /\ (∀ k, u.ownBlock = some k -> k ≠ g) /\ (∀ (y : Value) (k : Nat), y ∈ kv -> y.ownBlock = some k -> u.ownBlock ≠ some k) /\ w.cell? ⟨g, ns.length * 4, none⟩ = some (.int .i64 x.k) /\ w.cell? ⟨g, ns.length * 4 + 1, none⟩ = some (.string x.t) /\ w.cell? ⟨g, ns.length * 4 + 2, none⟩ = some (.int .i64 x.i) /\ w.cell? ⟨g, ns.length * 4 + 3, none⟩ = some u := by
 have hl : ns.length = kv.length := by have := h.len; simpa using this
 have hown := h.own
 have hlt := fun k e => World.ownsRow.lt h.own k e
 obtain ⟨h1, ⟨hv, h0⟩ | ⟨g, cap, cur, hv, hg, hc, hn, hcap, hs, hx⟩⟩ := h.own
 · simp at h0
 simp only [List.length_append, List.length_singleton] at hv hn hx h1 hown
 rw [zfj hl] at hx hown
 have hkl := zic hl
 subst hv
 have hgw := hlt g rfl
 have cell : ∀ j y, ([.int .i64 x.k, .string x.t, .int .i64 x.i, u] : List Value)[j]? = some y -> w.cell? ⟨g, ns.length * 4 + j, none⟩ = some y := fun j y hy => by
  have hj : j < 4 := by have := (List.getElem?_eq_some_iff.1 hy).1; simpa using this
  have := World.ownsRow.cellAt hown (ns.length * 4 + j) (by omega)
  rw [List.getElem?_append_right (by omega), hkl, Nat.add_sub_cancel_left, hy] at this
  exact this
 have hu : (kv ++ [u])[ns.length]? = some u := by rw [hl, List.getElem?_append_right (Nat.le_refl _)]; simp
 have hxx : (ns ++ [x])[ns.length]? = some x := by rw [List.getElem?_append_right (Nat.le_refl _)]; simp
 have lift : ∀ (j : Nat) (y : Value), kv[j]? = some y -> (kv ++ [u])[j]? = some y := fun j y e => by rw [List.getElem?_append_left (List.getElem?_eq_some_iff.1 e).1]; exact e
 refine ⟨g, cap, rfl, hn, hcap, hg, hgw.2, ⟨hl, ⟨hkl, .inr ⟨g, cap, cur, rfl, hg, hc, by omega, hcap, hs, ?_⟩⟩, fun j y z hy hz => h.kid j y z (by rw [List.getElem?_append_left (List.getElem?_eq_some_iff.1 hy).1]; exact hy) (lift j z hz), fun j z k hz hk => ?_, fun i j y z k hy hz hij => h.nd i j y z k (lift i y hy) (lift j z hz) hij⟩, h.kid _ x u hxx hu, fun k hk e => ?_, fun y k hy hk e => ?_, cell 0 _ rfl, cell 1 _ rfl, cell 2 _ rfl, cell 3 _ rfl⟩
 · have : cur.toList.take (ns.length * 4) = (cur.toList.take ((ns.length + 1) * 4)).take (ns.length * 4) := by rw [List.take_take, Nat.min_eq_left (by omega)]
   rw [this, hx, <- hkl, List.take_left']
   rfl
 · exact h.ne j z k (lift j z hz) hk
 · exact h.ne _ u k hu hk (by rw [e]; rfl)
 · obtain ⟨j, hj, he⟩ := List.getElem_of_mem hy
   have hjy : kv[j]? = some y := by rw [List.getElem?_eq_getElem hj, he]
   exact h.nd j ns.length y u k (lift j y hjy) hu (by omega) hk e
theorem Rdr.back4 {rb : Nat} {ts : List za} {tv : Value} {en : Nat} {w : World} {v : Value} {kv : List Value} {u : Value} {i d : Nat} {ns : List KnL} {x : KnL} {g c : Nat} (h : Rdr rb ts tv en w v (kv ++ [u]) ⟨i, d, ns ++ [x]⟩) (hv : v = .slice (some ⟨g, 0, none⟩) (ns.length + 1) c) (hB : rb + 1 <= g) (hn : NdR (rb + 1) w (.slice (some ⟨g, 0, none⟩) ns.length c) ns kv) (hu : IR (rb + 1) w u x.ks) (h1 : ∀ k, u.ownBlock = some k -> k ≠ g) (h2 : ∀ (y : Value) (k : Nat), y ∈ kv -> y.ownBlock = some k -> u.ownBlock ≠ some k) :
 Rdr rb ts tv en (w.setCell ⟨rb, 4, none⟩ (.slice (some ⟨g, 0, none⟩) ns.length c)) (.slice (some ⟨g, 0, none⟩) ns.length c) kv ⟨i, d, ns⟩ /\ Rg rb w v (w.setCell ⟨rb, 4, none⟩ (.slice (some ⟨g, 0, none⟩) ns.length c)) (.slice (some ⟨g, 0, none⟩) ns.length c) [] /\ Own rb (w.setCell ⟨rb, 4, none⟩ (.slice (some ⟨g, 0, none⟩) ns.length c)) (.slice (some ⟨g, 0, none⟩) ns.length c) kv u x.ks := by
 generalize hv' : (.slice (some ⟨g, 0, none⟩) ns.length c : Value) = v' at hn ⊢
 have o : ∀ i, i ≠ 4 -> (w.setCell ⟨rb, 4, none⟩ v').cell? ⟨rb, i, none⟩ = w.cell? ⟨rb, i, none⟩ := fun i hi => World.cell?_setCell_other _ _ _ _ (fun e => by have := congrArg Addr.off e; simp at this; omega)
 have hb : ∀ k, k ≠ rb -> (w.setCell ⟨rb, 4, none⟩ v').heap[k]? = w.heap[k]? := fun k hk => Below.heap_setCell w ⟨rb, 4, none⟩ _ k hk
 have hg : w.grownBy (w.setCell ⟨rb, 4, none⟩ v') (some rb) := ⟨rfl, rfl, rfl, by simp, fun k _ hk => hb k (fun e => hk (by rw [e]))⟩
 refine ⟨⟨by simpa using h.lt, by rw [o 0 (by omega)]; exact h.c0, by rw [o 1 (by omega)]; exact h.c1, by rw [o 2 (by omega)]; exact h.c2, by rw [o 3 (by omega)]; exact h.c3, World.cell?_setCell_same' _ _ _ (by rw [h.c4]; rfl), fun i => by simp [go_sem, h.fz], World.ownsRow.kept h.tk hg (.inr (fun e => by have := h.tlt rb e; omega)), h.tlt, h.il, h.tl, h.dl, h.tb.below ⟨rfl, rfl, rfl, by simp, fun k hk => hb k (by omega)⟩, (fun y hy => h.kl y (List.mem_append_left _ hy)), hn.keptBut hg (fun r e => by injection e with e; omega)⟩, ⟨rfl, rfl, rfl, by simp, fun k _ hk _ => hb k hk, fun r e => .inl (by rw [hv]; rw [<- hv'] at e; exact e), fun _ _ h => by simp at h⟩, ⟨World.ownsRow.kept hu hg ?_, fun k hk e => ?_, h2⟩⟩
 · cases hq : u.ownBlock with
   | none => exact .inl rfl
   | some k => exact .inr (fun e => by have := (World.ownsRow.lt hu k hq).1; injection e with e; omega)
 · rw [<- hv'] at e
   injection e with e
   exact h1 k hk e.symm
set_option maxHeartbeats 1000000 in
theorem zlx (rb : Nat) (ts : List za) (tv : Value) (en : Nat) (w : World) (v : Value) (kv : List Value) (u : Value) (i d : Nat) (ns : List KnL) (x : KnL) (h : Rdr rb ts tv en w v (kv ++ [u]) ⟨i, d, ns ++ [x]⟩) (hl : ns.length <= 100000) :
 Calls Tryz.prog 104 #[.pointer (some ⟨rb, 0, none⟩)] w fun e w' => e = .returned (.agg #[.int .i64 x.k, .string x.t, .int .i64 x.i, u]) /\ ∃ v', Rdr rb ts tv en w' v' kv ⟨i, d, ns⟩ /\ Rg rb w v w' v' [] /\ Own rb w' v' kv u x.ks := by
 obtain ⟨g, c, hv, hn, hm, hB, hgw, hnd, hu, h1, h2, c0, c1, c2, c3⟩ := h.nd.back
 have R := h.back4 hv hB hnd hu h1 h2
 have HR := (show Hid _ from R)
 have c4 := h.c4
 have lt := h.lt
 have f4 := h.fz 4
 have hl' : (ns.length : Int) <= 100000 := by omega
 have hc' : (ns.length : Int) + 1 <= (c : Int) := by omega
 subst hv
 obtain ⟨ua, uc, rfl⟩ := hu.form
 clear h R hnd hu h1 h2 hm
 go_enter Tryz.func104, Tryz.ntmps104
 go_wp2
 have hb := ((Below.refl (w.setCell ⟨rb, 4, none⟩ (.slice (some ⟨g, 0, none⟩) ns.length c)).heap.size (w.setCell ⟨rb, 4, none⟩ (.slice (some ⟨g, 0, none⟩) ns.length c))).alloc (Nat.le_refl _) (.cells #[.int .i64 x.k, .string x.t, .int .i64 x.i, .slice ua x.ks.length uc] 34)).alloc (by simp) (.cells #[.int .i64 x.k, .string x.t, .int .i64 x.i, .slice ua x.ks.length uc] 34)
 refine bodyPost_ret (v := .agg #[.int .i64 x.k, .string x.t, .int .i64 x.i, .slice ua x.ks.length uc]) (by simp [results, Tryz.results104, go_sem]) rfl ⟨rfl, _, HR.out.1.below hb, HR.out.2.1.trans (Rg.of_below hb), ⟨HR.out.2.2.row.below hb, HR.out.2.2.ne, HR.out.2.2.nd⟩⟩
theorem St.back {rb : Nat} {ts : List za} {tv : Value} {en : Nat} {w w1 : World} {v v1 : Value} {kv K : List Value} {u : Value} {i d : Nat} {ns : List KnL} {x : KnL} (h : St rb ts tv en w v kv w1 v1 (K ++ [u]) ⟨i, d, ns ++ [x]⟩) (hl : ns.length <= 100000) :
 Calls Tryz.prog 104 #[.pointer (some ⟨rb, 0, none⟩)] w1 fun e w2 => e = .returned (.agg #[.int .i64 x.k, .string x.t, .int .i64 x.i, u]) /\ ∃ v2, St rb ts tv en w v kv w2 v2 K ⟨i, d, ns⟩ /\ Kd rb w w2 v2 (kv ++ K) u x.ks :=
 (zlx rb ts tv en w1 v1 (kv ++ K) u i d ns x (by rw [List.append_assoc]; exact h.rd) hl).mono fun e w2 ⟨h1, v2, h2, h3, h4⟩ => ⟨h1, v2, ⟨h.lt, h.ov, h2, by
   have g1 : Rg rb w v w2 v2 (K ++ [u]) := by simpa using h.rg.trans h3
   exact ⟨g1.os, g1.tape, g1.output, g1.size, g1.block, g1.row, fun y g hy => g1.kid y g (List.mem_append_left _ hy)⟩⟩, h4, fun g hg => h.rg.kid u g (by simp) hg⟩
theorem St.last {rb : Nat} {ts : List za} {tv : Value} {en : Nat} {w w1 : World} {v v1 : Value} {kv K : List Value} {i d : Nat} {N : List KnL} {x : KnL} (h : St rb ts tv en w v kv w1 v1 K ⟨i, d, N ++ [x]⟩) (hk : kv.length <= N.length) : ∃ K' u, K = K' ++ [u] /\ ∃ g c, v1 = .slice (some ⟨g, 0, none⟩) (N.length + 1) c /\ N.length + 1 <= c /\ g < w1.heap.size /\ w1.cell? ⟨g, N.length * 4, none⟩ = some (.int .i64 x.k) := by
 have hh := h.rd.nd.len
 rcases List.eq_nil_or_concat K with rfl | ⟨K', u, rfl⟩
 · simp at hh
   omega
 · refine ⟨K', u, by simp, ?_⟩
   have hr := h.rd
   rw [List.concat_eq_append, <- List.append_assoc] at hr
   obtain ⟨g, c, hv, hc, _, _, hgw, _, _, _, _, c0, _⟩ := hr.nd.back
   exact ⟨g, c, hv, hc, hgw, c0⟩
theorem zqh (a b : Int) (t : ByteArray) (u : Value) (w : World) : (Instr.field 34 (.agg #[.int .i64 a, .string t, .int .i64 b, u]) 1).run Tryz.prog w = .ok (.string t) w := by kernel_rfl
theorem zqi (a b : Int) (t : ByteArray) (u : Value) (w : World) : (Instr.field 34 (.agg #[.int .i64 a, .string t, .int .i64 b, u]) 3).run Tryz.prog w = .ok u w := by kernel_rfl
theorem zml (ts : List za) (en : Nat) (r : Rd) (s : PS) {a : Int} {s1 : PS} {x : KnL} (e1 : whP ts en r s = .ok (a, s1)) (hx : s1.ns[a.toNat]? = some x) : za9 ts en r s =
 if x.k = 9 /\ isN ts ⟨#[59]⟩ s1 = true then .ok (zb 20 eT 0 [a] (adv s1))
 else if x.k = 5 /\ isN ts ⟨#[61]⟩ s1 = true then match laP ts en r ⟨s1.i + 1, s1.d, s1.ns.take a.toNat⟩ with
  | .error x => .error x
  | .ok (v, s2) => .ok (zb 15 x.t 0 [v] s2)
 else if x.k = 8 /\ isN ts ⟨#[61]⟩ s1 = true then match laP ts en r ⟨s1.i + 1, s1.d, s1.ns.take a.toNat⟩ with
  | .error x => .error x
  | .ok (v, s2) => .ok (zb 16 eT 0 (x.ks ++ [v]) s2)
 else .error (fh ts en 2 s1) := by
 unfold za9
 rw [e1]
 simp only [hx]
 rfl
set_option maxHeartbeats 4000000 in
theorem znm {rb : Nat} {ts : List za} {tv : Value} {en : Nat} {r : Rd} {n : Nat} (hr : RP rb ts tv en r n) (hro : zk ts r) (HW : ∀ (w : World) (v : Value) (kv : List Value) (s : PS), Rdr rb ts tv en w v kv s -> s.ns.length <= 8 * s.i -> ts.length < s.i + (n + 1) -> Calls Tryz.prog 74 #[.pointer (some ⟨rb, 0, none⟩)] w (RdE rb ts tv en w v kv (whP ts en r s))) (w : World) (v : Value) (kv : List Value) (s : PS) (h : Rdr rb ts tv en w v kv s) (hp : s.ns.length <= 8 * s.i) (hf : ts.length < s.i + (n + 1)) :
 Calls Tryz.prog 76 #[.pointer (some ⟨rb, 0, none⟩)] w (RdE rb ts tv en w v kv (za9 ts en r s)) := by
 obtain ⟨i0, hi, hz0, hz1, hz2⟩ := info_parts zb6
 have HS0 : Hid (St rb ts tv en w v kv w v [] s) := St.begin h
 have hT : ts.length <= 3000 := h.tl
 have hI : s.i <= ts.length := h.il
 have hkv : s.ns.length = kv.length := h.nd.len
 have ft := zqh
 have fk := zqi
 clear h
 go_enter Tryz.func76, Tryz.ntmps76
 rcases e1 : whP ts en r s with ⟨y⟩ | ⟨a, s1⟩
 · go_wp2_with (go_at_call 74; refine (HS0.out.no (HW _ _ _ _ HS0.out.rd hp (by omega)) e1).mono ?_; rintro e w1 ⟨he, b5⟩; unfold pan at he; subst he; have HB : Hid (Below rb w w1) := b5; clear b5)
   exact ⟨rfl, RdE.no HB.out (by unfold za9; rw [e1])⟩
 · have o1 := ze6 ts en hro e1
   have p1 : s1.ns.length <= 8 * s1.i := by have := o1.1.phi hp; omega
   have i1 := o1.1.1
   have t1 := o1.1.2.1
   obtain ⟨l, x, hns⟩ := o1.2.1
   have hea : a + 1 = s1.ns.length := o1.2.2
   obtain ⟨si, sd, sn⟩ := s1
   have hns : sn = s.ns ++ l ++ [x] := hns
   subst hns
   have hea : a = ((s.ns ++ l).length : Int) := by simp at hea; simp; omega
   have hna : a.toNat = (s.ns ++ l).length := by rw [hea]; exact Int.toNat_natCast _
   have p1 : (s.ns ++ l).length + 1 <= 8 * si := by have q := p1; simp at q ⊢; omega
   have i1 : s.i < si := i1
   have t1 : si <= ts.length := t1
   generalize hN : s.ns ++ l = N at *
   have hxx : (N ++ [x])[a.toNat]? = some x := by rw [hna, List.getElem?_append_right (Nat.le_refl _)]; simp
   have htk : (N ++ [x]).take a.toNat = N := by rw [hna, List.take_left']; rfl
   have hK : Hid (kv.length <= N.length) := by have : N.length = s.ns.length + l.length := (by rw [<- hN, List.length_append]); show _ <= _; omega
   have HXX : Hid ((N ++ [x])[a.toNat]? = some x) := hxx
   have HTK : Hid ((N ++ [x]).take a.toNat = N) := htk
   have HEA : Hid (a = (N.length : Int)) := hea
   have o1 := (show Hid _ from o1)
   clear hxx htk hna hN hkv
   have HE : Hid (za9 ts en r s = _) := zml ts en r s e1 HXX.out
   by_cases k9 : x.k = 9
   · skip
     have h9 : (x.k == 9) = true := by simp [k9]
     have h5 : (x.k == 5) = false := by simp [k9]
     have h8 : (x.k == 8) = false := by simp [k9]
     go_wp2_with (go_at_call 74; refine (HS0.out.yes (HW _ _ _ _ HS0.out.rd hp (by omega)) e1).mono ?_; rintro e w1 ⟨rfl, v1, K1, h1⟩; obtain ⟨K, u, rfl, g, c, rfl, hc, hgw, c0⟩ := h1.last hK.out; have HS1 : Hid (St rb ts tv en w v kv w1 _ (K ++ [u]) ⟨si, sd, N ++ [x]⟩) := h1; have hKX : Hid (x.k = 8 -> x.ks.length <= 10) := h1.rd.kl x (by simp); have d4 := h1.rd.c4; have l4 := h1.rd.lt; have hc' : (N.length : Int) + 1 <= (c : Int) := (by omega); have hl' : (N.length : Int) <= 24000 := (by omega); clear h1 HS0 hc)
     cases e2 : isN ts ⟨#[59]⟩ ⟨si, sd, N ++ [x]⟩
     · go_wp2_with (go_at_call 69; refine (HS1.out.pass_no ⟨#[59]⟩ e2).mono ?_; rintro e w2 ⟨rfl, h2⟩; have HS2 : Hid (St rb ts tv en w v kv w2 _ _ ⟨si, sd, N ++ [x]⟩) := h2; clear h2 HS1)
       go_wp2_with (go_at_call 99; refine (HS2.out.fault 2).mono ?_; rintro e w8 ⟨rfl, b9⟩; have HB : Hid (Below rb w w8) := b9; clear b9)
       exact ⟨rfl, RdE.no HB.out (by rw [HE.out, if_neg (fun h => by rw [e2] at h; cases h.2), if_neg (fun h => by rw [k9] at h; cases h.1), if_neg (fun h => by rw [k9] at h; cases h.1)])⟩
     · go_wp2_with (go_at_call 69; refine (HS1.out.pass_yes ⟨#[59]⟩ e2).mono ?_; rintro e w2 ⟨rfl, h2⟩; have HS2 : Hid (St rb ts tv en w v kv w2 _ (K ++ [u]) ⟨si + 1, sd, N ++ [x]⟩) := h2; clear h2 HS1)
       have t2 : si < ts.length := zar ts e2
       go_wp2_with (go_at_call 31; refine (HS2.out.add [a] 20 eT 0 (by simp) (by simp; omega) _ _ _ rfl (by rw [HEA.out]; rfl) rfl).mono ?_; rintro e w3 ⟨rfl, v3, K3, h3⟩; have HS3 : Hid (St rb ts tv en w v kv w3 v3 K3 (zb 20 eT 0 [a] ⟨si + 1, sd, N ++ [x]⟩).2) := h3; clear h3 HS2)
       go_ret
       exact RdE.yes HS3.out (by rw [HE.out, if_pos ⟨k9, e2⟩]; rfl)
   · by_cases k5 : x.k = 5
     · skip
       have h9 : (x.k == 9) = false := by simp [k5]
       have h5 : (x.k == 5) = true := by simp [k5]
       have h8 : (x.k == 8) = false := by simp [k5]
       go_wp2_with (go_at_call 74; refine (HS0.out.yes (HW _ _ _ _ HS0.out.rd hp (by omega)) e1).mono ?_; rintro e w1 ⟨rfl, v1, K1, h1⟩; obtain ⟨K, u, rfl, g, c, rfl, hc, hgw, c0⟩ := h1.last hK.out; have HS1 : Hid (St rb ts tv en w v kv w1 _ (K ++ [u]) ⟨si, sd, N ++ [x]⟩) := h1; have hKX : Hid (x.k = 8 -> x.ks.length <= 10) := h1.rd.kl x (by simp); have d4 := h1.rd.c4; have l4 := h1.rd.lt; have hc' : (N.length : Int) + 1 <= (c : Int) := (by omega); have hl' : (N.length : Int) <= 24000 := (by omega); clear h1 HS0 hc)
       cases e2 : isN ts ⟨#[61]⟩ ⟨si, sd, N ++ [x]⟩
       · go_wp2_with (go_at_call 69; refine (HS1.out.pass_no ⟨#[61]⟩ e2).mono ?_; rintro e w2 ⟨rfl, h2⟩; have HS2 : Hid (St rb ts tv en w v kv w2 _ _ ⟨si, sd, N ++ [x]⟩) := h2; clear h2 HS1)
         go_wp2_with (go_at_call 99; refine (HS2.out.fault 2).mono ?_; rintro e w8 ⟨rfl, b9⟩; have HB : Hid (Below rb w w8) := b9; clear b9)
         exact ⟨rfl, RdE.no HB.out (by rw [HE.out, if_neg (fun h => k9 h.1), if_neg (fun h => by rw [e2] at h; cases h.2), if_neg (fun h => by rw [k5] at h; cases h.1)])⟩
       · go_wp2_with (go_at_call 69; refine (HS1.out.pass_yes ⟨#[61]⟩ e2).mono ?_; rintro e w2 ⟨rfl, h2⟩; have HS2 : Hid (St rb ts tv en w v kv w2 _ (K ++ [u]) ⟨si + 1, sd, N ++ [x]⟩) := h2; clear h2 HS1)
         have t2 : si < ts.length := zar ts e2
         have p2 : N.length <= 8 * (si + 1) := by omega
         go_wp2_with (go_at_call 104; refine (HS2.out.back (by omega)).mono ?_; rintro e w3 ⟨rfl, v3, h3, k3⟩; have HS3 : Hid (St rb ts tv en w v kv w3 v3 K ⟨si + 1, sd, N⟩) := h3; have HK3 : Hid (Kd rb w w3 v3 (kv ++ K) u x.ks) := k3; clear h3 k3 HS2)
         rcases e4 : laP ts en r ⟨si + 1, sd, N⟩ with ⟨y⟩ | ⟨b, s4⟩
         · go_wp2_with (go_at_call 72; refine (HS3.out.no (zbr hr hro _ _ _ _ HS3.out.rd p2 (by show ts.length < si + 1 + n; omega)) e4).mono ?_; rintro e w4 ⟨he, b5⟩; unfold pan at he; subst he; have HB : Hid (Below rb w w4) := b5; clear b5)
           exact ⟨rfl, RdE.no HB.out (by rw [HE.out, if_neg (fun h => k9 h.1), if_pos ⟨k5, e2⟩]; simp only [HTK.out, e4])⟩
         · have o4 := zd1 ts en hro e4
           have p4 : s4.ns.length <= 8 * s4.i := by have := o4.1.phi p2; omega
           have t4 := o4.1.2.1
           go_wp2_with (go_at_call 72; refine (HS3.out.yes (zbr hr hro _ _ _ _ HS3.out.rd p2 (by show ts.length < si + 1 + n; omega)) e4).mono ?_; rintro e w4 ⟨rfl, v4, K4, h4⟩; have HS4 : Hid (St rb ts tv en w v kv w4 v4 K4 s4) := h4; clear h4 HS3)
           go_wp2_with (go_at_call 31; refine (HS4.out.add [b] 15 x.t 0 (by simp) (by omega) _ _ _ rfl rfl rfl).mono ?_; rintro e w5 ⟨rfl, v5, K5, h5⟩; have HS5 : Hid (St rb ts tv en w v kv w5 v5 K5 (zb 15 x.t 0 [b] s4).2) := h5; clear h5 HS4)
           go_ret
           exact RdE.yes HS5.out (by rw [HE.out, if_neg (fun h => k9 h.1), if_pos ⟨k5, e2⟩]; simp only [HTK.out, e4])
     · by_cases k8 : x.k = 8
       · skip
         have h9 : (x.k == 9) = false := by simp [k8]
         have h5 : (x.k == 5) = false := by simp [k8]
         have h8 : (x.k == 8) = true := by simp [k8]
         go_wp2_with (go_at_call 74; refine (HS0.out.yes (HW _ _ _ _ HS0.out.rd hp (by omega)) e1).mono ?_; rintro e w1 ⟨rfl, v1, K1, h1⟩; obtain ⟨K, u, rfl, g, c, rfl, hc, hgw, c0⟩ := h1.last hK.out; have HS1 : Hid (St rb ts tv en w v kv w1 _ (K ++ [u]) ⟨si, sd, N ++ [x]⟩) := h1; have hKX : Hid (x.k = 8 -> x.ks.length <= 10) := h1.rd.kl x (by simp); have d4 := h1.rd.c4; have l4 := h1.rd.lt; have hc' : (N.length : Int) + 1 <= (c : Int) := (by omega); have hl' : (N.length : Int) <= 24000 := (by omega); clear h1 HS0 hc)
         cases e2 : isN ts ⟨#[61]⟩ ⟨si, sd, N ++ [x]⟩
         · go_wp2_with (go_at_call 69; refine (HS1.out.pass_no ⟨#[61]⟩ e2).mono ?_; rintro e w2 ⟨rfl, h2⟩; have HS2 : Hid (St rb ts tv en w v kv w2 _ _ ⟨si, sd, N ++ [x]⟩) := h2; clear h2 HS1)
           go_wp2_with (go_at_call 99; refine (HS2.out.fault 2).mono ?_; rintro e w8 ⟨rfl, b9⟩; have HB : Hid (Below rb w w8) := b9; clear b9)
           exact ⟨rfl, RdE.no HB.out (by rw [HE.out, if_neg (fun h => k9 h.1), if_neg (fun h => k5 h.1), if_neg (fun h => by rw [e2] at h; cases h.2)])⟩
         · go_wp2_with (go_at_call 69; refine (HS1.out.pass_yes ⟨#[61]⟩ e2).mono ?_; rintro e w2 ⟨rfl, h2⟩; have HS2 : Hid (St rb ts tv en w v kv w2 _ (K ++ [u]) ⟨si + 1, sd, N ++ [x]⟩) := h2; clear h2 HS1)
           have t2 : si < ts.length := zar ts e2
           have p2 : N.length <= 8 * (si + 1) := by omega
           go_wp2_with (go_at_call 104; refine (HS2.out.back (by omega)).mono ?_; rintro e w3 ⟨rfl, v3, h3, k3⟩; have HS3 : Hid (St rb ts tv en w v kv w3 v3 K ⟨si + 1, sd, N⟩) := h3; have HK3 : Hid (Kd rb w w3 v3 (kv ++ K) u x.ks) := k3; clear h3 k3 HS2)
           rcases e4 : laP ts en r ⟨si + 1, sd, N⟩ with ⟨y⟩ | ⟨b, s4⟩
           · go_wp2_with (go_at_call 72; refine (HS3.out.no (zbr hr hro _ _ _ _ HS3.out.rd p2 (by show ts.length < si + 1 + n; omega)) e4).mono ?_; rintro e w4 ⟨he, b5⟩; unfold pan at he; subst he; have HB : Hid (Below rb w w4) := b5; clear b5)
             exact ⟨rfl, RdE.no HB.out (by rw [HE.out, if_neg (fun h => k9 h.1), if_neg (fun h => k5 h.1), if_pos ⟨k8, e2⟩]; simp only [HTK.out, e4])⟩
           · have o4 := zd1 ts en hro e4
             have p4 : s4.ns.length <= 8 * s4.i := by have := o4.1.phi p2; omega
             have t4 := o4.1.2.1
             have hkl : x.ks.length <= 10 := hKX.out k8
             go_wp2_with (first | (go_at_call 72; refine (zbr hr hro _ _ _ _ HS3.out.rd p2 (by show ts.length < si + 1 + n; omega)).mono ?_; rintro e w4 hh; obtain ⟨rfl, v4, kp, h4⟩ := hh.1 _ _ e4; obtain ⟨h5, k5'⟩ := HS3.out.both HK3.out h4; have HS4 : Hid (St rb ts tv en w v kv w4 v4 _ s4) := h5; have HK4 : Hid (Kd rb w w4 v4 _ u x.ks) := k5'; clear h4 h5 k5' hh HS3 HK3) | (at_builtin; refine wpList_append_own_at _ rfl _ _ 32 rfl (rb + 1) 3 i0 (.int .i64 0) 1 8 Tryz.underlying32 hi hz0 hz1 hz2 rfl (by decide) u x.ks.length (icl x.ks) rfl (IR.alloc HK4.out.own.row _) ⟨w4.heap.size, 0, none⟩ 1 1 [.int .i64 b] rfl rfl (fun j y hy => by have e : (w4.alloc (.cells #[.int .i64 b] 3)).cell? ((⟨w4.heap.size, 0, none⟩ : Addr).add j) = (#[.int .i64 b] : Array Value)[j]? := (by cases j <;> simp [go_sem, Addr.add]); rw [e, <- hy]; simp) (by simp [Value.oneCell']) (by unfold maxLen; first | omega | (simp; done) | (simp; omega)) (by first | omega | (simp; done) | (simp; omega)) (by have := HS4.out.rd.lt; simp; omega) ?_))
             intro u' w5 hown hgrow _ hat
             obtain ⟨h4, kz⟩ := Kd.grow HS4.out HK4.out hown hgrow hat
             have HS5 : Hid (St rb ts tv en w v kv w5 v4 _ s4) := h4
             have HK5 : Hid (Kd rb w w5 v4 _ u' (x.ks ++ [b])) := kz
             clear h4 kz hown hgrow hat HS4 HK4
             go_wp2_with (go_at_call 31; refine (HS5.out.addK HK5.out 16 eT 0 (by omega)).mono ?_; rintro e w6 ⟨rfl, v6, K6, h6⟩; have HS6 : Hid (St rb ts tv en w v kv w6 v6 K6 (zb 16 eT 0 (x.ks ++ [b]) s4).2) := h6; clear h6)
             go_ret
             exact RdE.yes HS6.out (by rw [HE.out, if_neg (fun h => k9 h.1), if_neg (fun h => k5 h.1), if_pos ⟨k8, e2⟩]; simp only [HTK.out, e4])
       · have h9 : (x.k == 9) = false := by simp [k9]
         have h5 : (x.k == 5) = false := by simp [k5]
         have h8 : (x.k == 8) = false := by simp [k8]
         go_wp2_with (go_at_call 74; refine (HS0.out.yes (HW _ _ _ _ HS0.out.rd hp (by omega)) e1).mono ?_; rintro e w1 ⟨rfl, v1, K1, h1⟩; obtain ⟨K, u, rfl, g, c, rfl, hc, hgw, c0⟩ := h1.last hK.out; have HS1 : Hid (St rb ts tv en w v kv w1 _ (K ++ [u]) ⟨si, sd, N ++ [x]⟩) := h1; have hKX : Hid (x.k = 8 -> x.ks.length <= 10) := h1.rd.kl x (by simp); have d4 := h1.rd.c4; have l4 := h1.rd.lt; have hc' : (N.length : Int) + 1 <= (c : Int) := (by omega); have hl' : (N.length : Int) <= 24000 := (by omega); clear h1 HS0 hc)
         go_wp2_with (go_at_call 99; refine (HS1.out.fault 2).mono ?_; rintro e w8 ⟨rfl, b9⟩; have HB : Hid (Below rb w w8) := b9; clear b9)
         exact ⟨rfl, RdE.no HB.out (by rw [HE.out, if_neg (fun h => k9 h.1), if_neg (fun h => k5 h.1), if_neg (fun h => k8 h.1)])⟩
end Go.Proofs.YtiglkhkfbgjjoaaGreatDoor
