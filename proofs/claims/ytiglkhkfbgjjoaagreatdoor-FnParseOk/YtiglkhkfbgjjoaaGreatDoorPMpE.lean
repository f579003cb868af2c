/- - -/
import Derived.Test.YtiglkhkfbgjjoaaGreatDoorPMpB
namespace Go.Proofs.YtiglkhkfbgjjoaaGreatDoor
set_option maxRecDepth 20000
open Go.RowKit Go.PlainAid Go.Maps
set_option linter.unusedSimpArgs false
set_option linter.unusedVariables false
theorem zfz {P : Program} {o : Oper} {a : Act} {w : World} {K : Act -> World -> Prop} {Q : Exit -> Act -> World -> Prop} (s x : Operand) (t : TypeId)
 (ho : o.op = .call { callee := .builtin .append, args := #[s, x], argTypes := #[t, t] })
 (base : Nat) (e : TypeId) (i : TypeInfo) (z : Value) (size bytes : Nat) (ht : P.underlying t = some (.slice e)) (hi : P.info? e = some i) (hz : i.zero = some z)
 (hsize : i.size = size) (hby : i.bytes = bytes) (hzs : z.cells.size = size) (hsz : 0 < size)
 (v : Value) (n : Nat) (xs : List Value) (hs : a.eval s = v) (hown : w.ownsRow base e size v n xs)
 (ad : Addr) (m c : Nat) (news : List Value) (hx : a.eval x = .slice (some ad) m c) (hl : news.length = m * size) (hnews : ∀ j u, news[j]? = some u -> w.cell? (ad.add j) = some u) (h1 : ∀ u ∈ news, u.oneCell' = true)
 (h63 : n + m <= maxLen) (hbytes : (n + m) * bytes <= 140737488355328) (hbase : base <= w.heap.size)
 (h : ∀ v' w', w'.ownsRow base e size v' (n + m) (xs ++ news) -> w.grownBy w' v.ownBlock -> (v' = .slice none 0 0 ↔ v = .slice none 0 0 /\ m = 0) -> (v'.ownBlock = v.ownBlock \/ v'.ownBlock = some w.heap.size) -> K (a.put o.dst v') w') :
 o.wp P a w K Q := by
 obtain ⟨v', w', hr, h2, h3, h4, h5⟩ := run_append_own_at (P := P) w base t o.type e i z size bytes ht hi hz hsize hby hzs hsz v n xs hown ad m c news hl hnews h1 h63 hbytes hbase
 unfold Oper.wp execOp
 simp only [ho, resolve, invoke, builtin, Sem.run_bind, Sem.run_pure, Result.andThen_ok, List.map_toArray, List.map_cons, List.map_nil, hs, hx, hr]
 exact h v' w' h2 h3 h4 h5
set_option maxHeartbeats 2000000 in
theorem zol (rb : Nat) (ts : List za) (tv : Value) (en : Nat) (w : World) (v : Value) (kv : List Value) (s : PS) (h : Mdr rb ts tv en w v kv s) (k : Int) (t : ByteArray) (i : Int) (u : Value) (ks : List Int) (hu : Own rb w v kv u ks) (hn : s.ns.length <= 100000) (hks : k = 8 -> ks.length = 2) :
 Calls Tryz.prog 17 #[.pointer (some ⟨rb, 0, none⟩), .agg #[.int .i64 k, .string t, .int .i64 i, u]] w fun e w' => e = .returned (.int .i64 (zb k t i ks s).1) /\ ∃ v', Mdr rb ts tv en w' v' (kv ++ [u]) (zb k t i ks s).2 /\ Rg rb w v w' v' [] := by
 obtain ⟨i0, hi, hz0, hz1, hz2⟩ := info_parts zj7
 obtain ⟨ua, uc, rfl⟩ := hu.row.form
 obtain ⟨va, vc, hv⟩ : ∃ a c, v = .slice a s.ns.length c := by
  obtain ⟨_, ⟨h1, h0⟩ | ⟨g, cap, cur, h1, _⟩⟩ := h.nd.own
  · exact ⟨none, 0, by rw [h1, h0]⟩
  · exact ⟨_, _, h1⟩
 subst hv
 obtain ⟨w1, hw1⟩ : ∃ V, V = w.alloc (.cells #[.int .i64 k, .string t, .int .i64 i, .slice ua ks.length uc] 34) := ⟨_, rfl⟩
 have a1 : Below w.heap.size w w1 := by rw [hw1]; exact (Below.refl _ _).alloc (Nat.le_refl _) _
 have z1 : w1.heap.size = w.heap.size + 1 := by rw [hw1]; simp
 obtain ⟨w2, hw2⟩ : ∃ V, V = (w1.alloc (.cells #[.int .i64 k, .string t, .int .i64 i, .slice ua ks.length uc] 34)).drew := ⟨_, rfl⟩
 have a2 : Below w.heap.size w w2 := by rw [hw2]; exact zg a1 (((Below.refl _ _).alloc (Nat.le_refl _) _).drew)
 have z2 : w2.heap.size = w.heap.size + 1 + 1 := by rw [hw2]; simp [z1]
 have HA : Hid (Mdr rb ts tv en w2 (.slice va s.ns.length vc) kv s) := h.below a2
 have HU : Hid (Own rb w2 (.slice va s.ns.length vc) kv (.slice ua ks.length uc) ks) := ⟨hu.row.below a2, hu.ne, hu.nd⟩
 have HA2 : Hid (Below w.heap.size w w2) := a2
 have bx1 : ∀ j, w1.cell? ⟨w.heap.size, j, none⟩ = (#[.int .i64 k, .string t, .int .i64 i, .slice ua ks.length uc] : Array Value)[j]? := fun j => by rw [hw1]; simp [go_sem]
 have bx2 : ∀ j, w2.cell? ⟨w.heap.size + 1, j, none⟩ = (#[.int .i64 k, .string t, .int .i64 i, .slice ua ks.length uc] : Array Value)[j]? := fun j => by rw [hw2, <- z1]; simp [go_sem]
 have hcc : ∀ j y, ([.int .i64 k, .string t, .int .i64 i, .slice ua ks.length uc] : List Value)[j]? = some y -> w2.cell? ((⟨w.heap.size + 1, 0, none⟩ : Addr).add j) = some y := fun j y hy => by
  rw [Addr.add_lit, Nat.zero_add, bx2 j, <- hy]
  simp
 have HC := (show Hid _ from hcc)
 have lt1 : rb < w1.heap.size := by have := h.lt; omega
 have e2 := (a1.cell (p := ⟨rb, 2, none⟩) h.lt).trans h.c2
 have e3 := (a1.cell (p := ⟨rb, 3, none⟩) h.lt).trans h.c3
 have vlt : ∀ g, (Value.slice va s.ns.length vc).ownBlock = some g -> g < w.heap.size := fun g e => (World.ownsRow.lt h.nd.own g e).2
 have VL := (show Hid _ from vlt)
 have lt0 : rb < w.heap.size := h.lt
 have HZ2 : Hid (w2.heap.size = w.heap.size + 1 + 1) := z2
 have HBX : Hid (∀ j, w2.cell? ⟨w.heap.size, j, none⟩ = (#[.int .i64 k, .string t, .int .i64 i, .slice ua ks.length uc] : Array Value)[j]?) := fun j => by rw [hw2]; exact (Below.cell (p := ⟨w.heap.size, j, none⟩) (((Below.refl w1.heap.size w1).alloc (Nat.le_refl _) _).drew) (by show w.heap.size < w1.heap.size; omega)).trans (bx1 j)
 have HW2 : Hid (w2 = (w1.alloc (.cells #[.int .i64 k, .string t, .int .i64 i, .slice ua ks.length uc] 34)).drew) := hw2
 clear h hu a2 hcc vlt z2 bx2 hw2
 go_enter Tryz.func17, Tryz.ntmps17
 go_upto_region 1 with fail
 rw [<- hw1]
 clear hw1
 go_upto_region 3 with fail
 refine wp_region_held_drew (S := fun V => ∀ j, V.cell? ⟨w.heap.size, j, none⟩ = (#[.int .i64 k, .string t, .int .i64 i, .slice ua ks.length uc] : Array Value)[j]?) (by kernel_rfl) (fun j => bx1 j) (fun hHeld => ?_)
 refine tk 0 10 (.pointer (some ⟨rb, 0, none⟩)) hHeld rfl (by intro V hS; go_simp) ?_
 try simp only [Act.put, zv2, zv3, zv4]
 refine tk 1 11 (.pointer (some ⟨rb, 0, none⟩)) hHeld rfl (by intro V hS; go_simp) ?_
 try simp only [Act.put, zv2, zv3, zv4]
 refine tk 2 12 (.pointer (some ⟨rb, 0, none⟩)) hHeld rfl (by intro V hS; go_simp) ?_
 try simp only [Act.put, zv2, zv3, zv4]
 refine tk 3 13 (.pointer (some ⟨rb, 2, none⟩)) hHeld rfl (by intro V hS; go_simp) ?_
 try simp only [Act.put, zv2, zv3, zv4]
 refine tk 5 15 (.agg #[.int .i64 k, .string t, .int .i64 i, .slice ua ks.length uc]) hHeld rfl (by intro V hS; have q0 := hS 0; have q1 := hS 1; have q2 := hS 2; have q3 := hS 3; simp at q0 q1 q2 q3; go_simp) ?_
 try simp only [Act.put, zv2, zv3, zv4]
 have HE2 : Hid (w1.drew.cell? ⟨rb, 2, none⟩ = some (.slice va s.ns.length vc)) := e2
 have HE3 : Hid (w2.cell? ⟨rb, 2, none⟩ = some (.slice va s.ns.length vc)) := HA.out.c2
 refine wpAnyH_ready (rs := [4, 6]) (by kernel_rfl) (by simp) ?_
 refine AllReadyH.cons (o := { dst := some 14, op := _, type := _, pos := _, after := _, guard := _ }) rfl (fun K hK => ?_) (AllReadyH.cons (o := { dst := some 16, op := _, type := _, pos := _, after := _, guard := _ }) rfl (fun K hK => ?_) AllReadyH.nil)
 · have q := HE2.out
   go_simp
   refine hK.out _ _ hHeld (fun _ => ?_)
   clear hK K q
   try simp only [Act.put, zv2, zv3, zv4]
   refine wpAnyH_ready (rs := [6]) (by kernel_rfl) (by simp) ?_
   refine AllReadyH.cons (o := { dst := some 16, op := _, type := _, pos := _, after := _, guard := _ }) rfl (fun K hK => ?_) AllReadyH.nil
   go_simp
   rw [<- HW2.out]
   refine hK.out _ _ HBX.out (fun _ => ?_)
   clear hK K
   try simp only [Act.put, zv2, zv3, zv4]
   refine wpAnyH_ready (rs := [7]) (by kernel_rfl) (by simp) ?_
   refine AllReadyH.cons (o := { dst := some 17, op := _, type := _, pos := _, after := _, guard := _ }) rfl (fun K hK => ?_) AllReadyH.nil
   rw [if_pos (by kernel_rfl)]
   refine zfz _ _ 25 rfl (rb + 1) 34 i0 _ 4 56 Tryz.underlying25 hi hz0 hz1 hz2 rfl (by decide) (.slice va s.ns.length vc) s.ns.length (knC s.ns kv) rfl HA.out.nd.own ⟨w.heap.size + 1, 0, none⟩ 1 1 [.int .i64 k, .string t, .int .i64 i, .slice ua ks.length uc] rfl rfl HC.out (by simp [Value.oneCell']) (by unfold maxLen; omega) (by omega) (by have := HA.out.lt; omega) ?_
   intro v' w3 hown hgrow _ hat
   obtain ⟨a8, c8, hv8⟩ : ∃ a c, v' = .slice a (s.ns.length + 1) c := by
    obtain ⟨_, ⟨h1, h0⟩ | ⟨g, cap, cur, h1, _⟩⟩ := hown
    · omega
    · exact ⟨_, _, h1⟩
   subst hv8
   have R := HA.out.addn ⟨k, t, i, ks⟩ (.slice ua ks.length uc) HU.out hks hown hgrow (fun r hr => by
    rcases hat with h | h
    · exact .inl (h ▸ hr)
    · rw [h] at hr
      injection hr with hr
      exact .inr (Nat.le_of_eq hr))
   have hb : w3.heap[rb]? = w2.heap[rb]? := hgrow.block rb HA.out.lt (fun e => HA.out.notv (Nat.le_refl _) e.symm)
   have d2 : w3.cell? ⟨rb, 2, none⟩ = some (.slice va s.ns.length vc) := by rw [World.cell?_of_block (a := ⟨rb, 2, none⟩) hb]; exact HA.out.c2
   have f2 : ∀ i, w3.frozen? ⟨rb, i, none⟩ = false := fun i => by rw [World.frozen?_of_block (a := ⟨rb, i, none⟩) hb]; exact HA.out.fz i
   have l3 : rb < w3.heap.size := Nat.lt_of_lt_of_le HA.out.lt hgrow.size
   have hb2 : w3.heap[w.heap.size]? = w2.heap[w.heap.size]? := hgrow.block w.heap.size (by have := HZ2.out; omega) (fun e => by have := VL.out _ e.symm; omega)
   have S3 : ∀ j, w3.cell? ⟨w.heap.size, j, none⟩ = (#[.int .i64 k, .string t, .int .i64 i, .slice ua ks.length uc] : Array Value)[j]? := fun j => by rw [World.cell?_of_block (a := ⟨w.heap.size, j, none⟩) hb2]; exact HBX.out j
   have RR : Hid _ := R
   refine hK.out _ _ S3 (fun _ => ?_)
   clear hK K R hown hgrow hat hb hb2
   try simp only [Act.put, zv2, zv3, zv4]
   refine tk 8 18 (.pointer (some ⟨rb, 0, none⟩)) S3 rfl (by intro V hS; go_simp) ?_
   try simp only [Act.put, zv2, zv3, zv4]
   refine tk 9 19 (.pointer (some ⟨rb, 2, none⟩)) S3 rfl (by intro V hS; go_simp) ?_
   try simp only [Act.put, zv2, zv3, zv4]
   refine wpAnyH_ready (rs := [10]) (by kernel_rfl) (by simp) ?_
   refine AllReadyH.cons (o := { dst := none, op := _, type := _, pos := _, after := _, guard := _ }) rfl (fun K hK => ?_) AllReadyH.nil
   go_simp
   refine hK.out _ _ (fun j => by rw [World.cell?_setCell_other _ _ _ _ (fun e => by have := congrArg Addr.block e; simp at this; have := HA.out.lt; have := lt0; omega)]; exact S3 j) (fun _ => ?_)
   clear hK K S3
   try simp only [Act.put, zv2, zv3, zv4]
   refine wpAnyH_done (by kernel_rfl) ?_ _
   have y2 := RR.out.1.c2
   have l4 := RR.out.1.lt
   have hn' : (s.ns.length : Int) <= 100000 := by omega
   generalize w3.setCell ⟨rb, 2, none⟩ (.slice a8 (s.ns.length + 1) c8) = w4 at *
   clear d2 f2 l3 HE2 HE3 e2 e3
   go_wp2
   go_ret
   exact ⟨by simp [zb], _, RR.out.1, (Rg.of_below HA2.out).trans RR.out.2⟩
 · go_simp
   rw [<- HW2.out]
   refine hK.out _ _ HBX.out (fun _ => ?_)
   clear hK K
   try simp only [Act.put, zv2, zv3, zv4]
   refine wpAnyH_ready (rs := [4]) (by kernel_rfl) (by simp) ?_
   refine AllReadyH.cons (o := { dst := some 14, op := _, type := _, pos := _, after := _, guard := _ }) rfl (fun K hK => ?_) AllReadyH.nil
   have q := HE3.out
   go_simp
   refine hK.out _ _ HBX.out (fun _ => ?_)
   clear hK K q
   try simp only [Act.put, zv2, zv3, zv4]
   refine wpAnyH_ready (rs := [7]) (by kernel_rfl) (by simp) ?_
   refine AllReadyH.cons (o := { dst := some 17, op := _, type := _, pos := _, after := _, guard := _ }) rfl (fun K hK => ?_) AllReadyH.nil
   rw [if_pos (by kernel_rfl)]
   refine zfz _ _ 25 rfl (rb + 1) 34 i0 _ 4 56 Tryz.underlying25 hi hz0 hz1 hz2 rfl (by decide) (.slice va s.ns.length vc) s.ns.length (knC s.ns kv) rfl HA.out.nd.own ⟨w.heap.size + 1, 0, none⟩ 1 1 [.int .i64 k, .string t, .int .i64 i, .slice ua ks.length uc] rfl rfl HC.out (by simp [Value.oneCell']) (by unfold maxLen; omega) (by omega) (by have := HA.out.lt; omega) ?_
   intro v' w3 hown hgrow _ hat
   obtain ⟨a8, c8, hv8⟩ : ∃ a c, v' = .slice a (s.ns.length + 1) c := by
    obtain ⟨_, ⟨h1, h0⟩ | ⟨g, cap, cur, h1, _⟩⟩ := hown
    · omega
    · exact ⟨_, _, h1⟩
   subst hv8
   have R := HA.out.addn ⟨k, t, i, ks⟩ (.slice ua ks.length uc) HU.out hks hown hgrow (fun r hr => by
    rcases hat with h | h
    · exact .inl (h ▸ hr)
    · rw [h] at hr
      injection hr with hr
      exact .inr (Nat.le_of_eq hr))
   have hb : w3.heap[rb]? = w2.heap[rb]? := hgrow.block rb HA.out.lt (fun e => HA.out.notv (Nat.le_refl _) e.symm)
   have d2 : w3.cell? ⟨rb, 2, none⟩ = some (.slice va s.ns.length vc) := by rw [World.cell?_of_block (a := ⟨rb, 2, none⟩) hb]; exact HA.out.c2
   have f2 : ∀ i, w3.frozen? ⟨rb, i, none⟩ = false := fun i => by rw [World.frozen?_of_block (a := ⟨rb, i, none⟩) hb]; exact HA.out.fz i
   have l3 : rb < w3.heap.size := Nat.lt_of_lt_of_le HA.out.lt hgrow.size
   have hb2 : w3.heap[w.heap.size]? = w2.heap[w.heap.size]? := hgrow.block w.heap.size (by have := HZ2.out; omega) (fun e => by have := VL.out _ e.symm; omega)
   have S3 : ∀ j, w3.cell? ⟨w.heap.size, j, none⟩ = (#[.int .i64 k, .string t, .int .i64 i, .slice ua ks.length uc] : Array Value)[j]? := fun j => by rw [World.cell?_of_block (a := ⟨w.heap.size, j, none⟩) hb2]; exact HBX.out j
   have RR : Hid _ := R
   refine hK.out _ _ S3 (fun _ => ?_)
   clear hK K R hown hgrow hat hb hb2
   try simp only [Act.put, zv2, zv3, zv4]
   refine tk 8 18 (.pointer (some ⟨rb, 0, none⟩)) S3 rfl (by intro V hS; go_simp) ?_
   try simp only [Act.put, zv2, zv3, zv4]
   refine tk 9 19 (.pointer (some ⟨rb, 2, none⟩)) S3 rfl (by intro V hS; go_simp) ?_
   try simp only [Act.put, zv2, zv3, zv4]
   refine wpAnyH_ready (rs := [10]) (by kernel_rfl) (by simp) ?_
   refine AllReadyH.cons (o := { dst := none, op := _, type := _, pos := _, after := _, guard := _ }) rfl (fun K hK => ?_) AllReadyH.nil
   go_simp
   refine hK.out _ _ (fun j => by rw [World.cell?_setCell_other _ _ _ _ (fun e => by have := congrArg Addr.block e; simp at this; have := HA.out.lt; have := lt0; omega)]; exact S3 j) (fun _ => ?_)
   clear hK K S3
   try simp only [Act.put, zv2, zv3, zv4]
   refine wpAnyH_done (by kernel_rfl) ?_ _
   have y2 := RR.out.1.c2
   have l4 := RR.out.1.lt
   have hn' : (s.ns.length : Int) <= 100000 := by omega
   generalize w3.setCell ⟨rb, 2, none⟩ (.slice a8 (s.ns.length + 1) c8) = w4 at *
   clear d2 f2 l3 HE2 HE3 e2 e3
   go_wp2
   go_ret
   exact ⟨by simp [zb], _, RR.out.1, (Rg.of_below HA2.out).trans RR.out.2⟩
set_option maxHeartbeats 1000000 in
theorem zc (rb : Nat) (w : World) (c a : Int) (h : Fl rb w c a) (k : Int) (t : ByteArray) (i : Int) (ua : Option Addr) (un uc : Nat) :
 Calls Tryz.prog 17 #[.pointer (some ⟨rb, 0, none⟩), .agg #[.int .i64 k, .string t, .int .i64 i, .slice ua un uc]] w fun e w' => e = .returned (.int .i64 (-1)) /\ Below w.heap.size w w' := by
 have c3 := h.c3
 have lt := h.lt
 have ne := h.ne
 clear h
 go_enter Tryz.func17, Tryz.ntmps17
 go_wp2
 go_ret
 exact ⟨rfl, (Below.refl _ _).alloc (Nat.le_refl _) _⟩
set_option maxHeartbeats 1000000 in
theorem zt (rb : Nat) (w : World) (c a : Int) (h : Fl rb w c a) :
 Calls Tryz.prog 36 #[.pointer (some ⟨rb, 0, none⟩)] w fun e w' => (∃ n, e = .returned (.int .i64 n)) /\ Fl rb w' c a /\ Below w.heap.size w w' := by
 have HR : Hid (Fl rb w c a) := h
 have HB : Hid (Below w.heap.size w w) := Below.refl _ _
 have c3 := h.c3
 have lt := h.lt
 have ne := h.ne
 clear h
 go_enter Tryz.func36, Tryz.ntmps36
 go_wp2_with (first | (go_at_call 84; refine (zi1 rb _ c a HR.out).mono ?_; rintro e w1 ⟨rfl, b1⟩; have HB : Hid (Below w.heap.size w w1) := zg HB.out b1; have HR : Hid (Fl rb w1 c a) := HR.out.below b1; have c3 := HR.out.c3; have lt := HR.out.lt; clear b1))
 go_ret
 exact ⟨⟨_, rfl⟩, HR.out, HB.out⟩
set_option maxHeartbeats 1000000 in
theorem zo (rb : Nat) (w : World) (c a : Int) (h : Fl rb w c a) :
 Calls Tryz.prog 37 #[.pointer (some ⟨rb, 0, none⟩)] w fun e w' => (∃ n, e = .returned (.int .i64 n)) /\ Fl rb w' c a /\ Below w.heap.size w w' := by
 have HR : Hid (Fl rb w c a) := h
 have HB : Hid (Below w.heap.size w w) := Below.refl _ _
 have c3 := h.c3
 have lt := h.lt
 have ne := h.ne
 clear h
 go_enter Tryz.func37, Tryz.ntmps37
 go_wp2_with (first | (go_at_call 84; refine (zi1 rb _ c a HR.out).mono ?_; rintro e w1 ⟨rfl, b1⟩; have HB : Hid (Below w.heap.size w w1) := zg HB.out b1; have HR : Hid (Fl rb w1 c a) := HR.out.below b1; have c3 := HR.out.c3; have lt := HR.out.lt; clear b1))
 go_ret
 exact ⟨⟨_, rfl⟩, HR.out, HB.out⟩
section
variable (rb : Nat) (ts : List za) (tv : Value) (en : Nat)
def RmE (w : World) (v : Value) (kv : List Value) (r : Except (Int × Int) (Int × PS)) (e : Ending) (w' : World) : Prop :=
 (∀ n s', r = .ok (n, s') -> e = .returned (.int .i64 n) /\ ∃ v' K, Sm rb ts tv en w v kv w' v' K s') /\ (∀ x, r = .error x -> (∃ n, e = .returned (.int .i64 n)) /\ Fl rb w' x.1 x.2 /\ Rf rb w v w')
structure RM (r : Rd) (n : Nat) : Prop where
 wh : ∀ (w : World) (v : Value) (kv : List Value) (s : PS), Mdr rb ts tv en w v kv s -> s.ns.length <= 8 * s.i -> ts.length < s.i + n -> Calls Tryz.prog 36 #[.pointer (some ⟨rb, 0, none⟩)] w (RmE rb ts tv en w v kv (r.wh s))
 lv : ∀ (l : Nat), 1 <= l -> l <= 7 -> ∀ (w : World) (v : Value) (kv : List Value) (s : PS), Mdr rb ts tv en w v kv s -> s.ns.length <= 8 * s.i -> ts.length < s.i + n -> Calls Tryz.prog 85 #[.pointer (some ⟨rb, 0, none⟩), .int .i64 (l : Int)] w (RmE rb ts tv en w v kv (r.lv l s))
 tn : ∀ (w : World) (v : Value) (kv : List Value) (s : PS), Mdr rb ts tv en w v kv s -> s.ns.length <= 8 * s.i -> ts.length < s.i + n -> Calls Tryz.prog 107 #[.pointer (some ⟨rb, 0, none⟩)] w (RmE rb ts tv en w v kv (r.tn s))
 bl : ∀ (w : World) (v : Value) (kv : List Value) (s : PS), Mdr rb ts tv en w v kv s -> s.ns.length <= 8 * s.i -> ts.length < s.i + n -> Calls Tryz.prog 37 #[.pointer (some ⟨rb, 0, none⟩)] w (RmE rb ts tv en w v kv (r.bl s))
 st : ∀ (w : World) (v : Value) (kv : List Value) (s : PS), Mdr rb ts tv en w v kv s -> s.ns.length <= 8 * s.i -> ts.length < s.i + n -> Calls Tryz.prog 16 #[.pointer (some ⟨rb, 0, none⟩)] w (RmE rb ts tv en w v kv (r.st s))
end
section
variable {rb : Nat} {ts : List za} {tv : Value} {en : Nat} {w w1 w2 : World} {v v1 v2 : Value} {kv K : List Value} {s s1 s2 : PS}
theorem RmE.yes {r : Except (Int × Int) (Int × PS)} {n : Int} (h : Sm rb ts tv en w v kv w1 v1 K s1) (hE : r = .ok (n, s1)) : RmE rb ts tv en w v kv r (.returned (.int .i64 n)) w1 := by
 subst hE
 exact ⟨fun n' s' e => by injection e with e; injection e with e1 e2; subst e1 e2; exact ⟨rfl, _, _, h⟩, fun x e => by cases e⟩
theorem RmE.no {r : Except (Int × Int) (Int × PS)} {x : Int × Int} {n : Int} (hF : Fl rb w1 x.1 x.2) (h : Rf rb w v w1) (hE : r = .error x) : RmE rb ts tv en w v kv r (.returned (.int .i64 n)) w1 := by
 subst hE
 exact ⟨fun n' s' e => (by cases e), fun x' e => by injection e with e; subst e; exact ⟨⟨_, rfl⟩, hF, h⟩⟩
theorem Sm.yes (h : Sm rb ts tv en w v kv w1 v1 K s1) {f : Nat} {args : Array Value} {r : Except (Int × Int) (Int × PS)} (hc : Calls Tryz.prog f args w1 (RmE rb ts tv en w1 v1 (kv ++ K) r)) {n : Int} (hE : r = .ok (n, s2)) :
 Calls Tryz.prog f args w1 fun e w2 => e = .returned (.int .i64 n) /\ ∃ v2 K2, Sm rb ts tv en w v kv w2 v2 K2 s2 :=
 hc.mono fun e w2 h2 => by
  obtain ⟨he, v2, K2, h3⟩ := h2.1 n s2 hE
  exact ⟨he, v2, _, h.e h3⟩
theorem Sm.no (h : Sm rb ts tv en w v kv w1 v1 K s1) {f : Nat} {args : Array Value} {r : Except (Int × Int) (Int × PS)} (hc : Calls Tryz.prog f args w1 (RmE rb ts tv en w1 v1 (kv ++ K) r)) {x : Int × Int} (hE : r = .error x) :
 Calls Tryz.prog f args w1 fun e w2 => (∃ n, e = .returned (.int .i64 n)) /\ Fl rb w2 x.1 x.2 /\ Rf rb w v w2 :=
 hc.mono fun e w2 h2 => by
  obtain ⟨he, h3, h4⟩ := h2.2 x hE
  exact ⟨he, h3, Rf.of_rg h.rg h4⟩
theorem Sm.is (h : Sm rb ts tv en w v kv w1 v1 K s1) (b : ByteArray) (q : Bool) (hq : isN ts b s1 = q) :
 Calls Tryz.prog 33 #[.pointer (some ⟨rb, 0, none⟩), .string b] w1 fun e w2 => e = .returned (.bool q) /\ Sm rb ts tv en w v kv w2 v1 K s1 :=
 (zee rb ts tv en w1 v1 _ s1 h.rd b q hq).mono fun e w2 ⟨h1, h2⟩ => ⟨h1, h.below h2⟩
theorem Sm.kind (h : Sm rb ts tv en w v kv w1 v1 K s1) :
 Calls Tryz.prog 82 #[.pointer (some ⟨rb, 0, none⟩)] w1 fun e w2 => e = .returned (.int .i64 (kdO ts s1)) /\ Sm rb ts tv en w v kv w2 v1 K s1 :=
 (zf0 rb ts tv en w1 v1 _ s1 h.rd).mono fun e w2 ⟨h1, h2⟩ => ⟨h1, h.below h2⟩
theorem Sm.want_yes (h : Sm rb ts tv en w v kv w1 v1 K s1) (b : ByteArray) (hq : isN ts b s1 = true) :
 Calls Tryz.prog 35 #[.pointer (some ⟨rb, 0, none⟩), .string b] w1 fun e w2 => e = .returned (.tuple #[]) /\ Sm rb ts tv en w v kv w2 v1 K (adv s1) :=
 (zm9 rb ts tv en w1 v1 _ s1 h.rd b hq).mono fun e w2 ⟨h1, h2, h3⟩ => ⟨h1, h.u h2 h3⟩
theorem Sm.want_no (h : Sm rb ts tv en w v kv w1 v1 K s1) (b : ByteArray) (hq : isN ts b s1 = false) :
 Calls Tryz.prog 35 #[.pointer (some ⟨rb, 0, none⟩), .string b] w1 fun e w2 => e = .returned (.tuple #[]) /\ Fl rb w2 (fh ts en 2 s1).1 (fh ts en 2 s1).2 /\ Rf rb w v w2 :=
 (zon rb ts tv en w1 v1 _ s1 h.rd b hq).mono fun e w2 ⟨h1, h2, h3⟩ => ⟨h1, h2, Rf.of_rg h.rg h3⟩
theorem Sm.name_yes (h : Sm rb ts tv en w v kv w1 v1 K s1) (x : za) (hx : ts[s1.i]? = some x) (hk : x.k = 1) :
 Calls Tryz.prog 34 #[.pointer (some ⟨rb, 0, none⟩)] w1 fun e w2 => e = .returned (.string x.tx) /\ Sm rb ts tv en w v kv w2 v1 K (adv s1) :=
 (zna rb ts tv en w1 v1 _ s1 h.rd x hx hk).mono fun e w2 ⟨h1, h2, h3⟩ => ⟨h1, h.u h2 h3⟩
theorem Sm.name_no (h : Sm rb ts tv en w v kv w1 v1 K s1) (hq : kdN ts 1 s1 = false) :
 Calls Tryz.prog 34 #[.pointer (some ⟨rb, 0, none⟩)] w1 fun e w2 => e = .returned (.string ⟨#[]⟩) /\ Fl rb w2 (fh ts en 2 s1).1 (fh ts en 2 s1).2 /\ Rf rb w v w2 :=
 (zop rb ts tv en w1 v1 _ s1 h.rd hq).mono fun e w2 ⟨h1, h2, h3⟩ => ⟨h1, h2, Rf.of_rg h.rg h3⟩
theorem Sm.open_yes (h : Sm rb ts tv en w v kv w1 v1 K s1) (x : za) (hx : ts[s1.i]? = some x) (hd : ¬ s1.d = 30) :
 Calls Tryz.prog 84 #[.pointer (some ⟨rb, 0, none⟩)] w1 fun e w2 => e = .returned (.bool true) /\ Sm rb ts tv en w v kv w2 v1 K ⟨s1.i, s1.d + 1, s1.ns⟩ :=
 (znc rb ts tv en w1 v1 _ s1 h.rd x hx hd).mono fun e w2 ⟨h1, h2, h3⟩ => ⟨h1, h.u h2 h3⟩
theorem Sm.open_no (h : Sm rb ts tv en w v kv w1 v1 K s1) (hd : s1.d = 30 \/ ts[s1.i]? = none) :
 Calls Tryz.prog 84 #[.pointer (some ⟨rb, 0, none⟩)] w1 fun e w2 => e = .returned (.bool false) /\ Fl rb w2 (fh ts en 3 s1).1 (fh ts en 3 s1).2 /\ Rf rb w v w2 := by
 cases hx : ts[s1.i]? with
 | none =>
   have e : fh ts en 3 s1 = (2, (en : Int)) := by unfold fh; rw [hx]
   rw [e]
   exact (znb rb ts tv en w1 v1 _ s1 h.rd hx).mono fun e w2 ⟨h1, h2, h3⟩ => ⟨h1, h2, Rf.of_rg h.rg h3⟩
 | some x =>
   have hd' : s1.d = 30 := by
    rcases hd with hd | hd
    · exact hd
    · rw [hx] at hd; cases hd
   exact (zlq rb ts tv en w1 v1 _ s1 h.rd x hx hd').mono fun e w2 ⟨h1, h2, h3⟩ => ⟨h1, h2, Rf.of_rg h.rg h3⟩
theorem Sm.fail (h : Sm rb ts tv en w v kv w1 v1 K s1) :
 Calls Tryz.prog 83 #[.pointer (some ⟨rb, 0, none⟩), .int .i64 2] w1 fun e w2 => e = .returned (.int .i64 (-1)) /\ Fl rb w2 (fh ts en 2 s1).1 (fh ts en 2 s1).2 /\ Rf rb w v w2 :=
 (zev rb ts tv en w1 v1 _ s1 h.rd 2 (by decide) (fun _ => rfl)).mono fun e w2 ⟨h1, h2, h3⟩ => ⟨h1, h2, Rf.of_rg h.rg h3⟩
theorem Sm.adv (h : Sm rb ts tv en w v kv w1 v1 K s1) (hi : s1.i < ts.length) : Sm rb ts tv en w v kv (w1.setCell ⟨rb, 1, none⟩ (.int .i64 ((s1.i : Int) + 1))) v1 K (Go.Proofs.YtiglkhkfbgjjoaaGreatDoor.adv s1) :=
 h.u (h.rd.put1 (s1.i + 1) (by omega)).1 (h.rd.put1 (s1.i + 1) (by omega)).2
theorem Sm.shut (h : Sm rb ts tv en w v kv w1 v1 K s1) (hd : 1 <= s1.d) : Sm rb ts tv en w v kv (w1.setCell ⟨rb, 5, none⟩ (.int .i64 ((s1.d : Int) - 1))) v1 K (zap s1) := by
 have e : ((s1.d : Int) - 1) = ((s1.d - 1 : Nat) : Int) := by omega
 rw [e]
 exact h.u (h.rd.put5 (s1.d - 1) (by have := h.rd.dl; omega)).1 (h.rd.put5 (s1.d - 1) (by have := h.rd.dl; omega)).2
theorem Sm.node {u : Value} {ks : List Int} (h : Sm rb ts tv en w v kv w1 v1 K s1) (hk : Km rb w w1 v1 (kv ++ K) u ks) (k : Int) (t : ByteArray) (i : Int) (hn : s1.ns.length <= 100000) (hks : k = 8 -> ks.length = 2 := by simp) :
 Calls Tryz.prog 17 #[.pointer (some ⟨rb, 0, none⟩), .agg #[.int .i64 k, .string t, .int .i64 i, u]] w1 fun e w2 => e = .returned (.int .i64 (zb k t i ks s1).1) /\ ∃ v2 K2, Sm rb ts tv en w v kv w2 v2 K2 (zb k t i ks s1).2 :=
 (zol rb ts tv en w1 v1 _ s1 h.rd k t i _ ks hk.own hn hks).mono fun e w2 ⟨h1, v2, h2, h3⟩ => ⟨h1, v2, K ++ [u], h.lt, h.ov, by rw [<- List.append_assoc]; exact h2, by
   have g1 : Rg rb w v w2 v2 K := by simpa using h.rg.trans h3
   exact g1.more hk.new⟩
theorem Sm.node0 (h : Sm rb ts tv en w v kv w1 v1 K s1) (k : Int) (t : ByteArray) (i : Int) (hn : s1.ns.length <= 100000) (hk8 : k ≠ 8 := by decide) :
 Calls Tryz.prog 17 #[.pointer (some ⟨rb, 0, none⟩), .agg #[.int .i64 k, .string t, .int .i64 i, .slice none 0 0]] w1 fun e w2 => e = .returned (.int .i64 (zb k t i [] s1).1) /\ ∃ v2 K2, Sm rb ts tv en w v kv w2 v2 K2 (zb k t i [] s1).2 :=
 h.node (Km.zero rb w w1 v1 (kv ++ K)) k t i hn (fun e => absurd e hk8)
theorem Sm.nodeN (h : Sm rb ts tv en w v kv w1 v1 K s1) (ks : List Int) (k : Int) (t : ByteArray) (i : Int) (hl : ks.length <= 10) (hn : s1.ns.length <= 100000) (A : Array Value) (n g : Nat) (hg : g = w1.heap.size) (hA : A = (icl ks).toArray) (hn2 : n = ks.length) (hks : k = 8 -> ks.length = 2 := by simp) :
 Calls Tryz.prog 17 #[.pointer (some ⟨rb, 0, none⟩), .agg #[.int .i64 k, .string t, .int .i64 i, .slice (some ⟨g, 0, none⟩) n n]] (w1.alloc (.cells A 3)) fun e w2 => e = .returned (.int .i64 (zb k t i ks s1).1) /\ ∃ v2 K2, Sm rb ts tv en w v kv w2 v2 K2 (zb k t i ks s1).2 := by
 subst hg hA hn2
 exact (h.below ((Below.refl _ _).alloc (Nat.le_refl _) _)).node (Km.laid h ks (by omega)) k t i hn hks
end
end Go.Proofs.YtiglkhkfbgjjoaaGreatDoor
