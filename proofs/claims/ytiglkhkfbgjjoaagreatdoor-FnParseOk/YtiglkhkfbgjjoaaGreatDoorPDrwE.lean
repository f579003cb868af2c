/- - -/
import Derived.Test.YtiglkhkfbgjjoaaGreatDoorPDrwC
import Derived.Test.YtiglkhkfbgjjoaaGreatDoorPLxG
import Derived.Laws.AppendOwnNone
namespace Go.Proofs.YtiglkhkfbgjjoaaGreatDoor
set_option maxRecDepth 20000
open Go.RowKit
set_option linter.unusedSimpArgs false
set_option linter.unusedVariables false
set_option maxHeartbeats 4000000 in
theorem zlk (b : Nat) (d : Int) (hb : b <= 5000000) (hb2 : 100 <= b) (hd0 : 0 <= d) (hd : d <= 10) (HNum : Hid (zaq 53 b d)) (HAny : Hid (zaq 91 b d)) : zaq 89 (10 * b) (d + 1) (-50) := by
 intro cb eb n v x w C0 E0 hne hn hx0 hx1
 have hcl := C0.lt
 have F0 := But.refl cb w
 go_enter Tryz.func89, Tryz.ntmps89
 go_wp2_with (first | (go_at_call 49; refine (zal cb v _ _ (by first | assumption | exact Cur.below (by assumption) ((Below.refl _ _).alloc (Nat.le_refl _) _)) (by omega) (by omega)).mono ?_; rintro e w0 ⟨y, rfl, ⟨hy0, hy1⟩, C0, B0⟩; have E0 := zf.but (by first | assumption | exact zf.but (by assumption) ((But.refl _ _).alloc _) hne) B0 hne; have F0 := But.trans (by first | assumption | exact But.alloc (by assumption) _) B0; (try have S0 := zp.but (eb := eb) (by assumption) (But.two B0)); have hcl := C0.lt; clear B0))
 obtain ⟨y, rfl⟩ := Int.eq_ofNat_of_zero_le hy0
 have H0 : Hid (Cur w0 cb v /\ zf w0 cb eb n /\ But cb w w0) := ⟨C0, E0, F0⟩
 clear C0 E0 F0 hcl
 go_loopw [7, 9] (fun o q wr => ∃ (j : Nat) (s : ByteArray), j <= y /\ q = .int .i64 j /\ o = .string s /\ s.size <= 1 + j * (2 * b + 30) /\ Cur wr cb v /\ zf wr cb eb n /\ But cb w wr) (fun _ q _ => y - (intOf q).toNat)
 case atStart => exact ⟨0, _, Nat.zero_le _, rfl, rfl, by simp [bsz], H0.out.1, H0.out.2.1, H0.out.2.2⟩
 case round =>
  obtain ⟨j, o, hj, rfl, rfl, ho, C0, E0, F0⟩ := hrel
  have hcl := C0.lt
  have hj3 : j <= 3 := by omega
  have hjb : j * (2 * b + 30) <= 3 * (2 * b + 30) := Nat.mul_le_mul_right _ hj3
  have ho2 : (o.size : Int) <= 100000000 := by omega
  have hsu : (j + 1) * (2 * b + 30) = j * (2 * b + 30) + (2 * b + 30) := Nat.succ_mul _ _
  generalize j * (2 * b + 30) = J at *
  by_cases hlt : j < y
  · have hlt' : (j : Int) < y := by omega
    go_wp2_with (first | (go_at_call 49; refine (zal cb v _ _ (by first | assumption | exact Cur.below (by assumption) ((Below.refl _ _).alloc (Nat.le_refl _) _)) (by omega) (by omega)).mono ?_; rintro e w0 ⟨y, rfl, ⟨hy0, hy1⟩, C0, B0⟩; have E0 := zf.but (by first | assumption | exact zf.but (by assumption) ((But.refl _ _).alloc _) hne) B0 hne; have F0 := But.trans (by first | assumption | exact But.alloc (by assumption) _) B0; (try have S0 := zp.but (eb := eb) (by assumption) (But.two B0)); have hcl := C0.lt; clear B0) | (go_at_call 50; refine (za6 cb eb v _ _ 20 _ (by first | assumption | exact Cur.below (by assumption) ((Below.refl _ _).alloc (Nat.le_refl _) _)) (by first | exact zau (by rfl) (Cur.lt (v := v) (by assumption)) (zf.lt (n := n) (by assumption)) (by rfl) | exact zp.mono (by assumption) (by omega)) (by omega) (by omega)).mono ?_; rintro e w0 ⟨s, rfl, hs, C0, B0⟩; have hs2 : (s.size : Int) <= 20 := (by omega); have E0 := zf.but (by first | assumption | exact zf.but (by assumption) ((But.refl _ _).alloc _) hne) B0 hne; have F0 := But.trans (by first | assumption | exact But.alloc (by assumption) _) B0; (try have S0 := zp.but (eb := eb) (by assumption) (But.two B0)); have hcl := C0.lt; clear B0) | (go_at_call 91; refine (HAny.out cb eb n v _ _ (by first | assumption | exact Cur.below (by assumption) ((Below.refl _ _).alloc (Nat.le_refl _) _)) (by first | assumption | exact zf.but (by assumption) ((But.refl _ _).alloc _) hne) hne hn (by omega) (by omega)).mono ?_; rintro e w0 ⟨s, rfl, hs, C0, B0⟩; have hs2 : (s.size : Int) <= 100000000 := (by omega); have E0 := zf.but (by first | assumption | exact zf.but (by assumption) ((But.refl _ _).alloc _) hne) B0 hne; have F0 := But.trans (by first | assumption | exact But.alloc (by assumption) _) B0; (try have S0 := zp.but (eb := eb) (by assumption) (But.two B0)); have hcl := C0.lt; clear B0) | (go_at_call 53; refine (HNum.out cb eb n v _ _ (by first | assumption | exact Cur.below (by assumption) ((Below.refl _ _).alloc (Nat.le_refl _) _)) (by first | assumption | exact zf.but (by assumption) ((But.refl _ _).alloc _) hne) hne hn (by omega) (by omega)).mono ?_; rintro e w0 ⟨s, rfl, hs, C0, B0⟩; have hs2 : (s.size : Int) <= 100000000 := (by omega); have E0 := zf.but (by first | assumption | exact zf.but (by assumption) ((But.refl _ _).alloc _) hne) B0 hne; have F0 := But.trans (by first | assumption | exact But.alloc (by assumption) _) B0; (try have S0 := zp.but (eb := eb) (by assumption) (But.two B0)); have hcl := C0.lt; clear B0))
    all_goals
     refine ⟨⟨j + 1, _, by omega, by go_num, rfl, ?_, (by first | assumption | exact Cur.below (by assumption) ((Below.refl _ _).alloc (Nat.le_refl _) _)), (by first | assumption | exact zf.but (by assumption) ((But.refl _ _).alloc _) hne), (by first | assumption | exact But.alloc (by assumption) _)⟩, by simp [intOf]; omega⟩
     rw [hsu]
     first | omega | (simp [ByteArray.size_append, bsz] <;> omega)
  · have hlt' : ¬ (j : Int) < y := by omega
    go_wp2
    all_goals
     (try simp only [Exit.inBlock, Exit.then])
     go_ret
     exact ⟨_, rfl, by first | omega | (simp [ByteArray.size_append, bsz] <;> omega), (by first | assumption | exact Cur.below (by assumption) ((Below.refl _ _).alloc (Nat.le_refl _) _)), (by first | assumption | exact But.alloc (by assumption) _)⟩
set_option maxHeartbeats 4000000 in
theorem zre (b : Nat) (d : Int) (hb : b <= 5000000) (hb2 : 100 <= b) (hd0 : 0 <= d) (hd : d <= 10) (HNum : Hid (zaq 53 (10 * b) (d + 1))) (HStr : Hid (zaq 88 (10 * b) (d + 1))) (HBool : Hid (zaq 92 b d)) (HTab : Hid (zaq 89 (10 * b) (d + 1) (-50))) : zaq 91 (10 * b) (d + 1) := by
 intro cb eb n v x w C0 E0 hne hn hx0 hx1
 have hcl := C0.lt
 have F0 := But.refl cb w
 go_enter Tryz.func91, Tryz.ntmps91
 go_wp2_with (first | (go_at_call 49; refine (zal cb v _ _ (by first | assumption | exact Cur.below (by assumption) ((Below.refl _ _).alloc (Nat.le_refl _) _)) (by omega) (by omega)).mono ?_; rintro e w0 ⟨y, rfl, ⟨hy0, hy1⟩, C0, B0⟩; have E0 := zf.but (by first | assumption | exact zf.but (by assumption) ((But.refl _ _).alloc _) hne) B0 hne; have F0 := But.trans (by first | assumption | exact But.alloc (by assumption) _) B0; (try have S0 := zp.but (eb := eb) (by assumption) (But.two B0)); have hcl := C0.lt; clear B0; obtain ⟨vn, vk, ct, lf, fn, co, EE⟩ := E0; have E0 : zf w0 cb eb n := ⟨vn, vk, ct, lf, fn, co, EE⟩; have S0 : zp w0 cb eb vn n 3 := EE.hn; obtain ⟨an, cn, rfl⟩ : ∃ a c, vn = .slice a n c := (by obtain ⟨a, c, h, _⟩ := EE.hn; exact ⟨a, c, h⟩); have d0 : w0.cell? ⟨eb, 0, none⟩ = some (.slice an n cn) := EE.c 0; have hel := EE.lt; clear EE) | (go_at_call 50; refine (za6 cb eb v _ _ 20 _ (by first | assumption | exact Cur.below (by assumption) ((Below.refl _ _).alloc (Nat.le_refl _) _)) (by first | exact zau (by rfl) (Cur.lt (v := v) (by assumption)) (zf.lt (n := n) (by assumption)) (by rfl) | exact zp.mono (by assumption) (by omega)) (by omega) (by omega)).mono ?_; rintro e w0 ⟨s, rfl, hs, C0, B0⟩; have hs2 : (s.size : Int) <= 20 := (by omega); have E0 := zf.but (by first | assumption | exact zf.but (by assumption) ((But.refl _ _).alloc _) hne) B0 hne; have F0 := But.trans (by first | assumption | exact But.alloc (by assumption) _) B0; (try have S0 := zp.but (eb := eb) (by assumption) (But.two B0)); have hcl := C0.lt; clear B0) | (go_at_call 53; refine (HNum.out cb eb n v _ _ (by first | assumption | exact Cur.below (by assumption) ((Below.refl _ _).alloc (Nat.le_refl _) _)) (by first | assumption | exact zf.but (by assumption) ((But.refl _ _).alloc _) hne) hne hn (by omega) (by omega)).mono ?_; rintro e w0 ⟨s, rfl, hs, C0, B0⟩; have hs2 : (s.size : Int) <= 100000000 := (by omega); have E0 := zf.but (by first | assumption | exact zf.but (by assumption) ((But.refl _ _).alloc _) hne) B0 hne; have F0 := But.trans (by first | assumption | exact But.alloc (by assumption) _) B0; (try have S0 := zp.but (eb := eb) (by assumption) (But.two B0)); have hcl := C0.lt; clear B0) | (go_at_call 88; refine (HStr.out cb eb n v _ _ (by first | assumption | exact Cur.below (by assumption) ((Below.refl _ _).alloc (Nat.le_refl _) _)) (by first | assumption | exact zf.but (by assumption) ((But.refl _ _).alloc _) hne) hne hn (by omega) (by omega)).mono ?_; rintro e w0 ⟨s, rfl, hs, C0, B0⟩; have hs2 : (s.size : Int) <= 100000000 := (by omega); have E0 := zf.but (by first | assumption | exact zf.but (by assumption) ((But.refl _ _).alloc _) hne) B0 hne; have F0 := But.trans (by first | assumption | exact But.alloc (by assumption) _) B0; (try have S0 := zp.but (eb := eb) (by assumption) (But.two B0)); have hcl := C0.lt; clear B0) | (go_at_call 92; refine (HBool.out cb eb n v _ _ (by first | assumption | exact Cur.below (by assumption) ((Below.refl _ _).alloc (Nat.le_refl _) _)) (by first | assumption | exact zf.but (by assumption) ((But.refl _ _).alloc _) hne) hne hn (by omega) (by omega)).mono ?_; rintro e w0 ⟨s, rfl, hs, C0, B0⟩; have hs2 : (s.size : Int) <= 100000000 := (by omega); have E0 := zf.but (by first | assumption | exact zf.but (by assumption) ((But.refl _ _).alloc _) hne) B0 hne; have F0 := But.trans (by first | assumption | exact But.alloc (by assumption) _) B0; (try have S0 := zp.but (eb := eb) (by assumption) (But.two B0)); have hcl := C0.lt; clear B0) | (go_at_call 89; refine (HTab.out cb eb n v _ _ (by first | assumption | exact Cur.below (by assumption) ((Below.refl _ _).alloc (Nat.le_refl _) _)) (by first | assumption | exact zf.but (by assumption) ((But.refl _ _).alloc _) hne) hne hn (by omega) (by omega)).mono ?_; rintro e w0 ⟨s, rfl, hs, C0, B0⟩; have hs2 : (s.size : Int) <= 100000000 := (by omega); have E0 := zf.but (by first | assumption | exact zf.but (by assumption) ((But.refl _ _).alloc _) hne) B0 hne; have F0 := But.trans (by first | assumption | exact But.alloc (by assumption) _) B0; (try have S0 := zp.but (eb := eb) (by assumption) (But.two B0)); have hcl := C0.lt; clear B0))
 all_goals
  (try simp only [Exit.inBlock, Exit.then])
  go_ret
  exact ⟨_, rfl, by first | omega | (simp [ByteArray.size_append, bsz] <;> omega), (by first | assumption | exact Cur.below (by assumption) ((Below.refl _ _).alloc (Nat.le_refl _) _)), (by first | assumption | exact But.alloc (by assumption) _)⟩
structure zes (b : Nat) (d : Int) : Prop where
 num : zaq 53 b d
 str : zaq 88 b d
 bool : zaq 92 b d
 any : zaq 91 b d
theorem zll : zes 200 0 := ⟨zlm, zrf, zpz, zrg⟩
theorem zet {b : Nat} {d : Int} (h : zes b d) (hb : b <= 5000000) (hb2 : 100 <= b) (hd0 : 0 <= d) (hd : d <= 10) : zes (10 * b) (d + 1) := by
 have n1 := zrh b d hb (by omega) hd h.num h.str h.bool
 have s1 := zri b d hb (by omega) hd h.any h.str
 have b1 := zp0 b d hb (by omega) hd h.num h.str h.bool h.any
 have t1 := zlk b d hb hb2 hd0 hd h.num h.any
 exact ⟨n1, s1, b1, zre b d hb hb2 hd0 hd n1 s1 h.bool t1⟩
theorem zbu : zes 200000 3 := zet (zet (zet zll (by omega) (by omega) (by omega) (by omega)) (by omega) (by omega) (by omega) (by omega)) (by omega) (by omega) (by omega) (by omega)
theorem zd6 : zaq 89 200000 3 (-50) := by
 have h := zet (zet zll (by omega) (by omega) (by omega) (by omega)) (by omega) (by omega) (by omega) (by omega)
 exact zlk _ _ (by omega) (by omega) (by omega) (by omega) h.num h.any
def zlo (y z : Int) : ByteArray := (ByteArray.empty.push (UInt8.ofNat y.toNat)).push (UInt8.ofNat z.toNat)
theorem zp3 (y z : Int) : (zlo y z).size = 2 := rfl
theorem zrj (W : World) (g : Nat) (y z : Int) (h0 : W.cell? ⟨g, 0, none⟩ = some (.int .u8 y)) (h1 : W.cell? ⟨g, 1, none⟩ = some (.int .u8 z)) : (convert 22 9 (.slice (some ⟨g, 0, none⟩) 2 2)).run Tryz.prog W = .ok (.string (zlo y z)) W := by
 have hl : (loadCells ⟨g, 0, none⟩ 2).run Tryz.prog W = .ok ([y, z].map (Value.int .u8)).toArray W := by
  have := run_loadCells (P := Tryz.prog) W ⟨g, 0, none⟩ 2 (fun j => Value.int .u8 (if j = 0 then y else z)) (fun j hj => by
   rw [Addr.add_lit, Nat.zero_add]
   rcases j with _ | _ | j
   · exact h0
   · exact h1
   · omega)
  rw [this]
  rfl
 rw [run_convert_bytes_string W _ _ _ _ _ _ Tryz.underlying22 Tryz.underlying5 Tryz.underlying9, run_bytesToString W _ _ _ [y, z] hl]
 rfl
theorem zp4 {w : World} {eb i : Nat} {A : Array Value} {v : Value} (h : ∀ j, w.cell? ⟨eb, j, none⟩ = A[j]?) (hi : i < A.size) : ∀ j, (w.setCell ⟨eb, i, none⟩ v).cell? ⟨eb, j, none⟩ = (A.setIfInBounds i v)[j]? := fun j => by
 by_cases e : j = i
 · subst e
   rw [World.cell?_setCell_same _ _ _ (u := A[j]) (by rw [h j, Array.getElem?_eq_getElem hi])]
   simp [hi]
 · rw [World.cell?_setCell_other _ _ _ _ (by intro e2; injection e2; omega), h j]
   rw [Array.getElem?_setIfInBounds_ne (by omega)]
theorem Env.put {w : World} {cb eb n m : Nat} {vn vk : Value} {ct lf : Int} {fn co : Bool} (h : Env w cb eb n m vn vk ct lf fn co) {n' m' : Nat} {vn' vk' : Value} {ct' lf' : Int} {fn' co' : Bool} {i : Nat} {u : Value} (hi : i < 6)
 (hA : (#[vn, vk, .int .i64 ct, .int .i64 lf, .bool fn, .bool co] : Array Value).setIfInBounds i u = #[vn', vk', .int .i64 ct', .int .i64 lf', .bool fn', .bool co']) (h1 : zp w cb eb vn' n' 3) (h2 : zdr w cb eb vk' m') : Env (w.setCell ⟨eb, i, none⟩ u) cb eb n' m' vn' vk' ct' lf' fn' co' := by
 have hb := (zz.refl cb eb w).set i u
 refine ⟨by simpa using h.lt, fun j => ?_, fun j => by rw [World.frozen?_setCell]; exact h.f j, h1.but hb, h2.but hb⟩
 rw [zp4 h.c (by simpa using hi) j, hA]
theorem zp.news {w : World} {cb eb n m b o c : Nat} (h : zp w cb eb (.slice (some ⟨b, o, none⟩) n c) n m) : ∃ news : List Value, news.length = n /\ TxL m news /\ b < w.heap.size /\ ∀ j u, news[j]? = some u -> w.cell? ⟨b, o + j, none⟩ = some u := by
 obtain ⟨a, c', hv, h⟩ := h
 simp only [Value.slice.injEq, true_and] at hv
 obtain ⟨rfl, rfl⟩ := hv
 rcases h with ⟨h, _⟩ | ⟨b', o', hv, hb, _, _, hc⟩
 · cases h
 · simp only [Option.some.injEq, Addr.mk.injEq, and_true] at hv
   obtain ⟨rfl, rfl⟩ := hv
   refine ⟨(List.range n).map fun i => (w.cell? ⟨b, o + i, none⟩).getD undef, by simp, fun u hu => ?_, hb, fun j u hj => ?_⟩
   · obtain ⟨i, hi, rfl⟩ := List.mem_map.1 hu
     obtain ⟨s, e1, e2⟩ := hc i (by simpa using hi)
     exact ⟨s, by rw [e1]; rfl, e2⟩
   · rw [List.getElem?_map] at hj
     by_cases hjn : j < n
     · rw [List.getElem?_range hjn, Option.map_some] at hj
       obtain ⟨s, e1, _⟩ := hc j hjn
       rw [e1] at hj ⊢
       simpa using hj
     · rw [List.getElem?_eq_none (by simpa using hjn)] at hj
       cases hj
def InL (xs : List Value) : Prop := ∀ u ∈ xs, ∃ x : Int, u = .int .i64 x
theorem zdr.news {w : World} {cb eb n b o c : Nat} (h : zdr w cb eb (.slice (some ⟨b, o, none⟩) n c) n) : ∃ news : List Value, news.length = n /\ InL news /\ b < w.heap.size /\ ∀ j u, news[j]? = some u -> w.cell? ⟨b, o + j, none⟩ = some u := by
 obtain ⟨a, c', hv, h⟩ := h
 simp only [Value.slice.injEq, true_and] at hv
 obtain ⟨rfl, rfl⟩ := hv
 rcases h with ⟨h, _⟩ | ⟨b', o', hv, hb, _, _, hc⟩
 · cases h
 · simp only [Option.some.injEq, Addr.mk.injEq, and_true] at hv
   obtain ⟨rfl, rfl⟩ := hv
   refine ⟨(List.range n).map fun i => (w.cell? ⟨b, o + i, none⟩).getD undef, by simp, fun u hu => ?_, hb, fun j u hj => ?_⟩
   · obtain ⟨i, hi, rfl⟩ := List.mem_map.1 hu
     obtain ⟨x, e1⟩ := hc i (by simpa using hi)
     exact ⟨x, by rw [e1]; rfl⟩
   · rw [List.getElem?_map] at hj
     by_cases hjn : j < n
     · rw [List.getElem?_range hjn, Option.map_some] at hj
       obtain ⟨x, e1⟩ := hc j hjn
       rw [e1] at hj ⊢
       simpa using hj
     · rw [List.getElem?_eq_none (by simpa using hjn)] at hj
       cases hj
theorem zfv {B cb eb n : Nat} {w : World} {v : Value} {xs : List Value} (h : w.ownsRow B 3 1 v n xs) (hx : InL xs) (h1 : cb < B) (h2 : eb < B) : zdr w cb eb v n := by
 have hl := h.1
 obtain ⟨_, ⟨rfl, h0⟩ | ⟨g, cap, cur, rfl, hg, hc, r⟩⟩ := id h
 · exact ⟨none, 0, by rw [h0], .inl ⟨rfl, rfl, h0⟩⟩
 · refine ⟨_, cap, rfl, .inr ⟨g, 0, rfl, ?_, by omega, by omega, fun i hi => ?_⟩⟩
   · rcases Nat.lt_or_ge g w.heap.size with h | h
     · exact h
     · rw [Array.getElem?_eq_none h] at hc; cases hc
   · have e := h.cellAt i (by omega)
     have hi' : i < xs.length := by omega
     rw [List.getElem?_eq_getElem hi'] at e
     obtain ⟨s, hs1⟩ := hx _ (List.getElem_mem hi')
     exact ⟨s, by rw [Nat.zero_add, e, hs1]⟩
theorem zu1 : (Tryz.prog.info? 3).map (fun i => (i.zero, i.size, i.bytes)) = some (some (.int .i64 0), 1, 8) := by kernel_rfl
theorem zrk : ∃ i : TypeInfo, Tryz.prog.info? 3 = some i /\ i.zero = some (.int .i64 0) /\ i.size = 1 /\ i.bytes = 8 := by
 have h := zu1
 cases hi : Tryz.prog.info? 3 with
 | none => rw [hi] at h; simp at h
 | some i =>
   rw [hi] at h
   simp only [Option.map_some, Option.some.injEq, Prod.mk.injEq] at h
   exact ⟨i, rfl, h.1, h.2.1, h.2.2⟩
theorem zn8 {w : World} {cb eb n m : Nat} {v : Value} (h : zp w cb eb v n m) : (v = .slice none 0 0 /\ n = 0) \/ ∃ b o c, v = .slice (some ⟨b, o, none⟩) n c := by
 obtain ⟨a, c, rfl, ⟨rfl, rfl, rfl⟩ | ⟨b, o, rfl, _⟩⟩ := h
 · exact .inl ⟨rfl, rfl⟩
 · exact .inr ⟨b, o, c, rfl⟩
theorem zgr {w : World} {cb eb n : Nat} {v : Value} (h : zdr w cb eb v n) : (v = .slice none 0 0 /\ n = 0) \/ ∃ b o c, v = .slice (some ⟨b, o, none⟩) n c := by
 obtain ⟨a, c, rfl, ⟨rfl, rfl, rfl⟩ | ⟨b, o, rfl, _⟩⟩ := h
 · exact .inl ⟨rfl, rfl⟩
 · exact .inr ⟨b, o, c, rfl⟩
theorem zdf {w : World} {n : Nat} (hn : n = w.heap.size) (x : Value) (t : TypeId) : ∀ j u, [x][j]? = some u -> (w.alloc (.cells #[x] t)).cell? ((⟨n, 0, none⟩ : Addr).add j) = some u := by
 intro j u h
 subst hn
 rw [Addr.add_lit, Nat.zero_add, World.cell?_alloc_new, <- h]
 simp
theorem TxL.snoc {m : Nat} {xs : List Value} {s : ByteArray} (h : TxL m xs) (hs : s.size = 3) (hm : 3 <= m := by omega) : TxL m (xs ++ [.string s]) := fun u hu => by
 rcases List.mem_append.1 hu with hu | hu
 · exact h u hu
 · rw [List.mem_singleton] at hu
   exact ⟨s, hu, by omega⟩
theorem InL.snoc {xs : List Value} {x : Int} (h : InL xs) : InL (xs ++ [.int .i64 x]) := fun u hu => by
 rcases List.mem_append.1 hu with hu | hu
 · exact h u hu
 · rw [List.mem_singleton] at hu
   exact ⟨x, hu⟩
theorem zei {x : Value} (h : x.oneCell' = true) : ∀ u ∈ [x], u.oneCell' = true := fun u hu => by rw [List.mem_singleton] at hu; subst hu; exact h
set_option maxHeartbeats 4000000 in
theorem zjc (cb eb n : Nat) (v : Value) (kind : Int) (w : World) (hC : Cur w cb v) (hE : zf w cb eb n) (hce : cb < eb) (hn : n <= 1000) :
 Calls Tryz.prog 87 #[.pointer (some ⟨eb, 0, none⟩), .int .i64 kind] w fun e w' => ∃ s : ByteArray, e = .returned (.string s) /\ s.size = 3 /\ zf w' cb eb (n + 1) /\ But eb w w' := by
 have hne : eb ≠ cb := by omega
 obtain ⟨vn, vk, ct, lf, fn, co, E⟩ := hE
 obtain ⟨i0, hi, hz0, hz1, hz2⟩ := zln
 obtain ⟨i1, hj, hy0, hy1, hy2⟩ := zrk
 have hlt := E.lt
 have d2 := E.c 2
 have f2 := E.f 2
 simp at d2
 have hcv : ∀ (x : Value) (y z : Int), (convert 22 9 (.slice (some ⟨w.heap.size, 0, none⟩) 2 2)).run Tryz.prog ((w.setCell ⟨eb, 2, none⟩ x).alloc (.cells #[.int .u8 y, .int .u8 z] 5)).drew = .ok (.string (zlo y z)) ((w.setCell ⟨eb, 2, none⟩ x).alloc (.cells #[.int .u8 y, .int .u8 z] 5)).drew := fun x y z => zrj _ _ y z (by have := World.cell?_alloc_new (w.setCell ⟨eb, 2, none⟩ x) #[.int .u8 y, .int .u8 z] 5 0; simpa using this) (by have := World.cell?_alloc_new (w.setCell ⟨eb, 2, none⟩ x) #[.int .u8 y, .int .u8 z] 5 1; simpa using this)
 have hs1 : ∀ y z, (zlo y z).size = 2 := zp3
 have HE : Hid (Env w cb eb n n vn vk ct lf fn co) := E
 have hcl := hC.lt
 clear E hC
 go_enter Tryz.func87, Tryz.ntmps87
 go_wp2_with fail
 go_region
 clear hcv
 obtain ⟨s, hs⟩ : ∃ s : ByteArray, s = ⟨#[118]⟩ ++ zlo (wrap64 (97 + (wrap64 (ct + 1)).tmod 26) % 256) (wrap64 (97 + (wrap64 ((wrap64 (ct + 1)).tdiv 26)).tmod 26) % 256) := ⟨_, rfl⟩
 have hs3 : s.size = 3 := by rw [hs, ByteArray.size_append, hs1]; rfl
 rw [<- hs]
 obtain ⟨w2, hw2⟩ : ∃ V, V = ((w.setCell ⟨eb, 2, none⟩ (.int .i64 (wrap64 (ct + 1)))).alloc (.cells #[.int .u8 (wrap64 (97 + (wrap64 (ct + 1)).tmod 26) % 256), .int .u8 (wrap64 (97 + (wrap64 ((wrap64 (ct + 1)).tdiv 26)).tmod 26) % 256)] 5)).drew := ⟨_, rfl⟩
 have hb1 : But cb (w.setCell ⟨eb, 2, none⟩ (.int .i64 (wrap64 (ct + 1)))) w2 := by rw [hw2]; exact ((But.refl _ _).alloc _).drewN 1
 have E2 : Hid (Env w2 cb eb n n vn vk (wrap64 (ct + 1)) lf fn co) := (HE.out.put (i := 2) (by omega) rfl HE.out.hn HE.out.hk).but hb1 hne
 have F2 : Hid (But eb w w2) := by show But eb w w2; rw [hw2]; exact (((But.refl eb w).setCell rfl _).alloc _).drewN 1
 rw [<- hw2]
 clear hs hw2 hb1 hs1 d2 f2 HE
 generalize wrap64 (ct + 1) = c1 at *
 have l2 := E2.out.lt
 have lc2 : cb < w2.heap.size := Nat.lt_of_lt_of_le hcl F2.out.size
 have d0 : w2.cell? ⟨eb, 0, none⟩ = some vn := E2.out.c 0
 have d1 : w2.cell? ⟨eb, 1, none⟩ = some vk := E2.out.c 1
 have hn' : (n : Int) <= 1000 := by omega
 rcases zn8 E2.out.hn with ⟨rfl, rfl⟩ | ⟨sb, so, sc, rfl⟩
 · go_upto_region 4 with (first | (at_builtin; refine wpList_append_own _ rfl _ _ 80 rfl w2.heap.size 9 i0 (.string ⟨#[]⟩) 1 16 Tryz.underlying80 hi hz0 hz1 hz2 rfl (by decide) _ 0 [] rfl (World.ownsRow.alloc (World.ownsRow_lit w2 #[] 0 (Nat.le_refl _) (by unfold maxLen; omega) rfl) _) ⟨w2.heap.size + 1, 0, none⟩ 1 1 [.string s] rfl rfl (zdf (by simp) _ _) (zei rfl) (by unfold maxLen; omega) (by omega) (by simp; omega) ?_; intro v2 w4 O2 g2 hnil; clear hnil; obtain ⟨va2, vc2, rfl⟩ := zbv O2; have B4 : Below w2.heap.size w2 w4 := (((Below.refl _ _).alloc (Nat.le_refl _) _).alloc (by simp) _).grown g2 (by simp; omega) (fun j hj => (World.ownsRow.lt (e := 9) (size := 1) (World.ownsRow_lit w2 #[] 0 (Nat.le_refl _) (by unfold maxLen; omega) rfl) j hj).1); clear g2; have e0 : w4.cell? ⟨eb, 0, none⟩ = some (.slice none 0 0) := (by rw [B4.cell (p := ⟨eb, 0, none⟩) l2]; exact d0); have g0 : w4.frozen? ⟨eb, 0, none⟩ = false := (by rw [B4.frozen (p := ⟨eb, 0, none⟩) l2]; exact E2.out.f 0); have l4 := Nat.lt_of_lt_of_le l2 B4.size) | (at_builtin; refine wpList_append_own_none rfl _ _ 80 rfl w2.heap.size 9 i0 1 Tryz.underlying80 hi (.slice (some ⟨w2.heap.size, 0, none⟩) 0 0) 0 [] rfl (World.ownsRow_lit w2 #[] 0 (Nat.le_refl _) (by unfold maxLen; omega) rfl) rfl ?_))
   have S4 : zp w4 cb eb (.slice va2 (0 + 1) vc2) (0 + 1) 3 := zg7 O2 (TxL.snoc (fun u hu => by cases hu) hs3) lc2 l2
   obtain ⟨w5, hw5⟩ : ∃ V, V = w4.setCell ⟨eb, 0, none⟩ (.slice va2 (0 + 1) vc2) := ⟨_, rfl⟩
   have E4 := E2.out.but (But.ofBelow B4) hne
   have E5 : Hid (Env w5 cb eb (0 + 1) 0 (.slice va2 (0 + 1) vc2) vk c1 lf fn co) := by show Env w5 cb eb (0 + 1) 0 (.slice va2 (0 + 1) vc2) vk c1 lf fn co; rw [hw5]; exact E4.put (i := 0) (by omega) rfl S4 E4.hk
   have F5 : Hid (But eb w w5) := by show But eb w w5; rw [hw5]; exact (F2.out.trans (But.ofBelow B4)).setCell rfl _
   rw [<- hw5]
   have l5 := E5.out.lt
   have lc5 : cb < w5.heap.size := Nat.lt_of_lt_of_le hcl F5.out.size
   have d5 : w5.cell? ⟨eb, 1, none⟩ = some vk := E5.out.c 1
   have hn5 : (0 : Nat) <= 1000 := by omega
   clear hw5 E4 S4 O2 B4 e0 g0 l4 E2 F2 d0 d1 l2 lc2
   rcases zgr E5.out.hk with ⟨rfl, k0⟩ | ⟨tb, tq, tc, rfl⟩
   · go_wp2_with (first | (at_builtin; refine wpList_append_own _ rfl _ _ 32 rfl w5.heap.size 3 i1 (.int .i64 0) 1 8 Tryz.underlying32 hj hy0 hy1 hy2 rfl (by decide) _ 0 [] rfl (World.ownsRow.alloc (World.ownsRow_lit w5 #[] 0 (Nat.le_refl _) (by unfold maxLen; omega) rfl) _) ⟨w5.heap.size + 1, 0, none⟩ 1 1 [.int .i64 kind] rfl rfl (zdf (by simp) _ _) (zei rfl) (by unfold maxLen; omega) (by omega) (by simp; omega) ?_; intro v5 w7 O5 g5 hnil; clear hnil; obtain ⟨va5, vc5, rfl⟩ := zbv O5; have B7 : Below w5.heap.size w5 w7 := (((Below.refl _ _).alloc (Nat.le_refl _) _).alloc (by simp) _).grown g5 (by simp; omega) (fun j hj => (World.ownsRow.lt (e := 3) (size := 1) (World.ownsRow_lit w5 #[] 0 (Nat.le_refl _) (by unfold maxLen; omega) rfl) j hj).1); clear g5; have e0 : w7.cell? ⟨eb, 1, none⟩ = some (.slice none 0 0) := (by rw [B7.cell (p := ⟨eb, 1, none⟩) l5]; exact d5); have g0 : w7.frozen? ⟨eb, 1, none⟩ = false := (by rw [B7.frozen (p := ⟨eb, 1, none⟩) l5]; exact E5.out.f 1); have l7 := Nat.lt_of_lt_of_le l5 B7.size) | (at_builtin; refine wpList_append_own_none rfl _ _ 32 rfl w5.heap.size 3 i1 1 Tryz.underlying32 hj (.slice (some ⟨w5.heap.size, 0, none⟩) 0 0) 0 [] rfl (World.ownsRow_lit w5 #[] 0 (Nat.le_refl _) (by unfold maxLen; omega) rfl) rfl ?_))
     have S7 : zdr w7 cb eb (.slice va5 (0 + 1) vc5) (0 + 1) := zfv O5 (InL.snoc (fun u hu => by cases hu)) lc5 l5
     have E7 := E5.out.but (But.ofBelow B7) hne
     go_ret
     exact ⟨s, rfl, hs3, ⟨_, _, _, _, _, _, E7.put (i := 1) (by omega) rfl E7.hn S7⟩, (F5.out.trans (But.ofBelow B7)).setCell rfl _⟩
   · obtain ⟨newk, kl, kx, kb, kc⟩ := E5.out.hk.news
     have kon1 : ∀ u ∈ newk, u.oneCell' = true := fun u hu => by obtain ⟨x, rfl⟩ := kx u hu; rfl
     go_wp2_with (first | (at_builtin; refine wpList_append_own _ rfl _ _ 32 rfl w5.heap.size 3 i1 (.int .i64 0) 1 8 Tryz.underlying32 hj hy0 hy1 hy2 rfl (by decide) _ 0 newk rfl (O4.alloc _) ⟨w6.heap.size, 0, none⟩ 1 1 [.int .i64 kind] rfl rfl (zdf rfl _ _) (zei rfl) (by unfold maxLen; omega) (by omega) (by simp; omega) ?_; intro v5 w7 O5 g5 hnil; clear hnil; obtain ⟨va5, vc5, rfl⟩ := zbv O5; have B7 : Below w5.heap.size w5 w7 := (B6.alloc z6 _).grown g5 (by simp; omega) (fun j hj => (World.ownsRow.lt O4 j hj).1); clear g5; have e0 : w7.cell? ⟨eb, 1, none⟩ = some (.slice (some ⟨tb, tq, none⟩) 0 tc) := (by rw [B7.cell (p := ⟨eb, 1, none⟩) l5]; exact d5); have g0 : w7.frozen? ⟨eb, 1, none⟩ = false := (by rw [B7.frozen (p := ⟨eb, 1, none⟩) l5]; exact E5.out.f 1); have l7 := Nat.lt_of_lt_of_le l5 B7.size) | (at_builtin; refine wpList_append_own _ rfl _ _ 32 rfl w5.heap.size 3 i1 (.int .i64 0) 1 8 Tryz.underlying32 hj hy0 hy1 hy2 rfl (by decide) _ 0 [] rfl (World.ownsRow_lit w5 #[] 0 (Nat.le_refl _) (by unfold maxLen; omega) rfl) ⟨tb, tq, none⟩ 0 tc newk rfl (by rw [kl, Nat.mul_one]) (fun j u hj => by rw [Addr.add_lit, World.cell?_alloc_lt _ _ _ kb]; exact kc j u hj) kon1 (by unfold maxLen; omega) (by omega) (by simp) ?_; intro v4 w6 O4 g4 hnil; clear hnil; have B6 : Below w5.heap.size w5 w6 := ((Below.refl _ _).alloc (Nat.le_refl _) _).grown g4 (by simp) (fun j hj => (World.ownsRow.lt (e := 3) (size := 1) (World.ownsRow_lit w5 #[] 0 (Nat.le_refl _) (by unfold maxLen; omega) rfl) j hj).1); clear g4; rw [Nat.zero_add, List.nil_append] at O4; obtain ⟨va4, vc4, rfl⟩ := zbv O4; have z6 := B6.size; clear kc))
     have S7 : zdr w7 cb eb (.slice va5 (0 + 1) vc5) (0 + 1) := zfv O5 (InL.snoc kx) lc5 l5
     have E7 := E5.out.but (But.ofBelow B7) hne
     go_ret
     exact ⟨s, rfl, hs3, ⟨_, _, _, _, _, _, E7.put (i := 1) (by omega) rfl E7.hn S7⟩, (F5.out.trans (But.ofBelow B7)).setCell rfl _⟩
 · obtain ⟨news, nl, nx, nb, nc⟩ := E2.out.hn.news
   have none1 : ∀ u ∈ news, u.oneCell' = true := nx.one
   go_upto_region 4 with (first | (at_builtin; refine wpList_append_own _ rfl _ _ 80 rfl w2.heap.size 9 i0 (.string ⟨#[]⟩) 1 16 Tryz.underlying80 hi hz0 hz1 hz2 rfl (by decide) _ n news rfl (O1.alloc _) ⟨w3.heap.size, 0, none⟩ 1 1 [.string s] rfl rfl (zdf rfl _ _) (zei rfl) (by unfold maxLen; omega) (by omega) (by simp; omega) ?_; intro v2 w4 O2 g2 hnil; clear hnil; obtain ⟨va2, vc2, rfl⟩ := zbv O2; have B4 : Below w2.heap.size w2 w4 := (B3.alloc z3 _).grown g2 (by simp; omega) (fun j hj => (World.ownsRow.lt O1 j hj).1); clear g2; have e0 : w4.cell? ⟨eb, 0, none⟩ = some (.slice (some ⟨sb, so, none⟩) n sc) := (by rw [B4.cell (p := ⟨eb, 0, none⟩) l2]; exact d0); have g0 : w4.frozen? ⟨eb, 0, none⟩ = false := (by rw [B4.frozen (p := ⟨eb, 0, none⟩) l2]; exact E2.out.f 0); have l4 := Nat.lt_of_lt_of_le l2 B4.size) | (at_builtin; refine wpList_append_own _ rfl _ _ 80 rfl w2.heap.size 9 i0 (.string ⟨#[]⟩) 1 16 Tryz.underlying80 hi hz0 hz1 hz2 rfl (by decide) _ 0 [] rfl (World.ownsRow_lit w2 #[] 0 (Nat.le_refl _) (by unfold maxLen; omega) rfl) ⟨sb, so, none⟩ n sc news rfl (by rw [nl, Nat.mul_one]) (fun j u hj => by rw [Addr.add_lit, World.cell?_alloc_lt _ _ _ nb]; exact nc j u hj) none1 (by unfold maxLen; omega) (by omega) (by simp) ?_; intro v1 w3 O1 g1 hnil; clear hnil; have B3 : Below w2.heap.size w2 w3 := ((Below.refl _ _).alloc (Nat.le_refl _) _).grown g1 (by simp) (fun j hj => (World.ownsRow.lt (e := 9) (size := 1) (World.ownsRow_lit w2 #[] 0 (Nat.le_refl _) (by unfold maxLen; omega) rfl) j hj).1); clear g1; rw [Nat.zero_add, List.nil_append] at O1; obtain ⟨va1, vc1, rfl⟩ := zbv O1; have z3 := B3.size; clear nc))
   have S4 : zp w4 cb eb (.slice va2 (n + 1) vc2) (n + 1) 3 := zg7 O2 (TxL.snoc nx hs3) lc2 l2
   obtain ⟨w5, hw5⟩ : ∃ V, V = w4.setCell ⟨eb, 0, none⟩ (.slice va2 (n + 1) vc2) := ⟨_, rfl⟩
   have E4 := E2.out.but (But.ofBelow B4) hne
   have E5 : Hid (Env w5 cb eb (n + 1) n (.slice va2 (n + 1) vc2) vk c1 lf fn co) := by show Env w5 cb eb (n + 1) n (.slice va2 (n + 1) vc2) vk c1 lf fn co; rw [hw5]; exact E4.put (i := 0) (by omega) rfl S4 E4.hk
   have F5 : Hid (But eb w w5) := by show But eb w w5; rw [hw5]; exact (F2.out.trans (But.ofBelow B4)).setCell rfl _
   rw [<- hw5]
   have l5 := E5.out.lt
   have lc5 : cb < w5.heap.size := Nat.lt_of_lt_of_le hcl F5.out.size
   have d5 : w5.cell? ⟨eb, 1, none⟩ = some vk := E5.out.c 1
   have hn5 : (n : Nat) <= 1000 := by omega
   clear hw5 E4 S4 O2 B4 e0 g0 l4 E2 F2 d0 d1 l2 lc2 O1 B3 z3 nx nl nb none1
   rcases zgr E5.out.hk with ⟨rfl, k0⟩ | ⟨tb, tq, tc, rfl⟩
   · subst k0
     go_wp2_with (first | (at_builtin; refine wpList_append_own _ rfl _ _ 32 rfl w5.heap.size 3 i1 (.int .i64 0) 1 8 Tryz.underlying32 hj hy0 hy1 hy2 rfl (by decide) _ 0 [] rfl (World.ownsRow.alloc (World.ownsRow_lit w5 #[] 0 (Nat.le_refl _) (by unfold maxLen; omega) rfl) _) ⟨w5.heap.size + 1, 0, none⟩ 1 1 [.int .i64 kind] rfl rfl (zdf (by simp) _ _) (zei rfl) (by unfold maxLen; omega) (by omega) (by simp; omega) ?_; intro v5 w7 O5 g5 hnil; clear hnil; obtain ⟨va5, vc5, rfl⟩ := zbv O5; have B7 : Below w5.heap.size w5 w7 := (((Below.refl _ _).alloc (Nat.le_refl _) _).alloc (by simp) _).grown g5 (by simp; omega) (fun j hj => (World.ownsRow.lt (e := 3) (size := 1) (World.ownsRow_lit w5 #[] 0 (Nat.le_refl _) (by unfold maxLen; omega) rfl) j hj).1); clear g5; have e0 : w7.cell? ⟨eb, 1, none⟩ = some (.slice none 0 0) := (by rw [B7.cell (p := ⟨eb, 1, none⟩) l5]; exact d5); have g0 : w7.frozen? ⟨eb, 1, none⟩ = false := (by rw [B7.frozen (p := ⟨eb, 1, none⟩) l5]; exact E5.out.f 1); have l7 := Nat.lt_of_lt_of_le l5 B7.size) | (at_builtin; refine wpList_append_own_none rfl _ _ 32 rfl w5.heap.size 3 i1 1 Tryz.underlying32 hj (.slice (some ⟨w5.heap.size, 0, none⟩) 0 0) 0 [] rfl (World.ownsRow_lit w5 #[] 0 (Nat.le_refl _) (by unfold maxLen; omega) rfl) rfl ?_))
     have S7 : zdr w7 cb eb (.slice va5 (0 + 1) vc5) (0 + 1) := zfv O5 (InL.snoc (fun u hu => by cases hu)) lc5 l5
     have E7 := E5.out.but (But.ofBelow B7) hne
     go_ret
     exact ⟨s, rfl, hs3, ⟨_, _, _, _, _, _, E7.put (i := 1) (by omega) rfl E7.hn S7⟩, (F5.out.trans (But.ofBelow B7)).setCell rfl _⟩
   · obtain ⟨newk, kl, kx, kb, kc⟩ := E5.out.hk.news
     have kon1 : ∀ u ∈ newk, u.oneCell' = true := fun u hu => by obtain ⟨x, rfl⟩ := kx u hu; rfl
     go_wp2_with (first | (at_builtin; refine wpList_append_own _ rfl _ _ 32 rfl w5.heap.size 3 i1 (.int .i64 0) 1 8 Tryz.underlying32 hj hy0 hy1 hy2 rfl (by decide) _ n newk rfl (O4.alloc _) ⟨w6.heap.size, 0, none⟩ 1 1 [.int .i64 kind] rfl rfl (zdf rfl _ _) (zei rfl) (by unfold maxLen; omega) (by omega) (by simp; omega) ?_; intro v5 w7 O5 g5 hnil; clear hnil; obtain ⟨va5, vc5, rfl⟩ := zbv O5; have B7 : Below w5.heap.size w5 w7 := (B6.alloc z6 _).grown g5 (by simp; omega) (fun j hj => (World.ownsRow.lt O4 j hj).1); clear g5; have e0 : w7.cell? ⟨eb, 1, none⟩ = some (.slice (some ⟨tb, tq, none⟩) n tc) := (by rw [B7.cell (p := ⟨eb, 1, none⟩) l5]; exact d5); have g0 : w7.frozen? ⟨eb, 1, none⟩ = false := (by rw [B7.frozen (p := ⟨eb, 1, none⟩) l5]; exact E5.out.f 1); have l7 := Nat.lt_of_lt_of_le l5 B7.size) | (at_builtin; refine wpList_append_own _ rfl _ _ 32 rfl w5.heap.size 3 i1 (.int .i64 0) 1 8 Tryz.underlying32 hj hy0 hy1 hy2 rfl (by decide) _ 0 [] rfl (World.ownsRow_lit w5 #[] 0 (Nat.le_refl _) (by unfold maxLen; omega) rfl) ⟨tb, tq, none⟩ n tc newk rfl (by rw [kl, Nat.mul_one]) (fun j u hj => by rw [Addr.add_lit, World.cell?_alloc_lt _ _ _ kb]; exact kc j u hj) kon1 (by unfold maxLen; omega) (by omega) (by simp) ?_; intro v4 w6 O4 g4 hnil; clear hnil; have B6 : Below w5.heap.size w5 w6 := ((Below.refl _ _).alloc (Nat.le_refl _) _).grown g4 (by simp) (fun j hj => (World.ownsRow.lt (e := 3) (size := 1) (World.ownsRow_lit w5 #[] 0 (Nat.le_refl _) (by unfold maxLen; omega) rfl) j hj).1); clear g4; rw [Nat.zero_add, List.nil_append] at O4; obtain ⟨va4, vc4, rfl⟩ := zbv O4; have z6 := B6.size; clear kc))
     have S7 : zdr w7 cb eb (.slice va5 (n + 1) vc5) (n + 1) := zfv O5 (InL.snoc kx) lc5 l5
     have E7 := E5.out.but (But.ofBelow B7) hne
     go_ret
     exact ⟨s, rfl, hs3, ⟨_, _, _, _, _, _, E7.put (i := 1) (by omega) rfl E7.hn S7⟩, (F5.out.trans (But.ofBelow B7)).setCell rfl _⟩
end Go.Proofs.YtiglkhkfbgjjoaaGreatDoor
