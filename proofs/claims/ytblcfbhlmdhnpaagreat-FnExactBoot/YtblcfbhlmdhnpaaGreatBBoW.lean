/- - -/
import Derived.Test.YtblcfbhlmdhnpaaGreatBBoU
namespace Go.Proofs.YtblcfbhlmdhnpaaGreat
set_option maxRecDepth 20000
open Go.RowKit Go.PlainAid
set_option linter.unusedSimpArgs false
set_option linter.unusedVariables false
theorem Rw.slF {w : World} {b m n c : Nat} {t : TypeId} {f : Nat -> Value} (h : Rw w b t m f) : SlF w.heap.size w (.slice (some ⟨b, 0, none⟩) n c) n m f := by
 obtain ⟨M, g, hM, hr, hg⟩ := h
 exact ⟨_, _, rfl, .inr ⟨b, 0, rfl, hr.lt, hr.lt, fun i hi => by rw [Nat.zero_add, hr.cell (by omega), hg i hi]⟩⟩
theorem PcM.ptF {B : Nat} {w : World} {v : Value} {L : Nat} {X : Nat -> PtD} {bu cu bc cc : Nat -> Nat} (h : PcM B w v L X bu cu bc cc) : PtF w.heap.size w v L X := by
 rcases Nat.eq_zero_or_pos L with h0 | h0
 · subst h0
   obtain ⟨⟨_, ⟨e, _⟩ | ⟨b, cap, cur, e, _⟩⟩, _⟩ := h
   · exact ⟨_, _, e, .inl rfl⟩
   · exact ⟨_, _, e, .inl rfl⟩
 · have hv : v ≠ .slice none 0 0 := fun e => by
    obtain ⟨_, ⟨_, h3⟩ | ⟨b, cap, cur, e2, _⟩⟩ := h.1
    · omega
    · rw [e] at e2
      simp at e2
   obtain ⟨b, d, rfl, hB, r⟩ := zcx h.1 hv
   refine ⟨_, _, rfl, .inr ⟨b, 0, rfl, r.lt, r.lt, fun i hi => ?_⟩⟩
   obtain ⟨u1, u2⟩ := h.2 i hi
   rw [Nat.zero_add]
   exact ⟨_, _, _, _, (r.cell (i := i * 4) (by omega)).trans (by rw [za0]), (r.cell (i := i * 4 + 1) (by omega)).trans (by rw [zaq]), (r.cell (i := i * 4 + 2) (by omega)).trans (by rw [zaj]), (r.cell (i := i * 4 + 3) (by omega)).trans (by rw [zak]), u1.slF, u2.slF⟩
theorem zbk {B es : Nat} {t : TypeId} {w w' : World} {v : Value} {n : Nat} {xs : List Value} (h : w.ownsRow B t es v n xs) (hb : ∀ b, v.ownBlock = some b -> w'.heap[b]? = w.heap[b]?) : w'.ownsRow B t es v n xs := by
 obtain ⟨h0, ⟨e, e2⟩ | ⟨b, cap, cur, e, h1, h2, h3⟩⟩ := h
 · exact ⟨h0, .inl ⟨e, e2⟩⟩
 · exact ⟨h0, .inr ⟨b, cap, cur, e, h1, (hb b (by rw [e]; rfl)).trans h2, h3⟩⟩
theorem zbc {B es : Nat} {t : TypeId} {w : World} {v : Value} {n : Nat} {xs : List Value} (h : w.ownsRow B t es v n xs) {b : Nat} (hb : v.ownBlock = some b) : B <= b /\ b < w.heap.size := by
 obtain ⟨h0, ⟨e, e2⟩ | ⟨b', cap, cur, e, h1, h2, h3⟩⟩ := h
 · rw [e] at hb; simp [Value.ownBlock] at hb
 · rw [e] at hb
   simp [Value.ownBlock] at hb
   subst hb
   exact ⟨h1, (Array.getElem?_eq_some_iff.1 h2).1⟩
theorem PcM.below {B : Nat} {w w' : World} {v : Value} {k : Nat} {X : Nat -> PtD} {bu cu bc cc : Nat -> Nat} (h : PcM B w v k X bu cu bc cc) (hb : Below w.heap.size w w') : PcM B w' v k X bu cu bc cc :=
 ⟨zbk h.1 (fun b e => hb.block b (zbc h.1 e).2), fun i hi => ⟨Rw.below (h.2 i hi).1 hb, Rw.below (h.2 i hi).2 hb⟩⟩
theorem zcw {w : World} {q b m : Nat} {t t' : TypeId} {A : Array Value} {f : Nat -> Value} (hq : za w q t A) (r : Rw w b t' m f) (ht : t ≠ t') : b ≠ q := fun e => by
 subst e
 obtain ⟨M, g, _, ⟨c, hc, _⟩, _⟩ := r
 unfold za at hq
 rw [hq] at hc
 simp at hc
 exact ht hc.2
theorem PcM.box {B : Nat} {w : World} {v : Value} {k : Nat} {X : Nat -> PtD} {bu cu bc cc : Nat -> Nat} (h : PcM B w v k X bu cu bc cc) {q : Nat} {A : Array Value} (hq : za w q 29 A) (hB : q < B) (i : Nat) (u : Value) : PcM B (w.setCell ⟨q, i, none⟩ u) v k X bu cu bc cc :=
 ⟨zbk h.1 (fun b e => Below.heap_setCell _ _ _ _ (by have := (zbc h.1 e).1; show b ≠ q; omega)), fun i hi => ⟨Rw.other (h.2 i hi).1 (p := ⟨q, _, none⟩) (zcw hq (h.2 i hi).1 (by decide)) _, Rw.other (h.2 i hi).2 (p := ⟨q, _, none⟩) (zcw hq (h.2 i hi).2 (by decide)) _⟩⟩
def zid (w : World) (y : Nat) : Prop := ∃ cs t fr, w.heap[y]? = some (.cells cs t fr) /\ t ≠ 58 /\ t ≠ 99 /\ t ≠ 80
theorem zbd {w : World} {b m : Nat} {t : TypeId} {f : Nat -> Value} (r : Rw w b t m f) : ∃ cs fr, w.heap[b]? = some (.cells cs t fr) := by
 obtain ⟨M, g, _, ⟨c, hc, _⟩, _⟩ := r
 exact ⟨_, _, hc⟩
theorem PcM.kp {B : Nat} {w w' : World} {v : Value} {k : Nat} {X : Nat -> PtD} {bu cu bc cc : Nat -> Nat} (h : PcM B w v k X bu cu bc cc) {Y : List Nat} (K : Kp Y w w') (hY : ∀ y ∈ Y, zid w y) : PcM B w' v k X bu cu bc cc := by
 refine ⟨zbk h.1 (fun b e => K.block b (zbc h.1 e).2 (fun g => ?_)), fun i hi => ⟨Rw.kp (h.2 i hi).1 K (fun g => ?_), Rw.kp (h.2 i hi).2 K (fun g => ?_)⟩⟩
 · obtain ⟨cs, t, fr, e1, n1, n2, n3⟩ := hY b g
   obtain ⟨_, ⟨e2, _⟩ | ⟨b', cap, cur, e2, _, h2, _⟩⟩ := h.1
   · rw [e2] at e; simp [Value.ownBlock] at e
   · rw [e2] at e
     simp [Value.ownBlock] at e
     subst e
     rw [h2] at e1
     simp at e1
     exact n1 e1.2.1.symm
 · obtain ⟨cs, t, fr, e1, n1, n2, n3⟩ := hY _ g
   obtain ⟨cs', fr', e2⟩ := zbd (h.2 i hi).1
   rw [e2] at e1
   simp at e1
   exact n2 e1.2.1.symm
 · obtain ⟨cs, t, fr, e1, n1, n2, n3⟩ := hY _ g
   obtain ⟨cs', fr', e2⟩ := zbd (h.2 i hi).2
   rw [e2] at e1
   simp at e1
   exact n3 e1.2.1.symm
set_option maxHeartbeats 4000000 in
theorem zcf (a1 : Option Addr) (L c1 : Nat) (a2 : Option Addr) (n c2 : Nat) (X : Nat -> PtD) (s : Nat -> ByteArray) (w : World) (h1 : PtF w.heap.size w (.slice a1 L c1) L X) (h2 : TxF w.heap.size w (.slice a2 n c2) n s) (hL : L <= 1048576) (hn : n <= 1048576) (hX : ∀ j, j < L -> PLe (X j) 1048576) :
 Calls Tryz.prog 18 #[.agg #[.slice a1 L c1, .slice a2 n c2]] w fun e w' => ∃ (p1 : Option Addr) (d1 b2 d2 B : Nat) (bu cu bc cc : Nat -> Nat), e = .returned (.agg #[.slice p1 L d1, .slice (some ⟨b2, 0, none⟩) n d2]) /\ PcM B w' (.slice p1 L d1) L X bu cu bc cc /\ Rw w' b2 9 n (fun i => .string (s i)) /\ Below w.heap.size w w' := by
 obtain ⟨is, his, hs0, hs1, hs2⟩ := info_parts zdo
 obtain ⟨iu, hiu, hu0, hu1, hu2⟩ := info_parts zee
 obtain ⟨ii, hii, hi0, hi1, hi2⟩ := info_parts zdq
 obtain ⟨ip, hip, hp0, hp1, hp2⟩ := info_parts zdp
 obtain ⟨au, cu, ac, cc, rP, rU, rC⟩ := h1.open_
 have HP : Hid (SlF w.heap.size w (.slice a1 L c1) L (L * 4) (ptC X au cu ac cc)) := rP
 have HU : Hid _ := rU
 have HC : Hid _ := rC
 have HT : Hid (TxF w.heap.size w (.slice a2 n c2) n s) := h2
 have HX : Hid (∀ j, j < L -> PLe (X j) 1048576) := hX
 have hL' : (L : Int) <= 1048576 := by omega
 clear h1 h2 rP rU rC hX
 go_enter Tryz.func18, Tryz.ntmps18
 go_wp2_with (at_builtin; refine zau rfl _ _ 23 9 rfl is (.string ⟨#[]⟩) 1 16 Tryz.underlying23 his hs0 hs1 hs2 rfl (by decide) (w.heap.size + 1 + 1) rfl ?hg w.heap.size a2 n c2 (fun i => .string (s i)) rfl ?hS ?h1 hn (by decide) ?_)
 case hg =>
  have := za.new ((w.alloc (.cells #[.slice a1 L c1, .slice a2 n c2] 29)).alloc (.cells #[.slice none 0 0, .slice none 0 0] 29)) 9 #[]
  unfold za at this
  simpa using this
 case hS =>
  have B : Below w.heap.size w (((w.alloc (.cells #[.slice a1 L c1, .slice a2 n c2] 29)).alloc (.cells #[.slice none 0 0, .slice none 0 0] 29)).alloc (.cells #[] 9)) := (((Below.refl _ _).alloc (Nat.le_refl _) _).alloc (by simp) _).alloc (by simp; omega) _
  have := HT.out.below B (Nat.le_refl _)
  unfold TxF at this
  rw [Nat.mul_one]
  exact this
 case h1 => exact fun j _ => rfl
 intro b2 d2 w1 gb r2 B1
 have BW : Below w.heap.size w (((w.alloc (.cells #[.slice a1 L c1, .slice a2 n c2] 29)).alloc (.cells #[.slice none 0 0, .slice none 0 0] 29)).alloc (.cells #[] 9)) := (((Below.refl _ _).alloc (Nat.le_refl _) _).alloc (by simp) _).alloc (by simp; omega) _
 have XM0 : za (((w.alloc (.cells #[.slice a1 L c1, .slice a2 n c2] 29)).alloc (.cells #[.slice none 0 0, .slice none 0 0] 29)).alloc (.cells #[] 9)) w.heap.size 29 #[.slice a1 L c1, .slice a2 n c2] := ((za.new w _ _).alloc _).alloc _
 have XR0 : za (((w.alloc (.cells #[.slice a1 L c1, .slice a2 n c2] 29)).alloc (.cells #[.slice none 0 0, .slice none 0 0] 29)).alloc (.cells #[] 9)) (w.heap.size + 1) 29 #[.slice none 0 0, .slice none 0 0] := by
  have := (za.new (w.alloc (.cells #[.slice a1 L c1, .slice a2 n c2] 29)) 29 #[.slice none 0 0, .slice none 0 0]).alloc (.cells #[] 9)
  simpa using this
 have XM := XM0.below B1 (by omega)
 have XR := XR0.below B1 (by omega)
 have BB1 : Below w.heap.size w w1 := BW.trans ⟨B1.os, B1.tape, B1.output, B1.size, fun k hk => B1.block k (by omega)⟩
 have z1 : w.heap.size + 1 + 1 < w1.heap.size := by have := B1.size; simp at this; omega
 clear BW XM0 XR0 B1
 obtain ⟨w2, hw2⟩ : ∃ V, V = w1.alloc (.cells #[.slice none 0 0, .slice (some ⟨b2, 0, none⟩) n d2] 29) := ⟨_, rfl⟩
 have XM2 : za w2 w.heap.size 29 #[.slice a1 L c1, .slice a2 n c2] := by rw [hw2]; exact XM.alloc _
 have XR2 : za w2 (w.heap.size + 1) 29 #[.slice none 0 0, .slice none 0 0] := by rw [hw2]; exact XR.alloc _
 have XO2 : za w2 w1.heap.size 29 #[.slice none 0 0, .slice (some ⟨b2, 0, none⟩) n d2] := by rw [hw2]; exact za.new _ _ _
 have T2 : Rw w2 b2 9 n (fun i => .string (s i)) := by rw [hw2]; exact Rw.below r2 ((Below.refl _ _).alloc (Nat.le_refl _) _)
 have BB2 : Below w.heap.size w w2 := by rw [hw2]; exact BB1.alloc BB1.size _
 have z2 : w2.heap.size = w1.heap.size + 1 := by rw [hw2]; simp
 have lt1 := r2.lt
 have HM2 : Hid (za w2 w.heap.size 29 #[.slice a1 L c1, .slice a2 n c2]) := XM2
 have HR2 : Hid (za w2 (w.heap.size + 1) 29 #[.slice none 0 0, .slice none 0 0]) := XR2
 have HT2 : Hid (Rw w2 b2 9 n (fun i => .string (s i))) := T2
 have HB2 : Hid (Below w.heap.size w w2) := BB2
 have HO2 : Hid (za w2 w1.heap.size 29 #[.slice none 0 0, .slice (some ⟨b2, 0, none⟩) n d2]) := XO2
 clear XM XR XM2 XR2 T2 BB1 BB2 XO2 r2
 go_wp2_with fail
 rw [<- hw2]
 clear hw2
 go_loopw [4] (fun u wr => ∃ (k : Nat) (v : Value) (bu cu bc cc : Nat -> Nat), k <= L /\ u = .int .i64 k /\ za wr w1.heap.size 29 #[v, .slice (some ⟨b2, 0, none⟩) n d2] /\ PcM w2.heap.size wr v k X bu cu bc cc /\ Kp [w1.heap.size] w2 wr) (fun u _ => L - (intOf u).toNat)
 case atStart => exact ⟨0, .slice none 0 0, fun _ => 0, fun _ => 0, fun _ => 0, fun _ => 0, Nat.zero_le _, rfl, HO2.out, ⟨⟨by simp [zo], .inl ⟨rfl, rfl⟩⟩, fun i hi => by omega⟩, Kp.refl _ _⟩
 case round =>
  obtain ⟨k, v, bu, du, bc, dc, hk, rfl, XO, hP, hKr⟩ := hrel
  obtain ⟨av, cv, rfl⟩ : ∃ av cv, v = .slice av k cv := by
   obtain ⟨_, ⟨e, e2⟩ | ⟨b, cap, cur, e, _⟩⟩ := hP.1
   · subst e2; exact ⟨_, _, e⟩
   · exact ⟨_, _, e⟩
  have XM : za wr w.heap.size 29 #[.slice a1 L c1, .slice a2 n c2] := (hKr.block _ HM2.out.lt (by simp; omega)).trans HM2.out
  have XR : za wr (w.heap.size + 1) 29 #[.slice none 0 0, .slice none 0 0] := (hKr.block _ HR2.out.lt (by simp; omega)).trans HR2.out
  have kM0 := XM.cell 0
  simp at kM0
  by_cases hlt : k < L
  rotate_left
  · obtain rfl : k = L := by omega
    have o0 := XO.cell 0
    have o1 := XO.cell 1
    simp at o0 o1
    have kR := XR.cell
    have fR := XR.frozen
    have r0 : wr.cell? ⟨w.heap.size + 1, 0, none⟩ = some (.slice none 0 0) := XR.cell 0
    have r1 : wr.cell? ⟨w.heap.size + 1, 1, none⟩ = some (.slice none 0 0) := XR.cell 1
    have BR : Below w.heap.size w wr := HB2.out.trans (hKr.below (fun x hx => by simp at hx; omega) HB2.out.size)
    have HPC : Hid (PcM w2.heap.size wr (.slice av k cv) k X bu du bc dc) := hP
    have HXR : Hid (za wr (w.heap.size + 1) 29 #[.slice none 0 0, .slice none 0 0]) := XR
    have HTR : Hid (Rw wr b2 9 n (fun i => .string (s i))) := Rw.kp HT2.out hKr (by simp; omega)
    have lR := XR.lt
    clear XM XR XO hP
    go_wp2
    have B9 := (BR.setCell (p := ⟨w.heap.size + 1, 0, none⟩) (by show w.heap.size <= w.heap.size + 1; omega) (.slice av k cv)).setCell (p := ⟨w.heap.size + 1, 1, none⟩) (by show w.heap.size <= w.heap.size + 1; omega) (.slice (some ⟨b2, 0, none⟩) n d2)
    refine bodyPost_ret (v := .agg #[.slice av k cv, .slice (some ⟨b2, 0, none⟩) n d2]) (by simp [results, Tryz.results18, go_sem, r0, r1]) rfl ⟨_, _, _, _, w2.heap.size, bu, du, bc, dc, rfl, ?_, ?_, B9⟩
    · exact (HPC.out.box HXR.out (by omega) 0 _).box (HXR.out.set 0 _) (by omega) 1 _
    · exact (Rw.other (Rw.other HTR.out (p := ⟨w.heap.size + 1, 0, none⟩) (by show b2 ≠ w.heap.size + 1; omega) _) (p := ⟨w.heap.size + 1, 1, none⟩) (by show b2 ≠ w.heap.size + 1; omega) _)
  · have BR : Below w.heap.size w wr := HB2.out.trans (hKr.below (fun x hx => by simp at hx; omega) HB2.out.size)
    have hlt' : (k : Int) < (L : Int) := by omega
    obtain ⟨bs, off, cap', hv, _, lbs, hcs⟩ := (HP.out.below BR (Nat.le_refl _)).parts (k := 0) (by omega)
    simp only [Value.slice.injEq] at hv
    obtain ⟨rfl, _, rfl⟩ := hv
    have p0 : wr.cell? ⟨bs, off + k * 4, none⟩ = some (.int .i64 (X k).pa) := (hcs (k * 4) (by omega)).trans (by rw [za0])
    have p1 : wr.cell? ⟨bs, off + k * 4 + 1, none⟩ = some (.int .i64 (X k).sl) := (hcs (k * 4 + 1) (by omega)).trans (by rw [zaq])
    have p2 : wr.cell? ⟨bs, off + k * 4 + 2, none⟩ = some (.slice (au k) (X k).un (cu k)) := (hcs (k * 4 + 2) (by omega)).trans (by rw [zaj])
    have p3 : wr.cell? ⟨bs, off + k * 4 + 3, none⟩ = some (.slice (ac k) (X k).cn (cc k)) := (hcs (k * 4 + 3) (by omega)).trans (by rw [zak])
    have HUk : Hid (SlF w.heap.size wr (.slice (au k) (X k).un (cu k)) (X k).un (2 * (X k).un) (upF (X k).ub (X k).ui)) := SlF.below (HU.out k hlt) BR (Nat.le_refl _)
    have HCk : Hid (SlF w.heap.size wr (.slice (ac k) (X k).cn (cc k)) (X k).cn (2 * (X k).cn) (inF (X k).co (X k).ca)) := SlF.below (HC.out k hlt) BR (Nat.le_refl _)
    clear hcs
    go_upto_region 6 with fail
    obtain ⟨wp, hwp⟩ : ∃ V, V = wr.alloc (.cells #[.int .i64 (X k).pa, .int .i64 (X k).sl, .slice (au k) (X k).un (cu k), .slice (ac k) (X k).cn (cc k)] 58) := ⟨_, rfl⟩
    have HXP : Hid (za wp wr.heap.size 58 #[.int .i64 (X k).pa, .int .i64 (X k).sl, .slice (au k) (X k).un (cu k), .slice (ac k) (X k).cn (cc k)]) := by rw [hwp]; exact za.new _ _ _
    have HBp : Hid (Below wr.heap.size wr wp) := by rw [hwp]; exact (Below.refl _ _).alloc (Nat.le_refl _) _
    have Hzp : Hid (wp.heap.size = wr.heap.size + 1) := by rw [hwp]; show _ = _; simp
    have lp : wr.heap.size < wp.heap.size := by have := Hzp.out; omega
    have HXO : Hid (za wr w1.heap.size 29 #[.slice av k cv, .slice (some ⟨b2, 0, none⟩) n d2]) := XO
    have HPC : Hid (PcM w2.heap.size wr (.slice av k cv) k X bu du bc dc) := hP
    have HBR : Hid (Below w.heap.size w wr) := BR
    have HKr : Hid (Kp [w1.heap.size] w2 wr) := hKr
    have sR := BR.size
    have sK := hKr.size
    rw [<- hwp]
    clear hwp XM XR XO hP BR hKr p0 p1 p2 p3 lbs kM0
    have q2 : wp.cell? ⟨wr.heap.size, 2, none⟩ = some (.slice (au k) (X k).un (cu k)) := HXP.out.cell 2
    go_wp2_with (at_builtin; (refine zau rfl _ _ 55 99 rfl iu (.agg #[.bool false, .int .i64 0]) 2 16 Tryz.underlying55 hiu hu0 hu1 hu2 rfl (by decide) wp.heap.size rfl ?hg w.heap.size (au k) (X k).un (cu k) (upF (X k).ub (X k).ui) rfl ?hS ?h1 ?hn (by decide) ?_))
    case hg => exact za.new wp _ _
    case hS =>
     have zp := Hzp.out
     have := HUk.out.below (HBp.out.alloc (by omega) (.cells #[] 99)) (by omega)
     rw [Nat.mul_comm]
     exact this
    case h1 => exact fun j _ => by unfold upF; split <;> rfl
    case hn => exact (HX.out k hlt).1
    intro b3 d3 w3 g3 r3 B3
    have zp := Hzp.out
    have X3 : za w3 wr.heap.size 58 #[.int .i64 (X k).pa, .int .i64 (X k).sl, .slice (au k) (X k).un (cu k), .slice (ac k) (X k).cn (cc k)] := (HXP.out.alloc _).below B3 (by omega)
    have f3 := X3.frozen
    have c32 : w3.cell? ⟨wr.heap.size, 2, none⟩ = some (.slice (au k) (X k).un (cu k)) := X3.cell 2
    clear q2
    go_upto_region 7 with fail
    obtain ⟨w4, hw4⟩ : ∃ V, V = w3.setCell ⟨wr.heap.size, 2, none⟩ (.slice (some ⟨b3, 0, none⟩) (X k).un d3) := ⟨_, rfl⟩
    have HX4 : Hid (za w4 wr.heap.size 58 #[.int .i64 (X k).pa, .int .i64 (X k).sl, .slice (some ⟨b3, 0, none⟩) (X k).un d3, .slice (ac k) (X k).cn (cc k)]) := by rw [hw4]; exact X3.set 2 _
    have HB4 : Hid (Below wr.heap.size wr w4) := by
     rw [hw4]
     have b3' : Below wr.heap.size (wp.alloc (.cells #[] 99)) w3 := ⟨B3.os, B3.tape, B3.output, B3.size, fun k hk => B3.block k (by omega)⟩
     exact ((HBp.out.alloc (by omega) _).trans b3').setCell (Nat.le_refl _) _
    have HR4 : Hid (Rw w4 b3 99 (2 * (X k).un) (upF (X k).ub (X k).ui)) := by
     rw [hw4, Nat.mul_comm]
     exact Rw.other r3 (p := ⟨wr.heap.size, 2, none⟩) (by show b3 ≠ wr.heap.size; omega) _
    have l4 : wr.heap.size < w4.heap.size := HX4.out.lt
    rw [<- hw4]
    clear hw4 X3 f3 c32 r3 B3 zp lp
    have q3 : w4.cell? ⟨wr.heap.size, 3, none⟩ = some (.slice (ac k) (X k).cn (cc k)) := HX4.out.cell 3
    go_wp2_with (at_builtin; (refine zau rfl _ _ 56 80 rfl ii (.agg #[.int .i64 0, .int .i64 0]) 2 16 Tryz.underlying56 hii hi0 hi1 hi2 rfl (by decide) w4.heap.size rfl ?hg w.heap.size (ac k) (X k).cn (cc k) (inF (X k).co (X k).ca) rfl ?hS ?h1 ?hn (by decide) ?_))
    case hg => exact za.new w4 _ _
    case hS =>
     have := HCk.out.below (HB4.out.alloc (by omega) (.cells #[] 80)) (by omega)
     rw [Nat.mul_comm]
     exact this
    case h1 => exact fun j _ => by unfold inF; split <;> rfl
    case hn => exact (HX.out k hlt).2
    intro b5 d5 w5 g5 r5 B5
    have X5 : za w5 wr.heap.size 58 #[.int .i64 (X k).pa, .int .i64 (X k).sl, .slice (some ⟨b3, 0, none⟩) (X k).un d3, .slice (ac k) (X k).cn (cc k)] := (HX4.out.alloc _).below B5 (by omega)
    have f5 := X5.frozen
    have c53 : w5.cell? ⟨wr.heap.size, 3, none⟩ = some (.slice (ac k) (X k).cn (cc k)) := X5.cell 3
    clear q3
    go_upto_region 8 with fail
    obtain ⟨w6, hw6⟩ : ∃ V, V = w5.setCell ⟨wr.heap.size, 3, none⟩ (.slice (some ⟨b5, 0, none⟩) (X k).cn d5) := ⟨_, rfl⟩
    have HX6 : Hid (za w6 wr.heap.size 58 #[.int .i64 (X k).pa, .int .i64 (X k).sl, .slice (some ⟨b3, 0, none⟩) (X k).un d3, .slice (some ⟨b5, 0, none⟩) (X k).cn d5]) := by rw [hw6]; exact X5.set 3 _
    have b5' : Below w4.heap.size w4 w5 := ((Below.refl _ _).alloc (Nat.le_refl _) _).trans B5
    have HB6 : Hid (Below wr.heap.size wr w6) := by
     rw [hw6]
     have b5'' : Below wr.heap.size w4 w5 := ⟨b5'.os, b5'.tape, b5'.output, b5'.size, fun k hk => b5'.block k (by omega)⟩
     exact (HB4.out.trans b5'').setCell (Nat.le_refl _) _
    have HU6 : Hid (Rw w6 b3 99 (2 * (X k).un) (upF (X k).ub (X k).ui)) := by
     rw [hw6]
     have := HR4.out.lt
     exact Rw.other (Rw.below HR4.out b5') (p := ⟨wr.heap.size, 3, none⟩) (by show b3 ≠ wr.heap.size; have := Hzp.out; omega) _
    have HC6 : Hid (Rw w6 b5 80 (2 * (X k).cn) (inF (X k).co (X k).ca)) := by
     rw [hw6, Nat.mul_comm]
     exact Rw.other r5 (p := ⟨wr.heap.size, 3, none⟩) (by show b5 ≠ wr.heap.size; omega) _
    have l6 : wr.heap.size < w6.heap.size := HX6.out.lt
    rw [<- hw6]
    clear hw6 X5 f5 c53 r5 B5 b5' l4
    have HO6 : Hid (za w6 w1.heap.size 29 #[.slice av k cv, .slice (some ⟨b2, 0, none⟩) n d2]) := HXO.out.below HB6.out HXO.out.lt
    have HP6 : Hid (PcM (w1.heap.size + 1) w6 (.slice av k cv) k X bu du bc dc) := by rw [<- z2]; exact HPC.out.below HB6.out
    have HK6 : Hid (Kp [w1.heap.size] w2 w6) := HKr.out.next HB6.out
    have o0 : w6.cell? ⟨w1.heap.size, 0, none⟩ = some (.slice av k cv) := HO6.out.cell 0
    have p0 : w6.cell? ⟨wr.heap.size, 0, none⟩ = some (.int .i64 (X k).pa) := HX6.out.cell 0
    have p1 : w6.cell? ⟨wr.heap.size, 1, none⟩ = some (.int .i64 (X k).sl) := HX6.out.cell 1
    have p2 : w6.cell? ⟨wr.heap.size, 2, none⟩ = some (.slice (some ⟨b3, 0, none⟩) (X k).un d3) := HX6.out.cell 2
    have p3 : w6.cell? ⟨wr.heap.size, 3, none⟩ = some (.slice (some ⟨b5, 0, none⟩) (X k).cn d5) := HX6.out.cell 3
    have lo6 : w1.heap.size < w6.heap.size := HO6.out.lt
    clear HXP HBp HXO HPC HKr HX4 HB4 HR4 HUk HCk g3 g5
    go_wp2_with (at_builtin; (refine wpList_append_own _ rfl _ _ 27 rfl (w1.heap.size + 1) 58 ip (.agg #[.int .i64 0, .int .i64 0, .slice none 0 0, .slice none 0 0]) 4 64 Tryz.underlying27 hip hp0 hp1 hp2 rfl (by decide) (.slice av k cv) k (zo (k * 4) (ptC X (fun i => some ⟨bu i, 0, none⟩) du (fun i => some ⟨bc i, 0, none⟩) dc)) rfl ?hown ⟨w6.heap.size, 0, none⟩ 1 1 [.int .i64 (X k).pa, .int .i64 (X k).sl, .slice (some ⟨b3, 0, none⟩) (X k).un d3, .slice (some ⟨b5, 0, none⟩) (X k).cn d5] rfl rfl ?hnews ?hone ?h63 ?hby ?hbase ?_))
    case hown => exact World.ownsRow.alloc HP6.out.1 _
    case hnews => exact fun j u hj => by rw [Addr.add_lit, Nat.zero_add, World.cell?_alloc_new]; rw [<- hj]; simp
    case hone =>
     intro u hu
     simp only [List.mem_cons, List.not_mem_nil, or_false] at hu
     rcases hu with rfl | rfl | rfl | rfl <;> rfl
    case h63 => unfold maxLen; omega
    case hby => omega
    case hbase => simp; omega
    intro v' w7 O7 g7 hnil
    clear hnil
    obtain ⟨va, vc, rfl⟩ : ∃ va vc, v' = .slice va (k + 1) vc := by
     obtain ⟨_, ⟨e, e2⟩ | ⟨b, cap, cur, e, _⟩⟩ := O7
     · omega
     · exact ⟨_, _, e⟩
    have BA : Below w6.heap.size w6 (w6.alloc (.cells #[.int .i64 (X k).pa, .int .i64 (X k).sl, .slice (some ⟨b3, 0, none⟩) (X k).un d3, .slice (some ⟨b5, 0, none⟩) (X k).cn d5] 58)) := (Below.refl _ _).alloc (Nat.le_refl _) _
    have PA := HP6.out.below BA
    have P7 := PA.step b3 d3 b5 d5 (Rw.below HU6.out BA) (Rw.below HC6.out BA) O7 g7
    have K7 : Kp [w1.heap.size] w2 w7 := by
     have ka := HK6.out.next BA
     exact ⟨g7.os.trans ka.os, g7.tape.trans ka.tape, g7.output.trans ka.output, Nat.le_trans ka.size g7.size, fun j hj hn => (g7.block j (Nat.lt_of_lt_of_le hj ka.size) (fun e => by have := (zbc PA.1 e.symm).1; omega)).trans (ka.block j hj hn)⟩
    have O7' : za w7 w1.heap.size 29 #[.slice av k cv, .slice (some ⟨b2, 0, none⟩) n d2] :=
     (g7.block _ (by simp; omega) (fun e => by have := (zbc PA.1 e.symm).1; omega)).trans (HO6.out.alloc _)
    have HO7 : Hid (za w7 w1.heap.size 29 #[.slice av k cv, .slice (some ⟨b2, 0, none⟩) n d2]) := O7'
    have HP7 : Hid _ := P7
    have HK7 : Hid (Kp [w1.heap.size] w2 w7) := K7
    have f7 := O7'.frozen
    have c7 : w7.cell? ⟨w1.heap.size, 0, none⟩ = some (.slice av k cv) := O7'.cell 0
    clear P7 K7 O7' PA BA O7 g7 o0 p0 p1 p2 p3
    go_wp2_with fail
    go_roundw
    case rel => exact ⟨k + 1, .slice va (k + 1) vc, _, _, _, _, by omega, by go_num, HO7.out.set 0 _, by rw [z2]; exact PcM.box HP7.out HO7.out (by omega) 0 _, HK7.out.setCell (.inl (by simp)) _⟩
    case measure => simp [intOf]; omega
end Go.Proofs.YtblcfbhlmdhnpaaGreat
