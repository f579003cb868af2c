/- - -/
import Derived.Test.YtiglkhkfbgjjoaaDoorQPrI
namespace Go.Proofs.YtiglkhkfbgjjoaaDoor
set_option maxRecDepth 20000
open Go.RowKit Go.PlainAid Go.Maps
set_option linter.unusedSimpArgs false
set_option linter.unusedVariables false
def zb (pb : Nat) (nv : Value) (xs ys : List ByteArray) (w : World) (v : Value) (e : Ending) (w' : World) : Prop := e = .returned (.tuple #[]) /\ ∃ v', Pnt pb nv w' v' (xs ++ ys) /\ Pg pb w v w' v'
set_option maxHeartbeats 1000000 in
theorem zjg (pb : Nat) (nv v : Value) (xs ys : List ByteArray) (g c : Nat) (w : World) (hp : Pnt pb nv w v xs) (hc : ∀ j u, (scl ys)[j]? = some u -> w.cell? ((⟨g, 0, none⟩ : Addr).add j) = some u) (hl : xs.length + ys.length <= 1048576) :
 Calls Tryd.prog 133 #[.pointer (some ⟨pb, 0, none⟩), .slice (some ⟨g, 0, none⟩) ys.length c] w (zb pb nv xs ys w v) := by
 obtain ⟨i0, hi, hz0, hz1, hz2⟩ := info_parts zc5
 have HP : Hid (Pnt pb nv w v xs) := hp
 have HC : Hid (∀ j u, (scl ys)[j]? = some u -> w.cell? ((⟨g, 0, none⟩ : Addr).add j) = some u) := hc
 have c1 := hp.c1
 have lt := hp.lt
 clear hp hc
 go_enter Tryd.func133, Tryd.ntmps133
 go_wp2_with (at_builtin; refine wpList_append_own_at _ rfl _ _ 45 rfl (pb + 1) 9 i0 (.string ⟨#[]⟩) 1 16 Tryd.underlying45 hi hz0 hz1 hz2 rfl (by decide) v xs.length (scl xs) rfl HP.out.own ⟨g, 0, none⟩ ys.length c (scl ys) rfl (by rw [zbq, Nat.mul_one]) HC.out (zc6 ys) (by unfold maxLen; omega) (by omega) (by omega) ?_)
 intro v' w1 hown hgrow _ hat
 obtain ⟨a8, c8, hv8⟩ : ∃ a c, v' = .slice a (xs.length + ys.length) c := by
  obtain ⟨_, ⟨h1, h0⟩ | ⟨g, cap, cur, h1, _⟩⟩ := hown
  · exact ⟨none, 0, by rw [h0]; exact h1⟩
  · exact ⟨_, _, h1⟩
 subst hv8
 have R := HP.out.store hown hgrow (fun r hr => by
  rcases hat with h | h
  · exact .inl (h ▸ hr)
  · rw [h] at hr
    injection hr with hr
    exact .inr (by omega))
 have hne : v.ownBlock ≠ some pb := fun e => by have := (World.ownsRow.lt HP.out.own pb e).1; omega
 have hb : w1.heap[pb]? = w.heap[pb]? := hgrow.block pb lt (fun e => hne e.symm)
 have d1 : w1.cell? ⟨pb, 1, none⟩ = some v := by rw [World.cell?_of_block (w := w) (a := ⟨pb, 1, none⟩) hb]; exact c1
 have f1 : ∀ i, w1.frozen? ⟨pb, i, none⟩ = false := fun i => by rw [World.frozen?_of_block (w := w) (a := ⟨pb, i, none⟩) hb]; exact HP.out.fz i
 have l1 : pb < w1.heap.size := Nat.lt_of_lt_of_le lt hgrow.size
 have RR : Hid (Pnt pb nv (w1.setCell ⟨pb, 1, none⟩ (.slice a8 (xs.length + ys.length) c8)) (.slice a8 (xs.length + ys.length) c8) (xs ++ ys) /\ Pg pb w v (w1.setCell ⟨pb, 1, none⟩ (.slice a8 (xs.length + ys.length) c8)) (.slice a8 (xs.length + ys.length) c8)) := R
 clear R hown hgrow hat hb HP HC c1
 go_wp2
 go_end0
 exact ⟨rfl, _, RR.out.1, RR.out.2⟩
theorem ze (pb : Nat) (nv v : Value) (xs ys : List ByteArray) (A : Array Value) (n : Nat) (w : World) (g : Nat) (hg : g = w.heap.size) (hA : A = (scl ys).toArray) (hn : n = ys.length) (hp : Pnt pb nv w v xs) (hl : xs.length + ys.length <= 1048576) :
 Calls Tryd.prog 133 #[.pointer (some ⟨pb, 0, none⟩), .slice (some ⟨g, 0, none⟩) n n] (w.alloc (.cells A 9)) (zb pb nv xs ys w v) := by
 subst hA hn hg
 have hb : Below w.heap.size w (w.alloc (.cells (scl ys).toArray 9)) := (Below.refl _ _).alloc (Nat.le_refl _) _
 have hs := SR.new (B := w.heap.size) (w := w) ys (Nat.le_refl _) (by omega) _ rfl
 refine (zjg pb nv v xs ys w.heap.size ys.length _ (hp.below hb) hs.cells hl).mono ?_
 rintro e w' ⟨rfl, v', h1, h2⟩
 exact ⟨rfl, v', h1, (Pg.of_below hb).trans h2⟩
def Pr (pb : Nat) (nv : Value) (w0 : World) (rec : Int -> List ByteArray) (q : Int) : Prop :=
 ∀ (V : World) (v : Value) (zs : List ByteArray), Pnt pb nv V v zs -> Below pb w0 V -> zs.length + 40 * ((rec q).length + 1) <= 1000000 -> Calls Tryd.prog 87 #[.pointer (some ⟨pb, 0, none⟩), .int .i64 q] V (zb pb nv zs (rec q) V v)
theorem zak (rec : Int -> List ByteArray) (y : Nat -> Int) (m : Nat) : ∀ d, smN rec y m <= smN rec y (m + d)
 | 0 => Nat.le_refl _
 | d + 1 => by
   have := zak rec y m d
   show _ <= smN rec y (m + d) + _
   omega
theorem zf6 (rec : Int -> List ByteArray) (y : Nat -> Int) (m : Nat) : ∀ d, (flN rec y m).length <= (flN rec y (m + d)).length /\ (cmN rec y m).length <= (cmN rec y (m + d)).length
 | 0 => ⟨Nat.le_refl _, Nat.le_refl _⟩
 | d + 1 => by
   have := zf6 rec y m d
   have e1 : (flN rec y (m + (d + 1))).length = (flN rec y (m + d)).length + (rec (y (m + d))).length := by show (flN rec y (m + d) ++ rec (y (m + d))).length = _; rw [List.length_append]
   have e2 : (cmN rec y (m + d)).length <= (cmN rec y (m + (d + 1))).length := by show _ <= (cmN rec y (m + d) ++ _).length; rw [List.length_append]; omega
   omega
theorem zf7 (rec : Int -> List ByteArray) (y : Nat -> Int) {m l : Nat} (h : m < l) : (flN rec y m).length + (rec (y m)).length <= (flN rec y l).length /\ (cmN rec y m).length + ((if m = 0 then ([] : List ByteArray) else [⟨#[44]⟩]).length + (rec (y m)).length) <= (cmN rec y l).length := by
 have := zf6 rec y (m + 1) (l - (m + 1))
 rw [show m + 1 + (l - (m + 1)) = l by omega] at this
 have e1 : (flN rec y (m + 1)).length = (flN rec y m).length + (rec (y m)).length := by show (flN rec y m ++ rec (y m)).length = _; rw [List.length_append]
 have e2 : (cmN rec y (m + 1)).length = (cmN rec y m).length + ((if m = 0 then ([] : List ByteArray) else [⟨#[44]⟩]).length + (rec (y m)).length) := by show (cmN rec y m ++ (_ ++ rec (y m))).length = _; rw [List.length_append, List.length_append]
 omega
set_option maxHeartbeats 1000000 in
theorem za6 (pb : Nat) (nv v : Value) (xs : List ByteArray) (ak : Option Addr) (l ck : Nat) (y : Nat -> Int) (rec : Int -> List ByteArray) (T : Nat) (w0 w : World) (hk : SlF T w0 (.slice ak l ck) l l (fun i => .int .i64 (y i))) (hT : T <= pb) (hl : l <= 1048576) (hs : xs.length + 40 * ((flN rec y l).length + 1) <= 1000000)
 (hp : Pnt pb nv w v xs) (hb : Below pb w0 w) (hr : ∀ m, m < l -> Pr pb nv w0 rec (y m)) :
 Calls Tryd.prog 39 #[.pointer (some ⟨pb, 0, none⟩), .slice ak l ck] w (zb pb nv xs (flN rec y l) w v) := by
 have hl' : (l : Int) <= 1048576 := by omega
 have HK : Hid (SlF T w0 (.slice ak l ck) l l (fun i => .int .i64 (y i))) := hk
 have HR : Hid (∀ m, m < l -> Pr pb nv w0 rec (y m)) := hr
 have HP : Hid (Pnt pb nv w v xs) := hp
 have HB : Hid (Below pb w0 w) := hb
 clear hk hr hp hb
 go_enter Tryd.func39, Tryd.ntmps39
 go_wp2
 go_loopw [8] (fun q wr => ∃ (m : Nat) (v1 : Value), m <= l /\ q = .int .i64 m /\ Hid (Pnt pb nv wr v1 (xs ++ flN rec y m)) /\ Hid (Pg pb w v wr v1)) (fun q _ => l - (intOf q).toNat)
 case atStart => exact ⟨0, v, Nat.zero_le _, rfl, (by show Pnt pb nv w v (xs ++ []); rw [List.append_nil]; exact HP.out), Pg.refl _ _ _⟩
 case round =>
  obtain ⟨m, v1, hm, rfl, hP, hG⟩ := hrel
  have BL : Hid (Below pb w0 wr) := HB.out.trans (hG.out.low HP.out)
  by_cases hlt : m < l
  · have hlt' : (m : Int) < (l : Int) := by omega
    obtain ⟨bk, ok, ck2, hv, tk1, lk, hkk⟩ := (HK.out.below BL.out hT).parts (k := 0) (by omega)
    simp only [Value.slice.injEq] at hv
    obtain ⟨rfl, _, rfl⟩ := hv
    have yk := hkk m hlt
    have h1 := (zf7 rec y hlt).1
    have hq := HR.out m hlt wr v1 _ hP.out BL.out (by rw [List.length_append]; omega)
    have HQ : Hid (Calls _ _ _ _ _) := hq
    have HE : Hid (flN rec y (m + 1) = flN rec y m ++ rec (y m)) := rfl
    clear hkk hq
    generalize hrm : rec (y m) = rm at HQ HE
    generalize y m = ym at yk HQ
    clear hrm
    go_wp2_with (go_at_call 87; refine HQ.out.mono ?_; rintro e w3 ⟨rfl, v3, p3, g3⟩)
    rw [List.append_assoc, <- HE.out] at p3
    go_roundw
    case rel => exact ⟨m + 1, v3, by omega, by go_num, p3, hG.out.trans g3⟩
    case measure => simp [intOf]; omega
  · have hge : ¬ (m : Int) < (l : Int) := by omega
    obtain rfl : m = l := by omega
    go_wp2
    go_end0
    exact ⟨rfl, v1, hP.out, hG.out⟩
set_option maxHeartbeats 1000000 in
theorem zbv (pb : Nat) (nv v : Value) (xs : List ByteArray) (bt et : ByteArray) (ak : Option Addr) (l ck : Nat) (y : Nat -> Int) (rec : Int -> List ByteArray) (T : Nat) (w0 w : World) (hk : SlF T w0 (.slice ak l ck) l l (fun i => .int .i64 (y i))) (hT : T <= pb) (hl : l <= 1048576) (hs : xs.length + 40 * (([bt] ++ cmN rec y l ++ [et]).length + 1) <= 1000000)
 (hp : Pnt pb nv w v xs) (hb : Below pb w0 w) (hr : ∀ m, m < l -> Pr pb nv w0 rec (y m)) :
 Calls Tryd.prog 132 #[.pointer (some ⟨pb, 0, none⟩), .string bt, .slice ak l ck, .string et] w (zb pb nv xs ([bt] ++ cmN rec y l ++ [et]) w v) := by
 have hl' : (l : Int) <= 1048576 := by omega
 have HK : Hid (SlF T w0 (.slice ak l ck) l l (fun i => .int .i64 (y i))) := hk
 have HR : Hid (∀ m, m < l -> Pr pb nv w0 rec (y m)) := hr
 have HP : Hid (Pnt pb nv w v xs) := hp
 have HB : Hid (Below pb w0 w) := hb
 clear hk hr hp hb
 go_enter Tryd.func132, Tryd.ntmps132
 go_wp2_with fail
 refine (ze pb nv v xs [bt] _ _ w _ rfl rfl rfl HP.out (by simp; omega)).mono ?_
 rintro e w1 ⟨rfl, v0, p1, g1⟩
 have P1 : Hid (Pnt pb nv w1 v0 (xs ++ [bt])) := p1
 have G1 : Hid (Pg pb w v w1 v0) := g1
 clear p1 g1
 go_wp2
 go_loopw [16] (fun q wr => ∃ (m : Nat) (v1 : Value), m <= l /\ q = .int .i64 m /\ Hid (Pnt pb nv wr v1 (xs ++ [bt] ++ cmN rec y m)) /\ Hid (Pg pb w v wr v1)) (fun q _ => l - (intOf q).toNat)
 case atStart => exact ⟨0, v0, Nat.zero_le _, rfl, (by show Pnt pb nv w1 v0 (xs ++ [bt] ++ []); rw [List.append_nil]; exact P1.out), G1⟩
 case round =>
  clear P1 G1
  obtain ⟨m, v1, hm, rfl, hP, hG⟩ := hrel
  have BL : Hid (Below pb w0 wr) := HB.out.trans (hG.out.low HP.out)
  by_cases hlt : m < l
  · have hlt' : (m : Int) < (l : Int) := by omega
    obtain ⟨bk, ok, ck2, hv, tk1, lk, hkk⟩ := (HK.out.below BL.out hT).parts (k := 0) (by omega)
    simp only [Value.slice.injEq] at hv
    obtain ⟨rfl, _, rfl⟩ := hv
    have yk := hkk m hlt
    have h1 := (zf7 rec y hlt).2
    have HQ : Hid (∀ (V : World) (u : Value) (zs : List ByteArray), Pnt pb nv V u zs -> Below pb w0 V -> zs.length + 40 * ((rec (y m)).length + 1) <= 1000000 -> Calls Tryd.prog 87 #[.pointer (some ⟨pb, 0, none⟩), .int .i64 (y m)] V (zb pb nv zs (rec (y m)) V u)) := HR.out m hlt
    have HE : Hid (cmN rec y (m + 1) = cmN rec y m ++ ((if m = 0 then [] else [⟨#[44]⟩]) ++ rec (y m))) := rfl
    have hle : (xs ++ [bt] ++ cmN rec y m).length + 1 + 40 * ((rec (y m)).length + 1) + 1 <= 1000000 := by rw [List.length_append, List.length_append]; simp at hs ⊢; omega
    clear hkk h1
    generalize hrm : rec (y m) = rm at HQ HE hle
    generalize y m = ym at yk HQ
    clear hrm
    by_cases h0 : m = 0
    · have h0' : ¬ (0 : Int) < (m : Int) := by omega
      rw [if_pos h0, List.nil_append] at HE
      have hq := HQ.out wr v1 _ hP.out BL.out (by omega)
      have HQ2 : Hid (Calls _ _ _ _ _) := hq
      clear hq h0
      go_wp2_with (go_at_call 87; refine HQ2.out.mono ?_; rintro e w3 ⟨rfl, v3, p3, g3⟩)
      rw [List.append_assoc, <- HE.out] at p3
      go_roundw
      case rel => exact ⟨m + 1, v3, by omega, by go_num, p3, hG.out.trans g3⟩
      case measure => simp [intOf]; omega
    · have h0' : (0 : Int) < (m : Int) := by omega
      rw [if_neg h0] at HE
      clear h0
      go_wp2_with fail
      refine (ze pb nv v1 _ [⟨#[44]⟩] _ _ wr _ rfl rfl rfl hP.out (by simp at hle ⊢; omega)).mono ?_
      rintro e w2 ⟨rfl, v2, p2, g2⟩
      have yk2 : w2.cell? ⟨bk, ok + m, none⟩ = some (.int .i64 ym) := by rw [(g2.low hP.out).cell (p := ⟨bk, ok + m, none⟩) (Nat.lt_of_lt_of_le tk1 hT)]; exact yk
      have hq := HQ.out w2 v2 _ p2 (BL.out.trans (g2.low hP.out)) (by rw [List.length_append]; simp at hle ⊢; omega)
      have HQ2 : Hid (Calls _ _ _ _ _) := hq
      have G2 : Hid (Pg pb w v w2 v2) := hG.out.trans g2
      clear hq p2 g2 yk
      go_wp2_with (go_at_call 87; refine HQ2.out.mono ?_; rintro e w3 ⟨rfl, v3, p3, g3⟩)
      have e9 : xs ++ [bt] ++ cmN rec y m ++ [(⟨#[44]⟩ : ByteArray)] ++ rm = xs ++ [bt] ++ cmN rec y (m + 1) := by rw [HE.out]; simp
      rw [e9] at p3
      go_roundw
      case rel => exact ⟨m + 1, v3, by omega, by go_num, p3, G2.out.trans g3⟩
      case measure => simp [intOf]; omega
  · have hge : ¬ (m : Int) < (l : Int) := by omega
    obtain rfl : m = l := by omega
    go_wp2_with fail
    refine (ze pb nv v1 _ [et] _ _ wr _ rfl rfl rfl hP.out (by rw [List.length_append, List.length_append]; simp at hs ⊢; omega)).mono ?_
    rintro e w2 ⟨rfl, v2, p2, g2⟩
    go_wp2
    go_end0
    exact ⟨rfl, v2, by rw [List.append_assoc xs, List.append_assoc xs] at p2; exact p2, hG.out.trans g2⟩
end Go.Proofs.YtiglkhkfbgjjoaaDoor
