/- The program's reader: what is turned. -/
import Derived.Test.YtiglkhkfbgjjoaaDoorProg
import Derived.Test.YtiglkhkfbgjjoaaDoorBPbB
namespace Go.Proofs.YtiglkhkfbgjjoaaDoor
set_option maxRecDepth 20000
open Go.RowKit Go.PlainAid Go.Maps
set_option linter.unusedSimpArgs false
set_option linter.unusedVariables false

/-- isNext of texts that were just laid. -/
theorem St.next {rb : Nat} {ts : List TokD} {tv : Value} {en : Nat} {w w1 : World} {v v1 : Value} {kv K : List Value} {s1 : PS} (h : St rb ts tv en w v kv w1 v1 K s1) (bs : List ByteArray) (q : Bool) (hq : isNL ts bs s1 = q) (hl : bs.length ≤ 10) (A : Array Value) (n g : Nat) (hg : g = w1.heap.size) (hn : n = bs.length) (hA : A = (bs.map Value.string).toArray) :
    Calls Tryd.prog 168 #[.pointer (some ⟨rb, 0, none⟩), .slice (some ⟨g, 0, none⟩) n n] (w1.alloc (.cells A 9)) fun e w2 => e = .returned (.bool q) ∧ St rb ts tv en w v kv w2 v1 K s1 :=
  (isNext_new rb ts tv en w1 v1 _ s1 h.rd A n g bs hl hg hn hA q hq).mono fun e w2 ⟨h1, h2⟩ => ⟨h1, h.below h2⟩
theorem isNL_one (ts : List TokD) (b : ByteArray) (s : PS) : isNL ts [b] s = isN ts b s := by simp [isNL]
set_option maxHeartbeats 4000000 in
theorem readTurned_at {rb : Nat} {ts : List TokD} {tv : Value} {en : Nat} {r : Rd} {n : Nat} (hr : RP rb ts tv en r n) (hro : RdOk ts r) (HO : ∀ (w : World) (v : Value) (kv : List Value) (s : PS), Rdr rb ts tv en w v kv s → s.ns.length ≤ 8 * s.i → ts.length < s.i + (n + 1) → Calls Tryd.prog 189 #[.pointer (some ⟨rb, 0, none⟩)] w (RdE rb ts tv en w v kv (opdP ts en r s))) (w : World) (v : Value) (kv : List Value) (s : PS) (h : Rdr rb ts tv en w v kv s) (hp : s.ns.length ≤ 8 * s.i) (hf : ts.length < s.i + (n + 1)) :
    Calls Tryd.prog 181 #[.pointer (some ⟨rb, 0, none⟩)] w (RdE rb ts tv en w v kv (tnP ts en r s)) := by
  have HS0 : Hid (St rb ts tv en w v kv w v [] s) := St.begin h
  have hT : ts.length ≤ 3000 := h.tl
  have hI : s.i ≤ ts.length := h.il
  have hD : s.d ≤ 30 := h.dl
  clear h
  go_enter Tryd.func181, Tryd.ntmps181
  go_wp2_with (fail)
  go_loopw [3] (fun q wr => ∃ (j : Nat), q = .int .i64 (j : Int) ∧ 1 ≤ j ∧ j ≤ 4 ∧ Hid (∃ v' K', St rb ts tv en w v kv wr v' K' s) ∧ (1 < j → isN ts ⟨#[45]⟩ s = false) ∧ (2 < j → isN ts ⟨#[110, 111, 116]⟩ s = false) ∧ (3 < j → isN ts ⟨#[35]⟩ s = false)) (fun q _ => 4 - (intOf q).toNat)
  case atStart => exact ⟨1, rfl, by omega, by omega, ⟨_, _, HS0.out⟩, by omega, by omega, by omega⟩
  case round =>
    obtain ⟨j, rfl, hj1, hj4, HX, n1, n2, n3⟩ := hrel
    obtain ⟨v1, K1, h1⟩ := HX.out
    have HS1 : Hid (St rb ts tv en w v kv wr v1 K1 s) := h1
    have lo := h1.rd.tb.lo
    have lrb := h1.rd.lt
    have lt1 : 1 < wr.heap.size := by omega
    have g1 : wr.cell? ⟨2, 1, none⟩ = some (.string ⟨#[45]⟩) := h1.rd.tb.turn 1 _ rfl
    have g2 : wr.cell? ⟨2, 2, none⟩ = some (.string ⟨#[110, 111, 116]⟩) := h1.rd.tb.turn 2 _ rfl
    have g3 : wr.cell? ⟨2, 3, none⟩ = some (.string ⟨#[35]⟩) := h1.rd.tb.turn 3 _ rfl
    clear h1 HX HS0
    obtain rfl | rfl | rfl | rfl : j = 1 ∨ j = 2 ∨ j = 3 ∨ j = 4 := by omega
    · cases e1 : isN ts ⟨#[45]⟩ s
      · go_wp2_with (go_at_call 168; refine (HS1.out.next [⟨#[45]⟩] false (by rw [isNL_one]; exact e1) (by simp) _ _ _ rfl rfl rfl).mono ?_; rintro e w2 ⟨rfl, h2⟩; have HS2 : Hid (St rb ts tv en w v kv w2 v1 K1 s) := h2; clear h2 HS1)
        go_wp2
        go_roundw
        case rel => exact ⟨2, by go_num, by omega, by omega, ⟨_, _, HS2.out⟩, (fun _ => by first | exact e1 | trivial), by omega, by omega⟩
        case measure => simp [intOf]
      · have ht : tnOf ts s = 1 := by unfold tnOf; simp only [e1, Bool.false_eq_true, ↓reduceIte]
        have hlt := isN_lt ts e1
        obtain ⟨x, hx⟩ : ∃ x, ts[s.i]? = some x := ⟨_, List.getElem?_eq_getElem hlt⟩
        go_wp2_with (go_at_call 168; refine (HS1.out.next [⟨#[45]⟩] true (by rw [isNL_one]; exact e1) (by simp) _ _ _ rfl rfl rfl).mono ?_; rintro e w2 ⟨rfl, h2⟩; have HS2 : Hid (St rb ts tv en w v kv w2 v1 K1 s) := h2; clear h2 HS1)
        rcases open_cases ts en s with ⟨q2, e2⟩ | ⟨q2, e2⟩
        · go_wp2_with (go_at_call 172; refine (HS2.out.open_yes q2).mono ?_; rintro e w3 ⟨rfl, h3⟩; have HS3 : Hid (St rb ts tv en w v kv w3 v1 K1 ⟨s.i, s.d + 1, s.ns⟩) := h3; clear h3 HS2)
          go_wp2_with (go_at_call 171; refine (HS3.out.take x hx).mono ?_; rintro e w4 ⟨rfl, h4⟩; have HS4 : Hid (St rb ts tv en w v kv w4 v1 K1 (adv ⟨s.i, s.d + 1, s.ns⟩)) := h4; clear h4 HS3)
          have p4 : (adv ⟨s.i, s.d + 1, s.ns⟩).ns.length ≤ 8 * (adv ⟨s.i, s.d + 1, s.ns⟩).i := Nat.le_trans hp (Nat.mul_le_mul_left 8 (Nat.le_succ _))
          have i4 : (adv ⟨s.i, s.d + 1, s.ns⟩).i = s.i + 1 := rfl
          rcases e5 : r.tn (adv ⟨s.i, s.d + 1, s.ns⟩) with ⟨y⟩ | ⟨a, s5⟩
          · go_wp2_with (go_at_call 181; refine (HS4.out.no (hr.tn _ _ _ _ HS4.out.rd p4 (by omega)) e5).mono ?_; rintro e w5 ⟨he, b5⟩; unfold pan at he; subst he; have HB : Hid (Below rb w w5) := b5; clear b5)
            exact ⟨rfl, RdE.no HB.out (by unfold tnP; rw [ht]; simp only [e2, e5]; rfl)⟩
          · have o5 := hro.tn e5
            have p5 := o5.1.phi p4
            have t5 := o5.1.2.1
            have d5 : s5.d = s.d + 1 := o5.1.2.2.1
            go_wp2_with (go_at_call 181; refine (HS4.out.yes (hr.tn _ _ _ _ HS4.out.rd p4 (by omega)) e5).mono ?_; rintro e w5 ⟨rfl, v5, K5, h5⟩; have HS5 : Hid (St rb ts tv en w v kv w5 v5 K5 s5) := h5; clear h5 HS4)
            go_wp2_with (go_at_call 94; refine (HS5.out.add [a] 11 eT 1 (by simp) (by omega) _ _ _ rfl rfl rfl).mono ?_; rintro e w6 ⟨rfl, v6, K6, h6⟩; have HS6 : Hid (St rb ts tv en w v kv w6 v6 K6 (addP 11 eT 1 [a] s5).2) := h6; clear h6 HS5)
            go_wp2_with (go_at_call 174; refine (HS6.out.shut (by show 1 ≤ s5.d; omega)).mono ?_; rintro e w7 ⟨rfl, h7⟩; have HS7 : Hid (St rb ts tv en w v kv w7 v6 K6 (shutP (addP 11 eT 1 [a] s5).2)) := h7; clear h7 HS6)
            go_ret
            exact RdE.yes HS7.out (by unfold tnP; rw [ht]; simp only [e2, e5]; rfl)
        · go_wp2_with (go_at_call 172; refine (HS2.out.open_no q2).mono ?_; rintro e w3 ⟨he, b5⟩; unfold pan at he; subst he; have HB : Hid (Below rb w w3) := b5; clear b5)
          exact ⟨rfl, RdE.no HB.out (by unfold tnP; rw [ht]; simp only [e2]; rfl)⟩
    · have f1 := n1 (by omega)
      cases e1 : isN ts ⟨#[110, 111, 116]⟩ s
      · go_wp2_with (go_at_call 168; refine (HS1.out.next [⟨#[110, 111, 116]⟩] false (by rw [isNL_one]; exact e1) (by simp) _ _ _ rfl rfl rfl).mono ?_; rintro e w2 ⟨rfl, h2⟩; have HS2 : Hid (St rb ts tv en w v kv w2 v1 K1 s) := h2; clear h2 HS1)
        go_wp2
        go_roundw
        case rel => exact ⟨3, by go_num, by omega, by omega, ⟨_, _, HS2.out⟩, (fun _ => by first | exact f1 | trivial), (fun _ => by first | exact e1 | trivial), by omega⟩
        case measure => simp [intOf]
      · have ht : tnOf ts s = 2 := by unfold tnOf; simp only [f1, e1, Bool.false_eq_true, ↓reduceIte]
        have hlt := isN_lt ts e1
        obtain ⟨x, hx⟩ : ∃ x, ts[s.i]? = some x := ⟨_, List.getElem?_eq_getElem hlt⟩
        go_wp2_with (go_at_call 168; refine (HS1.out.next [⟨#[110, 111, 116]⟩] true (by rw [isNL_one]; exact e1) (by simp) _ _ _ rfl rfl rfl).mono ?_; rintro e w2 ⟨rfl, h2⟩; have HS2 : Hid (St rb ts tv en w v kv w2 v1 K1 s) := h2; clear h2 HS1)
        rcases open_cases ts en s with ⟨q2, e2⟩ | ⟨q2, e2⟩
        · go_wp2_with (go_at_call 172; refine (HS2.out.open_yes q2).mono ?_; rintro e w3 ⟨rfl, h3⟩; have HS3 : Hid (St rb ts tv en w v kv w3 v1 K1 ⟨s.i, s.d + 1, s.ns⟩) := h3; clear h3 HS2)
          go_wp2_with (go_at_call 171; refine (HS3.out.take x hx).mono ?_; rintro e w4 ⟨rfl, h4⟩; have HS4 : Hid (St rb ts tv en w v kv w4 v1 K1 (adv ⟨s.i, s.d + 1, s.ns⟩)) := h4; clear h4 HS3)
          have p4 : (adv ⟨s.i, s.d + 1, s.ns⟩).ns.length ≤ 8 * (adv ⟨s.i, s.d + 1, s.ns⟩).i := Nat.le_trans hp (Nat.mul_le_mul_left 8 (Nat.le_succ _))
          have i4 : (adv ⟨s.i, s.d + 1, s.ns⟩).i = s.i + 1 := rfl
          rcases e5 : r.tn (adv ⟨s.i, s.d + 1, s.ns⟩) with ⟨y⟩ | ⟨a, s5⟩
          · go_wp2_with (go_at_call 181; refine (HS4.out.no (hr.tn _ _ _ _ HS4.out.rd p4 (by omega)) e5).mono ?_; rintro e w5 ⟨he, b5⟩; unfold pan at he; subst he; have HB : Hid (Below rb w w5) := b5; clear b5)
            exact ⟨rfl, RdE.no HB.out (by unfold tnP; rw [ht]; simp only [e2, e5]; rfl)⟩
          · have o5 := hro.tn e5
            have p5 := o5.1.phi p4
            have t5 := o5.1.2.1
            have d5 : s5.d = s.d + 1 := o5.1.2.2.1
            go_wp2_with (go_at_call 181; refine (HS4.out.yes (hr.tn _ _ _ _ HS4.out.rd p4 (by omega)) e5).mono ?_; rintro e w5 ⟨rfl, v5, K5, h5⟩; have HS5 : Hid (St rb ts tv en w v kv w5 v5 K5 s5) := h5; clear h5 HS4)
            go_wp2_with (go_at_call 94; refine (HS5.out.add [a] 11 eT 2 (by simp) (by omega) _ _ _ rfl rfl rfl).mono ?_; rintro e w6 ⟨rfl, v6, K6, h6⟩; have HS6 : Hid (St rb ts tv en w v kv w6 v6 K6 (addP 11 eT 2 [a] s5).2) := h6; clear h6 HS5)
            go_wp2_with (go_at_call 174; refine (HS6.out.shut (by show 1 ≤ s5.d; omega)).mono ?_; rintro e w7 ⟨rfl, h7⟩; have HS7 : Hid (St rb ts tv en w v kv w7 v6 K6 (shutP (addP 11 eT 2 [a] s5).2)) := h7; clear h7 HS6)
            go_ret
            exact RdE.yes HS7.out (by unfold tnP; rw [ht]; simp only [e2, e5]; rfl)
        · go_wp2_with (go_at_call 172; refine (HS2.out.open_no q2).mono ?_; rintro e w3 ⟨he, b5⟩; unfold pan at he; subst he; have HB : Hid (Below rb w w3) := b5; clear b5)
          exact ⟨rfl, RdE.no HB.out (by unfold tnP; rw [ht]; simp only [e2]; rfl)⟩
    · have f1 := n1 (by omega)
      have f2 := n2 (by omega)
      cases e1 : isN ts ⟨#[35]⟩ s
      · go_wp2_with (go_at_call 168; refine (HS1.out.next [⟨#[35]⟩] false (by rw [isNL_one]; exact e1) (by simp) _ _ _ rfl rfl rfl).mono ?_; rintro e w2 ⟨rfl, h2⟩; have HS2 : Hid (St rb ts tv en w v kv w2 v1 K1 s) := h2; clear h2 HS1)
        go_wp2
        go_roundw
        case rel => exact ⟨4, by go_num, by omega, by omega, ⟨_, _, HS2.out⟩, (fun _ => by first | exact f1 | trivial), (fun _ => by first | exact f2 | trivial), (fun _ => by first | exact e1 | trivial)⟩
        case measure => simp [intOf]
      · have ht : tnOf ts s = 3 := by unfold tnOf; simp only [f1, f2, e1, Bool.false_eq_true, ↓reduceIte]
        have hlt := isN_lt ts e1
        obtain ⟨x, hx⟩ : ∃ x, ts[s.i]? = some x := ⟨_, List.getElem?_eq_getElem hlt⟩
        go_wp2_with (go_at_call 168; refine (HS1.out.next [⟨#[35]⟩] true (by rw [isNL_one]; exact e1) (by simp) _ _ _ rfl rfl rfl).mono ?_; rintro e w2 ⟨rfl, h2⟩; have HS2 : Hid (St rb ts tv en w v kv w2 v1 K1 s) := h2; clear h2 HS1)
        rcases open_cases ts en s with ⟨q2, e2⟩ | ⟨q2, e2⟩
        · go_wp2_with (go_at_call 172; refine (HS2.out.open_yes q2).mono ?_; rintro e w3 ⟨rfl, h3⟩; have HS3 : Hid (St rb ts tv en w v kv w3 v1 K1 ⟨s.i, s.d + 1, s.ns⟩) := h3; clear h3 HS2)
          go_wp2_with (go_at_call 171; refine (HS3.out.take x hx).mono ?_; rintro e w4 ⟨rfl, h4⟩; have HS4 : Hid (St rb ts tv en w v kv w4 v1 K1 (adv ⟨s.i, s.d + 1, s.ns⟩)) := h4; clear h4 HS3)
          have p4 : (adv ⟨s.i, s.d + 1, s.ns⟩).ns.length ≤ 8 * (adv ⟨s.i, s.d + 1, s.ns⟩).i := Nat.le_trans hp (Nat.mul_le_mul_left 8 (Nat.le_succ _))
          have i4 : (adv ⟨s.i, s.d + 1, s.ns⟩).i = s.i + 1 := rfl
          rcases e5 : r.tn (adv ⟨s.i, s.d + 1, s.ns⟩) with ⟨y⟩ | ⟨a, s5⟩
          · go_wp2_with (go_at_call 181; refine (HS4.out.no (hr.tn _ _ _ _ HS4.out.rd p4 (by omega)) e5).mono ?_; rintro e w5 ⟨he, b5⟩; unfold pan at he; subst he; have HB : Hid (Below rb w w5) := b5; clear b5)
            exact ⟨rfl, RdE.no HB.out (by unfold tnP; rw [ht]; simp only [e2, e5]; rfl)⟩
          · have o5 := hro.tn e5
            have p5 := o5.1.phi p4
            have t5 := o5.1.2.1
            have d5 : s5.d = s.d + 1 := o5.1.2.2.1
            go_wp2_with (go_at_call 181; refine (HS4.out.yes (hr.tn _ _ _ _ HS4.out.rd p4 (by omega)) e5).mono ?_; rintro e w5 ⟨rfl, v5, K5, h5⟩; have HS5 : Hid (St rb ts tv en w v kv w5 v5 K5 s5) := h5; clear h5 HS4)
            go_wp2_with (go_at_call 94; refine (HS5.out.add [a] 11 eT 3 (by simp) (by omega) _ _ _ rfl rfl rfl).mono ?_; rintro e w6 ⟨rfl, v6, K6, h6⟩; have HS6 : Hid (St rb ts tv en w v kv w6 v6 K6 (addP 11 eT 3 [a] s5).2) := h6; clear h6 HS5)
            go_wp2_with (go_at_call 174; refine (HS6.out.shut (by show 1 ≤ s5.d; omega)).mono ?_; rintro e w7 ⟨rfl, h7⟩; have HS7 : Hid (St rb ts tv en w v kv w7 v6 K6 (shutP (addP 11 eT 3 [a] s5).2)) := h7; clear h7 HS6)
            go_ret
            exact RdE.yes HS7.out (by unfold tnP; rw [ht]; simp only [e2, e5]; rfl)
        · go_wp2_with (go_at_call 172; refine (HS2.out.open_no q2).mono ?_; rintro e w3 ⟨he, b5⟩; unfold pan at he; subst he; have HB : Hid (Below rb w w3) := b5; clear b5)
          exact ⟨rfl, RdE.no HB.out (by unfold tnP; rw [ht]; simp only [e2]; rfl)⟩
    · have f1 := n1 (by omega)
      have f2 := n2 (by omega)
      have f3 := n3 (by omega)
      have ht : tnOf ts s = 0 := by unfold tnOf; simp only [f1, f2, f3, Bool.false_eq_true, ↓reduceIte]
      rcases e2 : opdP ts en r s with ⟨y⟩ | ⟨a, s2⟩
      · go_wp2_with (go_at_call 189; refine (HS1.out.no (HO _ _ _ _ HS1.out.rd hp (by omega)) e2).mono ?_; rintro e w5 ⟨he, b5⟩; unfold pan at he; subst he; have HB : Hid (Below rb w w5) := b5; clear b5)
        exact ⟨rfl, RdE.no HB.out (by unfold tnP; rw [ht]; simp only [e2]; rfl)⟩
      · have o2 := opdP_ok ts en hro e2
        have p2 : s2.ns.length ≤ 8 * s2.i := by have := o2.1.phi hp; omega
        have i2 := o2.1.1
        go_wp2_with (go_at_call 189; refine (HS1.out.yes (HO _ _ _ _ HS1.out.rd hp (by omega)) e2).mono ?_; rintro e w2 ⟨rfl, v2, K2, h2⟩; have HS2 : Hid (St rb ts tv en w v kv w2 v2 K2 s2) := h2; clear h2 HS1)
        rcases e3 : bhP ts en r (ts.length + 1) a s2 with ⟨y⟩ | ⟨b, s3⟩
        · go_wp2_with (go_at_call 188; refine (HS2.out.no (readBehind_at hr hro a _ _ _ _ HS2.out.rd p2 (by omega)) e3).mono ?_; rintro e w5 ⟨he, b5⟩; unfold pan at he; subst he; have HB : Hid (Below rb w w5) := b5; clear b5)
          exact ⟨rfl, RdE.no HB.out (by unfold tnP; rw [ht]; simp only [e2, e3]; rfl)⟩
        · go_wp2_with (go_at_call 188; refine (HS2.out.yes (readBehind_at hr hro a _ _ _ _ HS2.out.rd p2 (by omega)) e3).mono ?_; rintro e w3 ⟨rfl, v3, K3, h3⟩; have HS3 : Hid (St rb ts tv en w v kv w3 v3 K3 s3) := h3; clear h3 HS2)
          go_ret
          exact RdE.yes HS3.out (by unfold tnP; rw [ht]; simp only [e2, e3]; rfl)
end Go.Proofs.YtiglkhkfbgjjoaaDoor
