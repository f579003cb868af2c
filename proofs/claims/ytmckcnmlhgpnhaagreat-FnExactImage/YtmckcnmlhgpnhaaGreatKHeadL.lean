/- The program's survey of an arena: what it hands out at a right one, and at one that is not. -/
import Derived.Test.YtmckcnmlhgpnhaaGreatProg
import Derived.Test.YtmckcnmlhgpnhaaGreatKFreeA
namespace Go.Proofs.YtmckcnmlhgpnhaaGreat
set_option maxRecDepth 20000
open Go.RowKit
set_option linter.unusedSimpArgs false
set_option linter.unusedVariables false

theorem surveyOf_bad (aw : Option Addr) (cw : Nat) (ws : List Int) (semi toh top : Int) (cyc : Bool) (scan old copied serial : Int) (ar : Option Addr) (cr : Nat) (rs : List (Int × Int)) (y : Nat → Int) (Tr : Nat) (w : World) (hs : Sl w (.slice aw ws.length cw) ws) (hcw : ws.length ≤ cw) (hn : ws.length ≤ 1048576) (hw : Words64 ws) (hrt : SlF Tr w (.slice ar rs.length cr) rs.length (2 * rs.length) (fun i => .int .i64 (y i))) (hn2 : rs.length ≤ 1048576) (hok : ¬ ArOk ws semi toh top cyc scan old copied serial y rs.length) :
    Calls Tryz.prog 101 #[.agg #[.slice aw ws.length cw, .int .i64 semi, .int .i64 toh, .int .i64 top, .bool cyc, .int .i64 scan, .int .i64 old, .int .i64 copied, .int .i64 serial, .slice ar rs.length cr]] w fun e w' => ∃ pt, e = .returned (.tuple #[.pointer pt, .bool false]) ∧ Below w.heap.size w w' := by
  cases hm : mOk ws.length semi toh top serial rs.length with
  | false =>
    refine (surveyOf_no aw cw ws semi toh top cyc scan old copied serial ar cr rs w hn hn2 hm).mono ?_
    rintro e w1 ⟨rfl, b1⟩
    exact ⟨_, rfl, b1⟩
  | true =>
    have hm' := hm
    simp only [mOk, num1, num2, inB, Bool.and_eq_true, decide_eq_true_eq] at hm'
    obtain ⟨⟨s0, s1, hl, t0, t1, _, _, hrl⟩, h1, h2⟩ := hm'
    obtain ⟨g1, g2, g3, g4, g5⟩ := num_halves s0 s1 hl t0 t1 h1 h2
    obtain ⟨b, off, rfl, hb, hc⟩ := sl_open hs (by omega)
    have hgood := surv_good (ws := ws) (semi := semi) (toh := toh) (top := top) (cyc := cyc) (scan := scan) (old := old) (copied := copied) (serial := serial) (y := y) (rl := rs.length) (S := (toh * semi + 1).toNat) (T := top.toNat) (F := ((1 - toh) * semi + 1).toNat) hw hm (by omega) (by omega) (by omega)
    refine (surveyOf_at b off cw ws semi toh top cyc scan old copied serial ar cr rs y Tr (toh * semi + 1).toNat top.toNat ((1 - toh) * semi + 1).toNat w hb hc hw hcw hrt hm hrl s0 s1 hl t0 t1 (by omega) (by omega) (by omega) (by omega) h2).mono ?_
    rintro e w1 ⟨q, sv, rfl, b1, hq1, hq2⟩
    cases q with
    | false => exact ⟨_, rfl, b1⟩
    | true =>
      obtain ⟨L, O, _, _, _, _, _, _, a, b, _⟩ := hq1 rfl
      exact absurd (hgood.1 ⟨L, O, a, b⟩) hok
/-- A right arena's numbers, as a tiling's. -/
theorem ar_laid {ws : List Int} {semi toh top : Int} {cyc : Bool} {scan old copied serial : Int} {y : Nat → Int} {rl S T F : Nat} {L O : List Nat} (hok : ArOk ws semi toh top cyc scan old copied serial y rl) (hS : toh * semi + 1 = S) (hT : top = T) (hF : (1 - toh) * semi + 1 = F) (ht : Tiling ws serial S T cyc F old copied scan L O) : Laid ws serial S T cyc F old copied scan L O := by
  obtain ⟨s0, s1, hl, t0, t1, hrl, h1, h2, hold⟩ := num_facts hok.1
  obtain ⟨g1, g2, g3, g4, g5⟩ := num_halves s0 s1 hl t0 t1 h1 h2
  refine ⟨ht, fun hc => ?_, by omega, by omega, by omega, fun hc => ?_⟩
  · obtain ⟨a, b⟩ := hold hc
    have := g5 old a b
    omega
  · obtain ⟨a, b⟩ := hold hc
    exact (g5 old a b).1
/-- A right arena is tiled, in one way. -/
theorem ar_chain {ws : List Int} {semi toh top : Int} {cyc : Bool} {scan old copied serial : Int} {y : Nat → Int} {rl : Nat} (hok : ArOk ws semi toh top cyc scan old copied serial y rl) :
    ∃ (S T F : Nat) (L O : List Nat), toh * semi + 1 = S ∧ top = T ∧ (1 - toh) * semi + 1 = F ∧ T ≤ ws.length ∧ S ≤ T ∧ Laid ws serial S T cyc F old copied scan L O := by
  obtain ⟨s0, s1, hl, t0, t1, hrl, h1, h2, hold⟩ := num_facts hok.1
  obtain ⟨g1, g2, g3, g4, g5⟩ := num_halves s0 s1 hl t0 t1 h1 h2
  obtain ⟨L, O, ht, _⟩ := hok.2
  exact ⟨_, _, _, L, O, by omega, by omega, by omega, by omega, by omega, ar_laid hok (by omega) (by omega) (by omega) ht⟩
theorem surveyOf_good (aw : Option Addr) (cw : Nat) (ws : List Int) (semi toh top : Int) (cyc : Bool) (scan old copied serial : Int) (ar : Option Addr) (cr : Nat) (rs : List (Int × Int)) (y : Nat → Int) (Tr : Nat) (w : World) (S T F : Nat) (L : List Nat) (hs : Sl w (.slice aw ws.length cw) ws) (hcw : ws.length ≤ cw) (hn : ws.length ≤ 1048576) (hw : Words64 ws) (hrt : SlF Tr w (.slice ar rs.length cr) rs.length (2 * rs.length) (fun i => .int .i64 (y i))) (hn2 : rs.length ≤ 1048576) (hok : ArOk ws semi toh top cyc scan old copied serial y rs.length) (hS : toh * semi + 1 = S) (hT : top = T) (hF : (1 - toh) * semi + 1 = F) (hL : Chain (nx1 ws serial) S T L) :
    Calls Tryz.prog 101 #[.agg #[.slice aw ws.length cw, .int .i64 semi, .int .i64 toh, .int .i64 top, .bool cyc, .int .i64 scan, .int .i64 old, .int .i64 copied, .int .i64 serial, .slice ar rs.length cr]] w fun e w' => ∃ (sv b off bl cl bs bc Bp : Nat) (vp : Value) (O : List Nat), aw = some ⟨b, off, none⟩ ∧ e = .returned (.tuple #[.pointer (some ⟨sv, 0, none⟩), .bool true]) ∧ Below w.heap.size w w' ∧ Laid ws serial S T cyc F old copied scan L O ∧
      (b < w.heap.size ∧ ∀ i, i < ws.length → w.cell? ⟨b, off + i, none⟩ = some (.int .u64 (wordAt ws i))) ∧ Surv w.heap.size Bp w' sv bl bs bc ws.length #[.slice (some ⟨b, off, none⟩) ws.length cw, .int .i64 semi, .int .i64 toh, .int .i64 top, .bool cyc, .int .i64 scan, .int .i64 old, .int .i64 copied, .int .i64 serial, .slice ar rs.length cr, .slice (some ⟨bl, 0, none⟩) ws.length cl, vp, .map (some bs), .map (some bc)] vp (leadO ws L O) (L ++ hdsO ws O) (L.length + O.length) O.length (serH ws (L ++ hdsO ws O)) (copH ws O) := by
  obtain ⟨s0, s1, hl, t0, t1, hrl, h1, h2, hold⟩ := num_facts hok.1
  obtain ⟨g1, g2, g3, g4, g5⟩ := num_halves s0 s1 hl t0 t1 h1 h2
  obtain ⟨b, off, rfl, hb, hc⟩ := sl_open hs (by omega)
  have hm : mOk ws.length semi toh top serial rs.length = true := by
    have := hok.1
    unfold numOk at this
    rw [Bool.and_eq_true] at this
    exact this.1
  have hgood := surv_good (ws := ws) (semi := semi) (toh := toh) (top := top) (cyc := cyc) (scan := scan) (old := old) (copied := copied) (serial := serial) (y := y) (rl := rs.length) (S := S) (T := T) (F := F) hw hm hS hT hF
  refine (surveyOf_at b off cw ws semi toh top cyc scan old copied serial ar cr rs y Tr S T F w hb hc hw hcw hrt hm hrl s0 s1 hl t0 t1 hS hT hF (by omega) h2).mono ?_
  rintro e w1 ⟨q, sv, rfl, b1, hq1, hq2⟩
  cases q with
  | false => exact absurd (hgood.2 hok) (hq2 rfl)
  | true =>
    obtain ⟨L', O, bl, cl, bs, bc, Bp, vp, a, _, hsv⟩ := hq1 rfl
    obtain rfl := Chain.unique hL a.1.use
    exact ⟨sv, b, off, bl, cl, bs, bc, Bp, vp, O, rfl, rfl, b1, ar_laid hok hS hT hF a.1, ⟨hb, hc⟩, hsv⟩
/-- Where a place of the half in use leads, in a survey: to itself just where an object stands. -/
theorem laid_lead {ws : List Int} {serial : Int} {S T : Nat} {cyc : Bool} {F : Nat} {old copied scan : Int} {L O : List Nat} (h : Laid ws serial S T cyc F old copied scan L O) (x : Int) :
    (decide ((S : Int) ≤ x ∧ x < (T : Int)) && (leadO ws L O x.toNat == x)) = decide (∃ p ∈ L, (p : Int) = x) := by
  have hS := h.S1
  by_cases hx : (S : Int) ≤ x ∧ x < (T : Int)
  · rw [decide_eq_true hx, Bool.true_and]
    have hO : x.toNat ∉ O := fun g => (h.inO g).2.1 (by omega)
    unfold leadO leadU
    rw [if_neg hO]
    by_cases hL : x.toNat ∈ L
    · rw [if_pos hL, decide_eq_true ⟨x.toNat, hL, by omega⟩]
      simp
      omega
    · rw [if_neg hL, decide_eq_false (fun ⟨p, hp, e⟩ => hL (by rw [← e]; simpa using hp))]
      simp
      omega
  · rw [decide_eq_false hx, Bool.false_and, decide_eq_false]
    rintro ⟨p, hp, e⟩
    have := h.inL hp
    omega
end Go.Proofs.YtmckcnmlhgpnhaaGreat
