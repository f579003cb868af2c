/- - -/
import Derived.Test.YthdnpafigkkkkaaGreatDMcA
import Derived.BigFrame
namespace Go.Proofs.YthdnpafigkkkkaaGreat
set_option maxRecDepth 20000
open Go.RowKit
set_option linter.unusedSimpArgs false
set_option linter.unusedVariables false
theorem zuo {ws : List Int} {sm toh top : Int} {cyc : Bool} {sn old cp sr : Int} {y : Nat -> Int} {rl S T F : Nat} {L O : List Nat} (hok : zev ws sm toh top cyc sn old cp sr y rl) (hS : toh * sm + 1 = S) (hT : top = T) (hF : (1 - toh) * sm + 1 = F) (ht : zav ws sr S T cyc F old cp sn L O) : zam ws sr S T cyc F old cp sn L O := by
 obtain ⟨s0, s1, hl, t0, t1, hrl, h1, h2, hold⟩ := zgt hok.1
 obtain ⟨g1, g2, g3, g4, g5⟩ := zea s0 s1 hl t0 t1 h1 h2
 refine ⟨ht, fun hc => ?_, by omega, by omega, by omega, fun hc => ?_⟩
 · obtain ⟨a, b⟩ := hold hc
   have := g5 old a b
   omega
 · obtain ⟨a, b⟩ := hold hc
   exact (g5 old a b).1
def stA (N i : Nat) : Nat := N + 7 + 2 * i
def lkB (ws : List Int) (N b : Nat) : Bool := decide (rvT ws (stA N (b - 3)) = 2 /\ rvT ws (stA N (b - 2)) = 2 /\ 3 <= rvN ws (stA N (b - 3)) /\ rvN ws (stA N (b - 3)) <= (b : Int) - 3 /\ 0 <= rvN ws (stA N (b - 2)) /\ rvN ws (stA N (b - 2)) <= 8191)
def lkL (ws : List Int) (N b : Nat) : Int := if lkB ws N b = true then rvN ws (stA N (b - 3)) else 0
def lkH (ws : List Int) (N b : Nat) : Int := if lkB ws N b = true then rvN ws (stA N (b - 2)) else 0
theorem zvb {ws : List Int} {N b : Nat} (h : lkB ws N b = true) : ∃ l : Nat, lkL ws N b = (l : Int) /\ 3 <= l /\ l + 3 <= b := by
 have h2 := h
 simp only [lkB, decide_eq_true_eq] at h2
 exact ⟨(lkL ws N b).toNat, by simp only [lkL, h, if_true]; omega, by simp only [lkL, h, if_true]; omega, by simp only [lkL, h, if_true]; omega⟩
def zba (ws : List Int) (N : Nat) : Nat -> Nat -> Nat
 | 0, _ => 0
 | f + 1, b => if 3 < b /\ lkB ws N b = true then 1 + zba ws N f (lkL ws N b).toNat else 0
theorem zgm {ws : List Int} {N f b : Nat} (h : ¬ (3 < b /\ lkB ws N b = true)) : zba ws N f b = 0 := by
 cases f with
 | zero => rfl
 | succ f => simp only [zba, if_neg h]
theorem zkc {ws : List Int} {N f b : Nat} (hf : b <= f) (hb : 3 < b) (h : lkB ws N b = true) : ∃ l g : Nat, lkL ws N b = (l : Int) /\ 3 <= l /\ l + 3 <= b /\ l <= g /\ zba ws N f b = 1 + zba ws N g l := by
 obtain ⟨l, h1, h2, h3⟩ := zvb h
 cases f with
 | zero => omega
 | succ f => exact ⟨l, f, h1, h2, h3, by omega, by simp only [zba, if_pos (And.intro hb h), h1, Int.toNat_natCast]⟩
theorem zmt {ws : List Int} {N b i j : Nat} (hb : 3 < b) (hi : i + 3 = b) (hj : j + 2 = b) : lkB ws N b = decide (rvT ws (stA N i) = 2 /\ rvT ws (stA N j) = 2 /\ 3 <= rvN ws (stA N i) /\ rvN ws (stA N i) <= (b : Int) - 3 /\ 0 <= rvN ws (stA N j) /\ rvN ws (stA N j) <= 8191) /\ lkL ws N b = (if lkB ws N b = true then rvN ws (stA N i) else 0) /\ lkH ws N b = (if lkB ws N b = true then rvN ws (stA N j) else 0) := by
 have e1 : b - 3 = i := by omega
 have e2 : b - 2 = j := by omega
 unfold lkL lkH lkB
 rw [e1, e2]
 exact ⟨rfl, rfl, rfl⟩
theorem zub {ws : List Int} {sm toh top : Int} {cyc : Bool} {sn old cp sr : Int} {y : Nat -> Int} {rl : Nat} (hw : zg ws) (hok : zev ws sm toh top cyc sn old cp sr y rl) {i : Nat} (hi : i < rl) (h6 : y (2 * i) = 6) :
 ∃ N : Nat, y (2 * i + 1) = (N : Int) /\ N + 126 < ws.length /\ 0 <= za ws (N + 3) /\ za ws (N + 3) <= 60 := by
 obtain ⟨s0, s1, hl, t0, t1, hrl, h1, h2, hold⟩ := zgt hok.1
 obtain ⟨g1, g2, g3, g4, g5⟩ := zea s0 s1 hl t0 t1 h1 h2
 obtain ⟨L, O, ht, _, hobj, _, hroots⟩ := hok.2
 have hlaid := zuo hok (S := (toh * sm + 1).toNat) (T := top.toNat) (F := ((1 - toh) * sm + 1).toNat) (by omega) (by omega) (by omega) ht
 have hk := ht.known hlaid.Tn hlaid.On hlaid.ap hobj
 have hr : isR (y (2 * i)) = true := by rw [h6]; rfl
 obtain ⟨hv, _, hlead⟩ := hroots i hi
 obtain ⟨hm, hfr, hkd⟩ := hlead hr
 have hm0 : 0 < y (2 * i + 1) := by
  have h3 := of_decide_eq_true hv
  omega
 have hmk : mk2 ws L O (y (2 * i + 1)).toNat = 1 := by
  unfold zbt at hfr
  simp at hfr
  exact hfr
 have hob : zb2 (mk2 ws L O) (y (2 * i + 1)).toNat := .inl hmk
 obtain ⟨hrd, hin⟩ := hk.within _ hob
 have hle := zbr hrd
 rw [hle, Int.toNat_natCast, h6] at hkd
 have hkd6 : rdK (za ws (y (2 * i + 1)).toNat) = 6 := by rw [hkd]; rfl
 have hsz : rdS (za ws (y (2 * i + 1)).toNat) = 126 := by
  have h2 := zdz hrd
  rcases za6 h2 with g | g | g | g | g | g <;> omega
 have hco := hobj (y (2 * i + 1)).toNat (by omega) hob
 refine ⟨(y (2 * i + 1)).toNat, by omega, by omega, (zx hw _).1, ?_⟩
 have hc := hco.2.2.2 hkd6
 have := hc.2.1
 have := hc.2.2.1
 omega
structure McV (w : World) (b3 b4 k : Nat) (ws : List Int) (N : Nat) : Prop where
 wd : Sl w (.slice (some ⟨b3, 0, none⟩) ws.length ws.length) ws
 lt : b4 < w.heap.size
 r0 : w.cell? ⟨b4, 0, none⟩ = some (.int .i64 6)
 r1 : w.cell? ⟨b4, 1, none⟩ = some (.int .i64 (N : Int))
 k0 : 0 < k
 hn : ws.length <= 1048576
 hw : zg ws
 fit : N + 126 < ws.length
theorem McV.below {w w' : World} {b3 b4 k : Nat} {ws : List Int} {N : Nat} (h : McV w b3 b4 k ws N) (hb : Below w.heap.size w w') : McV w' b3 b4 k ws N :=
 ⟨h.wd.below hb, Nat.lt_of_lt_of_le h.lt hb.size, (hb.cell (p := ⟨b4, 0, none⟩) h.lt).trans h.r0, (hb.cell (p := ⟨b4, 1, none⟩) h.lt).trans h.r1, h.k0, h.hn, h.hw, h.fit⟩
theorem McV.word {w : World} {b3 b4 k : Nat} {ws : List Int} {N : Nat} (h : McV w b3 b4 k ws N) {i : Nat} (hi : i < ws.length) : b3 < w.heap.size /\ w.cell? ⟨b3, i, none⟩ = some (.int .u64 (za ws i)) := by
 obtain ⟨b, off, e, lb, hc⟩ := zje h.wd (by omega)
 simp only [Option.some.injEq, Addr.mk.injEq] at e
 obtain ⟨rfl, rfl, _⟩ := e
 have := hc i hi
 rw [Nat.zero_add] at this
 exact ⟨lb, this⟩
theorem zfx {P : Program} {ρ : Operand -> Value} {o : Oper} {t : TypeId} {x : Operand} {w : World} {v : Value} (ho : o.op = .load t x) (hr : (Instr.loadAt t (ρ x)).run P w = .ok v w) : (execOp ρ o).run P w = .ok (.value v) w := by
 unfold execOp
 simp only [ho, Sem.run_bind, Sem.run_pure, Result.andThen_ok, hr]
set_option maxHeartbeats 1000000 in
theorem zsq (a1 : Option Addr) (L c1 : Nat) (a2 : Option Addr) (n c2 b3 b4 : Nat) (ws : List Int) (sm toh top : Int) (cyc : Bool) (sn old cp sr : Int) (k : Nat) (fa de sh : Bool) (st et en sp : Int) (ao : Option Addr) (m co : Nat) (N i : Nat) (w : World) (H : McV w b3 b4 k ws N) (hi : i <= 126) :
 Calls Tryz.prog 13 #[.agg #[.slice a1 L c1, .slice a2 n c2, .slice (some ⟨b3, 0, none⟩) ws.length ws.length, .int .i64 sm, .int .i64 toh, .int .i64 top, .bool cyc, .int .i64 sn, .int .i64 old, .int .i64 cp, .int .i64 sr, .slice (some ⟨b4, 0, none⟩) k k, .bool fa, .bool de, .bool sh, .int .i64 st, .int .i64 et, .int .i64 en, .int .i64 sp, .slice ao m co], .int .i64 i] w fun e w' => e = .returned (.int .i64 (wrap64 (za ws (N + i)))) /\ Below w.heap.size w w' := by
 have B0 : Below w.heap.size w (w.alloc (.cells #[.slice a1 L c1, .slice a2 n c2, .slice (some ⟨b3, 0, none⟩) ws.length ws.length, .int .i64 sm, .int .i64 toh, .int .i64 top, .bool cyc, .int .i64 sn, .int .i64 old, .int .i64 cp, .int .i64 sr, .slice (some ⟨b4, 0, none⟩) k k, .bool fa, .bool de, .bool sh, .int .i64 st, .int .i64 et, .int .i64 en, .int .i64 sp, .slice ao m co] 44)) := (Below.refl _ _).alloc (Nat.le_refl _) _
 have H1 := H.below B0
 have hfit := H.fit
 obtain ⟨l3, q⟩ := H1.word (i := N + i) (by omega)
 have r1 := H1.r1
 have l4 := H1.lt
 have h1 : (N : Int) + (i : Int) < (ws.length : Int) := by omega
 have h2 : (ws.length : Int) <= 1048576 := by have := H.hn; omega
 have hk : (0 : Int) < (k : Int) := by have := H.k0; omega
 have kM := (zd.new w 44 #[.slice a1 L c1, .slice a2 n c2, .slice (some ⟨b3, 0, none⟩) ws.length ws.length, .int .i64 sm, .int .i64 toh, .int .i64 top, .bool cyc, .int .i64 sn, .int .i64 old, .int .i64 cp, .int .i64 sr, .slice (some ⟨b4, 0, none⟩) k k, .bool fa, .bool de, .bool sh, .int .i64 st, .int .i64 et, .int .i64 en, .int .i64 sp, .slice ao m co]).cell
 have h0 : (0 : Int) <= (N : Int) + (i : Int) := by omega
 have hwr : IntKind.i64.wrap ((N : Int) + (i : Int)) = (N : Int) + (i : Int) := by rw [IntKind.wrap_i64]; omega
 have ht : ((N : Int) + (i : Int)).toNat = N + i := by omega
 have XM := zd.new w 44 #[.slice a1 L c1, .slice a2 n c2, .slice (some ⟨b3, 0, none⟩) ws.length ws.length, .int .i64 sm, .int .i64 toh, .int .i64 top, .bool cyc, .int .i64 sn, .int .i64 old, .int .i64 cp, .int .i64 sr, .slice (some ⟨b4, 0, none⟩) k k, .bool fa, .bool de, .bool sh, .int .i64 st, .int .i64 et, .int .i64 en, .int .i64 sp, .slice ao m co]
 have KP : ∀ V, Below (w.alloc (.cells #[.slice a1 L c1, .slice a2 n c2, .slice (some ⟨b3, 0, none⟩) ws.length ws.length, .int .i64 sm, .int .i64 toh, .int .i64 top, .bool cyc, .int .i64 sn, .int .i64 old, .int .i64 cp, .int .i64 sr, .slice (some ⟨b4, 0, none⟩) k k, .bool fa, .bool de, .bool sh, .int .i64 st, .int .i64 et, .int .i64 en, .int .i64 sp, .slice ao m co] 44)).heap.size (w.alloc (.cells #[.slice a1 L c1, .slice a2 n c2, .slice (some ⟨b3, 0, none⟩) ws.length ws.length, .int .i64 sm, .int .i64 toh, .int .i64 top, .bool cyc, .int .i64 sn, .int .i64 old, .int .i64 cp, .int .i64 sr, .slice (some ⟨b4, 0, none⟩) k k, .bool fa, .bool de, .bool sh, .int .i64 st, .int .i64 et, .int .i64 en, .int .i64 sp, .slice ao m co] 44)) V -> (zd V w.heap.size 44 #[.slice a1 L c1, .slice a2 n c2, .slice (some ⟨b3, 0, none⟩) ws.length ws.length, .int .i64 sm, .int .i64 toh, .int .i64 top, .bool cyc, .int .i64 sn, .int .i64 old, .int .i64 cp, .int .i64 sr, .slice (some ⟨b4, 0, none⟩) k k, .bool fa, .bool de, .bool sh, .int .i64 st, .int .i64 et, .int .i64 en, .int .i64 sp, .slice ao m co] /\ V.cell? ⟨b4, 1, none⟩ = some (.int .i64 (N : Int)) /\ V.cell? ⟨b3, N + i, none⟩ = some (.int .u64 (za ws (N + i)))) := fun V hV => ⟨XM.below hV XM.lt, (hV.cell (p := ⟨b4, 1, none⟩) l4).trans r1, (hV.cell (p := ⟨b3, N + i, none⟩) l3).trans q⟩
 clear H H1 kM
 go_enter Tryz.func13, Tryz.ntmps13
 go_wp2_with fail
 refine wp_region_held_drew (S := fun V => zd V w.heap.size 44 #[.slice a1 L c1, .slice a2 n c2, .slice (some ⟨b3, 0, none⟩) ws.length ws.length, .int .i64 sm, .int .i64 toh, .int .i64 top, .bool cyc, .int .i64 sn, .int .i64 old, .int .i64 cp, .int .i64 sr, .slice (some ⟨b4, 0, none⟩) k k, .bool fa, .bool de, .bool sh, .int .i64 st, .int .i64 et, .int .i64 en, .int .i64 sp, .slice ao m co] /\ V.cell? ⟨b4, 1, none⟩ = some (.int .i64 (N : Int)) /\ V.cell? ⟨b3, N + i, none⟩ = some (.int .u64 (za ws (N + i)))) (by kernel_rfl) (KP _ (Below.refl _ _).drew) (fun hHeld => ?_)
 refine wpAnyH_take (i := 0) (oi := { dst := some 5, op := _, type := _, pos := _, after := _, guard := _ }) (v := .pointer (some ⟨w.heap.size, 2, none⟩)) rfl (by kernel_rfl) (by kernel_rfl) (by kernel_rfl) (fun _ _ _ h => h) (Or.inl ⟨by kernel_rfl, (by intro V hS; go_simp)⟩) hHeld ?_
 try simp only [Act.put, zvs, zvt, zvu]
 refine wpAnyH_take (i := 1) (oi := { dst := some 6, op := _, type := _, pos := _, after := _, guard := _ }) (v := .pointer (some ⟨w.heap.size, 2, none⟩)) rfl (by kernel_rfl) (by kernel_rfl) (by kernel_rfl) (fun _ _ _ h => h) (Or.inl ⟨by kernel_rfl, (by intro V hS; go_simp)⟩) hHeld ?_
 try simp only [Act.put, zvs, zvt, zvu]
 refine wpAnyH_take (i := 2) (oi := { dst := some 7, op := _, type := _, pos := _, after := _, guard := _ }) (v := .slice (some ⟨b3, 0, none⟩) ws.length ws.length) rfl (by kernel_rfl) (by kernel_rfl) (by kernel_rfl) (fun _ _ _ h => h) (Or.inl ⟨by kernel_rfl, (by intro V hS; have q := hS.1.cell 2; simp at q; go_simp)⟩) hHeld ?_
 try simp only [Act.put, zvs, zvt, zvu]
 refine wpAnyH_take (i := 3) (oi := { dst := some 8, op := _, type := _, pos := _, after := _, guard := _ }) (v := .pointer (some ⟨w.heap.size, 2, none⟩)) rfl (by kernel_rfl) (by kernel_rfl) (by kernel_rfl) (fun _ _ _ h => h) (Or.inl ⟨by kernel_rfl, (by intro V hS; go_simp)⟩) hHeld ?_
 try simp only [Act.put, zvs, zvt, zvu]
 refine wpAnyH_take (i := 4) (oi := { dst := some 9, op := _, type := _, pos := _, after := _, guard := _ }) (v := .pointer (some ⟨w.heap.size, 11, none⟩)) rfl (by kernel_rfl) (by kernel_rfl) (by kernel_rfl) (fun _ _ _ h => h) (Or.inl ⟨by kernel_rfl, (by intro V hS; go_simp)⟩) hHeld ?_
 try simp only [Act.put, zvs, zvt, zvu]
 refine wpAnyH_take (i := 5) (oi := { dst := some 10, op := _, type := _, pos := _, after := _, guard := _ }) (v := .slice (some ⟨b4, 0, none⟩) k k) rfl (by kernel_rfl) (by kernel_rfl) (by kernel_rfl) (fun _ _ _ h => h) (Or.inl ⟨by kernel_rfl, (by intro V hS; have q := hS.1.cell 11; simp at q; go_simp)⟩) hHeld ?_
 try simp only [Act.put, zvs, zvt, zvu]
 refine wpAnyH_take (i := 6) (oi := { dst := some 11, op := _, type := _, pos := _, after := _, guard := _ }) (v := .pointer (some ⟨b4, 0, none⟩)) rfl (by kernel_rfl) (by kernel_rfl) (by kernel_rfl) (fun _ _ _ h => h) (Or.inl ⟨by kernel_rfl, (by intro V hS; go_simp; intro z; omega)⟩) hHeld ?_
 try simp only [Act.put, zvs, zvt, zvu]
 refine wpAnyH_take (i := 7) (oi := { dst := some 12, op := _, type := _, pos := _, after := _, guard := _ }) (v := .pointer (some ⟨b4, 1, none⟩)) rfl (by kernel_rfl) (by kernel_rfl) (by kernel_rfl) (fun _ _ _ h => h) (Or.inl ⟨by kernel_rfl, (by intro V hS; go_simp)⟩) hHeld ?_
 try simp only [Act.put, zvs, zvt, zvu]
 refine wpAnyH_take (i := 8) (oi := { dst := some 13, op := _, type := _, pos := _, after := _, guard := _ }) (v := .int .i64 (N : Int)) rfl (by kernel_rfl) (by kernel_rfl) (by kernel_rfl) (fun _ _ _ h => h) (Or.inl ⟨by kernel_rfl, (by intro V hS; obtain ⟨_, q1, q2⟩ := hS; go_simp)⟩) hHeld ?_
 try simp only [Act.put, zvs, zvt, zvu]
 refine wpAnyH_take (i := 9) (oi := { dst := some 14, op := _, type := _, pos := _, after := _, guard := _ }) (v := .int .i64 (i : Int)) rfl (by kernel_rfl) (by kernel_rfl) (by kernel_rfl) (fun _ _ _ h => h) (Or.inl ⟨by kernel_rfl, (by intro V hS; go_simp)⟩) hHeld ?_
 try simp only [Act.put, zvs, zvt, zvu]
 refine wpAnyH_take (i := 10) (oi := { dst := some 15, op := _, type := _, pos := _, after := _, guard := _ }) (v := .int .i64 ((N : Int) + (i : Int))) rfl (by kernel_rfl) (by kernel_rfl) (by kernel_rfl) (fun _ _ _ h => h) (Or.inl ⟨by kernel_rfl, (by intro V hS; go_simp)⟩) hHeld ?_
 try simp only [Act.put, zvs, zvt, zvu]
 refine wpAnyH_take (i := 11) (oi := { dst := some 16, op := _, type := _, pos := _, after := _, guard := _ }) (v := .pointer (some ⟨b3, N + i, none⟩)) rfl (by kernel_rfl) (by kernel_rfl) (by kernel_rfl) (fun _ _ _ h => h) (Or.inl ⟨by kernel_rfl, (by intro V hS; go_simp)⟩) hHeld ?_
 try simp only [Act.put, zvs, zvt, zvu]
 refine wpAnyH_take (i := 12) (oi := { dst := some 17, op := _, type := _, pos := _, after := _, guard := _ }) (v := .int .u64 (za ws (N + i))) rfl (by kernel_rfl) (by kernel_rfl) (by kernel_rfl) (fun _ _ _ h => h) (Or.inl ⟨by kernel_rfl, (by intro V hS; obtain ⟨_, q1, q2⟩ := hS; go_simp)⟩) hHeld ?_
 try simp only [Act.put, zvs, zvt, zvu]
 refine wpAnyH_take (i := 13) (oi := { dst := some 18, op := _, type := _, pos := _, after := _, guard := _ }) (v := .int .i64 (wrap64 (za ws (N + i)))) rfl (by kernel_rfl) (by kernel_rfl) (by kernel_rfl) (fun _ _ _ h => h) (Or.inl ⟨by kernel_rfl, (by intro V hS; go_simp; rw [IntKind.wrap_i64]; first | rfl | (unfold wrap64; omega))⟩) hHeld ?_
 try simp only [Act.put, zvs, zvt, zvu]
 refine wpAnyH_take (i := 14) (oi := { dst := some 4, op := _, type := _, pos := _, after := _, guard := _ }) (v := .int .i64 (wrap64 (za ws (N + i)))) rfl (by kernel_rfl) (by kernel_rfl) (by kernel_rfl) (fun _ _ _ h => h) (Or.inl ⟨by kernel_rfl, (by intro V hS; go_simp)⟩) hHeld ?_
 try simp only [Act.put, zvs, zvt, zvu]
 refine wpAnyH_done (by kernel_rfl) ?_ _
 go_wp2
 go_ret
 exact ⟨rfl, B0.drew⟩
set_option maxHeartbeats 1000000 in
theorem zij (a1 : Option Addr) (L c1 : Nat) (a2 : Option Addr) (n c2 b3 b4 : Nat) (ws : List Int) (sm toh top : Int) (cyc : Bool) (sn old cp sr : Int) (k : Nat) (fa de sh : Bool) (st et en sp : Int) (ao : Option Addr) (m co : Nat) (N i : Nat) (x : Int) (w : World) (hx : x = i) (H : McV w b3 b4 k ws N) (hi : i <= 59) :
 Calls Tryz.prog 54 #[.agg #[.slice a1 L c1, .slice a2 n c2, .slice (some ⟨b3, 0, none⟩) ws.length ws.length, .int .i64 sm, .int .i64 toh, .int .i64 top, .bool cyc, .int .i64 sn, .int .i64 old, .int .i64 cp, .int .i64 sr, .slice (some ⟨b4, 0, none⟩) k k, .bool fa, .bool de, .bool sh, .int .i64 st, .int .i64 et, .int .i64 en, .int .i64 sp, .slice ao m co], .int .i64 x] w fun e w' => e = .returned (.int .i64 ((stA N i : Nat) : Int)) /\ Below w.heap.size w w' := by
 have B0 : Below w.heap.size w (w.alloc (.cells #[.slice a1 L c1, .slice a2 n c2, .slice (some ⟨b3, 0, none⟩) ws.length ws.length, .int .i64 sm, .int .i64 toh, .int .i64 top, .bool cyc, .int .i64 sn, .int .i64 old, .int .i64 cp, .int .i64 sr, .slice (some ⟨b4, 0, none⟩) k k, .bool fa, .bool de, .bool sh, .int .i64 st, .int .i64 et, .int .i64 en, .int .i64 sp, .slice ao m co] 44)) := (Below.refl _ _).alloc (Nat.le_refl _) _
 have H1 := H.below B0
 have hfit := H.fit
 have r1 := H1.r1
 have l4 := H1.lt
 have hN : (N : Int) <= 1048576 := by have := H.hn; omega
 have hN0 : (0 : Int) <= (N : Int) := by omega
 have x0 : 0 <= x := by omega
 have x1 : x <= 59 := by omega
 have hk : (0 : Int) < (k : Int) := by have := H.k0; omega
 have kM := (zd.new w 44 #[.slice a1 L c1, .slice a2 n c2, .slice (some ⟨b3, 0, none⟩) ws.length ws.length, .int .i64 sm, .int .i64 toh, .int .i64 top, .bool cyc, .int .i64 sn, .int .i64 old, .int .i64 cp, .int .i64 sr, .slice (some ⟨b4, 0, none⟩) k k, .bool fa, .bool de, .bool sh, .int .i64 st, .int .i64 et, .int .i64 en, .int .i64 sp, .slice ao m co]).cell
 have k11 := kM 11
 simp at k11
 have e : ((stA N i : Nat) : Int) = (N : Int) + 7 + 2 * x := by unfold stA; omega
 rw [e]
 clear H H1 kM hfit hx e
 go_enter Tryz.func54, Tryz.ntmps54
 go_wp2
 go_ret
 exact ⟨rfl, B0⟩
set_option maxHeartbeats 2000000 in
theorem zax (a1 : Option Addr) (L c1 : Nat) (a2 : Option Addr) (n c2 b3 b4 : Nat) (ws : List Int) (sm toh top : Int) (cyc : Bool) (sn old cp sr : Int) (k : Nat) (fa de sh : Bool) (st et en sp : Int) (ao : Option Addr) (m co : Nat) (N i : Nat) (x : Int) (w : World) (hx : x = i) (H : McV w b3 b4 k ws N) (hi : i <= 59) :
 Calls Tryz.prog 32 #[.agg #[.slice a1 L c1, .slice a2 n c2, .slice (some ⟨b3, 0, none⟩) ws.length ws.length, .int .i64 sm, .int .i64 toh, .int .i64 top, .bool cyc, .int .i64 sn, .int .i64 old, .int .i64 cp, .int .i64 sr, .slice (some ⟨b4, 0, none⟩) k k, .bool fa, .bool de, .bool sh, .int .i64 st, .int .i64 et, .int .i64 en, .int .i64 sp, .slice ao m co], .int .i64 x] w fun e w' => e = .returned (.agg #[.int .i64 (rvT ws (stA N i)), .int .i64 (rvN ws (stA N i))]) /\ Below w.heap.size w w' := by
 have HX : Hid (x = (i : Int)) := hx
 have HV : Hid (McV w b3 b4 k ws N) := H
 have HF : Hid (stA N i + 1 < ws.length) := by have := H.fit; show stA N i + 1 < ws.length; unfold stA; omega
 clear hx H
 go_enter Tryz.func32, Tryz.ntmps32
 go_upto_region 1 with fail
 obtain ⟨w0, hw0⟩ : ∃ V, V = (w.alloc (.cells #[.slice a1 L c1, .slice a2 n c2, .slice (some ⟨b3, 0, none⟩) ws.length ws.length, .int .i64 sm, .int .i64 toh, .int .i64 top, .bool cyc, .int .i64 sn, .int .i64 old, .int .i64 cp, .int .i64 sr, .slice (some ⟨b4, 0, none⟩) k k, .bool fa, .bool de, .bool sh, .int .i64 st, .int .i64 et, .int .i64 en, .int .i64 sp, .slice ao m co] 44)).alloc (.cells #[.int .i64 0, .int .i64 0] 42) := ⟨_, rfl⟩
 have B0 : Below w.heap.size w w0 := by rw [hw0]; exact ((Below.refl _ _).alloc (Nat.le_refl _) _).alloc (by simp) _
 have XM : zd w0 w.heap.size 44 #[.slice a1 L c1, .slice a2 n c2, .slice (some ⟨b3, 0, none⟩) ws.length ws.length, .int .i64 sm, .int .i64 toh, .int .i64 top, .bool cyc, .int .i64 sn, .int .i64 old, .int .i64 cp, .int .i64 sr, .slice (some ⟨b4, 0, none⟩) k k, .bool fa, .bool de, .bool sh, .int .i64 st, .int .i64 et, .int .i64 en, .int .i64 sp, .slice ao m co] := by rw [hw0]; exact (zd.new w _ _).alloc _
 have X4 : zd w0 (w.heap.size + 1) 42 #[.int .i64 0, .int .i64 0] := by rw [hw0]; have := zd.new (w.alloc (.cells #[.slice a1 L c1, .slice a2 n c2, .slice (some ⟨b3, 0, none⟩) ws.length ws.length, .int .i64 sm, .int .i64 toh, .int .i64 top, .bool cyc, .int .i64 sn, .int .i64 old, .int .i64 cp, .int .i64 sr, .slice (some ⟨b4, 0, none⟩) k k, .bool fa, .bool de, .bool sh, .int .i64 st, .int .i64 et, .int .i64 en, .int .i64 sp, .slice ao m co] 44)) 42 #[.int .i64 0, .int .i64 0]; simpa using this
 have H0 := HV.out.below B0
 rw [<- hw0]
 clear hw0
 generalize hT : rvT ws (stA N i) = vt
 generalize hN : rvN ws (stA N i) = vn
 generalize hO : zcu ws (stA N i) = vo
 go_cut [5] from 6 to 16 (fun s5 wc => ∃ p : Nat, s5 = .pointer (some ⟨p, 0, none⟩) /\ zd wc p 42 #[.int .i64 vt, .int .i64 vn] /\ Below w0.heap.size w0 wc)
 case first =>
  have KP : ∀ V, Below w0.heap.size w0 V -> (Below w0.heap.size w0 V /\ zd V w.heap.size 44 #[.slice a1 L c1, .slice a2 n c2, .slice (some ⟨b3, 0, none⟩) ws.length ws.length, .int .i64 sm, .int .i64 toh, .int .i64 top, .bool cyc, .int .i64 sn, .int .i64 old, .int .i64 cp, .int .i64 sr, .slice (some ⟨b4, 0, none⟩) k k, .bool fa, .bool de, .bool sh, .int .i64 st, .int .i64 et, .int .i64 en, .int .i64 sp, .slice ao m co]) := fun V hV => ⟨hV, XM.below hV XM.lt⟩
  refine wp_region_held_drew (S := fun V => Below w0.heap.size w0 V /\ zd V w.heap.size 44 #[.slice a1 L c1, .slice a2 n c2, .slice (some ⟨b3, 0, none⟩) ws.length ws.length, .int .i64 sm, .int .i64 toh, .int .i64 top, .bool cyc, .int .i64 sn, .int .i64 old, .int .i64 cp, .int .i64 sr, .slice (some ⟨b4, 0, none⟩) k k, .bool fa, .bool de, .bool sh, .int .i64 st, .int .i64 et, .int .i64 en, .int .i64 sp, .slice ao m co]) (by kernel_rfl) (KP _ (Below.refl _ _).drew) (fun hHeld => ?_)
  obtain ⟨wd, hwd⟩ : ∃ V, V = w0.drew := ⟨_, rfl⟩
  rw [<- hwd] at hHeld ⊢
  clear hwd
  refine wpAnyH_take (i := 0) (oi := { dst := some 8, op := _, type := _, pos := _, after := _, guard := _ }) (v := .pointer (some ⟨w.heap.size, 2, none⟩)) rfl (by kernel_rfl) (by kernel_rfl) (by kernel_rfl) (fun _ _ _ h => h) (Or.inl ⟨by kernel_rfl, (by intro V hS; go_simp)⟩) hHeld ?_
  try simp only [Act.put, zvs, zvt, zvu]
  refine wpAnyH_take (i := 1) (oi := { dst := some 9, op := _, type := _, pos := _, after := _, guard := _ }) (v := .pointer (some ⟨w.heap.size, 2, none⟩)) rfl (by kernel_rfl) (by kernel_rfl) (by kernel_rfl) (fun _ _ _ h => h) (Or.inl ⟨by kernel_rfl, (by intro V hS; go_simp)⟩) hHeld ?_
  try simp only [Act.put, zvs, zvt, zvu]
  refine wpAnyH_take (i := 2) (oi := { dst := some 10, op := _, type := _, pos := _, after := _, guard := _ }) (v := .slice (some ⟨b3, 0, none⟩) ws.length ws.length) rfl (by kernel_rfl) (by kernel_rfl) (by kernel_rfl) (fun _ _ _ h => h) (Or.inl ⟨by kernel_rfl, (by intro V hS; have q := hS.2.cell 2; simp at q; go_simp)⟩) hHeld ?_
  try simp only [Act.put, zvs, zvt, zvu]
  refine wpAnyH_take (i := 3) (oi := { dst := some 11, op := _, type := _, pos := _, after := _, guard := _ }) (v := .agg #[.slice a1 L c1, .slice a2 n c2, .slice (some ⟨b3, 0, none⟩) ws.length ws.length, .int .i64 sm, .int .i64 toh, .int .i64 top, .bool cyc, .int .i64 sn, .int .i64 old, .int .i64 cp, .int .i64 sr, .slice (some ⟨b4, 0, none⟩) k k, .bool fa, .bool de, .bool sh, .int .i64 st, .int .i64 et, .int .i64 en, .int .i64 sp, .slice ao m co]) rfl (by kernel_rfl) (by kernel_rfl) (by kernel_rfl) (fun _ _ _ h => h) (Or.inl ⟨by kernel_rfl, (fun V hS => zfx rfl (zde rfl hS.2.cell))⟩) hHeld ?_
  try simp only [Act.put, zvs, zvt, zvu]
  refine wpAnyH_take (i := 4) (oi := { dst := some 12, op := _, type := _, pos := _, after := _, guard := _ }) (v := .int .i64 x) rfl (by kernel_rfl) (by kernel_rfl) (by kernel_rfl) (fun _ _ _ h => h) (Or.inl ⟨by kernel_rfl, (by intro V hS; go_simp)⟩) hHeld ?_
  try simp only [Act.put, zvs, zvt, zvu]
  refine wpAnyH_ready (rs := [5, 10]) (by kernel_rfl) (by simp) ?_
  refine AllReadyH.cons (o := { dst := some 13, op := _, type := _, pos := _, after := _, guard := _ }) rfl (fun K hK => ?_) (AllReadyH.cons (o := { dst := some 5, op := _, type := _, pos := _, after := _, guard := _ }) rfl (fun K hK => ?_) AllReadyH.nil)
  · go_simp
    go_at_call 54
    refine (zij a1 L c1 a2 n c2 b3 b4 ws sm toh top cyc sn old cp sr k fa de sh st et en sp ao m co N i x wd HX.out (H0.below hHeld.1) hi).mono ?_
    rintro e w11 ⟨rfl, hb⟩
    have hN := zb (w := w0) hHeld.1 hb
    clear hb hHeld
    refine hK.out _ _ (KP _ hN) (fun hHeld => ?_)
    clear hK K hN
    try simp only [Act.put, zvs, zvt, zvu]
    refine wpAnyH_ready (rs := [6, 10]) (by kernel_rfl) (by simp) ?_
    refine AllReadyH.cons (o := { dst := some 14, op := _, type := _, pos := _, after := _, guard := _ }) rfl (fun K hK => ?_) (AllReadyH.cons (o := { dst := some 5, op := _, type := _, pos := _, after := _, guard := _ }) rfl (fun K hK => ?_) AllReadyH.nil)
    · go_simp
      go_at_call 53
      refine (zcf _ ws _ (stA N i) w11 rfl (H0.below hHeld.1).wd H0.hn H0.hw HF.out).mono ?_
      rw [hT, hN, hO]
      rintro e w12 ⟨rfl, hb⟩
      have hN := zb (w := w0) hHeld.1 hb
      clear hb hHeld
      refine hK.out _ _ (KP _ hN) (fun hHeld => ?_)
      clear hK K hN
      try simp only [Act.put, zvs, zvt, zvu]
      refine wpAnyH_take (i := 7) (oi := { dst := some 7, op := _, type := _, pos := _, after := _, guard := _ }) (v := .tuple #[.agg #[.int .i64 vt, .int .i64 vn], .bool vo]) rfl (by kernel_rfl) (by kernel_rfl) (by kernel_rfl) (fun _ _ _ h => h) (Or.inl ⟨by kernel_rfl, (by intro V hS; go_simp)⟩) hHeld ?_
      try simp only [Act.put, zvs, zvt, zvu]
      refine wpAnyH_take (i := 8) (oi := { dst := some 15, op := _, type := _, pos := _, after := _, guard := _ }) (v := .agg #[.int .i64 vt, .int .i64 vn]) rfl (by kernel_rfl) (by kernel_rfl) (by kernel_rfl) (fun _ _ _ h => h) (Or.inl ⟨by kernel_rfl, (by intro V hS; go_simp)⟩) hHeld ?_
      try simp only [Act.put, zvs, zvt, zvu]
      refine wpAnyH_take (i := 9) (oi := { dst := some 16, op := _, type := _, pos := _, after := _, guard := _ }) (v := .bool vo) rfl (by kernel_rfl) (by kernel_rfl) (by kernel_rfl) (fun _ _ _ h => h) (Or.inl ⟨by kernel_rfl, (by intro V hS; go_simp)⟩) hHeld ?_
      try simp only [Act.put, zvs, zvt, zvu]
      refine wpAnyH_ready (rs := [10]) (by kernel_rfl) (by simp) ?_
      refine AllReadyH.cons (o := { dst := some 5, op := _, type := _, pos := _, after := _, guard := _ }) rfl (fun K hK => ?_) AllReadyH.nil
      go_simp
      have hN := hHeld.1.alloc hHeld.1.size (.cells #[.int .i64 0, .int .i64 0] 42)
      have xa := zd.new w12 42 #[.int .i64 0, .int .i64 0]
      have ga := hHeld.1.size
      clear hHeld
      refine hK.out _ _ (KP _ hN) (fun hHeld => ?_)
      clear hK K hN
      try simp only [Act.put, zvs, zvt, zvu]
      obtain ⟨w13, hV⟩ : ∃ V, V = w12.alloc (.cells #[.int .i64 0, .int .i64 0] 42) := ⟨_, rfl⟩
      rw [<- hV] at hHeld xa ⊢
      clear hV
      have ka := xa.cell
      have fa := xa.frozen
      refine wpAnyH_ready (rs := [11]) (by kernel_rfl) (by simp) ?_
      refine AllReadyH.cons (o := { dst := none, op := _, type := _, pos := _, after := _, guard := _ }) rfl (fun K hK => ?_) AllReadyH.nil
      go_simp
      have hN := (hHeld.1.setCell (p := ⟨w12.heap.size, 0, none⟩) ga (.int .i64 vt)).setCell (p := ⟨w12.heap.size, 1, none⟩) ga (.int .i64 vn)
      clear hHeld ka fa
      refine hK.out _ _ (KP _ hN) (fun hHeld => ?_)
      clear hK K hN
      try simp only [Act.put, zvs, zvt, zvu]
      have xa : zd _ _ _ #[.int .i64 vt, .int .i64 vn] := (xa.set 0 (.int .i64 vt)).set 1 (.int .i64 vn)
      obtain ⟨w14, hV⟩ : ∃ V, V = ((w13.setCell ⟨w12.heap.size, 0, none⟩ (.int .i64 vt)).setCell ⟨w12.heap.size, 1, none⟩ (.int .i64 vn)) := ⟨_, rfl⟩
      rw [<- hV] at hHeld xa ⊢
      clear hV
      refine wpAnyH_take (i := 12) (oi := { dst := some 6, op := _, type := _, pos := _, after := _, guard := _ }) (v := .bool vo) rfl (by kernel_rfl) (by kernel_rfl) (by kernel_rfl) (fun _ _ _ h => h) (Or.inl ⟨by kernel_rfl, (by intro V hS; go_simp)⟩) hHeld ?_
      try simp only [Act.put, zvs, zvt, zvu]
      refine wpAnyH_done (by kernel_rfl) ?_ _
      go_wp2_with fail
      go_meet
      exact ⟨_, rfl, xa, hHeld.1⟩
    · go_simp
      have hN := hHeld.1.alloc hHeld.1.size (.cells #[.int .i64 0, .int .i64 0] 42)
      have xa := zd.new w11 42 #[.int .i64 0, .int .i64 0]
      have ga := hHeld.1.size
      clear hHeld
      refine hK.out _ _ (KP _ hN) (fun hHeld => ?_)
      clear hK K hN
      try simp only [Act.put, zvs, zvt, zvu]
      obtain ⟨w15, hV⟩ : ∃ V, V = w11.alloc (.cells #[.int .i64 0, .int .i64 0] 42) := ⟨_, rfl⟩
      rw [<- hV] at hHeld xa ⊢
      clear hV
      refine wpAnyH_ready (rs := [6]) (by kernel_rfl) (by simp) ?_
      refine AllReadyH.cons (o := { dst := some 14, op := _, type := _, pos := _, after := _, guard := _ }) rfl (fun K hK => ?_) AllReadyH.nil
      go_simp
      go_at_call 53
      refine (zcf _ ws _ (stA N i) w15 rfl (H0.below hHeld.1).wd H0.hn H0.hw HF.out).mono ?_
      rw [hT, hN, hO]
      rintro e w16 ⟨rfl, hb⟩
      have hN := zb (w := w0) hHeld.1 hb
      have xa := xa.below hb xa.lt
      clear hb hHeld
      refine hK.out _ _ (KP _ hN) (fun hHeld => ?_)
      clear hK K hN
      try simp only [Act.put, zvs, zvt, zvu]
      refine wpAnyH_take (i := 7) (oi := { dst := some 7, op := _, type := _, pos := _, after := _, guard := _ }) (v := .tuple #[.agg #[.int .i64 vt, .int .i64 vn], .bool vo]) rfl (by kernel_rfl) (by kernel_rfl) (by kernel_rfl) (fun _ _ _ h => h) (Or.inl ⟨by kernel_rfl, (by intro V hS; go_simp)⟩) hHeld ?_
      try simp only [Act.put, zvs, zvt, zvu]
      refine wpAnyH_take (i := 8) (oi := { dst := some 15, op := _, type := _, pos := _, after := _, guard := _ }) (v := .agg #[.int .i64 vt, .int .i64 vn]) rfl (by kernel_rfl) (by kernel_rfl) (by kernel_rfl) (fun _ _ _ h => h) (Or.inl ⟨by kernel_rfl, (by intro V hS; go_simp)⟩) hHeld ?_
      try simp only [Act.put, zvs, zvt, zvu]
      refine wpAnyH_take (i := 9) (oi := { dst := some 16, op := _, type := _, pos := _, after := _, guard := _ }) (v := .bool vo) rfl (by kernel_rfl) (by kernel_rfl) (by kernel_rfl) (fun _ _ _ h => h) (Or.inl ⟨by kernel_rfl, (by intro V hS; go_simp)⟩) hHeld ?_
      try simp only [Act.put, zvs, zvt, zvu]
      have ka := xa.cell
      have fa := xa.frozen
      refine wpAnyH_ready (rs := [11]) (by kernel_rfl) (by simp) ?_
      refine AllReadyH.cons (o := { dst := none, op := _, type := _, pos := _, after := _, guard := _ }) rfl (fun K hK => ?_) AllReadyH.nil
      go_simp
      have hN := (hHeld.1.setCell (p := ⟨w11.heap.size, 0, none⟩) ga (.int .i64 vt)).setCell (p := ⟨w11.heap.size, 1, none⟩) ga (.int .i64 vn)
      clear hHeld ka fa
      refine hK.out _ _ (KP _ hN) (fun hHeld => ?_)
      clear hK K hN
      try simp only [Act.put, zvs, zvt, zvu]
      have xa : zd _ _ _ #[.int .i64 vt, .int .i64 vn] := (xa.set 0 (.int .i64 vt)).set 1 (.int .i64 vn)
      obtain ⟨w17, hV⟩ : ∃ V, V = ((w16.setCell ⟨w11.heap.size, 0, none⟩ (.int .i64 vt)).setCell ⟨w11.heap.size, 1, none⟩ (.int .i64 vn)) := ⟨_, rfl⟩
      rw [<- hV] at hHeld xa ⊢
      clear hV
      refine wpAnyH_take (i := 12) (oi := { dst := some 6, op := _, type := _, pos := _, after := _, guard := _ }) (v := .bool vo) rfl (by kernel_rfl) (by kernel_rfl) (by kernel_rfl) (fun _ _ _ h => h) (Or.inl ⟨by kernel_rfl, (by intro V hS; go_simp)⟩) hHeld ?_
      try simp only [Act.put, zvs, zvt, zvu]
      refine wpAnyH_done (by kernel_rfl) ?_ _
      go_wp2_with fail
      go_meet
      exact ⟨_, rfl, xa, hHeld.1⟩
  · go_simp
    have hN := hHeld.1.alloc hHeld.1.size (.cells #[.int .i64 0, .int .i64 0] 42)
    have xa := zd.new wd 42 #[.int .i64 0, .int .i64 0]
    have ga := hHeld.1.size
    clear hHeld
    refine hK.out _ _ (KP _ hN) (fun hHeld => ?_)
    clear hK K hN
    try simp only [Act.put, zvs, zvt, zvu]
    obtain ⟨w18, hV⟩ : ∃ V, V = wd.alloc (.cells #[.int .i64 0, .int .i64 0] 42) := ⟨_, rfl⟩
    rw [<- hV] at hHeld xa ⊢
    clear hV
    refine wpAnyH_ready (rs := [5]) (by kernel_rfl) (by simp) ?_
    refine AllReadyH.cons (o := { dst := some 13, op := _, type := _, pos := _, after := _, guard := _ }) rfl (fun K hK => ?_) AllReadyH.nil
    go_simp
    go_at_call 54
    refine (zij a1 L c1 a2 n c2 b3 b4 ws sm toh top cyc sn old cp sr k fa de sh st et en sp ao m co N i x w18 HX.out (H0.below hHeld.1) hi).mono ?_
    rintro e w19 ⟨rfl, hb⟩
    have hN := zb (w := w0) hHeld.1 hb
    have xa := xa.below hb xa.lt
    clear hb hHeld
    refine hK.out _ _ (KP _ hN) (fun hHeld => ?_)
    clear hK K hN
    try simp only [Act.put, zvs, zvt, zvu]
    refine wpAnyH_ready (rs := [6]) (by kernel_rfl) (by simp) ?_
    refine AllReadyH.cons (o := { dst := some 14, op := _, type := _, pos := _, after := _, guard := _ }) rfl (fun K hK => ?_) AllReadyH.nil
    go_simp
    go_at_call 53
    refine (zcf _ ws _ (stA N i) w19 rfl (H0.below hHeld.1).wd H0.hn H0.hw HF.out).mono ?_
    rw [hT, hN, hO]
    rintro e w20 ⟨rfl, hb⟩
    have hN := zb (w := w0) hHeld.1 hb
    have xa := xa.below hb xa.lt
    clear hb hHeld
    refine hK.out _ _ (KP _ hN) (fun hHeld => ?_)
    clear hK K hN
    try simp only [Act.put, zvs, zvt, zvu]
    refine wpAnyH_take (i := 7) (oi := { dst := some 7, op := _, type := _, pos := _, after := _, guard := _ }) (v := .tuple #[.agg #[.int .i64 vt, .int .i64 vn], .bool vo]) rfl (by kernel_rfl) (by kernel_rfl) (by kernel_rfl) (fun _ _ _ h => h) (Or.inl ⟨by kernel_rfl, (by intro V hS; go_simp)⟩) hHeld ?_
    try simp only [Act.put, zvs, zvt, zvu]
    refine wpAnyH_take (i := 8) (oi := { dst := some 15, op := _, type := _, pos := _, after := _, guard := _ }) (v := .agg #[.int .i64 vt, .int .i64 vn]) rfl (by kernel_rfl) (by kernel_rfl) (by kernel_rfl) (fun _ _ _ h => h) (Or.inl ⟨by kernel_rfl, (by intro V hS; go_simp)⟩) hHeld ?_
    try simp only [Act.put, zvs, zvt, zvu]
    refine wpAnyH_take (i := 9) (oi := { dst := some 16, op := _, type := _, pos := _, after := _, guard := _ }) (v := .bool vo) rfl (by kernel_rfl) (by kernel_rfl) (by kernel_rfl) (fun _ _ _ h => h) (Or.inl ⟨by kernel_rfl, (by intro V hS; go_simp)⟩) hHeld ?_
    try simp only [Act.put, zvs, zvt, zvu]
    have ka := xa.cell
    have fa := xa.frozen
    refine wpAnyH_ready (rs := [11]) (by kernel_rfl) (by simp) ?_
    refine AllReadyH.cons (o := { dst := none, op := _, type := _, pos := _, after := _, guard := _ }) rfl (fun K hK => ?_) AllReadyH.nil
    go_simp
    have hN := (hHeld.1.setCell (p := ⟨wd.heap.size, 0, none⟩) ga (.int .i64 vt)).setCell (p := ⟨wd.heap.size, 1, none⟩) ga (.int .i64 vn)
    clear hHeld ka fa
    refine hK.out _ _ (KP _ hN) (fun hHeld => ?_)
    clear hK K hN
    try simp only [Act.put, zvs, zvt, zvu]
    have xa : zd _ _ _ #[.int .i64 vt, .int .i64 vn] := (xa.set 0 (.int .i64 vt)).set 1 (.int .i64 vn)
    obtain ⟨w21, hV⟩ : ∃ V, V = ((w20.setCell ⟨wd.heap.size, 0, none⟩ (.int .i64 vt)).setCell ⟨wd.heap.size, 1, none⟩ (.int .i64 vn)) := ⟨_, rfl⟩
    rw [<- hV] at hHeld xa ⊢
    clear hV
    refine wpAnyH_take (i := 12) (oi := { dst := some 6, op := _, type := _, pos := _, after := _, guard := _ }) (v := .bool vo) rfl (by kernel_rfl) (by kernel_rfl) (by kernel_rfl) (fun _ _ _ h => h) (Or.inl ⟨by kernel_rfl, (by intro V hS; go_simp)⟩) hHeld ?_
    try simp only [Act.put, zvs, zvt, zvu]
    refine wpAnyH_done (by kernel_rfl) ?_ _
    go_wp2_with fail
    go_meet
    exact ⟨_, rfl, xa, hHeld.1⟩
 case rest =>
  obtain ⟨p, rfl, xa, hBc⟩ := hcut
  have k5 := xa.cell
  have X4c := X4.below hBc X4.lt
  have k4 := X4c.cell
  have f4 := X4c.frozen
  have B1 := zb B0 hBc
  have z4 := X4c.lt
  have p0 : wc.cell? ⟨w.heap.size + 1, 0, none⟩ = some (.int .i64 0) := k4 0
  have p1 : wc.cell? ⟨w.heap.size + 1, 1, none⟩ = some (.int .i64 0) := k4 1
  clear H0 XM X4 B0
  go_wp2
  refine bodyPost_ret (v := .agg #[.int .i64 vt, .int .i64 vn]) (by simp [results, Tryz.results32, go_sem, p0, p1]) rfl ⟨by rw [hT, hN], (B1.setCell (p := ⟨w.heap.size + 1, 0, none⟩) (by simp) _).setCell (p := ⟨w.heap.size + 1, 1, none⟩) (by simp) _⟩
theorem zqw {a b a' b' : Int} {q q' : Bool} (h1 : a = a') (h2 : b = b') (h3 : q = q') : Ending.returned (.tuple #[.int .i64 a, .int .i64 b, .bool q]) = .returned (.tuple #[.int .i64 a', .int .i64 b', .bool q']) := by rw [h1, h2, h3]
set_option maxHeartbeats 4000000 in
theorem zm0 (a1 : Option Addr) (L c1 : Nat) (a2 : Option Addr) (n c2 b3 b4 : Nat) (ws : List Int) (sm toh top : Int) (cyc : Bool) (sn old cp sr : Int) (k : Nat) (fa de sh : Bool) (st et en sp : Int) (ao : Option Addr) (m co : Nat) (N b : Nat) (w : World) (H : McV w b3 b4 k ws N) (hb3 : 3 < b) (hb6 : b <= 60) :
 Calls Tryz.prog 14 #[.agg #[.slice a1 L c1, .slice a2 n c2, .slice (some ⟨b3, 0, none⟩) ws.length ws.length, .int .i64 sm, .int .i64 toh, .int .i64 top, .bool cyc, .int .i64 sn, .int .i64 old, .int .i64 cp, .int .i64 sr, .slice (some ⟨b4, 0, none⟩) k k, .bool fa, .bool de, .bool sh, .int .i64 st, .int .i64 et, .int .i64 en, .int .i64 sp, .slice ao m co], .int .i64 b] w fun e w' => e = .returned (.tuple #[.int .i64 (lkL ws N b), .int .i64 (lkH ws N b), .bool (lkB ws N b)]) /\ Below w.heap.size w w' := by
 obtain ⟨i, hi⟩ : ∃ i, i + 3 = b := ⟨b - 3, by omega⟩
 obtain ⟨j, hj⟩ : ∃ j, j + 2 = b := ⟨b - 2, by omega⟩
 have HP : Hid (_ /\ _ /\ _) := zmt (ws := ws) (N := N) hb3 hi hj
 have HI : Hid ((b : Int) - 3 = (i : Int)) := by show (b : Int) - 3 = (i : Int); omega
 have HJ : Hid ((b : Int) - 2 = (j : Int)) := by show (b : Int) - 2 = (j : Int); omega
 have hi9 : i <= 59 := by omega
 have hj9 : j <= 59 := by omega
 have hb3' : (3 : Int) < (b : Int) := by omega
 have hb6' : (b : Int) <= 60 := by omega
 have HV : Hid (McV w b3 b4 k ws N) := H
 clear H hi hj
 go_enter Tryz.func14, Tryz.ntmps14
 go_upto_region 1 with fail
 obtain ⟨w0, hw0⟩ : ∃ V, V = w.alloc (.cells #[.slice a1 L c1, .slice a2 n c2, .slice (some ⟨b3, 0, none⟩) ws.length ws.length, .int .i64 sm, .int .i64 toh, .int .i64 top, .bool cyc, .int .i64 sn, .int .i64 old, .int .i64 cp, .int .i64 sr, .slice (some ⟨b4, 0, none⟩) k k, .bool fa, .bool de, .bool sh, .int .i64 st, .int .i64 et, .int .i64 en, .int .i64 sp, .slice ao m co] 44) := ⟨_, rfl⟩
 have B0 : Below w.heap.size w w0 := by rw [hw0]; exact (Below.refl _ _).alloc (Nat.le_refl _) _
 have XM : zd w0 w.heap.size 44 #[.slice a1 L c1, .slice a2 n c2, .slice (some ⟨b3, 0, none⟩) ws.length ws.length, .int .i64 sm, .int .i64 toh, .int .i64 top, .bool cyc, .int .i64 sn, .int .i64 old, .int .i64 cp, .int .i64 sr, .slice (some ⟨b4, 0, none⟩) k k, .bool fa, .bool de, .bool sh, .int .i64 st, .int .i64 et, .int .i64 en, .int .i64 sp, .slice ao m co] := by rw [hw0]; exact zd.new w _ _
 have H0 := HV.out.below B0
 rw [<- hw0]
 clear hw0
 go_cut [7, 8] from 9 to 16 (fun s7 s8 wc => ∃ p q : Nat, s7 = .pointer (some ⟨p, 0, none⟩) /\ s8 = .pointer (some ⟨q, 0, none⟩) /\ zd wc p 42 #[.int .i64 (rvT ws (stA N i)), .int .i64 (rvN ws (stA N i))] /\ zd wc q 42 #[.int .i64 (rvT ws (stA N j)), .int .i64 (rvN ws (stA N j))] /\ Below w0.heap.size w0 wc)
 case first =>
  have KP : ∀ V, Below w0.heap.size w0 V -> (Below w0.heap.size w0 V /\ zd V w.heap.size 44 #[.slice a1 L c1, .slice a2 n c2, .slice (some ⟨b3, 0, none⟩) ws.length ws.length, .int .i64 sm, .int .i64 toh, .int .i64 top, .bool cyc, .int .i64 sn, .int .i64 old, .int .i64 cp, .int .i64 sr, .slice (some ⟨b4, 0, none⟩) k k, .bool fa, .bool de, .bool sh, .int .i64 st, .int .i64 et, .int .i64 en, .int .i64 sp, .slice ao m co]) := fun V hV => ⟨hV, XM.below hV XM.lt⟩
  refine wp_region_held_drew (S := fun V => Below w0.heap.size w0 V /\ zd V w.heap.size 44 #[.slice a1 L c1, .slice a2 n c2, .slice (some ⟨b3, 0, none⟩) ws.length ws.length, .int .i64 sm, .int .i64 toh, .int .i64 top, .bool cyc, .int .i64 sn, .int .i64 old, .int .i64 cp, .int .i64 sr, .slice (some ⟨b4, 0, none⟩) k k, .bool fa, .bool de, .bool sh, .int .i64 st, .int .i64 et, .int .i64 en, .int .i64 sp, .slice ao m co]) (by kernel_rfl) (KP _ (Below.refl _ _).drew) (fun hHeld => ?_)
  obtain ⟨wd, hwd⟩ : ∃ V, V = w0.drew := ⟨_, rfl⟩
  rw [<- hwd] at hHeld ⊢
  clear hwd
  refine wpAnyH_take (i := 0) (oi := { dst := some 9, op := _, type := _, pos := _, after := _, guard := _ }) (v := .agg #[.slice a1 L c1, .slice a2 n c2, .slice (some ⟨b3, 0, none⟩) ws.length ws.length, .int .i64 sm, .int .i64 toh, .int .i64 top, .bool cyc, .int .i64 sn, .int .i64 old, .int .i64 cp, .int .i64 sr, .slice (some ⟨b4, 0, none⟩) k k, .bool fa, .bool de, .bool sh, .int .i64 st, .int .i64 et, .int .i64 en, .int .i64 sp, .slice ao m co]) rfl (by kernel_rfl) (by kernel_rfl) (by kernel_rfl) (fun _ _ _ h => h) (Or.inl ⟨by kernel_rfl, (fun V hS => zfx rfl (zde rfl hS.2.cell))⟩) hHeld ?_
  try simp only [Act.put, zvs, zvt, zvu]
  refine wpAnyH_take (i := 1) (oi := { dst := some 10, op := _, type := _, pos := _, after := _, guard := _ }) (v := .int .i64 (b : Int)) rfl (by kernel_rfl) (by kernel_rfl) (by kernel_rfl) (fun _ _ _ h => h) (Or.inl ⟨by kernel_rfl, (by intro V hS; go_simp)⟩) hHeld ?_
  try simp only [Act.put, zvs, zvt, zvu]
  refine wpAnyH_take (i := 2) (oi := { dst := some 11, op := _, type := _, pos := _, after := _, guard := _ }) (v := .int .i64 ((b : Int) - 3)) rfl (by kernel_rfl) (by kernel_rfl) (by kernel_rfl) (fun _ _ _ h => h) (Or.inl ⟨by kernel_rfl, (by intro V hS; go_simp; rw [IntKind.wrap_i64]; omega)⟩) hHeld ?_
  try simp only [Act.put, zvs, zvt, zvu]
  refine wpAnyH_take (i := 4) (oi := { dst := some 13, op := _, type := _, pos := _, after := _, guard := _ }) (v := .agg #[.slice a1 L c1, .slice a2 n c2, .slice (some ⟨b3, 0, none⟩) ws.length ws.length, .int .i64 sm, .int .i64 toh, .int .i64 top, .bool cyc, .int .i64 sn, .int .i64 old, .int .i64 cp, .int .i64 sr, .slice (some ⟨b4, 0, none⟩) k k, .bool fa, .bool de, .bool sh, .int .i64 st, .int .i64 et, .int .i64 en, .int .i64 sp, .slice ao m co]) rfl (by kernel_rfl) (by kernel_rfl) (by kernel_rfl) (fun _ _ _ h => h) (Or.inl ⟨by kernel_rfl, (fun V hS => zfx rfl (zde rfl hS.2.cell))⟩) hHeld ?_
  try simp only [Act.put, zvs, zvt, zvu]
  refine wpAnyH_take (i := 5) (oi := { dst := some 14, op := _, type := _, pos := _, after := _, guard := _ }) (v := .int .i64 (b : Int)) rfl (by kernel_rfl) (by kernel_rfl) (by kernel_rfl) (fun _ _ _ h => h) (Or.inl ⟨by kernel_rfl, (by intro V hS; go_simp)⟩) hHeld ?_
  try simp only [Act.put, zvs, zvt, zvu]
  refine wpAnyH_take (i := 6) (oi := { dst := some 15, op := _, type := _, pos := _, after := _, guard := _ }) (v := .int .i64 ((b : Int) - 2)) rfl (by kernel_rfl) (by kernel_rfl) (by kernel_rfl) (fun _ _ _ h => h) (Or.inl ⟨by kernel_rfl, (by intro V hS; go_simp; rw [IntKind.wrap_i64]; omega)⟩) hHeld ?_
  try simp only [Act.put, zvs, zvt, zvu]
  refine wpAnyH_ready (rs := [3, 8, 9]) (by kernel_rfl) (by simp) ?_
  refine AllReadyH.cons (o := { dst := some 12, op := _, type := _, pos := _, after := _, guard := _ }) rfl (fun K hK => ?_) (AllReadyH.cons (o := { dst := some 7, op := _, type := _, pos := _, after := _, guard := _ }) rfl (fun K hK => ?_) (AllReadyH.cons (o := { dst := some 8, op := _, type := _, pos := _, after := _, guard := _ }) rfl (fun K hK => ?_) AllReadyH.nil))
  · go_simp
    go_at_call 32
    refine (zax a1 L c1 a2 n c2 b3 b4 ws sm toh top cyc sn old cp sr k fa de sh st et en sp ao m co N i _ wd HI.out (H0.below hHeld.1) hi9).mono ?_
    rintro e w11 ⟨rfl, hb⟩
    have hN := zb (w := w0) hHeld.1 hb
    clear hb hHeld
    refine hK.out _ _ (KP _ hN) (fun hHeld => ?_)
    clear hK K hN
    try simp only [Act.put, zvs, zvt, zvu]
    refine wpAnyH_ready (rs := [7, 8, 9]) (by kernel_rfl) (by simp) ?_
    refine AllReadyH.cons (o := { dst := some 16, op := _, type := _, pos := _, after := _, guard := _ }) rfl (fun K hK => ?_) (AllReadyH.cons (o := { dst := some 7, op := _, type := _, pos := _, after := _, guard := _ }) rfl (fun K hK => ?_) (AllReadyH.cons (o := { dst := some 8, op := _, type := _, pos := _, after := _, guard := _ }) rfl (fun K hK => ?_) AllReadyH.nil))
    · go_simp
      go_at_call 32
      refine (zax a1 L c1 a2 n c2 b3 b4 ws sm toh top cyc sn old cp sr k fa de sh st et en sp ao m co N j _ w11 HJ.out (H0.below hHeld.1) hj9).mono ?_
      rintro e w12 ⟨rfl, hb⟩
      have hN := zb (w := w0) hHeld.1 hb
      clear hb hHeld
      refine hK.out _ _ (KP _ hN) (fun hHeld => ?_)
      clear hK K hN
      try simp only [Act.put, zvs, zvt, zvu]
      refine wpAnyH_ready (rs := [8, 9]) (by kernel_rfl) (by simp) ?_
      refine AllReadyH.cons (o := { dst := some 7, op := _, type := _, pos := _, after := _, guard := _ }) rfl (fun K hK => ?_) (AllReadyH.cons (o := { dst := some 8, op := _, type := _, pos := _, after := _, guard := _ }) rfl (fun K hK => ?_) AllReadyH.nil)
      · go_simp
        have hN := hHeld.1.alloc hHeld.1.size (.cells #[.int .i64 0, .int .i64 0] 42)
        have xa := zd.new w12 42 #[.int .i64 0, .int .i64 0]
        have ga := hHeld.1.size
        clear hHeld
        refine hK.out _ _ (KP _ hN) (fun hHeld => ?_)
        clear hK K hN
        try simp only [Act.put, zvs, zvt, zvu]
        obtain ⟨w13, hV⟩ : ∃ V, V = w12.alloc (.cells #[.int .i64 0, .int .i64 0] 42) := ⟨_, rfl⟩
        rw [<- hV] at hHeld xa ⊢
        clear hV
        refine wpAnyH_ready (rs := [9]) (by kernel_rfl) (by simp) ?_
        refine AllReadyH.cons (o := { dst := some 8, op := _, type := _, pos := _, after := _, guard := _ }) rfl (fun K hK => ?_) AllReadyH.nil
        go_simp
        have hN := hHeld.1.alloc hHeld.1.size (.cells #[.int .i64 0, .int .i64 0] 42)
        have xb := zd.new w13 42 #[.int .i64 0, .int .i64 0]
        have gb := hHeld.1.size
        have nab := Nat.ne_of_lt xa.lt
        have nba := (Nat.ne_of_lt xa.lt).symm
        have xa := xa.alloc (.cells #[.int .i64 0, .int .i64 0] 42)
        clear hHeld
        refine hK.out _ _ (KP _ hN) (fun hHeld => ?_)
        clear hK K hN
        try simp only [Act.put, zvs, zvt, zvu]
        obtain ⟨w14, hV⟩ : ∃ V, V = w13.alloc (.cells #[.int .i64 0, .int .i64 0] 42) := ⟨_, rfl⟩
        rw [<- hV] at hHeld xa xb ⊢
        clear hV
        have ka := xa.cell
        have fa := xa.frozen
        refine wpAnyH_ready (rs := [10]) (by kernel_rfl) (by simp) ?_
        refine AllReadyH.cons (o := { dst := none, op := _, type := _, pos := _, after := _, guard := _ }) rfl (fun K hK => ?_) AllReadyH.nil
        go_simp
        have hN := (hHeld.1.setCell (p := ⟨w12.heap.size, 0, none⟩) ga (.int .i64 (rvT ws (stA N i)))).setCell (p := ⟨w12.heap.size, 1, none⟩) ga (.int .i64 (rvN ws (stA N i)))
        clear hHeld ka fa
        refine hK.out _ _ (KP _ hN) (fun hHeld => ?_)
        clear hK K hN
        try simp only [Act.put, zvs, zvt, zvu]
        have xa : zd _ _ _ #[.int .i64 (rvT ws (stA N i)), .int .i64 (rvN ws (stA N i))] := (xa.set 0 (.int .i64 (rvT ws (stA N i)))).set 1 (.int .i64 (rvN ws (stA N i)))
        have xb := (xb.other nba 0 (.int .i64 (rvT ws (stA N i)))).other nba 1 (.int .i64 (rvN ws (stA N i)))
        obtain ⟨w15, hV⟩ : ∃ V, V = ((w14.setCell ⟨w12.heap.size, 0, none⟩ (.int .i64 (rvT ws (stA N i)))).setCell ⟨w12.heap.size, 1, none⟩ (.int .i64 (rvN ws (stA N i)))) := ⟨_, rfl⟩
        rw [<- hV] at hHeld xa xb ⊢
        clear hV
        have kb := xb.cell
        have fb := xb.frozen
        refine wpAnyH_ready (rs := [11]) (by kernel_rfl) (by simp) ?_
        refine AllReadyH.cons (o := { dst := none, op := _, type := _, pos := _, after := _, guard := _ }) rfl (fun K hK => ?_) AllReadyH.nil
        go_simp
        have hN := (hHeld.1.setCell (p := ⟨w13.heap.size, 0, none⟩) gb (.int .i64 (rvT ws (stA N j)))).setCell (p := ⟨w13.heap.size, 1, none⟩) gb (.int .i64 (rvN ws (stA N j)))
        clear hHeld kb fb
        refine hK.out _ _ (KP _ hN) (fun hHeld => ?_)
        clear hK K hN
        try simp only [Act.put, zvs, zvt, zvu]
        have xa := (xa.other nab 0 (.int .i64 (rvT ws (stA N j)))).other nab 1 (.int .i64 (rvN ws (stA N j)))
        have xb : zd _ _ _ #[.int .i64 (rvT ws (stA N j)), .int .i64 (rvN ws (stA N j))] := (xb.set 0 (.int .i64 (rvT ws (stA N j)))).set 1 (.int .i64 (rvN ws (stA N j)))
        obtain ⟨w16, hV⟩ : ∃ V, V = ((w15.setCell ⟨w13.heap.size, 0, none⟩ (.int .i64 (rvT ws (stA N j)))).setCell ⟨w13.heap.size, 1, none⟩ (.int .i64 (rvN ws (stA N j)))) := ⟨_, rfl⟩
        rw [<- hV] at hHeld xa xb ⊢
        clear hV
        refine wpAnyH_done (by kernel_rfl) ?_ _
        go_wp2_with fail
        go_meet
        exact ⟨_, _, rfl, rfl, xa, xb, hHeld.1⟩
      · go_simp
        have hN := hHeld.1.alloc hHeld.1.size (.cells #[.int .i64 0, .int .i64 0] 42)
        have xb := zd.new w12 42 #[.int .i64 0, .int .i64 0]
        have gb := hHeld.1.size
        clear hHeld
        refine hK.out _ _ (KP _ hN) (fun hHeld => ?_)
        clear hK K hN
        try simp only [Act.put, zvs, zvt, zvu]
        obtain ⟨w17, hV⟩ : ∃ V, V = w12.alloc (.cells #[.int .i64 0, .int .i64 0] 42) := ⟨_, rfl⟩
        rw [<- hV] at hHeld xb ⊢
        clear hV
        refine wpAnyH_ready (rs := [8]) (by kernel_rfl) (by simp) ?_
        refine AllReadyH.cons (o := { dst := some 7, op := _, type := _, pos := _, after := _, guard := _ }) rfl (fun K hK => ?_) AllReadyH.nil
        go_simp
        have hN := hHeld.1.alloc hHeld.1.size (.cells #[.int .i64 0, .int .i64 0] 42)
        have xa := zd.new w17 42 #[.int .i64 0, .int .i64 0]
        have ga := hHeld.1.size
        have nba := Nat.ne_of_lt xb.lt
        have nab := (Nat.ne_of_lt xb.lt).symm
        have xb := xb.alloc (.cells #[.int .i64 0, .int .i64 0] 42)
        clear hHeld
        refine hK.out _ _ (KP _ hN) (fun hHeld => ?_)
        clear hK K hN
        try simp only [Act.put, zvs, zvt, zvu]
        obtain ⟨w18, hV⟩ : ∃ V, V = w17.alloc (.cells #[.int .i64 0, .int .i64 0] 42) := ⟨_, rfl⟩
        rw [<- hV] at hHeld xb xa ⊢
        clear hV
        have ka := xa.cell
        have fa := xa.frozen
        refine wpAnyH_ready (rs := [10]) (by kernel_rfl) (by simp) ?_
        refine AllReadyH.cons (o := { dst := none, op := _, type := _, pos := _, after := _, guard := _ }) rfl (fun K hK => ?_) AllReadyH.nil
        go_simp
        have hN := (hHeld.1.setCell (p := ⟨w17.heap.size, 0, none⟩) ga (.int .i64 (rvT ws (stA N i)))).setCell (p := ⟨w17.heap.size, 1, none⟩) ga (.int .i64 (rvN ws (stA N i)))
        clear hHeld ka fa
        refine hK.out _ _ (KP _ hN) (fun hHeld => ?_)
        clear hK K hN
        try simp only [Act.put, zvs, zvt, zvu]
        have xb := (xb.other nba 0 (.int .i64 (rvT ws (stA N i)))).other nba 1 (.int .i64 (rvN ws (stA N i)))
        have xa : zd _ _ _ #[.int .i64 (rvT ws (stA N i)), .int .i64 (rvN ws (stA N i))] := (xa.set 0 (.int .i64 (rvT ws (stA N i)))).set 1 (.int .i64 (rvN ws (stA N i)))
        obtain ⟨w19, hV⟩ : ∃ V, V = ((w18.setCell ⟨w17.heap.size, 0, none⟩ (.int .i64 (rvT ws (stA N i)))).setCell ⟨w17.heap.size, 1, none⟩ (.int .i64 (rvN ws (stA N i)))) := ⟨_, rfl⟩
        rw [<- hV] at hHeld xb xa ⊢
        clear hV
        have kb := xb.cell
        have fb := xb.frozen
        refine wpAnyH_ready (rs := [11]) (by kernel_rfl) (by simp) ?_
        refine AllReadyH.cons (o := { dst := none, op := _, type := _, pos := _, after := _, guard := _ }) rfl (fun K hK => ?_) AllReadyH.nil
        go_simp
        have hN := (hHeld.1.setCell (p := ⟨w12.heap.size, 0, none⟩) gb (.int .i64 (rvT ws (stA N j)))).setCell (p := ⟨w12.heap.size, 1, none⟩) gb (.int .i64 (rvN ws (stA N j)))
        clear hHeld kb fb
        refine hK.out _ _ (KP _ hN) (fun hHeld => ?_)
        clear hK K hN
        try simp only [Act.put, zvs, zvt, zvu]
        have xb : zd _ _ _ #[.int .i64 (rvT ws (stA N j)), .int .i64 (rvN ws (stA N j))] := (xb.set 0 (.int .i64 (rvT ws (stA N j)))).set 1 (.int .i64 (rvN ws (stA N j)))
        have xa := (xa.other nab 0 (.int .i64 (rvT ws (stA N j)))).other nab 1 (.int .i64 (rvN ws (stA N j)))
        obtain ⟨w20, hV⟩ : ∃ V, V = ((w19.setCell ⟨w12.heap.size, 0, none⟩ (.int .i64 (rvT ws (stA N j)))).setCell ⟨w12.heap.size, 1, none⟩ (.int .i64 (rvN ws (stA N j)))) := ⟨_, rfl⟩
        rw [<- hV] at hHeld xb xa ⊢
        clear hV
        refine wpAnyH_done (by kernel_rfl) ?_ _
        go_wp2_with fail
        go_meet
        exact ⟨_, _, rfl, rfl, xa, xb, hHeld.1⟩
    · go_simp
      have hN := hHeld.1.alloc hHeld.1.size (.cells #[.int .i64 0, .int .i64 0] 42)
      have xa := zd.new w11 42 #[.int .i64 0, .int .i64 0]
      have ga := hHeld.1.size
      clear hHeld
      refine hK.out _ _ (KP _ hN) (fun hHeld => ?_)
      clear hK K hN
      try simp only [Act.put, zvs, zvt, zvu]
      obtain ⟨w21, hV⟩ : ∃ V, V = w11.alloc (.cells #[.int .i64 0, .int .i64 0] 42) := ⟨_, rfl⟩
      rw [<- hV] at hHeld xa ⊢
      clear hV
      refine wpAnyH_ready (rs := [7, 9]) (by kernel_rfl) (by simp) ?_
      refine AllReadyH.cons (o := { dst := some 16, op := _, type := _, pos := _, after := _, guard := _ }) rfl (fun K hK => ?_) (AllReadyH.cons (o := { dst := some 8, op := _, type := _, pos := _, after := _, guard := _ }) rfl (fun K hK => ?_) AllReadyH.nil)
      · go_simp
        go_at_call 32
        refine (zax a1 L c1 a2 n c2 b3 b4 ws sm toh top cyc sn old cp sr k fa de sh st et en sp ao m co N j _ w21 HJ.out (H0.below hHeld.1) hj9).mono ?_
        rintro e w22 ⟨rfl, hb⟩
        have hN := zb (w := w0) hHeld.1 hb
        have xa := xa.below hb xa.lt
        clear hb hHeld
        refine hK.out _ _ (KP _ hN) (fun hHeld => ?_)
        clear hK K hN
        try simp only [Act.put, zvs, zvt, zvu]
        refine wpAnyH_ready (rs := [9]) (by kernel_rfl) (by simp) ?_
        refine AllReadyH.cons (o := { dst := some 8, op := _, type := _, pos := _, after := _, guard := _ }) rfl (fun K hK => ?_) AllReadyH.nil
        go_simp
        have hN := hHeld.1.alloc hHeld.1.size (.cells #[.int .i64 0, .int .i64 0] 42)
        have xb := zd.new w22 42 #[.int .i64 0, .int .i64 0]
        have gb := hHeld.1.size
        have nab := Nat.ne_of_lt xa.lt
        have nba := (Nat.ne_of_lt xa.lt).symm
        have xa := xa.alloc (.cells #[.int .i64 0, .int .i64 0] 42)
        clear hHeld
        refine hK.out _ _ (KP _ hN) (fun hHeld => ?_)
        clear hK K hN
        try simp only [Act.put, zvs, zvt, zvu]
        obtain ⟨w23, hV⟩ : ∃ V, V = w22.alloc (.cells #[.int .i64 0, .int .i64 0] 42) := ⟨_, rfl⟩
        rw [<- hV] at hHeld xa xb ⊢
        clear hV
        have ka := xa.cell
        have fa := xa.frozen
        refine wpAnyH_ready (rs := [10]) (by kernel_rfl) (by simp) ?_
        refine AllReadyH.cons (o := { dst := none, op := _, type := _, pos := _, after := _, guard := _ }) rfl (fun K hK => ?_) AllReadyH.nil
        go_simp
        have hN := (hHeld.1.setCell (p := ⟨w11.heap.size, 0, none⟩) ga (.int .i64 (rvT ws (stA N i)))).setCell (p := ⟨w11.heap.size, 1, none⟩) ga (.int .i64 (rvN ws (stA N i)))
        clear hHeld ka fa
        refine hK.out _ _ (KP _ hN) (fun hHeld => ?_)
        clear hK K hN
        try simp only [Act.put, zvs, zvt, zvu]
        have xa : zd _ _ _ #[.int .i64 (rvT ws (stA N i)), .int .i64 (rvN ws (stA N i))] := (xa.set 0 (.int .i64 (rvT ws (stA N i)))).set 1 (.int .i64 (rvN ws (stA N i)))
        have xb := (xb.other nba 0 (.int .i64 (rvT ws (stA N i)))).other nba 1 (.int .i64 (rvN ws (stA N i)))
        obtain ⟨w24, hV⟩ : ∃ V, V = ((w23.setCell ⟨w11.heap.size, 0, none⟩ (.int .i64 (rvT ws (stA N i)))).setCell ⟨w11.heap.size, 1, none⟩ (.int .i64 (rvN ws (stA N i)))) := ⟨_, rfl⟩
        rw [<- hV] at hHeld xa xb ⊢
        clear hV
        have kb := xb.cell
        have fb := xb.frozen
        refine wpAnyH_ready (rs := [11]) (by kernel_rfl) (by simp) ?_
        refine AllReadyH.cons (o := { dst := none, op := _, type := _, pos := _, after := _, guard := _ }) rfl (fun K hK => ?_) AllReadyH.nil
        go_simp
        have hN := (hHeld.1.setCell (p := ⟨w22.heap.size, 0, none⟩) gb (.int .i64 (rvT ws (stA N j)))).setCell (p := ⟨w22.heap.size, 1, none⟩) gb (.int .i64 (rvN ws (stA N j)))
        clear hHeld kb fb
        refine hK.out _ _ (KP _ hN) (fun hHeld => ?_)
        clear hK K hN
        try simp only [Act.put, zvs, zvt, zvu]
        have xa := (xa.other nab 0 (.int .i64 (rvT ws (stA N j)))).other nab 1 (.int .i64 (rvN ws (stA N j)))
        have xb : zd _ _ _ #[.int .i64 (rvT ws (stA N j)), .int .i64 (rvN ws (stA N j))] := (xb.set 0 (.int .i64 (rvT ws (stA N j)))).set 1 (.int .i64 (rvN ws (stA N j)))
        obtain ⟨w25, hV⟩ : ∃ V, V = ((w24.setCell ⟨w22.heap.size, 0, none⟩ (.int .i64 (rvT ws (stA N j)))).setCell ⟨w22.heap.size, 1, none⟩ (.int .i64 (rvN ws (stA N j)))) := ⟨_, rfl⟩
        rw [<- hV] at hHeld xa xb ⊢
        clear hV
        refine wpAnyH_done (by kernel_rfl) ?_ _
        go_wp2_with fail
        go_meet
        exact ⟨_, _, rfl, rfl, xa, xb, hHeld.1⟩
      · go_simp
        have hN := hHeld.1.alloc hHeld.1.size (.cells #[.int .i64 0, .int .i64 0] 42)
        have xb := zd.new w21 42 #[.int .i64 0, .int .i64 0]
        have gb := hHeld.1.size
        have nab := Nat.ne_of_lt xa.lt
        have nba := (Nat.ne_of_lt xa.lt).symm
        have xa := xa.alloc (.cells #[.int .i64 0, .int .i64 0] 42)
        clear hHeld
        refine hK.out _ _ (KP _ hN) (fun hHeld => ?_)
        clear hK K hN
        try simp only [Act.put, zvs, zvt, zvu]
        obtain ⟨w26, hV⟩ : ∃ V, V = w21.alloc (.cells #[.int .i64 0, .int .i64 0] 42) := ⟨_, rfl⟩
        rw [<- hV] at hHeld xa xb ⊢
        clear hV
        refine wpAnyH_ready (rs := [7]) (by kernel_rfl) (by simp) ?_
        refine AllReadyH.cons (o := { dst := some 16, op := _, type := _, pos := _, after := _, guard := _ }) rfl (fun K hK => ?_) AllReadyH.nil
        go_simp
        go_at_call 32
        refine (zax a1 L c1 a2 n c2 b3 b4 ws sm toh top cyc sn old cp sr k fa de sh st et en sp ao m co N j _ w26 HJ.out (H0.below hHeld.1) hj9).mono ?_
        rintro e w27 ⟨rfl, hb⟩
        have hN := zb (w := w0) hHeld.1 hb
        have xa := xa.below hb xa.lt
        have xb := xb.below hb xb.lt
        clear hb hHeld
        refine hK.out _ _ (KP _ hN) (fun hHeld => ?_)
        clear hK K hN
        try simp only [Act.put, zvs, zvt, zvu]
        have ka := xa.cell
        have fa := xa.frozen
        refine wpAnyH_ready (rs := [10]) (by kernel_rfl) (by simp) ?_
        refine AllReadyH.cons (o := { dst := none, op := _, type := _, pos := _, after := _, guard := _ }) rfl (fun K hK => ?_) AllReadyH.nil
        go_simp
        have hN := (hHeld.1.setCell (p := ⟨w11.heap.size, 0, none⟩) ga (.int .i64 (rvT ws (stA N i)))).setCell (p := ⟨w11.heap.size, 1, none⟩) ga (.int .i64 (rvN ws (stA N i)))
        clear hHeld ka fa
        refine hK.out _ _ (KP _ hN) (fun hHeld => ?_)
        clear hK K hN
        try simp only [Act.put, zvs, zvt, zvu]
        have xa : zd _ _ _ #[.int .i64 (rvT ws (stA N i)), .int .i64 (rvN ws (stA N i))] := (xa.set 0 (.int .i64 (rvT ws (stA N i)))).set 1 (.int .i64 (rvN ws (stA N i)))
        have xb := (xb.other nba 0 (.int .i64 (rvT ws (stA N i)))).other nba 1 (.int .i64 (rvN ws (stA N i)))
        obtain ⟨w28, hV⟩ : ∃ V, V = ((w27.setCell ⟨w11.heap.size, 0, none⟩ (.int .i64 (rvT ws (stA N i)))).setCell ⟨w11.heap.size, 1, none⟩ (.int .i64 (rvN ws (stA N i)))) := ⟨_, rfl⟩
        rw [<- hV] at hHeld xa xb ⊢
        clear hV
        have kb := xb.cell
        have fb := xb.frozen
        refine wpAnyH_ready (rs := [11]) (by kernel_rfl) (by simp) ?_
        refine AllReadyH.cons (o := { dst := none, op := _, type := _, pos := _, after := _, guard := _ }) rfl (fun K hK => ?_) AllReadyH.nil
        go_simp
        have hN := (hHeld.1.setCell (p := ⟨w21.heap.size, 0, none⟩) gb (.int .i64 (rvT ws (stA N j)))).setCell (p := ⟨w21.heap.size, 1, none⟩) gb (.int .i64 (rvN ws (stA N j)))
        clear hHeld kb fb
        refine hK.out _ _ (KP _ hN) (fun hHeld => ?_)
        clear hK K hN
        try simp only [Act.put, zvs, zvt, zvu]
        have xa := (xa.other nab 0 (.int .i64 (rvT ws (stA N j)))).other nab 1 (.int .i64 (rvN ws (stA N j)))
        have xb : zd _ _ _ #[.int .i64 (rvT ws (stA N j)), .int .i64 (rvN ws (stA N j))] := (xb.set 0 (.int .i64 (rvT ws (stA N j)))).set 1 (.int .i64 (rvN ws (stA N j)))
        obtain ⟨w29, hV⟩ : ∃ V, V = ((w28.setCell ⟨w21.heap.size, 0, none⟩ (.int .i64 (rvT ws (stA N j)))).setCell ⟨w21.heap.size, 1, none⟩ (.int .i64 (rvN ws (stA N j)))) := ⟨_, rfl⟩
        rw [<- hV] at hHeld xa xb ⊢
        clear hV
        refine wpAnyH_done (by kernel_rfl) ?_ _
        go_wp2_with fail
        go_meet
        exact ⟨_, _, rfl, rfl, xa, xb, hHeld.1⟩
    · go_simp
      have hN := hHeld.1.alloc hHeld.1.size (.cells #[.int .i64 0, .int .i64 0] 42)
      have xb := zd.new w11 42 #[.int .i64 0, .int .i64 0]
      have gb := hHeld.1.size
      clear hHeld
      refine hK.out _ _ (KP _ hN) (fun hHeld => ?_)
      clear hK K hN
      try simp only [Act.put, zvs, zvt, zvu]
      obtain ⟨w30, hV⟩ : ∃ V, V = w11.alloc (.cells #[.int .i64 0, .int .i64 0] 42) := ⟨_, rfl⟩
      rw [<- hV] at hHeld xb ⊢
      clear hV
      refine wpAnyH_ready (rs := [7, 8]) (by kernel_rfl) (by simp) ?_
      refine AllReadyH.cons (o := { dst := some 16, op := _, type := _, pos := _, after := _, guard := _ }) rfl (fun K hK => ?_) (AllReadyH.cons (o := { dst := some 7, op := _, type := _, pos := _, after := _, guard := _ }) rfl (fun K hK => ?_) AllReadyH.nil)
      · go_simp
        go_at_call 32
        refine (zax a1 L c1 a2 n c2 b3 b4 ws sm toh top cyc sn old cp sr k fa de sh st et en sp ao m co N j _ w30 HJ.out (H0.below hHeld.1) hj9).mono ?_
        rintro e w31 ⟨rfl, hb⟩
        have hN := zb (w := w0) hHeld.1 hb
        have xb := xb.below hb xb.lt
        clear hb hHeld
        refine hK.out _ _ (KP _ hN) (fun hHeld => ?_)
        clear hK K hN
        try simp only [Act.put, zvs, zvt, zvu]
        refine wpAnyH_ready (rs := [8]) (by kernel_rfl) (by simp) ?_
        refine AllReadyH.cons (o := { dst := some 7, op := _, type := _, pos := _, after := _, guard := _ }) rfl (fun K hK => ?_) AllReadyH.nil
        go_simp
        have hN := hHeld.1.alloc hHeld.1.size (.cells #[.int .i64 0, .int .i64 0] 42)
        have xa := zd.new w31 42 #[.int .i64 0, .int .i64 0]
        have ga := hHeld.1.size
        have nba := Nat.ne_of_lt xb.lt
        have nab := (Nat.ne_of_lt xb.lt).symm
        have xb := xb.alloc (.cells #[.int .i64 0, .int .i64 0] 42)
        clear hHeld
        refine hK.out _ _ (KP _ hN) (fun hHeld => ?_)
        clear hK K hN
        try simp only [Act.put, zvs, zvt, zvu]
        obtain ⟨w32, hV⟩ : ∃ V, V = w31.alloc (.cells #[.int .i64 0, .int .i64 0] 42) := ⟨_, rfl⟩
        rw [<- hV] at hHeld xb xa ⊢
        clear hV
        have ka := xa.cell
        have fa := xa.frozen
        refine wpAnyH_ready (rs := [10]) (by kernel_rfl) (by simp) ?_
        refine AllReadyH.cons (o := { dst := none, op := _, type := _, pos := _, after := _, guard := _ }) rfl (fun K hK => ?_) AllReadyH.nil
        go_simp
        have hN := (hHeld.1.setCell (p := ⟨w31.heap.size, 0, none⟩) ga (.int .i64 (rvT ws (stA N i)))).setCell (p := ⟨w31.heap.size, 1, none⟩) ga (.int .i64 (rvN ws (stA N i)))
        clear hHeld ka fa
        refine hK.out _ _ (KP _ hN) (fun hHeld => ?_)
        clear hK K hN
        try simp only [Act.put, zvs, zvt, zvu]
        have xb := (xb.other nba 0 (.int .i64 (rvT ws (stA N i)))).other nba 1 (.int .i64 (rvN ws (stA N i)))
        have xa : zd _ _ _ #[.int .i64 (rvT ws (stA N i)), .int .i64 (rvN ws (stA N i))] := (xa.set 0 (.int .i64 (rvT ws (stA N i)))).set 1 (.int .i64 (rvN ws (stA N i)))
        obtain ⟨w33, hV⟩ : ∃ V, V = ((w32.setCell ⟨w31.heap.size, 0, none⟩ (.int .i64 (rvT ws (stA N i)))).setCell ⟨w31.heap.size, 1, none⟩ (.int .i64 (rvN ws (stA N i)))) := ⟨_, rfl⟩
        rw [<- hV] at hHeld xb xa ⊢
        clear hV
        have kb := xb.cell
        have fb := xb.frozen
        refine wpAnyH_ready (rs := [11]) (by kernel_rfl) (by simp) ?_
        refine AllReadyH.cons (o := { dst := none, op := _, type := _, pos := _, after := _, guard := _ }) rfl (fun K hK => ?_) AllReadyH.nil
        go_simp
        have hN := (hHeld.1.setCell (p := ⟨w11.heap.size, 0, none⟩) gb (.int .i64 (rvT ws (stA N j)))).setCell (p := ⟨w11.heap.size, 1, none⟩) gb (.int .i64 (rvN ws (stA N j)))
        clear hHeld kb fb
        refine hK.out _ _ (KP _ hN) (fun hHeld => ?_)
        clear hK K hN
        try simp only [Act.put, zvs, zvt, zvu]
        have xb : zd _ _ _ #[.int .i64 (rvT ws (stA N j)), .int .i64 (rvN ws (stA N j))] := (xb.set 0 (.int .i64 (rvT ws (stA N j)))).set 1 (.int .i64 (rvN ws (stA N j)))
        have xa := (xa.other nab 0 (.int .i64 (rvT ws (stA N j)))).other nab 1 (.int .i64 (rvN ws (stA N j)))
        obtain ⟨w34, hV⟩ : ∃ V, V = ((w33.setCell ⟨w11.heap.size, 0, none⟩ (.int .i64 (rvT ws (stA N j)))).setCell ⟨w11.heap.size, 1, none⟩ (.int .i64 (rvN ws (stA N j)))) := ⟨_, rfl⟩
        rw [<- hV] at hHeld xb xa ⊢
        clear hV
        refine wpAnyH_done (by kernel_rfl) ?_ _
        go_wp2_with fail
        go_meet
        exact ⟨_, _, rfl, rfl, xa, xb, hHeld.1⟩
      · go_simp
        have hN := hHeld.1.alloc hHeld.1.size (.cells #[.int .i64 0, .int .i64 0] 42)
        have xa := zd.new w30 42 #[.int .i64 0, .int .i64 0]
        have ga := hHeld.1.size
        have nba := Nat.ne_of_lt xb.lt
        have nab := (Nat.ne_of_lt xb.lt).symm
        have xb := xb.alloc (.cells #[.int .i64 0, .int .i64 0] 42)
        clear hHeld
        refine hK.out _ _ (KP _ hN) (fun hHeld => ?_)
        clear hK K hN
        try simp only [Act.put, zvs, zvt, zvu]
        obtain ⟨w35, hV⟩ : ∃ V, V = w30.alloc (.cells #[.int .i64 0, .int .i64 0] 42) := ⟨_, rfl⟩
        rw [<- hV] at hHeld xb xa ⊢
        clear hV
        refine wpAnyH_ready (rs := [7]) (by kernel_rfl) (by simp) ?_
        refine AllReadyH.cons (o := { dst := some 16, op := _, type := _, pos := _, after := _, guard := _ }) rfl (fun K hK => ?_) AllReadyH.nil
        go_simp
        go_at_call 32
        refine (zax a1 L c1 a2 n c2 b3 b4 ws sm toh top cyc sn old cp sr k fa de sh st et en sp ao m co N j _ w35 HJ.out (H0.below hHeld.1) hj9).mono ?_
        rintro e w36 ⟨rfl, hb⟩
        have hN := zb (w := w0) hHeld.1 hb
        have xb := xb.below hb xb.lt
        have xa := xa.below hb xa.lt
        clear hb hHeld
        refine hK.out _ _ (KP _ hN) (fun hHeld => ?_)
        clear hK K hN
        try simp only [Act.put, zvs, zvt, zvu]
        have ka := xa.cell
        have fa := xa.frozen
        refine wpAnyH_ready (rs := [10]) (by kernel_rfl) (by simp) ?_
        refine AllReadyH.cons (o := { dst := none, op := _, type := _, pos := _, after := _, guard := _ }) rfl (fun K hK => ?_) AllReadyH.nil
        go_simp
        have hN := (hHeld.1.setCell (p := ⟨w30.heap.size, 0, none⟩) ga (.int .i64 (rvT ws (stA N i)))).setCell (p := ⟨w30.heap.size, 1, none⟩) ga (.int .i64 (rvN ws (stA N i)))
        clear hHeld ka fa
        refine hK.out _ _ (KP _ hN) (fun hHeld => ?_)
        clear hK K hN
        try simp only [Act.put, zvs, zvt, zvu]
        have xb := (xb.other nba 0 (.int .i64 (rvT ws (stA N i)))).other nba 1 (.int .i64 (rvN ws (stA N i)))
        have xa : zd _ _ _ #[.int .i64 (rvT ws (stA N i)), .int .i64 (rvN ws (stA N i))] := (xa.set 0 (.int .i64 (rvT ws (stA N i)))).set 1 (.int .i64 (rvN ws (stA N i)))
        obtain ⟨w37, hV⟩ : ∃ V, V = ((w36.setCell ⟨w30.heap.size, 0, none⟩ (.int .i64 (rvT ws (stA N i)))).setCell ⟨w30.heap.size, 1, none⟩ (.int .i64 (rvN ws (stA N i)))) := ⟨_, rfl⟩
        rw [<- hV] at hHeld xb xa ⊢
        clear hV
        have kb := xb.cell
        have fb := xb.frozen
        refine wpAnyH_ready (rs := [11]) (by kernel_rfl) (by simp) ?_
        refine AllReadyH.cons (o := { dst := none, op := _, type := _, pos := _, after := _, guard := _ }) rfl (fun K hK => ?_) AllReadyH.nil
        go_simp
        have hN := (hHeld.1.setCell (p := ⟨w11.heap.size, 0, none⟩) gb (.int .i64 (rvT ws (stA N j)))).setCell (p := ⟨w11.heap.size, 1, none⟩) gb (.int .i64 (rvN ws (stA N j)))
        clear hHeld kb fb
        refine hK.out _ _ (KP _ hN) (fun hHeld => ?_)
        clear hK K hN
        try simp only [Act.put, zvs, zvt, zvu]
        have xb : zd _ _ _ #[.int .i64 (rvT ws (stA N j)), .int .i64 (rvN ws (stA N j))] := (xb.set 0 (.int .i64 (rvT ws (stA N j)))).set 1 (.int .i64 (rvN ws (stA N j)))
        have xa := (xa.other nab 0 (.int .i64 (rvT ws (stA N j)))).other nab 1 (.int .i64 (rvN ws (stA N j)))
        obtain ⟨w38, hV⟩ : ∃ V, V = ((w37.setCell ⟨w11.heap.size, 0, none⟩ (.int .i64 (rvT ws (stA N j)))).setCell ⟨w11.heap.size, 1, none⟩ (.int .i64 (rvN ws (stA N j)))) := ⟨_, rfl⟩
        rw [<- hV] at hHeld xb xa ⊢
        clear hV
        refine wpAnyH_done (by kernel_rfl) ?_ _
        go_wp2_with fail
        go_meet
        exact ⟨_, _, rfl, rfl, xa, xb, hHeld.1⟩
  · go_simp
    have hN := hHeld.1.alloc hHeld.1.size (.cells #[.int .i64 0, .int .i64 0] 42)
    have xa := zd.new wd 42 #[.int .i64 0, .int .i64 0]
    have ga := hHeld.1.size
    clear hHeld
    refine hK.out _ _ (KP _ hN) (fun hHeld => ?_)
    clear hK K hN
    try simp only [Act.put, zvs, zvt, zvu]
    obtain ⟨w39, hV⟩ : ∃ V, V = wd.alloc (.cells #[.int .i64 0, .int .i64 0] 42) := ⟨_, rfl⟩
    rw [<- hV] at hHeld xa ⊢
    clear hV
    refine wpAnyH_ready (rs := [3, 9]) (by kernel_rfl) (by simp) ?_
    refine AllReadyH.cons (o := { dst := some 12, op := _, type := _, pos := _, after := _, guard := _ }) rfl (fun K hK => ?_) (AllReadyH.cons (o := { dst := some 8, op := _, type := _, pos := _, after := _, guard := _ }) rfl (fun K hK => ?_) AllReadyH.nil)
    · go_simp
      go_at_call 32
      refine (zax a1 L c1 a2 n c2 b3 b4 ws sm toh top cyc sn old cp sr k fa de sh st et en sp ao m co N i _ w39 HI.out (H0.below hHeld.1) hi9).mono ?_
      rintro e w40 ⟨rfl, hb⟩
      have hN := zb (w := w0) hHeld.1 hb
      have xa := xa.below hb xa.lt
      clear hb hHeld
      refine hK.out _ _ (KP _ hN) (fun hHeld => ?_)
      clear hK K hN
      try simp only [Act.put, zvs, zvt, zvu]
      refine wpAnyH_ready (rs := [7, 9]) (by kernel_rfl) (by simp) ?_
      refine AllReadyH.cons (o := { dst := some 16, op := _, type := _, pos := _, after := _, guard := _ }) rfl (fun K hK => ?_) (AllReadyH.cons (o := { dst := some 8, op := _, type := _, pos := _, after := _, guard := _ }) rfl (fun K hK => ?_) AllReadyH.nil)
      · go_simp
        go_at_call 32
        refine (zax a1 L c1 a2 n c2 b3 b4 ws sm toh top cyc sn old cp sr k fa de sh st et en sp ao m co N j _ w40 HJ.out (H0.below hHeld.1) hj9).mono ?_
        rintro e w41 ⟨rfl, hb⟩
        have hN := zb (w := w0) hHeld.1 hb
        have xa := xa.below hb xa.lt
        clear hb hHeld
        refine hK.out _ _ (KP _ hN) (fun hHeld => ?_)
        clear hK K hN
        try simp only [Act.put, zvs, zvt, zvu]
        refine wpAnyH_ready (rs := [9]) (by kernel_rfl) (by simp) ?_
        refine AllReadyH.cons (o := { dst := some 8, op := _, type := _, pos := _, after := _, guard := _ }) rfl (fun K hK => ?_) AllReadyH.nil
        go_simp
        have hN := hHeld.1.alloc hHeld.1.size (.cells #[.int .i64 0, .int .i64 0] 42)
        have xb := zd.new w41 42 #[.int .i64 0, .int .i64 0]
        have gb := hHeld.1.size
        have nab := Nat.ne_of_lt xa.lt
        have nba := (Nat.ne_of_lt xa.lt).symm
        have xa := xa.alloc (.cells #[.int .i64 0, .int .i64 0] 42)
        clear hHeld
        refine hK.out _ _ (KP _ hN) (fun hHeld => ?_)
        clear hK K hN
        try simp only [Act.put, zvs, zvt, zvu]
        obtain ⟨w42, hV⟩ : ∃ V, V = w41.alloc (.cells #[.int .i64 0, .int .i64 0] 42) := ⟨_, rfl⟩
        rw [<- hV] at hHeld xa xb ⊢
        clear hV
        have ka := xa.cell
        have fa := xa.frozen
        refine wpAnyH_ready (rs := [10]) (by kernel_rfl) (by simp) ?_
        refine AllReadyH.cons (o := { dst := none, op := _, type := _, pos := _, after := _, guard := _ }) rfl (fun K hK => ?_) AllReadyH.nil
        go_simp
        have hN := (hHeld.1.setCell (p := ⟨wd.heap.size, 0, none⟩) ga (.int .i64 (rvT ws (stA N i)))).setCell (p := ⟨wd.heap.size, 1, none⟩) ga (.int .i64 (rvN ws (stA N i)))
        clear hHeld ka fa
        refine hK.out _ _ (KP _ hN) (fun hHeld => ?_)
        clear hK K hN
        try simp only [Act.put, zvs, zvt, zvu]
        have xa : zd _ _ _ #[.int .i64 (rvT ws (stA N i)), .int .i64 (rvN ws (stA N i))] := (xa.set 0 (.int .i64 (rvT ws (stA N i)))).set 1 (.int .i64 (rvN ws (stA N i)))
        have xb := (xb.other nba 0 (.int .i64 (rvT ws (stA N i)))).other nba 1 (.int .i64 (rvN ws (stA N i)))
        obtain ⟨w43, hV⟩ : ∃ V, V = ((w42.setCell ⟨wd.heap.size, 0, none⟩ (.int .i64 (rvT ws (stA N i)))).setCell ⟨wd.heap.size, 1, none⟩ (.int .i64 (rvN ws (stA N i)))) := ⟨_, rfl⟩
        rw [<- hV] at hHeld xa xb ⊢
        clear hV
        have kb := xb.cell
        have fb := xb.frozen
        refine wpAnyH_ready (rs := [11]) (by kernel_rfl) (by simp) ?_
        refine AllReadyH.cons (o := { dst := none, op := _, type := _, pos := _, after := _, guard := _ }) rfl (fun K hK => ?_) AllReadyH.nil
        go_simp
        have hN := (hHeld.1.setCell (p := ⟨w41.heap.size, 0, none⟩) gb (.int .i64 (rvT ws (stA N j)))).setCell (p := ⟨w41.heap.size, 1, none⟩) gb (.int .i64 (rvN ws (stA N j)))
        clear hHeld kb fb
        refine hK.out _ _ (KP _ hN) (fun hHeld => ?_)
        clear hK K hN
        try simp only [Act.put, zvs, zvt, zvu]
        have xa := (xa.other nab 0 (.int .i64 (rvT ws (stA N j)))).other nab 1 (.int .i64 (rvN ws (stA N j)))
        have xb : zd _ _ _ #[.int .i64 (rvT ws (stA N j)), .int .i64 (rvN ws (stA N j))] := (xb.set 0 (.int .i64 (rvT ws (stA N j)))).set 1 (.int .i64 (rvN ws (stA N j)))
        obtain ⟨w44, hV⟩ : ∃ V, V = ((w43.setCell ⟨w41.heap.size, 0, none⟩ (.int .i64 (rvT ws (stA N j)))).setCell ⟨w41.heap.size, 1, none⟩ (.int .i64 (rvN ws (stA N j)))) := ⟨_, rfl⟩
        rw [<- hV] at hHeld xa xb ⊢
        clear hV
        refine wpAnyH_done (by kernel_rfl) ?_ _
        go_wp2_with fail
        go_meet
        exact ⟨_, _, rfl, rfl, xa, xb, hHeld.1⟩
      · go_simp
        have hN := hHeld.1.alloc hHeld.1.size (.cells #[.int .i64 0, .int .i64 0] 42)
        have xb := zd.new w40 42 #[.int .i64 0, .int .i64 0]
        have gb := hHeld.1.size
        have nab := Nat.ne_of_lt xa.lt
        have nba := (Nat.ne_of_lt xa.lt).symm
        have xa := xa.alloc (.cells #[.int .i64 0, .int .i64 0] 42)
        clear hHeld
        refine hK.out _ _ (KP _ hN) (fun hHeld => ?_)
        clear hK K hN
        try simp only [Act.put, zvs, zvt, zvu]
        obtain ⟨w45, hV⟩ : ∃ V, V = w40.alloc (.cells #[.int .i64 0, .int .i64 0] 42) := ⟨_, rfl⟩
        rw [<- hV] at hHeld xa xb ⊢
        clear hV
        refine wpAnyH_ready (rs := [7]) (by kernel_rfl) (by simp) ?_
        refine AllReadyH.cons (o := { dst := some 16, op := _, type := _, pos := _, after := _, guard := _ }) rfl (fun K hK => ?_) AllReadyH.nil
        go_simp
        go_at_call 32
        refine (zax a1 L c1 a2 n c2 b3 b4 ws sm toh top cyc sn old cp sr k fa de sh st et en sp ao m co N j _ w45 HJ.out (H0.below hHeld.1) hj9).mono ?_
        rintro e w46 ⟨rfl, hb⟩
        have hN := zb (w := w0) hHeld.1 hb
        have xa := xa.below hb xa.lt
        have xb := xb.below hb xb.lt
        clear hb hHeld
        refine hK.out _ _ (KP _ hN) (fun hHeld => ?_)
        clear hK K hN
        try simp only [Act.put, zvs, zvt, zvu]
        have ka := xa.cell
        have fa := xa.frozen
        refine wpAnyH_ready (rs := [10]) (by kernel_rfl) (by simp) ?_
        refine AllReadyH.cons (o := { dst := none, op := _, type := _, pos := _, after := _, guard := _ }) rfl (fun K hK => ?_) AllReadyH.nil
        go_simp
        have hN := (hHeld.1.setCell (p := ⟨wd.heap.size, 0, none⟩) ga (.int .i64 (rvT ws (stA N i)))).setCell (p := ⟨wd.heap.size, 1, none⟩) ga (.int .i64 (rvN ws (stA N i)))
        clear hHeld ka fa
        refine hK.out _ _ (KP _ hN) (fun hHeld => ?_)
        clear hK K hN
        try simp only [Act.put, zvs, zvt, zvu]
        have xa : zd _ _ _ #[.int .i64 (rvT ws (stA N i)), .int .i64 (rvN ws (stA N i))] := (xa.set 0 (.int .i64 (rvT ws (stA N i)))).set 1 (.int .i64 (rvN ws (stA N i)))
        have xb := (xb.other nba 0 (.int .i64 (rvT ws (stA N i)))).other nba 1 (.int .i64 (rvN ws (stA N i)))
        obtain ⟨w47, hV⟩ : ∃ V, V = ((w46.setCell ⟨wd.heap.size, 0, none⟩ (.int .i64 (rvT ws (stA N i)))).setCell ⟨wd.heap.size, 1, none⟩ (.int .i64 (rvN ws (stA N i)))) := ⟨_, rfl⟩
        rw [<- hV] at hHeld xa xb ⊢
        clear hV
        have kb := xb.cell
        have fb := xb.frozen
        refine wpAnyH_ready (rs := [11]) (by kernel_rfl) (by simp) ?_
        refine AllReadyH.cons (o := { dst := none, op := _, type := _, pos := _, after := _, guard := _ }) rfl (fun K hK => ?_) AllReadyH.nil
        go_simp
        have hN := (hHeld.1.setCell (p := ⟨w40.heap.size, 0, none⟩) gb (.int .i64 (rvT ws (stA N j)))).setCell (p := ⟨w40.heap.size, 1, none⟩) gb (.int .i64 (rvN ws (stA N j)))
        clear hHeld kb fb
        refine hK.out _ _ (KP _ hN) (fun hHeld => ?_)
        clear hK K hN
        try simp only [Act.put, zvs, zvt, zvu]
        have xa := (xa.other nab 0 (.int .i64 (rvT ws (stA N j)))).other nab 1 (.int .i64 (rvN ws (stA N j)))
        have xb : zd _ _ _ #[.int .i64 (rvT ws (stA N j)), .int .i64 (rvN ws (stA N j))] := (xb.set 0 (.int .i64 (rvT ws (stA N j)))).set 1 (.int .i64 (rvN ws (stA N j)))
        obtain ⟨w48, hV⟩ : ∃ V, V = ((w47.setCell ⟨w40.heap.size, 0, none⟩ (.int .i64 (rvT ws (stA N j)))).setCell ⟨w40.heap.size, 1, none⟩ (.int .i64 (rvN ws (stA N j)))) := ⟨_, rfl⟩
        rw [<- hV] at hHeld xa xb ⊢
        clear hV
        refine wpAnyH_done (by kernel_rfl) ?_ _
        go_wp2_with fail
        go_meet
        exact ⟨_, _, rfl, rfl, xa, xb, hHeld.1⟩
    · go_simp
      have hN := hHeld.1.alloc hHeld.1.size (.cells #[.int .i64 0, .int .i64 0] 42)
      have xb := zd.new w39 42 #[.int .i64 0, .int .i64 0]
      have gb := hHeld.1.size
      have nab := Nat.ne_of_lt xa.lt
      have nba := (Nat.ne_of_lt xa.lt).symm
      have xa := xa.alloc (.cells #[.int .i64 0, .int .i64 0] 42)
      clear hHeld
      refine hK.out _ _ (KP _ hN) (fun hHeld => ?_)
      clear hK K hN
      try simp only [Act.put, zvs, zvt, zvu]
      obtain ⟨w49, hV⟩ : ∃ V, V = w39.alloc (.cells #[.int .i64 0, .int .i64 0] 42) := ⟨_, rfl⟩
      rw [<- hV] at hHeld xa xb ⊢
      clear hV
      refine wpAnyH_ready (rs := [3]) (by kernel_rfl) (by simp) ?_
      refine AllReadyH.cons (o := { dst := some 12, op := _, type := _, pos := _, after := _, guard := _ }) rfl (fun K hK => ?_) AllReadyH.nil
      go_simp
      go_at_call 32
      refine (zax a1 L c1 a2 n c2 b3 b4 ws sm toh top cyc sn old cp sr k fa de sh st et en sp ao m co N i _ w49 HI.out (H0.below hHeld.1) hi9).mono ?_
      rintro e w50 ⟨rfl, hb⟩
      have hN := zb (w := w0) hHeld.1 hb
      have xa := xa.below hb xa.lt
      have xb := xb.below hb xb.lt
      clear hb hHeld
      refine hK.out _ _ (KP _ hN) (fun hHeld => ?_)
      clear hK K hN
      try simp only [Act.put, zvs, zvt, zvu]
      refine wpAnyH_ready (rs := [7]) (by kernel_rfl) (by simp) ?_
      refine AllReadyH.cons (o := { dst := some 16, op := _, type := _, pos := _, after := _, guard := _ }) rfl (fun K hK => ?_) AllReadyH.nil
      go_simp
      go_at_call 32
      refine (zax a1 L c1 a2 n c2 b3 b4 ws sm toh top cyc sn old cp sr k fa de sh st et en sp ao m co N j _ w50 HJ.out (H0.below hHeld.1) hj9).mono ?_
      rintro e w51 ⟨rfl, hb⟩
      have hN := zb (w := w0) hHeld.1 hb
      have xa := xa.below hb xa.lt
      have xb := xb.below hb xb.lt
      clear hb hHeld
      refine hK.out _ _ (KP _ hN) (fun hHeld => ?_)
      clear hK K hN
      try simp only [Act.put, zvs, zvt, zvu]
      have ka := xa.cell
      have fa := xa.frozen
      refine wpAnyH_ready (rs := [10]) (by kernel_rfl) (by simp) ?_
      refine AllReadyH.cons (o := { dst := none, op := _, type := _, pos := _, after := _, guard := _ }) rfl (fun K hK => ?_) AllReadyH.nil
      go_simp
      have hN := (hHeld.1.setCell (p := ⟨wd.heap.size, 0, none⟩) ga (.int .i64 (rvT ws (stA N i)))).setCell (p := ⟨wd.heap.size, 1, none⟩) ga (.int .i64 (rvN ws (stA N i)))
      clear hHeld ka fa
      refine hK.out _ _ (KP _ hN) (fun hHeld => ?_)
      clear hK K hN
      try simp only [Act.put, zvs, zvt, zvu]
      have xa : zd _ _ _ #[.int .i64 (rvT ws (stA N i)), .int .i64 (rvN ws (stA N i))] := (xa.set 0 (.int .i64 (rvT ws (stA N i)))).set 1 (.int .i64 (rvN ws (stA N i)))
      have xb := (xb.other nba 0 (.int .i64 (rvT ws (stA N i)))).other nba 1 (.int .i64 (rvN ws (stA N i)))
      obtain ⟨w52, hV⟩ : ∃ V, V = ((w51.setCell ⟨wd.heap.size, 0, none⟩ (.int .i64 (rvT ws (stA N i)))).setCell ⟨wd.heap.size, 1, none⟩ (.int .i64 (rvN ws (stA N i)))) := ⟨_, rfl⟩
      rw [<- hV] at hHeld xa xb ⊢
      clear hV
      have kb := xb.cell
      have fb := xb.frozen
      refine wpAnyH_ready (rs := [11]) (by kernel_rfl) (by simp) ?_
      refine AllReadyH.cons (o := { dst := none, op := _, type := _, pos := _, after := _, guard := _ }) rfl (fun K hK => ?_) AllReadyH.nil
      go_simp
      have hN := (hHeld.1.setCell (p := ⟨w39.heap.size, 0, none⟩) gb (.int .i64 (rvT ws (stA N j)))).setCell (p := ⟨w39.heap.size, 1, none⟩) gb (.int .i64 (rvN ws (stA N j)))
      clear hHeld kb fb
      refine hK.out _ _ (KP _ hN) (fun hHeld => ?_)
      clear hK K hN
      try simp only [Act.put, zvs, zvt, zvu]
      have xa := (xa.other nab 0 (.int .i64 (rvT ws (stA N j)))).other nab 1 (.int .i64 (rvN ws (stA N j)))
      have xb : zd _ _ _ #[.int .i64 (rvT ws (stA N j)), .int .i64 (rvN ws (stA N j))] := (xb.set 0 (.int .i64 (rvT ws (stA N j)))).set 1 (.int .i64 (rvN ws (stA N j)))
      obtain ⟨w53, hV⟩ : ∃ V, V = ((w52.setCell ⟨w39.heap.size, 0, none⟩ (.int .i64 (rvT ws (stA N j)))).setCell ⟨w39.heap.size, 1, none⟩ (.int .i64 (rvN ws (stA N j)))) := ⟨_, rfl⟩
      rw [<- hV] at hHeld xa xb ⊢
      clear hV
      refine wpAnyH_done (by kernel_rfl) ?_ _
      go_wp2_with fail
      go_meet
      exact ⟨_, _, rfl, rfl, xa, xb, hHeld.1⟩
  · go_simp
    have hN := hHeld.1.alloc hHeld.1.size (.cells #[.int .i64 0, .int .i64 0] 42)
    have xb := zd.new wd 42 #[.int .i64 0, .int .i64 0]
    have gb := hHeld.1.size
    clear hHeld
    refine hK.out _ _ (KP _ hN) (fun hHeld => ?_)
    clear hK K hN
    try simp only [Act.put, zvs, zvt, zvu]
    obtain ⟨w54, hV⟩ : ∃ V, V = wd.alloc (.cells #[.int .i64 0, .int .i64 0] 42) := ⟨_, rfl⟩
    rw [<- hV] at hHeld xb ⊢
    clear hV
    refine wpAnyH_ready (rs := [3, 8]) (by kernel_rfl) (by simp) ?_
    refine AllReadyH.cons (o := { dst := some 12, op := _, type := _, pos := _, after := _, guard := _ }) rfl (fun K hK => ?_) (AllReadyH.cons (o := { dst := some 7, op := _, type := _, pos := _, after := _, guard := _ }) rfl (fun K hK => ?_) AllReadyH.nil)
    · go_simp
      go_at_call 32
      refine (zax a1 L c1 a2 n c2 b3 b4 ws sm toh top cyc sn old cp sr k fa de sh st et en sp ao m co N i _ w54 HI.out (H0.below hHeld.1) hi9).mono ?_
      rintro e w55 ⟨rfl, hb⟩
      have hN := zb (w := w0) hHeld.1 hb
      have xb := xb.below hb xb.lt
      clear hb hHeld
      refine hK.out _ _ (KP _ hN) (fun hHeld => ?_)
      clear hK K hN
      try simp only [Act.put, zvs, zvt, zvu]
      refine wpAnyH_ready (rs := [7, 8]) (by kernel_rfl) (by simp) ?_
      refine AllReadyH.cons (o := { dst := some 16, op := _, type := _, pos := _, after := _, guard := _ }) rfl (fun K hK => ?_) (AllReadyH.cons (o := { dst := some 7, op := _, type := _, pos := _, after := _, guard := _ }) rfl (fun K hK => ?_) AllReadyH.nil)
      · go_simp
        go_at_call 32
        refine (zax a1 L c1 a2 n c2 b3 b4 ws sm toh top cyc sn old cp sr k fa de sh st et en sp ao m co N j _ w55 HJ.out (H0.below hHeld.1) hj9).mono ?_
        rintro e w56 ⟨rfl, hb⟩
        have hN := zb (w := w0) hHeld.1 hb
        have xb := xb.below hb xb.lt
        clear hb hHeld
        refine hK.out _ _ (KP _ hN) (fun hHeld => ?_)
        clear hK K hN
        try simp only [Act.put, zvs, zvt, zvu]
        refine wpAnyH_ready (rs := [8]) (by kernel_rfl) (by simp) ?_
        refine AllReadyH.cons (o := { dst := some 7, op := _, type := _, pos := _, after := _, guard := _ }) rfl (fun K hK => ?_) AllReadyH.nil
        go_simp
        have hN := hHeld.1.alloc hHeld.1.size (.cells #[.int .i64 0, .int .i64 0] 42)
        have xa := zd.new w56 42 #[.int .i64 0, .int .i64 0]
        have ga := hHeld.1.size
        have nba := Nat.ne_of_lt xb.lt
        have nab := (Nat.ne_of_lt xb.lt).symm
        have xb := xb.alloc (.cells #[.int .i64 0, .int .i64 0] 42)
        clear hHeld
        refine hK.out _ _ (KP _ hN) (fun hHeld => ?_)
        clear hK K hN
        try simp only [Act.put, zvs, zvt, zvu]
        obtain ⟨w57, hV⟩ : ∃ V, V = w56.alloc (.cells #[.int .i64 0, .int .i64 0] 42) := ⟨_, rfl⟩
        rw [<- hV] at hHeld xb xa ⊢
        clear hV
        have ka := xa.cell
        have fa := xa.frozen
        refine wpAnyH_ready (rs := [10]) (by kernel_rfl) (by simp) ?_
        refine AllReadyH.cons (o := { dst := none, op := _, type := _, pos := _, after := _, guard := _ }) rfl (fun K hK => ?_) AllReadyH.nil
        go_simp
        have hN := (hHeld.1.setCell (p := ⟨w56.heap.size, 0, none⟩) ga (.int .i64 (rvT ws (stA N i)))).setCell (p := ⟨w56.heap.size, 1, none⟩) ga (.int .i64 (rvN ws (stA N i)))
        clear hHeld ka fa
        refine hK.out _ _ (KP _ hN) (fun hHeld => ?_)
        clear hK K hN
        try simp only [Act.put, zvs, zvt, zvu]
        have xb := (xb.other nba 0 (.int .i64 (rvT ws (stA N i)))).other nba 1 (.int .i64 (rvN ws (stA N i)))
        have xa : zd _ _ _ #[.int .i64 (rvT ws (stA N i)), .int .i64 (rvN ws (stA N i))] := (xa.set 0 (.int .i64 (rvT ws (stA N i)))).set 1 (.int .i64 (rvN ws (stA N i)))
        obtain ⟨w58, hV⟩ : ∃ V, V = ((w57.setCell ⟨w56.heap.size, 0, none⟩ (.int .i64 (rvT ws (stA N i)))).setCell ⟨w56.heap.size, 1, none⟩ (.int .i64 (rvN ws (stA N i)))) := ⟨_, rfl⟩
        rw [<- hV] at hHeld xb xa ⊢
        clear hV
        have kb := xb.cell
        have fb := xb.frozen
        refine wpAnyH_ready (rs := [11]) (by kernel_rfl) (by simp) ?_
        refine AllReadyH.cons (o := { dst := none, op := _, type := _, pos := _, after := _, guard := _ }) rfl (fun K hK => ?_) AllReadyH.nil
        go_simp
        have hN := (hHeld.1.setCell (p := ⟨wd.heap.size, 0, none⟩) gb (.int .i64 (rvT ws (stA N j)))).setCell (p := ⟨wd.heap.size, 1, none⟩) gb (.int .i64 (rvN ws (stA N j)))
        clear hHeld kb fb
        refine hK.out _ _ (KP _ hN) (fun hHeld => ?_)
        clear hK K hN
        try simp only [Act.put, zvs, zvt, zvu]
        have xb : zd _ _ _ #[.int .i64 (rvT ws (stA N j)), .int .i64 (rvN ws (stA N j))] := (xb.set 0 (.int .i64 (rvT ws (stA N j)))).set 1 (.int .i64 (rvN ws (stA N j)))
        have xa := (xa.other nab 0 (.int .i64 (rvT ws (stA N j)))).other nab 1 (.int .i64 (rvN ws (stA N j)))
        obtain ⟨w59, hV⟩ : ∃ V, V = ((w58.setCell ⟨wd.heap.size, 0, none⟩ (.int .i64 (rvT ws (stA N j)))).setCell ⟨wd.heap.size, 1, none⟩ (.int .i64 (rvN ws (stA N j)))) := ⟨_, rfl⟩
        rw [<- hV] at hHeld xb xa ⊢
        clear hV
        refine wpAnyH_done (by kernel_rfl) ?_ _
        go_wp2_with fail
        go_meet
        exact ⟨_, _, rfl, rfl, xa, xb, hHeld.1⟩
      · go_simp
        have hN := hHeld.1.alloc hHeld.1.size (.cells #[.int .i64 0, .int .i64 0] 42)
        have xa := zd.new w55 42 #[.int .i64 0, .int .i64 0]
        have ga := hHeld.1.size
        have nba := Nat.ne_of_lt xb.lt
        have nab := (Nat.ne_of_lt xb.lt).symm
        have xb := xb.alloc (.cells #[.int .i64 0, .int .i64 0] 42)
        clear hHeld
        refine hK.out _ _ (KP _ hN) (fun hHeld => ?_)
        clear hK K hN
        try simp only [Act.put, zvs, zvt, zvu]
        obtain ⟨w60, hV⟩ : ∃ V, V = w55.alloc (.cells #[.int .i64 0, .int .i64 0] 42) := ⟨_, rfl⟩
        rw [<- hV] at hHeld xb xa ⊢
        clear hV
        refine wpAnyH_ready (rs := [7]) (by kernel_rfl) (by simp) ?_
        refine AllReadyH.cons (o := { dst := some 16, op := _, type := _, pos := _, after := _, guard := _ }) rfl (fun K hK => ?_) AllReadyH.nil
        go_simp
        go_at_call 32
        refine (zax a1 L c1 a2 n c2 b3 b4 ws sm toh top cyc sn old cp sr k fa de sh st et en sp ao m co N j _ w60 HJ.out (H0.below hHeld.1) hj9).mono ?_
        rintro e w61 ⟨rfl, hb⟩
        have hN := zb (w := w0) hHeld.1 hb
        have xb := xb.below hb xb.lt
        have xa := xa.below hb xa.lt
        clear hb hHeld
        refine hK.out _ _ (KP _ hN) (fun hHeld => ?_)
        clear hK K hN
        try simp only [Act.put, zvs, zvt, zvu]
        have ka := xa.cell
        have fa := xa.frozen
        refine wpAnyH_ready (rs := [10]) (by kernel_rfl) (by simp) ?_
        refine AllReadyH.cons (o := { dst := none, op := _, type := _, pos := _, after := _, guard := _ }) rfl (fun K hK => ?_) AllReadyH.nil
        go_simp
        have hN := (hHeld.1.setCell (p := ⟨w55.heap.size, 0, none⟩) ga (.int .i64 (rvT ws (stA N i)))).setCell (p := ⟨w55.heap.size, 1, none⟩) ga (.int .i64 (rvN ws (stA N i)))
        clear hHeld ka fa
        refine hK.out _ _ (KP _ hN) (fun hHeld => ?_)
        clear hK K hN
        try simp only [Act.put, zvs, zvt, zvu]
        have xb := (xb.other nba 0 (.int .i64 (rvT ws (stA N i)))).other nba 1 (.int .i64 (rvN ws (stA N i)))
        have xa : zd _ _ _ #[.int .i64 (rvT ws (stA N i)), .int .i64 (rvN ws (stA N i))] := (xa.set 0 (.int .i64 (rvT ws (stA N i)))).set 1 (.int .i64 (rvN ws (stA N i)))
        obtain ⟨w62, hV⟩ : ∃ V, V = ((w61.setCell ⟨w55.heap.size, 0, none⟩ (.int .i64 (rvT ws (stA N i)))).setCell ⟨w55.heap.size, 1, none⟩ (.int .i64 (rvN ws (stA N i)))) := ⟨_, rfl⟩
        rw [<- hV] at hHeld xb xa ⊢
        clear hV
        have kb := xb.cell
        have fb := xb.frozen
        refine wpAnyH_ready (rs := [11]) (by kernel_rfl) (by simp) ?_
        refine AllReadyH.cons (o := { dst := none, op := _, type := _, pos := _, after := _, guard := _ }) rfl (fun K hK => ?_) AllReadyH.nil
        go_simp
        have hN := (hHeld.1.setCell (p := ⟨wd.heap.size, 0, none⟩) gb (.int .i64 (rvT ws (stA N j)))).setCell (p := ⟨wd.heap.size, 1, none⟩) gb (.int .i64 (rvN ws (stA N j)))
        clear hHeld kb fb
        refine hK.out _ _ (KP _ hN) (fun hHeld => ?_)
        clear hK K hN
        try simp only [Act.put, zvs, zvt, zvu]
        have xb : zd _ _ _ #[.int .i64 (rvT ws (stA N j)), .int .i64 (rvN ws (stA N j))] := (xb.set 0 (.int .i64 (rvT ws (stA N j)))).set 1 (.int .i64 (rvN ws (stA N j)))
        have xa := (xa.other nab 0 (.int .i64 (rvT ws (stA N j)))).other nab 1 (.int .i64 (rvN ws (stA N j)))
        obtain ⟨w63, hV⟩ : ∃ V, V = ((w62.setCell ⟨wd.heap.size, 0, none⟩ (.int .i64 (rvT ws (stA N j)))).setCell ⟨wd.heap.size, 1, none⟩ (.int .i64 (rvN ws (stA N j)))) := ⟨_, rfl⟩
        rw [<- hV] at hHeld xb xa ⊢
        clear hV
        refine wpAnyH_done (by kernel_rfl) ?_ _
        go_wp2_with fail
        go_meet
        exact ⟨_, _, rfl, rfl, xa, xb, hHeld.1⟩
    · go_simp
      have hN := hHeld.1.alloc hHeld.1.size (.cells #[.int .i64 0, .int .i64 0] 42)
      have xa := zd.new w54 42 #[.int .i64 0, .int .i64 0]
      have ga := hHeld.1.size
      have nba := Nat.ne_of_lt xb.lt
      have nab := (Nat.ne_of_lt xb.lt).symm
      have xb := xb.alloc (.cells #[.int .i64 0, .int .i64 0] 42)
      clear hHeld
      refine hK.out _ _ (KP _ hN) (fun hHeld => ?_)
      clear hK K hN
      try simp only [Act.put, zvs, zvt, zvu]
      obtain ⟨w64, hV⟩ : ∃ V, V = w54.alloc (.cells #[.int .i64 0, .int .i64 0] 42) := ⟨_, rfl⟩
      rw [<- hV] at hHeld xb xa ⊢
      clear hV
      refine wpAnyH_ready (rs := [3]) (by kernel_rfl) (by simp) ?_
      refine AllReadyH.cons (o := { dst := some 12, op := _, type := _, pos := _, after := _, guard := _ }) rfl (fun K hK => ?_) AllReadyH.nil
      go_simp
      go_at_call 32
      refine (zax a1 L c1 a2 n c2 b3 b4 ws sm toh top cyc sn old cp sr k fa de sh st et en sp ao m co N i _ w64 HI.out (H0.below hHeld.1) hi9).mono ?_
      rintro e w65 ⟨rfl, hb⟩
      have hN := zb (w := w0) hHeld.1 hb
      have xb := xb.below hb xb.lt
      have xa := xa.below hb xa.lt
      clear hb hHeld
      refine hK.out _ _ (KP _ hN) (fun hHeld => ?_)
      clear hK K hN
      try simp only [Act.put, zvs, zvt, zvu]
      refine wpAnyH_ready (rs := [7]) (by kernel_rfl) (by simp) ?_
      refine AllReadyH.cons (o := { dst := some 16, op := _, type := _, pos := _, after := _, guard := _ }) rfl (fun K hK => ?_) AllReadyH.nil
      go_simp
      go_at_call 32
      refine (zax a1 L c1 a2 n c2 b3 b4 ws sm toh top cyc sn old cp sr k fa de sh st et en sp ao m co N j _ w65 HJ.out (H0.below hHeld.1) hj9).mono ?_
      rintro e w66 ⟨rfl, hb⟩
      have hN := zb (w := w0) hHeld.1 hb
      have xb := xb.below hb xb.lt
      have xa := xa.below hb xa.lt
      clear hb hHeld
      refine hK.out _ _ (KP _ hN) (fun hHeld => ?_)
      clear hK K hN
      try simp only [Act.put, zvs, zvt, zvu]
      have ka := xa.cell
      have fa := xa.frozen
      refine wpAnyH_ready (rs := [10]) (by kernel_rfl) (by simp) ?_
      refine AllReadyH.cons (o := { dst := none, op := _, type := _, pos := _, after := _, guard := _ }) rfl (fun K hK => ?_) AllReadyH.nil
      go_simp
      have hN := (hHeld.1.setCell (p := ⟨w54.heap.size, 0, none⟩) ga (.int .i64 (rvT ws (stA N i)))).setCell (p := ⟨w54.heap.size, 1, none⟩) ga (.int .i64 (rvN ws (stA N i)))
      clear hHeld ka fa
      refine hK.out _ _ (KP _ hN) (fun hHeld => ?_)
      clear hK K hN
      try simp only [Act.put, zvs, zvt, zvu]
      have xb := (xb.other nba 0 (.int .i64 (rvT ws (stA N i)))).other nba 1 (.int .i64 (rvN ws (stA N i)))
      have xa : zd _ _ _ #[.int .i64 (rvT ws (stA N i)), .int .i64 (rvN ws (stA N i))] := (xa.set 0 (.int .i64 (rvT ws (stA N i)))).set 1 (.int .i64 (rvN ws (stA N i)))
      obtain ⟨w67, hV⟩ : ∃ V, V = ((w66.setCell ⟨w54.heap.size, 0, none⟩ (.int .i64 (rvT ws (stA N i)))).setCell ⟨w54.heap.size, 1, none⟩ (.int .i64 (rvN ws (stA N i)))) := ⟨_, rfl⟩
      rw [<- hV] at hHeld xb xa ⊢
      clear hV
      have kb := xb.cell
      have fb := xb.frozen
      refine wpAnyH_ready (rs := [11]) (by kernel_rfl) (by simp) ?_
      refine AllReadyH.cons (o := { dst := none, op := _, type := _, pos := _, after := _, guard := _ }) rfl (fun K hK => ?_) AllReadyH.nil
      go_simp
      have hN := (hHeld.1.setCell (p := ⟨wd.heap.size, 0, none⟩) gb (.int .i64 (rvT ws (stA N j)))).setCell (p := ⟨wd.heap.size, 1, none⟩) gb (.int .i64 (rvN ws (stA N j)))
      clear hHeld kb fb
      refine hK.out _ _ (KP _ hN) (fun hHeld => ?_)
      clear hK K hN
      try simp only [Act.put, zvs, zvt, zvu]
      have xb : zd _ _ _ #[.int .i64 (rvT ws (stA N j)), .int .i64 (rvN ws (stA N j))] := (xb.set 0 (.int .i64 (rvT ws (stA N j)))).set 1 (.int .i64 (rvN ws (stA N j)))
      have xa := (xa.other nab 0 (.int .i64 (rvT ws (stA N j)))).other nab 1 (.int .i64 (rvN ws (stA N j)))
      obtain ⟨w68, hV⟩ : ∃ V, V = ((w67.setCell ⟨wd.heap.size, 0, none⟩ (.int .i64 (rvT ws (stA N j)))).setCell ⟨wd.heap.size, 1, none⟩ (.int .i64 (rvN ws (stA N j)))) := ⟨_, rfl⟩
      rw [<- hV] at hHeld xb xa ⊢
      clear hV
      refine wpAnyH_done (by kernel_rfl) ?_ _
      go_wp2_with fail
      go_meet
      exact ⟨_, _, rfl, rfl, xa, xb, hHeld.1⟩
 case rest =>
  obtain ⟨p, q, rfl, rfl, xa, xb, hBc⟩ := hcut
  have ka := xa.cell
  have kb := xb.cell
  have a0 := ka 0
  have a1' := ka 1
  have b0 := kb 0
  have b1 := kb 1
  simp at a0 a1' b0 b1
  have la := xa.lt
  have lb := xb.lt
  have B1 := zb B0 hBc
  clear H0 XM B0 hBc HV ka kb xa xb
  generalize rvT ws (stA N i) = ti at *
  generalize rvN ws (stA N i) = ni at *
  generalize rvT ws (stA N j) = tj at *
  generalize rvN ws (stA N j) = nj at *
  go_wp2_with (go_at_call 31; refine (zr _ _ _ _).mono ?_; rintro e w' ⟨rfl, rfl⟩)
  all_goals obtain ⟨hB, hL, hH⟩ := HP.out
  all_goals first
   | (go_ret3
      refine ⟨zqw ?_ ?_ ?_, B1⟩ <;> (try rw [hL]) <;> (try rw [hH]) <;> rw [hB] <;> clear hL hH hB HP <;> simp [inB] at * <;> try omega)
   | (go_region
      go_wp2
      go_ret3
      refine ⟨zqw ?_ ?_ ?_, B1.drew⟩ <;> (try rw [hL]) <;> (try rw [hH]) <;> rw [hB] <;> clear hL hH hB HP <;> simp [inB] at * <;> try omega)
set_option maxHeartbeats 1000000 in
theorem zup (a1 : Option Addr) (L c1 : Nat) (a2 : Option Addr) (n c2 b3 b4 : Nat) (ws : List Int) (sm toh top : Int) (cyc : Bool) (sn old cp sr : Int) (k : Nat) (fa de sh : Bool) (st et en sp : Int) (ao : Option Addr) (m co : Nat) (bm N i : Nat) (w : World) (X : zd w bm 44 #[.slice a1 L c1, .slice a2 n c2, .slice (some ⟨b3, 0, none⟩) ws.length ws.length, .int .i64 sm, .int .i64 toh, .int .i64 top, .bool cyc, .int .i64 sn, .int .i64 old, .int .i64 cp, .int .i64 sr, .slice (some ⟨b4, 0, none⟩) k k, .bool fa, .bool de, .bool sh, .int .i64 st, .int .i64 et, .int .i64 en, .int .i64 sp, .slice ao m co]) (H : McV w b3 b4 k ws N) (hi : i <= 126) :
 Calls Tryz.prog 20 #[.agg #[.pointer (some ⟨bm, 2, none⟩), .int .i64 (N : Int)], .int .i64 i] w fun e w' => e = .returned (.int .i64 (wrap64 (za ws (N + i)))) /\ Below w.heap.size w w' := by
 have B0 : Below w.heap.size w (w.alloc (.cells #[.pointer (some ⟨bm, 2, none⟩), .int .i64 (N : Int)] 61)) := (Below.refl _ _).alloc (Nat.le_refl _) _
 have H1 := H.below B0
 have X1 := X.below B0 X.lt
 have XM := zd.new w 61 #[.pointer (some ⟨bm, 2, none⟩), .int .i64 (N : Int)]
 have hfit := H.fit
 obtain ⟨l3, q⟩ := H1.word (i := N + i) (by omega)
 have h1 : (N : Int) + (i : Int) < (ws.length : Int) := by omega
 have h2 : (ws.length : Int) <= 1048576 := by have := H.hn; omega
 have h0 : (0 : Int) <= (N : Int) + (i : Int) := by omega
 have hwr : IntKind.i64.wrap ((N : Int) + (i : Int)) = (N : Int) + (i : Int) := by rw [IntKind.wrap_i64]; omega
 have ht : ((N : Int) + (i : Int)).toNat = N + i := by omega
 have KP : ∀ V, Below (w.alloc (.cells #[.pointer (some ⟨bm, 2, none⟩), .int .i64 (N : Int)] 61)).heap.size (w.alloc (.cells #[.pointer (some ⟨bm, 2, none⟩), .int .i64 (N : Int)] 61)) V -> (zd V w.heap.size 61 #[.pointer (some ⟨bm, 2, none⟩), .int .i64 (N : Int)] /\ V.cell? ⟨bm, 2, none⟩ = some (.slice (some ⟨b3, 0, none⟩) ws.length ws.length) /\ V.cell? ⟨b3, N + i, none⟩ = some (.int .u64 (za ws (N + i)))) := fun V hV => ⟨XM.below hV XM.lt, (X1.below hV X1.lt).cell 2, (hV.cell (p := ⟨b3, N + i, none⟩) l3).trans q⟩
 clear H H1 X X1 XM q
 go_enter Tryz.func20, Tryz.ntmps20
 go_wp2_with fail
 refine wp_region_held_drew (S := fun V => zd V w.heap.size 61 #[.pointer (some ⟨bm, 2, none⟩), .int .i64 (N : Int)] /\ V.cell? ⟨bm, 2, none⟩ = some (.slice (some ⟨b3, 0, none⟩) ws.length ws.length) /\ V.cell? ⟨b3, N + i, none⟩ = some (.int .u64 (za ws (N + i)))) (by kernel_rfl) (KP _ (Below.refl _ _).drew) (fun hHeld => ?_)
 refine wpAnyH_take (i := 0) (oi := { dst := some 5, op := _, type := _, pos := _, after := _, guard := _ }) (v := .pointer (some ⟨w.heap.size, 0, none⟩)) rfl (by kernel_rfl) (by kernel_rfl) (by kernel_rfl) (fun _ _ _ h => h) (Or.inl ⟨by kernel_rfl, (by intro V hS; go_simp)⟩) hHeld ?_
 try simp only [Act.put, zvs, zvt, zvu]
 refine wpAnyH_take (i := 1) (oi := { dst := some 6, op := _, type := _, pos := _, after := _, guard := _ }) (v := .pointer (some ⟨bm, 2, none⟩)) rfl (by kernel_rfl) (by kernel_rfl) (by kernel_rfl) (fun _ _ _ h => h) (Or.inl ⟨by kernel_rfl, (by intro V hS; have q := hS.1.cell 0; simp at q; go_simp)⟩) hHeld ?_
 try simp only [Act.put, zvs, zvt, zvu]
 refine wpAnyH_take (i := 2) (oi := { dst := some 7, op := _, type := _, pos := _, after := _, guard := _ }) (v := .pointer (some ⟨bm, 2, none⟩)) rfl (by kernel_rfl) (by kernel_rfl) (by kernel_rfl) (fun _ _ _ h => h) (Or.inl ⟨by kernel_rfl, (by intro V hS; go_simp)⟩) hHeld ?_
 try simp only [Act.put, zvs, zvt, zvu]
 refine wpAnyH_take (i := 3) (oi := { dst := some 8, op := _, type := _, pos := _, after := _, guard := _ }) (v := .pointer (some ⟨bm, 2, none⟩)) rfl (by kernel_rfl) (by kernel_rfl) (by kernel_rfl) (fun _ _ _ h => h) (Or.inl ⟨by kernel_rfl, (by intro V hS; go_simp)⟩) hHeld ?_
 try simp only [Act.put, zvs, zvt, zvu]
 refine wpAnyH_take (i := 4) (oi := { dst := some 9, op := _, type := _, pos := _, after := _, guard := _ }) (v := .slice (some ⟨b3, 0, none⟩) ws.length ws.length) rfl (by kernel_rfl) (by kernel_rfl) (by kernel_rfl) (fun _ _ _ h => h) (Or.inl ⟨by kernel_rfl, (by intro V hS; obtain ⟨_, q1, q2⟩ := hS; go_simp)⟩) hHeld ?_
 try simp only [Act.put, zvs, zvt, zvu]
 refine wpAnyH_take (i := 5) (oi := { dst := some 10, op := _, type := _, pos := _, after := _, guard := _ }) (v := .pointer (some ⟨w.heap.size, 1, none⟩)) rfl (by kernel_rfl) (by kernel_rfl) (by kernel_rfl) (fun _ _ _ h => h) (Or.inl ⟨by kernel_rfl, (by intro V hS; go_simp)⟩) hHeld ?_
 try simp only [Act.put, zvs, zvt, zvu]
 refine wpAnyH_take (i := 6) (oi := { dst := some 11, op := _, type := _, pos := _, after := _, guard := _ }) (v := .int .i64 (N : Int)) rfl (by kernel_rfl) (by kernel_rfl) (by kernel_rfl) (fun _ _ _ h => h) (Or.inl ⟨by kernel_rfl, (by intro V hS; have q := hS.1.cell 1; simp at q; go_simp)⟩) hHeld ?_
 try simp only [Act.put, zvs, zvt, zvu]
 refine wpAnyH_take (i := 7) (oi := { dst := some 12, op := _, type := _, pos := _, after := _, guard := _ }) (v := .int .i64 (i : Int)) rfl (by kernel_rfl) (by kernel_rfl) (by kernel_rfl) (fun _ _ _ h => h) (Or.inl ⟨by kernel_rfl, (by intro V hS; go_simp)⟩) hHeld ?_
 try simp only [Act.put, zvs, zvt, zvu]
 refine wpAnyH_take (i := 8) (oi := { dst := some 13, op := _, type := _, pos := _, after := _, guard := _ }) (v := .int .i64 ((N : Int) + (i : Int))) rfl (by kernel_rfl) (by kernel_rfl) (by kernel_rfl) (fun _ _ _ h => h) (Or.inl ⟨by kernel_rfl, (by intro V hS; go_simp)⟩) hHeld ?_
 try simp only [Act.put, zvs, zvt, zvu]
 refine wpAnyH_take (i := 9) (oi := { dst := some 14, op := _, type := _, pos := _, after := _, guard := _ }) (v := .pointer (some ⟨b3, N + i, none⟩)) rfl (by kernel_rfl) (by kernel_rfl) (by kernel_rfl) (fun _ _ _ h => h) (Or.inl ⟨by kernel_rfl, (by intro V hS; go_simp)⟩) hHeld ?_
 try simp only [Act.put, zvs, zvt, zvu]
 refine wpAnyH_take (i := 10) (oi := { dst := some 15, op := _, type := _, pos := _, after := _, guard := _ }) (v := .int .u64 (za ws (N + i))) rfl (by kernel_rfl) (by kernel_rfl) (by kernel_rfl) (fun _ _ _ h => h) (Or.inl ⟨by kernel_rfl, (by intro V hS; obtain ⟨_, q1, q2⟩ := hS; go_simp)⟩) hHeld ?_
 try simp only [Act.put, zvs, zvt, zvu]
 refine wpAnyH_take (i := 11) (oi := { dst := some 16, op := _, type := _, pos := _, after := _, guard := _ }) (v := .int .i64 (wrap64 (za ws (N + i)))) rfl (by kernel_rfl) (by kernel_rfl) (by kernel_rfl) (fun _ _ _ h => h) (Or.inl ⟨by kernel_rfl, (by intro V hS; go_simp; rw [IntKind.wrap_i64]; first | rfl | (unfold wrap64; omega))⟩) hHeld ?_
 try simp only [Act.put, zvs, zvt, zvu]
 refine wpAnyH_take (i := 12) (oi := { dst := some 4, op := _, type := _, pos := _, after := _, guard := _ }) (v := .int .i64 (wrap64 (za ws (N + i)))) rfl (by kernel_rfl) (by kernel_rfl) (by kernel_rfl) (fun _ _ _ h => h) (Or.inl ⟨by kernel_rfl, (by intro V hS; go_simp)⟩) hHeld ?_
 try simp only [Act.put, zvs, zvt, zvu]
 refine wpAnyH_done (by kernel_rfl) ?_ _
 go_wp2
 go_ret
 exact ⟨rfl, B0.drew⟩
theorem zkz (N i : Nat) (x : Int) (w : World) (hx : x = i) (hN : N <= 1048576) (hi : i <= 1048576) :
 Calls Tryz.prog 61 #[.int .i64 (N : Int), .int .i64 x] w fun e w' => e = .returned (.int .i64 ((stA N i : Nat) : Int)) /\ w' = w := by
 have hN' : (N : Int) <= 1048576 := by omega
 have hN0 : (0 : Int) <= (N : Int) := by omega
 have x0 : 0 <= x := by omega
 have x1 : x <= 1048576 := by omega
 have e : ((stA N i : Nat) : Int) = (N : Int) + 7 + 2 * x := by unfold stA; omega
 rw [e]
 clear hx e hN hi
 go_enter Tryz.func61, Tryz.ntmps61
 go_wp2
 go_ret
 exact ⟨rfl, rfl⟩
theorem zt3 (b3 b4 : Nat) (ws : List Int) (sm toh top : Int) (cyc : Bool) (sn old cp sr : Int) (k N i : Nat) (w : World) (H : McV w b3 b4 k ws N) (hi : i <= 59) :
 Calls Tryz.prog 60 #[.agg #[.slice (some ⟨b3, 0, none⟩) ws.length ws.length, .int .i64 sm, .int .i64 toh, .int .i64 top, .bool cyc, .int .i64 sn, .int .i64 old, .int .i64 cp, .int .i64 sr, .slice (some ⟨b4, 0, none⟩) k k], .int .i64 ((stA N i : Nat) : Int)] w fun e w' => e = .returned (.agg #[.int .i64 (rvT ws (stA N i)), .int .i64 (rvN ws (stA N i))]) /\ Below w.heap.size w w' := by
 have := zfo (some ⟨b3, 0, none⟩) ws.length ws sm toh top cyc sn old cp sr (some ⟨b4, 0, none⟩) k (List.replicate k (0, 0)) ((stA N i : Nat) : Int) (stA N i) w rfl H.wd H.hn H.hw (by have := H.fit; unfold stA; omega)
 rw [List.length_replicate] at this
 exact this
set_option maxHeartbeats 2000000 in
theorem zay (a1 : Option Addr) (L c1 : Nat) (a2 : Option Addr) (n c2 b3 b4 : Nat) (ws : List Int) (sm toh top : Int) (cyc : Bool) (sn old cp sr : Int) (k : Nat) (fa de sh : Bool) (st et en sp : Int) (ao : Option Addr) (m co : Nat) (bm N i : Nat) (x : Int) (w : World) (hx : x = i) (X : zd w bm 44 #[.slice a1 L c1, .slice a2 n c2, .slice (some ⟨b3, 0, none⟩) ws.length ws.length, .int .i64 sm, .int .i64 toh, .int .i64 top, .bool cyc, .int .i64 sn, .int .i64 old, .int .i64 cp, .int .i64 sr, .slice (some ⟨b4, 0, none⟩) k k, .bool fa, .bool de, .bool sh, .int .i64 st, .int .i64 et, .int .i64 en, .int .i64 sp, .slice ao m co]) (H : McV w b3 b4 k ws N) (hi : i <= 59) :
 Calls Tryz.prog 39 #[.agg #[.pointer (some ⟨bm, 2, none⟩), .int .i64 (N : Int)], .int .i64 x] w fun e w' => e = .returned (.agg #[.int .i64 (rvT ws (stA N i)), .int .i64 (rvN ws (stA N i))]) /\ Below w.heap.size w w' := by
 have HX : Hid (x = (i : Int)) := hx
 have HV : Hid (McV w b3 b4 k ws N) := H
 have HN : Hid (N <= 1048576) := by have := H.fit; have := H.hn; show N <= 1048576; omega
 clear hx H
 go_enter Tryz.func39, Tryz.ntmps39
 go_upto_region 1 with fail
 obtain ⟨w0, hw0⟩ : ∃ V, V = (w.alloc (.cells #[.pointer (some ⟨bm, 2, none⟩), .int .i64 (N : Int)] 61)).alloc (.cells #[.int .i64 0, .int .i64 0] 42) := ⟨_, rfl⟩
 have B0 : Below w.heap.size w w0 := by rw [hw0]; exact ((Below.refl _ _).alloc (Nat.le_refl _) _).alloc (by simp) _
 have XM : zd w0 w.heap.size 61 #[.pointer (some ⟨bm, 2, none⟩), .int .i64 (N : Int)] := by rw [hw0]; exact (zd.new w _ _).alloc _
 have X4 : zd w0 (w.heap.size + 1) 42 #[.int .i64 0, .int .i64 0] := by rw [hw0]; have := zd.new (w.alloc (.cells #[.pointer (some ⟨bm, 2, none⟩), .int .i64 (N : Int)] 61)) 42 #[.int .i64 0, .int .i64 0]; simpa using this
 have XB := X.below B0 X.lt
 have hbm : bm ≠ w.heap.size + 1 := by have := X.lt; omega
 have H0 := HV.out.below B0
 rw [<- hw0]
 clear hw0 X
 generalize hT : rvT ws (stA N i) = vt
 generalize hR : rvN ws (stA N i) = vn
 have XB' : zd w0.drew bm 44 #[.slice a1 L c1, .slice a2 n c2, .slice (some ⟨b3, 0, none⟩) ws.length ws.length, .int .i64 sm, .int .i64 toh, .int .i64 top, .bool cyc, .int .i64 sn, .int .i64 old, .int .i64 cp, .int .i64 sr, .slice (some ⟨b4, 0, none⟩) k k, .bool fa, .bool de, .bool sh, .int .i64 st, .int .i64 et, .int .i64 en, .int .i64 sp, .slice ao m co] := XB.below (Below.refl _ _).drew XB.lt
 have XM' : zd w0.drew w.heap.size 61 #[.pointer (some ⟨bm, 2, none⟩), .int .i64 (N : Int)] := XM.below (Below.refl _ _).drew XM.lt
 have X4' : zd w0.drew (w.heap.size + 1) 42 #[.int .i64 0, .int .i64 0] := X4.below (Below.refl _ _).drew X4.lt
 clear XB XM X4 H0
 refine wp_region_held_drew (S := fun V => Below w.heap.size w V /\ zd V w.heap.size 61 #[.pointer (some ⟨bm, 2, none⟩), .int .i64 (N : Int)] /\ zd V bm 44 #[.slice a1 L c1, .slice a2 n c2, .slice (some ⟨b3, 0, none⟩) ws.length ws.length, .int .i64 sm, .int .i64 toh, .int .i64 top, .bool cyc, .int .i64 sn, .int .i64 old, .int .i64 cp, .int .i64 sr, .slice (some ⟨b4, 0, none⟩) k k, .bool fa, .bool de, .bool sh, .int .i64 st, .int .i64 et, .int .i64 en, .int .i64 sp, .slice ao m co]) (by kernel_rfl) ⟨B0.drew, XM', XB'⟩ (fun hHeld => ?_)
 obtain ⟨wd, hwd⟩ : ∃ V, V = w0.drew := ⟨_, rfl⟩
 rw [<- hwd] at hHeld X4' ⊢
 clear hwd XM' XB' B0
 refine wpAnyH_take (i := 0) (oi := { dst := some 5, op := _, type := _, pos := _, after := _, guard := _ }) (v := .pointer (some ⟨w.heap.size, 0, none⟩)) rfl (by kernel_rfl) (by kernel_rfl) (by kernel_rfl) (fun _ _ _ h => h) (Or.inl ⟨by kernel_rfl, (by intro V hS; go_simp)⟩) hHeld ?_
 try simp only [Act.put, zvs, zvt, zvu]
 refine wpAnyH_take (i := 1) (oi := { dst := some 6, op := _, type := _, pos := _, after := _, guard := _ }) (v := .pointer (some ⟨bm, 2, none⟩)) rfl (by kernel_rfl) (by kernel_rfl) (by kernel_rfl) (fun _ _ _ h => h) (Or.inl ⟨by kernel_rfl, (by intro V hS; have q := hS.2.1.cell 0; simp at q; go_simp)⟩) hHeld ?_
 try simp only [Act.put, zvs, zvt, zvu]
 refine wpAnyH_take (i := 2) (oi := { dst := some 7, op := _, type := _, pos := _, after := _, guard := _ }) (v := .pointer (some ⟨bm, 2, none⟩)) rfl (by kernel_rfl) (by kernel_rfl) (by kernel_rfl) (fun _ _ _ h => h) (Or.inl ⟨by kernel_rfl, (by intro V hS; go_simp)⟩) hHeld ?_
 try simp only [Act.put, zvs, zvt, zvu]
 refine wpAnyH_take (i := 3) (oi := { dst := some 8, op := _, type := _, pos := _, after := _, guard := _ }) (v := .agg #[.slice (some ⟨b3, 0, none⟩) ws.length ws.length, .int .i64 sm, .int .i64 toh, .int .i64 top, .bool cyc, .int .i64 sn, .int .i64 old, .int .i64 cp, .int .i64 sr, .slice (some ⟨b4, 0, none⟩) k k]) rfl (by kernel_rfl) (by kernel_rfl) (by kernel_rfl) (fun _ _ _ h => h) (Or.inl ⟨by kernel_rfl, (by intro V hS; have q2 := hS.2.2.cell 2; have q3 := hS.2.2.cell 3; have q4 := hS.2.2.cell 4; have q5 := hS.2.2.cell 5; have q6 := hS.2.2.cell 6; have q7 := hS.2.2.cell 7; have q8 := hS.2.2.cell 8; have q9 := hS.2.2.cell 9; have q10 := hS.2.2.cell 10; have q11 := hS.2.2.cell 11; simp at q2 q3 q4 q5 q6 q7 q8 q9 q10 q11; go_simp)⟩) hHeld ?_
 try simp only [Act.put, zvs, zvt, zvu]
 refine wpAnyH_take (i := 4) (oi := { dst := some 9, op := _, type := _, pos := _, after := _, guard := _ }) (v := .pointer (some ⟨w.heap.size, 1, none⟩)) rfl (by kernel_rfl) (by kernel_rfl) (by kernel_rfl) (fun _ _ _ h => h) (Or.inl ⟨by kernel_rfl, (by intro V hS; go_simp)⟩) hHeld ?_
 try simp only [Act.put, zvs, zvt, zvu]
 refine wpAnyH_take (i := 5) (oi := { dst := some 10, op := _, type := _, pos := _, after := _, guard := _ }) (v := .int .i64 (N : Int)) rfl (by kernel_rfl) (by kernel_rfl) (by kernel_rfl) (fun _ _ _ h => h) (Or.inl ⟨by kernel_rfl, (by intro V hS; have q := hS.2.1.cell 1; simp at q; go_simp)⟩) hHeld ?_
 try simp only [Act.put, zvs, zvt, zvu]
 refine wpAnyH_take (i := 6) (oi := { dst := some 11, op := _, type := _, pos := _, after := _, guard := _ }) (v := .int .i64 x) rfl (by kernel_rfl) (by kernel_rfl) (by kernel_rfl) (fun _ _ _ h => h) (Or.inl ⟨by kernel_rfl, (by intro V hS; go_simp)⟩) hHeld ?_
 try simp only [Act.put, zvs, zvt, zvu]
 refine wpAnyH_ready (rs := [7]) (by kernel_rfl) (by simp) ?_
 refine AllReadyH.cons (o := { dst := some 12, op := _, type := _, pos := _, after := _, guard := _ }) rfl (fun K hK => ?_) AllReadyH.nil
 go_simp
 go_at_call 61
 refine (zkz N i x wd HX.out HN.out (by omega)).mono ?_
 rintro e w1 ⟨rfl, rfl⟩
 refine hK.out _ _ hHeld (fun hHeld => ?_)
 clear hK K
 try simp only [Act.put, zvs, zvt, zvu]
 refine wpAnyH_ready (rs := [8]) (by kernel_rfl) (by simp) ?_
 refine AllReadyH.cons (o := { dst := some 13, op := _, type := _, pos := _, after := _, guard := _ }) rfl (fun K hK => ?_) AllReadyH.nil
 go_simp
 go_at_call 60
 refine (zt3 b3 b4 ws sm toh top cyc sn old cp sr k N i w1 (HV.out.below hHeld.1) hi).mono ?_
 rw [hT, hR]
 rintro e w2 ⟨rfl, hb⟩
 have hN2 : Below w.heap.size w w2 /\ zd w2 w.heap.size 61 #[.pointer (some ⟨bm, 2, none⟩), .int .i64 (N : Int)] /\ zd w2 bm 44 #[.slice a1 L c1, .slice a2 n c2, .slice (some ⟨b3, 0, none⟩) ws.length ws.length, .int .i64 sm, .int .i64 toh, .int .i64 top, .bool cyc, .int .i64 sn, .int .i64 old, .int .i64 cp, .int .i64 sr, .slice (some ⟨b4, 0, none⟩) k k, .bool fa, .bool de, .bool sh, .int .i64 st, .int .i64 et, .int .i64 en, .int .i64 sp, .slice ao m co] := ⟨zb hHeld.1 hb, hHeld.2.1.below hb hHeld.2.1.lt, hHeld.2.2.below hb hHeld.2.2.lt⟩
 have X5 := X4'.below hb X4'.lt
 clear hb hHeld X4'
 refine hK.out _ _ hN2 (fun hHeld => ?_)
 clear hK K hN2
 try simp only [Act.put, zvs, zvt, zvu]
 have k4 := X5.cell
 have f4 := X5.frozen
 refine wpAnyH_ready (rs := [9]) (by kernel_rfl) (by simp) ?_
 refine AllReadyH.cons (o := { dst := none, op := _, type := _, pos := _, after := _, guard := _ }) rfl (fun K hK => ?_) AllReadyH.nil
 go_simp
 have BZ := (hHeld.1.setCell (p := ⟨w.heap.size + 1, 0, none⟩) (by simp) (.int .i64 vt)).setCell (p := ⟨w.heap.size + 1, 1, none⟩) (by simp) (.int .i64 vn)
 have n1 : w.heap.size ≠ w.heap.size + 1 := by omega
 refine hK.out _ _ ⟨BZ, (hHeld.2.1.other n1 0 _).other n1 1 _, (hHeld.2.2.other hbm 0 _).other hbm 1 _⟩ (fun hHeld2 => ?_)
 clear hK K hHeld2 hHeld
 try simp only [Act.put, zvs, zvt, zvu]
 refine wpAnyH_done (by kernel_rfl) ?_ _
 have p0 : w2.cell? ⟨w.heap.size + 1, 0, none⟩ = some (.int .i64 0) := k4 0
 have p1 : w2.cell? ⟨w.heap.size + 1, 1, none⟩ = some (.int .i64 0) := k4 1
 go_wp2
 refine bodyPost_ret (v := .agg #[.int .i64 vt, .int .i64 vn]) (by simp [results, Tryz.results39, go_sem, p0, p1]) rfl ⟨by rw [hT, hR], BZ⟩
def LkR (ws : List Int) (N b : Nat) (w : World) (e : Ending) (w' : World) : Prop := ∃ (pl : Int) (ca : Bool), e = .returned (.tuple #[.agg #[.int .i64 (lkL ws N b), .int .i64 pl, .bool ca], .bool (lkB ws N b)]) /\ Below w.heap.size w w'
theorem LkR.of {ws : List Int} {N b : Nat} {w w' : World} {l pl : Int} {ca q : Bool} (h1 : l = lkL ws N b) (h2 : q = lkB ws N b) (hb : Below w.heap.size w w') : LkR ws N b w (.returned (.tuple #[.agg #[.int .i64 l, .int .i64 pl, .bool ca], .bool q])) w' := ⟨pl, ca, by rw [h1, h2], hb⟩
theorem zsk {W : World} {p : Nat} {tm : Array Value} {x y z q : Value} (h : zd W p 64 #[x, y, z]) (h4 : tm[4]?.getD undef = .pointer (some ⟨p, 0, none⟩)) (h5 : tm[5]?.getD undef = q) : (results Tryz.f21 tm).run Tryz.prog W = .ok (.tuple #[.agg #[x, y, z], q]) W := by
 have k0 : W.cell? ⟨p, 0, none⟩ = some x := h.cell 0
 have k1 : W.cell? ⟨p, 1, none⟩ = some y := h.cell 1
 have k2 : W.cell? ⟨p, 2, none⟩ = some z := h.cell 2
 simp [results, Tryz.results21, go_sem, h4, h5, k0, k1, k2]
set_option maxHeartbeats 4000000 in
theorem zqn (a1 : Option Addr) (L c1 : Nat) (a2 : Option Addr) (n c2 b3 b4 : Nat) (ws : List Int) (sm toh top : Int) (cyc : Bool) (sn old cp sr : Int) (k : Nat) (fa de sh : Bool) (st et en sp : Int) (ao : Option Addr) (m co : Nat) (bm N b : Nat) (w : World) (X : zd w bm 44 #[.slice a1 L c1, .slice a2 n c2, .slice (some ⟨b3, 0, none⟩) ws.length ws.length, .int .i64 sm, .int .i64 toh, .int .i64 top, .bool cyc, .int .i64 sn, .int .i64 old, .int .i64 cp, .int .i64 sr, .slice (some ⟨b4, 0, none⟩) k k, .bool fa, .bool de, .bool sh, .int .i64 st, .int .i64 et, .int .i64 en, .int .i64 sp, .slice ao m co]) (H : McV w b3 b4 k ws N) (hb3 : 3 < b) (hb6 : b <= 60) :
 Calls Tryz.prog 21 #[.agg #[.pointer (some ⟨bm, 2, none⟩), .int .i64 (N : Int)], .int .i64 b] w fun e w' => LkR ws N b w e w' := by
 obtain ⟨i, hi⟩ : ∃ i, i + 3 = b := ⟨b - 3, by omega⟩
 obtain ⟨j, hj⟩ : ∃ j, j + 2 = b := ⟨b - 2, by omega⟩
 have HP : Hid (_ /\ _ /\ _) := zmt (ws := ws) (N := N) hb3 hi hj
 have HI : Hid ((b : Int) - 3 = (i : Int)) := by show (b : Int) - 3 = (i : Int); omega
 have HJ : Hid ((b : Int) - 3 + 1 = (j : Int)) := by show (b : Int) - 3 + 1 = (j : Int); omega
 have hi9 : i <= 59 := by omega
 have hj9 : j <= 59 := by omega
 have hb3' : (3 : Int) < (b : Int) := by omega
 have hb6' : (b : Int) <= 60 := by omega
 have HV : Hid (McV w b3 b4 k ws N) := H
 have HX : Hid (zd w bm 44 #[.slice a1 L c1, .slice a2 n c2, .slice (some ⟨b3, 0, none⟩) ws.length ws.length, .int .i64 sm, .int .i64 toh, .int .i64 top, .bool cyc, .int .i64 sn, .int .i64 old, .int .i64 cp, .int .i64 sr, .slice (some ⟨b4, 0, none⟩) k k, .bool fa, .bool de, .bool sh, .int .i64 st, .int .i64 et, .int .i64 en, .int .i64 sp, .slice ao m co]) := X
 clear H hi hj X
 go_enter Tryz.func21, Tryz.ntmps21
 go_upto_region 2 with fail
 obtain ⟨w0, hw0⟩ : ∃ V, V = (w.alloc (.cells #[.pointer (some ⟨bm, 2, none⟩), .int .i64 (N : Int)] 61)).alloc (.cells #[.int .i64 0, .int .i64 0, .bool false] 64) := ⟨_, rfl⟩
 have B0 : Below w.heap.size w w0 := by rw [hw0]; exact ((Below.refl _ _).alloc (Nat.le_refl _) _).alloc (by simp) _
 have XM : zd w0 w.heap.size 61 #[.pointer (some ⟨bm, 2, none⟩), .int .i64 (N : Int)] := by rw [hw0]; exact (zd.new w _ _).alloc _
 have X4 : zd w0 (w.heap.size + 1) 64 #[.int .i64 0, .int .i64 0, .bool false] := by rw [hw0]; have := zd.new (w.alloc (.cells #[.pointer (some ⟨bm, 2, none⟩), .int .i64 (N : Int)] 61)) 64 #[.int .i64 0, .int .i64 0, .bool false]; simpa using this
 have H0 := HV.out.below B0
 have X0 := HX.out.below B0 HX.out.lt
 rw [<- hw0]
 clear hw0
 go_cut [7, 8] from 11 to 17 (fun s7 s8 wc => ∃ p q : Nat, s7 = .pointer (some ⟨p, 0, none⟩) /\ s8 = .pointer (some ⟨q, 0, none⟩) /\ zd wc p 42 #[.int .i64 (rvT ws (stA N i)), .int .i64 (rvN ws (stA N i))] /\ zd wc q 42 #[.int .i64 (rvT ws (stA N j)), .int .i64 (rvN ws (stA N j))] /\ Below w0.heap.size w0 wc)
 case first =>
  have KP : ∀ V, Below w0.heap.size w0 V -> (Below w0.heap.size w0 V /\ zd V w.heap.size 61 #[.pointer (some ⟨bm, 2, none⟩), .int .i64 (N : Int)]) := fun V hV => ⟨hV, XM.below hV XM.lt⟩
  refine wp_region_held_drew (S := fun V => Below w0.heap.size w0 V /\ zd V w.heap.size 61 #[.pointer (some ⟨bm, 2, none⟩), .int .i64 (N : Int)]) (by kernel_rfl) (KP _ (Below.refl _ _).drew) (fun hHeld => ?_)
  obtain ⟨wd, hwd⟩ : ∃ V, V = w0.drew := ⟨_, rfl⟩
  rw [<- hwd] at hHeld ⊢
  clear hwd
  refine wpAnyH_take (i := 0) (oi := { dst := some 11, op := _, type := _, pos := _, after := _, guard := _ }) (v := .agg #[.pointer (some ⟨bm, 2, none⟩), .int .i64 (N : Int)]) rfl (by kernel_rfl) (by kernel_rfl) (by kernel_rfl) (fun _ _ _ h => h) (Or.inl ⟨by kernel_rfl, (by intro V hS; have q0 := hS.2.cell 0; have q1 := hS.2.cell 1; simp at q0 q1; go_simp)⟩) hHeld ?_
  try simp only [Act.put, zvs, zvt, zvu]
  refine wpAnyH_take (i := 1) (oi := { dst := some 12, op := _, type := _, pos := _, after := _, guard := _ }) (v := .int .i64 ((b : Int) - 3)) rfl (by kernel_rfl) (by kernel_rfl) (by kernel_rfl) (fun _ _ _ h => h) (Or.inl ⟨by kernel_rfl, (by intro V hS; go_simp)⟩) hHeld ?_
  try simp only [Act.put, zvs, zvt, zvu]
  refine wpAnyH_take (i := 3) (oi := { dst := some 14, op := _, type := _, pos := _, after := _, guard := _ }) (v := .agg #[.pointer (some ⟨bm, 2, none⟩), .int .i64 (N : Int)]) rfl (by kernel_rfl) (by kernel_rfl) (by kernel_rfl) (fun _ _ _ h => h) (Or.inl ⟨by kernel_rfl, (by intro V hS; have q0 := hS.2.cell 0; have q1 := hS.2.cell 1; simp at q0 q1; go_simp)⟩) hHeld ?_
  try simp only [Act.put, zvs, zvt, zvu]
  refine wpAnyH_take (i := 4) (oi := { dst := some 15, op := _, type := _, pos := _, after := _, guard := _ }) (v := .int .i64 ((b : Int) - 3)) rfl (by kernel_rfl) (by kernel_rfl) (by kernel_rfl) (fun _ _ _ h => h) (Or.inl ⟨by kernel_rfl, (by intro V hS; go_simp)⟩) hHeld ?_
  try simp only [Act.put, zvs, zvt, zvu]
  refine wpAnyH_take (i := 5) (oi := { dst := some 16, op := _, type := _, pos := _, after := _, guard := _ }) (v := .int .i64 ((b : Int) - 3 + 1)) rfl (by kernel_rfl) (by kernel_rfl) (by kernel_rfl) (fun _ _ _ h => h) (Or.inl ⟨by kernel_rfl, (by intro V hS; go_simp; rw [IntKind.wrap_i64]; omega)⟩) hHeld ?_
  try simp only [Act.put, zvs, zvt, zvu]
  refine wpAnyH_ready (rs := [2, 7, 8]) (by kernel_rfl) (by simp) ?_
  refine AllReadyH.cons (o := { dst := some 13, op := _, type := _, pos := _, after := _, guard := _ }) rfl (fun K hK => ?_) (AllReadyH.cons (o := { dst := some 7, op := _, type := _, pos := _, after := _, guard := _ }) rfl (fun K hK => ?_) (AllReadyH.cons (o := { dst := some 8, op := _, type := _, pos := _, after := _, guard := _ }) rfl (fun K hK => ?_) AllReadyH.nil))
  · go_simp
    go_at_call 39
    refine (zay a1 L c1 a2 n c2 b3 b4 ws sm toh top cyc sn old cp sr k fa de sh st et en sp ao m co bm N i _ wd HI.out (X0.below hHeld.1 X0.lt) (H0.below hHeld.1) hi9).mono ?_
    rintro e w11 ⟨rfl, hb⟩
    have hN := zb (w := w0) hHeld.1 hb
    clear hb hHeld
    refine hK.out _ _ (KP _ hN) (fun hHeld => ?_)
    clear hK K hN
    try simp only [Act.put, zvs, zvt, zvu]
    refine wpAnyH_ready (rs := [6, 7, 8]) (by kernel_rfl) (by simp) ?_
    refine AllReadyH.cons (o := { dst := some 17, op := _, type := _, pos := _, after := _, guard := _ }) rfl (fun K hK => ?_) (AllReadyH.cons (o := { dst := some 7, op := _, type := _, pos := _, after := _, guard := _ }) rfl (fun K hK => ?_) (AllReadyH.cons (o := { dst := some 8, op := _, type := _, pos := _, after := _, guard := _ }) rfl (fun K hK => ?_) AllReadyH.nil))
    · go_simp
      go_at_call 39
      refine (zay a1 L c1 a2 n c2 b3 b4 ws sm toh top cyc sn old cp sr k fa de sh st et en sp ao m co bm N j _ w11 HJ.out (X0.below hHeld.1 X0.lt) (H0.below hHeld.1) hj9).mono ?_
      rintro e w12 ⟨rfl, hb⟩
      have hN := zb (w := w0) hHeld.1 hb
      clear hb hHeld
      refine hK.out _ _ (KP _ hN) (fun hHeld => ?_)
      clear hK K hN
      try simp only [Act.put, zvs, zvt, zvu]
      refine wpAnyH_ready (rs := [7, 8]) (by kernel_rfl) (by simp) ?_
      refine AllReadyH.cons (o := { dst := some 7, op := _, type := _, pos := _, after := _, guard := _ }) rfl (fun K hK => ?_) (AllReadyH.cons (o := { dst := some 8, op := _, type := _, pos := _, after := _, guard := _ }) rfl (fun K hK => ?_) AllReadyH.nil)
      · go_simp
        have hN := hHeld.1.alloc hHeld.1.size (.cells #[.int .i64 0, .int .i64 0] 42)
        have xa := zd.new w12 42 #[.int .i64 0, .int .i64 0]
        have ga := hHeld.1.size
        clear hHeld
        refine hK.out _ _ (KP _ hN) (fun hHeld => ?_)
        clear hK K hN
        try simp only [Act.put, zvs, zvt, zvu]
        obtain ⟨w13, hV⟩ : ∃ V, V = w12.alloc (.cells #[.int .i64 0, .int .i64 0] 42) := ⟨_, rfl⟩
        rw [<- hV] at hHeld xa ⊢
        clear hV
        refine wpAnyH_ready (rs := [8]) (by kernel_rfl) (by simp) ?_
        refine AllReadyH.cons (o := { dst := some 8, op := _, type := _, pos := _, after := _, guard := _ }) rfl (fun K hK => ?_) AllReadyH.nil
        go_simp
        have hN := hHeld.1.alloc hHeld.1.size (.cells #[.int .i64 0, .int .i64 0] 42)
        have xb := zd.new w13 42 #[.int .i64 0, .int .i64 0]
        have gb := hHeld.1.size
        have nab := Nat.ne_of_lt xa.lt
        have nba := (Nat.ne_of_lt xa.lt).symm
        have xa := xa.alloc (.cells #[.int .i64 0, .int .i64 0] 42)
        clear hHeld
        refine hK.out _ _ (KP _ hN) (fun hHeld => ?_)
        clear hK K hN
        try simp only [Act.put, zvs, zvt, zvu]
        obtain ⟨w14, hV⟩ : ∃ V, V = w13.alloc (.cells #[.int .i64 0, .int .i64 0] 42) := ⟨_, rfl⟩
        rw [<- hV] at hHeld xa xb ⊢
        clear hV
        have ka := xa.cell
        have fa := xa.frozen
        refine wpAnyH_ready (rs := [9]) (by kernel_rfl) (by simp) ?_
        refine AllReadyH.cons (o := { dst := none, op := _, type := _, pos := _, after := _, guard := _ }) rfl (fun K hK => ?_) AllReadyH.nil
        go_simp
        have hN := (hHeld.1.setCell (p := ⟨w12.heap.size, 0, none⟩) ga (.int .i64 (rvT ws (stA N i)))).setCell (p := ⟨w12.heap.size, 1, none⟩) ga (.int .i64 (rvN ws (stA N i)))
        clear hHeld ka fa
        refine hK.out _ _ (KP _ hN) (fun hHeld => ?_)
        clear hK K hN
        try simp only [Act.put, zvs, zvt, zvu]
        have xa : zd _ _ _ #[.int .i64 (rvT ws (stA N i)), .int .i64 (rvN ws (stA N i))] := (xa.set 0 (.int .i64 (rvT ws (stA N i)))).set 1 (.int .i64 (rvN ws (stA N i)))
        have xb := (xb.other nba 0 (.int .i64 (rvT ws (stA N i)))).other nba 1 (.int .i64 (rvN ws (stA N i)))
        obtain ⟨w15, hV⟩ : ∃ V, V = ((w14.setCell ⟨w12.heap.size, 0, none⟩ (.int .i64 (rvT ws (stA N i)))).setCell ⟨w12.heap.size, 1, none⟩ (.int .i64 (rvN ws (stA N i)))) := ⟨_, rfl⟩
        rw [<- hV] at hHeld xa xb ⊢
        clear hV
        have kb := xb.cell
        have fb := xb.frozen
        refine wpAnyH_ready (rs := [10]) (by kernel_rfl) (by simp) ?_
        refine AllReadyH.cons (o := { dst := none, op := _, type := _, pos := _, after := _, guard := _ }) rfl (fun K hK => ?_) AllReadyH.nil
        go_simp
        have hN := (hHeld.1.setCell (p := ⟨w13.heap.size, 0, none⟩) gb (.int .i64 (rvT ws (stA N j)))).setCell (p := ⟨w13.heap.size, 1, none⟩) gb (.int .i64 (rvN ws (stA N j)))
        clear hHeld kb fb
        refine hK.out _ _ (KP _ hN) (fun hHeld => ?_)
        clear hK K hN
        try simp only [Act.put, zvs, zvt, zvu]
        have xa := (xa.other nab 0 (.int .i64 (rvT ws (stA N j)))).other nab 1 (.int .i64 (rvN ws (stA N j)))
        have xb : zd _ _ _ #[.int .i64 (rvT ws (stA N j)), .int .i64 (rvN ws (stA N j))] := (xb.set 0 (.int .i64 (rvT ws (stA N j)))).set 1 (.int .i64 (rvN ws (stA N j)))
        obtain ⟨w16, hV⟩ : ∃ V, V = ((w15.setCell ⟨w13.heap.size, 0, none⟩ (.int .i64 (rvT ws (stA N j)))).setCell ⟨w13.heap.size, 1, none⟩ (.int .i64 (rvN ws (stA N j)))) := ⟨_, rfl⟩
        rw [<- hV] at hHeld xa xb ⊢
        clear hV
        refine wpAnyH_done (by kernel_rfl) ?_ _
        go_wp2_with fail
        go_meet
        exact ⟨_, _, rfl, rfl, xa, xb, hHeld.1⟩
      · go_simp
        have hN := hHeld.1.alloc hHeld.1.size (.cells #[.int .i64 0, .int .i64 0] 42)
        have xb := zd.new w12 42 #[.int .i64 0, .int .i64 0]
        have gb := hHeld.1.size
        clear hHeld
        refine hK.out _ _ (KP _ hN) (fun hHeld => ?_)
        clear hK K hN
        try simp only [Act.put, zvs, zvt, zvu]
        obtain ⟨w17, hV⟩ : ∃ V, V = w12.alloc (.cells #[.int .i64 0, .int .i64 0] 42) := ⟨_, rfl⟩
        rw [<- hV] at hHeld xb ⊢
        clear hV
        refine wpAnyH_ready (rs := [7]) (by kernel_rfl) (by simp) ?_
        refine AllReadyH.cons (o := { dst := some 7, op := _, type := _, pos := _, after := _, guard := _ }) rfl (fun K hK => ?_) AllReadyH.nil
        go_simp
        have hN := hHeld.1.alloc hHeld.1.size (.cells #[.int .i64 0, .int .i64 0] 42)
        have xa := zd.new w17 42 #[.int .i64 0, .int .i64 0]
        have ga := hHeld.1.size
        have nba := Nat.ne_of_lt xb.lt
        have nab := (Nat.ne_of_lt xb.lt).symm
        have xb := xb.alloc (.cells #[.int .i64 0, .int .i64 0] 42)
        clear hHeld
        refine hK.out _ _ (KP _ hN) (fun hHeld => ?_)
        clear hK K hN
        try simp only [Act.put, zvs, zvt, zvu]
        obtain ⟨w18, hV⟩ : ∃ V, V = w17.alloc (.cells #[.int .i64 0, .int .i64 0] 42) := ⟨_, rfl⟩
        rw [<- hV] at hHeld xb xa ⊢
        clear hV
        have ka := xa.cell
        have fa := xa.frozen
        refine wpAnyH_ready (rs := [9]) (by kernel_rfl) (by simp) ?_
        refine AllReadyH.cons (o := { dst := none, op := _, type := _, pos := _, after := _, guard := _ }) rfl (fun K hK => ?_) AllReadyH.nil
        go_simp
        have hN := (hHeld.1.setCell (p := ⟨w17.heap.size, 0, none⟩) ga (.int .i64 (rvT ws (stA N i)))).setCell (p := ⟨w17.heap.size, 1, none⟩) ga (.int .i64 (rvN ws (stA N i)))
        clear hHeld ka fa
        refine hK.out _ _ (KP _ hN) (fun hHeld => ?_)
        clear hK K hN
        try simp only [Act.put, zvs, zvt, zvu]
        have xb := (xb.other nba 0 (.int .i64 (rvT ws (stA N i)))).other nba 1 (.int .i64 (rvN ws (stA N i)))
        have xa : zd _ _ _ #[.int .i64 (rvT ws (stA N i)), .int .i64 (rvN ws (stA N i))] := (xa.set 0 (.int .i64 (rvT ws (stA N i)))).set 1 (.int .i64 (rvN ws (stA N i)))
        obtain ⟨w19, hV⟩ : ∃ V, V = ((w18.setCell ⟨w17.heap.size, 0, none⟩ (.int .i64 (rvT ws (stA N i)))).setCell ⟨w17.heap.size, 1, none⟩ (.int .i64 (rvN ws (stA N i)))) := ⟨_, rfl⟩
        rw [<- hV] at hHeld xb xa ⊢
        clear hV
        have kb := xb.cell
        have fb := xb.frozen
        refine wpAnyH_ready (rs := [10]) (by kernel_rfl) (by simp) ?_
        refine AllReadyH.cons (o := { dst := none, op := _, type := _, pos := _, after := _, guard := _ }) rfl (fun K hK => ?_) AllReadyH.nil
        go_simp
        have hN := (hHeld.1.setCell (p := ⟨w12.heap.size, 0, none⟩) gb (.int .i64 (rvT ws (stA N j)))).setCell (p := ⟨w12.heap.size, 1, none⟩) gb (.int .i64 (rvN ws (stA N j)))
        clear hHeld kb fb
        refine hK.out _ _ (KP _ hN) (fun hHeld => ?_)
        clear hK K hN
        try simp only [Act.put, zvs, zvt, zvu]
        have xb : zd _ _ _ #[.int .i64 (rvT ws (stA N j)), .int .i64 (rvN ws (stA N j))] := (xb.set 0 (.int .i64 (rvT ws (stA N j)))).set 1 (.int .i64 (rvN ws (stA N j)))
        have xa := (xa.other nab 0 (.int .i64 (rvT ws (stA N j)))).other nab 1 (.int .i64 (rvN ws (stA N j)))
        obtain ⟨w20, hV⟩ : ∃ V, V = ((w19.setCell ⟨w12.heap.size, 0, none⟩ (.int .i64 (rvT ws (stA N j)))).setCell ⟨w12.heap.size, 1, none⟩ (.int .i64 (rvN ws (stA N j)))) := ⟨_, rfl⟩
        rw [<- hV] at hHeld xb xa ⊢
        clear hV
        refine wpAnyH_done (by kernel_rfl) ?_ _
        go_wp2_with fail
        go_meet
        exact ⟨_, _, rfl, rfl, xa, xb, hHeld.1⟩
    · go_simp
      have hN := hHeld.1.alloc hHeld.1.size (.cells #[.int .i64 0, .int .i64 0] 42)
      have xa := zd.new w11 42 #[.int .i64 0, .int .i64 0]
      have ga := hHeld.1.size
      clear hHeld
      refine hK.out _ _ (KP _ hN) (fun hHeld => ?_)
      clear hK K hN
      try simp only [Act.put, zvs, zvt, zvu]
      obtain ⟨w21, hV⟩ : ∃ V, V = w11.alloc (.cells #[.int .i64 0, .int .i64 0] 42) := ⟨_, rfl⟩
      rw [<- hV] at hHeld xa ⊢
      clear hV
      refine wpAnyH_ready (rs := [6, 8]) (by kernel_rfl) (by simp) ?_
      refine AllReadyH.cons (o := { dst := some 17, op := _, type := _, pos := _, after := _, guard := _ }) rfl (fun K hK => ?_) (AllReadyH.cons (o := { dst := some 8, op := _, type := _, pos := _, after := _, guard := _ }) rfl (fun K hK => ?_) AllReadyH.nil)
      · go_simp
        go_at_call 39
        refine (zay a1 L c1 a2 n c2 b3 b4 ws sm toh top cyc sn old cp sr k fa de sh st et en sp ao m co bm N j _ w21 HJ.out (X0.below hHeld.1 X0.lt) (H0.below hHeld.1) hj9).mono ?_
        rintro e w22 ⟨rfl, hb⟩
        have hN := zb (w := w0) hHeld.1 hb
        have xa := xa.below hb xa.lt
        clear hb hHeld
        refine hK.out _ _ (KP _ hN) (fun hHeld => ?_)
        clear hK K hN
        try simp only [Act.put, zvs, zvt, zvu]
        refine wpAnyH_ready (rs := [8]) (by kernel_rfl) (by simp) ?_
        refine AllReadyH.cons (o := { dst := some 8, op := _, type := _, pos := _, after := _, guard := _ }) rfl (fun K hK => ?_) AllReadyH.nil
        go_simp
        have hN := hHeld.1.alloc hHeld.1.size (.cells #[.int .i64 0, .int .i64 0] 42)
        have xb := zd.new w22 42 #[.int .i64 0, .int .i64 0]
        have gb := hHeld.1.size
        have nab := Nat.ne_of_lt xa.lt
        have nba := (Nat.ne_of_lt xa.lt).symm
        have xa := xa.alloc (.cells #[.int .i64 0, .int .i64 0] 42)
        clear hHeld
        refine hK.out _ _ (KP _ hN) (fun hHeld => ?_)
        clear hK K hN
        try simp only [Act.put, zvs, zvt, zvu]
        obtain ⟨w23, hV⟩ : ∃ V, V = w22.alloc (.cells #[.int .i64 0, .int .i64 0] 42) := ⟨_, rfl⟩
        rw [<- hV] at hHeld xa xb ⊢
        clear hV
        have ka := xa.cell
        have fa := xa.frozen
        refine wpAnyH_ready (rs := [9]) (by kernel_rfl) (by simp) ?_
        refine AllReadyH.cons (o := { dst := none, op := _, type := _, pos := _, after := _, guard := _ }) rfl (fun K hK => ?_) AllReadyH.nil
        go_simp
        have hN := (hHeld.1.setCell (p := ⟨w11.heap.size, 0, none⟩) ga (.int .i64 (rvT ws (stA N i)))).setCell (p := ⟨w11.heap.size, 1, none⟩) ga (.int .i64 (rvN ws (stA N i)))
        clear hHeld ka fa
        refine hK.out _ _ (KP _ hN) (fun hHeld => ?_)
        clear hK K hN
        try simp only [Act.put, zvs, zvt, zvu]
        have xa : zd _ _ _ #[.int .i64 (rvT ws (stA N i)), .int .i64 (rvN ws (stA N i))] := (xa.set 0 (.int .i64 (rvT ws (stA N i)))).set 1 (.int .i64 (rvN ws (stA N i)))
        have xb := (xb.other nba 0 (.int .i64 (rvT ws (stA N i)))).other nba 1 (.int .i64 (rvN ws (stA N i)))
        obtain ⟨w24, hV⟩ : ∃ V, V = ((w23.setCell ⟨w11.heap.size, 0, none⟩ (.int .i64 (rvT ws (stA N i)))).setCell ⟨w11.heap.size, 1, none⟩ (.int .i64 (rvN ws (stA N i)))) := ⟨_, rfl⟩
        rw [<- hV] at hHeld xa xb ⊢
        clear hV
        have kb := xb.cell
        have fb := xb.frozen
        refine wpAnyH_ready (rs := [10]) (by kernel_rfl) (by simp) ?_
        refine AllReadyH.cons (o := { dst := none, op := _, type := _, pos := _, after := _, guard := _ }) rfl (fun K hK => ?_) AllReadyH.nil
        go_simp
        have hN := (hHeld.1.setCell (p := ⟨w22.heap.size, 0, none⟩) gb (.int .i64 (rvT ws (stA N j)))).setCell (p := ⟨w22.heap.size, 1, none⟩) gb (.int .i64 (rvN ws (stA N j)))
        clear hHeld kb fb
        refine hK.out _ _ (KP _ hN) (fun hHeld => ?_)
        clear hK K hN
        try simp only [Act.put, zvs, zvt, zvu]
        have xa := (xa.other nab 0 (.int .i64 (rvT ws (stA N j)))).other nab 1 (.int .i64 (rvN ws (stA N j)))
        have xb : zd _ _ _ #[.int .i64 (rvT ws (stA N j)), .int .i64 (rvN ws (stA N j))] := (xb.set 0 (.int .i64 (rvT ws (stA N j)))).set 1 (.int .i64 (rvN ws (stA N j)))
        obtain ⟨w25, hV⟩ : ∃ V, V = ((w24.setCell ⟨w22.heap.size, 0, none⟩ (.int .i64 (rvT ws (stA N j)))).setCell ⟨w22.heap.size, 1, none⟩ (.int .i64 (rvN ws (stA N j)))) := ⟨_, rfl⟩
        rw [<- hV] at hHeld xa xb ⊢
        clear hV
        refine wpAnyH_done (by kernel_rfl) ?_ _
        go_wp2_with fail
        go_meet
        exact ⟨_, _, rfl, rfl, xa, xb, hHeld.1⟩
      · go_simp
        have hN := hHeld.1.alloc hHeld.1.size (.cells #[.int .i64 0, .int .i64 0] 42)
        have xb := zd.new w21 42 #[.int .i64 0, .int .i64 0]
        have gb := hHeld.1.size
        have nab := Nat.ne_of_lt xa.lt
        have nba := (Nat.ne_of_lt xa.lt).symm
        have xa := xa.alloc (.cells #[.int .i64 0, .int .i64 0] 42)
        clear hHeld
        refine hK.out _ _ (KP _ hN) (fun hHeld => ?_)
        clear hK K hN
        try simp only [Act.put, zvs, zvt, zvu]
        obtain ⟨w26, hV⟩ : ∃ V, V = w21.alloc (.cells #[.int .i64 0, .int .i64 0] 42) := ⟨_, rfl⟩
        rw [<- hV] at hHeld xa xb ⊢
        clear hV
        refine wpAnyH_ready (rs := [6]) (by kernel_rfl) (by simp) ?_
        refine AllReadyH.cons (o := { dst := some 17, op := _, type := _, pos := _, after := _, guard := _ }) rfl (fun K hK => ?_) AllReadyH.nil
        go_simp
        go_at_call 39
        refine (zay a1 L c1 a2 n c2 b3 b4 ws sm toh top cyc sn old cp sr k fa de sh st et en sp ao m co bm N j _ w26 HJ.out (X0.below hHeld.1 X0.lt) (H0.below hHeld.1) hj9).mono ?_
        rintro e w27 ⟨rfl, hb⟩
        have hN := zb (w := w0) hHeld.1 hb
        have xa := xa.below hb xa.lt
        have xb := xb.below hb xb.lt
        clear hb hHeld
        refine hK.out _ _ (KP _ hN) (fun hHeld => ?_)
        clear hK K hN
        try simp only [Act.put, zvs, zvt, zvu]
        have ka := xa.cell
        have fa := xa.frozen
        refine wpAnyH_ready (rs := [9]) (by kernel_rfl) (by simp) ?_
        refine AllReadyH.cons (o := { dst := none, op := _, type := _, pos := _, after := _, guard := _ }) rfl (fun K hK => ?_) AllReadyH.nil
        go_simp
        have hN := (hHeld.1.setCell (p := ⟨w11.heap.size, 0, none⟩) ga (.int .i64 (rvT ws (stA N i)))).setCell (p := ⟨w11.heap.size, 1, none⟩) ga (.int .i64 (rvN ws (stA N i)))
        clear hHeld ka fa
        refine hK.out _ _ (KP _ hN) (fun hHeld => ?_)
        clear hK K hN
        try simp only [Act.put, zvs, zvt, zvu]
        have xa : zd _ _ _ #[.int .i64 (rvT ws (stA N i)), .int .i64 (rvN ws (stA N i))] := (xa.set 0 (.int .i64 (rvT ws (stA N i)))).set 1 (.int .i64 (rvN ws (stA N i)))
        have xb := (xb.other nba 0 (.int .i64 (rvT ws (stA N i)))).other nba 1 (.int .i64 (rvN ws (stA N i)))
        obtain ⟨w28, hV⟩ : ∃ V, V = ((w27.setCell ⟨w11.heap.size, 0, none⟩ (.int .i64 (rvT ws (stA N i)))).setCell ⟨w11.heap.size, 1, none⟩ (.int .i64 (rvN ws (stA N i)))) := ⟨_, rfl⟩
        rw [<- hV] at hHeld xa xb ⊢
        clear hV
        have kb := xb.cell
        have fb := xb.frozen
        refine wpAnyH_ready (rs := [10]) (by kernel_rfl) (by simp) ?_
        refine AllReadyH.cons (o := { dst := none, op := _, type := _, pos := _, after := _, guard := _ }) rfl (fun K hK => ?_) AllReadyH.nil
        go_simp
        have hN := (hHeld.1.setCell (p := ⟨w21.heap.size, 0, none⟩) gb (.int .i64 (rvT ws (stA N j)))).setCell (p := ⟨w21.heap.size, 1, none⟩) gb (.int .i64 (rvN ws (stA N j)))
        clear hHeld kb fb
        refine hK.out _ _ (KP _ hN) (fun hHeld => ?_)
        clear hK K hN
        try simp only [Act.put, zvs, zvt, zvu]
        have xa := (xa.other nab 0 (.int .i64 (rvT ws (stA N j)))).other nab 1 (.int .i64 (rvN ws (stA N j)))
        have xb : zd _ _ _ #[.int .i64 (rvT ws (stA N j)), .int .i64 (rvN ws (stA N j))] := (xb.set 0 (.int .i64 (rvT ws (stA N j)))).set 1 (.int .i64 (rvN ws (stA N j)))
        obtain ⟨w29, hV⟩ : ∃ V, V = ((w28.setCell ⟨w21.heap.size, 0, none⟩ (.int .i64 (rvT ws (stA N j)))).setCell ⟨w21.heap.size, 1, none⟩ (.int .i64 (rvN ws (stA N j)))) := ⟨_, rfl⟩
        rw [<- hV] at hHeld xa xb ⊢
        clear hV
        refine wpAnyH_done (by kernel_rfl) ?_ _
        go_wp2_with fail
        go_meet
        exact ⟨_, _, rfl, rfl, xa, xb, hHeld.1⟩
    · go_simp
      have hN := hHeld.1.alloc hHeld.1.size (.cells #[.int .i64 0, .int .i64 0] 42)
      have xb := zd.new w11 42 #[.int .i64 0, .int .i64 0]
      have gb := hHeld.1.size
      clear hHeld
      refine hK.out _ _ (KP _ hN) (fun hHeld => ?_)
      clear hK K hN
      try simp only [Act.put, zvs, zvt, zvu]
      obtain ⟨w30, hV⟩ : ∃ V, V = w11.alloc (.cells #[.int .i64 0, .int .i64 0] 42) := ⟨_, rfl⟩
      rw [<- hV] at hHeld xb ⊢
      clear hV
      refine wpAnyH_ready (rs := [6, 7]) (by kernel_rfl) (by simp) ?_
      refine AllReadyH.cons (o := { dst := some 17, op := _, type := _, pos := _, after := _, guard := _ }) rfl (fun K hK => ?_) (AllReadyH.cons (o := { dst := some 7, op := _, type := _, pos := _, after := _, guard := _ }) rfl (fun K hK => ?_) AllReadyH.nil)
      · go_simp
        go_at_call 39
        refine (zay a1 L c1 a2 n c2 b3 b4 ws sm toh top cyc sn old cp sr k fa de sh st et en sp ao m co bm N j _ w30 HJ.out (X0.below hHeld.1 X0.lt) (H0.below hHeld.1) hj9).mono ?_
        rintro e w31 ⟨rfl, hb⟩
        have hN := zb (w := w0) hHeld.1 hb
        have xb := xb.below hb xb.lt
        clear hb hHeld
        refine hK.out _ _ (KP _ hN) (fun hHeld => ?_)
        clear hK K hN
        try simp only [Act.put, zvs, zvt, zvu]
        refine wpAnyH_ready (rs := [7]) (by kernel_rfl) (by simp) ?_
        refine AllReadyH.cons (o := { dst := some 7, op := _, type := _, pos := _, after := _, guard := _ }) rfl (fun K hK => ?_) AllReadyH.nil
        go_simp
        have hN := hHeld.1.alloc hHeld.1.size (.cells #[.int .i64 0, .int .i64 0] 42)
        have xa := zd.new w31 42 #[.int .i64 0, .int .i64 0]
        have ga := hHeld.1.size
        have nba := Nat.ne_of_lt xb.lt
        have nab := (Nat.ne_of_lt xb.lt).symm
        have xb := xb.alloc (.cells #[.int .i64 0, .int .i64 0] 42)
        clear hHeld
        refine hK.out _ _ (KP _ hN) (fun hHeld => ?_)
        clear hK K hN
        try simp only [Act.put, zvs, zvt, zvu]
        obtain ⟨w32, hV⟩ : ∃ V, V = w31.alloc (.cells #[.int .i64 0, .int .i64 0] 42) := ⟨_, rfl⟩
        rw [<- hV] at hHeld xb xa ⊢
        clear hV
        have ka := xa.cell
        have fa := xa.frozen
        refine wpAnyH_ready (rs := [9]) (by kernel_rfl) (by simp) ?_
        refine AllReadyH.cons (o := { dst := none, op := _, type := _, pos := _, after := _, guard := _ }) rfl (fun K hK => ?_) AllReadyH.nil
        go_simp
        have hN := (hHeld.1.setCell (p := ⟨w31.heap.size, 0, none⟩) ga (.int .i64 (rvT ws (stA N i)))).setCell (p := ⟨w31.heap.size, 1, none⟩) ga (.int .i64 (rvN ws (stA N i)))
        clear hHeld ka fa
        refine hK.out _ _ (KP _ hN) (fun hHeld => ?_)
        clear hK K hN
        try simp only [Act.put, zvs, zvt, zvu]
        have xb := (xb.other nba 0 (.int .i64 (rvT ws (stA N i)))).other nba 1 (.int .i64 (rvN ws (stA N i)))
        have xa : zd _ _ _ #[.int .i64 (rvT ws (stA N i)), .int .i64 (rvN ws (stA N i))] := (xa.set 0 (.int .i64 (rvT ws (stA N i)))).set 1 (.int .i64 (rvN ws (stA N i)))
        obtain ⟨w33, hV⟩ : ∃ V, V = ((w32.setCell ⟨w31.heap.size, 0, none⟩ (.int .i64 (rvT ws (stA N i)))).setCell ⟨w31.heap.size, 1, none⟩ (.int .i64 (rvN ws (stA N i)))) := ⟨_, rfl⟩
        rw [<- hV] at hHeld xb xa ⊢
        clear hV
        have kb := xb.cell
        have fb := xb.frozen
        refine wpAnyH_ready (rs := [10]) (by kernel_rfl) (by simp) ?_
        refine AllReadyH.cons (o := { dst := none, op := _, type := _, pos := _, after := _, guard := _ }) rfl (fun K hK => ?_) AllReadyH.nil
        go_simp
        have hN := (hHeld.1.setCell (p := ⟨w11.heap.size, 0, none⟩) gb (.int .i64 (rvT ws (stA N j)))).setCell (p := ⟨w11.heap.size, 1, none⟩) gb (.int .i64 (rvN ws (stA N j)))
        clear hHeld kb fb
        refine hK.out _ _ (KP _ hN) (fun hHeld => ?_)
        clear hK K hN
        try simp only [Act.put, zvs, zvt, zvu]
        have xb : zd _ _ _ #[.int .i64 (rvT ws (stA N j)), .int .i64 (rvN ws (stA N j))] := (xb.set 0 (.int .i64 (rvT ws (stA N j)))).set 1 (.int .i64 (rvN ws (stA N j)))
        have xa := (xa.other nab 0 (.int .i64 (rvT ws (stA N j)))).other nab 1 (.int .i64 (rvN ws (stA N j)))
        obtain ⟨w34, hV⟩ : ∃ V, V = ((w33.setCell ⟨w11.heap.size, 0, none⟩ (.int .i64 (rvT ws (stA N j)))).setCell ⟨w11.heap.size, 1, none⟩ (.int .i64 (rvN ws (stA N j)))) := ⟨_, rfl⟩
        rw [<- hV] at hHeld xb xa ⊢
        clear hV
        refine wpAnyH_done (by kernel_rfl) ?_ _
        go_wp2_with fail
        go_meet
        exact ⟨_, _, rfl, rfl, xa, xb, hHeld.1⟩
      · go_simp
        have hN := hHeld.1.alloc hHeld.1.size (.cells #[.int .i64 0, .int .i64 0] 42)
        have xa := zd.new w30 42 #[.int .i64 0, .int .i64 0]
        have ga := hHeld.1.size
        have nba := Nat.ne_of_lt xb.lt
        have nab := (Nat.ne_of_lt xb.lt).symm
        have xb := xb.alloc (.cells #[.int .i64 0, .int .i64 0] 42)
        clear hHeld
        refine hK.out _ _ (KP _ hN) (fun hHeld => ?_)
        clear hK K hN
        try simp only [Act.put, zvs, zvt, zvu]
        obtain ⟨w35, hV⟩ : ∃ V, V = w30.alloc (.cells #[.int .i64 0, .int .i64 0] 42) := ⟨_, rfl⟩
        rw [<- hV] at hHeld xb xa ⊢
        clear hV
        refine wpAnyH_ready (rs := [6]) (by kernel_rfl) (by simp) ?_
        refine AllReadyH.cons (o := { dst := some 17, op := _, type := _, pos := _, after := _, guard := _ }) rfl (fun K hK => ?_) AllReadyH.nil
        go_simp
        go_at_call 39
        refine (zay a1 L c1 a2 n c2 b3 b4 ws sm toh top cyc sn old cp sr k fa de sh st et en sp ao m co bm N j _ w35 HJ.out (X0.below hHeld.1 X0.lt) (H0.below hHeld.1) hj9).mono ?_
        rintro e w36 ⟨rfl, hb⟩
        have hN := zb (w := w0) hHeld.1 hb
        have xb := xb.below hb xb.lt
        have xa := xa.below hb xa.lt
        clear hb hHeld
        refine hK.out _ _ (KP _ hN) (fun hHeld => ?_)
        clear hK K hN
        try simp only [Act.put, zvs, zvt, zvu]
        have ka := xa.cell
        have fa := xa.frozen
        refine wpAnyH_ready (rs := [9]) (by kernel_rfl) (by simp) ?_
        refine AllReadyH.cons (o := { dst := none, op := _, type := _, pos := _, after := _, guard := _ }) rfl (fun K hK => ?_) AllReadyH.nil
        go_simp
        have hN := (hHeld.1.setCell (p := ⟨w30.heap.size, 0, none⟩) ga (.int .i64 (rvT ws (stA N i)))).setCell (p := ⟨w30.heap.size, 1, none⟩) ga (.int .i64 (rvN ws (stA N i)))
        clear hHeld ka fa
        refine hK.out _ _ (KP _ hN) (fun hHeld => ?_)
        clear hK K hN
        try simp only [Act.put, zvs, zvt, zvu]
        have xb := (xb.other nba 0 (.int .i64 (rvT ws (stA N i)))).other nba 1 (.int .i64 (rvN ws (stA N i)))
        have xa : zd _ _ _ #[.int .i64 (rvT ws (stA N i)), .int .i64 (rvN ws (stA N i))] := (xa.set 0 (.int .i64 (rvT ws (stA N i)))).set 1 (.int .i64 (rvN ws (stA N i)))
        obtain ⟨w37, hV⟩ : ∃ V, V = ((w36.setCell ⟨w30.heap.size, 0, none⟩ (.int .i64 (rvT ws (stA N i)))).setCell ⟨w30.heap.size, 1, none⟩ (.int .i64 (rvN ws (stA N i)))) := ⟨_, rfl⟩
        rw [<- hV] at hHeld xb xa ⊢
        clear hV
        have kb := xb.cell
        have fb := xb.frozen
        refine wpAnyH_ready (rs := [10]) (by kernel_rfl) (by simp) ?_
        refine AllReadyH.cons (o := { dst := none, op := _, type := _, pos := _, after := _, guard := _ }) rfl (fun K hK => ?_) AllReadyH.nil
        go_simp
        have hN := (hHeld.1.setCell (p := ⟨w11.heap.size, 0, none⟩) gb (.int .i64 (rvT ws (stA N j)))).setCell (p := ⟨w11.heap.size, 1, none⟩) gb (.int .i64 (rvN ws (stA N j)))
        clear hHeld kb fb
        refine hK.out _ _ (KP _ hN) (fun hHeld => ?_)
        clear hK K hN
        try simp only [Act.put, zvs, zvt, zvu]
        have xb : zd _ _ _ #[.int .i64 (rvT ws (stA N j)), .int .i64 (rvN ws (stA N j))] := (xb.set 0 (.int .i64 (rvT ws (stA N j)))).set 1 (.int .i64 (rvN ws (stA N j)))
        have xa := (xa.other nab 0 (.int .i64 (rvT ws (stA N j)))).other nab 1 (.int .i64 (rvN ws (stA N j)))
        obtain ⟨w38, hV⟩ : ∃ V, V = ((w37.setCell ⟨w11.heap.size, 0, none⟩ (.int .i64 (rvT ws (stA N j)))).setCell ⟨w11.heap.size, 1, none⟩ (.int .i64 (rvN ws (stA N j)))) := ⟨_, rfl⟩
        rw [<- hV] at hHeld xb xa ⊢
        clear hV
        refine wpAnyH_done (by kernel_rfl) ?_ _
        go_wp2_with fail
        go_meet
        exact ⟨_, _, rfl, rfl, xa, xb, hHeld.1⟩
  · go_simp
    have hN := hHeld.1.alloc hHeld.1.size (.cells #[.int .i64 0, .int .i64 0] 42)
    have xa := zd.new wd 42 #[.int .i64 0, .int .i64 0]
    have ga := hHeld.1.size
    clear hHeld
    refine hK.out _ _ (KP _ hN) (fun hHeld => ?_)
    clear hK K hN
    try simp only [Act.put, zvs, zvt, zvu]
    obtain ⟨w39, hV⟩ : ∃ V, V = wd.alloc (.cells #[.int .i64 0, .int .i64 0] 42) := ⟨_, rfl⟩
    rw [<- hV] at hHeld xa ⊢
    clear hV
    refine wpAnyH_ready (rs := [2, 8]) (by kernel_rfl) (by simp) ?_
    refine AllReadyH.cons (o := { dst := some 13, op := _, type := _, pos := _, after := _, guard := _ }) rfl (fun K hK => ?_) (AllReadyH.cons (o := { dst := some 8, op := _, type := _, pos := _, after := _, guard := _ }) rfl (fun K hK => ?_) AllReadyH.nil)
    · go_simp
      go_at_call 39
      refine (zay a1 L c1 a2 n c2 b3 b4 ws sm toh top cyc sn old cp sr k fa de sh st et en sp ao m co bm N i _ w39 HI.out (X0.below hHeld.1 X0.lt) (H0.below hHeld.1) hi9).mono ?_
      rintro e w40 ⟨rfl, hb⟩
      have hN := zb (w := w0) hHeld.1 hb
      have xa := xa.below hb xa.lt
      clear hb hHeld
      refine hK.out _ _ (KP _ hN) (fun hHeld => ?_)
      clear hK K hN
      try simp only [Act.put, zvs, zvt, zvu]
      refine wpAnyH_ready (rs := [6, 8]) (by kernel_rfl) (by simp) ?_
      refine AllReadyH.cons (o := { dst := some 17, op := _, type := _, pos := _, after := _, guard := _ }) rfl (fun K hK => ?_) (AllReadyH.cons (o := { dst := some 8, op := _, type := _, pos := _, after := _, guard := _ }) rfl (fun K hK => ?_) AllReadyH.nil)
      · go_simp
        go_at_call 39
        refine (zay a1 L c1 a2 n c2 b3 b4 ws sm toh top cyc sn old cp sr k fa de sh st et en sp ao m co bm N j _ w40 HJ.out (X0.below hHeld.1 X0.lt) (H0.below hHeld.1) hj9).mono ?_
        rintro e w41 ⟨rfl, hb⟩
        have hN := zb (w := w0) hHeld.1 hb
        have xa := xa.below hb xa.lt
        clear hb hHeld
        refine hK.out _ _ (KP _ hN) (fun hHeld => ?_)
        clear hK K hN
        try simp only [Act.put, zvs, zvt, zvu]
        refine wpAnyH_ready (rs := [8]) (by kernel_rfl) (by simp) ?_
        refine AllReadyH.cons (o := { dst := some 8, op := _, type := _, pos := _, after := _, guard := _ }) rfl (fun K hK => ?_) AllReadyH.nil
        go_simp
        have hN := hHeld.1.alloc hHeld.1.size (.cells #[.int .i64 0, .int .i64 0] 42)
        have xb := zd.new w41 42 #[.int .i64 0, .int .i64 0]
        have gb := hHeld.1.size
        have nab := Nat.ne_of_lt xa.lt
        have nba := (Nat.ne_of_lt xa.lt).symm
        have xa := xa.alloc (.cells #[.int .i64 0, .int .i64 0] 42)
        clear hHeld
        refine hK.out _ _ (KP _ hN) (fun hHeld => ?_)
        clear hK K hN
        try simp only [Act.put, zvs, zvt, zvu]
        obtain ⟨w42, hV⟩ : ∃ V, V = w41.alloc (.cells #[.int .i64 0, .int .i64 0] 42) := ⟨_, rfl⟩
        rw [<- hV] at hHeld xa xb ⊢
        clear hV
        have ka := xa.cell
        have fa := xa.frozen
        refine wpAnyH_ready (rs := [9]) (by kernel_rfl) (by simp) ?_
        refine AllReadyH.cons (o := { dst := none, op := _, type := _, pos := _, after := _, guard := _ }) rfl (fun K hK => ?_) AllReadyH.nil
        go_simp
        have hN := (hHeld.1.setCell (p := ⟨wd.heap.size, 0, none⟩) ga (.int .i64 (rvT ws (stA N i)))).setCell (p := ⟨wd.heap.size, 1, none⟩) ga (.int .i64 (rvN ws (stA N i)))
        clear hHeld ka fa
        refine hK.out _ _ (KP _ hN) (fun hHeld => ?_)
        clear hK K hN
        try simp only [Act.put, zvs, zvt, zvu]
        have xa : zd _ _ _ #[.int .i64 (rvT ws (stA N i)), .int .i64 (rvN ws (stA N i))] := (xa.set 0 (.int .i64 (rvT ws (stA N i)))).set 1 (.int .i64 (rvN ws (stA N i)))
        have xb := (xb.other nba 0 (.int .i64 (rvT ws (stA N i)))).other nba 1 (.int .i64 (rvN ws (stA N i)))
        obtain ⟨w43, hV⟩ : ∃ V, V = ((w42.setCell ⟨wd.heap.size, 0, none⟩ (.int .i64 (rvT ws (stA N i)))).setCell ⟨wd.heap.size, 1, none⟩ (.int .i64 (rvN ws (stA N i)))) := ⟨_, rfl⟩
        rw [<- hV] at hHeld xa xb ⊢
        clear hV
        have kb := xb.cell
        have fb := xb.frozen
        refine wpAnyH_ready (rs := [10]) (by kernel_rfl) (by simp) ?_
        refine AllReadyH.cons (o := { dst := none, op := _, type := _, pos := _, after := _, guard := _ }) rfl (fun K hK => ?_) AllReadyH.nil
        go_simp
        have hN := (hHeld.1.setCell (p := ⟨w41.heap.size, 0, none⟩) gb (.int .i64 (rvT ws (stA N j)))).setCell (p := ⟨w41.heap.size, 1, none⟩) gb (.int .i64 (rvN ws (stA N j)))
        clear hHeld kb fb
        refine hK.out _ _ (KP _ hN) (fun hHeld => ?_)
        clear hK K hN
        try simp only [Act.put, zvs, zvt, zvu]
        have xa := (xa.other nab 0 (.int .i64 (rvT ws (stA N j)))).other nab 1 (.int .i64 (rvN ws (stA N j)))
        have xb : zd _ _ _ #[.int .i64 (rvT ws (stA N j)), .int .i64 (rvN ws (stA N j))] := (xb.set 0 (.int .i64 (rvT ws (stA N j)))).set 1 (.int .i64 (rvN ws (stA N j)))
        obtain ⟨w44, hV⟩ : ∃ V, V = ((w43.setCell ⟨w41.heap.size, 0, none⟩ (.int .i64 (rvT ws (stA N j)))).setCell ⟨w41.heap.size, 1, none⟩ (.int .i64 (rvN ws (stA N j)))) := ⟨_, rfl⟩
        rw [<- hV] at hHeld xa xb ⊢
        clear hV
        refine wpAnyH_done (by kernel_rfl) ?_ _
        go_wp2_with fail
        go_meet
        exact ⟨_, _, rfl, rfl, xa, xb, hHeld.1⟩
      · go_simp
        have hN := hHeld.1.alloc hHeld.1.size (.cells #[.int .i64 0, .int .i64 0] 42)
        have xb := zd.new w40 42 #[.int .i64 0, .int .i64 0]
        have gb := hHeld.1.size
        have nab := Nat.ne_of_lt xa.lt
        have nba := (Nat.ne_of_lt xa.lt).symm
        have xa := xa.alloc (.cells #[.int .i64 0, .int .i64 0] 42)
        clear hHeld
        refine hK.out _ _ (KP _ hN) (fun hHeld => ?_)
        clear hK K hN
        try simp only [Act.put, zvs, zvt, zvu]
        obtain ⟨w45, hV⟩ : ∃ V, V = w40.alloc (.cells #[.int .i64 0, .int .i64 0] 42) := ⟨_, rfl⟩
        rw [<- hV] at hHeld xa xb ⊢
        clear hV
        refine wpAnyH_ready (rs := [6]) (by kernel_rfl) (by simp) ?_
        refine AllReadyH.cons (o := { dst := some 17, op := _, type := _, pos := _, after := _, guard := _ }) rfl (fun K hK => ?_) AllReadyH.nil
        go_simp
        go_at_call 39
        refine (zay a1 L c1 a2 n c2 b3 b4 ws sm toh top cyc sn old cp sr k fa de sh st et en sp ao m co bm N j _ w45 HJ.out (X0.below hHeld.1 X0.lt) (H0.below hHeld.1) hj9).mono ?_
        rintro e w46 ⟨rfl, hb⟩
        have hN := zb (w := w0) hHeld.1 hb
        have xa := xa.below hb xa.lt
        have xb := xb.below hb xb.lt
        clear hb hHeld
        refine hK.out _ _ (KP _ hN) (fun hHeld => ?_)
        clear hK K hN
        try simp only [Act.put, zvs, zvt, zvu]
        have ka := xa.cell
        have fa := xa.frozen
        refine wpAnyH_ready (rs := [9]) (by kernel_rfl) (by simp) ?_
        refine AllReadyH.cons (o := { dst := none, op := _, type := _, pos := _, after := _, guard := _ }) rfl (fun K hK => ?_) AllReadyH.nil
        go_simp
        have hN := (hHeld.1.setCell (p := ⟨wd.heap.size, 0, none⟩) ga (.int .i64 (rvT ws (stA N i)))).setCell (p := ⟨wd.heap.size, 1, none⟩) ga (.int .i64 (rvN ws (stA N i)))
        clear hHeld ka fa
        refine hK.out _ _ (KP _ hN) (fun hHeld => ?_)
        clear hK K hN
        try simp only [Act.put, zvs, zvt, zvu]
        have xa : zd _ _ _ #[.int .i64 (rvT ws (stA N i)), .int .i64 (rvN ws (stA N i))] := (xa.set 0 (.int .i64 (rvT ws (stA N i)))).set 1 (.int .i64 (rvN ws (stA N i)))
        have xb := (xb.other nba 0 (.int .i64 (rvT ws (stA N i)))).other nba 1 (.int .i64 (rvN ws (stA N i)))
        obtain ⟨w47, hV⟩ : ∃ V, V = ((w46.setCell ⟨wd.heap.size, 0, none⟩ (.int .i64 (rvT ws (stA N i)))).setCell ⟨wd.heap.size, 1, none⟩ (.int .i64 (rvN ws (stA N i)))) := ⟨_, rfl⟩
        rw [<- hV] at hHeld xa xb ⊢
        clear hV
        have kb := xb.cell
        have fb := xb.frozen
        refine wpAnyH_ready (rs := [10]) (by kernel_rfl) (by simp) ?_
        refine AllReadyH.cons (o := { dst := none, op := _, type := _, pos := _, after := _, guard := _ }) rfl (fun K hK => ?_) AllReadyH.nil
        go_simp
        have hN := (hHeld.1.setCell (p := ⟨w40.heap.size, 0, none⟩) gb (.int .i64 (rvT ws (stA N j)))).setCell (p := ⟨w40.heap.size, 1, none⟩) gb (.int .i64 (rvN ws (stA N j)))
        clear hHeld kb fb
        refine hK.out _ _ (KP _ hN) (fun hHeld => ?_)
        clear hK K hN
        try simp only [Act.put, zvs, zvt, zvu]
        have xa := (xa.other nab 0 (.int .i64 (rvT ws (stA N j)))).other nab 1 (.int .i64 (rvN ws (stA N j)))
        have xb : zd _ _ _ #[.int .i64 (rvT ws (stA N j)), .int .i64 (rvN ws (stA N j))] := (xb.set 0 (.int .i64 (rvT ws (stA N j)))).set 1 (.int .i64 (rvN ws (stA N j)))
        obtain ⟨w48, hV⟩ : ∃ V, V = ((w47.setCell ⟨w40.heap.size, 0, none⟩ (.int .i64 (rvT ws (stA N j)))).setCell ⟨w40.heap.size, 1, none⟩ (.int .i64 (rvN ws (stA N j)))) := ⟨_, rfl⟩
        rw [<- hV] at hHeld xa xb ⊢
        clear hV
        refine wpAnyH_done (by kernel_rfl) ?_ _
        go_wp2_with fail
        go_meet
        exact ⟨_, _, rfl, rfl, xa, xb, hHeld.1⟩
    · go_simp
      have hN := hHeld.1.alloc hHeld.1.size (.cells #[.int .i64 0, .int .i64 0] 42)
      have xb := zd.new w39 42 #[.int .i64 0, .int .i64 0]
      have gb := hHeld.1.size
      have nab := Nat.ne_of_lt xa.lt
      have nba := (Nat.ne_of_lt xa.lt).symm
      have xa := xa.alloc (.cells #[.int .i64 0, .int .i64 0] 42)
      clear hHeld
      refine hK.out _ _ (KP _ hN) (fun hHeld => ?_)
      clear hK K hN
      try simp only [Act.put, zvs, zvt, zvu]
      obtain ⟨w49, hV⟩ : ∃ V, V = w39.alloc (.cells #[.int .i64 0, .int .i64 0] 42) := ⟨_, rfl⟩
      rw [<- hV] at hHeld xa xb ⊢
      clear hV
      refine wpAnyH_ready (rs := [2]) (by kernel_rfl) (by simp) ?_
      refine AllReadyH.cons (o := { dst := some 13, op := _, type := _, pos := _, after := _, guard := _ }) rfl (fun K hK => ?_) AllReadyH.nil
      go_simp
      go_at_call 39
      refine (zay a1 L c1 a2 n c2 b3 b4 ws sm toh top cyc sn old cp sr k fa de sh st et en sp ao m co bm N i _ w49 HI.out (X0.below hHeld.1 X0.lt) (H0.below hHeld.1) hi9).mono ?_
      rintro e w50 ⟨rfl, hb⟩
      have hN := zb (w := w0) hHeld.1 hb
      have xa := xa.below hb xa.lt
      have xb := xb.below hb xb.lt
      clear hb hHeld
      refine hK.out _ _ (KP _ hN) (fun hHeld => ?_)
      clear hK K hN
      try simp only [Act.put, zvs, zvt, zvu]
      refine wpAnyH_ready (rs := [6]) (by kernel_rfl) (by simp) ?_
      refine AllReadyH.cons (o := { dst := some 17, op := _, type := _, pos := _, after := _, guard := _ }) rfl (fun K hK => ?_) AllReadyH.nil
      go_simp
      go_at_call 39
      refine (zay a1 L c1 a2 n c2 b3 b4 ws sm toh top cyc sn old cp sr k fa de sh st et en sp ao m co bm N j _ w50 HJ.out (X0.below hHeld.1 X0.lt) (H0.below hHeld.1) hj9).mono ?_
      rintro e w51 ⟨rfl, hb⟩
      have hN := zb (w := w0) hHeld.1 hb
      have xa := xa.below hb xa.lt
      have xb := xb.below hb xb.lt
      clear hb hHeld
      refine hK.out _ _ (KP _ hN) (fun hHeld => ?_)
      clear hK K hN
      try simp only [Act.put, zvs, zvt, zvu]
      have ka := xa.cell
      have fa := xa.frozen
      refine wpAnyH_ready (rs := [9]) (by kernel_rfl) (by simp) ?_
      refine AllReadyH.cons (o := { dst := none, op := _, type := _, pos := _, after := _, guard := _ }) rfl (fun K hK => ?_) AllReadyH.nil
      go_simp
      have hN := (hHeld.1.setCell (p := ⟨wd.heap.size, 0, none⟩) ga (.int .i64 (rvT ws (stA N i)))).setCell (p := ⟨wd.heap.size, 1, none⟩) ga (.int .i64 (rvN ws (stA N i)))
      clear hHeld ka fa
      refine hK.out _ _ (KP _ hN) (fun hHeld => ?_)
      clear hK K hN
      try simp only [Act.put, zvs, zvt, zvu]
      have xa : zd _ _ _ #[.int .i64 (rvT ws (stA N i)), .int .i64 (rvN ws (stA N i))] := (xa.set 0 (.int .i64 (rvT ws (stA N i)))).set 1 (.int .i64 (rvN ws (stA N i)))
      have xb := (xb.other nba 0 (.int .i64 (rvT ws (stA N i)))).other nba 1 (.int .i64 (rvN ws (stA N i)))
      obtain ⟨w52, hV⟩ : ∃ V, V = ((w51.setCell ⟨wd.heap.size, 0, none⟩ (.int .i64 (rvT ws (stA N i)))).setCell ⟨wd.heap.size, 1, none⟩ (.int .i64 (rvN ws (stA N i)))) := ⟨_, rfl⟩
      rw [<- hV] at hHeld xa xb ⊢
      clear hV
      have kb := xb.cell
      have fb := xb.frozen
      refine wpAnyH_ready (rs := [10]) (by kernel_rfl) (by simp) ?_
      refine AllReadyH.cons (o := { dst := none, op := _, type := _, pos := _, after := _, guard := _ }) rfl (fun K hK => ?_) AllReadyH.nil
      go_simp
      have hN := (hHeld.1.setCell (p := ⟨w39.heap.size, 0, none⟩) gb (.int .i64 (rvT ws (stA N j)))).setCell (p := ⟨w39.heap.size, 1, none⟩) gb (.int .i64 (rvN ws (stA N j)))
      clear hHeld kb fb
      refine hK.out _ _ (KP _ hN) (fun hHeld => ?_)
      clear hK K hN
      try simp only [Act.put, zvs, zvt, zvu]
      have xa := (xa.other nab 0 (.int .i64 (rvT ws (stA N j)))).other nab 1 (.int .i64 (rvN ws (stA N j)))
      have xb : zd _ _ _ #[.int .i64 (rvT ws (stA N j)), .int .i64 (rvN ws (stA N j))] := (xb.set 0 (.int .i64 (rvT ws (stA N j)))).set 1 (.int .i64 (rvN ws (stA N j)))
      obtain ⟨w53, hV⟩ : ∃ V, V = ((w52.setCell ⟨w39.heap.size, 0, none⟩ (.int .i64 (rvT ws (stA N j)))).setCell ⟨w39.heap.size, 1, none⟩ (.int .i64 (rvN ws (stA N j)))) := ⟨_, rfl⟩
      rw [<- hV] at hHeld xa xb ⊢
      clear hV
      refine wpAnyH_done (by kernel_rfl) ?_ _
      go_wp2_with fail
      go_meet
      exact ⟨_, _, rfl, rfl, xa, xb, hHeld.1⟩
  · go_simp
    have hN := hHeld.1.alloc hHeld.1.size (.cells #[.int .i64 0, .int .i64 0] 42)
    have xb := zd.new wd 42 #[.int .i64 0, .int .i64 0]
    have gb := hHeld.1.size
    clear hHeld
    refine hK.out _ _ (KP _ hN) (fun hHeld => ?_)
    clear hK K hN
    try simp only [Act.put, zvs, zvt, zvu]
    obtain ⟨w54, hV⟩ : ∃ V, V = wd.alloc (.cells #[.int .i64 0, .int .i64 0] 42) := ⟨_, rfl⟩
    rw [<- hV] at hHeld xb ⊢
    clear hV
    refine wpAnyH_ready (rs := [2, 7]) (by kernel_rfl) (by simp) ?_
    refine AllReadyH.cons (o := { dst := some 13, op := _, type := _, pos := _, after := _, guard := _ }) rfl (fun K hK => ?_) (AllReadyH.cons (o := { dst := some 7, op := _, type := _, pos := _, after := _, guard := _ }) rfl (fun K hK => ?_) AllReadyH.nil)
    · go_simp
      go_at_call 39
      refine (zay a1 L c1 a2 n c2 b3 b4 ws sm toh top cyc sn old cp sr k fa de sh st et en sp ao m co bm N i _ w54 HI.out (X0.below hHeld.1 X0.lt) (H0.below hHeld.1) hi9).mono ?_
      rintro e w55 ⟨rfl, hb⟩
      have hN := zb (w := w0) hHeld.1 hb
      have xb := xb.below hb xb.lt
      clear hb hHeld
      refine hK.out _ _ (KP _ hN) (fun hHeld => ?_)
      clear hK K hN
      try simp only [Act.put, zvs, zvt, zvu]
      refine wpAnyH_ready (rs := [6, 7]) (by kernel_rfl) (by simp) ?_
      refine AllReadyH.cons (o := { dst := some 17, op := _, type := _, pos := _, after := _, guard := _ }) rfl (fun K hK => ?_) (AllReadyH.cons (o := { dst := some 7, op := _, type := _, pos := _, after := _, guard := _ }) rfl (fun K hK => ?_) AllReadyH.nil)
      · go_simp
        go_at_call 39
        refine (zay a1 L c1 a2 n c2 b3 b4 ws sm toh top cyc sn old cp sr k fa de sh st et en sp ao m co bm N j _ w55 HJ.out (X0.below hHeld.1 X0.lt) (H0.below hHeld.1) hj9).mono ?_
        rintro e w56 ⟨rfl, hb⟩
        have hN := zb (w := w0) hHeld.1 hb
        have xb := xb.below hb xb.lt
        clear hb hHeld
        refine hK.out _ _ (KP _ hN) (fun hHeld => ?_)
        clear hK K hN
        try simp only [Act.put, zvs, zvt, zvu]
        refine wpAnyH_ready (rs := [7]) (by kernel_rfl) (by simp) ?_
        refine AllReadyH.cons (o := { dst := some 7, op := _, type := _, pos := _, after := _, guard := _ }) rfl (fun K hK => ?_) AllReadyH.nil
        go_simp
        have hN := hHeld.1.alloc hHeld.1.size (.cells #[.int .i64 0, .int .i64 0] 42)
        have xa := zd.new w56 42 #[.int .i64 0, .int .i64 0]
        have ga := hHeld.1.size
        have nba := Nat.ne_of_lt xb.lt
        have nab := (Nat.ne_of_lt xb.lt).symm
        have xb := xb.alloc (.cells #[.int .i64 0, .int .i64 0] 42)
        clear hHeld
        refine hK.out _ _ (KP _ hN) (fun hHeld => ?_)
        clear hK K hN
        try simp only [Act.put, zvs, zvt, zvu]
        obtain ⟨w57, hV⟩ : ∃ V, V = w56.alloc (.cells #[.int .i64 0, .int .i64 0] 42) := ⟨_, rfl⟩
        rw [<- hV] at hHeld xb xa ⊢
        clear hV
        have ka := xa.cell
        have fa := xa.frozen
        refine wpAnyH_ready (rs := [9]) (by kernel_rfl) (by simp) ?_
        refine AllReadyH.cons (o := { dst := none, op := _, type := _, pos := _, after := _, guard := _ }) rfl (fun K hK => ?_) AllReadyH.nil
        go_simp
        have hN := (hHeld.1.setCell (p := ⟨w56.heap.size, 0, none⟩) ga (.int .i64 (rvT ws (stA N i)))).setCell (p := ⟨w56.heap.size, 1, none⟩) ga (.int .i64 (rvN ws (stA N i)))
        clear hHeld ka fa
        refine hK.out _ _ (KP _ hN) (fun hHeld => ?_)
        clear hK K hN
        try simp only [Act.put, zvs, zvt, zvu]
        have xb := (xb.other nba 0 (.int .i64 (rvT ws (stA N i)))).other nba 1 (.int .i64 (rvN ws (stA N i)))
        have xa : zd _ _ _ #[.int .i64 (rvT ws (stA N i)), .int .i64 (rvN ws (stA N i))] := (xa.set 0 (.int .i64 (rvT ws (stA N i)))).set 1 (.int .i64 (rvN ws (stA N i)))
        obtain ⟨w58, hV⟩ : ∃ V, V = ((w57.setCell ⟨w56.heap.size, 0, none⟩ (.int .i64 (rvT ws (stA N i)))).setCell ⟨w56.heap.size, 1, none⟩ (.int .i64 (rvN ws (stA N i)))) := ⟨_, rfl⟩
        rw [<- hV] at hHeld xb xa ⊢
        clear hV
        have kb := xb.cell
        have fb := xb.frozen
        refine wpAnyH_ready (rs := [10]) (by kernel_rfl) (by simp) ?_
        refine AllReadyH.cons (o := { dst := none, op := _, type := _, pos := _, after := _, guard := _ }) rfl (fun K hK => ?_) AllReadyH.nil
        go_simp
        have hN := (hHeld.1.setCell (p := ⟨wd.heap.size, 0, none⟩) gb (.int .i64 (rvT ws (stA N j)))).setCell (p := ⟨wd.heap.size, 1, none⟩) gb (.int .i64 (rvN ws (stA N j)))
        clear hHeld kb fb
        refine hK.out _ _ (KP _ hN) (fun hHeld => ?_)
        clear hK K hN
        try simp only [Act.put, zvs, zvt, zvu]
        have xb : zd _ _ _ #[.int .i64 (rvT ws (stA N j)), .int .i64 (rvN ws (stA N j))] := (xb.set 0 (.int .i64 (rvT ws (stA N j)))).set 1 (.int .i64 (rvN ws (stA N j)))
        have xa := (xa.other nab 0 (.int .i64 (rvT ws (stA N j)))).other nab 1 (.int .i64 (rvN ws (stA N j)))
        obtain ⟨w59, hV⟩ : ∃ V, V = ((w58.setCell ⟨wd.heap.size, 0, none⟩ (.int .i64 (rvT ws (stA N j)))).setCell ⟨wd.heap.size, 1, none⟩ (.int .i64 (rvN ws (stA N j)))) := ⟨_, rfl⟩
        rw [<- hV] at hHeld xb xa ⊢
        clear hV
        refine wpAnyH_done (by kernel_rfl) ?_ _
        go_wp2_with fail
        go_meet
        exact ⟨_, _, rfl, rfl, xa, xb, hHeld.1⟩
      · go_simp
        have hN := hHeld.1.alloc hHeld.1.size (.cells #[.int .i64 0, .int .i64 0] 42)
        have xa := zd.new w55 42 #[.int .i64 0, .int .i64 0]
        have ga := hHeld.1.size
        have nba := Nat.ne_of_lt xb.lt
        have nab := (Nat.ne_of_lt xb.lt).symm
        have xb := xb.alloc (.cells #[.int .i64 0, .int .i64 0] 42)
        clear hHeld
        refine hK.out _ _ (KP _ hN) (fun hHeld => ?_)
        clear hK K hN
        try simp only [Act.put, zvs, zvt, zvu]
        obtain ⟨w60, hV⟩ : ∃ V, V = w55.alloc (.cells #[.int .i64 0, .int .i64 0] 42) := ⟨_, rfl⟩
        rw [<- hV] at hHeld xb xa ⊢
        clear hV
        refine wpAnyH_ready (rs := [6]) (by kernel_rfl) (by simp) ?_
        refine AllReadyH.cons (o := { dst := some 17, op := _, type := _, pos := _, after := _, guard := _ }) rfl (fun K hK => ?_) AllReadyH.nil
        go_simp
        go_at_call 39
        refine (zay a1 L c1 a2 n c2 b3 b4 ws sm toh top cyc sn old cp sr k fa de sh st et en sp ao m co bm N j _ w60 HJ.out (X0.below hHeld.1 X0.lt) (H0.below hHeld.1) hj9).mono ?_
        rintro e w61 ⟨rfl, hb⟩
        have hN := zb (w := w0) hHeld.1 hb
        have xb := xb.below hb xb.lt
        have xa := xa.below hb xa.lt
        clear hb hHeld
        refine hK.out _ _ (KP _ hN) (fun hHeld => ?_)
        clear hK K hN
        try simp only [Act.put, zvs, zvt, zvu]
        have ka := xa.cell
        have fa := xa.frozen
        refine wpAnyH_ready (rs := [9]) (by kernel_rfl) (by simp) ?_
        refine AllReadyH.cons (o := { dst := none, op := _, type := _, pos := _, after := _, guard := _ }) rfl (fun K hK => ?_) AllReadyH.nil
        go_simp
        have hN := (hHeld.1.setCell (p := ⟨w55.heap.size, 0, none⟩) ga (.int .i64 (rvT ws (stA N i)))).setCell (p := ⟨w55.heap.size, 1, none⟩) ga (.int .i64 (rvN ws (stA N i)))
        clear hHeld ka fa
        refine hK.out _ _ (KP _ hN) (fun hHeld => ?_)
        clear hK K hN
        try simp only [Act.put, zvs, zvt, zvu]
        have xb := (xb.other nba 0 (.int .i64 (rvT ws (stA N i)))).other nba 1 (.int .i64 (rvN ws (stA N i)))
        have xa : zd _ _ _ #[.int .i64 (rvT ws (stA N i)), .int .i64 (rvN ws (stA N i))] := (xa.set 0 (.int .i64 (rvT ws (stA N i)))).set 1 (.int .i64 (rvN ws (stA N i)))
        obtain ⟨w62, hV⟩ : ∃ V, V = ((w61.setCell ⟨w55.heap.size, 0, none⟩ (.int .i64 (rvT ws (stA N i)))).setCell ⟨w55.heap.size, 1, none⟩ (.int .i64 (rvN ws (stA N i)))) := ⟨_, rfl⟩
        rw [<- hV] at hHeld xb xa ⊢
        clear hV
        have kb := xb.cell
        have fb := xb.frozen
        refine wpAnyH_ready (rs := [10]) (by kernel_rfl) (by simp) ?_
        refine AllReadyH.cons (o := { dst := none, op := _, type := _, pos := _, after := _, guard := _ }) rfl (fun K hK => ?_) AllReadyH.nil
        go_simp
        have hN := (hHeld.1.setCell (p := ⟨wd.heap.size, 0, none⟩) gb (.int .i64 (rvT ws (stA N j)))).setCell (p := ⟨wd.heap.size, 1, none⟩) gb (.int .i64 (rvN ws (stA N j)))
        clear hHeld kb fb
        refine hK.out _ _ (KP _ hN) (fun hHeld => ?_)
        clear hK K hN
        try simp only [Act.put, zvs, zvt, zvu]
        have xb : zd _ _ _ #[.int .i64 (rvT ws (stA N j)), .int .i64 (rvN ws (stA N j))] := (xb.set 0 (.int .i64 (rvT ws (stA N j)))).set 1 (.int .i64 (rvN ws (stA N j)))
        have xa := (xa.other nab 0 (.int .i64 (rvT ws (stA N j)))).other nab 1 (.int .i64 (rvN ws (stA N j)))
        obtain ⟨w63, hV⟩ : ∃ V, V = ((w62.setCell ⟨wd.heap.size, 0, none⟩ (.int .i64 (rvT ws (stA N j)))).setCell ⟨wd.heap.size, 1, none⟩ (.int .i64 (rvN ws (stA N j)))) := ⟨_, rfl⟩
        rw [<- hV] at hHeld xb xa ⊢
        clear hV
        refine wpAnyH_done (by kernel_rfl) ?_ _
        go_wp2_with fail
        go_meet
        exact ⟨_, _, rfl, rfl, xa, xb, hHeld.1⟩
    · go_simp
      have hN := hHeld.1.alloc hHeld.1.size (.cells #[.int .i64 0, .int .i64 0] 42)
      have xa := zd.new w54 42 #[.int .i64 0, .int .i64 0]
      have ga := hHeld.1.size
      have nba := Nat.ne_of_lt xb.lt
      have nab := (Nat.ne_of_lt xb.lt).symm
      have xb := xb.alloc (.cells #[.int .i64 0, .int .i64 0] 42)
      clear hHeld
      refine hK.out _ _ (KP _ hN) (fun hHeld => ?_)
      clear hK K hN
      try simp only [Act.put, zvs, zvt, zvu]
      obtain ⟨w64, hV⟩ : ∃ V, V = w54.alloc (.cells #[.int .i64 0, .int .i64 0] 42) := ⟨_, rfl⟩
      rw [<- hV] at hHeld xb xa ⊢
      clear hV
      refine wpAnyH_ready (rs := [2]) (by kernel_rfl) (by simp) ?_
      refine AllReadyH.cons (o := { dst := some 13, op := _, type := _, pos := _, after := _, guard := _ }) rfl (fun K hK => ?_) AllReadyH.nil
      go_simp
      go_at_call 39
      refine (zay a1 L c1 a2 n c2 b3 b4 ws sm toh top cyc sn old cp sr k fa de sh st et en sp ao m co bm N i _ w64 HI.out (X0.below hHeld.1 X0.lt) (H0.below hHeld.1) hi9).mono ?_
      rintro e w65 ⟨rfl, hb⟩
      have hN := zb (w := w0) hHeld.1 hb
      have xb := xb.below hb xb.lt
      have xa := xa.below hb xa.lt
      clear hb hHeld
      refine hK.out _ _ (KP _ hN) (fun hHeld => ?_)
      clear hK K hN
      try simp only [Act.put, zvs, zvt, zvu]
      refine wpAnyH_ready (rs := [6]) (by kernel_rfl) (by simp) ?_
      refine AllReadyH.cons (o := { dst := some 17, op := _, type := _, pos := _, after := _, guard := _ }) rfl (fun K hK => ?_) AllReadyH.nil
      go_simp
      go_at_call 39
      refine (zay a1 L c1 a2 n c2 b3 b4 ws sm toh top cyc sn old cp sr k fa de sh st et en sp ao m co bm N j _ w65 HJ.out (X0.below hHeld.1 X0.lt) (H0.below hHeld.1) hj9).mono ?_
      rintro e w66 ⟨rfl, hb⟩
      have hN := zb (w := w0) hHeld.1 hb
      have xb := xb.below hb xb.lt
      have xa := xa.below hb xa.lt
      clear hb hHeld
      refine hK.out _ _ (KP _ hN) (fun hHeld => ?_)
      clear hK K hN
      try simp only [Act.put, zvs, zvt, zvu]
      have ka := xa.cell
      have fa := xa.frozen
      refine wpAnyH_ready (rs := [9]) (by kernel_rfl) (by simp) ?_
      refine AllReadyH.cons (o := { dst := none, op := _, type := _, pos := _, after := _, guard := _ }) rfl (fun K hK => ?_) AllReadyH.nil
      go_simp
      have hN := (hHeld.1.setCell (p := ⟨w54.heap.size, 0, none⟩) ga (.int .i64 (rvT ws (stA N i)))).setCell (p := ⟨w54.heap.size, 1, none⟩) ga (.int .i64 (rvN ws (stA N i)))
      clear hHeld ka fa
      refine hK.out _ _ (KP _ hN) (fun hHeld => ?_)
      clear hK K hN
      try simp only [Act.put, zvs, zvt, zvu]
      have xb := (xb.other nba 0 (.int .i64 (rvT ws (stA N i)))).other nba 1 (.int .i64 (rvN ws (stA N i)))
      have xa : zd _ _ _ #[.int .i64 (rvT ws (stA N i)), .int .i64 (rvN ws (stA N i))] := (xa.set 0 (.int .i64 (rvT ws (stA N i)))).set 1 (.int .i64 (rvN ws (stA N i)))
      obtain ⟨w67, hV⟩ : ∃ V, V = ((w66.setCell ⟨w54.heap.size, 0, none⟩ (.int .i64 (rvT ws (stA N i)))).setCell ⟨w54.heap.size, 1, none⟩ (.int .i64 (rvN ws (stA N i)))) := ⟨_, rfl⟩
      rw [<- hV] at hHeld xb xa ⊢
      clear hV
      have kb := xb.cell
      have fb := xb.frozen
      refine wpAnyH_ready (rs := [10]) (by kernel_rfl) (by simp) ?_
      refine AllReadyH.cons (o := { dst := none, op := _, type := _, pos := _, after := _, guard := _ }) rfl (fun K hK => ?_) AllReadyH.nil
      go_simp
      have hN := (hHeld.1.setCell (p := ⟨wd.heap.size, 0, none⟩) gb (.int .i64 (rvT ws (stA N j)))).setCell (p := ⟨wd.heap.size, 1, none⟩) gb (.int .i64 (rvN ws (stA N j)))
      clear hHeld kb fb
      refine hK.out _ _ (KP _ hN) (fun hHeld => ?_)
      clear hK K hN
      try simp only [Act.put, zvs, zvt, zvu]
      have xb : zd _ _ _ #[.int .i64 (rvT ws (stA N j)), .int .i64 (rvN ws (stA N j))] := (xb.set 0 (.int .i64 (rvT ws (stA N j)))).set 1 (.int .i64 (rvN ws (stA N j)))
      have xa := (xa.other nab 0 (.int .i64 (rvT ws (stA N j)))).other nab 1 (.int .i64 (rvN ws (stA N j)))
      obtain ⟨w68, hV⟩ : ∃ V, V = ((w67.setCell ⟨wd.heap.size, 0, none⟩ (.int .i64 (rvT ws (stA N j)))).setCell ⟨wd.heap.size, 1, none⟩ (.int .i64 (rvN ws (stA N j)))) := ⟨_, rfl⟩
      rw [<- hV] at hHeld xb xa ⊢
      clear hV
      refine wpAnyH_done (by kernel_rfl) ?_ _
      go_wp2_with fail
      go_meet
      exact ⟨_, _, rfl, rfl, xa, xb, hHeld.1⟩
 case rest =>
  obtain ⟨p, q, rfl, rfl, xa, xb, hBc⟩ := hcut
  have a0 := xa.cell 0
  have a1' := xa.cell 1
  have b0 := xb.cell 0
  have b1 := xb.cell 1
  have X4c := X4.below hBc X4.lt
  have k40 : wc.cell? ⟨w.heap.size + 1, 0, none⟩ = some (.int .i64 0) := X4c.cell 0
  have k41 : wc.cell? ⟨w.heap.size + 1, 1, none⟩ = some (.int .i64 0) := X4c.cell 1
  have k42 : wc.cell? ⟨w.heap.size + 1, 2, none⟩ = some (.bool false) := X4c.cell 2
  have f4 := X4c.frozen
  have z4 := X4c.lt
  simp at a0 a1' b0 b1
  have B1 := zb B0 hBc
  have HB3 : Hid (∀ x y z, Below w.heap.size w (((wc.setCell ⟨w.heap.size + 1, 0, none⟩ x).setCell ⟨w.heap.size + 1, 1, none⟩ y).setCell ⟨w.heap.size + 1, 2, none⟩ z)) := fun x y z => ((B1.setCell (p := ⟨w.heap.size + 1, 0, none⟩) (by simp) x).setCell (p := ⟨w.heap.size + 1, 1, none⟩) (by simp) y).setCell (p := ⟨w.heap.size + 1, 2, none⟩) (by simp) z
  clear H0 XM B0 hBc HV xa xb X4 HX X0
  generalize rvT ws (stA N i) = ti at *
  generalize rvN ws (stA N i) = ni at *
  generalize rvT ws (stA N j) = tj at *
  generalize rvN ws (stA N j) = nj at *
  have HX4 : Hid (zd wc (w.heap.size + 1) 64 #[.int .i64 0, .int .i64 0, .bool false]) := X4c
  clear X4c
  go_wp2
  all_goals
   obtain ⟨hB, hL, hH⟩ := HP.out
   refine bodyPost_ret (zsk (((HX4.out.set 0 _).set 1 _).set 2 _) rfl rfl) rfl (LkR.of ?_ ?_ (HB3.out _ _ _)) <;> (try rw [hL]) <;> rw [hB] <;> clear hL hH hB HP <;> simp at * <;> try omega
end Go.Proofs.YthdnpafigkkkkaaGreat
