/- - -/
import Derived.Test.YtiglkhkfbgjjoaaDoorQTkM
import Derived.Test.YtiglkhkfbgjjoaaDoorQTkQ
import Derived.Test.YtiglkhkfbgjjoaaDoorQTrB
import Derived.Deep.RegionHeld3
namespace Go.Proofs.YtiglkhkfbgjjoaaDoor
set_option maxRecDepth 20000
open Go.RowKit Go.PlainAid Go.Maps
set_option linter.unusedSimpArgs false
set_option linter.unusedVariables false
theorem z8 {a b c : World} {r : Option Nat} (h : a.grownBy b r) (k : b.grownBy c r) : a.grownBy c r :=
 ⟨k.os.trans h.os, k.tape.trans h.tape, k.output.trans h.output, Nat.le_trans h.size k.size, fun j hj hr => (k.block j (Nat.lt_of_lt_of_le hj h.size) hr).trans (h.block j hj hr)⟩
theorem zan {w w' : World} {r : Option Nat} (h : Below w.heap.size w w') : w.grownBy w' r := ⟨h.os, h.tape, h.output, h.size, fun k hk _ => h.block k hk⟩
theorem zbi {w w' : World} {sb : Nat} (h : w.grownBy w' (some sb)) (hl : sb <= w.heap.size) : Below sb w w' := ⟨h.os, h.tape, h.output, h.size, fun k hk => h.block k (by omega) (fun e => by injection e; omega)⟩
theorem zju (w : World) (sb i : Nat) (v : Value) : w.grownBy (w.setCell ⟨sb, i, none⟩ v) (some sb) :=
 ⟨rfl, rfl, rfl, by simp, fun k _ hk => Below.heap_setCell w ⟨sb, i, none⟩ v k (fun e => hk (by rw [e]))⟩
theorem zbw {w w' : World} {sb b : Nat} {A : Array Value} (h : w.grownBy w' (some sb)) (hc : ∀ z, w.cell? ⟨b, z, none⟩ = A[z]?) (hb : b < w.heap.size) (hne : b ≠ sb) : ∀ z, w'.cell? ⟨b, z, none⟩ = A[z]? := fun z => by
 rw [<- hc z]
 exact World.cell?_of_block (h.block b hb (fun e => hne (by injection e)))
theorem zhe {w w' : World} {sb B : Nat} {v : Value} {xs : List Int} (h : w.grownBy w' (some sb)) (hi : IR B w v xs) (hB : sb < B) : IR B w' v xs :=
 World.ownsRow.kept hi h (by
  cases hv : v.ownBlock with
  | none => exact .inl rfl
  | some k => exact .inr (fun e => by injection e with e; have := (World.ownsRow.lt hi k hv).1; omega))
def snB (S : Nat -> Bool) (p n nx : Nat) (j : Nat) : Bool := S j || decide (j = p \/ n <= j /\ j < nx)
def zc1 (X : Nat -> KnD) (L sb : Nat) (i c : Int) (n : Nat) (S : Nat -> Bool) (w : World) (e : Ending) (w' : World) : Prop := ∃ (r : Int) (q : Bool), e = .returned (.tuple #[.int .i64 r, .bool q]) /\ (q = true ↔ FIT X L i c n) /\ (q = true -> r = i + 1 /\ w'.rowIs sb 4 L (fun j => .bool (S j || decide (n <= j /\ (j : Int) <= i)))) /\ w.grownBy w' (some sb)
theorem zgb {S : Nat -> Bool} {p n nx : Nat} {z : Int} (hS : ∀ j : Nat, (j : Int) <= p -> (S j = true ↔ j < n)) (hn : n <= nx) (hz : z < (p : Int)) : ∀ j : Nat, (j : Int) <= z -> (snB S p n nx j = true ↔ j < nx) := fun j hj => by
 unfold snB
 rw [Bool.or_eq_true, decide_eq_true_iff, hS j (by omega)]
 omega
theorem zgc {S : Nat -> Bool} {p n nx z : Nat} (h1 : n <= nx) (h2 : nx <= z + 1) (j : Nat) : (snB S p n nx j || decide (nx <= j /\ (j : Int) <= (z : Int))) = snB S p n (z + 1) j := by
 unfold snB
 cases S j
 · rw [Bool.eq_iff_iff]
   simp
   omega
 · simp
theorem ze6 {S : Nat -> Bool} {p n : Nat} (h1 : n <= p) (j : Nat) : snB S p n p j = (S j || decide (n <= j /\ (j : Int) <= (p : Int))) := by
 unfold snB
 cases S j
 · rw [Bool.eq_iff_iff]
   simp
   omega
 · simp
set_option maxHeartbeats 4000000 in
theorem zii (a : Option Addr) (cp L : Nat) (top : Int) (X : Nat -> KnD) (T sb cs : Nat) (hL : L <= 3000) (hX : ∀ j, j < L -> (X j).len <= 1048576 /\ (X j).t.size <= 1048576) (hTs : T <= sb) : ∀ (N : Nat) (i c : Int) (n : Nat) (S : Nat -> Bool) (w : World), i < (N : Int) -> KnF T w (.slice a L cp) L X -> sb < w.heap.size -> w.rowIs sb 4 L (fun j => .bool (S j)) -> (∀ j : Nat, (j : Int) <= i -> (S j = true ↔ j < n)) -> n <= 3000 ->
 Calls Tryd.prog 76 #[.agg #[.slice a L cp, .int .i64 top], .int .i64 i, .int .i64 c, .int .i64 (n : Int), .slice (some ⟨sb, 0, none⟩) L cs] w (zc1 X L sb i c n S w) := by
 intro N
 induction N with
 | zero =>
   intro i c n S w hi hs hsb hrow hS hn
   have hL' : (L : Int) <= 3000 := by omega
   have hin : inB i 0 ((L : Int) - 1) = false := by simp [inB]; omega
   have hno : ¬ FIT X L i c n := fun h => by have := h.1; omega
   have HN : Hid (¬ FIT X L i c n) := hno
   clear hno hs hrow hS hX
   go_enter Tryd.func76, Tryd.ntmps76
   go_wp2_with (go_at_call 114; refine (zah _ _ _ _).mono ?_; rw [hin]; rintro e w1 ⟨rfl, hw1⟩; rw [hw1]; clear hw1 w1)
   go_ret2
   exact ⟨_, _, rfl, ⟨fun h => (by cases h), fun h => absurd h HN.out⟩, fun h => (by cases h), zan ((Below.refl _ _).alloc (Nat.le_refl _) _)⟩
 | succ N IH =>
   intro i c n S w hi hs hsb hrow hS hn
   have hL' : (L : Int) <= 3000 := by omega
   have hn' : (n : Int) <= 3000 := by omega
   by_cases hr : 0 <= i /\ i < (L : Int)
   rotate_left
   · have hin : inB i 0 ((L : Int) - 1) = false := by simp [inB]; omega
     have hno : ¬ FIT X L i c n := fun h => by have := h.1; have := h.2.1; omega
     have HN : Hid (¬ FIT X L i c n) := hno
     clear hno hs hrow hS hX IH hr
     go_enter Tryd.func76, Tryd.ntmps76
     go_wp2_with (go_at_call 114; refine (zah _ _ _ _).mono ?_; rw [hin]; rintro e w1 ⟨rfl, hw1⟩; rw [hw1]; clear hw1 w1)
     go_ret2
     exact ⟨_, _, rfl, ⟨fun h => (by cases h), fun h => absurd h HN.out⟩, fun h => (by cases h), zan ((Below.refl _ _).alloc (Nat.le_refl _) _)⟩
   obtain ⟨p, rfl⟩ : ∃ p : Nat, i = p := ⟨i.toNat, by omega⟩
   have hpL : p < L := by omega
   have hpL' : (p : Int) < (L : Int) := by omega
   have hin : inB (p : Int) 0 ((L : Int) - 1) = true := by simp [inB]; omega
   have sc := hrow.cell (i := p) hpL
   have sf := hrow.frozen
   clear hr
   cases hsp : S p with
   | true =>
     have h1 := (hS p (Int.le_refl _)).1 hsp
     have hno : ¬ FIT X L p c n := fun h => by have := (zb7 h).2.2.1; rw [Int.toNat_natCast] at this; omega
     have HN : Hid (¬ FIT X L p c n) := hno
     rw [hsp] at sc
     clear hno hs hrow hS hX IH
     go_enter Tryd.func76, Tryd.ntmps76
     go_wp2_with (go_at_call 114; refine (zah _ _ _ _).mono ?_; rw [hin]; rintro e w1 ⟨rfl, hw1⟩; rw [hw1]; clear hw1 w1)
     go_ret2
     exact ⟨_, _, rfl, ⟨fun h => (by cases h), fun h => absurd h HN.out⟩, fun h => (by cases h), zan ((Below.refl _ _).alloc (Nat.le_refl _) _)⟩
   | false =>
     rw [hsp] at sc
     obtain ⟨b, off, rfl, lb, lz, hkc⟩ := hs.at_ hpL
     obtain ⟨ax, cx, c0, c1, c2, c3, sx⟩ := hkc p hpL
     have hxp := hX p hpL
     have HS : Hid (KnF T w (.slice (some ⟨b, off, none⟩) L cp) L X) := hs
     have HR : Hid (w.rowIs sb 4 L (fun j => .bool (S j))) := hrow
     have HSS : Hid (∀ j : Nat, (j : Int) <= p -> (S j = true ↔ j < n)) := hS
     have IHH : Hid (∀ (i c : Int) (n : Nat) (S : Nat -> Bool) (w : World), i < (N : Int) -> KnF T w (.slice (some ⟨b, off, none⟩) L cp) L X -> sb < w.heap.size -> w.rowIs sb 4 L (fun j => .bool (S j)) -> (∀ j : Nat, (j : Int) <= i -> (S j = true ↔ j < n)) -> n <= 3000 -> _) := IH
     have SX : Hid (SlF T w (.slice ax (X p).len cx) (X p).len (X p).len (fun i => .int .i64 ((X p).y i))) := sx
     have hb1 : b ≠ sb := by omega
     have hb2 : ¬ sb = b := by omega
     obtain ⟨x, hx⟩ : ∃ x, X p = x := ⟨_, rfl⟩
     rw [hx] at c0 c1 c2 c3 SX hxp
     have EX : Hid (X p = x) := hx
     obtain ⟨k, t, ii, l, y⟩ := x
     simp only at c0 c1 c2 c3 SX hxp
     obtain ⟨hl, ht⟩ := hxp
     have hl' : (l : Int) <= 1048576 := by omega
     clear hs hrow hS hX IH hkc sx hx
     go_enter Tryd.func76, Tryd.ntmps76
     go_wp2_with (go_at_call 114; refine (zah _ _ _ _).mono ?_; rw [hin]; rintro e w1 ⟨rfl, hw1⟩; rw [hw1]; clear hw1 w1)
     obtain ⟨W2, hW2⟩ : ∃ V, V = ((w.setCell ⟨sb, p, none⟩ (.bool true)).alloc (.cells #[.slice (some ⟨b, off, none⟩) L cp, .int .i64 top] 41)).alloc (.cells #[.int .i64 k, .string t, .int .i64 ii, .slice ax l cx] 71) := ⟨_, rfl⟩
     have z2 : W2.heap.size = w.heap.size + 1 + 1 := by rw [hW2]; simp
     have G2 : w.grownBy W2 (some sb) := by rw [hW2]; exact z8 (zju w sb p _) (z8 (zan ((Below.refl _ _).alloc (Nat.le_refl _) _)) (zan ((Below.refl _ _).alloc (Nat.le_refl _) _)))
     have T2 : ∀ z, W2.cell? ⟨w.heap.size, z, none⟩ = (#[.slice (some ⟨b, off, none⟩) L cp, .int .i64 top] : Array Value)[z]? := fun z => by rw [hW2]; simp [go_sem]
     have K2 : ∀ z, W2.cell? ⟨w.heap.size + 1, z, none⟩ = (#[.int .i64 k, .string t, .int .i64 ii, .slice ax l cx] : Array Value)[z]? := fun z => by rw [hW2]; simp [go_sem]
     have R2 : W2.rowIs sb 4 L (fun j => .bool (snB S p n n j)) := by
      rw [hW2]
      have r0 := (HR.out.set p (.bool true)).congr (g := fun j => .bool (snB S p n n j)) (fun j hj => by
       by_cases e : j = p
       · subst e; simp [snB]
       · have e2 : ¬ (j = p \/ n <= j /\ j < n) := by omega
         unfold snB
         rw [decide_eq_false e2]
         simp [e])
      have l0 : sb < (w.setCell ⟨sb, p, none⟩ (.bool true)).heap.size := by simpa using hsb
      refine r0.of_block ?_
      rw [Go.Deep.blk_alloc_lt _ _ _ (by simp; omega), Go.Deep.blk_alloc_lt _ _ _ l0]
     rw [<- hW2]
     clear hW2 sc sf c0 c1 c2 c3 HR
     refine (zb3 k _).mono ?_
     rintro e w3 ⟨rfl, hw3⟩
     rw [hw3]
     clear hw3 w3
     have F0 : Hid (FIT X L p c n -> 0 <= (p : Int) /\ p < L /\ n <= p /\ zk c k = true /\ zl k t = true /\ zm k ii = true /\ (shp k l).length = l) := fun h => by
      have := zb7 h
      simp only [Int.toNat_natCast, EX.out] at this
      exact this
     have k20 := K2 0
     simp at k20
     by_cases c6 : c = 6
     · subst c6
       have hk6 : ¬ zt k = 6 := by
        unfold zt
        repeat (first | omega | split)
       by_cases hk9 : k = 9
       · have hcl : zk 6 k = true := by unfold zk; rw [if_pos rfl]; exact decide_eq_true hk9
         have hk9b : (k == 9) = true := by simp [hk9]
         have hk6b : (zt k == 6) = false := by simp [hk6]
         clear hk9 hk6
         go_wp2_with fail
         refine (zap _ _ _ _ _ _ _ hl).mono ?_
         rintro e w4 ⟨v4, rfl, hI, b4⟩
         have G4 : Hid (w.grownBy w4 (some sb)) := z8 G2 (zan b4)
         have T4 := fun z => (b4.cell (p := ⟨w.heap.size, z, none⟩) (by dsimp only; omega)).trans (T2 z)
         have K4 := fun z => (b4.cell (p := ⟨w.heap.size + 1, z, none⟩) (by dsimp only; omega)).trans (K2 z)
         have R4 : w4.rowIs sb 4 L (fun j => .bool (snB S p n n j)) := R2.of_block (b4.block _ (by omega))
         have z4 : w.heap.size + 1 + 1 <= w4.heap.size := by have := b4.size; omega
         have I4 : Hid (IR (w.heap.size + 1 + 1) w4 v4 (shp k l)) := hI.mono (by omega)
         clear hI b4 G2 T2 K2 R2 z2 k20
         obtain ⟨ash, cs4, rfl⟩ := I4.out.form
         by_cases hsl : (shp k l).length = l
         rotate_left
         · have HN : Hid (¬ FIT X L p 6 n) := fun h => hsl (F0.out h).2.2.2.2.2.2
           rw [decide_eq_false hsl]
           go_wp2
           all_goals
            go_ret2
            exact ⟨_, _, rfl, ⟨fun h => (by cases h), fun h => absurd h HN.out⟩, fun h => (by cases h), G4.out⟩
         rw [decide_eq_true hsl]
         rw [hsl] at I4 ⊢
         have k40 := K4 0
         have k41 := K4 1
         have k42 := K4 2
         have k43 := K4 3
         simp at k40 k41 k42 k43
         go_wp2_with fail
         refine (zc0 _ _ _ _ _ _ _ ht).mono ?_
         rintro e w5 ⟨rfl, b5⟩
         have G5 : Hid (w.grownBy w5 (some sb)) := z8 G4.out (zan b5)
         have T5 := fun z => (b5.cell (p := ⟨w.heap.size, z, none⟩) (by dsimp only; omega)).trans (T4 z)
         have K5 := fun z => (b5.cell (p := ⟨w.heap.size + 1, z, none⟩) (by dsimp only; omega)).trans (K4 z)
         have R5 : w5.rowIs sb 4 L (fun j => .bool (snB S p n n j)) := R4.of_block (b5.block _ (by omega))
         have z5 : w.heap.size + 1 + 1 <= w5.heap.size := by have := b5.size; omega
         have I5 : Hid (IR (w.heap.size + 1 + 1) w5 (.slice ash l cs4) (shp k l)) := I4.out.below b5
         clear b5 G4 T4 K4 R4 z4 k40 k41 k42 k43 I4
         cases hhas : (zl k t && zm k ii) with
         | false =>
           have HN : Hid (¬ FIT X L p 6 n) := fun h => by have := F0.out h; rw [this.2.2.2.2.1, this.2.2.2.2.2.1] at hhas; cases hhas
           go_wp2
           all_goals
            go_ret2
            exact ⟨_, _, rfl, ⟨fun h => (by cases h), fun h => absurd h HN.out⟩, fun h => (by cases h), G5.out⟩
         | true =>
           rw [Bool.and_eq_true] at hhas
           obtain ⟨hh1, hh2⟩ := hhas
           go_wp2
           go_loopw [3, 16] (fun v3 q wr => ∃ (m nx : Nat), m <= l /\ nx <= 3000 /\ v3 = .int .i64 nx /\ q = .int .i64 m /\ Hid (chn X n ((zj X p).take m) nx) /\ Hid (∀ j, n <= j -> j < nx -> zao X j) /\ Hid (∀ m', m' < m -> zk ((shp k l).getD m' 0) (X (y m').toNat).k = true) /\ Hid (wr.rowIs sb 4 L (fun j => .bool (snB S p n nx j))) /\ Hid (w.grownBy wr (some sb)) /\ Hid (∀ z, wr.cell? ⟨w.heap.size, z, none⟩ = (#[.slice (some ⟨b, off, none⟩) L cp, .int .i64 top] : Array Value)[z]?) /\ Hid (∀ z, wr.cell? ⟨w.heap.size + 1, z, none⟩ = (#[.int .i64 k, .string t, .int .i64 ii, .slice ax l cx] : Array Value)[z]?) /\ Hid (IR (w.heap.size + 1 + 1) wr (.slice ash l cs4) (shp k l)) /\ w.heap.size + 1 + 1 <= wr.heap.size) (fun _ q _ => l - (intOf q).toNat)
           case atStart => exact ⟨0, n, Nat.zero_le _, hn, rfl, rfl, rfl, (fun j h1 h2 => by omega), (fun m' h => absurd h (Nat.not_lt_zero _)), R5, G5, T5, K5, I5, z5⟩
           case round =>
            clear R5 G5 T5 K5 I5 z5
            obtain ⟨m, nx, hm, hnx, rfl, rfl, hC, hG, hF, hR, hW, hT, hK, hI, hz⟩ := hrel
            have hnx' : (nx : Int) <= 3000 := by omega
            have k3 := hK.out 3
            simp at k3
            have l1 : w.heap.size + 1 < wr.heap.size := by omega
            by_cases hlt : m < l
            · have hlt' : (m : Int) < (l : Int) := by omega
              obtain ⟨bk, ok, ck, hv, tk1, lk, hkk⟩ := (SX.out.below (zbi hW.out (by omega)) hTs).parts (k := 0) (by omega)
              simp only [Value.slice.injEq] at hv
              obtain ⟨rfl, _, rfl⟩ := hv
              have hsh := hI.out.sl
              rw [hsl] at hsh
              obtain ⟨bs, os, cs5, hv, ts1, ls, hss⟩ := hsh.parts (k := 0) (by omega)
              simp only [Value.slice.injEq] at hv
              obtain ⟨rfl, _, rfl⟩ := hv
              have yk := hkk m hlt
              have ys := hss m hlt
              have HKID : Hid (FIT X L p 6 n -> FIT X L (y m) ((shp k l).getD m 0) nx /\ y m < (p : Int)) := fun h => by
               have := ze2 (m := m) (nx := nx) h (by rw [Int.toNat_natCast, EX.out]; exact hlt) (by rw [Int.toNat_natCast]; exact hC.out)
               simp only [Int.toNat_natCast, EX.out] at this
               exact this
              have HSTEP : Hid (FIT X L (y m) ((shp k l).getD m 0) nx -> chn X n ((zj X p).take (m + 1)) ((y m).toNat + 1) /\ (∀ j, n <= j -> j < (y m).toNat + 1 -> zao X j) /\ 0 <= y m /\ (y m).toNat < L /\ nx <= (y m).toNat /\ zk ((shp k l).getD m 0) (X (y m).toNat).k = true) := fun h => by
               have := zd4 (L := L) (n := n) (m := m) (nx := nx) (i := (p : Int)) (c' := (shp k l).getD m 0) (by rw [Int.toNat_natCast, EX.out]; exact hlt) (by rw [Int.toNat_natCast]; exact hC.out) hG.out (by rw [Int.toNat_natCast, EX.out]; exact h)
               simp only [Int.toNat_natCast, EX.out] at this
               have h2 := zb7 h
               exact ⟨this.1, this.2, h2.1, h2.2.1, h2.2.2.1, h2.2.2.2.1⟩
              have HCL : Hid (∀ m', m' < m -> zk ((shp k l).getD m' 0) (X (y m').toNat).k = true) := hF
              have nle := zai X hC.out
              clear hkk hss hsh hC hG hF SX
              generalize hcm : (shp k l).getD m 0 = cm at ys HKID HSTEP
              generalize hym : y m = ym at yk HKID HSTEP
              have EY : Hid (y m = ym) := hym
              have EC : Hid ((shp k l).getD m 0 = cm) := hcm
              clear hym hcm
              by_cases hge : (p : Int) <= ym
              · have HN : Hid (¬ FIT X L p 6 n) := fun h => by have := (HKID.out h).2; omega
                go_wp2
                go_ret2
                exact ⟨_, _, rfl, ⟨fun h => (by cases h), fun h => absurd h HN.out⟩, fun h => (by cases h), hW.out⟩
              · have hym2 : ¬ ym ≥ (p : Int) := by omega
                have t0 := hT.out 0
                have t1 := hT.out 1
                simp at t0 t1
                have KP : ∀ V, Below wr.heap.size wr V -> (Below wr.heap.size wr V /\ V.cell? ⟨w.heap.size, 0, none⟩ = some (.slice (some ⟨b, off, none⟩) L cp) /\ V.cell? ⟨w.heap.size, 1, none⟩ = some (.int .i64 top) /\ V.cell? ⟨w.heap.size + 1, 3, none⟩ = some (.slice (some ⟨bk, ok, none⟩) l cx) /\ V.cell? ⟨bk, ok + m, none⟩ = some (.int .i64 ym) /\ V.cell? ⟨bs, os + m, none⟩ = some (.int .i64 cm)) := fun V hV => by
                 refine ⟨hV, ?_, ?_, ?_, ?_, ?_⟩
                 · rw [hV.cell (p := ⟨w.heap.size, 0, none⟩) (by dsimp only; omega)]; exact t0
                 · rw [hV.cell (p := ⟨w.heap.size, 1, none⟩) (by dsimp only; omega)]; exact t1
                 · rw [hV.cell (p := ⟨w.heap.size + 1, 3, none⟩) l1]; exact k3
                 · rw [hV.cell (p := ⟨bk, ok + m, none⟩) lk]; exact yk
                 · rw [hV.cell (p := ⟨bs, os + m, none⟩) ls]; exact ys
                have bd' := (Below.refl wr.heap.size wr).drew
                have HCALL : Hid (∀ V, Below wr.heap.size wr V -> Calls Tryd.prog 76 #[.agg #[.slice (some ⟨b, off, none⟩) L cp, .int .i64 top], .int .i64 ym, .int .i64 cm, .int .i64 (nx : Int), .slice (some ⟨sb, 0, none⟩) L cs] V (zc1 X L sb ym cm nx (snB S p n nx) V)) := fun V hV =>
                 IHH.out ym cm nx (snB S p n nx) V (by omega) ((HS.out.below (zbi hW.out (by omega)) hTs).below hV (by omega)) (by have := hV.size; omega) (hR.out.of_block (hV.block _ (by omega))) (zgb HSS.out nle (by omega)) hnx
                clear IHH
                go_wp2_with fail
                skip
                go_region_with (go_at_call 76; refine (HCALL.out _ (by first | exact (Below.refl _ _).drew | exact below_drewN (Below.refl _ _) _)).mono ?_; rintro e w6 ⟨r, q, rfl, hq, hr, g6⟩; have g7 : wr.grownBy w6 (some sb) := z8 (zan (by first | exact (Below.refl _ _).drew | exact below_drewN (Below.refl _ _) _)) g6; clear g6)
                all_goals
                 have G7 : Hid (w.grownBy w6 (some sb)) := z8 hW.out g7
                 cases q with
                 | false =>
                   have HN : Hid (¬ FIT X L p 6 n) := fun h => by have := hq.2 (HKID.out h).1; cases this
                   clear hq hr g7
                   go_wp2
                   go_ret2
                   exact ⟨_, _, rfl, ⟨fun h => (by cases h), fun h => absurd h HN.out⟩, fun h => (by cases h), G7.out⟩
                 | true =>
                   obtain ⟨hr1, hr2⟩ := hr rfl
                   obtain ⟨s1, s2, s3, s4, s5, s6⟩ := HSTEP.out (hq.1 rfl)
                   have T7 : Hid (∀ z, w6.cell? ⟨w.heap.size, z, none⟩ = (#[.slice (some ⟨b, off, none⟩) L cp, .int .i64 top] : Array Value)[z]?) := zbw g7 hT.out (by omega) (by omega)
                   have K7 : Hid (∀ z, w6.cell? ⟨w.heap.size + 1, z, none⟩ = (#[.int .i64 k, .string t, .int .i64 ii, .slice (some ⟨bk, ok, none⟩) l cx] : Array Value)[z]?) := zbw g7 hK.out l1 (by omega)
                   have I7 : Hid (IR (w.heap.size + 1 + 1) w6 (.slice (some ⟨bs, os, none⟩) l cs4) (shp k l)) := zhe g7 hI.out (by omega)
                   have z7 : w.heap.size + 1 + 1 <= w6.heap.size := Nat.le_trans hz g7.size
                   obtain ⟨zn, rfl⟩ : ∃ zn : Nat, ym = zn := ⟨ym.toNat, by omega⟩
                   rw [Int.toNat_natCast] at s1 s2 s4 s5 s6
                   have R7 : Hid (w6.rowIs sb 4 L (fun j => .bool (snB S p n (zn + 1) j))) := hr2.congr (fun j _ => by rw [zgc nle (by omega)])
                   have C7 : Hid (chn X n ((zj X p).take (m + 1)) (zn + 1)) := s1
                   have D7 : Hid (∀ j, n <= j -> j < zn + 1 -> zao X j) := s2
                   have E7 : Hid (∀ m', m' < m + 1 -> zk ((shp k l).getD m' 0) (X (y m').toNat).k = true) := fun m' h => by
                    by_cases e : m' = m
                    · subst e; rw [EY.out, EC.out, Int.toNat_natCast]; exact s6
                    · exact HCL.out m' (by omega)
                   have hr3 : r = ((zn + 1 : Nat) : Int) := by omega
                   subst hr3
                   clear hq hr hr2 hr1 s1 s2 s6 g7
                   go_wp2
                   go_roundw
                   case rel => exact ⟨m + 1, zn + 1, by omega, by omega, rfl, by go_num, C7, D7, E7, R7, G7, T7, K7, I7, z7⟩
                   case measure => simp [intOf]; omega
            · have hge : ¬ (m : Int) < (l : Int) := by omega
              obtain rfl : m = l := by omega
              have hlk : (zj X p).take m = zj X p := List.take_of_length_le (by rw [zo, EX.out]; exact Nat.le_refl _)
              rw [hlk] at hC
              have HD : Hid (FIT X L p 6 n ↔ (nx : Int) = p) := by
               have := zd5 (X := X) (L := L) (n := n) (nx := nx) (i := (p : Int)) (c := 6) (by omega) (by rw [Int.toNat_natCast]; exact hpL) (by rw [Int.toNat_natCast, EX.out]; exact hcl) (by rw [Int.toNat_natCast, EX.out]; exact hh1) (by rw [Int.toNat_natCast, EX.out]; exact hh2) (by rw [Int.toNat_natCast, EX.out]; exact hsl) (by rw [Int.toNat_natCast, EX.out]; exact hF.out) (by rw [Int.toNat_natCast]; exact hC.out) hG.out
               exact this
              have nle := zai X hC.out
              clear hC hG hF hlk
              go_wp2
              go_ret2
              refine ⟨_, _, rfl, ?_, ?_, hW.out⟩
              · rw [HD.out]
                show ((nx : Int) == (p : Int)) = true ↔ _
                rw [beq_iff_eq]
              · intro h
                have h2 : (nx : Int) = p := by
                 have h3 : ((nx : Int) == (p : Int)) = true := h
                 exact beq_iff_eq.1 h3
                obtain rfl : nx = p := by omega
                exact ⟨rfl, hR.out.congr (fun j _ => by rw [ze6 nle])⟩
       · have hcl : zk 6 k = false := by unfold zk; rw [if_pos rfl]; exact decide_eq_false hk9
         have hk9b : (k == 9) = false := by simp [hk9]
         have hk6b : (zt k == 6) = false := by simp [hk6]
         clear hk9 hk6
         have HN : Hid (¬ FIT X L p 6 n) := fun h => by have := (F0.out h).2.2.2.1; rw [hcl] at this; cases this
         go_wp2_with fail
         refine (zap _ _ _ _ _ _ _ hl).mono ?_
         rintro e w4 ⟨v4, rfl, hI, b4⟩
         have G4 : Hid (w.grownBy w4 (some sb)) := z8 G2 (zan b4)
         clear hI b4 G2 T2 K2 R2
         go_wp2
         all_goals
          go_ret2
          exact ⟨_, _, rfl, ⟨fun h => (by cases h), fun h => absurd h HN.out⟩, fun h => (by cases h), G4.out⟩
     · by_cases hkc : zt k = c
       · by_cases hc0 : c = 0
         · have hcl : zk c k = false := by unfold zk; rw [if_neg c6]; exact decide_eq_false (fun h => h.2 hc0)
           have b1 : (zt k == c) = true := by simp [hkc]
           have b2 : (c != 0) = false := by simp [hc0]
           have b3 : (c == 6) = false := by simp [c6]
           clear hkc hc0 c6
           have HN : Hid (¬ FIT X L p c n) := fun h => by have := (F0.out h).2.2.2.1; rw [hcl] at this; cases this
           go_wp2_with fail
           refine (zap _ _ _ _ _ _ _ hl).mono ?_
           rintro e w4 ⟨v4, rfl, hI, b4⟩
           have G4 : Hid (w.grownBy w4 (some sb)) := z8 G2 (zan b4)
           clear hI b4 G2 T2 K2 R2
           go_wp2
           all_goals
            go_ret2
            exact ⟨_, _, rfl, ⟨fun h => (by cases h), fun h => absurd h HN.out⟩, fun h => (by cases h), G4.out⟩
         · have hcl : zk c k = true := by unfold zk; rw [if_neg c6]; exact decide_eq_true ⟨hkc, hc0⟩
           have b1 : (zt k == c) = true := by simp [hkc]
           have b2 : (c != 0) = true := by simp [hc0]
           have b3 : (c == 6) = false := by simp [c6]
           clear hkc hc0 c6
           go_wp2_with fail
           refine (zap _ _ _ _ _ _ _ hl).mono ?_
           rintro e w4 ⟨v4, rfl, hI, b4⟩
           have G4 : Hid (w.grownBy w4 (some sb)) := z8 G2 (zan b4)
           have T4 := fun z => (b4.cell (p := ⟨w.heap.size, z, none⟩) (by dsimp only; omega)).trans (T2 z)
           have K4 := fun z => (b4.cell (p := ⟨w.heap.size + 1, z, none⟩) (by dsimp only; omega)).trans (K2 z)
           have R4 : w4.rowIs sb 4 L (fun j => .bool (snB S p n n j)) := R2.of_block (b4.block _ (by omega))
           have z4 : w.heap.size + 1 + 1 <= w4.heap.size := by have := b4.size; omega
           have I4 : Hid (IR (w.heap.size + 1 + 1) w4 v4 (shp k l)) := hI.mono (by omega)
           clear hI b4 G2 T2 K2 R2 z2 k20
           obtain ⟨ash, cs4, rfl⟩ := I4.out.form
           by_cases hsl : (shp k l).length = l
           rotate_left
           · have HN : Hid (¬ FIT X L p c n) := fun h => hsl (F0.out h).2.2.2.2.2.2
             rw [decide_eq_false hsl]
             go_wp2
             all_goals
              go_ret2
              exact ⟨_, _, rfl, ⟨fun h => (by cases h), fun h => absurd h HN.out⟩, fun h => (by cases h), G4.out⟩
           rw [decide_eq_true hsl]
           rw [hsl] at I4 ⊢
           have k40 := K4 0
           have k41 := K4 1
           have k42 := K4 2
           have k43 := K4 3
           simp at k40 k41 k42 k43
           go_wp2_with fail
           refine (zc0 _ _ _ _ _ _ _ ht).mono ?_
           rintro e w5 ⟨rfl, b5⟩
           have G5 : Hid (w.grownBy w5 (some sb)) := z8 G4.out (zan b5)
           have T5 := fun z => (b5.cell (p := ⟨w.heap.size, z, none⟩) (by dsimp only; omega)).trans (T4 z)
           have K5 := fun z => (b5.cell (p := ⟨w.heap.size + 1, z, none⟩) (by dsimp only; omega)).trans (K4 z)
           have R5 : w5.rowIs sb 4 L (fun j => .bool (snB S p n n j)) := R4.of_block (b5.block _ (by omega))
           have z5 : w.heap.size + 1 + 1 <= w5.heap.size := by have := b5.size; omega
           have I5 : Hid (IR (w.heap.size + 1 + 1) w5 (.slice ash l cs4) (shp k l)) := I4.out.below b5
           clear b5 G4 T4 K4 R4 z4 k40 k41 k42 k43 I4
           cases hhas : (zl k t && zm k ii) with
           | false =>
             have HN : Hid (¬ FIT X L p c n) := fun h => by have := F0.out h; rw [this.2.2.2.2.1, this.2.2.2.2.2.1] at hhas; cases hhas
             go_wp2
             all_goals
              go_ret2
              exact ⟨_, _, rfl, ⟨fun h => (by cases h), fun h => absurd h HN.out⟩, fun h => (by cases h), G5.out⟩
           | true =>
             rw [Bool.and_eq_true] at hhas
             obtain ⟨hh1, hh2⟩ := hhas
             go_wp2
             go_loopw [3, 16] (fun v3 q wr => ∃ (m nx : Nat), m <= l /\ nx <= 3000 /\ v3 = .int .i64 nx /\ q = .int .i64 m /\ Hid (chn X n ((zj X p).take m) nx) /\ Hid (∀ j, n <= j -> j < nx -> zao X j) /\ Hid (∀ m', m' < m -> zk ((shp k l).getD m' 0) (X (y m').toNat).k = true) /\ Hid (wr.rowIs sb 4 L (fun j => .bool (snB S p n nx j))) /\ Hid (w.grownBy wr (some sb)) /\ Hid (∀ z, wr.cell? ⟨w.heap.size, z, none⟩ = (#[.slice (some ⟨b, off, none⟩) L cp, .int .i64 top] : Array Value)[z]?) /\ Hid (∀ z, wr.cell? ⟨w.heap.size + 1, z, none⟩ = (#[.int .i64 k, .string t, .int .i64 ii, .slice ax l cx] : Array Value)[z]?) /\ Hid (IR (w.heap.size + 1 + 1) wr (.slice ash l cs4) (shp k l)) /\ w.heap.size + 1 + 1 <= wr.heap.size) (fun _ q _ => l - (intOf q).toNat)
             case atStart => exact ⟨0, n, Nat.zero_le _, hn, rfl, rfl, rfl, (fun j h1 h2 => by omega), (fun m' h => absurd h (Nat.not_lt_zero _)), R5, G5, T5, K5, I5, z5⟩
             case round =>
              clear R5 G5 T5 K5 I5 z5
              obtain ⟨m, nx, hm, hnx, rfl, rfl, hC, hG, hF, hR, hW, hT, hK, hI, hz⟩ := hrel
              have hnx' : (nx : Int) <= 3000 := by omega
              have k3 := hK.out 3
              simp at k3
              have l1 : w.heap.size + 1 < wr.heap.size := by omega
              by_cases hlt : m < l
              · have hlt' : (m : Int) < (l : Int) := by omega
                obtain ⟨bk, ok, ck, hv, tk1, lk, hkk⟩ := (SX.out.below (zbi hW.out (by omega)) hTs).parts (k := 0) (by omega)
                simp only [Value.slice.injEq] at hv
                obtain ⟨rfl, _, rfl⟩ := hv
                have hsh := hI.out.sl
                rw [hsl] at hsh
                obtain ⟨bs, os, cs5, hv, ts1, ls, hss⟩ := hsh.parts (k := 0) (by omega)
                simp only [Value.slice.injEq] at hv
                obtain ⟨rfl, _, rfl⟩ := hv
                have yk := hkk m hlt
                have ys := hss m hlt
                have HKID : Hid (FIT X L p c n -> FIT X L (y m) ((shp k l).getD m 0) nx /\ y m < (p : Int)) := fun h => by
                 have := ze2 (m := m) (nx := nx) h (by rw [Int.toNat_natCast, EX.out]; exact hlt) (by rw [Int.toNat_natCast]; exact hC.out)
                 simp only [Int.toNat_natCast, EX.out] at this
                 exact this
                have HSTEP : Hid (FIT X L (y m) ((shp k l).getD m 0) nx -> chn X n ((zj X p).take (m + 1)) ((y m).toNat + 1) /\ (∀ j, n <= j -> j < (y m).toNat + 1 -> zao X j) /\ 0 <= y m /\ (y m).toNat < L /\ nx <= (y m).toNat /\ zk ((shp k l).getD m 0) (X (y m).toNat).k = true) := fun h => by
                 have := zd4 (L := L) (n := n) (m := m) (nx := nx) (i := (p : Int)) (c' := (shp k l).getD m 0) (by rw [Int.toNat_natCast, EX.out]; exact hlt) (by rw [Int.toNat_natCast]; exact hC.out) hG.out (by rw [Int.toNat_natCast, EX.out]; exact h)
                 simp only [Int.toNat_natCast, EX.out] at this
                 have h2 := zb7 h
                 exact ⟨this.1, this.2, h2.1, h2.2.1, h2.2.2.1, h2.2.2.2.1⟩
                have HCL : Hid (∀ m', m' < m -> zk ((shp k l).getD m' 0) (X (y m').toNat).k = true) := hF
                have nle := zai X hC.out
                clear hkk hss hsh hC hG hF SX
                generalize hcm : (shp k l).getD m 0 = cm at ys HKID HSTEP
                generalize hym : y m = ym at yk HKID HSTEP
                have EY : Hid (y m = ym) := hym
                have EC : Hid ((shp k l).getD m 0 = cm) := hcm
                clear hym hcm
                by_cases hge : (p : Int) <= ym
                · have HN : Hid (¬ FIT X L p c n) := fun h => by have := (HKID.out h).2; omega
                  go_wp2
                  go_ret2
                  exact ⟨_, _, rfl, ⟨fun h => (by cases h), fun h => absurd h HN.out⟩, fun h => (by cases h), hW.out⟩
                · have hym2 : ¬ ym ≥ (p : Int) := by omega
                  have t0 := hT.out 0
                  have t1 := hT.out 1
                  simp at t0 t1
                  have KP : ∀ V, Below wr.heap.size wr V -> (Below wr.heap.size wr V /\ V.cell? ⟨w.heap.size, 0, none⟩ = some (.slice (some ⟨b, off, none⟩) L cp) /\ V.cell? ⟨w.heap.size, 1, none⟩ = some (.int .i64 top) /\ V.cell? ⟨w.heap.size + 1, 3, none⟩ = some (.slice (some ⟨bk, ok, none⟩) l cx) /\ V.cell? ⟨bk, ok + m, none⟩ = some (.int .i64 ym) /\ V.cell? ⟨bs, os + m, none⟩ = some (.int .i64 cm)) := fun V hV => by
                   refine ⟨hV, ?_, ?_, ?_, ?_, ?_⟩
                   · rw [hV.cell (p := ⟨w.heap.size, 0, none⟩) (by dsimp only; omega)]; exact t0
                   · rw [hV.cell (p := ⟨w.heap.size, 1, none⟩) (by dsimp only; omega)]; exact t1
                   · rw [hV.cell (p := ⟨w.heap.size + 1, 3, none⟩) l1]; exact k3
                   · rw [hV.cell (p := ⟨bk, ok + m, none⟩) lk]; exact yk
                   · rw [hV.cell (p := ⟨bs, os + m, none⟩) ls]; exact ys
                  have bd' := (Below.refl wr.heap.size wr).drew
                  have HCALL : Hid (∀ V, Below wr.heap.size wr V -> Calls Tryd.prog 76 #[.agg #[.slice (some ⟨b, off, none⟩) L cp, .int .i64 top], .int .i64 ym, .int .i64 cm, .int .i64 (nx : Int), .slice (some ⟨sb, 0, none⟩) L cs] V (zc1 X L sb ym cm nx (snB S p n nx) V)) := fun V hV =>
                   IHH.out ym cm nx (snB S p n nx) V (by omega) ((HS.out.below (zbi hW.out (by omega)) hTs).below hV (by omega)) (by have := hV.size; omega) (hR.out.of_block (hV.block _ (by omega))) (zgb HSS.out nle (by omega)) hnx
                  clear IHH
                  go_wp2_with fail
                  skip
                  go_region_with (go_at_call 76; refine (HCALL.out _ (by first | exact (Below.refl _ _).drew | exact below_drewN (Below.refl _ _) _)).mono ?_; rintro e w6 ⟨r, q, rfl, hq, hr, g6⟩; have g7 : wr.grownBy w6 (some sb) := z8 (zan (by first | exact (Below.refl _ _).drew | exact below_drewN (Below.refl _ _) _)) g6; clear g6)
                  all_goals
                   have G7 : Hid (w.grownBy w6 (some sb)) := z8 hW.out g7
                   cases q with
                   | false =>
                     have HN : Hid (¬ FIT X L p c n) := fun h => by have := hq.2 (HKID.out h).1; cases this
                     clear hq hr g7
                     go_wp2
                     go_ret2
                     exact ⟨_, _, rfl, ⟨fun h => (by cases h), fun h => absurd h HN.out⟩, fun h => (by cases h), G7.out⟩
                   | true =>
                     obtain ⟨hr1, hr2⟩ := hr rfl
                     obtain ⟨s1, s2, s3, s4, s5, s6⟩ := HSTEP.out (hq.1 rfl)
                     have T7 : Hid (∀ z, w6.cell? ⟨w.heap.size, z, none⟩ = (#[.slice (some ⟨b, off, none⟩) L cp, .int .i64 top] : Array Value)[z]?) := zbw g7 hT.out (by omega) (by omega)
                     have K7 : Hid (∀ z, w6.cell? ⟨w.heap.size + 1, z, none⟩ = (#[.int .i64 k, .string t, .int .i64 ii, .slice (some ⟨bk, ok, none⟩) l cx] : Array Value)[z]?) := zbw g7 hK.out l1 (by omega)
                     have I7 : Hid (IR (w.heap.size + 1 + 1) w6 (.slice (some ⟨bs, os, none⟩) l cs4) (shp k l)) := zhe g7 hI.out (by omega)
                     have z7 : w.heap.size + 1 + 1 <= w6.heap.size := Nat.le_trans hz g7.size
                     obtain ⟨zn, rfl⟩ : ∃ zn : Nat, ym = zn := ⟨ym.toNat, by omega⟩
                     rw [Int.toNat_natCast] at s1 s2 s4 s5 s6
                     have R7 : Hid (w6.rowIs sb 4 L (fun j => .bool (snB S p n (zn + 1) j))) := hr2.congr (fun j _ => by rw [zgc nle (by omega)])
                     have C7 : Hid (chn X n ((zj X p).take (m + 1)) (zn + 1)) := s1
                     have D7 : Hid (∀ j, n <= j -> j < zn + 1 -> zao X j) := s2
                     have E7 : Hid (∀ m', m' < m + 1 -> zk ((shp k l).getD m' 0) (X (y m').toNat).k = true) := fun m' h => by
                      by_cases e : m' = m
                      · subst e; rw [EY.out, EC.out, Int.toNat_natCast]; exact s6
                      · exact HCL.out m' (by omega)
                     have hr3 : r = ((zn + 1 : Nat) : Int) := by omega
                     subst hr3
                     clear hq hr hr2 hr1 s1 s2 s6 g7
                     go_wp2
                     go_roundw
                     case rel => exact ⟨m + 1, zn + 1, by omega, by omega, rfl, by go_num, C7, D7, E7, R7, G7, T7, K7, I7, z7⟩
                     case measure => simp [intOf]; omega
              · have hge : ¬ (m : Int) < (l : Int) := by omega
                obtain rfl : m = l := by omega
                have hlk : (zj X p).take m = zj X p := List.take_of_length_le (by rw [zo, EX.out]; exact Nat.le_refl _)
                rw [hlk] at hC
                have HD : Hid (FIT X L p c n ↔ (nx : Int) = p) := by
                 have := zd5 (X := X) (L := L) (n := n) (nx := nx) (i := (p : Int)) (c := c) (by omega) (by rw [Int.toNat_natCast]; exact hpL) (by rw [Int.toNat_natCast, EX.out]; exact hcl) (by rw [Int.toNat_natCast, EX.out]; exact hh1) (by rw [Int.toNat_natCast, EX.out]; exact hh2) (by rw [Int.toNat_natCast, EX.out]; exact hsl) (by rw [Int.toNat_natCast, EX.out]; exact hF.out) (by rw [Int.toNat_natCast]; exact hC.out) hG.out
                 exact this
                have nle := zai X hC.out
                clear hC hG hF hlk
                go_wp2
                go_ret2
                refine ⟨_, _, rfl, ?_, ?_, hW.out⟩
                · rw [HD.out]
                  show ((nx : Int) == (p : Int)) = true ↔ _
                  rw [beq_iff_eq]
                · intro h
                  have h2 : (nx : Int) = p := by
                   have h3 : ((nx : Int) == (p : Int)) = true := h
                   exact beq_iff_eq.1 h3
                  obtain rfl : nx = p := by omega
                  exact ⟨rfl, hR.out.congr (fun j _ => by rw [ze6 nle])⟩
       · have hcl : zk c k = false := by unfold zk; rw [if_neg c6]; exact decide_eq_false (fun h => hkc h.1)
         have b1 : (zt k == c) = false := by simp [hkc]
         have b3 : (c == 6) = false := by simp [c6]
         clear hkc c6
         have HN : Hid (¬ FIT X L p c n) := fun h => by have := (F0.out h).2.2.2.1; rw [hcl] at this; cases this
         go_wp2_with fail
         refine (zap _ _ _ _ _ _ _ hl).mono ?_
         rintro e w4 ⟨v4, rfl, hI, b4⟩
         have G4 : Hid (w.grownBy w4 (some sb)) := z8 G2 (zan b4)
         clear hI b4 G2 T2 K2 R2
         go_wp2
         all_goals
          go_ret2
          exact ⟨_, _, rfl, ⟨fun h => (by cases h), fun h => absurd h HN.out⟩, fun h => (by cases h), G4.out⟩
end Go.Proofs.YtiglkhkfbgjjoaaDoor
