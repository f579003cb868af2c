/- The program's Way. -/
import Derived.Test.YtmckcnmlhgpnhaaGreatKWyI
import Derived.Test.YtmckcnmlhgpnhaaGreatKCoK
namespace Go.Proofs.YtmckcnmlhgpnhaaGreat
set_option maxRecDepth 20000
open Go.RowKit Go.Maps
set_option linter.unusedSimpArgs false
set_option linter.unusedVariables false

theorem wayW_len (X : List (Nat × Int × Int)) : ∀ (d : Nat) (k : Int) (acc : List Int), (wayW X d k acc).length ≤ acc.length + d
  | 0, _, _ => by simp [wayW]
  | d + 1, k, acc => by
    simp only [wayW]
    split
    · have := wayW_len X d (X.getD k.toNat (0, 0, 0)).2.1 ((X.getD k.toNat (0, 0, 0)).2.2 :: acc)
      simp only [List.length_cons] at this
      omega
    · omega
theorem wayS_len (X : List (Nat × Int × Int)) (k : Nat) : (wayS X k).length ≤ k + 1 := by
  have := wayW_len X (k + 1) k []
  unfold wayS
  simpa using this
theorem first_hit (f : Nat → Prop) : ∀ n : Nat, (∃ k, k < n ∧ f k ∧ ∀ j, j < k → ¬ f j) ∨ (∀ j, j < n → ¬ f j)
  | 0 => .inr fun j hj => by omega
  | n + 1 => by
    rcases first_hit f n with ⟨k, h1, h2, h3⟩ | h
    · exact .inl ⟨k, by omega, h2, h3⟩
    · by_cases hf : f n
      · exact .inl ⟨n, by omega, hf, h⟩
      · refine .inr fun j hj => ?_
        by_cases e : j < n
        · exact h j e
        · obtain rfl : j = n := by omega
          exact hf
theorem wayA_ex (ws : List Int) (R : List (Nat × Int × Int)) (s : Int) : ∃ q out, WayA ws R s q out ∧ out.length ≤ R.length := by
  rcases first_hit (fun k => rdN (wordAt ws ((plS R).getD k 0)) = s) R.length with ⟨k, h1, h2, h3⟩ | h
  · exact ⟨true, _, .inl ⟨rfl, k, h1, h2, h3, rfl⟩, Nat.le_trans (wayS_len R k) h1⟩
  · exact ⟨false, [], .inr ⟨rfl, h, rfl⟩, by simp⟩
set_option maxHeartbeats 8000000 in
theorem implWay_yes (aw : Option Addr) (cw : Nat) (ws : List Int) (semi toh top : Int) (cyc : Bool) (scan old copied serial : Int) (ar : Option Addr) (cr : Nat) (rs : List (Int × Int)) (y : Nat → Int) (Tr : Nat) (w : World) (x0 : Int) (hx : 1 ≤ x0) (hs : Sl w (.slice aw ws.length cw) ws) (hcw : ws.length ≤ cw) (hn : ws.length ≤ 1048576) (hw : Words64 ws) (hrt : SlF Tr w (.slice ar rs.length cr) rs.length (2 * rs.length) (fun i => .int .i64 (y i))) (hn2 : rs.length ≤ 1048576) (hok : ArOk ws semi toh top cyc scan old copied serial y rs.length) (mk : Nat → Int) (R : List (Nat × Int × Int)) (hK : Known mk ws cyc scan) (hB : BfsS ws 0 (reachN ws (rootF y) (-1) (fun j => (j : Int)) rs.length []) R) (hC : Come mk (plS (reachN ws (rootF y) (-1) (fun j => (j : Int)) rs.length []))) (hCR : Come mk (plS R)) (hWF : WfS R) :
    Calls Tryz.prog 38 #[.agg #[.slice aw ws.length cw, .int .i64 semi, .int .i64 toh, .int .i64 top, .bool cyc, .int .i64 scan, .int .i64 old, .int .i64 copied, .int .i64 serial, .slice ar rs.length cr], .int .i64 x0] w fun e w' => ∃ (v : Value) (q : Bool) (out : List Int), e = .returned (.tuple #[v, .bool q]) ∧ WayA ws R x0 q out ∧ OwnF w.heap.size w'.heap.size 3 w' v out.length out.length (fun i => .int .i64 (out.getD i 0)) ∧ Below w.heap.size w w' := by
  obtain ⟨s0, s1, hl, t0, t1, hrl, h1, h2, hold⟩ := num_facts hok.1
  obtain ⟨b, off, rfl, hb, hc⟩ := sl_open hs (by omega)
  have HS : Hid (Sl w (.slice (some ⟨b, off, none⟩) ws.length cw) ws) := hs
  have HR : Hid (SlF w.heap.size w (.slice ar rs.length cr) rs.length (2 * rs.length) (fun i => .int .i64 (y i))) := hrt.here
  have HQ : Hid (ArOk ws semi toh top cyc scan old copied serial y rs.length) := hok
  have HWF : Hid (WfS R) := hWF
  have hRl : R.length ≤ ws.length := by rw [← plS_len]; exact come_length hK hCR
  have hRl' : R.length ≤ 1048576 := by omega
  have HPL : Hid (∀ k, k < R.length → (plS R).getD k 0 < ws.length) := fun k hk => known_lt hK (hCR.2 _ (by simp [plS_len, hk]))
  have HRE : Hid (∀ W, Below w.heap.size w W → Calls Tryz.prog 86 #[.agg #[.slice (some ⟨b, off, none⟩) ws.length cw, .int .i64 semi, .int .i64 toh, .int .i64 top, .bool cyc, .int .i64 scan, .int .i64 old, .int .i64 copied, .int .i64 serial, .slice ar rs.length cr], .slice ar rs.length cr] W fun e w' => ∃ v, e = .returned v ∧ w'.ownsRow W.heap.size 124 3 v R.length (cC R) ∧ Below W.heap.size W w') := fun W hW => by
    refine comings_at b off cw ws semi toh top cyc scan old copied serial ar cr rs ar cr rs.length y mk R W (by have := hW.size; omega) (fun i hi => by rw [hW.cell (p := ⟨b, off + i, none⟩) hb]; exact hc i hi) hn hw ((HR.out.below hW (Nat.le_refl _)).here) hrl (fun k hk hrr => ?_) hK hB hC
    obtain ⟨p, h1, _, _, h4, h5, _⟩ := ar_root hw hok hk hrr
    exact ⟨p, p, h1, by omega, h5, by omega⟩
  have hx' : 0 < x0 := by omega
  have HX : Hid (1 ≤ x0) := hx
  clear hs hrt hok hK hB hC hCR hc h1 h2 hold hWF hx
  go_enter Tryz.func38, Tryz.ntmps38
  obtain ⟨w0, hw0⟩ : ∃ V, V = (w.alloc (.cells #[.slice (some ⟨b, off, none⟩) ws.length cw, .int .i64 semi, .int .i64 toh, .int .i64 top, .bool cyc, .int .i64 scan, .int .i64 old, .int .i64 copied, .int .i64 serial, .slice ar rs.length cr] 30)).alloc (.cells #[.int .i64 x0] 3) := ⟨_, rfl⟩
  have B0 : Below w.heap.size w w0 := by rw [hw0]; exact ((Below.refl _ _).alloc (Nat.le_refl _) _).alloc (by simp) _
  have k0 : ∀ i, w0.cell? ⟨w.heap.size, i, none⟩ = (#[.slice (some ⟨b, off, none⟩) ws.length cw, .int .i64 semi, .int .i64 toh, .int .i64 top, .bool cyc, .int .i64 scan, .int .i64 old, .int .i64 copied, .int .i64 serial, .slice ar rs.length cr] : Array Value)[i]? := fun i => by rw [hw0]; simp [go_sem]
  have x00 : w0.cell? ⟨w.heap.size + 1, 0, none⟩ = some (.int .i64 x0) := by rw [hw0]; simp [go_sem]
  have z0 : w.heap.size + 1 < w0.heap.size := by rw [hw0]; simp
  go_upto_region 1 with fail
  rw [← hw0]
  clear hw0
  go_wp2_with fail
  refine (implArenaOk_at _ _ _ _ _ _ _ _ _ _ _ _ _ _ y w.heap.size _ (HS.out.below B0) hcw hn hw (HR.out.below B0 (Nat.le_refl _)) hn2).mono ?_
  rintro e w1 ⟨q, rfl, hq, b1⟩
  obtain rfl := hq.2 HQ.out
  have B1 := below_next B0 b1
  have k1 := has_below k0 b1 (by omega)
  have x1 : w1.cell? ⟨w.heap.size + 1, 0, none⟩ = some (.int .i64 x0) := by rw [b1.cell (p := ⟨w.heap.size + 1, 0, none⟩) z0]; exact x00
  have z1 : w.heap.size + 1 < w1.heap.size := Nat.lt_of_lt_of_le z0 b1.size
  clear b1 hq k0 x00 B0
  go_wp2_with fail
  refine (HRE.out _ B1).mono ?_
  rintro e w2 ⟨v2, rfl, o2, b2⟩
  have B2 := below_next B1 b2
  have k2 := has_below k1 b2 (by omega)
  have x2 : w2.cell? ⟨w.heap.size + 1, 0, none⟩ = some (.int .i64 x0) := by rw [b2.cell (p := ⟨w.heap.size + 1, 0, none⟩) z1]; exact x1
  have z2 : w.heap.size + 1 < w2.heap.size := Nat.lt_of_lt_of_le z1 b2.size
  have O2 : Hid (w2.ownsRow w1.heap.size 124 3 v2 R.length (cC R)) := o2
  have HK2 : Hid (∀ i, w2.cell? ⟨w.heap.size, i, none⟩ = (#[.slice (some ⟨b, off, none⟩) ws.length cw, .int .i64 semi, .int .i64 toh, .int .i64 top, .bool cyc, .int .i64 scan, .int .i64 old, .int .i64 copied, .int .i64 serial, .slice ar rs.length cr] : Array Value)[i]?) := k2
  have HX2 : Hid (w2.cell? ⟨w.heap.size + 1, 0, none⟩ = some (.int .i64 x0)) := x2
  have HB2 : Hid (Below w.heap.size w w2) := B2
  have HPR : Hid (∀ W (j : Nat) (sl fr : Int), j < R.length → Below w2.heap.size w2 W → Calls Tryz.prog 88 (#[.agg #[.int .i64 (((plS R).getD j 0 : Nat) : Int), .int .i64 sl, .int .i64 fr]] ++ #[.pointer (some ⟨w.heap.size, 0, none⟩), .pointer (some ⟨w.heap.size + 1, 0, none⟩)]) W fun e w' => e = .returned (.bool (rdN (wordAt ws ((plS R).getD j 0)) == x0)) ∧ Below W.heap.size W w') := fun W j sl fr hj hW =>
    wayIs_at b off cw ws semi toh top cyc scan old copied serial ar cr rs w.heap.size (w.heap.size + 1) ((plS R).getD j 0) sl fr x0 W (by have := hW.size; omega) (has_below HK2.out hW (by omega)) (by have := hW.size; omega) (by rw [hW.cell (p := ⟨w.heap.size + 1, 0, none⟩) (by dsimp only; omega)]; exact HX2.out) (HS.out.below (below_next HB2.out hW)) hn hw (HPL.out j hj)
  clear b2 o2 k1 x1 B1 HR HQ HRE k2 x2 B2
  go_wp2_with fail
  refine (idx_at ws R x0 hRl' w1.heap.size v2 _ w2 O2.out (enters_of Tryz.func88 (by kernel_rfl) rfl) HPR.out).mono ?_
  rintro e w3 ⟨q, rfl, hq, b3⟩
  have B3 : Hid (Below w.heap.size w w3) := below_next HB2.out b3
  have O3 : Hid (w3.ownsRow w1.heap.size 124 3 v2 R.length (cC R)) := World.ownsRow.kept O2.out (row := none) ⟨b3.os, b3.tape, b3.output, b3.size, fun k hk _ => b3.block k hk⟩ (by cases v2.ownBlock <;> simp)
  clear b3 HPR
  rcases hq with ⟨k, hk, rfl, e1, e2⟩ | ⟨rfl, hmiss⟩
  · have HHIT : Hid (WayA ws R x0 true (wayS R k)) := .inl ⟨rfl, k, hk, e1, e2, rfl⟩
    have hk0 : ¬ ((k : Int) < 0) := by omega
    clear e1 e2
    go_wp2_with fail
    refine (wayOf_at R k hk HWF.out hRl' w1.heap.size v2 w3 O3.out).mono ?_
    rintro e w4 ⟨u, rfl, o4, b4⟩
    have B4 : Hid (Below w.heap.size w w4) := below_next B3.out b4
    have O4 : Hid (OwnF w3.heap.size w4.heap.size 3 w4 u (wayS R k).length (wayS R k).length (fun i => .int .i64 ((wayS R k).getD i 0))) := o4
    clear o4 b4
    go_wp2
    refine bodyPost_ret (v := .tuple #[u, .bool true]) (by simp [results, Tryz.results38, go_sem]) rfl ?_
    exact ⟨_, true, _, rfl, HHIT.out, O4.out.mono (B3.out.size) (Nat.le_refl _), B4.out⟩
  · have HMISS : Hid (WayA ws R x0 false []) := .inr ⟨rfl, hmiss, rfl⟩
    clear hmiss
    go_wp2
    go_ret2
    exact ⟨_, false, [], rfl, HMISS.out, ⟨_, _, rfl, .inl rfl⟩, B3.out⟩
set_option maxHeartbeats 2000000 in
theorem implWay_no (aw : Option Addr) (cw : Nat) (ws : List Int) (semi toh top : Int) (cyc : Bool) (scan old copied serial : Int) (ar : Option Addr) (cr : Nat) (rs : List (Int × Int)) (x0 : Int) (y : Nat → Int) (Tr : Nat) (w : World) (hs : Sl w (.slice aw ws.length cw) ws) (hcw : ws.length ≤ cw) (hn : ws.length ≤ 1048576) (hw : Words64 ws) (hrt : SlF Tr w (.slice ar rs.length cr) rs.length (2 * rs.length) (fun i => .int .i64 (y i))) (hn2 : rs.length ≤ 1048576) (hno : ¬ ArOk ws semi toh top cyc scan old copied serial y rs.length ∨ x0 < 1) :
    Calls Tryz.prog 38 #[.agg #[.slice aw ws.length cw, .int .i64 semi, .int .i64 toh, .int .i64 top, .bool cyc, .int .i64 scan, .int .i64 old, .int .i64 copied, .int .i64 serial, .slice ar rs.length cr], .int .i64 x0] w fun e w' => ∃ v, e = .returned (.tuple #[v, .bool false]) ∧ OwnF w.heap.size w'.heap.size 3 w' v 0 0 (fun i => .int .i64 (([] : List Int).getD i 0)) ∧ Below w.heap.size w w' := by
  have HS : Hid (Sl w (.slice aw ws.length cw) ws) := hs
  have HR : Hid (SlF w.heap.size w (.slice ar rs.length cr) rs.length (2 * rs.length) (fun i => .int .i64 (y i))) := hrt.here
  have HNO : Hid (¬ ArOk ws semi toh top cyc scan old copied serial y rs.length ∨ x0 < 1) := hno
  clear hs hrt hno
  go_enter Tryz.func38, Tryz.ntmps38
  obtain ⟨w0, hw0⟩ : ∃ V, V = (w.alloc (.cells #[.slice aw ws.length cw, .int .i64 semi, .int .i64 toh, .int .i64 top, .bool cyc, .int .i64 scan, .int .i64 old, .int .i64 copied, .int .i64 serial, .slice ar rs.length cr] 30)).alloc (.cells #[.int .i64 x0] 3) := ⟨_, rfl⟩
  have B0 : Below w.heap.size w w0 := by rw [hw0]; exact ((Below.refl _ _).alloc (Nat.le_refl _) _).alloc (by simp) _
  have k0 : ∀ i, w0.cell? ⟨w.heap.size, i, none⟩ = (#[.slice aw ws.length cw, .int .i64 semi, .int .i64 toh, .int .i64 top, .bool cyc, .int .i64 scan, .int .i64 old, .int .i64 copied, .int .i64 serial, .slice ar rs.length cr] : Array Value)[i]? := fun i => by rw [hw0]; simp [go_sem]
  have x00 : w0.cell? ⟨w.heap.size + 1, 0, none⟩ = some (.int .i64 x0) := by rw [hw0]; simp [go_sem]
  have z0 : w.heap.size + 1 < w0.heap.size := by rw [hw0]; simp
  go_upto_region 1 with fail
  rw [← hw0]
  clear hw0
  go_wp2_with fail
  refine (implArenaOk_at _ _ _ _ _ _ _ _ _ _ _ _ _ _ y w.heap.size _ (HS.out.below B0) hcw hn hw (HR.out.below B0 (Nat.le_refl _)) hn2).mono ?_
  rintro e w1 ⟨q, rfl, hq, b1⟩
  have B1 := below_next B0 b1
  have x1 : w1.cell? ⟨w.heap.size + 1, 0, none⟩ = some (.int .i64 x0) := by rw [b1.cell (p := ⟨w.heap.size + 1, 0, none⟩) z0]; exact x00
  clear b1 k0 x00 B0
  cases q with
  | false =>
    clear hq
    go_wp2
    go_ret2
    exact ⟨_, rfl, ⟨_, _, rfl, .inl rfl⟩, B1⟩
  | true =>
    have hx : x0 ≤ 0 := by
      rcases HNO.out with h | h
      · exact absurd (hq.1 rfl) h
      · omega
    clear hq
    go_wp2
    go_ret2
    exact ⟨_, rfl, ⟨_, _, rfl, .inl rfl⟩, B1⟩
end Go.Proofs.YtmckcnmlhgpnhaaGreat
