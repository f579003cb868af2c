/- - -/
import Derived.Test.YtmckcnmlhgpnhaaGreatWPutA
import Derived.Test.YtmckcnmlhgpnhaaGreatWLawC
namespace Go.Proofs.YtmckcnmlhgpnhaaGreat
set_option maxRecDepth 20000
open Go.RowKit
set_option linter.unusedSimpArgs false
set_option linter.unusedVariables false
theorem zx6 {B : Nat} {w : World} {v : Value} {zs : List Int} (h : Own B w v zs) : zaz B w.heap.size 100 w v zs.length zs.length (fun i => .int .u64 (za zs i)) := by
 obtain ⟨a, cap, rfl, h⟩ := h
 refine ⟨a, cap, rfl, ?_⟩
 rcases h with rfl | ⟨b, n, f, rfl, hB, hn, hr, hf⟩
 · exact .inl rfl
 · exact .inr ⟨b, n, f, rfl, hB, hr.lt, hn, hr, hf⟩
theorem zau {B T : Nat} {t : TypeId} {w : World} {v : Value} {n m : Nat} {f : Nat -> Value} (h : zaz B T t w v n m f) {k i : Nat} (hne : k < B \/ T <= k) (u : Value) : zaz B T t (w.setCell ⟨k, i, none⟩ u) v n m f :=
 h.block fun j h1 h2 => Below.heap_setCell _ _ _ _ (by show j ≠ k; omega)
set_option maxHeartbeats 2000000 in
theorem zog (aw : Option Addr) (cw : Nat) (ws : List Int) (smz toh top : Int) (cyc : Bool) (sn old cpz sr : Int) (ar : Option Addr) (cr : Nat) (rs : List (Int × Int)) (y : Nat -> Int) (Tr : Nat) (w : World) (hs : Sl w (.slice aw ws.length cw) ws) (hn : ws.length <= 1048576) (hrt : SlF Tr w (.slice ar rs.length cr) rs.length (2 * rs.length) (fun i => .int .i64 (y i))) (hn2 : rs.length <= 1048576) :
 Calls Tryz.prog 12 #[.agg #[.slice aw ws.length cw, .int .i64 smz, .int .i64 toh, .int .i64 top, .bool cyc, .int .i64 sn, .int .i64 old, .int .i64 cpz, .int .i64 sr, .slice ar rs.length cr]] w fun e w' => ∃ b1 b2 : Nat, e = .returned (.agg #[.slice (some ⟨b1, 0, none⟩) ws.length ws.length, .int .i64 smz, .int .i64 toh, .int .i64 top, .bool cyc, .int .i64 sn, .int .i64 old, .int .i64 cpz, .int .i64 sr, .slice (some ⟨b2, 0, none⟩) rs.length rs.length]) /\ ze8 w.heap.size w'.heap.size w' (.slice (some ⟨b1, 0, none⟩) ws.length ws.length) (.slice (some ⟨b2, 0, none⟩) rs.length rs.length) ws.length rs.length (za ws) y /\ Below w.heap.size w w' := by
 have HS : Hid (Sl w (.slice aw ws.length cw) ws) := hs
 have HR : Hid (SlF w.heap.size w (.slice ar rs.length cr) rs.length (2 * rs.length) (fun i => .int .i64 (y i))) := hrt.here
 clear hs hrt
 go_enter Tryz.func12, Tryz.ntmps12
 have B3 : Below w.heap.size w (((w.alloc (.cells #[.slice aw ws.length cw, .int .i64 smz, .int .i64 toh, .int .i64 top, .bool cyc, .int .i64 sn, .int .i64 old, .int .i64 cpz, .int .i64 sr, .slice ar rs.length cr] 25)).alloc (.cells #[.slice none 0 0, .int .i64 0, .int .i64 0, .int .i64 0, .bool false, .int .i64 0, .int .i64 0, .int .i64 0, .int .i64 0, .slice none 0 0] 30)).alloc (.cells #[.slice none 0 0, .int .i64 0, .int .i64 0, .int .i64 0, .bool false, .int .i64 0, .int .i64 0, .int .i64 0, .int .i64 0, .slice none 0 0] 30)) := zba (Below.refl _ _)
 go_wp2_with (first | (go_at_call 47; refine (zqd _ _ ws _ (HS.out.below B3) hn).mono ?_; rintro e w1 ⟨rfl, o1, b1⟩; obtain ⟨k1, k2, k3⟩ := za9 b1; have f3 : ∀ i, w1.frozen? ⟨w.heap.size + 1 + 1, i, none⟩ = false := fun i => (by rw [(zo b1).2 _ _ (by simp)]; simp [go_sem]); have f2 : ∀ i, w1.frozen? ⟨w.heap.size + 1, i, none⟩ = false := fun i => (by rw [(zo b1).2 _ _ (by simp)]; simp [go_sem])) | fail)
 have r3 : w1.rowIs (w.heap.size + 1 + 1) 30 10 (fun i => (#[.slice none 0 0, .int .i64 0, .int .i64 0, .int .i64 0, .bool false, .int .i64 0, .int .i64 0, .int .i64 0, .int .i64 0, .slice none 0 0] : Array Value).getD i (.bool false)) := ⟨(#[.slice none 0 0, .int .i64 0, .int .i64 0, .int .i64 0, .bool false, .int .i64 0, .int .i64 0, .int .i64 0, .int .i64 0, .slice none 0 0] : Array Value), (b1.block _ (by simp)).trans (zdn (by simp)), rfl, fun i hi => by simp [Array.getD, hi]⟩
 have r2 : w1.rowIs (w.heap.size + 1) 30 10 (fun i => (#[.slice none 0 0, .int .i64 0, .int .i64 0, .int .i64 0, .bool false, .int .i64 0, .int .i64 0, .int .i64 0, .int .i64 0, .slice none 0 0] : Array Value).getD i (.bool false)) := ⟨(#[.slice none 0 0, .int .i64 0, .int .i64 0, .int .i64 0, .bool false, .int .i64 0, .int .i64 0, .int .i64 0, .int .i64 0, .slice none 0 0] : Array Value), (b1.block _ (by simp)).trans ((zfb (by simp)).trans (zdn (by simp))), rfl, fun i hi => by simp [Array.getD, hi]⟩
 have hz2 : w.heap.size <= w.heap.size + 1 + 1 := by omega
 obtain ⟨W9, hW9⟩ : ∃ W, W = (((((((((w1.setCell ⟨w.heap.size + 1 + 1, 0, none⟩ (.slice (some ⟨w.heap.size + 1 + 1 + 1, 0, none⟩) ws.length ws.length)).setCell ⟨w.heap.size + 1 + 1, 1, none⟩ (.int .i64 smz)).setCell ⟨w.heap.size + 1 + 1, 2, none⟩ (.int .i64 toh)).setCell ⟨w.heap.size + 1 + 1, 3, none⟩ (.int .i64 top)).setCell ⟨w.heap.size + 1 + 1, 4, none⟩ (.bool cyc)).setCell ⟨w.heap.size + 1 + 1, 5, none⟩ (.int .i64 sn)).setCell ⟨w.heap.size + 1 + 1, 6, none⟩ (.int .i64 old)).setCell ⟨w.heap.size + 1 + 1, 7, none⟩ (.int .i64 cpz)).setCell ⟨w.heap.size + 1 + 1, 8, none⟩ (.int .i64 sr)) := ⟨_, rfl⟩
 have R3 := (((((((((r3.set 0 (.slice (some ⟨w.heap.size + 1 + 1 + 1, 0, none⟩) ws.length ws.length)).set 1 (.int .i64 smz)).set 2 (.int .i64 toh)).set 3 (.int .i64 top)).set 4 (.bool cyc)).set 5 (.int .i64 sn)).set 6 (.int .i64 old)).set 7 (.int .i64 cpz)).set 8 (.int .i64 sr))
 have R2 := (((((((((r2.setOther (a := ⟨w.heap.size + 1 + 1, 0, none⟩) (by show w.heap.size + 1 ≠ w.heap.size + 1 + 1; omega) (.slice (some ⟨w.heap.size + 1 + 1 + 1, 0, none⟩) ws.length ws.length)).setOther (a := ⟨w.heap.size + 1 + 1, 1, none⟩) (by show w.heap.size + 1 ≠ w.heap.size + 1 + 1; omega) (.int .i64 smz)).setOther (a := ⟨w.heap.size + 1 + 1, 2, none⟩) (by show w.heap.size + 1 ≠ w.heap.size + 1 + 1; omega) (.int .i64 toh)).setOther (a := ⟨w.heap.size + 1 + 1, 3, none⟩) (by show w.heap.size + 1 ≠ w.heap.size + 1 + 1; omega) (.int .i64 top)).setOther (a := ⟨w.heap.size + 1 + 1, 4, none⟩) (by show w.heap.size + 1 ≠ w.heap.size + 1 + 1; omega) (.bool cyc)).setOther (a := ⟨w.heap.size + 1 + 1, 5, none⟩) (by show w.heap.size + 1 ≠ w.heap.size + 1 + 1; omega) (.int .i64 sn)).setOther (a := ⟨w.heap.size + 1 + 1, 6, none⟩) (by show w.heap.size + 1 ≠ w.heap.size + 1 + 1; omega) (.int .i64 old)).setOther (a := ⟨w.heap.size + 1 + 1, 7, none⟩) (by show w.heap.size + 1 ≠ w.heap.size + 1 + 1; omega) (.int .i64 cpz)).setOther (a := ⟨w.heap.size + 1 + 1, 8, none⟩) (by show w.heap.size + 1 ≠ w.heap.size + 1 + 1; omega) (.int .i64 sr))
 have B9 := ((((((((((zba b1).setCell (p := ⟨w.heap.size + 1 + 1, 0, none⟩) hz2 (.slice (some ⟨w.heap.size + 1 + 1 + 1, 0, none⟩) ws.length ws.length)).setCell (p := ⟨w.heap.size + 1 + 1, 1, none⟩) hz2 (.int .i64 smz)).setCell (p := ⟨w.heap.size + 1 + 1, 2, none⟩) hz2 (.int .i64 toh)).setCell (p := ⟨w.heap.size + 1 + 1, 3, none⟩) hz2 (.int .i64 top)).setCell (p := ⟨w.heap.size + 1 + 1, 4, none⟩) hz2 (.bool cyc)).setCell (p := ⟨w.heap.size + 1 + 1, 5, none⟩) hz2 (.int .i64 sn)).setCell (p := ⟨w.heap.size + 1 + 1, 6, none⟩) hz2 (.int .i64 old)).setCell (p := ⟨w.heap.size + 1 + 1, 7, none⟩) hz2 (.int .i64 cpz)).setCell (p := ⟨w.heap.size + 1 + 1, 8, none⟩) hz2 (.int .i64 sr))
 have OW := o1.block (w' := W9) (fun k hk _ => by
  have hk' : w.heap.size + 1 + 1 < k := by simp at hk; omega
  rw [hW9]
  repeat rw [Below.heap_setCell _ _ _ _ (by show k ≠ w.heap.size + 1 + 1; omega)])
 rw [<- hW9] at R3 R2 B9 ⊢
 clear hW9 o1 k1 k2 k3 f3 f2 r3 r2 b1
 refine (zss _ _ _ y _ _ (HR.out.below B9 (Nat.le_refl _)) hn2).mono ?_
 rintro e w2 ⟨rfl, rr, b2⟩
 have Q3 := R3.of_block (b2.block _ R3.lt)
 have Q2 := R2.of_block (b2.block _ R2.lt)
 have OW2 := (zx6 OW).below b2 (Nat.le_refl _)
 have rl := rr.lt
 have B9s := b2.size
 have B2 := zc B9 b2
 have lW := R3.lt
 clear R3 R2 B9 OW b2
 have c0 : w2.cell? ⟨w.heap.size + 1 + 1, 0, none⟩ = some (.slice (some ⟨w.heap.size + 1 + 1 + 1, 0, none⟩) ws.length ws.length) := by simpa using Q3.cell (i := 0) (by omega)
 have d0 : w2.cell? ⟨w.heap.size + 1, 0, none⟩ = some (.slice none 0 0) := by simpa using Q2.cell (i := 0) (by omega)
 have c1 : w2.cell? ⟨w.heap.size + 1 + 1, 1, none⟩ = some (.int .i64 smz) := by simpa using Q3.cell (i := 1) (by omega)
 have d1 : w2.cell? ⟨w.heap.size + 1, 1, none⟩ = some (.int .i64 0) := by simpa using Q2.cell (i := 1) (by omega)
 have c2 : w2.cell? ⟨w.heap.size + 1 + 1, 2, none⟩ = some (.int .i64 toh) := by simpa using Q3.cell (i := 2) (by omega)
 have d2 : w2.cell? ⟨w.heap.size + 1, 2, none⟩ = some (.int .i64 0) := by simpa using Q2.cell (i := 2) (by omega)
 have c3 : w2.cell? ⟨w.heap.size + 1 + 1, 3, none⟩ = some (.int .i64 top) := by simpa using Q3.cell (i := 3) (by omega)
 have d3 : w2.cell? ⟨w.heap.size + 1, 3, none⟩ = some (.int .i64 0) := by simpa using Q2.cell (i := 3) (by omega)
 have c4 : w2.cell? ⟨w.heap.size + 1 + 1, 4, none⟩ = some (.bool cyc) := by simpa using Q3.cell (i := 4) (by omega)
 have d4 : w2.cell? ⟨w.heap.size + 1, 4, none⟩ = some (.bool false) := by simpa using Q2.cell (i := 4) (by omega)
 have c5 : w2.cell? ⟨w.heap.size + 1 + 1, 5, none⟩ = some (.int .i64 sn) := by simpa using Q3.cell (i := 5) (by omega)
 have d5 : w2.cell? ⟨w.heap.size + 1, 5, none⟩ = some (.int .i64 0) := by simpa using Q2.cell (i := 5) (by omega)
 have c6 : w2.cell? ⟨w.heap.size + 1 + 1, 6, none⟩ = some (.int .i64 old) := by simpa using Q3.cell (i := 6) (by omega)
 have d6 : w2.cell? ⟨w.heap.size + 1, 6, none⟩ = some (.int .i64 0) := by simpa using Q2.cell (i := 6) (by omega)
 have c7 : w2.cell? ⟨w.heap.size + 1 + 1, 7, none⟩ = some (.int .i64 cpz) := by simpa using Q3.cell (i := 7) (by omega)
 have d7 : w2.cell? ⟨w.heap.size + 1, 7, none⟩ = some (.int .i64 0) := by simpa using Q2.cell (i := 7) (by omega)
 have c8 : w2.cell? ⟨w.heap.size + 1 + 1, 8, none⟩ = some (.int .i64 sr) := by simpa using Q3.cell (i := 8) (by omega)
 have d8 : w2.cell? ⟨w.heap.size + 1, 8, none⟩ = some (.int .i64 0) := by simpa using Q2.cell (i := 8) (by omega)
 have c9 : w2.cell? ⟨w.heap.size + 1 + 1, 9, none⟩ = some (.slice none 0 0) := by simpa using Q3.cell (i := 9) (by omega)
 have d9 : w2.cell? ⟨w.heap.size + 1, 9, none⟩ = some (.slice none 0 0) := by simpa using Q2.cell (i := 9) (by omega)
 have f3 := Q3.frozen
 have f2 := Q2.frozen
 have HQ3 : Hid (w.heap.size + 1 + 1 < w2.heap.size) := Q3.lt
 have HSW : Hid (zaz (w.heap.size + 1 + 1 + 1) W9.heap.size 100 w2 (.slice (some ⟨w.heap.size + 1 + 1 + 1, 0, none⟩) ws.length ws.length) ws.length ws.length (fun i => .int .u64 (za ws i))) := by show zaz (w.heap.size + 1 + 1 + 1) W9.heap.size 100 w2 (.slice (some ⟨w.heap.size + 1 + 1 + 1, 0, none⟩) ws.length ws.length) ws.length ws.length (fun i => .int .u64 (za ws i)); simpa using OW2
 have HSR : Hid (zaz W9.heap.size (W9.heap.size + 1) 48 w2 (.slice (some ⟨W9.heap.size, 0, none⟩) rs.length rs.length) rs.length (2 * rs.length) (fun i => .int .i64 (y i))) := ⟨_, _, rfl, .inr ⟨W9.heap.size, rs.length * 2, _, rfl, Nat.le_refl _, Nat.lt_succ_self _, by omega, rr, fun _ _ => rfl⟩⟩
 have HB2 : Hid (Below w.heap.size w w2) := B2
 have H9 : Hid (W9.heap.size < w2.heap.size) := rl
 have H8 : Hid (w.heap.size + 1 + 1 + 1 <= W9.heap.size) := by show w.heap.size + 1 + 1 + 1 <= W9.heap.size; omega
 clear Q3 Q2 OW2 rr B2 rl
 go_wp2
 have p0 : (w2.cell? ⟨w.heap.size + 1, 0, none⟩).isSome = true := by rw [d0]; rfl
 have p1 : (w2.cell? ⟨w.heap.size + 1, 1, none⟩).isSome = true := by rw [d1]; rfl
 have p2 : (w2.cell? ⟨w.heap.size + 1, 2, none⟩).isSome = true := by rw [d2]; rfl
 have p3 : (w2.cell? ⟨w.heap.size + 1, 3, none⟩).isSome = true := by rw [d3]; rfl
 have p4 : (w2.cell? ⟨w.heap.size + 1, 4, none⟩).isSome = true := by rw [d4]; rfl
 have p5 : (w2.cell? ⟨w.heap.size + 1, 5, none⟩).isSome = true := by rw [d5]; rfl
 have p6 : (w2.cell? ⟨w.heap.size + 1, 6, none⟩).isSome = true := by rw [d6]; rfl
 have p7 : (w2.cell? ⟨w.heap.size + 1, 7, none⟩).isSome = true := by rw [d7]; rfl
 have p8 : (w2.cell? ⟨w.heap.size + 1, 8, none⟩).isSome = true := by rw [d8]; rfl
 have p9 : (w2.cell? ⟨w.heap.size + 1, 9, none⟩).isSome = true := by rw [d9]; rfl
 refine bodyPost_ret (v := .agg #[.slice (some ⟨w.heap.size + 1 + 1 + 1, 0, none⟩) ws.length ws.length, .int .i64 smz, .int .i64 toh, .int .i64 top, .bool cyc, .int .i64 sn, .int .i64 old, .int .i64 cpz, .int .i64 sr, .slice (some ⟨W9.heap.size, 0, none⟩) rs.length rs.length]) (by simp [results, Tryz.results12, go_sem, p0, p1, p2, p3, p4, p5, p6, p7, p8, p9]) rfl ⟨_, _, rfl, ?_, ?_⟩
 · have h9 := H9.out
   have h8 := H8.out
   refine ⟨w.heap.size + 1 + 1 + 1, W9.heap.size, W9.heap.size, W9.heap.size + 1, by omega, by simp; omega, by omega, by simp; omega, by omega, ?_, ?_⟩
   · have g1 : w.heap.size + 1 < w.heap.size + 1 + 1 + 1 \/ W9.heap.size <= w.heap.size + 1 := by omega
     have g2 : w.heap.size + 1 + 1 < w.heap.size + 1 + 1 + 1 \/ W9.heap.size <= w.heap.size + 1 + 1 := by omega
     refine zau ?_ g1 _
     refine zau ?_ g1 _
     refine zau ?_ g1 _
     refine zau ?_ g1 _
     refine zau ?_ g1 _
     refine zau ?_ g1 _
     refine zau ?_ g1 _
     refine zau ?_ g1 _
     refine zau ?_ g1 _
     refine zau ?_ g1 _
     refine zau ?_ g2 _
     exact HSW.out
   · have g1 : w.heap.size + 1 < W9.heap.size \/ W9.heap.size + 1 <= w.heap.size + 1 := by omega
     have g2 : w.heap.size + 1 + 1 < W9.heap.size \/ W9.heap.size + 1 <= w.heap.size + 1 + 1 := by omega
     refine zau ?_ g1 _
     refine zau ?_ g1 _
     refine zau ?_ g1 _
     refine zau ?_ g1 _
     refine zau ?_ g1 _
     refine zau ?_ g1 _
     refine zau ?_ g1 _
     refine zau ?_ g1 _
     refine zau ?_ g1 _
     refine zau ?_ g1 _
     refine zau ?_ g2 _
     exact HSR.out
 · refine Below.setCell ?_ (Nat.le_succ _) _
   refine Below.setCell ?_ (Nat.le_succ _) _
   refine Below.setCell ?_ (Nat.le_succ _) _
   refine Below.setCell ?_ (Nat.le_succ _) _
   refine Below.setCell ?_ (Nat.le_succ _) _
   refine Below.setCell ?_ (Nat.le_succ _) _
   refine Below.setCell ?_ (Nat.le_succ _) _
   refine Below.setCell ?_ (Nat.le_succ _) _
   refine Below.setCell ?_ (Nat.le_succ _) _
   refine Below.setCell ?_ (Nat.le_succ _) _
   refine Below.setCell ?_ hz2 _
   exact HB2.out
theorem zuu {B T : Nat} {w : World} {a1 a2 : Option Addr} {c1 c2 : Nat} {ws : List Int} {m : Nat} {y : Nat -> Int} (h : ze8 B T w (.slice a1 ws.length c1) (.slice a2 m c2) ws.length m (za ws) y) :
 Sl w (.slice a1 ws.length c1) ws /\ SlF w.heap.size w (.slice a2 m c2) m (2 * m) (fun i => .int .i64 (y i)) := by
 refine ⟨?_, h.sl.2.here⟩
 obtain ⟨a, c, he, hc⟩ := h.sl.1
 refine ⟨a, c, he, ?_⟩
 rcases hc with h0 | ⟨b, off, rfl, _, hb, hc⟩
 · exact .inl (List.eq_nil_of_length_eq_zero h0)
 · exact .inr ⟨b, off, rfl, hb, hc⟩
theorem zoh {B T C U : Nat} {w w' : World} {vw vr : Value} {n m : Nat} {z y : Nat -> Int} (h : ze8 B T w vw vr n m z y) (hb : zz C U w w') (hU : U <= B) : ze8 B T w' vw vr n m z y := by
 obtain ⟨b1, t1, b2, t2, h1, h2, h3, h4, h5, h6, h7⟩ := h
 exact ⟨b1, t1, b2, t2, h1, h2, h3, h4, h5, h6.apart hb (by omega), h7.apart hb (by omega)⟩
end Go.Proofs.YtmckcnmlhgpnhaaGreat
