/- - -/
import Derived.Test.YtblcfbhlmdhnpaaGreatBBoZ
import Derived.Test.YtblcfbhlmdhnpaaGreatBMc20
namespace Go.Proofs.YtblcfbhlmdhnpaaGreat
set_option maxRecDepth 20000
open Go.RowKit
set_option linter.unusedSimpArgs false
set_option linter.unusedVariables false
theorem zh4 {w : World} {b : Nat} {tm A : Array Value} (hA : A.size = 20) (h : ∀ i, w.cell? ⟨b, i, none⟩ = A[i]?) (ht : tm[6]? = some (.pointer (some ⟨b, 0, none⟩))) : (results Tryz.f19 tm).run Tryz.prog w = .ok (.agg A) w := by
 have hl := run_loadCells (P := Tryz.prog) w ⟨b, 0, none⟩ 20 (fun j => A.getD j (.bool false)) (fun j hj => by rw [Addr.add_lit, Nat.zero_add, h j]; simp [Array.getD, hA, hj])
 have hE : ((List.range 20).map fun j => A.getD j (.bool false)).toArray = A := by
  apply Array.ext
  · simp [hA]
  · intro i h1 h2
    simp [Array.getD, h2]
 obtain ⟨fs, hu⟩ := zcv
 cases hq : Tryz.prog.info? 37 with
 | none => have := zae; rw [hq] at this; cases this
 | some i =>
   have hs : i.size = 20 := by have := zae; rw [hq] at this; simpa using this
   have hagg : (isAgg 37).run Tryz.prog w = .ok true w := by
    unfold isAgg
    rw [Sem.run_bind, run_underlying hu w]
    simp
   have ha : (asAddr (.pointer (some ⟨b, 0, none⟩))).run Tryz.prog w = .ok ⟨b, 0, none⟩ w := rfl
   rw [hE] at hl
   simp [results, Tryz.results19, ht, loadVar, Sem.run_bind, hagg, sizeOf, typeInfo, hq, hs, hl, ha]
set_option maxHeartbeats 2000000 in
theorem zci (a1 : Option Addr) (L c1 : Nat) (a2 : Option Addr) (n c2 bw nw cw br cr : Nat) (smz : Int) (i : Nat) (v : Int) (ws : List Int) (w : World) (hW : RwW w bw ws) (hl : ws.length = nw) (hr : w.cell? ⟨br, 1, none⟩ = some (.int .i64 3)) (lr : br < w.heap.size) (hn : nw <= 1048576) (h130 : 130 <= nw) (hi : i <= 10) (v0 : 0 <= v) (v1 : v <= 1048576) (hbr : br ≠ bw) :
 Calls Tryz.prog 19 #[.agg #[.slice a1 L c1, .slice a2 n c2, .slice (some ⟨bw, 0, none⟩) nw cw, .int .i64 smz, .int .i64 0, .int .i64 130, .bool false, .int .i64 0, .int .i64 0, .int .i64 0, .int .i64 3, .slice (some ⟨br, 0, none⟩) 6 cr, .bool false, .bool false, .bool false, .int .i64 0, .int .i64 0, .int .i64 0, .int .i64 0, .slice none 0 0], .int .i64 (i : Int), .int .i64 v] w fun e w' => e = .returned (.agg #[.slice a1 L c1, .slice a2 n c2, .slice (some ⟨bw, 0, none⟩) nw cw, .int .i64 smz, .int .i64 0, .int .i64 130, .bool false, .int .i64 0, .int .i64 0, .int .i64 0, .int .i64 3, .slice (some ⟨br, 0, none⟩) 6 cr, .bool false, .bool false, .bool false, .int .i64 0, .int .i64 0, .int .i64 0, .int .i64 0, .slice none 0 0]) /\ RwW w' bw (ws.set (3 + i) v) /\ Kp [bw] w w' := by
 have HW : Hid (RwW w bw ws) := hW
 have lw := hW.lt
 have wr1 : IntKind.i64.wrap (3 + (i : Int)) = 3 + (i : Int) := by rw [IntKind.wrap_i64]; omega
 have hu : IntKind.u64.wrap v = v := by rw [IntKind.wrap_u64]; omega
 have g1 : 3 + (i : Int) < (nw : Int) := by omega
 have g2 : (0 : Int) <= 3 + (i : Int) := by omega
 have g3 : (3 + (i : Int)).toNat = 3 + i := by omega
 clear hW
 go_enter Tryz.func19, Tryz.ntmps19
 go_upto_region 1 with fail
 obtain ⟨w0, hw0⟩ : ∃ V, V = (w.alloc (.cells #[.slice a1 L c1, .slice a2 n c2, .slice (some ⟨bw, 0, none⟩) nw cw, .int .i64 smz, .int .i64 0, .int .i64 130, .bool false, .int .i64 0, .int .i64 0, .int .i64 0, .int .i64 3, .slice (some ⟨br, 0, none⟩) 6 cr, .bool false, .bool false, .bool false, .int .i64 0, .int .i64 0, .int .i64 0, .int .i64 0, .slice none 0 0] 37)).alloc (.cells #[.slice none 0 0, .slice none 0 0, .slice none 0 0, .int .i64 0, .int .i64 0, .int .i64 0, .bool false, .int .i64 0, .int .i64 0, .int .i64 0, .int .i64 0, .slice none 0 0, .bool false, .bool false, .bool false, .int .i64 0, .int .i64 0, .int .i64 0, .int .i64 0, .slice none 0 0] 37) := ⟨_, rfl⟩
 have B0 : Below w.heap.size w w0 := by rw [hw0]; exact ((Below.refl _ _).alloc (Nat.le_refl _) _).alloc (by simp) _
 have X0 : za w0 w.heap.size 37 #[.slice a1 L c1, .slice a2 n c2, .slice (some ⟨bw, 0, none⟩) nw cw, .int .i64 smz, .int .i64 0, .int .i64 130, .bool false, .int .i64 0, .int .i64 0, .int .i64 0, .int .i64 3, .slice (some ⟨br, 0, none⟩) 6 cr, .bool false, .bool false, .bool false, .int .i64 0, .int .i64 0, .int .i64 0, .int .i64 0, .slice none 0 0] := by rw [hw0]; exact (za.new w _ _).alloc _
 have Z0 : za w0 (w.heap.size + 1) 37 #[.slice none 0 0, .slice none 0 0, .slice none 0 0, .int .i64 0, .int .i64 0, .int .i64 0, .bool false, .int .i64 0, .int .i64 0, .int .i64 0, .int .i64 0, .slice none 0 0, .bool false, .bool false, .bool false, .int .i64 0, .int .i64 0, .int .i64 0, .int .i64 0, .slice none 0 0] := by rw [hw0]; have := za.new (w.alloc (.cells #[.slice a1 L c1, .slice a2 n c2, .slice (some ⟨bw, 0, none⟩) nw cw, .int .i64 smz, .int .i64 0, .int .i64 130, .bool false, .int .i64 0, .int .i64 0, .int .i64 0, .int .i64 3, .slice (some ⟨br, 0, none⟩) 6 cr, .bool false, .bool false, .bool false, .int .i64 0, .int .i64 0, .int .i64 0, .int .i64 0, .slice none 0 0] 37)) 37 #[.slice none 0 0, .slice none 0 0, .slice none 0 0, .int .i64 0, .int .i64 0, .int .i64 0, .bool false, .int .i64 0, .int .i64 0, .int .i64 0, .int .i64 0, .slice none 0 0, .bool false, .bool false, .bool false, .int .i64 0, .int .i64 0, .int .i64 0, .int .i64 0, .slice none 0 0]; simpa using this
 rw [<- hw0]
 clear hw0
 have X0' : za w0.drew w.heap.size 37 #[.slice a1 L c1, .slice a2 n c2, .slice (some ⟨bw, 0, none⟩) nw cw, .int .i64 smz, .int .i64 0, .int .i64 130, .bool false, .int .i64 0, .int .i64 0, .int .i64 0, .int .i64 3, .slice (some ⟨br, 0, none⟩) 6 cr, .bool false, .bool false, .bool false, .int .i64 0, .int .i64 0, .int .i64 0, .int .i64 0, .slice none 0 0] := X0
 have r0 : w0.drew.cell? ⟨br, 1, none⟩ = some (.int .i64 3) := (B0.cell (p := ⟨br, 1, none⟩) lr).trans hr
 refine wp_region_held_drew (S := fun V => za V w.heap.size 37 #[.slice a1 L c1, .slice a2 n c2, .slice (some ⟨bw, 0, none⟩) nw cw, .int .i64 smz, .int .i64 0, .int .i64 130, .bool false, .int .i64 0, .int .i64 0, .int .i64 0, .int .i64 3, .slice (some ⟨br, 0, none⟩) 6 cr, .bool false, .bool false, .bool false, .int .i64 0, .int .i64 0, .int .i64 0, .int .i64 0, .slice none 0 0] /\ V.cell? ⟨br, 1, none⟩ = some (.int .i64 3)) (by kernel_rfl) ⟨X0', r0⟩ (fun hHeld => ?_)
 obtain ⟨wd, hwd⟩ : ∃ V, V = w0.drew := ⟨_, rfl⟩
 have Wd : RwW wd bw ws := by rw [hwd]; exact Rw.below HW.out B0.drew
 have Kd : Kp [bw] w wd := by rw [hwd]; exact Kp.of_below B0.drew
 have Zd : za wd (w.heap.size + 1) 37 #[.slice none 0 0, .slice none 0 0, .slice none 0 0, .int .i64 0, .int .i64 0, .int .i64 0, .bool false, .int .i64 0, .int .i64 0, .int .i64 0, .int .i64 0, .slice none 0 0, .bool false, .bool false, .bool false, .int .i64 0, .int .i64 0, .int .i64 0, .int .i64 0, .slice none 0 0] := by rw [hwd]; exact Z0
 rw [<- hwd] at hHeld ⊢
 clear hwd X0 X0' Z0 r0 B0 hr
 refine tk 0 7 (.pointer (some ⟨w.heap.size, 2, none⟩)) hHeld rfl (by intro V hS; go_simp) ?_
 try simp only [Act.put, zig, zih, zii]
 refine tk 1 8 (.pointer (some ⟨w.heap.size, 2, none⟩)) hHeld rfl (by intro V hS; go_simp) ?_
 try simp only [Act.put, zig, zih, zii]
 refine tk 2 9 (.slice (some ⟨bw, 0, none⟩) nw cw) hHeld rfl (by intro V hS; have q := hS.1.cell 2; simp at q; go_simp) ?_
 try simp only [Act.put, zig, zih, zii]
 refine tk 3 10 (.pointer (some ⟨w.heap.size, 2, none⟩)) hHeld rfl (by intro V hS; go_simp) ?_
 try simp only [Act.put, zig, zih, zii]
 refine tk 4 11 (.pointer (some ⟨w.heap.size, 11, none⟩)) hHeld rfl (by intro V hS; go_simp) ?_
 try simp only [Act.put, zig, zih, zii]
 refine tk 5 12 (.slice (some ⟨br, 0, none⟩) 6 cr) hHeld rfl (by intro V hS; have q := hS.1.cell 11; simp at q; go_simp) ?_
 try simp only [Act.put, zig, zih, zii]
 refine tk 6 13 (.pointer (some ⟨br, 0, none⟩)) hHeld rfl (by intro V hS; go_simp) ?_
 try simp only [Act.put, zig, zih, zii]
 refine tk 7 14 (.pointer (some ⟨br, 1, none⟩)) hHeld rfl (by intro V hS; go_simp) ?_
 try simp only [Act.put, zig, zih, zii]
 refine tk 8 15 (.int .i64 3) hHeld rfl (by intro V hS; have q := hS.2; go_simp) ?_
 try simp only [Act.put, zig, zih, zii]
 refine tk 9 16 (.int .i64 (i : Int)) hHeld rfl (by intro V hS; go_simp) ?_
 try simp only [Act.put, zig, zih, zii]
 refine tk 10 17 (.int .i64 (3 + (i : Int))) hHeld rfl (by intro V hS; go_simp) ?_
 try simp only [Act.put, zig, zih, zii]
 refine tk 11 18 (.int .i64 v) hHeld rfl (by intro V hS; go_simp) ?_
 try simp only [Act.put, zig, zih, zii]
 refine tk 12 19 (.int .u64 v) hHeld rfl (by intro V hS; go_simp) ?_
 try simp only [Act.put, zig, zih, zii]
 refine tk 13 20 (.pointer (some ⟨bw, 3 + i, none⟩)) hHeld rfl (by intro V hS; go_simp; try (intro z; omega)) ?_
 try simp only [Act.put, zig, zih, zii]
 have cT := Wd.cell (i := 3 + i) (by omega)
 have fT := Wd.frozen (3 + i)
 refine wpAnyH_ready (rs := [14]) (by kernel_rfl) (by simp) ?_
 refine AllReadyH.cons (o := { dst := none, op := _, type := _, pos := _, after := _, guard := _ }) rfl (fun K hK => ?_) AllReadyH.nil
 go_simp
 have X1 := za.other hHeld.1 (b := w.heap.size) (k := bw) (by omega) (3 + i) (.int .u64 v)
 have r1 : (wd.setCell ⟨bw, 3 + i, none⟩ (.int .u64 v)).cell? ⟨br, 1, none⟩ = some (.int .i64 3) := (World.cell?_of_block (w := wd) (Below.heap_setCell _ _ _ _ (by show br ≠ bw; exact hbr))).trans hHeld.2
 clear hHeld
 refine hK.out _ _ ⟨X1, r1⟩ (fun hHeld => ?_)
 clear hK K cT fT
 try simp only [Act.put, zig, zih, zii]
 refine wpAnyH_done (by kernel_rfl) ?_ _
 have W1 := RwW.set Wd (i := 3 + i) v (by omega)
 have K1 := Kd.setCell (p := ⟨bw, 3 + i, none⟩) (.inl (by simp)) (.int .u64 v)
 have Z1 := Zd.other (k := bw) (by omega) (3 + i) (.int .u64 v)
 obtain ⟨w1, hw1⟩ : ∃ V, V = wd.setCell ⟨bw, 3 + i, none⟩ (.int .u64 v) := ⟨_, rfl⟩
 rw [<- hw1] at X1 W1 K1 Z1 ⊢
 clear hw1 hHeld r1 Wd Kd Zd
 have HLD := zv rfl X1.cell
 have HST := zt (A := #[.slice a1 L c1, .slice a2 n c2, .slice (some ⟨bw, 0, none⟩) nw cw, .int .i64 smz, .int .i64 0, .int .i64 130, .bool false, .int .i64 0, .int .i64 0, .int .i64 0, .int .i64 3, .slice (some ⟨br, 0, none⟩) 6 cr, .bool false, .bool false, .bool false, .int .i64 0, .int .i64 0, .int .i64 0, .int .i64 0, .slice none 0 0]) rfl rfl (by simp [Value.oneCell']) Z1
 go_wp2_with (first | refine zk rfl _ _ rfl _ HLD ?_ | refine zi rfl _ _ _ rfl HST ?_)
 exact bodyPost_ret (zh4 rfl (Z1.row #[.slice a1 L c1, .slice a2 n c2, .slice (some ⟨bw, 0, none⟩) nw cw, .int .i64 smz, .int .i64 0, .int .i64 130, .bool false, .int .i64 0, .int .i64 0, .int .i64 0, .int .i64 3, .slice (some ⟨br, 0, none⟩) 6 cr, .bool false, .bool false, .bool false, .int .i64 0, .int .i64 0, .int .i64 0, .int .i64 0, .slice none 0 0]).cell rfl) rfl ⟨rfl, Rw.of_block W1 (zm (by omega) _), ⟨K1.os, K1.tape, K1.output, by simpa [World.setRow] using K1.size, fun k hk hx => (zm (by omega) _).trans (K1.block k hk hx)⟩⟩
end Go.Proofs.YtblcfbhlmdhnpaaGreat
