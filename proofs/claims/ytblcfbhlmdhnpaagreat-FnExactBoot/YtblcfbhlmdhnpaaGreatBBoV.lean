/- - -/
import Derived.Test.YtblcfbhlmdhnpaaGreatBMrJ
import Derived.Test.YtblcfbhlmdhnpaaGreatBMkK
import Derived.Test.YtblcfbhlmdhnpaaGreatBBoN
import Derived.Test.YtblcfbhlmdhnpaaGreatBBoD
import Derived.Test.YtblcfbhlmdhnpaaGreatBMc20
import Derived.Test.YtblcfbhlmdhnpaaGreatBMkN
namespace Go.Proofs.YtblcfbhlmdhnpaaGreat
set_option maxRecDepth 20000
open Go.RowKit
set_option linter.unusedSimpArgs false
set_option linter.unusedVariables false
theorem zdd {w : World} {b : Nat} {tm A : Array Value} {q : Value} (hA : A.size = 20) (h : ∀ i, w.cell? ⟨b, i, none⟩ = A[i]?) (ht : tm[4]? = some (.pointer (some ⟨b, 0, none⟩))) (h5 : tm[5]? = some q) : (results Tryz.f7 tm).run Tryz.prog w = .ok (.tuple #[.agg A, q]) w := by
 have hl := run_loadCells (P := Tryz.prog) w ⟨b, 0, none⟩ 20 (fun j => A.getD j (.bool false)) (fun j hj => by rw [Addr.add_lit, Nat.zero_add, h j]; simp [Array.getD, hA, hj])
 have hE : ((List.range 20).map fun j => A.getD j (.bool false)).toArray = A := by
  apply Array.ext
  · simp [hA]
  · intro i h1 h2
    simp [Array.getD, h2]
 obtain ⟨fs, hu⟩ := zcv
 cases hq : Tryz.prog.info? 37 with
 | none => have := zae; rw [hq] at this; cases this
 | some i =>
   have hs : i.size = 20 := by have := zae; rw [hq] at this; simpa using this
   have hagg : (isAgg 37).run Tryz.prog w = .ok true w := by
    unfold isAgg
    rw [Sem.run_bind, run_underlying hu w]
    simp
   have ha : (asAddr (.pointer (some ⟨b, 0, none⟩))).run Tryz.prog w = .ok ⟨b, 0, none⟩ w := rfl
   rw [hE] at hl
   simp [results, Tryz.results7, ht, h5, loadVar, Sem.run_bind, hagg, sizeOf, typeInfo, hq, hs, hl, ha]
set_option maxHeartbeats 2000000 in
theorem zel (a1 : Option Addr) (L c1 : Nat) (a2 : Option Addr) (n c2 : Nat) (smz : Int) (w : World) (h : inB smz 256 4000 = false) :
 Calls Tryz.prog 7 #[.agg #[.slice a1 L c1, .slice a2 n c2], .int .i64 smz] w fun e w' => e = .returned (.tuple #[.agg #[.slice none 0 0, .slice none 0 0, .slice none 0 0, .int .i64 0, .int .i64 0, .int .i64 0, .bool false, .int .i64 0, .int .i64 0, .int .i64 0, .int .i64 0, .slice none 0 0, .bool false, .bool false, .bool false, .int .i64 0, .int .i64 0, .int .i64 0, .int .i64 0, .slice none 0 0], .bool false]) /\ Below w.heap.size w w' := by
 have HN : Hid (∀ W, Calls _ _ _ W _) := fun W => zcz smz 6 W (by simp [h])
 clear h
 go_enter Tryz.func7, Tryz.ntmps7
 go_wp2_with fail
 obtain ⟨w0, hw0⟩ : ∃ V, V = (w.alloc (.cells #[.slice a1 L c1, .slice a2 n c2] 29)).alloc (.cells #[.slice none 0 0, .slice none 0 0, .slice none 0 0, .int .i64 0, .int .i64 0, .int .i64 0, .bool false, .int .i64 0, .int .i64 0, .int .i64 0, .int .i64 0, .slice none 0 0, .bool false, .bool false, .bool false, .int .i64 0, .int .i64 0, .int .i64 0, .int .i64 0, .slice none 0 0] 37) := ⟨_, rfl⟩
 have B0 : Below w.heap.size w w0 := by rw [hw0]; exact ((Below.refl _ _).alloc (Nat.le_refl _) _).alloc (by simp) _
 have X4 : za w0 (w.heap.size + 1) 37 #[.slice none 0 0, .slice none 0 0, .slice none 0 0, .int .i64 0, .int .i64 0, .int .i64 0, .bool false, .int .i64 0, .int .i64 0, .int .i64 0, .int .i64 0, .slice none 0 0, .bool false, .bool false, .bool false, .int .i64 0, .int .i64 0, .int .i64 0, .int .i64 0, .slice none 0 0] := by rw [hw0]; have := za.new (w.alloc (.cells #[.slice a1 L c1, .slice a2 n c2] 29)) 37 #[.slice none 0 0, .slice none 0 0, .slice none 0 0, .int .i64 0, .int .i64 0, .int .i64 0, .bool false, .int .i64 0, .int .i64 0, .int .i64 0, .int .i64 0, .slice none 0 0, .bool false, .bool false, .bool false, .int .i64 0, .int .i64 0, .int .i64 0, .int .i64 0, .slice none 0 0]; simpa using this
 rw [<- hw0]
 clear hw0
 refine (HN.out w0).mono ?_
 rintro e w1 ⟨rfl, b1⟩
 have X5 := (X4.below b1 X4.lt).alloc (.cells #[.slice none 0 0, .int .i64 0, .int .i64 0, .int .i64 0, .bool false, .int .i64 0, .int .i64 0, .int .i64 0, .int .i64 0, .slice none 0 0] 33)
 have B1 : Below w.heap.size w (w1.alloc (.cells #[.slice none 0 0, .int .i64 0, .int .i64 0, .int .i64 0, .bool false, .int .i64 0, .int .i64 0, .int .i64 0, .int .i64 0, .slice none 0 0] 33)) := (zb B0 b1).alloc (zb B0 b1).size _
 have HST := zt (A := #[.slice none 0 0, .slice none 0 0, .slice none 0 0, .int .i64 0, .int .i64 0, .int .i64 0, .bool false, .int .i64 0, .int .i64 0, .int .i64 0, .int .i64 0, .slice none 0 0, .bool false, .bool false, .bool false, .int .i64 0, .int .i64 0, .int .i64 0, .int .i64 0, .slice none 0 0]) rfl rfl (by simp [Value.oneCell']) X5
 clear HN X4 b1
 go_wp2_with (refine zi rfl _ _ _ rfl HST ?_)
 exact bodyPost_ret (zdd rfl (X5.row #[.slice none 0 0, .slice none 0 0, .slice none 0 0, .int .i64 0, .int .i64 0, .int .i64 0, .bool false, .int .i64 0, .int .i64 0, .int .i64 0, .int .i64 0, .slice none 0 0, .bool false, .bool false, .bool false, .int .i64 0, .int .i64 0, .int .i64 0, .int .i64 0, .slice none 0 0]).cell rfl rfl) rfl ⟨rfl, zx _ B1 (by omega)⟩
theorem z8 {P : Program} {w w' : World} {o : Oper} {a : Act} {K : Act -> World -> Prop} {Q : Exit -> Act -> World -> Prop} (t : TypeId) (x y : Operand) (ho : o.op = .store t x y) (hr : (Instr.storeAt t (a.eval x) (a.eval y)).run P w = .ok () w') (h : K (a.put o.dst undef) w') : Oper.wp P o a w K Q := by
 unfold Oper.wp execOp
 simp only [ho, Sem.run_bind, Sem.run_pure, Result.andThen_ok, hr]
 exact h
set_option maxHeartbeats 2000000 in
theorem zem (a1 : Option Addr) (L c1 : Nat) (a2 : Option Addr) (n c2 : Nat) (X : Nat -> PtD) (s : Nat -> ByteArray) (smz : Int) (w : World) (h1 : MdF w.heap.size w (.slice a1 L c1) (.slice a2 n c2) L X n s) (hL : L <= 1048576) (hn : n <= 1048576) (hX : ∀ j, j < L -> PLe (X j) 1048576) (hsz : ∀ j, j < n -> (s j).size <= 9223372036854775807) (s0 : 256 <= smz) (s1 : smz <= 4000) (hm : ¬ MOk L X n s) :
 Calls Tryz.prog 7 #[.agg #[.slice a1 L c1, .slice a2 n c2], .int .i64 smz] w fun e w' => e = .returned (.tuple #[.agg #[.slice none 0 0, .slice none 0 0, .slice none 0 0, .int .i64 0, .int .i64 0, .int .i64 0, .bool false, .int .i64 0, .int .i64 0, .int .i64 0, .int .i64 0, .slice none 0 0, .bool false, .bool false, .bool false, .int .i64 0, .int .i64 0, .int .i64 0, .int .i64 0, .slice none 0 0], .bool false]) /\ Below w.heap.size w w' := by
 have HF : Hid (MdF w.heap.size w (.slice a1 L c1) (.slice a2 n c2) L X n s) := h1
 have HX : Hid (∀ j, j < L -> PLe (X j) 1048576) := hX
 have HS : Hid (∀ j, j < n -> (s j).size <= 9223372036854775807) := hsz
 have HM : Hid (¬ MOk L X n s) := hm
 clear h1 hX hsz hm
 go_enter Tryz.func7, Tryz.ntmps7
 go_wp2_with fail
 obtain ⟨w0, hw0⟩ : ∃ V, V = (w.alloc (.cells #[.slice a1 L c1, .slice a2 n c2] 29)).alloc (.cells #[.slice none 0 0, .slice none 0 0, .slice none 0 0, .int .i64 0, .int .i64 0, .int .i64 0, .bool false, .int .i64 0, .int .i64 0, .int .i64 0, .int .i64 0, .slice none 0 0, .bool false, .bool false, .bool false, .int .i64 0, .int .i64 0, .int .i64 0, .int .i64 0, .slice none 0 0] 37) := ⟨_, rfl⟩
 have B0 : Below w.heap.size w w0 := by rw [hw0]; exact ((Below.refl _ _).alloc (Nat.le_refl _) _).alloc (by simp) _
 have X2 : za w0 w.heap.size 29 #[.slice a1 L c1, .slice a2 n c2] := by rw [hw0]; exact (za.new w _ _).alloc _
 have X4 : za w0 (w.heap.size + 1) 37 #[.slice none 0 0, .slice none 0 0, .slice none 0 0, .int .i64 0, .int .i64 0, .int .i64 0, .bool false, .int .i64 0, .int .i64 0, .int .i64 0, .int .i64 0, .slice none 0 0, .bool false, .bool false, .bool false, .int .i64 0, .int .i64 0, .int .i64 0, .int .i64 0, .slice none 0 0] := by rw [hw0]; have := za.new (w.alloc (.cells #[.slice a1 L c1, .slice a2 n c2] 29)) 37 #[.slice none 0 0, .slice none 0 0, .slice none 0 0, .int .i64 0, .int .i64 0, .int .i64 0, .bool false, .int .i64 0, .int .i64 0, .int .i64 0, .int .i64 0, .slice none 0 0, .bool false, .bool false, .bool false, .int .i64 0, .int .i64 0, .int .i64 0, .int .i64 0, .slice none 0 0]; simpa using this
 rw [<- hw0]
 clear hw0
 refine (zbi smz 6 w0 s0 s1 (by omega) (by omega)).mono ?_
 rintro e w1 ⟨bw, br, rfl, hr1, hr2, l1, l2, nbr, b1⟩
 obtain ⟨w2, hw2⟩ : ∃ V, V = w1.alloc (.cells #[.slice (some ⟨bw, 0, none⟩) (2 * smz).toNat (2 * smz).toNat, .int .i64 smz, .int .i64 0, .int .i64 1, .bool false, .int .i64 0, .int .i64 0, .int .i64 0, .int .i64 1, .slice (some ⟨br, 0, none⟩) 6 6] 33) := ⟨_, rfl⟩
 have b2 : Below w1.heap.size w1 w2 := by rw [hw2]; exact (Below.refl _ _).alloc (Nat.le_refl _) _
 have b02 := zb b1 b2
 have Y2 := X2.below b02 X2.lt
 have Y4 := X4.below b02 X4.lt
 have B2 := zb B0 b02
 clear X2 X4 b1 b02 hr1 hr2
 have k0 := Y2.cell 0
 have k1 := Y2.cell 1
 simp at k0 k1
 go_upto_region 2 with fail
 rw [<- hw2]
 clear hw2 b2
 go_wp2_with fail
 refine (za7 a1 L c1 a2 n c2 X s w.heap.size w2 (HF.out.below B2 (Nat.le_refl _)) B2.size hL hn HX.out HS.out).mono ?_
 rintro e w3 ⟨q, rfl, hq, b3⟩
 obtain rfl : q = false := by
  cases q with
  | false => rfl
  | true => exact absurd (hq.1 rfl) HM.out
 have Z4 := Y4.below b3 Y4.lt
 have B3 := zb B2 b3
 have HST := zt (A := #[.slice none 0 0, .slice none 0 0, .slice none 0 0, .int .i64 0, .int .i64 0, .int .i64 0, .bool false, .int .i64 0, .int .i64 0, .int .i64 0, .int .i64 0, .slice none 0 0, .bool false, .bool false, .bool false, .int .i64 0, .int .i64 0, .int .i64 0, .int .i64 0, .slice none 0 0]) rfl rfl (by simp [Value.oneCell']) Z4
 clear hq b3 Y2 Y4 k0 k1 B2
 go_wp2_with (refine zi rfl _ _ _ rfl HST ?_)
 exact bodyPost_ret (zdd rfl (Z4.row #[.slice none 0 0, .slice none 0 0, .slice none 0 0, .int .i64 0, .int .i64 0, .int .i64 0, .bool false, .int .i64 0, .int .i64 0, .int .i64 0, .int .i64 0, .slice none 0 0, .bool false, .bool false, .bool false, .int .i64 0, .int .i64 0, .int .i64 0, .int .i64 0, .slice none 0 0]).cell rfl rfl) rfl ⟨rfl, zx _ B3 (by omega)⟩
theorem zcd {w : World} {b : Nat} {tm A : Array Value} {q : Value} (hA : A.size = 20) (h : ∀ i, w.cell? ⟨b, i, none⟩ = A[i]?) (ht : tm[4]? = some (.pointer (some ⟨b, 0, none⟩))) (h5 : tm[5]? = some q) : (results Tryz.f5 tm).run Tryz.prog w = .ok (.tuple #[.agg A, q]) w := by
 have hl := run_loadCells (P := Tryz.prog) w ⟨b, 0, none⟩ 20 (fun j => A.getD j (.bool false)) (fun j hj => by rw [Addr.add_lit, Nat.zero_add, h j]; simp [Array.getD, hA, hj])
 have hE : ((List.range 20).map fun j => A.getD j (.bool false)).toArray = A := by
  apply Array.ext
  · simp [hA]
  · intro i h1 h2
    simp [Array.getD, h2]
 obtain ⟨fs, hu⟩ := zcv
 cases hq : Tryz.prog.info? 37 with
 | none => have := zae; rw [hq] at this; cases this
 | some i =>
   have hs : i.size = 20 := by have := zae; rw [hq] at this; simpa using this
   have hagg : (isAgg 37).run Tryz.prog w = .ok true w := by
    unfold isAgg
    rw [Sem.run_bind, run_underlying hu w]
    simp
   have ha : (asAddr (.pointer (some ⟨b, 0, none⟩))).run Tryz.prog w = .ok ⟨b, 0, none⟩ w := rfl
   rw [hE] at hl
   simp [results, Tryz.results5, ht, h5, loadVar, Sem.run_bind, hagg, sizeOf, typeInfo, hq, hs, hl, ha]
set_option maxHeartbeats 2000000 in
theorem zd1 (a1 : Option Addr) (L c1 : Nat) (a2 : Option Addr) (n c2 : Nat) (smz : Int) (w : World) (h : inB smz 256 4000 = false) :
 Calls Tryz.prog 5 #[.agg #[.slice a1 L c1, .slice a2 n c2], .int .i64 smz] w fun e w' => e = .returned (.tuple #[.agg #[.slice none 0 0, .slice none 0 0, .slice none 0 0, .int .i64 0, .int .i64 0, .int .i64 0, .bool false, .int .i64 0, .int .i64 0, .int .i64 0, .int .i64 0, .slice none 0 0, .bool false, .bool false, .bool false, .int .i64 0, .int .i64 0, .int .i64 0, .int .i64 0, .slice none 0 0], .bool false]) /\ Below w.heap.size w w' := by
 have HN : Hid (∀ W, Calls _ _ _ W _) := fun W => zcr smz 6 W (by simp [h])
 clear h
 go_enter Tryz.func5, Tryz.ntmps5
 go_wp2_with fail
 obtain ⟨w0, hw0⟩ : ∃ V, V = (w.alloc (.cells #[.slice a1 L c1, .slice a2 n c2] 29)).alloc (.cells #[.slice none 0 0, .slice none 0 0, .slice none 0 0, .int .i64 0, .int .i64 0, .int .i64 0, .bool false, .int .i64 0, .int .i64 0, .int .i64 0, .int .i64 0, .slice none 0 0, .bool false, .bool false, .bool false, .int .i64 0, .int .i64 0, .int .i64 0, .int .i64 0, .slice none 0 0] 37) := ⟨_, rfl⟩
 have B0 : Below w.heap.size w w0 := by rw [hw0]; exact ((Below.refl _ _).alloc (Nat.le_refl _) _).alloc (by simp) _
 have X4 : za w0 (w.heap.size + 1) 37 #[.slice none 0 0, .slice none 0 0, .slice none 0 0, .int .i64 0, .int .i64 0, .int .i64 0, .bool false, .int .i64 0, .int .i64 0, .int .i64 0, .int .i64 0, .slice none 0 0, .bool false, .bool false, .bool false, .int .i64 0, .int .i64 0, .int .i64 0, .int .i64 0, .slice none 0 0] := by rw [hw0]; have := za.new (w.alloc (.cells #[.slice a1 L c1, .slice a2 n c2] 29)) 37 #[.slice none 0 0, .slice none 0 0, .slice none 0 0, .int .i64 0, .int .i64 0, .int .i64 0, .bool false, .int .i64 0, .int .i64 0, .int .i64 0, .int .i64 0, .slice none 0 0, .bool false, .bool false, .bool false, .int .i64 0, .int .i64 0, .int .i64 0, .int .i64 0, .slice none 0 0]; simpa using this
 rw [<- hw0]
 clear hw0
 refine (HN.out w0).mono ?_
 rintro e w1 ⟨rfl, b1⟩
 have X5 := (X4.below b1 X4.lt).alloc (.cells #[.slice none 0 0, .int .i64 0, .int .i64 0, .int .i64 0, .bool false, .int .i64 0, .int .i64 0, .int .i64 0, .int .i64 0, .slice none 0 0] 33)
 have B1 : Below w.heap.size w (w1.alloc (.cells #[.slice none 0 0, .int .i64 0, .int .i64 0, .int .i64 0, .bool false, .int .i64 0, .int .i64 0, .int .i64 0, .int .i64 0, .slice none 0 0] 33)) := (zb B0 b1).alloc (zb B0 b1).size _
 have HST := zt (A := #[.slice none 0 0, .slice none 0 0, .slice none 0 0, .int .i64 0, .int .i64 0, .int .i64 0, .bool false, .int .i64 0, .int .i64 0, .int .i64 0, .int .i64 0, .slice none 0 0, .bool false, .bool false, .bool false, .int .i64 0, .int .i64 0, .int .i64 0, .int .i64 0, .slice none 0 0]) rfl rfl (by simp [Value.oneCell']) X5
 clear HN X4 b1
 go_wp2_with (refine zi rfl _ _ _ rfl HST ?_)
 exact bodyPost_ret (zcd rfl (X5.row #[.slice none 0 0, .slice none 0 0, .slice none 0 0, .int .i64 0, .int .i64 0, .int .i64 0, .bool false, .int .i64 0, .int .i64 0, .int .i64 0, .int .i64 0, .slice none 0 0, .bool false, .bool false, .bool false, .int .i64 0, .int .i64 0, .int .i64 0, .int .i64 0, .slice none 0 0]).cell rfl rfl) rfl ⟨rfl, zx _ B1 (by omega)⟩
set_option maxHeartbeats 2000000 in
theorem zd2 (a1 : Option Addr) (L c1 : Nat) (a2 : Option Addr) (n c2 : Nat) (X : Nat -> PtD) (s : Nat -> ByteArray) (smz : Int) (w : World) (h1 : MdF w.heap.size w (.slice a1 L c1) (.slice a2 n c2) L X n s) (hL : L <= 1048576) (hn : n <= 1048576) (hX : ∀ j, j < L -> PLe (X j) 1048576) (hR : ∀ j, j < L -> PLr (X j)) (hsz : ∀ j, j < n -> (s j).size <= 9223372036854775807) (s0 : 256 <= smz) (s1 : smz <= 4000) (hm : ¬ MOk L X n s) :
 Calls Tryz.prog 5 #[.agg #[.slice a1 L c1, .slice a2 n c2], .int .i64 smz] w fun e w' => e = .returned (.tuple #[.agg #[.slice none 0 0, .slice none 0 0, .slice none 0 0, .int .i64 0, .int .i64 0, .int .i64 0, .bool false, .int .i64 0, .int .i64 0, .int .i64 0, .int .i64 0, .slice none 0 0, .bool false, .bool false, .bool false, .int .i64 0, .int .i64 0, .int .i64 0, .int .i64 0, .slice none 0 0], .bool false]) /\ Below w.heap.size w w' := by
 have HF : Hid (MdF w.heap.size w (.slice a1 L c1) (.slice a2 n c2) L X n s) := h1
 have HX : Hid (∀ j, j < L -> PLe (X j) 1048576) := hX
 have HS : Hid (∀ j, j < n -> (s j).size <= 9223372036854775807) := hsz
 have HM : Hid (¬ MOk L X n s) := hm
 have HRR : Hid (∀ j, j < L -> PLr (X j)) := hR
 clear h1 hX hsz hm hR
 go_enter Tryz.func5, Tryz.ntmps5
 go_wp2_with fail
 obtain ⟨w0, hw0⟩ : ∃ V, V = (w.alloc (.cells #[.slice a1 L c1, .slice a2 n c2] 29)).alloc (.cells #[.slice none 0 0, .slice none 0 0, .slice none 0 0, .int .i64 0, .int .i64 0, .int .i64 0, .bool false, .int .i64 0, .int .i64 0, .int .i64 0, .int .i64 0, .slice none 0 0, .bool false, .bool false, .bool false, .int .i64 0, .int .i64 0, .int .i64 0, .int .i64 0, .slice none 0 0] 37) := ⟨_, rfl⟩
 have B0 : Below w.heap.size w w0 := by rw [hw0]; exact ((Below.refl _ _).alloc (Nat.le_refl _) _).alloc (by simp) _
 have X2 : za w0 w.heap.size 29 #[.slice a1 L c1, .slice a2 n c2] := by rw [hw0]; exact (za.new w _ _).alloc _
 have X4 : za w0 (w.heap.size + 1) 37 #[.slice none 0 0, .slice none 0 0, .slice none 0 0, .int .i64 0, .int .i64 0, .int .i64 0, .bool false, .int .i64 0, .int .i64 0, .int .i64 0, .int .i64 0, .slice none 0 0, .bool false, .bool false, .bool false, .int .i64 0, .int .i64 0, .int .i64 0, .int .i64 0, .slice none 0 0] := by rw [hw0]; have := za.new (w.alloc (.cells #[.slice a1 L c1, .slice a2 n c2] 29)) 37 #[.slice none 0 0, .slice none 0 0, .slice none 0 0, .int .i64 0, .int .i64 0, .int .i64 0, .bool false, .int .i64 0, .int .i64 0, .int .i64 0, .int .i64 0, .slice none 0 0, .bool false, .bool false, .bool false, .int .i64 0, .int .i64 0, .int .i64 0, .int .i64 0, .slice none 0 0]; simpa using this
 rw [<- hw0]
 clear hw0
 refine (za2 smz 6 w0 s0 s1 (by omega) (by omega)).mono ?_
 rintro e w1 ⟨vw, vr, rfl, hO, b1⟩
 obtain ⟨aw, cw, rfl⟩ : ∃ aw cw, vw = .slice aw (2 * smz).toNat cw := by
  obtain ⟨_, _, _, _, _, _, _, _, _, ⟨a, c, e, _⟩, _⟩ := hO
  exact ⟨a, c, e⟩
 obtain ⟨ar, cr, rfl⟩ : ∃ ar cr, vr = .slice ar 6 cr := by
  obtain ⟨_, _, _, _, _, _, _, _, _, _, ⟨a, c, e, _⟩⟩ := hO
  exact ⟨a, c, e⟩
 obtain ⟨w2, hw2⟩ : ∃ V, V = w1.alloc (.cells #[.slice aw (2 * smz).toNat cw, .int .i64 smz, .int .i64 0, .int .i64 1, .bool false, .int .i64 0, .int .i64 0, .int .i64 0, .int .i64 1, .slice ar 6 cr] 33) := ⟨_, rfl⟩
 have b2 : Below w1.heap.size w1 w2 := by rw [hw2]; exact (Below.refl _ _).alloc (Nat.le_refl _) _
 have b02 := zb b1 b2
 have Y2 := X2.below b02 X2.lt
 have Y4 := X4.below b02 X4.lt
 have B2 := zb B0 b02
 clear X2 X4 b1 b02 hO
 have k0 := Y2.cell 0
 have k1 := Y2.cell 1
 simp at k0 k1
 go_upto_region 2 with fail
 rw [<- hw2]
 clear hw2 b2
 go_wp2_with fail
 refine (za4 a1 L c1 a2 n c2 X s w.heap.size w2 (HF.out.below B2 (Nat.le_refl _)) B2.size hL hn HX.out HRR.out HS.out).mono ?_
 rintro e w3 ⟨q, rfl, hq, b3⟩
 obtain rfl : q = false := by
  cases q with
  | false => rfl
  | true => exact absurd (hq.1 rfl) HM.out
 have Z4 := Y4.below b3 Y4.lt
 have B3 := zb B2 b3
 have HST := zt (A := #[.slice none 0 0, .slice none 0 0, .slice none 0 0, .int .i64 0, .int .i64 0, .int .i64 0, .bool false, .int .i64 0, .int .i64 0, .int .i64 0, .int .i64 0, .slice none 0 0, .bool false, .bool false, .bool false, .int .i64 0, .int .i64 0, .int .i64 0, .int .i64 0, .slice none 0 0]) rfl rfl (by simp [Value.oneCell']) Z4
 clear hq b3 Y2 Y4 k0 k1 B2
 go_wp2_with (refine zi rfl _ _ _ rfl HST ?_)
 exact bodyPost_ret (zcd rfl (Z4.row #[.slice none 0 0, .slice none 0 0, .slice none 0 0, .int .i64 0, .int .i64 0, .int .i64 0, .bool false, .int .i64 0, .int .i64 0, .int .i64 0, .int .i64 0, .slice none 0 0, .bool false, .bool false, .bool false, .int .i64 0, .int .i64 0, .int .i64 0, .int .i64 0, .slice none 0 0]).cell rfl rfl) rfl ⟨rfl, zx _ B3 (by omega)⟩
end Go.Proofs.YtblcfbhlmdhnpaaGreat
