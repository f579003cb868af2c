/- - -/
import Derived.Test.YtblcfbhlmdhnpaaGreatBGetA
import Derived.Laws.CopyOwn
import Derived.Deep.AppendSrc
namespace Go.Proofs.YtblcfbhlmdhnpaaGreat
set_option maxRecDepth 20000
open Go.RowKit
set_option linter.unusedSimpArgs false
set_option linter.unusedVariables false
def cellsOf (zs : List Int) : List Value := zs.map (Value.int .u64)
theorem Own.parts {B : Nat} {w : World} {v : Value} {zs : List Int} (h : Own B w v zs) {k : Nat} (hk : k < zs.length) :
 ∃ b n cap f, v = .slice (some ⟨b, 0, none⟩) zs.length cap /\ B <= b /\ zs.length <= n /\ w.rowIs b 88 n f /\ ∀ i, i < zs.length -> f i = .int .u64 (zs.getD i 0) := by
 obtain ⟨a, cap, rfl, h⟩ := h
 rcases h with rfl | ⟨b, n, f, rfl, r⟩
 · simp at hk
 · exact ⟨b, n, cap, f, rfl, r⟩
theorem ze8 {w : World} {b c k o : Nat} (h : b ≠ c) (u : Value) : (w.setCell ⟨b, k, none⟩ u).cell? ⟨c, o, none⟩ = w.cell? ⟨c, o, none⟩ :=
 World.cell?_setCell_other _ _ _ _ (fun e => h (congrArg Addr.block e))
theorem zfs (b n cap k len : Nat) (f : Nat -> Value) (t m : Int) (w : World) (hr : w.rowIs b 88 n f) (hk : k + 1 < len) (hn : len <= n) (hn' : len <= 1048576) :
 Calls Tryz.prog 90 #[.slice (some ⟨b, 0, none⟩) len cap, .int .i64 k, .agg #[.int .i64 t, .int .i64 m]] w fun e w' => e = .returned (.tuple #[]) /\ w' = ((w.setCell ⟨b, k, none⟩ (.int .u64 (IntKind.u64.wrap t))).setCell ⟨b, k + 1, none⟩ (.int .u64 (IntKind.u64.wrap m))).alloc (.cells #[.int .i64 t, .int .i64 m] 35) := by
 have hb := hr.lt
 have hne : b ≠ w.heap.size := by omega
 have hk' : (k : Int) + 1 < (len : Int) := by omega
 have hk0 : (k : Int) < (len : Int) := by omega
 have hl' : (len : Int) <= 1048576 := by omega
 have hr2 : (w.alloc (.cells #[.int .i64 t, .int .i64 m] 35)).rowIs b 88 n f := hr.of_block (((Below.refl w.heap.size w).alloc (Nat.le_refl _) _).block b hb)
 have q1 := hr.cell (i := k) (by omega)
 have q2 := hr.cell (i := k + 1) (by omega)
 have q3 := hr.frozen k
 have q4 := hr.frozen (k + 1)
 have q1' := hr2.cell (i := k) (by omega)
 have q2' := hr2.cell (i := k + 1) (by omega)
 have q3' := hr2.frozen k
 have q4' := hr2.frozen (k + 1)
 have hne' : ¬ b = w.heap.size := hne
 have q5 := fun u => ze8 (w := (w.alloc (.cells #[.int .i64 t, .int .i64 m] 35))) (k := k) (o := 1) hne u
 go_enter Tryz.func90, Tryz.ntmps90
 go_wp2
 go_end0
 exact ⟨rfl, rfl⟩
end Go.Proofs.YtblcfbhlmdhnpaaGreat
