/- - -/
import Derived.Test.YtmckcnmlhgpnhaaGreatPHeadA
import Derived.Deep.OwnRows
import Derived.Deep.QuietTactic
import Derived.BigQuiet
import Derived.OpenShut
namespace Go.Proofs.YtmckcnmlhgpnhaaGreat
set_option maxRecDepth 20000
open Go.RowKit
set_option linter.unusedSimpArgs false
def Sl (w : World) (v : Value) (zs : List Int) : Prop :=
 ∃ a cap, v = .slice a zs.length cap /\ (zs = [] \/ ∃ b off, a = some ⟨b, off, none⟩ /\ b < w.heap.size /\ ∀ i, i < zs.length -> w.cell? ⟨b, off + i, none⟩ = some (.int .u64 (zs.getD i 0)))
def Own (B : Nat) (w : World) (v : Value) (zs : List Int) : Prop :=
 ∃ a cap, v = .slice a zs.length cap /\ (zs = [] \/ ∃ b n f, a = some ⟨b, 0, none⟩ /\ B <= b /\ zs.length <= n /\ w.rowIs b 100 n f /\ ∀ i, i < zs.length -> f i = .int .u64 (zs.getD i 0))
theorem Own.sl {B : Nat} {w : World} {v : Value} {zs : List Int} (h : Own B w v zs) : Sl w v zs := by
 obtain ⟨a, cap, rfl, h⟩ := h
 rcases h with h | ⟨b, n, f, rfl, _, hn, hr, hf⟩
 · exact ⟨_, _, rfl, .inl h⟩
 · exact ⟨_, _, rfl, .inr ⟨b, 0, rfl, hr.lt, fun i hi => by rw [Nat.zero_add, hr.cell (by omega), hf i hi]⟩⟩
theorem Sl.below {w w' : World} {v : Value} {zs : List Int} (h : Sl w v zs) (hb : Below w.heap.size w w') : Sl w' v zs := by
 obtain ⟨a, cap, rfl, h⟩ := h
 refine ⟨a, cap, rfl, ?_⟩
 rcases h with h | ⟨b, off, rfl, hl, hc⟩
 · exact .inl h
 · exact .inr ⟨b, off, rfl, Nat.lt_of_lt_of_le hl hb.size, fun i hi => by rw [hb.cell (p := ⟨b, off + i, none⟩) hl]; exact hc i hi⟩
theorem Own.block {B : Nat} {w w' : World} {v : Value} {zs : List Int} (h : Own B w v zs) (hb : ∀ k, B <= k -> k < w.heap.size -> w'.heap[k]? = w.heap[k]?) : Own B w' v zs := by
 obtain ⟨a, cap, rfl, h⟩ := h
 refine ⟨a, cap, rfl, ?_⟩
 rcases h with h | ⟨b, n, f, rfl, hB, hn, hr, hf⟩
 · exact .inl h
 · exact .inr ⟨b, n, f, rfl, hB, hn, hr.of_block (hb b hB hr.lt), hf⟩
theorem Own.below {B : Nat} {w w' : World} {v : Value} {zs : List Int} (h : Own B w v zs) (hb : Below w.heap.size w w') : Own B w' v zs := h.block fun k _ hk => hb.block k hk
theorem Own.mono {B B' : Nat} {w : World} {v : Value} {zs : List Int} (h : Own B w v zs) (hB : B' <= B) : Own B' w v zs := by
 obtain ⟨a, cap, rfl, h⟩ := h
 refine ⟨a, cap, rfl, ?_⟩
 rcases h with h | ⟨b, n, f, rfl, hb, r⟩
 · exact .inl h
 · exact .inr ⟨b, n, f, rfl, Nat.le_trans hB hb, r⟩
def zoi (k : IntKind) (w : World) (a : Option Addr) (len cap : Nat) (zs : List Int) : Prop :=
 (a = none /\ len = 0 /\ cap = 0 /\ zs = []) \/
 ∃ x, a = some x /\ len <= cap /\ cap <= maxLen /\ zs.length = cap /\ (∀ i, i < zs.length -> w.cell? (x.add i) = some (.int k (zs.getD i 0))) /\ ∀ n ∈ zs, (Lit.int k n).wf = true
def zi (zs : List Int) : Prop := ∀ z ∈ zs, 0 <= z /\ z < 18446744073709551616
theorem zoi.sl {w : World} {a : Option Addr} {len cap : Nat} {zs : List Int} (h : zoi .u64 w a len cap zs) : ∃ ys : List Int, ys.length = len /\ Sl w (.slice a len cap) ys /\ zi ys := by
 rcases h with ⟨rfl, rfl, rfl, rfl⟩ | ⟨x, rfl, hl, hm, hz, hc, hw⟩
 · exact ⟨[], rfl, ⟨none, 0, rfl, .inl rfl⟩, fun z hz => by simp at hz⟩
 · refine ⟨zs.take len, by simp; omega, ⟨some x, cap, by simp [show min len zs.length = len by omega], ?_⟩, fun z hz => ?_⟩
   · by_cases h0 : len = 0
     · subst h0; exact .inl (by simp)
     · obtain ⟨b, off, spot⟩ := x
       have h1 := hc 0 (by omega)
       have hspot : spot = none := by simpa [Addr.add] using World.cell?_spot h1
       subst hspot
       refine .inr ⟨b, off, rfl, ?_, fun i hi => ?_⟩
       · rw [Addr.add_lit] at h1
         exact World.block_lt_of_cell? _ _ h1
       · have hi' : i < len := by simp at hi; omega
         have := hc i (by omega)
         rw [Addr.add_lit] at this
         rw [this]
         simp [hi']
   · have := bounds_u64 (hw z (List.mem_of_mem_take hz))
     omega
theorem zt9 : (Tryz.prog.info? 100).map (fun i => (i.zero, i.size, i.bytes)) = some (some (.int .u64 0), 1, 8) := by kernel_rfl
def zk1 (w wr : World) (n : Nat) (zs : List Int) (k : Nat) : Prop :=
 Below w.heap.size w wr /\ wr.rowIs w.heap.size 100 n (fun j => .int .u64 (if j < k then zs.getD j 0 else 0))
theorem zoj (w : World) (n : Nat) (zs : List Int) : zk1 w (w.alloc (.cells (madeCells #[.int .u64 0] n) 100)) n zs 0 :=
 ⟨(Below.refl _ _).alloc (Nat.le_refl _) _, (World.rowIs_made w (.int .u64 0) n 100).congr (fun i _ => by simp)⟩
theorem zqm {w wr : World} {n : Nat} {zs : List Int} {k : Nat} (h : zk1 w wr n zs k) : zk1 w (wr.setCell ⟨w.heap.size, k, none⟩ (.int .u64 (zs.getD k 0))) n zs (k + 1) := by
 refine ⟨h.1.setCell (Nat.le_refl _) _, (h.2.set k (.int .u64 (zs.getD k 0))).congr fun i _ => ?_⟩
 by_cases e : i = k
 · subst e; simp
 · by_cases e2 : i < k
   · simp [e, e2, show i < k + 1 by omega]
   · simp [e, e2, show ¬ i < k + 1 by omega]
theorem zr5 {w wr : World} {zs : List Int} {k : Nat} (h : zk1 w wr zs.length zs k) (hk : ¬ k < zs.length) : Own w.heap.size wr (.slice (some ⟨w.heap.size, 0, none⟩) zs.length zs.length) zs :=
 ⟨some ⟨w.heap.size, 0, none⟩, zs.length, rfl, .inr ⟨w.heap.size, zs.length, _, rfl, Nat.le_refl _, Nat.le_refl _, h.2, fun i hi => by simp [show i < k by omega]⟩⟩
theorem Sl.parts {w : World} {v : Value} {zs : List Int} (h : Sl w v zs) {k : Nat} (hk : k < zs.length) :
 ∃ b off cap, v = .slice (some ⟨b, off, none⟩) zs.length cap /\ b < w.heap.size /\ ∀ i, i < zs.length -> w.cell? ⟨b, off + i, none⟩ = some (.int .u64 (zs.getD i 0)) := by
 obtain ⟨a, cap, rfl, h⟩ := h
 rcases h with rfl | ⟨b, off, rfl, hl, hc⟩
 · simp at hk
 · exact ⟨b, off, cap, rfl, hl, hc⟩
theorem Sl.head {w : World} {v : Value} {zs : List Int} (h : Sl w v zs) : ∃ a cap, v = .slice a zs.length cap := by
 obtain ⟨a, cap, rfl, _⟩ := h
 exact ⟨a, cap, rfl⟩
def marks (n : Nat) : List Int := (List.range n).map fun (i : Nat) => 1 + (i : Int)
end Go.Proofs.YtmckcnmlhgpnhaaGreat
