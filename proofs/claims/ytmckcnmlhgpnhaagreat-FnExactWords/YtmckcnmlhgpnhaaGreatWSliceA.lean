/- - -/
import Derived.WalkKit
import Derived.Test.YtmckcnmlhgpnhaaGreatProg
import Derived.WalkSpells
import Derived.WalkLawsBesides
import Derived.Below
import Derived.Outline
import Derived.Deep.Light
import Derived.Deep.OwnRows
import Derived.Deep.QuietTactic
import Derived.BigQuiet
import Derived.OpenShut
namespace Go.Proofs.YtmckcnmlhgpnhaaGreat
set_option maxRecDepth 20000
theorem zyd {α : Type _} {l : List α} {i : Nat} {a : α} : l.toArray.setIfInBounds i a = (l.set i a).toArray := List.setIfInBounds_toArray ..
theorem zye {α : Type _} {x a : α} {l : List α} : (x :: l).set 0 a = a :: l := List.set_cons_zero
theorem zyf {α : Type _} {x a : α} {l : List α} {i : Nat} : (x :: l).set (i + 1) a = x :: l.set i a := List.set_cons_succ
def HOk (k s n : Int) : Prop :=
 (k = 1 /\ 1 <= s /\ s <= 21 /\ n = 0) \/ (k = 2 /\ s = 3 /\ 1 <= n /\ n <= 1000000000) \/
 (k = 3 /\ (s = 16 \/ s = 32 \/ s = 64 \/ s = 128 \/ s = 256) /\ n = 0) \/
 (k = 4 /\ 1 <= s /\ s <= 25 /\ s % 2 = 1 /\ 1 <= n /\ n <= 1000000000) \/ (k = 5 /\ s = 2 /\ n = 0) \/
 (k = 6 /\ s = 126 /\ 1 <= n /\ n <= 1000000000)
def hOk (k s n : Int) : Bool := decide (
 (k = 1 /\ 1 <= s /\ s <= 21 /\ n = 0) \/ (k = 2 /\ s = 3 /\ 1 <= n /\ n <= 1000000000) \/
 (k = 3 /\ (s = 16 \/ s = 32 \/ s = 64 \/ s = 128 \/ s = 256) /\ n = 0) \/
 (k = 4 /\ 1 <= s /\ s <= 25 /\ s % 2 = 1 /\ 1 <= n /\ n <= 1000000000) \/ (k = 5 /\ s = 2 /\ n = 0) \/
 (k = 6 /\ s = 126 /\ 1 <= n /\ n <= 1000000000))
theorem zen (k s n : Int) : hOk k s n = true ↔ HOk k s n := by unfold hOk HOk; exact decide_eq_true_iff
def inB (x a b : Int) : Bool := decide (a <= x /\ x <= b)
def SOk (k s : Int) : Prop :=
 (k = 1 /\ 1 <= s /\ s <= 21) \/ (k = 2 /\ s = 3) \/ (k = 3 /\ (s = 16 \/ s = 32 \/ s = 64 \/ s = 128 \/ s = 256)) \/
 (k = 4 /\ 1 <= s /\ s <= 25 /\ s % 2 = 1) \/ (k = 5 /\ s = 2) \/ (k = 6 /\ s = 126)
def sOk (k s : Int) : Bool := decide (
 (k = 1 /\ 1 <= s /\ s <= 21) \/ (k = 2 /\ s = 3) \/ (k = 3 /\ (s = 16 \/ s = 32 \/ s = 64 \/ s = 128 \/ s = 256)) \/
 (k = 4 /\ 1 <= s /\ s <= 25 /\ s % 2 = 1) \/ (k = 5 /\ s = 2) \/ (k = 6 /\ s = 126))
def zht (k : Int) : Bool := decide (k = 2 \/ k = 4 \/ k = 6)
theorem zft (k s : Int) : sOk k s = true ↔ SOk k s := by unfold sOk SOk; exact decide_eq_true_iff
theorem zmm {k s : Int} (n : Int) (h : sOk k s = false) : hOk k s n = false := by
 rw [<- Bool.not_eq_true, zen]
 rw [<- Bool.not_eq_true, zft] at h
 refine fun g => h ?_
 unfold HOk at g; unfold SOk
 rcases g with ⟨rfl, g⟩ | ⟨rfl, g⟩ | ⟨rfl, g⟩ | ⟨rfl, g⟩ | ⟨rfl, g⟩ | ⟨rfl, g⟩ <;> simp <;> omega
theorem zjd {k s : Int} (n : Int) (h : sOk k s = true) (h' : zht k = true) : hOk k s n = decide (1 <= n /\ n <= 1000000000) := by
 rw [Bool.eq_iff_iff, zen, decide_eq_true_eq]
 rw [zft] at h
 simp only [zht, decide_eq_true_eq] at h'
 unfold SOk at h; unfold HOk
 rcases h with ⟨rfl, g⟩ | ⟨rfl, g⟩ | ⟨rfl, g⟩ | ⟨rfl, g⟩ | ⟨rfl, g⟩ | ⟨rfl, g⟩ <;> simp at h' ⊢ <;> omega
theorem zk8 {k s : Int} (n : Int) (h : sOk k s = true) (h' : zht k = false) : hOk k s n = decide (n = 0) := by
 rw [Bool.eq_iff_iff, zen, decide_eq_true_eq]
 rw [zft] at h
 simp only [zht, decide_eq_false_iff_not] at h'
 unfold SOk at h; unfold HOk
 rcases h with ⟨rfl, g⟩ | ⟨rfl, g⟩ | ⟨rfl, g⟩ | ⟨rfl, g⟩ | ⟨rfl, g⟩ | ⟨rfl, g⟩ <;> simp at h' ⊢ <;> omega
theorem zbh {a b : Bool} (h : a = b) : Ending.returned (.bool a) = .returned (.bool b) := by rw [h]
theorem zby {k : IntKind} {a b : Int} (h : a = b) : Ending.returned (.int k a) = .returned (.int k b) := by rw [h]
theorem zuy : ∀ n : Fin 26, bits .and .i64 (n.val : Int) 1 = (n.val : Int) % 2 := by decide +kernel
theorem zya (s : Int) (h : 0 <= s) (h' : s <= 25) : bits .and .i64 s 1 = s % 2 := by
 obtain ⟨n, rfl⟩ := Int.eq_ofNat_of_zero_le h
 exact zuy ⟨n, by omega⟩
theorem zuz : ∀ n : Fin 257, 16 <= n.val -> (bits .and .i64 (n.val : Int) ((n.val : Int) - 1) = 0 ↔ (n.val = 16 \/ n.val = 32 \/ n.val = 64 \/ n.val = 128 \/ n.val = 256)) := by decide +kernel
theorem zyb (s : Int) (h : 16 <= s) (h' : s <= 256) : bits .and .i64 s (s - 1) = 0 ↔ (s = 16 \/ s = 32 \/ s = 64 \/ s = 128 \/ s = 256) := by
 obtain ⟨n, rfl⟩ := Int.eq_ofNat_of_zero_le (a := s) (by omega)
 have := zuz ⟨n, by omega⟩ (by simp only; omega)
 simp only at this
 rw [this]; omega
open Go.RowKit
set_option linter.unusedSimpArgs false
theorem zw (x a b : Int) (w : World) :
 Calls Tryz.prog 104 #[.int .i64 x, .int .i64 a, .int .i64 b] w fun e w' => e = .returned (.bool (inB x a b)) /\ w' = w := by
 go_enter Tryz.func104, Tryz.ntmps104
 go_wp2
 all_goals
  go_ret
  refine ⟨zbh ?_, rfl⟩
  go_light
  rw [Bool.eq_iff_iff]
  simp [inB] at * <;> omega
theorem zaw (k s n : Int) (w : World) :
 Calls Tryz.prog 99 #[.agg #[.int .i64 k, .int .i64 s, .int .i64 n]] w fun e w' => e = .returned (.bool (hOk k s n)) /\ Below w.heap.size w w' := by
 go_enter Tryz.func99, Tryz.ntmps99
 go_wp2_with (go_at_call 104; refine (zw _ _ _ _).mono ?_; rintro e w' ⟨rfl, rfl⟩)
 all_goals
  go_ret
  refine ⟨zbh ?_, (Below.refl _ _).alloc (Nat.le_refl _) _⟩
  go_light
  rw [Bool.eq_iff_iff]
  simp [hOk, inB] at *
  all_goals (try have ht := Int.tmod_eq_emod_of_nonneg (a := s) (b := 2) (by omega))
  all_goals omega
theorem zjr (s : Int) (w : World) :
 Calls Tryz.prog 209 #[.int .i64 s] w fun e w' => e = .returned (.bool (decide (s = 16 \/ s = 32 \/ s = 64 \/ s = 128 \/ s = 256))) /\ w' = w := by
 go_enter Tryz.func209, Tryz.ntmps209
 go_wp2
 all_goals
  go_ret
  refine ⟨zbh ?_, rfl⟩
  try have ht := zyb s (by omega) (by omega)
  go_light
  rw [Bool.eq_iff_iff]
  simp at * <;> omega
theorem zlp (k : Int) (w : World) :
 Calls Tryz.prog 187 #[.int .i64 k] w fun e w' => e = .returned (.bool (zht k)) /\ w' = w := by
 go_enter Tryz.func187, Tryz.ntmps187
 go_wp2
 all_goals
  go_ret
  refine ⟨zbh ?_, rfl⟩
  go_light
  rw [Bool.eq_iff_iff]
  simp [zht] at * <;> omega
theorem zs4 (w : World) : Calls Tryz.prog 208 #[.int .i64 0] w fun e w' => e = .returned (.int .i64 1) /\ w' = w := by
 go_enter Tryz.func208, Tryz.ntmps208
 go_wp2
 go_ret
 exact ⟨rfl, rfl⟩
theorem zon (w : World) : Calls Tryz.prog 208 #[.int .i64 160] w fun e w' => e = .returned (.int .i64 21) /\ w' = w := by
 go_enter Tryz.func208, Tryz.ntmps208
 go_wp2
 go_ret
 exact ⟨rfl, rfl⟩
theorem zqs (k s : Int) (w : World) :
 Calls Tryz.prog 186 #[.int .i64 k, .int .i64 s] w fun e w' => e = .returned (.bool (sOk k s)) /\ w' = w := by
 go_enter Tryz.func186, Tryz.ntmps186
 go_wp2_with (first | (go_at_call 209; refine (zjr _ _).mono ?_; rintro e w' ⟨rfl, rfl⟩) | (go_at_call 208; refine (zs4 _).mono ?_; rintro e w' ⟨rfl, rfl⟩) | (go_at_call 208; refine (zon _).mono ?_; rintro e w' ⟨rfl, rfl⟩))
 all_goals
  go_ret
  refine ⟨zbh ?_, rfl⟩
  go_light
  rw [Bool.eq_iff_iff]
  simp [sOk] at *
  all_goals have ht := zya s
  all_goals omega
theorem zgy (k s n : Int) (w : World) :
 Calls Tryz.prog 146 #[.agg #[.int .i64 k, .int .i64 s, .int .i64 n]] w fun e w' => e = .returned (.bool (hOk k s n)) /\ Below w.heap.size w w' := by
 go_enter Tryz.func146, Tryz.ntmps146
 go_wp2_with (first | (go_at_call 186; refine (zqs _ _ _).mono ?_; rintro e w' ⟨rfl, rfl⟩) | (go_at_call 187; refine (zlp _ _).mono ?_; rintro e w' ⟨rfl, rfl⟩))
 all_goals
  go_ret
  refine ⟨zbh ?_, (Below.refl _ _).alloc (Nat.le_refl _) _⟩
  go_light
 · rw [zmm n (by simpa using ‹(!sOk k s) = true›)]
 · rw [zjd n (by simpa using ‹(!sOk k s) = false›) ‹_›, decide_eq_decide]; omega
 · rw [zjd n (by simpa using ‹(!sOk k s) = false›) ‹_›]; symm; apply decide_eq_false; omega
 · rw [zk8 n (by simpa using ‹(!sOk k s) = false›) ‹_›]; rfl
theorem zo {W w1 : World} {B : Nat} (hb : Below B W w1) : (∀ b o, b < B -> w1.cell? ⟨b, o, none⟩ = W.cell? ⟨b, o, none⟩) /\ (∀ b o, b < B -> w1.frozen? ⟨b, o, none⟩ = W.frozen? ⟨b, o, none⟩) :=
 ⟨fun b o h => hb.cell (p := ⟨b, o, none⟩) h, fun b o h => hb.frozen (p := ⟨b, o, none⟩) h⟩
theorem zq {w w' : World} {o : Obj} (hb : Below (w.alloc o).heap.size (w.alloc o) w') : w.heap.size < w'.heap.size := by
 have h := hb.size
 simp at h
 omega
theorem zd {w w' : World} {o : Obj} (hb : Below (w.alloc o).heap.size (w.alloc o) w') : Below w.heap.size w w' :=
 ((Below.refl _ _).alloc (Nat.le_refl _) _).trans (hb.mono (by simp))
theorem zc {w w1 w2 : World} (hB : Below w.heap.size w w1) (hb : Below w1.heap.size w1 w2) : Below w.heap.size w w2 :=
 hB.trans (hb.mono hB.size)
def Sl (w : World) (v : Value) (zs : List Int) : Prop :=
 ∃ a cap, v = .slice a zs.length cap /\ (zs = [] \/ ∃ b off, a = some ⟨b, off, none⟩ /\ b < w.heap.size /\ ∀ i, i < zs.length -> w.cell? ⟨b, off + i, none⟩ = some (.int .u64 (zs.getD i 0)))
def Own (B : Nat) (w : World) (v : Value) (zs : List Int) : Prop :=
 ∃ a cap, v = .slice a zs.length cap /\ (zs = [] \/ ∃ b n f, a = some ⟨b, 0, none⟩ /\ B <= b /\ zs.length <= n /\ w.rowIs b 100 n f /\ ∀ i, i < zs.length -> f i = .int .u64 (zs.getD i 0))
theorem Own.sl {B : Nat} {w : World} {v : Value} {zs : List Int} (h : Own B w v zs) : Sl w v zs := by
 obtain ⟨a, cap, rfl, h⟩ := h
 rcases h with h | ⟨b, n, f, rfl, _, hn, hr, hf⟩
 · exact ⟨_, _, rfl, .inl h⟩
 · exact ⟨_, _, rfl, .inr ⟨b, 0, rfl, hr.lt, fun i hi => by rw [Nat.zero_add, hr.cell (by omega), hf i hi]⟩⟩
theorem Sl.below {w w' : World} {v : Value} {zs : List Int} (h : Sl w v zs) (hb : Below w.heap.size w w') : Sl w' v zs := by
 obtain ⟨a, cap, rfl, h⟩ := h
 refine ⟨a, cap, rfl, ?_⟩
 rcases h with h | ⟨b, off, rfl, hl, hc⟩
 · exact .inl h
 · exact .inr ⟨b, off, rfl, Nat.lt_of_lt_of_le hl hb.size, fun i hi => by rw [hb.cell (p := ⟨b, off + i, none⟩) hl]; exact hc i hi⟩
theorem Own.block {B : Nat} {w w' : World} {v : Value} {zs : List Int} (h : Own B w v zs) (hb : ∀ k, B <= k -> k < w.heap.size -> w'.heap[k]? = w.heap[k]?) : Own B w' v zs := by
 obtain ⟨a, cap, rfl, h⟩ := h
 refine ⟨a, cap, rfl, ?_⟩
 rcases h with h | ⟨b, n, f, rfl, hB, hn, hr, hf⟩
 · exact .inl h
 · exact .inr ⟨b, n, f, rfl, hB, hn, hr.of_block (hb b hB hr.lt), hf⟩
theorem Own.below {B : Nat} {w w' : World} {v : Value} {zs : List Int} (h : Own B w v zs) (hb : Below w.heap.size w w') : Own B w' v zs := h.block fun k _ hk => hb.block k hk
theorem Own.mono {B B' : Nat} {w : World} {v : Value} {zs : List Int} (h : Own B w v zs) (hB : B' <= B) : Own B' w v zs := by
 obtain ⟨a, cap, rfl, h⟩ := h
 refine ⟨a, cap, rfl, ?_⟩
 rcases h with h | ⟨b, n, f, rfl, hb, r⟩
 · exact .inl h
 · exact .inr ⟨b, n, f, rfl, Nat.le_trans hB hb, r⟩
def zqq (k : IntKind) (w : World) (a : Option Addr) (len cap : Nat) (zs : List Int) : Prop :=
 (a = none /\ len = 0 /\ cap = 0 /\ zs = []) \/
 ∃ x, a = some x /\ len <= cap /\ cap <= maxLen /\ zs.length = cap /\ (∀ i, i < zs.length -> w.cell? (x.add i) = some (.int k (zs.getD i 0))) /\ ∀ n ∈ zs, (Lit.int k n).wf = true
def zg (zs : List Int) : Prop := ∀ z ∈ zs, 0 <= z /\ z < 18446744073709551616
theorem zqq.sl {w : World} {a : Option Addr} {len cap : Nat} {zs : List Int} (h : zqq .u64 w a len cap zs) : ∃ ys : List Int, ys.length = len /\ Sl w (.slice a len cap) ys /\ zg ys := by
 rcases h with ⟨rfl, rfl, rfl, rfl⟩ | ⟨x, rfl, hl, hm, hz, hc, hw⟩
 · exact ⟨[], rfl, ⟨none, 0, rfl, .inl rfl⟩, fun z hz => by simp at hz⟩
 · refine ⟨zs.take len, by simp; omega, ⟨some x, cap, by simp [show min len zs.length = len by omega], ?_⟩, fun z hz => ?_⟩
   · by_cases h0 : len = 0
     · subst h0; exact .inl (by simp)
     · obtain ⟨b, off, spot⟩ := x
       have h1 := hc 0 (by omega)
       have hspot : spot = none := by simpa [Addr.add] using World.cell?_spot h1
       subst hspot
       refine .inr ⟨b, off, rfl, ?_, fun i hi => ?_⟩
       · rw [Addr.add_lit] at h1
         exact World.block_lt_of_cell? _ _ h1
       · have hi' : i < len := by simp at hi; omega
         have := hc i (by omega)
         rw [Addr.add_lit] at this
         rw [this]
         simp [hi']
   · have := bounds_u64 (hw z (List.mem_of_mem_take hz))
     omega
theorem zxm : (Tryz.prog.info? 100).map (fun i => (i.zero, i.size, i.bytes)) = some (some (.int .u64 0), 1, 8) := by kernel_rfl
def zml (w wr : World) (n : Nat) (zs : List Int) (k : Nat) : Prop :=
 Below w.heap.size w wr /\ wr.rowIs w.heap.size 100 n (fun j => .int .u64 (if j < k then zs.getD j 0 else 0))
theorem zqr (w : World) (n : Nat) (zs : List Int) : zml w (w.alloc (.cells (madeCells #[.int .u64 0] n) 100)) n zs 0 :=
 ⟨(Below.refl _ _).alloc (Nat.le_refl _) _, (World.rowIs_made w (.int .u64 0) n 100).congr (fun i _ => by simp)⟩
theorem zs3 {w wr : World} {n : Nat} {zs : List Int} {k : Nat} (h : zml w wr n zs k) : zml w (wr.setCell ⟨w.heap.size, k, none⟩ (.int .u64 (zs.getD k 0))) n zs (k + 1) := by
 refine ⟨h.1.setCell (Nat.le_refl _) _, (h.2.set k (.int .u64 (zs.getD k 0))).congr fun i _ => ?_⟩
 by_cases e : i = k
 · subst e; simp
 · by_cases e2 : i < k
   · simp [e, e2, show i < k + 1 by omega]
   · simp [e, e2, show ¬ i < k + 1 by omega]
theorem zux {w wr : World} {zs : List Int} {k : Nat} (h : zml w wr zs.length zs k) (hk : ¬ k < zs.length) : Own w.heap.size wr (.slice (some ⟨w.heap.size, 0, none⟩) zs.length zs.length) zs :=
 ⟨some ⟨w.heap.size, 0, none⟩, zs.length, rfl, .inr ⟨w.heap.size, zs.length, _, rfl, Nat.le_refl _, Nat.le_refl _, h.2, fun i hi => by simp [show i < k by omega]⟩⟩
theorem Sl.parts {w : World} {v : Value} {zs : List Int} (h : Sl w v zs) {k : Nat} (hk : k < zs.length) :
 ∃ b off cap, v = .slice (some ⟨b, off, none⟩) zs.length cap /\ b < w.heap.size /\ ∀ i, i < zs.length -> w.cell? ⟨b, off + i, none⟩ = some (.int .u64 (zs.getD i 0)) := by
 obtain ⟨a, cap, rfl, h⟩ := h
 rcases h with rfl | ⟨b, off, rfl, hl, hc⟩
 · simp at hk
 · exact ⟨b, off, cap, rfl, hl, hc⟩
theorem Sl.head {w : World} {v : Value} {zs : List Int} (h : Sl w v zs) : ∃ a cap, v = .slice a zs.length cap := by
 obtain ⟨a, cap, rfl, _⟩ := h
 exact ⟨a, cap, rfl⟩
def marks (n : Nat) : List Int := (List.range n).map fun (i : Nat) => 1 + (i : Int)
end Go.Proofs.YtmckcnmlhgpnhaaGreat
