/- - -/
import Derived.Test.YtiglkhkfbgjjoaaGreatDoorPLxW
import Derived.BigQuiet
namespace Go.Proofs.YtiglkhkfbgjjoaaGreatDoor
set_option maxRecDepth 20000
open Go.RowKit
set_option linter.unusedSimpArgs false
set_option linter.unusedVariables false
theorem zjt {w : World} {o : Obj} {b i : Nat} {v : Value} (hb : b < w.heap.size) (h : w.cell? ⟨b, i, none⟩ = some v) : (w.alloc o).cell? ⟨b, i, none⟩ = some v := by
 rw [World.cell?_alloc_lt w o ⟨b, i, none⟩ hb]; exact h
theorem ze3 {w : World} {b c k o : Nat} (h : b ≠ c) (u : Value) : (w.setCell ⟨b, k, none⟩ u).cell? ⟨c, o, none⟩ = w.cell? ⟨c, o, none⟩ :=
 World.cell?_setCell_other _ _ _ _ (fun e => h (congrArg Addr.block e))
theorem zn7 (n : Int) : bits .and .i64 n 255 = n % 256 := by
 have h255 : (BitVec.ofInt 64 255).toNat = 2 ^ 8 - 1 := by decide
 have key : (BitVec.ofInt 64 n &&& BitVec.ofInt 64 255).toNat = (n % ((2 ^ 64 : Nat) : Int)).toNat % 2 ^ 8 := by
  rw [BitVec.toNat_and, BitVec.toNat_ofInt, h255, Nat.and_two_pow_sub_one_eq_mod]
 show IntKind.i64.wrap ((BitVec.ofInt 64 n &&& BitVec.ofInt 64 255).toNat : Nat) = n % 256
 rw [key, IntKind.wrap_i64]
 omega
structure But (b : Nat) (w w' : World) : Prop where
 os : w'.os = w.os
 tape : w'.tape = w.tape
 output : w'.output = w.output
 size : w.heap.size <= w'.heap.size
 block : ∀ k, k < w.heap.size -> k ≠ b -> w'.heap[k]? = w.heap[k]?
theorem But.refl (b : Nat) (w : World) : But b w w := ⟨rfl, rfl, rfl, Nat.le_refl _, fun _ _ _ => rfl⟩
theorem But.trans {b : Nat} {w w1 w2 : World} (h : But b w w1) (k : But b w1 w2) : But b w w2 :=
 ⟨k.os.trans h.os, k.tape.trans h.tape, k.output.trans h.output, Nat.le_trans h.size k.size, fun j hj hb => (k.block j (Nat.lt_of_lt_of_le hj h.size) hb).trans (h.block j hj hb)⟩
theorem But.ofBelow {b : Nat} {w w' : World} (h : Below w.heap.size w w') : But b w w' := ⟨h.os, h.tape, h.output, h.size, fun k hk _ => h.block k hk⟩
theorem But.setCell {b : Nat} {a w : World} (h : But b a w) {p : Addr} (hp : p.block = b) (u : Value) : But b a (w.setCell p u) :=
 ⟨h.os, h.tape, h.output, by simpa using h.size, fun k hk hb => by rw [Go.Deep.blk_setCell_other _ _ _ _ (by rw [hp]; exact hb)]; exact h.block k hk hb⟩
theorem But.drewN {b : Nat} {a w : World} (h : But b a w) (n : Nat) : But b a (w.drewN n) := ⟨h.os, h.tape, h.output, h.size, h.block⟩
theorem But.alloc {b : Nat} {a w : World} (h : But b a w) (o : Obj) : But b a (w.alloc o) :=
 ⟨h.os, h.tape, h.output, by simp; exact Nat.le_succ_of_le h.size, fun k hk hb => by rw [Go.Deep.blk_alloc_lt _ _ _ (Nat.lt_of_lt_of_le hk h.size)]; exact h.block k hk hb⟩
theorem But.below {b B : Nat} {w w' : World} (h : But b w w') (hB : B <= b) (hS : B <= w.heap.size) : Below B w w' := ⟨h.os, h.tape, h.output, h.size, fun k hk => h.block k (by omega) (by omega)⟩
theorem But.cell {b : Nat} {w w' : World} (h : But b w w') {c o : Nat} (hc : c < w.heap.size) (hb : c ≠ b) : w'.cell? ⟨c, o, none⟩ = w.cell? ⟨c, o, none⟩ := World.cell?_of_block (w := w) (h.block c hc hb)
theorem But.frozen {b : Nat} {w w' : World} (h : But b w w') {c o : Nat} (hc : c < w.heap.size) (hb : c ≠ b) : w'.frozen? ⟨c, o, none⟩ = w.frozen? ⟨c, o, none⟩ := World.frozen?_of_block (w := w) (h.block c hc hb)
def zgb (v : Value) (i : Nat) (h : Int) (j : Nat) : Value := if j = 0 then v else if j = 1 then .int .i64 i else .int .i64 h
def Cur (w : World) (b : Nat) (v : Value) : Prop :=
 ∃ (a : Option Addr) (n cap i : Nat) (h : Int), v = .slice a n cap /\ n <= 1048576 /\ i <= n /\
   (n = 0 \/ ∃ bb off, a = some ⟨bb, off, none⟩ /\ bb < b /\ ∀ j, j < n -> ∃ x, w.cell? ⟨bb, off + j, none⟩ = some (.int .u8 x)) /\ w.rowIs b 56 3 (zgb v i h)
theorem Cur.lt {w : World} {b : Nat} {v : Value} (h : Cur w b v) : b < w.heap.size := by
 obtain ⟨a, n, cap, i, hh, _, _, _, _, hr⟩ := h
 exact hr.lt
theorem Cur.keep {w w' : World} {b : Nat} {v : Value} (h : Cur w b v) (hk : ∀ k, k <= b -> w'.heap[k]? = w.heap[k]?) : Cur w' b v := by
 obtain ⟨a, n, cap, i, hh, rfl, hn, hi, hc, hr⟩ := h
 refine ⟨a, n, cap, i, hh, rfl, hn, hi, ?_, hr.of_block (hk b (Nat.le_refl _))⟩
 rcases hc with hc | ⟨bb, off, rfl, hb, hc⟩
 · exact .inl hc
 · exact .inr ⟨bb, off, rfl, hb, fun j hj => by rw [World.cell?_of_block (a := ⟨bb, off + j, none⟩) (w := w) (hk bb (Nat.le_of_lt hb))]; exact hc j hj⟩
theorem Cur.below {w w' : World} {b : Nat} {v : Value} (h : Cur w b v) (hb : Below w.heap.size w w') : Cur w' b v := h.keep fun k hk => hb.block k (Nat.lt_of_le_of_lt hk h.lt)
theorem zp1 {w : World} {b i : Nat} {v : Value} {h : Int} (hr : w.rowIs b 56 3 (zgb v i h)) (H : Int) : (w.setCell ⟨b, 2, none⟩ (.int .i64 H)).rowIs b 56 3 (zgb v i H) :=
 (hr.set 2 _).congr fun j hj => by
   have : j = 0 \/ j = 1 \/ j = 2 := by omega
   rcases this with rfl | rfl | rfl <;> simp [zgb]
theorem zu0 {w : World} {b i : Nat} {v : Value} {h : Int} (hr : w.rowIs b 56 3 (zgb v i h)) : (w.setCell ⟨b, 1, none⟩ (.int .i64 ((i : Int) + 1))).rowIs b 56 3 (zgb v (i + 1) h) :=
 (hr.set 1 _).congr fun j hj => by
   have : j = 0 \/ j = 1 \/ j = 2 := by omega
   rcases this with rfl | rfl | rfl <;> simp [zgb]
theorem zjb (x : Int) : 0 <= bits .and .i64 x 255 /\ bits .and .i64 x 255 <= 255 := by rw [zn7]; omega
theorem zds (b : Nat) (v : Value) (w : World) (hcur : Cur w b v) :
 Calls Tryz.prog 86 #[.pointer (some ⟨b, 0, none⟩)] w fun e w' => ∃ x, e = .returned (.int .i64 x) /\ (0 <= x /\ x <= 255) /\ Cur w' b v /\ But b w w' := by
 obtain ⟨a, n, cap, i, h, rfl, hn, hi, hc, hr⟩ := hcur
 have k0 : w.cell? ⟨b, 0, none⟩ = some (.slice a n cap) := hr.cell (i := 0) (by omega)
 have k1 : w.cell? ⟨b, 1, none⟩ = some (.int .i64 i) := hr.cell (i := 1) (by omega)
 have k2 : w.cell? ⟨b, 2, none⟩ = some (.int .i64 h) := hr.cell (i := 2) (by omega)
 have g1 := hr.frozen 1
 have g2 := hr.frozen 2
 have hn' : (n : Int) <= 1048576 := by omega
 have hi' : (i : Int) <= (n : Int) := by omega
 by_cases hlt : i < n
 · have hlt' : (i : Int) < (n : Int) := by omega
   rcases hc with hc | ⟨bb, off, rfl, hb, hc⟩
   · omega
   obtain ⟨y, hy⟩ := hc i hlt
   have hbb : ¬ b = bb := by omega
   go_enter Tryz.func86, Tryz.ntmps86
   go_wp2
   go_quiet (fail)
   go_wp2
   go_quiet (fail)
   go_wp2
   go_quiet (fail)
   go_wp2
   go_ret
   refine ⟨_, rfl, zjb _, ⟨_, n, cap, i + 1, _, rfl, hn, hlt, .inr ⟨bb, off, rfl, hb, fun j hj => ?_⟩, zu0 (World.rowIs.drew (zp1 hr _))⟩, (((But.refl b w).setCell rfl _).drewN _).setCell rfl _⟩
   obtain ⟨x, hx⟩ := hc j hj
   refine ⟨x, ?_⟩
   rw [ze3 hbb]
   show (w.setCell _ _).cell? _ = _
   rw [ze3 hbb]
   exact hx
 · have hlt' : ¬ (i : Int) < (n : Int) := by omega
   go_enter Tryz.func86, Tryz.ntmps86
   go_wp2
   go_quiet (fail)
   go_wp2
   go_quiet (fail)
   go_wp2
   go_ret
   refine ⟨_, rfl, zjb _, ⟨a, n, cap, i, _, rfl, hn, hi, ?_, World.rowIs.drew (zp1 hr _)⟩, (((But.refl b w).setCell rfl _).drewN _).drewN _⟩
   rcases hc with hc | ⟨bb, off, rfl, hb, hc⟩
   · exact .inl hc
   · refine .inr ⟨bb, off, rfl, hb, fun j hj => ?_⟩
     obtain ⟨x, hx⟩ := hc j hj
     refine ⟨x, ?_⟩
     show (w.setCell _ _).cell? _ = _
     rw [ze3 (by omega)]
     exact hx
theorem zal (b : Nat) (v : Value) (n : Int) (w : World) (hcur : Cur w b v) (hn : 1 <= n) (hn2 : n <= 1000000000) :
 Calls Tryz.prog 49 #[.pointer (some ⟨b, 0, none⟩), .int .i64 n] w fun e w' => ∃ x, e = .returned (.int .i64 x) /\ (0 <= x /\ x < n) /\ Cur w' b v /\ But b w w' := by
 by_cases h256 : n <= 256
 · go_enter Tryz.func49, Tryz.ntmps49
   go_wp2_with fail
   refine (zds b v _ hcur).mono ?_
   rintro e w1 ⟨x, rfl, ⟨hx0, hx1⟩, C1, B1⟩
   go_wp2
   go_ret
   exact ⟨_, rfl, ⟨Int.emod_nonneg _ (by omega), Int.emod_lt_of_pos _ (by omega)⟩, C1, B1⟩
 · go_enter Tryz.func49, Tryz.ntmps49
   go_wp2_with fail
   refine (zds b v _ hcur).mono ?_
   rintro e w1 ⟨x, rfl, ⟨hx0, hx1⟩, C1, B1⟩
   go_wp2_with fail
   refine (zds b v _ C1).mono ?_
   rintro e w2 ⟨y, rfl, ⟨hy0, hy1⟩, C2, B2⟩
   go_wp2_with fail
   refine (zds b v _ C2).mono ?_
   rintro e w3 ⟨z, rfl, ⟨hz0, hz1⟩, C3, B3⟩
   go_wp2_with fail
   refine (zds b v _ C3).mono ?_
   rintro e w4 ⟨u, rfl, ⟨hu0, hu1⟩, C4, B4⟩
   go_wp2
   go_ret
   exact ⟨_, rfl, ⟨Int.emod_nonneg _ (by omega), Int.emod_lt_of_pos _ (by omega)⟩, C4, ((B1.trans B2).trans B3).trans B4⟩
theorem zci (b : Nat) (v : Value) (n : Int) (w : World) (hcur : Cur w b v) (hn : 1 <= n) (hn2 : n <= 1000000000) :
 Calls Tryz.prog 23 #[.pointer (some ⟨b, 0, none⟩), .int .i64 n] w fun e w' => ∃ q, e = .returned (.bool q) /\ Cur w' b v /\ But b w w' := by
 go_enter Tryz.func23, Tryz.ntmps23
 go_wp2_with fail
 refine (zal b v n _ hcur hn hn2).mono ?_
 rintro e w1 ⟨x, rfl, hx, C1, B1⟩
 go_wp2
 go_ret
 exact ⟨_, rfl, C1, B1⟩
theorem zm1 {a : Option Addr} {n cap : Nat} {w : World} (x : Int) (hn : n <= 1048576) (hc : n = 0 \/ ∃ bb off, a = some ⟨bb, off, none⟩ /\ bb < w.heap.size /\ ∀ j, j < n -> ∃ x, w.cell? ⟨bb, off + j, none⟩ = some (.int .u8 x)) :
 Cur (w.alloc (.cells #[.slice a n cap, .int .i64 0, .int .i64 x] 56)) w.heap.size (.slice a n cap) := by
 refine ⟨a, n, cap, 0, x, rfl, hn, Nat.zero_le _, ?_, World.rowIs_alloc w _ _ _ fun i hi => ?_⟩
 · rcases hc with hc | ⟨bb, off, rfl, hb, hc⟩
   · exact .inl hc
   · exact .inr ⟨bb, off, rfl, hb, fun j hj => by
      obtain ⟨y, hy⟩ := hc j hj
      exact ⟨y, zjt hb hy⟩⟩
 · have : i = 0 \/ i = 1 \/ i = 2 := by simp at hi; omega
   rcases this with rfl | rfl | rfl <;> simp [zgb]
theorem zp2 (a : Option Addr) (n cap : Nat) (w : World) (hn : n <= 1048576) (hc : n = 0 \/ ∃ bb off, a = some ⟨bb, off, none⟩ /\ bb < w.heap.size /\ ∀ j, j < n -> ∃ x, w.cell? ⟨bb, off + j, none⟩ = some (.int .u8 x)) :
 Calls Tryz.prog 10 #[.slice a n cap] w fun e w' => e = .returned (.pointer (some ⟨w.heap.size, 0, none⟩)) /\ Cur w' w.heap.size (.slice a n cap) /\ Below w.heap.size w w' := by
 have hn' : (n : Int) <= 1048576 := by omega
 go_enter Tryz.func10, Tryz.ntmps10
 go_wp2
 go_loop [3, 4] (fun h i => ∃ k : Nat, k <= n /\ i = .int .i64 k /\ ∃ x, h = .int .i64 x) (fun _ i => n - (intOf i).toNat)
 case atStart => exact ⟨0, Nat.zero_le _, rfl, _, rfl⟩
 case round =>
  obtain ⟨k, hk, rfl, x, rfl⟩ := hrel
  by_cases hlt : k < n
  · have hlt' : (k : Int) < (n : Int) := by omega
    by_cases h4 : k < 4000
    · have h4' : (k : Int) < 4000 := by omega
      rcases hc with hc | ⟨bb, off, rfl, hb, hc⟩
      · omega
      obtain ⟨y, hy⟩ := hc k hlt
      clear hc
      go_wp2
      go_round
      case rel => exact ⟨k + 1, by omega, by go_num, _, rfl⟩
      case measure => simp [intOf]; omega
    · have h4' : ¬ (k : Int) < 4000 := by omega
      go_wp2
      go_ret
      exact ⟨rfl, zm1 x hn hc, (Below.refl _ _).alloc (Nat.le_refl _) _⟩
  · have hlt' : ¬ (k : Int) < (n : Int) := by omega
    go_wp2
    go_ret
    exact ⟨rfl, zm1 x hn hc, (Below.refl _ _).alloc (Nat.le_refl _) _⟩
def zp (w : World) (cb eb : Nat) (v : Value) (n m : Nat) : Prop :=
 ∃ a c, v = .slice a n c /\ ((a = none /\ c = 0 /\ n = 0) \/ ∃ b o, a = some ⟨b, o, none⟩ /\ b < w.heap.size /\ b ≠ cb /\ b ≠ eb /\ ∀ i, i < n -> ∃ s : ByteArray, w.cell? ⟨b, o + i, none⟩ = some (.string s) /\ s.size <= m)
def zdr (w : World) (cb eb : Nat) (v : Value) (n : Nat) : Prop :=
 ∃ a c, v = .slice a n c /\ ((a = none /\ c = 0 /\ n = 0) \/ ∃ b o, a = some ⟨b, o, none⟩ /\ b < w.heap.size /\ b ≠ cb /\ b ≠ eb /\ ∀ i, i < n -> ∃ x : Int, w.cell? ⟨b, o + i, none⟩ = some (.int .i64 x))
structure zz (cb eb : Nat) (w w' : World) : Prop where
 os : w'.os = w.os
 tape : w'.tape = w.tape
 output : w'.output = w.output
 size : w.heap.size <= w'.heap.size
 block : ∀ k, k < w.heap.size -> k ≠ cb -> k ≠ eb -> w'.heap[k]? = w.heap[k]?
theorem zz.refl (cb eb : Nat) (w : World) : zz cb eb w w := ⟨rfl, rfl, rfl, Nat.le_refl _, fun _ _ _ _ => rfl⟩
theorem zz.trans {cb eb : Nat} {w w1 w2 : World} (h : zz cb eb w w1) (k : zz cb eb w1 w2) : zz cb eb w w2 :=
 ⟨k.os.trans h.os, k.tape.trans h.tape, k.output.trans h.output, Nat.le_trans h.size k.size, fun j hj h1 h2 => (k.block j (Nat.lt_of_lt_of_le hj h.size) h1 h2).trans (h.block j hj h1 h2)⟩
theorem But.two {cb eb : Nat} {w w' : World} (h : But cb w w') : zz cb eb w w' := ⟨h.os, h.tape, h.output, h.size, fun k hk h1 _ => h.block k hk h1⟩
theorem zz.set {cb eb : Nat} {a w : World} (h : zz cb eb a w) (i : Nat) (u : Value) : zz cb eb a (w.setCell ⟨eb, i, none⟩ u) :=
 ⟨h.os, h.tape, h.output, by simpa using h.size, fun k hk h1 h2 => by rw [Go.Deep.blk_setCell_other _ _ _ _ (by exact h2)]; exact h.block k hk h1 h2⟩
theorem zp.but {w w' : World} {cb eb n m : Nat} {v : Value} (h : zp w cb eb v n m) (hb : zz cb eb w w') : zp w' cb eb v n m := by
 obtain ⟨a, c, rfl, h⟩ := h
 refine ⟨a, c, rfl, ?_⟩
 rcases h with h | ⟨b, o, rfl, h1, h2, h3, h4⟩
 · exact .inl h
 · exact .inr ⟨b, o, rfl, Nat.lt_of_lt_of_le h1 hb.size, h2, h3, fun i hi => by rw [World.cell?_of_block (w := w) (a := ⟨b, o + i, none⟩) (hb.block b h1 h2 h3)]; exact h4 i hi⟩
theorem zdr.but {w w' : World} {cb eb n : Nat} {v : Value} (h : zdr w cb eb v n) (hb : zz cb eb w w') : zdr w' cb eb v n := by
 obtain ⟨a, c, rfl, h⟩ := h
 refine ⟨a, c, rfl, ?_⟩
 rcases h with h | ⟨b, o, rfl, h1, h2, h3, h4⟩
 · exact .inl h
 · exact .inr ⟨b, o, rfl, Nat.lt_of_lt_of_le h1 hb.size, h2, h3, fun i hi => by rw [World.cell?_of_block (w := w) (a := ⟨b, o + i, none⟩) (hb.block b h1 h2 h3)]; exact h4 i hi⟩
structure Env (w : World) (cb eb n m : Nat) (vn vk : Value) (ct lf : Int) (fn co : Bool) : Prop where
 lt : eb < w.heap.size
 c : ∀ i, w.cell? ⟨eb, i, none⟩ = (#[vn, vk, .int .i64 ct, .int .i64 lf, .bool fn, .bool co] : Array Value)[i]?
 f : ∀ i, w.frozen? ⟨eb, i, none⟩ = false
 hn : zp w cb eb vn n 3
 hk : zdr w cb eb vk m
def zf (w : World) (cb eb n : Nat) : Prop := ∃ vn vk ct lf fn co, Env w cb eb n n vn vk ct lf fn co
theorem Env.but {w w' : World} {cb eb n m : Nat} {vn vk : Value} {ct lf : Int} {fn co : Bool} (h : Env w cb eb n m vn vk ct lf fn co) (hb : But cb w w') (hne : eb ≠ cb) : Env w' cb eb n m vn vk ct lf fn co :=
 ⟨Nat.lt_of_lt_of_le h.lt hb.size, fun i => by rw [hb.cell h.lt hne]; exact h.c i, fun i => by rw [hb.frozen h.lt hne]; exact h.f i, h.hn.but hb.two, h.hk.but hb.two⟩
theorem zf.but {w w' : World} {cb eb n : Nat} (h : zf w cb eb n) (hb : But cb w w') (hne : eb ≠ cb) : zf w' cb eb n := by
 obtain ⟨vn, vk, ct, lf, fn, co, h⟩ := h
 exact ⟨vn, vk, ct, lf, fn, co, h.but hb hne⟩
theorem za6 (cb eb : Nat) (v lv : Value) (n m : Nat) (w : World) (hcur : Cur w cb v) (hl : zp w cb eb lv n m) (h1 : 1 <= n) (h2 : n <= 100000) :
 Calls Tryz.prog 50 #[.pointer (some ⟨cb, 0, none⟩), lv] w fun e w' => ∃ s : ByteArray, e = .returned (.string s) /\ s.size <= m /\ Cur w' cb v /\ But cb w w' := by
 obtain ⟨a, c, rfl, hl⟩ := hl
 rcases hl with ⟨_, _, hl⟩ | ⟨b, o, rfl, hb, hne, _, hc⟩
 · omega
 have h2' : (n : Int) <= 100000 := by omega
 have HC : Hid (∀ i, i < n -> ∃ s : ByteArray, w.cell? ⟨b, o + i, none⟩ = some (.string s) /\ s.size <= m) := hc
 clear hc h2
 go_enter Tryz.func50, Tryz.ntmps50
 go_wp2_with fail
 refine (zal cb v n _ hcur (by omega) (by omega)).mono ?_
 rintro e w1 ⟨x, rfl, ⟨hx0, hx1⟩, C1, B1⟩
 obtain ⟨k, rfl⟩ := Int.eq_ofNat_of_zero_le hx0
 obtain ⟨s, hs1, hs2⟩ := HC.out k (by omega)
 have hk : w1.cell? ⟨b, o + k, none⟩ = some (.string s) := by rw [B1.cell hb hne]; exact hs1
 have hb1 : b < w1.heap.size := Nat.lt_of_lt_of_le hb B1.size
 clear HC hs1
 go_wp2
 go_ret
 exact ⟨_, rfl, hs2, C1, B1⟩
theorem zvr : (Tryz.prog.info? 9).map (fun i => (i.zero, i.size, i.bytes)) = some (some (.string ⟨#[]⟩), 1, 16) := by kernel_rfl
theorem zln : ∃ i : TypeInfo, Tryz.prog.info? 9 = some i /\ i.zero = some (.string ⟨#[]⟩) /\ i.size = 1 /\ i.bytes = 16 := by
 have h := zvr
 cases hi : Tryz.prog.info? 9 with
 | none => rw [hi] at h; simp at h
 | some i =>
   rw [hi] at h
   simp only [Option.map_some, Option.some.injEq, Prod.mk.injEq] at h
   exact ⟨i, rfl, h.1, h.2.1, h.2.2⟩
def TxL (m : Nat) (xs : List Value) : Prop := ∀ u ∈ xs, ∃ s : ByteArray, u = .string s /\ s.size <= m
theorem TxL.one {m : Nat} {xs : List Value} (h : TxL m xs) : ∀ u ∈ xs, u.oneCell' = true := fun u hu => by
 obtain ⟨s, rfl, _⟩ := h u hu
 rfl
theorem zg7 {B cb eb n m : Nat} {w : World} {v : Value} {xs : List Value} (h : w.ownsRow B 9 1 v n xs) (hx : TxL m xs) (h1 : cb < B) (h2 : eb < B) : zp w cb eb v n m := by
 have hl := h.1
 obtain ⟨_, ⟨rfl, h0⟩ | ⟨g, cap, cur, rfl, hg, hc, r⟩⟩ := id h
 · exact ⟨none, 0, by rw [h0], .inl ⟨rfl, rfl, h0⟩⟩
 · refine ⟨_, cap, rfl, .inr ⟨g, 0, rfl, ?_, by omega, by omega, fun i hi => ?_⟩⟩
   · rcases Nat.lt_or_ge g w.heap.size with h | h
     · exact h
     · rw [Array.getElem?_eq_none h] at hc; cases hc
   · have e := h.cellAt i (by omega)
     have hi' : i < xs.length := by omega
     rw [List.getElem?_eq_getElem hi'] at e
     obtain ⟨s, hs1, hs2⟩ := hx _ (List.getElem_mem hi')
     exact ⟨s, by rw [Nat.zero_add, e, hs1], hs2⟩
theorem zbv {B : Nat} {e : TypeId} {w : World} {v : Value} {n : Nat} {xs : List Value} (h : w.ownsRow B e 1 v n xs) : ∃ a c, v = .slice a n c := by
 obtain ⟨_, ⟨rfl, rfl⟩ | ⟨g, cap, cur, rfl, _⟩⟩ := h
 · exact ⟨_, _, rfl⟩
 · exact ⟨_, _, rfl⟩
set_option maxHeartbeats 1000000 in
theorem zeu (cb eb n : Nat) (kind : Int) (w : World) (hE : zf w cb eb n) (hcb : cb < w.heap.size) (hn : n <= 1000) :
 Calls Tryz.prog 90 #[.pointer (some ⟨eb, 0, none⟩), .int .i64 kind] w fun e w' => ∃ a c k, e = .returned (.slice a k c) /\ k <= n /\ zp w' cb eb (.slice a k c) k 3 /\ Below w.heap.size w w' := by
 obtain ⟨vn, vk, ct, lf, fn, co, E⟩ := hE
 obtain ⟨an, cn, rfl, hN⟩ := E.hn
 obtain ⟨ak, ck, rfl, hK⟩ := E.hk
 obtain ⟨i0, hi, hz0, hz1, hz2⟩ := zln
 have hn' : (n : Int) <= 1000 := by omega
 have hlt := E.lt
 have HE : Hid (Env w cb eb n n (.slice an n cn) (.slice ak n ck) ct lf fn co) := E
 have HN : Hid ((an = none /\ cn = 0 /\ n = 0) \/ ∃ b o, an = some ⟨b, o, none⟩ /\ b < w.heap.size /\ b ≠ cb /\ b ≠ eb /\ ∀ i, i < n -> ∃ s : ByteArray, w.cell? ⟨b, o + i, none⟩ = some (.string s) /\ s.size <= 3) := hN
 have HK : Hid ((ak = none /\ ck = 0 /\ n = 0) \/ ∃ b o, ak = some ⟨b, o, none⟩ /\ b < w.heap.size /\ b ≠ cb /\ b ≠ eb /\ ∀ i, i < n -> ∃ x : Int, w.cell? ⟨b, o + i, none⟩ = some (.int .i64 x)) := hK
 clear E hN hK
 go_enter Tryz.func90, Tryz.ntmps90
 go_wp2_with fail
 go_loopw [5, 6] (fun out q wr => ∃ (j k : Nat) (xs : List Value), j <= n /\ k <= j /\ q = .int .i64 j /\ TxL 3 xs /\ wr.ownsRow w.heap.size 9 1 out k xs /\ Hid (Below w.heap.size w wr)) (fun _ q _ => n - (intOf q).toNat)
 case atStart => exact ⟨0, 0, [], Nat.zero_le _, Nat.le_refl _, rfl, fun u hu => (by cases hu), World.ownsRow_lit w #[] 0 (Nat.le_refl _) (by unfold maxLen; omega) rfl, (Below.refl _ _).alloc (Nat.le_refl _) _⟩
 case round =>
  obtain ⟨j, k, xs, hj, hk, rfl, hx, hown, hB⟩ := hrel
  obtain ⟨oa, oc, rfl⟩ := zbv hown
  have HX : Hid (TxL 3 xs) := hx
  have HO : Hid (wr.ownsRow w.heap.size 9 1 (.slice oa k oc) k xs) := hown
  clear hx hown
  have he : eb < wr.heap.size := Nat.lt_of_lt_of_le hlt hB.out.size
  have d0 : wr.cell? ⟨eb, 0, none⟩ = some (.slice an n cn) := by rw [hB.out.cell (p := ⟨eb, 0, none⟩) hlt]; exact HE.out.c 0
  have d1 : wr.cell? ⟨eb, 1, none⟩ = some (.slice ak n ck) := by rw [hB.out.cell (p := ⟨eb, 1, none⟩) hlt]; exact HE.out.c 1
  have lz := hB.out.size
  by_cases hlt2 : j < n
  · have hlt' : (j : Int) < n := by omega
    rcases HN.out with ⟨_, _, h0⟩ | ⟨b1, o1, rfl, l1, _, _, q1⟩
    · omega
    rcases HK.out with ⟨_, _, h0⟩ | ⟨b2, o2, rfl, l2, _, _, q2⟩
    · omega
    obtain ⟨s, hs1, hs2⟩ := q1 j hlt2
    obtain ⟨x, hx1⟩ := q2 j hlt2
    have e1 : wr.cell? ⟨b1, o1 + j, none⟩ = some (.string s) := by rw [hB.out.cell (p := ⟨b1, o1 + j, none⟩) l1]; exact hs1
    have e2 : wr.cell? ⟨b2, o2 + j, none⟩ = some (.int .i64 x) := by rw [hB.out.cell (p := ⟨b2, o2 + j, none⟩) l2]; exact hx1
    have z1 : b1 < wr.heap.size := by omega
    have z2 : b2 < wr.heap.size := by omega
    have HB2 : Hid (Below w.heap.size w (wr.alloc (.cells #[.string s] 9))) := hB.out.alloc lz _
    clear q1 q2 hs1 hx1 HE HN HK
    cases hq : (x == kind) with
    | true =>
      go_wp2_with (at_builtin; refine wpList_append_own _ rfl _ _ 80 rfl w.heap.size 9 i0 (.string ⟨#[]⟩) 1 16 Tryz.underlying80 hi hz0 hz1 hz2 rfl (by decide) _ k xs rfl (HO.out.alloc _) ⟨wr.heap.size, 0, none⟩ 1 1 [.string s] rfl rfl (fun j u hj => by rw [Addr.add_lit, Nat.zero_add, World.cell?_alloc_new]; rw [<- hj]; simp) (fun u hu => by rw [List.mem_singleton] at hu; subst hu; rfl) (by unfold maxLen; omega) (by omega) (by simp; omega) ?_; intro v' w3 hown' hgrow hnil; clear hnil; have B3 : Hid (Below w.heap.size w w3) := HB2.out.grown hgrow (by simp; omega) (fun j hj => (World.ownsRow.lt HO.out j hj).1); clear hgrow)
      go_roundw
      case rel => exact ⟨j + 1, k + 1, xs ++ [.string s], by omega, by omega, by go_num, fun u hu => by rcases List.mem_append.1 hu with hu | hu; exact HX.out u hu; rw [List.mem_singleton] at hu; exact ⟨s, hu, hs2⟩, hown', B3⟩
      case measure => simp [intOf]; omega
    | false =>
      go_wp2
      go_roundw
      case rel => exact ⟨j + 1, k, xs, by omega, by omega, by go_num, HX.out, HO.out, hB⟩
      case measure => simp [intOf]; omega
  · have hlt' : ¬ (j : Int) < n := by omega
    go_wp2
    go_ret
    exact ⟨_, _, k, rfl, by omega, zg7 HO.out HX.out hcb hlt, hB.out⟩
theorem bsz (a : Array UInt8) : (ByteArray.mk a).size = a.size := rfl
theorem zf.lt {w : World} {cb eb n : Nat} (h : zf w cb eb n) : eb < w.heap.size := by
 obtain ⟨vn, vk, ct, lf, fn, co, h⟩ := h
 exact h.lt
theorem zp.mono {w : World} {cb eb n m m' : Nat} {v : Value} (h : zp w cb eb v n m) (hm : m <= m') : zp w cb eb v n m' := by
 obtain ⟨a, c, rfl, h⟩ := h
 refine ⟨a, c, rfl, ?_⟩
 rcases h with h | ⟨b, o, rfl, h1, h2, h3, h4⟩
 · exact .inl h
 · exact .inr ⟨b, o, rfl, h1, h2, h3, fun i hi => by obtain ⟨s, e1, e2⟩ := h4 i hi; exact ⟨s, e1, by omega⟩⟩
def txB (m : Nat) (xs : List Value) : Bool := xs.all fun u => match u with | .string s => decide (s.size <= m) | _ => false
theorem zuz {m : Nat} {xs : List Value} (h : txB m xs = true) : TxL m xs := fun u hu => by
 have := List.all_eq_true.1 h u hu
 cases u with
 | string s => exact ⟨s, rfl, of_decide_eq_true this⟩
 | _ => simp at this
theorem zau {w : World} {cb eb m n : Nat} {cs : Array Value} (h : txB m cs.toList = true) (h1 : cb < w.heap.size) (h2 : eb < w.heap.size) (hs : cs.size = n) : zp (w.alloc (.cells cs 9)) cb eb (.slice (some ⟨w.heap.size, 0, none⟩) n n) n m := by
 subst hs
 refine ⟨_, _, rfl, .inr ⟨w.heap.size, 0, rfl, by simp, by omega, by omega, fun i hi => ?_⟩⟩
 obtain ⟨s, e1, e2⟩ := zuz h cs[i] (by simp)
 exact ⟨s, by rw [Nat.zero_add, World.cell?_alloc_new, Array.getElem?_eq_getElem hi, e1], e2⟩
def zaq (F b : Nat) (d : Int) (lo : Int := -100) : Prop := ∀ (cb eb n : Nat) (v : Value) (x : Int) (w : World), Cur w cb v -> zf w cb eb n -> eb ≠ cb -> n <= 1000 -> lo <= x -> x <= d ->
 Calls Tryz.prog F #[.pointer (some ⟨cb, 0, none⟩), .pointer (some ⟨eb, 0, none⟩), .int .i64 x] w fun e w' => ∃ s : ByteArray, e = .returned (.string s) /\ s.size <= b /\ Cur w' cb v /\ But cb w w'
set_option maxHeartbeats 2000000 in
theorem zlm : zaq 53 200 0 := by
 intro cb eb n v x w C0 E0 hne hn hx0 hx1
 have hcl := C0.lt
 have F0 := But.refl cb w
 go_enter Tryz.func53, Tryz.ntmps53
 go_wp2_with (first | (go_at_call 90; refine (zeu cb eb n _ _ (by first | assumption | exact zf.but (by assumption) ((But.refl _ _).alloc _) hne) (Cur.lt (by first | assumption | exact Cur.below (by assumption) ((Below.refl _ _).alloc (Nat.le_refl _) _))) hn).mono ?_; rintro e w0 ⟨la, lc, lk, rfl, hlk, S0, b0⟩; have C0 := Cur.below (by first | assumption | exact Cur.below (by assumption) ((Below.refl _ _).alloc (Nat.le_refl _) _)) b0; have B0 := But.ofBelow (b := cb) b0; clear b0; have E0 := zf.but (by first | assumption | exact zf.but (by assumption) ((But.refl _ _).alloc _) hne) B0 hne; have F0 := But.trans (by first | assumption | exact But.alloc (by assumption) _) B0; have hcl := C0.lt; clear B0) | (go_at_call 23; refine (zci cb v _ _ (by first | assumption | exact Cur.below (by assumption) ((Below.refl _ _).alloc (Nat.le_refl _) _)) (by omega) (by omega)).mono ?_; rintro e w0 ⟨q, rfl, C0, B0⟩; have E0 := zf.but (by first | assumption | exact zf.but (by assumption) ((But.refl _ _).alloc _) hne) B0 hne; have F0 := But.trans (by first | assumption | exact But.alloc (by assumption) _) B0; (try have S0 := zp.but (eb := eb) (by assumption) (But.two B0)); have hcl := C0.lt; clear B0) | (go_at_call 50; refine (za6 cb eb v _ _ 20 _ (by first | assumption | exact Cur.below (by assumption) ((Below.refl _ _).alloc (Nat.le_refl _) _)) (by first | exact zau (by rfl) (Cur.lt (v := v) (by assumption)) (zf.lt (n := n) (by assumption)) (by rfl) | exact zp.mono (by assumption) (by omega)) (by omega) (by omega)).mono ?_; rintro e w0 ⟨s, rfl, hs, C0, B0⟩; have hs2 : (s.size : Int) <= 20 := (by omega); have E0 := zf.but (by first | assumption | exact zf.but (by assumption) ((But.refl _ _).alloc _) hne) B0 hne; have F0 := But.trans (by first | assumption | exact But.alloc (by assumption) _) B0; (try have S0 := zp.but (eb := eb) (by assumption) (But.two B0)); have hcl := C0.lt; clear B0))
 all_goals
  (try simp only [Exit.inBlock, Exit.then])
  go_ret
  exact ⟨_, rfl, by first | omega | (simp [ByteArray.size_append, bsz] <;> omega), (by first | assumption | exact Cur.below (by assumption) ((Below.refl _ _).alloc (Nat.le_refl _) _)), (by first | assumption | exact But.alloc (by assumption) _)⟩
set_option maxHeartbeats 2000000 in
theorem zrf : zaq 88 200 0 := by
 intro cb eb n v x w C0 E0 hne hn hx0 hx1
 have hcl := C0.lt
 have F0 := But.refl cb w
 go_enter Tryz.func88, Tryz.ntmps88
 go_wp2_with (first | (go_at_call 90; refine (zeu cb eb n _ _ (by first | assumption | exact zf.but (by assumption) ((But.refl _ _).alloc _) hne) (Cur.lt (by first | assumption | exact Cur.below (by assumption) ((Below.refl _ _).alloc (Nat.le_refl _) _))) hn).mono ?_; rintro e w0 ⟨la, lc, lk, rfl, hlk, S0, b0⟩; have C0 := Cur.below (by first | assumption | exact Cur.below (by assumption) ((Below.refl _ _).alloc (Nat.le_refl _) _)) b0; have B0 := But.ofBelow (b := cb) b0; clear b0; have E0 := zf.but (by first | assumption | exact zf.but (by assumption) ((But.refl _ _).alloc _) hne) B0 hne; have F0 := But.trans (by first | assumption | exact But.alloc (by assumption) _) B0; have hcl := C0.lt; clear B0) | (go_at_call 23; refine (zci cb v _ _ (by first | assumption | exact Cur.below (by assumption) ((Below.refl _ _).alloc (Nat.le_refl _) _)) (by omega) (by omega)).mono ?_; rintro e w0 ⟨q, rfl, C0, B0⟩; have E0 := zf.but (by first | assumption | exact zf.but (by assumption) ((But.refl _ _).alloc _) hne) B0 hne; have F0 := But.trans (by first | assumption | exact But.alloc (by assumption) _) B0; (try have S0 := zp.but (eb := eb) (by assumption) (But.two B0)); have hcl := C0.lt; clear B0) | (go_at_call 50; refine (za6 cb eb v _ _ 20 _ (by first | assumption | exact Cur.below (by assumption) ((Below.refl _ _).alloc (Nat.le_refl _) _)) (by first | exact zau (by rfl) (Cur.lt (v := v) (by assumption)) (zf.lt (n := n) (by assumption)) (by rfl) | exact zp.mono (by assumption) (by omega)) (by omega) (by omega)).mono ?_; rintro e w0 ⟨s, rfl, hs, C0, B0⟩; have hs2 : (s.size : Int) <= 20 := (by omega); have E0 := zf.but (by first | assumption | exact zf.but (by assumption) ((But.refl _ _).alloc _) hne) B0 hne; have F0 := But.trans (by first | assumption | exact But.alloc (by assumption) _) B0; (try have S0 := zp.but (eb := eb) (by assumption) (But.two B0)); have hcl := C0.lt; clear B0))
 all_goals
  (try simp only [Exit.inBlock, Exit.then])
  go_ret
  exact ⟨_, rfl, by first | omega | (simp [ByteArray.size_append, bsz] <;> omega), (by first | assumption | exact Cur.below (by assumption) ((Below.refl _ _).alloc (Nat.le_refl _) _)), (by first | assumption | exact But.alloc (by assumption) _)⟩
set_option maxHeartbeats 2000000 in
theorem zpz : zaq 92 200 0 := by
 intro cb eb n v x w C0 E0 hne hn hx0 hx1
 have hcl := C0.lt
 have F0 := But.refl cb w
 go_enter Tryz.func92, Tryz.ntmps92
 go_wp2_with (first | (go_at_call 50; refine (za6 cb eb v _ _ 20 _ (by first | assumption | exact Cur.below (by assumption) ((Below.refl _ _).alloc (Nat.le_refl _) _)) (by first | exact zau (by rfl) (Cur.lt (v := v) (by assumption)) (zf.lt (n := n) (by assumption)) (by rfl) | exact zp.mono (by assumption) (by omega)) (by omega) (by omega)).mono ?_; rintro e w0 ⟨s, rfl, hs, C0, B0⟩; have hs2 : (s.size : Int) <= 20 := (by omega); have E0 := zf.but (by first | assumption | exact zf.but (by assumption) ((But.refl _ _).alloc _) hne) B0 hne; have F0 := But.trans (by first | assumption | exact But.alloc (by assumption) _) B0; (try have S0 := zp.but (eb := eb) (by assumption) (But.two B0)); have hcl := C0.lt; clear B0))
 all_goals
  (try simp only [Exit.inBlock, Exit.then])
  go_ret
  exact ⟨_, rfl, by first | omega | (simp [ByteArray.size_append, bsz] <;> omega), (by first | assumption | exact Cur.below (by assumption) ((Below.refl _ _).alloc (Nat.le_refl _) _)), (by first | assumption | exact But.alloc (by assumption) _)⟩
set_option maxHeartbeats 2000000 in
theorem zrg : zaq 91 200 0 := by
 have HNum : Hid (zaq 53 200 0) := zlm
 intro cb eb n v x w C0 E0 hne hn hx0 hx1
 have hcl := C0.lt
 have F0 := But.refl cb w
 go_enter Tryz.func91, Tryz.ntmps91
 go_wp2_with (first | (go_at_call 53; refine (HNum.out cb eb n v _ _ (by first | assumption | exact Cur.below (by assumption) ((Below.refl _ _).alloc (Nat.le_refl _) _)) (by first | assumption | exact zf.but (by assumption) ((But.refl _ _).alloc _) hne) hne hn (by omega) (by omega)).mono ?_; rintro e w0 ⟨s, rfl, hs, C0, B0⟩; have hs2 : (s.size : Int) <= 100000000 := (by omega); have E0 := zf.but (by first | assumption | exact zf.but (by assumption) ((But.refl _ _).alloc _) hne) B0 hne; have F0 := But.trans (by first | assumption | exact But.alloc (by assumption) _) B0; (try have S0 := zp.but (eb := eb) (by assumption) (But.two B0)); have hcl := C0.lt; clear B0))
 all_goals
  (try simp only [Exit.inBlock, Exit.then])
  go_ret
  exact ⟨_, rfl, by first | omega | (simp [ByteArray.size_append, bsz] <;> omega), (by first | assumption | exact Cur.below (by assumption) ((Below.refl _ _).alloc (Nat.le_refl _) _)), (by first | assumption | exact But.alloc (by assumption) _)⟩
set_option maxHeartbeats 4000000 in
theorem zrh (b : Nat) (d : Int) (hb : b <= 5000000) (hb2 : 20 <= b) (hd : d <= 10) (HNum : Hid (zaq 53 b d)) (HStr : Hid (zaq 88 b d)) (HBool : Hid (zaq 92 b d)) : zaq 53 (10 * b) (d + 1) := by
 intro cb eb n v x w C0 E0 hne hn hx0 hx1
 have hcl := C0.lt
 have F0 := But.refl cb w
 go_enter Tryz.func53, Tryz.ntmps53
 go_wp2_with (first | (go_at_call 90; refine (zeu cb eb n _ _ (by first | assumption | exact zf.but (by assumption) ((But.refl _ _).alloc _) hne) (Cur.lt (by first | assumption | exact Cur.below (by assumption) ((Below.refl _ _).alloc (Nat.le_refl _) _))) hn).mono ?_; rintro e w0 ⟨la, lc, lk, rfl, hlk, S0, b0⟩; have C0 := Cur.below (by first | assumption | exact Cur.below (by assumption) ((Below.refl _ _).alloc (Nat.le_refl _) _)) b0; have B0 := But.ofBelow (b := cb) b0; clear b0; have E0 := zf.but (by first | assumption | exact zf.but (by assumption) ((But.refl _ _).alloc _) hne) B0 hne; have F0 := But.trans (by first | assumption | exact But.alloc (by assumption) _) B0; have hcl := C0.lt; clear B0) | (go_at_call 23; refine (zci cb v _ _ (by first | assumption | exact Cur.below (by assumption) ((Below.refl _ _).alloc (Nat.le_refl _) _)) (by omega) (by omega)).mono ?_; rintro e w0 ⟨q, rfl, C0, B0⟩; have E0 := zf.but (by first | assumption | exact zf.but (by assumption) ((But.refl _ _).alloc _) hne) B0 hne; have F0 := But.trans (by first | assumption | exact But.alloc (by assumption) _) B0; (try have S0 := zp.but (eb := eb) (by assumption) (But.two B0)); have hcl := C0.lt; clear B0) | (go_at_call 49; refine (zal cb v _ _ (by first | assumption | exact Cur.below (by assumption) ((Below.refl _ _).alloc (Nat.le_refl _) _)) (by omega) (by omega)).mono ?_; rintro e w0 ⟨y, rfl, ⟨hy0, hy1⟩, C0, B0⟩; have E0 := zf.but (by first | assumption | exact zf.but (by assumption) ((But.refl _ _).alloc _) hne) B0 hne; have F0 := But.trans (by first | assumption | exact But.alloc (by assumption) _) B0; (try have S0 := zp.but (eb := eb) (by assumption) (But.two B0)); have hcl := C0.lt; clear B0) | (go_at_call 50; refine (za6 cb eb v _ _ 20 _ (by first | assumption | exact Cur.below (by assumption) ((Below.refl _ _).alloc (Nat.le_refl _) _)) (by first | exact zau (by rfl) (Cur.lt (v := v) (by assumption)) (zf.lt (n := n) (by assumption)) (by rfl) | exact zp.mono (by assumption) (by omega)) (by omega) (by omega)).mono ?_; rintro e w0 ⟨s, rfl, hs, C0, B0⟩; have hs2 : (s.size : Int) <= 20 := (by omega); have E0 := zf.but (by first | assumption | exact zf.but (by assumption) ((But.refl _ _).alloc _) hne) B0 hne; have F0 := But.trans (by first | assumption | exact But.alloc (by assumption) _) B0; (try have S0 := zp.but (eb := eb) (by assumption) (But.two B0)); have hcl := C0.lt; clear B0) | (go_at_call 53; refine (HNum.out cb eb n v _ _ (by first | assumption | exact Cur.below (by assumption) ((Below.refl _ _).alloc (Nat.le_refl _) _)) (by first | assumption | exact zf.but (by assumption) ((But.refl _ _).alloc _) hne) hne hn (by omega) (by omega)).mono ?_; rintro e w0 ⟨s, rfl, hs, C0, B0⟩; have hs2 : (s.size : Int) <= 100000000 := (by omega); have E0 := zf.but (by first | assumption | exact zf.but (by assumption) ((But.refl _ _).alloc _) hne) B0 hne; have F0 := But.trans (by first | assumption | exact But.alloc (by assumption) _) B0; (try have S0 := zp.but (eb := eb) (by assumption) (But.two B0)); have hcl := C0.lt; clear B0) | (go_at_call 88; refine (HStr.out cb eb n v _ _ (by first | assumption | exact Cur.below (by assumption) ((Below.refl _ _).alloc (Nat.le_refl _) _)) (by first | assumption | exact zf.but (by assumption) ((But.refl _ _).alloc _) hne) hne hn (by omega) (by omega)).mono ?_; rintro e w0 ⟨s, rfl, hs, C0, B0⟩; have hs2 : (s.size : Int) <= 100000000 := (by omega); have E0 := zf.but (by first | assumption | exact zf.but (by assumption) ((But.refl _ _).alloc _) hne) B0 hne; have F0 := But.trans (by first | assumption | exact But.alloc (by assumption) _) B0; (try have S0 := zp.but (eb := eb) (by assumption) (But.two B0)); have hcl := C0.lt; clear B0) | (go_at_call 92; refine (HBool.out cb eb n v _ _ (by first | assumption | exact Cur.below (by assumption) ((Below.refl _ _).alloc (Nat.le_refl _) _)) (by first | assumption | exact zf.but (by assumption) ((But.refl _ _).alloc _) hne) hne hn (by omega) (by omega)).mono ?_; rintro e w0 ⟨s, rfl, hs, C0, B0⟩; have hs2 : (s.size : Int) <= 100000000 := (by omega); have E0 := zf.but (by first | assumption | exact zf.but (by assumption) ((But.refl _ _).alloc _) hne) B0 hne; have F0 := But.trans (by first | assumption | exact But.alloc (by assumption) _) B0; (try have S0 := zp.but (eb := eb) (by assumption) (But.two B0)); have hcl := C0.lt; clear B0))
 all_goals
  (try simp only [Exit.inBlock, Exit.then])
  go_ret
  exact ⟨_, rfl, by first | omega | (simp [ByteArray.size_append, bsz] <;> omega), (by first | assumption | exact Cur.below (by assumption) ((Below.refl _ _).alloc (Nat.le_refl _) _)), (by first | assumption | exact But.alloc (by assumption) _)⟩
set_option maxHeartbeats 4000000 in
theorem zri (b : Nat) (d : Int) (hb : b <= 5000000) (hb2 : 20 <= b) (hd : d <= 10) (HAny : Hid (zaq 91 b d)) (HStr : Hid (zaq 88 b d)) : zaq 88 (10 * b) (d + 1) := by
 intro cb eb n v x w C0 E0 hne hn hx0 hx1
 have hcl := C0.lt
 have F0 := But.refl cb w
 go_enter Tryz.func88, Tryz.ntmps88
 go_wp2_with (first | (go_at_call 90; refine (zeu cb eb n _ _ (by first | assumption | exact zf.but (by assumption) ((But.refl _ _).alloc _) hne) (Cur.lt (by first | assumption | exact Cur.below (by assumption) ((Below.refl _ _).alloc (Nat.le_refl _) _))) hn).mono ?_; rintro e w0 ⟨la, lc, lk, rfl, hlk, S0, b0⟩; have C0 := Cur.below (by first | assumption | exact Cur.below (by assumption) ((Below.refl _ _).alloc (Nat.le_refl _) _)) b0; have B0 := But.ofBelow (b := cb) b0; clear b0; have E0 := zf.but (by first | assumption | exact zf.but (by assumption) ((But.refl _ _).alloc _) hne) B0 hne; have F0 := But.trans (by first | assumption | exact But.alloc (by assumption) _) B0; have hcl := C0.lt; clear B0) | (go_at_call 23; refine (zci cb v _ _ (by first | assumption | exact Cur.below (by assumption) ((Below.refl _ _).alloc (Nat.le_refl _) _)) (by omega) (by omega)).mono ?_; rintro e w0 ⟨q, rfl, C0, B0⟩; have E0 := zf.but (by first | assumption | exact zf.but (by assumption) ((But.refl _ _).alloc _) hne) B0 hne; have F0 := But.trans (by first | assumption | exact But.alloc (by assumption) _) B0; (try have S0 := zp.but (eb := eb) (by assumption) (But.two B0)); have hcl := C0.lt; clear B0) | (go_at_call 49; refine (zal cb v _ _ (by first | assumption | exact Cur.below (by assumption) ((Below.refl _ _).alloc (Nat.le_refl _) _)) (by omega) (by omega)).mono ?_; rintro e w0 ⟨y, rfl, ⟨hy0, hy1⟩, C0, B0⟩; have E0 := zf.but (by first | assumption | exact zf.but (by assumption) ((But.refl _ _).alloc _) hne) B0 hne; have F0 := But.trans (by first | assumption | exact But.alloc (by assumption) _) B0; (try have S0 := zp.but (eb := eb) (by assumption) (But.two B0)); have hcl := C0.lt; clear B0) | (go_at_call 50; refine (za6 cb eb v _ _ 20 _ (by first | assumption | exact Cur.below (by assumption) ((Below.refl _ _).alloc (Nat.le_refl _) _)) (by first | exact zau (by rfl) (Cur.lt (v := v) (by assumption)) (zf.lt (n := n) (by assumption)) (by rfl) | exact zp.mono (by assumption) (by omega)) (by omega) (by omega)).mono ?_; rintro e w0 ⟨s, rfl, hs, C0, B0⟩; have hs2 : (s.size : Int) <= 20 := (by omega); have E0 := zf.but (by first | assumption | exact zf.but (by assumption) ((But.refl _ _).alloc _) hne) B0 hne; have F0 := But.trans (by first | assumption | exact But.alloc (by assumption) _) B0; (try have S0 := zp.but (eb := eb) (by assumption) (But.two B0)); have hcl := C0.lt; clear B0) | (go_at_call 91; refine (HAny.out cb eb n v _ _ (by first | assumption | exact Cur.below (by assumption) ((Below.refl _ _).alloc (Nat.le_refl _) _)) (by first | assumption | exact zf.but (by assumption) ((But.refl _ _).alloc _) hne) hne hn (by omega) (by omega)).mono ?_; rintro e w0 ⟨s, rfl, hs, C0, B0⟩; have hs2 : (s.size : Int) <= 100000000 := (by omega); have E0 := zf.but (by first | assumption | exact zf.but (by assumption) ((But.refl _ _).alloc _) hne) B0 hne; have F0 := But.trans (by first | assumption | exact But.alloc (by assumption) _) B0; (try have S0 := zp.but (eb := eb) (by assumption) (But.two B0)); have hcl := C0.lt; clear B0) | (go_at_call 88; refine (HStr.out cb eb n v _ _ (by first | assumption | exact Cur.below (by assumption) ((Below.refl _ _).alloc (Nat.le_refl _) _)) (by first | assumption | exact zf.but (by assumption) ((But.refl _ _).alloc _) hne) hne hn (by omega) (by omega)).mono ?_; rintro e w0 ⟨s, rfl, hs, C0, B0⟩; have hs2 : (s.size : Int) <= 100000000 := (by omega); have E0 := zf.but (by first | assumption | exact zf.but (by assumption) ((But.refl _ _).alloc _) hne) B0 hne; have F0 := But.trans (by first | assumption | exact But.alloc (by assumption) _) B0; (try have S0 := zp.but (eb := eb) (by assumption) (But.two B0)); have hcl := C0.lt; clear B0))
 all_goals
  (try simp only [Exit.inBlock, Exit.then])
  go_ret
  exact ⟨_, rfl, by first | omega | (simp [ByteArray.size_append, bsz] <;> omega), (by first | assumption | exact Cur.below (by assumption) ((Below.refl _ _).alloc (Nat.le_refl _) _)), (by first | assumption | exact But.alloc (by assumption) _)⟩
set_option maxHeartbeats 4000000 in
theorem zp0 (b : Nat) (d : Int) (hb : b <= 5000000) (hb2 : 20 <= b) (hd : d <= 10) (HNum : Hid (zaq 53 b d)) (HStr : Hid (zaq 88 b d)) (HBool : Hid (zaq 92 b d)) (HAny : Hid (zaq 91 b d)) : zaq 92 (10 * b) (d + 1) := by
 intro cb eb n v x w C0 E0 hne hn hx0 hx1
 have hcl := C0.lt
 have F0 := But.refl cb w
 go_enter Tryz.func92, Tryz.ntmps92
 go_wp2_with (first | (go_at_call 49; refine (zal cb v _ _ (by first | assumption | exact Cur.below (by assumption) ((Below.refl _ _).alloc (Nat.le_refl _) _)) (by omega) (by omega)).mono ?_; rintro e w0 ⟨y, rfl, ⟨hy0, hy1⟩, C0, B0⟩; have E0 := zf.but (by first | assumption | exact zf.but (by assumption) ((But.refl _ _).alloc _) hne) B0 hne; have F0 := But.trans (by first | assumption | exact But.alloc (by assumption) _) B0; (try have S0 := zp.but (eb := eb) (by assumption) (But.two B0)); have hcl := C0.lt; clear B0) | (go_at_call 50; refine (za6 cb eb v _ _ 20 _ (by first | assumption | exact Cur.below (by assumption) ((Below.refl _ _).alloc (Nat.le_refl _) _)) (by first | exact zau (by rfl) (Cur.lt (v := v) (by assumption)) (zf.lt (n := n) (by assumption)) (by rfl) | exact zp.mono (by assumption) (by omega)) (by omega) (by omega)).mono ?_; rintro e w0 ⟨s, rfl, hs, C0, B0⟩; have hs2 : (s.size : Int) <= 20 := (by omega); have E0 := zf.but (by first | assumption | exact zf.but (by assumption) ((But.refl _ _).alloc _) hne) B0 hne; have F0 := But.trans (by first | assumption | exact But.alloc (by assumption) _) B0; (try have S0 := zp.but (eb := eb) (by assumption) (But.two B0)); have hcl := C0.lt; clear B0) | (go_at_call 91; refine (HAny.out cb eb n v _ _ (by first | assumption | exact Cur.below (by assumption) ((Below.refl _ _).alloc (Nat.le_refl _) _)) (by first | assumption | exact zf.but (by assumption) ((But.refl _ _).alloc _) hne) hne hn (by omega) (by omega)).mono ?_; rintro e w0 ⟨s, rfl, hs, C0, B0⟩; have hs2 : (s.size : Int) <= 100000000 := (by omega); have E0 := zf.but (by first | assumption | exact zf.but (by assumption) ((But.refl _ _).alloc _) hne) B0 hne; have F0 := But.trans (by first | assumption | exact But.alloc (by assumption) _) B0; (try have S0 := zp.but (eb := eb) (by assumption) (But.two B0)); have hcl := C0.lt; clear B0) | (go_at_call 53; refine (HNum.out cb eb n v _ _ (by first | assumption | exact Cur.below (by assumption) ((Below.refl _ _).alloc (Nat.le_refl _) _)) (by first | assumption | exact zf.but (by assumption) ((But.refl _ _).alloc _) hne) hne hn (by omega) (by omega)).mono ?_; rintro e w0 ⟨s, rfl, hs, C0, B0⟩; have hs2 : (s.size : Int) <= 100000000 := (by omega); have E0 := zf.but (by first | assumption | exact zf.but (by assumption) ((But.refl _ _).alloc _) hne) B0 hne; have F0 := But.trans (by first | assumption | exact But.alloc (by assumption) _) B0; (try have S0 := zp.but (eb := eb) (by assumption) (But.two B0)); have hcl := C0.lt; clear B0) | (go_at_call 88; refine (HStr.out cb eb n v _ _ (by first | assumption | exact Cur.below (by assumption) ((Below.refl _ _).alloc (Nat.le_refl _) _)) (by first | assumption | exact zf.but (by assumption) ((But.refl _ _).alloc _) hne) hne hn (by omega) (by omega)).mono ?_; rintro e w0 ⟨s, rfl, hs, C0, B0⟩; have hs2 : (s.size : Int) <= 100000000 := (by omega); have E0 := zf.but (by first | assumption | exact zf.but (by assumption) ((But.refl _ _).alloc _) hne) B0 hne; have F0 := But.trans (by first | assumption | exact But.alloc (by assumption) _) B0; (try have S0 := zp.but (eb := eb) (by assumption) (But.two B0)); have hcl := C0.lt; clear B0) | (go_at_call 92; refine (HBool.out cb eb n v _ _ (by first | assumption | exact Cur.below (by assumption) ((Below.refl _ _).alloc (Nat.le_refl _) _)) (by first | assumption | exact zf.but (by assumption) ((But.refl _ _).alloc _) hne) hne hn (by omega) (by omega)).mono ?_; rintro e w0 ⟨s, rfl, hs, C0, B0⟩; have hs2 : (s.size : Int) <= 100000000 := (by omega); have E0 := zf.but (by first | assumption | exact zf.but (by assumption) ((But.refl _ _).alloc _) hne) B0 hne; have F0 := But.trans (by first | assumption | exact But.alloc (by assumption) _) B0; (try have S0 := zp.but (eb := eb) (by assumption) (But.two B0)); have hcl := C0.lt; clear B0))
 all_goals
  (try simp only [Exit.inBlock, Exit.then])
  go_ret
  exact ⟨_, rfl, by first | omega | (simp [ByteArray.size_append, bsz] <;> omega), (by first | assumption | exact Cur.below (by assumption) ((Below.refl _ _).alloc (Nat.le_refl _) _)), (by first | assumption | exact But.alloc (by assumption) _)⟩
end Go.Proofs.YtiglkhkfbgjjoaaGreatDoor
