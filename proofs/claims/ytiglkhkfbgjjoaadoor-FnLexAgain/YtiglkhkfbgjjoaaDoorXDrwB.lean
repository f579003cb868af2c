/- Drawing programs: what a text that is made may name; picking, l10Of. -/
import Derived.Test.YtiglkhkfbgjjoaaDoorProg
import Derived.Test.YtiglkhkfbgjjoaaDoorXDrwA
namespace Go.Proofs.YtiglkhkfbgjjoaaDoor
set_option maxRecDepth 20000
open Go.RowKit
set_option linter.unusedSimpArgs false
set_option linter.unusedVariables false

/-- A row of n texts, each of at most m bytes, in a block that is neither cb nor eb. -/
def StrS (w : World) (cb eb : Nat) (v : Value) (n m : Nat) : Prop :=
  ∃ a c, v = .slice a n c ∧ ((a = none ∧ c = 0 ∧ n = 0) ∨ ∃ b o, a = some ⟨b, o, none⟩ ∧ b < w.heap.size ∧ b ≠ cb ∧ b ≠ eb ∧ ∀ i, i < n → ∃ s : ByteArray, w.cell? ⟨b, o + i, none⟩ = some (.string s) ∧ s.size ≤ m)
/-- A row of n numbers, likewise. -/
def IntS (w : World) (cb eb : Nat) (v : Value) (n : Nat) : Prop :=
  ∃ a c, v = .slice a n c ∧ ((a = none ∧ c = 0 ∧ n = 0) ∨ ∃ b o, a = some ⟨b, o, none⟩ ∧ b < w.heap.size ∧ b ≠ cb ∧ b ≠ eb ∧ ∀ i, i < n → ∃ x : Int, w.cell? ⟨b, o + i, none⟩ = some (.int .i64 x))
/-- Blocks other than cb and eb are as they were. -/
structure But2 (cb eb : Nat) (w w' : World) : Prop where
  os : w'.os = w.os
  tape : w'.tape = w.tape
  output : w'.output = w.output
  size : w.heap.size ≤ w'.heap.size
  block : ∀ k, k < w.heap.size → k ≠ cb → k ≠ eb → w'.heap[k]? = w.heap[k]?
theorem But2.refl (cb eb : Nat) (w : World) : But2 cb eb w w := ⟨rfl, rfl, rfl, Nat.le_refl _, fun _ _ _ _ => rfl⟩
theorem But2.trans {cb eb : Nat} {w w1 w2 : World} (h : But2 cb eb w w1) (k : But2 cb eb w1 w2) : But2 cb eb w w2 :=
  ⟨k.os.trans h.os, k.tape.trans h.tape, k.output.trans h.output, Nat.le_trans h.size k.size, fun j hj h1 h2 => (k.block j (Nat.lt_of_lt_of_le hj h.size) h1 h2).trans (h.block j hj h1 h2)⟩
theorem But.two {cb eb : Nat} {w w' : World} (h : But cb w w') : But2 cb eb w w' := ⟨h.os, h.tape, h.output, h.size, fun k hk h1 _ => h.block k hk h1⟩
theorem But2.set {cb eb : Nat} {a w : World} (h : But2 cb eb a w) (i : Nat) (u : Value) : But2 cb eb a (w.setCell ⟨eb, i, none⟩ u) :=
  ⟨h.os, h.tape, h.output, by simpa using h.size, fun k hk h1 h2 => by rw [Go.Deep.blk_setCell_other _ _ _ _ (by exact h2)]; exact h.block k hk h1 h2⟩
theorem StrS.but {w w' : World} {cb eb n m : Nat} {v : Value} (h : StrS w cb eb v n m) (hb : But2 cb eb w w') : StrS w' cb eb v n m := by
  obtain ⟨a, c, rfl, h⟩ := h
  refine ⟨a, c, rfl, ?_⟩
  rcases h with h | ⟨b, o, rfl, h1, h2, h3, h4⟩
  · exact .inl h
  · exact .inr ⟨b, o, rfl, Nat.lt_of_lt_of_le h1 hb.size, h2, h3, fun i hi => by rw [World.cell?_of_block (w := w) (a := ⟨b, o + i, none⟩) (hb.block b h1 h2 h3)]; exact h4 i hi⟩
theorem IntS.but {w w' : World} {cb eb n : Nat} {v : Value} (h : IntS w cb eb v n) (hb : But2 cb eb w w') : IntS w' cb eb v n := by
  obtain ⟨a, c, rfl, h⟩ := h
  refine ⟨a, c, rfl, ?_⟩
  rcases h with h | ⟨b, o, rfl, h1, h2, h3, h4⟩
  · exact .inl h
  · exact .inr ⟨b, o, rfl, Nat.lt_of_lt_of_le h1 hb.size, h2, h3, fun i hi => by rw [World.cell?_of_block (w := w) (a := ⟨b, o + i, none⟩) (hb.block b h1 h2 h3)]; exact h4 i hi⟩
/-- What a text may name, in block eb: n names. -/
structure Env (w : World) (cb eb n m : Nat) (vn vk : Value) (ct lf : Int) (fn co : Bool) : Prop where
  lt : eb < w.heap.size
  c : ∀ i, w.cell? ⟨eb, i, none⟩ = (#[vn, vk, .int .i64 ct, .int .i64 lf, .bool fn, .bool co] : Array Value)[i]?
  f : ∀ i, w.frozen? ⟨eb, i, none⟩ = false
  hn : StrS w cb eb vn n 3
  hk : IntS w cb eb vk m
def EnvE (w : World) (cb eb n : Nat) : Prop := ∃ vn vk ct lf fn co, Env w cb eb n n vn vk ct lf fn co
theorem Env.but {w w' : World} {cb eb n m : Nat} {vn vk : Value} {ct lf : Int} {fn co : Bool} (h : Env w cb eb n m vn vk ct lf fn co) (hb : But cb w w') (hne : eb ≠ cb) : Env w' cb eb n m vn vk ct lf fn co :=
  ⟨Nat.lt_of_lt_of_le h.lt hb.size, fun i => by rw [hb.cell h.lt hne]; exact h.c i, fun i => by rw [hb.frozen h.lt hne]; exact h.f i, h.hn.but hb.two, h.hk.but hb.two⟩
theorem EnvE.but {w w' : World} {cb eb n : Nat} (h : EnvE w cb eb n) (hb : But cb w w') (hne : eb ≠ cb) : EnvE w' cb eb n := by
  obtain ⟨vn, vk, ct, lf, fn, co, h⟩ := h
  exact ⟨vn, vk, ct, lf, fn, co, h.but hb hne⟩
theorem l1Pick_at (cb eb : Nat) (v lv : Value) (n m : Nat) (w : World) (hcur : Cur w cb v) (hl : StrS w cb eb lv n m) (h1 : 1 ≤ n) (h2 : n ≤ 100000) :
    Calls Tryd.prog 74 #[.pointer (some ⟨cb, 0, none⟩), lv] w fun e w' => ∃ s : ByteArray, e = .returned (.string s) ∧ s.size ≤ m ∧ Cur w' cb v ∧ But cb w w' := by
  obtain ⟨a, c, rfl, hl⟩ := hl
  rcases hl with ⟨_, _, hl⟩ | ⟨b, o, rfl, hb, hne, _, hc⟩
  · omega
  have h2' : (n : Int) ≤ 100000 := by omega
  have HC : Hid (∀ i, i < n → ∃ s : ByteArray, w.cell? ⟨b, o + i, none⟩ = some (.string s) ∧ s.size ≤ m) := hc
  clear hc h2
  go_enter Tryd.func74, Tryd.ntmps74
  go_wp2_with fail
  refine (l1Below_any cb v n _ hcur (by omega) (by omega)).mono ?_
  rintro e w1 ⟨x, rfl, ⟨hx0, hx1⟩, C1, B1⟩
  obtain ⟨k, rfl⟩ := Int.eq_ofNat_of_zero_le hx0
  obtain ⟨s, hs1, hs2⟩ := HC.out k (by omega)
  have hk : w1.cell? ⟨b, o + k, none⟩ = some (.string s) := by rw [B1.cell hb hne]; exact hs1
  have hb1 : b < w1.heap.size := Nat.lt_of_lt_of_le hb B1.size
  clear HC hs1
  go_wp2
  go_ret
  exact ⟨_, rfl, hs2, C1, B1⟩
theorem infoS : (Tryd.prog.info? 9).map (fun i => (i.zero, i.size, i.bytes)) = some (some (.string ⟨#[]⟩), 1, 16) := by kernel_rfl
theorem info_str : ∃ i : TypeInfo, Tryd.prog.info? 9 = some i ∧ i.zero = some (.string ⟨#[]⟩) ∧ i.size = 1 ∧ i.bytes = 16 := by
  have h := infoS
  cases hi : Tryd.prog.info? 9 with
  | none => rw [hi] at h; simp at h
  | some i =>
    rw [hi] at h
    simp only [Option.map_some, Option.some.injEq, Prod.mk.injEq] at h
    exact ⟨i, rfl, h.1, h.2.1, h.2.2⟩
/-- Texts of at most m bytes. -/
def TxL (m : Nat) (xs : List Value) : Prop := ∀ u ∈ xs, ∃ s : ByteArray, u = .string s ∧ s.size ≤ m
theorem TxL.one {m : Nat} {xs : List Value} (h : TxL m xs) : ∀ u ∈ xs, u.oneCell' = true := fun u hu => by
  obtain ⟨s, rfl, _⟩ := h u hu
  rfl
theorem own_strs {B cb eb n m : Nat} {w : World} {v : Value} {xs : List Value} (h : w.ownsRow B 9 1 v n xs) (hx : TxL m xs) (h1 : cb < B) (h2 : eb < B) : StrS w cb eb v n m := by
  have hl := h.1
  obtain ⟨_, ⟨rfl, h0⟩ | ⟨g, cap, cur, rfl, hg, hc, r⟩⟩ := id h
  · exact ⟨none, 0, by rw [h0], .inl ⟨rfl, rfl, h0⟩⟩
  · refine ⟨_, cap, rfl, .inr ⟨g, 0, rfl, ?_, by omega, by omega, fun i hi => ?_⟩⟩
    · rcases Nat.lt_or_ge g w.heap.size with h | h
      · exact h
      · rw [Array.getElem?_eq_none h] at hc; cases hc
    · have e := h.cellAt i (by omega)
      have hi' : i < xs.length := by omega
      rw [List.getElem?_eq_getElem hi'] at e
      obtain ⟨s, hs1, hs2⟩ := hx _ (List.getElem_mem hi')
      exact ⟨s, by rw [Nat.zero_add, e, hs1], hs2⟩
theorem own1_form {B : Nat} {e : TypeId} {w : World} {v : Value} {n : Nat} {xs : List Value} (h : w.ownsRow B e 1 v n xs) : ∃ a c, v = .slice a n c := by
  obtain ⟨_, ⟨rfl, rfl⟩ | ⟨g, cap, cur, rfl, _⟩⟩ := h
  · exact ⟨_, _, rfl⟩
  · exact ⟨_, _, rfl⟩
set_option maxHeartbeats 1000000 in
theorem l10Of_at (cb eb n : Nat) (kind : Int) (w : World) (hE : EnvE w cb eb n) (hcb : cb < w.heap.size) (hn : n ≤ 1000) :
    Calls Tryd.prog 156 #[.pointer (some ⟨eb, 0, none⟩), .int .i64 kind] w fun e w' => ∃ a c k, e = .returned (.slice a k c) ∧ k ≤ n ∧ StrS w' cb eb (.slice a k c) k 3 ∧ Below w.heap.size w w' := by
  obtain ⟨vn, vk, ct, lf, fn, co, E⟩ := hE
  obtain ⟨an, cn, rfl, hN⟩ := E.hn
  obtain ⟨ak, ck, rfl, hK⟩ := E.hk
  obtain ⟨i0, hi, hz0, hz1, hz2⟩ := info_str
  have hn' : (n : Int) ≤ 1000 := by omega
  have hlt := E.lt
  have HE : Hid (Env w cb eb n n (.slice an n cn) (.slice ak n ck) ct lf fn co) := E
  have HN : Hid ((an = none ∧ cn = 0 ∧ n = 0) ∨ ∃ b o, an = some ⟨b, o, none⟩ ∧ b < w.heap.size ∧ b ≠ cb ∧ b ≠ eb ∧ ∀ i, i < n → ∃ s : ByteArray, w.cell? ⟨b, o + i, none⟩ = some (.string s) ∧ s.size ≤ 3) := hN
  have HK : Hid ((ak = none ∧ ck = 0 ∧ n = 0) ∨ ∃ b o, ak = some ⟨b, o, none⟩ ∧ b < w.heap.size ∧ b ≠ cb ∧ b ≠ eb ∧ ∀ i, i < n → ∃ x : Int, w.cell? ⟨b, o + i, none⟩ = some (.int .i64 x)) := hK
  clear E hN hK
  go_enter Tryd.func156, Tryd.ntmps156
  go_wp2_with fail
  go_loopw [5, 6] (fun out q wr => ∃ (j k : Nat) (xs : List Value), j ≤ n ∧ k ≤ j ∧ q = .int .i64 j ∧ TxL 3 xs ∧ wr.ownsRow w.heap.size 9 1 out k xs ∧ Hid (Below w.heap.size w wr)) (fun _ q _ => n - (intOf q).toNat)
  case atStart => exact ⟨0, 0, [], Nat.zero_le _, Nat.le_refl _, rfl, fun u hu => (by cases hu), World.ownsRow_lit w #[] 0 (Nat.le_refl _) (by unfold maxLen; omega) rfl, (Below.refl _ _).alloc (Nat.le_refl _) _⟩
  case round =>
    obtain ⟨j, k, xs, hj, hk, rfl, hx, hown, hB⟩ := hrel
    obtain ⟨oa, oc, rfl⟩ := own1_form hown
    have HX : Hid (TxL 3 xs) := hx
    have HO : Hid (wr.ownsRow w.heap.size 9 1 (.slice oa k oc) k xs) := hown
    clear hx hown
    have he : eb < wr.heap.size := Nat.lt_of_lt_of_le hlt hB.out.size
    have d0 : wr.cell? ⟨eb, 0, none⟩ = some (.slice an n cn) := by rw [hB.out.cell (p := ⟨eb, 0, none⟩) hlt]; exact HE.out.c 0
    have d1 : wr.cell? ⟨eb, 1, none⟩ = some (.slice ak n ck) := by rw [hB.out.cell (p := ⟨eb, 1, none⟩) hlt]; exact HE.out.c 1
    have lz := hB.out.size
    by_cases hlt2 : j < n
    · have hlt' : (j : Int) < n := by omega
      rcases HN.out with ⟨_, _, h0⟩ | ⟨b1, o1, rfl, l1, _, _, q1⟩
      · omega
      rcases HK.out with ⟨_, _, h0⟩ | ⟨b2, o2, rfl, l2, _, _, q2⟩
      · omega
      obtain ⟨s, hs1, hs2⟩ := q1 j hlt2
      obtain ⟨x, hx1⟩ := q2 j hlt2
      have e1 : wr.cell? ⟨b1, o1 + j, none⟩ = some (.string s) := by rw [hB.out.cell (p := ⟨b1, o1 + j, none⟩) l1]; exact hs1
      have e2 : wr.cell? ⟨b2, o2 + j, none⟩ = some (.int .i64 x) := by rw [hB.out.cell (p := ⟨b2, o2 + j, none⟩) l2]; exact hx1
      have z1 : b1 < wr.heap.size := by omega
      have z2 : b2 < wr.heap.size := by omega
      have HB2 : Hid (Below w.heap.size w (wr.alloc (.cells #[.string s] 9))) := hB.out.alloc lz _
      clear q1 q2 hs1 hx1 HE HN HK
      cases hq : (x == kind) with
      | true =>
        go_wp2_with (at_builtin; refine wpList_append_own _ rfl _ _ 45 rfl w.heap.size 9 i0 (.string ⟨#[]⟩) 1 16 Tryd.underlying45 hi hz0 hz1 hz2 rfl (by decide) _ k xs rfl (HO.out.alloc _) ⟨wr.heap.size, 0, none⟩ 1 1 [.string s] rfl rfl (fun j u hj => by rw [Addr.add_lit, Nat.zero_add, World.cell?_alloc_new]; rw [← hj]; simp) (fun u hu => by rw [List.mem_singleton] at hu; subst hu; rfl) (by unfold maxLen; omega) (by omega) (by simp; omega) ?_; intro v' w3 hown' hgrow hnil; clear hnil; have B3 : Hid (Below w.heap.size w w3) := HB2.out.grown hgrow (by simp; omega) (fun j hj => (World.ownsRow.lt HO.out j hj).1); clear hgrow)
        go_roundw
        case rel => exact ⟨j + 1, k + 1, xs ++ [.string s], by omega, by omega, by go_num, fun u hu => by rcases List.mem_append.1 hu with hu | hu; exact HX.out u hu; rw [List.mem_singleton] at hu; exact ⟨s, hu, hs2⟩, hown', B3⟩
        case measure => simp [intOf]; omega
      | false =>
        go_wp2
        go_roundw
        case rel => exact ⟨j + 1, k, xs, by omega, by omega, by go_num, HX.out, HO.out, hB⟩
        case measure => simp [intOf]; omega
    · have hlt' : ¬ (j : Int) < n := by omega
      go_wp2
      go_ret
      exact ⟨_, _, k, rfl, by omega, own_strs HO.out HX.out hcb hlt, hB.out⟩
end Go.Proofs.YtiglkhkfbgjjoaaDoor
