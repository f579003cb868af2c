/- The program's scanner: add. -/
import Derived.Test.YtiglkhkfbgjjoaaDoorProg
import Derived.Test.YtiglkhkfbgjjoaaDoorPLxK
namespace Go.Proofs.YtiglkhkfbgjjoaaDoor
set_option maxRecDepth 20000
open Go.RowKit Go.PlainAid
set_option linter.unusedSimpArgs false
set_option linter.unusedVariables false

theorem own_form4 {B : Nat} {e : TypeId} {w : World} {v : Value} {n : Nat} {xs : List Value} (h : w.ownsRow B e 4 v n xs) : ∃ a c, v = .slice a n c := by
  obtain ⟨_, ⟨rfl, rfl⟩ | ⟨g, cap, cur, rfl, _⟩⟩ := h
  · exact ⟨_, _, rfl⟩
  · exact ⟨_, _, rfl⟩
set_option maxHeartbeats 4000000 in
theorem add_at (sb : Nat) (t : ByteArray) (fr at_ : Nat) (va : Option Addr) (vc : Nat) (acc : List TokD) (k : Int) (s : ByteArray) (n : Int) (w : World) (hs : s.size ≤ 3000) (hacc : acc.length ≤ 3000) (h : Scn w sb t fr at_ (.slice va acc.length vc)) (hT : Toks (sb + 1) w (.slice va acc.length vc) acc) :
    Calls Tryd.prog 64 #[.pointer (some ⟨sb, 0, none⟩), .int .i64 k, .string s, .int .i64 n] w fun e w' => e = .returned (.tuple #[]) ∧ ∃ v', Scn w' sb t fr at_ v' ∧ Toks (sb + 1) w' v' (acc ++ [⟨k, fr, s, n⟩]) ∧ Below sb w w' := by
  obtain ⟨i0, hi, hz0, hz1, hz2⟩ := info_tok
  have HS : Hid (Scn w.drew sb t fr at_ (.slice va acc.length vc)) := h.drew
  have HT : Hid (Toks (sb + 1) w.drew (.slice va acc.length vc) acc) := hT
  have HB : Hid (Below sb w w.drew) := (Below.refl _ _).drew
  have c3 : w.drew.cell? ⟨sb, 3, none⟩ = some (.slice va acc.length vc) := h.cells.2.2.2
  clear h hT
  go_enter Tryd.func64, Tryd.ntmps64
  go_wp2_with fail
  refine wp_region_held_drew (S := fun V => Below sb w V ∧ V.cell? ⟨sb, 1, none⟩ = some (.int .i64 (fr : Int))) (by kernel_rfl) (⟨HB.out, HS.out.cells.2.1⟩) (fun hHeld => ?_)
  generalize w.drew = w0 at *
  refine tkLx 0 8 (.pointer (some ⟨sb, 0, none⟩)) hHeld rfl ?_
  try simp only [Act.put, List.setIfInBounds_toArray, List.set_cons_zero, List.set_cons_succ]
  refine tkLx 1 9 (.pointer (some ⟨sb, 0, none⟩)) hHeld rfl ?_
  try simp only [Act.put, List.setIfInBounds_toArray, List.set_cons_zero, List.set_cons_succ]
  refine tkLx 2 10 (.pointer (some ⟨sb, 0, none⟩)) hHeld rfl ?_
  try simp only [Act.put, List.setIfInBounds_toArray, List.set_cons_zero, List.set_cons_succ]
  refine tkLx 3 11 (.pointer (some ⟨sb, 3, none⟩)) hHeld rfl ?_
  try simp only [Act.put, List.setIfInBounds_toArray, List.set_cons_zero, List.set_cons_succ]
  refine tkLx 5 13 (.int .i64 k) hHeld rfl ?_
  try simp only [Act.put, List.setIfInBounds_toArray, List.set_cons_zero, List.set_cons_succ]
  refine tkLx 6 14 (.pointer (some ⟨sb, 0, none⟩)) hHeld rfl ?_
  try simp only [Act.put, List.setIfInBounds_toArray, List.set_cons_zero, List.set_cons_succ]
  refine tkLx 7 15 (.pointer (some ⟨sb, 0, none⟩)) hHeld rfl ?_
  try simp only [Act.put, List.setIfInBounds_toArray, List.set_cons_zero, List.set_cons_succ]
  refine tkLx 8 16 (.pointer (some ⟨sb, 1, none⟩)) hHeld rfl ?_
  try simp only [Act.put, List.setIfInBounds_toArray, List.set_cons_zero, List.set_cons_succ]
  refine tkLx 9 17 (.int .i64 (fr : Int)) hHeld rfl ?_
  try simp only [Act.put, List.setIfInBounds_toArray, List.set_cons_zero, List.set_cons_succ]
  refine tkLx 10 18 (.string s) hHeld rfl ?_
  try simp only [Act.put, List.setIfInBounds_toArray, List.set_cons_zero, List.set_cons_succ]
  refine tkLx 12 20 (.int .i64 n) hHeld rfl ?_
  try simp only [Act.put, List.setIfInBounds_toArray, List.set_cons_zero, List.set_cons_succ]
  refine wpAnyH_ready (rs := [4, 11]) (by kernel_rfl) (by simp) ?_
  refine AllReadyH.cons (o := { dst := some 12, op := _, type := _, pos := _, after := _, guard := _ }) rfl (fun K hK => ?_) (AllReadyH.cons (o := { dst := some 19, op := _, type := _, pos := _, after := _, guard := _ }) rfl (fun K hK => ?_) AllReadyH.nil)
  · go_simp
    clear hHeld
    refine hK.out _ _ (⟨HB.out, HS.out.cells.2.1⟩) (fun hHeld => ?_)
    clear hK K
    try simp only [Act.put, List.setIfInBounds_toArray, List.set_cons_zero, List.set_cons_succ]
    refine wpAnyH_ready (rs := [11]) (by kernel_rfl) (by simp) ?_
    refine AllReadyH.cons (o := { dst := some 19, op := _, type := _, pos := _, after := _, guard := _ }) rfl (fun K hK => ?_) AllReadyH.nil
    go_simp
    go_at_call 107
    refine (clone_at _ _ hs).mono ?_
    rintro e w1 ⟨rfl, b1⟩
    replace HT : Hid (Toks (sb + 1) w1 (.slice va acc.length vc) acc) := HT.out.below b1
    replace HB : Hid (Below sb w w1) := HB.out.trans (b1.mono (Nat.le_of_lt HS.out.lt))
    replace HS : Hid (Scn w1 sb t fr at_ (.slice va acc.length vc)) := HS.out.below b1 HS.out.lt
    replace c3 : w1.cell? ⟨sb, 3, none⟩ = some (.slice va acc.length vc) := HS.out.cells.2.2.2
    clear b1
    clear hHeld
    refine hK.out _ _ (⟨HB.out, HS.out.cells.2.1⟩) (fun hHeld => ?_)
    clear hK K
    try simp only [Act.put, List.setIfInBounds_toArray, List.set_cons_zero, List.set_cons_succ]
    refine tkLx 13 21 (.agg #[.int .i64 k, .int .i64 (fr : Int), .string s, .int .i64 n]) hHeld rfl ?_
    try simp only [Act.put, List.setIfInBounds_toArray, List.set_cons_zero, List.set_cons_succ]
    refine wpAnyH_ready (rs := [14]) (by kernel_rfl) (by simp) ?_
    refine AllReadyH.cons (o := { dst := some 22, op := _, type := _, pos := _, after := _, guard := _ }) rfl (fun K hK => ?_) AllReadyH.nil
    go_simp
    have hl1 : sb < w1.heap.size := HS.out.lt
    have bA : Below w1.heap.size w1 (w1.alloc (.cells #[.int .i64 k, .int .i64 (fr : Int), .string s, .int .i64 n] 32)) := (Below.refl _ _).alloc (Nat.le_refl _) _
    replace HS : Hid (Scn (w1.alloc (.cells #[.int .i64 k, .int .i64 (fr : Int), .string s, .int .i64 n] 32)) sb t fr at_ (.slice va acc.length vc)) := HS.out.below bA hl1
    replace HT : Hid (Toks (sb + 1) (w1.alloc (.cells #[.int .i64 k, .int .i64 (fr : Int), .string s, .int .i64 n] 32)) (.slice va acc.length vc) acc) := HT.out.alloc _
    replace HB : Hid (Below sb w (w1.alloc (.cells #[.int .i64 k, .int .i64 (fr : Int), .string s, .int .i64 n] 32))) := HB.out.alloc (by omega) _
    have HN : Hid (∀ j u, (tok4 ⟨k, fr, s, n⟩)[j]? = some u → (w1.alloc (.cells #[.int .i64 k, .int .i64 (fr : Int), .string s, .int .i64 n] 32)).cell? ((⟨w1.heap.size, 0, none⟩ : Addr).add j) = some u) := cell_new4 rfl ⟨k, fr, s, n⟩ _
    replace c3 : (w1.alloc (.cells #[.int .i64 k, .int .i64 (fr : Int), .string s, .int .i64 n] 32)).cell? ⟨sb, 3, none⟩ = some (.slice va acc.length vc) := HS.out.cells.2.2.2
    have hz : sb + 1 ≤ (w1.alloc (.cells #[.int .i64 k, .int .i64 (fr : Int), .string s, .int .i64 n] 32)).heap.size := by simp; omega
    clear bA
    clear hHeld
    refine hK.out _ _ (⟨HB.out, HS.out.cells.2.1⟩) (fun hHeld => ?_)
    clear hK K
    try simp only [Act.put, List.setIfInBounds_toArray, List.set_cons_zero, List.set_cons_succ]
    generalize (w1.alloc (.cells #[.int .i64 k, .int .i64 (fr : Int), .string s, .int .i64 n] 32)) = w2 at *
    refine wpAnyH_ready (rs := [15]) (by kernel_rfl) (by simp) ?_
    refine AllReadyH.cons (o := { dst := some 23, op := _, type := _, pos := _, after := _, guard := _ }) rfl (fun K hK => ?_) AllReadyH.nil
    rw [if_pos (by kernel_rfl)]
    refine wp_append_own _ _ _ 22 rfl (sb + 1) 32 i0 (.agg #[.int .i64 0, .int .i64 0, .string ⟨#[]⟩, .int .i64 0]) 4 40 Tryd.underlying22 hi hz0 hz1 hz2 rfl (by decide) (.slice va acc.length vc) acc.length (tokCells acc) rfl HT.out ⟨w1.heap.size, 0, none⟩ 1 1 (tok4 ⟨k, fr, s, n⟩) rfl rfl HN.out (tokCells_one (X := [⟨k, fr, s, n⟩])) (by unfold maxLen; omega) (by omega) hz ?_
    intro v' w3 hown' hgrow hnil
    clear hnil
    obtain ⟨va', vc', rfl⟩ := own_form4 hown'
    have hne : some sb ≠ (.slice va acc.length vc : Value).ownBlock := fun e => by have := (World.ownsRow.lt HT.out sb e.symm).1; omega
    have hb3 : w3.heap[sb]? = w2.heap[sb]? := hgrow.block sb HS.out.lt hne
    have HS3 : Hid (Scn w3 sb t fr at_ (.slice va acc.length vc)) := ⟨Nat.lt_of_lt_of_le HS.out.lt hgrow.size, fun i => by rw [World.cell?_of_block (w := w2) (a := ⟨sb, i, none⟩) hb3]; exact HS.out.c i, fun i => by rw [World.frozen?_of_block (w := w2) (a := ⟨sb, i, none⟩) hb3]; exact HS.out.f i⟩
    have HT3 : Hid (Toks (sb + 1) w3 (.slice va' (acc.length + 1) vc') (acc ++ [⟨k, fr, s, n⟩])) := Toks.grow hown'
    have HB3 : Hid (Below sb w w3) := Below.grown HB.out hgrow (by omega) (fun j hj => by have := (World.ownsRow.lt HT.out j hj).1; omega)
    clear HS HT HB HN hown' hgrow hne hb3 hz c3
    have HS := HS3
    have HT := HT3
    have HB := HB3
    clear HS3 HT3 HB3
    clear hHeld
    refine hK.out _ _ (⟨HB.out, HS.out.cells.2.1⟩) (fun hHeld => ?_)
    clear hK K
    try simp only [Act.put, List.setIfInBounds_toArray, List.set_cons_zero, List.set_cons_succ]
    refine tkLx 16 24 (.pointer (some ⟨sb, 0, none⟩)) hHeld rfl ?_
    try simp only [Act.put, List.setIfInBounds_toArray, List.set_cons_zero, List.set_cons_succ]
    refine tkLx 17 25 (.pointer (some ⟨sb, 3, none⟩)) hHeld rfl ?_
    try simp only [Act.put, List.setIfInBounds_toArray, List.set_cons_zero, List.set_cons_succ]
    refine wpAnyH_ready (rs := [18]) (by kernel_rfl) (by simp) ?_
    refine AllReadyH.cons (o := { dst := none, op := _, type := _, pos := _, after := _, guard := _ }) rfl (fun K hK => ?_) AllReadyH.nil
    have hl3 := HS.out.lt
    have c3 := HS.out.cells.2.2.2
    have f3 := HS.out.f 3
    go_simp
    clear hHeld
    refine hK.out _ _ (⟨HB.out.setCell (Nat.le_refl _) _, (HS.out.setToks (.slice va' (acc.length + 1) vc')).cells.2.1⟩) (fun hHeld => ?_)
    clear hK K
    try simp only [Act.put, List.setIfInBounds_toArray, List.set_cons_zero, List.set_cons_succ]
    refine wpAnyH_done (by kernel_rfl) ?_ _
    go_wp2
    go_end0
    exact ⟨rfl, _, HS.out.setToks _, HT.out.grown (grown_set _ _ _ _) (Nat.lt_succ_self _), HB.out.setCell (Nat.le_refl _) _⟩
  · go_simp
    go_at_call 107
    refine (clone_at _ _ hs).mono ?_
    rintro e w1 ⟨rfl, b1⟩
    replace HT : Hid (Toks (sb + 1) w1 (.slice va acc.length vc) acc) := HT.out.below b1
    replace HB : Hid (Below sb w w1) := HB.out.trans (b1.mono (Nat.le_of_lt HS.out.lt))
    replace HS : Hid (Scn w1 sb t fr at_ (.slice va acc.length vc)) := HS.out.below b1 HS.out.lt
    replace c3 : w1.cell? ⟨sb, 3, none⟩ = some (.slice va acc.length vc) := HS.out.cells.2.2.2
    clear b1
    clear hHeld
    refine hK.out _ _ (⟨HB.out, HS.out.cells.2.1⟩) (fun hHeld => ?_)
    clear hK K
    try simp only [Act.put, List.setIfInBounds_toArray, List.set_cons_zero, List.set_cons_succ]
    refine tkLx 13 21 (.agg #[.int .i64 k, .int .i64 (fr : Int), .string s, .int .i64 n]) hHeld rfl ?_
    try simp only [Act.put, List.setIfInBounds_toArray, List.set_cons_zero, List.set_cons_succ]
    refine wpAnyH_ready (rs := [4, 14]) (by kernel_rfl) (by simp) ?_
    refine AllReadyH.cons (o := { dst := some 12, op := _, type := _, pos := _, after := _, guard := _ }) rfl (fun K hK => ?_) (AllReadyH.cons (o := { dst := some 22, op := _, type := _, pos := _, after := _, guard := _ }) rfl (fun K hK => ?_) AllReadyH.nil)
    · go_simp
      clear hHeld
      refine hK.out _ _ (⟨HB.out, HS.out.cells.2.1⟩) (fun hHeld => ?_)
      clear hK K
      try simp only [Act.put, List.setIfInBounds_toArray, List.set_cons_zero, List.set_cons_succ]
      refine wpAnyH_ready (rs := [14]) (by kernel_rfl) (by simp) ?_
      refine AllReadyH.cons (o := { dst := some 22, op := _, type := _, pos := _, after := _, guard := _ }) rfl (fun K hK => ?_) AllReadyH.nil
      go_simp
      have hl1 : sb < w1.heap.size := HS.out.lt
      have bA : Below w1.heap.size w1 (w1.alloc (.cells #[.int .i64 k, .int .i64 (fr : Int), .string s, .int .i64 n] 32)) := (Below.refl _ _).alloc (Nat.le_refl _) _
      replace HS : Hid (Scn (w1.alloc (.cells #[.int .i64 k, .int .i64 (fr : Int), .string s, .int .i64 n] 32)) sb t fr at_ (.slice va acc.length vc)) := HS.out.below bA hl1
      replace HT : Hid (Toks (sb + 1) (w1.alloc (.cells #[.int .i64 k, .int .i64 (fr : Int), .string s, .int .i64 n] 32)) (.slice va acc.length vc) acc) := HT.out.alloc _
      replace HB : Hid (Below sb w (w1.alloc (.cells #[.int .i64 k, .int .i64 (fr : Int), .string s, .int .i64 n] 32))) := HB.out.alloc (by omega) _
      have HN : Hid (∀ j u, (tok4 ⟨k, fr, s, n⟩)[j]? = some u → (w1.alloc (.cells #[.int .i64 k, .int .i64 (fr : Int), .string s, .int .i64 n] 32)).cell? ((⟨w1.heap.size, 0, none⟩ : Addr).add j) = some u) := cell_new4 rfl ⟨k, fr, s, n⟩ _
      replace c3 : (w1.alloc (.cells #[.int .i64 k, .int .i64 (fr : Int), .string s, .int .i64 n] 32)).cell? ⟨sb, 3, none⟩ = some (.slice va acc.length vc) := HS.out.cells.2.2.2
      have hz : sb + 1 ≤ (w1.alloc (.cells #[.int .i64 k, .int .i64 (fr : Int), .string s, .int .i64 n] 32)).heap.size := by simp; omega
      clear bA
      clear hHeld
      refine hK.out _ _ (⟨HB.out, HS.out.cells.2.1⟩) (fun hHeld => ?_)
      clear hK K
      try simp only [Act.put, List.setIfInBounds_toArray, List.set_cons_zero, List.set_cons_succ]
      generalize (w1.alloc (.cells #[.int .i64 k, .int .i64 (fr : Int), .string s, .int .i64 n] 32)) = w2 at *
      refine wpAnyH_ready (rs := [15]) (by kernel_rfl) (by simp) ?_
      refine AllReadyH.cons (o := { dst := some 23, op := _, type := _, pos := _, after := _, guard := _ }) rfl (fun K hK => ?_) AllReadyH.nil
      rw [if_pos (by kernel_rfl)]
      refine wp_append_own _ _ _ 22 rfl (sb + 1) 32 i0 (.agg #[.int .i64 0, .int .i64 0, .string ⟨#[]⟩, .int .i64 0]) 4 40 Tryd.underlying22 hi hz0 hz1 hz2 rfl (by decide) (.slice va acc.length vc) acc.length (tokCells acc) rfl HT.out ⟨w1.heap.size, 0, none⟩ 1 1 (tok4 ⟨k, fr, s, n⟩) rfl rfl HN.out (tokCells_one (X := [⟨k, fr, s, n⟩])) (by unfold maxLen; omega) (by omega) hz ?_
      intro v' w3 hown' hgrow hnil
      clear hnil
      obtain ⟨va', vc', rfl⟩ := own_form4 hown'
      have hne : some sb ≠ (.slice va acc.length vc : Value).ownBlock := fun e => by have := (World.ownsRow.lt HT.out sb e.symm).1; omega
      have hb3 : w3.heap[sb]? = w2.heap[sb]? := hgrow.block sb HS.out.lt hne
      have HS3 : Hid (Scn w3 sb t fr at_ (.slice va acc.length vc)) := ⟨Nat.lt_of_lt_of_le HS.out.lt hgrow.size, fun i => by rw [World.cell?_of_block (w := w2) (a := ⟨sb, i, none⟩) hb3]; exact HS.out.c i, fun i => by rw [World.frozen?_of_block (w := w2) (a := ⟨sb, i, none⟩) hb3]; exact HS.out.f i⟩
      have HT3 : Hid (Toks (sb + 1) w3 (.slice va' (acc.length + 1) vc') (acc ++ [⟨k, fr, s, n⟩])) := Toks.grow hown'
      have HB3 : Hid (Below sb w w3) := Below.grown HB.out hgrow (by omega) (fun j hj => by have := (World.ownsRow.lt HT.out j hj).1; omega)
      clear HS HT HB HN hown' hgrow hne hb3 hz c3
      have HS := HS3
      have HT := HT3
      have HB := HB3
      clear HS3 HT3 HB3
      clear hHeld
      refine hK.out _ _ (⟨HB.out, HS.out.cells.2.1⟩) (fun hHeld => ?_)
      clear hK K
      try simp only [Act.put, List.setIfInBounds_toArray, List.set_cons_zero, List.set_cons_succ]
      refine tkLx 16 24 (.pointer (some ⟨sb, 0, none⟩)) hHeld rfl ?_
      try simp only [Act.put, List.setIfInBounds_toArray, List.set_cons_zero, List.set_cons_succ]
      refine tkLx 17 25 (.pointer (some ⟨sb, 3, none⟩)) hHeld rfl ?_
      try simp only [Act.put, List.setIfInBounds_toArray, List.set_cons_zero, List.set_cons_succ]
      refine wpAnyH_ready (rs := [18]) (by kernel_rfl) (by simp) ?_
      refine AllReadyH.cons (o := { dst := none, op := _, type := _, pos := _, after := _, guard := _ }) rfl (fun K hK => ?_) AllReadyH.nil
      have hl3 := HS.out.lt
      have c3 := HS.out.cells.2.2.2
      have f3 := HS.out.f 3
      go_simp
      clear hHeld
      refine hK.out _ _ (⟨HB.out.setCell (Nat.le_refl _) _, (HS.out.setToks (.slice va' (acc.length + 1) vc')).cells.2.1⟩) (fun hHeld => ?_)
      clear hK K
      try simp only [Act.put, List.setIfInBounds_toArray, List.set_cons_zero, List.set_cons_succ]
      refine wpAnyH_done (by kernel_rfl) ?_ _
      go_wp2
      go_end0
      exact ⟨rfl, _, HS.out.setToks _, HT.out.grown (grown_set _ _ _ _) (Nat.lt_succ_self _), HB.out.setCell (Nat.le_refl _) _⟩
    · go_simp
      have hl1 : sb < w1.heap.size := HS.out.lt
      have bA : Below w1.heap.size w1 (w1.alloc (.cells #[.int .i64 k, .int .i64 (fr : Int), .string s, .int .i64 n] 32)) := (Below.refl _ _).alloc (Nat.le_refl _) _
      replace HS : Hid (Scn (w1.alloc (.cells #[.int .i64 k, .int .i64 (fr : Int), .string s, .int .i64 n] 32)) sb t fr at_ (.slice va acc.length vc)) := HS.out.below bA hl1
      replace HT : Hid (Toks (sb + 1) (w1.alloc (.cells #[.int .i64 k, .int .i64 (fr : Int), .string s, .int .i64 n] 32)) (.slice va acc.length vc) acc) := HT.out.alloc _
      replace HB : Hid (Below sb w (w1.alloc (.cells #[.int .i64 k, .int .i64 (fr : Int), .string s, .int .i64 n] 32))) := HB.out.alloc (by omega) _
      have HN : Hid (∀ j u, (tok4 ⟨k, fr, s, n⟩)[j]? = some u → (w1.alloc (.cells #[.int .i64 k, .int .i64 (fr : Int), .string s, .int .i64 n] 32)).cell? ((⟨w1.heap.size, 0, none⟩ : Addr).add j) = some u) := cell_new4 rfl ⟨k, fr, s, n⟩ _
      replace c3 : (w1.alloc (.cells #[.int .i64 k, .int .i64 (fr : Int), .string s, .int .i64 n] 32)).cell? ⟨sb, 3, none⟩ = some (.slice va acc.length vc) := HS.out.cells.2.2.2
      have hz : sb + 1 ≤ (w1.alloc (.cells #[.int .i64 k, .int .i64 (fr : Int), .string s, .int .i64 n] 32)).heap.size := by simp; omega
      clear bA
      clear hHeld
      refine hK.out _ _ (⟨HB.out, HS.out.cells.2.1⟩) (fun hHeld => ?_)
      clear hK K
      try simp only [Act.put, List.setIfInBounds_toArray, List.set_cons_zero, List.set_cons_succ]
      generalize (w1.alloc (.cells #[.int .i64 k, .int .i64 (fr : Int), .string s, .int .i64 n] 32)) = w2 at *
      refine wpAnyH_ready (rs := [4]) (by kernel_rfl) (by simp) ?_
      refine AllReadyH.cons (o := { dst := some 12, op := _, type := _, pos := _, after := _, guard := _ }) rfl (fun K hK => ?_) AllReadyH.nil
      go_simp
      clear hHeld
      refine hK.out _ _ (⟨HB.out, HS.out.cells.2.1⟩) (fun hHeld => ?_)
      clear hK K
      try simp only [Act.put, List.setIfInBounds_toArray, List.set_cons_zero, List.set_cons_succ]
      refine wpAnyH_ready (rs := [15]) (by kernel_rfl) (by simp) ?_
      refine AllReadyH.cons (o := { dst := some 23, op := _, type := _, pos := _, after := _, guard := _ }) rfl (fun K hK => ?_) AllReadyH.nil
      rw [if_pos (by kernel_rfl)]
      refine wp_append_own _ _ _ 22 rfl (sb + 1) 32 i0 (.agg #[.int .i64 0, .int .i64 0, .string ⟨#[]⟩, .int .i64 0]) 4 40 Tryd.underlying22 hi hz0 hz1 hz2 rfl (by decide) (.slice va acc.length vc) acc.length (tokCells acc) rfl HT.out ⟨w1.heap.size, 0, none⟩ 1 1 (tok4 ⟨k, fr, s, n⟩) rfl rfl HN.out (tokCells_one (X := [⟨k, fr, s, n⟩])) (by unfold maxLen; omega) (by omega) hz ?_
      intro v' w3 hown' hgrow hnil
      clear hnil
      obtain ⟨va', vc', rfl⟩ := own_form4 hown'
      have hne : some sb ≠ (.slice va acc.length vc : Value).ownBlock := fun e => by have := (World.ownsRow.lt HT.out sb e.symm).1; omega
      have hb3 : w3.heap[sb]? = w2.heap[sb]? := hgrow.block sb HS.out.lt hne
      have HS3 : Hid (Scn w3 sb t fr at_ (.slice va acc.length vc)) := ⟨Nat.lt_of_lt_of_le HS.out.lt hgrow.size, fun i => by rw [World.cell?_of_block (w := w2) (a := ⟨sb, i, none⟩) hb3]; exact HS.out.c i, fun i => by rw [World.frozen?_of_block (w := w2) (a := ⟨sb, i, none⟩) hb3]; exact HS.out.f i⟩
      have HT3 : Hid (Toks (sb + 1) w3 (.slice va' (acc.length + 1) vc') (acc ++ [⟨k, fr, s, n⟩])) := Toks.grow hown'
      have HB3 : Hid (Below sb w w3) := Below.grown HB.out hgrow (by omega) (fun j hj => by have := (World.ownsRow.lt HT.out j hj).1; omega)
      clear HS HT HB HN hown' hgrow hne hb3 hz c3
      have HS := HS3
      have HT := HT3
      have HB := HB3
      clear HS3 HT3 HB3
      clear hHeld
      refine hK.out _ _ (⟨HB.out, HS.out.cells.2.1⟩) (fun hHeld => ?_)
      clear hK K
      try simp only [Act.put, List.setIfInBounds_toArray, List.set_cons_zero, List.set_cons_succ]
      refine tkLx 16 24 (.pointer (some ⟨sb, 0, none⟩)) hHeld rfl ?_
      try simp only [Act.put, List.setIfInBounds_toArray, List.set_cons_zero, List.set_cons_succ]
      refine tkLx 17 25 (.pointer (some ⟨sb, 3, none⟩)) hHeld rfl ?_
      try simp only [Act.put, List.setIfInBounds_toArray, List.set_cons_zero, List.set_cons_succ]
      refine wpAnyH_ready (rs := [18]) (by kernel_rfl) (by simp) ?_
      refine AllReadyH.cons (o := { dst := none, op := _, type := _, pos := _, after := _, guard := _ }) rfl (fun K hK => ?_) AllReadyH.nil
      have hl3 := HS.out.lt
      have c3 := HS.out.cells.2.2.2
      have f3 := HS.out.f 3
      go_simp
      clear hHeld
      refine hK.out _ _ (⟨HB.out.setCell (Nat.le_refl _) _, (HS.out.setToks (.slice va' (acc.length + 1) vc')).cells.2.1⟩) (fun hHeld => ?_)
      clear hK K
      try simp only [Act.put, List.setIfInBounds_toArray, List.set_cons_zero, List.set_cons_succ]
      refine wpAnyH_done (by kernel_rfl) ?_ _
      go_wp2
      go_end0
      exact ⟨rfl, _, HS.out.setToks _, HT.out.grown (grown_set _ _ _ _) (Nat.lt_succ_self _), HB.out.setCell (Nat.le_refl _) _⟩
end Go.Proofs.YtiglkhkfbgjjoaaDoor
