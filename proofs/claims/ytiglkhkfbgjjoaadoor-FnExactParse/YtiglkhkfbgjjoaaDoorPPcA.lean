/- The reader of trees: no node has more Kids than there are tokens, and two. No Go here. -/
import Derived.Test.YtiglkhkfbgjjoaaDoorPPaQ
namespace Go.Proofs.YtiglkhkfbgjjoaaDoor
set_option maxRecDepth 20000
open Go.RowKit Go.PlainAid
set_option linter.unusedSimpArgs false
set_option linter.unusedVariables false

def KbN (M : Nat) (x : KnL) : Prop := x.ks.length ≤ M ∧ (x.k = 8 → x.ks.length = 2)
def KbS (M : Nat) (s : PS) : Prop := ∀ x ∈ s.ns, KbN M x
theorem KbS.add {M : Nat} {s : PS} (h : KbS M s) (k : Int) (t : ByteArray) (i : Int) (ks : List Int) (h1 : ks.length ≤ M) (h2 : k = 8 → ks.length = 2 := by simp) : KbS M (addP k t i ks s).2 := fun x hx => by
  simp only [addP, List.mem_append, List.mem_singleton] at hx
  rcases hx with hx | rfl
  · exact h x hx
  · exact ⟨h1, h2⟩
theorem KbS.take {M i d n : Nat} {s : PS} (h : KbS M s) : KbS M ⟨i, d, s.ns.take n⟩ := fun x hx => h x (List.mem_of_mem_take hx)
theorem fin_ok {M : Nat} {s1 : PS} {k : Int} {t : ByteArray} {i : Int} {ks : List Int} {v : Int} {s' : PS} (h : (Except.ok (addP k t i ks s1) : Except (Int × Int) (Int × PS)) = .ok (v, s')) (hs : KbS M s1) (h1 : ks.length ≤ M) (h2 : k = 8 → ks.length = 2 := by simp) : KbS M s' := by
  injection h with h
  rw [Prod.ext_iff] at h
  obtain ⟨rfl, rfl⟩ := h
  exact hs.add _ _ _ _ h1 h2
section
variable (ts : List TokD) (en : Nat)
theorem KbS.want {M : Nat} {b : ByteArray} {s s' : PS} (h : KbS M s) (hw : wantP ts en b s = .ok s') : KbS M s' := by
  obtain ⟨rfl, _⟩ := want_ok ts en hw
  exact h
theorem KbS.name {M : Nat} {nm : ByteArray} {s s' : PS} (h : KbS M s) (hw : nameP ts en s = .ok (nm, s')) : KbS M s' := by
  obtain ⟨rfl, _⟩ := name_ok ts en hw
  exact h
structure KbR (r : Rd) : Prop where
  wh : ∀ {s v s'}, r.wh s = .ok (v, s') → KbS (ts.length + 2) s → KbS (ts.length + 2) s'
  lv : ∀ {n s v s'}, r.lv n s = .ok (v, s') → KbS (ts.length + 2) s → KbS (ts.length + 2) s'
  tn : ∀ {s v s'}, r.tn s = .ok (v, s') → KbS (ts.length + 2) s → KbS (ts.length + 2) s'
  bl : ∀ {s v s'}, r.bl s = .ok (v, s') → KbS (ts.length + 2) s → KbS (ts.length + 2) s'
  st : ∀ {s v s'}, r.st s = .ok (v, s') → KbS (ts.length + 2) s → KbS (ts.length + 2) s'
theorem paP_kb {s s' : PS} {v : Int} (h : paP ts en s = .ok (v, s')) (hs : KbS (ts.length + 2) s) : KbS (ts.length + 2) s' := by
  unfold paP at h
  split at h
  · cases h
  · rename_i nm s1 h1
    exact fin_ok h (hs.name ts en h1) (by simp)
theorem lsL_kb {rd : PS → Except (Int × Int) (Int × PS)} (hk : ∀ {s v s'}, rd s = .ok (v, s') → KbS (ts.length + 2) s → KbS (ts.length + 2) s') (ha : ∀ {s v s'}, rd s = .ok (v, s') → s.i < s'.i ∧ s'.i ≤ ts.length) (e : ByteArray) : ∀ (n : Nat) {ks ks' : List Int} {s s' : PS}, lsL ts en rd e n ks s = .ok (ks', s') → KbS (ts.length + 2) s → KbS (ts.length + 2) s' ∧ ks'.length + s.i ≤ ks.length + s'.i ∧ s'.i ≤ ts.length
  | 0, ks, ks', s, s', h, _ => by cases h
  | n + 1, ks, ks', s, s', h, hs => by
    unfold lsL at h
    split at h
    · cases h
    · rename_i v s1 h1
      have k1 := hk h1 hs
      have a1 := ha h1
      split at h
      · rename_i he
        have hl := isN_lt ts he
        injection h with h
        simp only [Prod.mk.injEq] at h
        obtain ⟨rfl, rfl⟩ := h
        exact ⟨k1, by simp only [List.length_append, List.length_singleton, adv]; omega, by simp only [adv]; omega⟩
      · split at h
        · cases h
        · rename_i s2 h2
          obtain ⟨e2, _⟩ := want_ok ts en h2
          have := lsL_kb hk ha e n h (k1.want ts en h2)
          subst e2
          simp only [List.length_append, List.length_singleton, adv] at this
          exact ⟨this.1, by omega, by omega⟩
theorem lsP_kb {rd : PS → Except (Int × Int) (Int × PS)} (hk : ∀ {s v s'}, rd s = .ok (v, s') → KbS (ts.length + 2) s → KbS (ts.length + 2) s') (ha : ∀ {s v s'}, rd s = .ok (v, s') → s.i < s'.i ∧ s'.i ≤ ts.length) {e : ByteArray} {n : Nat} {ks : List Int} {s s' : PS} (h : lsP ts en rd e n s = .ok (ks, s')) (hs : KbS (ts.length + 2) s) : KbS (ts.length + 2) s' ∧ ks.length ≤ ts.length := by
  unfold lsP at h
  split at h
  · injection h with h
    simp only [Prod.mk.injEq] at h
    obtain ⟨rfl, rfl⟩ := h
    exact ⟨hs, by simp⟩
  · have := lsL_kb ts en hk ha e n h hs
    simp only [List.length_nil] at this
    exact ⟨this.1, by omega⟩
theorem pairP_kb {r : Rd} (hr : KbR ts r) {k : Int} {s s' : PS} {v : Int} (h : pairP ts en r k s = .ok (v, s')) (hs : KbS (ts.length + 2) s) : KbS (ts.length + 2) s' := by
  unfold pairP at h
  split at h
  · cases h
  · rename_i s1 h1
    split at h
    · cases h
    · rename_i e s2 h2
      exact fin_ok h (hr.wh h2 (hs.want ts en h1)) (by simp)
theorem fdP_kb {r : Rd} (hr : KbR ts r) {s s' : PS} {v : Int} (h : fdP ts en r s = .ok (v, s')) (hs : KbS (ts.length + 2) s) : KbS (ts.length + 2) s' := by
  unfold fdP at h
  split at h
  · split at h
    · cases h
    · rename_i k s1 h1
      split at h
      · cases h
      · rename_i s2 h2
        exact pairP_kb ts en hr h ((hr.wh h1 hs).want ts en h2)
  · split at h
    · split at h
      · cases h
      · rename_i nm s1 h1
        exact pairP_kb ts en hr h ((hs.name ts en h1).add 4 nm 0 [] (by simp))
    · split at h
      · cases h
      · rename_i e s1 h1
        exact fin_ok h (hr.wh h1 hs) (by simp)
theorem bhP_kb {r : Rd} (hr : KbR ts r) (ho : RdOk ts r) : ∀ (n : Nat) {a : Int} {s s' : PS} {v : Int}, KbS (ts.length + 2) s → bhP ts en r n a s = .ok (v, s') → KbS (ts.length + 2) s'
  | 0, a, s, s', v, _, h => by cases h
  | n + 1, a, s, s', v, h0, h => by
    unfold bhP at h
    split at h
    · split at h
      · cases h
      · rename_i ks s1 h1
        have := lsP_kb ts en hr.wh (fun h => ⟨(ho.wh h).1.1, (ho.wh h).1.2.1⟩) h1 h0
        exact bhP_kb hr ho n (this.1.add 9 eT 0 (a :: ks) (by simp only [List.length_cons]; omega)) h
    · split at h
      · split at h
        · cases h
        · rename_i k s1 h1
          split at h
          · cases h
          · rename_i s2 h2
            exact bhP_kb hr ho n (((hr.wh h1 h0).want ts en h2).add 8 eT 0 [a, k] (by simp)) h
      · split at h
        · split at h
          · cases h
          · rename_i nm s1 h1
            have k1 : KbS (ts.length + 2) s1 := KbS.name (s := adv s) ts en h0 h1
            exact bhP_kb hr ho n ((k1.add 4 nm 0 [] (by simp)).add 8 eT 0 _ (by simp)) h
        · injection h with h
          simp only [Prod.mk.injEq] at h
          obtain ⟨rfl, rfl⟩ := h
          exact h0
theorem opdP_kb {r : Rd} (hr : KbR ts r) (ho : RdOk ts r) {s s' : PS} {v : Int} (h : opdP ts en r s = .ok (v, s')) (hs : KbS (ts.length + 2) s) : KbS (ts.length + 2) s' := by
  have ha : KbS (ts.length + 2) (adv s) := hs
  unfold opdP at h
  split at h
  · cases h
  split at h
  · exact fin_ok h ha (by simp)
  split at h
  · exact fin_ok h ha (by simp)
  split at h
  · exact fin_ok h ha (by simp)
  split at h
  · exact fin_ok h ha (by simp)
  split at h
  · exact fin_ok h ha (by simp)
  split at h
  · exact fin_ok h ha (by simp)
  split at h
  · split at h
    · cases h
    rename_i s1 h1
    split at h
    · cases h
    rename_i ks s2 h2
    split at h
    · cases h
    rename_i b s3 h3
    have := lsP_kb ts en (paP_kb ts en) (fun h => ⟨(paP_ok ts en h).1.1, (paP_ok ts en h).1.2.1⟩) h2 (ha.want ts en h1)
    exact fin_ok h (hr.bl h3 this.1) (by simp only [List.length_append, List.length_singleton]; omega)
  split at h
  · split at h
    · cases h
    rename_i ks s1 h1
    have := lsP_kb ts en (fdP_kb ts en hr) (fun h => ⟨(fdP_ok ts en ho h).1.1, (fdP_ok ts en ho h).1.2.1⟩) h1 ha
    exact fin_ok h this.1 (by omega)
  split at h
  · split at h
    · cases h
    rename_i w s1 h1
    split at h
    · cases h
    rename_i s2 h2
    injection h with h
    simp only [Prod.mk.injEq] at h
    obtain ⟨rfl, rfl⟩ := h
    exact (hr.wh h1 ha).want ts en h2
  · cases h
theorem tnP_kb {r : Rd} (hr : KbR ts r) (ho : RdOk ts r) {s s' : PS} {v : Int} (h : tnP ts en r s = .ok (v, s')) (hs : KbS (ts.length + 2) s) : KbS (ts.length + 2) s' := by
  unfold tnP at h
  split at h
  · split at h
    · cases h
    rename_i a s1 h1
    exact bhP_kb ts en hr ho _ (opdP_kb ts en hr ho h1 hs) h
  · split at h
    · cases h
    rename_i s1 h1
    obtain ⟨e1, _⟩ := open_ok ts en h1
    split at h
    · cases h
    rename_i e s2 h2
    have k1 : KbS (ts.length + 2) s1 := by rw [e1]; exact hs
    have k2 : KbS (ts.length + 2) s2 := hr.tn h2 k1
    injection h with h
    simp only [Prod.mk.injEq] at h
    rw [← h.2]
    exact k2.add 11 eT _ [e] (by simp)
theorem mlp_kb {r : Rd} (hr : KbR ts r) {level : Nat} : ∀ (n : Nat) {a : Int} {s s' : PS} {v : Int}, KbS (ts.length + 2) s → mlp ts r level n a s = .ok (v, s') → KbS (ts.length + 2) s'
  | 0, a, s, s', v, _, h => by cases h
  | n + 1, a, s, s', v, h0, h => by
    have hop : (opAt ts s).2.1 = 8 → [a, a].length = 2 := fun _ => rfl
    unfold mlp at h
    split at h
    · split at h
      · cases h
      · rename_i b s1 h1
        have k1 : KbS (ts.length + 2) s1 := hr.lv h1 h0
        split at h
        · exact fin_ok h k1 (by simp) (fun _ => rfl)
        · exact mlp_kb hr n (k1.add _ _ _ [a, b] (by simp) (fun _ => rfl)) h
    · injection h with h
      simp only [Prod.mk.injEq] at h
      obtain ⟨rfl, rfl⟩ := h
      exact h0
theorem casP_kb {r : Rd} (hr : KbR ts r) (lv : Nat) : ∀ (m : Nat) {a : Int} {s s' : PS} {v : Int}, KbS (ts.length + 2) s → casP ts r lv m a s = .ok (v, s') → KbS (ts.length + 2) s'
  | 0, a, s, s', v, h0, h => by
    injection h with h
    simp only [Prod.mk.injEq] at h
    obtain ⟨rfl, rfl⟩ := h
    exact h0
  | m + 1, a, s, s', v, h0, h => by
    unfold casP at h
    split at h
    · injection h with h
      simp only [Prod.mk.injEq] at h
      obtain ⟨rfl, rfl⟩ := h
      exact h0
    · split at h
      · cases h
      · rename_i b s1 h1
        exact casP_kb hr lv m (mlp_kb ts hr _ h0 h1) h
theorem lvP_kb {r : Rd} (hr : KbR ts r) (ho : RdOk ts r) {n : Nat} {s s' : PS} {v : Int} (h : lvP ts en r n s = .ok (v, s')) (hs : KbS (ts.length + 2) s) : KbS (ts.length + 2) s' := by
  unfold lvP at h
  split at h
  · cases h
  · rename_i a s1 h1
    exact casP_kb ts hr n _ (tnP_kb ts en hr ho h1 hs) h
theorem whP_kb {r : Rd} (hr : KbR ts r) (ho : RdOk ts r) {s s' : PS} {v : Int} (h : whP ts en r s = .ok (v, s')) (hs : KbS (ts.length + 2) s) : KbS (ts.length + 2) s' := by
  unfold whP at h
  split at h
  · cases h
  rename_i s1 h1
  obtain ⟨e1, _⟩ := open_ok ts en h1
  split at h
  · cases h
  rename_i a s2 h2
  have k1 : KbS (ts.length + 2) s1 := by rw [e1]; exact hs
  have k2 := lvP_kb ts en hr ho h2 k1
  injection h with h
  simp only [Prod.mk.injEq] at h
  rw [← h.2]
  exact k2
theorem bsP_kb {r : Rd} (hr : KbR ts r) (ho : RdOk ts r) : ∀ (n : Nat) {ks ks' : List Int} {s s' : PS}, bsP ts r n ks s = .ok (ks', s') → KbS (ts.length + 2) s → s.i ≤ ts.length → KbS (ts.length + 2) s' ∧ ks'.length + s.i ≤ ks.length + s'.i ∧ s'.i ≤ ts.length
  | 0, ks, ks', s, s', h, _, _ => by cases h
  | n + 1, ks, ks', s, s', h, hs, hi => by
    unfold bsP at h
    split at h
    · rename_i he
      have hl := isN_lt ts he
      injection h with h
      simp only [Prod.mk.injEq] at h
      obtain ⟨rfl, rfl⟩ := h
      exact ⟨hs, by simp only [adv]; omega, by simp only [adv]; omega⟩
    · split at h
      · cases h
      · rename_i v s1 h1
        have a1 := (ho.st h1).1
        have h3 := a1.1
        have h4 := a1.2.1
        have := bsP_kb hr ho n h (hr.st h1 hs) h4
        simp only [List.length_append, List.length_singleton] at this
        exact ⟨this.1, by omega, by omega⟩
theorem blP_kb {r : Rd} (hr : KbR ts r) (ho : RdOk ts r) {s s' : PS} {v : Int} (h : blP ts en r s = .ok (v, s')) (hs : KbS (ts.length + 2) s) : KbS (ts.length + 2) s' := by
  unfold blP at h
  split at h
  · cases h
  rename_i s1 h1
  obtain ⟨e1, _⟩ := open_ok ts en h1
  split at h
  · cases h
  rename_i s2 h2
  obtain ⟨e2, hb⟩ := want_ok ts en h2
  have hl := isN_lt ts hb
  split at h
  · cases h
  rename_i ks s3 h3
  have k2 : KbS (ts.length + 2) s2 := by rw [e2, e1]; exact hs
  have := bsP_kb ts hr ho _ h3 k2 (by rw [e2]; simp only [adv]; omega)
  simp only [List.length_nil] at this
  exact fin_ok h this.1 (by omega)
theorem laP_kb {r : Rd} (hr : KbR ts r) {s s' : PS} {v : Int} (h : laP ts en r s = .ok (v, s')) (hs : KbS (ts.length + 2) s) : KbS (ts.length + 2) s' := by
  unfold laP at h
  split at h
  · cases h
  rename_i e s1 h1
  split at h
  · cases h
  rename_i s2 h2
  injection h with h
  simp only [Prod.mk.injEq] at h
  obtain ⟨rfl, rfl⟩ := h
  exact (hr.wh h1 hs).want ts en h2
theorem actP_kb {r : Rd} (hr : KbR ts r) (ho : RdOk ts r) {s s' : PS} {v : Int} (h : actP ts en r s = .ok (v, s')) (hs : KbS (ts.length + 2) s) : KbS (ts.length + 2) s' := by
  unfold actP at h
  split at h
  · cases h
  rename_i e s1 h1
  have k1 := whP_kb ts en hr ho h1 hs
  split at h
  · cases h
  rename_i x hx
  have kx := k1 x (List.mem_of_getElem? hx)
  split at h
  · exact fin_ok (s1 := adv s1) h k1 (by simp)
  split at h
  · split at h
    · cases h
    rename_i w s2 h2
    exact fin_ok h (laP_kb ts en hr h2 k1.take) (by simp)
  split at h
  · rename_i hc
    split at h
    · cases h
    rename_i w s2 h2
    have hl := kx.2 hc.1
    have hlt := isN_lt ts hc.2
    exact fin_ok h (laP_kb ts en hr h2 k1.take) (by simp only [List.length_append, List.length_singleton]; omega)
  · cases h
theorem stP_kb {r : Rd} (hr : KbR ts r) (ho : RdOk ts r) {s s' : PS} {v : Int} (h : stP ts en r s = .ok (v, s')) (hs : KbS (ts.length + 2) s) : KbS (ts.length + 2) s' := by
  have ha : KbS (ts.length + 2) (adv s) := hs
  unfold stP at h
  split at h
  · split at h
    · cases h
    rename_i nm s1 h1
    split at h
    · cases h
    rename_i s2 h2
    split at h
    · cases h
    rename_i e s3 h3
    exact fin_ok h (laP_kb ts en hr h3 ((ha.name ts en h1).want ts en h2)) (by simp)
  split at h
  · rename_i hb
    have hlt := isN_lt ts hb
    split at h
    · cases h
    rename_i e s1 h1
    split at h
    · cases h
    rename_i b s2 h2
    have k2 := hr.bl h2 (hr.wh h1 ha)
    split at h
    · split at h
      · cases h
      rename_i c s3 h3
      exact fin_ok h (hr.bl h3 k2) (by simp only [List.length_cons, List.length_nil]; omega)
    · exact fin_ok h k2 (by simp)
  split at h
  · split at h
    · cases h
    rename_i e s1 h1
    split at h
    · cases h
    rename_i b s2 h2
    exact fin_ok h (hr.bl h2 (hr.wh h1 ha)) (by simp)
  split at h
  · split at h
    · cases h
    rename_i e s1 h1
    exact fin_ok h (laP_kb ts en hr h1 ha) (by simp)
  exact actP_kb ts en hr ho h hs
theorem rds_kb : ∀ n, KbR ts (rds ts en n)
  | 0 => ⟨fun h => (by cases h), fun h => (by cases h), fun h => (by cases h), fun h => (by cases h), fun h => (by cases h)⟩
  | n + 1 => ⟨whP_kb ts en (rds_kb n) (rds_ok ts en n), lvP_kb ts en (rds_kb n) (rds_ok ts en n), tnP_kb ts en (rds_kb n) (rds_ok ts en n), blP_kb ts en (rds_kb n) (rds_ok ts en n), stP_kb ts en (rds_kb n) (rds_ok ts en n)⟩
theorem tpP_kb {r : Rd} (hr : KbR ts r) (ho : RdOk ts r) : ∀ (n : Nat) {ks ks' : List Int} {s s' : PS}, tpP ts r n ks s = .ok (ks', s') → KbS (ts.length + 2) s → s.i ≤ ts.length → s.ns.length ≤ 8 * s.i → KbS (ts.length + 2) s' ∧ ks'.length + s.i ≤ ks.length + s'.i ∧ s'.i ≤ ts.length ∧ s'.ns.length ≤ 8 * s'.i
  | 0, ks, ks', s, s', h, _, _, _ => by cases h
  | n + 1, ks, ks', s, s', h, hs, hi, hp => by
    unfold tpP at h
    split at h
    · injection h with h
      simp only [Prod.mk.injEq] at h
      obtain ⟨rfl, rfl⟩ := h
      exact ⟨hs, Nat.le_refl _, hi, hp⟩
    · split at h
      · cases h
      · rename_i v s1 h1
        have a1 := (ho.st h1).1
        have h3 := a1.1
        have h4 := a1.2.1
        have h5 := a1.2.2.2.2
        have := tpP_kb hr ho n h (hr.st h1 hs) h4 (by omega)
        simp only [List.length_append, List.length_singleton] at this
        exact ⟨this.1, by omega, by omega, this.2.2.2⟩
/-- What a text's tree has: nodes and Kids. -/
theorem topP_kb {n : Int} {ns : List KnL} (h : topP ts en = .ok (n, ns)) : ns.length ≤ 8 * ts.length + 1 ∧ ∀ x ∈ ns, x.ks.length ≤ ts.length + 2 := by
  unfold topP at h
  split at h
  · cases h
  rename_i ks s h1
  have := tpP_kb ts (rds_kb ts en _) (rds_ok ts en _) _ h1 (fun x hx => by simp at hx) (Nat.zero_le _) (by simp)
  simp only [List.length_nil] at this
  injection h with h
  simp only [Prod.mk.injEq] at h
  obtain ⟨_, rfl⟩ := h
  refine ⟨by simp only [addP, List.length_append, List.length_singleton]; omega, fun x hx => ?_⟩
  exact (this.1.add 21 eT 0 ks (by omega) (by simp) x hx).1
end
end Go.Proofs.YtiglkhkfbgjjoaaDoor
