/- - -/
import Derived.Test.YtiglkhkfbgjjoaaGreatDoorPMpY
import Derived.Test.YtiglkhkfbgjjoaaGreatDoorPPdD
import Derived.Test.YtiglkhkfbgjjoaaGreatDoorPPeC
import Derived.Test.YtiglkhkfbgjjoaaGreatDoorPTkO
import Derived.Test.YtiglkhkfbgjjoaaGreatDoorPTrD
import Derived.Test.YtiglkhkfbgjjoaaGreatDoorPDrwJ
namespace Go.Proofs.YtiglkhkfbgjjoaaGreatDoor
set_option maxRecDepth 20000
open Go.RowKit Go.PlainAid
set_option linter.unusedSimpArgs false
set_option linter.unusedVariables false
def KbN (M : Nat) (x : KnL) : Prop := x.ks.length <= M /\ (x.k = 8 -> x.ks.length = 2)
def KbS (M : Nat) (s : PS) : Prop := ∀ x ∈ s.ns, KbN M x
theorem KbS.add {M : Nat} {s : PS} (h : KbS M s) (k : Int) (t : ByteArray) (i : Int) (ks : List Int) (h1 : ks.length <= M) (h2 : k = 8 -> ks.length = 2 := by simp) : KbS M (zb k t i ks s).2 := fun x hx => by
 simp only [zb, List.mem_append, List.mem_singleton] at hx
 rcases hx with hx | rfl
 · exact h x hx
 · exact ⟨h1, h2⟩
theorem KbS.take {M i d n : Nat} {s : PS} (h : KbS M s) : KbS M ⟨i, d, s.ns.take n⟩ := fun x hx => h x (List.mem_of_mem_take hx)
theorem za1 {M : Nat} {s1 : PS} {k : Int} {t : ByteArray} {i : Int} {ks : List Int} {v : Int} {s' : PS} (h : (Except.ok (zb k t i ks s1) : Except (Int × Int) (Int × PS)) = .ok (v, s')) (hs : KbS M s1) (h1 : ks.length <= M) (h2 : k = 8 -> ks.length = 2 := by simp) : KbS M s' := by
 injection h with h
 rw [Prod.ext_iff] at h
 obtain ⟨rfl, rfl⟩ := h
 exact hs.add _ _ _ _ h1 h2
section
variable (ts : List za) (en : Nat)
theorem KbS.want {M : Nat} {b : ByteArray} {s s' : PS} (h : KbS M s) (hw : zaw ts en b s = .ok s') : KbS M s' := by
 obtain ⟨rfl, _⟩ := zax ts en hw
 exact h
theorem KbS.name {M : Nat} {nm : ByteArray} {s s' : PS} (h : KbS M s) (hw : zbf ts en s = .ok (nm, s')) : KbS M s' := by
 obtain ⟨rfl, _⟩ := zef ts en hw
 exact h
structure KbR (r : Rd) : Prop where
 wh : ∀ {s v s'}, r.wh s = .ok (v, s') -> KbS (ts.length + 2) s -> KbS (ts.length + 2) s'
 lv : ∀ {n s v s'}, r.lv n s = .ok (v, s') -> KbS (ts.length + 2) s -> KbS (ts.length + 2) s'
 tn : ∀ {s v s'}, r.tn s = .ok (v, s') -> KbS (ts.length + 2) s -> KbS (ts.length + 2) s'
 bl : ∀ {s v s'}, r.bl s = .ok (v, s') -> KbS (ts.length + 2) s -> KbS (ts.length + 2) s'
 st : ∀ {s v s'}, r.st s = .ok (v, s') -> KbS (ts.length + 2) s -> KbS (ts.length + 2) s'
theorem zue {s s' : PS} {v : Int} (h : paP ts en s = .ok (v, s')) (hs : KbS (ts.length + 2) s) : KbS (ts.length + 2) s' := by
 unfold paP at h
 split at h
 · cases h
 · rename_i nm s1 h1
   exact za1 h (hs.name ts en h1) (by simp)
theorem zpb {rd : PS -> Except (Int × Int) (Int × PS)} (hk : ∀ {s v s'}, rd s = .ok (v, s') -> KbS (ts.length + 2) s -> KbS (ts.length + 2) s') (ha : ∀ {s v s'}, rd s = .ok (v, s') -> s.i < s'.i /\ s'.i <= ts.length) (e : ByteArray) : ∀ (n : Nat) {ks ks' : List Int} {s s' : PS}, lsL ts en rd e n ks s = .ok (ks', s') -> KbS (ts.length + 2) s -> KbS (ts.length + 2) s' /\ ks'.length + s.i <= ks.length + s'.i /\ s'.i <= ts.length
 | 0, ks, ks', s, s', h, _ => by cases h
 | n + 1, ks, ks', s, s', h, hs => by
   unfold lsL at h
   split at h
   · cases h
   · rename_i v s1 h1
     have k1 := hk h1 hs
     have a1 := ha h1
     split at h
     · rename_i he
       have hl := zar ts he
       injection h with h
       simp only [Prod.mk.injEq] at h
       obtain ⟨rfl, rfl⟩ := h
       exact ⟨k1, by simp only [List.length_append, List.length_singleton, adv]; omega, by simp only [adv]; omega⟩
     · split at h
       · cases h
       · rename_i s2 h2
         obtain ⟨e2, _⟩ := zax ts en h2
         have := zpb hk ha e n h (k1.want ts en h2)
         subst e2
         simp only [List.length_append, List.length_singleton, adv] at this
         exact ⟨this.1, by omega, by omega⟩
theorem zk4 {rd : PS -> Except (Int × Int) (Int × PS)} (hk : ∀ {s v s'}, rd s = .ok (v, s') -> KbS (ts.length + 2) s -> KbS (ts.length + 2) s') (ha : ∀ {s v s'}, rd s = .ok (v, s') -> s.i < s'.i /\ s'.i <= ts.length) {e : ByteArray} {n : Nat} {ks : List Int} {s s' : PS} (h : lsP ts en rd e n s = .ok (ks, s')) (hs : KbS (ts.length + 2) s) : KbS (ts.length + 2) s' /\ ks.length <= ts.length := by
 unfold lsP at h
 split at h
 · injection h with h
   simp only [Prod.mk.injEq] at h
   obtain ⟨rfl, rfl⟩ := h
   exact ⟨hs, by simp⟩
 · have := zpb ts en hk ha e n h hs
   simp only [List.length_nil] at this
   exact ⟨this.1, by omega⟩
theorem zk5 {r : Rd} (hr : KbR ts r) {k : Int} {s s' : PS} {v : Int} (h : zv ts en r k s = .ok (v, s')) (hs : KbS (ts.length + 2) s) : KbS (ts.length + 2) s' := by
 unfold zv at h
 split at h
 · cases h
 · rename_i s1 h1
   split at h
   · cases h
   · rename_i e s2 h2
     exact za1 h (hr.wh h2 (hs.want ts en h1)) (by simp)
theorem zuf {r : Rd} (hr : KbR ts r) {s s' : PS} {v : Int} (h : fdP ts en r s = .ok (v, s')) (hs : KbS (ts.length + 2) s) : KbS (ts.length + 2) s' := by
 unfold fdP at h
 split at h
 · split at h
   · cases h
   · rename_i k s1 h1
     split at h
     · cases h
     · rename_i s2 h2
       exact zk5 ts en hr h ((hr.wh h1 hs).want ts en h2)
 · split at h
   · split at h
     · cases h
     · rename_i nm s1 h1
       exact zk5 ts en hr h ((hs.name ts en h1).add 4 nm 0 [] (by simp))
   · split at h
     · cases h
     · rename_i e s1 h1
       exact za1 h (hr.wh h1 hs) (by simp)
theorem zhp {r : Rd} (hr : KbR ts r) (ho : zk ts r) : ∀ (n : Nat) {a : Int} {s s' : PS} {v : Int}, KbS (ts.length + 2) s -> bhP ts en r n a s = .ok (v, s') -> KbS (ts.length + 2) s'
 | 0, a, s, s', v, _, h => by cases h
 | n + 1, a, s, s', v, h0, h => by
   unfold bhP at h
   split at h
   · split at h
     · cases h
     · rename_i ks s1 h1
       have := zk4 ts en hr.wh (fun h => ⟨(ho.wh h).1.1, (ho.wh h).1.2.1⟩) h1 h0
       exact zhp hr ho n (this.1.add 9 eT 0 (a :: ks) (by simp only [List.length_cons]; omega)) h
   · split at h
     · split at h
       · cases h
       · rename_i k s1 h1
         split at h
         · cases h
         · rename_i s2 h2
           exact zhp hr ho n (((hr.wh h1 h0).want ts en h2).add 8 eT 0 [a, k] (by simp)) h
     · split at h
       · split at h
         · cases h
         · rename_i nm s1 h1
           have k1 : KbS (ts.length + 2) s1 := KbS.name (s := adv s) ts en h0 h1
           exact zhp hr ho n ((k1.add 4 nm 0 [] (by simp)).add 8 eT 0 _ (by simp)) h
       · injection h with h
         simp only [Prod.mk.injEq] at h
         obtain ⟨rfl, rfl⟩ := h
         exact h0
theorem zs5 {r : Rd} (hr : KbR ts r) (ho : zk ts r) {s s' : PS} {v : Int} (h : zu ts en r s = .ok (v, s')) (hs : KbS (ts.length + 2) s) : KbS (ts.length + 2) s' := by
 have ha : KbS (ts.length + 2) (adv s) := hs
 unfold zu at h
 split at h
 · cases h
 split at h
 · exact za1 h ha (by simp)
 split at h
 · exact za1 h ha (by simp)
 split at h
 · exact za1 h ha (by simp)
 split at h
 · exact za1 h ha (by simp)
 split at h
 · exact za1 h ha (by simp)
 split at h
 · exact za1 h ha (by simp)
 split at h
 · split at h
   · cases h
   rename_i s1 h1
   split at h
   · cases h
   rename_i ks s2 h2
   split at h
   · cases h
   rename_i b s3 h3
   have := zk4 ts en (zue ts en) (fun h => ⟨(zcz ts en h).1.1, (zcz ts en h).1.2.1⟩) h2 (ha.want ts en h1)
   exact za1 h (hr.bl h3 this.1) (by simp only [List.length_append, List.length_singleton]; omega)
 split at h
 · split at h
   · cases h
   rename_i ks s1 h1
   have := zk4 ts en (zuf ts en hr) (fun h => ⟨(zcr ts en ho h).1.1, (zcr ts en ho h).1.2.1⟩) h1 ha
   exact za1 h this.1 (by omega)
 split at h
 · split at h
   · cases h
   rename_i w s1 h1
   split at h
   · cases h
   rename_i s2 h2
   injection h with h
   simp only [Prod.mk.injEq] at h
   obtain ⟨rfl, rfl⟩ := h
   exact (hr.wh h1 ha).want ts en h2
 · cases h
theorem zpc {r : Rd} (hr : KbR ts r) (ho : zk ts r) {s s' : PS} {v : Int} (h : tnP ts en r s = .ok (v, s')) (hs : KbS (ts.length + 2) s) : KbS (ts.length + 2) s' := by
 unfold tnP at h
 split at h
 · split at h
   · cases h
   rename_i a s1 h1
   exact zhp ts en hr ho _ (zs5 ts en hr ho h1 hs) h
 · split at h
   · cases h
   rename_i s1 h1
   obtain ⟨e1, _⟩ := zb5 ts en h1
   split at h
   · cases h
   rename_i e s2 h2
   have k1 : KbS (ts.length + 2) s1 := by rw [e1]; exact hs
   have k2 : KbS (ts.length + 2) s2 := hr.tn h2 k1
   injection h with h
   simp only [Prod.mk.injEq] at h
   rw [<- h.2]
   exact k2.add 11 eT _ [e] (by simp)
theorem zpd {r : Rd} (hr : KbR ts r) {level : Nat} : ∀ (n : Nat) {a : Int} {s s' : PS} {v : Int}, KbS (ts.length + 2) s -> mlp ts r level n a s = .ok (v, s') -> KbS (ts.length + 2) s'
 | 0, a, s, s', v, _, h => by cases h
 | n + 1, a, s, s', v, h0, h => by
   have hop : (zi ts s).2.1 = 8 -> [a, a].length = 2 := fun _ => rfl
   unfold mlp at h
   split at h
   · split at h
     · cases h
     · rename_i b s1 h1
       have k1 : KbS (ts.length + 2) s1 := hr.lv h1 h0
       split at h
       · exact za1 h k1 (by simp) (fun _ => rfl)
       · exact zpd hr n (k1.add _ _ _ [a, b] (by simp) (fun _ => rfl)) h
   · injection h with h
     simp only [Prod.mk.injEq] at h
     obtain ⟨rfl, rfl⟩ := h
     exact h0
theorem zmt {r : Rd} (hr : KbR ts r) (lv : Nat) : ∀ (m : Nat) {a : Int} {s s' : PS} {v : Int}, KbS (ts.length + 2) s -> zaj ts r lv m a s = .ok (v, s') -> KbS (ts.length + 2) s'
 | 0, a, s, s', v, h0, h => by
   injection h with h
   simp only [Prod.mk.injEq] at h
   obtain ⟨rfl, rfl⟩ := h
   exact h0
 | m + 1, a, s, s', v, h0, h => by
   unfold zaj at h
   split at h
   · injection h with h
     simp only [Prod.mk.injEq] at h
     obtain ⟨rfl, rfl⟩ := h
     exact h0
   · split at h
     · cases h
     · rename_i b s1 h1
       exact zmt hr lv m (zpd ts hr _ h0 h1) h
theorem zpe {r : Rd} (hr : KbR ts r) (ho : zk ts r) {n : Nat} {s s' : PS} {v : Int} (h : lvP ts en r n s = .ok (v, s')) (hs : KbS (ts.length + 2) s) : KbS (ts.length + 2) s' := by
 unfold lvP at h
 split at h
 · cases h
 · rename_i a s1 h1
   exact zmt ts hr n _ (zpc ts en hr ho h1 hs) h
theorem zpf {r : Rd} (hr : KbR ts r) (ho : zk ts r) {s s' : PS} {v : Int} (h : whP ts en r s = .ok (v, s')) (hs : KbS (ts.length + 2) s) : KbS (ts.length + 2) s' := by
 unfold whP at h
 split at h
 · cases h
 rename_i s1 h1
 obtain ⟨e1, _⟩ := zb5 ts en h1
 split at h
 · cases h
 rename_i a s2 h2
 have k1 : KbS (ts.length + 2) s1 := by rw [e1]; exact hs
 have k2 := zpe ts en hr ho h2 k1
 injection h with h
 simp only [Prod.mk.injEq] at h
 rw [<- h.2]
 exact k2
theorem zpg {r : Rd} (hr : KbR ts r) (ho : zk ts r) : ∀ (n : Nat) {ks ks' : List Int} {s s' : PS}, bsP ts r n ks s = .ok (ks', s') -> KbS (ts.length + 2) s -> s.i <= ts.length -> KbS (ts.length + 2) s' /\ ks'.length + s.i <= ks.length + s'.i /\ s'.i <= ts.length
 | 0, ks, ks', s, s', h, _, _ => by cases h
 | n + 1, ks, ks', s, s', h, hs, hi => by
   unfold bsP at h
   split at h
   · rename_i he
     have hl := zar ts he
     injection h with h
     simp only [Prod.mk.injEq] at h
     obtain ⟨rfl, rfl⟩ := h
     exact ⟨hs, by simp only [adv]; omega, by simp only [adv]; omega⟩
   · split at h
     · cases h
     · rename_i v s1 h1
       have a1 := (ho.st h1).1
       have h3 := a1.1
       have h4 := a1.2.1
       have := zpg hr ho n h (hr.st h1 hs) h4
       simp only [List.length_append, List.length_singleton] at this
       exact ⟨this.1, by omega, by omega⟩
theorem zug {r : Rd} (hr : KbR ts r) (ho : zk ts r) {s s' : PS} {v : Int} (h : blP ts en r s = .ok (v, s')) (hs : KbS (ts.length + 2) s) : KbS (ts.length + 2) s' := by
 unfold blP at h
 split at h
 · cases h
 rename_i s1 h1
 obtain ⟨e1, _⟩ := zb5 ts en h1
 split at h
 · cases h
 rename_i s2 h2
 obtain ⟨e2, hb⟩ := zax ts en h2
 have hl := zar ts hb
 split at h
 · cases h
 rename_i ks s3 h3
 have k2 : KbS (ts.length + 2) s2 := by rw [e2, e1]; exact hs
 have := zpg ts hr ho _ h3 k2 (by rw [e2]; simp only [adv]; omega)
 simp only [List.length_nil] at this
 exact za1 h this.1 (by omega)
theorem zhq {r : Rd} (hr : KbR ts r) {s s' : PS} {v : Int} (h : laP ts en r s = .ok (v, s')) (hs : KbS (ts.length + 2) s) : KbS (ts.length + 2) s' := by
 unfold laP at h
 split at h
 · cases h
 rename_i e s1 h1
 split at h
 · cases h
 rename_i s2 h2
 injection h with h
 simp only [Prod.mk.injEq] at h
 obtain ⟨rfl, rfl⟩ := h
 exact (hr.wh h1 hs).want ts en h2
theorem zs6 {r : Rd} (hr : KbR ts r) (ho : zk ts r) {s s' : PS} {v : Int} (h : za9 ts en r s = .ok (v, s')) (hs : KbS (ts.length + 2) s) : KbS (ts.length + 2) s' := by
 unfold za9 at h
 split at h
 · cases h
 rename_i e s1 h1
 have k1 := zpf ts en hr ho h1 hs
 split at h
 · cases h
 rename_i x hx
 have kx := k1 x (List.mem_of_getElem? hx)
 split at h
 · exact za1 (s1 := adv s1) h k1 (by simp)
 split at h
 · split at h
   · cases h
   rename_i w s2 h2
   exact za1 h (zhq ts en hr h2 k1.take) (by simp)
 split at h
 · rename_i hc
   split at h
   · cases h
   rename_i w s2 h2
   have hl := kx.2 hc.1
   have hlt := zar ts hc.2
   exact za1 h (zhq ts en hr h2 k1.take) (by simp only [List.length_append, List.length_singleton]; omega)
 · cases h
theorem zuh {r : Rd} (hr : KbR ts r) (ho : zk ts r) {s s' : PS} {v : Int} (h : stP ts en r s = .ok (v, s')) (hs : KbS (ts.length + 2) s) : KbS (ts.length + 2) s' := by
 have ha : KbS (ts.length + 2) (adv s) := hs
 unfold stP at h
 split at h
 · split at h
   · cases h
   rename_i nm s1 h1
   split at h
   · cases h
   rename_i s2 h2
   split at h
   · cases h
   rename_i e s3 h3
   exact za1 h (zhq ts en hr h3 ((ha.name ts en h1).want ts en h2)) (by simp)
 split at h
 · rename_i hb
   have hlt := zar ts hb
   split at h
   · cases h
   rename_i e s1 h1
   split at h
   · cases h
   rename_i b s2 h2
   have k2 := hr.bl h2 (hr.wh h1 ha)
   split at h
   · split at h
     · cases h
     rename_i c s3 h3
     exact za1 h (hr.bl h3 k2) (by simp only [List.length_cons, List.length_nil]; omega)
   · exact za1 h k2 (by simp)
 split at h
 · split at h
   · cases h
   rename_i e s1 h1
   split at h
   · cases h
   rename_i b s2 h2
   exact za1 h (hr.bl h2 (hr.wh h1 ha)) (by simp)
 split at h
 · split at h
   · cases h
   rename_i e s1 h1
   exact za1 h (zhq ts en hr h1 ha) (by simp)
 exact zs6 ts en hr ho h hs
theorem zfc : ∀ n, KbR ts (rds ts en n)
 | 0 => ⟨fun h => (by cases h), fun h => (by cases h), fun h => (by cases h), fun h => (by cases h), fun h => (by cases h)⟩
 | n + 1 => ⟨zpf ts en (zfc n) (zav ts en n), zpe ts en (zfc n) (zav ts en n), zpc ts en (zfc n) (zav ts en n), zug ts en (zfc n) (zav ts en n), zuh ts en (zfc n) (zav ts en n)⟩
theorem zph {r : Rd} (hr : KbR ts r) (ho : zk ts r) : ∀ (n : Nat) {ks ks' : List Int} {s s' : PS}, tpP ts r n ks s = .ok (ks', s') -> KbS (ts.length + 2) s -> s.i <= ts.length -> s.ns.length <= 8 * s.i -> KbS (ts.length + 2) s' /\ ks'.length + s.i <= ks.length + s'.i /\ s'.i <= ts.length /\ s'.ns.length <= 8 * s'.i
 | 0, ks, ks', s, s', h, _, _, _ => by cases h
 | n + 1, ks, ks', s, s', h, hs, hi, hp => by
   unfold tpP at h
   split at h
   · injection h with h
     simp only [Prod.mk.injEq] at h
     obtain ⟨rfl, rfl⟩ := h
     exact ⟨hs, Nat.le_refl _, hi, hp⟩
   · split at h
     · cases h
     · rename_i v s1 h1
       have a1 := (ho.st h1).1
       have h3 := a1.1
       have h4 := a1.2.1
       have h5 := a1.2.2.2.2
       have := zph hr ho n h (hr.st h1 hs) h4 (by omega)
       simp only [List.length_append, List.length_singleton] at this
       exact ⟨this.1, by omega, by omega, this.2.2.2⟩
theorem zs7 {n : Int} {ns : List KnL} (h : zbj ts en = .ok (n, ns)) : ns.length <= 8 * ts.length + 1 /\ ∀ x ∈ ns, x.ks.length <= ts.length + 2 := by
 unfold zbj at h
 split at h
 · cases h
 rename_i ks s h1
 have := zph ts (zfc ts en _) (zav ts en _) _ h1 (fun x hx => by simp at hx) (Nat.zero_le _) (by simp)
 simp only [List.length_nil] at this
 injection h with h
 simp only [Prod.mk.injEq] at h
 obtain ⟨_, rfl⟩ := h
 refine ⟨by simp only [zb, List.length_append, List.length_singleton]; omega, fun x hx => ?_⟩
 exact (this.1.add 21 eT 0 ks (by omega) (by simp) x hx).1
end
open Go.RowKit Go.PlainAid Go.Maps
def paR (t : ByteArray) : Int × List KnL × Int × Int := if (zn t).1 = 0 then match zbj (zn t).2.2 t.size with
    | .error x => (0, [], x.1, x.2)
    | .ok (n, ns) => (n, ns, 0, 0)
 else (0, [], 1, ((zn t).2.1 : Int))
theorem zh7 {t : ByteArray} (h : (zn t).1 ≠ 0) : paR t = (0, [], 1, ((zn t).2.1 : Int)) := by unfold paR; rw [if_neg h]
theorem zj5 {t : ByteArray} (h : (zn t).1 = 0) {x : Int × Int} (hx : zbj (zn t).2.2 t.size = .error x) : paR t = (0, [], x.1, x.2) := by unfold paR; rw [if_pos h, hx]
theorem zgd {t : ByteArray} (h : (zn t).1 = 0) {n : Int} {ns : List KnL} (hx : zbj (zn t).2.2 t.size = .ok (n, ns)) : paR t = (n, ns, 0, 0) := by unfold paR; rw [if_pos h, hx]
theorem NdR.nil (B : Nat) (w : World) : NdR B w (.slice none 0 0) [] [] := ⟨rfl, World.ownsRow_nil _ _ _ 4, fun j x u h1 h2 => by simp at h1, fun j u g h1 => by simp at h1, fun i j u u' g h1 => by simp at h1⟩
theorem ztz (t : ByteArray) : (paR t).2.1.length <= 30000 /\ ∀ x ∈ (paR t).2.1, x.ks.length <= 4000 := by
 have hl := zen t
 by_cases h : (zn t).1 = 0
 · rcases hx : zbj (zn t).2.2 t.size with x | ⟨n, ns⟩
   · rw [zj5 h hx]; simp
   · rw [zgd h hx]
     have := zs7 (zn t).2.2 t.size hx
     exact ⟨by simp only; omega, fun x hx => by have := this.2 x hx; omega⟩
 · rw [zh7 h]; simp
def PaA (w : World) (P : Int × List KnL × Int × Int) (e : Ending) (w' : World) : Prop := ∃ a c kv, e = .returned (.tuple #[.agg #[.slice a P.2.1.length c, .int .i64 P.1], .int .i64 P.2.2.1, .int .i64 P.2.2.2]) /\ NdR w.heap.size w' (.slice a P.2.1.length c) P.2.1 kv /\ Below w.heap.size w w'
theorem ze4 {w w' : World} {P : Int × List KnL × Int × Int} {e : Ending} {v : Value} {kv : List Value} (he : e = .returned (.tuple #[.agg #[v, .int .i64 P.1], .int .i64 P.2.2.1, .int .i64 P.2.2.2])) (h : NdR w.heap.size w' v P.2.1 kv) (hb : Below w.heap.size w w') : PaA w P e w' := by
 obtain ⟨a, c, rfl⟩ := h.form
 exact ⟨a, c, kv, he, h, hb⟩
theorem zp9 (t : ByteArray) (w : World) (ht0 : t.size <= 1048576) (hM : MkV w) (hTb : zcl w.heap.size w) : Calls Tryz.prog 6 #[.string t] w (PaA w (paR t)) := by
 by_cases h : (zn t).1 = 0
 · rcases hx : zbj (zn t).2.2 t.size with x | ⟨n, ns⟩
   · rw [zj5 h hx]
     exact (zqp t w ht0 hM hTb h x hx).mono fun e w' ⟨he, hb⟩ => ze4 he (NdR.nil _ _) hb
   · rw [zgd h hx]
     exact (zo9 t w ht0 hM hTb h n ns hx).mono fun e w' ⟨v, kv, he, hn, hb⟩ => ze4 he hn hb
 · rw [zh7 h]
   exact (zo8 t w ht0 hM h).mono fun e w' ⟨he, hb⟩ => ze4 he (NdR.nil _ _) hb
theorem zoh (t : ByteArray) (w : World) (ht0 : t.size <= 1048576) : Calls Tryz.prog 7 #[.string t] w fun e w' => PaA w (paR t) e w' /\ ((paR t).2.2.1 = 0 -> (zn t).1 = 0 /\ zbj (zn t).2.2 t.size = .ok ((paR t).1, (paR t).2.1) /\ (paR t).2.2.2 = 0) := by
 by_cases h : (zn t).1 = 0
 · refine (zj6 t w ht0 h).mono fun e w' hh => ?_
   rcases hx : zbj (zn t).2.2 t.size with x | ⟨n, ns⟩
   · rw [zj5 h hx]
     obtain ⟨he, hb, hn⟩ := hh.1 x hx
     exact ⟨ze4 he (NdR.nil _ _) hb, fun q => absurd q hn⟩
   · rw [zgd h hx]
     obtain ⟨v, kv, he, hn, hb⟩ := hh.2 n ns hx
     exact ⟨ze4 he hn hb, fun _ => ⟨h, rfl, rfl⟩⟩
 · rw [zh7 h]
   exact (zjd t w ht0 h).mono fun e w' ⟨he, hb⟩ => ⟨ze4 he (NdR.nil _ _) hb, fun q => absurd q (show ¬ (1 : Int) = 0 by decide)⟩
theorem zse {t : ByteArray} (h : (paR t).2.2.1 ≠ 0) : (paR t).2.1 = [] := by
 unfold paR at h ⊢
 split
 · rename_i h1
   rw [if_pos h1] at h
   split
   · rfl
   · rename_i n ns hx
     rw [hx] at h
     exact absurd rfl h
 · rfl
theorem zqa (t : ByteArray) : TkG (zn t).2.2 := fun x hx => by
 obtain ⟨j, hj, _⟩ := zmo t
 have n1 : ∀ s : ByteArray, 0 < s.size -> s.size <= 12 -> (∀ r, r < s.size -> ltB (bt s r) = true) -> isW s = false -> zb3 s = true := fun s a b c d => by
  unfold zb3
  rw [decide_eq_true (show 1 <= s.size /\ s.size <= 12 by omega), d, decide_eq_true c]
  rfl
 rcases (hj x hx).1 with h | h | h | h | h
 · exact ⟨fun k => by rw [k] at h; exact absurd h.1 (by decide), fun k => by rw [k] at h; exact absurd h.1 (by decide), fun k => by rw [k] at h; exact absurd h.1 (by decide)⟩
 · exact ⟨fun _ => n1 _ h.2.1 h.2.2.1 h.2.2.2.1 h.2.2.2.2.1, fun k => by rw [k] at h; exact absurd h.1 (by decide), fun k => by rw [k] at h; exact absurd h.1 (by decide)⟩
 · refine ⟨fun k => by rw [k] at h; exact absurd h.1 (by decide), fun k => by rw [k] at h; exact absurd h.1 (by decide), fun _ => ?_⟩
   obtain ⟨_, h1, h2, h3, h4, h5⟩ := h
   have h6 := zgg x.tx 0 x.tx.size (fun j hj => by rw [Nat.zero_add]; exact h3 j hj)
   have h7 : 10 ^ x.tx.size <= 10 ^ 15 := Nat.pow_le_pow_right (by omega) h2
   have h8 : ((10 ^ x.tx.size : Nat) : Int) <= 1000000000000000 := by
    have : (10 ^ 15 : Nat) = 1000000000000000 := by decide
    omega
   rw [h5]
   omega
 · refine ⟨fun k => by rw [k] at h; exact absurd h.1 (by decide), fun _ => ?_, fun k => by rw [k] at h; exact absurd h.1 (by decide)⟩
   unfold zb8
   rw [decide_eq_true h.2.2.1, decide_eq_true h.2.1]
   rfl
 · exact ⟨fun k => by rw [k] at h; exact absurd h.1 (by decide), fun k => by rw [k] at h; exact absurd h.1 (by decide), fun k => by rw [k] at h; exact absurd h.1 (by decide)⟩
theorem zh8 {a b : ByteArray} {i : Nat} (h : i < a.size) : bt (a ++ b) i = bt a i := by
 unfold bt
 rw [dif_pos (show i < (a ++ b).size by rw [ByteArray.size_append]; omega), dif_pos h]
 rw [ByteArray.getElem_append_left h]
theorem zme {a b : ByteArray} {i : Nat} (h : i < b.size) : bt (a ++ b) (a.size + i) = bt b i := by
 unfold bt
 rw [dif_pos (show a.size + i < (a ++ b).size by rw [ByteArray.size_append]; omega), dif_pos h]
 rw [ByteArray.getElem_append_right (by omega)]
 simp only [Nat.add_sub_cancel_left]
theorem zoi {t : ByteArray} {n : Int} {ns : List KnL} (hc : (zn t).1 = 0) (h : zbj (zn t).2.2 t.size = .ok (n, ns)) (hs : 2 * t.size + 1 <= 3000) : ∃ ks N, ns = N ++ [⟨21, eT, 0, ks⟩] /\ n = (N.length : Int) /\ paR (t ++ ⟨#[10]⟩ ++ t) = (((2 * N.length : Nat) : Int), (N ++ N.map (mvN N.length)) ++ [⟨21, eT, 0, ks ++ mvK N.length ks⟩], 0, 0) := by
 have z1 : (⟨#[10]⟩ : ByteArray).size = 1 := rfl
 have hA : (t ++ ⟨#[10]⟩ ++ t).size = 2 * t.size + 1 := by simp only [ByteArray.size_append, z1]; omega
 have hs1 : (t ++ ⟨#[10]⟩ : ByteArray).size = t.size + 1 := by simp only [ByteArray.size_append, z1]
 obtain ⟨l1, l2⟩ := zpl (A := t ++ ⟨#[10]⟩ ++ t) (t := t) hA (fun r hr => by rw [zh8 (by omega), zh8 hr]) (by rw [zh8 (by omega)]; exact zme (i := 0) (by decide)) (fun r hr => by rw [<- hs1]; exact zme hr) (by omega) hc
 obtain ⟨ks, N, e1, e2, e3⟩ := zn0 (zn t).2.2 t.size (t.size + 1) (t ++ ⟨#[10]⟩ ++ t).size h
 refine ⟨ks, N, e1, e2, ?_⟩
 rw [<- l2] at e3
 exact zgd l1 e3
set_option maxHeartbeats 4000000 in
theorem zj4 (a : Option Addr) (n cap : Nat) (w : World) (hn : n <= 1048576) (hc : n = 0 \/ ∃ bb off, a = some ⟨bb, off, none⟩ /\ bb < w.heap.size /\ ∀ j, j < n -> ∃ x, w.cell? ⟨bb, off + j, none⟩ = some (.int .u8 x)) :
 Calls Tryz.prog 5 #[.slice a n cap] w fun e w' => ∃ s : ByteArray, e = .returned (.string s) /\ s.size <= 3200 /\ Below w.heap.size w w' := by
 have HC : Hid (n = 0 \/ ∃ bb off, a = some ⟨bb, off, none⟩ /\ bb < w.heap.size /\ ∀ j, j < n -> ∃ x, w.cell? ⟨bb, off + j, none⟩ = some (.int .u8 x)) := hc
 clear hc
 go_enter Tryz.func5, Tryz.ntmps5
 go_wp2_with (first | (go_at_call 10; refine (zp2 a n cap _ hn HC.out).mono ?_; rintro e w1 ⟨rfl, C0, B1⟩; have F0 := But.refl w.heap.size w1) | (go_at_call 11; refine (zn4 w.heap.size _ _ _ _ _ C0 hn).mono ?_; rintro e w2 ⟨s, rfl, hs, C2, B0⟩; replace C0 := C2; replace F0 := F0.trans B0; clear B0 C2))
 all_goals
  (try simp only [Exit.inBlock, Exit.then])
  go_ret
  exact ⟨_, rfl, by omega, zlh B1 F0⟩
theorem zrl (a : Option Addr) (n cap : Nat) (w : World) :
 Calls Tryz.prog 4 #[.slice a n cap] w fun e w' => e = .returned (.bool (decide ((1048576 : Int) < n))) /\ w' = w := by
 go_enter Tryz.func4, Tryz.ntmps4
 go_wp2
 go_ret
 exact ⟨rfl, rfl⟩
theorem zp8 {X : Nat -> KnD} {L : Nat} {top : Int} (h : TOK X L top) : ∀ j, j < L -> (X j).t.size <= 1048576 := fun j hj => by
 have h1 := ((zmx X L top).1 h).2.2.2 j hj
 have h2 := h1.1
 unfold za3 at h2
 split at h2
 · unfold zb8 at h2
   have := of_decide_eq_true (Bool.and_eq_true _ _ ▸ h2).2
   omega
 · split at h2
   · unfold zb3 at h2
     simp only [Bool.and_eq_true] at h2
     have := of_decide_eq_true h2.1.1
     omega
   · have := of_decide_eq_true h2
     omega
theorem zty {ns : List KnL} (h : ∀ x ∈ ns, x.ks.length <= 4000) : ∀ j, j < ns.length -> (knd (ns.getD j kz)).len <= 1048576 := fun j hj => by
 have : ns.getD j kz ∈ ns := by rw [List.getD_eq_getElem?_getD, List.getElem?_eq_getElem hj]; exact List.getElem_mem _
 have := h _ this
 show (ns.getD j kz).ks.length <= 1048576
 omega
theorem zix {T : Nat} {w : World} {a : Option Addr} {c : Nat} {N : List KnL} {x : KnL} (h : KnF T w (.slice a (N ++ [x]).length c) (N ++ [x]).length (fun i => knd ((N ++ [x]).getD i kz))) : ∃ b off ka kc, a = some ⟨b, off, none⟩ /\ b < T /\ w.cell? ⟨b, off + N.length * 4 + 3, none⟩ = some (.slice ka x.ks.length kc) := by
 obtain ⟨a', c', e, h⟩ := h
 rcases h with h | ⟨b, off, e1, e2, e3, e4⟩
 · simp at h
 · obtain ⟨ka, kc, h0, h1, h2, h3, h4⟩ := e4 N.length (by simp)
   injection e with e5 e6 e7
   have e8 : ((N ++ [x]).getD N.length kz) = x := by rw [List.getD_eq_getElem?_getD, List.getElem?_append_right (Nat.le_refl _)]; simp
   simp only [e8] at h3
   exact ⟨b, off, ka, kc, by rw [e5, e1], e2, h3⟩
theorem MkV.up' {w w' : World} {B : Nat} (h : MkV w) (hb : Below B w w') (hB : 0 < B) : MkV w' := h.below hb hB
set_option maxHeartbeats 4000000 in
theorem zog (a : Option Addr) (n cap : Nat) (w : World) (hn : n <= 1048576) (h : n = 0 \/ ∃ bb off, a = some ⟨bb, off, none⟩ /\ bb < w.heap.size /\ ∀ j, j < n -> ∃ x, w.cell? ⟨bb, off + j, none⟩ = some (.int .u8 x)) (hM : MkV w) (hTb : zcl w.heap.size w) :
 Calls Tryz.prog 3 #[.slice a n cap] w fun e w' => e = .returned (.bool true) /\ Below w.heap.size w w' := by
 have HD : Hid (Calls Tryz.prog 5 #[.slice a n cap] w fun e w' => ∃ s : ByteArray, e = .returned (.string s) /\ s.size <= 3200 /\ Below w.heap.size w w') := zj4 a n cap w hn h
 have HI : Hid (∀ (t : ByteArray) W, t.size <= 1048576 -> Below w.heap.size w W -> Calls Tryz.prog 6 #[.string t] W (PaA W (paR t))) := fun t W ht hW => zp9 t W ht (hM.up' hW hM.1) (hTb.up hW hW.size)
 have HB : Hid (∀ W, Calls Tryz.prog 4 #[.slice a n cap] W fun e w' => e = .returned (.bool false) /\ w' = W) := fun W => (zrl a n cap W).mono fun e w' ⟨h1, h2⟩ => ⟨by rw [h1, decide_eq_false (by omega)], h2⟩
 clear h hM hTb
 go_enter Tryz.func3, Tryz.ntmps3
 go_wp2_with fail
 refine (HB.out _).mono ?_
 rintro e w0 ⟨rfl, h0⟩
 rw [h0]
 clear h0 w0
 go_wp2_with fail
 refine HD.out.mono ?_
 rintro e w1 ⟨t, rfl, ht, B1⟩
 have HSC := fun W => zoh t W (by omega)
 obtain ⟨m, ns, cd, pl, hP⟩ : ∃ m ns cd pl, paR t = (m, ns, cd, pl) := ⟨_, _, _, _, rfl⟩
 have kb := ztz t
 have hnil := @zse t
 have HI1 := HI.out t w1 (by omega) B1
 rw [hP] at HSC kb hnil HI1
 simp only at HSC kb hnil
 have HSC' : Hid (∀ W, Calls Tryz.prog 7 #[.string t] W fun e w' => PaA W (m, ns, cd, pl) e w' /\ (cd = 0 -> (zn t).1 = 0 /\ zbj (zn t).2.2 t.size = .ok (m, ns) /\ pl = 0)) := HSC
 have HI1' : Hid (Calls Tryz.prog 6 #[.string t] w1 (PaA w1 (m, ns, cd, pl))) := HI1
 have KB : Hid (∀ j, j < ns.length -> (knd (ns.getD j kz)).len <= 1048576) := zty kb.2
 have kb1 : (ns.length : Int) <= 30000 := by have := kb.1; omega
 have HNIL : Hid (cd ≠ 0 -> ns = []) := hnil
 clear HSC HI1 kb hnil HB HD
 go_wp2_with fail
 refine HI1'.out.mono ?_
 rintro e w2 ⟨a1, c1, kv1, rfl, n1, b1⟩
 simp only at n1 b1 ⊢
 have B2 := zg B1 b1
 have N1 : Hid (KnF w2.heap.size w2 (.slice a1 ns.length c1) ns.length (fun i => knd (ns.getD i kz))) := n1.knF
 clear b1 n1 HI1' B1
 go_wp2_with fail
 obtain ⟨W2, hW2⟩ : ∃ W, W = w2.alloc (.cells #[.slice a1 ns.length c1, .int .i64 m] 27) := ⟨_, rfl⟩
 have bW2 : Below w2.heap.size w2 W2 := by rw [hW2]; exact (Below.refl _ _).alloc (Nat.le_refl _) _
 have k1 : ∀ i, W2.cell? ⟨w2.heap.size, i, none⟩ = (#[.slice a1 ns.length c1, .int .i64 m] : Array Value)[i]? := fun i => by rw [hW2]; simp [go_sem]
 have z1 : w2.heap.size < W2.heap.size := by rw [hW2]; simp
 rw [<- hW2]
 clear hW2
 refine (HSC'.out _).mono ?_
 rintro e w3 ⟨⟨a2, c2, kv2, rfl, n2, b2⟩, hcd⟩
 simp only at n2 b2 ⊢
 have B3 := zg (zg B2 bW2) b2
 have k2 : ∀ i, w3.cell? ⟨w2.heap.size, i, none⟩ = (#[.slice a1 ns.length c1, .int .i64 m] : Array Value)[i]? := fun i => by rw [(za7 b2).1 _ _ z1]; exact k1 i
 have z2 : w2.heap.size < w3.heap.size := Nat.lt_of_lt_of_le z1 b2.size
 have N2 : Hid (KnF w3.heap.size w3 (.slice a2 ns.length c2) ns.length (fun i => knd (ns.getD i kz))) := n2.knF
 have N12 : Hid (KnF w3.heap.size w3 (.slice a1 ns.length c1) ns.length (fun i => knd (ns.getD i kz))) := (((N1.out.below bW2 (Nat.le_refl _)).mono bW2.size).below b2 (Nat.le_refl _)).mono b2.size
 have HCD : Hid (cd = 0 -> (zn t).1 = 0 /\ zbj (zn t).2.2 t.size = .ok (m, ns) /\ pl = 0) := hcd
 clear hcd n2 b2 k1 z1 bW2 B2 N1 HSC'
 have q10 := k2 0
 have q11 := k2 1
 simp at q10 q11
 have ht2 : (t.size : Int) <= 3200 := by omega
 by_cases hc0 : cd = 0
 · subst hc0
   obtain ⟨hl, hx, rfl⟩ := HCD.out rfl
   have tok : TOK (fun i => knd (ns.getD i kz)) ns.length m := zqu _ _ (zqa t) (zen t) hx
   have HTK : Hid (∀ W, Below w3.heap.size w3 W -> Calls Tryz.prog 8 #[.agg #[.slice a1 ns.length c1, .int .i64 m]] W fun e w' => e = .returned (.bool true) /\ Below W.heap.size W w') := fun W hW => (zjp a1 c1 ns.length m _ w3.heap.size W (N12.out.below hW (Nat.le_refl _)) hW.size (by omega) (fun j hj => ⟨KB.out j hj, zp8 tok j hj⟩)).mono fun e w' ⟨q, e1, e2, e3⟩ => ⟨by rw [e1, e2.2 tok], e3⟩
   have HTS : Hid (∀ W, Below w3.heap.size w3 W -> Calls Tryz.prog 9 #[.agg #[.slice a1 ns.length c1, .int .i64 m], .agg #[.slice a2 ns.length c2, .int .i64 m]] W fun e w' => e = .returned (.bool true) /\ Below W.heap.size W w') := fun W hW => (zg6 a1 a2 c1 c2 ns.length ns.length m m _ _ w3.heap.size W (N12.out.below hW (Nat.le_refl _)) (N2.out.below hW (Nat.le_refl _)) hW.size (by omega) (by omega) KB.out KB.out).mono fun e w' ⟨q, e1, e2, e3⟩ => ⟨by rw [e1, e2.2 (zpr m ns)], e3⟩
   have HX : Hid ((zn t).1 = 0 /\ zbj (zn t).2.2 t.size = .ok (m, ns)) := ⟨hl, hx⟩
   clear tok hl hx HCD HNIL N12 k2
   go_wp2_with fail
   obtain ⟨W3, hW3⟩ : ∃ W, W = w3.alloc (.cells #[.slice a2 ns.length c2, .int .i64 m] 27) := ⟨_, rfl⟩
   have bW3 : Below w3.heap.size w3 W3 := by rw [hW3]; exact (Below.refl _ _).alloc (Nat.le_refl _) _
   have y0 : W3.cell? ⟨w3.heap.size, 0, none⟩ = some (.slice a2 ns.length c2) /\ W3.cell? ⟨w3.heap.size, 1, none⟩ = some (.int .i64 m) := by rw [hW3]; simp [go_sem]
   have z3 : w3.heap.size < W3.heap.size := by rw [hW3]; simp
   rw [<- hW3]
   clear hW3
   refine (HTK.out _ bW3).mono ?_
   rintro e w4 ⟨rfl, b4⟩
   have b34 := zg (w := w3) bW3 b4
   have q20 := (((za7 b34).1 _ _ z2).trans q10)
   have q21 := (((za7 b34).1 _ _ z2).trans q11)
   have y20 := (((za7 b4).1 _ _ z3).trans y0.1)
   have y21 := (((za7 b4).1 _ _ z3).trans y0.2)
   have z4 : w3.heap.size < w4.heap.size := Nat.lt_of_lt_of_le z3 b4.size
   have z5 : w2.heap.size < w4.heap.size := Nat.lt_trans z2 z4
   clear bW3 y0 z3 b4 q10 q11 HTK
   go_wp2_with fail
   refine (HTS.out _ b34).mono ?_
   rintro e w5 ⟨rfl, b5⟩
   have b35 := zg (w := w3) b34 b5
   have y30 := (((za7 b5).1 _ _ z4).trans y20)
   have y31 := (((za7 b5).1 _ _ z4).trans y21)
   have z6 : w3.heap.size < w5.heap.size := Nat.lt_of_lt_of_le z4 b5.size
   clear b34 q20 q21 y20 y21 z4 z5 b5 HTS
   have B5 := zg B3 b35
   by_cases h3 : 3000 < 2 * t.size + 1
   · have h3' : (3000 : Int) < 2 * (t.size : Int) + 1 := by omega
     go_wp2_with fail
     go_ret
     exact ⟨rfl, B5⟩
   have h3' : ¬ (3000 : Int) < 2 * (t.size : Int) + 1 := by omega
   obtain ⟨ks, N, e1, e2, e3⟩ := zoi HX.out.1 HX.out.2 (by omega)
   have HI2 := HI.out (t ++ ⟨#[10]⟩ ++ t) w5 (by simp only [ByteArray.size_append, show (⟨#[10]⟩ : ByteArray).size = 1 from rfl]; omega) B5
   rw [e3] at HI2
   have HI3 : Hid (Calls Tryz.prog 6 #[.string (t ++ ⟨#[10]⟩ ++ t)] w5 (PaA w5 (((2 * N.length : Nat) : Int), (N ++ N.map (mvN N.length)) ++ [⟨21, eT, 0, ks ++ mvK N.length ks⟩], 0, 0))) := HI2
   clear HI2 e3 HI HX
   subst e1 e2
   go_wp2_with fail
   refine HI3.out.mono ?_
   rintro e w6 ⟨a3, c3, kv3, rfl, n3, b6⟩
   simp only at n3 b6 ⊢
   have b36 := zg (w := w3) b35 b6
   have B6 := zg B3 b36
   obtain ⟨g3, o3, ka3, kc3, rfl, lg3, u3⟩ := zix n3.knF
   obtain ⟨g2, o2, ka2, kc2, rfl, lg2, u2⟩ := zix (N2.out.below b36 (Nat.le_refl _))
   have y40 := (((za7 b6).1 _ _ z6).trans y30)
   have y41 := (((za7 b6).1 _ _ z6).trans y31)
   have z7 : w3.heap.size < w6.heap.size := Nat.lt_of_lt_of_le z6 b6.size
   have lg2' : g2 < w6.heap.size := Nat.lt_of_lt_of_le lg2 b36.size
   have hK0 : ks.length <= 1048576 := by
    have h := KB.out N.length (by simp)
    rw [List.getD_eq_getElem?_getD, List.getElem?_append_right (Nat.le_refl _)] at h
    simpa [knd] using h
   have hL2 : (N ++ [(⟨21, eT, 0, ks⟩ : KnL)]).length = N.length + 1 := by simp
   have hL3 : ((N ++ N.map (mvN N.length)) ++ [(⟨21, eT, 0, ks ++ mvK N.length ks⟩ : KnL)]).length = 2 * N.length + 1 := by simp; omega
   have hM3 : (N ++ N.map (mvN N.length)).length = 2 * N.length := by simp; omega
   have hK3 : (ks ++ mvK N.length ks).length = 2 * ks.length := by simp [mvK]; omega
   rw [hL2] at y40 kb1
   rw [hM3, hK3] at u3
   simp only [hL2, hL3]
   clear y30 y31 z6 b6 n3 HI3 N2 b35 B5 KB hP hL2 hL3 hM3 hK3
   generalize N.length = m at *
   generalize ks.length = K2 at *
   generalize hK : 2 * K2 = K3 at *
   generalize hm : 2 * m = m3 at *
   generalize hl2 : m + 1 = L2 at *
   generalize hl3 : m3 + 1 = L3 at *
   have f1 : ((L3 : Int) == 2 * (L2 : Int) - 1) = true := by simp; omega
   have f2 : ((K3 : Int) == 2 * (K2 : Int)) = true := by simp; omega
   have f3 : (m : Int) < (L2 : Int) := by omega
   have f4 : (m3 : Int) < (L3 : Int) := by omega
   have f5 : (L3 : Int) <= 70000 := by omega
   have f6 : (L2 : Int) <= 30000 := by omega
   have f7 : (K2 : Int) <= 1048576 := by omega
   have f8 : IntKind.i64.wrap (2 * (L2 : Int)) = 2 * (L2 : Int) := by rw [IntKind.wrap_i64]; omega
   have f9 : IntKind.i64.wrap (2 * (L2 : Int) - 1) = 2 * (L2 : Int) - 1 := by rw [IntKind.wrap_i64]; omega
   have f10 : IntKind.i64.wrap (2 * (K2 : Int)) = 2 * (K2 : Int) := by rw [IntKind.wrap_i64]; omega
   go_wp2_with fail
   obtain ⟨W6, hW6⟩ : ∃ W, W = w6.alloc (.cells #[.slice (some ⟨g3, o3, none⟩) L3 c3, .int .i64 (m3 : Int)] 27) := ⟨_, rfl⟩
   have bW6 : Below w6.heap.size w6 W6 := by rw [hW6]; exact (Below.refl _ _).alloc (Nat.le_refl _) _
   have v0 : W6.cell? ⟨w6.heap.size, 0, none⟩ = some (.slice (some ⟨g3, o3, none⟩) L3 c3) := by rw [hW6]; simp [go_sem]
   have v1 : W6.cell? ⟨w6.heap.size, 1, none⟩ = some (.int .i64 (m3 : Int)) := by rw [hW6]; simp [go_sem]
   rw [<- hW6]
   clear hW6
   have y50 := (((za7 bW6).1 _ _ z7).trans y40)
   have y51 := (((za7 bW6).1 _ _ z7).trans y41)
   have s3 := (((za7 bW6).1 _ _ lg3).trans u3)
   have s2 := (((za7 bW6).1 _ _ lg2').trans u2)
   have B7 := zg B6 bW6
   clear y40 y41 u3 u2 bW6 b36 B6
   go_quiet (fail)
   go_wp2_with fail
   go_ret
   exact ⟨rfl, below_drewN B7 _⟩
 · have hns := HNIL.out hc0
   subst hns
   clear HNIL HCD N2 N12 KB kb1 HI
   go_wp2_with fail
   go_ret
   exact ⟨rfl, B3.alloc B3.size _⟩
end Go.Proofs.YtiglkhkfbgjjoaaGreatDoor
