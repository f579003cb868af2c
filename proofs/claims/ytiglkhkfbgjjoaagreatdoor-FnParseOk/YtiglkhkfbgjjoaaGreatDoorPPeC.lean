/- - -/
import Derived.Test.YtiglkhkfbgjjoaaGreatDoorPPaQ
import Derived.Test.YtiglkhkfbgjjoaaGreatDoorPLxU
namespace Go.Proofs.YtiglkhkfbgjjoaaGreatDoor
set_option maxRecDepth 20000
open Go.RowKit Go.PlainAid
set_option linter.unusedSimpArgs false
set_option linter.unusedVariables false
section
variable (ts R : List za) (en en2 : Nat)
theorem zjx {s : PS} (h : s.i < ts.length) : (ts ++ R)[s.i]? = ts[s.i]? := List.getElem?_append_left h
theorem zbg {s : PS} (h : s.i < ts.length) (b : ByteArray) : isN (ts ++ R) b s = isN ts b s := by unfold isN; rw [zjx ts R h]
theorem zu9 {s : PS} (h : s.i < ts.length) (k : Int) : kdN (ts ++ R) k s = kdN ts k s := by unfold kdN; rw [zjx ts R h]
theorem zuk {s : PS} (h : s.i < ts.length) : zi (ts ++ R) s = zi ts s := by unfold zi; rw [zjx ts R h]
theorem zul {s : PS} (h : s.i < ts.length) : zy (ts ++ R) s = zy ts s := by unfold zy; rw [zbg ts R h, zbg ts R h, zbg ts R h]
theorem zdp {b : ByteArray} {s s' : PS} (h : zaw ts en b s = .ok s') : zaw (ts ++ R) en2 b s = .ok s' /\ s.i < ts.length /\ s'.i = s.i + 1 := by
 obtain ⟨rfl, hb⟩ := zax ts en h
 have hl := zar ts hb
 unfold zaw
 rw [zbg ts R hl, hb]
 exact ⟨rfl, hl, rfl⟩
theorem zhw {nm : ByteArray} {s s' : PS} (h : zbf ts en s = .ok (nm, s')) : zbf (ts ++ R) en2 s = .ok (nm, s') /\ s.i < ts.length /\ s'.i = s.i + 1 := by
 obtain ⟨rfl, x, hx, hk, e⟩ := zef ts en h
 have hl := (List.getElem?_eq_some_iff.1 hx).1
 unfold zbf
 rw [zjx ts R hl, hx]
 simp only [hk, if_true, e]
 exact ⟨trivial, hl, rfl⟩
theorem zk8 {s s' : PS} (h : zco ts en s = .ok s') : zco (ts ++ R) en2 s = .ok s' /\ s'.i = s.i := by
 obtain ⟨rfl, hd⟩ := zb5 ts en h
 unfold zco
 rw [if_neg hd]
 exact ⟨rfl, rfl⟩
structure PrR (r r2 : Rd) : Prop where
 wh : ∀ {s v s'}, r.wh s = .ok (v, s') -> s'.i < ts.length -> r2.wh s = .ok (v, s')
 lv : ∀ {n s v s'}, r.lv n s = .ok (v, s') -> s'.i < ts.length -> r2.lv n s = .ok (v, s')
 tn : ∀ {s v s'}, r.tn s = .ok (v, s') -> s'.i < ts.length -> r2.tn s = .ok (v, s')
 bl : ∀ {s v s'}, r.bl s = .ok (v, s') -> r2.bl s = .ok (v, s')
 st : ∀ {s v s'}, r.st s = .ok (v, s') -> r2.st s = .ok (v, s')
theorem zjy {k : Int} {t : ByteArray} {i : Int} {ks : List Int} {s1 : PS} {v : Int} {s' : PS} (h : (Except.ok (zb k t i ks s1) : Except (Int × Int) (Int × PS)) = .ok (v, s')) : s'.i = s1.i := by
 injection h with h
 rw [Prod.ext_iff] at h
 have : s' = (zb k t i ks s1).2 := h.2.symm
 rw [this]
 rfl
theorem zva {s s' : PS} {v : Int} (h : paP ts en s = .ok (v, s')) : paP (ts ++ R) en2 s = .ok (v, s') := by
 unfold paP at h ⊢
 split at h
 · cases h
 · rename_i nm s1 h1
   rw [(zhw ts R en en2 h1).1]
   exact h
theorem zrv {rd rd2 : PS -> Except (Int × Int) (Int × PS)} (hr : ∀ {s v s'}, rd s = .ok (v, s') -> s'.i < ts.length -> rd2 s = .ok (v, s')) (e : ByteArray) : ∀ (n m : Nat), n <= m -> ∀ {ks ks' : List Int} {s s' : PS}, lsL ts en rd e n ks s = .ok (ks', s') -> lsL (ts ++ R) en2 rd2 e m ks s = .ok (ks', s')
 | 0, m, _, ks, ks', s, s', h => by cases h
 | n + 1, 0, hm, ks, ks', s, s', h => by omega
 | n + 1, m + 1, hm, ks, ks', s, s', h => by
   unfold lsL at h ⊢
   split at h
   · cases h
   · rename_i v s1 h1
     split at h
     · rename_i he
       have hl := zar ts he
       rw [hr h1 hl]
       simp only [zbg ts R hl, he, if_true]
       exact h
     · rename_i he
       split at h
       · cases h
       · rename_i s2 h2
         obtain ⟨w1, w2, _⟩ := zdp ts R en en2 h2
         rw [hr h1 w2]
         simp only [zbg ts R w2, he, if_false, w1, Bool.false_eq_true]
         exact zrv hr e n m (by omega) h
theorem zn1 {rd rd2 : PS -> Except (Int × Int) (Int × PS)} (hr : ∀ {s v s'}, rd s = .ok (v, s') -> s'.i < ts.length -> rd2 s = .ok (v, s')) (ha : ∀ {s v s'}, rd s = .ok (v, s') -> s.i < s'.i /\ s'.i <= ts.length) {e : ByteArray} {n m : Nat} (hm : n <= m) {ks : List Int} {s s' : PS} (h : lsP ts en rd e n s = .ok (ks, s')) : lsP (ts ++ R) en2 rd2 e m s = .ok (ks, s') := by
 unfold lsP at h ⊢
 split at h
 · rename_i he
   rw [zbg ts R (zar ts he), he]
   exact h
 · rename_i he
   have hl : s.i < ts.length := by
    cases n with
    | zero => cases h
    | succ n =>
      unfold lsL at h
      split at h
      · cases h
      · rename_i v s1 h1
        have := ha h1
        omega
   rw [zbg ts R hl, if_neg he]
   exact zrv ts R en en2 hr e n m hm h
theorem zmy {r r2 : Rd} (hr : PrR ts r r2) {k : Int} {s s' : PS} {v : Int} (h : zv ts en r k s = .ok (v, s')) (hs : s'.i < ts.length) : zv (ts ++ R) en2 r2 k s = .ok (v, s') := by
 unfold zv at h ⊢
 split at h
 · cases h
 · rename_i s1 h1
   rw [(zdp ts R en en2 h1).1]
   split at h
   · cases h
   · rename_i e s2 h2
     have := zjy h
     simp only [hr.wh h2 (by omega)]
     exact h
theorem zvb {r r2 : Rd} (hr : PrR ts r r2) (ho : zk ts r) {s s' : PS} {v : Int} (h : fdP ts en r s = .ok (v, s')) (hs : s'.i < ts.length) : fdP (ts ++ R) en2 r2 s = .ok (v, s') := by
 have hok := (zcr ts en ho h).1.1
 have hl : s.i < ts.length := by omega
 have hl2 : (adv s).i < ts.length := by show s.i + 1 < ts.length; omega
 unfold fdP at h ⊢
 rw [zbg ts R hl, zu9 ts R hl, zbg ts R hl2]
 split at h
 · rename_i hb
   rw [if_pos hb]
   split at h
   · cases h
   · rename_i k s1 h1
     split at h
     · cases h
     · rename_i s2 h2
       obtain ⟨w1, w2, _⟩ := zdp ts R en en2 h2
       rw [hr.wh h1 w2]
       simp only [w1]
       exact zmy ts R en en2 hr h hs
 · rename_i hb
   rw [if_neg hb]
   split at h
   · rename_i hk
     rw [if_pos hk]
     split at h
     · cases h
     · rename_i nm s1 h1
       rw [(zhw ts R en en2 h1).1]
       exact zmy ts R en en2 hr h hs
   · rename_i hk
     rw [if_neg hk]
     split at h
     · cases h
     · rename_i e s1 h1
       have := zjy h
       rw [hr.wh h1 (by omega)]
       exact h
theorem zpn {rd : PS -> Except (Int × Int) (Int × PS)} (ha : ∀ {s v s'}, rd s = .ok (v, s') -> s.i < s'.i /\ s'.i <= ts.length) (e : ByteArray) : ∀ (n : Nat) {ks ks' : List Int} {s s' : PS}, lsL ts en rd e n ks s = .ok (ks', s') -> s.i <= s'.i
 | 0, ks, ks', s, s', h => by cases h
 | n + 1, ks, ks', s, s', h => by
   unfold lsL at h
   split at h
   · cases h
   · rename_i v s1 h1
     have := ha h1
     split at h
     · injection h with h
       simp only [Prod.mk.injEq] at h
       rw [<- h.2]
       show s.i <= s1.i + 1
       omega
     · split at h
       · cases h
       · rename_i s2 h2
         have h3 := zpn ha e n h
         obtain ⟨e2, _⟩ := zax ts en h2
         subst e2
         have h3' : s1.i + 1 <= s'.i := h3
         omega
theorem zum {rd : PS -> Except (Int × Int) (Int × PS)} (ha : ∀ {s v s'}, rd s = .ok (v, s') -> s.i < s'.i /\ s'.i <= ts.length) {e : ByteArray} {n : Nat} {ks : List Int} {s s' : PS} (h : lsP ts en rd e n s = .ok (ks, s')) : s.i <= s'.i := by
 unfold lsP at h
 split at h
 · injection h with h
   simp only [Prod.mk.injEq] at h
   rw [<- h.2]
   show s.i <= s.i + 1
   omega
 · exact zpn ts en ha e n h
theorem zhx {r : Rd} (ho : zk ts r) : ∀ (n : Nat) {a : Int} {s s' : PS} {v : Int}, bhP ts en r n a s = .ok (v, s') -> s.i <= s'.i
 | 0, a, s, s', v, h => by cases h
 | n + 1, a, s, s', v, h => by
   unfold bhP at h
   split at h
   · split at h
     · cases h
     · rename_i ks s1 h1
       have h2 := zum ts en (fun h => ⟨(ho.wh h).1.1, (ho.wh h).1.2.1⟩) h1
       have h3 := zhx ho n h
       have h2' : s.i + 1 <= s1.i := h2
       have h3' : s1.i <= s'.i := h3
       omega
   · split at h
     · split at h
       · cases h
       · rename_i k s1 h1
         split at h
         · cases h
         · rename_i s2 h2
           have h3 := zhx ho n h
           obtain ⟨e2, _⟩ := zax ts en h2
           subst e2
           have h4 : s.i + 1 < s1.i := (ho.wh h1).1.1
           have h3' : s1.i + 1 <= s'.i := h3
           omega
     · split at h
       · split at h
         · cases h
         · rename_i nm s1 h1
           have h3 := zhx ho n h
           obtain ⟨e2, _⟩ := zef ts en h1
           subst e2
           have h3' : s.i + 1 + 1 <= s'.i := h3
           omega
       · injection h with h
         simp only [Prod.mk.injEq] at h
         rw [<- h.2]
         exact Nat.le_refl _
theorem zjz {r r2 : Rd} (hr : PrR ts r r2) (ho : zk ts r) : ∀ (n m : Nat), n <= m -> ∀ {a : Int} {s s' : PS} {v : Int}, bhP ts en r n a s = .ok (v, s') -> s'.i < ts.length -> bhP (ts ++ R) en2 r2 m a s = .ok (v, s')
 | 0, m, _, a, s, s', v, h, _ => by cases h
 | n + 1, 0, hm, a, s, s', v, h, _ => by omega
 | n + 1, m + 1, hm, a, s, s', v, h, hs => by
   have hl : s.i < ts.length := Nat.lt_of_le_of_lt (zhx ts en ho _ h) hs
   unfold bhP at h ⊢
   rw [zbg ts R hl, zbg ts R hl, zbg ts R hl]
   split at h
   · rename_i hb
     rw [if_pos hb]
     split at h
     · cases h
     · rename_i ks s1 h1
       rw [zn1 ts R en en2 hr.wh (fun h => ⟨(ho.wh h).1.1, (ho.wh h).1.2.1⟩) (by simp) h1]
       exact zjz hr ho n m (by omega) h hs
   · rename_i hb
     rw [if_neg hb]
     split at h
     · rename_i hb2
       rw [if_pos hb2]
       split at h
       · cases h
       · rename_i k s1 h1
         split at h
         · cases h
         · rename_i s2 h2
           obtain ⟨w1, w2, _⟩ := zdp ts R en en2 h2
           rw [hr.wh h1 w2]
           simp only [w1]
           exact zjz hr ho n m (by omega) h hs
     · rename_i hb2
       rw [if_neg hb2]
       split at h
       · rename_i hb3
         rw [if_pos hb3]
         split at h
         · cases h
         · rename_i nm s1 h1
           rw [(zhw ts R en en2 h1).1]
           exact zjz hr ho n m (by omega) h hs
       · rename_i hb3
         rw [if_neg hb3]
         exact h
theorem zvc {s : PS} {x : za} (h : ts[s.i]? = some x) : (ts ++ R)[s.i]? = some x := by rw [List.getElem?_append_left (List.getElem?_eq_some_iff.1 h).1]; exact h
theorem zun {r r2 : Rd} (hr : PrR ts r r2) (ho : zk ts r) {s s' : PS} {v : Int} (h : zu ts en r s = .ok (v, s')) : zu (ts ++ R) en2 r2 s = .ok (v, s') := by
 unfold zu at h ⊢
 split at h
 · cases h
 rename_i x hx
 rw [zvc ts R hx]
 simp only
 split at h
 · rename_i c; rw [if_pos c]; exact h
 rename_i c0; rw [if_neg c0]
 split at h
 · rename_i c; rw [if_pos c]; exact h
 rename_i c1; rw [if_neg c1]
 split at h
 · rename_i c; rw [if_pos c]; exact h
 rename_i c2; rw [if_neg c2]
 split at h
 · rename_i c; rw [if_pos c]; exact h
 rename_i c3; rw [if_neg c3]
 split at h
 · rename_i c; rw [if_pos c]; exact h
 rename_i c4; rw [if_neg c4]
 split at h
 · rename_i c; rw [if_pos c]; exact h
 rename_i c5; rw [if_neg c5]
 split at h
 · rename_i c; rw [if_pos c]
   split at h
   · cases h
   rename_i s1 h1
   rw [(zdp ts R en en2 h1).1]
   simp only
   split at h
   · cases h
   rename_i ks s2 h2
   rw [zn1 ts R en en2 (fun h _ => zva ts R en en2 h) (fun h => ⟨(zcz ts en h).1.1, (zcz ts en h).1.2.1⟩) (by simp) h2]
   simp only
   split at h
   · cases h
   rename_i b s3 h3
   rw [hr.bl h3]
   exact h
 rename_i c6; rw [if_neg c6]
 split at h
 · rename_i c; rw [if_pos c]
   split at h
   · cases h
   rename_i ks s1 h1
   rw [zn1 ts R en en2 (zvb ts R en en2 hr ho) (fun h => ⟨(zcr ts en ho h).1.1, (zcr ts en ho h).1.2.1⟩) (by simp) h1]
   exact h
 rename_i c7; rw [if_neg c7]
 split at h
 · rename_i c; rw [if_pos c]
   split at h
   · cases h
   rename_i w s1 h1
   split at h
   · cases h
   rename_i s2 h2
   obtain ⟨w1, w2, _⟩ := zdp ts R en en2 h2
   rw [hr.wh h1 w2]
   simp only [w1]
   exact h
 · cases h
theorem zrw {r r2 : Rd} (hr : PrR ts r r2) (ho : zk ts r) {s s' : PS} {v : Int} (h : tnP ts en r s = .ok (v, s')) (hs : s'.i < ts.length) : tnP (ts ++ R) en2 r2 s = .ok (v, s') := by
 have hl : s.i < ts.length := by have := (zf2 ts en ho h).1.1; omega
 unfold tnP at h ⊢
 rw [zul ts R hl]
 split at h
 · rename_i c; rw [if_pos c]
   split at h
   · cases h
   rename_i a s1 h1
   rw [zun ts R en en2 hr ho h1]
   exact zjz ts R en en2 hr ho _ _ (by simp) h hs
 · rename_i c; rw [if_neg c]
   split at h
   · cases h
   rename_i s1 h1
   rw [(zk8 ts R en en2 h1).1]
   simp only
   split at h
   · cases h
   rename_i e s2 h2
   have h3 : s'.i = s2.i := by
    injection h with h
    simp only [Prod.mk.injEq] at h
    rw [<- h.2]
    rfl
   rw [hr.tn h2 (by omega)]
   exact h
theorem zhy {r : Rd} (ho : zk ts r) {level : Nat} : ∀ (n : Nat) {a : Int} {s s' : PS} {v : Int}, mlp ts r level n a s = .ok (v, s') -> s.i <= s'.i
 | 0, a, s, s', v, h => by cases h
 | n + 1, a, s, s', v, h => by
   unfold mlp at h
   split at h
   · split at h
     · cases h
     · rename_i b s1 h1
       have h2 : s.i + 1 < s1.i := (ho.lv h1).1.1
       split at h
       · have := zjy h
         omega
       · have h3 := zhy ho n h
         have h3' : s1.i <= s'.i := h3
         omega
   · injection h with h
     simp only [Prod.mk.injEq] at h
     rw [<- h.2]
     exact Nat.le_refl _
theorem zis {r : Rd} (ho : zk ts r) (lv : Nat) : ∀ (m : Nat) {a : Int} {s s' : PS} {v : Int}, zaj ts r lv m a s = .ok (v, s') -> s.i <= s'.i
 | 0, a, s, s', v, h => by
   injection h with h
   simp only [Prod.mk.injEq] at h
   rw [<- h.2]
   exact Nat.le_refl _
 | m + 1, a, s, s', v, h => by
   unfold zaj at h
   split at h
   · injection h with h
     simp only [Prod.mk.injEq] at h
     rw [<- h.2]
     exact Nat.le_refl _
   · split at h
     · cases h
     · rename_i b s1 h1
       have h2 := zhy ts ho _ h1
       have h3 := zis ho lv m h
       omega
theorem zrx {r r2 : Rd} (hr : PrR ts r r2) (ho : zk ts r) {level : Nat} : ∀ (n m : Nat), n <= m -> ∀ {a : Int} {s s' : PS} {v : Int}, mlp ts r level n a s = .ok (v, s') -> s'.i < ts.length -> mlp (ts ++ R) r2 level m a s = .ok (v, s')
 | 0, m, _, a, s, s', v, h, _ => by cases h
 | n + 1, 0, hm, a, s, s', v, h, _ => by omega
 | n + 1, m + 1, hm, a, s, s', v, h, hs => by
   have hl : s.i < ts.length := Nat.lt_of_le_of_lt (zhy ts ho _ h) hs
   unfold mlp at h ⊢
   rw [zuk ts R hl]
   split at h
   · rename_i c; rw [if_pos c]
     split at h
     · cases h
     · rename_i b s1 h1
       split at h
       · rename_i c3
         have := zjy h
         rw [hr.lv h1 (by omega)]
         simp only [c3, if_true]
         exact h
       · rename_i c3
         have h3 := zhy ts ho n h
         have h3' : s1.i <= s'.i := h3
         rw [hr.lv h1 (by omega)]
         simp only [c3, if_false]
         exact zrx hr ho n m (by omega) h hs
   · rename_i c; rw [if_neg c]
     exact h
theorem zpo {r r2 : Rd} (hr : PrR ts r r2) (ho : zk ts r) (lv : Nat) : ∀ (m : Nat) {a : Int} {s s' : PS} {v : Int}, zaj ts r lv m a s = .ok (v, s') -> s'.i < ts.length -> zaj (ts ++ R) r2 lv m a s = .ok (v, s')
 | 0, a, s, s', v, h, _ => h
 | m + 1, a, s, s', v, h, hs => by
   unfold zaj at h ⊢
   split at h
   · rename_i c; rw [if_pos c]; exact h
   · rename_i c; rw [if_neg c]
     split at h
     · cases h
     · rename_i b s1 h1
       have h3 := zis ts ho lv m h
       rw [zrx ts R hr ho (ts.length + 1) ((ts ++ R).length + 1) (by simp) h1 (by omega)]
       exact zpo hr ho lv m h hs
theorem zry {r r2 : Rd} (hr : PrR ts r r2) (ho : zk ts r) {n : Nat} {s s' : PS} {v : Int} (h : lvP ts en r n s = .ok (v, s')) (hs : s'.i < ts.length) : lvP (ts ++ R) en2 r2 n s = .ok (v, s') := by
 unfold lvP at h ⊢
 split at h
 · cases h
 · rename_i a s1 h1
   have h3 := zis ts ho n _ h
   rw [zrw ts R en en2 hr ho h1 (by omega)]
   exact zpo ts R hr ho n _ h hs
theorem zrz {r r2 : Rd} (hr : PrR ts r r2) (ho : zk ts r) {s s' : PS} {v : Int} (h : whP ts en r s = .ok (v, s')) (hs : s'.i < ts.length) : whP (ts ++ R) en2 r2 s = .ok (v, s') := by
 unfold whP at h ⊢
 split at h
 · cases h
 rename_i s1 h1
 rw [(zk8 ts R en en2 h1).1]
 simp only
 split at h
 · cases h
 rename_i a s2 h2
 have h3 : s'.i = s2.i := by
  injection h with h
  simp only [Prod.mk.injEq] at h
  rw [<- h.2]
  rfl
 rw [zry ts R en en2 hr ho h2 (by omega)]
 exact h
theorem zr0 {r r2 : Rd} (hr : PrR ts r r2) (ho : zk ts r) : ∀ (n m : Nat), n <= m -> ∀ {ks ks' : List Int} {s s' : PS}, bsP ts r n ks s = .ok (ks', s') -> bsP (ts ++ R) r2 m ks s = .ok (ks', s')
 | 0, m, _, ks, ks', s, s', h => by cases h
 | n + 1, 0, hm, ks, ks', s, s', h => by omega
 | n + 1, m + 1, hm, ks, ks', s, s', h => by
   unfold bsP at h ⊢
   split at h
   · rename_i he
     rw [zbg ts R (zar ts he), he]
     exact h
   · rename_i he
     split at h
     · cases h
     · rename_i v s1 h1
       have h2 := (ho.st h1).1.1
       have h3 := (ho.st h1).1.2.1
       rw [zbg ts R (show s.i < ts.length by omega), if_neg he, hr.st h1]
       exact zr0 hr ho n m (by omega) h
theorem zvd {r r2 : Rd} (hr : PrR ts r r2) (ho : zk ts r) {s s' : PS} {v : Int} (h : blP ts en r s = .ok (v, s')) : blP (ts ++ R) en2 r2 s = .ok (v, s') := by
 unfold blP at h ⊢
 split at h
 · cases h
 rename_i s1 h1
 rw [(zk8 ts R en en2 h1).1]
 simp only
 split at h
 · cases h
 rename_i s2 h2
 rw [(zdp ts R en en2 h2).1]
 simp only
 split at h
 · cases h
 rename_i ks s3 h3
 rw [zr0 ts R hr ho (ts.length + 1) ((ts ++ R).length + 1) (by simp) h3]
 exact h
theorem zj0 {r r2 : Rd} (hr : PrR ts r r2) {s s' : PS} {v : Int} (h : laP ts en r s = .ok (v, s')) : laP (ts ++ R) en2 r2 s = .ok (v, s') := by
 unfold laP at h ⊢
 split at h
 · cases h
 rename_i e s1 h1
 split at h
 · cases h
 rename_i s2 h2
 obtain ⟨w1, w2, _⟩ := zdp ts R en en2 h2
 rw [hr.wh h1 w2]
 simp only [w1]
 exact h
theorem zuo {r r2 : Rd} (hr : PrR ts r r2) (ho : zk ts r) {s s' : PS} {v : Int} (h : za9 ts en r s = .ok (v, s')) : za9 (ts ++ R) en2 r2 s = .ok (v, s') := by
 unfold za9 at h
 split at h
 · cases h
 rename_i e s1 h1
 split at h
 · cases h
 rename_i x hx
 have fin : s1.i < ts.length -> za9 (ts ++ R) en2 r2 s = if x.k = 9 /\ isN ts ⟨#[59]⟩ s1 = true then .ok (zb 20 eT 0 [e] (adv s1))
  else if x.k = 5 /\ isN ts ⟨#[61]⟩ s1 = true then match laP (ts ++ R) en2 r2 ⟨s1.i + 1, s1.d, s1.ns.take e.toNat⟩ with
   | .error x => .error x
   | .ok (v, s2) => .ok (zb 15 x.t 0 [v] s2)
  else if x.k = 8 /\ isN ts ⟨#[61]⟩ s1 = true then match laP (ts ++ R) en2 r2 ⟨s1.i + 1, s1.d, s1.ns.take e.toNat⟩ with
   | .error x => .error x
   | .ok (v, s2) => .ok (zb 16 eT 0 (x.ks ++ [v]) s2)
  else .error (fh (ts ++ R) en2 2 s1) := fun hl => by
  unfold za9
  rw [zrz ts R en en2 hr ho h1 hl]
  simp only [hx]
  rw [zbg ts R hl, zbg ts R hl]
  rfl
 split at h
 · rename_i c
   rw [fin (zar ts c.2), if_pos c]
   exact h
 rename_i c1
 split at h
 · rename_i c
   rw [fin (zar ts c.2), if_neg c1, if_pos c]
   split at h
   · cases h
   rename_i w s2 h2
   rw [zj0 ts R en en2 hr h2]
   exact h
 rename_i c2
 split at h
 · rename_i c
   rw [fin (zar ts c.2), if_neg c1, if_neg c2, if_pos c]
   split at h
   · cases h
   rename_i w s2 h2
   rw [zj0 ts R en en2 hr h2]
   exact h
 · cases h
theorem zve (hE : ∀ x, R[0]? = some x -> isT x ⟨#[101, 108, 115, 101]⟩ = false) {r r2 : Rd} (hr : PrR ts r r2) (ho : zk ts r) {s s' : PS} {v : Int} (h : stP ts en r s = .ok (v, s')) : stP (ts ++ R) en2 r2 s = .ok (v, s') := by
 have hl : s.i < ts.length := by have := (zou ts en ho h).1; have h1 := this.1; have h2 := this.2.1; omega
 unfold stP at h ⊢
 rw [zbg ts R hl, zbg ts R hl, zbg ts R hl, zbg ts R hl]
 split at h
 · rename_i c; rw [if_pos c]
   split at h
   · cases h
   rename_i nm s1 h1
   rw [(zhw ts R en en2 h1).1]
   simp only
   split at h
   · cases h
   rename_i s2 h2
   rw [(zdp ts R en en2 h2).1]
   simp only
   split at h
   · cases h
   rename_i e s3 h3
   rw [zj0 ts R en en2 hr h3]
   exact h
 rename_i c0; rw [if_neg c0]
 split at h
 · rename_i c; rw [if_pos c]
   split at h
   · cases h
   rename_i e s1 h1
   split at h
   · cases h
   rename_i b s2 h2
   have h3 := (ho.bl h2).1.1
   have h4 := (ho.bl h2).1.2.1
   rw [hr.wh h1 (by omega)]
   simp only [hr.bl h2]
   have he : isN (ts ++ R) ⟨#[101, 108, 115, 101]⟩ s2 = isN ts ⟨#[101, 108, 115, 101]⟩ s2 := by
    rcases Nat.lt_or_ge s2.i ts.length with q | q
    · exact zbg ts R q _
    · have e2 : s2.i = ts.length := by omega
      unfold isN
      rw [e2, List.getElem?_append_right (Nat.le_refl _), Nat.sub_self, List.getElem?_eq_none (Nat.le_refl _)]
      cases hR : R[0]? with
      | none => rfl
      | some x => exact hE x hR
   rw [he]
   split at h
   · rename_i c2; rw [if_pos c2]
     split at h
     · cases h
     rename_i c s3 h3
     rw [hr.bl h3]
     exact h
   · rename_i c2; rw [if_neg c2]
     exact h
 rename_i c1; rw [if_neg c1]
 split at h
 · rename_i c; rw [if_pos c]
   split at h
   · cases h
   rename_i e s1 h1
   split at h
   · cases h
   rename_i b s2 h2
   have h3 := (ho.bl h2).1.1
   have h4 := (ho.bl h2).1.2.1
   rw [hr.wh h1 (by omega)]
   simp only [hr.bl h2]
   exact h
 rename_i c2; rw [if_neg c2]
 split at h
 · rename_i c; rw [if_pos c]
   split at h
   · cases h
   rename_i e s1 h1
   rw [zj0 ts R en en2 hr h1]
   exact h
 rename_i c3; rw [if_neg c3]
 exact zuo ts R en en2 hr ho h
theorem zgl (hE : ∀ x, R[0]? = some x -> isT x ⟨#[101, 108, 115, 101]⟩ = false) : ∀ n m, n <= m -> PrR ts (rds ts en n) (rds (ts ++ R) en2 m)
 | 0, m, _ => ⟨fun h => (by cases h), fun h => (by cases h), fun h => (by cases h), fun h => (by cases h), fun h => (by cases h)⟩
 | n + 1, 0, h => by omega
 | n + 1, m + 1, h => ⟨zrz ts R en en2 (zgl hE n m (by omega)) (zav ts en n), zry ts R en en2 (zgl hE n m (by omega)) (zav ts en n), zrw ts R en en2 (zgl hE n m (by omega)) (zav ts en n), zvd ts R en en2 (zgl hE n m (by omega)) (zav ts en n), zve ts R en en2 hE (zgl hE n m (by omega)) (zav ts en n)⟩
theorem zr1 {r r2 : Rd} (hr : PrR ts r r2) (ho : zk ts r) : ∀ (n : Nat) {ks ks' : List Int} {s s' : PS} (m : Nat), tpP ts r n ks s = .ok (ks', s') -> ts.length - s.i <= m -> ∃ m', tpP (ts ++ R) r2 m ks s = tpP (ts ++ R) r2 m' ks' s' /\ m <= m' + (ts.length - s.i) /\ s'.i = ts.length /\ s'.d = s.d
 | 0, ks, ks', s, s', m, h, _ => by cases h
 | n + 1, ks, ks', s, s', m, h, hm => by
   unfold tpP at h
   split at h
   · rename_i he
     injection h with h
     simp only [Prod.mk.injEq] at h
     obtain ⟨rfl, rfl⟩ := h
     exact ⟨m, rfl, by omega, he, rfl⟩
   · split at h
     · cases h
     · rename_i v s1 h1
       have h2 := (ho.st h1).1.1
       have h3 := (ho.st h1).1.2.1
       have h4 := (ho.st h1).1.2.2.1
       obtain ⟨m1, rfl⟩ : ∃ m1, m = m1 + 1 := ⟨m - 1, by omega⟩
       obtain ⟨m', a1, a2, a3, a4⟩ := zr1 hr ho n m1 h (by omega)
       refine ⟨m', ?_, by omega, a3, by omega⟩
       rw [<- a1]
       conv => lhs; unfold tpP
       rw [if_neg (by simp; omega), hr.st h1]
end
def mvK (off : Nat) (ks : List Int) : List Int := ks.map fun k => k + (off : Int)
def mvN (off : Nat) (x : KnL) : KnL := ⟨x.k, x.t, x.i, mvK off x.ks⟩
def mvS (a : Nat) (N0 : List KnL) (s : PS) : PS := ⟨a + s.i, s.d, N0 ++ s.ns.map (mvN N0.length)⟩
structure MvT (ts T : List za) (a : Nat) : Prop where
 no : ∀ j, ts[j]? = none -> T[a + j]? = none
 yes : ∀ j x, ts[j]? = some x -> ∃ p, T[a + j]? = some ⟨x.k, p, x.tx, x.n⟩
 len : T.length = a + ts.length
section
variable {ts T : List za} {a : Nat} (M : MvT ts T a) (N0 : List KnL) (en en2 : Nat)
include M
theorem zbq (b : ByteArray) (s : PS) : isN T b (mvS a N0 s) = isN ts b s := by
 unfold isN
 show (match T[a + s.i]? with | none => false | some x => isT x b) = _
 cases h : ts[s.i]? with
 | none => rw [M.no _ h]
 | some x =>
   obtain ⟨p, hp⟩ := M.yes _ x h
   rw [hp]
   rfl
theorem zvf (k : Int) (s : PS) : kdN T k (mvS a N0 s) = kdN ts k s := by
 unfold kdN
 show (match T[a + s.i]? with | none => false | some x => x.k == k) = _
 cases h : ts[s.i]? with
 | none => rw [M.no _ h]
 | some x =>
   obtain ⟨p, hp⟩ := M.yes _ x h
   rw [hp]
theorem zup (s : PS) : zi T (mvS a N0 s) = zi ts s := by
 unfold zi
 show (match T[a + s.i]? with | none => (0, 0, 0) | some x => opT x) = _
 cases h : ts[s.i]? with
 | none => rw [M.no _ h]
 | some x =>
   obtain ⟨p, hp⟩ := M.yes _ x h
   rw [hp]
   rfl
theorem zuq (s : PS) : zy T (mvS a N0 s) = zy ts s := by unfold zy; rw [zbq M, zbq M, zbq M]
omit M in
theorem zft (s : PS) : adv (mvS a N0 s) = mvS a N0 (adv s) := rfl
omit M in
theorem zta (s : PS) : (mvS a N0 s).ns.length = N0.length + s.ns.length := by simp [mvS]
omit M in
theorem zk9 (k : Int) (t : ByteArray) (i : Int) (ks : List Int) (s : PS) : zb k t i (mvK N0.length ks) (mvS a N0 s) = ((zb k t i ks s).1 + (N0.length : Int), mvS a N0 (zb k t i ks s).2) := by
 unfold zb mvS
 simp only [List.length_append, List.length_map, List.map_append, List.map_cons, List.map_nil, List.append_assoc, Prod.mk.injEq]
 refine ⟨by omega, rfl⟩
omit M in
theorem zdx (k : Int) (t : ByteArray) (i : Int) (ks : List Int) (s : PS) : (zb k t i (mvK N0.length ks) (mvS a N0 s)).1 = (zb k t i ks s).1 + (N0.length : Int) := by rw [zk9]
omit M in
theorem zdy (k : Int) (t : ByteArray) (i : Int) (ks : List Int) (s : PS) : (zb k t i (mvK N0.length ks) (mvS a N0 s)).2 = mvS a N0 (zb k t i ks s).2 := by rw [zk9]
omit M in
theorem zbi {k : Int} {t : ByteArray} {i : Int} {ks ks2 : List Int} {s1 : PS} {v : Int} {s' : PS} (h : (Except.ok (zb k t i ks s1) : Except (Int × Int) (Int × PS)) = .ok (v, s')) (hk : ks2 = mvK N0.length ks) : (Except.ok (zb k t i ks2 (mvS a N0 s1)) : Except (Int × Int) (Int × PS)) = .ok (v + (N0.length : Int), mvS a N0 s') := by
 injection h with h
 rw [hk, zk9, h]
theorem zdq {b : ByteArray} {s s' : PS} (h : zaw ts en b s = .ok s') : zaw T en2 b (mvS a N0 s) = .ok (mvS a N0 s') := by
 obtain ⟨rfl, hb⟩ := zax ts en h
 unfold zaw
 rw [zbq M, hb]
 rfl
theorem zhz {nm : ByteArray} {s s' : PS} (h : zbf ts en s = .ok (nm, s')) : zbf T en2 (mvS a N0 s) = .ok (nm, mvS a N0 s') := by
 obtain ⟨rfl, x, hx, hk, e⟩ := zef ts en h
 obtain ⟨p, hp⟩ := M.yes _ x hx
 unfold zbf
 show (match T[a + s.i]? with | none => _ | some x => _) = _
 rw [hp]
 simp only [hk, if_true, e]
 rfl
omit M in
theorem zla {s s' : PS} (h : zco ts en s = .ok s') : zco T en2 (mvS a N0 s) = .ok (mvS a N0 s') := by
 obtain ⟨rfl, hd⟩ := zb5 ts en h
 unfold zco
 rw [if_neg (show ¬ (mvS a N0 s).d = 30 from hd)]
 rfl
end
structure ShR (a : Nat) (N0 : List KnL) (r r2 : Rd) : Prop where
 wh : ∀ {s v s'}, r.wh s = .ok (v, s') -> r2.wh (mvS a N0 s) = .ok (v + (N0.length : Int), mvS a N0 s')
 lv : ∀ {n s v s'}, r.lv n s = .ok (v, s') -> r2.lv n (mvS a N0 s) = .ok (v + (N0.length : Int), mvS a N0 s')
 tn : ∀ {s v s'}, r.tn s = .ok (v, s') -> r2.tn (mvS a N0 s) = .ok (v + (N0.length : Int), mvS a N0 s')
 bl : ∀ {s v s'}, r.bl s = .ok (v, s') -> r2.bl (mvS a N0 s) = .ok (v + (N0.length : Int), mvS a N0 s')
 st : ∀ {s v s'}, r.st s = .ok (v, s') -> r2.st (mvS a N0 s) = .ok (v + (N0.length : Int), mvS a N0 s')
theorem zdz (off : Nat) (ks : List Int) (v : Int) : mvK off (ks ++ [v]) = mvK off ks ++ [v + (off : Int)] := by simp [mvK]
section
variable {ts T : List za} {a : Nat} (M : MvT ts T a) {N0 : List KnL} (en en2 : Nat)
include M
theorem zvg {s s' : PS} {v : Int} (h : paP ts en s = .ok (v, s')) : paP T en2 (mvS a N0 s) = .ok (v + (N0.length : Int), mvS a N0 s') := by
 unfold paP at h ⊢
 split at h
 · cases h
 · rename_i nm s1 h1
   rw [zhz M N0 en en2 h1]
   exact zbi N0 h rfl
theorem zr2 {rd rd2 : PS -> Except (Int × Int) (Int × PS)} (hr : ∀ {s v s'}, rd s = .ok (v, s') -> rd2 (mvS a N0 s) = .ok (v + (N0.length : Int), mvS a N0 s')) (e : ByteArray) : ∀ (n m : Nat), n <= m -> ∀ {ks ks' : List Int} {s s' : PS}, lsL ts en rd e n ks s = .ok (ks', s') -> lsL T en2 rd2 e m (mvK N0.length ks) (mvS a N0 s) = .ok (mvK N0.length ks', mvS a N0 s')
 | 0, m, _, ks, ks', s, s', h => by cases h
 | n + 1, 0, hm, ks, ks', s, s', h => by omega
 | n + 1, m + 1, hm, ks, ks', s, s', h => by
   unfold lsL at h ⊢
   split at h
   · cases h
   · rename_i v s1 h1
     rw [hr h1]
     simp only [zbq M]
     split at h
     · rename_i he
       injection h with h
       simp only [Prod.mk.injEq] at h
       obtain ⟨rfl, rfl⟩ := h
       rw [if_pos he, zdz]
       rfl
     · rename_i he
       rw [if_neg he]
       split at h
       · cases h
       · rename_i s2 h2
         rw [zdq M N0 en en2 h2, <- zdz]
         exact zr2 hr e n m (by omega) h
theorem zn2 {rd rd2 : PS -> Except (Int × Int) (Int × PS)} (hr : ∀ {s v s'}, rd s = .ok (v, s') -> rd2 (mvS a N0 s) = .ok (v + (N0.length : Int), mvS a N0 s')) {e : ByteArray} {n m : Nat} (hm : n <= m) {ks : List Int} {s s' : PS} (h : lsP ts en rd e n s = .ok (ks, s')) : lsP T en2 rd2 e m (mvS a N0 s) = .ok (mvK N0.length ks, mvS a N0 s') := by
 unfold lsP at h ⊢
 rw [zbq M]
 split at h
 · rename_i he
   injection h with h
   simp only [Prod.mk.injEq] at h
   obtain ⟨rfl, rfl⟩ := h
   rw [if_pos he]
   rfl
 · rename_i he
   rw [if_neg he]
   exact zr2 M en en2 hr e n m hm h
theorem zmz {r r2 : Rd} (hr : ShR a N0 r r2) {k : Int} {s s' : PS} {v : Int} (h : zv ts en r k s = .ok (v, s')) : zv T en2 r2 (k + (N0.length : Int)) (mvS a N0 s) = .ok (v + (N0.length : Int), mvS a N0 s') := by
 unfold zv at h ⊢
 split at h
 · cases h
 · rename_i s1 h1
   rw [zdq M N0 en en2 h1]
   simp only
   split at h
   · cases h
   · rename_i e s2 h2
     rw [hr.wh h2]
     exact zbi N0 h rfl
theorem zvh {r r2 : Rd} (hr : ShR a N0 r r2) {s s' : PS} {v : Int} (h : fdP ts en r s = .ok (v, s')) : fdP T en2 r2 (mvS a N0 s) = .ok (v + (N0.length : Int), mvS a N0 s') := by
 unfold fdP at h ⊢
 rw [zft, zbq M, zvf M, zbq M]
 split at h
 · rename_i hb
   rw [if_pos hb]
   split at h
   · cases h
   · rename_i k s1 h1
     rw [hr.wh h1]
     simp only
     split at h
     · cases h
     · rename_i s2 h2
       rw [zdq M N0 en en2 h2]
       exact zmz M en en2 hr h
 · rename_i hb
   rw [if_neg hb]
   split at h
   · rename_i hk
     rw [if_pos hk]
     split at h
     · cases h
     · rename_i nm s1 h1
       rw [zhz M N0 en en2 h1]
       simp only
       have e1 := zdx (a := a) N0 4 nm 0 [] s1
       have e2 := zdy (a := a) N0 4 nm 0 [] s1
       rw [show mvK N0.length [] = [] from rfl] at e1 e2
       rw [e1, e2]
       exact zmz M en en2 hr h
   · rename_i hk
     rw [if_neg hk]
     split at h
     · cases h
     · rename_i e s1 h1
       rw [hr.wh h1]
       exact zbi N0 h rfl
theorem zj1 {r r2 : Rd} (hr : ShR a N0 r r2) : ∀ (n m : Nat), n <= m -> ∀ {x : Int} {s s' : PS} {v : Int}, bhP ts en r n x s = .ok (v, s') -> bhP T en2 r2 m (x + (N0.length : Int)) (mvS a N0 s) = .ok (v + (N0.length : Int), mvS a N0 s')
 | 0, m, _, x, s, s', v, h => by cases h
 | n + 1, 0, hm, x, s, s', v, h => by omega
 | n + 1, m + 1, hm, x, s, s', v, h => by
   have hlm : ts.length + 1 <= T.length + 1 := by have := M.len; omega
   unfold bhP at h ⊢
   rw [zft, zbq M, zbq M, zbq M]
   split at h
   · rename_i hb
     rw [if_pos hb]
     split at h
     · cases h
     · rename_i ks s1 h1
       rw [zn2 M en en2 hr.wh hlm h1]
       simp only
       have e1 := zdx (a := a) N0 9 eT 0 (x :: ks) s1
       have e2 := zdy (a := a) N0 9 eT 0 (x :: ks) s1
       rw [show mvK N0.length (x :: ks) = (x + (N0.length : Int)) :: mvK N0.length ks from rfl] at e1 e2
       rw [e1, e2]
       exact zj1 hr n m (by omega) h
   · rename_i hb
     rw [if_neg hb]
     split at h
     · rename_i hb2
       rw [if_pos hb2]
       split at h
       · cases h
       · rename_i k s1 h1
         rw [hr.wh h1]
         simp only
         split at h
         · cases h
         · rename_i s2 h2
           rw [zdq M N0 en en2 h2]
           simp only
           have e1 := zdx (a := a) N0 8 eT 0 [x, k] s2
           have e2 := zdy (a := a) N0 8 eT 0 [x, k] s2
           rw [show mvK N0.length [x, k] = [x + (N0.length : Int), k + (N0.length : Int)] from rfl] at e1 e2
           rw [e1, e2]
           exact zj1 hr n m (by omega) h
     · rename_i hb2
       rw [if_neg hb2]
       split at h
       · rename_i hb3
         rw [if_pos hb3]
         split at h
         · cases h
         · rename_i nm s1 h1
           rw [zhz M N0 en en2 h1]
           simp only
           have d1 := zdx (a := a) N0 4 nm 0 [] s1
           have d2 := zdy (a := a) N0 4 nm 0 [] s1
           rw [show mvK N0.length [] = [] from rfl] at d1 d2
           rw [d1, d2]
           have e1 := zdx (a := a) N0 8 eT 0 [x, (zb 4 nm 0 [] s1).1] (zb 4 nm 0 [] s1).2
           have e2 := zdy (a := a) N0 8 eT 0 [x, (zb 4 nm 0 [] s1).1] (zb 4 nm 0 [] s1).2
           rw [show mvK N0.length [x, (zb 4 nm 0 [] s1).1] = [x + (N0.length : Int), (zb 4 nm 0 [] s1).1 + (N0.length : Int)] from rfl] at e1 e2
           rw [e1, e2]
           exact zj1 hr n m (by omega) h
       · rename_i hb3
         rw [if_neg hb3]
         injection h with h
         simp only [Prod.mk.injEq] at h
         obtain ⟨rfl, rfl⟩ := h
         rfl
theorem zur {r r2 : Rd} (hr : ShR a N0 r r2) {s s' : PS} {v : Int} (h : zu ts en r s = .ok (v, s')) : zu T en2 r2 (mvS a N0 s) = .ok (v + (N0.length : Int), mvS a N0 s') := by
 have hlm : ts.length + 1 <= T.length + 1 := by have := M.len; omega
 unfold zu at h ⊢
 split at h
 · cases h
 rename_i x hx
 obtain ⟨p, hp⟩ := M.yes _ x hx
 have hT : ∀ b, isT ⟨x.k, p, x.tx, x.n⟩ b = isT x b := fun b => rfl
 show (match T[a + s.i]? with | none => _ | some x => _) = _
 rw [hp]
 simp only [hT, zft]
 split at h
 · rename_i c; rw [if_pos c]; exact zbi N0 h rfl
 rename_i c0; rw [if_neg c0]
 split at h
 · rename_i c; rw [if_pos c]; exact zbi N0 h rfl
 rename_i c1; rw [if_neg c1]
 split at h
 · rename_i c; rw [if_pos c]; exact zbi N0 h rfl
 rename_i c2; rw [if_neg c2]
 split at h
 · rename_i c; rw [if_pos c]; exact zbi N0 h rfl
 rename_i c3; rw [if_neg c3]
 split at h
 · rename_i c; rw [if_pos c]; exact zbi N0 h rfl
 rename_i c4; rw [if_neg c4]
 split at h
 · rename_i c; rw [if_pos c]; exact zbi N0 h rfl
 rename_i c5; rw [if_neg c5]
 split at h
 · rename_i c; rw [if_pos c]
   split at h
   · cases h
   rename_i s1 h1
   rw [zdq M N0 en en2 h1]
   simp only
   split at h
   · cases h
   rename_i ks s2 h2
   rw [zn2 M en en2 (zvg M en en2) hlm h2]
   simp only
   split at h
   · cases h
   rename_i b s3 h3
   rw [hr.bl h3]
   exact zbi N0 h (zdz _ _ _).symm
 rename_i c6; rw [if_neg c6]
 split at h
 · rename_i c; rw [if_pos c]
   split at h
   · cases h
   rename_i ks s1 h1
   rw [zn2 M en en2 (zvh M en en2 hr) hlm h1]
   exact zbi N0 h rfl
 rename_i c7; rw [if_neg c7]
 split at h
 · rename_i c; rw [if_pos c]
   split at h
   · cases h
   rename_i w s1 h1
   rw [hr.wh h1]
   simp only
   split at h
   · cases h
   rename_i s2 h2
   rw [zdq M N0 en en2 h2]
   injection h with h
   simp only [Prod.mk.injEq] at h
   obtain ⟨rfl, rfl⟩ := h
   rfl
 · cases h
theorem zr3 {r r2 : Rd} (hr : ShR a N0 r r2) {s s' : PS} {v : Int} (h : tnP ts en r s = .ok (v, s')) : tnP T en2 r2 (mvS a N0 s) = .ok (v + (N0.length : Int), mvS a N0 s') := by
 unfold tnP at h ⊢
 rw [zuq M]
 split at h
 · rename_i c; rw [if_pos c]
   split at h
   · cases h
   rename_i x s1 h1
   rw [zur M en en2 hr h1]
   exact zj1 M en en2 hr _ _ (by have := M.len; omega) h
 · rename_i c; rw [if_neg c]
   split at h
   · cases h
   rename_i s1 h1
   rw [zla N0 en en2 h1]
   simp only [zft]
   split at h
   · cases h
   rename_i e s2 h2
   rw [hr.tn h2]
   simp only
   have e1 := zdx (a := a) N0 11 eT (zy ts s) [e] s2
   have e2 := zdy (a := a) N0 11 eT (zy ts s) [e] s2
   rw [show mvK N0.length [e] = [e + (N0.length : Int)] from rfl] at e1 e2
   rw [e1, e2]
   injection h with h
   simp only [Prod.mk.injEq] at h
   rw [<- h.1, <- h.2]
   rfl
theorem zr4 {r r2 : Rd} (hr : ShR a N0 r r2) {level : Nat} : ∀ (n m : Nat), n <= m -> ∀ {x : Int} {s s' : PS} {v : Int}, mlp ts r level n x s = .ok (v, s') -> mlp T r2 level m (x + (N0.length : Int)) (mvS a N0 s) = .ok (v + (N0.length : Int), mvS a N0 s')
 | 0, m, _, x, s, s', v, h => by cases h
 | n + 1, 0, hm, x, s, s', v, h => by omega
 | n + 1, m + 1, hm, x, s, s', v, h => by
   unfold mlp at h ⊢
   rw [zup M, zft]
   split at h
   · rename_i c; rw [if_pos c]
     split at h
     · cases h
     · rename_i b s1 h1
       rw [hr.lv h1]
       simp only
       have e1 := zdx (a := a) N0 (zi ts s).2.1 eT (zi ts s).2.2 [x, b] s1
       have e2 := zdy (a := a) N0 (zi ts s).2.1 eT (zi ts s).2.2 [x, b] s1
       rw [show mvK N0.length [x, b] = [x + (N0.length : Int), b + (N0.length : Int)] from rfl] at e1 e2
       split at h
       · rename_i c3
         rw [if_pos c3]
         exact zbi N0 h rfl
       · rename_i c3
         rw [if_neg c3, e1, e2]
         exact zr4 hr n m (by omega) h
   · rename_i c; rw [if_neg c]
     injection h with h
     simp only [Prod.mk.injEq] at h
     obtain ⟨rfl, rfl⟩ := h
     rfl
theorem zpp {r r2 : Rd} (hr : ShR a N0 r r2) (lv : Nat) : ∀ (m : Nat) {x : Int} {s s' : PS} {v : Int}, zaj ts r lv m x s = .ok (v, s') -> zaj T r2 lv m (x + (N0.length : Int)) (mvS a N0 s) = .ok (v + (N0.length : Int), mvS a N0 s')
 | 0, x, s, s', v, h => by
   injection h with h
   simp only [Prod.mk.injEq] at h
   obtain ⟨rfl, rfl⟩ := h
   rfl
 | m + 1, x, s, s', v, h => by
   unfold zaj at h ⊢
   split at h
   · rename_i c; rw [if_pos c]
     injection h with h
     simp only [Prod.mk.injEq] at h
     obtain ⟨rfl, rfl⟩ := h
     rfl
   · rename_i c; rw [if_neg c]
     split at h
     · cases h
     · rename_i b s1 h1
       rw [zr4 M hr (ts.length + 1) (T.length + 1) (by have := M.len; omega) h1]
       exact zpp hr lv m h
theorem zr5 {r r2 : Rd} (hr : ShR a N0 r r2) {n : Nat} {s s' : PS} {v : Int} (h : lvP ts en r n s = .ok (v, s')) : lvP T en2 r2 n (mvS a N0 s) = .ok (v + (N0.length : Int), mvS a N0 s') := by
 unfold lvP at h ⊢
 split at h
 · cases h
 · rename_i x s1 h1
   rw [zr3 M en en2 hr h1]
   exact zpp M hr n _ h
theorem zr6 {r r2 : Rd} (hr : ShR a N0 r r2) {s s' : PS} {v : Int} (h : whP ts en r s = .ok (v, s')) : whP T en2 r2 (mvS a N0 s) = .ok (v + (N0.length : Int), mvS a N0 s') := by
 unfold whP at h ⊢
 split at h
 · cases h
 rename_i s1 h1
 rw [zla N0 en en2 h1]
 simp only
 split at h
 · cases h
 rename_i x s2 h2
 rw [zr5 M en en2 hr h2]
 injection h with h
 simp only [Prod.mk.injEq] at h
 rw [<- h.1, <- h.2]
 rfl
theorem zr7 {r r2 : Rd} (hr : ShR a N0 r r2) : ∀ (n m : Nat), n <= m -> ∀ {ks ks' : List Int} {s s' : PS}, bsP ts r n ks s = .ok (ks', s') -> bsP T r2 m (mvK N0.length ks) (mvS a N0 s) = .ok (mvK N0.length ks', mvS a N0 s')
 | 0, m, _, ks, ks', s, s', h => by cases h
 | n + 1, 0, hm, ks, ks', s, s', h => by omega
 | n + 1, m + 1, hm, ks, ks', s, s', h => by
   unfold bsP at h ⊢
   rw [zbq M]
   split at h
   · rename_i he
     rw [if_pos he]
     injection h with h
     simp only [Prod.mk.injEq] at h
     obtain ⟨rfl, rfl⟩ := h
     rfl
   · rename_i he
     rw [if_neg he]
     split at h
     · cases h
     · rename_i v s1 h1
       rw [hr.st h1]
       simp only
       rw [<- zdz]
       exact zr7 hr n m (by omega) h
theorem zvi {r r2 : Rd} (hr : ShR a N0 r r2) {s s' : PS} {v : Int} (h : blP ts en r s = .ok (v, s')) : blP T en2 r2 (mvS a N0 s) = .ok (v + (N0.length : Int), mvS a N0 s') := by
 unfold blP at h ⊢
 split at h
 · cases h
 rename_i s1 h1
 rw [zla N0 en en2 h1]
 simp only
 split at h
 · cases h
 rename_i s2 h2
 rw [zdq M N0 en en2 h2]
 simp only
 split at h
 · cases h
 rename_i ks s3 h3
 have := zr7 M hr (ts.length + 1) (T.length + 1) (by have := M.len; omega) h3
 rw [show mvK N0.length [] = [] from rfl] at this
 rw [this]
 exact zbi (s1 := zap s3) N0 h rfl
theorem zj2 {r r2 : Rd} (hr : ShR a N0 r r2) {s s' : PS} {v : Int} (h : laP ts en r s = .ok (v, s')) : laP T en2 r2 (mvS a N0 s) = .ok (v + (N0.length : Int), mvS a N0 s') := by
 unfold laP at h ⊢
 split at h
 · cases h
 rename_i e s1 h1
 rw [hr.wh h1]
 simp only
 split at h
 · cases h
 rename_i s2 h2
 rw [zdq M N0 en en2 h2]
 injection h with h
 simp only [Prod.mk.injEq] at h
 obtain ⟨rfl, rfl⟩ := h
 rfl
theorem zus {r r2 : Rd} (hr : ShR a N0 r r2) (ho : zk ts r) {s s' : PS} {v : Int} (h : za9 ts en r s = .ok (v, s')) : za9 T en2 r2 (mvS a N0 s) = .ok (v + (N0.length : Int), mvS a N0 s') := by
 unfold za9 at h ⊢
 split at h
 · cases h
 rename_i e s1 h1
 rw [zr6 M en en2 hr h1]
 simp only
 have he : e + 1 = s1.ns.length := (ze6 ts en ho h1).2.2
 have h0 : 0 <= e := by
  obtain ⟨l, x, hns⟩ := (ze6 ts en ho h1).2.1
  have : s1.ns.length = (s.ns ++ l ++ [x]).length := by rw [hns]
  simp at this
  omega
 have hen : (e + (N0.length : Int)).toNat = N0.length + e.toNat := by omega
 split at h
 · cases h
 rename_i x hx
 have hx2 : (mvS a N0 s1).ns[(e + (N0.length : Int)).toNat]? = some (mvN N0.length x) := by
  show (N0 ++ s1.ns.map (mvN N0.length))[(e + (N0.length : Int)).toNat]? = _
  rw [hen, List.getElem?_append_right (by omega), Nat.add_sub_cancel_left, List.getElem?_map, hx]
  rfl
 have htk : (⟨(mvS a N0 s1).i + 1, (mvS a N0 s1).d, (mvS a N0 s1).ns.take (e + (N0.length : Int)).toNat⟩ : PS) = mvS a N0 ⟨s1.i + 1, s1.d, s1.ns.take e.toNat⟩ := by
  unfold mvS
  simp only [hen, List.take_append, List.map_take, Nat.add_sub_cancel_left, PS.mk.injEq, Nat.add_assoc, true_and]
  rw [List.take_of_length_le (by omega)]
 rw [hx2]
 simp only
 rw [htk, zbq M, zbq M]
 split at h
 · rename_i c
   rw [if_pos (show (mvN N0.length x).k = 9 /\ _ from c)]
   exact zbi (s1 := adv s1) N0 h rfl
 rename_i c1
 rw [if_neg (show ¬ ((mvN N0.length x).k = 9 /\ _) from c1)]
 split at h
 · rename_i c
   rw [if_pos (show (mvN N0.length x).k = 5 /\ _ from c)]
   split at h
   · cases h
   rename_i w s2 h2
   rw [zj2 M en en2 hr h2]
   exact zbi N0 h rfl
 rename_i c2
 rw [if_neg (show ¬ ((mvN N0.length x).k = 5 /\ _) from c2)]
 split at h
 · rename_i c
   rw [if_pos (show (mvN N0.length x).k = 8 /\ _ from c)]
   split at h
   · cases h
   rename_i w s2 h2
   rw [zj2 M en en2 hr h2]
   exact zbi N0 h (zdz _ _ _).symm
 · cases h
theorem zvj {r r2 : Rd} (hr : ShR a N0 r r2) (ho : zk ts r) {s s' : PS} {v : Int} (h : stP ts en r s = .ok (v, s')) : stP T en2 r2 (mvS a N0 s) = .ok (v + (N0.length : Int), mvS a N0 s') := by
 unfold stP at h ⊢
 rw [zbq M, zbq M, zbq M, zbq M, zft]
 split at h
 · rename_i c; rw [if_pos c]
   split at h
   · cases h
   rename_i nm s1 h1
   rw [zhz M N0 en en2 h1]
   simp only
   split at h
   · cases h
   rename_i s2 h2
   rw [zdq M N0 en en2 h2]
   simp only
   split at h
   · cases h
   rename_i e s3 h3
   rw [zj2 M en en2 hr h3]
   exact zbi N0 h rfl
 rename_i c0; rw [if_neg c0]
 split at h
 · rename_i c; rw [if_pos c]
   split at h
   · cases h
   rename_i e s1 h1
   rw [hr.wh h1]
   simp only
   split at h
   · cases h
   rename_i b s2 h2
   rw [hr.bl h2]
   simp only
   rw [zbq M]
   split at h
   · rename_i c2; rw [if_pos c2, zft]
     split at h
     · cases h
     rename_i c s3 h3
     rw [hr.bl h3]
     exact zbi N0 h rfl
   · rename_i c2; rw [if_neg c2]
     exact zbi N0 h rfl
 rename_i c1; rw [if_neg c1]
 split at h
 · rename_i c; rw [if_pos c]
   split at h
   · cases h
   rename_i e s1 h1
   rw [hr.wh h1]
   simp only
   split at h
   · cases h
   rename_i b s2 h2
   rw [hr.bl h2]
   exact zbi N0 h rfl
 rename_i c2; rw [if_neg c2]
 split at h
 · rename_i c; rw [if_pos c]
   split at h
   · cases h
   rename_i e s1 h1
   rw [zj2 M en en2 hr h1]
   exact zbi N0 h rfl
 rename_i c3; rw [if_neg c3]
 exact zus M en en2 hr ho h
theorem zgm : ∀ n m, n <= m -> ShR a N0 (rds ts en n) (rds T en2 m)
 | 0, m, _ => ⟨fun h => (by cases h), fun h => (by cases h), fun h => (by cases h), fun h => (by cases h), fun h => (by cases h)⟩
 | n + 1, 0, h => by omega
 | n + 1, m + 1, h => ⟨zr6 M en en2 (zgm n m (by omega)) (s := _), zr5 M en en2 (zgm n m (by omega)), zr3 M en en2 (zgm n m (by omega)), zvi M en en2 (zgm n m (by omega)), zvj M en en2 (zgm n m (by omega)) (zav ts en n)⟩
theorem zr8 {r r2 : Rd} (hr : ShR a N0 r r2) (ho : zk ts r) (K0 : List Int) : ∀ (n m : Nat), n <= m -> ∀ {ks ks' : List Int} {s s' : PS}, tpP ts r n ks s = .ok (ks', s') -> tpP T r2 m (K0 ++ mvK N0.length ks) (mvS a N0 s) = .ok (K0 ++ mvK N0.length ks', mvS a N0 s')
 | 0, m, _, ks, ks', s, s', h => by cases h
 | n + 1, 0, hm, ks, ks', s, s', h => by omega
 | n + 1, m + 1, hm, ks, ks', s, s', h => by
   have hl := M.len
   unfold tpP at h ⊢
   split at h
   · rename_i he
     rw [if_pos (by show a + s.i = T.length; omega)]
     injection h with h
     simp only [Prod.mk.injEq] at h
     obtain ⟨rfl, rfl⟩ := h
     rfl
   · rename_i he
     rw [if_neg (by show ¬ a + s.i = T.length; omega)]
     split at h
     · cases h
     · rename_i v s1 h1
       rw [hr.st h1]
       simp only
       rw [List.append_assoc, <- zdz]
       exact zr8 hr ho K0 n m (by omega) h
end
theorem zhv {α : Type} {p q : α -> Bool} : ∀ {l : List α}, (∀ x ∈ l, p x = q x) -> l.find? p = l.find? q
 | [], _ => rfl
 | x :: l, h => by
   simp only [List.find?]
   rw [h x (by simp), zhv (fun y hy => h y (by simp [hy]))]
structure Emb (A : ByteArray) (c : Nat) (t : ByteArray) : Prop where
 sz : c + t.size <= A.size
 b : ∀ r, r < t.size -> bt A (c + r) = bt t r
 z : c + t.size < A.size -> bt A (c + t.size) = 10
section
variable {A t : ByteArray} {c : Nat} (E : Emb A c t)
include E
theorem Emb.ex {i j : Nat} (h1 : i <= j) (h2 : j <= t.size) : A.extract (c + i) (c + j) = t.extract i j := by
 have hs := E.sz
 refine zo6 ?_ (fun r hr => ?_)
 · simp only [ByteArray.size_extract]
   omega
 · simp only [ByteArray.size_extract] at hr
   rw [zbb A (c + i) (c + j) r (by omega) (by omega), zbb t i j r h2 (by omega), Nat.add_assoc]
   exact E.b (i + r) (by omega)
theorem Emb.run {p : Int -> Bool} (hp : p 10 = false) {i : Nat} (hi : i <= t.size) : ze p A (c + i) = c + ze p t i := by
 have h1 := zcv p t i
 have h2 := zbc (p := p) hi
 have hs := E.sz
 refine zsv (by omega) (by omega) (fun k q1 q2 => ?_) (fun q => ?_)
 · have := zeg (p := p) (t := t) (i := i) (k := k - c) (by omega) (by omega)
   rw [<- E.b (k - c) (by omega), show c + (k - c) = k by omega] at this
   exact this
 · rcases Nat.lt_or_ge (ze p t i) t.size with h3 | h3
   · rw [E.b _ h3]
     exact zkd hi h3
   · have e : ze p t i = t.size := by omega
     rw [e] at q ⊢
     rw [E.z q]
     exact hp
theorem Emb.num {i : Nat} : ∀ k, i + k <= t.size -> zad A (c + i) k = zad t i k
 | 0, _ => rfl
 | k + 1, h => by
   unfold zad
   rw [Emb.num k (by omega), Nat.add_assoc, E.b (i + k) (by omega)]
omit E in
theorem zs8 : ∀ m ∈ mkS, ∀ r, r < m.size -> bt m r ≠ 10 := by
 intro m hm
 simp only [mkS, List.mem_cons, List.not_mem_nil, or_false] at hm
 rcases hm with rfl | rfl | rfl | rfl | rfl | rfl | rfl | rfl | rfl | rfl | rfl | rfl | rfl | rfl | rfl | rfl | rfl | rfl | rfl | rfl | rfl <;> decide
theorem Emb.mark {i : Nat} (hi : i < t.size) : zbo A (c + i) = zbo t i := by
 have hs := E.sz
 unfold zbo
 have hh : ∀ m ∈ mkS, zcs A (c + i) m = zcs t i m := fun m hm => by
  unfold zcs
  rcases Nat.lt_or_ge t.size (i + m.size) with h | h
  · rw [decide_eq_false (show ¬ i + m.size <= t.size by omega), Bool.false_and]
    cases hq : (decide (c + i + m.size <= A.size) && ((A.extract (c + i) (c + i + m.size)).toList == m.toList)) with
    | false => rfl
    | true =>
      simp only [Bool.and_eq_true, decide_eq_true_eq, beq_iff_eq] at hq
      rw [ByteArray.toList_eq, ByteArray.toList_eq] at hq
      have e : A.extract (c + i) (c + i + m.size) = m := ByteArray.ext (Array.toList_inj.1 hq.2)
      have h3 := zbb A (c + i) (c + i + m.size) (t.size - i) hq.1 (by omega)
      rw [e, show c + i + (t.size - i) = c + t.size by omega, E.z (by omega)] at h3
      exact absurd h3 (zs8 m hm _ (by omega))
  · rw [Nat.add_assoc, E.ex (by omega) h, decide_eq_true h, decide_eq_true (show c + (i + m.size) <= A.size by omega)]
 exact zhv hh
theorem Emb.tok {i : Nat} (hi : i < t.size) (hc : (zh t i).code = 0) : zh A (c + i) = ⟨0, ⟨(zh t i).x.k, c + i, (zh t i).x.tx, (zh t i).x.n⟩, c + (zh t i).e⟩ := by
 have hs := E.sz
 have r1 := E.run (p := ltB) (by decide) (Nat.le_of_lt hi)
 have r2 := E.run (p := dgB) (by decide) (Nat.le_of_lt hi)
 have r3 := E.run (p := plB) (by decide) (i := i + 1) hi
 have g1 := zcv ltB t i
 have g2 := zcv dgB t i
 have g3 := zcv plB t (i + 1)
 have l1 := zbc (p := ltB) (Nat.le_of_lt hi)
 have l2 := zbc (p := dgB) (Nat.le_of_lt hi)
 have l3 := zbc (p := plB) (t := t) (i := i + 1) hi
 unfold zh at hc ⊢
 rw [E.b i hi, E.mark hi, r1, r2, Nat.add_assoc, r3]
 split at hc
 · rename_i c1
   rw [if_pos c1, if_pos c1, E.ex g1 l1]
   split at hc
   · rename_i c2
     rw [if_pos c2, if_pos c2]
   · rename_i c2
     rw [if_neg c2, if_neg c2]
     split at hc
     · cases hc
     · rename_i c3
       rw [if_neg c3, if_neg (by omega)]
 · rename_i c1
   rw [if_neg c1, if_neg c1]
   split at hc
   · rename_i c2
     rw [if_pos c2, if_pos c2]
     split at hc
     · cases hc
     · rename_i c3
       rw [if_neg c3]
       have c3' : ¬ (15 < c + ze dgB t i - (c + i) \/ (1 < c + ze dgB t i - (c + i) /\ bt t i = 48) \/ (c + ze dgB t i < A.size /\ ltB (bt A (c + ze dgB t i)) = true)) := by
        rintro (q | q | q)
        · exact c3 (.inl (by omega))
        · exact c3 (.inr (.inl ⟨by omega, q.2⟩))
        · rcases Nat.lt_or_ge (ze dgB t i) t.size with h | h
          · rw [E.b _ h] at q
            exact c3 (.inr (.inr ⟨h, q.2⟩))
          · have e : ze dgB t i = t.size := by omega
            rw [e] at q
            rw [E.z q.1] at q
            exact absurd q.2 (by decide)
       rw [if_neg c3', E.ex g2 l2, show c + ze dgB t i - (c + i) = ze dgB t i - i by omega, E.num _ (by omega)]
   · rename_i c2
     rw [if_neg c2, if_neg c2]
     split at hc
     · rename_i c3
       rw [if_pos c3, if_pos c3]
       split at hc
       · cases hc
       · rename_i c4
         rw [if_neg c4]
         have h5 : ze plB t (i + 1) < t.size := by omega
         have c4' : ¬ (A.size <= c + ze plB t (i + 1) \/ bt A (c + ze plB t (i + 1)) ≠ 34 \/ 160 < c + ze plB t (i + 1) - (c + i) - 1) := by
          rintro (q | q | q)
          · omega
          · rw [E.b _ h5] at q
            exact c4 (.inr (.inl q))
          · exact c4 (.inr (.inr (by omega)))
         rw [if_neg c4', E.ex g3 l3, Nat.add_assoc]
     · rename_i c3
       rw [if_neg c3, if_neg c3]
       split at hc
       · rename_i m hm
         simp only [hm, Nat.add_assoc]
       · cases hc
theorem Emb.rem {i : Nat} (hi : i < t.size) : zbk A (c + i) = zbk t i := by
 have hs := E.sz
 unfold zbk
 rw [E.b i hi, Nat.add_assoc]
 rcases Nat.lt_or_ge (i + 1) t.size with h | h
 · rw [E.b (i + 1) h]
   exact decide_eq_decide.2 ⟨fun q => ⟨q.1, h, q.2.2⟩, fun q => ⟨q.1, by omega, q.2.2⟩⟩
 · refine decide_eq_decide.2 ⟨fun q => ?_, fun q => absurd q.2.1 (by omega)⟩
   have e : i + 1 = t.size := by omega
   rw [e] at q
   rw [E.z q.2.1] at q
   exact absurd q.2.2 (by decide)
omit E in
def atC (c : Nat) (x : za) : za := ⟨x.k, c + x.at_, x.tx, x.n⟩
theorem Emb.lex : ∀ (n i : Nat), t.size - i = n -> i <= t.size -> ∀ (acc : List za), (zab t i acc).1 = 0 -> ∃ Y, (zab t i acc).2.2 = acc ++ Y /\ ∀ acc2, zab A (c + i) acc2 = zab A (c + t.size) (acc2 ++ Y.map (atC c)) := by
 intro n
 induction n using Nat.strongRecOn with
 | _ n ih =>
   intro i hn hle acc h
   have hs := E.sz
   rcases Nat.lt_or_ge i t.size with hi | hi
   · have hA : c + i < A.size := by omega
     cases hb : bkB (bt t i) with
     | true =>
       rw [zej hi hb] at h ⊢
       obtain ⟨Y, h1, h2⟩ := ih (t.size - (i + 1)) (by omega) (i + 1) rfl hi acc h
       refine ⟨Y, h1, fun acc2 => ?_⟩
       rw [zej hA (by rw [E.b i hi]; exact hb), Nat.add_assoc]
       exact h2 acc2
     | false =>
       cases hr : zbk t i with
       | true =>
         have hg := ze7 hr
         have hl := zbc (p := lnB) (t := t) (Nat.le_of_lt hi)
         rw [zfm hi hb hr] at h ⊢
         obtain ⟨Y, h1, h2⟩ := ih (t.size - ze lnB t i) (by omega) (ze lnB t i) rfl hl acc h
         refine ⟨Y, h1, fun acc2 => ?_⟩
         rw [zfm hA (by rw [E.b i hi]; exact hb) (by rw [E.rem hi]; exact hr), E.run (by decide) (Nat.le_of_lt hi)]
         exact h2 acc2
       | false =>
         by_cases hc : (zh t i).code = 0
         · have he := zd2 hi hc
           have hat := (zkr hi hc).2
           rw [zc6 hi hb hr hc] at h ⊢
           obtain ⟨Y, h1, h2⟩ := ih (t.size - (zh t i).e) (by omega) (zh t i).e rfl he.2 (acc ++ [(zh t i).x]) h
           refine ⟨(zh t i).x :: Y, by rw [h1]; simp, fun acc2 => ?_⟩
           have htk := E.tok hi hc
           rw [zc6 hA (by rw [E.b i hi]; exact hb) (by rw [E.rem hi]; exact hr) (by rw [htk]), htk]
           simp only
           rw [h2, List.append_assoc]
           have : (⟨(zh t i).x.k, c + i, (zh t i).x.tx, (zh t i).x.n⟩ : za) = atC c (zh t i).x := by unfold atC; rw [hat]
           rw [this]
           rfl
         · rw [zdt hi hb hr hc] at h
           exact absurd h hc
   · obtain rfl : i = t.size := by omega
     rw [zfl (by omega)]
     exact ⟨[], by simp, fun acc2 => by simp⟩
end
theorem zpl {A t : ByteArray} (hA : A.size = 2 * t.size + 1) (h1 : ∀ r, r < t.size -> bt A r = bt t r) (h2 : bt A t.size = 10) (h3 : ∀ r, r < t.size -> bt A (t.size + 1 + r) = bt t r) (hl : A.size <= 3000) (hc : (zn t).1 = 0) :
 (zn A).1 = 0 /\ (zn A).2.2 = (zn t).2.2 ++ (zn t).2.2.map (atC (t.size + 1)) := by
 have e1 : zn t = zab t 0 [] := by unfold zn; rw [if_neg (by omega)]
 have e2 : zn A = zab A 0 [] := by unfold zn; rw [if_neg (by omega)]
 have E1 : Emb A 0 t := ⟨by omega, fun r hr => by rw [Nat.zero_add]; exact h1 r hr, fun _ => by rw [Nat.zero_add]; exact h2⟩
 have E2 : Emb A (t.size + 1) t := ⟨by omega, h3, fun q => by omega⟩
 rw [e1] at hc ⊢
 rw [e2]
 obtain ⟨Y, y1, y2⟩ := E1.lex _ 0 rfl (Nat.zero_le _) [] hc
 obtain ⟨Z, z1, z2⟩ := E2.lex _ 0 rfl (Nat.zero_le _) [] hc
 have y2' := y2 []
 rw [Nat.zero_add, Nat.zero_add] at y2'
 have hid : Y.map (atC 0) = Y := by
  conv => rhs; rw [<- List.map_id Y]
  refine List.map_congr_left fun x _ => ?_
  unfold atC
  rw [Nat.zero_add]
  rfl
 rw [y2', zej (by omega) (by rw [h2]; decide)]
 have z2' := z2 ([] ++ Y.map (atC 0))
 rw [Nat.add_zero] at z2'
 rw [z2', zfl (by omega)]
 rw [y1] at z1 ⊢
 have hYZ : Z = Y := by simpa using z1.symm
 rw [hYZ, hid]
 simp
theorem zs9 (c : Nat) (x : za) (b : ByteArray) : isT (atC c x) b = isT x b := rfl
theorem zpm (X : List za) (c : Nat) : MvT X (X ++ X.map (atC c)) X.length := by
 refine ⟨fun j hj => ?_, fun j x hx => ⟨c + x.at_, ?_⟩, by simp⟩
 · rw [List.getElem?_append_right (by omega), Nat.add_sub_cancel_left, List.getElem?_map, hj]
   rfl
 · rw [List.getElem?_append_right (by omega), Nat.add_sub_cancel_left, List.getElem?_map, hx]
   rfl
section
variable (ts : List za) (en : Nat)
theorem zcf {b : ByteArray} {s : PS} (h : isN ts ⟨#[101, 108, 115, 101]⟩ s = true) (hb : (b.data.toList == [101, 108, 115, 101]) = false) : isN ts b s = false := by
 unfold isN at h ⊢
 cases hx : ts[s.i]? with
 | none => rfl
 | some x =>
   rw [hx] at h
   simp only [isT, Bool.and_eq_true, beq_iff_eq] at h
   have h2 := h.2
   rw [ByteArray.toList_eq, ByteArray.toList_eq] at h2
   simp only [isT, Bool.and_eq_false_iff]
   right
   rw [ByteArray.toList_eq, ByteArray.toList_eq, h2]
   rw [Bool.eq_false_iff] at hb ⊢
   simp only [ne_eq, beq_iff_eq] at hb ⊢
   exact fun e => hb e.symm
theorem zqv {r : Rd} {s s' : PS} {v : Int} (h : stP ts en r s = .ok (v, s')) : isN ts ⟨#[101, 108, 115, 101]⟩ s = false := by
 cases he : isN ts ⟨#[101, 108, 115, 101]⟩ s with
 | false => rfl
 | true =>
   exfalso
   have n1 := zcf ts he (b := ⟨#[108, 111, 99, 97, 108]⟩) (by decide)
   have n2 := zcf ts he (b := ⟨#[105, 102]⟩) (by decide)
   have n3 := zcf ts he (b := ⟨#[119, 104, 105, 108, 101]⟩) (by decide)
   have n4 := zcf ts he (b := ⟨#[114, 101, 116, 117, 114, 110]⟩) (by decide)
   unfold stP at h
   rw [n1, n2, n3, n4] at h
   simp only [Bool.false_eq_true, if_false] at h
   unfold za9 at h
   split at h
   · cases h
   rename_i e s1 h1
   unfold whP at h1
   split at h1
   · cases h1
   rename_i s2 h2
   obtain ⟨e2, _⟩ := zb5 ts en h2
   subst e2
   split at h1
   · cases h1
   rename_i a s3 h3
   unfold lvP at h3
   split at h3
   · cases h3
   rename_i a4 s4 h4
   have he2 : isN ts ⟨#[101, 108, 115, 101]⟩ (⟨s.i, s.d + 1, s.ns⟩ : PS) = true := he
   unfold tnP at h4
   have t1 := zcf ts he2 (b := ⟨#[45]⟩) (by decide)
   have t2 := zcf ts he2 (b := ⟨#[110, 111, 116]⟩) (by decide)
   have t3 := zcf ts he2 (b := ⟨#[35]⟩) (by decide)
   have t0 : zy ts (⟨s.i, s.d + 1, s.ns⟩ : PS) = 0 := by unfold zy; rw [t1, t2, t3]; rfl
   rw [if_pos t0] at h4
   split at h4
   · cases h4
   rename_i a5 s5 h5
   unfold zu at h5
   have p : ∀ b : ByteArray, (b.data.toList == [101, 108, 115, 101]) = false -> isN ts b (⟨s.i, s.d + 1, s.ns⟩ : PS) = false := fun b hb => zcf ts he2 hb
   have hxx : ∃ x, ts[s.i]? = some x := by
    unfold isN at he
    cases hx : ts[s.i]? with
    | none => rw [hx] at he; cases he
    | some x => exact ⟨x, rfl⟩
   obtain ⟨x, hx⟩ := hxx
   have q : ∀ b : ByteArray, (b.data.toList == [101, 108, 115, 101]) = false -> isT x b = false := fun b hb => by
    have := p b hb
    unfold isN at this
    rw [show ts[(⟨s.i, s.d + 1, s.ns⟩ : PS).i]? = some x from hx] at this
    exact this
   have hk : (x.k == 2 || x.k == 5) = true := by
    unfold isN at he
    rw [hx] at he
    simp only [isT, Bool.and_eq_true] at he
    exact he.1
   have hk2 : x.k = 2 \/ x.k = 5 := by simpa using hk
   rw [show ts[(⟨s.i, s.d + 1, s.ns⟩ : PS).i]? = some x from hx] at h5
   simp only at h5
   rw [if_neg (by omega), if_neg (by omega), if_neg (by omega), q _ (by decide), q _ (by decide), q _ (by decide), q _ (by decide), q _ (by decide), q _ (by decide)] at h5
   simp only [Bool.false_eq_true, if_false] at h5
   cases h5
theorem zn0 (c en2 : Nat) {n : Int} {ns : List KnL} (h : zbj ts en = .ok (n, ns)) : ∃ ks N, ns = N ++ [⟨21, eT, 0, ks⟩] /\ n = (N.length : Int) /\ zbj (ts ++ ts.map (atC c)) en2 = .ok (((2 * N.length : Nat) : Int), (N ++ N.map (mvN N.length)) ++ [⟨21, eT, 0, ks ++ mvK N.length ks⟩]) := by
 unfold zbj at h
 split at h
 · cases h
 rename_i ks s h1
 injection h with h
 simp only [Prod.mk.injEq] at h
 have e1 : n = (s.ns.length : Int) := h.1.symm
 have e2 : ns = s.ns ++ [⟨21, eT, 0, ks⟩] := h.2.symm
 refine ⟨ks, s.ns, e2, e1, ?_⟩
 have hE : ∀ x, (ts.map (atC c))[0]? = some x -> isT x ⟨#[101, 108, 115, 101]⟩ = false := fun x hx => by
  rw [List.getElem?_map] at hx
  cases h0 : ts[0]? with
  | none => rw [h0] at hx; cases hx
  | some y =>
    rw [h0] at hx
    injection hx with hx
    rw [<- hx, zs9]
    have hne : 0 < ts.length := (List.getElem?_eq_some_iff.1 h0).1
    unfold tpP at h1
    rw [if_neg (by show ¬ 0 = ts.length; omega)] at h1
    split at h1
    · cases h1
    rename_i v s1 h2
    have h3 : stP ts en (rds ts en ts.length) ⟨0, 0, []⟩ = .ok (v, s1) := h2
    have := zqv ts en h3
    unfold isN at this
    rw [show ts[(⟨0, 0, []⟩ : PS).i]? = some y from h0] at this
    exact this
 have M := zpm ts c
 have hp := zgl ts (ts.map (atC c)) en en2 hE (ts.length + 1) ((ts ++ ts.map (atC c)).length + 1) (by simp)
 have hsR := zgm M en en2 (N0 := s.ns) (ts.length + 1) ((ts ++ ts.map (atC c)).length + 1) (by simp)
 have ho := zav ts en (ts.length + 1)
 obtain ⟨m', a1, a2, a3, a4⟩ := zr1 ts (ts.map (atC c)) hp ho _ ((ts ++ ts.map (atC c)).length + 1) h1 (by simp; omega)
 have hm : ts.length + 1 <= m' := by
  simp only [List.length_append, List.length_map] at a2
  have : ts.length - (⟨0, 0, []⟩ : PS).i = ts.length := Nat.sub_zero _
  omega
 have b1 := zr8 M hsR ho ks (ts.length + 1) m' hm h1
 have hs0 : mvS ts.length s.ns ⟨0, 0, []⟩ = s := by
  have a4' : s.d = 0 := a4
  obtain ⟨i, d, N⟩ := s
  simp only at a3 a4'
  subst a3 a4'
  simp [mvS]
 rw [show mvK s.ns.length [] = [] from rfl, List.append_nil, hs0] at b1
 unfold zbj
 rw [a1, b1]
 simp only
 congr 1
 refine Prod.ext ?_ ?_
 · show ((mvS ts.length s.ns s).ns.length : Int) = _
   rw [zta]
   congr 1
   omega
 · rfl
end
end Go.Proofs.YtiglkhkfbgjjoaaGreatDoor
