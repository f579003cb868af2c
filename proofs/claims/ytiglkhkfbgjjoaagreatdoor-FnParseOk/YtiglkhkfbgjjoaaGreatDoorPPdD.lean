/- - -/
import Derived.Test.YtiglkhkfbgjjoaaGreatDoorPTkT
namespace Go.Proofs.YtiglkhkfbgjjoaaGreatDoor
set_option maxRecDepth 20000
open Go.RowKit Go.PlainAid
set_option linter.unusedSimpArgs false
set_option linter.unusedVariables false
section
variable {X Y : Nat -> KnD}
theorem zmw : ∀ (i : Nat), (∀ j, j <= i -> X j = Y j) -> stt X i = stt Y i := fun i => by
 induction i using Nat.strongRecOn with
 | _ i ih =>
   intro h
   rw [zga X, zga Y, h i (Nat.le_refl _)]
   split
   · rename_i hc
     exact ih _ hc.2.2 (fun j hj => h j (by omega))
   · rfl
theorem zgk : ∀ {ks : List Int} {n m : Nat}, (∀ j, j < m -> X j = Y j) -> chn X n ks m -> chn Y n ks m
 | [], n, m, _, h => h
 | k :: ks, n, m, hXY, ⟨h0, h1, h2⟩ => by
   have hle := zfe X h2
   refine ⟨h0, ?_, zgk hXY h2⟩
   rw [<- zmw k.toNat (fun j hj => hXY j (by omega))]
   exact h1
theorem zpj {i : Nat} (h : X i = Y i) : zay X i = zay Y i := by unfold zay; rw [h]
theorem zi7 {ks : List Int} {n m : Nat} (hXY : ∀ j, j < m -> X j = Y j) (h : chn X n ks m) : ks.map (fun q => (X q.toNat).k) = ks.map (fun q => (Y q.toNat).k) :=
 List.map_congr_left fun q hq => by rw [hXY _ (zk6 X h q hq).2.1]
theorem zpk {i : Nat} (h : ∀ j, j <= i -> X j = Y j) (hg : znz X i) : znz Y i := by
 obtain ⟨h1, h2, h3, h4⟩ := hg
 have hi := h i (Nat.le_refl _)
 have hk := zpj hi
 have hkk : zas X i = zas Y i := by
  unfold zas
  rw [zi7 (fun j hj => h j (by omega)) h1, hk]
 refine ⟨?_, by rw [<- hi]; exact h2, by rw [<- hi]; exact h3, by rw [<- hi, <- hkk]; exact h4⟩
 unfold zch at h1 ⊢
 rw [<- zmw i h, <- hk]
 exact zgk (fun j hj => h j (by omega)) h1
end
def kdZ : KnL := ⟨0, eT, 0, []⟩
def kdD (x : KnL) : KnD := ⟨x.k, x.t, x.i, x.ks.length, fun j => x.ks.getD j 0⟩
def XN (ns : List KnL) (i : Nat) : KnD := kdD (ns.getD i kdZ)
theorem zf8 {ns l : List KnL} {i : Nat} (h : i < ns.length) : XN (ns ++ l) i = XN ns i := by
 unfold XN
 rw [List.getD_eq_getElem?_getD, List.getElem?_append_left h, <- List.getD_eq_getElem?_getD]
theorem zfd (ns : List KnL) (x : KnL) : XN (ns ++ [x]) ns.length = kdD x := by
 unfold XN
 rw [List.getD_eq_getElem?_getD]
 simp
theorem zhs (ns : List KnL) (x : KnL) : zay (XN (ns ++ [x])) ns.length = x.ks := by
 unfold zay
 rw [zfd]
 show (List.range x.ks.length).map (fun j => x.ks.getD j 0) = x.ks
 apply List.ext_getElem
 · simp
 · intro i h1 h2
   simp only [List.getElem_map, List.getElem_range, List.getD_eq_getElem?_getD, List.getElem?_eq_getElem h2, Option.getD_some]
def Gd (ns : List KnL) : Prop := ∀ j, j < ns.length -> znz (XN ns) j
theorem Gd.nil : Gd [] := fun j hj => by simp at hj
def za4 (ns : List KnL) (ks : List Int) : List Int := ks.map fun q => (XN ns q.toNat).k
def Cn (ns : List KnL) (n : Nat) (ks : List Int) : Prop := chn (XN ns) n ks ns.length
theorem Cn.pre {ns l : List KnL} {n : Nat} {ks : List Int} (h : Cn ns n ks) : chn (XN (ns ++ l)) n ks ns.length := zgk (fun j hj => (zf8 hj).symm) h
theorem Cn.kof {ns l : List KnL} {n : Nat} {ks : List Int} (h : Cn ns n ks) : za4 (ns ++ l) ks = za4 ns ks := (zi7 (fun j hj => (zf8 hj).symm) h).symm
theorem Cn.nil (ns : List KnL) : Cn ns ns.length [] := rfl
theorem Cn.snoc {ns l : List KnL} {n : Nat} {ks : List Int} {v : Int} (h : Cn ns n ks) (hv : Cn (ns ++ l) ns.length [v]) : Cn (ns ++ l) n (ks ++ [v]) := (zdw _).2 ⟨ns.length, h.pre, hv⟩
theorem Gd.add {ns : List KnL} (h : Gd ns) {k : Int} {t : ByteArray} {i : Int} {ks : List Int} {n : Nat} (hc : Cn ns n ks) (ht : za3 k t = true) (hi : zb1 k i = true) (hk : zx k (za4 ns ks) = true) : Gd (ns ++ [⟨k, t, i, ks⟩]) /\ Cn (ns ++ [⟨k, t, i, ks⟩]) n [(ns.length : Int)] /\ (XN (ns ++ [⟨k, t, i, ks⟩]) ns.length).k = k := by
 have hkl := zhs ns ⟨k, t, i, ks⟩
 have hp : chn (XN (ns ++ [⟨k, t, i, ks⟩])) n ks ns.length := hc.pre
 have hst : stt (XN (ns ++ [⟨k, t, i, ks⟩])) ns.length = n := zhu _ (by rw [hkl]; exact hp)
 refine ⟨fun j hj => ?_, ⟨by omega, by rw [Int.toNat_natCast]; exact hst, (by show ((ns.length : Int)).toNat + 1 = (ns ++ [(⟨k, t, i, ks⟩ : KnL)]).length; simp)⟩, by rw [zfd]; rfl⟩
 rcases Nat.lt_or_ge j ns.length with h1 | h1
 · exact zpk (fun q hq => (zf8 (by omega)).symm) (h j h1)
 · obtain rfl : j = ns.length := by simp at hj; omega
   refine ⟨?_, by rw [zfd]; exact ht, by rw [zfd]; exact hi, ?_⟩
   · unfold zch
     rw [hst, hkl]
     exact hp
   · rw [zfd]
     show zx k (zas _ _) = true
     unfold zas
     rw [hkl]
     show zx k (za4 _ ks) = true
     rw [hc.kof]
     exact hk
def wkN (k : Int) : Nat := if k = 9 \/ (14 <= k /\ k <= 21) then 2 else if k = 23 \/ k = 24 then 0 else 1
structure RG (c : Int) (s : PS) (v : Int) (s' : PS) : Prop where
 gd : Gd s'.ns
 cn : Cn s'.ns s.ns.length [v]
 cl : zae c (XN s'.ns v.toNat).k = true
 pre : ∃ l, s'.ns = s.ns ++ l
 ct : s'.ns.length + s.i + wkN (XN s'.ns v.toNat).k <= s.ns.length + s'.i + 1
structure LG (c : Int) (n : Nat) (s : PS) (ks : List Int) : Prop where
 gd : Gd s.ns
 cn : Cn s.ns n ks
 cl : ∀ q ∈ za4 s.ns ks, zae c q = true
theorem LG.snoc {c : Int} {n : Nat} {s s' : PS} {ks : List Int} {v : Int} (h : LG c n s ks) (hv : RG c s v s') : LG c n s' (ks ++ [v]) := by
 obtain ⟨l, hl⟩ := hv.pre
 refine ⟨hv.gd, ?_, fun q hq => ?_⟩
 · have h2 := hv.cn
   rw [hl] at h2 ⊢
   exact h.cn.snoc h2
 · unfold za4 at hq
   rw [List.map_append] at hq
   rcases List.mem_append.1 hq with h1 | h1
   · have h3 : q ∈ za4 s'.ns ks := h1
     rw [hl, h.cn.kof] at h3
     exact h.cl q h3
   · simp at h1
     rw [h1]
     exact hv.cl
theorem zez {c : Int} : ∀ {ks : List Int}, (∀ q ∈ ks, zae c q = true) -> zan (List.replicate ks.length c) ks = true
 | [], _ => rfl
 | k :: ks, h => by
   show (zae c k && zan (List.replicate ks.length c) ks) = true
   rw [h k (by simp), zez (fun q hq => h q (by simp [hq]))]
   rfl
theorem zg1 : ∀ {c1 k1 c2 k2 : List Int}, zan c1 k1 = true -> zan c2 k2 = true -> zan (c1 ++ c2) (k1 ++ k2) = true
 | [], [], _, _, _, h => h
 | c :: c1, k :: k1, c2, k2, h1, h2 => by
   simp only [zan, Bool.and_eq_true] at h1
   show (zae c k && zan (c1 ++ c2) (k1 ++ k2)) = true
   rw [h1.1, zg1 h1.2 h2]
   rfl
 | [], _ :: _, _, _, h, _ => by simp [zan] at h
 | _ :: _, [], _, _, h, _ => by simp [zan] at h
theorem zdv (ns : List KnL) (ks : List Int) : (za4 ns ks).length = ks.length := by simp [za4]
theorem zbh {c : Int} {s s1 : PS} {k : Int} {t : ByteArray} {i : Int} {ks : List Int} {v : Int} {s' : PS} (h : (Except.ok (zb k t i ks s1) : Except (Int × Int) (Int × PS)) = .ok (v, s')) (hg : Gd s1.ns) (hc : Cn s1.ns s.ns.length ks) (hp : ∃ l, s1.ns = s.ns ++ l) (ht : za3 k t = true) (hi : zb1 k i = true) (hk : zx k (za4 s1.ns ks) = true) (hcl : zae c k = true) (hct : s1.ns.length + s.i + wkN k <= s.ns.length + s1.i) : RG c s v s' := by
 injection h with h
 rw [Prod.ext_iff] at h
 obtain ⟨h1, h2⟩ := h
 have h1' : v = (s1.ns.length : Int) := h1.symm
 have h0 : s' = (zb k t i ks s1).2 := h2.symm
 have h2' : s'.ns = s1.ns ++ [⟨k, t, i, ks⟩] := by rw [h0]; rfl
 have h3' : s'.i = s1.i := by rw [h0]; rfl
 obtain ⟨a1, a2, a3⟩ := hg.add hc ht hi hk
 subst h1'
 refine ⟨by rw [h2']; exact a1, by rw [h2']; exact a2, by rw [h2', Int.toNat_natCast, a3]; exact hcl, ?_, ?_⟩
 · obtain ⟨l, hl⟩ := hp
   exact ⟨l ++ [⟨k, t, i, ks⟩], by rw [h2', hl]; simp⟩
 · rw [h2', h3', Int.toNat_natCast, a3]
   simp only [List.length_append, List.length_singleton]
   omega
def TkG (ts : List za) : Prop := ∀ x ∈ ts, (x.k = 1 -> zb3 x.tx = true) /\ (x.k = 4 -> zb8 x.tx = true) /\ (x.k = 3 -> 0 <= x.n /\ x.n <= 999999999999999)
theorem tB0 {k : Int} (h : ¬ (k = 4 \/ k = 5 \/ k = 22 \/ k = 14 \/ k = 15)) : za3 k eT = true := by
 unfold za3
 rw [if_neg (by omega), if_neg (by omega)]
 decide
theorem RG.of_ns {c : Int} {s s1 s' s2 : PS} {v : Int} (h : RG c s1 v s') (h1 : s1.ns = s.ns) (h2 : s2.ns = s'.ns) (hi : s.i <= s1.i) (hj : s'.i <= s2.i) : RG c s v s2 := by
 refine ⟨by rw [h2]; exact h.gd, by rw [h2, <- h1]; exact h.cn, by rw [h2]; exact h.cl, by rw [h2, <- h1]; exact h.pre, ?_⟩
 have := h.ct
 rw [h2, <- h1]
 omega
section
variable (ts : List za) (en : Nat)
structure RdG (r : Rd) : Prop where
 wh : ∀ {s v s'}, r.wh s = .ok (v, s') -> Gd s.ns -> RG 1 s v s'
 lv : ∀ {n s v s'}, r.lv n s = .ok (v, s') -> Gd s.ns -> RG 1 s v s'
 tn : ∀ {s v s'}, r.tn s = .ok (v, s') -> Gd s.ns -> RG 1 s v s'
 bl : ∀ {s v s'}, r.bl s = .ok (v, s') -> Gd s.ns -> RG 3 s v s'
 st : ∀ {s v s'}, r.st s = .ok (v, s') -> Gd s.ns -> RG 2 s v s'
theorem zhr (hT : TkG ts) {s s' : PS} {nm : ByteArray} (h : zbf ts en s = .ok (nm, s')) : s' = adv s /\ zb3 nm = true := by
 obtain ⟨h1, x, hx, hk, e⟩ := zef ts en h
 exact ⟨h1, by rw [<- e]; exact (hT x (List.mem_of_getElem? hx)).1 hk⟩
theorem zu8 (hT : TkG ts) {s s' : PS} {v : Int} (h : paP ts en s = .ok (v, s')) (hs : Gd s.ns) : RG 4 s v s' := by
 unfold paP at h
 split at h
 · cases h
 · rename_i nm s1 h1
   obtain ⟨rfl, hn⟩ := zhr ts en hT h1
   exact zbh (s := s) h hs (Cn.nil _) ⟨[], by simp [adv]⟩ (by show (if _ then _ else _) = true; rw [if_neg (by decide), if_pos (by decide)]; exact hn) (by decide) rfl (by decide) (by show s.ns.length + s.i + 1 <= s.ns.length + (s.i + 1); omega)
theorem zru {rd : PS -> Except (Int × Int) (Int × PS)} {c : Int} {n0 : Nat} (q : Nat) (hq1 : q <= 1) (hr : ∀ {s v s'}, rd s = .ok (v, s') -> Gd s.ns -> RG c s v s') (hq : ∀ k, zae c k = true -> 1 <= wkN k + q) (e : ByteArray) : ∀ (n : Nat) {ks ks' : List Int} {s s' : PS}, lsL ts en rd e n ks s = .ok (ks', s') -> LG c n0 s ks -> LG c n0 s' ks' /\ (∃ l, s'.ns = s.ns ++ l) /\ s'.ns.length + s.i + 1 <= s.ns.length + s'.i + q
 | 0, ks, ks', s, s', h, _ => by cases h
 | n + 1, ks, ks', s, s', h, hs => by
   unfold lsL at h
   split at h
   · cases h
   · rename_i v s1 h1
     have g1 := hr h1 hs.gd
     have k1 := hs.snoc g1
     have c1 := g1.ct
     have w1 := hq _ g1.cl
     split at h
     · injection h with h
       simp only [Prod.mk.injEq] at h
       obtain ⟨rfl, rfl⟩ := h
       exact ⟨⟨k1.gd, k1.cn, k1.cl⟩, g1.pre, by show s1.ns.length + s.i + 1 <= s.ns.length + (s1.i + 1) + q; omega⟩
     · split at h
       · cases h
       · rename_i s2 h2
         obtain ⟨e2, _⟩ := zax ts en h2
         subst e2
         obtain ⟨a1, ⟨l2, a2⟩, a3⟩ := zru q hq1 hr hq e n h ⟨k1.gd, k1.cn, k1.cl⟩
         obtain ⟨l1, b1⟩ := g1.pre
         have a3' : s'.ns.length + (s1.i + 1) + 1 <= s1.ns.length + s'.i + q := a3
         refine ⟨a1, ⟨l1 ++ l2, by rw [a2]; show s1.ns ++ l2 = _; rw [b1]; simp⟩, by omega⟩
theorem zny {rd : PS -> Except (Int × Int) (Int × PS)} {c : Int} {n0 : Nat} (q : Nat) (hq1 : q <= 1) (hr : ∀ {s v s'}, rd s = .ok (v, s') -> Gd s.ns -> RG c s v s') (hq : ∀ k, zae c k = true -> 1 <= wkN k + q) {e : ByteArray} {n : Nat} {ks : List Int} {s s' : PS} (h : lsP ts en rd e n s = .ok (ks, s')) (hs : LG c n0 s []) : LG c n0 s' ks /\ (∃ l, s'.ns = s.ns ++ l) /\ s'.ns.length + s.i + 1 <= s.ns.length + s'.i + q := by
 unfold lsP at h
 split at h
 · injection h with h
   simp only [Prod.mk.injEq] at h
   obtain ⟨rfl, rfl⟩ := h
   exact ⟨⟨hs.gd, hs.cn, hs.cl⟩, ⟨[], by simp [adv]⟩, by show s.ns.length + s.i + 1 <= s.ns.length + (s.i + 1) + q; omega⟩
 · exact zru ts en q hq1 hr hq e n h hs
theorem LG.nil {c : Int} {s : PS} (h : Gd s.ns) : LG c s.ns.length s [] := ⟨h, Cn.nil _, fun q hq => by simp [za4] at hq⟩
theorem wk1 (k : Int) (h : zae 1 k = true) : 1 <= wkN k + 0 := by
 unfold zae zb0 at h
 rw [if_neg (by decide)] at h
 have := of_decide_eq_true h
 unfold wkN
 split
 · omega
 · split
   · rename_i h1 h2
     rcases h2 with rfl | rfl <;> simp at this
   · omega
theorem wk4 (k : Int) (h : zae 4 k = true) : 1 <= wkN k + 0 := by
 unfold zae zb0 at h
 rw [if_neg (by decide)] at h
 have := of_decide_eq_true h
 unfold wkN
 split
 · omega
 · split
   · rename_i h1 h2
     rcases h2 with rfl | rfl <;> simp at this
   · omega
theorem zmv {r : Rd} (hr : RdG r) {s0 : PS} {k : Int} {s s' : PS} {v : Int} (h : zv ts en r k s = .ok (v, s')) (hs : LG 1 s0.ns.length s [k]) (hp : ∃ l, s.ns = s0.ns ++ l) (hct : s.ns.length + s0.i <= s0.ns.length + s.i + 1) : RG 5 s0 v s' := by
 unfold zv at h
 split at h
 · cases h
 · rename_i s1 h1
   obtain ⟨e1, _⟩ := zax ts en h1
   subst e1
   split at h
   · cases h
   · rename_i e s2 h2
     have g2 := hr.wh h2 hs.gd
     have k2 : LG 1 s0.ns.length s2 ([k] ++ [e]) := LG.snoc (s := adv s) ⟨hs.gd, hs.cn, hs.cl⟩ g2
     have c2 : s2.ns.length + (s.i + 1) + wkN _ <= s.ns.length + s2.i + 1 := g2.ct
     have w2 := wk1 _ g2.cl
     obtain ⟨l2, p2⟩ := g2.pre
     obtain ⟨l0, p0⟩ := hp
     refine zbh (s := s0) h k2.gd k2.cn ⟨l0 ++ l2, by rw [p2]; show s.ns ++ l2 = _; rw [p0]; simp⟩ (tB0 (by decide)) (by decide) ?_ (by decide) (by show s2.ns.length + s0.i + 0 <= _; omega)
     have hl := zez k2.cl
     rw [zdv] at hl
     show (decide _ && zan (shp 24 (za4 _ _).length) _) = true
     rw [zdv]
     exact hl
end
theorem zmu {r : Int} (h : ltB r = true) : plB r = true := by
 unfold ltB at h
 unfold plB
 have := of_decide_eq_true h
 exact decide_eq_true (by omega)
theorem LG.adv {c : Int} {n : Nat} {s : PS} {ks : List Int} (h : LG c n s ks) : LG c n (Go.Proofs.YtiglkhkfbgjjoaaGreatDoor.adv s) ks := ⟨h.gd, h.cn, h.cl⟩
theorem zdd {k c : Int} {n : Nat} {s : PS} {ks : List Int} (h : LG c n s ks) (hk : zb0 k ≠ 0) (hs : shp k ks.length = List.replicate ks.length c) : zx k (za4 s.ns ks) = true := by
 have hl := zez h.cl
 rw [zdv] at hl
 unfold zx
 rw [decide_eq_true hk, zdv, hs, hl]
 rfl
theorem LG.one {c : Int} {s s' : PS} {v : Int} (h : RG c s v s') : LG c s.ns.length s' [v] := ⟨h.gd, h.cn, fun q hq => by simp [za4] at hq; rw [hq]; exact h.cl⟩
theorem zbe {a b c : List KnL} (h1 : ∃ l, b = a ++ l) (h2 : ∃ l, c = b ++ l) : ∃ l, c = a ++ l := by
 obtain ⟨l1, rfl⟩ := h1
 obtain ⟨l2, rfl⟩ := h2
 exact ⟨l1 ++ l2, by simp⟩
section
variable (ts : List za) (en : Nat)
theorem zu7 (hT : TkG ts) {r : Rd} (hr : RdG r) {s s' : PS} {v : Int} (h : fdP ts en r s = .ok (v, s')) (hs : Gd s.ns) : RG 5 s v s' := by
 unfold fdP at h
 split at h
 · split at h
   · cases h
   · rename_i k s1 h1
     have g1 := hr.wh h1 hs
     have c1 : s1.ns.length + (s.i + 1) + wkN _ <= s.ns.length + s1.i + 1 := g1.ct
     split at h
     · cases h
     · rename_i s2 h2
       obtain ⟨e2, _⟩ := zax ts en h2
       subst e2
       have k1 := LG.one g1
       exact zmv ts en hr h ⟨k1.gd, k1.cn, k1.cl⟩ g1.pre (by show s1.ns.length + s.i <= s.ns.length + (s1.i + 1) + 1; omega)
 · split at h
   · split at h
     · cases h
     · rename_i nm s1 h1
       obtain ⟨rfl, hn⟩ := zhr ts en hT h1
       obtain ⟨a1, a2, a3⟩ := Gd.add (k := 4) (t := nm) (i := 0) (ks := []) hs (Cn.nil _) (by
        show zb8 nm = true
        unfold zb3 at hn
        unfold zb8
        simp only [Bool.and_eq_true, decide_eq_true_eq] at hn ⊢
        exact ⟨fun i hi => zmu (hn.2 i hi), by omega⟩) (by decide) rfl
       refine zmv ts en hr h (s0 := s) ⟨a1, a2, fun q hq => ?_⟩ ⟨_, rfl⟩ ?_
       · have e : q = (XN (s.ns ++ [⟨4, nm, 0, []⟩]) s.ns.length).k := by simpa [za4, zb, adv] using hq
         rw [e, a3]
         decide
       · show (s.ns ++ [_]).length + s.i <= s.ns.length + (s.i + 1) + 1
         simp
         omega
   · split at h
     · cases h
     · rename_i e s1 h1
       have g1 := hr.wh h1 hs
       have c1 := g1.ct
       have w1 := wk1 _ g1.cl
       have k1 := LG.one g1
       exact zbh (s := s) h g1.gd g1.cn g1.pre (tB0 (by decide)) (by decide) (zdd k1 (by decide) rfl) (by decide) (by show s1.ns.length + s.i + 0 <= _; omega)
theorem zjw (hT : TkG ts) {r : Rd} (hr : RdG r) {s0 : PS} : ∀ (n : Nat) {a : Int} {s s' : PS} {v : Int}, RG 1 s0 a s -> bhP ts en r n a s = .ok (v, s') -> RG 1 s0 v s'
 | 0, a, s, s', v, _, h => by cases h
 | n + 1, a, s, s', v, h0, h => by
   have c0 := h0.ct
   have w0 := wk1 _ h0.cl
   unfold bhP at h
   split at h
   · split at h
     · cases h
     · rename_i ks s1 h1
       obtain ⟨k1, p1, c1⟩ := zny (n0 := s.ns.length) ts en 0 (by omega) hr.wh wk1 h1 (LG.nil h0.gd).adv
       have c1' : s1.ns.length + (s.i + 1) + 1 <= s.ns.length + s1.i + 0 := c1
       obtain ⟨l1, e1⟩ := p1
       have e1' : s1.ns = s.ns ++ l1 := e1
       have hcn : Cn s1.ns s0.ns.length (a :: ks) := by
        have h2 := h0.cn.pre (l := l1)
        rw [<- e1'] at h2
        exact (zdw _ (l := [a])).2 ⟨_, h2, k1.cn⟩
       have hkd : (XN s1.ns a.toNat).k = (XN s.ns a.toNat).k := by
        have := h0.cn.kof (l := l1)
        rw [<- e1'] at this
        simpa [za4] using this
       have hcl : ∀ q ∈ za4 s1.ns (a :: ks), zae 1 q = true := fun q hq => by
        rcases List.mem_cons.1 hq with rfl | hq
        · show zae 1 (XN s1.ns a.toNat).k = true
          rw [hkd]
          exact h0.cl
        · exact k1.cl q hq
       have kl : LG 1 s0.ns.length s1 (a :: ks) := ⟨k1.gd, hcn, hcl⟩
       exact zjw hT hr n (zbh (s := s0) (s1 := s1) (k := 9) (t := eT) (i := 0) rfl k1.gd hcn (zbe h0.pre ⟨l1, e1'⟩) (tB0 (by decide)) (by decide) (zdd kl (by decide) (by simp [shp, List.replicate_succ])) (by decide) (by show s1.ns.length + s0.i + 2 <= _; omega)) h
   · split at h
     · split at h
       · cases h
       · rename_i k s1 h1
         have g1 := hr.wh h1 h0.gd
         have c1 : s1.ns.length + (s.i + 1) + wkN _ <= s.ns.length + s1.i + 1 := g1.ct
         have w1 := wk1 _ g1.cl
         have k1 : LG 1 s0.ns.length s1 ([a] ++ [k]) := (LG.one h0).adv.snoc g1
         split at h
         · cases h
         · rename_i s2 h2
           obtain ⟨e2, _⟩ := zax ts en h2
           subst e2
           exact zjw hT hr n (zbh (s := s0) (s1 := adv s1) (k := 8) (t := eT) (i := 0) (ks := [a, k]) rfl k1.gd k1.cn (zbe h0.pre g1.pre) (tB0 (by decide)) (by decide) (zdd k1.adv (by decide) rfl) (by decide) (by show s1.ns.length + s0.i + 1 <= s0.ns.length + (s1.i + 1); omega)) h
     · split at h
       · split at h
         · cases h
         · rename_i nm s1 h1
           obtain ⟨rfl, hn⟩ := zhr ts en hT h1
           have g1 : RG 1 s (zb 4 nm 0 [] (adv (adv s))).1 (zb 4 nm 0 [] (adv (adv s))).2 := zbh (s := s) (s1 := adv (adv s)) rfl h0.gd (Cn.nil _) ⟨[], by simp [adv]⟩ (by
            show zb8 nm = true
            unfold zb3 at hn
            unfold zb8
            simp only [Bool.and_eq_true, decide_eq_true_eq] at hn ⊢
            exact ⟨fun i hi => zmu (hn.2 i hi), by omega⟩) (by decide) rfl (by decide) (by show s.ns.length + s.i + 1 <= s.ns.length + (s.i + 1 + 1); omega)
           have k1 : LG 1 s0.ns.length (zb 4 nm 0 [] (adv (adv s))).2 ([a] ++ [(zb 4 nm 0 [] (adv (adv s))).1]) := (LG.one h0).snoc g1
           have p1 := zbe h0.pre g1.pre
           refine zjw hT hr n (zbh (s := s0) (s1 := (zb 4 nm 0 [] (adv (adv s))).2) (k := 8) (t := eT) (i := 0) (ks := [a, (zb 4 nm 0 [] (adv (adv s))).1]) rfl k1.gd k1.cn p1 (tB0 (by decide)) (by decide) (zdd k1 (by decide) rfl) (by decide) ?_) h
           show (s.ns ++ [_]).length + s0.i + 1 <= s0.ns.length + (s.i + 1 + 1)
           simp only [List.length_append, List.length_singleton]
           omega
       · injection h with h
         simp only [Prod.mk.injEq] at h
         obtain ⟨rfl, rfl⟩ := h
         exact h0
theorem zuj (hT : TkG ts) {r : Rd} (hr : RdG r) {s s' : PS} {v : Int} (h : zu ts en r s = .ok (v, s')) (hs : Gd s.ns) : RG 1 s v s' := by
 have hpr : ∃ l, (adv s).ns = s.ns ++ l := ⟨[], by simp [adv]⟩
 unfold zu at h
 split at h
 · cases h
 rename_i x hx
 have hx2 := hT x (List.mem_of_getElem? hx)
 have lit : ∀ {k : Int} {t : ByteArray} {i : Int}, (Except.ok (zb k t i [] (adv s)) : Except (Int × Int) (Int × PS)) = .ok (v, s') -> za3 k t = true -> zb1 k i = true -> zx k [] = true -> zae 1 k = true -> wkN k <= 1 -> RG 1 s v s' := fun h1 h2 h3 h4 h5 h6 => zbh (s := s) h1 hs (Cn.nil _) hpr h2 h3 h4 h5 (by show s.ns.length + s.i + wkN _ <= s.ns.length + (s.i + 1); omega)
 split at h
 · rename_i k3
   refine lit h (by decide) ?_ (by decide) (by decide) (by decide)
   show (if _ then _ else _) = true
   rw [if_neg (by decide), if_pos rfl]
   exact decide_eq_true (hx2.2.2 k3)
 split at h
 · rename_i k4
   exact lit h (hx2.2.1 k4) (by decide) (by decide) (by decide) (by decide)
 split at h
 · rename_i k1
   exact lit h (hx2.1 k1) (by decide) (by decide) (by decide) (by decide)
 split at h
 · exact lit h (by decide) (by decide) (by decide) (by decide) (by decide)
 split at h
 · exact lit h (by decide) (by decide) (by decide) (by decide) (by decide)
 split at h
 · exact lit h (by decide) (by decide) (by decide) (by decide) (by decide)
 split at h
 · split at h
   · cases h
   rename_i s1 h1
   obtain ⟨e1, _⟩ := zax ts en h1
   subst e1
   split at h
   · cases h
   rename_i ks s2 h2
   have l0 : LG 4 s.ns.length (adv (adv s)) [] := LG.nil (s := adv (adv s)) hs
   obtain ⟨k2, p2, c2⟩ := zny (n0 := s.ns.length) ts en 0 (by omega) (zu8 ts en hT) wk4 h2 l0
   have c2' : s2.ns.length + (s.i + 1 + 1) + 1 <= s.ns.length + s2.i + 0 := c2
   split at h
   · cases h
   rename_i b s3 h3
   have g3 := hr.bl h3 k2.gd
   have c3 := g3.ct
   obtain ⟨l3, e3⟩ := g3.pre
   have hcn : Cn s3.ns s.ns.length (ks ++ [b]) := by
    have h4 := g3.cn
    rw [e3] at h4 ⊢
    exact k2.cn.snoc h4
   have hkk : za4 s3.ns ks = za4 s2.ns ks := by rw [e3]; exact k2.cn.kof
   refine zbh (s := s) h g3.gd hcn (zbe p2 ⟨l3, e3⟩) (tB0 (by decide)) (by decide) ?_ (by decide) (by show s3.ns.length + s.i + 1 <= _; omega)
   have hf := zez k2.cl
   have hks : za4 s3.ns (ks ++ [b]) = za4 s2.ns ks ++ [(XN s3.ns b.toNat).k] := by
    rw [<- hkk]
    unfold za4
    simp
   unfold zx
   rw [hks, decide_eq_true (by decide), Bool.true_and]
   have hsh : shp 6 (za4 s2.ns ks ++ [(XN s3.ns b.toNat).k]).length = List.replicate (za4 s2.ns ks).length 4 ++ [3] := by
    rw [List.length_append, List.length_singleton]
    unfold shp
    rw [if_pos rfl, Nat.add_sub_cancel]
   rw [hsh]
   refine zg1 hf ?_
   show (zae 3 _ && true) = true
   rw [g3.cl]
   rfl
 split at h
 · split at h
   · cases h
   rename_i ks s1 h1
   have l0 : LG 5 s.ns.length (adv s) [] := LG.nil (s := adv s) hs
   obtain ⟨k1, p1, c1⟩ := zny (n0 := s.ns.length) ts en 1 (by omega) (zu7 ts en hT hr) (fun k _ => by omega) h1 l0
   have c1' : s1.ns.length + (s.i + 1) + 1 <= s.ns.length + s1.i + 1 := c1
   exact zbh (s := s) h k1.gd k1.cn p1 (tB0 (by decide)) (by decide) (zdd k1 (by decide) rfl) (by decide) (by show s1.ns.length + s.i + 1 <= _; omega)
 split at h
 · split at h
   · cases h
   rename_i w s1 h1
   split at h
   · cases h
   rename_i s2 h2
   injection h with h
   simp only [Prod.mk.injEq] at h
   obtain ⟨rfl, rfl⟩ := h
   obtain ⟨rfl, hb⟩ := zax ts en h2
   exact (hr.wh h1 hs).of_ns rfl rfl (by show s.i <= s.i + 1; omega) (by show s1.i <= s1.i + 1; omega)
 · cases h
theorem zrt (hT : TkG ts) {r : Rd} (hr : RdG r) {s s' : PS} {v : Int} (h : tnP ts en r s = .ok (v, s')) (hs : Gd s.ns) : RG 1 s v s' := by
 unfold tnP at h
 split at h
 · split at h
   · cases h
   rename_i a s1 h1
   exact zjw ts en hT hr _ (zuj ts en hT hr h1 hs) h
 · rename_i htn
   split at h
   · cases h
   rename_i s1 h1
   obtain ⟨e1, _⟩ := zb5 ts en h1
   subst e1
   split at h
   · cases h
   rename_i e s2 h2
   have g2 := hr.tn h2 hs
   have c2 : s2.ns.length + (s.i + 1) + wkN _ <= s.ns.length + s2.i + 1 := g2.ct
   have w2 := wk1 _ g2.cl
   have hint : zb1 11 (zy ts s) = true := by
    unfold zy at htn ⊢
    split
    · decide
    · split
      · decide
      · split
        · decide
        · rename_i q1 q2 q3
          rw [if_neg q1, if_neg q2, if_neg q3] at htn
          exact absurd rfl htn
   have g3 : RG 1 s (zb 11 eT (zy ts s) [e] s2).1 (zb 11 eT (zy ts s) [e] s2).2 := zbh (s := s) rfl g2.gd g2.cn g2.pre (tB0 (by decide)) hint (zdd (LG.one g2) (by decide) rfl) (by decide) (by show s2.ns.length + s.i + 1 <= _; omega)
   injection h with h
   simp only [Prod.mk.injEq] at h
   rw [<- h.1, <- h.2]
   exact g3.of_ns rfl rfl (Nat.le_refl _) (Nat.le_refl _)
end
structure FG (cs : List Int) (n : Nat) (s : PS) (ks : List Int) : Prop where
 gd : Gd s.ns
 cn : Cn s.ns n ks
 ft : zan cs (za4 s.ns ks) = true
theorem FG.snoc {cs : List Int} {c : Int} {n : Nat} {s s' : PS} {ks : List Int} {v : Int} (h : FG cs n s ks) (hv : RG c s v s') : FG (cs ++ [c]) n s' (ks ++ [v]) := by
 obtain ⟨l, hl⟩ := hv.pre
 refine ⟨hv.gd, ?_, ?_⟩
 · have h2 := hv.cn
   rw [hl] at h2 ⊢
   exact h.cn.snoc h2
 · have e : za4 s'.ns (ks ++ [v]) = za4 s.ns ks ++ [(XN s'.ns v.toNat).k] := by
    have := h.cn.kof (l := l)
    rw [<- hl] at this
    rw [<- this]
    unfold za4
    simp
   rw [e]
   refine zg1 h.ft ?_
   show (zae c _ && true) = true
   rw [hv.cl]
   rfl
theorem FG.one {c : Int} {s s' : PS} {v : Int} (h : RG c s v s') : FG [c] s.ns.length s' [v] := ⟨h.gd, h.cn, by show (zae c _ && true) = true; rw [h.cl]; rfl⟩
theorem FG.at_ {cs : List Int} {n : Nat} {s s2 : PS} {ks : List Int} (h : FG cs n s ks) (e : s2.ns = s.ns) : FG cs n s2 ks := ⟨by rw [e]; exact h.gd, by rw [e]; exact h.cn, by rw [e]; exact h.ft⟩
theorem FG.kof {cs : List Int} {n : Nat} {s : PS} {ks : List Int} {k : Int} (h : FG cs n s ks) (hk : zb0 k ≠ 0) (hs : shp k ks.length = cs) : zx k (za4 s.ns ks) = true := by
 unfold zx
 rw [decide_eq_true hk, zdv, hs, h.ft]
 rfl
theorem zc3 {α : Type} {P : α -> Prop} {c : Prop} [Decidable c] {a b : α} (ha : P a) (hb : P b) : P (if c then a else b) := by split <;> assumption
def OpG (p : Nat × Int × Int) : Prop := p.1 ≠ 0 -> za3 p.2.1 eT = true /\ zb1 p.2.1 p.2.2 = true /\ zb0 p.2.1 ≠ 0 /\ shp p.2.1 2 = [1, 1] /\ zae 1 p.2.1 = true /\ wkN p.2.1 = 1
theorem zvu (ts : List za) (s : PS) : OpG (zi ts s) := by
 unfold zi
 cases ts[s.i]? with
 | none => exact fun h => absurd rfl h
 | some x =>
   have t : ∀ (l : Nat) (k i : Int), za3 k eT = true -> zb1 k i = true -> zb0 k ≠ 0 -> shp k 2 = [1, 1] -> zae 1 k = true -> wkN k = 1 -> OpG (l, k, i) := fun l k i h1 h2 h3 h4 h5 h6 _ => ⟨h1, h2, h3, h4, h5, h6⟩
   show OpG (opT x)
   unfold opT
   exact zc3 (t _ _ _ (by decide) (by decide) (by decide) (by decide) (by decide) (by decide)) (zc3 (t _ _ _ (by decide) (by decide) (by decide) (by decide) (by decide) (by decide)) (zc3 (t _ _ _ (by decide) (by decide) (by decide) (by decide) (by decide) (by decide)) (zc3 (t _ _ _ (by decide) (by decide) (by decide) (by decide) (by decide) (by decide)) (zc3 (t _ _ _ (by decide) (by decide) (by decide) (by decide) (by decide) (by decide)) (zc3 (t _ _ _ (by decide) (by decide) (by decide) (by decide) (by decide) (by decide)) (zc3 (t _ _ _ (by decide) (by decide) (by decide) (by decide) (by decide) (by decide)) (zc3 (t _ _ _ (by decide) (by decide) (by decide) (by decide) (by decide) (by decide)) (zc3 (t _ _ _ (by decide) (by decide) (by decide) (by decide) (by decide) (by decide)) (zc3 (t _ _ _ (by decide) (by decide) (by decide) (by decide) (by decide) (by decide)) (zc3 (t _ _ _ (by decide) (by decide) (by decide) (by decide) (by decide) (by decide)) (zc3 (t _ _ _ (by decide) (by decide) (by decide) (by decide) (by decide) (by decide)) (fun h => absurd rfl h))))))))))))
section
variable (ts : List za) (en : Nat)
theorem zro {r : Rd} (hr : RdG r) {s0 : PS} {level : Nat} (hl : level ≠ 0) : ∀ (n : Nat) {a : Int} {s s' : PS} {v : Int}, RG 1 s0 a s -> mlp ts r level n a s = .ok (v, s') -> RG 1 s0 v s'
 | 0, a, s, s', v, _, h => by cases h
 | n + 1, a, s, s', v, h0, h => by
   unfold mlp at h
   split at h
   · rename_i ho
     split at h
     · cases h
     · rename_i b s1 h1
       obtain ⟨o1, o2, o3, o4, o5, o6⟩ := zvu ts s (by rw [ho]; exact hl)
       have g1 := hr.lv h1 h0.gd
       have c0 := h0.ct
       have w0 := wk1 _ h0.cl
       have c1 : s1.ns.length + (s.i + 1) + wkN _ <= s.ns.length + s1.i + 1 := g1.ct
       have w1 := wk1 _ g1.cl
       have k1 : FG ([1] ++ [1]) s0.ns.length s1 ([a] ++ [b]) := ((FG.one h0).at_ (s2 := adv s) rfl).snoc g1
       have fin : RG 1 s0 (zb (zi ts s).2.1 eT (zi ts s).2.2 [a, b] s1).1 (zb (zi ts s).2.1 eT (zi ts s).2.2 [a, b] s1).2 := zbh (s := s0) rfl k1.gd k1.cn (zbe h0.pre g1.pre) o1 o2 (k1.kof o3 o4) o5 (by rw [o6]; omega)
       split at h
       · injection h with h
         rw [Prod.ext_iff] at h
         obtain ⟨rfl, rfl⟩ := h
         exact fin
       · exact zro hr hl n fin h
   · injection h with h
     simp only [Prod.mk.injEq] at h
     obtain ⟨rfl, rfl⟩ := h
     exact h0
theorem zpi {r : Rd} (hr : RdG r) {s0 : PS} (lv : Nat) : ∀ (m : Nat) {a : Int} {s s' : PS} {v : Int}, RG 1 s0 a s -> zaj ts r lv m a s = .ok (v, s') -> RG 1 s0 v s'
 | 0, a, s, s', v, h0, h => by
   injection h with h
   simp only [Prod.mk.injEq] at h
   obtain ⟨rfl, rfl⟩ := h
   exact h0
 | m + 1, a, s, s', v, h0, h => by
   unfold zaj at h
   split at h
   · injection h with h
     simp only [Prod.mk.injEq] at h
     obtain ⟨rfl, rfl⟩ := h
     exact h0
   · split at h
     · cases h
     · rename_i b s1 h1
       exact zpi hr lv m (zro ts hr (by omega) _ h0 h1) h
theorem zrp (hT : TkG ts) {r : Rd} (hr : RdG r) {n : Nat} {s s' : PS} {v : Int} (h : lvP ts en r n s = .ok (v, s')) (hs : Gd s.ns) : RG 1 s v s' := by
 unfold lvP at h
 split at h
 · cases h
 · rename_i a s1 h1
   exact zpi ts hr n _ (zrt ts en hT hr h1 hs) h
theorem zrq (hT : TkG ts) {r : Rd} (hr : RdG r) {s s' : PS} {v : Int} (h : whP ts en r s = .ok (v, s')) (hs : Gd s.ns) : RG 1 s v s' := by
 unfold whP at h
 split at h
 · cases h
 rename_i s1 h1
 obtain ⟨e1, _⟩ := zb5 ts en h1
 subst e1
 split at h
 · cases h
 rename_i a s2 h2
 have g2 := zrp ts en hT hr h2 hs
 injection h with h
 simp only [Prod.mk.injEq] at h
 rw [<- h.1, <- h.2]
 exact g2.of_ns rfl rfl (Nat.le_refl _) (Nat.le_refl _)
theorem wk2 (k : Int) (h : zae 2 k = true) : wkN k = 2 := by
 unfold zae zb0 at h
 rw [if_neg (by decide)] at h
 have := of_decide_eq_true h
 unfold wkN
 rw [if_pos]
 split at this
 · omega
 · split at this
   · omega
   · split at this
     · omega
     · split at this
       · omega
       · split at this <;> omega
theorem zrr {r : Rd} (hr : RdG r) {n0 : Nat} : ∀ (n : Nat) {ks ks' : List Int} {s s' : PS}, bsP ts r n ks s = .ok (ks', s') -> LG 2 n0 s ks -> LG 2 n0 s' ks' /\ (∃ l, s'.ns = s.ns ++ l) /\ s'.ns.length + s.i + 1 <= s.ns.length + s'.i
 | 0, ks, ks', s, s', h, _ => by cases h
 | n + 1, ks, ks', s, s', h, hs => by
   unfold bsP at h
   split at h
   · injection h with h
     simp only [Prod.mk.injEq] at h
     obtain ⟨rfl, rfl⟩ := h
     exact ⟨hs.adv, ⟨[], by simp [adv]⟩, by show s.ns.length + s.i + 1 <= s.ns.length + (s.i + 1); omega⟩
   · split at h
     · cases h
     · rename_i v s1 h1
       have g1 := hr.st h1 hs.gd
       have c1 := g1.ct
       have w1 := wk2 _ g1.cl
       obtain ⟨a1, a2, a3⟩ := zrr hr n h (hs.snoc g1)
       exact ⟨a1, zbe g1.pre a2, by omega⟩
theorem zu5 {r : Rd} (hr : RdG r) {s s' : PS} {v : Int} (h : blP ts en r s = .ok (v, s')) (hs : Gd s.ns) : RG 3 s v s' := by
 unfold blP at h
 split at h
 · cases h
 rename_i s1 h1
 obtain ⟨e1, _⟩ := zb5 ts en h1
 subst e1
 split at h
 · cases h
 rename_i s2 h2
 obtain ⟨e2, _⟩ := zax ts en h2
 subst e2
 split at h
 · cases h
 rename_i ks s3 h3
 have l0 : LG 2 s.ns.length (adv ⟨s.i, s.d + 1, s.ns⟩) [] := LG.nil (s := adv ⟨s.i, s.d + 1, s.ns⟩) hs
 obtain ⟨k3, p3, c3⟩ := zrr ts hr _ h3 l0
 have c3' : s3.ns.length + (s.i + 1) + 1 <= s.ns.length + s3.i := c3
 have k3' : LG 2 s.ns.length (zap s3) ks := ⟨k3.gd, k3.cn, k3.cl⟩
 exact zbh (s := s) h k3.gd k3.cn p3 (tB0 (by decide)) (by decide) (zdd k3' (by decide) rfl) (by decide) (by show s3.ns.length + s.i + 2 <= s.ns.length + s3.i; omega)
theorem zjv {r : Rd} (hr : RdG r) {s s' : PS} {v : Int} (h : laP ts en r s = .ok (v, s')) (hs : Gd s.ns) : RG 1 s v s' /\ s'.ns.length + s.i + 1 <= s.ns.length + s'.i := by
 unfold laP at h
 split at h
 · cases h
 rename_i e s1 h1
 split at h
 · cases h
 rename_i s2 h2
 obtain ⟨e2, _⟩ := zax ts en h2
 subst e2
 injection h with h
 simp only [Prod.mk.injEq] at h
 obtain ⟨rfl, rfl⟩ := h
 have g1 := hr.wh h1 hs
 have c1 := g1.ct
 have w1 := wk1 _ g1.cl
 exact ⟨g1.of_ns rfl rfl (Nat.le_refl _) (by show s1.i <= s1.i + 1; omega), by show s1.ns.length + s.i + 1 <= s.ns.length + (s1.i + 1); omega⟩
theorem Gd.front {N : List KnL} {x : KnL} (h : Gd (N ++ [x])) : Gd N := fun j hj => zpk (fun q hq => zf8 (by omega)) (h j (by simp; omega))
theorem zui (hT : TkG ts) {r : Rd} (hr : RdG r) {s s' : PS} {v : Int} (h : za9 ts en r s = .ok (v, s')) (hs : Gd s.ns) : RG 2 s v s' := by
 unfold za9 at h
 split at h
 · cases h
 rename_i e s1 h1
 have g1 := zrq ts en hT hr h1 hs
 have c1 := g1.ct
 have w1 := wk1 _ g1.cl
 obtain ⟨v0, hst, hv1⟩ := (zff _).1 g1.cn
 split at h
 · cases h
 rename_i x hx
 have hXk : (XN s1.ns e.toNat).k = x.k := by unfold XN; rw [List.getD_eq_getElem?_getD, hx]; rfl
 obtain ⟨N, hN, hNl⟩ : ∃ N, s1.ns = N ++ [x] /\ N.length = e.toNat := by
  refine ⟨s1.ns.take e.toNat, ?_, by rw [List.length_take]; omega⟩
  have hlt : e.toNat < s1.ns.length := by omega
  have hd : s1.ns.drop e.toNat = [x] := by
   rw [List.drop_eq_getElem_cons hlt, List.drop_eq_nil_of_le (by omega)]
   have : s1.ns[e.toNat] = x := by have h3 := List.getElem?_eq_getElem hlt; rw [hx] at h3; injection h3 with h3; exact h3.symm
   rw [this]
  have := List.take_append_drop e.toNat s1.ns
  rw [hd] at this
  exact this.symm
 have htk : s1.ns.take e.toNat = N := by rw [hN, <- hNl]; simp
 have hgN : Gd N := by have := g1.gd; rw [hN] at this; exact this.front
 have hge := g1.gd e.toNat (by omega)
 obtain ⟨n1, n2, n3, n4⟩ := hge
 have hkl : zay (XN s1.ns) e.toNat = x.ks := by rw [hN, <- hNl]; exact zhs N x
 have hcn : Cn N s.ns.length x.ks := by
  unfold zch at n1
  rw [hst, hkl, hN, <- hNl] at n1
  exact zgk (fun j hj => zf8 hj) n1
 have hkn : zas (XN s1.ns) e.toNat = za4 N x.ks := by
  unfold zas
  rw [hkl, hN]
  exact hcn.kof
 have hpN : ∃ l, N = s.ns ++ l := by
  obtain ⟨l, hl⟩ := g1.pre
  have hle := zht (XN s1.ns) e.toNat
  rw [hN] at hl
  refine ⟨N.drop s.ns.length, ?_⟩
  have h2 : s.ns = N.take s.ns.length := by
   have h3 := congrArg (List.take s.ns.length) hl
   rw [List.take_append_of_le_length (by omega), List.take_append_of_le_length (Nat.le_refl _), List.take_length] at h3
   exact h3.symm
  conv => lhs; rw [<- List.take_append_drop s.ns.length N]
  rw [<- h2]
 have hNs : N.length + 1 = s1.ns.length := by rw [hN]; simp
 split at h
 · rename_i hc
   have g2 : RG 6 s e (adv s1) := ⟨g1.gd, g1.cn, by show zae 6 (XN s1.ns e.toNat).k = true; rw [hXk, hc.1]; decide, g1.pre, by have := g1.ct; show s1.ns.length + s.i + wkN (XN s1.ns e.toNat).k <= s.ns.length + (s1.i + 1) + 1; omega⟩
   have w9 : wkN (XN s1.ns e.toNat).k = 2 := by rw [hXk, hc.1]; decide
   exact zbh (s := s) h g1.gd g1.cn g1.pre (tB0 (by decide)) (by decide) ((FG.one g2).kof (by decide) rfl) (by decide) (by show s1.ns.length + s.i + 2 <= s.ns.length + (s1.i + 1); omega)
 split at h
 · rename_i hc
   split at h
   · cases h
   rename_i w s2 h2
   rw [htk] at h2
   have hks : x.ks = [] := by
    rw [hkn, hXk, hc.1] at n4
    unfold zx at n4
    simp only [Bool.and_eq_true] at n4
    have := zg2 n4.2
    rw [zdv] at this
    exact List.eq_nil_of_length_eq_zero this.symm
   rw [hks] at hcn
   have hNe : s.ns.length = N.length := hcn
   obtain ⟨g2, c2⟩ := zjv ts en hr h2 hgN
   have c2' : s2.ns.length + (s1.i + 1) + 1 <= N.length + s2.i := c2
   have g2' : RG 1 s w s2 := ⟨g2.gd, by rw [hNe]; exact g2.cn, g2.cl, zbe hpN g2.pre, by have := g2.ct; have h9 : s2.ns.length + (s1.i + 1) + wkN _ <= N.length + s2.i + 1 := this; omega⟩
   have htx : za3 15 x.t = true := by
    have h3 : (XN s1.ns e.toNat).t = x.t := by unfold XN; rw [List.getD_eq_getElem?_getD, hx]; rfl
    rw [hXk, hc.1, h3] at n2
    exact n2
   exact zbh (s := s) h g2.gd g2'.cn g2'.pre htx (by decide) ((FG.one g2').kof (by decide) rfl) (by decide) (by show s2.ns.length + s.i + 2 <= _; omega)
 split at h
 · rename_i hc
   split at h
   · cases h
   rename_i w s2 h2
   rw [htk] at h2
   have hft : zan [1, 1] (za4 N x.ks) = true := by
    rw [hkn, hXk, hc.1] at n4
    unfold zx at n4
    simp only [Bool.and_eq_true] at n4
    exact n4.2
   obtain ⟨g2, c2⟩ := zjv ts en hr h2 hgN
   have c2' : s2.ns.length + (s1.i + 1) + 1 <= N.length + s2.i := c2
   have k2 : FG ([1, 1] ++ [1]) s.ns.length s2 (x.ks ++ [w]) := FG.snoc (s := ⟨s1.i + 1, s1.d, N⟩) ⟨hgN, hcn, hft⟩ g2
   exact zbh (s := s) h k2.gd k2.cn (zbe hpN g2.pre) (tB0 (by decide)) (by decide) (k2.kof (by decide) rfl) (by decide) (by show s2.ns.length + s.i + 2 <= _; omega)
 · cases h
theorem zu6 (hT : TkG ts) {r : Rd} (hr : RdG r) {s s' : PS} {v : Int} (h : stP ts en r s = .ok (v, s')) (hs : Gd s.ns) : RG 2 s v s' := by
 unfold stP at h
 split at h
 · split at h
   · cases h
   rename_i nm s1 h1
   obtain ⟨rfl, hn⟩ := zhr ts en hT h1
   split at h
   · cases h
   rename_i s2 h2
   obtain ⟨e2, _⟩ := zax ts en h2
   subst e2
   split at h
   · cases h
   rename_i e s3 h3
   obtain ⟨g3, c3⟩ := zjv ts en hr h3 hs
   have c3' : s3.ns.length + (s.i + 1 + 1 + 1) + 1 <= s.ns.length + s3.i := c3
   have g3' : RG 1 s e s3 := g3.of_ns rfl rfl (by show s.i <= s.i + 1 + 1 + 1; omega) (Nat.le_refl _)
   exact zbh (s := s) h g3.gd g3'.cn g3'.pre hn (by decide) ((FG.one g3').kof (by decide) rfl) (by decide) (by show s3.ns.length + s.i + 2 <= _; omega)
 split at h
 · split at h
   · cases h
   rename_i e s1 h1
   have g1 := (hr.wh h1 hs).of_ns (s := s) rfl rfl (by show s.i <= s.i + 1; omega) (Nat.le_refl _)
   have c1 : s1.ns.length + (s.i + 1) + wkN _ <= s.ns.length + s1.i + 1 := (hr.wh h1 hs).ct
   have w1 := wk1 _ (hr.wh h1 hs).cl
   split at h
   · cases h
   rename_i b s2 h2
   have g2 := hr.bl h2 g1.gd
   have c2 := g2.ct
   have k2 : FG ([1] ++ [3]) s.ns.length s2 ([e] ++ [b]) := (FG.one g1).snoc g2
   have w2 : wkN (XN s2.ns b.toNat).k = 2 := by
    have h4 := g2.cl
    have : (XN s2.ns b.toNat).k = 21 := by
     unfold zae zb0 at h4
     rw [if_neg (by decide)] at h4
     have h5 := of_decide_eq_true h4
     split at h5
     · omega
     · split at h5
       · omega
       · split at h5
         · assumption
         · split at h5
           · omega
           · split at h5 <;> omega
    rw [this]
    decide
   split at h
   · split at h
     · cases h
     rename_i c s3 h3
     have g3 := hr.bl h3 g2.gd
     have c3 : s3.ns.length + (s2.i + 1) + wkN _ <= s2.ns.length + s3.i + 1 := g3.ct
     have k3 : FG (([1] ++ [3]) ++ [3]) s.ns.length s3 (([e] ++ [b]) ++ [c]) := (k2.at_ (s2 := adv s2) rfl).snoc g3
     exact zbh (s := s) h k3.gd k3.cn (zbe (zbe g1.pre g2.pre) g3.pre) (tB0 (by decide)) (by decide) (k3.kof (by decide) rfl) (by decide) (by show s3.ns.length + s.i + 2 <= _; omega)
   · exact zbh (s := s) h k2.gd k2.cn (zbe g1.pre g2.pre) (tB0 (by decide)) (by decide) (k2.kof (by decide) rfl) (by decide) (by show s2.ns.length + s.i + 2 <= _; omega)
 split at h
 · split at h
   · cases h
   rename_i e s1 h1
   have g1 := (hr.wh h1 hs).of_ns (s := s) rfl rfl (by show s.i <= s.i + 1; omega) (Nat.le_refl _)
   have c1 : s1.ns.length + (s.i + 1) + wkN _ <= s.ns.length + s1.i + 1 := (hr.wh h1 hs).ct
   have w1 := wk1 _ (hr.wh h1 hs).cl
   split at h
   · cases h
   rename_i b s2 h2
   have g2 := hr.bl h2 g1.gd
   have c2 := g2.ct
   have k2 : FG ([1] ++ [3]) s.ns.length s2 ([e] ++ [b]) := (FG.one g1).snoc g2
   have w2 : wkN (XN s2.ns b.toNat).k = 2 := by
    have h4 := g2.cl
    have : (XN s2.ns b.toNat).k = 21 := by
     unfold zae zb0 at h4
     rw [if_neg (by decide)] at h4
     have h5 := of_decide_eq_true h4
     split at h5
     · omega
     · split at h5
       · omega
       · split at h5
         · assumption
         · split at h5
           · omega
           · split at h5 <;> omega
    rw [this]
    decide
   exact zbh (s := s) h k2.gd k2.cn (zbe g1.pre g2.pre) (tB0 (by decide)) (by decide) (k2.kof (by decide) rfl) (by decide) (by show s2.ns.length + s.i + 2 <= _; omega)
 split at h
 · split at h
   · cases h
   rename_i e s1 h1
   obtain ⟨g1, c1⟩ := zjv ts en hr h1 hs
   have c1' : s1.ns.length + (s.i + 1) + 1 <= s.ns.length + s1.i := c1
   have g1' : RG 1 s e s1 := g1.of_ns rfl rfl (by show s.i <= s.i + 1; omega) (Nat.le_refl _)
   exact zbh (s := s) h g1.gd g1'.cn g1'.pre (tB0 (by decide)) (by decide) ((FG.one g1').kof (by decide) rfl) (by decide) (by show s1.ns.length + s.i + 2 <= _; omega)
 exact zui ts en hT hr h hs
theorem zgj (hT : TkG ts) : ∀ n, RdG (rds ts en n)
 | 0 => ⟨fun h => (by cases h), fun h => (by cases h), fun h => (by cases h), fun h => (by cases h), fun h => (by cases h)⟩
 | n + 1 => ⟨zrq ts en hT (zgj hT n), zrp ts en hT (zgj hT n), zrt ts en hT (zgj hT n), zu5 ts en (zgj hT n), zu6 ts en hT (zgj hT n)⟩
theorem zrs {r : Rd} (hr : RdG r) {n0 : Nat} : ∀ (n : Nat) {ks ks' : List Int} {s s' : PS}, tpP ts r n ks s = .ok (ks', s') -> LG 2 n0 s ks -> LG 2 n0 s' ks' /\ s'.i = ts.length /\ ks.length <= ks'.length /\ s'.ns.length + s.i + ks'.length <= s.ns.length + s'.i + ks.length
 | 0, ks, ks', s, s', h, _ => by cases h
 | n + 1, ks, ks', s, s', h, hs => by
   unfold tpP at h
   split at h
   · rename_i he
     injection h with h
     simp only [Prod.mk.injEq] at h
     obtain ⟨rfl, rfl⟩ := h
     exact ⟨hs, he, Nat.le_refl _, Nat.le_refl _⟩
   · split at h
     · cases h
     · rename_i v s1 h1
       have g1 := hr.st h1 hs.gd
       have c1 := g1.ct
       have w1 := wk2 _ g1.cl
       obtain ⟨a1, a2, a3, a4⟩ := zrs hr n h (hs.snoc g1)
       simp only [List.length_append, List.length_singleton] at a3 a4
       exact ⟨a1, a2, by omega, by omega⟩
theorem zqu (hT : TkG ts) (hl : ts.length <= 3000) {n : Int} {ns : List KnL} (h : zbj ts en = .ok (n, ns)) : TOK (XN ns) ns.length n := by
 unfold zbj at h
 split at h
 · cases h
 rename_i ks s h1
 obtain ⟨a1, a2, a3, a4⟩ := zrs ts (zgj ts en hT _) _ h1 (LG.nil (s := ⟨0, 0, []⟩) Gd.nil)
 injection h with h
 simp only [Prod.mk.injEq] at h
 obtain ⟨h2, h3⟩ := h
 obtain ⟨b1, b2, b3⟩ := Gd.add (k := 21) (t := eT) (i := 0) a1.gd a1.cn (tB0 (by decide)) (by decide) (zdd a1 (by decide) rfl)
 have e3 : ns = s.ns ++ [⟨21, eT, 0, ks⟩] := h3.symm
 have e2 : n = (s.ns.length : Int) := h2.symm
 have hL : ns.length = s.ns.length + 1 := by rw [e3]; simp
 have a4' : s.ns.length + 0 + ks.length <= 0 + s.i + 0 := a4
 refine ⟨?_, ⟨by omega, by omega, ?_, ?_, fun j _ hj => ?_⟩, by omega⟩
 · cases ks with
   | nil =>
     have : (0 : Nat) = s.ns.length := a1.cn
     omega
   | cons k ks =>
     simp only [List.length_cons] at a4'
     omega
 · rw [e2, e3, Int.toNat_natCast, b3]
   decide
 · rw [e2, e3, Int.toNat_natCast]
   have := ((zff _).1 b2).2.1
   rw [Int.toNat_natCast] at this
   exact this
 · rw [e3]
   exact b1 j (by rw [e2, Int.toNat_natCast] at hj; simp; omega)
end
end Go.Proofs.YtiglkhkfbgjjoaaGreatDoor
