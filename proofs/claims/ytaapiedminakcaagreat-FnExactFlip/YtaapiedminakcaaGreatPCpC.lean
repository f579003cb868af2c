/- - -/
import Derived.Test.YtaapiedminakcaaGreatPKpA
import Derived.Test.YtaapiedminakcaaGreatPMoveA
namespace Go.Proofs.YtaapiedminakcaaGreat
set_option maxRecDepth 20000
open Go.RowKit
set_option linter.unusedSimpArgs false
set_option linter.unusedVariables false
def zvq (ws : List Int) (todo : List Nat) (t m : Int) : List Nat :=
 if isR t = true then (if (zk ws m.toNat).toNat ∈ todo then todo else todo ++ [(zk ws m.toNat).toNat]) else todo
def zui (ws : List Int) (f : Nat -> Int × Int) : Nat -> List Nat -> List Nat
 | 0, todo => todo
 | k + 1, todo => zvq ws (zui ws f k todo) (f k).1 (f k).2
def zw (ws : List Int) (p j : Nat) : Nat := p + (fs (rdK (za ws p)) + 2 * (j : Int)).toNat
def zvr (ws : List Int) (p : Nat) (j : Nat) : Int × Int := (rvT ws (zw ws p j), rvN ws (zw ws p j))
def zmc (ws : List Int) (p : Nat) (todo : List Nat) : List Nat := zui ws (zvr ws p) (slN (rdK (za ws p)) (rdS (za ws p))) todo
def bfs (ws : List Int) : Nat -> Nat -> List Nat -> List Nat
 | 0, _, todo => todo
 | d + 1, i, todo => if i < todo.length then bfs ws d (i + 1) (zmc ws (todo.getD i 0) todo) else todo
def Bfs (ws : List Int) (i : Nat) (todo R : List Nat) : Prop := bfs ws (ws.length - i) i todo = R
theorem Bfs.done {ws : List Int} {i : Nat} {todo R : List Nat} (h : Bfs ws i todo R) (hi : ¬ i < todo.length) : R = todo := by
 unfold Bfs at h
 cases hd : ws.length - i with
 | zero => rw [hd] at h; exact h.symm
 | succ d => rw [hd] at h; simp only [bfs, if_neg hi] at h; exact h.symm
theorem Bfs.step {ws : List Int} {i : Nat} {todo R : List Nat} (h : Bfs ws i todo R) (hi : i < todo.length) (hl : todo.length <= ws.length) : Bfs ws (i + 1) (zmc ws (todo.getD i 0) todo) R := by
 unfold Bfs at h ⊢
 obtain ⟨d, hd⟩ : ∃ d, ws.length - i = d + 1 := ⟨ws.length - i - 1, by omega⟩
 rw [hd] at h
 simp only [bfs, if_pos hi] at h
 rw [show ws.length - (i + 1) = d by omega]
 exact h
def nxA (ws : List Int) (p : Nat) : Option Nat := if zaa (za ws p) = true then some (rdS (za ws p)).toNat else none
def nxB (ws : List Int) (U : List Nat) (p : Nat) : Option Nat :=
 if zaa (za ws p) = true then some (rdS (za ws p)).toNat else if za6 (za ws p) = true /\ zu ws p ∈ U then some (rdS (za ws (zu ws p))).toNat else none
theorem zio {ws : List Int} {p s : Nat} (h : nxA ws p = some s) : zaa (za ws p) = true /\ s = (rdS (za ws p)).toNat := by
 unfold nxA at h
 split at h
 · rename_i g; exact ⟨g, by simpa using h.symm⟩
 · simp at h
theorem zip {ws : List Int} {U : List Nat} {p s : Nat} (h : nxB ws U p = some s) : (zaa (za ws p) = true /\ s = (rdS (za ws p)).toNat) \/ (zaa (za ws p) = false /\ za6 (za ws p) = true /\ zu ws p ∈ U /\ s = (rdS (za ws (zu ws p))).toNat) := by
 unfold nxB at h
 split at h
 · rename_i g; exact .inl ⟨g, by simpa using h.symm⟩
 · rename_i g
   split at h
   · rename_i g2; exact .inr ⟨by simpa using g, g2.1, g2.2, by simpa using h.symm⟩
   · simp at h
theorem zn.mono {nx nx' : Nat -> Option Nat} {p q : Nat} {L : List Nat} (h : zn nx p q L) (hm : ∀ x ∈ L, ∀ s, nx x = some s -> nx' x = some s) : zn nx' p q L := by
 induction L generalizing p with
 | nil => exact h
 | cons x L ih =>
   obtain ⟨rfl, s, hs, t⟩ := h
   exact ⟨rfl, s, hm _ (by simp) s hs, ih t (fun y hy => hm y (by simp [hy]))⟩
theorem zn.sep {nx : Nat -> Option Nat} {p q : Nat} {L : List Nat} (h : zn nx p q L) : ∀ x ∈ L, ∀ y ∈ L, x < y -> ∀ s, nx x = some s -> x + s + 1 <= y := by
 induction L generalizing p with
 | nil => intro x hx; simp at hx
 | cons a L ih =>
   obtain ⟨rfl, s, hs, t⟩ := h
   intro x hx y hy hlt s' hs'
   rcases List.mem_cons.1 hx with e1 | h1
   · rcases List.mem_cons.1 hy with e2 | h2
     · omega
     · subst e1
       rw [hs] at hs'
       cases hs'
       exact (t.mem y h2).1
   · rcases List.mem_cons.1 hy with e2 | h2
     · have := (t.mem x h1).1
       omega
     · exact ih t x h1 y h2 hlt s' hs'
def zc8 (ws : List Int) (O : List Nat) : Nat := (O.map fun p => if zaa (za ws p) = true then szA ws p else 0).sum
theorem zmb {f g : Nat -> Nat} {p n : Nat} : ∀ {O : List Nat}, O.Pairwise (· < ·) -> p ∈ O -> f p = n -> g p = 0 -> (∀ x ∈ O, x ≠ p -> f x = g x) -> (O.map f).sum = (O.map g).sum + n
 | [], _, hp, _, _, _ => by simp at hp
 | a :: O, hs, hp, hf, hg, he => by
   simp only [List.map_cons, List.sum_cons]
   have hs2 := List.pairwise_cons.1 hs
   rcases List.mem_cons.1 hp with rfl | hp
   · have e : O.map f = O.map g := List.map_congr_left fun x hx => he x (by simp [hx]) (by have := hs2.1 x hx; omega)
     rw [e, hf, hg]
     omega
   · have hne : a ≠ p := by have := hs2.1 p hp; omega
     rw [he a (by simp) hne, zmb hs2.2 hp hf hg (fun x hx hx2 => he x (by simp [hx]) hx2)]
     omega
theorem zoz {f : Nat -> Nat} {p : Nat} : ∀ {O : List Nat}, p ∈ O -> f p <= (O.map f).sum
 | [], hp => by simp at hp
 | a :: O, hp => by
   simp only [List.map_cons, List.sum_cons]
   rcases List.mem_cons.1 hp with rfl | hp
   · omega
   · have := zoz (f := f) hp
     omega
def zbj (ws : List Int) (p : Nat) : Nat := slN (rdK (za ws p)) (rdS (za ws p))
structure Cyc (a : Cp) (S E F Od sn J : Nat) (L O : List Nat) : Prop where
 use : zn (nxA a.ws) S a.T L
 oth : zn (nxB a.ws L) F Od O
 room : a.T + zc8 a.ws O <= E
 hE : E <= a.ws.length
 hOd : Od <= a.ws.length
 ap : E <= F \/ Od <= S
 hS : 1 <= S
 hF : 1 <= F
 small : a.ws.length <= 1048576
 w64 : zg a.ws
 sc : (sn = a.T /\ J = 0) \/ sn ∈ L
 slL : ∀ p ∈ L, ∀ j, j < zbj a.ws p -> za1 a.ws (zw a.ws p j) = true /\ (isR (rvT a.ws (zw a.ws p j)) = true -> (rvN a.ws (zw a.ws p j)).toNat ∈ L \/ ((sn < p \/ sn = p /\ J <= j) /\ (rvN a.ws (zw a.ws p j)).toNat ∈ O))
 slO : ∀ p ∈ O, zaa (za a.ws p) = true -> ∀ j, j < zbj a.ws p -> za1 a.ws (zw a.ws p j) = true /\ (isR (rvT a.ws (zw a.ws p j)) = true -> (rvN a.ws (zw a.ws p j)).toNat ∈ O)
theorem zgo {ws : List Int} {p j : Nat} (hr : zaa (za ws p) = true) (hj : j < zbj ws p) : p < zw ws p j /\ zw ws p j + 1 <= p + (rdS (za ws p)).toNat := by
 have h1 := (zfy (zeg hr) j).2 hj
 have h2 := zqt (rdK (za ws p))
 have h3 := zbd (za ws p)
 unfold zw
 omega
theorem zhi {ws ws' : List Int} {p : Nat} (hr : zaa (za ws p) = true) (h : ∀ i, p <= i -> i <= p + (rdS (za ws p)).toNat -> za ws' i = za ws i) :
 zbj ws' p = zbj ws p /\ ∀ j, j < zbj ws p -> zw ws' p j = zw ws p j /\ za1 ws' (zw ws p j) = za1 ws (zw ws p j) /\ rvT ws' (zw ws p j) = rvT ws (zw ws p j) /\ rvN ws' (zw ws p j) = rvN ws (zw ws p j) := by
 have h0 := h p (Nat.le_refl _) (by omega)
 refine ⟨by simp [zbj, h0], fun j hj => ?_⟩
 have h1 := zgo hr hj
 have e1 := h (zw ws p j) (by omega) (by omega)
 have e2 := h (zw ws p j + 1) (by omega) (by omega)
 have eo : za1 ws' (zw ws p j) = za1 ws (zw ws p j) := by simp [za1, e1, e2]
 exact ⟨by simp [zw, h0], eo, by simp [rvT, eo, e1], by simp [rvN, eo, e2]⟩
theorem zpp {ws ws' : List Int} {p q : Nat} (hr : zaa (za ws p) = true) (h : ∀ d, d <= (rdS (za ws p)).toNat -> za ws' (q + d) = za ws (p + d)) :
 zbj ws' q = zbj ws p /\ ∀ j, j < zbj ws p -> za1 ws' (zw ws' q j) = za1 ws (zw ws p j) /\ rvT ws' (zw ws' q j) = rvT ws (zw ws p j) /\ rvN ws' (zw ws' q j) = rvN ws (zw ws p j) := by
 have h0 : za ws' q = za ws p := h 0 (by omega)
 refine ⟨by simp [zbj, h0], fun j hj => ?_⟩
 have h1 := zgo hr hj
 obtain ⟨d, hd⟩ : ∃ d, zw ws p j = p + d := ⟨zw ws p j - p, by omega⟩
 have hd' : zw ws' q j = q + d := by
  have : zw ws p j = p + (fs (rdK (za ws p)) + 2 * (j : Int)).toNat := rfl
  have e : zw ws' q j = q + (fs (rdK (za ws p)) + 2 * (j : Int)).toNat := by simp [zw, h0]
  omega
 have e1 := h d (by omega)
 have e2 : za ws' (q + d + 1) = za ws (p + d + 1) := h (d + 1) (by omega)
 rw [hd, hd']
 have eo : za1 ws' (q + d) = za1 ws (p + d) := by simp [za1, e1, e2]
 exact ⟨eo, by simp [rvT, eo, e1], by simp [rvN, eo, e2]⟩
section
variable {a : Cp} {S E F Od sn J : Nat} {L O : List Nat}
theorem Cyc.inL (h : Cyc a S E F Od sn J L O) {p : Nat} (hp : p ∈ L) : S <= p /\ zaa (za a.ws p) = true /\ p + szA a.ws p <= a.T := by
 obtain ⟨h1, h2, s, hs, h3⟩ := h.use.mem p hp
 obtain ⟨h4, rfl⟩ := zio hs
 exact ⟨h1, h4, by unfold szA; omega⟩
theorem Cyc.inO (h : Cyc a S E F Od sn J L O) {p : Nat} (hp : p ∈ O) : F <= p /\ p < Od /\ (zaa (za a.ws p) = true /\ p + szA a.ws p <= Od \/ zaa (za a.ws p) = false /\ za6 (za a.ws p) = true /\ zu a.ws p ∈ L) := by
 obtain ⟨h1, h2, s, hs, h3⟩ := h.oth.mem p hp
 rcases zip hs with ⟨h4, rfl⟩ | ⟨h4, h5, h6, _⟩
 · exact ⟨h1, h2, .inl ⟨h4, by unfold szA; omega⟩⟩
 · exact ⟨h1, h2, .inr ⟨h4, h5, h6⟩⟩
theorem Cyc.TE (h : Cyc a S E F Od sn J L O) : a.T <= E := by have := h.room; omega
theorem Cyc.ST (h : Cyc a S E F Od sn J L O) : S <= a.T := h.use.le
theorem Cyc.inUse (h : Cyc a S E F Od sn J L O) {p : Nat} (hp : p ∈ L \/ p ∈ O) : (S <= p /\ p < a.T) ↔ p ∈ L := by
 have h1 := h.TE
 have h2 := h.ap
 constructor
 · intro g
   rcases hp with hp | hp
   · exact hp
   · have := h.inO hp
     omega
 · intro g
   have := h.inL g
   unfold szA at this
   omega
theorem Cyc.move (h : Cyc a S E F Od sn J L O) {p : Nat} (hp : p ∈ O) (hr : zaa (za a.ws p) = true) :
 Cyc ⟨mvW a.ws p a.T (szA a.ws p), a.T + szA a.ws p, a.C + szA a.ws p⟩ S E F Od sn J (L ++ [a.T]) O := by
 obtain ⟨n, hn⟩ : ∃ n, n = szA a.ws p := ⟨_, rfl⟩
 have hTE := h.TE
 have hST := h.ST
 have hap := h.ap
 have hE := h.hE
 have hOd := h.hOd
 have hsm := h.small
 obtain ⟨p1, p2, hpo⟩ := h.inO hp
 have hpn : p + n <= Od := by
  rcases hpo with g | g
  · rw [hn]; exact g.2
  · rw [hr] at g; simp at g
 have hn1 : 1 <= n := by rw [hn]; unfold szA; omega
 have hroom := h.room
 have hle : n <= zc8 a.ws O := by
  have := zoz (f := fun p => if zaa (za a.ws p) = true then szA a.ws p else 0) hp
  simp only [hr, if_true] at this
  unfold zc8
  omega
 have hTp : ∀ i, S <= i -> i < a.T + n -> i ≠ p := fun i _ _ => by omega
 have hinL : ∀ i, S <= i -> i < a.T -> za (mvW a.ws p a.T n) i = za a.ws i := fun i h1 h2 => zhd (by omega) (hTp i h1 (by omega)) (by omega)
 have hinO : ∀ i, F <= i -> i < Od -> i ≠ p -> za (mvW a.ws p a.T n) i = za a.ws i := fun i h1 h2 h3 => zhd (by omega) h3 (by omega)
 have hnew : ∀ d, d < n -> za (mvW a.ws p a.T n) (a.T + d) = za a.ws (p + d) := fun d hd => zup (by omega) hd (by omega)
 have hold : za (mvW a.ws p a.T n) p = 9223372036854775808 + (a.T : Int) := zuq (by omega)
 obtain ⟨f1, f2, f3⟩ := zur (q := a.T) (by omega)
 rw [<- hn]
 have hL' : ∀ x ∈ L, za (mvW a.ws p a.T n) x = za a.ws x := fun x hx => by
  have := h.inL hx
  unfold szA at this
  exact hinL x this.1 (by omega)
 have hT0 : za (mvW a.ws p a.T n) a.T = za a.ws p := hnew 0 (by omega)
 have hfT : zu (mvW a.ws p a.T n) p = a.T := by unfold zu; rw [hold, f2]; simp
 refine ⟨?_, ?_, ?_, by rw [zeo]; exact hE, by rw [zeo]; exact hOd, hap, h.hS, h.hF, by rw [zeo]; exact hsm, zri h.w64 (by omega), ?_, ?_, ?_⟩
 · have h1 : zn (nxA (mvW a.ws p a.T n)) S a.T L := h.use.mono fun x hx s hs => by
    unfold nxA at hs ⊢
    rw [hL' x hx]
    exact hs
   have h2 : nxA (mvW a.ws p a.T n) a.T = some (rdS (za a.ws p)).toNat := by unfold nxA; rw [hT0, if_pos hr]
   have h3 := h1.snoc h2
   have e : a.T + (rdS (za a.ws p)).toNat + 1 = a.T + n := by rw [hn]; unfold szA; omega
   rw [e] at h3
   exact h3
 · refine h.oth.mono fun x hx s hs => ?_
   obtain ⟨x1, x2, hxo⟩ := h.inO hx
   by_cases e : x = p
   · subst e
     have hs' : s = (rdS (za a.ws x)).toNat := by
      unfold nxB at hs
      rw [if_pos hr] at hs
      simpa using hs.symm
     unfold nxB
     rw [hold, f3, if_neg (by simp), if_pos ⟨f1, by rw [hfT]; simp⟩, hfT, hT0, hs']
   · have e1 := hinO x x1 x2 e
     have e2 : zu (mvW a.ws p a.T n) x = zu a.ws x := by unfold zu; rw [e1]
     rcases zip hs with ⟨h4, rfl⟩ | ⟨h4, h5, h6, rfl⟩
     · unfold nxB
       rw [e1, if_pos h4]
     · unfold nxB
       rw [e1, e2, if_neg (by simp [h4]), if_pos ⟨h5, by simp [h6]⟩, hL' _ h6]
 · have := zmb (f := fun p => if zaa (za a.ws p) = true then szA a.ws p else 0) (g := fun x => if zaa (za (mvW a.ws p a.T n) x) = true then szA (mvW a.ws p a.T n) x else 0) (p := p) (n := n) h.oth.nodup hp (by simp [hr, hn]) (by simp only [hold, f3]; simp) (fun x hx hne => by
    obtain ⟨x1, x2, _⟩ := h.inO hx
    have e1 := hinO x x1 x2 hne
    simp only [e1]
    split
    · unfold szA; rw [e1]
    · rfl)
   show a.T + n + zc8 (mvW a.ws p a.T n) O <= E
   unfold zc8 at hroom ⊢
   omega
 · rcases h.sc with ⟨g1, g2⟩ | g
   · exact .inr (by simp [g1])
   · exact .inr (by simp [g])
 · intro x hx j hj
   rcases List.mem_append.1 hx with hx | hx
   · have hxL := h.inL hx
     obtain ⟨s1, s2⟩ := zhi (ws := a.ws) (ws' := mvW a.ws p a.T n) hxL.2.1 (fun i i1 i2 => hinL i (by omega) (by unfold szA at hxL; omega))
     dsimp only at hj ⊢
     rw [s1] at hj
     obtain ⟨t1, t2, t3, t4⟩ := s2 j hj
     rw [t1, t2, t3, t4]
     obtain ⟨u1, u2⟩ := h.slL x hx j hj
     refine ⟨u1, fun hr2 => ?_⟩
     rcases u2 hr2 with g | g
     · exact .inl (by simp [g])
     · exact .inr g
   · simp only [List.mem_singleton] at hx
     subst hx
     obtain ⟨s1, s2⟩ := zpp (ws := a.ws) (ws' := mvW a.ws p a.T n) (p := p) (q := a.T) hr (fun d hd => hnew d (by rw [hn]; unfold szA; omega))
     dsimp only at hj ⊢
     rw [s1] at hj
     obtain ⟨t2, t3, t4⟩ := s2 j hj
     rw [t2, t3, t4]
     obtain ⟨u1, u2⟩ := h.slO p hp hr j hj
     refine ⟨u1, fun hr2 => .inr ⟨?_, u2 hr2⟩⟩
     rcases h.sc with ⟨g1, g2⟩ | g
     · right; omega
     · left
       have := h.inL g
       unfold szA at this
       omega
 · intro x hx hrx j hj
   have hne : x ≠ p := fun e => by
    subst e
    dsimp only at hrx
    rw [hold, f3] at hrx
    simp at hrx
   obtain ⟨x1, x2, hxo⟩ := h.inO hx
   dsimp only at hrx hj ⊢
   rw [hinO x x1 x2 hne] at hrx
   have hxn : x + szA a.ws x <= Od := by
    rcases hxo with g | g
    · exact g.2
    · rw [hrx] at g; simp at g
   have hnx : nxB a.ws L x = some (rdS (za a.ws x)).toNat := by unfold nxB; rw [if_pos hrx]
   have hsep := fun hlt : x < p => h.oth.sep x hx p hp hlt _ hnx
   obtain ⟨s1, s2⟩ := zhi (ws := a.ws) (ws' := mvW a.ws p a.T n) hrx (fun i i1 i2 => hinO i (by omega) (by unfold szA at hxn; omega) (fun e => by
    by_cases g : x < p
    · have := hsep g; omega
    · omega))
   rw [s1] at hj
   obtain ⟨t1, t2, t3, t4⟩ := s2 j hj
   rw [t1, t2, t3, t4]
   exact h.slO x hx hrx j hj
theorem Cyc.fwd (h : Cyc a S E F Od sn J L O) {t m : Int} (hm : isR t = true -> 0 <= m /\ (m.toNat ∈ L \/ m.toNat ∈ O)) :
 ∃ M, Cyc (zar S a t m) S E F Od sn J (L ++ M) O /\ (isR t = true -> 0 <= zbf S a t m /\ (zbf S a t m).toNat ∈ L ++ M) /\ (isR t = false -> zbf S a t m = m) := by
 by_cases hr : isR t = true
 · obtain ⟨m0, hmm⟩ := hm hr
   have hin := h.inUse hmm
   by_cases hu : (S : Int) <= m /\ m < (a.T : Int)
   · have e1 : zar S a t m = a := by unfold zar zdx; simp [hu]
     have e2 : zbf S a t m = m := by unfold zbf; rw [if_neg (fun g => g.2 hu)]
     rw [e1, e2]
     exact ⟨[], by simpa using h, fun _ => ⟨m0, by simpa using hin.1 (by omega)⟩, fun _ => rfl⟩
   · have hmO : m.toNat ∈ O := by
      rcases hmm with g | g
      · exact absurd (hin.2 g) (by omega)
      · exact g
     obtain ⟨o1, o2, ho⟩ := h.inO hmO
     rcases ho with ⟨g1, g2⟩ | ⟨g1, g2, g3⟩
     · have hf := zfa g1
       have e1 : zar S a t m = ⟨mvW a.ws m.toNat a.T (szA a.ws m.toNat), a.T + szA a.ws m.toNat, a.C + szA a.ws m.toNat⟩ := by
        unfold zar
        rw [if_pos (by simp only [zdx, hr, hf, decide_eq_false hu]; rfl)]
       have e2 : zbf S a t m = (a.T : Int) := by unfold zbf; rw [if_pos ⟨hr, hu⟩, hf]; simp
       rw [e1, e2]
       exact ⟨[a.T], h.move hmO g1, fun _ => ⟨by omega, by simp⟩, fun g => by rw [hr] at g; simp at g⟩
     · have e1 : zar S a t m = a := by unfold zar zdx; simp [g2]
       have e2 : zbf S a t m = fwP (za a.ws m.toNat) := by unfold zbf; rw [if_pos ⟨hr, hu⟩, if_pos g2]
       rw [e1, e2]
       exact ⟨[], by simpa using h, fun _ => ⟨zjl _, by simpa [zu] using g3⟩, fun g => by rw [hr] at g; simp at g⟩
 · have e1 : zar S a t m = a := by unfold zar zdx; simp [hr]
   have e2 : zbf S a t m = m := by unfold zbf; rw [if_neg (fun g => hr g.1)]
   rw [e1, e2]
   exact ⟨[], by simpa using h, fun g => absurd g hr, fun _ => rfl⟩
end
theorem ztf {x : Int} (h0 : 0 <= x) (h1 : x < 18446744073709551616) : IntKind.u64.wrap (wrap64 x) = x := by
 rw [IntKind.wrap_u64]
 unfold wrap64
 omega
theorem zus {x : Int} (h0 : 0 <= x) (h1 : x < 18446744073709551616) : IntKind.u64.wrap x = x := by
 rw [IntKind.wrap_u64]
 omega
theorem zvf {ws : List Int} {x i : Nat} {v : Int} (hi : i < ws.length) : za (ws.set x v) i = if i = x then v else za ws i := by
 unfold za
 by_cases e : i = x
 · subst e; simp [hi]
 · rw [if_neg e, List.getD_eq_getElem?_getD, List.getElem?_set_ne (fun g => e g.symm), <- List.getD_eq_getElem?_getD]
theorem zki {ws : List Int} {x i : Nat} {v : Int} (h : i ≠ x) : za (ws.set x v) i = za ws i := by
 unfold za
 rw [List.getD_eq_getElem?_getD, List.getElem?_set_ne (fun g => h g.symm), <- List.getD_eq_getElem?_getD]
theorem ztg {ws : List Int} {x : Nat} {v : Int} (h : x < ws.length) (hv : za ws x = v) : ws.set x v = ws := by
 refine List.ext_getElem? fun i => ?_
 by_cases e : i = x
 · subst e
   rw [List.getElem?_set_self h]
   unfold za at hv
   rw [List.getD_eq_getElem?_getD, List.getElem?_eq_getElem h] at hv
   rw [List.getElem?_eq_getElem h, <- hv]
   rfl
 · rw [List.getElem?_set_ne (fun g => e g.symm)]
theorem zrx {ws : List Int} {x : Nat} {v : Int} (hw : zg ws) (h0 : 0 <= v) (h1 : v < 18446744073709551616) : zg (ws.set x v) := fun z hz => by
 rcases List.mem_or_eq_of_mem_set hz with g | rfl
 · exact hw z g
 · exact ⟨h0, h1⟩
theorem zjf {x : Int} (h0 : 0 <= x) (h1 : x < 9223372036854775808) : wrap64 x = x := by unfold wrap64; omega
section
variable {a : Cp} {S E F Od sn J : Nat} {L O : List Nat}
theorem Cyc.layG {jj J' : Nat} (h : Cyc a S E F Od sn J L O) (hs : sn ∈ L) (hJ : jj < zbj a.ws sn) (hJ' : ∀ i, J <= i -> J' <= i \/ i = jj) {v : Int} (hv : isR (rvT a.ws (zw a.ws sn jj)) = true -> 0 <= v /\ v.toNat ∈ L) (hv2 : isR (rvT a.ws (zw a.ws sn jj)) = false -> v = rvN a.ws (zw a.ws sn jj)) :
 Cyc ⟨a.ws.set (zw a.ws sn jj + 1) (IntKind.u64.wrap v), a.T, a.C⟩ S E F Od sn J' L O := by
 have hTE := h.TE
 have hE := h.hE
 have hap := h.ap
 obtain ⟨q1, q2, q3⟩ := h.inL hs
 obtain ⟨x1, x2⟩ := zgo q2 hJ
 obtain ⟨X, hX⟩ : ∃ X, X = zw a.ws sn jj := ⟨_, rfl⟩
 rw [<- hX] at x1 x2 hv hv2 ⊢
 unfold szA at q3
 have hXT : X + 1 < a.T := by omega
 obtain ⟨so, sl⟩ := h.slL sn hs jj hJ
 rw [<- hX] at so sl
 have hgo : ∀ p j, j < zbj a.ws p -> (sn < p \/ sn = p /\ J <= j) -> ¬ (sn < p \/ sn = p /\ J' <= j) -> p = sn /\ j = jj := fun p j _ g1 g2 => by
  rcases g1 with g | ⟨rfl, g⟩
  · exact absurd (.inl g) g2
  · rcases hJ' j g with k | k
    · exact absurd (.inr ⟨rfl, k⟩) g2
    · exact ⟨rfl, k⟩
 cases hr : isR (rvT a.ws X) with
 | false =>
   have hw := zy h.w64 (X + 1)
   have e : IntKind.u64.wrap v = za a.ws (X + 1) := by
    rw [hv2 hr]
    have : rvN a.ws X = wrap64 (za a.ws (X + 1)) := by simp [rvN, so]
    rw [this, ztf hw.1 hw.2]
   rw [e, ztg (by omega) rfl]
   refine ⟨h.use, h.oth, h.room, h.hE, h.hOd, h.ap, h.hS, h.hF, h.small, h.w64, .inr hs, fun p hp j hj => ?_, h.slO⟩
   obtain ⟨u1, u2⟩ := h.slL p hp j hj
   refine ⟨u1, fun g => ?_⟩
   rcases u2 g with k | ⟨k1, k2⟩
   · exact .inl k
   · by_cases k3 : sn < p \/ sn = p /\ J' <= j
     · exact .inr ⟨k3, k2⟩
     · obtain ⟨rfl, rfl⟩ := hgo p j hj k1 k3
       rw [<- hX, hr] at g
       simp at g
 | true =>
   obtain ⟨v0, vL⟩ := hv hr
   have vin := h.inL vL
   unfold szA at vin
   have hS := h.hS
   have hsm := h.small
   have e : IntKind.u64.wrap v = v := zus v0 (by omega)
   rw [e]
   have hoth : ∀ i, i ≠ X + 1 -> za (a.ws.set (X + 1) v) i = za a.ws i := fun i hi => zki hi
   have hself : za (a.ws.set (X + 1) v) (X + 1) = v := by rw [zvf (by omega), if_pos rfl]
   have hheadL : ∀ p ∈ L, p ≠ X + 1 := fun p hp e => by
    have hnx : nxA a.ws sn = some (rdS (za a.ws sn)).toNat := by unfold nxA; rw [if_pos q2]
    have := h.use.sep sn hs p hp (by omega) _ hnx
    omega
   have hO : ∀ i, F <= i -> i < Od -> i ≠ X + 1 := fun i _ _ => by omega
   have hbodyL : ∀ p ∈ L, p ≠ sn -> ∀ i, p <= i -> i <= p + (rdS (za a.ws p)).toNat -> i ≠ X + 1 := fun p hp hne i i1 i2 e => by
    have hpi := h.inL hp
    have hnx : nxA a.ws sn = some (rdS (za a.ws sn)).toNat := by unfold nxA; rw [if_pos q2]
    have hnp : nxA a.ws p = some (rdS (za a.ws p)).toNat := by unfold nxA; rw [if_pos hpi.2.1]
    by_cases g : sn < p
    · have := h.use.sep sn hs p hp g _ hnx; omega
    · have := h.use.sep p hp sn hs (by omega) _ hnp; omega
   refine ⟨?_, ?_, ?_, by simpa using h.hE, by simpa using h.hOd, h.ap, h.hS, h.hF, by simpa using h.small, zrx h.w64 v0 (by omega), .inr hs, ?_, ?_⟩
   · exact h.use.mono fun p hp s hs' => by unfold nxA at hs' ⊢; rw [hoth p (hheadL p hp)]; exact hs'
   · refine h.oth.mono fun p hp s hs' => ?_
     obtain ⟨o1, o2, ho⟩ := h.inO hp
     have e1 := hoth p (hO p o1 o2)
     have e2 : zu (a.ws.set (X + 1) v) p = zu a.ws p := by unfold zu; rw [e1]
     rcases zip hs' with ⟨h4, rfl⟩ | ⟨h4, h5, h6, rfl⟩
     · unfold nxB; rw [e1, if_pos h4]
     · unfold nxB; rw [e1, e2, if_neg (by simp [h4]), if_pos ⟨h5, h6⟩, hoth _ (hheadL _ h6)]
   · have e1 : zc8 (a.ws.set (X + 1) v) O = zc8 a.ws O := by
      unfold zc8
      congr 1
      refine List.map_congr_left fun p hp => ?_
      obtain ⟨o1, o2, _⟩ := h.inO hp
      have e1 := hoth p (hO p o1 o2)
      simp only [e1, szA]
     show a.T + zc8 (a.ws.set (X + 1) v) O <= E
     rw [e1]
     exact h.room
   · intro p hp j hj
     dsimp only at hj ⊢
     have hpi := h.inL hp
     have hhd := hoth p (hheadL p hp)
     have hsl : zbj (a.ws.set (X + 1) v) p = zbj a.ws p := by simp [zbj, hhd]
     have hsx : zw (a.ws.set (X + 1) v) p j = zw a.ws p j := by simp [zw, hhd]
     rw [hsl] at hj
     rw [hsx]
     obtain ⟨y1, y2⟩ := zgo hpi.2.1 hj
     by_cases hpj : p = sn /\ j = jj
     · obtain ⟨rfl, rfl⟩ := hpj
       rw [<- hX]
       have et := hoth X (by omega)
       have hwt := zy h.w64 X
       have hvo : vOk (wrap64 (za a.ws X)) (wrap64 (za a.ws (X + 1))) = true := so
       have ht : rvT a.ws X = za a.ws X := by simp [rvT, so]
       rw [ht] at hr
       have hr' := of_decide_eq_true hr
       have ewt : wrap64 (za a.ws X) = za a.ws X := zjf hwt.1 (by omega)
       have ewv : wrap64 v = v := zjf v0 (by omega)
       have ho : za1 (a.ws.set (X + 1) v) X = true := by
        unfold za1
        rw [et, hself, ewt, ewv]
        exact decide_eq_true (by omega)
       have hn : rvN (a.ws.set (X + 1) v) X = v := by simp only [rvN, ho, if_true]; rw [hself, ewv]
       refine ⟨ho, fun _ => .inl ?_⟩
       rw [hn]
       exact vL
     · have hwords : zw a.ws p j ≠ X + 1 /\ zw a.ws p j + 1 ≠ X + 1 := by
        by_cases g : p = sn
        · subst g
          have hj' : j ≠ jj := fun e => hpj ⟨rfl, e⟩
          have e1 : zw a.ws p j = p + (fs (rdK (za a.ws p)) + 2 * (j : Int)).toNat := rfl
          have e2 : X = p + (fs (rdK (za a.ws p)) + 2 * (jj : Int)).toNat := hX
          have := zqt (rdK (za a.ws p))
          omega
        · exact ⟨hbodyL p hp g _ (by omega) (by omega), hbodyL p hp g _ (by omega) (by omega)⟩
       have e1 := hoth _ hwords.1
       have e2 := hoth _ hwords.2
       have eo : za1 (a.ws.set (X + 1) v) (zw a.ws p j) = za1 a.ws (zw a.ws p j) := by simp only [za1, e1, e2]
       have et : rvT (a.ws.set (X + 1) v) (zw a.ws p j) = rvT a.ws (zw a.ws p j) := by simp only [rvT, eo, e1]
       have en : rvN (a.ws.set (X + 1) v) (zw a.ws p j) = rvN a.ws (zw a.ws p j) := by simp only [rvN, eo, e2]
       rw [eo, et, en]
       obtain ⟨u1, u2⟩ := h.slL p hp j hj
       refine ⟨u1, fun g => ?_⟩
       rcases u2 g with k | ⟨k1, k2⟩
       · exact .inl k
       · by_cases k3 : sn < p \/ sn = p /\ J' <= j
         · exact .inr ⟨k3, k2⟩
         · exact absurd (hgo p j hj k1 k3) hpj
   · intro p hp hrp j hj
     obtain ⟨o1, o2, ho⟩ := h.inO hp
     have e1 := hoth p (hO p o1 o2)
     dsimp only at hrp hj ⊢
     rw [e1] at hrp
     have hpn : p + szA a.ws p <= Od := by
      rcases ho with g | g
      · exact g.2
      · rw [hrp] at g; simp at g
     unfold szA at hpn
     obtain ⟨s1, s2⟩ := zhi (ws := a.ws) (ws' := a.ws.set (X + 1) v) hrp (fun i i1 i2 => hoth i (hO i (by omega) (by omega)))
     rw [s1] at hj
     obtain ⟨t1, t2, t3, t4⟩ := s2 j hj
     rw [t1, t2, t3, t4]
     exact h.slO p hp hrp j hj
theorem Cyc.fwd_same (h : Cyc a S E F Od sn J L O) {t m : Int} (hm : isR t = true -> 0 <= m /\ (m.toNat ∈ L \/ m.toNat ∈ O)) : (zar S a t m).ws.length = a.ws.length /\ ∀ i, S <= i -> i < a.T -> za (zar S a t m).ws i = za a.ws i := by
 unfold zar
 split
 · rename_i g
   simp only [zdx, Bool.and_eq_true, Bool.not_eq_true', decide_eq_false_iff_not] at g
   obtain ⟨g1, g2, g3⟩ := g
   obtain ⟨m0, hmm⟩ := hm g1
   have hTE := h.TE
   have hE := h.hE
   refine ⟨zeo _ _ _ _, fun i i1 i2 => zhd (by omega) (fun e => ?_) (by omega)⟩
   omega
 · exact ⟨rfl, fun _ _ _ => rfl⟩
def zc6 (S sn : Nat) (a : Cp) (j : Nat) : Cp :=
 ⟨(zar S a (rvT a.ws (zw a.ws sn j)) (rvN a.ws (zw a.ws sn j))).ws.set (zw a.ws sn j + 1) (IntKind.u64.wrap (zbf S a (rvT a.ws (zw a.ws sn j)) (rvN a.ws (zw a.ws sn j)))), (zar S a (rvT a.ws (zw a.ws sn j)) (rvN a.ws (zw a.ws sn j))).T, (zar S a (rvT a.ws (zw a.ws sn j)) (rvN a.ws (zw a.ws sn j))).C⟩
theorem Cyc.slot_ref (h : Cyc a S E F Od sn J L O) {p j : Nat} (hp : p ∈ L) (hj : j < zbj a.ws p) : isR (rvT a.ws (zw a.ws p j)) = true -> 0 <= rvN a.ws (zw a.ws p j) /\ ((rvN a.ws (zw a.ws p j)).toNat ∈ L \/ (rvN a.ws (zw a.ws p j)).toNat ∈ O) := fun hr => by
 obtain ⟨u1, u2⟩ := h.slL p hp j hj
 have := zhm h.w64 u1 hr
 refine ⟨by omega, ?_⟩
 rcases u2 hr with g | g
 · exact .inl g
 · exact .inr g.2
theorem Cyc.slotG {jj J' : Nat} (h : Cyc a S E F Od sn J L O) (hs : sn ∈ L) (hJ : jj < zbj a.ws sn) (hJ' : ∀ i, J <= i -> J' <= i \/ i = jj) :
 ∃ M, Cyc (zc6 S sn a jj) S E F Od sn J' (L ++ M) O /\ za (zc6 S sn a jj).ws sn = za a.ws sn /\ (zc6 S sn a jj).ws.length = a.ws.length /\ a.T <= (zc6 S sn a jj).T := by
 obtain ⟨q1, q2, q3⟩ := h.inL hs
 obtain ⟨x1, x2⟩ := zgo q2 hJ
 unfold szA at q3
 have href := h.slot_ref hs hJ
 obtain ⟨M, hc, hv1, hv2⟩ := h.fwd href
 obtain ⟨hl, hsame⟩ := h.fwd_same href
 obtain ⟨X, hX⟩ : ∃ X, X = zw a.ws sn jj := ⟨_, rfl⟩
 obtain ⟨b, hb⟩ : ∃ b, b = zar S a (rvT a.ws (zw a.ws sn jj)) (rvN a.ws (zw a.ws sn jj)) := ⟨_, rfl⟩
 obtain ⟨v, hvv⟩ : ∃ v, v = zbf S a (rvT a.ws (zw a.ws sn jj)) (rvN a.ws (zw a.ws sn jj)) := ⟨_, rfl⟩
 have e : zc6 S sn a jj = ⟨b.ws.set (X + 1) (IntKind.u64.wrap v), b.T, b.C⟩ := by rw [hX, hb, hvv]; rfl
 rw [e]
 rw [<- hb] at hc hl hsame
 rw [<- hvv] at hv1 hv2
 rw [<- hX] at hv1 hv2 x1 x2
 have hh : za b.ws sn = za a.ws sn := hsame sn q1 (by omega)
 have hXb : zw b.ws sn jj = X := by rw [hX]; simp [zw, hh]
 have hNb : zbj b.ws sn = zbj a.ws sn := by simp [zbj, hh]
 have w1 := hsame X (by omega) (by omega)
 have w2 := hsame (X + 1) (by omega) (by omega)
 have ro : za1 b.ws X = za1 a.ws X := by simp only [za1, w1, w2]
 have rt : rvT b.ws X = rvT a.ws X := by simp only [rvT, ro, w1]
 have rn : rvN b.ws X = rvN a.ws X := by simp only [rvN, ro, w2]
 have := hc.layG (v := v) (by simp [hs]) (by rw [hNb]; exact hJ) hJ' (by rw [hXb, rt]; exact hv1) (by rw [hXb, rt, rn]; exact hv2)
 rw [hXb] at this
 refine ⟨M, this, ?_, by simpa using hl, ?_⟩
 · show za (b.ws.set (X + 1) (IntKind.u64.wrap v)) sn = _
   rw [zki (by omega), hh]
 · show a.T <= b.T
   rw [hb]
   unfold zar
   split
   · show a.T <= a.T + _; omega
   · exact Nat.le_refl _
theorem Cyc.slot (h : Cyc a S E F Od sn J L O) (hs : sn ∈ L) (hJ : J < zbj a.ws sn) :
 ∃ M, Cyc (zc6 S sn a J) S E F Od sn (J + 1) (L ++ M) O /\ za (zc6 S sn a J).ws sn = za a.ws sn /\ (zc6 S sn a J).ws.length = a.ws.length /\ a.T <= (zc6 S sn a J).T := h.slotG hs hJ (fun i hi => by omega)
def zer (S sn : Nat) (a : Cp) : Nat -> Cp
 | 0 => a
 | k + 1 => zc6 S sn (zer S sn a k) k
theorem Cyc.slots (h : Cyc a S E F Od sn 0 L O) (hs : sn ∈ L) : ∀ k, k <= zbj a.ws sn -> ∃ M, Cyc (zer S sn a k) S E F Od sn k (L ++ M) O /\ za (zer S sn a k).ws sn = za a.ws sn /\ (zer S sn a k).ws.length = a.ws.length /\ a.T <= (zer S sn a k).T
 | 0, _ => ⟨[], by rw [List.append_nil]; exact h, rfl, rfl, Nat.le_refl _⟩
 | k + 1, hk => by
   obtain ⟨M, h1, h2, h3, h4⟩ := h.slots hs k (by omega)
   have hN : zbj (zer S sn a k).ws sn = zbj a.ws sn := by simp [zbj, h2]
   obtain ⟨M2, g1, g2, g3, g4⟩ := h1.slot (by simp [hs]) (by rw [hN]; omega)
   refine ⟨M ++ M2, ?_, ?_, ?_, ?_⟩
   · rw [<- List.append_assoc]; exact g1
   · exact g2.trans h2
   · exact g3.trans h3
   · exact Nat.le_trans h4 g4
theorem zn.next {nx : Nat -> Option Nat} {p q : Nat} {L : List Nat} (h : zn nx p q L) : ∀ x ∈ L, ∀ s, nx x = some s -> x + s + 1 = q \/ x + s + 1 ∈ L := by
 induction L generalizing p with
 | nil => intro x hx; simp at hx
 | cons a L ih =>
   obtain ⟨rfl, s, hs, t⟩ := h
   intro x hx s' hs'
   rcases List.mem_cons.1 hx with e1 | h1
   · subst e1
     rw [hs] at hs'
     cases hs'
     cases L with
     | nil => exact .inl (show q = _ from t).symm
     | cons b L =>
       obtain ⟨hb, _⟩ := t
       exact .inr (by simp [hb])
   · rcases ih t x h1 s' hs' with g | g
     · exact .inl g
     · exact .inr (by simp [g])
theorem Cyc.next (h : Cyc a S E F Od sn J L O) (hs : sn ∈ L) (hJ : zbj a.ws sn <= J) : Cyc a S E F Od (sn + szA a.ws sn) 0 L O := by
 obtain ⟨q1, q2, q3⟩ := h.inL hs
 have hnx : nxA a.ws sn = some (rdS (za a.ws sn)).toNat := by unfold nxA; rw [if_pos q2]
 have e : sn + szA a.ws sn = sn + (rdS (za a.ws sn)).toNat + 1 := by unfold szA; omega
 refine ⟨h.use, h.oth, h.room, h.hE, h.hOd, h.ap, h.hS, h.hF, h.small, h.w64, ?_, fun p hp j hj => ?_, h.slO⟩
 · rw [e]
   rcases h.use.next sn hs _ hnx with g | g
   · exact .inl ⟨g, rfl⟩
   · exact .inr g
 · obtain ⟨u1, u2⟩ := h.slL p hp j hj
   refine ⟨u1, fun g => ?_⟩
   rcases u2 g with k | ⟨k1, k2⟩
   · exact .inl k
   · refine .inr ⟨?_, k2⟩
     have hlt : sn < p := by
      rcases k1 with k1 | ⟨rfl, k1⟩
      · exact k1
      · omega
     have := h.use.sep sn hs p hp hlt _ hnx
     rw [e]
     omega
def zgn (S sn : Nat) (a : Cp) : Cp := zer S sn a (zbj a.ws sn)
theorem Cyc.obj (h : Cyc a S E F Od sn 0 L O) (hs : sn ∈ L) :
 ∃ M, Cyc (zgn S sn a) S E F Od (sn + szA a.ws sn) 0 (L ++ M) O /\ (zgn S sn a).ws.length = a.ws.length /\ a.T <= (zgn S sn a).T := by
 obtain ⟨M, h1, h2, h3, h4⟩ := h.slots hs _ (Nat.le_refl _)
 have hN : zbj (zer S sn a (zbj a.ws sn)).ws sn = zbj a.ws sn := by unfold zbj at h2 ⊢; rw [h2]
 have hz : szA (zer S sn a (zbj a.ws sn)).ws sn = szA a.ws sn := by simp [szA, h2]
 have := h1.next (by simp [hs]) (by rw [hN]; exact Nat.le_refl _)
 rw [hz] at this
 exact ⟨M, this, h3, h4⟩
theorem Cyc.scanT (h : Cyc a S E F Od sn J L O) : S <= sn /\ sn <= a.T /\ (sn ≠ a.T -> sn ∈ L) := by
 rcases h.sc with ⟨g, _⟩ | g
 · have := h.ST
   exact ⟨by omega, by omega, fun e => absurd g e⟩
 · have := h.inL g
   unfold szA at this
   exact ⟨by omega, by omega, fun _ => g⟩
end
def zff (S : Nat) : Nat -> Cp -> Nat -> Nat -> Cp × Nat
 | 0, a, _, n => (a, n)
 | d + 1, a, sn, n => if sn = a.T then (a, n) else zff S d (zgn S sn a) (sn + szA a.ws sn) (n + 1)
theorem zth (S : Nat) : ∀ (d : Nat) (a : Cp) (sn n : Nat), sn = a.T -> zff S d a sn n = (a, n)
 | 0, a, sn, n, h => rfl
 | d + 1, a, sn, n, h => by simp [zff, h]
theorem zry {S d : Nat} {a : Cp} {sn n : Nat} (h : sn ≠ a.T) : zff S (d + 1) a sn n = zff S d (zgn S sn a) (sn + szA a.ws sn) (n + 1) := by simp [zff, h]
theorem zvg (ws : List Int) (p : Nat) : 1 <= szA ws p := by unfold szA; omega
theorem Cyc.run {S E F Od : Nat} {O : List Nat} : ∀ (d : Nat) {a : Cp} {sn : Nat} {L : List Nat} (n : Nat), Cyc a S E F Od sn 0 L O -> E <= sn + d ->
 ∃ M, Cyc (zff S d a sn n).1 S E F Od (zff S d a sn n).1.T 0 (L ++ M) O /\ (zff S d a sn n).1.ws.length = a.ws.length /\ (zff S d a sn n).2 <= n + (E - sn)
 | 0, a, sn, L, n, h, hd => by
   have h1 := h.scanT
   have h2 := h.TE
   obtain rfl : sn = a.T := by omega
   exact ⟨[], by simpa [zff] using h, rfl, by simp [zff]⟩
 | d + 1, a, sn, L, n, h, hd => by
   by_cases e : sn = a.T
   · subst e
     rw [zth _ _ _ _ _ rfl]
     exact ⟨[], by simpa using h, rfl, by simp⟩
   · rw [zry e]
     obtain ⟨M, h1, h2, h3⟩ := h.obj (h.scanT.2.2 e)
     have := zvg a.ws sn
     obtain ⟨M2, g1, g2, g3⟩ := Cyc.run d (n + 1) h1 (by omega)
     have h4 := h.scanT
     have h5 := h.TE
     refine ⟨M ++ M2, by rw [<- List.append_assoc]; exact g1, g2.trans h2, by omega⟩
def zh (S : Nat) (a : Cp) (y : Nat -> Int) : Nat -> Cp × (Nat -> Int)
 | 0 => (a, y)
 | k + 1 => (zar S (zh S a y k).1 ((zh S a y k).2 (2 * k)) ((zh S a y k).2 (2 * k + 1)), zey (zh S a y k).2 k ((zh S a y k).2 (2 * k)) (zbf S (zh S a y k).1 ((zh S a y k).2 (2 * k)) ((zh S a y k).2 (2 * k + 1))))
theorem zvh (S : Nat) (a : Cp) (t m : Int) : (zar S a t m).C + a.T = (zar S a t m).T + a.C := by
 unfold zar
 split
 · show a.C + _ + a.T = a.T + _ + a.C; omega
 · omega
theorem zin (S : Nat) (a : Cp) (y : Nat -> Int) : ∀ k, (zh S a y k).1.C + a.T = (zh S a y k).1.T + a.C
 | 0 => Nat.add_comm _ _
 | k + 1 => by
   have h1 := zin S a y k
   have h2 := zvh S (zh S a y k).1 ((zh S a y k).2 (2 * k)) ((zh S a y k).2 (2 * k + 1))
   simp only [zh]
   omega
def zek (y : Nat -> Int) (k : Nat) (L : List Nat) : Prop := ∀ i, i < k -> isR (y (2 * i)) = true -> 0 <= y (2 * i + 1) /\ (y (2 * i + 1)).toNat ∈ L
theorem zut {y : Nat -> Int} {r : Nat} {t n : Int} : zey y r t n (2 * r) = t /\ zey y r t n (2 * r + 1) = n := by
 refine ⟨by simp [zey], ?_⟩
 unfold zey
 rw [if_neg (by omega), if_pos rfl]
theorem zjg {y : Nat -> Int} {r i : Nat} {t n : Int} (h : i ≠ r) : zey y r t n (2 * i) = y (2 * i) /\ zey y r t n (2 * i + 1) = y (2 * i + 1) := by
 unfold zey
 refine ⟨by rw [if_neg (by omega), if_neg (by omega)], by rw [if_neg (by omega), if_neg (by omega)]⟩
theorem Cyc.roots {a : Cp} {S E F Od sn : Nat} {L O : List Nat} (h : Cyc a S E F Od sn 0 L O) {y : Nat -> Int} {rl : Nat} (hy : zek y rl O) : ∀ k, k <= rl ->
 ∃ M, Cyc (zh S a y k).1 S E F Od sn 0 (L ++ M) O /\ zek (zh S a y k).2 k (L ++ M) /\ (∀ i, k <= i -> (zh S a y k).2 (2 * i) = y (2 * i) /\ (zh S a y k).2 (2 * i + 1) = y (2 * i + 1)) /\ (zh S a y k).1.ws.length = a.ws.length
 | 0, _ => ⟨[], by rw [List.append_nil]; exact h, fun i hi => by omega, fun i _ => ⟨rfl, rfl⟩, rfl⟩
 | k + 1, hk => by
   obtain ⟨M, h1, h2, h3, h4⟩ := h.roots hy k (by omega)
   have hk3 := h3 k (Nat.le_refl _)
   have href : isR ((zh S a y k).2 (2 * k)) = true -> 0 <= (zh S a y k).2 (2 * k + 1) /\ (((zh S a y k).2 (2 * k + 1)).toNat ∈ L ++ M \/ ((zh S a y k).2 (2 * k + 1)).toNat ∈ O) := fun g => by
    rw [hk3.1] at g
    rw [hk3.2]
    have := hy k (by omega) g
    exact ⟨this.1, .inr this.2⟩
   obtain ⟨M2, g1, g2, g3⟩ := h1.fwd href
   obtain ⟨l1, _⟩ := h1.fwd_same href
   refine ⟨M ++ M2, by rw [<- List.append_assoc]; exact g1, fun i hi hr => ?_, fun i hi => ?_, l1.trans h4⟩
   · by_cases e : i = k
     · subst e
       have hp := zut (y := (zh S a y i).2) (r := i) (t := (zh S a y i).2 (2 * i)) (n := zbf S (zh S a y i).1 ((zh S a y i).2 (2 * i)) ((zh S a y i).2 (2 * i + 1)))
       simp only [zh] at hr ⊢
       rw [hp.1] at hr
       rw [hp.2, <- List.append_assoc]
       exact g2 hr
     · have hp := zjg (y := (zh S a y k).2) (r := k) (i := i) (t := (zh S a y k).2 (2 * k)) (n := zbf S (zh S a y k).1 ((zh S a y k).2 (2 * k)) ((zh S a y k).2 (2 * k + 1))) e
       simp only [zh] at hr ⊢
       rw [hp.1] at hr
       rw [hp.2]
       have := h2 i (by omega) hr
       exact ⟨this.1, by rw [<- List.append_assoc]; simp only [List.mem_append] at this ⊢; exact .inl this.2⟩
   · have hp := zjg (y := (zh S a y k).2) (r := k) (i := i) (t := (zh S a y k).2 (2 * k)) (n := zbf S (zh S a y k).1 ((zh S a y k).2 (2 * k)) ((zh S a y k).2 (2 * k + 1))) (by omega)
     simp only [zh]
     rw [hp.1, hp.2]
     exact h3 i (by omega)
structure zfg (ws : List Int) (S T E : Nat) (L : List Nat) : Prop where
 use : zn (nxA ws) S T L
 hT : T <= E
 hE : E <= ws.length
 hS : 1 <= S
 small : ws.length <= 1048576
 w64 : zg ws
 slL : ∀ p ∈ L, ∀ j, j < zbj ws p -> za1 ws (zw ws p j) = true /\ (isR (rvT ws (zw ws p j)) = true -> (rvN ws (zw ws p j)).toNat ∈ L)
theorem Cyc.still {a : Cp} {S E F Od : Nat} {L O : List Nat} (h : Cyc a S E F Od a.T 0 L O) : zfg a.ws S a.T E L :=
 ⟨h.use, h.TE, h.hE, h.hS, h.small, h.w64, fun p hp j hj => by
  obtain ⟨u1, u2⟩ := h.slL p hp j hj
  refine ⟨u1, fun g => ?_⟩
  rcases u2 g with k | ⟨k1, _⟩
  · exact k
  · have := h.inL hp
    unfold szA at this
    omega⟩
theorem zpo {ws : List Int} {p q : Nat} {L : List Nat} (h : zn (nxA ws) p q L) : p + zc8 ws L = q := by
 refine zn.ind (motive := fun p L => p + zc8 ws L = q) (by simp [zc8]) (fun {p s L} hs t ih => ?_) h
 obtain ⟨g1, rfl⟩ := zio hs
 have e : zc8 ws (p :: L) = szA ws p + zc8 ws L := by simp [zc8, g1]
 rw [e]
 unfold szA
 omega
theorem zfg.flip {ws : List Int} {S T E : Nat} {L : List Nat} (h : zfg ws S T E L) {S' E' : Nat} (h1 : E' <= S \/ T <= S') (h2 : S' + (T - S) <= E') (h3 : E' <= ws.length) (h4 : 1 <= S') : Cyc ⟨ws, S', 0⟩ S' E' S T S' 0 [] L := by
 have hl := zpo h.use
 refine ⟨zn.nil _, h.use.mono fun x hx s hs => ?_, ?_, h3, by have := h.hT; have := h.hE; show T <= ws.length; omega, h1, h4, h.hS, h.small, h.w64, .inl ⟨rfl, rfl⟩, fun p hp => by simp at hp, fun p hp hr j hj => h.slL p hp j hj⟩
 · obtain ⟨g1, rfl⟩ := zio hs
   unfold nxB
   rw [if_pos g1]
 · show S' + zc8 ws L <= E'
   omega
theorem zvp {ws : List Int} {sr : Int} {x s : Nat} (h : nx1 ws sr x = some s) : nxA ws x = some s := by
 obtain ⟨g1, _, g3⟩ := zc4 h
 unfold nxA
 rw [if_pos g1, g3]
theorem zuh {ws : List Int} {L O : List Nat} {i : Nat} (h : mk2 ws L O i = 1) : i ∈ L := by
 unfold mk2 at h
 split at h
 · split at h <;> simp at h
 · split at h
   · assumption
   · simp at h
theorem zl9 {mu : Int} (h : zbw mu 1 = true) : mu = 1 := by simpa [zbw] using h
section
variable {ws : List Int} {sm toh top : Int} {sn old cp sr : Int} {y : Nat -> Int} {rl : Nat} {S T E F : Nat}
theorem zma (hw : zg ws) (hok : zdb ws sm toh top false sn old cp sr y rl) (hS : toh * sm + 1 = S) (hT : top = T) (hE : (toh + 1) * sm = E) : ∃ L, zfg ws S T E L /\ zek y rl L := by
 obtain ⟨s0, s1, hl, t0, t1, hrl, h1, h2, hold⟩ := zhk hok.1
 obtain ⟨g1, g2, g3, g4, g5⟩ := zfh s0 s1 hl t0 t1 h1 h2
 obtain ⟨L, O, ht, _, hobj, _, hroots⟩ := hok.2
 have eS : (toh * sm + 1).toNat = S := by omega
 have eT : top.toNat = T := by omega
 rw [eS, eT] at ht
 have hO : O = [] := ht.still rfl
 subst hO
 have hlen : E <= ws.length := by
  have hc : toh = 0 \/ toh = 1 := by omega
  rcases hc with rfl | rfl <;> omega
 refine ⟨L, ⟨ht.use.mono fun x _ s hs => zvp hs, by omega, hlen, by omega, by omega, hw, fun p hp j hj => ?_⟩, fun i hi hr => ?_⟩
 · have hm : mk2 ws L [] p = 1 := zfp hp (by simp)
   have hpl : p < ws.length := by have := ht.use.mem p hp; omega
   have ho := (hobj p hpl (.inl hm)).1 j hj
   have hfr : zb6 (mk2 ws L []) false sn p = 1 := by simp [zb6, hm]
   rw [hfr] at ho
   refine ⟨ho.1, fun g => ?_⟩
   exact zuh (zl9 (ho.2.1 g).2.1)
 · obtain ⟨hv, _, hlead⟩ := hroots i hi
   have hm0 : 0 < y (2 * i + 1) := by
    have h3 := of_decide_eq_true hv
    have h4 := of_decide_eq_true hr
    omega
   exact ⟨by omega, zuh (zl9 (hlead hr).2.1)⟩
end
end Go.Proofs.YtaapiedminakcaaGreat
