/- - -/
import Derived.Test.YtaapiedminakcaaGreatFKpA
import Derived.Test.YtaapiedminakcaaGreatFMoveA
namespace Go.Proofs.YtaapiedminakcaaGreat
set_option maxRecDepth 20000
open Go.RowKit
set_option linter.unusedSimpArgs false
set_option linter.unusedVariables false
def zwg (ws : List Int) (todo : List Nat) (t m : Int) : List Nat :=
 if isR t = true then (if (zi ws m.toNat).toNat ∈ todo then todo else todo ++ [(zi ws m.toNat).toNat]) else todo
def zvc (ws : List Int) (f : Nat -> Int × Int) : Nat -> List Nat -> List Nat
 | 0, todo => todo
 | k + 1, todo => zwg ws (zvc ws f k todo) (f k).1 (f k).2
def zu (ws : List Int) (p j : Nat) : Nat := p + (fs (rdK (za ws p)) + 2 * (j : Int)).toNat
def zwh (ws : List Int) (p : Nat) (j : Nat) : Int × Int := (rvT ws (zu ws p j), rvN ws (zu ws p j))
def zmf (ws : List Int) (p : Nat) (todo : List Nat) : List Nat := zvc ws (zwh ws p) (slN (rdK (za ws p)) (rdS (za ws p))) todo
def bfs (ws : List Int) : Nat -> Nat -> List Nat -> List Nat
 | 0, _, todo => todo
 | d + 1, i, todo => if i < todo.length then bfs ws d (i + 1) (zmf ws (todo.getD i 0) todo) else todo
def Bfs (ws : List Int) (i : Nat) (todo R : List Nat) : Prop := bfs ws (ws.length - i) i todo = R
theorem Bfs.done {ws : List Int} {i : Nat} {todo R : List Nat} (h : Bfs ws i todo R) (hi : ¬ i < todo.length) : R = todo := by
 unfold Bfs at h
 cases hd : ws.length - i with
 | zero => rw [hd] at h; exact h.symm
 | succ d => rw [hd] at h; simp only [bfs, if_neg hi] at h; exact h.symm
theorem Bfs.step {ws : List Int} {i : Nat} {todo R : List Nat} (h : Bfs ws i todo R) (hi : i < todo.length) (hl : todo.length <= ws.length) : Bfs ws (i + 1) (zmf ws (todo.getD i 0) todo) R := by
 unfold Bfs at h ⊢
 obtain ⟨d, hd⟩ : ∃ d, ws.length - i = d + 1 := ⟨ws.length - i - 1, by omega⟩
 rw [hd] at h
 simp only [bfs, if_pos hi] at h
 rw [show ws.length - (i + 1) = d by omega]
 exact h
def nxA (ws : List Int) (p : Nat) : Option Nat := if zx (za ws p) = true then some (rdS (za ws p)).toNat else none
def nxB (ws : List Int) (U : List Nat) (p : Nat) : Option Nat :=
 if zx (za ws p) = true then some (rdS (za ws p)).toNat else if za5 (za ws p) = true /\ zt ws p ∈ U then some (rdS (za ws (zt ws p))).toNat else none
theorem zix {ws : List Int} {p s : Nat} (h : nxA ws p = some s) : zx (za ws p) = true /\ s = (rdS (za ws p)).toNat := by
 unfold nxA at h
 split at h
 · rename_i g; exact ⟨g, by simpa using h.symm⟩
 · simp at h
theorem zgx {ws : List Int} {U : List Nat} {p s : Nat} (h : nxB ws U p = some s) : (zx (za ws p) = true /\ s = (rdS (za ws p)).toNat) \/ (zx (za ws p) = false /\ za5 (za ws p) = true /\ zt ws p ∈ U /\ s = (rdS (za ws (zt ws p))).toNat) := by
 unfold nxB at h
 split at h
 · rename_i g; exact .inl ⟨g, by simpa using h.symm⟩
 · rename_i g
   split at h
   · rename_i g2; exact .inr ⟨by simpa using g, g2.1, g2.2, by simpa using h.symm⟩
   · simp at h
theorem zn.mono {nx nx' : Nat -> Option Nat} {p q : Nat} {L : List Nat} (h : zn nx p q L) (hm : ∀ x ∈ L, ∀ s, nx x = some s -> nx' x = some s) : zn nx' p q L := by
 induction L generalizing p with
 | nil => exact h
 | cons x L ih =>
   obtain ⟨rfl, s, hs, t⟩ := h
   exact ⟨rfl, s, hm _ (by simp) s hs, ih t (fun y hy => hm y (by simp [hy]))⟩
theorem zn.sep {nx : Nat -> Option Nat} {p q : Nat} {L : List Nat} (h : zn nx p q L) : ∀ x ∈ L, ∀ y ∈ L, x < y -> ∀ s, nx x = some s -> x + s + 1 <= y := by
 induction L generalizing p with
 | nil => intro x hx; simp at hx
 | cons a L ih =>
   obtain ⟨rfl, s, hs, t⟩ := h
   intro x hx y hy hlt s' hs'
   rcases List.mem_cons.1 hx with e1 | h1
   · rcases List.mem_cons.1 hy with e2 | h2
     · omega
     · subst e1
       rw [hs] at hs'
       cases hs'
       exact (t.mem y h2).1
   · rcases List.mem_cons.1 hy with e2 | h2
     · have := (t.mem x h1).1
       omega
     · exact ih t x h1 y h2 hlt s' hs'
def zbo (ws : List Int) (O : List Nat) : Nat := (O.map fun p => if zx (za ws p) = true then szA ws p else 0).sum
theorem zme {f g : Nat -> Nat} {p n : Nat} : ∀ {O : List Nat}, O.Pairwise (· < ·) -> p ∈ O -> f p = n -> g p = 0 -> (∀ x ∈ O, x ≠ p -> f x = g x) -> (O.map f).sum = (O.map g).sum + n
 | [], _, hp, _, _, _ => by simp at hp
 | a :: O, hs, hp, hf, hg, he => by
   simp only [List.map_cons, List.sum_cons]
   have hs2 := List.pairwise_cons.1 hs
   rcases List.mem_cons.1 hp with rfl | hp
   · have e : O.map f = O.map g := List.map_congr_left fun x hx => he x (by simp [hx]) (by have := hs2.1 x hx; omega)
     rw [e, hf, hg]
     omega
   · have hne : a ≠ p := by have := hs2.1 p hp; omega
     rw [he a (by simp) hne, zme hs2.2 hp hf hg (fun x hx hx2 => he x (by simp [hx]) hx2)]
     omega
theorem zpg {f : Nat -> Nat} {p : Nat} : ∀ {O : List Nat}, p ∈ O -> f p <= (O.map f).sum
 | [], hp => by simp at hp
 | a :: O, hp => by
   simp only [List.map_cons, List.sum_cons]
   rcases List.mem_cons.1 hp with rfl | hp
   · omega
   · have := zpg (f := f) hp
     omega
def zay (ws : List Int) (p : Nat) : Nat := slN (rdK (za ws p)) (rdS (za ws p))
structure Cyc (a : Cp) (S E F Od sn J : Nat) (L O : List Nat) : Prop where
 use : zn (nxA a.ws) S a.T L
 oth : zn (nxB a.ws L) F Od O
 room : a.T + zbo a.ws O <= E
 hE : E <= a.ws.length
 hOd : Od <= a.ws.length
 ap : E <= F \/ Od <= S
 hS : 1 <= S
 hF : 1 <= F
 small : a.ws.length <= 1048576
 w64 : zg a.ws
 sc : (sn = a.T /\ J = 0) \/ sn ∈ L
 slL : ∀ p ∈ L, ∀ j, j < zay a.ws p -> zav a.ws (zu a.ws p j) = true /\ (isR (rvT a.ws (zu a.ws p j)) = true -> (rvN a.ws (zu a.ws p j)).toNat ∈ L \/ ((sn < p \/ sn = p /\ J <= j) /\ (rvN a.ws (zu a.ws p j)).toNat ∈ O))
 slO : ∀ p ∈ O, zx (za a.ws p) = true -> ∀ j, j < zay a.ws p -> zav a.ws (zu a.ws p j) = true /\ (isR (rvT a.ws (zu a.ws p j)) = true -> (rvN a.ws (zu a.ws p j)).toNat ∈ O)
theorem ze2 {ws : List Int} {p j : Nat} (hr : zx (za ws p) = true) (hj : j < zay ws p) : p < zu ws p j /\ zu ws p j + 1 <= p + (rdS (za ws p)).toNat := by
 have h1 := (zff (zdw hr) j).2 hj
 have h2 := zlv (rdK (za ws p))
 have h3 := zau (za ws p)
 unfold zu
 omega
theorem zhp {ws ws' : List Int} {p : Nat} (hr : zx (za ws p) = true) (h : ∀ i, p <= i -> i <= p + (rdS (za ws p)).toNat -> za ws' i = za ws i) :
 zay ws' p = zay ws p /\ ∀ j, j < zay ws p -> zu ws' p j = zu ws p j /\ zav ws' (zu ws p j) = zav ws (zu ws p j) /\ rvT ws' (zu ws p j) = rvT ws (zu ws p j) /\ rvN ws' (zu ws p j) = rvN ws (zu ws p j) := by
 have h0 := h p (Nat.le_refl _) (by omega)
 refine ⟨by simp [zay, h0], fun j hj => ?_⟩
 have h1 := ze2 hr hj
 have e1 := h (zu ws p j) (by omega) (by omega)
 have e2 := h (zu ws p j + 1) (by omega) (by omega)
 have eo : zav ws' (zu ws p j) = zav ws (zu ws p j) := by simp [zav, e1, e2]
 exact ⟨by simp [zu, h0], eo, by simp [rvT, eo, e1], by simp [rvN, eo, e2]⟩
theorem zqa {ws ws' : List Int} {p q : Nat} (hr : zx (za ws p) = true) (h : ∀ d, d <= (rdS (za ws p)).toNat -> za ws' (q + d) = za ws (p + d)) :
 zay ws' q = zay ws p /\ ∀ j, j < zay ws p -> zav ws' (zu ws' q j) = zav ws (zu ws p j) /\ rvT ws' (zu ws' q j) = rvT ws (zu ws p j) /\ rvN ws' (zu ws' q j) = rvN ws (zu ws p j) := by
 have h0 : za ws' q = za ws p := h 0 (by omega)
 refine ⟨by simp [zay, h0], fun j hj => ?_⟩
 have h1 := ze2 hr hj
 obtain ⟨d, hd⟩ : ∃ d, zu ws p j = p + d := ⟨zu ws p j - p, by omega⟩
 have hd' : zu ws' q j = q + d := by
  have : zu ws p j = p + (fs (rdK (za ws p)) + 2 * (j : Int)).toNat := rfl
  have e : zu ws' q j = q + (fs (rdK (za ws p)) + 2 * (j : Int)).toNat := by simp [zu, h0]
  omega
 have e1 := h d (by omega)
 have e2 : za ws' (q + d + 1) = za ws (p + d + 1) := h (d + 1) (by omega)
 rw [hd, hd']
 have eo : zav ws' (q + d) = zav ws (p + d) := by simp [zav, e1, e2]
 exact ⟨eo, by simp [rvT, eo, e1], by simp [rvN, eo, e2]⟩
section
variable {a : Cp} {S E F Od sn J : Nat} {L O : List Nat}
theorem Cyc.inL (h : Cyc a S E F Od sn J L O) {p : Nat} (hp : p ∈ L) : S <= p /\ zx (za a.ws p) = true /\ p + szA a.ws p <= a.T := by
 obtain ⟨h1, h2, s, hs, h3⟩ := h.use.mem p hp
 obtain ⟨h4, rfl⟩ := zix hs
 exact ⟨h1, h4, by unfold szA; omega⟩
theorem Cyc.inO (h : Cyc a S E F Od sn J L O) {p : Nat} (hp : p ∈ O) : F <= p /\ p < Od /\ (zx (za a.ws p) = true /\ p + szA a.ws p <= Od \/ zx (za a.ws p) = false /\ za5 (za a.ws p) = true /\ zt a.ws p ∈ L) := by
 obtain ⟨h1, h2, s, hs, h3⟩ := h.oth.mem p hp
 rcases zgx hs with ⟨h4, rfl⟩ | ⟨h4, h5, h6, _⟩
 · exact ⟨h1, h2, .inl ⟨h4, by unfold szA; omega⟩⟩
 · exact ⟨h1, h2, .inr ⟨h4, h5, h6⟩⟩
theorem Cyc.TE (h : Cyc a S E F Od sn J L O) : a.T <= E := by have := h.room; omega
theorem Cyc.ST (h : Cyc a S E F Od sn J L O) : S <= a.T := h.use.le
theorem Cyc.inUse (h : Cyc a S E F Od sn J L O) {p : Nat} (hp : p ∈ L \/ p ∈ O) : (S <= p /\ p < a.T) ↔ p ∈ L := by
 have h1 := h.TE
 have h2 := h.ap
 constructor
 · intro g
   rcases hp with hp | hp
   · exact hp
   · have := h.inO hp
     omega
 · intro g
   have := h.inL g
   unfold szA at this
   omega
theorem Cyc.move (h : Cyc a S E F Od sn J L O) {p : Nat} (hp : p ∈ O) (hr : zx (za a.ws p) = true) :
 Cyc ⟨mvW a.ws p a.T (szA a.ws p), a.T + szA a.ws p, a.C + szA a.ws p⟩ S E F Od sn J (L ++ [a.T]) O := by
 obtain ⟨n, hn⟩ : ∃ n, n = szA a.ws p := ⟨_, rfl⟩
 have hTE := h.TE
 have hST := h.ST
 have hap := h.ap
 have hE := h.hE
 have hOd := h.hOd
 have hsm := h.small
 obtain ⟨p1, p2, hpo⟩ := h.inO hp
 have hpn : p + n <= Od := by
  rcases hpo with g | g
  · rw [hn]; exact g.2
  · rw [hr] at g; simp at g
 have hn1 : 1 <= n := by rw [hn]; unfold szA; omega
 have hroom := h.room
 have hle : n <= zbo a.ws O := by
  have := zpg (f := fun p => if zx (za a.ws p) = true then szA a.ws p else 0) hp
  simp only [hr, if_true] at this
  unfold zbo
  omega
 have hTp : ∀ i, S <= i -> i < a.T + n -> i ≠ p := fun i _ _ => by omega
 have hinL : ∀ i, S <= i -> i < a.T -> za (mvW a.ws p a.T n) i = za a.ws i := fun i h1 h2 => zhn (by omega) (hTp i h1 (by omega)) (by omega)
 have hinO : ∀ i, F <= i -> i < Od -> i ≠ p -> za (mvW a.ws p a.T n) i = za a.ws i := fun i h1 h2 h3 => zhn (by omega) h3 (by omega)
 have hnew : ∀ d, d < n -> za (mvW a.ws p a.T n) (a.T + d) = za a.ws (p + d) := fun d hd => zvh (by omega) hd (by omega)
 have hold : za (mvW a.ws p a.T n) p = 9223372036854775808 + (a.T : Int) := zvi (by omega)
 obtain ⟨f1, f2, f3⟩ := zvj (q := a.T) (by omega)
 rw [<- hn]
 have hL' : ∀ x ∈ L, za (mvW a.ws p a.T n) x = za a.ws x := fun x hx => by
  have := h.inL hx
  unfold szA at this
  exact hinL x this.1 (by omega)
 have hT0 : za (mvW a.ws p a.T n) a.T = za a.ws p := hnew 0 (by omega)
 have hfT : zt (mvW a.ws p a.T n) p = a.T := by unfold zt; rw [hold, f2]; simp
 refine ⟨?_, ?_, ?_, by rw [zeq]; exact hE, by rw [zeq]; exact hOd, hap, h.hS, h.hF, by rw [zeq]; exact hsm, zr9 h.w64 (by omega), ?_, ?_, ?_⟩
 · have h1 : zn (nxA (mvW a.ws p a.T n)) S a.T L := h.use.mono fun x hx s hs => by
    unfold nxA at hs ⊢
    rw [hL' x hx]
    exact hs
   have h2 : nxA (mvW a.ws p a.T n) a.T = some (rdS (za a.ws p)).toNat := by unfold nxA; rw [hT0, if_pos hr]
   have h3 := h1.snoc h2
   have e : a.T + (rdS (za a.ws p)).toNat + 1 = a.T + n := by rw [hn]; unfold szA; omega
   rw [e] at h3
   exact h3
 · refine h.oth.mono fun x hx s hs => ?_
   obtain ⟨x1, x2, hxo⟩ := h.inO hx
   by_cases e : x = p
   · subst e
     have hs' : s = (rdS (za a.ws x)).toNat := by
      unfold nxB at hs
      rw [if_pos hr] at hs
      simpa using hs.symm
     unfold nxB
     rw [hold, f3, if_neg (by simp), if_pos ⟨f1, by rw [hfT]; simp⟩, hfT, hT0, hs']
   · have e1 := hinO x x1 x2 e
     have e2 : zt (mvW a.ws p a.T n) x = zt a.ws x := by unfold zt; rw [e1]
     rcases zgx hs with ⟨h4, rfl⟩ | ⟨h4, h5, h6, rfl⟩
     · unfold nxB
       rw [e1, if_pos h4]
     · unfold nxB
       rw [e1, e2, if_neg (by simp [h4]), if_pos ⟨h5, by simp [h6]⟩, hL' _ h6]
 · have := zme (f := fun p => if zx (za a.ws p) = true then szA a.ws p else 0) (g := fun x => if zx (za (mvW a.ws p a.T n) x) = true then szA (mvW a.ws p a.T n) x else 0) (p := p) (n := n) h.oth.nodup hp (by simp [hr, hn]) (by simp only [hold, f3]; simp) (fun x hx hne => by
    obtain ⟨x1, x2, _⟩ := h.inO hx
    have e1 := hinO x x1 x2 hne
    simp only [e1]
    split
    · unfold szA; rw [e1]
    · rfl)
   show a.T + n + zbo (mvW a.ws p a.T n) O <= E
   unfold zbo at hroom ⊢
   omega
 · rcases h.sc with ⟨g1, g2⟩ | g
   · exact .inr (by simp [g1])
   · exact .inr (by simp [g])
 · intro x hx j hj
   rcases List.mem_append.1 hx with hx | hx
   · have hxL := h.inL hx
     obtain ⟨s1, s2⟩ := zhp (ws := a.ws) (ws' := mvW a.ws p a.T n) hxL.2.1 (fun i i1 i2 => hinL i (by omega) (by unfold szA at hxL; omega))
     dsimp only at hj ⊢
     rw [s1] at hj
     obtain ⟨t1, t2, t3, t4⟩ := s2 j hj
     rw [t1, t2, t3, t4]
     obtain ⟨u1, u2⟩ := h.slL x hx j hj
     refine ⟨u1, fun hr2 => ?_⟩
     rcases u2 hr2 with g | g
     · exact .inl (by simp [g])
     · exact .inr g
   · simp only [List.mem_singleton] at hx
     subst hx
     obtain ⟨s1, s2⟩ := zqa (ws := a.ws) (ws' := mvW a.ws p a.T n) (p := p) (q := a.T) hr (fun d hd => hnew d (by rw [hn]; unfold szA; omega))
     dsimp only at hj ⊢
     rw [s1] at hj
     obtain ⟨t2, t3, t4⟩ := s2 j hj
     rw [t2, t3, t4]
     obtain ⟨u1, u2⟩ := h.slO p hp hr j hj
     refine ⟨u1, fun hr2 => .inr ⟨?_, u2 hr2⟩⟩
     rcases h.sc with ⟨g1, g2⟩ | g
     · right; omega
     · left
       have := h.inL g
       unfold szA at this
       omega
 · intro x hx hrx j hj
   have hne : x ≠ p := fun e => by
    subst e
    dsimp only at hrx
    rw [hold, f3] at hrx
    simp at hrx
   obtain ⟨x1, x2, hxo⟩ := h.inO hx
   dsimp only at hrx hj ⊢
   rw [hinO x x1 x2 hne] at hrx
   have hxn : x + szA a.ws x <= Od := by
    rcases hxo with g | g
    · exact g.2
    · rw [hrx] at g; simp at g
   have hnx : nxB a.ws L x = some (rdS (za a.ws x)).toNat := by unfold nxB; rw [if_pos hrx]
   have hsep := fun hlt : x < p => h.oth.sep x hx p hp hlt _ hnx
   obtain ⟨s1, s2⟩ := zhp (ws := a.ws) (ws' := mvW a.ws p a.T n) hrx (fun i i1 i2 => hinO i (by omega) (by unfold szA at hxn; omega) (fun e => by
    by_cases g : x < p
    · have := hsep g; omega
    · omega))
   rw [s1] at hj
   obtain ⟨t1, t2, t3, t4⟩ := s2 j hj
   rw [t1, t2, t3, t4]
   exact h.slO x hx hrx j hj
theorem Cyc.fwd (h : Cyc a S E F Od sn J L O) {t m : Int} (hm : isR t = true -> 0 <= m /\ (m.toNat ∈ L \/ m.toNat ∈ O)) :
 ∃ M, Cyc (zam S a t m) S E F Od sn J (L ++ M) O /\ (isR t = true -> 0 <= zbf S a t m /\ (zbf S a t m).toNat ∈ L ++ M) /\ (isR t = false -> zbf S a t m = m) := by
 by_cases hr : isR t = true
 · obtain ⟨m0, hmm⟩ := hm hr
   have hin := h.inUse hmm
   by_cases hu : (S : Int) <= m /\ m < (a.T : Int)
   · have e1 : zam S a t m = a := by unfold zam zd0; simp [hu]
     have e2 : zbf S a t m = m := by unfold zbf; rw [if_neg (fun g => g.2 hu)]
     rw [e1, e2]
     exact ⟨[], by simpa using h, fun _ => ⟨m0, by simpa using hin.1 (by omega)⟩, fun _ => rfl⟩
   · have hmO : m.toNat ∈ O := by
      rcases hmm with g | g
      · exact absurd (hin.2 g) (by omega)
      · exact g
     obtain ⟨o1, o2, ho⟩ := h.inO hmO
     rcases ho with ⟨g1, g2⟩ | ⟨g1, g2, g3⟩
     · have hf := zfc g1
       have e1 : zam S a t m = ⟨mvW a.ws m.toNat a.T (szA a.ws m.toNat), a.T + szA a.ws m.toNat, a.C + szA a.ws m.toNat⟩ := by
        unfold zam
        rw [if_pos (by simp only [zd0, hr, hf, decide_eq_false hu]; rfl)]
       have e2 : zbf S a t m = (a.T : Int) := by unfold zbf; rw [if_pos ⟨hr, hu⟩, hf]; simp
       rw [e1, e2]
       exact ⟨[a.T], h.move hmO g1, fun _ => ⟨by omega, by simp⟩, fun g => by rw [hr] at g; simp at g⟩
     · have e1 : zam S a t m = a := by unfold zam zd0; simp [g2]
       have e2 : zbf S a t m = fwP (za a.ws m.toNat) := by unfold zbf; rw [if_pos ⟨hr, hu⟩, if_pos g2]
       rw [e1, e2]
       exact ⟨[], by simpa using h, fun _ => ⟨zjt _, by simpa [zt] using g3⟩, fun g => by rw [hr] at g; simp at g⟩
 · have e1 : zam S a t m = a := by unfold zam zd0; simp [hr]
   have e2 : zbf S a t m = m := by unfold zbf; rw [if_neg (fun g => hr g.1)]
   rw [e1, e2]
   exact ⟨[], by simpa using h, fun g => absurd g hr, fun _ => rfl⟩
end
theorem zt5 {x : Int} (h0 : 0 <= x) (h1 : x < 18446744073709551616) : IntKind.u64.wrap (wrap64 x) = x := by
 rw [IntKind.wrap_u64]
 unfold wrap64
 omega
theorem zpf {x : Int} (h0 : 0 <= x) (h1 : x < 18446744073709551616) : IntKind.u64.wrap x = x := by
 rw [IntKind.wrap_u64]
 omega
theorem zv5 {ws : List Int} {x i : Nat} {v : Int} (hi : i < ws.length) : za (ws.set x v) i = if i = x then v else za ws i := by
 unfold za
 by_cases e : i = x
 · subst e; simp [hi]
 · rw [if_neg e, List.getD_eq_getElem?_getD, List.getElem?_set_ne (fun g => e g.symm), <- List.getD_eq_getElem?_getD]
theorem zk0 {ws : List Int} {x i : Nat} {v : Int} (h : i ≠ x) : za (ws.set x v) i = za ws i := by
 unfold za
 rw [List.getD_eq_getElem?_getD, List.getElem?_set_ne (fun g => h g.symm), <- List.getD_eq_getElem?_getD]
theorem zmd {ws : List Int} {x : Nat} {v : Int} (h : x < ws.length) (hv : za ws x = v) : ws.set x v = ws := by
 refine List.ext_getElem? fun i => ?_
 by_cases e : i = x
 · subst e
   rw [List.getElem?_set_self h]
   unfold za at hv
   rw [List.getD_eq_getElem?_getD, List.getElem?_eq_getElem h] at hv
   rw [List.getElem?_eq_getElem h, <- hv]
   rfl
 · rw [List.getElem?_set_ne (fun g => e g.symm)]
theorem zsi {ws : List Int} {x : Nat} {v : Int} (hw : zg ws) (h0 : 0 <= v) (h1 : v < 18446744073709551616) : zg (ws.set x v) := fun z hz => by
 rcases List.mem_or_eq_of_mem_set hz with g | rfl
 · exact hw z g
 · exact ⟨h0, h1⟩
theorem zjm {x : Int} (h0 : 0 <= x) (h1 : x < 9223372036854775808) : wrap64 x = x := by unfold wrap64; omega
section
variable {a : Cp} {S E F Od sn J : Nat} {L O : List Nat}
theorem Cyc.layG {jj J' : Nat} (h : Cyc a S E F Od sn J L O) (hs : sn ∈ L) (hJ : jj < zay a.ws sn) (hJ' : ∀ i, J <= i -> J' <= i \/ i = jj) {v : Int} (hv : isR (rvT a.ws (zu a.ws sn jj)) = true -> 0 <= v /\ v.toNat ∈ L) (hv2 : isR (rvT a.ws (zu a.ws sn jj)) = false -> v = rvN a.ws (zu a.ws sn jj)) :
 Cyc ⟨a.ws.set (zu a.ws sn jj + 1) (IntKind.u64.wrap v), a.T, a.C⟩ S E F Od sn J' L O := by
 have hTE := h.TE
 have hE := h.hE
 have hap := h.ap
 obtain ⟨q1, q2, q3⟩ := h.inL hs
 obtain ⟨x1, x2⟩ := ze2 q2 hJ
 obtain ⟨X, hX⟩ : ∃ X, X = zu a.ws sn jj := ⟨_, rfl⟩
 rw [<- hX] at x1 x2 hv hv2 ⊢
 unfold szA at q3
 have hXT : X + 1 < a.T := by omega
 obtain ⟨so, sl⟩ := h.slL sn hs jj hJ
 rw [<- hX] at so sl
 have hgo : ∀ p j, j < zay a.ws p -> (sn < p \/ sn = p /\ J <= j) -> ¬ (sn < p \/ sn = p /\ J' <= j) -> p = sn /\ j = jj := fun p j _ g1 g2 => by
  rcases g1 with g | ⟨rfl, g⟩
  · exact absurd (.inl g) g2
  · rcases hJ' j g with k | k
    · exact absurd (.inr ⟨rfl, k⟩) g2
    · exact ⟨rfl, k⟩
 cases hr : isR (rvT a.ws X) with
 | false =>
   have hw := zw h.w64 (X + 1)
   have e : IntKind.u64.wrap v = za a.ws (X + 1) := by
    rw [hv2 hr]
    have : rvN a.ws X = wrap64 (za a.ws (X + 1)) := by simp [rvN, so]
    rw [this, zt5 hw.1 hw.2]
   rw [e, zmd (by omega) rfl]
   refine ⟨h.use, h.oth, h.room, h.hE, h.hOd, h.ap, h.hS, h.hF, h.small, h.w64, .inr hs, fun p hp j hj => ?_, h.slO⟩
   obtain ⟨u1, u2⟩ := h.slL p hp j hj
   refine ⟨u1, fun g => ?_⟩
   rcases u2 g with k | ⟨k1, k2⟩
   · exact .inl k
   · by_cases k3 : sn < p \/ sn = p /\ J' <= j
     · exact .inr ⟨k3, k2⟩
     · obtain ⟨rfl, rfl⟩ := hgo p j hj k1 k3
       rw [<- hX, hr] at g
       simp at g
 | true =>
   obtain ⟨v0, vL⟩ := hv hr
   have vin := h.inL vL
   unfold szA at vin
   have hS := h.hS
   have hsm := h.small
   have e : IntKind.u64.wrap v = v := zpf v0 (by omega)
   rw [e]
   have hoth : ∀ i, i ≠ X + 1 -> za (a.ws.set (X + 1) v) i = za a.ws i := fun i hi => zk0 hi
   have hself : za (a.ws.set (X + 1) v) (X + 1) = v := by rw [zv5 (by omega), if_pos rfl]
   have hheadL : ∀ p ∈ L, p ≠ X + 1 := fun p hp e => by
    have hnx : nxA a.ws sn = some (rdS (za a.ws sn)).toNat := by unfold nxA; rw [if_pos q2]
    have := h.use.sep sn hs p hp (by omega) _ hnx
    omega
   have hO : ∀ i, F <= i -> i < Od -> i ≠ X + 1 := fun i _ _ => by omega
   have hbodyL : ∀ p ∈ L, p ≠ sn -> ∀ i, p <= i -> i <= p + (rdS (za a.ws p)).toNat -> i ≠ X + 1 := fun p hp hne i i1 i2 e => by
    have hpi := h.inL hp
    have hnx : nxA a.ws sn = some (rdS (za a.ws sn)).toNat := by unfold nxA; rw [if_pos q2]
    have hnp : nxA a.ws p = some (rdS (za a.ws p)).toNat := by unfold nxA; rw [if_pos hpi.2.1]
    by_cases g : sn < p
    · have := h.use.sep sn hs p hp g _ hnx; omega
    · have := h.use.sep p hp sn hs (by omega) _ hnp; omega
   refine ⟨?_, ?_, ?_, by simpa using h.hE, by simpa using h.hOd, h.ap, h.hS, h.hF, by simpa using h.small, zsi h.w64 v0 (by omega), .inr hs, ?_, ?_⟩
   · exact h.use.mono fun p hp s hs' => by unfold nxA at hs' ⊢; rw [hoth p (hheadL p hp)]; exact hs'
   · refine h.oth.mono fun p hp s hs' => ?_
     obtain ⟨o1, o2, ho⟩ := h.inO hp
     have e1 := hoth p (hO p o1 o2)
     have e2 : zt (a.ws.set (X + 1) v) p = zt a.ws p := by unfold zt; rw [e1]
     rcases zgx hs' with ⟨h4, rfl⟩ | ⟨h4, h5, h6, rfl⟩
     · unfold nxB; rw [e1, if_pos h4]
     · unfold nxB; rw [e1, e2, if_neg (by simp [h4]), if_pos ⟨h5, h6⟩, hoth _ (hheadL _ h6)]
   · have e1 : zbo (a.ws.set (X + 1) v) O = zbo a.ws O := by
      unfold zbo
      congr 1
      refine List.map_congr_left fun p hp => ?_
      obtain ⟨o1, o2, _⟩ := h.inO hp
      have e1 := hoth p (hO p o1 o2)
      simp only [e1, szA]
     show a.T + zbo (a.ws.set (X + 1) v) O <= E
     rw [e1]
     exact h.room
   · intro p hp j hj
     dsimp only at hj ⊢
     have hpi := h.inL hp
     have hhd := hoth p (hheadL p hp)
     have hsl : zay (a.ws.set (X + 1) v) p = zay a.ws p := by simp [zay, hhd]
     have hsx : zu (a.ws.set (X + 1) v) p j = zu a.ws p j := by simp [zu, hhd]
     rw [hsl] at hj
     rw [hsx]
     obtain ⟨y1, y2⟩ := ze2 hpi.2.1 hj
     by_cases hpj : p = sn /\ j = jj
     · obtain ⟨rfl, rfl⟩ := hpj
       rw [<- hX]
       have et := hoth X (by omega)
       have hwt := zw h.w64 X
       have hvo : vOk (wrap64 (za a.ws X)) (wrap64 (za a.ws (X + 1))) = true := so
       have ht : rvT a.ws X = za a.ws X := by simp [rvT, so]
       rw [ht] at hr
       have hr' := of_decide_eq_true hr
       have ewt : wrap64 (za a.ws X) = za a.ws X := zjm hwt.1 (by omega)
       have ewv : wrap64 v = v := zjm v0 (by omega)
       have ho : zav (a.ws.set (X + 1) v) X = true := by
        unfold zav
        rw [et, hself, ewt, ewv]
        exact decide_eq_true (by omega)
       have hn : rvN (a.ws.set (X + 1) v) X = v := by simp only [rvN, ho, if_true]; rw [hself, ewv]
       refine ⟨ho, fun _ => .inl ?_⟩
       rw [hn]
       exact vL
     · have hwords : zu a.ws p j ≠ X + 1 /\ zu a.ws p j + 1 ≠ X + 1 := by
        by_cases g : p = sn
        · subst g
          have hj' : j ≠ jj := fun e => hpj ⟨rfl, e⟩
          have e1 : zu a.ws p j = p + (fs (rdK (za a.ws p)) + 2 * (j : Int)).toNat := rfl
          have e2 : X = p + (fs (rdK (za a.ws p)) + 2 * (jj : Int)).toNat := hX
          have := zlv (rdK (za a.ws p))
          omega
        · exact ⟨hbodyL p hp g _ (by omega) (by omega), hbodyL p hp g _ (by omega) (by omega)⟩
       have e1 := hoth _ hwords.1
       have e2 := hoth _ hwords.2
       have eo : zav (a.ws.set (X + 1) v) (zu a.ws p j) = zav a.ws (zu a.ws p j) := by simp only [zav, e1, e2]
       have et : rvT (a.ws.set (X + 1) v) (zu a.ws p j) = rvT a.ws (zu a.ws p j) := by simp only [rvT, eo, e1]
       have en : rvN (a.ws.set (X + 1) v) (zu a.ws p j) = rvN a.ws (zu a.ws p j) := by simp only [rvN, eo, e2]
       rw [eo, et, en]
       obtain ⟨u1, u2⟩ := h.slL p hp j hj
       refine ⟨u1, fun g => ?_⟩
       rcases u2 g with k | ⟨k1, k2⟩
       · exact .inl k
       · by_cases k3 : sn < p \/ sn = p /\ J' <= j
         · exact .inr ⟨k3, k2⟩
         · exact absurd (hgo p j hj k1 k3) hpj
   · intro p hp hrp j hj
     obtain ⟨o1, o2, ho⟩ := h.inO hp
     have e1 := hoth p (hO p o1 o2)
     dsimp only at hrp hj ⊢
     rw [e1] at hrp
     have hpn : p + szA a.ws p <= Od := by
      rcases ho with g | g
      · exact g.2
      · rw [hrp] at g; simp at g
     unfold szA at hpn
     obtain ⟨s1, s2⟩ := zhp (ws := a.ws) (ws' := a.ws.set (X + 1) v) hrp (fun i i1 i2 => hoth i (hO i (by omega) (by omega)))
     rw [s1] at hj
     obtain ⟨t1, t2, t3, t4⟩ := s2 j hj
     rw [t1, t2, t3, t4]
     exact h.slO p hp hrp j hj
theorem Cyc.fwd_same (h : Cyc a S E F Od sn J L O) {t m : Int} (hm : isR t = true -> 0 <= m /\ (m.toNat ∈ L \/ m.toNat ∈ O)) : (zam S a t m).ws.length = a.ws.length /\ ∀ i, S <= i -> i < a.T -> za (zam S a t m).ws i = za a.ws i := by
 unfold zam
 split
 · rename_i g
   simp only [zd0, Bool.and_eq_true, Bool.not_eq_true', decide_eq_false_iff_not] at g
   obtain ⟨g1, g2, g3⟩ := g
   obtain ⟨m0, hmm⟩ := hm g1
   have hTE := h.TE
   have hE := h.hE
   refine ⟨zeq _ _ _ _, fun i i1 i2 => zhn (by omega) (fun e => ?_) (by omega)⟩
   omega
 · exact ⟨rfl, fun _ _ _ => rfl⟩
def zbb (S sn : Nat) (a : Cp) (j : Nat) : Cp :=
 ⟨(zam S a (rvT a.ws (zu a.ws sn j)) (rvN a.ws (zu a.ws sn j))).ws.set (zu a.ws sn j + 1) (IntKind.u64.wrap (zbf S a (rvT a.ws (zu a.ws sn j)) (rvN a.ws (zu a.ws sn j)))), (zam S a (rvT a.ws (zu a.ws sn j)) (rvN a.ws (zu a.ws sn j))).T, (zam S a (rvT a.ws (zu a.ws sn j)) (rvN a.ws (zu a.ws sn j))).C⟩
theorem Cyc.slot_ref (h : Cyc a S E F Od sn J L O) {p j : Nat} (hp : p ∈ L) (hj : j < zay a.ws p) : isR (rvT a.ws (zu a.ws p j)) = true -> 0 <= rvN a.ws (zu a.ws p j) /\ ((rvN a.ws (zu a.ws p j)).toNat ∈ L \/ (rvN a.ws (zu a.ws p j)).toNat ∈ O) := fun hr => by
 obtain ⟨u1, u2⟩ := h.slL p hp j hj
 have := zhs h.w64 u1 hr
 refine ⟨by omega, ?_⟩
 rcases u2 hr with g | g
 · exact .inl g
 · exact .inr g.2
theorem Cyc.slotG {jj J' : Nat} (h : Cyc a S E F Od sn J L O) (hs : sn ∈ L) (hJ : jj < zay a.ws sn) (hJ' : ∀ i, J <= i -> J' <= i \/ i = jj) :
 ∃ M, Cyc (zbb S sn a jj) S E F Od sn J' (L ++ M) O /\ za (zbb S sn a jj).ws sn = za a.ws sn /\ (zbb S sn a jj).ws.length = a.ws.length /\ a.T <= (zbb S sn a jj).T := by
 obtain ⟨q1, q2, q3⟩ := h.inL hs
 obtain ⟨x1, x2⟩ := ze2 q2 hJ
 unfold szA at q3
 have href := h.slot_ref hs hJ
 obtain ⟨M, hc, hv1, hv2⟩ := h.fwd href
 obtain ⟨hl, hsame⟩ := h.fwd_same href
 obtain ⟨X, hX⟩ : ∃ X, X = zu a.ws sn jj := ⟨_, rfl⟩
 obtain ⟨b, hb⟩ : ∃ b, b = zam S a (rvT a.ws (zu a.ws sn jj)) (rvN a.ws (zu a.ws sn jj)) := ⟨_, rfl⟩
 obtain ⟨v, hvv⟩ : ∃ v, v = zbf S a (rvT a.ws (zu a.ws sn jj)) (rvN a.ws (zu a.ws sn jj)) := ⟨_, rfl⟩
 have e : zbb S sn a jj = ⟨b.ws.set (X + 1) (IntKind.u64.wrap v), b.T, b.C⟩ := by rw [hX, hb, hvv]; rfl
 rw [e]
 rw [<- hb] at hc hl hsame
 rw [<- hvv] at hv1 hv2
 rw [<- hX] at hv1 hv2 x1 x2
 have hh : za b.ws sn = za a.ws sn := hsame sn q1 (by omega)
 have hXb : zu b.ws sn jj = X := by rw [hX]; simp [zu, hh]
 have hNb : zay b.ws sn = zay a.ws sn := by simp [zay, hh]
 have w1 := hsame X (by omega) (by omega)
 have w2 := hsame (X + 1) (by omega) (by omega)
 have ro : zav b.ws X = zav a.ws X := by simp only [zav, w1, w2]
 have rt : rvT b.ws X = rvT a.ws X := by simp only [rvT, ro, w1]
 have rn : rvN b.ws X = rvN a.ws X := by simp only [rvN, ro, w2]
 have := hc.layG (v := v) (by simp [hs]) (by rw [hNb]; exact hJ) hJ' (by rw [hXb, rt]; exact hv1) (by rw [hXb, rt, rn]; exact hv2)
 rw [hXb] at this
 refine ⟨M, this, ?_, by simpa using hl, ?_⟩
 · show za (b.ws.set (X + 1) (IntKind.u64.wrap v)) sn = _
   rw [zk0 (by omega), hh]
 · show a.T <= b.T
   rw [hb]
   unfold zam
   split
   · show a.T <= a.T + _; omega
   · exact Nat.le_refl _
theorem Cyc.slot (h : Cyc a S E F Od sn J L O) (hs : sn ∈ L) (hJ : J < zay a.ws sn) :
 ∃ M, Cyc (zbb S sn a J) S E F Od sn (J + 1) (L ++ M) O /\ za (zbb S sn a J).ws sn = za a.ws sn /\ (zbb S sn a J).ws.length = a.ws.length /\ a.T <= (zbb S sn a J).T := h.slotG hs hJ (fun i hi => by omega)
def zbs (S sn : Nat) (a : Cp) : Nat -> Cp
 | 0 => a
 | k + 1 => zbb S sn (zbs S sn a k) k
theorem Cyc.slots (h : Cyc a S E F Od sn 0 L O) (hs : sn ∈ L) : ∀ k, k <= zay a.ws sn -> ∃ M, Cyc (zbs S sn a k) S E F Od sn k (L ++ M) O /\ za (zbs S sn a k).ws sn = za a.ws sn /\ (zbs S sn a k).ws.length = a.ws.length /\ a.T <= (zbs S sn a k).T
 | 0, _ => ⟨[], by rw [List.append_nil]; exact h, rfl, rfl, Nat.le_refl _⟩
 | k + 1, hk => by
   obtain ⟨M, h1, h2, h3, h4⟩ := h.slots hs k (by omega)
   have hN : zay (zbs S sn a k).ws sn = zay a.ws sn := by simp [zay, h2]
   obtain ⟨M2, g1, g2, g3, g4⟩ := h1.slot (by simp [hs]) (by rw [hN]; omega)
   refine ⟨M ++ M2, ?_, ?_, ?_, ?_⟩
   · rw [<- List.append_assoc]; exact g1
   · exact g2.trans h2
   · exact g3.trans h3
   · exact Nat.le_trans h4 g4
theorem zn.next {nx : Nat -> Option Nat} {p q : Nat} {L : List Nat} (h : zn nx p q L) : ∀ x ∈ L, ∀ s, nx x = some s -> x + s + 1 = q \/ x + s + 1 ∈ L := by
 induction L generalizing p with
 | nil => intro x hx; simp at hx
 | cons a L ih =>
   obtain ⟨rfl, s, hs, t⟩ := h
   intro x hx s' hs'
   rcases List.mem_cons.1 hx with e1 | h1
   · subst e1
     rw [hs] at hs'
     cases hs'
     cases L with
     | nil => exact .inl (show q = _ from t).symm
     | cons b L =>
       obtain ⟨hb, _⟩ := t
       exact .inr (by simp [hb])
   · rcases ih t x h1 s' hs' with g | g
     · exact .inl g
     · exact .inr (by simp [g])
theorem Cyc.next (h : Cyc a S E F Od sn J L O) (hs : sn ∈ L) (hJ : zay a.ws sn <= J) : Cyc a S E F Od (sn + szA a.ws sn) 0 L O := by
 obtain ⟨q1, q2, q3⟩ := h.inL hs
 have hnx : nxA a.ws sn = some (rdS (za a.ws sn)).toNat := by unfold nxA; rw [if_pos q2]
 have e : sn + szA a.ws sn = sn + (rdS (za a.ws sn)).toNat + 1 := by unfold szA; omega
 refine ⟨h.use, h.oth, h.room, h.hE, h.hOd, h.ap, h.hS, h.hF, h.small, h.w64, ?_, fun p hp j hj => ?_, h.slO⟩
 · rw [e]
   rcases h.use.next sn hs _ hnx with g | g
   · exact .inl ⟨g, rfl⟩
   · exact .inr g
 · obtain ⟨u1, u2⟩ := h.slL p hp j hj
   refine ⟨u1, fun g => ?_⟩
   rcases u2 g with k | ⟨k1, k2⟩
   · exact .inl k
   · refine .inr ⟨?_, k2⟩
     have hlt : sn < p := by
      rcases k1 with k1 | ⟨rfl, k1⟩
      · exact k1
      · omega
     have := h.use.sep sn hs p hp hlt _ hnx
     rw [e]
     omega
def zcs (S sn : Nat) (a : Cp) : Cp := zbs S sn a (zay a.ws sn)
theorem Cyc.obj (h : Cyc a S E F Od sn 0 L O) (hs : sn ∈ L) :
 ∃ M, Cyc (zcs S sn a) S E F Od (sn + szA a.ws sn) 0 (L ++ M) O /\ (zcs S sn a).ws.length = a.ws.length /\ a.T <= (zcs S sn a).T := by
 obtain ⟨M, h1, h2, h3, h4⟩ := h.slots hs _ (Nat.le_refl _)
 have hN : zay (zbs S sn a (zay a.ws sn)).ws sn = zay a.ws sn := by unfold zay at h2 ⊢; rw [h2]
 have hz : szA (zbs S sn a (zay a.ws sn)).ws sn = szA a.ws sn := by simp [szA, h2]
 have := h1.next (by simp [hs]) (by rw [hN]; exact Nat.le_refl _)
 rw [hz] at this
 exact ⟨M, this, h3, h4⟩
theorem Cyc.scanT (h : Cyc a S E F Od sn J L O) : S <= sn /\ sn <= a.T /\ (sn ≠ a.T -> sn ∈ L) := by
 rcases h.sc with ⟨g, _⟩ | g
 · have := h.ST
   exact ⟨by omega, by omega, fun e => absurd g e⟩
 · have := h.inL g
   unfold szA at this
   exact ⟨by omega, by omega, fun _ => g⟩
end
def zbk (S : Nat) : Nat -> Cp -> Nat -> Nat -> Cp × Nat
 | 0, a, _, n => (a, n)
 | d + 1, a, sn, n => if sn = a.T then (a, n) else zbk S d (zcs S sn a) (sn + szA a.ws sn) (n + 1)
theorem ze1 (S : Nat) : ∀ (d : Nat) (a : Cp) (sn n : Nat), sn = a.T -> zbk S d a sn n = (a, n)
 | 0, a, sn, n, h => rfl
 | d + 1, a, sn, n, h => by simp [zbk, h]
theorem zf8 {S d : Nat} {a : Cp} {sn n : Nat} (h : sn ≠ a.T) : zbk S (d + 1) a sn n = zbk S d (zcs S sn a) (sn + szA a.ws sn) (n + 1) := by simp [zbk, h]
theorem zjn (ws : List Int) (p : Nat) : 1 <= szA ws p := by unfold szA; omega
theorem Cyc.run {S E F Od : Nat} {O : List Nat} : ∀ (d : Nat) {a : Cp} {sn : Nat} {L : List Nat} (n : Nat), Cyc a S E F Od sn 0 L O -> E <= sn + d ->
 ∃ M, Cyc (zbk S d a sn n).1 S E F Od (zbk S d a sn n).1.T 0 (L ++ M) O /\ (zbk S d a sn n).1.ws.length = a.ws.length /\ (zbk S d a sn n).2 <= n + (E - sn)
 | 0, a, sn, L, n, h, hd => by
   have h1 := h.scanT
   have h2 := h.TE
   obtain rfl : sn = a.T := by omega
   exact ⟨[], by simpa [zbk] using h, rfl, by simp [zbk]⟩
 | d + 1, a, sn, L, n, h, hd => by
   by_cases e : sn = a.T
   · subst e
     rw [ze1 _ _ _ _ _ rfl]
     exact ⟨[], by simpa using h, rfl, by simp⟩
   · rw [zf8 e]
     obtain ⟨M, h1, h2, h3⟩ := h.obj (h.scanT.2.2 e)
     have := zjn a.ws sn
     obtain ⟨M2, g1, g2, g3⟩ := Cyc.run d (n + 1) h1 (by omega)
     have h4 := h.scanT
     have h5 := h.TE
     refine ⟨M ++ M2, by rw [<- List.append_assoc]; exact g1, g2.trans h2, by omega⟩
def zag (S : Nat) (a : Cp) (y : Nat -> Int) : Nat -> Cp × (Nat -> Int)
 | 0 => (a, y)
 | k + 1 => (zam S (zag S a y k).1 ((zag S a y k).2 (2 * k)) ((zag S a y k).2 (2 * k + 1)), zh1 (zag S a y k).2 k ((zag S a y k).2 (2 * k)) (zbf S (zag S a y k).1 ((zag S a y k).2 (2 * k)) ((zag S a y k).2 (2 * k + 1))))
theorem zv6 (S : Nat) (a : Cp) (t m : Int) : (zam S a t m).C + a.T = (zam S a t m).T + a.C := by
 unfold zam
 split
 · show a.C + _ + a.T = a.T + _ + a.C; omega
 · omega
def zh5 (y : Nat -> Int) (k : Nat) (L : List Nat) : Prop := ∀ i, i < k -> isR (y (2 * i)) = true -> 0 <= y (2 * i + 1) /\ (y (2 * i + 1)).toNat ∈ L
theorem zvk {y : Nat -> Int} {r : Nat} {t n : Int} : zh1 y r t n (2 * r) = t /\ zh1 y r t n (2 * r + 1) = n := by
 refine ⟨by simp [zh1], ?_⟩
 unfold zh1
 rw [if_neg (by omega), if_pos rfl]
theorem zjo {y : Nat -> Int} {r i : Nat} {t n : Int} (h : i ≠ r) : zh1 y r t n (2 * i) = y (2 * i) /\ zh1 y r t n (2 * i + 1) = y (2 * i + 1) := by
 unfold zh1
 refine ⟨by rw [if_neg (by omega), if_neg (by omega)], by rw [if_neg (by omega), if_neg (by omega)]⟩
theorem Cyc.roots {a : Cp} {S E F Od sn : Nat} {L O : List Nat} (h : Cyc a S E F Od sn 0 L O) {y : Nat -> Int} {rl : Nat} (hy : zh5 y rl O) : ∀ k, k <= rl ->
 ∃ M, Cyc (zag S a y k).1 S E F Od sn 0 (L ++ M) O /\ zh5 (zag S a y k).2 k (L ++ M) /\ (∀ i, k <= i -> (zag S a y k).2 (2 * i) = y (2 * i) /\ (zag S a y k).2 (2 * i + 1) = y (2 * i + 1)) /\ (zag S a y k).1.ws.length = a.ws.length
 | 0, _ => ⟨[], by rw [List.append_nil]; exact h, fun i hi => by omega, fun i _ => ⟨rfl, rfl⟩, rfl⟩
 | k + 1, hk => by
   obtain ⟨M, h1, h2, h3, h4⟩ := h.roots hy k (by omega)
   have hk3 := h3 k (Nat.le_refl _)
   have href : isR ((zag S a y k).2 (2 * k)) = true -> 0 <= (zag S a y k).2 (2 * k + 1) /\ (((zag S a y k).2 (2 * k + 1)).toNat ∈ L ++ M \/ ((zag S a y k).2 (2 * k + 1)).toNat ∈ O) := fun g => by
    rw [hk3.1] at g
    rw [hk3.2]
    have := hy k (by omega) g
    exact ⟨this.1, .inr this.2⟩
   obtain ⟨M2, g1, g2, g3⟩ := h1.fwd href
   obtain ⟨l1, _⟩ := h1.fwd_same href
   refine ⟨M ++ M2, by rw [<- List.append_assoc]; exact g1, fun i hi hr => ?_, fun i hi => ?_, l1.trans h4⟩
   · by_cases e : i = k
     · subst e
       have hp := zvk (y := (zag S a y i).2) (r := i) (t := (zag S a y i).2 (2 * i)) (n := zbf S (zag S a y i).1 ((zag S a y i).2 (2 * i)) ((zag S a y i).2 (2 * i + 1)))
       simp only [zag] at hr ⊢
       rw [hp.1] at hr
       rw [hp.2, <- List.append_assoc]
       exact g2 hr
     · have hp := zjo (y := (zag S a y k).2) (r := k) (i := i) (t := (zag S a y k).2 (2 * k)) (n := zbf S (zag S a y k).1 ((zag S a y k).2 (2 * k)) ((zag S a y k).2 (2 * k + 1))) e
       simp only [zag] at hr ⊢
       rw [hp.1] at hr
       rw [hp.2]
       have := h2 i (by omega) hr
       exact ⟨this.1, by rw [<- List.append_assoc]; simp only [List.mem_append] at this ⊢; exact .inl this.2⟩
   · have hp := zjo (y := (zag S a y k).2) (r := k) (i := i) (t := (zag S a y k).2 (2 * k)) (n := zbf S (zag S a y k).1 ((zag S a y k).2 (2 * k)) ((zag S a y k).2 (2 * k + 1))) (by omega)
     simp only [zag]
     rw [hp.1, hp.2]
     exact h3 i (by omega)
structure zp5 (ws : List Int) (S T E : Nat) (L : List Nat) : Prop where
 use : zn (nxA ws) S T L
 hT : T <= E
 hE : E <= ws.length
 hS : 1 <= S
 small : ws.length <= 1048576
 w64 : zg ws
 slL : ∀ p ∈ L, ∀ j, j < zay ws p -> zav ws (zu ws p j) = true /\ (isR (rvT ws (zu ws p j)) = true -> (rvN ws (zu ws p j)).toNat ∈ L)
theorem Cyc.still {a : Cp} {S E F Od : Nat} {L O : List Nat} (h : Cyc a S E F Od a.T 0 L O) : zp5 a.ws S a.T E L :=
 ⟨h.use, h.TE, h.hE, h.hS, h.small, h.w64, fun p hp j hj => by
  obtain ⟨u1, u2⟩ := h.slL p hp j hj
  refine ⟨u1, fun g => ?_⟩
  rcases u2 g with k | ⟨k1, _⟩
  · exact k
  · have := h.inL hp
    unfold szA at this
    omega⟩
theorem zp6 {ws : List Int} {p q : Nat} {L : List Nat} (h : zn (nxA ws) p q L) : p + zbo ws L = q := by
 refine zn.ind (motive := fun p L => p + zbo ws L = q) (by simp [zbo]) (fun {p s L} hs t ih => ?_) h
 obtain ⟨g1, rfl⟩ := zix hs
 have e : zbo ws (p :: L) = szA ws p + zbo ws L := by simp [zbo, g1]
 rw [e]
 unfold szA
 omega
theorem zp5.flip {ws : List Int} {S T E : Nat} {L : List Nat} (h : zp5 ws S T E L) {S' E' : Nat} (h1 : E' <= S \/ T <= S') (h2 : S' + (T - S) <= E') (h3 : E' <= ws.length) (h4 : 1 <= S') : Cyc ⟨ws, S', 0⟩ S' E' S T S' 0 [] L := by
 have hl := zp6 h.use
 refine ⟨zn.nil _, h.use.mono fun x hx s hs => ?_, ?_, h3, by have := h.hT; have := h.hE; show T <= ws.length; omega, h1, h4, h.hS, h.small, h.w64, .inl ⟨rfl, rfl⟩, fun p hp => by simp at hp, fun p hp hr j hj => h.slL p hp j hj⟩
 · obtain ⟨g1, rfl⟩ := zix hs
   unfold nxB
   rw [if_pos g1]
 · show S' + zbo ws L <= E'
   omega
theorem zwe {ws : List Int} {sr : Int} {x s : Nat} (h : nx1 ws sr x = some s) : nxA ws x = some s := by
 obtain ⟨g1, _, g3⟩ := zc8 h
 unfold nxA
 rw [if_pos g1, g3]
theorem zwf {ws : List Int} {sr : Int} {U : List Nat} {x s : Nat} (h : nx2 ws sr U x = some s) : nxB ws U x = some s := by
 cases hr : zx (za ws x) with
 | true =>
   obtain ⟨_, g⟩ := zg0 h hr
   unfold nxB
   rw [if_pos hr, g]
 | false =>
   obtain ⟨g1, g2, g3⟩ := zfd h hr
   unfold nxB
   rw [if_neg (by simp [hr]), if_pos ⟨g1, g2⟩, g3]
theorem zp7 {ws : List Int} {U : List Nat} {p q : Nat} {O : List Nat} (h : zn (nxB ws U) p q O) : p + zbo ws O + zab ws O = q := by
 refine zn.ind (motive := fun p O => p + zbo ws O + zab ws O = q) (by simp [zbo, zab]) (fun {p s O} hs t ih => ?_) h
 rcases zgx hs with ⟨g1, rfl⟩ | ⟨g1, g2, g3, rfl⟩
 · have e1 : zbo ws (p :: O) = szA ws p + zbo ws O := by simp [zbo, g1]
   have e2 : zab ws (p :: O) = zab ws O := by simp [zab, zak, g1]
   rw [e1, e2]
   unfold szA
   omega
 · have e1 : zbo ws (p :: O) = zbo ws O := by simp [zbo, g1]
   have e2 : zab ws (p :: O) = (rdS (za ws (zt ws p))).toNat + 1 + zab ws O := by simp [zab, zak, g1, g2]
   rw [e1, e2]
   omega
theorem zp8 {ws : List Int} {L O : List Nat} {i : Nat} (h : mk2 ws L O i = 1) : i ∈ L := by
 unfold mk2 at h
 split at h
 · split at h <;> simp at h
 · split at h
   · assumption
   · simp at h
theorem zvb {ws : List Int} {L O : List Nat} {i : Nat} (h : mk2 ws L O i = 2 \/ mk2 ws L O i = 3) : i ∈ O := by
 unfold mk2 at h
 split at h
 · assumption
 · split at h <;> simp at h
theorem zmc {mu : Int} (h : zbg mu 1 = true) : mu = 1 := by simpa [zbg] using h
theorem zt4 {mu : Int} (h : zbg mu 2 = true) : mu = 1 \/ mu = 2 \/ mu = 3 := by simpa [zbg] using h
theorem zp9 {mu : Int} (h : zbg mu 3 = true) : mu = 2 \/ mu = 3 := by simpa [zbg] using h
section
variable {ws : List Int} {sm toh top : Int} {sn old cp sr : Int} {y : Nat -> Int} {rl : Nat} {S T E F : Nat}
theorem zsh {sc Od C : Nat} (hw : zg ws) (hok : zc9 ws sm toh top true sn old cp sr y rl) (hS : toh * sm + 1 = S) (hT : top = T) (hE : (toh + 1) * sm = E) (hF : (1 - toh) * sm + 1 = F) (hO : old = Od) (hsc : sn = sc) (hC : cp = C) :
 ∃ L O, Cyc ⟨ws, T, C⟩ S E F Od sc 0 L O /\ zh5 y rl L := by
 obtain ⟨s0, s1, hl, t0, t1, hrl, h1, h2, hold⟩ := zen hok.1
 obtain ⟨g1, g2, g3, g4, g5⟩ := zd9 s0 s1 hl t0 t1 h1 h2
 obtain ⟨L, O, ht, _, hobj, _, hroots⟩ := hok.2
 have eS : (toh * sm + 1).toNat = S := by omega
 have eT : top.toNat = T := by omega
 have eF : ((1 - toh) * sm + 1).toNat = F := by omega
 rw [eS, eT, eF] at ht
 have hlaid := zvl hok (S := S) (T := T) (F := F) hS hT hF ht
 obtain ⟨r1, r2, r3, r4⟩ := ht.runs rfl
 have eO : old.toNat = Od := by omega
 rw [eO] at r1
 obtain ⟨a, b⟩ := hold rfl
 obtain ⟨o1, o2⟩ := g5 old a b
 have h3 : zev sm toh top old cp = true := by
  have := hok.1
  unfold zci at this
  simp only [if_true, Bool.and_eq_true] at this
  exact this.2
 have h3' := of_decide_eq_true h3
 unfold zb4 at h3'
 have hlen : E <= ws.length /\ (E <= F \/ Od <= S) := by
  have hc : toh = 0 \/ toh = 1 := by omega
  rcases hc with rfl | rfl <;> omega
 have hboth := r1.mono (nx' := nxB ws L) fun x _ s hs => zwf hs
 have hsum := zp7 hboth
 refine ⟨L, O, ⟨ht.use.mono fun x _ s hs => zwe hs, hboth, ?_, hlen.1, by show Od <= ws.length; omega, hlen.2, by omega, by omega, by show ws.length <= _; omega, hw, ?_, fun p hp j hj => ?_, fun p hp hr j hj => ?_⟩, fun i hi hr => ?_⟩
 · show T + zbo ws O <= E
   omega
 · rcases r4 with g | ⟨_, _, g⟩
   · exact .inl ⟨by show sc = T; omega, rfl⟩
   · right
     have : sn.toNat = sc := by omega
     rw [this] at g
     exact g
 · have hm : mk2 ws L O p = 1 := zfq hp (hlaid.inL hp).2.2.2
   have hpl : p < ws.length := by have := hlaid.inL hp; omega
   have ho := (hobj p hpl (.inl hm)).1 j hj
   refine ⟨ho.1, fun g => ?_⟩
   have hf := (ho.2.1 g).2.1
   by_cases hps : sn <= p
   · have hfr : zbw (mk2 ws L O) true sn p = 2 := by simp [zbw, hm, hps]
     rw [hfr] at hf
     rcases zt4 hf with k | k
     · exact .inl (zp8 k)
     · exact .inr ⟨by omega, zvb k⟩
   · have hfr : zbw (mk2 ws L O) true sn p = 1 := by simp [zbw, hm, hps]
     rw [hfr] at hf
     exact .inl (zp8 (zmc hf))
 · have hpO := hlaid.inO hp
   have hfw : zak ws p = false := zh8 hr
   have hm : mk2 ws L O p = 2 := by simp [mk2, hp, hfw]
   have ho := (hobj p hpO.2.2.1 (.inr hm)).1 j hj
   have hfr : zbw (mk2 ws L O) true sn p = 3 := by simp [zbw, hm]
   rw [hfr] at ho
   exact ⟨ho.1, fun g => zvb (zp9 (ho.2.1 g).2.1)⟩
 · obtain ⟨hv, _, hlead⟩ := hroots i hi
   have hm0 : 0 < y (2 * i + 1) := by
    have h3 := of_decide_eq_true hv
    have h4 := of_decide_eq_true hr
    omega
   exact ⟨by omega, zp8 (zmc (hlead hr).2.1)⟩
end
end Go.Proofs.YtaapiedminakcaaGreat
