/- - -/
import Derived.Test.YtglolopfeambfaaGreatWLawC
namespace Go.Proofs.YtglolopfeambfaaGreat
set_option maxRecDepth 20000
open Go.RowKit
set_option linter.unusedSimpArgs false
set_option linter.unusedVariables false
theorem zpj {ws : List Int} {smz toh top : Int} {cyc : Bool} {sn old cpz sr : Int} {y : Nat -> Int} {rl S T F : Nat} {L O : List Nat} (hok : zdt ws smz toh top cyc sn old cpz sr y rl) (hS : toh * smz + 1 = S) (hT : top = T) (hF : (1 - toh) * smz + 1 = F) (ht : zay ws sr S T cyc F old cpz sn L O) : zao ws sr S T cyc F old cpz sn L O := by
 obtain ⟨s0, s1, hl, t0, t1, hrl, h1, h2, hold⟩ := zdc hok.1
 obtain ⟨g1, g2, g3, g4, g5⟩ := zd2 s0 s1 hl t0 t1 h1 h2
 refine ⟨ht, fun hc => ?_, by omega, by omega, by omega, fun hc => ?_⟩
 · obtain ⟨a, b⟩ := hold hc
   have := g5 old a b
   omega
 · obtain ⟨a, b⟩ := hold hc
   exact (g5 old a b).1
open Go.RowKit Go.Maps
def zc1 (L : List Nat) : List Value := L.map fun p : Nat => Value.int .i64 (p : Int)
theorem zef {B : Nat} {w : World} {v : Value} {L : List Nat} (h : w.ownsRow B 3 1 v L.length (zc1 L)) : za0 B w.heap.size 3 w v L.length L.length (fun i => .int .i64 ((L.getD i 0 : Nat) : Int)) := by
 obtain ⟨_, ⟨rfl, h0⟩ | ⟨g, cap, cur, rfl, hB, hg, hn, hm, hs, ht⟩⟩ := h
 · have : L = [] := List.eq_nil_of_length_eq_zero h0
   subst this
   exact ⟨none, 0, rfl, .inl rfl⟩
 · refine ⟨_, cap, rfl, .inr ⟨g, cur.size, fun i => cur.getD i (.int .i64 0), rfl, hB, ?_, by omega, ?_, fun i hi => ?_⟩⟩
   · exact (Array.getElem?_eq_some_iff.1 hg).1
   · exact ⟨cur, hg, rfl, fun i hi => by simp [hi]⟩
   · have h1 : (cur.toList.take (L.length * 1))[i]? = some (.int .i64 ((L.getD i 0 : Nat) : Int)) := by rw [ht]; simp [zc1, hi]
     rw [List.getElem?_take_of_lt (by omega)] at h1
     have h2 : cur[i]? = some (.int .i64 ((L.getD i 0 : Nat) : Int)) := by simpa using h1
     simp [Array.getD_eq_getD_getElem?, h2]
theorem zvq {x : Int} (h : zah x = true) : 1 <= rdS x := by
 have h2 := zc9 h
 rcases zba h2 with g | g | g | g | g | g <;> omega
theorem zpi {ws : List Int} {smz toh top : Int} {cyc : Bool} {sn old cpz sr : Int} {y : Nat -> Int} {rl : Nat} (hw : ze ws) (hok : zdt ws smz toh top cyc sn old cpz sr y rl) {i : Nat} (hi : i < rl) (hr : isR (y (2 * i)) = true) :
 ∃ p : Nat, y (2 * i + 1) = (p : Int) /\ zah (za ws p) = true /\ rdK (za ws p) = zaz (y (2 * i)) /\ p + 1 < ws.length /\ zh ws p = p /\ (y (2 * i) = 3 -> zfu ws p) := by
 obtain ⟨s0, s1, hl, t0, t1, hrl, h1, h2, hold⟩ := zdc hok.1
 obtain ⟨g1, g2, g3, g4, g5⟩ := zd2 s0 s1 hl t0 t1 h1 h2
 obtain ⟨L, O, ht, _, hobj, _, hroots⟩ := hok.2
 have hlaid := zpj hok (S := (toh * smz + 1).toNat) (T := top.toNat) (F := ((1 - toh) * smz + 1).toNat) (by omega) (by omega) (by omega) ht
 have hk := ht.known hlaid.Tn hlaid.On hlaid.ap hobj
 obtain ⟨hv, _, hlead⟩ := hroots i hi
 obtain ⟨hm, hfr, hkd⟩ := hlead hr
 have hm0 : 0 < y (2 * i + 1) := by
  have h3 := of_decide_eq_true hv
  have h4 := of_decide_eq_true hr
  omega
 have hmk : mk2 ws L O (y (2 * i + 1)).toNat = 1 := by
  unfold zbz at hfr
  simp at hfr
  exact hfr
 have hob : zbb (mk2 ws L O) (y (2 * i + 1)).toNat := .inl hmk
 obtain ⟨hrd, hin⟩ := hk.within _ hob
 have hle := zbx hrd
 have hpos := zvq hrd
 rw [hle, Int.toNat_natCast] at hkd
 refine ⟨(y (2 * i + 1)).toNat, by omega, hrd, hkd, by omega, hle, fun h3 => ?_⟩
 refine hk.text hw hob ?_
 rw [h3] at hkd
 simpa [zaz] using hkd
def zax (ws : List Int) (todo : List Nat) (t m : Int) : List Nat :=
 if isR t = true then (if (zh ws m.toNat).toNat ∈ todo then todo else todo ++ [(zh ws m.toNat).toNat]) else todo
def zag (ws : List Int) (f : Nat -> Int × Int) : Nat -> List Nat -> List Nat
 | 0, todo => todo
 | k + 1, todo => zax ws (zag ws f k todo) (f k).1 (f k).2
def zc0 (ws : List Int) (p j : Nat) : Nat := p + (fs (rdK (za ws p)) + 2 * (j : Int)).toNat
def zdp (ws : List Int) (p : Nat) (j : Nat) : Int × Int := (rvT ws (zc0 ws p j), rvN ws (zc0 ws p j))
def zf2 (ws : List Int) (p : Nat) (todo : List Nat) : List Nat := zag ws (zdp ws p) (slN (rdK (za ws p)) (rdS (za ws p))) todo
def bfs (ws : List Int) : Nat -> Nat -> List Nat -> List Nat
 | 0, _, todo => todo
 | d + 1, i, todo => if i < todo.length then bfs ws d (i + 1) (zf2 ws (todo.getD i 0) todo) else todo
def Bfs (ws : List Int) (i : Nat) (todo R : List Nat) : Prop := bfs ws (ws.length - i) i todo = R
theorem Bfs.done {ws : List Int} {i : Nat} {todo R : List Nat} (h : Bfs ws i todo R) (hi : ¬ i < todo.length) : R = todo := by
 unfold Bfs at h
 cases hd : ws.length - i with
 | zero => rw [hd] at h; exact h.symm
 | succ d => rw [hd] at h; simp only [bfs, if_neg hi] at h; exact h.symm
theorem Bfs.step {ws : List Int} {i : Nat} {todo R : List Nat} (h : Bfs ws i todo R) (hi : i < todo.length) (hl : todo.length <= ws.length) : Bfs ws (i + 1) (zf2 ws (todo.getD i 0) todo) R := by
 unfold Bfs at h ⊢
 obtain ⟨d, hd⟩ : ∃ d, ws.length - i = d + 1 := ⟨ws.length - i - 1, by omega⟩
 rw [hd] at h
 simp only [bfs, if_pos hi] at h
 rw [show ws.length - (i + 1) = d by omega]
 exact h
theorem zno {n : Nat} : ∀ {l : List Nat}, l.Nodup -> (∀ x ∈ l, x < n) -> l.length <= n := by
 induction n with
 | zero =>
   intro l _ h
   cases l with
   | nil => simp
   | cons x l => exact absurd (h x (by simp)) (by omega)
 | succ n ih =>
   intro l hn h
   by_cases hm : n ∈ l
   · have h1 := List.length_erase_of_mem hm
     have h2 : (l.erase n).length <= n := ih (hn.erase n) (fun x hx => by
      have h3 := (List.Nodup.mem_erase_iff hn).1 hx
      have h4 := h x h3.2
      have := h3.1
      omega)
     have h5 : 0 < l.length := List.length_pos_of_mem hm
     omega
   · have := ih hn (fun x hx => by
      have h4 := h x hx
      have : x ≠ n := fun e => hm (e ▸ hx)
      omega)
     omega
def zb0 (mk : Nat -> Int) (todo : List Nat) : Prop := todo.Nodup /\ ∀ p ∈ todo, zbb mk p
theorem zj7 {mk : Nat -> Int} {ws : List Int} {todo : List Nat} {t m : Int} (h : zb0 mk todo) (hv : isR t = true -> zbb mk (zh ws m.toNat).toNat) : zb0 mk (zax ws todo t m) := by
 unfold zax
 split
 · rename_i hr
   split
   · exact h
   · rename_i hm
     refine ⟨List.nodup_append.2 ⟨h.1, by simp, fun a ha b hb => ?_⟩, fun p hp => ?_⟩
     · simp at hb
       subst hb
       exact fun e => hm (e ▸ ha)
     · rcases List.mem_append.1 hp with hp | hp
       · exact h.2 p hp
       · simp at hp
         subst hp
         exact hv hr
 · exact h
theorem zeu {mk : Nat -> Int} {ws : List Int} {f : Nat -> Int × Int} : ∀ (k : Nat) {todo : List Nat}, zb0 mk todo -> (∀ j, j < k -> isR (f j).1 = true -> zbb mk (zh ws (f j).2.toNat).toNat) -> zb0 mk (zag ws f k todo)
 | 0, _, h, _ => h
 | k + 1, _, h, hv => zj7 (zeu k h fun j hj => hv j (by omega)) (hv k (by omega))
theorem ztg (ws : List Int) (todo : List Nat) (t m : Int) : ∃ l, zax ws todo t m = todo ++ l := by
 unfold zax
 split
 · split
   · exact ⟨[], by simp⟩
   · exact ⟨_, rfl⟩
 · exact ⟨[], by simp⟩
theorem zgc (ws : List Int) (f : Nat -> Int × Int) : ∀ (k : Nat) (todo : List Nat), ∃ l, zag ws f k todo = todo ++ l
 | 0, todo => ⟨[], by simp [zag]⟩
 | k + 1, todo => by
   obtain ⟨l, hl⟩ := zgc ws f k todo
   obtain ⟨l2, hl2⟩ := ztg ws (zag ws f k todo) (f k).1 (f k).2
   exact ⟨l ++ l2, by show zax ws (zag ws f k todo) (f k).1 (f k).2 = _; rw [hl2, hl]; simp⟩
theorem ze4 {mk : Nat -> Int} {ws : List Int} {cyc : Bool} {sn : Int} (h : zbw mk ws cyc sn) {p : Nat} (hp : zbb mk p) (hpn : p < ws.length) : ∀ j, j < slN (rdK (za ws p)) (rdS (za ws p)) -> isR (zdp ws p j).1 = true -> zbb mk (zh ws (zdp ws p j).2.toNat).toNat := fun j hj hr => by
 have ho := (h.objs p hpn hp).1 j hj
 have hl := ho.2.1 hr
 exact h.leads _ (zb2 hl.2.1)
theorem zf3 {mk : Nat -> Int} {ws : List Int} {cyc : Bool} {sn : Int} (h : zbw mk ws cyc sn) {p : Nat} (hp : zbb mk p) : p < ws.length := by
 have := (h.within p hp).2
 omega
theorem zlr {mk : Nat -> Int} {ws : List Int} {cyc : Bool} {sn : Int} (h : zbw mk ws cyc sn) {p : Nat} (hp : zbb mk p) {todo : List Nat} (ht : zb0 mk todo) : zb0 mk (zf2 ws p todo) :=
 zeu _ ht (ze4 h hp (zf3 h hp))
theorem znp {mk : Nat -> Int} {ws : List Int} {cyc : Bool} {sn : Int} (h : zbw mk ws cyc sn) : ∀ (d i : Nat) {todo : List Nat}, zb0 mk todo -> zb0 mk (bfs ws d i todo)
 | 0, _, _, ht => ht
 | d + 1, i, todo, ht => by
   simp only [bfs]
   split
   · rename_i hlt
     exact znp h d (i + 1) (zlr h (ht.2 _ (by simp [hlt])) ht)
   · exact ht
theorem zee {mk : Nat -> Int} {ws : List Int} {cyc : Bool} {sn : Int} (h : zbw mk ws cyc sn) {todo : List Nat} (ht : zb0 mk todo) : todo.length <= ws.length := zno ht.1 (fun x hx => zf3 h (ht.2 x hx))
def zb9 (ws : List Int) (l : List Nat) : Int := l.foldl (fun s p => s + rdS (za ws p) + 1) 0
theorem zk8 (ws : List Int) (l : List Nat) (p : Nat) : zb9 ws (l ++ [p]) = zb9 ws l + rdS (za ws p) + 1 := by simp [zb9]
theorem zj8 (ws : List Int) (l : List Nat) : 0 <= zb9 ws l /\ zb9 ws l <= 257 * l.length := by
 have h : ∀ (l : List Nat) (s : Int), 0 <= s -> 0 <= l.foldl (fun s p => s + rdS (za ws p) + 1) s /\ l.foldl (fun s p => s + rdS (za ws p) + 1) s <= s + 257 * l.length := by
  intro l
  induction l with
  | nil => intro s hs; simp; exact hs
  | cons p l ih =>
    intro s hs
    have := za2 (za ws p)
    have h2 := ih (s + rdS (za ws p) + 1) (by omega)
    simp only [List.foldl_cons, List.length_cons]
    refine ⟨h2.1, ?_⟩
    have := h2.2
    push_cast
    omega
 have := h l 0 (by omega)
 unfold zb9
 omega
theorem zu3 {ws : List Int} {smz toh top : Int} {cyc : Bool} {sn old cpz sr : Int} {y : Nat -> Int} {rl : Nat} (hok : zdt ws smz toh top cyc sn old cpz sr y rl) :
 ∃ mk, zbw mk ws cyc sn /\ ∀ i, i < rl -> isR (y (2 * i)) = true -> zbb mk (zh ws (y (2 * i + 1)).toNat).toNat := by
 obtain ⟨s0, s1, hl, t0, t1, hrl, h1, h2, hold⟩ := zdc hok.1
 obtain ⟨g1, g2, g3, g4, g5⟩ := zd2 s0 s1 hl t0 t1 h1 h2
 obtain ⟨L, O, ht, _, hobj, _, hroots⟩ := hok.2
 have hlaid := zpj hok (S := (toh * smz + 1).toNat) (T := top.toNat) (F := ((1 - toh) * smz + 1).toNat) (by omega) (by omega) (by omega) ht
 have hk := ht.known hlaid.Tn hlaid.On hlaid.ap hobj
 refine ⟨mk2 ws L O, hk, fun i hi hr => ?_⟩
 obtain ⟨_, _, hlead⟩ := hroots i hi
 exact hk.leads _ (zb2 (hlead hr).2.1)
def zbf (y : Nat -> Int) (i : Nat) : Int × Int := (y (2 * i), y (2 * i + 1))
theorem zj9 {ws : List Int} {smz toh top : Int} {cyc : Bool} {sn old cpz sr : Int} {y : Nat -> Int} {rl : Nat} (hok : zdt ws smz toh top cyc sn old cpz sr y rl) :
 ∃ mk R, zbw mk ws cyc sn /\ Bfs ws 0 (zag ws (zbf y) rl []) R /\ zb0 mk R /\ zb0 mk (zag ws (zbf y) rl []) := by
 obtain ⟨mk, hk, hr⟩ := zu3 hok
 have hc := zeu (mk := mk) (ws := ws) (f := zbf y) rl (todo := []) ⟨by simp, by simp⟩ hr
 exact ⟨mk, _, hk, rfl, znp hk _ 0 hc, hc⟩
end Go.Proofs.YtglolopfeambfaaGreat
