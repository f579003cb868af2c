/- - -/
import Derived.Test.YtmckcnmlhgpnhaaGreatPLookS
namespace Go.Proofs.YtmckcnmlhgpnhaaGreat
set_option maxRecDepth 20000
open Go.RowKit
set_option linter.unusedSimpArgs false
set_option linter.unusedVariables false
def zbd (ws : List Int) (todo : List Nat) (t m : Int) : List Nat :=
 if isR t = true then (if (zh ws m.toNat).toNat ∈ todo then todo else todo ++ [(zh ws m.toNat).toNat]) else todo
def zbe (ws : List Int) (f : Nat -> Int × Int) : Nat -> List Nat -> List Nat
 | 0, todo => todo
 | k + 1, todo => zbd ws (zbe ws f k todo) (f k).1 (f k).2
def zcp (ws : List Int) (p j : Nat) : Nat := p + (fs (rdK (za ws p)) + 2 * (j : Int)).toNat
def zcy (ws : List Int) (p : Nat) (j : Nat) : Int × Int := (rvT ws (zcp ws p j), rvN ws (zcp ws p j))
def zfd (ws : List Int) (p : Nat) (todo : List Nat) : List Nat := zbe ws (zcy ws p) (slN (rdK (za ws p)) (rdS (za ws p))) todo
def bfs (ws : List Int) : Nat -> Nat -> List Nat -> List Nat
 | 0, _, todo => todo
 | d + 1, i, todo => if i < todo.length then bfs ws d (i + 1) (zfd ws (todo.getD i 0) todo) else todo
def Bfs (ws : List Int) (i : Nat) (todo R : List Nat) : Prop := bfs ws (ws.length - i) i todo = R
theorem Bfs.done {ws : List Int} {i : Nat} {todo R : List Nat} (h : Bfs ws i todo R) (hi : ¬ i < todo.length) : R = todo := by
 unfold Bfs at h
 cases hd : ws.length - i with
 | zero => rw [hd] at h; exact h.symm
 | succ d => rw [hd] at h; simp only [bfs, if_neg hi] at h; exact h.symm
theorem Bfs.step {ws : List Int} {i : Nat} {todo R : List Nat} (h : Bfs ws i todo R) (hi : i < todo.length) (hl : todo.length <= ws.length) : Bfs ws (i + 1) (zfd ws (todo.getD i 0) todo) R := by
 unfold Bfs at h ⊢
 obtain ⟨d, hd⟩ : ∃ d, ws.length - i = d + 1 := ⟨ws.length - i - 1, by omega⟩
 rw [hd] at h
 simp only [bfs, if_pos hi] at h
 rw [show ws.length - (i + 1) = d by omega]
 exact h
theorem zkt {n : Nat} : ∀ {l : List Nat}, l.Nodup -> (∀ x ∈ l, x < n) -> l.length <= n := by
 induction n with
 | zero =>
   intro l _ h
   cases l with
   | nil => simp
   | cons x l => exact absurd (h x (by simp)) (by omega)
 | succ n ih =>
   intro l hn h
   by_cases hm : n ∈ l
   · have h1 := List.length_erase_of_mem hm
     have h2 : (l.erase n).length <= n := ih (hn.erase n) (fun x hx => by
      have h3 := (List.Nodup.mem_erase_iff hn).1 hx
      have h4 := h x h3.2
      have := h3.1
      omega)
     have h5 : 0 < l.length := List.length_pos_of_mem hm
     omega
   · have := ih hn (fun x hx => by
      have h4 := h x hx
      have : x ≠ n := fun e => hm (e ▸ hx)
      omega)
     omega
def za9 (mk : Nat -> Int) (todo : List Nat) : Prop := todo.Nodup /\ ∀ p ∈ todo, za5 mk p
theorem zij {mk : Nat -> Int} {ws : List Int} {todo : List Nat} {t m : Int} (h : za9 mk todo) (hv : isR t = true -> za5 mk (zh ws m.toNat).toNat) : za9 mk (zbd ws todo t m) := by
 unfold zbd
 split
 · rename_i hr
   split
   · exact h
   · rename_i hm
     refine ⟨List.nodup_append.2 ⟨h.1, by simp, fun a ha b hb => ?_⟩, fun p hp => ?_⟩
     · simp at hb
       subst hb
       exact fun e => hm (e ▸ ha)
     · rcases List.mem_append.1 hp with hp | hp
       · exact h.2 p hp
       · simp at hp
         subst hp
         exact hv hr
 · exact h
theorem zef {mk : Nat -> Int} {ws : List Int} {f : Nat -> Int × Int} : ∀ (k : Nat) {todo : List Nat}, za9 mk todo -> (∀ j, j < k -> isR (f j).1 = true -> za5 mk (zh ws (f j).2.toNat).toNat) -> za9 mk (zbe ws f k todo)
 | 0, _, h, _ => h
 | k + 1, _, h, hv => zij (zef k h fun j hj => hv j (by omega)) (hv k (by omega))
theorem zp9 (ws : List Int) (todo : List Nat) (t m : Int) : ∃ l, zbd ws todo t m = todo ++ l := by
 unfold zbd
 split
 · split
   · exact ⟨[], by simp⟩
   · exact ⟨_, rfl⟩
 · exact ⟨[], by simp⟩
theorem zg0 (ws : List Int) (f : Nat -> Int × Int) : ∀ (k : Nat) (todo : List Nat), ∃ l, zbe ws f k todo = todo ++ l
 | 0, todo => ⟨[], by simp [zbe]⟩
 | k + 1, todo => by
   obtain ⟨l, hl⟩ := zg0 ws f k todo
   obtain ⟨l2, hl2⟩ := zp9 ws (zbe ws f k todo) (f k).1 (f k).2
   exact ⟨l ++ l2, by show zbd ws (zbe ws f k todo) (f k).1 (f k).2 = _; rw [hl2, hl]; simp⟩
theorem zep {mk : Nat -> Int} {ws : List Int} {cyc : Bool} {sn : Int} (h : zbi mk ws cyc sn) {p : Nat} (hp : za5 mk p) (hpn : p < ws.length) : ∀ j, j < slN (rdK (za ws p)) (rdS (za ws p)) -> isR (zcy ws p j).1 = true -> za5 mk (zh ws (zcy ws p j).2.toNat).toNat := fun j hj hr => by
 have ho := (h.objs p hpn hp).1 j hj
 have hl := ho.2.1 hr
 exact h.leads _ (zbw hl.2.1)
theorem zfe {mk : Nat -> Int} {ws : List Int} {cyc : Bool} {sn : Int} (h : zbi mk ws cyc sn) {p : Nat} (hp : za5 mk p) : p < ws.length := by
 have := (h.within p hp).2
 omega
theorem zj8 {mk : Nat -> Int} {ws : List Int} {cyc : Bool} {sn : Int} (h : zbi mk ws cyc sn) {p : Nat} (hp : za5 mk p) {todo : List Nat} (ht : za9 mk todo) : za9 mk (zfd ws p todo) :=
 zef _ ht (zep h hp (zfe h hp))
theorem zku {mk : Nat -> Int} {ws : List Int} {cyc : Bool} {sn : Int} (h : zbi mk ws cyc sn) : ∀ (d i : Nat) {todo : List Nat}, za9 mk todo -> za9 mk (bfs ws d i todo)
 | 0, _, _, ht => ht
 | d + 1, i, todo, ht => by
   simp only [bfs]
   split
   · rename_i hlt
     exact zku h d (i + 1) (zj8 h (ht.2 _ (by simp [hlt])) ht)
   · exact ht
theorem zdk {mk : Nat -> Int} {ws : List Int} {cyc : Bool} {sn : Int} (h : zbi mk ws cyc sn) {todo : List Nat} (ht : za9 mk todo) : todo.length <= ws.length := zkt ht.1 (fun x hx => zfe h (ht.2 x hx))
def zct (ws : List Int) (l : List Nat) : Int := l.foldl (fun s p => s + rdS (za ws p) + 1) 0
theorem zjt (ws : List Int) (l : List Nat) (p : Nat) : zct ws (l ++ [p]) = zct ws l + rdS (za ws p) + 1 := by simp [zct]
theorem zik (ws : List Int) (l : List Nat) : 0 <= zct ws l /\ zct ws l <= 257 * l.length := by
 have h : ∀ (l : List Nat) (s : Int), 0 <= s -> 0 <= l.foldl (fun s p => s + rdS (za ws p) + 1) s /\ l.foldl (fun s p => s + rdS (za ws p) + 1) s <= s + 257 * l.length := by
  intro l
  induction l with
  | nil => intro s hs; simp; exact hs
  | cons p l ih =>
    intro s hs
    have := zaw (za ws p)
    have h2 := ih (s + rdS (za ws p) + 1) (by omega)
    simp only [List.foldl_cons, List.length_cons]
    refine ⟨h2.1, ?_⟩
    have := h2.2
    push_cast
    omega
 have := h l 0 (by omega)
 unfold zct
 omega
theorem zr2 {ws : List Int} {smz toh top : Int} {cyc : Bool} {sn old cpz sr : Int} {y : Nat -> Int} {rl : Nat} (hok : zda ws smz toh top cyc sn old cpz sr y rl) :
 ∃ mk, zbi mk ws cyc sn /\ ∀ i, i < rl -> isR (y (2 * i)) = true -> za5 mk (zh ws (y (2 * i + 1)).toNat).toNat := by
 obtain ⟨s0, s1, hl, t0, t1, hrl, h1, h2, hold⟩ := zea hok.1
 obtain ⟨g1, g2, g3, g4, g5⟩ := zdx s0 s1 hl t0 t1 h1 h2
 obtain ⟨L, O, ht, _, hobj, _, hroots⟩ := hok.2
 have hlaid := znm hok (S := (toh * smz + 1).toNat) (T := top.toNat) (F := ((1 - toh) * smz + 1).toNat) (by omega) (by omega) (by omega) ht
 have hk := ht.known hlaid.Tn hlaid.On hlaid.ap hobj
 refine ⟨mk2 ws L O, hk, fun i hi hr => ?_⟩
 obtain ⟨_, _, hlead⟩ := hroots i hi
 exact hk.leads _ (zbw (hlead hr).2.1)
def zaj (y : Nat -> Int) (i : Nat) : Int × Int := (y (2 * i), y (2 * i + 1))
end Go.Proofs.YtmckcnmlhgpnhaaGreat
