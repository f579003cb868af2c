/- - -/
import Derived.Test.YtmckcnmlhgpnhaaGreatPChainA
import Derived.Maps.AppendAt
namespace Go.Proofs.YtmckcnmlhgpnhaaGreat
set_option maxRecDepth 20000
open Go.RowKit Go.Maps
set_option linter.unusedSimpArgs false
set_option linter.unusedVariables false
def zfl (mk : Nat -> Int) (ws : List Int) (k : Nat) : Bool := (mk k == 1 || mk k == 2) && !(rdN (za ws k) == 0)
def zai (mk : Nat -> Int) (ws : List Int) : Nat -> List Int
 | 0 => []
 | k + 1 => if zfl mk ws k = true then zai mk ws k ++ [rdN (za ws k)] else zai mk ws k
theorem zif {mk : Nat -> Int} {ws : List Int} {k : Nat} (h : zfl mk ws k = true) : zai mk ws (k + 1) = zai mk ws k ++ [rdN (za ws k)] := by simp [zai, h]
theorem zhi {mk : Nat -> Int} {ws : List Int} {k : Nat} (h : zfl mk ws k = false) : zai mk ws (k + 1) = zai mk ws k := by simp [zai, h]
theorem zr9 (mk : Nat -> Int) (ws : List Int) (k : Nat) : (zai mk ws k).length <= k := by
 induction k with
 | zero => simp [zai]
 | succ k ih =>
   simp only [zai]
   split
   · simp; omega
   · omega
theorem zm4 (mk : Nat -> Int) (ws : List Int) {k n : Nat} (h : k <= n) : ∃ t, zai mk ws n = zai mk ws k ++ t := by
 induction n with
 | zero =>
   obtain rfl : k = 0 := by omega
   exact ⟨[], by simp⟩
 | succ n ih =>
   by_cases e : k = n + 1
   · subst e; exact ⟨[], by simp⟩
   · obtain ⟨t, ht⟩ := ih (by omega)
     simp only [zai]
     split
     · exact ⟨t ++ [rdN (za ws n)], by rw [ht]; simp⟩
     · exact ⟨t, ht⟩
theorem zsa {mk : Nat -> Int} {ws : List Int} {k n : Nat} (hk : k < n) (hs : zfl mk ws k = true) (h : rdN (za ws k) ∈ zai mk ws k) : ¬ (zai mk ws n).Nodup := fun g => by
 obtain ⟨t, ht⟩ := zm4 mk ws (k := k + 1) (n := n) (by omega)
 rw [ht, zif hs] at g
 exact (List.nodup_append.1 (List.nodup_append.1 g).1).2.2 _ h (rdN (za ws k)) (by simp) rfl
theorem zlh {B : Nat} {w : World} {v : Value} {zs : List Int} (h : w.ownsRow B 3 1 v zs.length (zs.map (Value.int .i64))) : zba B w.heap.size 3 w v zs.length zs.length (fun i => .int .i64 (zs.getD i 0)) := by
 obtain ⟨_, ⟨rfl, h0⟩ | ⟨g, cap, cur, rfl, hB, hg, hn, hm, hs, ht⟩⟩ := h
 · exact ⟨none, 0, by rw [h0], .inl h0⟩
 · refine ⟨_, cap, rfl, .inr ⟨g, cur.size, fun i => cur.getD i (.int .i64 0), rfl, hB, ?_, by omega, ?_, fun i hi => ?_⟩⟩
   · exact (Array.getElem?_eq_some_iff.1 hg).1
   · exact ⟨cur, hg, rfl, fun i hi => by simp [hi]⟩
   · have h1 : (cur.toList.take (zs.length * 1))[i]? = some (.int .i64 (zs.getD i 0)) := by rw [ht]; simp [hi]
     rw [List.getElem?_take_of_lt (by omega)] at h1
     have h2 : cur[i]? = some (.int .i64 (zs.getD i 0)) := by simpa using h1
     simp only [Array.getD_eq_getD_getElem?, h2, Option.getD_some]
theorem zpf : (Tryz.prog.info? 3).map (fun i => (i.zero, i.size, i.bytes)) = some (some (.int .i64 0), 1, 8) := by kernel_rfl
theorem zqz {B : Nat} {e : TypeId} {n : Nat} {w w' : World} {v : Value} {xs : List Value} (h : w.ownsRow B e 1 v n xs) (hb : Below w.heap.size w w') : w'.ownsRow B e 1 v n xs := by
 obtain ⟨h1, h | ⟨g, cap, cur, rfl, hB, hg, r⟩⟩ := h
 · exact ⟨h1, .inl h⟩
 · exact ⟨h1, .inr ⟨g, cap, cur, rfl, hB, by rw [hb.block g (Array.getElem?_eq_some_iff.1 hg).1]; exact hg, r⟩⟩
theorem zsb {zs : List Int} {j : Nat} (h : j < zs.length) : zs.getD j 0 ∈ zs := by
 rw [List.getD_eq_getElem?_getD, List.getElem?_eq_getElem h]; exact List.getElem_mem h
theorem zli {zs : List Int} {x : Int} (h : ∀ i, i < zs.length -> zs.getD i 0 ≠ x) : x ∉ zs := fun hx => by
 obtain ⟨i, hi, rfl⟩ := List.getElem_of_mem hx
 exact h i hi (by rw [List.getD_eq_getElem?_getD, List.getElem?_eq_getElem hi]; rfl)
theorem ztq {zs : List Int} {x : Int} {j : Nat} (h : ∀ i, i < j -> zs.getD i 0 ≠ x) (hj : ¬ zs.getD j 0 = x) : ∀ i, i < j + 1 -> zs.getD i 0 ≠ x := fun i hi => by
 by_cases e : i = j
 · subst e; exact hj
 · exact h i (by omega)
theorem zsc {w wr w1 : World} {o o' : Obj} {zs : List Int} {x : Int} {u v' : Value} (hB : Below (w.alloc o').heap.size (w.alloc o') wr) (hown : wr.ownsRow (w.heap.size + 1) 3 1 u zs.length (zs.map (Value.int .i64)))
 (hown' : w1.ownsRow (w.heap.size + 1) 3 1 v' (zs.length + 1) (zs.map (Value.int .i64) ++ [.int .i64 x])) (hgrow : (wr.alloc o).grownBy w1 u.ownBlock) :
 w1.ownsRow (w.heap.size + 1) 3 1 v' (zs ++ [x]).length ((zs ++ [x]).map (Value.int .i64)) /\ Below (w.alloc o').heap.size (w.alloc o') w1 := by
 refine ⟨by simpa using hown', ?_⟩
 have h1 := hB.size
 exact (hB.alloc hB.size o).grown hgrow (by simp at h1; simp; omega) (fun j hj => by have := (hown.lt j hj).1; simp; omega)
set_option maxHeartbeats 2000000 in
theorem zlj (aw : Option Addr) (cw : Nat) (ws : List Int) (smz toh top : Int) (cyc : Bool) (sn old cpz sr : Int) (ar : Option Addr) (cr : Nat) (rs : List (Int × Int)) (T bm offm cm : Nat) (mk : Nat -> Int) (w : World) (hs : Sl w (.slice aw ws.length cw) ws) (hn : ws.length <= 1048576) (hw : zi ws) (hbm : bm < w.heap.size) (hmc : ∀ i, i < ws.length -> w.cell? ⟨bm, offm + i, none⟩ = some (.int .i64 (mk i))) :
 Calls Tryz.prog 92 #[.agg #[.slice aw ws.length cw, .int .i64 smz, .int .i64 toh, .int .i64 top, .bool cyc, .int .i64 sn, .int .i64 old, .int .i64 cpz, .int .i64 sr, .slice ar rs.length cr], .slice (some ⟨bm, offm, none⟩) ws.length cm] w fun e w' => ∃ q, e = .returned (.bool q) /\ (q = true ↔ (zai mk ws ws.length).Nodup) /\ Below w.heap.size w w' := by
 have hn' : (ws.length : Int) <= 1048576 := by omega
 have hfs := zfg
 have HS : ∀ W, Below (w.alloc (.cells #[.slice aw ws.length cw, .int .i64 smz, .int .i64 toh, .int .i64 top, .bool cyc, .int .i64 sn, .int .i64 old, .int .i64 cpz, .int .i64 sr, .slice ar rs.length cr] 30)).heap.size (w.alloc (.cells #[.slice aw ws.length cw, .int .i64 smz, .int .i64 toh, .int .i64 top, .bool cyc, .int .i64 sn, .int .i64 old, .int .i64 cpz, .int .i64 sr, .slice ar rs.length cr] 30)) W -> Sl W (.slice aw ws.length cw) ws := fun W hW => (zam hs _).below hW
 obtain ⟨i0, hi, hz0, hz1, hz2⟩ := info_parts zpf
 have hst0 : ((w.alloc (.cells #[.slice aw ws.length cw, .int .i64 smz, .int .i64 toh, .int .i64 top, .bool cyc, .int .i64 sn, .int .i64 old, .int .i64 cpz, .int .i64 sr, .slice ar rs.length cr] 30)).alloc (.cells #[] 3)).ownsRow (w.alloc (.cells #[.slice aw ws.length cw, .int .i64 smz, .int .i64 toh, .int .i64 top, .bool cyc, .int .i64 sn, .int .i64 old, .int .i64 cpz, .int .i64 sr, .slice ar rs.length cr] 30)).heap.size 3 1 (.slice (some ⟨(w.alloc (.cells #[.slice aw ws.length cw, .int .i64 smz, .int .i64 toh, .int .i64 top, .bool cyc, .int .i64 sn, .int .i64 old, .int .i64 cpz, .int .i64 sr, .slice ar rs.length cr] 30)).heap.size, 0, none⟩) 0 0) (zai mk ws 0).length ((zai mk ws 0).map (Value.int .i64)) := by
  refine ⟨by simp [zai], .inr ⟨_, 0, #[], rfl, Nat.le_refl _, Go.Deep.blk_alloc_new _ _, Nat.le_refl _, Nat.zero_le _, rfl, by simp [zai]⟩⟩
 have hB0 : Below (w.alloc (.cells #[.slice aw ws.length cw, .int .i64 smz, .int .i64 toh, .int .i64 top, .bool cyc, .int .i64 sn, .int .i64 old, .int .i64 cpz, .int .i64 sr, .slice ar rs.length cr] 30)).heap.size (w.alloc (.cells #[.slice aw ws.length cw, .int .i64 smz, .int .i64 toh, .int .i64 top, .bool cyc, .int .i64 sn, .int .i64 old, .int .i64 cpz, .int .i64 sr, .slice ar rs.length cr] 30)) ((w.alloc (.cells #[.slice aw ws.length cw, .int .i64 smz, .int .i64 toh, .int .i64 top, .bool cyc, .int .i64 sn, .int .i64 old, .int .i64 cpz, .int .i64 sr, .slice ar rs.length cr] 30)).alloc (.cells #[] 3)) := (Below.refl _ _).alloc (Nat.le_refl _) _
 have ez : (w.alloc (.cells #[.slice aw ws.length cw, .int .i64 smz, .int .i64 toh, .int .i64 top, .bool cyc, .int .i64 sn, .int .i64 old, .int .i64 cpz, .int .i64 sr, .slice ar rs.length cr] 30)).heap.size = w.heap.size + 1 := by simp
 rw [ez] at hst0
 clear ez
 go_enter Tryz.func92, Tryz.ntmps92
 go_wp2
 go_loopw [5, 6] (fun u5 u6 wr => ∃ k : Nat, k <= ws.length /\ u6 = .int .i64 k /\ wr.ownsRow (w.heap.size + 1) 3 1 u5 (zai mk ws k).length ((zai mk ws k).map (Value.int .i64)) /\ (zai mk ws k).Nodup /\ Below (w.alloc (.cells #[.slice aw ws.length cw, .int .i64 smz, .int .i64 toh, .int .i64 top, .bool cyc, .int .i64 sn, .int .i64 old, .int .i64 cpz, .int .i64 sr, .slice ar rs.length cr] 30)).heap.size (w.alloc (.cells #[.slice aw ws.length cw, .int .i64 smz, .int .i64 toh, .int .i64 top, .bool cyc, .int .i64 sn, .int .i64 old, .int .i64 cpz, .int .i64 sr, .slice ar rs.length cr] 30)) wr) (fun _ u6 _ => ws.length - (intOf u6).toNat)
 case atStart => exact ⟨0, Nat.zero_le _, rfl, hst0, by simp [zai], hB0⟩
 case round =>
  obtain ⟨k, hk, rfl, hown, hnd, hB⟩ := hrel
  clear hst0 hB0
  obtain ⟨k0, k1, k2, k3, k4, k5, k6, k7, k8, k9⟩ := zbo hB
  have hOF := zlh hown
  obtain ⟨ah, ch, rfl⟩ := hOF.sl.head
  have hlen := zr9 mk ws k
  by_cases hlt : k < ws.length
  · have hlt' : (k : Int) < (ws.length : Int) := by omega
    have q : wr.cell? ⟨bm, offm + k, none⟩ = some (.int .i64 (mk k)) := by
     rw [(zd hB).cell (p := ⟨bm, offm + k, none⟩) hbm]; exact hmc k hlt
    by_cases hm : (mk k == 1 || mk k == 2) = true
    · have hm' : mk k = 1 \/ mk k = 2 := by simpa using hm
      have hNb := zft (za ws k)
      clear hOF
      rcases hm' with hmu | hmu
      all_goals
       rw [hmu] at q
       go_wp2_with fail
       refine (zbj _ _ _ _ _ _ _ _ _ _ _ _ _ _ _ k _ rfl (HS _ hB) hn hw hlt).mono ?_
       rintro e w2 ⟨rfl, b2⟩
       have hB2 := zc hB b2
       have hown2 := zqz hown b2
       have hOF2 := zlh hown2
       clear hB hown b2 k0 k1 k2 k3 k4 k5 k6 k7 k8 k9 q
       obtain ⟨k0, k1, k2, k3, k4, k5, k6, k7, k8, k9⟩ := zbo hB2
       by_cases hz : rdN (za ws k) = 0
       · have hz' : (rdN (za ws k) == 0) = true := by simpa using hz
         have e := zhi (mk := mk) (ws := ws) (k := k) (by simp [zfl, hz])
         clear hz hOF2
         go_wp2
         go_roundw
         case rel => exact ⟨k + 1, by omega, by go_num, by rw [e]; exact hown2, by rw [e]; exact hnd, hB2⟩
         case measure => simp [intOf]; omega
       · have hz' : (rdN (za ws k) == 0) = false := by simpa using hz
         have hsel : zfl mk ws k = true := by simp [zfl, hm, hz]
         have e := zif hsel
         have hln' : ((zai mk ws k).length : Int) <= 1048576 := by omega
         obtain ⟨a', c', he', hcase⟩ := hOF2
         simp only [Value.slice.injEq] at he'
         obtain ⟨rfl, _, rfl⟩ := he'
         go_wp2
         go_loopw [8] (fun u8 wq => ∃ j : Nat, j <= (zai mk ws k).length /\ u8 = .int .i64 j /\ (∀ i, i < j -> (zai mk ws k).getD i 0 ≠ rdN (za ws k)) /\ wq = w2) (fun u8 _ => (zai mk ws k).length - (intOf u8).toNat)
         case atStart => exact ⟨0, Nat.zero_le _, rfl, fun i hi => absurd hi (by omega), rfl⟩
         case round =>
          obtain ⟨j, hj, rfl, hall, rfl⟩ := hrel
          by_cases hjl : j < (zai mk ws k).length
          · rcases hcase with h0 | ⟨g, M, gg, rfl, hgB, hgT, hgM, hgr, hgf⟩
            · omega
            have hjl' : (j : Int) < ((zai mk ws k).length : Int) := by omega
            have qj : wr.cell? ⟨g, j, none⟩ = some (.int .i64 ((zai mk ws k).getD j 0)) := by rw [hgr.cell (by omega), hgf j hjl]
            by_cases heq : (zai mk ws k).getD j 0 = rdN (za ws k)
            · have hmem : rdN (za ws k) ∈ zai mk ws k := by rw [<- heq]; exact zsb hjl
              have hbad := zsa hlt hsel hmem
              rw [heq] at qj
              have HB : Hid (¬ (zai mk ws ws.length).Nodup) := hbad
              clear hbad heq hall
              go_wp2
              go_ret
              exact ⟨_, rfl, ⟨fun g => by simp at g, fun g => absurd g HB.out⟩, zd hB2⟩
            · have hq2 := ztq hall heq
              obtain ⟨zj, hzj⟩ : ∃ zj, zj = (zai mk ws k).getD j 0 := ⟨_, rfl⟩
              rw [<- hzj] at qj heq
              have heq' : (zj == rdN (za ws k)) = false := by simpa using heq
              clear heq hzj hall
              go_wp2
              go_roundw
              case rel => exact ⟨j + 1, by omega, by go_num, hq2, by trivial⟩
              case measure => simp [intOf]; omega
          · obtain rfl : j = (zai mk ws k).length := by omega
            have hnm : rdN (za ws k) ∉ zai mk ws k := zli hall
            have hnd2 : (zai mk ws (k + 1)).Nodup := by
             rw [e, List.nodup_append]
             exact ⟨hnd, by simp, fun a ha c hc => by simp at hc; subst hc; intro e2; subst e2; exact hnm ha⟩
            clear hall hcase hnm
            go_wp2_with (at_builtin; refine wpList_append_own _ rfl _ _ 64 rfl (w.heap.size + 1) 3 i0 (.int .i64 0) 1 8 Tryz.underlying64 hi hz0 hz1 hz2 rfl (by decide) _ (zai mk ws k).length ((zai mk ws k).map (Value.int .i64)) rfl (hown2.alloc _) ⟨wr.heap.size, 0, none⟩ 1 1 [.int .i64 (rdN (za ws k))] rfl rfl (cell_one_new _ _ _) (ints_oneCell .i64 [rdN (za ws k)]) (by unfold maxLen; omega) (by omega) (by have := hB2.size; simp at this; simp; omega) ?_)
            intro v' w3 hown3 hgrow _
            have R := zsc hB2 hown2 hown3 hgrow
            clear hown3 hgrow hown2 hB2
            go_wp2
            go_roundw
            case rel => exact ⟨k + 1, by omega, by go_num, by rw [e]; exact R.1, hnd2, R.2⟩
            case measure => simp [intOf]; omega
    · have e1 : (mk k != 1) = true := by simp only [Bool.not_eq_true, Bool.or_eq_false_iff] at hm; simpa using hm.1
      have e2 : (mk k != 2) = true := by simp only [Bool.not_eq_true, Bool.or_eq_false_iff] at hm; simpa using hm.2
      have e := zhi (mk := mk) (ws := ws) (k := k) (by simp [zfl, hm])
      clear hOF
      go_wp2
      go_roundw
      case rel => exact ⟨k + 1, by omega, by go_num, by rw [e]; exact hown, by rw [e]; exact hnd, hB⟩
      case measure => simp [intOf]; omega
  · obtain rfl : k = ws.length := by omega
    go_wp2
    go_ret
    exact ⟨_, rfl, ⟨fun _ => hnd, fun _ => rfl⟩, zd hB⟩
end Go.Proofs.YtmckcnmlhgpnhaaGreat
