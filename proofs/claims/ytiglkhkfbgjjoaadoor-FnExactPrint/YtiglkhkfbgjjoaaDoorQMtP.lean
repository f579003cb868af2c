/- - -/
import Derived.Test.YtiglkhkfbgjjoaaDoorQMtN
import Derived.Test.YtiglkhkfbgjjoaaDoorQTkG
namespace Go.Proofs.YtiglkhkfbgjjoaaDoor
set_option maxRecDepth 20000
open Go.RowKit Go.PlainAid Go.Maps
set_option linter.unusedSimpArgs false
set_option linter.unusedVariables false
theorem zdy {x y : ByteArray} (h : x.data.toList = y.data.toList) : x = y := by
 cases x; cases y
 congr 1
 exact Array.toList_inj.1 h
def jn (l : List ByteArray) : ByteArray := ⟨(Lib.join (l.map (·.data.toList)) [32]).toArray⟩
theorem zis : jn [] = ⟨#[]⟩ := rfl
theorem zdz (sep : List UInt8) (r : List (List UInt8)) (x : List UInt8) : Lib.joinTail sep (r ++ [x]) = Lib.joinTail sep r ++ (sep ++ x) := by simp [Lib.joinTail]
theorem zit (x : ByteArray) : jn [x] = x := zdy (by simp [jn, Lib.join_one])
theorem ziu (a : ByteArray) (l : List ByteArray) (x : ByteArray) : jn ((a :: l) ++ [x]) = jn (a :: l) ++ ⟨#[32]⟩ ++ x := zdy (by
 simp only [jn, List.map_append, List.map_cons, List.map_nil, List.cons_append, Lib.join_cons, zdz, ByteArray.data_append, Array.toList_append]
 simp)
theorem zhg {l : List ByteArray} {j : Nat} (h : j < l.length) : jn (l.take (j + 1)) = if j = 0 then l.getD j ⟨#[]⟩ else jn (l.take j) ++ ⟨#[32]⟩ ++ l.getD j ⟨#[]⟩ := by
 have e : l.take (j + 1) = l.take j ++ [l.getD j ⟨#[]⟩] := by
  rw [List.take_add_one, List.getD_eq_getElem?_getD, List.getElem?_eq_getElem h]
  rfl
 rw [e]
 by_cases h0 : j = 0
 · subst h0
   rw [if_pos rfl, List.take_zero, List.nil_append, zit]
 · rw [if_neg h0]
   cases hl : l.take j with
   | nil => have := congrArg List.length hl; rw [List.length_take, List.length_nil] at this; omega
   | cons a r => exact ziu a r _
theorem zjw {l : List ByteArray} (h : SZ l) (j : Nat) : (jn (l.take j)).size <= 201 * l.length := by
 have h1 : SZ (l.take j) := fun b hb => h b (List.mem_of_mem_take hb)
 have h2 := ze5 h1
 have h3 : (jn (l.take j)).size = (Lib.join ((l.take j).map (·.data.toList)) [32]).length := by simp [jn, ByteArray.size]
 have h4 : (l.take j).length <= l.length := by rw [List.length_take]; omega
 rw [h3]
 omega
set_option maxHeartbeats 4000000 in
theorem zd0 (a : Option Addr) (c L : Nat) (top : Int) (X : Nat -> KnD) (T : Nat) (w : World) (hs : za1 T w (.slice a L c) L X) (hT : T <= w.heap.size) (hL : L <= 1048576) (hX : ∀ j, j < L -> (X j).len <= 1048576 /\ (X j).t.size <= 1048576) :
 Calls Tryd.prog 16 #[.agg #[.slice a L c, .int .i64 top]] w (zd9 X L top w) := by
 have BA : Below w.heap.size w (w.alloc (.cells #[.slice a L c, .int .i64 top] 41)) := (Below.refl _ _).alloc (Nat.le_refl _) _
 have HOK : Hid (∀ W : World, Below w.heap.size w W -> _) := fun W (hW : Below w.heap.size w W) => zdt a c L top X T W (hs.knF.below hW hT) (Nat.le_trans hT hW.size) hL hX
 by_cases hok : TOK X L top
 rotate_left
 · have HN : Hid (¬ TOK X L top) := hok
   clear hs hX hok
   go_enter Tryd.func16, Tryd.ntmps16
   go_wp2_with fail
   refine (HOK.out _ BA).mono ?_
   rintro e w1 ⟨q, rfl, hq, b1⟩
   obtain rfl : q = false := (by cases q with | false => rfl | true => exact absurd (hq.1 rfl) HN.out)
   clear hq
   go_wp2
   go_ret2
   exact ⟨.inr ⟨HN.out, rfl⟩, BA.trans (b1.mono (by simp))⟩
 obtain ⟨h3000, hpL, hp0, hgd⟩ := zd8 hok
 obtain ⟨p, rfl⟩ : ∃ p : Nat, top = (p : Int) := ⟨top.toNat, by omega⟩
 have hpL2 : p < L := by omega
 have htl := zcn hgd hpL2
 have HTK : Hid (TOK X L p) := hok
 have hk21 : (X p).k = 21 := by
  have := ((ze0 X L p).1 hok).2.2.1
  rwa [Int.toNat_natCast] at this
 have hszt : SZ (zad X p) := (zb8 _ (fun j hj => by
  have h4 := zat X (hgd p hpL2).1 ((X p).y j) (by
   have h5 := zy X (i := p) (j := j) (by rw [zo]; exact hj)
   rw [<- h5]
   exact List.getElem_mem _)
  exact zd7 hgd _ _ (by omega) (by omega))).2
 have hlist : tkn X (p + 1) p = [⟨#[123]⟩] ++ zad X p ++ [⟨#[125]⟩] := by
  show bod _ (X p) = _
  unfold zad
  generalize X p = x at hk21
  obtain ⟨k, t, i, l, y⟩ := x
  dsimp only at hk21 ⊢
  subst hk21
  simp [bod]
 obtain ⟨a', c', hv, hc⟩ := hs
 simp only [Value.slice.injEq] at hv
 obtain ⟨rfl, _, rfl⟩ := hv
 rcases hc with hc | ⟨b, off, rfl, lb, lz, hkc⟩
 · omega
 have HT : Hid (∀ W : World, Below w.heap.size w W -> Calls Tryd.prog 36 #[.agg #[.slice (some ⟨b, off, none⟩) L c, .int .i64 (p : Int)], .int .i64 (p : Int)] W (zc W ([⟨#[123]⟩] ++ zad X p ++ [⟨#[125]⟩]))) := fun W hW => by
  have := zd1 b off c L p X T w lb h3000 hT hkc hgd (p + 1) p (by omega) hpL2 W hW
  rw [hlist] at this
  exact this
 have HE : Hid (zc8 X p = jn (zad X p) ++ ⟨#[10]⟩) := rfl
 have HSZ := hI hszt
 clear hX hkc hgd hlist hok hk21 hszt
 generalize zad X p = tp at *
 go_enter Tryd.func16, Tryd.ntmps16
 go_wp2_with fail
 refine (HOK.out _ BA).mono ?_
 rintro e w1 ⟨q, rfl, hq, b1⟩
 obtain rfl : q = true := hq.2 HTK.out
 clear hq
 have B1 : Hid (Below w.heap.size w w1) := BA.trans (b1.mono (by simp))
 have k1 : ∀ i, w1.cell? ⟨w.heap.size, i, none⟩ = (#[.slice (some ⟨b, off, none⟩) L c, .int .i64 (p : Int)] : Array Value)[i]? := fun i => by rw [(zab b1).1 _ _ (by simp)]; simp [go_sem]
 have z1 : w.heap.size < w1.heap.size := by have := b1.size; simp at this; omega
 clear b1 HOK
 go_wp2_with fail
 refine (HT.out w1 B1.out).mono ?_
 rintro e w2 ⟨v2, rfl, s2, b2⟩
 have B2 : Hid (Below w.heap.size w w2) := zh B1.out b2
 obtain ⟨g, cp, hv2, -, lg2⟩ := s2.form
 have HCL : Hid (∀ j, j < tp.length -> w2.cell? ⟨g, j + 1, none⟩ = some (.string (tp.getD j ⟨#[]⟩))) := fun j hj => by
  have h1 := s2.rdF.at_ hv2 (j := j + 1) (by simp; omega)
  rw [h1]
  congr 2
  simp [List.getD_eq_getElem?_getD, List.getElem?_append, hj]
 have hlen : ([⟨#[123]⟩] ++ tp ++ [⟨#[125]⟩] : List ByteArray).length = tp.length + 2 := by simp
 rw [hlen] at hv2
 subst hv2
 clear s2 b2 hlen k1 HT
 have htl' : (tp.length : Int) <= 30000 := by omega
 go_wp2
 go_loopw [5, 6] (fun v q wr => wr = w2 /\ ∃ (j : Nat), j <= tp.length /\ q = .int .i64 ((j : Int) + 1) /\ v = .string (jn (tp.take j))) (fun _ q _ => tp.length + 1 - (intOf q).toNat)
 case atStart => exact ⟨rfl, 0, Nat.zero_le _, by go_num, rfl⟩
 case round =>
  obtain ⟨rfl, j, hj, rfl, rfl⟩ := hrel
  have hjs := zjw HSZ.out j
  by_cases hlt : j < tp.length
  · have hlt' : (j : Int) < (tp.length : Int) := by omega
    have hcell := HCL.out j hlt
    have hstep := hI (zhg hlt)
    have hts : (tp.getD j ⟨#[]⟩).size <= 200 := zc7 HSZ.out j
    by_cases h0 : j = 0
    · have hS : Hid (jn (tp.take (j + 1)) = jn (tp.take j) ++ tp.getD j ⟨#[]⟩) := by
       show _ = _
       rw [hstep.out, if_pos h0, h0, List.take_zero, zis]
       exact (zdy (by simp [ByteArray.data_append])).symm
      have hp : ¬ ((1 : Int) < (j : Int) + 1) := by omega
      clear hstep h0
      generalize tp.getD j ⟨#[]⟩ = x at *
      generalize hJ : jn (tp.take j) = J at *
      have hJs : (J.size : Int) <= 7000000 := by omega
      have hxs : (x.size : Int) <= 200 := by omega
      clear hJ
      go_wp2
      go_roundw
      case rel => exact ⟨trivial, j + 1, by omega, by go_num, by rw [hS.out]⟩
      case measure => simp [intOf]; omega
    · have hS : Hid (jn (tp.take (j + 1)) = jn (tp.take j) ++ ⟨#[32]⟩ ++ tp.getD j ⟨#[]⟩) := by
       show _ = _
       rw [hstep.out, if_neg h0]
      have hp : (1 : Int) < (j : Int) + 1 := by omega
      clear hstep h0
      generalize tp.getD j ⟨#[]⟩ = x at *
      generalize hJ : jn (tp.take j) = J at *
      have hJs : (J.size : Int) <= 7000000 := by omega
      have hxs : (x.size : Int) <= 200 := by omega
      clear hJ
      go_wp2
      go_roundw
      case rel => exact ⟨trivial, j + 1, by omega, by go_num, by rw [hS.out]⟩
      case measure => simp [intOf]; omega
  · have hge : ¬ ((j : Int) + 1 + 1 < (tp.length : Int) + 2) := by omega
    obtain rfl : j = tp.length := by omega
    rw [List.take_length] at *
    have HE2 := HE
    generalize hJ : jn tp = J at *
    have hJs : (J.size : Int) <= 7000000 := by omega
    clear hJ HE
    go_wp2
    go_ret2
    exact ⟨.inl ⟨HTK.out, by rw [Int.toNat_natCast, HE2.out]; rfl⟩, B2.out⟩
end Go.Proofs.YtiglkhkfbgjjoaaDoor
