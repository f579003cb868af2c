/- - -/
import Derived.Test.YtmckcnmlhgpnhaaGreatWMcC
import Derived.Test.YtmckcnmlhgpnhaaGreatWReachedL
namespace Go.Proofs.YtmckcnmlhgpnhaaGreat
set_option maxRecDepth 20000
open Go.RowKit
set_option linter.unusedSimpArgs false
set_option linter.unusedVariables false
def WdA (ok : Prop) (smz toh top : Int) (ws : List Int) (y : Nat -> Int) (rl : Nat) (a b : Int) : Prop :=
 (¬ ok -> a = 0 /\ b = 0) /\ (ok -> a = top - (toh * smz + 1) /\ ∃ R, Bfs ws 0 (zbj ws (zan y) rl []) R /\ b = zcd ws R)
theorem WdA.no {ok : Prop} {smz toh top : Int} {ws : List Int} {y : Nat -> Int} {rl : Nat} (h : ¬ ok) : WdA ok smz toh top ws y rl 0 0 := ⟨fun _ => ⟨rfl, rfl⟩, fun g => absurd g h⟩
theorem WdA.same {ok : Prop} {smz toh top : Int} {ws : List Int} {y : Nat -> Int} {rl : Nat} {a b a' b' : Int} (h : WdA ok smz toh top ws y rl a b) (h' : WdA ok smz toh top ws y rl a' b') : a = a' /\ b = b' := by
 by_cases c : ok
 · obtain ⟨e1, R, hR, e2⟩ := h.2 c
   obtain ⟨e3, R', hR', e4⟩ := h'.2 c
   obtain rfl : R = R' := by unfold Bfs at hR hR'; rw [<- hR, <- hR']
   exact ⟨e1.trans e3.symm, e2.trans e4.symm⟩
 · obtain ⟨e1, e2⟩ := h.1 c
   obtain ⟨e3, e4⟩ := h'.1 c
   exact ⟨e1.trans e3.symm, e2.trans e4.symm⟩
theorem WdA.some_ {ok : Prop} {smz toh top : Int} {ws : List Int} {y : Nat -> Int} {rl : Nat} : ∃ a b, WdA ok smz toh top ws y rl a b := by
 by_cases c : ok
 · exact ⟨_, _, fun g => absurd c g, fun _ => ⟨rfl, _, rfl, rfl⟩⟩
 · exact ⟨0, 0, WdA.no c⟩
set_option maxHeartbeats 4000000 in
theorem zmb (b1 b2 b3 b4 b5 : Nat) (L n m : Nat) (ws : List Int) (smz toh top : Int) (cyc : Bool) (sn old cpz sr : Int) (rs : List (Int × Int)) (fa de sh : Bool) (st et en sp : Int) (X : Nat -> PtD) (s : Nat -> ByteArray) (y : Nat -> Int) (u : Nat -> ByteArray) (w : World) (h : McF w (.slice (some ⟨b1, 0, none⟩) L L) (.slice (some ⟨b2, 0, none⟩) n n) (.slice (some ⟨b3, 0, none⟩) ws.length ws.length) (.slice (some ⟨b4, 0, none⟩) rs.length rs.length) (.slice (some ⟨b5, 0, none⟩) m m) L X n s ws rs.length y m u) (hL : L <= 1048576) (hn : n <= 1048576) (hX : ∀ j, j < L -> PLe (X j) 1048576) (hws : ws.length <= 1048576) (hrs : rs.length <= 1048576) (hm : m <= 1048576) (hR : ∀ j, j < L -> PLr (X j)) (hsz : ∀ j, j < n -> (s j).size <= 9223372036854775807) (hw : zg ws) :
 Calls Tryz.prog 16 #[.agg #[.slice (some ⟨b1, 0, none⟩) L L, .slice (some ⟨b2, 0, none⟩) n n, .slice (some ⟨b3, 0, none⟩) ws.length ws.length, .int .i64 smz, .int .i64 toh, .int .i64 top, .bool cyc, .int .i64 sn, .int .i64 old, .int .i64 cpz, .int .i64 sr, .slice (some ⟨b4, 0, none⟩) rs.length rs.length, .bool fa, .bool de, .bool sh, .int .i64 st, .int .i64 et, .int .i64 en, .int .i64 sp, .slice (some ⟨b5, 0, none⟩) m m]] w fun e w' => ∃ a b : Int, e = .returned (.tuple #[.int .i64 a, .int .i64 b]) /\ WdA (zem L X n s ws smz toh top cyc sn old cpz sr y rs.length st sp m) smz toh top ws y rs.length a b /\ Below w.heap.size w w' := by
 have B0 : Below w.heap.size w (w.alloc (.cells #[.slice (some ⟨b1, 0, none⟩) L L, .slice (some ⟨b2, 0, none⟩) n n, .slice (some ⟨b3, 0, none⟩) ws.length ws.length, .int .i64 smz, .int .i64 toh, .int .i64 top, .bool cyc, .int .i64 sn, .int .i64 old, .int .i64 cpz, .int .i64 sr, .slice (some ⟨b4, 0, none⟩) rs.length rs.length, .bool fa, .bool de, .bool sh, .int .i64 st, .int .i64 et, .int .i64 en, .int .i64 sp, .slice (some ⟨b5, 0, none⟩) m m] 50)) := (Below.refl _ _).alloc (Nat.le_refl _) _
 have HF : Hid (McF w (.slice (some ⟨b1, 0, none⟩) L L) (.slice (some ⟨b2, 0, none⟩) n n) (.slice (some ⟨b3, 0, none⟩) ws.length ws.length) (.slice (some ⟨b4, 0, none⟩) rs.length rs.length) (.slice (some ⟨b5, 0, none⟩) m m) L X n s ws rs.length y m u) := h
 have HW : Hid (zg ws) := hw
 have HM : Hid (Calls _ _ _ _ _) := zi3 b1 b2 b3 b4 b5 L n m ws smz toh top cyc sn old cpz sr rs fa de sh st et en sp X s y u (w.alloc (.cells #[.slice (some ⟨b1, 0, none⟩) L L, .slice (some ⟨b2, 0, none⟩) n n, .slice (some ⟨b3, 0, none⟩) ws.length ws.length, .int .i64 smz, .int .i64 toh, .int .i64 top, .bool cyc, .int .i64 sn, .int .i64 old, .int .i64 cpz, .int .i64 sr, .slice (some ⟨b4, 0, none⟩) rs.length rs.length, .bool fa, .bool de, .bool sh, .int .i64 st, .int .i64 et, .int .i64 en, .int .i64 sp, .slice (some ⟨b5, 0, none⟩) m m] 50)) (h.below B0) hL hn hX hws hrs hm hR hsz hw
 have HLD := zgs rfl (zt.new w 50 #[.slice (some ⟨b1, 0, none⟩) L L, .slice (some ⟨b2, 0, none⟩) n n, .slice (some ⟨b3, 0, none⟩) ws.length ws.length, .int .i64 smz, .int .i64 toh, .int .i64 top, .bool cyc, .int .i64 sn, .int .i64 old, .int .i64 cpz, .int .i64 sr, .slice (some ⟨b4, 0, none⟩) rs.length rs.length, .bool fa, .bool de, .bool sh, .int .i64 st, .int .i64 et, .int .i64 en, .int .i64 sp, .slice (some ⟨b5, 0, none⟩) m m]).cell
 clear h hX hR hsz hw
 go_enter Tryz.func16, Tryz.ntmps16
 go_wp2_with (refine zbw rfl _ _ rfl _ HLD ?_)
 clear HLD
 refine HM.out.mono ?_
 rintro e w1 ⟨q, rfl, hq, d1⟩
 have X1 := (zt.new w 50 #[.slice (some ⟨b1, 0, none⟩) L L, .slice (some ⟨b2, 0, none⟩) n n, .slice (some ⟨b3, 0, none⟩) ws.length ws.length, .int .i64 smz, .int .i64 toh, .int .i64 top, .bool cyc, .int .i64 sn, .int .i64 old, .int .i64 cpz, .int .i64 sr, .slice (some ⟨b4, 0, none⟩) rs.length rs.length, .bool fa, .bool de, .bool sh, .int .i64 st, .int .i64 et, .int .i64 en, .int .i64 sp, .slice (some ⟨b5, 0, none⟩) m m]).below d1 (by simp)
 have B1 := zc B0 d1
 have z1 := X1.lt
 have HQ : Hid (q = true ↔ zem L X n s ws smz toh top cyc sn old cpz sr y rs.length st sp m) := hq
 clear d1 hq B0 HM
 cases q with
 | false =>
   go_wp2
   go_ret2
   exact ⟨0, 0, rfl, WdA.no (fun hk => absurd (HQ.out.2 hk) (by simp)), B1⟩
 | true =>
 have hok : zem L X n s ws smz toh top cyc sn old cpz sr y rs.length st sp m := HQ.out.1 rfl
 obtain ⟨s0, s1, hl, t0, t1, hrl, h1, h2, hold⟩ := zdi hok.2.1.1
 obtain ⟨mk, R, hK, hB, hCR, hC⟩ := zsa hok.2.1
 obtain ⟨S, hS⟩ : ∃ S, toh * smz + 1 = S := ⟨_, rfl⟩
 have hS0 : 0 <= toh * smz := Int.mul_nonneg t0 (by omega)
 have hS1 : 1 <= S := by omega
 have hSt : S <= top := by omega
 have ht8 : top <= 8000 := by
  have : (toh + 1) * smz <= 2 * smz := Int.mul_le_mul_of_nonneg_right (by omega) (by omega)
  omega
 have HA : Hid (WdA (zem L X n s ws smz toh top cyc sn old cpz sr y rs.length st sp m) smz toh top ws y rs.length (top - S) (zcd ws R)) := ⟨fun g => absurd hok g, fun _ => ⟨by rw [hS], R, hB, rfl⟩⟩
 have HR : Hid (∀ W, Below w1.heap.size w1 W -> Calls Tryz.prog 11 #[.agg #[.slice (some ⟨b3, 0, none⟩) ws.length ws.length, .int .i64 smz, .int .i64 toh, .int .i64 top, .bool cyc, .int .i64 sn, .int .i64 old, .int .i64 cpz, .int .i64 sr, .slice (some ⟨b4, 0, none⟩) rs.length rs.length]] W fun e w' => e = .returned (.int .i64 (zcd ws R)) /\ Below W.heap.size W w') := fun W hW => zki (some ⟨b3, 0, none⟩) ws.length ws smz toh top cyc sn old cpz sr (some ⟨b4, 0, none⟩) rs.length rs y _ W (HF.out.below (zc B1 hW)).wd hws HW.out (HF.out.below (zc B1 hW)).rt hrs hok.2.1 mk R hK hB hC
 have HBG : Hid (∀ W, Calls Tryz.prog 57 #[.agg #[.slice (some ⟨b3, 0, none⟩) ws.length ws.length, .int .i64 smz, .int .i64 toh, .int .i64 top, .bool cyc, .int .i64 sn, .int .i64 old, .int .i64 cpz, .int .i64 sr, .slice (some ⟨b4, 0, none⟩) rs.length rs.length], .int .i64 toh] W fun e w' => e = .returned (.int .i64 S) /\ Below W.heap.size W w') := fun W => zco (some ⟨b3, 0, none⟩) ws.length ws smz toh top cyc sn old cpz sr (some ⟨b4, 0, none⟩) rs.length rs toh S _ t0 t1 s0 s1 hS
 have v1 := ze2 (a := top) (b := S) (by omega) (by omega)
 have KP : ∀ V, Below w1.heap.size w1 V -> (Below w1.heap.size w1 V /\ (∀ i, V.cell? ⟨w.heap.size, i, none⟩ = (#[.slice (some ⟨b1, 0, none⟩) L L, .slice (some ⟨b2, 0, none⟩) n n, .slice (some ⟨b3, 0, none⟩) ws.length ws.length, .int .i64 smz, .int .i64 toh, .int .i64 top, .bool cyc, .int .i64 sn, .int .i64 old, .int .i64 cpz, .int .i64 sr, .slice (some ⟨b4, 0, none⟩) rs.length rs.length, .bool fa, .bool de, .bool sh, .int .i64 st, .int .i64 et, .int .i64 en, .int .i64 sp, .slice (some ⟨b5, 0, none⟩) m m] : Array Value)[i]?)) := fun V hV => ⟨hV, (X1.below hV z1).cell⟩
 have bd' := (Below.refl w1.heap.size w1).drew
 have HB1 : Hid (Below w.heap.size w w1) := B1
 clear hok hK hB hCR hC hold hl hS hS0 HQ HF HW X1 B1 hrl
 generalize zcd ws R = rr at HA HR
 go_wp2_with fail
 go_region_held3 (fun V => Below w1.heap.size w1 V /\ (∀ i, V.cell? ⟨w.heap.size, i, none⟩ = (#[.slice (some ⟨b1, 0, none⟩) L L, .slice (some ⟨b2, 0, none⟩) n n, .slice (some ⟨b3, 0, none⟩) ws.length ws.length, .int .i64 smz, .int .i64 toh, .int .i64 top, .bool cyc, .int .i64 sn, .int .i64 old, .int .i64 cpz, .int .i64 sr, .slice (some ⟨b4, 0, none⟩) rs.length rs.length, .bool fa, .bool de, .bool sh, .int .i64 st, .int .i64 et, .int .i64 en, .int .i64 sp, .slice (some ⟨b5, 0, none⟩) m m] : Array Value)[i]?)) (first | assumption | exact KP _ bd' | exact KP _ (by assumption)) (first | (go_at_call 57; refine (HBG.out _).mono ?_; rintro e wl ⟨rfl, bb⟩; have hBl := zc (w := w1) (And.left (by assumption)) bb; clear bb) | (go_at_call 11; refine (HR.out _ (And.left (by assumption))).mono ?_; rintro e wl ⟨rfl, bb⟩; have hBl := zc (w := w1) (And.left (by assumption)) bb; clear bb))
 all_goals
  go_wp2
  go_ret2
  exact ⟨_, _, rfl, HA.out, zc HB1.out (by assumption)⟩
theorem zsp (aw : Option Addr) (cw : Nat) (ws : List Int) (smz toh top : Int) (cyc : Bool) (sn old cpz sr : Int) (ar : Option Addr) (cr : Nat) (rs : List (Int × Int)) (h F : Int) (w : World) (s0 : 256 <= smz) (s1 : smz <= 4000) (h0 : 0 <= h) (h1 : h <= 1) (hF : h * smz + 1 = F) :
 Calls Tryz.prog 62 #[.agg #[.slice aw ws.length cw, .int .i64 smz, .int .i64 toh, .int .i64 top, .bool cyc, .int .i64 sn, .int .i64 old, .int .i64 cpz, .int .i64 sr, .slice ar rs.length cr], .int .i64 h] w fun e w' => e = .returned (.int .i64 F) /\ Below w.heap.size w w' := by
 subst hF
 exact zt8 _ _ smz toh top cyc sn old cpz sr h w (by omega) s1 h0 h1
set_option maxHeartbeats 4000000 in
theorem zma (b1 b2 b3 b4 b5 : Nat) (L n m : Nat) (ws : List Int) (smz toh top : Int) (cyc : Bool) (sn old cpz sr : Int) (rs : List (Int × Int)) (fa de sh : Bool) (st et en sp : Int) (X : Nat -> PtD) (s : Nat -> ByteArray) (y : Nat -> Int) (u : Nat -> ByteArray) (w : World) (h : McF w (.slice (some ⟨b1, 0, none⟩) L L) (.slice (some ⟨b2, 0, none⟩) n n) (.slice (some ⟨b3, 0, none⟩) ws.length ws.length) (.slice (some ⟨b4, 0, none⟩) rs.length rs.length) (.slice (some ⟨b5, 0, none⟩) m m) L X n s ws rs.length y m u) (hL : L <= 1048576) (hn : n <= 1048576) (hX : ∀ j, j < L -> PLe (X j) 1048576) (hws : ws.length <= 1048576) (hrs : rs.length <= 1048576) (hm : m <= 1048576) (hR : ∀ j, j < L -> PLr (X j)) (hsz : ∀ j, j < n -> (s j).size <= 9223372036854775807) (hw : zg ws) :
 Calls Tryz.prog 18 #[.agg #[.slice (some ⟨b1, 0, none⟩) L L, .slice (some ⟨b2, 0, none⟩) n n, .slice (some ⟨b3, 0, none⟩) ws.length ws.length, .int .i64 smz, .int .i64 toh, .int .i64 top, .bool cyc, .int .i64 sn, .int .i64 old, .int .i64 cpz, .int .i64 sr, .slice (some ⟨b4, 0, none⟩) rs.length rs.length, .bool fa, .bool de, .bool sh, .int .i64 st, .int .i64 et, .int .i64 en, .int .i64 sp, .slice (some ⟨b5, 0, none⟩) m m]] w fun e w' => ∃ a b : Int, e = .returned (.tuple #[.int .i64 a, .int .i64 b]) /\ WdA (zem L X n s ws smz toh top cyc sn old cpz sr y rs.length st sp m) smz toh top ws y rs.length a b /\ Below w.heap.size w w' := by
 have B0 : Below w.heap.size w (w.alloc (.cells #[.slice (some ⟨b1, 0, none⟩) L L, .slice (some ⟨b2, 0, none⟩) n n, .slice (some ⟨b3, 0, none⟩) ws.length ws.length, .int .i64 smz, .int .i64 toh, .int .i64 top, .bool cyc, .int .i64 sn, .int .i64 old, .int .i64 cpz, .int .i64 sr, .slice (some ⟨b4, 0, none⟩) rs.length rs.length, .bool fa, .bool de, .bool sh, .int .i64 st, .int .i64 et, .int .i64 en, .int .i64 sp, .slice (some ⟨b5, 0, none⟩) m m] 50)) := (Below.refl _ _).alloc (Nat.le_refl _) _
 have HF : Hid (McF w (.slice (some ⟨b1, 0, none⟩) L L) (.slice (some ⟨b2, 0, none⟩) n n) (.slice (some ⟨b3, 0, none⟩) ws.length ws.length) (.slice (some ⟨b4, 0, none⟩) rs.length rs.length) (.slice (some ⟨b5, 0, none⟩) m m) L X n s ws rs.length y m u) := h
 have HW : Hid (zg ws) := hw
 have HM : Hid (Calls _ _ _ _ _) := zi2 b1 b2 b3 b4 b5 L n m ws smz toh top cyc sn old cpz sr rs fa de sh st et en sp X s y u (w.alloc (.cells #[.slice (some ⟨b1, 0, none⟩) L L, .slice (some ⟨b2, 0, none⟩) n n, .slice (some ⟨b3, 0, none⟩) ws.length ws.length, .int .i64 smz, .int .i64 toh, .int .i64 top, .bool cyc, .int .i64 sn, .int .i64 old, .int .i64 cpz, .int .i64 sr, .slice (some ⟨b4, 0, none⟩) rs.length rs.length, .bool fa, .bool de, .bool sh, .int .i64 st, .int .i64 et, .int .i64 en, .int .i64 sp, .slice (some ⟨b5, 0, none⟩) m m] 50)) (h.below B0) hL hn hX hws hrs hm hR hsz hw
 have HLD := zgs rfl (zt.new w 50 #[.slice (some ⟨b1, 0, none⟩) L L, .slice (some ⟨b2, 0, none⟩) n n, .slice (some ⟨b3, 0, none⟩) ws.length ws.length, .int .i64 smz, .int .i64 toh, .int .i64 top, .bool cyc, .int .i64 sn, .int .i64 old, .int .i64 cpz, .int .i64 sr, .slice (some ⟨b4, 0, none⟩) rs.length rs.length, .bool fa, .bool de, .bool sh, .int .i64 st, .int .i64 et, .int .i64 en, .int .i64 sp, .slice (some ⟨b5, 0, none⟩) m m]).cell
 clear h hX hR hsz hw
 go_enter Tryz.func18, Tryz.ntmps18
 go_wp2_with (refine zbw rfl _ _ rfl _ HLD ?_)
 clear HLD
 refine HM.out.mono ?_
 rintro e w1 ⟨q, rfl, hq, d1⟩
 have X1 := (zt.new w 50 #[.slice (some ⟨b1, 0, none⟩) L L, .slice (some ⟨b2, 0, none⟩) n n, .slice (some ⟨b3, 0, none⟩) ws.length ws.length, .int .i64 smz, .int .i64 toh, .int .i64 top, .bool cyc, .int .i64 sn, .int .i64 old, .int .i64 cpz, .int .i64 sr, .slice (some ⟨b4, 0, none⟩) rs.length rs.length, .bool fa, .bool de, .bool sh, .int .i64 st, .int .i64 et, .int .i64 en, .int .i64 sp, .slice (some ⟨b5, 0, none⟩) m m]).below d1 (by simp)
 have B1 := zc B0 d1
 have z1 := X1.lt
 have HQ : Hid (q = true ↔ zem L X n s ws smz toh top cyc sn old cpz sr y rs.length st sp m) := hq
 clear d1 hq B0 HM
 cases q with
 | false =>
   go_wp2
   go_ret2
   exact ⟨0, 0, rfl, WdA.no (fun hk => absurd (HQ.out.2 hk) (by simp)), B1⟩
 | true =>
 have hok : zem L X n s ws smz toh top cyc sn old cpz sr y rs.length st sp m := HQ.out.1 rfl
 obtain ⟨s0, s1, hl, t0, t1, hrl, h1, h2, hold⟩ := zdi hok.2.1.1
 obtain ⟨mk, Q, hK, hBQ, hCQ, hCR, _⟩ := zsg hok.2.1
 obtain ⟨R, hR⟩ : ∃ R, R = plS Q := ⟨_, rfl⟩
 have hB : Bfs ws 0 (zbj ws (zan y) rs.length []) R := by rw [hR]; exact zpn hBQ
 have hCR' : zbc mk R := by rw [hR]; exact hCR
 obtain ⟨S, hS⟩ : ∃ S, toh * smz + 1 = S := ⟨_, rfl⟩
 have hS0 : 0 <= toh * smz := Int.mul_nonneg t0 (by omega)
 have hS1 : 1 <= S := by omega
 have hSt : S <= top := by omega
 have ht8 : top <= 8000 := by
  have : (toh + 1) * smz <= 2 * smz := Int.mul_le_mul_of_nonneg_right (by omega) (by omega)
  omega
 have HA : Hid (WdA (zem L X n s ws smz toh top cyc sn old cpz sr y rs.length st sp m) smz toh top ws y rs.length (top - S) (zcd ws R)) := ⟨fun g => absurd hok g, fun _ => ⟨by rw [hS], R, hB, rfl⟩⟩
 have HR : Hid (∀ W, Below w1.heap.size w1 W -> Calls Tryz.prog 13 #[.agg #[.slice (some ⟨b3, 0, none⟩) ws.length ws.length, .int .i64 smz, .int .i64 toh, .int .i64 top, .bool cyc, .int .i64 sn, .int .i64 old, .int .i64 cpz, .int .i64 sr, .slice (some ⟨b4, 0, none⟩) rs.length rs.length]] W fun e w' => e = .returned (.int .i64 (zcd ws R)) /\ Below W.heap.size W w') := fun W hW => zkl (some ⟨b3, 0, none⟩) ws.length ws smz toh top cyc sn old cpz sr (some ⟨b4, 0, none⟩) rs.length rs y _ W (HF.out.below (zc B1 hW)).wd (Nat.le_refl _) hws HW.out (HF.out.below (zc B1 hW)).rt hrs hok.2.1 mk Q R hR hK hBQ hCQ hCR'
 have HBG : Hid (∀ W, Calls Tryz.prog 62 #[.agg #[.slice (some ⟨b3, 0, none⟩) ws.length ws.length, .int .i64 smz, .int .i64 toh, .int .i64 top, .bool cyc, .int .i64 sn, .int .i64 old, .int .i64 cpz, .int .i64 sr, .slice (some ⟨b4, 0, none⟩) rs.length rs.length], .int .i64 toh] W fun e w' => e = .returned (.int .i64 S) /\ Below W.heap.size W w') := fun W => zsp (some ⟨b3, 0, none⟩) ws.length ws smz toh top cyc sn old cpz sr (some ⟨b4, 0, none⟩) rs.length rs toh S _ s0 s1 t0 t1 hS
 have v1 := ze2 (a := top) (b := S) (by omega) (by omega)
 have KP : ∀ V, Below w1.heap.size w1 V -> (Below w1.heap.size w1 V /\ (∀ i, V.cell? ⟨w.heap.size, i, none⟩ = (#[.slice (some ⟨b1, 0, none⟩) L L, .slice (some ⟨b2, 0, none⟩) n n, .slice (some ⟨b3, 0, none⟩) ws.length ws.length, .int .i64 smz, .int .i64 toh, .int .i64 top, .bool cyc, .int .i64 sn, .int .i64 old, .int .i64 cpz, .int .i64 sr, .slice (some ⟨b4, 0, none⟩) rs.length rs.length, .bool fa, .bool de, .bool sh, .int .i64 st, .int .i64 et, .int .i64 en, .int .i64 sp, .slice (some ⟨b5, 0, none⟩) m m] : Array Value)[i]?)) := fun V hV => ⟨hV, (X1.below hV z1).cell⟩
 have bd' := (Below.refl w1.heap.size w1).drew
 have HB1 : Hid (Below w.heap.size w w1) := B1
 clear hok hK hB hCR hCQ hBQ hR hCR' hold hl hS hS0 HQ HF HW X1 B1 hrl
 generalize zcd ws R = rr at HA HR
 go_wp2_with fail
 go_region_held3 (fun V => Below w1.heap.size w1 V /\ (∀ i, V.cell? ⟨w.heap.size, i, none⟩ = (#[.slice (some ⟨b1, 0, none⟩) L L, .slice (some ⟨b2, 0, none⟩) n n, .slice (some ⟨b3, 0, none⟩) ws.length ws.length, .int .i64 smz, .int .i64 toh, .int .i64 top, .bool cyc, .int .i64 sn, .int .i64 old, .int .i64 cpz, .int .i64 sr, .slice (some ⟨b4, 0, none⟩) rs.length rs.length, .bool fa, .bool de, .bool sh, .int .i64 st, .int .i64 et, .int .i64 en, .int .i64 sp, .slice (some ⟨b5, 0, none⟩) m m] : Array Value)[i]?)) (first | assumption | exact KP _ bd' | exact KP _ (by assumption)) (first | (go_at_call 62; refine (HBG.out _).mono ?_; rintro e wl ⟨rfl, bb⟩; have hBl := zc (w := w1) (And.left (by assumption)) bb; clear bb) | (go_at_call 13; refine (HR.out _ (And.left (by assumption))).mono ?_; rintro e wl ⟨rfl, bb⟩; have hBl := zc (w := w1) (And.left (by assumption)) bb; clear bb))
 all_goals
  go_wp2
  go_ret2
  exact ⟨_, _, rfl, HA.out, zc HB1.out (by assumption)⟩
theorem zk1 {P : Program} {ρ : Operand -> Value} {o : Oper} {t : TypeId} {x : Operand} {w : World} {v : Value} (ho : o.op = .load t x) (hr : (Instr.loadAt t (ρ x)).run P w = .ok v w) : (execOp ρ o).run P w = .ok (.value v) w := by
 unfold execOp
 simp only [ho, Sem.run_bind, Sem.run_pure, Result.andThen_ok, hr]
set_option maxHeartbeats 4000000 in
theorem zus (a1 : Option Addr) (L c1 : Nat) (a2 : Option Addr) (n c2 : Nat) (aw : Option Addr) (cw : Nat) (ws : List Int) (smz toh top : Int) (cyc : Bool) (sn old cpz sr : Int) (ar : Option Addr) (cr : Nat) (rs : List (Int × Int)) (fa de sh : Bool) (st et en sp : Int) (ao : Option Addr) (m co : Nat) (X : Nat -> PtD) (s : Nat -> ByteArray) (y : Nat -> Int) (u : Nat -> ByteArray) (w : World) (h : McF w (.slice a1 L c1) (.slice a2 n c2) (.slice aw ws.length cw) (.slice ar rs.length cr) (.slice ao m co) L X n s ws rs.length y m u) (hw : zg ws) (g1 : L <= 9223372036854775807) (g2 : n <= 9223372036854775807) (g3 : ∀ j, j < L -> PLr (X j)) (g4 : ∀ j, j < n -> (s j).size <= 9223372036854775807) (g5 : ws.length <= 9223372036854775807) (g6 : rs.length <= 9223372036854775807) (g7 : m <= 9223372036854775807) (g8 : ∀ j, j < m -> (u j).size <= 9223372036854775807) :
 Calls Tryz.prog 4 #[.agg #[.slice a1 L c1, .slice a2 n c2, .slice aw ws.length cw, .int .i64 smz, .int .i64 toh, .int .i64 top, .bool cyc, .int .i64 sn, .int .i64 old, .int .i64 cpz, .int .i64 sr, .slice ar rs.length cr, .bool fa, .bool de, .bool sh, .int .i64 st, .int .i64 et, .int .i64 en, .int .i64 sp, .slice ao m co]] w fun e w' => e = .returned (.bool true) /\ Below w.heap.size w w' := by
 have B0 : Below w.heap.size w (w.alloc (.cells #[.slice a1 L c1, .slice a2 n c2, .slice aw ws.length cw, .int .i64 smz, .int .i64 toh, .int .i64 top, .bool cyc, .int .i64 sn, .int .i64 old, .int .i64 cpz, .int .i64 sr, .slice ar rs.length cr, .bool fa, .bool de, .bool sh, .int .i64 st, .int .i64 et, .int .i64 en, .int .i64 sp, .slice ao m co] 41)) := (Below.refl _ _).alloc (Nat.le_refl _) _
 have HZ : Hid (Calls _ _ _ _ _) := zln a1 L c1 a2 n c2 aw cw ws smz toh top cyc sn old cpz sr ar cr rs fa de sh st et en sp ao m co X s y u (w.alloc (.cells #[.slice a1 L c1, .slice a2 n c2, .slice aw ws.length cw, .int .i64 smz, .int .i64 toh, .int .i64 top, .bool cyc, .int .i64 sn, .int .i64 old, .int .i64 cpz, .int .i64 sr, .slice ar rs.length cr, .bool fa, .bool de, .bool sh, .int .i64 st, .int .i64 et, .int .i64 en, .int .i64 sp, .slice ao m co] 41)) (h.below B0) g1 g2 g3 g4 g5 g6 g7 g8
 have H : Hid (McF w (.slice a1 L c1) (.slice a2 n c2) (.slice aw ws.length cw) (.slice ar rs.length cr) (.slice ao m co) L X n s ws rs.length y m u) := h
 have HW : Hid (zg ws) := hw
 have G3 : Hid (∀ j, j < L -> PLr (X j)) := g3
 have G4 : Hid (∀ j, j < n -> (s j).size <= 9223372036854775807) := g4
 have HLD := zid rfl (zt.new w 41 #[.slice a1 L c1, .slice a2 n c2, .slice aw ws.length cw, .int .i64 smz, .int .i64 toh, .int .i64 top, .bool cyc, .int .i64 sn, .int .i64 old, .int .i64 cpz, .int .i64 sr, .slice ar rs.length cr, .bool fa, .bool de, .bool sh, .int .i64 st, .int .i64 et, .int .i64 en, .int .i64 sp, .slice ao m co]).cell
 clear h hw g3 g4 g8
 go_enter Tryz.func4, Tryz.ntmps4
 go_wp2_with (refine zbw rfl _ _ rfl _ HLD ?_)
 refine HZ.out.mono ?_
 rintro e w1 ⟨r, rfl, hr, d1⟩
 have X0 := (zt.new w 41 #[.slice a1 L c1, .slice a2 n c2, .slice aw ws.length cw, .int .i64 smz, .int .i64 toh, .int .i64 top, .bool cyc, .int .i64 sn, .int .i64 old, .int .i64 cpz, .int .i64 sr, .slice ar rs.length cr, .bool fa, .bool de, .bool sh, .int .i64 st, .int .i64 et, .int .i64 en, .int .i64 sp, .slice ao m co]).below d1 (by simp)
 have B1 := zc B0 d1
 have z1 := X0.lt
 clear d1 HZ HLD B0
 rcases hr with rfl | ⟨r0, hL, hn, hX, hws, hrs, hm⟩
 · go_wp2
   go_ret
   exact ⟨rfl, B1⟩
 have r0' : ¬ r < 0 := by omega
 have HX : Hid (∀ j, j < L -> PLe (X j) 1048576) := hX
 clear hX
 obtain ⟨q0, q1, hq0⟩ : ∃ q0 q1 : Int, WdA (zem L X n s ws smz toh top cyc sn old cpz sr y rs.length st sp m) smz toh top ws y rs.length q0 q1 := WdA.some_
 have HT : Hid (∀ W, Below w.heap.size w W -> _) := fun W (hW : Below w.heap.size w W) => zme a1 L c1 a2 n c2 aw cw ws smz toh top cyc sn old cpz sr ar cr rs fa de sh st et en sp ao m co X s y u W (H.out.below hW) hL hn HX.out hws hrs hm
 have HSP : Hid (∀ (b1 b2 b3 b4 b5 : Nat) (W : World), McF W (.slice (some ⟨b1, 0, none⟩) L L) (.slice (some ⟨b2, 0, none⟩) n n) (.slice (some ⟨b3, 0, none⟩) ws.length ws.length) (.slice (some ⟨b4, 0, none⟩) rs.length rs.length) (.slice (some ⟨b5, 0, none⟩) m m) L X n s ws rs.length y m u -> Calls Tryz.prog 16 #[.agg #[.slice (some ⟨b1, 0, none⟩) L L, .slice (some ⟨b2, 0, none⟩) n n, .slice (some ⟨b3, 0, none⟩) ws.length ws.length, .int .i64 smz, .int .i64 toh, .int .i64 top, .bool cyc, .int .i64 sn, .int .i64 old, .int .i64 cpz, .int .i64 sr, .slice (some ⟨b4, 0, none⟩) rs.length rs.length, .bool fa, .bool de, .bool sh, .int .i64 st, .int .i64 et, .int .i64 en, .int .i64 sp, .slice (some ⟨b5, 0, none⟩) m m]] W fun e w' => e = .returned (.tuple #[.int .i64 q0, .int .i64 q1]) /\ Below W.heap.size W w') :=
  fun b1 b2 b3 b4 b5 W h1 => (zmb b1 b2 b3 b4 b5 L n m ws smz toh top cyc sn old cpz sr rs fa de sh st et en sp X s y u W h1 hL hn HX.out hws hrs hm G3.out G4.out HW.out).mono fun e w' ⟨a, b, he, hq, hb⟩ => ⟨by rw [he, (hq.same hq0).1, (hq.same hq0).2], hb⟩
 have HIM : Hid (∀ (b1 b2 b3 b4 b5 : Nat) (W : World), McF W (.slice (some ⟨b1, 0, none⟩) L L) (.slice (some ⟨b2, 0, none⟩) n n) (.slice (some ⟨b3, 0, none⟩) ws.length ws.length) (.slice (some ⟨b4, 0, none⟩) rs.length rs.length) (.slice (some ⟨b5, 0, none⟩) m m) L X n s ws rs.length y m u -> Calls Tryz.prog 18 #[.agg #[.slice (some ⟨b1, 0, none⟩) L L, .slice (some ⟨b2, 0, none⟩) n n, .slice (some ⟨b3, 0, none⟩) ws.length ws.length, .int .i64 smz, .int .i64 toh, .int .i64 top, .bool cyc, .int .i64 sn, .int .i64 old, .int .i64 cpz, .int .i64 sr, .slice (some ⟨b4, 0, none⟩) rs.length rs.length, .bool fa, .bool de, .bool sh, .int .i64 st, .int .i64 et, .int .i64 en, .int .i64 sp, .slice (some ⟨b5, 0, none⟩) m m]] W fun e w' => e = .returned (.tuple #[.int .i64 q0, .int .i64 q1]) /\ Below W.heap.size W w') :=
  fun b1 b2 b3 b4 b5 W h1 => (zma b1 b2 b3 b4 b5 L n m ws smz toh top cyc sn old cpz sr rs fa de sh st et en sp X s y u W h1 hL hn HX.out hws hrs hm G3.out G4.out HW.out).mono fun e w' ⟨a, b, he, hq, hb⟩ => ⟨by rw [he, (hq.same hq0).1, (hq.same hq0).2], hb⟩
 clear hq0
 have HLD := zid rfl X0.cell
 go_wp2_with (refine zbw rfl _ _ rfl _ HLD ?_)
 refine (HT.out _ B1).mono ?_
 rintro e wA ⟨x1, x2, x3, x4, x5, rfl, sA, dA⟩
 have BA := zc B1 dA
 have XA := X0.below dA z1
 have zA := XA.lt
 clear dA HLD X0 z1 B1
 go_wp2_with fail
 refine (HSP.out _ _ _ _ _ _ sA).mono ?_
 rintro e w3 ⟨rfl, d3⟩
 have B3 := zc BA d3
 have X3 := XA.below d3 zA
 have z3 := X3.lt
 have HLD := zid rfl X3.cell
 clear d3 sA XA zA BA HSP
 go_wp2_with (refine zbw rfl _ _ rfl _ HLD ?_)
 refine (HT.out _ B3).mono ?_
 rintro e w4 ⟨y1, y2, y3, y4, y5, rfl, s4, d4⟩
 have B4 := zc B3 d4
 have X4 := X3.below d4 z3
 have z4 := X4.lt
 clear d4 X3 z3 B3 HLD
 have HST := zpt (A := #[.slice (some ⟨y1, 0, none⟩) L L, .slice (some ⟨y2, 0, none⟩) n n, .slice (some ⟨y3, 0, none⟩) ws.length ws.length, .int .i64 smz, .int .i64 toh, .int .i64 top, .bool cyc, .int .i64 sn, .int .i64 old, .int .i64 cpz, .int .i64 sr, .slice (some ⟨y4, 0, none⟩) rs.length rs.length, .bool fa, .bool de, .bool sh, .int .i64 st, .int .i64 et, .int .i64 en, .int .i64 sp, .slice (some ⟨y5, 0, none⟩) m m]) rfl rfl (by simp [Value.oneCell']) (zt.new w4 50 #[.slice none 0 0, .slice none 0 0, .slice none 0 0, .int .i64 0, .int .i64 0, .int .i64 0, .bool false, .int .i64 0, .int .i64 0, .int .i64 0, .int .i64 0, .slice none 0 0, .bool false, .bool false, .bool false, .int .i64 0, .int .i64 0, .int .i64 0, .int .i64 0, .slice none 0 0])
 have Y5 := (zt.new w4 50 #[.slice none 0 0, .slice none 0 0, .slice none 0 0, .int .i64 0, .int .i64 0, .int .i64 0, .bool false, .int .i64 0, .int .i64 0, .int .i64 0, .int .i64 0, .slice none 0 0, .bool false, .bool false, .bool false, .int .i64 0, .int .i64 0, .int .i64 0, .int .i64 0, .slice none 0 0]).row #[.slice (some ⟨y1, 0, none⟩) L L, .slice (some ⟨y2, 0, none⟩) n n, .slice (some ⟨y3, 0, none⟩) ws.length ws.length, .int .i64 smz, .int .i64 toh, .int .i64 top, .bool cyc, .int .i64 sn, .int .i64 old, .int .i64 cpz, .int .i64 sr, .slice (some ⟨y4, 0, none⟩) rs.length rs.length, .bool fa, .bool de, .bool sh, .int .i64 st, .int .i64 et, .int .i64 en, .int .i64 sp, .slice (some ⟨y5, 0, none⟩) m m]
 have HL5 := zgs rfl Y5.cell
 go_wp2_with (first | refine zga rfl _ _ _ rfl HST ?_ | refine zbw rfl _ _ rfl _ HL5 ?_)
 obtain ⟨W5, hW5⟩ : ∃ W, W = (w4.alloc (.cells #[.slice none 0 0, .slice none 0 0, .slice none 0 0, .int .i64 0, .int .i64 0, .int .i64 0, .bool false, .int .i64 0, .int .i64 0, .int .i64 0, .int .i64 0, .slice none 0 0, .bool false, .bool false, .bool false, .int .i64 0, .int .i64 0, .int .i64 0, .int .i64 0, .slice none 0 0] 50)).setRow w4.heap.size #[.slice (some ⟨y1, 0, none⟩) L L, .slice (some ⟨y2, 0, none⟩) n n, .slice (some ⟨y3, 0, none⟩) ws.length ws.length, .int .i64 smz, .int .i64 toh, .int .i64 top, .bool cyc, .int .i64 sn, .int .i64 old, .int .i64 cpz, .int .i64 sr, .slice (some ⟨y4, 0, none⟩) rs.length rs.length, .bool fa, .bool de, .bool sh, .int .i64 st, .int .i64 et, .int .i64 en, .int .i64 sp, .slice (some ⟨y5, 0, none⟩) m m] := ⟨_, rfl⟩
 have b45 : Below w4.heap.size w4 W5 := by rw [hW5]; exact zk3 _ ((Below.refl _ _).alloc (Nat.le_refl _) _) (Nat.le_refl _)
 rw [<- hW5] at Y5 ⊢
 clear hW5 HST HL5
 have X5 := X4.below b45 z4
 have z5 := X5.lt
 have zy := Y5.lt
 have s5 := s4.below b45
 have B5 := zc B4 b45
 clear X4 z4 s4 B4 b45
 refine (HIM.out _ _ _ _ _ _ s5).mono ?_
 rintro e w6 ⟨rfl, d6⟩
 have B6 := zc B5 d6
 have X6 := X5.below d6 z5
 have Y6 := Y5.below d6 zy
 have s6 := s5.below d6
 have z6 := X6.lt
 have zy6 := Y6.lt
 clear X5 Y5 s5 d6 z5 zy HIM B5
 have KP : ∀ V, Below w6.heap.size w6 V -> (Below w6.heap.size w6 V /\ zt V w.heap.size 41 #[.slice a1 L c1, .slice a2 n c2, .slice aw ws.length cw, .int .i64 smz, .int .i64 toh, .int .i64 top, .bool cyc, .int .i64 sn, .int .i64 old, .int .i64 cpz, .int .i64 sr, .slice ar rs.length cr, .bool fa, .bool de, .bool sh, .int .i64 st, .int .i64 et, .int .i64 en, .int .i64 sp, .slice ao m co] /\ zt V w4.heap.size 50 #[.slice (some ⟨y1, 0, none⟩) L L, .slice (some ⟨y2, 0, none⟩) n n, .slice (some ⟨y3, 0, none⟩) ws.length ws.length, .int .i64 smz, .int .i64 toh, .int .i64 top, .bool cyc, .int .i64 sn, .int .i64 old, .int .i64 cpz, .int .i64 sr, .slice (some ⟨y4, 0, none⟩) rs.length rs.length, .bool fa, .bool de, .bool sh, .int .i64 st, .int .i64 et, .int .i64 en, .int .i64 sp, .slice (some ⟨y5, 0, none⟩) m m]) := fun V hV => ⟨hV, X6.below hV z6, Y6.below hV zy6⟩
 go_wp2_with fail
 have b6' := (Below.refl w6.heap.size w6).drew
 refine wp_region_held_drew (S := fun V => Below w6.heap.size w6 V /\ zt V w.heap.size 41 #[.slice a1 L c1, .slice a2 n c2, .slice aw ws.length cw, .int .i64 smz, .int .i64 toh, .int .i64 top, .bool cyc, .int .i64 sn, .int .i64 old, .int .i64 cpz, .int .i64 sr, .slice ar rs.length cr, .bool fa, .bool de, .bool sh, .int .i64 st, .int .i64 et, .int .i64 en, .int .i64 sp, .slice ao m co] /\ zt V w4.heap.size 50 #[.slice (some ⟨y1, 0, none⟩) L L, .slice (some ⟨y2, 0, none⟩) n n, .slice (some ⟨y3, 0, none⟩) ws.length ws.length, .int .i64 smz, .int .i64 toh, .int .i64 top, .bool cyc, .int .i64 sn, .int .i64 old, .int .i64 cpz, .int .i64 sr, .slice (some ⟨y4, 0, none⟩) rs.length rs.length, .bool fa, .bool de, .bool sh, .int .i64 st, .int .i64 et, .int .i64 en, .int .i64 sp, .slice (some ⟨y5, 0, none⟩) m m]) (by kernel_rfl) (KP _ b6') (fun hHeld => ?_)
 refine wpAnyH_take (i := 0) (oi := { dst := some 35, op := _, type := _, pos := _, after := _, guard := _ }) (v := .agg #[.slice (some ⟨y1, 0, none⟩) L L, .slice (some ⟨y2, 0, none⟩) n n, .slice (some ⟨y3, 0, none⟩) ws.length ws.length, .int .i64 smz, .int .i64 toh, .int .i64 top, .bool cyc, .int .i64 sn, .int .i64 old, .int .i64 cpz, .int .i64 sr, .slice (some ⟨y4, 0, none⟩) rs.length rs.length, .bool fa, .bool de, .bool sh, .int .i64 st, .int .i64 et, .int .i64 en, .int .i64 sp, .slice (some ⟨y5, 0, none⟩) m m]) rfl (by kernel_rfl) (by kernel_rfl) (by kernel_rfl) (fun _ _ _ h => h) (Or.inl ⟨by kernel_rfl, fun V hS => zk1 rfl (zgs rfl hS.2.2.cell)⟩) hHeld ?_
 try simp only [Act.put, zyd, zye, zyf]
 refine wpAnyH_take (i := 1) (oi := { dst := some 36, op := _, type := _, pos := _, after := _, guard := _ }) (v := .agg #[.slice a1 L c1, .slice a2 n c2, .slice aw ws.length cw, .int .i64 smz, .int .i64 toh, .int .i64 top, .bool cyc, .int .i64 sn, .int .i64 old, .int .i64 cpz, .int .i64 sr, .slice ar rs.length cr, .bool fa, .bool de, .bool sh, .int .i64 st, .int .i64 et, .int .i64 en, .int .i64 sp, .slice ao m co]) rfl (by kernel_rfl) (by kernel_rfl) (by kernel_rfl) (fun _ _ _ h => h) (Or.inl ⟨by kernel_rfl, fun V hS => zk1 rfl (zid rfl hS.2.1.cell)⟩) hHeld ?_
 try simp only [Act.put, zyd, zye, zyf]
 refine wpAnyH_ready (rs := [2]) (by kernel_rfl) (by simp) ?_
 refine AllReadyH.cons (o := { dst := some 37, op := _, type := _, pos := _, after := _, guard := _ }) rfl (fun K hK => ?_) AllReadyH.nil
 go_simp
 go_at_call 17
 refine (HT.out _ (zc B6 hHeld.1)).mono ?_
 rintro e w7 ⟨v1, v2, v3, v4, v5, rfl, s7, d7⟩
 have b7 := zc (w := w6) hHeld.1 d7
 clear d7 hHeld
 refine hK.out _ _ (KP _ b7) (fun hHeld => ?_)
 clear hK K
 try simp only [Act.put, zyd, zye, zyf]
 refine wpAnyH_ready (rs := [3]) (by kernel_rfl) (by simp) ?_
 refine AllReadyH.cons (o := { dst := some 38, op := _, type := _, pos := _, after := _, guard := _ }) rfl (fun K hK => ?_) AllReadyH.nil
 go_simp
 go_at_call 19
 refine (zko L n m ws smz toh top cyc sn old cpz sr rs fa de sh st et en sp X s y u _ _ _ _ _ _ _ _ _ _ _ _ _ _ _ _ _ _ _ _ w7 (s6.below b7) s7 hL hn HX.out hws hrs hm).mono ?_
 rintro e w8 ⟨rfl, d8⟩
 have b8 := zc (w := w6) b7 d8
 clear d8 hHeld
 refine hK.out _ _ (KP _ b8) (fun hHeld => ?_)
 clear hK K
 try simp only [Act.put, zyd, zye, zyf]
 refine wpAnyH_take (i := 4) (oi := { dst := some 39, op := _, type := _, pos := _, after := _, guard := _ }) (v := .bool false) rfl (by kernel_rfl) (by kernel_rfl) (by kernel_rfl) (fun _ _ _ h => h) (Or.inl ⟨by kernel_rfl, ?_⟩) hHeld ?_
 · intro w hSw
   go_simp
 try simp only [Act.put, zyd, zye, zyf]
 refine wpAnyH_done (by kernel_rfl) ?_ _
 go_wp2
 go_ret
 exact ⟨rfl, zc B6 b8⟩
end Go.Proofs.YtmckcnmlhgpnhaaGreat
