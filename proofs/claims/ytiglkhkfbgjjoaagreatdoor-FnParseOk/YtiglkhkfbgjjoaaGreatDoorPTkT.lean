/- - -/
import Derived.Test.YtiglkhkfbgjjoaaGreatDoorPBnA
import Derived.Laws.RangeString
import Derived.Laws.RangeAny
namespace Go.Proofs.YtiglkhkfbgjjoaaGreatDoor
set_option maxRecDepth 20000
open Go.RowKit Go.PlainAid
set_option linter.unusedSimpArgs false
set_option linter.unusedVariables false
def zb0 (k : Int) : Int := if 1 <= k /\ k <= 13 then 1 else if 14 <= k /\ k <= 20 then 2 else if k = 21 then 3 else if k = 22 then 4 else if k = 23 \/ k = 24 then 5 else 0
def zae (c k : Int) : Bool := if c = 6 then decide (k = 9) else decide (zb0 k = c /\ c ≠ 0)
def shp (k : Int) (n : Nat) : List Int :=
 if k = 6 then List.replicate (n - 1) 4 ++ [3]
 else if k = 7 then List.replicate n 5
 else if k = 8 \/ k = 10 \/ k = 12 \/ k = 13 \/ k = 24 then [1, 1]
 else if k = 9 then 1 :: List.replicate (n - 1) 1
 else if k = 11 \/ k = 14 \/ k = 15 \/ k = 19 \/ k = 23 then [1]
 else if k = 16 then [1, 1, 1]
 else if k = 17 then (if n = 3 then [1, 3, 3] else [1, 3])
 else if k = 18 then [1, 3]
 else if k = 20 then [6]
 else if k = 21 then List.replicate n 2
 else []
def zan : List Int -> List Int -> Bool
 | [], [] => true
 | c :: cs, k :: ks => zae c k && zan cs ks
 | _, _ => false
theorem zg2 : ∀ {cs ks : List Int}, zan cs ks = true -> cs.length = ks.length
 | [], [], _ => rfl
 | c :: cs, k :: ks, h => by
   simp only [zan, Bool.and_eq_true] at h
   simp [zg2 h.2]
 | [], _ :: _, h => by simp [zan] at h
 | _ :: _, [], h => by simp [zan] at h
def zb3 (t : ByteArray) : Bool := decide (1 <= t.size /\ t.size <= 12) && !isW t && decide (∀ i, i < t.size -> ltB (bt t i) = true)
def zb8 (t : ByteArray) : Bool := decide (∀ i, i < t.size -> plB (bt t i) = true) && decide (t.size <= 160)
def za3 (k : Int) (t : ByteArray) : Bool := if k = 4 then zb8 t else if k = 5 \/ k = 22 \/ k = 14 \/ k = 15 then zb3 t else decide (t.size = 0)
def zb1 (k i : Int) : Bool := if k = 2 then decide (i = 0 \/ i = 1) else if k = 3 then decide (0 <= i /\ i <= 999999999999999) else if k = 10 then decide (1 <= i /\ i <= 10) else if k = 11 then decide (1 <= i /\ i <= 3) else decide (i = 0)
def zx (k : Int) (ks : List Int) : Bool := decide (zb0 k ≠ 0) && zan (shp k ks.length) ks
section
variable (X : Nat -> KnD)
def zay (i : Nat) : List Int := (List.range (X i).len).map (X i).y
def zas (i : Nat) : List Int := (zay X i).map fun q => (X q.toNat).k
theorem zde (i : Nat) : (zay X i).length = (X i).len := by simp [zay]
theorem zfs {i j : Nat} (h : j < (zay X i).length) : (zay X i)[j] = (X i).y j := by simp [zay]
def zg3 : Nat -> Nat -> Nat
 | 0, i => i
 | n + 1, i => if 0 < (X i).len /\ 0 <= (X i).y 0 /\ ((X i).y 0).toNat < i then zg3 n ((X i).y 0).toNat else i
theorem zf9 : ∀ (n m i : Nat), i <= n -> i <= m -> zg3 X n i = zg3 X m i
 | 0, 0, i, _, _ => rfl
 | 0, m + 1, i, h1, h2 => by
   show i = if _ then _ else i
   rw [if_neg (by omega)]
 | n + 1, 0, i, h1, h2 => by
   show (if _ then _ else i) = i
   rw [if_neg (by omega)]
 | n + 1, m + 1, i, h1, h2 => by
   show (if _ then zg3 X n _ else i) = if _ then zg3 X m _ else i
   split
   · rename_i h
     exact zf9 n m _ (by omega) (by omega)
   · rfl
def stt (i : Nat) : Nat := zg3 X i i
theorem zga (i : Nat) : stt X i = if 0 < (X i).len /\ 0 <= (X i).y 0 /\ ((X i).y 0).toNat < i then stt X ((X i).y 0).toNat else i := by
 unfold stt
 rw [zf9 X i (i + 1) i (Nat.le_refl _) (Nat.le_succ _)]
 show (if _ then zg3 X i _ else i) = _
 split
 · rename_i h
   exact zf9 X _ _ _ (by omega) (Nat.le_refl _)
 · rfl
theorem zht (i : Nat) : stt X i <= i := by
 induction i using Nat.strongRecOn with
 | _ i ih =>
   rw [zga]
   split
   · rename_i h
     have := ih _ h.2.2
     omega
   · exact Nat.le_refl _
def chn : Nat -> List Int -> Nat -> Prop
 | n, [], m => n = m
 | n, k :: ks, m => 0 <= k /\ stt X k.toNat = n /\ chn (k.toNat + 1) ks m
theorem zfe : ∀ {ks : List Int} {n m : Nat}, chn X n ks m -> n <= m
 | [], n, m, h => Nat.le_of_eq h
 | k :: ks, n, m, ⟨_, h1, h2⟩ => by
   have := zfe h2
   have := zht X k.toNat
   omega
theorem zdw : ∀ {l r : List Int} {n m : Nat}, chn X n (l ++ r) m ↔ ∃ p, chn X n l p /\ chn X p r m
 | [], r, n, m => ⟨fun h => ⟨n, rfl, h⟩, fun ⟨p, h1, h2⟩ => by cases h1; exact h2⟩
 | k :: l, r, n, m => by
   show (0 <= k /\ stt X k.toNat = n /\ chn X (k.toNat + 1) (l ++ r) m) ↔ _
   rw [zdw]
   constructor
   · rintro ⟨h0, h1, p, h2, h3⟩
     exact ⟨p, ⟨h0, h1, h2⟩, h3⟩
   · rintro ⟨p, ⟨h0, h1, h2⟩, h3⟩
     exact ⟨h0, h1, p, h2, h3⟩
theorem zff {k : Int} {n m : Nat} : chn X n [k] m ↔ 0 <= k /\ stt X k.toNat = n /\ k.toNat + 1 = m := Iff.rfl
theorem zg4 : ∀ (N : Nat) {ks l : List Int} {a b m : Nat}, ks.length = N -> chn X a l m -> chn X b ks m -> a <= b -> ∃ pre, l = pre ++ ks /\ chn X a pre b
 | 0, ks, l, a, b, m, hN, hl, hk, hab => by
   obtain rfl : ks = [] := List.eq_nil_of_length_eq_zero hN
   cases hk
   exact ⟨l, by simp, hl⟩
 | N + 1, ks, l, a, b, m, hN, hl, hk, hab => by
   obtain ⟨ks', k, rfl⟩ : ∃ ks' k, ks = ks' ++ [k] := ⟨ks.dropLast, ks.getLast (by intro h; simp [h] at hN), (List.dropLast_concat_getLast _).symm⟩
   obtain ⟨q, h1, h2⟩ := (zdw X).1 hk
   obtain ⟨k0, k1, k2⟩ := (zff X).1 h2
   have hq := zfe X h1
   have hs := zht X k.toNat
   have hne : l ≠ [] := by
    rintro rfl
    have : a = m := hl
    omega
   obtain ⟨l', k', rfl⟩ : ∃ l' k', l = l' ++ [k'] := ⟨l.dropLast, l.getLast hne, (List.dropLast_concat_getLast _).symm⟩
   obtain ⟨q', g1, g2⟩ := (zdw X).1 hl
   obtain ⟨j0, j1, j2⟩ := (zff X).1 g2
   obtain rfl : k' = k := by omega
   obtain rfl : q' = q := by omega
   obtain ⟨pre, e1, e2⟩ := zg4 N (by simpa using hN) g1 h1 hab
   exact ⟨pre, by rw [e1]; simp, e2⟩
def zch (i : Nat) : Prop := chn X (stt X i) (zay X i) i
theorem zk6 : ∀ {ks : List Int} {n m : Nat}, chn X n ks m -> ∀ q ∈ ks, 0 <= q /\ q.toNat < m /\ n <= stt X q.toNat
 | k :: ks, n, m, ⟨h0, h1, h2⟩, q, hq => by
   have hle := zfe X h2
   rcases List.mem_cons.1 hq with rfl | hq
   · exact ⟨h0, by omega, by omega⟩
   · have := zk6 h2 q hq
     have := zht X k.toNat
     omega
theorem zhu {i p : Nat} (h : chn X p (zay X i) i) : stt X i = p := by
 have hl := zde X i
 cases hk : zay X i with
 | nil =>
   rw [hk] at h hl
   have e : p = i := h
   rw [zga, if_neg (by simp at hl; omega)]
   exact e.symm
 | cons k ks =>
   have hk0 : k = (X i).y 0 := by
    have := zfs X (i := i) (j := 0) (by rw [hk]; simp)
    simp only [hk] at this
    exact this
   rw [hk] at h hl
   obtain ⟨h0, h1, h2⟩ := h
   have := zfe X h2
   rw [zga, if_pos ⟨by simp at hl; omega, by rw [<- hk0]; exact h0, by rw [<- hk0]; omega⟩, <- hk0]
   exact h1
def znz (i : Nat) : Prop := zch X i /\ za3 (X i).k (X i).t = true /\ zb1 (X i).k (X i).i = true /\ zx (X i).k (zas X i) = true
def FIT (L : Nat) (i : Int) (c : Int) (n : Nat) : Prop := 0 <= i /\ i.toNat < L /\ zae c (X i.toNat).k = true /\ stt X i.toNat = n /\ ∀ j, n <= j -> j <= i.toNat -> znz X j
def TOK (L : Nat) (top : Int) : Prop := L <= 3000 /\ FIT X L top 3 0 /\ top + 1 = L
def NUM (L : Nat) (top : Int) : Prop := (∀ j, j < L -> zch X j) /\ chn X 0 [top] L
theorem zmx (L : Nat) (top : Int) : TOK X L top ↔ L <= 3000 /\ NUM X L top /\ (X top.toNat).k = 21 /\ ∀ j, j < L -> za3 (X j).k (X j).t = true /\ zb1 (X j).k (X j).i = true /\ zx (X j).k (zas X j) = true := by
 have hc : ∀ k, zae 3 k = true ↔ k = 21 := fun k => by
  unfold zae zb0
  rw [if_neg (by decide), decide_eq_true_iff]
  constructor
  · rintro ⟨h, _⟩
    split at h
    · omega
    · split at h
      · omega
      · split at h
        · assumption
        · split at h <;> (try split at h) <;> omega
  · rintro rfl
    decide
 constructor
 · rintro ⟨h1, ⟨h2, h3, h4, h5, h6⟩, h7⟩
   exact ⟨h1, ⟨fun j hj => (h6 j (Nat.zero_le _) (by omega)).1, h2, h5, (by show top.toNat + 1 = L; omega)⟩, (hc _).1 h4, fun j hj => (h6 j (Nat.zero_le _) (by omega)).2⟩
 · rintro ⟨h1, ⟨h2, h3, h4, h5⟩, h6, h7⟩
   have h5' : top.toNat + 1 = L := h5
   exact ⟨h1, ⟨h3, by omega, (hc _).2 h6, h4, fun j _ hj => ⟨h2 j (by omega), h7 j (by omega)⟩⟩, by omega⟩
end
theorem zja (r : Int) (w : World) : Calls Tryz.prog 58 #[.int .i32 r] w fun e w' => e = .returned (.bool (ltB r)) /\ w = w' := by
 by_cases h1 : 97 <= r <;> by_cases h2 : r <= 122 <;> by_cases h3 : 65 <= r <;> by_cases h4 : r <= 90
 all_goals
  have e1 : ltB r = decide ((97 <= r /\ r <= 122) \/ (65 <= r /\ r <= 90)) := rfl
  simp only [h1, h2, h3, h4] at e1
  simp at e1
  rw [e1]
  clear e1
  go_enter Tryz.func58, Tryz.ntmps58
  go_wp2
  go_ret
  exact ⟨rfl, rfl⟩
theorem zrd (r : Int) (w : World) : Calls Tryz.prog 96 #[.int .i32 r] w fun e w' => e = .returned (.bool (decide (32 <= r) && decide (r <= 126))) /\ w = w' := by
 by_cases h1 : 32 <= r <;> by_cases h2 : r <= 126
 all_goals
  simp only [h1, h2, decide_true, decide_false, Bool.true_and, Bool.and_true, Bool.and_false, Bool.false_and]
  go_enter Tryz.func96, Tryz.ntmps96
  go_wp2
  go_ret
  exact ⟨rfl, rfl⟩
theorem zgq (r : Int) (w : World) : Calls Tryz.prog 66 #[.int .i32 r] w fun e w' => e = .returned (.bool (plB r)) /\ w = w' := by
 have e1 : plB r = (decide (32 <= r) && decide (r <= 126) && (r != 34)) := by
  unfold plB
  rw [Bool.eq_iff_iff]
  simp [and_assoc]
 rw [e1]
 cases h0 : (decide (32 <= r) && decide (r <= 126)) <;> cases h3 : (r != 34)
 all_goals
  go_enter Tryz.func66, Tryz.ntmps66
  go_wp2_with (go_at_call 96; refine (zrd r _).mono ?_; rw [h0]; rintro e w1 ⟨rfl, rfl⟩)
  go_ret
  exact ⟨rfl, rfl⟩
theorem zlg (t : ByteArray) : t.toList.length = t.size := by rw [ByteArray.toList_eq, zce]
theorem zpu {p : Int -> Bool} {t : ByteArray} {j : Nat} (hj : j < t.size) (h : p (bt t j) = false) : decide (∀ i, i < t.size -> p (bt t i) = true) = false := by
 rw [decide_eq_false_iff_not]
 intro h2
 rw [h2 j hj] at h
 cases h
theorem zm0 {p : Int -> Bool} {t : ByteArray} (h : ∀ i, i < t.size -> p (bt t i) = true) : decide (∀ i, i < t.size -> p (bt t i) = true) = true := decide_eq_true h
theorem zpv {p : Int -> Bool} {t : ByteArray} {j : Nat} (hp : ∀ i, i < j -> p (bt t i) = true) (h : p (bt t j) = true) : ∀ i, i < j + 1 -> p (bt t i) = true := fun i hi => if e : i = j then e ▸ h else hp i (by omega)
theorem zfy (s : ByteArray) (pos : Nat) (h : pos < s.size) : ltB ((Utf8.decode s pos).1 : Int) = ltB (bt s pos) /\ plB ((Utf8.decode s pos).1 : Int) = plB (bt s pos) /\ (plB (bt s pos) = true \/ ltB (bt s pos) = true -> (Utf8.decode s pos).2 = 1) := by
 have hb : bt s pos = ((s[pos]'h).toNat : Int) := (get_bt s pos h).symm
 by_cases ha : (s[pos]'h).toNat < 128
 · rw [decode_ascii s pos h ha, hb]
   exact ⟨rfl, rfl, fun _ => rfl⟩
 · have h1 := (decode_high s pos h (by omega)).1
   have l1 : ∀ x : Int, 128 <= x -> ltB x = false := fun x hx => by unfold ltB; rw [decide_eq_false_iff_not]; omega
   have l2 : ∀ x : Int, 128 <= x -> plB x = false := fun x hx => by unfold plB; rw [decide_eq_false_iff_not]; omega
   rw [hb, l1 _ (by omega), l1 _ (by omega), l2 _ (by omega), l2 _ (by omega)]
   exact ⟨rfl, rfl, fun h => by rcases h with h | h <;> cases h⟩
set_option maxHeartbeats 1000000 in
theorem zjr (t : ByteArray) (w : World) (ht : t.size <= 1048576) :
 Calls Tryz.prog 41 #[.string t] w fun e w' => e = .returned (.bool (zb3 t)) /\ Below w.heap.size w w' := by
 have ht' : (t.size : Int) <= 1048576 := by omega
 by_cases h0 : t.size = 0
 · have e : zb3 t = false := by simp [zb3, h0]
   have h0' : (t.size : Int) = 0 := by omega
   rw [e]
   go_enter Tryz.func41, Tryz.ntmps41
   go_wp2
   go_ret
   exact ⟨rfl, Below.refl _ _⟩
 have h0' : ¬ (t.size : Int) = 0 := by omega
 by_cases h1 : 12 < t.size
 · have e : zb3 t = false := by unfold zb3; rw [decide_eq_false (by omega)]; rfl
   have h1' : (12 : Int) < t.size := by omega
   rw [e]
   go_enter Tryz.func41, Tryz.ntmps41
   go_wp2
   go_ret
   exact ⟨rfl, Below.refl _ _⟩
 have h1' : ¬ (12 : Int) < t.size := by omega
 cases h2 : isW t with
 | true =>
   have e : zb3 t = false := by simp [zb3, h2]
   rw [e]
   go_enter Tryz.func41, Tryz.ntmps41
   go_wp2_with (go_at_call 61; refine (zdu t _).mono ?_; rw [h2]; rintro e w2 ⟨rfl, hw2⟩; rw [<- hw2]; clear hw2 w2)
   go_ret
   exact ⟨rfl, Below.refl _ _⟩
 | false =>
   have hz0 : ((t.size : Int) == 0) = false := beq_eq_false_iff_ne.2 (by omega)
   have e : zb3 t = decide (∀ i, i < t.size -> ltB (bt t i) = true) := by unfold zb3; rw [decide_eq_true (show 1 <= t.size /\ t.size <= 12 by omega), h2]; rfl
   rw [e]
   go_enter Tryz.func41, Tryz.ntmps41
   go_wp2_with (go_at_call 61; refine (zdu t _).mono ?_; rw [h2]; rintro e w2 ⟨rfl, hw2⟩; rw [<- hw2]; clear hw2 w2)
   try simp only [hz0]
   go_loopw [] (fun wr => ∃ pos, wr = w.iter t pos /\ pos <= t.size /\ ∀ i, i < pos -> ltB (bt t i) = true) (fun wr => t.size - wr.iterPos w.heap.size)
   case atStart => exact ⟨0, rfl, Nat.zero_le _, fun i hi => absurd hi (Nat.not_lt_zero _)⟩
   case round =>
    obtain ⟨pos, rfl, hle, hp⟩ := hrel
    have HP : Hid (∀ i, i < pos -> ltB (bt t i) = true) := hp
    clear hp
    by_cases hlt : pos < t.size
    · have hnx : ∀ ty, (Instr.next (.pointer (some ⟨w.heap.size, 0, none⟩)) true ty).run Tryz.prog (w.iter t pos) = _ := fun ty => run_next_any w t pos ty hlt
      obtain ⟨d1, _, d3⟩ := zfy t pos hlt
      cases hq : ltB (bt t pos) with
      | true =>
        have HV : Hid (∀ i, i < pos + 1 -> ltB (bt t i) = true) := zpv HP.out hq
        rw [d3 (.inr hq)] at hnx
        rw [hq] at d1
        clear d3
        go_wp2_with (go_at_call 58; refine (zja _ _).mono ?_; rw [d1]; rintro e w3 ⟨rfl, hw3⟩; rw [<- hw3]; clear hw3 w3)
        go_roundw
        case rel => exact ⟨pos + 1, rfl, hlt, HV.out⟩
        case measure => simp; omega
      | false =>
        have en := zpu hlt hq
        rw [hq] at d1
        clear d3
        go_wp2_with (go_at_call 58; refine (zja _ _).mono ?_; rw [d1]; rintro e w3 ⟨rfl, hw3⟩; rw [<- hw3]; clear hw3 w3)
        go_ret
        exact ⟨by rw [en]; rfl, (Below.refl _ _).alloc (Nat.le_refl _) _⟩
    · have hnx : ∀ ty, (Instr.next (.pointer (some ⟨w.heap.size, 0, none⟩)) true ty).run Tryz.prog (w.iter t pos) = _ := fun ty => run_next_end w t pos ty hlt
      have en := zm0 (p := ltB) (fun i hi => HP.out i (by omega))
      go_wp2
      go_ret
      exact ⟨by rw [en]; rfl, (Below.refl _ _).alloc (Nat.le_refl _) _⟩
set_option maxHeartbeats 1000000 in
theorem zh3 (t : ByteArray) (w : World) (ht : t.size <= 1048576) :
 Calls Tryz.prog 40 #[.string t] w fun e w' => e = .returned (.bool (zb8 t)) /\ Below w.heap.size w w' := by
 have ht' : (t.size : Int) <= 1048576 := by omega
 go_enter Tryz.func40, Tryz.ntmps40
 go_wp2
 go_loopw [] (fun wr => ∃ pos, wr = w.iter t pos /\ pos <= t.size /\ ∀ i, i < pos -> plB (bt t i) = true) (fun wr => t.size - wr.iterPos w.heap.size)
 case atStart => exact ⟨0, rfl, Nat.zero_le _, fun i hi => absurd hi (Nat.not_lt_zero _)⟩
 case round =>
  obtain ⟨pos, rfl, hle, hp⟩ := hrel
  have HP : Hid (∀ i, i < pos -> plB (bt t i) = true) := hp
  clear hp
  by_cases hlt : pos < t.size
  · have hnx : ∀ ty, (Instr.next (.pointer (some ⟨w.heap.size, 0, none⟩)) true ty).run Tryz.prog (w.iter t pos) = _ := fun ty => run_next_any w t pos ty hlt
    obtain ⟨_, d1, d3⟩ := zfy t pos hlt
    cases hq : plB (bt t pos) with
    | true =>
      have HV : Hid (∀ i, i < pos + 1 -> plB (bt t i) = true) := zpv HP.out hq
      rw [d3 (.inl hq)] at hnx
      rw [hq] at d1
      clear d3
      go_wp2_with (go_at_call 66; refine (zgq _ _).mono ?_; rw [d1]; rintro e w3 ⟨rfl, hw3⟩; rw [<- hw3]; clear hw3 w3)
      go_roundw
      case rel => exact ⟨pos + 1, rfl, hlt, HV.out⟩
      case measure => simp; omega
    | false =>
      have e : zb8 t = false := by unfold zb8; rw [zpu hlt hq]; rfl
      rw [hq] at d1
      clear d3
      go_wp2_with (go_at_call 66; refine (zgq _ _).mono ?_; rw [d1]; rintro e w3 ⟨rfl, hw3⟩; rw [<- hw3]; clear hw3 w3)
      go_ret
      exact ⟨by rw [e]; rfl, (Below.refl _ _).alloc (Nat.le_refl _) _⟩
  · have hnx : ∀ ty, (Instr.next (.pointer (some ⟨w.heap.size, 0, none⟩)) true ty).run Tryz.prog (w.iter t pos) = _ := fun ty => run_next_end w t pos ty hlt
    have e : zb8 t = decide ((t.size : Int) <= 160) := by unfold zb8; rw [zm0 (fun i hi => HP.out i (by omega)), Bool.true_and]; exact decide_eq_decide.2 (by omega)
    go_wp2
    go_ret
    exact ⟨by rw [e]; rfl, (Below.refl _ _).alloc (Nat.le_refl _) _⟩
set_option maxHeartbeats 1000000 in
theorem zc4 (k : Int) (t : ByteArray) (i : Int) (a : Option Addr) (l c : Nat) (w : World) (ht : t.size <= 1048576) :
 Calls Tryz.prog 20 #[.agg #[.int .i64 k, .string t, .int .i64 i, .slice a l c]] w fun e w' => e = .returned (.bool (za3 k t)) /\ Below w.heap.size w w' := by
 have ht' : (t.size : Int) <= 1048576 := by omega
 by_cases h4 : k = 4
 · subst h4
   have e : za3 4 t = zb8 t := rfl
   rw [e]
   go_enter Tryz.func20, Tryz.ntmps20
   go_wp2_with (go_at_call 40; refine (zh3 t _ ht).mono ?_; rintro e w3 ⟨rfl, b3⟩)
   go_ret
   exact ⟨rfl, zat b3⟩
 by_cases h5 : k = 5 \/ k = 22 \/ k = 14 \/ k = 15
 · have e : za3 k t = zb3 t := by unfold za3; rw [if_neg h4, if_pos h5]
   rw [e]
   rcases h5 with rfl | rfl | rfl | rfl
   all_goals
    go_enter Tryz.func20, Tryz.ntmps20
    go_wp2_with (go_at_call 41; refine (zjr t _ ht).mono ?_; rintro e w3 ⟨rfl, b3⟩)
    go_ret
    exact ⟨rfl, zat b3⟩
 · have e : za3 k t = decide (t.size = 0) := by unfold za3; rw [if_neg h4, if_neg h5]
   have e2 : decide (t.size = 0) = t.toList.isEmpty := by
    rw [Bool.eq_iff_iff, decide_eq_true_iff, List.isEmpty_iff, <- List.length_eq_zero_iff, zlg]
   rw [e, e2]
   simp only [not_or] at h5
   obtain ⟨g1, g2, g3, g4⟩ := h5
   go_enter Tryz.func20, Tryz.ntmps20
   go_wp2
   go_ret
   exact ⟨rfl, zat (Below.refl _ _)⟩
set_option maxHeartbeats 1000000 in
theorem zer (k : Int) (t : ByteArray) (i : Int) (a : Option Addr) (l c : Nat) (w : World) :
 Calls Tryz.prog 21 #[.agg #[.int .i64 k, .string t, .int .i64 i, .slice a l c]] w fun e w' => e = .returned (.bool (zb1 k i)) /\ Below w.heap.size w w' := by
 by_cases h2 : k = 2
 · subst h2
   have e : zb1 2 i = decide (i = 0 \/ i = 1) := rfl
   rw [e]
   go_enter Tryz.func21, Tryz.ntmps21
   go_wp2
   all_goals
    go_ret
    exact ⟨by first | rfl | (simp; done) | (simp; rw [Bool.eq_iff_iff]; simp) | (simp; omega), zat (Below.refl _ _)⟩
 by_cases h3 : k = 3
 · subst h3
   have e : zb1 3 i = decide (0 <= i /\ i <= 999999999999999) := rfl
   rw [e]
   go_enter Tryz.func21, Tryz.ntmps21
   go_wp2
   all_goals
    go_ret
    exact ⟨by first | rfl | (simp; done) | (simp; rw [Bool.eq_iff_iff]; simp) | (simp; omega), zat (Below.refl _ _)⟩
 by_cases h10 : k = 10
 · subst h10
   have e : zb1 10 i = decide (1 <= i /\ i <= 10) := rfl
   rw [e]
   go_enter Tryz.func21, Tryz.ntmps21
   go_wp2
   all_goals
    go_ret
    exact ⟨by first | rfl | (simp; done) | (simp; rw [Bool.eq_iff_iff]; simp) | (simp; omega), zat (Below.refl _ _)⟩
 by_cases h11 : k = 11
 · subst h11
   have e : zb1 11 i = decide (1 <= i /\ i <= 3) := rfl
   rw [e]
   go_enter Tryz.func21, Tryz.ntmps21
   go_wp2
   all_goals
    go_ret
    exact ⟨by first | rfl | (simp; done) | (simp; rw [Bool.eq_iff_iff]; simp) | (simp; omega), zat (Below.refl _ _)⟩
 have e : zb1 k i = decide (i = 0) := by unfold zb1; rw [if_neg h2, if_neg h3, if_neg h10, if_neg h11]
 rw [e]
 go_enter Tryz.func21, Tryz.ntmps21
 go_wp2
 all_goals
  go_ret
  exact ⟨by first | rfl | (simp; done) | (simp; rw [Bool.eq_iff_iff]; simp) | (simp; omega), zat (Below.refl _ _)⟩
end Go.Proofs.YtiglkhkfbgjjoaaGreatDoor
