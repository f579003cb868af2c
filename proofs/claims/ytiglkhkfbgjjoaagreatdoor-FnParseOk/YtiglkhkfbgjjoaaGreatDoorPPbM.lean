/- - -/
import Derived.Test.YtiglkhkfbgjjoaaGreatDoorPPbK
import Derived.Test.YtiglkhkfbgjjoaaGreatDoorPLxJ
namespace Go.Proofs.YtiglkhkfbgjjoaaGreatDoor
set_option maxRecDepth 20000
open Go.RowKit Go.PlainAid Go.Maps
set_option linter.unusedSimpArgs false
set_option linter.unusedVariables false
def zb4 : List (List UInt8 × Nat × Int × Int) := [([111, 114], 1, 13, 0), ([97, 110, 100], 2, 12, 0), ([61, 61], 3, 10, 7), ([126, 61], 3, 10, 8), ([60], 3, 10, 9), ([60, 61], 3, 10, 10), ([46, 46], 4, 10, 6), ([43], 5, 10, 1), ([45], 5, 10, 2), ([42], 6, 10, 3), ([47], 6, 10, 4), ([37], 6, 10, 5)]
theorem zf7 (x : za) : opT x = (0, 0, 0) \/ ((x.k == 2 || x.k == 5) = true /\ ∃ p ∈ zb4, x.tx.data.toList = p.1 /\ opT x = p.2) := by
 cases hk : (x.k == 2 || x.k == 5) with
 | false => left; simp only [opT, isT, hk, Bool.false_and, Bool.false_eq_true, ↓reduceIte]
 | true =>
   simp only [opT, isT, hk, Bool.true_and, beq_iff_eq, ByteArray.toList_eq]
   generalize x.tx.data.toList = l
   by_cases h0 : l = [111, 114]
   · right; exact ⟨trivial, ([111, 114], 1, 13, 0), by simp [zb4], h0, by subst h0; decide⟩
   by_cases h1 : l = [97, 110, 100]
   · right; exact ⟨trivial, ([97, 110, 100], 2, 12, 0), by simp [zb4], h1, by subst h1; decide⟩
   by_cases h2 : l = [61, 61]
   · right; exact ⟨trivial, ([61, 61], 3, 10, 7), by simp [zb4], h2, by subst h2; decide⟩
   by_cases h3 : l = [126, 61]
   · right; exact ⟨trivial, ([126, 61], 3, 10, 8), by simp [zb4], h3, by subst h3; decide⟩
   by_cases h4 : l = [60]
   · right; exact ⟨trivial, ([60], 3, 10, 9), by simp [zb4], h4, by subst h4; decide⟩
   by_cases h5 : l = [60, 61]
   · right; exact ⟨trivial, ([60, 61], 3, 10, 10), by simp [zb4], h5, by subst h5; decide⟩
   by_cases h6 : l = [46, 46]
   · right; exact ⟨trivial, ([46, 46], 4, 10, 6), by simp [zb4], h6, by subst h6; decide⟩
   by_cases h7 : l = [43]
   · right; exact ⟨trivial, ([43], 5, 10, 1), by simp [zb4], h7, by subst h7; decide⟩
   by_cases h8 : l = [45]
   · right; exact ⟨trivial, ([45], 5, 10, 2), by simp [zb4], h8, by subst h8; decide⟩
   by_cases h9 : l = [42]
   · right; exact ⟨trivial, ([42], 6, 10, 3), by simp [zb4], h9, by subst h9; decide⟩
   by_cases h10 : l = [47]
   · right; exact ⟨trivial, ([47], 6, 10, 4), by simp [zb4], h10, by subst h10; decide⟩
   by_cases h11 : l = [37]
   · right; exact ⟨trivial, ([37], 6, 10, 5), by simp [zb4], h11, by subst h11; decide⟩
   left
   simp only [h0, h1, h2, h3, h4, h5, h6, h7, h8, h9, h10, h11, ↓reduceIte]
theorem lvT (x : za) (l : Nat) (hl : 1 <= l) : (if l <= 1 /\ [(⟨#[111, 114]⟩ : ByteArray)].any (isT x) = true then 1 else if l <= 2 /\ [(⟨#[97, 110, 100]⟩ : ByteArray)].any (isT x) = true then 2 else if l <= 3 /\ [(⟨#[61, 61]⟩ : ByteArray), ⟨#[126, 61]⟩, ⟨#[60]⟩, ⟨#[60, 61]⟩].any (isT x) = true then 3 else if l <= 4 /\ [(⟨#[46, 46]⟩ : ByteArray)].any (isT x) = true then 4 else if l <= 5 /\ [(⟨#[43]⟩ : ByteArray), ⟨#[45]⟩].any (isT x) = true then 5 else if l <= 6 /\ [(⟨#[42]⟩ : ByteArray), ⟨#[47]⟩, ⟨#[37]⟩].any (isT x) = true then 6 else 0) = if l <= (opT x).1 then (opT x).1 else 0 := by
 cases hk : (x.k == 2 || x.k == 5) with
 | false =>
   simp only [opT, isT, hk, Bool.false_and, List.any_cons, List.any_nil, Bool.or_false, Bool.false_eq_true, and_false, ↓reduceIte]
   split <;> rfl
 | true =>
   simp only [opT, isT, hk, Bool.true_and, beq_iff_eq, ByteArray.toList_eq, List.any_cons, List.any_nil, Bool.or_false, Bool.or_eq_true]
   generalize x.tx.data.toList = y
   by_cases h0 : y = [111, 114]
   · subst h0
     simp (config := { decide := true }) only [true_and, and_true, false_or, or_false, or_true, true_or, and_false, ↓reduceIte]
     try (split <;> first | rfl | (split <;> rfl) | omega)
   by_cases h1 : y = [97, 110, 100]
   · subst h1
     simp (config := { decide := true }) only [true_and, and_true, false_or, or_false, or_true, true_or, and_false, ↓reduceIte]
     try (split <;> first | rfl | (split <;> rfl) | omega)
   by_cases h2 : y = [61, 61]
   · subst h2
     simp (config := { decide := true }) only [true_and, and_true, false_or, or_false, or_true, true_or, and_false, ↓reduceIte]
     try (split <;> first | rfl | (split <;> rfl) | omega)
   by_cases h3 : y = [126, 61]
   · subst h3
     simp (config := { decide := true }) only [true_and, and_true, false_or, or_false, or_true, true_or, and_false, ↓reduceIte]
     try (split <;> first | rfl | (split <;> rfl) | omega)
   by_cases h4 : y = [60]
   · subst h4
     simp (config := { decide := true }) only [true_and, and_true, false_or, or_false, or_true, true_or, and_false, ↓reduceIte]
     try (split <;> first | rfl | (split <;> rfl) | omega)
   by_cases h5 : y = [60, 61]
   · subst h5
     simp (config := { decide := true }) only [true_and, and_true, false_or, or_false, or_true, true_or, and_false, ↓reduceIte]
     try (split <;> first | rfl | (split <;> rfl) | omega)
   by_cases h6 : y = [46, 46]
   · subst h6
     simp (config := { decide := true }) only [true_and, and_true, false_or, or_false, or_true, true_or, and_false, ↓reduceIte]
     try (split <;> first | rfl | (split <;> rfl) | omega)
   by_cases h7 : y = [43]
   · subst h7
     simp (config := { decide := true }) only [true_and, and_true, false_or, or_false, or_true, true_or, and_false, ↓reduceIte]
     try (split <;> first | rfl | (split <;> rfl) | omega)
   by_cases h8 : y = [45]
   · subst h8
     simp (config := { decide := true }) only [true_and, and_true, false_or, or_false, or_true, true_or, and_false, ↓reduceIte]
     try (split <;> first | rfl | (split <;> rfl) | omega)
   by_cases h9 : y = [42]
   · subst h9
     simp (config := { decide := true }) only [true_and, and_true, false_or, or_false, or_true, true_or, and_false, ↓reduceIte]
     try (split <;> first | rfl | (split <;> rfl) | omega)
   by_cases h10 : y = [47]
   · subst h10
     simp (config := { decide := true }) only [true_and, and_true, false_or, or_false, or_true, true_or, and_false, ↓reduceIte]
     try (split <;> first | rfl | (split <;> rfl) | omega)
   by_cases h11 : y = [37]
   · subst h11
     simp (config := { decide := true }) only [true_and, and_true, false_or, or_false, or_true, true_or, and_false, ↓reduceIte]
     try (split <;> first | rfl | (split <;> rfl) | omega)
   simp only [h0, h1, h2, h3, h4, h5, h6, h7, h8, h9, h10, h11, or_false, and_false, ↓reduceIte]
   split <;> rfl
theorem zud (ts : List za) (l : Nat) (s : PS) (hl : 1 <= l) : lvN ts l s = if l <= (zi ts s).1 then (zi ts s).1 else 0 := by
 unfold lvN zai isN zi
 cases ts[s.i]? with
 | none =>
   simp only [List.any_cons, List.any_nil, Bool.or_false, Bool.false_eq_true, and_false, ↓reduceIte]
   split <;> rfl
 | some x => exact lvT x l hl
theorem zkx {ts : List za} {r : Rd} (hr : zk ts r) {level : Nat} (hl : level ≠ 0) : ∀ (n m : Nat) (a : Int) (s : PS), ts.length < s.i + n -> ts.length < s.i + m -> s.i <= ts.length -> mlp ts r level n a s = mlp ts r level m a s
 | 0, m, a, s, h1, h2, h3 => absurd h1 (by omega)
 | n + 1, 0, a, s, h1, h2, h3 => absurd h2 (by omega)
 | n + 1, m + 1, a, s, h1, h2, h3 => by
   unfold mlp
   by_cases h : (zi ts s).1 = level
   · rw [if_pos h, if_pos h]
     rcases e : r.lv (level + 1) (adv s) with ⟨y⟩ | ⟨b, s1⟩
     · rfl
     · have o := (hr.lv e).1
       have o1 := o.1
       have o2 := o.2.1
       have i1 : (adv s).i = s.i + 1 := rfl
       simp only
       by_cases h3 : level = 3
       · rw [if_pos h3, if_pos h3]
       · rw [if_neg h3, if_neg h3]
         refine zkx hr hl n m _ _ ?_ ?_ ?_
         · show ts.length < s1.i + n
           omega
         · show ts.length < s1.i + m
           omega
         · exact o2
   · rw [if_neg h, if_neg h]
theorem zky {ts : List za} {r : Rd} {level n : Nat} {a : Int} {s : PS} (h : (zi ts s).1 ≠ level) : mlp ts r level (n + 1) a s = .ok (a, s) := by
 unfold mlp
 rw [if_neg h]
theorem zgy {ts : List za} {r : Rd} {lv : Nat} {a : Int} {s : PS} : ∀ (g : Nat), (∀ h, lv <= h -> h <= g -> 1 <= h -> (zi ts s).1 ≠ h) -> zaj ts r lv g a s = .ok (a, s)
 | 0, h => rfl
 | g + 1, h => by
   unfold zaj
   by_cases e : g + 1 < lv
   · rw [if_pos e]
   · rw [if_neg e, zky (h (g + 1) (by omega) (by omega) (by omega))]
     exact zgy g fun k h1 h2 => h k h1 (by omega)
theorem zqq {ts : List za} {r : Rd} (hr : zk ts r) {lv l : Nat} (hl : lv <= l) (h1 : 1 <= l) {a : Int} {s : PS} (ho : (zi ts s).1 = l) (hi : s.i <= ts.length) : zaj ts r lv l a s = match r.lv (l + 1) (adv s) with
 | .error x => .error x
 | .ok (b, s1) => zaj ts r lv (if l = 3 then 2 else l) (zb (zi ts s).2.1 eT (zi ts s).2.2 [a, b] s1).1 (zb (zi ts s).2.1 eT (zi ts s).2.2 [a, b] s1).2 := by
 obtain ⟨k, rfl⟩ : ∃ k, l = k + 1 := ⟨l - 1, by omega⟩
 rw [zaj, if_neg (by omega)]
 rw [mlp, if_pos ho]
 rcases e : r.lv (k + 1 + 1) (adv s) with ⟨y⟩ | ⟨b, s1⟩
 · rfl
 · have o := (hr.lv e).1
   have o1 := o.1
   have o2 := o.2.1
   have i1 : (adv s).i = s.i + 1 := rfl
   simp only
   by_cases h3 : k + 1 = 3
   · rw [if_pos h3, if_pos h3]
     obtain rfl : k = 2 := by omega
     rfl
   · rw [if_neg h3, if_neg h3, zaj, if_neg (by omega)]
     rw [zkx hr (show k + 1 ≠ 0 by omega) ts.length (ts.length + 1) (zb (zi ts s).2.1 eT (zi ts s).2.2 [a, b] s1).1 (zb (zi ts s).2.1 eT (zi ts s).2.2 [a, b] s1).2 (by show ts.length < s1.i + ts.length; omega) (by show ts.length < s1.i + (ts.length + 1); omega) o2]
theorem zkz {ts : List za} {r : Rd} {lv l : Nat} {a : Int} {s : PS} (ho : (zi ts s).1 = l) (hl : lv <= l) : ∀ (g : Nat), l <= g -> zaj ts r lv g a s = zaj ts r lv l a s
 | 0, h => by
   obtain rfl : l = 0 := by omega
   rfl
 | g + 1, h => by
   by_cases e : l = g + 1
   · rw [e]
   · rw [zaj, if_neg (by omega), zky (by omega)]
     exact zkz ho hl g (by omega)
theorem zqr {ts : List za} {r : Rd} (hr : zk ts r) {lv l g : Nat} (hl : lv <= l) (h1 : 1 <= l) (hg : l <= g) {a : Int} {s : PS} (ho : (zi ts s).1 = l) (hi : s.i <= ts.length) : zaj ts r lv g a s = match r.lv (l + 1) (adv s) with
 | .error x => .error x
 | .ok (b, s1) => zaj ts r lv (if l = 3 then 2 else l) (zb (zi ts s).2.1 eT (zi ts s).2.2 [a, b] s1).1 (zb (zi ts s).2.1 eT (zi ts s).2.2 [a, b] s1).2 := by
 rw [zkz ho hl g hg]
 exact zqq hr hl h1 ho hi
theorem zrn : Tryz.prog.underlying 117 = some (.array 11 9) := by kernel_rfl
def zgz (M : Nat -> ByteArray) : Array Value := ((List.range 11).map fun j => Value.string (M j)).toArray
theorem zs0 (M : Nat -> ByteArray) {j : Nat} (h : j < 11) : (zgz M)[j]? = some (.string (M j)) := by
 unfold zgz
 simp [h]
theorem zqs (M : Nat -> ByteArray) {j : Nat} (hj : j < 11) (w : World) : (Instr.index 117 (.agg (zgz M)) (.int .i64 (j : Int))).run Tryz.prog w = .ok (.string (M j)) w := by
 have hn : 0 <= (j : Int) /\ (j : Int) < (11 : Nat) := by omega
 have e := zs0 M hj
 simp [Instr.index, run_underlying zrn, asIntOf, hn, go_sem, e]
 omega
theorem zpa : (Tryz.prog.info? 117).map (·.size) = some 11 := by kernel_rfl
theorem zs1 (M : Nat -> ByteArray) (w : World) (hc : ∀ i, i < 11 -> w.cell? ⟨2, i, none⟩ = some (.string (M i))) : (Instr.loadAt 117 (.pointer (some ⟨2, 0, none⟩))).run Tryz.prog w = .ok (.agg (zgz M)) w := by
 have hl := run_loadCells (P := Tryz.prog) w ⟨2, 0, none⟩ 11 (fun j => Value.string (M j)) (fun j hj => by rw [Addr.add_lit, Nat.zero_add]; exact hc j hj)
 cases hq : Tryz.prog.info? 117 with
 | none => have := zpa; rw [hq] at this; cases this
 | some i =>
   have hs : i.size = 11 := by have := zpa; rw [hq] at this; simpa using this
   have hagg : (isAgg 117).run Tryz.prog w = .ok true w := by
    unfold isAgg
    rw [Sem.run_bind, run_underlying zrn w]
    simp
   simp [Instr.loadAt, Instr.sureAddr, loadVar, Sem.run_bind, hagg, sizeOf, typeInfo, hq, hs, hl, zgz]
def zdo (M : Nat -> ByteArray) (y : ByteArray) : Nat -> Int
 | 0 => 0
 | n + 1 => if ((M n).toList == y.toList) = true then (n : Int) else zdo M y n
set_option maxHeartbeats 1000000 in
theorem zs2 (M : Nat -> ByteArray) (y : ByteArray) (w : World) (hc : ∀ i, i < 11 -> w.cell? ⟨2, i, none⟩ = some (.string (M i))) :
 Calls Tryz.prog 120 #[.string y] w fun e w' => e = .returned (.int .i64 (zdo M y 11)) /\ w = w' := by
 have HL := zs1 M w hc
 have HI : ∀ (j : Nat) W, j < 11 -> (Instr.index 117 (.agg (zgz M)) (.int .i64 (j : Int))).run Tryz.prog W = .ok (.string (M j)) W := fun j W hj => zqs M hj W
 generalize zgz M = A at HL HI
 have HII : Hid _ := HI
 clear hc HI
 go_enter Tryz.func120, Tryz.ntmps120
 go_wp2_with (refine zfb rfl _ _ rfl _ HL ?_)
 go_loopw [3, 7] (fun p q wr => wr = w /\ ∃ j : Nat, q = .int .i64 j /\ j <= 11 /\ ∃ z, p = .int .i64 z /\ Hid (z = zdo M y j)) (fun _ q _ => 11 - (intOf q).toNat)
 case atStart => exact ⟨rfl, 0, by go_num, by omega, 0, rfl, rfl⟩
 case round =>
  obtain ⟨rfl, j, rfl, hj, z, rfl, hz⟩ := hrel
  by_cases hlt : j < 11
  · have hlt' : (j : Int) < 11 := by omega
    have hi := HII.out j wr hlt
    cases hq : ((M j).toList == y.toList) with
    | true =>
      have HV : Hid ((j : Int) = zdo M y (j + 1)) := by show (j : Int) = zdo M y (j + 1); rw [zdo, if_pos hq]
      clear hz HII
      generalize M j = m at hi hq
      go_wp2
      go_roundw
      case rel => exact ⟨by first | rfl | trivial, j + 1, by go_num, by omega, _, rfl, HV⟩
      case measure => simp [intOf]; omega
    | false =>
      have HV : Hid (z = zdo M y (j + 1)) := by show z = zdo M y (j + 1); rw [zdo, if_neg (by rw [hq]; decide)]; exact hz.out
      clear hz HII
      generalize M j = m at hi hq
      go_wp2
      go_roundw
      case rel => exact ⟨by first | rfl | trivial, j + 1, by go_num, by omega, _, rfl, HV⟩
      case measure => simp [intOf]; omega
  · have hlt' : ¬ (j : Int) < 11 := by omega
    obtain rfl : j = 11 := by omega
    go_wp2
    go_ret
    exact ⟨by rw [<- hz.out]; rfl, rfl⟩
def opM (i : Nat) : ByteArray := opL.getD i ⟨#[]⟩
theorem zs3 {rb : Nat} {w : World} (h : zcl rb w) (x : za) (hk : (opT x).2.1 = 10) :
 Calls Tryz.prog 120 #[.string x.tx] w fun e w' => e = .returned (.int .i64 (opT x).2.2) /\ w = w' := by
 refine (zs2 opM x.tx w (fun i hi => h.op i _ ?_)).mono fun e w' ⟨h1, h2⟩ => ⟨?_, h2⟩
 · unfold opM
   rw [List.getD_eq_getElem?_getD, List.getElem?_eq_getElem (by simpa [opL] using hi)]
   rfl
 · rw [h1]
   rcases zf7 x with e | ⟨_, p, hp, e1, e2⟩
   · rw [e] at hk; exact absurd hk (by decide)
   · rw [e2] at hk ⊢
     have : zdo opM x.tx 11 = p.2.2.2 := by
      simp only [zdo, ByteArray.toList_eq, e1]
      simp only [zb4, List.mem_cons, List.not_mem_nil, or_false] at hp
      rcases hp with rfl | rfl | rfl | rfl | rfl | rfl | rfl | rfl | rfl | rfl | rfl | rfl
      all_goals first | (exact absurd hk (by decide)) | decide
     rw [this]
set_option maxHeartbeats 4000000 in
theorem St.op {rb : Nat} {ts : List za} {tv : Value} {en : Nat} {w w1 : World} {v v1 : Value} {kv K : List Value} {s1 : PS} (h : St rb ts tv en w v kv w1 v1 K s1) (x : za) (hx : (opT x).1 ≠ 0) (a b : Int) (hn : s1.ns.length <= 100000) :
 Calls Tryz.prog 113 #[.pointer (some ⟨rb, 0, none⟩), .string x.tx, .int .i64 a, .int .i64 b] w1 fun e w2 => e = .returned (.int .i64 (zb (opT x).2.1 eT (opT x).2.2 [a, b] s1).1) /\ ∃ v2 K2, St rb ts tv en w v kv w2 v2 K2 (zb (opT x).2.1 eT (opT x).2.2 [a, b] s1).2 := by
 have HS : Hid (St rb ts tv en w v kv w1 v1 K s1) := h
 have HO : Hid ((opT x).2.1 = 10 -> _) := fun hk => zs3 h.rd.tb x hk
 have HN : Hid (s1.ns.length <= 100000) := hn
 clear hn
 rcases zf7 x with e | ⟨_, p, hp, e1, e2⟩
 · rw [e] at hx; exact absurd rfl hx
 rw [<- ByteArray.toList_eq] at e1
 rw [e2] at HO ⊢
 clear h hx e2
 by_cases k1 : p.2.2.1 = 13
 · have q1 : (x.tx.toList == [111, 114]) = true := by
    simp only [zb4, List.mem_cons, List.not_mem_nil, or_false] at hp
    rw [e1]
    rcases hp with rfl | rfl | rfl | rfl | rfl | rfl | rfl | rfl | rfl | rfl | rfl | rfl
    all_goals first | (exact absurd k1 (by decide)) | decide
   have q2 : p.2.2.2 = 0 := by
    simp only [zb4, List.mem_cons, List.not_mem_nil, or_false] at hp
    rcases hp with rfl | rfl | rfl | rfl | rfl | rfl | rfl | rfl | rfl | rfl | rfl | rfl
    all_goals first | (exact absurd k1 (by decide)) | decide
   rw [k1, q2]
   generalize x.tx = tx at q1
   clear HO e1 hp
   go_enter Tryz.func113, Tryz.ntmps113
   go_wp2_with (go_at_call 31; refine (HS.out.add [a, b] 13 eT 0 (by simp) (by exact HN.out) _ _ _ rfl rfl rfl).mono ?_; rintro e w2 ⟨rfl, v2, K2, h2⟩; have H2 : Hid (St rb ts tv en w v kv w2 v2 K2 (zb 13 eT 0 [a, b] s1).2) := h2; clear h2)
   go_ret
   exact ⟨rfl, _, _, H2.out⟩
 have f1 : (x.tx.toList == [111, 114]) = false := by
  simp only [zb4, List.mem_cons, List.not_mem_nil, or_false] at hp
  rw [e1]
  rcases hp with rfl | rfl | rfl | rfl | rfl | rfl | rfl | rfl | rfl | rfl | rfl | rfl
  all_goals first | (exact absurd rfl k1) | decide
 by_cases k2 : p.2.2.1 = 12
 · have q1 : (x.tx.toList == [97, 110, 100]) = true := by
    simp only [zb4, List.mem_cons, List.not_mem_nil, or_false] at hp
    rw [e1]
    rcases hp with rfl | rfl | rfl | rfl | rfl | rfl | rfl | rfl | rfl | rfl | rfl | rfl
    all_goals first | (exact absurd k2 (by decide)) | decide
   have q2 : p.2.2.2 = 0 := by
    simp only [zb4, List.mem_cons, List.not_mem_nil, or_false] at hp
    rcases hp with rfl | rfl | rfl | rfl | rfl | rfl | rfl | rfl | rfl | rfl | rfl | rfl
    all_goals first | (exact absurd k2 (by decide)) | decide
   rw [k2, q2]
   generalize x.tx = tx at q1 f1
   clear HO e1 hp
   go_enter Tryz.func113, Tryz.ntmps113
   go_wp2_with (go_at_call 31; refine (HS.out.add [a, b] 12 eT 0 (by simp) (by exact HN.out) _ _ _ rfl rfl rfl).mono ?_; rintro e w2 ⟨rfl, v2, K2, h2⟩; have H2 : Hid (St rb ts tv en w v kv w2 v2 K2 (zb 12 eT 0 [a, b] s1).2) := h2; clear h2)
   go_ret
   exact ⟨rfl, _, _, H2.out⟩
 have f2 : (x.tx.toList == [97, 110, 100]) = false := by
  simp only [zb4, List.mem_cons, List.not_mem_nil, or_false] at hp
  rw [e1]
  rcases hp with rfl | rfl | rfl | rfl | rfl | rfl | rfl | rfl | rfl | rfl | rfl | rfl
  all_goals first | (exact absurd rfl k2) | decide
 have q2 : p.2.2.1 = 10 := by
  simp only [zb4, List.mem_cons, List.not_mem_nil, or_false] at hp
  rcases hp with rfl | rfl | rfl | rfl | rfl | rfl | rfl | rfl | rfl | rfl | rfl | rfl
  all_goals first | (exact absurd rfl k1) | (exact absurd rfl k2) | decide
 have HC := HO.out q2
 rw [q2]
 generalize p.2.2.2 = z at HC
 have HCC : Hid (Calls _ _ _ _ _) := HC
 generalize x.tx = tx at HCC f1 f2
 clear HO HC e1 hp k1 k2
 go_enter Tryz.func113, Tryz.ntmps113
 go_wp2_with (go_at_call 120; refine HCC.out.mono ?_; rintro e wx ⟨rfl, hwx⟩; subst hwx)
 go_wp2_with (go_at_call 31; refine (HS.out.add [a, b] 10 eT z (by simp) (by exact HN.out) _ _ _ rfl rfl rfl).mono ?_; rintro e w2 ⟨rfl, v2, K2, h2⟩; have H2 : Hid (St rb ts tv en w v kv w2 v2 K2 (zb 10 eT z [a, b] s1).2) := h2; clear h2)
 go_ret
 exact ⟨rfl, _, _, H2.out⟩
theorem zsz (ts : List za) (s : PS) : (zi ts s).1 <= 6 := by
 unfold zi
 cases ts[s.i]? with
 | none => simp
 | some x =>
   simp only
   rcases zf7 x with e | ⟨_, p, hp, _, e⟩
   · rw [e]; simp
   · rw [e]
     simp only [zb4, List.mem_cons, List.not_mem_nil, or_false] at hp
     rcases hp with rfl | rfl | rfl | rfl | rfl | rfl | rfl | rfl | rfl | rfl | rfl | rfl <;> decide
theorem St.level {rb : Nat} {ts : List za} {tv : Value} {en : Nat} {w w1 : World} {v v1 : Value} {kv K : List Value} {s1 : PS} (h : St rb ts tv en w v kv w1 v1 K s1) (l : Nat) (h1 : 1 <= l) (h7 : l <= 7) (z : Nat) (hz : (if l <= (zi ts s1).1 then (zi ts s1).1 else 0) = z) :
 Calls Tryz.prog 112 #[.pointer (some ⟨rb, 0, none⟩), .int .i64 (l : Int)] w1 fun e w2 => e = .returned (.int .i64 (z : Int)) /\ St rb ts tv en w v kv w2 v1 K s1 := by
 rw [<- zud ts l s1 h1] at hz
 subst hz
 obtain rfl | rfl | rfl | rfl | rfl | rfl | rfl : l = 1 \/ l = 2 \/ l = 3 \/ l = 4 \/ l = 5 \/ l = 6 \/ l = 7 := by omega
 · exact h.level1
 · exact h.level2
 · exact h.level3
 · exact h.level4
 · exact h.level5
 · exact h.level6
 · exact h.level7
set_option maxHeartbeats 4000000 in
theorem zkw {rb : Nat} {ts : List za} {tv : Value} {en : Nat} {r : Rd} {n : Nat} (hr : RP rb ts tv en r n) (hro : zk ts r) (l : Nat) (hl1 : 1 <= l) (hl7 : l <= 7) (w : World) (v : Value) (kv : List Value) (s : PS) (h : Rdr rb ts tv en w v kv s) (hp : s.ns.length <= 8 * s.i) (hf : ts.length < s.i + (n + 1)) :
 Calls Tryz.prog 102 #[.pointer (some ⟨rb, 0, none⟩), .int .i64 (l : Int)] w (RdE rb ts tv en w v kv (lvP ts en r l s)) := by
 have HS0 : Hid (St rb ts tv en w v kv w v [] s) := St.begin h
 have HTn : Hid (Calls Tryz.prog 111 #[.pointer (some ⟨rb, 0, none⟩)] w (RdE rb ts tv en w v (kv ++ []) (tnP ts en r s))) := zi6 hr hro w v (kv ++ []) s HS0.out.rd hp hf
 have HR : Hid (RP rb ts tv en r n) := hr
 have HRO : Hid (zk ts r) := hro
 have hT : ts.length <= 3000 := h.tl
 have hI : s.i <= ts.length := h.il
 clear h hr hro
 rcases e1 : tnP ts en r s with ⟨y⟩ | ⟨a0, s1⟩
 · have HE : Hid (lvP ts en r l s = .error y) := by show lvP ts en r l s = _; unfold lvP; rw [e1]
   rw [e1] at HTn
   go_enter Tryz.func102, Tryz.ntmps102
   go_wp2_with (go_at_call 111; refine (HS0.out.no HTn.out rfl).mono ?_; rintro e w5 ⟨he, b5⟩; unfold pan at he; subst he; have HB : Hid (Below rb w w5) := b5; clear b5)
   exact ⟨rfl, RdE.no HB.out HE.out⟩
 have o1 := zf2 ts en HRO.out e1
 have p1 := o1.1.phi hp
 have t1 := o1.1.2.1
 have j1 := o1.1.1
 have HE : Hid (lvP ts en r l s = zaj ts r l 6 a0 s1) := by show lvP ts en r l s = _; unfold lvP; rw [e1]
 rw [e1] at HTn
 clear o1 e1
 go_enter Tryz.func102, Tryz.ntmps102
 go_wp2_with (go_at_call 111; refine (HS0.out.yes HTn.out rfl).mono ?_; rintro e w1 ⟨rfl, v1, K1, h1⟩; have HS1 : Hid (St rb ts tv en w v kv w1 v1 K1 s1) := h1; clear h1 HS0 HTn)
 go_loopw [5, 6] (fun p q wr => ∃ (a : Int) (g : Nat) (s' : PS) (v' : Value) (K' : List Value), p = .int .i64 a /\ q = .int .i64 (g : Int) /\ g <= 6 /\ Hid (St rb ts tv en w v kv wr v' K' s') /\ Hid (lvP ts en r l s = zaj ts r l g a s') /\ s'.ns.length <= 8 * s'.i /\ s.i < s'.i) (fun _ _ wr => ts.length - zca rb wr)
 case atStart => exact ⟨a0, 6, s1, v1, K1, rfl, by go_num, by omega, HS1.out, HE.out, by omega, j1⟩
 case round =>
  clear HS1 HE
  obtain ⟨a, g, s', v', K', rfl, rfl, hg6, HS2, HE, hp2, hi2⟩ := hrel
  have hI2 : s'.i <= ts.length := HS2.out.rd.il
  have hq2 : Hid (zca rb wr = s'.i) := zbm HS2.out.rd
  have hg6' : (g : Int) <= 6 := by omega
  obtain ⟨L, hL⟩ : ∃ L, (zi ts s').1 = L := ⟨_, rfl⟩
  have hL6 := zsz ts s'
  rw [hL] at hL6
  by_cases c1 : l <= L
  rotate_left
  · have HV : Hid (lvP ts en r l s = .ok (a, s')) := HE.out.trans (zgy g fun h h1 h2 h3 => by omega)
    have HZ : Hid ((if l <= (zi ts s').1 then (zi ts s').1 else 0) = 0) := by show (if l <= (zi ts s').1 then (zi ts s').1 else 0) = 0; rw [hL, if_neg c1]
    go_wp2_with (go_at_call 112; refine (HS2.out.level l hl1 hl7 0 HZ.out).mono ?_; rintro e w2 ⟨rfl, h2⟩; have HS3 : Hid (St rb ts tv en w v kv w2 v' K' s') := h2; clear h2 HS2)
    go_ret
    exact RdE.yes HS3.out HV.out
  have HZ : Hid ((if l <= (zi ts s').1 then (zi ts s').1 else 0) = L) := by show (if l <= (zi ts s').1 then (zi ts s').1 else 0) = L; rw [hL, if_pos c1]
  have hL1 : 1 <= L := by omega
  have z0 : ((L : Int) == 0) = false := by simp; omega
  by_cases c2 : L <= g
  rotate_left
  · have c2' : (g : Int) < (L : Int) := by omega
    have HV : Hid (lvP ts en r l s = .ok (a, s')) := HE.out.trans (zgy g fun h h1 h2 h3 => by omega)
    go_wp2_with (go_at_call 112; refine (HS2.out.level l hl1 hl7 L HZ.out).mono ?_; rintro e w2 ⟨rfl, h2⟩; have HS3 : Hid (St rb ts tv en w v kv w2 v' K' s') := h2; clear h2 HS2)
    go_ret
    exact RdE.yes HS3.out HV.out
  have c2' : (L : Int) <= (g : Int) := by omega
  have hlt : s'.i < ts.length := zie ts (by rw [hL]; omega)
  obtain ⟨x, hx⟩ : ∃ x, ts[s'.i]? = some x := ⟨_, List.getElem?_eq_getElem hlt⟩
  have hox : zi ts s' = opT x := by unfold zi; rw [hx]
  have HX : Hid ((opT x).1 ≠ 0) := by show (opT x).1 ≠ 0; rw [<- hox, hL]; omega
  have HE2 : Hid (lvP ts en r l s = match r.lv (L + 1) (adv s') with
   | .error x => .error x
   | .ok (b, s1) => zaj ts r l (if L = 3 then 2 else L) (zb (opT x).2.1 eT (opT x).2.2 [a, b] s1).1 (zb (opT x).2.1 eT (opT x).2.2 [a, b] s1).2) := by
   rw [<- hox]
   exact HE.out.trans (zqr HRO.out c1 hL1 c2 hL hI2)
  have hfx := zgs x.k (x.at_ : Int) x.n x.tx
  clear HE hox
  have pa : (adv s').ns.length <= 8 * (adv s').i := Nat.le_trans hp2 (Nat.mul_le_mul_left 8 (Nat.le_succ _))
  have ia : (adv s').i = s'.i + 1 := rfl
  go_wp2_with (go_at_call 112; refine (HS2.out.level l hl1 hl7 L HZ.out).mono ?_; rintro e w2 ⟨rfl, h2⟩; have HS3 : Hid (St rb ts tv en w v kv w2 v' K' s') := h2; clear h2 HS2)
  go_wp2_with (go_at_call 100; refine (HS3.out.take x hx).mono ?_; rintro e w3 ⟨rfl, h3⟩; have HS4 : Hid (St rb ts tv en w v kv w3 v' K' (adv s')) := h3; clear h3 HS3)
  have hLs : ((L : Int) + 1) = ((L + 1 : Nat) : Int) := by omega
  have HCl : Hid (Calls Tryz.prog 102 #[.pointer (some ⟨rb, 0, none⟩), .int .i64 ((L : Int) + 1)] w3 (RdE rb ts tv en w3 v' (kv ++ K') (r.lv (L + 1) (adv s')))) := by
   show Calls _ _ _ _ _
   rw [hLs]
   exact HR.out.lv (L + 1) (by omega) (by omega) _ _ _ _ HS4.out.rd pa (by omega)
  clear hLs
  rcases e5 : r.lv (L + 1) (adv s') with ⟨y⟩ | ⟨b, s5⟩
  · rw [e5] at HE2 HCl
    go_wp2_with (go_at_call 102; refine (HS4.out.no HCl.out rfl).mono ?_; rintro e w5 ⟨he, b5⟩; unfold pan at he; subst he; have HB : Hid (Below rb w w5) := b5; clear b5)
    exact ⟨rfl, RdE.no HB.out HE2.out⟩
  have o5 := HRO.out.lv e5
  have p5 := o5.1.phi pa
  have t5 := o5.1.2.1
  have j5 := o5.1.1
  rw [e5] at HE2 HCl
  clear o5 e5
  have HN5 : Hid (s5.ns.length <= 100000) := by show s5.ns.length <= 100000; omega
  have HE3 : Hid (lvP ts en r l s = zaj ts r l (if L = 3 then 2 else L) (zb (opT x).2.1 eT (opT x).2.2 [a, b] s5).1 (zb (opT x).2.1 eT (opT x).2.2 [a, b] s5).2) := HE2.out
  have i6 : (zb (opT x).2.1 eT (opT x).2.2 [a, b] s5).2.i = s5.i := rfl
  have n6 : (zb (opT x).2.1 eT (opT x).2.2 [a, b] s5).2.ns.length = s5.ns.length + 1 := by simp [zb]
  clear HE2
  go_wp2_with (go_at_call 102; refine (HS4.out.yes HCl.out rfl).mono ?_; rintro e w5 ⟨rfl, v5, K5, h5⟩; have HS5 : Hid (St rb ts tv en w v kv w5 v5 K5 s5) := h5; clear h5 HS4 HCl)
  have HC6 : Hid (Calls _ _ _ _ _) := HS5.out.op x HX.out a b HN5.out
  generalize (zb (opT x).2.1 eT (opT x).2.2 [a, b] s5).1 = a6 at HE3 HC6
  generalize (zb (opT x).2.1 eT (opT x).2.2 [a, b] s5).2 = s6 at HE3 HC6 i6 n6
  by_cases c3 : L = 3
  · subst c3
    go_wp2_with (go_at_call 113; refine HC6.out.mono ?_; rintro e w6 ⟨rfl, v6, K6, h6⟩; have HS6 : Hid (St rb ts tv en w v kv w6 v6 K6 s6) := h6; clear h6 HS5 HC6)
    have hq6 : Hid (zca rb w6 = s6.i) := zbm HS6.out.rd
    go_wp2
    go_roundw
    case rel => exact ⟨_, 2, s6, v6, K6, rfl, by go_num, by omega, HS6.out, HE3.out, by omega, by omega⟩
    case measure => rw [hq6.out, hq2.out]; omega
  · have c3' : ((L : Int) == 3) = false := by simp; omega
    have HE4 : Hid (lvP ts en r l s = zaj ts r l L a6 s6) := by
     have := HE3.out
     rw [if_neg c3] at this
     exact this
    clear HE3
    go_wp2_with (go_at_call 113; refine HC6.out.mono ?_; rintro e w6 ⟨rfl, v6, K6, h6⟩; have HS6 : Hid (St rb ts tv en w v kv w6 v6 K6 s6) := h6; clear h6 HS5 HC6)
    have hq6 : Hid (zca rb w6 = s6.i) := zbm HS6.out.rd
    go_wp2
    go_roundw
    case rel => exact ⟨_, L, s6, v6, K6, rfl, rfl, by omega, HS6.out, HE4.out, by omega, by omega⟩
    case measure => rw [hq6.out, hq2.out]; omega
theorem RP.all (rb : Nat) (ts : List za) (tv : Value) (en : Nat) : ∀ n, RP rb ts tv en (rds ts en n) n
 | 0 => RP.zero _ _ _ _ _
 | n + 1 => (RP.all rb ts tv en n).step (zav ts en n) (zkw (RP.all rb ts tv en n) (zav ts en n))
end Go.Proofs.YtiglkhkfbgjjoaaGreatDoor
