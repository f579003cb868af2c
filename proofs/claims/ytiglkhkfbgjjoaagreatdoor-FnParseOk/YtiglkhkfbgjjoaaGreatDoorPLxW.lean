/- - -/
import Derived.Test.YtiglkhkfbgjjoaaGreatDoorPRowF
namespace Go.Proofs.YtiglkhkfbgjjoaaGreatDoor
set_option maxRecDepth 20000
open Go.RowKit
set_option linter.unusedSimpArgs false
set_option linter.unusedVariables false
def ze8 : List ByteArray := [⟨#[108, 111, 99, 97, 108]⟩, ⟨#[102, 110]⟩, ⟨#[105, 102]⟩, ⟨#[101, 108, 115, 101]⟩, ⟨#[119, 104, 105, 108, 101]⟩, ⟨#[114, 101, 116, 117, 114, 110]⟩, ⟨#[116, 114, 117, 101]⟩, ⟨#[102, 97, 108, 115, 101]⟩, ⟨#[110, 105, 108]⟩, ⟨#[97, 110, 100]⟩, ⟨#[111, 114]⟩, ⟨#[110, 111, 116]⟩]
def inL (xs : List ByteArray) (t : ByteArray) : Bool := xs.any (fun x => x.toList == t.toList)
def isW (t : ByteArray) : Bool := inL ze8 t
def zaf (xs : List ByteArray) (i : Nat) : ByteArray := xs.getD i ⟨#[]⟩
theorem zdu (t : ByteArray) (w : World) :
 Calls Tryz.prog 61 #[.string t] w fun e w' => e = .returned (.bool (isW t)) /\ w = w' := by
 have e0 : isW t = ze8.any (fun x => t.toList == x.toList) := by
  unfold isW inL
  congr 1
  funext x
  exact Bool.beq_comm
 rw [e0]
 clear e0
 go_enter Tryz.func61, Tryz.ntmps61
 go_wp2
 all_goals first
  | (exfalso; simp_all; done)
  | (go_ret; refine ⟨?_, rfl⟩; simp [ze8, *]; done)
theorem zt5 {xs : List ByteArray} {t : ByteArray} (h : ∀ p, p < xs.length -> ((zaf xs p).toList == t.toList) = false) : inL xs t = false := by
 unfold inL
 rw [List.any_eq_false]
 intro x hx
 obtain ⟨p, hp, rfl⟩ := List.mem_iff_getElem.1 hx
 have := h p hp
 unfold zaf at this
 rw [List.getD_eq_getElem?_getD, List.getElem?_eq_getElem hp] at this
 simpa using this
theorem zsn {xs : List ByteArray} {t : ByteArray} {p : Nat} (hp : p < xs.length) (h : ((zaf xs p).toList == t.toList) = true) : inL xs t = true := by
 unfold inL
 rw [List.any_eq_true]
 refine ⟨xs[p], List.getElem_mem hp, ?_⟩
 unfold zaf at h
 rw [List.getD_eq_getElem?_getD, List.getElem?_eq_getElem hp] at h
 simpa using h
set_option maxHeartbeats 1000000 in
theorem zso (xs : List ByteArray) (n : Nat) (a : Option Addr) (c : Nat) (t : ByteArray) (T : Nat) (w : World) (hn : xs.length = n) (hl : n <= 1048576) (hs : SlF T w (.slice a n c) n n (fun i => .string (zaf xs i))) :
 Calls Tryz.prog 105 #[.slice a n c, .string t] w fun e w' => e = .returned (.bool (inL xs t)) /\ w = w' := by
 have hl' : (n : Int) <= 1048576 := by omega
 have HS : Hid (SlF T w (.slice a n c) n n (fun i => .string (zaf xs i))) := hs
 have HN : Hid (xs.length = n) := hn
 clear hs hn
 go_enter Tryz.func105, Tryz.ntmps105
 go_wp2
 go_loopw [5] (fun i wr => wr = w /\ ∃ (j : Nat), j <= n /\ i = .int .i64 j /\ ∀ p, p < j -> ((zaf xs p).toList == t.toList) = false) (fun i _ => n - (intOf i).toNat)
 case atStart => exact ⟨rfl, 0, Nat.zero_le _, rfl, fun p hp => absurd hp (Nat.not_lt_zero _)⟩
 case round =>
  obtain ⟨rfl, j, hj, rfl, hp⟩ := hrel
  have HP : Hid (∀ p, p < j -> ((zaf xs p).toList == t.toList) = false) := hp
  clear hp
  by_cases hlt : j < n
  · have hlt' : (j : Int) < (n : Int) := by omega
    obtain ⟨b, off, cap, hv, _, lz, hc⟩ := HS.out.parts hlt
    simp only [Value.slice.injEq] at hv
    obtain ⟨rfl, _, rfl⟩ := hv
    have hcj := hc j hlt
    clear hc
    cases hq : ((zaf xs j).toList == t.toList) with
    | true =>
      have E : Hid (inL xs t = true) := zsn (by rw [HN.out]; exact hlt) hq
      clear HP HS HN
      generalize zaf xs j = x at hcj hq
      go_wp2
      go_ret
      exact ⟨by rw [E.out]; rfl, rfl⟩
    | false =>
      have HP' : Hid (∀ p, p < j + 1 -> ((zaf xs p).toList == t.toList) = false) := fun p hp => if e : p = j then e ▸ hq else HP.out p (by omega)
      clear HP
      generalize zaf xs j = x at hcj hq
      go_wp2
      go_roundw
      case rel => exact ⟨trivial, j + 1, by omega, by go_num, HP'.out⟩
      case measure => simp [intOf]; omega
  · have hge : (n : Int) <= (j : Int) := by omega
    have E : Hid (inL xs t = false) := zt5 (fun p hp => HP.out p (by have := HN.out; omega))
    go_wp2
    go_ret
    exact ⟨by rw [E.out]; rfl, rfl⟩
theorem zng (w : World) :
 Calls Tryz.prog 106 #[] w fun e w' => e = .returned (.slice (some ⟨w.heap.size, 0, none⟩) 12 12) /\ SlF (w.heap.size + 1) w' (.slice (some ⟨w.heap.size, 0, none⟩) 12 12) 12 12 (fun i => .string (zaf ze8 i)) /\ Below w.heap.size w w' := by
 go_enter Tryz.func106, Tryz.ntmps106
 go_wp2
 go_ret
 refine ⟨rfl, ?_, zat (Below.refl _ _)⟩
 refine ⟨_, 12, rfl, .inr ⟨w.heap.size, 0, rfl, by omega, by simp, fun i hi => ?_⟩⟩
 rcases i with _ | _ | _ | _ | _ | _ | _ | _ | _ | _ | _ | _ | i
 all_goals first | (simp [go_sem, zaf, ze8]; done) | omega
theorem zbw (t : ByteArray) (w : World) :
 Calls Tryz.prog 78 #[.string t] w fun e w' => e = .returned (.bool (isW t)) /\ Below w.heap.size w w' := by
 go_enter Tryz.func78, Tryz.ntmps78
 go_wp2_with fail
 refine (zng _).mono ?_
 rintro e w1 ⟨rfl, s1, b1⟩
 go_wp2_with fail
 refine (zso ze8 12 _ _ t _ w1 rfl (by omega) s1).mono ?_
 rintro e w2 ⟨rfl, rfl⟩
 go_wp2
 go_ret
 exact ⟨rfl, b1⟩
end Go.Proofs.YtiglkhkfbgjjoaaGreatDoor
