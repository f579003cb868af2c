/- - -/
import Derived.Test.YtblcfbhlmdhnpaaGreatBMrF
import Derived.Test.YtblcfbhlmdhnpaaGreatBShelf
namespace Go.Proofs.YtblcfbhlmdhnpaaGreat
set_option maxRecDepth 20000
open Go.RowKit Go.PlainAid
set_option linter.unusedSimpArgs false
set_option linter.unusedVariables false
theorem RwT.tag {ow ow' : Nat -> Nat} {B g g' : Nat} {t : TypeId} {w : World} {a : Option Addr} {m : Nat} {f : Nat -> Value} (h : RwT ow B g t w a m f) (ho : ∀ b o, a = some ⟨b, o, none⟩ -> ow' b = g') : RwT ow' B g' t w a m f := by
 rcases h with h | ⟨b, M, h, rfl, e, hB, hm, hr, hf⟩
 · exact .inl h
 · exact .inr ⟨b, M, h, rfl, ho _ _ rfl, hB, hm, hr, hf⟩
theorem RwT.same {ow : Nat -> Nat} {B g : Nat} {t : TypeId} {w : World} {a : Option Addr} {m i : Nat} {f : Nat -> Value} (h : RwT ow B g t w a m f) (hi : i < m) : ∃ b, a = some ⟨b, 0, none⟩ /\ b < w.heap.size /\ B <= b /\ w.cell? ⟨b, i, none⟩ = some (f i) /\ w.frozen? ⟨b, i, none⟩ = false /\ RwT ow B g t (w.setCell ⟨b, i, none⟩ (f i)) a m f := by
 rcases h with h | ⟨b, M, h, rfl, e, hB, hm, hr, hf⟩
 · omega
 · refine ⟨b, rfl, hr.lt, hB, by rw [hr.cell (by omega), hf i hi], hr.frozen i, .inr ⟨b, M, _, rfl, e, hB, hm, hr.set i (f i), fun j hj => ?_⟩⟩
   by_cases e2 : j = i
   · subst e2; simp
   · simp [e2, hf j hj]
theorem zga (s : ByteArray) (w : World) (hs : s.size <= 281474976710656) :
 Calls Tryz.prog 87 #[.string s] w fun e w' => e = .returned (.string s) /\ Below w.heap.size w w' := by
 go_enter Tryz.func87, Tryz.ntmps87
 go_wp2_with (go_at_call 102; refine (Tryz.stringslite_Clone _ _ (by omega)).mono ?_; rintro e w1 ⟨rfl, b1⟩)
 go_ret
 exact ⟨rfl, b1⟩
set_option maxHeartbeats 1000000 in
theorem zed (T : Nat) (a : Option Addr) (n c : Nat) (s : Nat -> ByteArray) (w : World) (h : SlF T w (.slice a n c) n n (fun i => .string (s i))) (hs : ∀ i, i < n -> (s i).size <= 281474976710656) (hn : (n : Int) <= 1048576) :
 Calls Tryz.prog 58 #[.slice a n c] w fun e w' => ∃ a' c', e = .returned (.slice a' n c') /\ RwT (fun _ => 0) w.heap.size 0 9 w' a' n (fun i => .string (s i)) /\ Below w.heap.size w w' := by
 have HC : Hid (Calls _ _ _ _ _) := zgb T a n c (fun i => .string (s i)) w (by rw [Nat.mul_one]; exact h) (fun _ _ => rfl) hn
 have HZ : Hid (∀ i, i < n -> (s i).size <= 281474976710656) := hs
 clear h hs
 go_enter Tryz.func58, Tryz.ntmps58
 go_wp2_with fail
 refine HC.out.mono ?_
 rintro e w1 ⟨a1, c1, rfl, o1, b1⟩
 have R1 : Hid (RwT (fun _ => 0) w.heap.size 0 9 w1 a1 n (fun i => .string (s i))) := by
  have := RwT.of_owns (ow := fun _ => 0) (g := 0) o1 (fun _ _ _ => rfl)
  rw [Nat.mul_one] at this
  exact this
 have B1 : Hid (Below w.heap.size w w1) := b1
 clear o1 b1 HC
 go_wp2
 go_loopw [10] (fun i wr => ∃ k : Nat, k <= n /\ i = .int .i64 k /\ Hid (RwT (fun _ => 0) w.heap.size 0 9 wr a1 n (fun i => .string (s i))) /\ Hid (Below w.heap.size w wr)) (fun i _ => n - (intOf i).toNat)
 case atStart => exact ⟨0, Nat.zero_le _, rfl, R1.out, B1.out⟩
 case round =>
  obtain ⟨k, hk, rfl, HR, HB⟩ := hrel
  by_cases hlt : k < n
  · have hlt' : (k : Int) < (n : Int) := by omega
    obtain ⟨b, rfl, lb, hb, hc, hf, _⟩ := HR.out.same hlt
    have KP : ∀ V, Below wr.heap.size wr V -> V.cell? ⟨b, k, none⟩ = some (.string (s k)) /\ V.frozen? ⟨b, k, none⟩ = false /\ b < V.heap.size /\ Hid (RwT (fun _ => 0) w.heap.size 0 9 (V.setCell ⟨b, k, none⟩ (.string (s k))) (some ⟨b, 0, none⟩) n (fun i => .string (s i))) /\ Hid (Below w.heap.size w (V.setCell ⟨b, k, none⟩ (.string (s k)))) := fun V hV => by
     have r := HR.out.kept (p := fun _ => False) (zc.of_below hV) (fun h => h)
     obtain ⟨b', e', l', hb', hc', hf', r'⟩ := r.same hlt
     injection e' with e'
     injection e' with e'
     subst e'
     exact ⟨hc', hf', l', r', (zb HB.out hV).setCell (p := ⟨b, k, none⟩) hb' _⟩
    have KS := HZ.out k hlt
    clear HR HB R1 B1 HZ
    go_wp2_with (go_at_call 87; refine (zga _ _ KS).mono ?_; rintro e w2 ⟨rfl, b2⟩; obtain ⟨e1, e2, e3, e4, e5⟩ := KP _ b2; clear b2 hc hf)
    go_roundw
    case rel => exact ⟨k + 1, by omega, by go_num, e4.out, e5.out⟩
    case measure => simp [intOf]; omega
  · have hge : (n : Int) <= (k : Int) := by omega
    obtain rfl : k = n := by omega
    go_wp2
    go_ret
    exact ⟨_, _, rfl, HR.out, HB.out⟩
end Go.Proofs.YtblcfbhlmdhnpaaGreat
