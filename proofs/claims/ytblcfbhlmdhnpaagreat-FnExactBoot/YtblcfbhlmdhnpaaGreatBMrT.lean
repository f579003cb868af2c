/- - -/
import Derived.Test.YtblcfbhlmdhnpaaGreatBRowF
import Derived.PlainAid
namespace Go.Proofs.YtblcfbhlmdhnpaaGreat
set_option maxRecDepth 20000
open Go.RowKit Go.PlainAid
set_option linter.unusedSimpArgs false
set_option linter.unusedVariables false
def zdc (z : Int) : ByteArray := ByteArray.empty.push (UInt8.ofNat z.toNat)
theorem zgg (z : Int) : (zdc z).size = 1 := rfl
def dgs : Nat -> Nat -> ByteArray -> ByteArray
 | 0, _, o => o
 | n + 1, k, o => if 0 < k then dgs n (k / 10) (zdc (48 + ((k % 10 : Nat) : Int)) ++ o) else o
def mtx (k : Nat) : ByteArray := ⟨#[109]⟩ ++ dgs 7 k ⟨#[]⟩
theorem zg0 (W : World) (g : Nat) (z : Int) (h : W.cell? ⟨g, 0, none⟩ = some (.int .u8 z)) : (convert 138 9 (.slice (some ⟨g, 0, none⟩) 1 1)).run Tryz.prog W = .ok (.string (zdc z)) W := by
 have hl : (loadCells ⟨g, 0, none⟩ 1).run Tryz.prog W = .ok ([z].map (Value.int .u8)).toArray W := by
  have := run_loadCells (P := Tryz.prog) W ⟨g, 0, none⟩ 1 (fun _ => Value.int .u8 z) (fun j hj => by
   obtain rfl : j = 0 := by omega
   rw [Addr.add_lit]
   exact h)
  rw [this]
  rfl
 rw [run_convert_bytes_string W _ _ _ _ _ _ Tryz.underlying138 Tryz.underlying5 Tryz.underlying9, run_bytesToString W _ _ _ [z] hl]
 rfl
set_option maxHeartbeats 1000000 in
theorem ze5 (k : Nat) (M : ByteArray) (w : World) (h0 : 0 < k) (h1 : (k : Int) <= 9000000) (hM : ∀ o : ByteArray, o = dgs 7 k ⟨#[]⟩ -> (⟨#[109]⟩ : ByteArray) ++ o = M) :
 Calls Tryz.prog 66 #[.int .i64 (k : Int)] w fun e w' => e = .returned (.string M) /\ Below w.heap.size w w' := by
 have h0' : 0 < (k : Int) := by omega
 have HX : Hid (∀ o : ByteArray, o = dgs 7 k ⟨#[]⟩ -> (⟨#[109]⟩ : ByteArray) ++ o = M) := hM
 clear hM
 go_enter Tryz.func66, Tryz.ntmps66
 go_wp2
 go_loopw [0, 3] (fun q o wr => ∃ (n j : Nat) (s : ByteArray), q = .int .i64 (j : Int) /\ o = .string s /\ j < 10 ^ n /\ n <= 7 /\ s.size + n <= 7 /\ Hid (dgs n j s = dgs 7 k ⟨#[]⟩) /\ Hid (Below w.heap.size w wr)) (fun q _ _ => (intOf q).toNat)
 case atStart => exact ⟨7, k, ⟨#[]⟩, rfl, rfl, by simp only [Nat.reducePow]; omega, Nat.le_refl _, (show 0 + 7 <= 7 by omega), rfl, Below.refl _ _⟩
 case round =>
  obtain ⟨n, j, s, rfl, rfl, hj, hn, hs, hd, hB⟩ := hrel
  by_cases hp : 0 < j
  · have hp' : 0 < (j : Int) := by omega
    have h5 : 10 ^ n <= 10 ^ 7 := Nat.pow_le_pow_right (by omega) hn
    simp only [Nat.reducePow] at h5
    have hj' : (j : Int) <= 10000000 := by omega
    obtain ⟨n, rfl⟩ : ∃ m, n = m + 1 := by
     cases n with
     | zero => simp at hj; omega
     | succ m => exact ⟨m, rfl⟩
    have hd2 : Hid (dgs n (j / 10) (zdc (48 + ((j % 10 : Nat) : Int)) ++ s) = dgs 7 k ⟨#[]⟩) := by
     have := hd.out
     unfold dgs at this
     rw [if_pos hp] at this
     exact this
    have hj2 : j / 10 < 10 ^ n := by
     rw [Nat.pow_succ] at hj
     omega
    have hlt : j / 10 < j := by omega
    have hm : (j : Int).tmod 10 = ((j % 10 : Nat) : Int) := by rw [Int.tmod_eq_emod_of_nonneg (by omega)]; omega
    have hdv : (j : Int).tdiv 10 = ((j / 10 : Nat) : Int) := by rw [Int.tdiv_eq_ediv_of_nonneg (by omega)]; omega
    have hm1 : ((j % 10 : Nat) : Int) <= 9 := by omega
    have hm0 : 0 <= ((j % 10 : Nat) : Int) := by omega
    have hB2 : Hid (∀ o, Below w.heap.size w (wr.alloc o)) := fun o => hB.out.alloc hB.out.size o
    generalize ((j % 10 : Nat) : Int) = r at *
    generalize j / 10 = q at *
    have hcv : ∀ z, (convert 138 9 (.slice (some ⟨wr.heap.size, 0, none⟩) 1 1)).run Tryz.prog (wr.alloc (.cells #[.int .u8 z] 5)) = .ok (.string (zdc z)) (wr.alloc (.cells #[.int .u8 z] 5)) := fun z => zg0 _ _ z (by simp [go_sem])
    have hs1 : ∀ z, (zdc z).size = 1 := zgg
    have hs2 : (s.size : Int) <= 7 := by omega
    clear hd hj h5
    go_wp2
    go_roundw
    case rel =>
     refine ⟨n, q, _, by go_num, rfl, hj2, by omega, ?_, hd2, hB2.out _⟩
     rw [ByteArray.size_append, hs1]
     omega
    case measure => simp [intOf]; omega
  · have hp' : ¬ 0 < (j : Int) := by omega
    have e : s = dgs 7 k ⟨#[]⟩ := by
     rw [<- hd.out]
     cases n with
     | zero => rfl
     | succ n => unfold dgs; rw [if_neg hp]
    have hs2 : (s.size : Int) <= 7 := by omega
    have HY : Hid ((⟨#[109]⟩ : ByteArray) ++ s = M) := HX.out s e
    clear e hd HX
    go_wp2
    go_ret
    exact ⟨by rw [<- HY.out]; rfl, hB.out⟩
theorem zcb (k : Nat) (w : World) (h0 : 0 < k) (h1 : (k : Int) <= 9000000) :
 Calls Tryz.prog 66 #[.int .i64 (k : Int)] w fun e w' => e = .returned (.string (mtx k)) /\ Below w.heap.size w w' :=
 ze5 k (mtx k) w h0 h1 (fun o ho => by rw [ho]; rfl)
end Go.Proofs.YtblcfbhlmdhnpaaGreat
