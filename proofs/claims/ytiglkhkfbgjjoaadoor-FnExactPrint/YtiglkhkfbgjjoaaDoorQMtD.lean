/- - -/
import Derived.Test.YtiglkhkfbgjjoaaDoorQMtA
import Derived.Test.YtiglkhkfbgjjoaaDoorQPrT
namespace Go.Proofs.YtiglkhkfbgjjoaaDoor
set_option maxRecDepth 20000
open Go.RowKit Go.PlainAid Go.Maps
set_option linter.unusedSimpArgs false
set_option linter.unusedVariables false
theorem zgp (W : World) (g : Nat) (y : Int) (h0 : W.cell? ⟨g, 0, none⟩ = some (.int .u8 y)) : (convert 28 9 (.slice (some ⟨g, 0, none⟩) 1 1)).run Tryd.prog W = .ok (.string ⟨#[UInt8.ofNat y.toNat]⟩) W := by
 have hl : (loadCells ⟨g, 0, none⟩ 1).run Tryd.prog W = .ok ([y].map (Value.int .u8)).toArray W := by
  have := run_loadCells (P := Tryd.prog) W ⟨g, 0, none⟩ 1 (fun j => Value.int .u8 y) (fun j hj => by
   rw [Addr.add_lit, Nat.zero_add]
   obtain rfl : j = 0 := by omega
   exact h0)
  rw [this]
  rfl
 rw [run_convert_bytes_string W _ _ _ _ _ _ Tryd.underlying28 Tryd.underlying5 Tryd.underlying9, run_bytesToString W _ _ _ [y] hl]
 rfl
def DgI (n u : Nat) (s : ByteArray) : Prop := (if u = 0 then s.data.toList = Lib.decDigits n else Lib.decDigits u ++ s.data.toList = Lib.decDigits n) /\ s.size <= 40
theorem zhl {n u : Nat} {s : ByteArray} (hu : u ≠ 0) (hn : n <= 999999999999999) (h : DgI n u s) : DgI n (u / 10) (⟨#[UInt8.ofNat (48 + u % 10)]⟩ ++ s) := by
 obtain ⟨h1, h2⟩ := h
 rw [if_neg hu] at h1
 have hd : (⟨#[UInt8.ofNat (48 + u % 10)]⟩ ++ s : ByteArray).data.toList = UInt8.ofNat (48 + u % 10) :: s.data.toList := by
  rw [ByteArray.data_append, Array.toList_append]
  rfl
 have hle : (Lib.decDigits n).length <= 20 := by rw [Lib.decDigits_length]; exact Lib.nDigits_le20 n (by omega)
 have key : if u / 10 = 0 then (⟨#[UInt8.ofNat (48 + u % 10)]⟩ ++ s : ByteArray).data.toList = Lib.decDigits n else Lib.decDigits (u / 10) ++ (⟨#[UInt8.ofNat (48 + u % 10)]⟩ ++ s : ByteArray).data.toList = Lib.decDigits n := by
  rw [hd]
  by_cases h10 : u < 10
  · rw [if_pos (by omega)]
    rw [Lib.decDigits, dif_pos h10] at h1
    rw [show u % 10 = u by omega]
    exact h1
  · rw [if_neg (by omega)]
    rw [Lib.decDigits, dif_neg h10, List.append_assoc] at h1
    exact h1
 refine ⟨key, ?_⟩
 have hl : (⟨#[UInt8.ofNat (48 + u % 10)]⟩ ++ s : ByteArray).size = (⟨#[UInt8.ofNat (48 + u % 10)]⟩ ++ s : ByteArray).data.toList.length := rfl
 rw [hl]
 split at key
 · rw [key]; omega
 · have := congrArg List.length key
   rw [List.length_append] at this
   omega
set_option maxHeartbeats 2000000 in
theorem zes (n : Nat) (hn : n <= 999999999999999) (w : World) :
 Calls Tryd.prog 117 #[.int .i64 (n : Int)] w fun e w' => e = .returned (.string ⟨(Lib.itoa (n : Int)).toArray⟩) /\ Below w.heap.size w w' := by
 have hit : Lib.itoa (n : Int) = Lib.decDigits n := by unfold Lib.itoa; rw [if_neg (by omega)]; simp
 rw [hit]
 clear hit
 by_cases h0 : n = 0
 · subst h0
   have e : Lib.decDigits 0 = [48] := by rw [Lib.decDigits_one (by omega)]; rfl
   rw [e]
   go_enter Tryd.func117, Tryd.ntmps117
   go_wp2
   go_ret
   exact ⟨rfl, Below.refl _ _⟩
 have h0' : ¬ ((n : Int) = 0) := by omega
 have hn' : ¬ ((n : Int) < 0) := by omega
 have hn2 : (n : Int) <= 999999999999999 := by omega
 have hcv := zgp
 go_enter Tryd.func117, Tryd.ntmps117
 go_wp2
 go_loopw [0, 3] (fun q v wr => ∃ (u : Nat) (s : ByteArray), q = .int .i64 u /\ v = .string s /\ u <= n /\ Hid (DgI n u s) /\ Below w.heap.size w wr) (fun q _ _ => (intOf q).toNat)
 case atStart => exact ⟨n, _, rfl, rfl, Nat.le_refl _, ⟨by rw [if_neg h0]; exact List.append_nil _, by decide⟩, Below.refl _ _⟩
 case round =>
  obtain ⟨u, s, rfl, rfl, hu, HI, hF⟩ := hrel
  by_cases hz : u = 0
  · have hs : Hid (s = ⟨(Lib.decDigits n).toArray⟩) := by
     show s = _
     have h1 := HI.out.1
     rw [if_pos hz] at h1
     rw [<- h1]
    have hz' : (u : Int) = 0 := by omega
    clear hcv hz
    go_wp2
    go_ret
    exact ⟨by rw [hs.out]; rfl, hF⟩
  · have hz' : ¬ ((u : Int) = 0) := by omega
    have hs40 := HI.out.2
    have hs40' : (s.size : Int) <= 40 := by omega
    have hr0 : ((u : Int)).tmod 10 = ((u % 10 : Nat) : Int) := by rw [Int.tmod_eq_emod_of_nonneg (by omega)]; omega
    have hq0 : ((u : Int)).tdiv 10 = ((u / 10 : Nat) : Int) := by rw [Int.tdiv_eq_ediv_of_nonneg (by omega)]; omega
    have hd9 : u % 10 < 10 := by omega
    have hdd : u / 10 <= u := by omega
    have HS := hI (zhl hz hn HI.out)
    have hlt : Hid (u / 10 < u) := by show u / 10 < u; omega
    generalize u % 10 = d at *
    generalize u / 10 = u' at *
    have hd9' : (d : Int) < 10 := by omega
    have hdn : ¬ ((d : Int) < 0) := by omega
    clear HI
    go_wp2
    go_roundw
    case rel => exact ⟨u', _, rfl, rfl, by omega, by have H := HS.out; (try simp at H); (try simp); exact H, zh hF ((Below.refl _ _).alloc (Nat.le_refl _) _)⟩
    case measure => simp [intOf]; have := hlt.out; omega
end Go.Proofs.YtiglkhkfbgjjoaaDoor
