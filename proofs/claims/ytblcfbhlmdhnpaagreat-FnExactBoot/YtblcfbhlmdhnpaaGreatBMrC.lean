/- - -/
import Derived.Test.YtblcfbhlmdhnpaaGreatBMrB
import Derived.Test.YtblcfbhlmdhnpaaGreatBMcBox
namespace Go.Proofs.YtblcfbhlmdhnpaaGreat
set_option maxRecDepth 20000
open Go.RowKit Go.PlainAid
set_option linter.unusedSimpArgs false
set_option linter.unusedVariables false
theorem zhi (X : Nat -> PtD) (k0 : Int) {i L : Nat} (h : i < L) : ptX X k0 L i = ptM (X i) (ptP X k0 i) := by unfold ptX; rw [if_pos h]
set_option maxHeartbeats 2000000 in
theorem zdv (ow : Nat -> Nat) (B g : Nat) (a : Option Addr) (L c : Nat) (X : Nat -> PtD) (au : Nat -> Option Addr) (cu : Nat -> Nat) (ac : Nat -> Option Addr) (cc : Nat -> Nat) (k0 : Int) (w : World) (h : PtW ow B g w a L (ptX X k0 L) au cu ac cc) (hL : (L : Int) <= 1048576) (hX : ∀ j, j < L -> PLe (X j) 1048576) (hk0 : 0 <= k0) (hk1 : ptP X k0 L <= 9000000) :
 Calls Tryz.prog 69 #[.slice a L c, .int .i64 k0] w fun e w' => e = .returned (.int .i64 (ptP X k0 L)) /\ w' = w := by
 have HX : Hid (∀ j, j < L -> PLe (X j) 1048576) := hX
 have H0 : Hid (PtW ow B g w a L (ptX X k0 L) au cu ac cc) := h
 have HM : Hid (∀ i, i < L -> 0 <= ptP X k0 i /\ ptP X k0 i + 2 + 2 * (X i).un + 2 * (X i).cn <= 9000000) := fun i hi => by
  have h1 := zap X k0 i
  have h2 := zcg X k0 (i + 1) (L - (i + 1))
  rw [show i + 1 + (L - (i + 1)) = L by omega] at h2
  have h3 : ptP X k0 (i + 1) = ptP X k0 i + 2 + 2 * (X i).un + 2 * (X i).cn := rfl
  rw [h3] at h2
  exact ⟨by omega, Int.le_trans h2 hk1⟩
 clear h hX hk1
 go_enter Tryz.func69, Tryz.ntmps69
 go_wp2
 go_loopw [1, 5] (fun q i wr => ∃ k : Nat, k <= L /\ i = .int .i64 k /\ (∃ z, q = .int .i64 z /\ Hid (z = ptP X k0 k)) /\ wr = w) (fun _ i _ => L - (intOf i).toNat)
 case atStart => exact ⟨0, Nat.zero_le _, rfl, ⟨_, rfl, rfl⟩, rfl⟩
 case round =>
  obtain ⟨k, hk, rfl, ⟨z, rfl, HZ⟩, rfl⟩ := hrel
  by_cases hlt : k < L
  · have hlt' : (k : Int) < (L : Int) := by omega
    obtain ⟨b, rfl, lb, eb, hc, hf⟩ := H0.out.row.at_ (k := k * 4) (by omega)
    obtain ⟨m0, m1⟩ := HM.out k hlt
    obtain ⟨x1, x2⟩ := HX.out k hlt
    rw [<- HZ.out] at m0 m1
    have q0 := (hc (k * 4) (by omega)).trans (congrArg some (za0 _ au cu ac cc k))
    have q1 := (hc (k * 4 + 1) (by omega)).trans (congrArg some (zaq _ au cu ac cc k))
    have q2 := (hc (k * 4 + 2) (by omega)).trans (congrArg some (zaj _ au cu ac cc k))
    have q3 := (hc (k * 4 + 3) (by omega)).trans (congrArg some (zak _ au cu ac cc k))
    have u0 := H0.out.ups k hlt
    have c0 := H0.out.cod k hlt
    rw [zhi X k0 hlt, <- HZ.out] at q0 q1 q2 q3 u0 c0
    have HU : Hid (SlF wr.heap.size wr (.slice (au k) (X k).un (cu k)) (X k).un (2 * (X k).un) (mkU (z + 2))) := by
     show SlF _ _ _ _ _ _
     rw [zgf]
     exact u0.sl _ _
    have HI : Hid (SlF wr.heap.size wr (.slice (ac k) (X k).cn (cc k)) (X k).cn (2 * (X k).cn) (mkI (z + 2 + 2 * (X k).un))) := by
     show SlF _ _ _ _ _ _
     rw [zge]
     exact c0.sl _ _
    have HZ2 : Hid (z + 2 + 2 * ((X k).un : Int) + 2 * ((X k).cn : Int) = ptP X k0 (k + 1)) := by show z + 2 + 2 * ((X k).un : Int) + 2 * ((X k).cn : Int) = ptP X k0 k + 2 + 2 * (X k).un + 2 * (X k).cn; rw [HZ.out]
    have x1' : ((X k).un : Int) <= 1048576 := by omega
    have x2' : ((X k).cn : Int) <= 1048576 := by omega
    have q0' : wr.cell? ⟨b, k * 4, none⟩ = some (.int .i64 z) := q0
    have q1' : wr.cell? ⟨b, k * 4 + 1, none⟩ = some (.int .i64 (z + 1)) := q1
    have q2' : wr.cell? ⟨b, k * 4 + 2, none⟩ = some (.slice (au k) (X k).un (cu k)) := q2
    have q3' : wr.cell? ⟨b, k * 4 + 3, none⟩ = some (.slice (ac k) (X k).cn (cc k)) := q3
    clear hc hf u0 c0 q0 q1 q2 q3 H0 HX HM
    generalize (X k).un = un at HU HI HZ2 x1' q2' m1 x1
    generalize (X k).cn = cn at HI HZ2 x2' q3' m1 x2
    generalize au k = aU at q2' HU
    generalize ac k = aC at q3' HI
    generalize cu k = cU at q2' HU
    generalize cc k = cC at q3' HI
    have HCU : Hid (Calls Tryz.prog 94 #[.slice aU un cU, .int .i64 (z + 1 + 1)] wr fun e w' => e = .returned (.int .i64 (z + 2 + 2 * un)) /\ w' = wr) := by
     show Calls _ _ _ _ _
     rw [show z + 1 + 1 = z + 2 by omega]
     exact zfq _ aU un cU (z + 2) wr HU.out x1' (by omega) (by omega)
    have HCI : Hid (Calls Tryz.prog 95 #[.slice aC cn cC, .int .i64 (z + 2 + 2 * un)] wr fun e w' => e = .returned (.int .i64 (z + 2 + 2 * un + 2 * cn)) /\ w' = wr) := ze4 _ aC cn cC (z + 2 + 2 * un) wr HI.out x2' (by omega) (by omega)
    have n1 : ¬ z + 2 + 2 * (un : Int) < 0 := by omega
    have n2 : ¬ z + 2 + 2 * (un : Int) + 2 * (cn : Int) < 0 := by omega
    clear HU HI
    go_wp2_with fail
    refine HCU.out.mono ?_
    rintro e w1 ⟨rfl, h1⟩
    subst w1
    go_wp2_with fail
    refine HCI.out.mono ?_
    rintro e w1 ⟨rfl, h1⟩
    subst w1
    go_wp2
    go_roundw
    case rel => exact ⟨k + 1, by omega, by go_num, ⟨_, rfl, HZ2.out⟩, by first | rfl | trivial⟩
    case measure => simp [intOf]; omega
  · have hge : (L : Int) <= (k : Int) := by omega
    obtain rfl : k = L := by omega
    go_wp2
    go_ret
    exact ⟨by rw [<- HZ.out]; rfl, rfl⟩
structure MdW (ow : Nat -> Nat) (B g : Nat) (w : World) (a1 : Option Addr) (L : Nat) (X : Nat -> PtD) (au : Nat -> Option Addr) (cu : Nat -> Nat) (ac : Nat -> Option Addr) (cc : Nat -> Nat) (a2 : Option Addr) (n : Nat) (s : Nat -> ByteArray) : Prop where
 pt : PtW ow B g w a1 L X au cu ac cc
 tx : RwT ow B (g + 1 + 2 * L) 9 w a2 n (fun i => .string (s i))
theorem MdW.kept {ow : Nat -> Nat} {B g : Nat} {w w' : World} {a1 : Option Addr} {L : Nat} {X : Nat -> PtD} {au : Nat -> Option Addr} {cu : Nat -> Nat} {ac : Nat -> Option Addr} {cc : Nat -> Nat} {a2 : Option Addr} {n : Nat} {s : Nat -> ByteArray} {p : Nat -> Prop} (h : MdW ow B g w a1 L X au cu ac cc a2 n s) (hk : zc ow p w w') (hp : ∀ t, g <= t -> t <= g + 1 + 2 * L -> ¬ p t) : MdW ow B g w' a1 L X au cu ac cc a2 n s :=
 ⟨h.pt.kept hk (fun t h1 h2 => hp t h1 (by omega)), h.tx.kept hk (hp _ (by omega) (by omega))⟩
set_option maxHeartbeats 2000000 in
theorem zbo (ow : Nat -> Nat) (B g : Nat) (a1 : Option Addr) (L c1 : Nat) (X : Nat -> PtD) (au : Nat -> Option Addr) (cu : Nat -> Nat) (ac : Nat -> Option Addr) (cc : Nat -> Nat) (a2 : Option Addr) (n c2 : Nat) (s : Nat -> ByteArray) (k0 kt : Nat) (w : World) (h : MdW ow B g w a1 L X au cu ac cc a2 n s) (hg : 1 <= g) (hown : ∀ k, w.heap.size <= k -> ow k = 0) (hL : (L : Int) <= 1048576) (hX : ∀ j, j < L -> PLe (X j) 1048576) (hn : (n : Int) <= 1048576) (hk0 : 0 < k0) (hkt : ptP X (k0 : Int) L = (kt : Int)) (hk1 : (kt : Int) + n <= 9000000) :
 Calls Tryz.prog 10 #[.agg #[.slice a1 L c1, .slice a2 n c2], .int .i64 (k0 : Int)] w fun e w' => e = .returned (.int .i64 ((kt : Int) + n)) /\ MdW ow B g w' a1 L (ptX X (k0 : Int) L) au cu ac cc a2 n (fun i => mtx (kt + i)) /\ zc ow (fun t => g <= t /\ t <= g + 1 + 2 * L) w w' := by
 have b0 : Below w.heap.size w (w.alloc (.cells #[.slice a1 L c1, .slice a2 n c2] 29)) := (Below.refl _ _).alloc (Nat.le_refl _) _
 have H : Hid (MdW ow B g w a1 L X au cu ac cc a2 n s) := h
 have hle := zap X (k0 : Int) L
 rw [hkt] at hle
 have T0 : Hid (zc ow (fun t => g <= t /\ t <= g + 1 + 2 * L) w (w.alloc (.cells #[.slice a1 L c1, .slice a2 n c2] 29))) := zc.of_below b0
 have HC : Hid (Calls _ _ _ _ _) := zdx ow B g a1 L c1 X au cu ac cc (k0 : Int) (w.alloc (.cells #[.slice a1 L c1, .slice a2 n c2] 29)) (h.pt.kept (p := fun _ => False) (zc.of_below b0) (fun _ _ _ h => h)) hL hX (by omega) (by rw [hkt]; omega)
 have RT : Hid (RwT ow B (g + 1 + 2 * L) 9 (w.alloc (.cells #[.slice a1 L c1, .slice a2 n c2] 29)) a2 n (fun i => .string (s i))) := h.tx.kept (p := fun _ => False) (zc.of_below b0) (fun h => h)
 have x0 := za.new w 29 #[.slice a1 L c1, .slice a2 n c2]
 rw [hkt] at HC
 clear h hX hkt b0
 go_enter Tryz.func10, Tryz.ntmps10
 go_wp2_with fail
 refine HC.out.mono ?_
 rintro e w1 ⟨rfl, r1, t1⟩
 have o0 : ow w.heap.size = 0 := hown _ (Nat.le_refl _)
 have x1 : za w1 w.heap.size 29 #[.slice a1 L c1, .slice a2 n c2] := (t1.block _ x0.lt (by show ¬ (g <= ow w.heap.size /\ _); rw [o0]; omega)).trans x0
 have k1 := x1.cell
 have l1 := x1.lt
 have RT1 : Hid (RwT ow B (g + 1 + 2 * L) 9 w1 a2 n (fun i => .string (s i))) := RT.out.kept t1 (by omega)
 have R1 : Hid (PtW ow B g w1 a1 L (ptX X (k0 : Int) L) au cu ac cc) := r1
 have T1 : Hid (zc ow (fun t => g <= t /\ t <= g + 1 + 2 * L) w w1) := T0.out.trans (t1.mono (fun t h => by omega))
 clear r1 t1 HC RT x0 x1 T0 H
 go_wp2_with fail
 refine (zbf ow B (g + 1 + 2 * L) a2 n c2 s kt w1 RT1.out hn (by omega) hk1).mono ?_
 rintro e w2 ⟨rfl, r2, t2⟩
 have HF : Hid (MdW ow B g w2 a1 L (ptX X (k0 : Int) L) au cu ac cc a2 n (fun i => mtx (kt + i))) := ⟨R1.out.kept t2 (fun t h1 h2 => by omega), r2⟩
 have HT : Hid (zc ow (fun t => g <= t /\ t <= g + 1 + 2 * L) w w2) := T1.out.trans (t2.mono (fun t h => by omega))
 clear r2 t2 R1 T1 RT1 k1
 go_wp2
 go_ret
 exact ⟨rfl, HF.out, HT.out⟩
set_option maxHeartbeats 2000000 in
theorem zdw (ow : Nat -> Nat) (B g : Nat) (a1 : Option Addr) (L c1 : Nat) (X : Nat -> PtD) (au : Nat -> Option Addr) (cu : Nat -> Nat) (ac : Nat -> Option Addr) (cc : Nat -> Nat) (a2 : Option Addr) (n c2 : Nat) (k0 kt : Nat) (w : World) (h : MdW ow B g w a1 L (ptX X (k0 : Int) L) au cu ac cc a2 n (fun i => mtx (kt + i))) (hL : (L : Int) <= 1048576) (hX : ∀ j, j < L -> PLe (X j) 1048576) (hn : (n : Int) <= 1048576) (hk0 : 0 < k0) (hkt : ptP X (k0 : Int) L = (kt : Int)) (hk1 : (kt : Int) + n <= 9000000) :
 Calls Tryz.prog 35 #[.agg #[.slice a1 L c1, .slice a2 n c2], .int .i64 (k0 : Int)] w fun e w' => e = .returned (.int .i64 ((kt : Int) + n)) /\ Below w.heap.size w w' := by
 have b0 : Below w.heap.size w (w.alloc (.cells #[.slice a1 L c1, .slice a2 n c2] 29)) := (Below.refl _ _).alloc (Nat.le_refl _) _
 have hle := zap X (k0 : Int) L
 rw [hkt] at hle
 have HC : Hid (Calls _ _ _ _ _) := zdv ow B g a1 L c1 X au cu ac cc (k0 : Int) (w.alloc (.cells #[.slice a1 L c1, .slice a2 n c2] 29)) (h.pt.kept (p := fun _ => False) (zc.of_below b0) (fun _ _ _ h => h)) hL hX (by omega) (by rw [hkt]; omega)
 have HT : Hid (SlF w.heap.size (w.alloc (.cells #[.slice a1 L c1, .slice a2 n c2] 29)) (.slice a2 n c2) n n (fun i => .string (mtx (kt + i)))) := (h.tx.sl n c2).below b0 (Nat.le_refl _)
 have n0 : ¬ (kt : Int) < 0 := by omega
 have n1 : ¬ (kt : Int) + n < 0 := by omega
 rw [hkt] at HC
 clear h hX hkt
 go_enter Tryz.func35, Tryz.ntmps35
 go_wp2_with fail
 refine HC.out.mono ?_
 rintro e w1 ⟨rfl, h1⟩
 subst w1
 go_wp2_with fail
 refine (zbg _ a2 n c2 kt _ HT.out (by simp) hn (by omega) hk1).mono ?_
 rintro e w2 ⟨rfl, d2⟩
 have B2 := zb b0 d2
 clear d2 HC HT
 go_wp2
 go_ret
 exact ⟨rfl, B2⟩
end Go.Proofs.YtblcfbhlmdhnpaaGreat
