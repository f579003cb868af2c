/- - -/
import Derived.Test.YtblcfbhlmdhnpaaGreatBMrA
namespace Go.Proofs.YtblcfbhlmdhnpaaGreat
set_option maxRecDepth 20000
open Go.RowKit Go.PlainAid
set_option linter.unusedSimpArgs false
set_option linter.unusedVariables false
theorem zge (k0 : Int) : mkI k0 = inF (fun j => k0 + 2 * j) (fun j => k0 + 2 * j + 1) := by
 funext j
 unfold mkI inF
 by_cases e : j % 2 = 0
 · rw [if_pos e]; congr 1; show k0 + (j : Int) = k0 + 2 * ((j / 2 : Nat) : Int); omega
 · rw [if_neg e]; congr 1; show k0 + (j : Int) = k0 + 2 * ((j / 2 : Nat) : Int) + 1; omega
theorem zgf (k0 : Int) : mkU k0 = upF (fun j => (k0 + 2 * (j : Int)) % 3 == 0) (fun j => k0 + 2 * j + 1) := by
 funext j
 unfold mkU upF
 by_cases e : j % 2 = 0
 · rw [if_pos e, if_pos e]
   have : k0 + (j : Int) = k0 + 2 * ((j / 2 : Nat) : Int) := by omega
   rw [this]
 · rw [if_neg e, if_neg e]; congr 1; show k0 + (j : Int) = k0 + 2 * ((j / 2 : Nat) : Int) + 1; omega
theorem RwT.at_ {ow : Nat -> Nat} {B g : Nat} {t : TypeId} {w : World} {a : Option Addr} {m : Nat} {f : Nat -> Value} (h : RwT ow B g t w a m f) {k : Nat} (hk : k < m) : ∃ b, a = some ⟨b, 0, none⟩ /\ b < w.heap.size /\ ow b = g /\ (∀ j, j < m -> w.cell? ⟨b, j, none⟩ = some (f j)) /\ ∀ j, w.frozen? ⟨b, j, none⟩ = false := by
 rcases h with h | ⟨b, M, h', rfl, e, hB, hm, hr, hf⟩
 · omega
 · exact ⟨b, rfl, hr.lt, e, fun j hj => by rw [hr.cell (by omega), hf j hj], hr.frozen⟩
theorem RwT.put {ow : Nat -> Nat} {B g : Nat} {t : TypeId} {w : World} {b : Nat} {m : Nat} {f f' : Nat -> Value} (h : RwT ow B g t w (some ⟨b, 0, none⟩) m f) (k : Nat) (v : Value) (hf : ∀ j, j < m -> f' j = if j = k then v else f j) : RwT ow B g t (w.setCell ⟨b, k, none⟩ v) (some ⟨b, 0, none⟩) m f' := by
 rcases h with h | ⟨b', M, h', e0, e, hB, hm, hr, hg⟩
 · exact .inl h
 · injection e0 with e0
   injection e0 with e0
   subst e0
   exact .inr ⟨_, M, _, rfl, e, hB, hm, hr.set k v, fun i hi => by rw [hf i hi]; by_cases q : i = k <;> simp [q, hg i hi]⟩
theorem RwT.congr {ow : Nat -> Nat} {B g : Nat} {t : TypeId} {w : World} {a : Option Addr} {m : Nat} {f f' : Nat -> Value} (h : RwT ow B g t w a m f) (hf : ∀ j, j < m -> f j = f' j) : RwT ow B g t w a m f' := by
 rcases h with h | ⟨b, M, h', e0, e, hB, hm, hr, hg⟩
 · exact .inl h
 · exact .inr ⟨b, M, h', e0, e, hB, hm, hr, fun i hi => (hg i hi).trans (hf i hi)⟩
def ptC (X : Nat -> PtD) (au : Nat -> Option Addr) (cu : Nat -> Nat) (ac : Nat -> Option Addr) (cc : Nat -> Nat) : Nat -> Value := fun j =>
 if j % 4 = 0 then .int .i64 (X (j / 4)).pa else if j % 4 = 1 then .int .i64 (X (j / 4)).sl else if j % 4 = 2 then .slice (au (j / 4)) (X (j / 4)).un (cu (j / 4)) else .slice (ac (j / 4)) (X (j / 4)).cn (cc (j / 4))
structure PtW (ow : Nat -> Nat) (B g : Nat) (w : World) (a : Option Addr) (L : Nat) (X : Nat -> PtD) (au : Nat -> Option Addr) (cu : Nat -> Nat) (ac : Nat -> Option Addr) (cc : Nat -> Nat) : Prop where
 row : RwT ow B g 58 w a (4 * L) (ptC X au cu ac cc)
 ups : ∀ i, i < L -> RwT ow B (g + 1 + 2 * i) 99 w (au i) (2 * (X i).un) (upF (X i).ub (X i).ui)
 cod : ∀ i, i < L -> RwT ow B (g + 2 + 2 * i) 80 w (ac i) (2 * (X i).cn) (inF (X i).co (X i).ca)
theorem PtW.kept {ow : Nat -> Nat} {B g : Nat} {w w' : World} {a : Option Addr} {L : Nat} {X : Nat -> PtD} {au : Nat -> Option Addr} {cu : Nat -> Nat} {ac : Nat -> Option Addr} {cc : Nat -> Nat} {p : Nat -> Prop} (h : PtW ow B g w a L X au cu ac cc) (hk : zc ow p w w') (hp : ∀ t, g <= t -> t <= g + 2 * L -> ¬ p t) : PtW ow B g w' a L X au cu ac cc :=
 ⟨h.row.kept hk (hp g (by omega) (by omega)), fun i hi => (h.ups i hi).kept hk (hp _ (by omega) (by omega)), fun i hi => (h.cod i hi).kept hk (hp _ (by omega) (by omega))⟩
def ptP (X : Nat -> PtD) (k0 : Int) : Nat -> Int
 | 0 => k0
 | i + 1 => ptP X k0 i + 2 + 2 * (X i).un + 2 * (X i).cn
def ptM (x : PtD) (k : Int) : PtD := ⟨k, k + 1, x.un, fun j => (k + 2 + 2 * (j : Int)) % 3 == 0, fun j => k + 2 + 2 * j + 1, x.cn, fun j => k + 2 + 2 * x.un + 2 * j, fun j => k + 2 + 2 * x.un + 2 * j + 1⟩
theorem zap (X : Nat -> PtD) (k0 : Int) : ∀ i, k0 <= ptP X k0 i
 | 0 => Int.le_refl _
 | i + 1 => by have := zap X k0 i; unfold ptP; omega
theorem zcg (X : Nat -> PtD) (k0 : Int) (i : Nat) : ∀ d, ptP X k0 i <= ptP X k0 (i + d)
 | 0 => Int.le_refl _
 | d + 1 => by have := zcg X k0 i d; show _ <= ptP X k0 (i + d) + 2 + 2 * (X (i + d)).un + 2 * (X (i + d)).cn; omega
def ptX (X : Nat -> PtD) (k0 : Int) (i : Nat) : Nat -> PtD := fun j => if j < i then ptM (X j) (ptP X k0 j) else X j
theorem zh1 {X Y : Nat -> PtD} {au : Nat -> Option Addr} {cu : Nat -> Nat} {ac : Nat -> Option Addr} {cc : Nat -> Nat} {j : Nat} (h : X (j / 4) = Y (j / 4)) : ptC X au cu ac cc j = ptC Y au cu ac cc j := by unfold ptC; rw [h]
theorem za0 (X : Nat -> PtD) (au : Nat -> Option Addr) (cu : Nat -> Nat) (ac : Nat -> Option Addr) (cc : Nat -> Nat) (i : Nat) : ptC X au cu ac cc (i * 4) = .int .i64 (X i).pa := by unfold ptC; rw [if_pos (by omega), Nat.mul_div_cancel i (by omega : 0 < 4)]
theorem zaq (X : Nat -> PtD) (au : Nat -> Option Addr) (cu : Nat -> Nat) (ac : Nat -> Option Addr) (cc : Nat -> Nat) (i : Nat) : ptC X au cu ac cc (i * 4 + 1) = .int .i64 (X i).sl := by unfold ptC; rw [if_neg (by omega), if_pos (by omega), show (i * 4 + 1) / 4 = i by omega]
theorem zaj (X : Nat -> PtD) (au : Nat -> Option Addr) (cu : Nat -> Nat) (ac : Nat -> Option Addr) (cc : Nat -> Nat) (i : Nat) : ptC X au cu ac cc (i * 4 + 2) = .slice (au i) (X i).un (cu i) := by unfold ptC; rw [if_neg (by omega), if_neg (by omega), if_pos (by omega), show (i * 4 + 2) / 4 = i by omega]
theorem zak (X : Nat -> PtD) (au : Nat -> Option Addr) (cu : Nat -> Nat) (ac : Nat -> Option Addr) (cc : Nat -> Nat) (i : Nat) : ptC X au cu ac cc (i * 4 + 3) = .slice (ac i) (X i).cn (cc i) := by unfold ptC; rw [if_neg (by omega), if_neg (by omega), if_neg (by omega), show (i * 4 + 3) / 4 = i by omega]
theorem zby (X : Nat -> PtD) (k0 : Int) (i : Nat) : ptX X k0 i i = X i := by unfold ptX; rw [if_neg (Nat.lt_irrefl _)]
theorem za1 (X : Nat -> PtD) (k0 : Int) (i : Nat) : ptX X k0 (i + 1) i = ptM (X i) (ptP X k0 i) := by unfold ptX; rw [if_pos (Nat.lt_succ_self _)]
theorem zdb (X : Nat -> PtD) (k0 : Int) {i j : Nat} (h : j ≠ i) : ptX X k0 (i + 1) j = ptX X k0 i j := by
 unfold ptX
 by_cases e : j < i
 · rw [if_pos e, if_pos (by omega)]
 · rw [if_neg e, if_neg (by omega)]
theorem PtW.step {ow : Nat -> Nat} {B g : Nat} {wr V w1 w2 : World} {b L : Nat} {X : Nat -> PtD} {k0 : Int} {au : Nat -> Option Addr} {cu : Nat -> Nat} {ac : Nat -> Option Addr} {cc : Nat -> Nat} {i : Nat} (h : PtW ow B g wr (some ⟨b, 0, none⟩) L (ptX X k0 i) au cu ac cc) (hi : i < L) (eb : ow b = g)
 (hV : V = (wr.setCell ⟨b, i * 4, none⟩ (.int .i64 (ptP X k0 i))).setCell ⟨b, i * 4 + 1, none⟩ (.int .i64 (ptP X k0 i + 1)))
 (r1 : RwT ow B (g + 1 + 2 * i) 99 w1 (au i) (2 * (X i).un) (mkU (ptP X k0 i + 2))) (t1 : zc ow (· = g + 1 + 2 * i) V w1)
 (r2 : RwT ow B (g + 2 + 2 * i) 80 w2 (ac i) (2 * (X i).cn) (mkI (ptP X k0 i + 2 + 2 * (X i).un))) (t2 : zc ow (· = g + 2 + 2 * i) w1 w2) :
 PtW ow B g w2 (some ⟨b, 0, none⟩) L (ptX X k0 (i + 1)) au cu ac cc := by
 have t0 : zc ow (· = g) wr V := by rw [hV]; exact ((zc.refl ow _ wr).set eb _ _).set eb _ _
 have row := (((h.row.put (i * 4) (.int .i64 (ptP X k0 i)) (fun j _ => rfl)).put (i * 4 + 1) (.int .i64 (ptP X k0 i + 1)) (fun j _ => rfl)))
 rw [<- hV] at row
 refine ⟨((row.kept t1 (by omega)).kept t2 (by omega)).congr fun j hj => ?_, fun k hk => ?_, fun k hk => ?_⟩
 · by_cases e1 : j = i * 4 + 1
   · subst e1
     simp only [if_true]
     rw [zaq, za1]
     rfl
   · rw [if_neg e1]
     by_cases e0 : j = i * 4
     · subst e0
       simp only [if_true]
       rw [za0, za1]
       rfl
     · rw [if_neg e0]
       by_cases e : j / 4 = i
       · obtain rfl | rfl : j = i * 4 + 2 \/ j = i * 4 + 3 := by omega
         · rw [zaj, zaj, za1, zby]; rfl
         · rw [zak, zak, za1, zby]; rfl
       · exact (zh1 (zdb X k0 e)).symm
 · by_cases e : k = i
   · subst e
     rw [za1]
     have := r1.kept t2 (by omega)
     rw [zgf] at this
     exact this
   · rw [zdb X k0 e]
     exact (((h.ups k hk).kept t0 (by omega)).kept t1 (by omega)).kept t2 (by omega)
 · by_cases e : k = i
   · subst e
     rw [za1]
     rw [zge] at r2
     exact r2
   · rw [zdb X k0 e]
     exact (((h.cod k hk).kept t0 (by omega)).kept t1 (by omega)).kept t2 (by omega)
set_option maxHeartbeats 2000000 in
theorem zdx (ow : Nat -> Nat) (B g : Nat) (a : Option Addr) (L c : Nat) (X : Nat -> PtD) (au : Nat -> Option Addr) (cu : Nat -> Nat) (ac : Nat -> Option Addr) (cc : Nat -> Nat) (k0 : Int) (w : World) (h : PtW ow B g w a L X au cu ac cc) (hL : (L : Int) <= 1048576) (hX : ∀ j, j < L -> PLe (X j) 1048576) (hk0 : 0 <= k0) (hk1 : ptP X k0 L <= 9000000) :
 Calls Tryz.prog 32 #[.slice a L c, .int .i64 k0] w fun e w' => e = .returned (.int .i64 (ptP X k0 L)) /\ PtW ow B g w' a L (ptX X k0 L) au cu ac cc /\ zc ow (fun t => g <= t /\ t <= g + 2 * L) w w' := by
 have HX : Hid (∀ j, j < L -> PLe (X j) 1048576) := hX
 have H0 : Hid (PtW ow B g w a L (ptX X k0 0) au cu ac cc) := by
  have e : ptX X k0 0 = X := by funext j; unfold ptX; rw [if_neg (Nat.not_lt_zero _)]
  show PtW ow B g w a L (ptX X k0 0) au cu ac cc
  rw [e]
  exact h
 have HM : Hid (∀ i, i < L -> 0 <= ptP X k0 i /\ ptP X k0 i + 2 + 2 * (X i).un + 2 * (X i).cn <= 9000000) := fun i hi => by
  have h1 := zap X k0 i
  have h2 := zcg X k0 (i + 1) (L - (i + 1))
  rw [show i + 1 + (L - (i + 1)) = L by omega] at h2
  have h3 : ptP X k0 (i + 1) = ptP X k0 i + 2 + 2 * (X i).un + 2 * (X i).cn := rfl
  rw [h3] at h2
  exact ⟨by omega, Int.le_trans h2 hk1⟩
 clear h hX hk1
 go_enter Tryz.func32, Tryz.ntmps32
 go_wp2
 go_loopw [1, 5] (fun q i wr => ∃ k : Nat, k <= L /\ i = .int .i64 k /\ (∃ z, q = .int .i64 z /\ Hid (z = ptP X k0 k)) /\ Hid (PtW ow B g wr a L (ptX X k0 k) au cu ac cc) /\ Hid (zc ow (fun t => g <= t /\ t <= g + 2 * L) w wr)) (fun _ i _ => L - (intOf i).toNat)
 case atStart => exact ⟨0, Nat.zero_le _, rfl, ⟨_, rfl, rfl⟩, H0.out, zc.refl _ _ _⟩
 case round =>
  clear H0
  obtain ⟨k, hk, rfl, ⟨z, rfl, HZ⟩, HR, HT⟩ := hrel
  by_cases hlt : k < L
  · have hlt' : (k : Int) < (L : Int) := by omega
    obtain ⟨b, rfl, lb, eb, hc, hf⟩ := HR.out.row.at_ (k := k * 4) (by omega)
    obtain ⟨m0, m1⟩ := HM.out k hlt
    obtain ⟨x1, x2⟩ := HX.out k hlt
    rw [<- HZ.out] at m0 m1
    have q0 := (hc (k * 4) (by omega)).trans (congrArg some (za0 _ au cu ac cc k))
    have q1 := (hc (k * 4 + 1) (by omega)).trans (congrArg some (zaq _ au cu ac cc k))
    have q2 := (hc (k * 4 + 2) (by omega)).trans (congrArg some (zaj _ au cu ac cc k))
    have q3 := (hc (k * 4 + 3) (by omega)).trans (congrArg some (zak _ au cu ac cc k))
    rw [zby] at q0 q1 q2 q3
    obtain ⟨V, hV⟩ : ∃ V, V = (wr.setCell ⟨b, k * 4, none⟩ (.int .i64 z)).setCell ⟨b, k * 4 + 1, none⟩ (.int .i64 (z + 1)) := ⟨_, rfl⟩
    have HV : Hid (V = (wr.setCell ⟨b, k * 4, none⟩ (.int .i64 z)).setCell ⟨b, k * 4 + 1, none⟩ (.int .i64 (z + 1))) := hV
    have tV : zc ow (· = g) wr V := by rw [hV]; exact ((zc.refl ow _ wr).set eb _ _).set eb _ _
    have U2 : V.cell? ⟨b, k * 4 + 2, none⟩ = some (.slice (au k) (X k).un (cu k)) := by rw [hV]; simp [go_sem, q2]
    have U3 : V.cell? ⟨b, k * 4 + 3, none⟩ = some (.slice (ac k) (X k).cn (cc k)) := by rw [hV]; simp [go_sem, q3]
    have lV : b < V.heap.size := by rw [hV]; simpa using lb
    have RU : Hid (RwT ow B (g + 1 + 2 * k) 99 V (au k) (2 * (X k).un) (upF (X k).ub (X k).ui)) := by
     have := (HR.out.ups k hlt).kept tV (by omega)
     rw [zby] at this
     exact this
    have RC : Hid (RwT ow B (g + 2 + 2 * k) 80 V (ac k) (2 * (X k).cn) (inF (X k).co (X k).ca)) := by
     have := (HR.out.cod k hlt).kept tV (by omega)
     rw [zby] at this
     exact this
    have TV : Hid (zc ow (· = g) wr V) := tV
    have f0 := hf (k * 4)
    have f1 := hf (k * 4 + 1)
    have HS : Hid (∀ (w1 w2 : World), RwT ow B (g + 1 + 2 * k) 99 w1 (au k) (2 * (X k).un) (mkU (z + 2)) -> zc ow (· = g + 1 + 2 * k) V w1 -> RwT ow B (g + 2 + 2 * k) 80 w2 (ac k) (2 * (X k).cn) (mkI (z + 2 + 2 * (X k).un)) -> zc ow (· = g + 2 + 2 * k) w1 w2 -> PtW ow B g w2 (some ⟨b, 0, none⟩) L (ptX X k0 (k + 1)) au cu ac cc) := fun w1 w2 r1 t1 r2 t2 => by
     rw [HZ.out] at r1 r2 hV
     exact HR.out.step hlt eb hV r1 t1 r2 t2
    have HZ2 : Hid (z + 2 + 2 * ((X k).un : Int) + 2 * ((X k).cn : Int) = ptP X k0 (k + 1)) := by show z + 2 + 2 * ((X k).un : Int) + 2 * ((X k).cn : Int) = ptP X k0 k + 2 + 2 * (X k).un + 2 * (X k).cn; rw [HZ.out]
    have x1' : ((X k).un : Int) <= 1048576 := by omega
    have x2' : ((X k).cn : Int) <= 1048576 := by omega
    clear hV tV hc hf HR HX HM
    obtain ⟨x, hx⟩ : ∃ x, X k = x := ⟨_, rfl⟩
    rw [hx] at m1 x1 x2 q0 q1 q2 q3 U2 U3 RU RC HS HZ2 x1' x2'
    obtain ⟨pa, sl, un, ub, ui, cn, co, ca⟩ := x
    simp only at m1 x1 x2 q0 q1 q2 q3 U2 U3 RU RC HS HZ2 x1' x2'
    clear hx
    generalize au k = aU at q2 U2 RU HS
    generalize ac k = aC at q3 U3 RC HS
    generalize cu k = cU at q2 U2
    generalize cc k = cC at q3 U3
    have HCU : Hid (Calls Tryz.prog 64 #[.slice aU un cU, .int .i64 (z + 1 + 1)] V fun e w' => e = .returned (.int .i64 (z + 2 + 2 * un)) /\ RwT ow B (g + 1 + 2 * k) 99 w' aU (2 * un) (mkU (z + 2)) /\ zc ow (· = g + 1 + 2 * k) V w') := by
     show Calls _ _ _ _ _
     rw [show z + 1 + 1 = z + 2 by omega]
     exact zfp ow B (g + 1 + 2 * k) aU un cU ub ui (z + 2) V RU.out x1' (by omega) (by omega)
    go_wp2_with fail
    rw [<- HV.out]
    refine HCU.out.mono ?_
    rintro e w1 ⟨rfl, r1, t1⟩
    have U3' : w1.cell? ⟨b, k * 4 + 3, none⟩ = some (.slice aC cn cC) := by rw [World.cell?_of_block (t1.block b lV (by show ¬ ow b = g + 1 + 2 * k; omega))]; exact U3
    have l1 : b < w1.heap.size := Nat.lt_of_lt_of_le lV t1.size
    have R1 : Hid (RwT ow B (g + 1 + 2 * k) 99 w1 aU (2 * un) (mkU (z + 2))) := r1
    have T1 : Hid (zc ow (· = g + 1 + 2 * k) V w1) := t1
    have RC1 : Hid (RwT ow B (g + 2 + 2 * k) 80 w1 aC (2 * cn) (inF co ca)) := RC.out.kept t1 (by omega)
    clear r1 t1 q0 q1 q2 q3 f0 f1 U2 U3 lb lV RU RC
    go_wp2_with fail
    refine (ze3 ow B (g + 2 + 2 * k) aC cn cC co ca (z + 2 + 2 * un) w1 RC1.out x2' (by omega) (by omega)).mono ?_
    rintro e w2 ⟨rfl, r2, t2⟩
    have HN : Hid (PtW ow B g w2 (some ⟨b, 0, none⟩) L (ptX X k0 (k + 1)) au cu ac cc) := HS.out w1 w2 R1.out T1.out r2 t2
    have TN : Hid (zc ow (fun t => g <= t /\ t <= g + 2 * L) w w2) := HT.out.trans (((TV.out.mono (fun t e => by subst e; omega)).trans (T1.out.mono (fun t e => by subst e; omega))).trans (t2.mono (fun t e => by subst e; omega)))
    clear r2 t2 HS R1 T1 RC1 U3' l1 TV HT
    go_wp2
    go_roundw
    case rel => exact ⟨k + 1, by omega, by go_num, ⟨_, rfl, HZ2.out⟩, HN.out, TN.out⟩
    case measure => simp [intOf]; omega
  · have hge : (L : Int) <= (k : Int) := by omega
    obtain rfl : k = L := by omega
    go_wp2
    go_ret
    exact ⟨by rw [<- HZ.out]; rfl, HR.out, HT.out⟩
end Go.Proofs.YtblcfbhlmdhnpaaGreat
