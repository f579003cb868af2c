/- - -/
import Derived.Test.YtmckcnmlhgpnhaaGreatWBodyC
import Derived.Test.YtmckcnmlhgpnhaaGreatWItB
namespace Go.Proofs.YtmckcnmlhgpnhaaGreat
set_option maxRecDepth 20000
open Go.RowKit Go.Shelf
set_option linter.unusedSimpArgs false
set_option linter.unusedVariables false
def woK (ws : List Int) (P : Nat) (k s : Int) : Bool := if k = 1 then zdq ws P s else if k = 4 then decide (za ws (P + 1) <= 255) else if k = 6 then (decide (za ws (P + 1) <= 4) && decide (za ws (P + 2) <= 60) && decide (za ws (P + 3) <= za ws (P + 2)) && decide (za ws (P + 4) <= 4095)) else true
def mhK (ws : List Int) (P : Nat) (k : Int) (j : Nat) (t m : Int) : Bool := if k = 1 then false else if k = 2 then (t == 0) || (t == 8) else if k = 3 then (t != 9) && (t != 8) else if k = 4 then t == 9 else if k = 5 then t != 8 else if j = 0 then (t == 0) || (t == 6) else if za ws (P + 2) < (j : Int) then t == 0 else t != 8
theorem zgh {k : Int} (h1 : 1 <= k) (h6 : k <= 6) : k = 1 \/ k = 2 \/ k = 3 \/ k = 4 \/ k = 5 \/ k = 6 := by omega
theorem zj7 {k : Int} (h1 : 1 <= k) (h6 : k <= 6) : ∃ fF : Nat, (∀ v w, Sem.run Tryz.prog (method 372 (zd1 k) v "loop.example/g00101/impl.firstSlot") w = .ok (fF, v) w) /\ (∀ v w, Calls Tryz.prog fF #[v] w fun e w' => e = .returned (.int .i64 (fs k)) /\ w' = w) /\ (∀ args w, (callFunc fF args).run Tryz.prog w = .ok (.enter fF args) w) := by
 rcases zgh h1 h6 with rfl | rfl | rfl | rfl | rfl | rfl
 · exact ⟨242, zq7, zq6, enters_of Tryz.func242 (by kernel_rfl) rfl⟩
 · exact ⟨245, zq9, zq8, enters_of Tryz.func245 (by kernel_rfl) rfl⟩
 · exact ⟨248, zrb, zra, enters_of Tryz.func248 (by kernel_rfl) rfl⟩
 · exact ⟨251, zrd, zrc, enters_of Tryz.func251 (by kernel_rfl) rfl⟩
 · exact ⟨254, zrf, zre, enters_of Tryz.func254 (by kernel_rfl) rfl⟩
 · exact ⟨257, zrh, zrg, enters_of Tryz.func257 (by kernel_rfl) rfl⟩
theorem zh0 {j : Nat} (h : j < 1000) : IntKind.u64.wrap (j : Int) = (j : Int) := by
 simp [IntKind.wrap, IntKind.bits, IntKind.signed]
 omega
theorem zvg {k s : Int} (h1 : 1 <= k) (h6 : k <= 6) (hs : sOk k s = true) (b off cap P n : Nat) (ws : List Int) (w : World) (hb : b < w.heap.size) (hc : ∀ i, i < ws.length -> w.cell? ⟨b, off + i, none⟩ = some (.int .u64 (za ws i))) (hn : (n : Int) = s) (hin : P + n < ws.length) :
 ∃ fM : Nat, (∀ w, Sem.run Tryz.prog (method 372 (zd1 k) (.slice (some ⟨b, off + (P + 1), none⟩) n cap) "loop.example/g00101/impl.mayHold") w = .ok (fM, .slice (some ⟨b, off + (P + 1), none⟩) n cap) w) /\ (∀ args w, (callFunc fM args).run Tryz.prog w = .ok (.enter fM args) w) /\
   (∀ (j : Nat) (t m : Int) (W : World), j < 1000 -> Below w.heap.size w W -> Calls Tryz.prog fM #[.slice (some ⟨b, off + (P + 1), none⟩) n cap, .int .i64 (j : Int), .agg #[.int .i64 t, .int .i64 m]] W fun e w' => e = .returned (.bool (mhK ws P k j t m)) /\ Below W.heap.size W w') := by
 rcases zgh h1 h6 with rfl | rfl | rfl | rfl | rfl | rfl
 · exact ⟨243, zng _, enters_of Tryz.func243 (by kernel_rfl) rfl, fun j t m W _ _ => zvi _ _ t m W⟩
 · exact ⟨246, zni _, enters_of Tryz.func246 (by kernel_rfl) rfl, fun j t m W _ _ => zvj _ _ t m W⟩
 · exact ⟨249, znk _, enters_of Tryz.func249 (by kernel_rfl) rfl, fun j t m W _ _ => zvk _ _ t m W⟩
 · exact ⟨252, znm _, enters_of Tryz.func252 (by kernel_rfl) rfl, fun j t m W _ _ => zvl _ _ t m W⟩
 · exact ⟨255, zno _, enters_of Tryz.func255 (by kernel_rfl) rfl, fun j t m W _ _ => zvm _ _ t m W⟩
 · refine ⟨258, znq _, enters_of Tryz.func258 (by kernel_rfl) rfl, fun j t m W hj hW => ?_⟩
   have hs6 : s = 126 := by rcases zbe hs with g | g | g | g | g | g <;> omega
   obtain ⟨hbW, hcW⟩ := zh hb hc hW
   have e : off + (P + 1) + 1 = off + (P + 2) := by omega
   have hq : W.cell? ⟨b, off + (P + 1) + 1, none⟩ = some (.int .u64 (za ws (P + 2))) := by rw [e]; exact hcW (P + 2) (by omega)
   by_cases h0 : j = 0
   · subst h0
     exact zkx _ _ t m W rfl
   · have hj0 : ((j : Int) == 0) = false := by simp; omega
     by_cases hx : za ws (P + 2) < (j : Int)
     · have := zly b (off + (P + 1)) n cap (j : Int) t m (za ws (P + 2)) W (by omega) hj0 hbW hq (by rw [zh0 hj]; exact hx)
       simpa [mhK, h0, hx] using this
     · have := zo9 b (off + (P + 1)) n cap (j : Int) t m (za ws (P + 2)) W (by omega) hj0 hbW hq (by rw [zh0 hj]; exact decide_eq_false hx)
       simpa [mhK, h0, hx] using this
theorem zrs {k s : Int} (h1 : 1 <= k) (h6 : k <= 6) (hs : sOk k s = true) (b off cap P n : Nat) (ws : List Int) (w : World) (hb : b < w.heap.size) (hc : ∀ i, i < ws.length -> w.cell? ⟨b, off + i, none⟩ = some (.int .u64 (za ws i))) (hw : zg ws) (hn : (n : Int) = s) (hin : P + n < ws.length) :
 ∃ fW : Nat, (∀ w, Sem.run Tryz.prog (method 372 (zd1 k) (.slice (some ⟨b, off + (P + 1), none⟩) n cap) "loop.example/g00101/impl.wordsOk") w = .ok (fW, .slice (some ⟨b, off + (P + 1), none⟩) n cap) w) /\ (∀ args w, (callFunc fW args).run Tryz.prog w = .ok (.enter fW args) w) /\
   (∀ (W : World), Below w.heap.size w W -> Calls Tryz.prog fW #[.slice (some ⟨b, off + (P + 1), none⟩) n cap] W fun e w' => e = .returned (.bool (woK ws P k s)) /\ Below W.heap.size W w') := by
 have same : ∀ {f : Nat} {args : Array Value} {W : World} {q : Bool}, (Calls Tryz.prog f args W fun e w' => e = .returned (.bool q) /\ w' = W) -> Calls Tryz.prog f args W fun e w' => e = .returned (.bool q) /\ Below W.heap.size W w' := fun h => h.mono (by rintro e w' ⟨rfl, rfl⟩; exact ⟨rfl, Below.refl _ _⟩)
 rcases zgh h1 h6 with rfl | rfl | rfl | rfl | rfl | rfl
 · refine ⟨244, znf _, enters_of Tryz.func244 (by kernel_rfl) rfl, fun W hW => same ?_⟩
   have hs1 : 1 <= s /\ s <= 21 := by rcases zbe hs with g | g | g | g | g | g <;> omega
   obtain ⟨hbW, hcW⟩ := zh hb hc hW
   have hq := hcW (P + 1) (by omega)
   have hwx := zac hw (P + 1)
   have e : woK ws P 1 s = zdq ws P s := by simp [woK]
   rw [e]
   by_cases hf : 160 < za ws (P + 1)
   · have e2 : zdq ws P s = false := decide_eq_false (fun h => by omega)
     rw [e2]
     exact znd b _ n cap _ W (by omega) hq hf
   · by_cases hm : s = 1 + (za ws (P + 1) + 7) / 8
     · have hne : ((1 + (za ws (P + 1) + 7) / 8) != (n : Int)) = false := by rw [hn, hm]; simp
       have htm : (za ws (P + 1)).tmod 8 = za ws (P + 1) % 8 := Int.tmod_eq_emod_of_nonneg hwx.1
       by_cases hr : za ws (P + 1) % 8 = 0
       · have e2 : zdq ws P s = true := decide_eq_true ⟨by omega, hm, .inl hr⟩
         rw [e2]
         exact zlx b _ n cap _ _ W (by omega) hq hwx.1 (by omega) rfl hne (by rw [htm]; exact hr)
       · have hn2 : P + s.toNat = P + 1 + (n - 1) := by omega
         have hwy := zac hw (P + s.toNat)
         have hq2 : W.cell? ⟨b, off + (P + 1) + (n - 1), none⟩ = some (.int .u64 (za ws (P + s.toNat))) := by
          have := hcW (P + s.toNat) (by omega)
          rw [hn2] at this ⊢
          rw [show off + (P + 1) + (n - 1) = off + (P + 1 + (n - 1)) by omega]
          exact this
         have e2 : zdq ws P s = decide (za ws (P + s.toNat) / 2 ^ (8 * (za ws (P + 1) % 8)).toNat = 0) := by
          unfold zdq
          apply decide_eq_decide.2
          constructor
          · rintro ⟨_, _, g | g⟩
            · exact absurd g hr
            · exact g
          · exact fun g => ⟨by omega, hm, .inr g⟩
         rw [e2]
         exact zne b _ n cap _ _ _ _ W (by omega) (by omega) hq hq2 hwy.1 hwy.2 hwx.1 (by omega) rfl hne htm (by omega) (by omega)
     · have hne : ((1 + (za ws (P + 1) + 7) / 8) != (n : Int)) = true := by rw [hn]; simp; omega
       have e2 : zdq ws P s = false := decide_eq_false (fun h => hm h.2.1)
       rw [e2]
       exact zlw b _ n cap _ _ W (by omega) hq hwx.1 (by omega) rfl hne
 · exact ⟨247, znh _, enters_of Tryz.func247 (by kernel_rfl) rfl, fun W _ => same (zvn _ W)⟩
 · exact ⟨250, znj _, enters_of Tryz.func250 (by kernel_rfl) rfl, fun W _ => same (zvo _ W)⟩
 · refine ⟨253, znl _, enters_of Tryz.func253 (by kernel_rfl) rfl, fun W hW => same ?_⟩
   have hs1 : 1 <= s := by rcases zbe hs with g | g | g | g | g | g <;> omega
   exact zvq b _ n cap _ W (by omega) ((zh hb hc hW).2 (P + 1) (by omega))
 · exact ⟨256, znn _, enters_of Tryz.func256 (by kernel_rfl) rfl, fun W _ => same (zvp _ W)⟩
 · refine ⟨259, znp _, enters_of Tryz.func259 (by kernel_rfl) rfl, fun W hW => ?_⟩
   have hs6 : s = 126 := by rcases zbe hs with g | g | g | g | g | g <;> omega
   obtain ⟨hbW, hcW⟩ := zh hb hc hW
   have q : ∀ i, i < 4 -> W.cell? ⟨b, off + (P + 1) + i, none⟩ = some (.int .u64 (za ws (P + 1 + i))) := fun i hi => by
    rw [show off + (P + 1) + i = off + (P + 1 + i) by omega]; exact hcW (P + 1 + i) (by omega)
   exact zvh b (off + (P + 1)) n cap _ _ _ _ W (by omega) (q 0 (by omega)) (q 1 (by omega)) (q 2 (by omega)) (q 3 (by omega))
set_option maxRecDepth 100000 in
set_option maxHeartbeats 1000000 in
theorem ztv (b off cw : Nat) (ws : List Int) (smz toh top : Int) (cyc : Bool) (sn old cpz sr : Int) (ar : Option Addr) (cr : Nat) (rs : List (Int × Int)) (P n : Nat) (k : Int) (w : World) (hb : b < w.heap.size) (hc : ∀ i, i < ws.length -> w.cell? ⟨b, off + i, none⟩ = some (.int .u64 (za ws i))) (hn : ws.length <= 1048576) (hw : zg ws) (hcw : ws.length <= cw) (hk : rdK (za ws P) = k) (hs : rdS (za ws P) = (n : Int)) (hin : P + n < ws.length) (hn1 : 1 <= n) :
 Calls Tryz.prog 168 #[(.agg #[.slice (some ⟨b, off, none⟩) ws.length cw, .int .i64 smz, .int .i64 toh, .int .i64 top, .bool cyc, .int .i64 sn, .int .i64 old, .int .i64 cpz, .int .i64 sr, .slice ar rs.length cr]), .int .i64 (P : Int)] w fun e w' => (∃ cap, e = .returned (.iface (zd1 k) (.slice (some ⟨b, off + (P + 1), none⟩) n cap))) /\ Below w.heap.size w w' := by
 have hin' : (P : Int) + 1 + (n : Int) <= (cw : Int) := by omega
 have hP1 : (P : Int) + 1 <= 1048577 := by omega
 have hn' : (n : Int) <= 1048576 := by omega
 have hfk := zdp
 have hfs := zfl
 have HC : Hid (∀ i, i < ws.length -> w.cell? ⟨b, off + i, none⟩ = some (.int .u64 (za ws i))) := hc
 clear hc
 go_enter Tryz.func168, Tryz.ntmps168
 go_wp2_with (go_at_call 81; refine (zc3 _ _ _ _ _ _ _ _ _ _ _ _ _ _ _ P _ rfl (zcq (zc6 hb) (fun i hi => zx hb (HC.out i hi))) hn hw (by omega)).mono ?_; rw [hk, hs]; rintro e w1 ⟨rfl, b1⟩)
 obtain ⟨w2, hw2⟩ : ∃ w2, w2 = w1.alloc (.cells #[.int .i64 k, .int .i64 (n : Int), .int .i64 (rdN (za ws P))] 78) := ⟨_, rfl⟩
 rw [<- hw2]
 have kh : ∀ i, w2.cell? ⟨w1.heap.size, i, none⟩ = (#[.int .i64 k, .int .i64 (n : Int), .int .i64 (rdN (za ws P))] : Array Value)[i]? := fun i => by rw [hw2]; simp [go_sem]
 have B1 := zd b1
 have ka : ∀ i, w2.cell? ⟨w.heap.size, i, none⟩ = (#[.slice (some ⟨b, off, none⟩) ws.length cw, .int .i64 smz, .int .i64 toh, .int .i64 top, .bool cyc, .int .i64 sn, .int .i64 old, .int .i64 cpz, .int .i64 sr, .slice ar rs.length cr] : Array Value)[i]? := fun i => by
  have z1 := zq b1
  rw [hw2, World.cell?_of_block (w := w1) (Below.heap_alloc w1 _ w.heap.size z1)]
  exact zp b1 (by simp) i
 have B2 : Below w.heap.size w w2 := by rw [hw2]; exact B1.alloc B1.size _
 clear hw2 b1 HC hfk hfs B1
 have i1 : IntKind.i64.wrap ((P : Int) + 1) = (P : Int) + 1 := by rw [IntKind.wrap_i64]; omega
 have i2 : IntKind.i64.wrap ((P : Int) + 1 + (n : Int)) = (P : Int) + 1 + (n : Int) := by rw [IntKind.wrap_i64]; omega
 have i3 : (0 : Int) <= (P : Int) + 1 := by omega
 have i4 : (P : Int) + 1 <= (P : Int) + 1 + (n : Int) := by omega
 have i5 : ((P : Int) + 1).toNat = P + 1 := by omega
 have i6 : ((P : Int) + 1 + (n : Int)).toNat = P + 1 + n := by omega
 have hsl : ∀ W, (Instr.slice 22 (.slice (some ⟨b, off, none⟩) ws.length cw) (some (.int .i64 (IntKind.i64.wrap ((P : Int) + 1)))) (some (.int .i64 (IntKind.i64.wrap (IntKind.i64.wrap ((P : Int) + 1) + (n : Int))))) none).run Tryz.prog W = .ok (.slice (some ⟨b, off + (P + 1), none⟩) n (cw - (P + 1))) W := fun W => by
  have hz := Tryz.sizeOf100
  have he : Tryz.prog.elem 22 = 100 := by kernel_rfl
  rw [i1, i2, run_slice_lh W 22 _ _ _ (by rw [he]; exact Tryz.underlying22) .i64 .i64 _ _ i3 i4 hin', he, hz]
  have g1 : ¬ cw = P + 1 := by omega
  have g2 : P + 1 + n - (P + 1) = n := by omega
  simp [Result.andThen, sliced, i5, i6, g1, g2, Addr.add]
 have hsa : ∀ W, (Instr.sliceAt 22 (.slice (some ⟨b, off, none⟩) ws.length cw) (some (.int .i64 (IntKind.i64.wrap ((P : Int) + 1)))) (some (.int .i64 (IntKind.i64.wrap (IntKind.i64.wrap ((P : Int) + 1) + (n : Int))))) none).run Tryz.prog W = .ok (.slice (some ⟨b, off + (P + 1), none⟩) n (cw - (P + 1))) W := fun W => by
  rw [run_sliceAt_slice W 22 _ _ _ _ (by kernel_rfl)]; exact hsl W
 clear i1 i2 i3 i4 i5 i6 hsl
 go_region_held3 (fun V => V = w2.drew) (first | assumption | rfl) (first | (go_at_call 160; refine (zhb _ _ _).mono ?_; rintro e w' ⟨rfl, rfl⟩))
 all_goals
  go_wp2
  go_ret
  exact ⟨⟨_, rfl⟩, B2.drew⟩
def zd6 (ws : List Int) (P j : Nat) : Nat := P + (fs (rdK (za ws P)) + 2 * (j : Int)).toNat
def zfq (ws : List Int) (lead : Nat -> Int) (F top : Int) (cyc : Bool) (sn : Int) (P : Nat) : Prop :=
 woK ws P (rdK (za ws P)) (rdS (za ws P)) = true /\ ∀ j, j < slN (rdK (za ws P)) (rdS (za ws P)) -> zbv ws lead F top cyc sn (mhK ws P (rdK (za ws P))) P (zd6 ws P) j = true
def zax (ws : List Int) (lead : Nat -> Int) (F top : Int) (cyc : Bool) (sn : Int) (pl : List Nat) (k : Nat) : Prop := ∀ i, i < k -> zfq ws lead F top cyc sn (pl.getD i 0)
theorem znb {ws : List Int} {lead : Nat -> Int} {F top : Int} {cyc : Bool} {sn : Int} {pl : List Nat} {k : Nat} (h : zax ws lead F top cyc sn pl k) (hk : zfq ws lead F top cyc sn (pl.getD k 0)) : zax ws lead F top cyc sn pl (k + 1) := fun i hi => by
 by_cases e : i = k
 · subst e; exact hk
 · exact h i (by omega)
theorem zwj (k : Int) : 1 <= fs k /\ fs k <= 65536 := by unfold fs; split <;> (try split) <;> (try split) <;> omega
set_option maxHeartbeats 2000000 in
theorem ze7 (b off cw : Nat) (ws : List Int) (smz toh top : Int) (cyc : Bool) (sn old cpz sr : Int) (ar : Option Addr) (cr : Nat) (rs : List (Int × Int)) (sv bl cl bs bc : Nat) (av : Option Addr) (cv : Nat) (lead : Nat -> Int) (pl : List Nat) (Tp : Nat) (F : Int) (w : World) (lsv : sv < w.heap.size) (KS : ∀ i, w.cell? ⟨sv, i, none⟩ = (#[.slice (some ⟨b, off, none⟩) ws.length cw, .int .i64 smz, .int .i64 toh, .int .i64 top, .bool cyc, .int .i64 sn, .int .i64 old, .int .i64 cpz, .int .i64 sr, .slice ar rs.length cr, .slice (some ⟨bl, 0, none⟩) ws.length cl, .slice av pl.length cv, .map (some bs), .map (some bc)] : Array Value)[i]?) (lbl : bl < w.heap.size) (hl : ∀ i, i < ws.length -> w.cell? ⟨bl, i, none⟩ = some (.int .i64 (lead i))) (hb : b < w.heap.size) (hc : ∀ i, i < ws.length -> w.cell? ⟨b, off + i, none⟩ = some (.int .u64 (za ws i))) (hn : ws.length <= 1048576) (hw : zg ws) (hcw : ws.length <= cw) (hpl : SlF Tp w (.slice av pl.length cv) pl.length pl.length (fun i => .int .i64 ((pl.getD i 0 : Nat) : Int))) (hln : pl.length <= 1048575) (hlr : ∀ i, i < ws.length -> 0 <= lead i /\ lead i < ws.length) (t0 : 0 <= toh) (t1 : toh <= 1) (s0 : 256 <= smz) (s1 : smz <= 4000) (hF : toh * smz + 1 = F) (hin : ∀ p ∈ pl, zai (za ws p) = true /\ p + (rdS (za ws p)).toNat < ws.length) :
 Calls Tryz.prog 134 #[.pointer (some ⟨sv, 0, none⟩)] w fun e w' => ∃ q, e = .returned (.bool q) /\ (q = true ↔ zax ws lead F top cyc sn pl pl.length) /\ Below w.heap.size w w' := by
 have HC : Hid (∀ i, i < ws.length -> w.cell? ⟨b, off + i, none⟩ = some (.int .u64 (za ws i))) := hc
 have HL : Hid (∀ i, i < ws.length -> w.cell? ⟨bl, i, none⟩ = some (.int .i64 (lead i))) := hl
 have HLR : Hid (∀ i, i < ws.length -> 0 <= lead i /\ lead i < ws.length) := hlr
 have HF : Hid (toh * smz + 1 = F) := hF
 have HPL : Hid (SlF w.heap.size w (.slice av pl.length cv) pl.length pl.length (fun i => .int .i64 ((pl.getD i 0 : Nat) : Int))) := hpl.here
 have HIN : Hid (∀ p ∈ pl, zai (za ws p) = true /\ p + (rdS (za ws p)).toNat < ws.length) := hin
 have hln' : (pl.length : Int) <= 1048575 := by omega
 clear hc hl hlr hF hpl hin
 go_enter Tryz.func134, Tryz.ntmps134
 go_wp2
 go_loopw [11] (fun u11 wr => ∃ k : Nat, k <= pl.length /\ u11 = .int .i64 k /\ Hid (zax ws lead F top cyc sn pl k) /\ Below w.heap.size w wr) (fun u11 _ => pl.length - (intOf u11).toNat)
 case atStart => exact ⟨0, Nat.zero_le _, rfl, fun i hi => by omega, Below.refl _ _⟩
 case round =>
  obtain ⟨k, hk, rfl, HT, hB⟩ := hrel
  by_cases hlt : k < pl.length
  · have hlt' : (k : Int) < (pl.length : Int) := by omega
    obtain ⟨bp, op, cap, hv, _, lbp, hcp⟩ := HPL.out.parts (k := 0) (by omega)
    simp only [Value.slice.injEq] at hv
    obtain ⟨rfl, _, rfl⟩ := hv
    have hcp1 : wr.cell? ⟨bp, op + k, none⟩ = some (.int .i64 ((pl.getD k 0 : Nat) : Int)) := by rw [hB.cell (p := ⟨bp, op + k, none⟩) lbp]; exact hcp k hlt
    have hmem : pl.getD k 0 ∈ pl := by simp [hlt]
    obtain ⟨P, hP⟩ : ∃ P, P = pl.getD k 0 := ⟨_, rfl⟩
    rw [<- hP] at hcp1 hmem
    obtain ⟨hro, hPs⟩ := HIN.out P hmem
    have HST : Hid (zfq ws lead F top cyc sn P -> zax ws lead F top cyc sn pl (k + 1)) := fun g => znb HT.out (by rw [<- hP]; exact g)
    have HNO : Hid (zax ws lead F top cyc sn pl pl.length -> zfq ws lead F top cyc sn P) := fun g => by rw [hP]; exact g k hlt
    clear hcp HPL HIN hmem HT hP
    have hso := zde hro
    have hk16 : 1 <= rdK (za ws P) /\ rdK (za ws P) <= 6 /\ 1 <= rdS (za ws P) /\ rdS (za ws P) <= 256 := by rcases zbe hso with g | g | g | g | g | g <;> omega
    obtain ⟨n, hns⟩ : ∃ n : Nat, (n : Int) = rdS (za ws P) := ⟨(rdS (za ws P)).toNat, by omega⟩
    obtain ⟨kk, hkk⟩ : ∃ kk, kk = rdK (za ws P) := ⟨_, rfl⟩
    have hin2 : P + n < ws.length := by omega
    have hNs := zff hso
    have hN1 := zjz (rdK (za ws P)) (rdS (za ws P))
    obtain ⟨N, hN⟩ : ∃ N, N = slN (rdK (za ws P)) (rdS (za ws P)) := ⟨_, rfl⟩
    have HBD : Hid (zfq ws lead F top cyc sn P ↔ woK ws P kk (n : Int) = true /\ ∀ j, j < N -> zbv ws lead F top cyc sn (mhK ws P kk) P (zd6 ws P) j = true) := by
     show zfq ws lead F top cyc sn P ↔ _
     rw [hkk, hns, hN]; rfl
    have hfg := zwj kk
    have HX : Hid (∀ j : Nat, (P : Int) + fs kk + 2 * (j : Int) = (zd6 ws P j : Int)) := fun j => by
     have : zd6 ws P j = P + (fs kk + 2 * (j : Int)).toNat := by rw [hkk]; rfl
     rw [this]; omega
    rw [<- hN, <- hkk, <- hns] at hNs
    rw [<- hN] at hN1
    rw [<- hkk, <- hns] at hso hk16
    obtain ⟨hk1, hk6, hn1, hn256⟩ := hk16
    have HNs : Hid (∀ m : Nat, fs kk + 2 * (m : Int) < (n : Int) ↔ m < N) := hNs
    have hso' : Hid (sOk kk (n : Int) = true) := hso
    have HKK : Hid (rdK (za ws P) = kk) := hkk.symm
    have HNN : Hid (rdS (za ws P) = (n : Int)) := hns.symm
    clear hNs hso hkk hns hN hPs
    have KSr := ze KS hB lsv
    obtain ⟨hbr, hcr⟩ := zh hb HC.out hB
    have HCR : Hid (∀ i, i < ws.length -> wr.cell? ⟨b, off + i, none⟩ = some (.int .u64 (za ws i))) := hcr
    clear hcr
    go_upto_region 5 with (go_at_call 168; refine (ztv _ _ _ _ _ _ _ _ _ _ _ _ _ _ _ P n kk _ hbr HCR.out hn hw hcw HKK.out HNN.out hin2 (by omega)).mono ?_; rintro e w5 ⟨⟨cap, rfl⟩, b5⟩)
    have B5 : Below w.heap.size w w5 := zc hB b5
    obtain ⟨hb5, hc5⟩ := zh hb HC.out B5
    obtain ⟨fW, hmW, henW, hW⟩ := zrs hk1 hk6 hso'.out b off cap P n ws w5 hb5 hc5 hw rfl hin2
    obtain ⟨fM, hmM, henM, hM⟩ := zvg hk1 hk6 hso'.out b off cap P n ws w5 hb5 hc5 rfl hin2
    obtain ⟨fF, hmF, hfF, henF⟩ := zj7 hk1 hk6
    obtain ⟨T, hTT⟩ : ∃ T, zd1 kk = T := ⟨_, rfl⟩
    rw [hTT] at hmW hmM hmF ⊢
    have HW : Hid (∀ (W : World), Below w5.heap.size w5 W -> Calls Tryz.prog fW #[.slice (some ⟨b, off + (P + 1), none⟩) n cap] W fun e w' => e = .returned (.bool (woK ws P kk (n : Int))) /\ Below W.heap.size W w') := hW
    have HSO : Hid (∀ W, Below w5.heap.size w5 W -> Calls Tryz.prog 169 #[.pointer (some ⟨sv, 0, none⟩), .int .i64 (P : Int), .iface T (.slice (some ⟨b, off + (P + 1), none⟩) n cap)] W fun e w' => ∃ q, e = .returned (.bool q) /\ (q = true ↔ ∀ j, j < N -> zbv ws lead F top cyc sn (mhK ws P kk) P (zd6 ws P) j = true) /\ Below W.heap.size W w') := fun W hWW => by
     have BW := zc B5 hWW
     exact zrt b off cw ws smz toh top cyc sn old cpz sr ar cr rs sv bl cl bs bc (.slice (some ⟨bp, op, none⟩) pl.length cv) lead P N fF fM kk (n : Int) (fs kk) F T _ (mhK ws P kk) (zd6 ws P) W (Nat.lt_of_lt_of_le lsv BW.size) (ze KS BW lsv) (Nat.lt_of_lt_of_le lbl BW.size) (fun i hi => by rw [BW.cell (p := ⟨bl, i, none⟩) lbl]; exact HL.out i hi) (zh hb HC.out BW).1 (zh hb HC.out BW).2 hn hw HLR.out t0 t1 s0 s1 HF.out (by omega) HKK.out HNN.out (by omega) (by omega) hfg.1 hfg.2 (by omega) HNs.out HX.out hTT hmF hfF henF hmM henM (fun j t m W' hj hW' => hM j t m W' (by omega) (zc hWW hW'))
    clear hW hmM henM hM hmF hfF henF hTT hc5 hcp1 KSr b5 hfg
    cases hwo : woK ws P kk (n : Int) with
    | false =>
      have HBAD : Hid (¬ zax ws lead F top cyc sn pl pl.length) := fun g => by have := (HBD.out.1 (HNO.out g)).1; rw [hwo] at this; simp at this
      rw [hwo] at HW
      go_wp2_with (first | (refine (HW.out _ (Below.refl _ _)).mono ?_; rintro e w6 ⟨rfl, b6⟩))
      go_ret
      first
       | exact ⟨false, rfl, ⟨fun g => by simp at g, fun g => absurd g HBAD.out⟩, zc B5 b6⟩
       | exact Or.inl ⟨rfl, HBAD.out, zc B5 b6⟩
    | true =>
      rw [hwo] at HW
      by_cases hsl : ∀ j, j < N -> zbv ws lead F top cyc sn (mhK ws P kk) P (zd6 ws P) j = true
      · have HSL : Hid (∀ j, j < N -> zbv ws lead F top cyc sn (mhK ws P kk) P (zd6 ws P) j = true) := hsl
        have HN2 : Hid (zax ws lead F top cyc sn pl (k + 1)) := HST.out (HBD.out.2 ⟨hwo, hsl⟩)
        clear hsl
        go_wp2_with (first | (go_at_call 169; refine (HSO.out _ b6).mono ?_; rintro e w7 ⟨q, rfl, hq, b7⟩; obtain rfl : q = true := hq.2 HSL.out; clear hq) | (refine (HW.out _ (Below.refl _ _)).mono ?_; rintro e w6 ⟨rfl, b6⟩))
        exact ⟨⟨k + 1, hlt, by go_num, HN2, zc (zc B5 b6) b7⟩, by simp [intOf]; omega⟩
      · have HSL : Hid (¬ ∀ j, j < N -> zbv ws lead F top cyc sn (mhK ws P kk) P (zd6 ws P) j = true) := hsl
        have HBAD : Hid (¬ zax ws lead F top cyc sn pl pl.length) := fun g => hsl (HBD.out.1 (HNO.out g)).2
        clear hsl
        go_wp2_with (first | (go_at_call 169; refine (HSO.out _ b6).mono ?_; rintro e w7 ⟨q, rfl, hq, b7⟩; obtain rfl : q = false := zg2 hq HSL.out; clear hq) | (refine (HW.out _ (Below.refl _ _)).mono ?_; rintro e w6 ⟨rfl, b6⟩))
        go_ret
        have b67 := zc (zc B5 b6) b7
        first
         | exact ⟨false, rfl, ⟨fun g => by simp at g, fun g => absurd g HBAD.out⟩, b67⟩
         | exact Or.inl ⟨rfl, HBAD.out, b67⟩
  · have hkl : k = pl.length := by omega
    have HTL : Hid (zax ws lead F top cyc sn pl pl.length) := by have := HT.out; rw [hkl] at this; exact this
    have hge : (pl.length : Int) <= (k : Int) := by omega
    clear hkl
    go_wp2
    go_ret
    first
     | exact ⟨true, rfl, ⟨fun _ => HTL.out, fun _ => rfl⟩, hB⟩
     | exact Or.inr ⟨rfl, HTL.out, hB⟩
end Go.Proofs.YtmckcnmlhgpnhaaGreat
