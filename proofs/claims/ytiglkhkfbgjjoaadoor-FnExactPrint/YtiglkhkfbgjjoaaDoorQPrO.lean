/- - -/
import Derived.Test.YtiglkhkfbgjjoaaDoorQPrN
import Derived.Test.YtiglkhkfbgjjoaaDoorQTrE
namespace Go.Proofs.YtiglkhkfbgjjoaaDoor
set_option maxRecDepth 20000
open Go.RowKit Go.PlainAid Go.Maps
set_option linter.unusedSimpArgs false
set_option linter.unusedVariables false
structure zbt (V : World) : Prop where
 sz : 2 < V.heap.size
 op : ∀ n, n < 11 -> V.cell? ⟨1, n, none⟩ = some (.string (opL.getD n ⟨#[]⟩))
 tn : ∀ n, n < 4 -> V.cell? ⟨2, n, none⟩ = some (.string (tnL.getD n ⟨#[]⟩))
 tab : Lib.TabIs Tryd.prog V "internal/strconv.uint64pow10" .u64 Lib.pow10Tab
theorem zbu {k : Int} (h : zt k ≠ 0) : k = 1 \/ k = 2 \/ k = 3 \/ k = 4 \/ k = 5 \/ k = 6 \/ k = 7 \/ k = 8 \/ k = 9 \/ k = 10 \/ k = 11 \/ k = 12 \/ k = 13 \/ k = 14 \/ k = 15 \/ k = 16 \/ k = 17 \/ k = 18 \/ k = 19 \/ k = 20 \/ k = 21 \/ k = 22 \/ k = 23 \/ k = 24 := by
 unfold zt at h
 split at h <;> omega
set_option maxHeartbeats 2000000 in
theorem zhm (pb b off c L z : Nat) (v : Value) (xs : List ByteArray) (x : KnD) (a : Option Addr) (ck : Nat) (rec : Int -> List ByteArray) (T : Nat) (w0 w : World)
 (hbT : b < pb) (hz : z < L) (hL : L <= 3000) (c0 : w0.cell? ⟨b, off + z * 4, none⟩ = some (.int .i64 x.k)) (c1 : w0.cell? ⟨b, off + z * 4 + 1, none⟩ = some (.string x.t)) (c2 : w0.cell? ⟨b, off + z * 4 + 2, none⟩ = some (.int .i64 x.i)) (c3 : w0.cell? ⟨b, off + z * 4 + 3, none⟩ = some (.slice a x.len ck))
 (hk : SlF T w0 (.slice a x.len ck) x.len x.len (fun i => .int .i64 (x.y i))) (hT : T <= pb) (hc1 : x.len <= ck) (hc2 : ck <= 1048576)
 (ht : zl x.k x.t = true) (hi : zm x.k x.i = true) (hq : zt x.k ≠ 0) (hn : (shp x.k x.len).length = x.len) (htab : ∀ V, Below pb w0 V -> zbt V)
 (hs : xs.length + 40 * ((bod rec x).length + 1) <= 1000000)
 (hp : Pnt pb (.slice (some ⟨b, off, none⟩) L c) w v xs) (hb : Below pb w0 w) (hr : ∀ m, m < x.len -> Pr pb (.slice (some ⟨b, off, none⟩) L c) w0 rec (x.y m)) :
 Calls Tryd.prog 87 #[.pointer (some ⟨pb, 0, none⟩), .int .i64 (z : Int)] w (zb pb (.slice (some ⟨b, off, none⟩) L c) xs (bod rec x) w v) := by
 obtain ⟨k, t, i, l, y⟩ := x
 dsimp only at *
 rcases zbu hq with rfl | rfl | rfl | rfl | rfl | rfl | rfl | rfl | rfl | rfl | rfl | rfl | rfl | rfl | rfl | rfl | rfl | rfl | rfl | rfl | rfl | rfl | rfl | rfl
 · obtain rfl : l = 0 := by simp [shp] at hn; omega
   have e : bod rec _ = [⟨#[110, 105, 108]⟩] := (by simp [bod, opB, flN, List.append_assoc] : bod rec ⟨1, t, i, 0, y⟩ = _)
   rw [e] at hs ⊢
   exact zj0 pb b off c L z v xs t i a 0 ck y rec T w0 w  hbT hz hL c0 c1 c2 c3 hk hT (by omega) hc1 hc2 hs hp hb hr
 · obtain rfl : l = 0 := by simp [shp] at hn; omega
   have hi' : i = 0 \/ i = 1 := by simpa [zm] using hi
   rcases hi' with rfl | rfl
   · have e : bod rec _ = [⟨#[102, 97, 108, 115, 101]⟩] := (by simp [bod] : bod rec ⟨2, t, 0, 0, y⟩ = _)
     rw [e] at hs ⊢
     exact zi8 pb b off c L z v xs t  a 0 ck y rec T w0 w  hbT hz hL c0 c1 c2 c3 hk hT (by omega) hc1 hc2 hs hp hb hr
   · have e : bod rec _ = [⟨#[116, 114, 117, 101]⟩] := (by simp [bod] : bod rec ⟨2, t, 1, 0, y⟩ = _)
     rw [e] at hs ⊢
     exact zi9 pb b off c L z v xs t  a 0 ck y rec T w0 w  hbT hz hL c0 c1 c2 c3 hk hT (by omega) hc1 hc2 hs hp hb hr
 · obtain rfl : l = 0 := by simp [shp] at hn; omega
   have hi' : 0 <= i /\ i <= 999999999999999 := by simpa [zm] using hi
   have e : bod rec _ = [⟨(Lib.itoa i).toArray⟩] := (by simp [bod, opB, flN, List.append_assoc] : bod rec ⟨3, t, i, 0, y⟩ = _)
   rw [e] at hs ⊢
   exact zj3 pb b off c L z v xs t i a 0 ck y rec T w0 w (by omega) (by omega) (fun V h => (htab V h).tab) hbT hz hL c0 c1 c2 c3 hk hT (by omega) hc1 hc2 hs hp hb hr
 · obtain rfl : l = 0 := by simp [shp] at hn; omega
   have ht' : t.size <= 160 := (by simp [zl, zac] at ht; exact ht.2)
   have e : bod rec _ = [⟨#[34]⟩ ++ t ++ ⟨#[34]⟩] := (by simp [bod] : bod rec ⟨4, t, i, 0, y⟩ = _)
   rw [e] at hs ⊢
   exact zj4 pb b off c L z v xs t i a 0 ck y rec T w0 w (by omega) _ rfl hbT hz hL c0 c1 c2 c3 hk hT (by omega) hc1 hc2 hs hp hb hr
 · obtain rfl : l = 0 := by simp [shp] at hn; omega
   have e : bod rec _ = [t] := (by simp [bod, opB, flN, List.append_assoc] : bod rec ⟨5, t, i, 0, y⟩ = _)
   rw [e] at hs ⊢
   exact zj1 pb b off c L z v xs t i a 0 ck y rec T w0 w  hbT hz hL c0 c1 c2 c3 hk hT (by omega) hc1 hc2 hs hp hb hr
 · obtain ⟨q, rfl⟩ : ∃ q, l = q + 1 := ⟨l - 1, by simp [shp] at hn; omega⟩
   obtain ⟨bk, ok, ck2, hv, -⟩ := hk.parts (k := 0) (by omega)
   simp only [Value.slice.injEq] at hv
   obtain ⟨rfl, _, rfl⟩ := hv
   have e : bod rec _ = [⟨#[40]⟩] ++ ([⟨#[102, 110]⟩, ⟨#[40]⟩] ++ cmN rec y q ++ [⟨#[41]⟩] ++ rec (y q)) ++ [⟨#[41]⟩] := (by simp [bod, opB, flN, List.append_assoc] : bod rec ⟨6, t, i, q + 1, y⟩ = _)
   rw [e] at hs ⊢
   exact zj6 pb b off c L z v xs t i bk ok  ck y rec T w0 w q hbT hz hL c0 c1 c2 c3 hk hT (by omega) hc1 hc2 hs hp hb hr
 · have e : bod rec _ = [⟨#[40]⟩] ++ ([⟨#[123]⟩] ++ cmN rec y l ++ [⟨#[125]⟩]) ++ [⟨#[41]⟩] := (by simp [bod, opB, flN, List.append_assoc] : bod rec ⟨7, t, i, l, y⟩ = _)
   rw [e] at hs ⊢
   exact zj5 pb b off c L z v xs t i a l ck y rec T w0 w  hbT hz hL c0 c1 c2 c3 hk hT (by omega) hc1 hc2 hs hp hb hr
 · obtain rfl : l = 2 := by simp [shp] at hn; omega
   obtain ⟨bk, ok, ck2, hv, -⟩ := hk.parts (k := 0) (by omega)
   simp only [Value.slice.injEq] at hv
   obtain ⟨rfl, _, rfl⟩ := hv
   have e : bod rec _ = rec (y 0) ++ [⟨#[91]⟩] ++ rec (y 1) ++ [⟨#[93]⟩] := (by simp [bod, opB, flN, List.append_assoc] : bod rec ⟨8, t, i, 2, y⟩ = _)
   rw [e] at hs ⊢
   exact zj2 pb b off c L z v xs t i bk ok  ck y rec T w0 w  hbT hz hL c0 c1 c2 c3 hk hT (by omega) hc1 hc2 hs hp hb hr
 · obtain ⟨q, rfl⟩ : ∃ q, l = q + 1 := ⟨l - 1, by simp [shp] at hn; omega⟩
   obtain ⟨bk, ok, ck2, hv, -⟩ := hk.parts (k := 0) (by omega)
   simp only [Value.slice.injEq] at hv
   obtain ⟨rfl, _, rfl⟩ := hv
   have e : bod rec _ = rec (y 0) ++ ([⟨#[40]⟩] ++ cmN rec (fun i => y (i + 1)) q ++ [⟨#[41]⟩]) := (by simp [bod, opB, flN, List.append_assoc] : bod rec ⟨9, t, i, q + 1, y⟩ = _)
   rw [e] at hs ⊢
   exact zj7 pb b off c L z v xs t i bk ok  ck y rec T w0 w q hbT hz hL c0 c1 c2 c3 hk hT (by omega) hc1 hc2 hs hp hb hr
 · obtain rfl : l = 2 := by simp [shp] at hn; omega
   have hi' : 1 <= i /\ i <= 10 := by simpa [zm] using hi
   obtain ⟨n, rfl⟩ : ∃ n : Nat, i = (n : Int) := ⟨i.toNat, by omega⟩
   obtain ⟨bk, ok, ck2, hv, -⟩ := hk.parts (k := 0) (by omega)
   simp only [Value.slice.injEq] at hv
   obtain ⟨rfl, _, rfl⟩ := hv
   have e : bod rec _ = [⟨#[40]⟩] ++ (rec (y 0) ++ [opL.getD n ⟨#[]⟩] ++ rec (y 1)) ++ [⟨#[41]⟩] := (by simp [bod, opB, flN, List.append_assoc] : bod rec ⟨10, t, (n : Int), 2, y⟩ = _)
   rw [e] at hs ⊢
   exact zjd pb b off c L z v xs t  bk ok  ck y rec T w0 w n _ (by omega) (fun V h => ⟨Nat.lt_of_succ_lt (htab V h).sz, (htab V h).op n (by omega)⟩) hbT hz hL c0 c1 c2 c3 hk hT (by omega) hc1 hc2 hs hp hb hr
 · obtain rfl : l = 1 := by simp [shp] at hn; omega
   have hi' : 1 <= i /\ i <= 3 := by simpa [zm] using hi
   obtain ⟨n, rfl⟩ : ∃ n : Nat, i = (n : Int) := ⟨i.toNat, by omega⟩
   obtain ⟨bk, ok, ck2, hv, -⟩ := hk.parts (k := 0) (by omega)
   simp only [Value.slice.injEq] at hv
   obtain ⟨rfl, _, rfl⟩ := hv
   have e : bod rec _ = [⟨#[40]⟩] ++ ([tnL.getD n ⟨#[]⟩] ++ rec (y 0)) ++ [⟨#[41]⟩] := (by simp [bod, opB, flN, List.append_assoc] : bod rec ⟨11, t, (n : Int), 1, y⟩ = _)
   rw [e] at hs ⊢
   exact zjc pb b off c L z v xs t  bk ok  ck y rec T w0 w n _ (by omega) (fun V h => ⟨(htab V h).sz, (htab V h).tn n (by omega)⟩) hbT hz hL c0 c1 c2 c3 hk hT (by omega) hc1 hc2 hs hp hb hr
 · obtain rfl : l = 2 := by simp [shp] at hn; omega
   obtain ⟨bk, ok, ck2, hv, -⟩ := hk.parts (k := 0) (by omega)
   simp only [Value.slice.injEq] at hv
   obtain ⟨rfl, _, rfl⟩ := hv
   have e : bod rec _ = [⟨#[40]⟩] ++ (rec (y 0) ++ [⟨#[97, 110, 100]⟩] ++ rec (y 1)) ++ [⟨#[41]⟩] := (by simp [bod, opB, flN, List.append_assoc] : bod rec ⟨12, t, i, 2, y⟩ = _)
   rw [e] at hs ⊢
   exact zja pb b off c L z v xs t i bk ok  ck y rec T w0 w  hbT hz hL c0 c1 c2 c3 hk hT (by omega) hc1 hc2 hs hp hb hr
 · obtain rfl : l = 2 := by simp [shp] at hn; omega
   obtain ⟨bk, ok, ck2, hv, -⟩ := hk.parts (k := 0) (by omega)
   simp only [Value.slice.injEq] at hv
   obtain ⟨rfl, _, rfl⟩ := hv
   have e : bod rec _ = [⟨#[40]⟩] ++ (rec (y 0) ++ [⟨#[111, 114]⟩] ++ rec (y 1)) ++ [⟨#[41]⟩] := (by simp [bod, opB, flN, List.append_assoc] : bod rec ⟨13, t, i, 2, y⟩ = _)
   rw [e] at hs ⊢
   exact zjb pb b off c L z v xs t i bk ok  ck y rec T w0 w  hbT hz hL c0 c1 c2 c3 hk hT (by omega) hc1 hc2 hs hp hb hr
 · obtain rfl : l = 1 := by simp [shp] at hn; omega
   obtain ⟨bk, ok, ck2, hv, -⟩ := hk.parts (k := 0) (by omega)
   simp only [Value.slice.injEq] at hv
   obtain ⟨rfl, _, rfl⟩ := hv
   have e : bod rec _ = [⟨#[108, 111, 99, 97, 108]⟩, t, ⟨#[61]⟩] ++ rec (y 0) ++ [⟨#[59]⟩] := (by simp [bod, opB, flN, List.append_assoc] : bod rec ⟨14, t, i, 1, y⟩ = _)
   rw [e] at hs ⊢
   exact ziy pb b off c L z v xs t i bk ok  ck y rec T w0 w  hbT hz hL c0 c1 c2 c3 hk hT (by omega) hc1 hc2 hs hp hb hr
 · obtain rfl : l = 1 := by simp [shp] at hn; omega
   obtain ⟨bk, ok, ck2, hv, -⟩ := hk.parts (k := 0) (by omega)
   simp only [Value.slice.injEq] at hv
   obtain ⟨rfl, _, rfl⟩ := hv
   have e : bod rec _ = [t, ⟨#[61]⟩] ++ rec (y 0) ++ [⟨#[59]⟩] := (by simp [bod, opB, flN, List.append_assoc] : bod rec ⟨15, t, i, 1, y⟩ = _)
   rw [e] at hs ⊢
   exact ziz pb b off c L z v xs t i bk ok  ck y rec T w0 w  hbT hz hL c0 c1 c2 c3 hk hT (by omega) hc1 hc2 hs hp hb hr
 · obtain rfl : l = 3 := by simp [shp] at hn; omega
   obtain ⟨bk, ok, ck2, hv, -⟩ := hk.parts (k := 0) (by omega)
   simp only [Value.slice.injEq] at hv
   obtain ⟨rfl, _, rfl⟩ := hv
   have e : bod rec _ = rec (y 0) ++ [⟨#[91]⟩] ++ rec (y 1) ++ [⟨#[93]⟩, ⟨#[61]⟩] ++ rec (y 2) ++ [⟨#[59]⟩] := (by simp [bod, opB, flN, List.append_assoc] : bod rec ⟨16, t, i, 3, y⟩ = _)
   rw [e] at hs ⊢
   exact zi0 pb b off c L z v xs t i bk ok  ck y rec T w0 w  hbT hz hL c0 c1 c2 c3 hk hT (by omega) hc1 hc2 hs hp hb hr
 · have hl : l = 2 \/ l = 3 := by
    simp [shp] at hn
    split at hn <;> simp at hn <;> omega
   rcases hl with rfl | rfl
   · obtain ⟨bk, ok, ck2, hv, -⟩ := hk.parts (k := 0) (by omega)
     simp only [Value.slice.injEq] at hv
     obtain ⟨rfl, _, rfl⟩ := hv
     have e : bod rec _ = [⟨#[105, 102]⟩] ++ flN rec y 2 := (by simp [bod, flN] : bod rec ⟨17, t, i, 2, y⟩ = _)
     rw [e] at hs ⊢
     exact zhn pb b off c L z v xs t i bk ok  ck y rec T w0 w  hbT hz hL c0 c1 c2 c3 hk hT (by omega) hc1 hc2 hs hp hb hr
   · obtain ⟨bk, ok, ck2, hv, -⟩ := hk.parts (k := 0) (by omega)
     simp only [Value.slice.injEq] at hv
     obtain ⟨rfl, _, rfl⟩ := hv
     have e : bod rec _ = [⟨#[105, 102]⟩] ++ flN rec y 2 ++ [⟨#[101, 108, 115, 101]⟩] ++ rec (y 2) := (by simp [bod, flN] : bod rec ⟨17, t, i, 3, y⟩ = _)
     rw [e] at hs ⊢
     exact zho pb b off c L z v xs t i bk ok  ck y rec T w0 w  hbT hz hL c0 c1 c2 c3 hk hT (by omega) hc1 hc2 hs hp hb hr
 · obtain rfl : l = 2 := by simp [shp] at hn; omega
   obtain ⟨bk, ok, ck2, hv, -⟩ := hk.parts (k := 0) (by omega)
   simp only [Value.slice.injEq] at hv
   obtain ⟨rfl, _, rfl⟩ := hv
   have e : bod rec _ = [⟨#[119, 104, 105, 108, 101]⟩] ++ flN rec y 2 := (by simp [bod, opB, flN, List.append_assoc] : bod rec ⟨18, t, i, 2, y⟩ = _)
   rw [e] at hs ⊢
   exact zi1 pb b off c L z v xs t i bk ok  ck y rec T w0 w  hbT hz hL c0 c1 c2 c3 hk hT (by omega) hc1 hc2 hs hp hb hr
 · obtain rfl : l = 1 := by simp [shp] at hn; omega
   obtain ⟨bk, ok, ck2, hv, -⟩ := hk.parts (k := 0) (by omega)
   simp only [Value.slice.injEq] at hv
   obtain ⟨rfl, _, rfl⟩ := hv
   have e : bod rec _ = [⟨#[114, 101, 116, 117, 114, 110]⟩] ++ rec (y 0) ++ [⟨#[59]⟩] := (by simp [bod, opB, flN, List.append_assoc] : bod rec ⟨19, t, i, 1, y⟩ = _)
   rw [e] at hs ⊢
   exact zi2 pb b off c L z v xs t i bk ok  ck y rec T w0 w  hbT hz hL c0 c1 c2 c3 hk hT (by omega) hc1 hc2 hs hp hb hr
 · obtain rfl : l = 1 := by simp [shp] at hn; omega
   obtain ⟨bk, ok, ck2, hv, -⟩ := hk.parts (k := 0) (by omega)
   simp only [Value.slice.injEq] at hv
   obtain ⟨rfl, _, rfl⟩ := hv
   have e : bod rec _ = rec (y 0) ++ [⟨#[59]⟩] := (by simp [bod, opB, flN, List.append_assoc] : bod rec ⟨20, t, i, 1, y⟩ = _)
   rw [e] at hs ⊢
   exact zi3 pb b off c L z v xs t i bk ok  ck y rec T w0 w  hbT hz hL c0 c1 c2 c3 hk hT (by omega) hc1 hc2 hs hp hb hr
 · have e : bod rec _ = [⟨#[123]⟩] ++ flN rec y l ++ [⟨#[125]⟩] := (by simp [bod] : bod rec ⟨21, t, i, l, y⟩ = _)
   rw [e] at hs ⊢
   exact zi4 pb b off c L z v xs t i a l ck y rec T w0 w  hbT hz hL c0 c1 c2 c3 hk hT (by omega) hc1 hc2 hs hp hb hr
 · obtain rfl : l = 0 := by simp [shp] at hn; omega
   have e : bod rec _ = [t] := (by simp [bod, opB, flN, List.append_assoc] : bod rec ⟨22, t, i, 0, y⟩ = _)
   rw [e] at hs ⊢
   exact zi5 pb b off c L z v xs t i a 0 ck y rec T w0 w  hbT hz hL c0 c1 c2 c3 hk hT (by omega) hc1 hc2 hs hp hb hr
 · obtain rfl : l = 1 := by simp [shp] at hn; omega
   obtain ⟨bk, ok, ck2, hv, -⟩ := hk.parts (k := 0) (by omega)
   simp only [Value.slice.injEq] at hv
   obtain ⟨rfl, _, rfl⟩ := hv
   have e : bod rec _ = rec (y 0) := (by simp [bod, opB, flN, List.append_assoc] : bod rec ⟨23, t, i, 1, y⟩ = _)
   rw [e] at hs ⊢
   exact zi6 pb b off c L z v xs t i bk ok  ck y rec T w0 w  hbT hz hL c0 c1 c2 c3 hk hT (by omega) hc1 hc2 hs hp hb hr
 · obtain rfl : l = 2 := by simp [shp] at hn; omega
   obtain ⟨bk, ok, ck2, hv, -⟩ := hk.parts (k := 0) (by omega)
   simp only [Value.slice.injEq] at hv
   obtain ⟨rfl, _, rfl⟩ := hv
   have e : bod rec _ = [⟨#[91]⟩] ++ rec (y 0) ++ [⟨#[93]⟩, ⟨#[61]⟩] ++ rec (y 1) := (by simp [bod, opB, flN, List.append_assoc] : bod rec ⟨24, t, i, 2, y⟩ = _)
   rw [e] at hs ⊢
   exact zi7 pb b off c L z v xs t i bk ok  ck y rec T w0 w  hbT hz hL c0 c1 c2 c3 hk hT (by omega) hc1 hc2 hs hp hb hr
theorem zeb (pb b off c L : Nat) (X : Nat -> KnD) (T : Nat) (w0 : World) (hbT : b < pb) (hL : L <= 3000) (hT : T <= pb) (hc : ∀ i, i < L -> zdv T w0 b (off + i * 4) (X i)) (hg : ∀ j, j < L -> zao X j) (htab : ∀ V, Below pb w0 V -> zbt V) :
 ∀ (N i : Nat), i < N -> i < L -> Pr pb (.slice (some ⟨b, off, none⟩) L c) w0 (fun q => tkn X N q.toNat) (i : Int)
 | 0, i, h, _ => absurd h (Nat.not_lt_zero _)
 | N + 1, i, h, hi => by
   intro V v zs hp hb hs
   obtain ⟨g1, g2, g3, g4⟩ := hg i hi
   unfold zi at g4
   rw [Bool.and_eq_true, decide_eq_true_iff, zp] at g4
   have h1 := zaw g4.2
   rw [zp] at h1
   obtain ⟨a, ck, c0, c1, c2, c3, c4, c5, c6⟩ := hc i hi
   have e : (fun q : Int => tkn X (N + 1) q.toNat) (i : Int) = bod (fun q => tkn X N q.toNat) (X i) := by
    show tkn X (N + 1) (i : Int).toNat = _
    rw [Int.toNat_natCast]
    rfl
   rw [e] at hs ⊢
   refine zhm pb b off c L i v zs (X i) a ck _ T w0 V hbT hi hL c0 c1 c2 c3 c4 hT c5 c6 g2 g3 g4.1 h1 htab hs hp hb (fun m hm => ?_)
   have h4 := zat X g1 ((X i).y m) (by
    have h5 := zy X (i := i) (j := m) (by rw [zo]; exact hm)
    rw [<- h5]
    exact List.getElem_mem _)
   have h6 := zeb pb b off c L X T w0 hbT hL hT hc hg htab N ((X i).y m).toNat (by omega) (by omega)
   rw [Int.toNat_of_nonneg h4.1] at h6
   exact h6
end Go.Proofs.YtiglkhkfbgjjoaaDoor
