/- - -/
import Derived.Shelf.Strings.Builder1
import Derived.Shelf.Strings.Builder2
import Derived.Shelf.Strings.OnBuilder
import Derived.Shelf.Small.Wraps
import Derived.Shelf.Strings.BuilderF
import Derived.Shelf.Strings.BuilderK
import Derived.Shelf.Strconv.Itoa0
import Derived.Shelf.Strconv.Itoa1
import Derived.Shelf.LaysM
import Derived.Shelf.Strconv.Itoa2
import Derived.Shelf.Strconv.Itoa3
import Derived.Shelf.Strconv.Clone
import Derived.Shelf.Strings.Prefix
import Derived.Shelf.Slices.Turned
import Derived.Test.YtiglkhkfbgjjoaaDoorProg
namespace Go.Proofs
open Go.Shelf
def Tryd.lays156_ren : Go.Shelf.Ren := ⟨fun | 156 => 40 | 165 => 88 | 166 => 89 | 169 => 90 | 240 => 137 | 241 => 138 | 276 => 166 | 277 => 167 | n => n, fun | 31 => 45 | 9 => 9 | 3 => 3 | 4 => 4 | 0 => 0 | 20 => 20 | 72 => 120 | 76 => 123 | 70 => 118 | 37 => 28 | 75 => 122 | 127 => 150 | 164 => 162 | 5 => 5 | 80 => 94 | n => n, fun | n => n⟩
theorem Tryd.lays156 : Go.Proofs.Lays.n156 Tryd.prog Tryd.lays156_ren := {
 mixed := by kernel_rfl
 f156 := Tryd.func40.trans (congrArg some (by kernel_rfl))
 f165 := Tryd.func88.trans (congrArg some (by kernel_rfl))
 f166 := Tryd.func89.trans (congrArg some (by kernel_rfl))
 f169 := Tryd.func90.trans (congrArg some (by kernel_rfl))
 f240 := Tryd.func137.trans (congrArg some (by kernel_rfl))
 f241 := Tryd.func138.trans (congrArg some (by kernel_rfl))
 f276 := Tryd.func166.trans (congrArg some (by kernel_rfl))
 f277 := Tryd.func167.trans (congrArg some (by kernel_rfl))
 t0 := Tryd.underlying0
 a0 := Tryd.isAgg0
 z0 := Tryd.sizeOf0
 v0 := Tryd.zeroValue0
 t3 := Tryd.underlying3
 a3 := Tryd.isAgg3
 z3 := Tryd.sizeOf3
 v3 := Tryd.zeroValue3
 t4 := Tryd.underlying4
 a4 := Tryd.isAgg4
 z4 := Tryd.sizeOf4
 v4 := Tryd.zeroValue4
 t9 := Tryd.underlying9
 a9 := Tryd.isAgg9
 z9 := Tryd.sizeOf9
 v9 := Tryd.zeroValue9
 t20 := Tryd.underlying20
 a20 := Tryd.isAgg20
 z20 := Tryd.sizeOf20
 v20 := Tryd.zeroValue20
 t31 := Tryd.underlying45
 a31 := Tryd.isAgg45
 z31 := Tryd.sizeOf45
 v31 := Tryd.zeroValue45
 t37 := Tryd.underlying28
 a37 := Tryd.isAgg28
 z37 := Tryd.sizeOf28
 v37 := Tryd.zeroValue28
 t70 := Tryd.underlying118
 a70 := Tryd.isAgg118
 z70 := Tryd.sizeOf118
 v70 := Tryd.zeroValue118
 t72 := Tryd.underlying120
 a72 := Tryd.isAgg120
 z72 := Tryd.sizeOf120
 v72 := Tryd.zeroValue120
 t75 := Tryd.underlying122
 a75 := Tryd.isAgg122
 z75 := Tryd.sizeOf122
 v75 := Tryd.zeroValue122
 t76 := Tryd.underlying123
 a76 := Tryd.isAgg123
 z76 := Tryd.sizeOf123
 v76 := Tryd.zeroValue123
 t127 := Tryd.underlying150
 a127 := Tryd.isAgg150
 z127 := Tryd.sizeOf150
 v127 := Tryd.zeroValue150
 t164 := Tryd.underlying162
 a164 := Tryd.isAgg162
 z164 := Tryd.sizeOf162
 v164 := Tryd.zeroValue162 }
theorem Tryd.Builder_Extra_156 : Builder.Extra Tryd.prog Tryd.lays156_ren := {
 sizeBuilder := by kernel_rfl
 liesBuilder := by kernel_rfl
 t5 := Tryd.underlying5
 a5 := Tryd.isAgg5
 z5 := Tryd.sizeOf5
 v5 := Tryd.zeroValue5
 infoByte := by kernel_rfl
 cellsByte := by kernel_rfl
 sizeByte := by kernel_rfl
 neB5 := by decide }
open Go.RowKit in
theorem Tryd.strings_Join_none (a : Option Addr) (c : Nat) (sep : ByteArray) (w : World) :
 Calls Tryd.prog 40 #[.slice a 0 c, .string sep] w fun e w' => e = .returned (.string ⟨#[]⟩) /\ w' = w := Any.strings_Join_none Tryd.lays156 Tryd.Builder_Extra_156 a c sep w
open Go.RowKit in
theorem Tryd.strings_Join (bk o c : Nat) (xs : List ByteArray) (sep : ByteArray) (w : World) (hcells : ∀ (j : Nat) x, xs[j]? = some x -> w.cell? ⟨bk, o + j, none⟩ = some (.string x)) (hbk : bk < w.heap.size) (hN : xs.length <= 140737488355328) (hcap : xs.length <= c) (hlen : (Lib.join (xs.map (·.data.toList)) sep.data.toList).length <= 140737488355328) :
 Calls Tryd.prog 40 #[.slice (some ⟨bk, o, none⟩) xs.length c, .string sep] w fun e w' => e = .returned (.string ⟨(Lib.join (xs.map (·.data.toList)) sep.data.toList).toArray⟩) /\ Below w.heap.size w w' := Any.strings_Join Tryd.lays156 Tryd.Builder_Extra_156 bk o c xs sep w hcells hbk hN hcap hlen
def Tryd.lays121_ren : Go.Shelf.Ren := ⟨fun | 121 => 161 | 214 => 178 | n => n, fun | 4 => 4 | 9 => 9 | n => n, fun | n => n⟩
theorem Tryd.lays121 : Go.Proofs.Lays.n121 Tryd.prog Tryd.lays121_ren := {
 mixed := by kernel_rfl
 f121 := Tryd.func161.trans (congrArg some (by kernel_rfl))
 f214 := Tryd.func178.trans (congrArg some (by kernel_rfl))
 t4 := Tryd.underlying4
 a4 := Tryd.isAgg4
 z4 := Tryd.sizeOf4
 v4 := Tryd.zeroValue4
 t9 := Tryd.underlying9
 a9 := Tryd.isAgg9
 z9 := Tryd.sizeOf9
 v9 := Tryd.zeroValue9 }
open Go.RowKit in
theorem Tryd.strconv_FormatBool (b : Bool) (w : World) :
 Calls Tryd.prog 161 #[.bool b] w fun e w' => e = .returned (.string ⟨(Lib.formatBool b).toArray⟩) /\ w' = w := Any.strconv_FormatBool Tryd.lays121 b w
def Tryd.laysM171_ren : Go.Shelf.Ren := ⟨fun | 171 => 162 | 243 => 179 | 246 => 186 | 283 => 192 | 284 => 193 | 285 => 194 | 286 => 195 | 129 => 203 | 317 => 202 | 318 => 204 | 319 => 205 | 320 => 206 | 337 => 209 | 338 => 210 | n => n, fun | 3 => 3 | 9 => 9 | 2 => 2 | 4 => 4 | 171 => 173 | 0 => 0 | 53 => 174 | 37 => 28 | 5 => 5 | 173 => 177 | 212 => 181 | 51 => 182 | 20 => 20 | 213 => 183 | 46 => 157 | 232 => 186 | 233 => 187 | n => n, fun | 17 => 4 | 18 => 5 | 19 => 6 | n => n⟩
theorem Tryd.laysM171 : Go.Proofs.LaysM.n171 Tryd.prog Tryd.laysM171_ren := {
 mixed := by kernel_rfl
 f129 := Tryd.func203.trans (congrArg some (by kernel_rfl))
 f171 := Tryd.func162.trans (congrArg some (by kernel_rfl))
 f243 := Tryd.func179.trans (congrArg some (by kernel_rfl))
 f246 := Tryd.func186.trans (congrArg some (by kernel_rfl))
 f283 := Tryd.func192.trans (congrArg some (by kernel_rfl))
 f284 := Tryd.func193.trans (congrArg some (by kernel_rfl))
 f285 := Tryd.func194.trans (congrArg some (by kernel_rfl))
 f286 := Tryd.func195.trans (congrArg some (by kernel_rfl))
 f317 := Tryd.func202.trans (congrArg some (by kernel_rfl))
 f318 := Tryd.func204.trans (congrArg some (by kernel_rfl))
 f319 := Tryd.func205.trans (congrArg some (by kernel_rfl))
 f320 := Tryd.func206.trans (congrArg some (by kernel_rfl))
 f337 := Tryd.func209.trans (congrArg some (by kernel_rfl))
 f338 := Tryd.func210.trans (congrArg some (by kernel_rfl))
 t0 := Tryd.underlying0
 a0 := Tryd.isAgg0
 z0 := Tryd.sizeOf0
 v0 := Tryd.zeroValue0
 t2 := Tryd.underlying2
 a2 := Tryd.isAgg2
 z2 := Tryd.sizeOf2
 v2 := Tryd.zeroValue2
 t3 := Tryd.underlying3
 a3 := Tryd.isAgg3
 z3 := Tryd.sizeOf3
 v3 := Tryd.zeroValue3
 t4 := Tryd.underlying4
 a4 := Tryd.isAgg4
 z4 := Tryd.sizeOf4
 v4 := Tryd.zeroValue4
 t5 := Tryd.underlying5
 a5 := Tryd.isAgg5
 z5 := Tryd.sizeOf5
 v5 := Tryd.zeroValue5
 t9 := Tryd.underlying9
 a9 := Tryd.isAgg9
 z9 := Tryd.sizeOf9
 v9 := Tryd.zeroValue9
 t20 := Tryd.underlying20
 a20 := Tryd.isAgg20
 z20 := Tryd.sizeOf20
 v20 := Tryd.zeroValue20
 t37 := Tryd.underlying28
 a37 := Tryd.isAgg28
 z37 := Tryd.sizeOf28
 v37 := Tryd.zeroValue28
 t46 := Tryd.underlying157
 a46 := Tryd.isAgg157
 z46 := Tryd.sizeOf157
 v46 := Tryd.zeroValue157
 t51 := Tryd.underlying182
 a51 := Tryd.isAgg182
 z51 := Tryd.sizeOf182
 v51 := Tryd.zeroValue182
 t53 := Tryd.underlying174
 a53 := Tryd.isAgg174
 z53 := Tryd.sizeOf174
 v53 := Tryd.zeroValue174
 t171 := Tryd.underlying173
 a171 := Tryd.isAgg173
 z171 := Tryd.sizeOf173
 v171 := Tryd.zeroValue173
 t173 := Tryd.underlying177
 a173 := Tryd.isAgg177
 z173 := Tryd.sizeOf177
 v173 := Tryd.zeroValue177
 t212 := Tryd.underlying181
 a212 := Tryd.isAgg181
 z212 := Tryd.sizeOf181
 v212 := Tryd.zeroValue181
 t213 := Tryd.underlying183
 a213 := Tryd.isAgg183
 z213 := Tryd.sizeOf183
 t232 := Tryd.underlying186
 a232 := Tryd.isAgg186
 z232 := Tryd.sizeOf186
 v232 := Tryd.zeroValue186
 t233 := Tryd.underlying187
 a233 := Tryd.isAgg187
 z233 := Tryd.sizeOf187
 v233 := Tryd.zeroValue187
 g17 := by kernel_rfl
 g18 := by kernel_rfl
 g19 := by kernel_rfl
 i0 := by kernel_rfl
 i2 := by kernel_rfl
 i3 := by kernel_rfl
 i4 := by kernel_rfl
 i5 := by kernel_rfl
 i9 := by kernel_rfl
 i20 := by kernel_rfl
 i37 := by kernel_rfl
 i46 := by kernel_rfl
 i51 := by kernel_rfl
 i53 := by kernel_rfl
 i171 := by kernel_rfl
 i173 := by kernel_rfl
 i212 := by kernel_rfl
 i232 := by kernel_rfl
 i233 := by kernel_rfl
 m17 := by kernel_rfl
 m18 := by kernel_rfl
 m19 := by kernel_rfl }
open Go.RowKit Go.Sort Go.Lib in
theorem Tryd.strconv_Itoa (n : Int) (h0 : -9223372036854775808 <= n) (h1 : n <= 9223372036854775807) (w : World) (htab : Lib.TabIs Tryd.prog w "internal/strconv.uint64pow10" .u64 Lib.pow10Tab) :
 Calls Tryd.prog 162 #[.int .i64 n] w fun e w' => e = .returned (.string ⟨(Lib.itoa n).toArray⟩) /\ ∃ k os, w' = grow (w.drewN k) os := Any.strconv_Itoa Tryd.laysM171 n h0 h1 w htab
end Go.Proofs
