/-
  Contracts and words of several parts of the program (Shf, Lc, Rd), one after the other.
  Conditions: those that each says.
-/
import Derived.Shelf.Strconv.Atoi
import Derived.Shelf.Strconv.Itoa0
import Derived.Shelf.Strconv.Itoa1
import Derived.Shelf.LaysM
import Derived.Shelf.Strconv.Itoa2
import Derived.Shelf.Strconv.Itoa3
import Derived.Shelf.Strings.Prefix
import Derived.Test.YtpbhgebblpdmnaaDoorProg
import Derived.Test.YtpbhgebblpdmnaaDoorZ
import Derived.Test.YtpbhgebblpdmnaaDoorTa
import Derived.Lib.AppendIntMem
import Derived.Lib.AtoiErrMem
import Derived.WalkMore
namespace Go.Proofs
open Go.Shelf
def Tryd.lays244_ren : Go.Shelf.Ren := ⟨fun | 244 => 75 | 247 => 79 | 287 => 89 | 321 => 97 | 322 => 98 | n => n, fun | 9 => 9 | 3 => 3 | 75 => 96 | 4 => 4 | 5 => 5 | 167 => 102 | 37 => 56 | 0 => 0 | 85 => 103 | 2 => 2 | 53 => 109 | 175 => 114 | 46 => 116 | 21 => 21 | 80 => 43 | n => n, fun | n => n⟩
open Go.RowKit in
def Tryd.lays172_ren : Go.Shelf.Ren := ⟨fun | 172 => 70 | 244 => 75 | 245 => 76 | 247 => 79 | 279 => 80 | 280 => 81 | 281 => 82 | 282 => 83 | 287 => 89 | 316 => 90 | 171 => 65 | 205 => 91 | 321 => 97 | 322 => 98 | 243 => 73 | 246 => 78 | 283 => 85 | 284 => 86 | 285 => 87 | 286 => 88 | 129 => 93 | 317 => 92 | 318 => 94 | 319 => 95 | 320 => 96 | 337 => 99 | 338 => 100 | n => n, fun | 9 => 9 | 3 => 3 | 75 => 96 | 76 => 97 | 4 => 4 | 5 => 5 | 167 => 102 | 37 => 56 | 0 => 0 | 85 => 103 | 2 => 2 | 168 => 105 | 53 => 109 | 175 => 114 | 46 => 116 | 210 => 119 | 127 => 128 | 145 => 131 | 143 => 129 | 21 => 21 | 171 => 108 | 173 => 112 | 212 => 122 | 51 => 123 | 20 => 20 | 213 => 124 | 232 => 133 | 233 => 134 | 80 => 43 | n => n, fun | 15 => 2 | 16 => 3 | 17 => 4 | 18 => 5 | 19 => 6 | n => n⟩
theorem Tryd.lays172 : Go.Proofs.Lays.n172 Tryd.prog Tryd.lays172_ren := {
 mixed := by kernel_rfl
 f129 := Tryd.func93.trans (congrArg some (by kernel_rfl))
 f171 := Tryd.func65.trans (congrArg some (by kernel_rfl))
 f172 := Tryd.func70.trans (congrArg some (by kernel_rfl))
 f205 := Tryd.func91.trans (congrArg some (by kernel_rfl))
 f243 := Tryd.func73.trans (congrArg some (by kernel_rfl))
 f244 := Tryd.func75.trans (congrArg some (by kernel_rfl))
 f245 := Tryd.func76.trans (congrArg some (by kernel_rfl))
 f246 := Tryd.func78.trans (congrArg some (by kernel_rfl))
 f247 := Tryd.func79.trans (congrArg some (by kernel_rfl))
 f279 := Tryd.func80.trans (congrArg some (by kernel_rfl))
 f280 := Tryd.func81.trans (congrArg some (by kernel_rfl))
 f281 := Tryd.func82.trans (congrArg some (by kernel_rfl))
 f282 := Tryd.func83.trans (congrArg some (by kernel_rfl))
 f283 := Tryd.func85.trans (congrArg some (by kernel_rfl))
 f284 := Tryd.func86.trans (congrArg some (by kernel_rfl))
 f285 := Tryd.func87.trans (congrArg some (by kernel_rfl))
 f286 := Tryd.func88.trans (congrArg some (by kernel_rfl))
 f287 := Tryd.func89.trans (congrArg some (by kernel_rfl))
 f316 := Tryd.func90.trans (congrArg some (by kernel_rfl))
 f317 := Tryd.func92.trans (congrArg some (by kernel_rfl))
 f318 := Tryd.func94.trans (congrArg some (by kernel_rfl))
 f319 := Tryd.func95.trans (congrArg some (by kernel_rfl))
 f320 := Tryd.func96.trans (congrArg some (by kernel_rfl))
 f321 := Tryd.func97.trans (congrArg some (by kernel_rfl))
 f322 := Tryd.func98.trans (congrArg some (by kernel_rfl))
 f337 := Tryd.func99.trans (congrArg some (by kernel_rfl))
 f338 := Tryd.func100.trans (congrArg some (by kernel_rfl))
 t0 := Tryd.underlying0
 a0 := Tryd.isAgg0
 z0 := Tryd.sizeOf0
 v0 := Tryd.zeroValue0
 t2 := Tryd.underlying2
 a2 := Tryd.isAgg2
 z2 := Tryd.sizeOf2
 v2 := Tryd.zeroValue2
 t3 := Tryd.underlying3
 a3 := Tryd.isAgg3
 z3 := Tryd.sizeOf3
 v3 := Tryd.zeroValue3
 t4 := Tryd.underlying4
 a4 := Tryd.isAgg4
 z4 := Tryd.sizeOf4
 v4 := Tryd.zeroValue4
 t5 := Tryd.underlying5
 a5 := Tryd.isAgg5
 z5 := Tryd.sizeOf5
 v5 := Tryd.zeroValue5
 t9 := Tryd.underlying9
 a9 := Tryd.isAgg9
 z9 := Tryd.sizeOf9
 v9 := Tryd.zeroValue9
 t20 := Tryd.underlying20
 a20 := Tryd.isAgg20
 z20 := Tryd.sizeOf20
 v20 := Tryd.zeroValue20
 t21 := Tryd.underlying21
 a21 := Tryd.isAgg21
 z21 := Tryd.sizeOf21
 v21 := Tryd.zeroValue21
 t37 := Tryd.underlying56
 a37 := Tryd.isAgg56
 z37 := Tryd.sizeOf56
 v37 := Tryd.zeroValue56
 t46 := Tryd.underlying116
 a46 := Tryd.isAgg116
 z46 := Tryd.sizeOf116
 v46 := Tryd.zeroValue116
 t51 := Tryd.underlying123
 a51 := Tryd.isAgg123
 z51 := Tryd.sizeOf123
 v51 := Tryd.zeroValue123
 t53 := Tryd.underlying109
 a53 := Tryd.isAgg109
 z53 := Tryd.sizeOf109
 v53 := Tryd.zeroValue109
 t75 := Tryd.underlying96
 a75 := Tryd.isAgg96
 z75 := Tryd.sizeOf96
 v75 := Tryd.zeroValue96
 t76 := Tryd.underlying97
 a76 := Tryd.isAgg97
 z76 := Tryd.sizeOf97
 v76 := Tryd.zeroValue97
 t85 := Tryd.underlying103
 a85 := Tryd.isAgg103
 z85 := Tryd.sizeOf103
 v85 := Tryd.zeroValue103
 t127 := Tryd.underlying128
 a127 := Tryd.isAgg128
 z127 := Tryd.sizeOf128
 v127 := Tryd.zeroValue128
 t143 := Tryd.underlying129
 a143 := Tryd.isAgg129
 z143 := Tryd.sizeOf129
 v143 := Tryd.zeroValue129
 t145 := Tryd.underlying131
 a145 := Tryd.isAgg131
 z145 := Tryd.sizeOf131
 v145 := Tryd.zeroValue131
 t167 := Tryd.underlying102
 a167 := Tryd.isAgg102
 z167 := Tryd.sizeOf102
 v167 := Tryd.zeroValue102
 t168 := Tryd.underlying105
 a168 := Tryd.isAgg105
 z168 := Tryd.sizeOf105
 v168 := Tryd.zeroValue105
 t171 := Tryd.underlying108
 a171 := Tryd.isAgg108
 z171 := Tryd.sizeOf108
 v171 := Tryd.zeroValue108
 t173 := Tryd.underlying112
 a173 := Tryd.isAgg112
 z173 := Tryd.sizeOf112
 v173 := Tryd.zeroValue112
 t175 := Tryd.underlying114
 a175 := Tryd.isAgg114
 z175 := Tryd.sizeOf114
 v175 := Tryd.zeroValue114
 t210 := Tryd.underlying119
 a210 := Tryd.isAgg119
 z210 := Tryd.sizeOf119
 v210 := Tryd.zeroValue119
 t212 := Tryd.underlying122
 a212 := Tryd.isAgg122
 z212 := Tryd.sizeOf122
 v212 := Tryd.zeroValue122
 t213 := Tryd.underlying124
 a213 := Tryd.isAgg124
 z213 := Tryd.sizeOf124
 t232 := Tryd.underlying133
 a232 := Tryd.isAgg133
 z232 := Tryd.sizeOf133
 v232 := Tryd.zeroValue133
 t233 := Tryd.underlying134
 a233 := Tryd.isAgg134
 z233 := Tryd.sizeOf134
 v233 := Tryd.zeroValue134
 g15 := by kernel_rfl
 g16 := by kernel_rfl
 g17 := by kernel_rfl
 g18 := by kernel_rfl
 g19 := by kernel_rfl }
open Go.RowKit in
theorem Tryd.strconv_Atoi (s : ByteArray) (n : Int) (hl : s.size ≤ 18) (h : Lib.atoi s.data.toList = some n) (w : World) :
  Calls Tryd.prog 70 #[.string s] w fun e w' => e = .returned (.tuple #[.int .i64 n, .nilIface]) ∧ ∃ t, w' = Lib.bytesWorld w 5 t := Any.strconv_Atoi Tryd.lays172 s n hl h w
def Tryd.lays129_ren : Go.Shelf.Ren := ⟨fun | 129 => 93 | n => n, fun | 53 => 109 | 3 => 3 | 4 => 4 | 46 => 116 | 5 => 5 | 9 => 9 | n => n, fun | n => n⟩
def Tryd.lays317_ren : Go.Shelf.Ren := ⟨fun | 317 => 92 | n => n, fun | 3 => 3 | 46 => 116 | n => n, fun | n => n⟩
open Go.Lib in
def Tryd.lays318_ren : Go.Shelf.Ren := ⟨fun | 318 => 94 | n => n, fun | 3 => 3 | 4 => 4 | n => n, fun | n => n⟩
open Go.Lib in
def Tryd.lays283_ren : Go.Shelf.Ren := ⟨fun | 283 => 85 | n => n, fun | 3 => 3 | 9 => 9 | 4 => 4 | n => n, fun | n => n⟩
open Go.Lib in
def Tryd.laysM284_ren : Go.Shelf.Ren := ⟨fun | 284 => 86 | 129 => 93 | 317 => 92 | 318 => 94 | n => n, fun | 53 => 109 | 3 => 3 | 212 => 122 | 0 => 0 | 4 => 4 | 46 => 116 | 5 => 5 | 9 => 9 | n => n, fun | 17 => 4 | n => n⟩
open Go.Lib in
def Tryd.lays285_ren : Go.Shelf.Ren := ⟨fun | 285 => 87 | n => n, fun | 37 => 56 | 53 => 109 | 3 => 3 | 4 => 4 | 51 => 123 | 9 => 9 | 5 => 5 | 0 => 0 | n => n, fun | n => n⟩
open Go.RowKit Go.Sort Go.Lib in
def Tryd.laysM246_ren : Go.Shelf.Ren := ⟨fun | 246 => 78 | 283 => 85 | 284 => 86 | 285 => 87 | 286 => 88 | 129 => 93 | 317 => 92 | 318 => 94 | 319 => 95 | 320 => 96 | 337 => 99 | 338 => 100 | n => n, fun | 2 => 2 | 3 => 3 | 9 => 9 | 4 => 4 | 171 => 108 | 0 => 0 | 53 => 109 | 37 => 56 | 5 => 5 | 173 => 112 | 212 => 122 | 51 => 123 | 20 => 20 | 213 => 124 | 46 => 116 | 232 => 133 | 233 => 134 | n => n, fun | 17 => 4 | 18 => 5 | 19 => 6 | n => n⟩
open Go.RowKit Go.Sort Go.Lib in
def Tryd.lays246_ren : Go.Shelf.Ren := ⟨fun | 246 => 78 | 283 => 85 | 284 => 86 | 285 => 87 | 286 => 88 | 129 => 93 | 317 => 92 | 318 => 94 | 319 => 95 | 320 => 96 | 337 => 99 | 338 => 100 | n => n, fun | 2 => 2 | 3 => 3 | 9 => 9 | 4 => 4 | 171 => 108 | 0 => 0 | 53 => 109 | 37 => 56 | 5 => 5 | 173 => 112 | 212 => 122 | 51 => 123 | 20 => 20 | 213 => 124 | 46 => 116 | 232 => 133 | 233 => 134 | n => n, fun | 17 => 4 | 18 => 5 | 19 => 6 | n => n⟩
open Go.RowKit Go.Sort Go.Lib in
def Tryd.laysM243_ren : Go.Shelf.Ren := ⟨fun | 243 => 73 | 246 => 78 | 283 => 85 | 284 => 86 | 285 => 87 | 286 => 88 | 129 => 93 | 317 => 92 | 318 => 94 | 319 => 95 | 320 => 96 | 337 => 99 | 338 => 100 | n => n, fun | 3 => 3 | 9 => 9 | 2 => 2 | 4 => 4 | 171 => 108 | 0 => 0 | 53 => 109 | 37 => 56 | 5 => 5 | 173 => 112 | 212 => 122 | 51 => 123 | 20 => 20 | 213 => 124 | 46 => 116 | 232 => 133 | 233 => 134 | n => n, fun | 17 => 4 | 18 => 5 | 19 => 6 | n => n⟩
open Go.RowKit Go.Sort Go.Lib in
def Tryd.lays243_ren : Go.Shelf.Ren := ⟨fun | 243 => 73 | 246 => 78 | 283 => 85 | 284 => 86 | 285 => 87 | 286 => 88 | 129 => 93 | 317 => 92 | 318 => 94 | 319 => 95 | 320 => 96 | 337 => 99 | 338 => 100 | n => n, fun | 3 => 3 | 9 => 9 | 2 => 2 | 4 => 4 | 171 => 108 | 0 => 0 | 53 => 109 | 37 => 56 | 5 => 5 | 173 => 112 | 212 => 122 | 51 => 123 | 20 => 20 | 213 => 124 | 46 => 116 | 232 => 133 | 233 => 134 | n => n, fun | 17 => 4 | 18 => 5 | 19 => 6 | n => n⟩
open Go.RowKit Go.Sort Go.Lib in
def Tryd.laysM171_ren : Go.Shelf.Ren := ⟨fun | 171 => 65 | 243 => 73 | 246 => 78 | 283 => 85 | 284 => 86 | 285 => 87 | 286 => 88 | 129 => 93 | 317 => 92 | 318 => 94 | 319 => 95 | 320 => 96 | 337 => 99 | 338 => 100 | n => n, fun | 3 => 3 | 9 => 9 | 2 => 2 | 4 => 4 | 171 => 108 | 0 => 0 | 53 => 109 | 37 => 56 | 5 => 5 | 173 => 112 | 212 => 122 | 51 => 123 | 20 => 20 | 213 => 124 | 46 => 116 | 232 => 133 | 233 => 134 | n => n, fun | 17 => 4 | 18 => 5 | 19 => 6 | n => n⟩
theorem Tryd.laysM171 : Go.Proofs.LaysM.n171 Tryd.prog Tryd.laysM171_ren := {
 mixed := by kernel_rfl
 f129 := Tryd.func93.trans (congrArg some (by kernel_rfl))
 f171 := Tryd.func65.trans (congrArg some (by kernel_rfl))
 f243 := Tryd.func73.trans (congrArg some (by kernel_rfl))
 f246 := Tryd.func78.trans (congrArg some (by kernel_rfl))
 f283 := Tryd.func85.trans (congrArg some (by kernel_rfl))
 f284 := Tryd.func86.trans (congrArg some (by kernel_rfl))
 f285 := Tryd.func87.trans (congrArg some (by kernel_rfl))
 f286 := Tryd.func88.trans (congrArg some (by kernel_rfl))
 f317 := Tryd.func92.trans (congrArg some (by kernel_rfl))
 f318 := Tryd.func94.trans (congrArg some (by kernel_rfl))
 f319 := Tryd.func95.trans (congrArg some (by kernel_rfl))
 f320 := Tryd.func96.trans (congrArg some (by kernel_rfl))
 f337 := Tryd.func99.trans (congrArg some (by kernel_rfl))
 f338 := Tryd.func100.trans (congrArg some (by kernel_rfl))
 t0 := Tryd.underlying0
 a0 := Tryd.isAgg0
 z0 := Tryd.sizeOf0
 v0 := Tryd.zeroValue0
 t2 := Tryd.underlying2
 a2 := Tryd.isAgg2
 z2 := Tryd.sizeOf2
 v2 := Tryd.zeroValue2
 t3 := Tryd.underlying3
 a3 := Tryd.isAgg3
 z3 := Tryd.sizeOf3
 v3 := Tryd.zeroValue3
 t4 := Tryd.underlying4
 a4 := Tryd.isAgg4
 z4 := Tryd.sizeOf4
 v4 := Tryd.zeroValue4
 t5 := Tryd.underlying5
 a5 := Tryd.isAgg5
 z5 := Tryd.sizeOf5
 v5 := Tryd.zeroValue5
 t9 := Tryd.underlying9
 a9 := Tryd.isAgg9
 z9 := Tryd.sizeOf9
 v9 := Tryd.zeroValue9
 t20 := Tryd.underlying20
 a20 := Tryd.isAgg20
 z20 := Tryd.sizeOf20
 v20 := Tryd.zeroValue20
 t37 := Tryd.underlying56
 a37 := Tryd.isAgg56
 z37 := Tryd.sizeOf56
 v37 := Tryd.zeroValue56
 t46 := Tryd.underlying116
 a46 := Tryd.isAgg116
 z46 := Tryd.sizeOf116
 v46 := Tryd.zeroValue116
 t51 := Tryd.underlying123
 a51 := Tryd.isAgg123
 z51 := Tryd.sizeOf123
 v51 := Tryd.zeroValue123
 t53 := Tryd.underlying109
 a53 := Tryd.isAgg109
 z53 := Tryd.sizeOf109
 v53 := Tryd.zeroValue109
 t171 := Tryd.underlying108
 a171 := Tryd.isAgg108
 z171 := Tryd.sizeOf108
 v171 := Tryd.zeroValue108
 t173 := Tryd.underlying112
 a173 := Tryd.isAgg112
 z173 := Tryd.sizeOf112
 v173 := Tryd.zeroValue112
 t212 := Tryd.underlying122
 a212 := Tryd.isAgg122
 z212 := Tryd.sizeOf122
 v212 := Tryd.zeroValue122
 t213 := Tryd.underlying124
 a213 := Tryd.isAgg124
 z213 := Tryd.sizeOf124
 t232 := Tryd.underlying133
 a232 := Tryd.isAgg133
 z232 := Tryd.sizeOf133
 v232 := Tryd.zeroValue133
 t233 := Tryd.underlying134
 a233 := Tryd.isAgg134
 z233 := Tryd.sizeOf134
 v233 := Tryd.zeroValue134
 g17 := by kernel_rfl
 g18 := by kernel_rfl
 g19 := by kernel_rfl
 i0 := by kernel_rfl
 i2 := by kernel_rfl
 i3 := by kernel_rfl
 i4 := by kernel_rfl
 i5 := by kernel_rfl
 i9 := by kernel_rfl
 i20 := by kernel_rfl
 i37 := by kernel_rfl
 i46 := by kernel_rfl
 i51 := by kernel_rfl
 i53 := by kernel_rfl
 i171 := by kernel_rfl
 i173 := by kernel_rfl
 i212 := by kernel_rfl
 i232 := by kernel_rfl
 i233 := by kernel_rfl
 m17 := by kernel_rfl
 m18 := by kernel_rfl
 m19 := by kernel_rfl }
open Go.RowKit Go.Sort Go.Lib in
theorem Tryd.strconv_Itoa (n : Int) (h0 : -9223372036854775808 ≤ n) (h1 : n ≤ 9223372036854775807) (w : World) (htab : Lib.TabIs Tryd.prog w "internal/strconv.uint64pow10" .u64 Lib.pow10Tab) :
  Calls Tryd.prog 65 #[.int .i64 n] w fun e w' => e = .returned (.string ⟨(Lib.itoa n).toArray⟩) ∧ ∃ k os, w' = grow (w.drewN k) os := Any.strconv_Itoa Tryd.laysM171 n h0 h1 w htab
def Tryd.lays171_ren : Go.Shelf.Ren := ⟨fun | 171 => 65 | 243 => 73 | 246 => 78 | 283 => 85 | 284 => 86 | 285 => 87 | 286 => 88 | 129 => 93 | 317 => 92 | 318 => 94 | 319 => 95 | 320 => 96 | 337 => 99 | 338 => 100 | n => n, fun | 3 => 3 | 9 => 9 | 2 => 2 | 4 => 4 | 171 => 108 | 0 => 0 | 53 => 109 | 37 => 56 | 5 => 5 | 173 => 112 | 212 => 122 | 51 => 123 | 20 => 20 | 213 => 124 | 46 => 116 | 232 => 133 | 233 => 134 | n => n, fun | 17 => 4 | 18 => 5 | 19 => 6 | n => n⟩
open Go.RowKit Go.Sort Go.Lib in
def Tryd.lays206_ren : Go.Shelf.Ren := ⟨fun | 206 => 56 | n => n, fun | 9 => 9 | 4 => 4 | 3 => 3 | n => n, fun | n => n⟩
open Go.RowKit Go.Lib in
def Tryd.lays99_ren : Go.Shelf.Ren := ⟨fun | 99 => 50 | 206 => 56 | n => n, fun | 9 => 9 | 4 => 4 | 3 => 3 | n => n, fun | n => n⟩
theorem Tryd.lays99 : Go.Proofs.Lays.n99 Tryd.prog Tryd.lays99_ren := {
 mixed := by kernel_rfl
 f99 := Tryd.func50.trans (congrArg some (by kernel_rfl))
 f206 := Tryd.func56.trans (congrArg some (by kernel_rfl))
 t3 := Tryd.underlying3
 a3 := Tryd.isAgg3
 z3 := Tryd.sizeOf3
 v3 := Tryd.zeroValue3
 t4 := Tryd.underlying4
 a4 := Tryd.isAgg4
 z4 := Tryd.sizeOf4
 v4 := Tryd.zeroValue4
 t9 := Tryd.underlying9
 a9 := Tryd.isAgg9
 z9 := Tryd.sizeOf9
 v9 := Tryd.zeroValue9 }
open Go.RowKit Go.Lib in
theorem Tryd.strings_HasPrefix (s p : ByteArray) (w : World) :
  Calls Tryd.prog 50 #[.string s, .string p] w fun e w' => e = .returned (.bool (Lib.hasPrefix s.data.toList p.data.toList)) ∧ w' = w := Any.strings_HasPrefix Tryd.lays99 s p w
def Tryd.lays208_ren : Go.Shelf.Ren := ⟨fun | 208 => 74 | 206 => 56 | n => n, fun | 9 => 9 | 4 => 4 | 3 => 3 | n => n, fun | n => n⟩
open Go.RowKit Go.Lib in
def Tryd.lays101_ren : Go.Shelf.Ren := ⟨fun | 101 => 69 | 208 => 74 | 206 => 56 | n => n, fun | 9 => 9 | 4 => 4 | 3 => 3 | n => n, fun | n => n⟩
theorem Tryd.lays101 : Go.Proofs.Lays.n101 Tryd.prog Tryd.lays101_ren := {
 mixed := by kernel_rfl
 f101 := Tryd.func69.trans (congrArg some (by kernel_rfl))
 f206 := Tryd.func56.trans (congrArg some (by kernel_rfl))
 f208 := Tryd.func74.trans (congrArg some (by kernel_rfl))
 t3 := Tryd.underlying3
 a3 := Tryd.isAgg3
 z3 := Tryd.sizeOf3
 v3 := Tryd.zeroValue3
 t4 := Tryd.underlying4
 a4 := Tryd.isAgg4
 z4 := Tryd.sizeOf4
 v4 := Tryd.zeroValue4
 t9 := Tryd.underlying9
 a9 := Tryd.isAgg9
 z9 := Tryd.sizeOf9
 v9 := Tryd.zeroValue9 }
open Go.RowKit Go.Lib in
theorem Tryd.strings_TrimPrefix (s p : ByteArray) (w : World) :
  Calls Tryd.prog 69 #[.string s, .string p] w fun e w' => e = .returned (.string ⟨(Lib.trimPrefix s.data.toList p.data.toList).toArray⟩) ∧ w' = w := Any.strings_TrimPrefix Tryd.lays101 s p w
end Go.Proofs
namespace Go.Proofs.YtpbhgebblpdmnaaDoor
open Go.RowKit Wr Src
set_option linter.unusedVariables false
set_option maxRecDepth 100000
theorem hasPrefix_any (a p : Str) (W : World) : Calls Tryd.prog 50 #[sv a, sv p] W fun e w' => e = .returned (.bool (p.isPrefixOf a)) ∧ W = w' :=
 (Tryd.strings_HasPrefix ⟨a.toArray⟩ ⟨p.toArray⟩ W).mono fun e w' ⟨h1, h2⟩ => ⟨h1, h2.symm⟩
theorem trimPrefix_any (t : Str) (W : World) (h : t = [] ∨ ∃ u, t = 36 :: u) : Calls Tryd.prog 69 #[sv t, .string ⟨#[36]⟩] W fun e w' => e = .returned (sv (t.drop 1)) ∧ W = w' :=
 (Tryd.strings_TrimPrefix ⟨t.toArray⟩ ⟨#[36]⟩ W).mono fun e w' ⟨h1, h2⟩ => by
  refine ⟨h1.trans ?_, h2.symm⟩
  show Ending.returned (.string ⟨(Lib.trimPrefix t [36]).toArray⟩) = _
  have e : Lib.trimPrefix t [36] = t.drop 1 := by
   unfold Lib.trimPrefix Lib.hasPrefix
   rcases h with rfl | ⟨u, rfl⟩
   ·
    rfl
   ·
    rw [if_pos (by simp [List.isPrefixOf])]; rfl
  rw [e]
theorem decDigits_eq (n : Nat) : Lib.decDigits n = decD n := by
 induction n using Nat.strongRecOn with
 | ind n ih =>
  rw [Lib.decDigits, decD]
  by_cases h : n < 10
  ·
   rw [dif_pos h, if_pos h]
  ·
   rw [dif_neg h, if_neg h, ih (n / 10) (by omega)]
theorem itoa_eq (z : Int) : Lib.itoa z = decZ z := by
 unfold Lib.itoa decZ
 by_cases h : z < 0
 ·
  rw [if_pos h, if_pos h, decDigits_eq]
 ·
  rw [if_neg h, if_neg h, decDigits_eq, show z.toNat = z.natAbs by omega]
theorem itoa_any {B : Nat} (z : Int) (W : World) (ht : Tab B W) (h0 : -9223372036854775808 ≤ z) (h1 : z ≤ 9223372036854775807) : Calls Tryd.prog 65 #[iv z] W fun e w' => e = .returned (sv (decZ z)) ∧ Below W.heap.size W w' := by
 obtain ⟨bs, os, cs, bg, og, cg, ht⟩ := ht
 refine (Tryd.strconv_Itoa z h0 h1 W ht.p).mono fun e w' ⟨h1, k, os, h2⟩ => ⟨by rw [h1, itoa_eq], ?_⟩
 rw [h2]
 exact Lib.below_grow _ _ (Nat.le_refl _) _ _
theorem decFrom_eq : ∀ (l : Str) (a : Nat), l.all isD = true → Lib.decFrom a l = some (l.foldl (fun v c => 10 * v + (c.toNat - 48)) a)
 | [], a, _ => rfl
 | b :: r, a, h => by
  rw [List.all_cons, Bool.and_eq_true] at h
  have hb := of_decide_eq_true (show decide (48 ≤ b.toNat ∧ b.toNat ≤ 57) = true from h.1)
  have hv : Lib.digitVal b = some (b.toNat - 48) := by unfold Lib.digitVal; rw [if_pos hb]
  rw [Lib.decFrom, hv]
  dsimp only
  rw [decFrom_eq r _ h.2, List.foldl_cons, Nat.mul_comm]
theorem atoi_any (t : Str) (W : World) (h0 : t ≠ []) (h : t.all isD = true) (hl : t.length ≤ 3) : Calls Tryd.prog 70 #[sv t] W fun e w' => e = .returned (.tuple #[nv (decN t), .nilIface]) ∧ Below W.heap.size W w' := by
 have ha : Lib.atoi t = some ((decN t : Nat) : Int) := by
  cases t with
  | nil => exact absurd rfl h0
  | cons b r =>
   have hb : isD b = true := by rw [List.all_cons, Bool.and_eq_true] at h; exact h.1
   have hb2 := of_decide_eq_true (show decide (48 ≤ b.toNat ∧ b.toNat ≤ 57) = true from hb)
   unfold Lib.atoi
   dsimp only
   rw [if_neg (by intro e; rw [beq_iff_eq] at e; subst e; simp at hb2), if_neg (by intro e; rw [beq_iff_eq] at e; subst e; simp at hb2)]
   unfold Lib.decNat
   rw [if_neg (by simp), decFrom_eq _ _ h]
   rfl
 refine (Tryd.strconv_Atoi ⟨t.toArray⟩ _ (by rw [sv_size]; omega) ha W).mono fun e w' ⟨h1, t', h2⟩ => ⟨h1, ?_⟩
 rw [h2]
 exact Lib.bytesWorld_below _ _ _
def tokV (x : List Tok × Nat) : Value := match x with
 | ([], E) => TK 0 [] E 0 0
 | ((t, p) :: _, _) => TK (cls t) t p (opOf t).1 (kdOf t)
set_option maxHeartbeats 4000000 in
theorem scan_any {B : Nat} (S : Str) (p : Nat) (w : World) (ht : Tab B w) (hp : p ≤ S.length) (hl : S.length ≤ 4294967295) : Calls Tryd.prog 32 #[sv S, nv p] w fun e w' => e = .returned (tokV (LX (S.drop p) p)) ∧ Below w.heap.size w w' := by
 suffices hgen : ∀ R, Hid (LX (S.drop p) p = R) → Calls Tryd.prog 32 #[sv S, nv p] w fun e w' => e = .returned (tokV R) ∧ Below w.heap.size w w' from hgen _ (Lh rfl)
 intro R HR
 have b0 := Lh (Blk.new w 62 Z5)
 have B0 := Lh ((Below.refl w.heap.size w).alloc (Nat.le_refl _) (.cells Z5.toArray 62))
 change Hid (Blk (w.alloc (.cells #[.int .i64 0, .string ⟨#[]⟩, .int .i64 0, .int .i64 0, .int .i64 0] 62)) w.heap.size 62 Z5) at b0
 change Hid (Below w.heap.size w (w.alloc (.cells #[.int .i64 0, .string ⟨#[]⟩, .int .i64 0, .int .i64 0, .int .i64 0] 62))) at B0
 have z1 := zero62
 obtain ⟨n, hn⟩ : ∃ n, n = S.length := ⟨_, rfl⟩
 obtain ⟨s, hs⟩ : ∃ s : ByteArray, s = ⟨S.toArray⟩ := ⟨_, rfl⟩
 have hsz : s.size = n := by rw [hs]; exact hn.symm
 have HN := Lh hn
 have hnI : (n : Int) ≤ 4294967295 := by omega
 rw [show sv S = .string s by rw [hs]]
 have HE : Hid (∀ q, Value.string (s.extract q n) = sv (S.drop q)) := Lh (fun q => by rw [hs, hn, sv_drop])
 have HT : Hid (∀ q b u W, S.drop q = b :: u → Below w.heap.size w W → Calls Tryd.prog 37 #[.string (s.extract q n)] W fun e w' => e = .returned (tkv (tokAt (b :: u)) 0) ∧ Below W.heap.size W w') := Lh (fun q b u W hd hW => by
  rw [HE.out q, hd]
  have hlu : u.length + 1 ≤ S.length := by have := congrArg List.length hd; rw [List.length_drop, List.length_cons] at this; omega
  exact tokenAt_any b u W (ht.below hW) (by omega) (Lh hasPrefix_any))
 clear hn hs ht
 go_enter Tryd.func32, Tryd.ntmps32
 go_upto_region 1 with fail
 generalize w.alloc (.cells #[.int .i64 0, .string ⟨#[]⟩, .int .i64 0, .int .i64 0, .int .i64 0] 62) = W0 at b0 B0 ⊢
 go_wp2_with fail
 go_step3
 go_wp2_with fail
 go_step3
 go_wp2_with fail
 go_loopw [1] (fun s wr => ∃ q : Nat, q ≤ n ∧ s = .int .i64 (q : Int) ∧ Hid (LX (S.drop q) q = R) ∧ Hid (Blk wr w.heap.size 62 Z5) ∧ Hid (Below w.heap.size w wr)) (fun s _ => n - (intOf s).toNat)
 case atStart => exact ⟨p, by have := HN.out; omega, rfl, HR, b0, B0⟩
 case round =>
  clear b0 B0
  obtain ⟨q, hq, rfl, HQ, b1, B1⟩ := hrel
  rcases Nat.lt_or_ge q n with hlt | hge
  ·
   have hqI : (q : Int) < (n : Int) := by omega
   have hqJ : (q : Int) ≤ (n : Int) := by omega
   obtain ⟨b, u, hd⟩ : ∃ b u, S.drop q = b :: u := by
    cases h : S.drop q with
    | nil => have := congrArg List.length h; rw [List.length_drop] at this; have := HN.out; simp at *; omega
    | cons b u => exact ⟨b, u, rfl⟩
   have HTq := Lh (fun W hW => HT.out q b u W hd hW)
   have hrr := HQ.out
   rw [hd] at hrr
   obtain ⟨x, hx⟩ : ∃ x, x = tokAt (b :: u) := ⟨_, rfl⟩
   rw [← hx] at HTq
   have HX := Lh hx
   have HRR := Lh hrr
   clear hx hrr
   obtain ⟨c, tx, lv, kd⟩ := x
   clear HQ
   go_wp2_with fail
   refine (HTq.out _ B1.out).mono ?_
   rintro e w1 ⟨rfl, hb⟩
   have b2 := Lh (b1.out.below hb b1.out.lt)
   have B2 := Lh (below_step B1.out hb)
   clear hb b1 B1 HTq
   dsimp only [tkv, TK, TKC]
   by_cases hb : isBlank b = true
   ·
    have he := HX.out
    rw [tokAt_blank u hb] at he
    injection he with e1 e2
    injection e2 with e2 e3
    injection e3 with e3 e4
    subst e1 e2 e3 e4
    have hu : LX (S.drop (q + 1)) (q + 1) = R := by
     rw [← HRR.out, LX_blank u q hb, ← List.drop_drop, hd]; rfl
    have HU := Lh hu
    clear hu hd hb HX HRR
    go_wp2_with fail
    go_roundw
    case rel => exact ⟨q + 1, by omega, by simp, HU, Lh (b2.out.alloc _), Lh (B2.out.alloc B2.out.size _)⟩
    case measure => simp only [intOf]; omega
   ·
    have hb' : isBlank b = false := by cases h : isBlank b with | true => exact absurd h hb | false => rfl
    obtain ⟨h1, h2⟩ := tokAt_tok u hb'
    rw [← HX.out] at h1 h2
    have hrr := HRR.out
    rw [lx_step b u q hb'] at hrr
    by_cases h0 : tokLen (b :: u) = 0
    ·
     rw [if_pos h0] at hrr
     rw [h0] at h1
     dsimp only at h1
     rw [List.take_zero] at h1
     subst h1 hrr
     clear h2 h0 hb hb' HX HRR hd
     have b3 := Lh (fun o => b2.out.alloc o)
     have B3 := Lh (fun o => B2.out.alloc B2.out.size o)
     go_wp2_with (first | (with_reducible refine wpList_store_blk rfl 62 5 size62 (.tmp 4) (.tmp 28) rfl w.heap.size [.int .i64 0, .string ⟨#[]⟩, .int .i64 (q : Int), .int .i64 0, .int .i64 0] rfl rfl Z5 (b3.out _) rfl rfl rfl ?_; intro w3 hb1 hk1))
     rw [Exit.noGoto_ret]; refine bodyPost_ret (v := .agg ([.int .i64 0, .string ⟨#[]⟩, .int .i64 (q : Int), .int .i64 0, .int .i64 0]).toArray) (box_res 5 size62 rfl _ _ w.heap.size _ _ rfl hb1 rfl Tryd.underlying62 rfl) rfl ⟨rfl, ?_⟩
     exact (B3.out _).trans (hk1.below (by exact (B3.out _).size) (by intro k hk; omega))
    ·
     rw [if_neg h0] at hrr
     have e2 := h2 h0
     injection e2 with e2 e3
     injection e3 with e3 e4
     injection e4 with e4 e5
     have htx : tx ≠ [] := by
      rw [e3]
      intro h
      have := congrArg List.length h
      rw [List.length_take, List.length_cons] at this
      simp at this; omega
     have hc1 : c ≠ 1 := by
      rw [e2]
      unfold cls
      split
      ·
       simp
      ·
       split
       ·
        split <;> simp
       ·
        split
        ·
         simp
        ·
         split <;> simp
     have hq1 : (tx == []) = false := by rw [beq_eq_false_iff_ne]; exact htx
     have hq2 : tx.isEmpty = false := by cases tx with | nil => exact absurd rfl htx | cons a b => rfl
     have hc2 : (((c : Nat) : Int) == 1) = false := by rw [beq_eq_false_iff_ne]; omega
     have hc3 : (((c : Nat) : Int) != 1) = true := by rw [bne, hc2]; rfl
     have HR2 := Lh (show R = ((tx, q) :: (LX ((b :: u).drop (tokLen (b :: u))) (q + tokLen (b :: u))).1, (LX ((b :: u).drop (tokLen (b :: u))) (q + tokLen (b :: u))).2) by rw [← hrr, e3])
     have HV := Lh (show tokV R = .agg #[.int .i64 (c : Int), sv tx, .int .i64 (q : Int), .int .i64 (lv : Int), .int .i64 kd] by
      rw [HR2.out, e2, e4, e5, ← e3]; rfl)
     clear h2 h0 hb hb' HX HRR hd hrr e2 e3 e4 e5 h1 htx hc1 HR2
     have b3 := Lh (fun o => b2.out.alloc o)
     have B3 := Lh (fun o => B2.out.alloc B2.out.size o)
     have b4 := Lh (fun cs => (Blk.new w1 62 cs).at)
     go_wp2_with (first
      | (with_reducible refine wpList_load_cells rfl 62 5 size62 (.tmp 5) rfl ⟨w1.heap.size, 0, none⟩ rfl [.int .i64 (c : Int), sv tx, .int .i64 (q : Int), .int .i64 (lv : Int), .int .i64 kd] rfl _ Tryd.underlying62 rfl (b4.out _) ?_)
      | (with_reducible refine wpList_store_blk rfl 62 5 size62 (.tmp 4) (.tmp 24) rfl w.heap.size [.int .i64 (c : Int), sv tx, .int .i64 (q : Int), .int .i64 (lv : Int), .int .i64 kd] rfl rfl Z5 (b3.out _) rfl rfl rfl ?_; intro w3 hb1 hk1))
     rw [Exit.noGoto_ret]
     refine bodyPost_ret (v := .agg #[.int .i64 (c : Int), sv tx, .int .i64 (q : Int), .int .i64 (lv : Int), .int .i64 kd]) (box_res 5 size62 rfl _ _ w.heap.size _ _ rfl hb1 rfl Tryd.underlying62 rfl) rfl ⟨by rw [HV.out], ?_⟩
     exact (B3.out _).trans (hk1.below (by exact (B3.out _).size) (by intro k hk; omega))
  ·
   obtain rfl : q = n := by omega
   have hrr := HQ.out
   rw [List.drop_eq_nil_of_le (by have := HN.out; omega), LX_nil] at hrr
   subst hrr
   clear HT HE HQ
   go_wp2_with (first | (with_reducible refine wpList_store_blk rfl 62 5 size62 (.tmp 4) (.tmp 28) rfl w.heap.size [.int .i64 0, .string ⟨#[]⟩, .int .i64 (q : Int), .int .i64 0, .int .i64 0] rfl rfl Z5 b1.out rfl rfl rfl ?_; intro w3 hb1 hk1))
   rw [Exit.noGoto_ret]; refine bodyPost_ret (v := .agg ([.int .i64 0, .string ⟨#[]⟩, .int .i64 (q : Int), .int .i64 0, .int .i64 0]).toArray) (box_res 5 size62 rfl _ _ w.heap.size _ _ rfl hb1 rfl Tryd.underlying62 rfl) rfl ⟨rfl, ?_⟩
   exact (B1.out).trans (hk1.below (by exact (B1.out).size) (by intro k hk; omega))
end Go.Proofs.YtpbhgebblpdmnaaDoor
namespace Go.Proofs.YtpbhgebblpdmnaaDoor
open Go.RowKit Wr Src
set_option linter.unusedVariables false
set_option maxRecDepth 100000
abbrev RC (T : Str) (E : Nat) (s : St) : List Value := [sv T, nv (cls s.look), sv s.look, nv (s.at' E), nv (opOf s.look).1, iv (kdOf s.look), nv s.e]
structure RS (B : Nat) (w : World) (g : Nat) (T : Str) (E : Nat) (s : St) : Prop where
 b : Blk w g 65 (RC T E s)
 x : LXI T E s
 t : Tab B w
 l : T.length ≤ 4294967295
 hg : B ≤ g
section
variable {B : Nat} {w w' : World} {g : Nat} {T : Str} {E : Nat} {s : St}
theorem RS.kp {Z : Nat → Prop} (h : RS B w g T E s) (k : Kp Z w w') (h1 : ¬ Z g) (h2 : ∀ k, k < B → ¬ Z k) : RS B w' g T E s := ⟨k.blk h.b h1, h.x, h.t.kp k h2, h.l, h.hg⟩
theorem RS.below (h : RS B w g T E s) (k : Below w.heap.size w w') : RS B w' g T E s := h.kp (Kp.of_below' (Z := fun _ => False) k) id (fun _ _ h => h)
theorem RS.lt (h : RS B w g T E s) : g < w.heap.size := h.b.lt
end
theorem look_fail {s : St} {e : Nat} (he : e ≠ 0) : (s.fail e).look = [] := by unfold St.look; rw [if_neg (fail_e he)]
theorem at_fail (s : St) (e E : Nat) : (s.fail e).at' E = s.at' E := by unfold St.fail St.at'; split <;> rfl
set_option maxHeartbeats 4000000 in
theorem fail_any {B : Nat} {w : World} {g : Nat} {T : Str} {E : Nat} {s : St} (h : RS B w g T E s) (e : Nat) (he : e ≠ 0) (hs : e ≤ 9) : Calls Tryd.prog 34 #[.pointer (some ⟨g, 0, none⟩), nv e] w fun en w' => en = .returned (.tuple #[]) ∧ RS B w' g T E (s.fail e) ∧ Kp (fun k => k = g) w w' := by
 have H := Lh h
 have hb := h.b
 have HF : Hid (∀ w', Blk w' g 65 [sv T, .int .i64 0, .string ⟨#[]⟩, nv (s.at' E), .int .i64 0, .int .i64 0, nv (if s.e = 0 then e else s.e)] → Kp (fun k => k = g) w w' → RS B w' g T E (s.fail e)) := Lh (fun w' h1 h2 => by
  refine ⟨?_, H.out.x.fail e, H.out.t.kp h2 (fun k hk => by have := H.out.hg; omega), H.out.l, H.out.hg⟩
  unfold RC
  rw [look_fail he, at_fail]
  have : (s.fail e).e = if s.e = 0 then e else s.e := by unfold St.fail; split <;> simp_all
  rw [this]
  exact h1)
 have c0 := hb.cell 0; have c1 := hb.cell 1; have c2 := hb.cell 2; have c3 := hb.cell 3; have c4 := hb.cell 4; have c5 := hb.cell 5; have c6 := hb.cell 6
 have f1 := hb.frozen 1; have f2 := hb.frozen 2; have f3 := hb.frozen 3; have f4 := hb.frozen 4; have f5 := hb.frozen 5; have f6 := hb.frozen 6
 have HB := Lh hb
 clear h hb
 unfold RC at c0 c1 c2 c3 c4 c5 c6
 simp only [g0, gs] at c0 c1 c2 c3 c4 c5 c6
 by_cases h0 : s.e = 0
 ·
  have h0I : (((s.e : Nat) : Int) == 0) = true := by rw [h0]; rfl
  rw [if_pos h0] at HF
  clear h0
  go_enter Tryd.func34, Tryd.ntmps34
  go_wp2_with fail
  have k := (((((((Kp.refl (fun k => k = g) w).set ⟨g, 6, none⟩ (nv e) rfl).set ⟨g, 1, none⟩ (.int .i64 0) rfl).set ⟨g, 2, none⟩ (.string ⟨#[]⟩) rfl).set ⟨g, 3, none⟩ (nv (s.at' E)) rfl).set ⟨g, 4, none⟩ (.int .i64 0) rfl).set ⟨g, 5, none⟩ (.int .i64 0) rfl)
  have b := ((((((HB.out.put 6 (nv e)).put 1 (.int .i64 0)).put 2 (.string ⟨#[]⟩)).put 3 (nv (s.at' E))).put 4 (.int .i64 0)).put 5 (.int .i64 0))
  exact bodyPost_end (v := .tuple #[]) (res_none rfl _ _) rfl ⟨rfl, HF.out _ b k, k⟩
 ·
  have h0I : (((s.e : Nat) : Int) == 0) = false := by rw [beq_eq_false_iff_ne]; omega
  rw [if_neg h0] at HF
  clear h0
  go_enter Tryd.func34, Tryd.ntmps34
  go_wp2_with fail
  have k := ((((((Kp.refl (fun k => k = g) w).set ⟨g, 1, none⟩ (.int .i64 0) rfl).set ⟨g, 2, none⟩ (.string ⟨#[]⟩) rfl).set ⟨g, 3, none⟩ (nv (s.at' E)) rfl).set ⟨g, 4, none⟩ (.int .i64 0) rfl).set ⟨g, 5, none⟩ (.int .i64 0) rfl)
  have b := (((((HB.out.put 1 (.int .i64 0)).put 2 (.string ⟨#[]⟩)).put 3 (nv (s.at' E))).put 4 (.int .i64 0)).put 5 (.int .i64 0))
  exact bodyPost_end (v := .tuple #[]) (res_none rfl _ _) rfl ⟨rfl, HF.out _ b k, k⟩
set_option maxHeartbeats 4000000 in
theorem advance_any {B : Nat} {w : World} {g : Nat} {T : Str} {E : Nat} {s : St} (h : RS B w g T E s) (hn : s.look ≠ []) : Calls Tryd.prog 67 #[.pointer (some ⟨g, 0, none⟩)] w fun en w' => en = .returned (.tuple #[]) ∧ RS B w' g T E s.adv ∧ Kp (fun k => k = g) w w' := by
 have H := Lh h
 have hb := h.b
 obtain ⟨he, p, R, htk⟩ := mu_look hn
 obtain ⟨hx1, hx2, hx3⟩ := lxi_next h.x htk
 have hp : s.at' E = p := by unfold St.at' plc; rw [htk]
 unfold RC at hb
 rw [hp] at hb
 have hadv : s.adv.toks = R := by show s.toks.tail = R; rw [htk]; rfl
 have hae : s.adv.e = 0 := he
 obtain ⟨t, ht⟩ : ∃ t, t = s.look := ⟨_, rfl⟩
 rw [← ht] at hb hx1 hx3
 have HSc : Hid (∀ W, Tab B W → Calls Tryd.prog 32 #[sv T, .int .i64 ((p : Int) + (t.length : Int))] W fun en w' => en = .returned (.agg #[nv (cls s.adv.look), sv s.adv.look, nv (s.adv.at' E), nv (opOf s.adv.look).1, iv (kdOf s.adv.look)]) ∧ Below W.heap.size W w') := Lh (fun W hW => by
  have h1 := scan_any T (p + t.length) W hW (by omega) H.out.l
  rw [hx3] at h1
  rw [show ((p : Int) + (t.length : Int)) = ((p + t.length : Nat) : Int) by omega]
  refine h1.mono fun en w' ⟨h2, h3⟩ => ⟨?_, h3⟩
  rw [h2]
  unfold tokV St.at' St.look
  rw [hadv, hae, if_pos rfl]
  cases R with
  | nil => rfl
  | cons x R => rfl)
 have HA := Lh (And.intro hae rfl : s.adv.e = 0 ∧ True = True)
 have HF : Hid (∀ w1 w2, Kp (fun k => k = g) w w1 → Blk w2 g 65 [sv T, nv (cls t), sv t, nv p, nv (opOf t).1, iv (kdOf t), nv s.e] → Below w1.heap.size w1 w2 →
   (RS B (((((w2.setCell ⟨g, 1, none⟩ (nv (cls s.adv.look))).setCell ⟨g, 2, none⟩ (sv s.adv.look)).setCell ⟨g, 3, none⟩ (nv (s.adv.at' E))).setCell ⟨g, 4, none⟩ (nv (opOf s.adv.look).1)).setCell ⟨g, 5, none⟩ (iv (kdOf s.adv.look))) g T E s.adv ∧ Kp (fun k => k = g) w (((((w2.setCell ⟨g, 1, none⟩ (nv (cls s.adv.look))).setCell ⟨g, 2, none⟩ (sv s.adv.look)).setCell ⟨g, 3, none⟩ (nv (s.adv.at' E))).setCell ⟨g, 4, none⟩ (nv (opOf s.adv.look).1)).setCell ⟨g, 5, none⟩ (iv (kdOf s.adv.look))))) := Lh (fun w1 w2 k1 b2 k2 => by
  have k := (((((k1.trans (Kp.of_below' (Z := fun _ => False) k2) (fun _ _ h => h.elim)).set ⟨g, 1, none⟩ (nv (cls s.adv.look)) rfl).set ⟨g, 2, none⟩ (sv s.adv.look) rfl).set ⟨g, 3, none⟩ (nv (s.adv.at' E)) rfl).set ⟨g, 4, none⟩ (nv (opOf s.adv.look).1) rfl).set ⟨g, 5, none⟩ (iv (kdOf s.adv.look)) rfl
  have b := (((((b2.put 1 (nv (cls s.adv.look))).put 2 (sv s.adv.look)).put 3 (nv (s.adv.at' E))).put 4 (nv (opOf s.adv.look).1)).put 5 (iv (kdOf s.adv.look)))
  exact ⟨⟨b, H.out.x.adv, H.out.t.kp k (fun k hk => by have := H.out.hg; omega), H.out.l, H.out.hg⟩, k⟩)
 have HB := Lh hb
 have hsz : (⟨t.toArray⟩ : ByteArray).size = t.length := rfl
 obtain ⟨n, hn⟩ : ∃ n, n = t.length := ⟨_, rfl⟩
 rw [← hn] at hsz HSc hx1
 have hlt := H.out.l
 have hpI : (p : Int) + (n : Int) ≤ 4294967295 := by omega
 have q0 : IntKind.i64.wrap ((p : Int) + (n : Int)) = (p : Int) + (n : Int) := IntWalk.i64_in _ (by omega)
 clear hlt
 clear h hb hp hadv hae hx2 hx3 htk ht hn hx1 he
 go_enter Tryd.func67, Tryd.ntmps67
 go_wp2_with fail
 refine wp_region_any (by kernel_rfl) ?_
 change wpAny _ _ _ _ _ _ _ (World.drew w)
 have HBd : Hid (Blk (World.drew w) g 65 [sv T, nv (cls t), sv t, nv p, nv (opOf t).1, iv (kdOf t), nv s.e]) := Lh HB.out
 have HTd : Hid (Tab B (World.drew w)) := Lh (H.out.t.kp (Z := fun _ => False) (Kp.drew _ w) (fun _ _ h => h))
 have HKd : Hid (Kp (fun k => k = g) w (World.drew w)) := Lh (Kp.drew _ w)
 generalize World.drew w = wd at HBd HTd HKd ⊢
 have c0 := HBd.out.cell 0; have c1 := HBd.out.cell 1; have c2 := HBd.out.cell 2; have c3 := HBd.out.cell 3; have c4 := HBd.out.cell 4; have c5 := HBd.out.cell 5; have c6 := HBd.out.cell 6
 simp only [g0, gs] at c0 c1 c2 c3 c4 c5 c6
 refine tg 0 (.pointer (some ⟨g, 0, none⟩)) ?_
 refine tg 1 (.pointer (some ⟨g, 0, none⟩)) ?_
 refine tg 2 (.pointer (some ⟨g, 0, none⟩)) ?_
 refine tg 3 (.pointer (some ⟨g, 0, none⟩)) ?_
 refine tg 5 (.pointer (some ⟨g, 0, none⟩)) ?_
 refine tg 6 (.pointer (some ⟨g, 0, none⟩)) ?_
 refine tg 7 (.pointer (some ⟨g, 1, none⟩)) ?_
 refine tg 8 (.pointer (some ⟨g, 3, none⟩)) ?_
 refine tg 10 (.pointer (some ⟨g, 0, none⟩)) ?_
 refine tg 11 (.pointer (some ⟨g, 0, none⟩)) ?_
 refine tg 12 (.pointer (some ⟨g, 1, none⟩)) ?_
 refine tg 13 (.pointer (some ⟨g, 2, none⟩)) ?_
 refine rm [4, 9, 14] (ac (fun K hK => ?_) (ac (fun K hK => ?_) (ac (fun K hK => ?_) AllReady.nil)))
 ·
  go_simp
  try (refine hk hK ?_; clear hK K)
  refine rm [9, 14] (ac (fun K hK => ?_) (ac (fun K hK => ?_) AllReady.nil))
  ·
   go_simp
   try (refine hk hK ?_; clear hK K)
   refine r1 14 (fun K hK => ?_)
   go_simp
   try (refine hk hK ?_; clear hK K)
   refine tg 15 (.int .i64 (n : Int)) ?_
   refine tg 16 (.int .i64 ((p : Int) + (n : Int))) ?_
   refine r1 17 (fun K hK => ?_)
   go_simp
   refine (HSc.out _ HTd.out).mono ?_; rintro e w2 ⟨rfl, hb⟩
   have b2 := HBd.out.below hb HBd.out.lt
   have B2 := Lh hb
   have f1 := b2.frozen 1; have f2 := b2.frozen 2; have f3 := b2.frozen 3; have f4 := b2.frozen 4; have f5 := b2.frozen 5
   have d1 := b2.cell 1; have d2 := b2.cell 2; have d3 := b2.cell 3; have d4 := b2.cell 4; have d5 := b2.cell 5
   have HB2 := Lh b2
   clear b2 hb c0 c1 c2 c3 c4 c5 c6
   simp only [g0, gs] at d1 d2 d3 d4 d5
   go_wp2_with fail
   try (refine hk hK ?_; clear hK K)
   refine tg 18 (.pointer (some ⟨g, 0, none⟩)) ?_
   refine tg 19 (.pointer (some ⟨g, 1, none⟩)) ?_
   refine r1 20 (fun K hK => ?_)
   go_simp
   try (refine hk hK ?_; clear hK K)
   refine wpAny_done (by kernel_rfl) ?_ _
   try simp only [zp, zn, zu, zv, zw]
   exact bodyPost_end (v := .tuple #[]) (res_none rfl _ _) rfl ⟨rfl, HF.out _ _ HKd.out HB2.out B2.out⟩
  ·
   go_simp
   try (refine hk hK ?_; clear hK K)
   refine tg 15 (.int .i64 (n : Int)) ?_
   refine r1 9 (fun K hK => ?_)
   go_simp
   try (refine hk hK ?_; clear hK K)
   refine tg 16 (.int .i64 ((p : Int) + (n : Int))) ?_
   refine r1 17 (fun K hK => ?_)
   go_simp
   refine (HSc.out _ HTd.out).mono ?_; rintro e w2 ⟨rfl, hb⟩
   have b2 := HBd.out.below hb HBd.out.lt
   have B2 := Lh hb
   have f1 := b2.frozen 1; have f2 := b2.frozen 2; have f3 := b2.frozen 3; have f4 := b2.frozen 4; have f5 := b2.frozen 5
   have d1 := b2.cell 1; have d2 := b2.cell 2; have d3 := b2.cell 3; have d4 := b2.cell 4; have d5 := b2.cell 5
   have HB2 := Lh b2
   clear b2 hb c0 c1 c2 c3 c4 c5 c6
   simp only [g0, gs] at d1 d2 d3 d4 d5
   go_wp2_with fail
   try (refine hk hK ?_; clear hK K)
   refine tg 18 (.pointer (some ⟨g, 0, none⟩)) ?_
   refine tg 19 (.pointer (some ⟨g, 1, none⟩)) ?_
   refine r1 20 (fun K hK => ?_)
   go_simp
   try (refine hk hK ?_; clear hK K)
   refine wpAny_done (by kernel_rfl) ?_ _
   try simp only [zp, zn, zu, zv, zw]
   exact bodyPost_end (v := .tuple #[]) (res_none rfl _ _) rfl ⟨rfl, HF.out _ _ HKd.out HB2.out B2.out⟩
 ·
  go_simp
  try (refine hk hK ?_; clear hK K)
  refine rm [4, 14] (ac (fun K hK => ?_) (ac (fun K hK => ?_) AllReady.nil))
  ·
   go_simp
   try (refine hk hK ?_; clear hK K)
   refine r1 14 (fun K hK => ?_)
   go_simp
   try (refine hk hK ?_; clear hK K)
   refine tg 15 (.int .i64 (n : Int)) ?_
   refine tg 16 (.int .i64 ((p : Int) + (n : Int))) ?_
   refine r1 17 (fun K hK => ?_)
   go_simp
   refine (HSc.out _ HTd.out).mono ?_; rintro e w2 ⟨rfl, hb⟩
   have b2 := HBd.out.below hb HBd.out.lt
   have B2 := Lh hb
   have f1 := b2.frozen 1; have f2 := b2.frozen 2; have f3 := b2.frozen 3; have f4 := b2.frozen 4; have f5 := b2.frozen 5
   have d1 := b2.cell 1; have d2 := b2.cell 2; have d3 := b2.cell 3; have d4 := b2.cell 4; have d5 := b2.cell 5
   have HB2 := Lh b2
   clear b2 hb c0 c1 c2 c3 c4 c5 c6
   simp only [g0, gs] at d1 d2 d3 d4 d5
   go_wp2_with fail
   try (refine hk hK ?_; clear hK K)
   refine tg 18 (.pointer (some ⟨g, 0, none⟩)) ?_
   refine tg 19 (.pointer (some ⟨g, 1, none⟩)) ?_
   refine r1 20 (fun K hK => ?_)
   go_simp
   try (refine hk hK ?_; clear hK K)
   refine wpAny_done (by kernel_rfl) ?_ _
   try simp only [zp, zn, zu, zv, zw]
   exact bodyPost_end (v := .tuple #[]) (res_none rfl _ _) rfl ⟨rfl, HF.out _ _ HKd.out HB2.out B2.out⟩
  ·
   go_simp
   try (refine hk hK ?_; clear hK K)
   refine tg 15 (.int .i64 (n : Int)) ?_
   refine tg 16 (.int .i64 ((p : Int) + (n : Int))) ?_
   refine r1 4 (fun K hK => ?_)
   go_simp
   try (refine hk hK ?_; clear hK K)
   refine r1 17 (fun K hK => ?_)
   go_simp
   refine (HSc.out _ HTd.out).mono ?_; rintro e w2 ⟨rfl, hb⟩
   have b2 := HBd.out.below hb HBd.out.lt
   have B2 := Lh hb
   have f1 := b2.frozen 1; have f2 := b2.frozen 2; have f3 := b2.frozen 3; have f4 := b2.frozen 4; have f5 := b2.frozen 5
   have d1 := b2.cell 1; have d2 := b2.cell 2; have d3 := b2.cell 3; have d4 := b2.cell 4; have d5 := b2.cell 5
   have HB2 := Lh b2
   clear b2 hb c0 c1 c2 c3 c4 c5 c6
   simp only [g0, gs] at d1 d2 d3 d4 d5
   go_wp2_with fail
   try (refine hk hK ?_; clear hK K)
   refine tg 18 (.pointer (some ⟨g, 0, none⟩)) ?_
   refine tg 19 (.pointer (some ⟨g, 1, none⟩)) ?_
   refine r1 20 (fun K hK => ?_)
   go_simp
   try (refine hk hK ?_; clear hK K)
   refine wpAny_done (by kernel_rfl) ?_ _
   try simp only [zp, zn, zu, zv, zw]
   exact bodyPost_end (v := .tuple #[]) (res_none rfl _ _) rfl ⟨rfl, HF.out _ _ HKd.out HB2.out B2.out⟩
 ·
  go_simp
  try (refine hk hK ?_; clear hK K)
  refine tg 15 (.int .i64 (n : Int)) ?_
  refine rm [4, 9] (ac (fun K hK => ?_) (ac (fun K hK => ?_) AllReady.nil))
  ·
   go_simp
   try (refine hk hK ?_; clear hK K)
   refine r1 9 (fun K hK => ?_)
   go_simp
   try (refine hk hK ?_; clear hK K)
   refine tg 16 (.int .i64 ((p : Int) + (n : Int))) ?_
   refine r1 17 (fun K hK => ?_)
   go_simp
   refine (HSc.out _ HTd.out).mono ?_; rintro e w2 ⟨rfl, hb⟩
   have b2 := HBd.out.below hb HBd.out.lt
   have B2 := Lh hb
   have f1 := b2.frozen 1; have f2 := b2.frozen 2; have f3 := b2.frozen 3; have f4 := b2.frozen 4; have f5 := b2.frozen 5
   have d1 := b2.cell 1; have d2 := b2.cell 2; have d3 := b2.cell 3; have d4 := b2.cell 4; have d5 := b2.cell 5
   have HB2 := Lh b2
   clear b2 hb c0 c1 c2 c3 c4 c5 c6
   simp only [g0, gs] at d1 d2 d3 d4 d5
   go_wp2_with fail
   try (refine hk hK ?_; clear hK K)
   refine tg 18 (.pointer (some ⟨g, 0, none⟩)) ?_
   refine tg 19 (.pointer (some ⟨g, 1, none⟩)) ?_
   refine r1 20 (fun K hK => ?_)
   go_simp
   try (refine hk hK ?_; clear hK K)
   refine wpAny_done (by kernel_rfl) ?_ _
   try simp only [zp, zn, zu, zv, zw]
   exact bodyPost_end (v := .tuple #[]) (res_none rfl _ _) rfl ⟨rfl, HF.out _ _ HKd.out HB2.out B2.out⟩
  ·
   go_simp
   try (refine hk hK ?_; clear hK K)
   refine tg 16 (.int .i64 ((p : Int) + (n : Int))) ?_
   refine r1 4 (fun K hK => ?_)
   go_simp
   try (refine hk hK ?_; clear hK K)
   refine r1 17 (fun K hK => ?_)
   go_simp
   refine (HSc.out _ HTd.out).mono ?_; rintro e w2 ⟨rfl, hb⟩
   have b2 := HBd.out.below hb HBd.out.lt
   have B2 := Lh hb
   have f1 := b2.frozen 1; have f2 := b2.frozen 2; have f3 := b2.frozen 3; have f4 := b2.frozen 4; have f5 := b2.frozen 5
   have d1 := b2.cell 1; have d2 := b2.cell 2; have d3 := b2.cell 3; have d4 := b2.cell 4; have d5 := b2.cell 5
   have HB2 := Lh b2
   clear b2 hb c0 c1 c2 c3 c4 c5 c6
   simp only [g0, gs] at d1 d2 d3 d4 d5
   go_wp2_with fail
   try (refine hk hK ?_; clear hK K)
   refine tg 18 (.pointer (some ⟨g, 0, none⟩)) ?_
   refine tg 19 (.pointer (some ⟨g, 1, none⟩)) ?_
   refine r1 20 (fun K hK => ?_)
   go_simp
   try (refine hk hK ?_; clear hK K)
   refine wpAny_done (by kernel_rfl) ?_ _
   try simp only [zp, zn, zu, zv, zw]
   exact bodyPost_end (v := .tuple #[]) (res_none rfl _ _) rfl ⟨rfl, HF.out _ _ HKd.out HB2.out B2.out⟩
end Go.Proofs.YtpbhgebblpdmnaaDoor
