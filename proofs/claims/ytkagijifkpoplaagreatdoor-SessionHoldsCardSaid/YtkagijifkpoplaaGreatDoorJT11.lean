/-
  Texts in one file. Conditions: the tables and the errors read as laid.
-/
import Derived.Shelf.Strings.SlTrimAscii
import Derived.Shelf.Small.Strs
import Derived.Shelf.Strconv.Atoi
import Derived.Shelf.Strconv.AtoiErr
import Derived.Shelf.LaysM
import Derived.Shelf.LaysC
import Derived.Shelf.Strconv.Itoa3
import Derived.Shelf.Strings.Repeat
import Derived.Ground.SlbCloneProg
import Derived.Shelf.Bytes.SlClone
import Derived.Test.YtkagijifkpoplaaGreatDoorProg
import Derived.Test.YtkagijifkpoplaaGreatDoorJT10
import Derived.Test.YtkagijifkpoplaaGreatDoorJT1
import Derived.Test.YtkagijifkpoplaaGreatDoorJT9
import Derived.Test.YtkagijifkpoplaaGreatDoorJT0
import Derived.Deep.MidRow
import Derived.Maps.AppendAt
import Derived.Laws.EntriesVeiled
set_option linter.unusedVariables false
set_option linter.unusedSimpArgs false
set_option maxRecDepth 40000
set_option maxHeartbeats 20000000
namespace Go.Proofs.YtkagijifkpoplaaGreatDoor
open Go.Shelf
def Tryz.lays161_ren : Go.Shelf.Ren := ⟨fun | 161 => 136 | 231 => 145 | 227 => 146 | 233 => 147 | 235 => 148 | 228 => 163 | 197 => 164 | 151 => 165 | 260 => 172 | 152 => 173 | 137 => 156 | 119 => 177 | 224 => 178 | 225 => 179 | 217 => 171 | 266 => 176 | n => n, fun | 9 => 9 | 4 => 4 | 3 => 3 | 5 => 5 | 117 => 232 | 116 => 231 | 0 => 0 | 124 => 235 | 105 => 244 | 21 => 21 | 119 => 253 | 46 => 99 | 139 => 256 | 138 => 255 | n => n, fun | 3 => 16 | 4 => 17 | n => n⟩
theorem Tryz.lays161 : Go.Proofs.Lays.n161 Tryz.prog Tryz.lays161_ren := {
 mixed := by kernel_rfl
 f119 := Tryz.func177.trans (congrArg some (by kernel_rfl))
 f137 := Tryz.func156.trans (congrArg some (by kernel_rfl))
 f151 := Tryz.func165.trans (congrArg some (by kernel_rfl))
 f152 := Tryz.func173.trans (congrArg some (by kernel_rfl))
 f161 := Tryz.func136.trans (congrArg some (by kernel_rfl))
 f197 := Tryz.func164.trans (congrArg some (by kernel_rfl))
 f217 := Tryz.func171.trans (congrArg some (by kernel_rfl))
 f224 := Tryz.func178.trans (congrArg some (by kernel_rfl))
 f225 := Tryz.func179.trans (congrArg some (by kernel_rfl))
 f227 := Tryz.func146.trans (congrArg some (by kernel_rfl))
 f228 := Tryz.func163.trans (congrArg some (by kernel_rfl))
 f231 := Tryz.func145.trans (congrArg some (by kernel_rfl))
 f233 := Tryz.func147.trans (congrArg some (by kernel_rfl))
 f235 := Tryz.func148.trans (congrArg some (by kernel_rfl))
 f260 := Tryz.func172.trans (congrArg some (by kernel_rfl))
 f266 := Tryz.func176.trans (congrArg some (by kernel_rfl))
 t0 := Tryz.underlying0
 a0 := Tryz.isAgg0
 z0 := Tryz.sizeOf0
 v0 := Tryz.zeroValue0
 t3 := Tryz.underlying3
 a3 := Tryz.isAgg3
 z3 := Tryz.sizeOf3
 v3 := Tryz.zeroValue3
 t4 := Tryz.underlying4
 a4 := Tryz.isAgg4
 z4 := Tryz.sizeOf4
 v4 := Tryz.zeroValue4
 t5 := Tryz.underlying5
 a5 := Tryz.isAgg5
 z5 := Tryz.sizeOf5
 v5 := Tryz.zeroValue5
 t9 := Tryz.underlying9
 a9 := Tryz.isAgg9
 z9 := Tryz.sizeOf9
 v9 := Tryz.zeroValue9
 t21 := Tryz.underlying21
 a21 := Tryz.isAgg21
 z21 := Tryz.sizeOf21
 v21 := Tryz.zeroValue21
 t46 := Tryz.underlying99
 a46 := Tryz.isAgg99
 z46 := Tryz.sizeOf99
 v46 := Tryz.zeroValue99
 t105 := Tryz.underlying244
 a105 := Tryz.isAgg244
 z105 := Tryz.sizeOf244
 v105 := Tryz.zeroValue244
 t116 := Tryz.underlying231
 a116 := Tryz.isAgg231
 z116 := Tryz.sizeOf231
 t117 := Tryz.underlying232
 a117 := Tryz.isAgg232
 z117 := Tryz.sizeOf232
 v117 := Tryz.zeroValue232
 t119 := Tryz.underlying253
 a119 := Tryz.isAgg253
 z119 := Tryz.sizeOf253
 t124 := Tryz.underlying235
 a124 := Tryz.isAgg235
 z124 := Tryz.sizeOf235
 v124 := Tryz.zeroValue235
 t138 := Tryz.underlying255
 a138 := Tryz.isAgg255
 z138 := Tryz.sizeOf255
 v138 := Tryz.zeroValue255
 t139 := Tryz.underlying256
 a139 := Tryz.isAgg256
 z139 := Tryz.sizeOf256
 v139 := Tryz.zeroValue256
 g3 := by kernel_rfl
 g4 := by kernel_rfl }
def Tryz.lays137_ren : Go.Shelf.Ren := ⟨fun | 137 => 156 | 217 => 171 | 266 => 176 | n => n, fun | 9 => 9 | 5 => 5 | 3 => 3 | n => n, fun | n => n⟩
theorem Tryz.lays137 : Go.Proofs.Lays.n137 Tryz.prog Tryz.lays137_ren := {
 mixed := by kernel_rfl
 f137 := Tryz.func156.trans (congrArg some (by kernel_rfl))
 f217 := Tryz.func171.trans (congrArg some (by kernel_rfl))
 f266 := Tryz.func176.trans (congrArg some (by kernel_rfl))
 t3 := Tryz.underlying3
 a3 := Tryz.isAgg3
 z3 := Tryz.sizeOf3
 v3 := Tryz.zeroValue3
 t5 := Tryz.underlying5
 a5 := Tryz.isAgg5
 z5 := Tryz.sizeOf5
 v5 := Tryz.zeroValue5
 t9 := Tryz.underlying9
 a9 := Tryz.isAgg9
 z9 := Tryz.sizeOf9
 v9 := Tryz.zeroValue9 }
def Tryz.laysM171_ren : Go.Shelf.Ren := ⟨fun | 171 => 109 | 243 => 126 | 246 => 137 | 283 => 149 | 284 => 150 | 285 => 151 | 286 => 152 | 129 => 167 | 317 => 166 | 318 => 168 | 319 => 169 | 320 => 170 | 337 => 174 | 338 => 175 | n => n, fun | 3 => 3 | 9 => 9 | 2 => 2 | 4 => 4 | 171 => 236 | 0 => 0 | 53 => 128 | 37 => 22 | 5 => 5 | 173 => 239 | 212 => 248 | 51 => 93 | 20 => 20 | 213 => 249 | 46 => 99 | 232 => 75 | 233 => 89 | n => n, fun | 17 => 14 | 18 => 18 | 19 => 19 | n => n⟩
theorem Tryz.laysM171 : Go.Proofs.LaysM.n171 Tryz.prog Tryz.laysM171_ren := {
 mixed := by kernel_rfl
 f129 := Tryz.func167.trans (congrArg some (by kernel_rfl))
 f171 := Tryz.func109.trans (congrArg some (by kernel_rfl))
 f243 := Tryz.func126.trans (congrArg some (by kernel_rfl))
 f246 := Tryz.func137.trans (congrArg some (by kernel_rfl))
 f283 := Tryz.func149.trans (congrArg some (by kernel_rfl))
 f284 := Tryz.func150.trans (congrArg some (by kernel_rfl))
 f285 := Tryz.func151.trans (congrArg some (by kernel_rfl))
 f286 := Tryz.func152.trans (congrArg some (by kernel_rfl))
 f317 := Tryz.func166.trans (congrArg some (by kernel_rfl))
 f318 := Tryz.func168.trans (congrArg some (by kernel_rfl))
 f319 := Tryz.func169.trans (congrArg some (by kernel_rfl))
 f320 := Tryz.func170.trans (congrArg some (by kernel_rfl))
 f337 := Tryz.func174.trans (congrArg some (by kernel_rfl))
 f338 := Tryz.func175.trans (congrArg some (by kernel_rfl))
 t0 := Tryz.underlying0
 a0 := Tryz.isAgg0
 z0 := Tryz.sizeOf0
 v0 := Tryz.zeroValue0
 t2 := Tryz.underlying2
 a2 := Tryz.isAgg2
 z2 := Tryz.sizeOf2
 v2 := Tryz.zeroValue2
 t3 := Tryz.underlying3
 a3 := Tryz.isAgg3
 z3 := Tryz.sizeOf3
 v3 := Tryz.zeroValue3
 t4 := Tryz.underlying4
 a4 := Tryz.isAgg4
 z4 := Tryz.sizeOf4
 v4 := Tryz.zeroValue4
 t5 := Tryz.underlying5
 a5 := Tryz.isAgg5
 z5 := Tryz.sizeOf5
 v5 := Tryz.zeroValue5
 t9 := Tryz.underlying9
 a9 := Tryz.isAgg9
 z9 := Tryz.sizeOf9
 v9 := Tryz.zeroValue9
 t20 := Tryz.underlying20
 a20 := Tryz.isAgg20
 z20 := Tryz.sizeOf20
 v20 := Tryz.zeroValue20
 t37 := Tryz.underlying22
 a37 := Tryz.isAgg22
 z37 := Tryz.sizeOf22
 v37 := Tryz.zeroValue22
 t46 := Tryz.underlying99
 a46 := Tryz.isAgg99
 z46 := Tryz.sizeOf99
 v46 := Tryz.zeroValue99
 t51 := Tryz.underlying93
 a51 := Tryz.isAgg93
 z51 := Tryz.sizeOf93
 v51 := Tryz.zeroValue93
 t53 := Tryz.underlying128
 a53 := Tryz.isAgg128
 z53 := Tryz.sizeOf128
 v53 := Tryz.zeroValue128
 t171 := Tryz.underlying236
 a171 := Tryz.isAgg236
 z171 := Tryz.sizeOf236
 v171 := Tryz.zeroValue236
 t173 := Tryz.underlying239
 a173 := Tryz.isAgg239
 z173 := Tryz.sizeOf239
 v173 := Tryz.zeroValue239
 t212 := Tryz.underlying248
 a212 := Tryz.isAgg248
 z212 := Tryz.sizeOf248
 v212 := Tryz.zeroValue248
 t213 := Tryz.underlying249
 a213 := Tryz.isAgg249
 z213 := Tryz.sizeOf249
 t232 := Tryz.underlying75
 a232 := Tryz.isAgg75
 z232 := Tryz.sizeOf75
 v232 := Tryz.zeroValue75
 t233 := Tryz.underlying89
 a233 := Tryz.isAgg89
 z233 := Tryz.sizeOf89
 v233 := Tryz.zeroValue89
 g17 := by kernel_rfl
 g18 := by kernel_rfl
 g19 := by kernel_rfl
 i0 := by kernel_rfl
 i2 := by kernel_rfl
 i3 := by kernel_rfl
 i4 := by kernel_rfl
 i5 := by kernel_rfl
 i9 := by kernel_rfl
 i20 := by kernel_rfl
 i37 := by kernel_rfl
 i46 := by kernel_rfl
 i51 := by kernel_rfl
 i53 := by kernel_rfl
 i171 := by kernel_rfl
 i173 := by kernel_rfl
 i212 := by kernel_rfl
 i232 := by kernel_rfl
 i233 := by kernel_rfl
 m17 := by kernel_rfl
 m18 := by kernel_rfl
 m19 := by kernel_rfl }
def Tryz.lays171_ren : Go.Shelf.Ren := ⟨fun | 171 => 109 | 243 => 126 | 246 => 137 | 283 => 149 | 284 => 150 | 285 => 151 | 286 => 152 | 129 => 167 | 317 => 166 | 318 => 168 | 319 => 169 | 320 => 170 | 337 => 174 | 338 => 175 | n => n, fun | 3 => 3 | 9 => 9 | 2 => 2 | 4 => 4 | 171 => 236 | 0 => 0 | 53 => 128 | 37 => 22 | 5 => 5 | 173 => 239 | 212 => 248 | 51 => 93 | 20 => 20 | 213 => 249 | 46 => 99 | 232 => 75 | 233 => 89 | n => n, fun | 17 => 14 | 18 => 18 | 19 => 19 | n => n⟩
theorem Tryz.lays171 : Go.Proofs.Lays.n171 Tryz.prog Tryz.lays171_ren := {
 mixed := by kernel_rfl
 f129 := Tryz.func167.trans (congrArg some (by kernel_rfl))
 f171 := Tryz.func109.trans (congrArg some (by kernel_rfl))
 f243 := Tryz.func126.trans (congrArg some (by kernel_rfl))
 f246 := Tryz.func137.trans (congrArg some (by kernel_rfl))
 f283 := Tryz.func149.trans (congrArg some (by kernel_rfl))
 f284 := Tryz.func150.trans (congrArg some (by kernel_rfl))
 f285 := Tryz.func151.trans (congrArg some (by kernel_rfl))
 f286 := Tryz.func152.trans (congrArg some (by kernel_rfl))
 f317 := Tryz.func166.trans (congrArg some (by kernel_rfl))
 f318 := Tryz.func168.trans (congrArg some (by kernel_rfl))
 f319 := Tryz.func169.trans (congrArg some (by kernel_rfl))
 f320 := Tryz.func170.trans (congrArg some (by kernel_rfl))
 f337 := Tryz.func174.trans (congrArg some (by kernel_rfl))
 f338 := Tryz.func175.trans (congrArg some (by kernel_rfl))
 t0 := Tryz.underlying0
 a0 := Tryz.isAgg0
 z0 := Tryz.sizeOf0
 v0 := Tryz.zeroValue0
 t2 := Tryz.underlying2
 a2 := Tryz.isAgg2
 z2 := Tryz.sizeOf2
 v2 := Tryz.zeroValue2
 t3 := Tryz.underlying3
 a3 := Tryz.isAgg3
 z3 := Tryz.sizeOf3
 v3 := Tryz.zeroValue3
 t4 := Tryz.underlying4
 a4 := Tryz.isAgg4
 z4 := Tryz.sizeOf4
 v4 := Tryz.zeroValue4
 t5 := Tryz.underlying5
 a5 := Tryz.isAgg5
 z5 := Tryz.sizeOf5
 v5 := Tryz.zeroValue5
 t9 := Tryz.underlying9
 a9 := Tryz.isAgg9
 z9 := Tryz.sizeOf9
 v9 := Tryz.zeroValue9
 t20 := Tryz.underlying20
 a20 := Tryz.isAgg20
 z20 := Tryz.sizeOf20
 v20 := Tryz.zeroValue20
 t37 := Tryz.underlying22
 a37 := Tryz.isAgg22
 z37 := Tryz.sizeOf22
 v37 := Tryz.zeroValue22
 t46 := Tryz.underlying99
 a46 := Tryz.isAgg99
 z46 := Tryz.sizeOf99
 v46 := Tryz.zeroValue99
 t51 := Tryz.underlying93
 a51 := Tryz.isAgg93
 z51 := Tryz.sizeOf93
 v51 := Tryz.zeroValue93
 t53 := Tryz.underlying128
 a53 := Tryz.isAgg128
 z53 := Tryz.sizeOf128
 v53 := Tryz.zeroValue128
 t171 := Tryz.underlying236
 a171 := Tryz.isAgg236
 z171 := Tryz.sizeOf236
 v171 := Tryz.zeroValue236
 t173 := Tryz.underlying239
 a173 := Tryz.isAgg239
 z173 := Tryz.sizeOf239
 v173 := Tryz.zeroValue239
 t212 := Tryz.underlying248
 a212 := Tryz.isAgg248
 z212 := Tryz.sizeOf248
 v212 := Tryz.zeroValue248
 t213 := Tryz.underlying249
 a213 := Tryz.isAgg249
 z213 := Tryz.sizeOf249
 t232 := Tryz.underlying75
 a232 := Tryz.isAgg75
 z232 := Tryz.sizeOf75
 v232 := Tryz.zeroValue75
 t233 := Tryz.underlying89
 a233 := Tryz.isAgg89
 z233 := Tryz.sizeOf89
 v233 := Tryz.zeroValue89
 g17 := by kernel_rfl
 g18 := by kernel_rfl
 g19 := by kernel_rfl }
def Tryz.lays105_ren : Go.Shelf.Ren := ⟨fun | 105 => 110 | 212 => 127 | 99 => 128 | 165 => 129 | 166 => 130 | 170 => 131 | 169 => 132 | 263 => 138 | 264 => 139 | 206 => 117 | 240 => 140 | 241 => 141 | 276 => 153 | 277 => 154 | n => n, fun | 9 => 9 | 3 => 3 | 4 => 4 | 20 => 20 | 0 => 0 | 46 => 99 | 109 => 201 | 5 => 5 | 72 => 205 | 76 => 207 | 51 => 93 | 146 => 222 | 53 => 128 | 148 => 224 | 70 => 203 | 37 => 22 | 75 => 83 | 127 => 226 | 164 => 148 | 80 => 210 | n => n, fun | n => n⟩
theorem Tryz.lays105 : Go.Proofs.Lays.n105 Tryz.prog Tryz.lays105_ren := {
 mixed := by kernel_rfl
 f99 := Tryz.func128.trans (congrArg some (by kernel_rfl))
 f105 := Tryz.func110.trans (congrArg some (by kernel_rfl))
 f165 := Tryz.func129.trans (congrArg some (by kernel_rfl))
 f166 := Tryz.func130.trans (congrArg some (by kernel_rfl))
 f169 := Tryz.func132.trans (congrArg some (by kernel_rfl))
 f170 := Tryz.func131.trans (congrArg some (by kernel_rfl))
 f206 := Tryz.func117.trans (congrArg some (by kernel_rfl))
 f212 := Tryz.func127.trans (congrArg some (by kernel_rfl))
 f240 := Tryz.func140.trans (congrArg some (by kernel_rfl))
 f241 := Tryz.func141.trans (congrArg some (by kernel_rfl))
 f263 := Tryz.func138.trans (congrArg some (by kernel_rfl))
 f264 := Tryz.func139.trans (congrArg some (by kernel_rfl))
 f276 := Tryz.func153.trans (congrArg some (by kernel_rfl))
 f277 := Tryz.func154.trans (congrArg some (by kernel_rfl))
 t0 := Tryz.underlying0
 a0 := Tryz.isAgg0
 z0 := Tryz.sizeOf0
 v0 := Tryz.zeroValue0
 t3 := Tryz.underlying3
 a3 := Tryz.isAgg3
 z3 := Tryz.sizeOf3
 v3 := Tryz.zeroValue3
 t4 := Tryz.underlying4
 a4 := Tryz.isAgg4
 z4 := Tryz.sizeOf4
 v4 := Tryz.zeroValue4
 t5 := Tryz.underlying5
 a5 := Tryz.isAgg5
 z5 := Tryz.sizeOf5
 v5 := Tryz.zeroValue5
 t9 := Tryz.underlying9
 a9 := Tryz.isAgg9
 z9 := Tryz.sizeOf9
 v9 := Tryz.zeroValue9
 t20 := Tryz.underlying20
 a20 := Tryz.isAgg20
 z20 := Tryz.sizeOf20
 v20 := Tryz.zeroValue20
 t37 := Tryz.underlying22
 a37 := Tryz.isAgg22
 z37 := Tryz.sizeOf22
 v37 := Tryz.zeroValue22
 t46 := Tryz.underlying99
 a46 := Tryz.isAgg99
 z46 := Tryz.sizeOf99
 v46 := Tryz.zeroValue99
 t51 := Tryz.underlying93
 a51 := Tryz.isAgg93
 z51 := Tryz.sizeOf93
 v51 := Tryz.zeroValue93
 t53 := Tryz.underlying128
 a53 := Tryz.isAgg128
 z53 := Tryz.sizeOf128
 v53 := Tryz.zeroValue128
 t70 := Tryz.underlying203
 a70 := Tryz.isAgg203
 z70 := Tryz.sizeOf203
 v70 := Tryz.zeroValue203
 t72 := Tryz.underlying205
 a72 := Tryz.isAgg205
 z72 := Tryz.sizeOf205
 v72 := Tryz.zeroValue205
 t75 := Tryz.underlying83
 a75 := Tryz.isAgg83
 z75 := Tryz.sizeOf83
 v75 := Tryz.zeroValue83
 t76 := Tryz.underlying207
 a76 := Tryz.isAgg207
 z76 := Tryz.sizeOf207
 v76 := Tryz.zeroValue207
 t109 := Tryz.underlying201
 a109 := Tryz.isAgg201
 z109 := Tryz.sizeOf201
 v109 := Tryz.zeroValue201
 t127 := Tryz.underlying226
 a127 := Tryz.isAgg226
 z127 := Tryz.sizeOf226
 v127 := Tryz.zeroValue226
 t146 := Tryz.underlying222
 a146 := Tryz.isAgg222
 z146 := Tryz.sizeOf222
 v146 := Tryz.zeroValue222
 t148 := Tryz.underlying224
 a148 := Tryz.isAgg224
 z148 := Tryz.sizeOf224
 v148 := Tryz.zeroValue224
 t164 := Tryz.underlying148
 a164 := Tryz.isAgg148
 z164 := Tryz.sizeOf148
 v164 := Tryz.zeroValue148 }
theorem Tryz.Builder_Extra_105 : Builder.Extra Tryz.prog Tryz.lays105_ren := {
 sizeBuilder := by kernel_rfl
 liesBuilder := by kernel_rfl
 t5 := Tryz.underlying5
 a5 := Tryz.isAgg5
 z5 := Tryz.sizeOf5
 v5 := Tryz.zeroValue5
 infoByte := by kernel_rfl
 cellsByte := by kernel_rfl
 sizeByte := by kernel_rfl
 neB5 := by decide }
def Tryz.laysSlK4_ren : Go.Shelf.Ren := ⟨fun | 4 => 113 | n => n, fun | 22 => 22 | 4 => 4 | 5 => 5 | n => n, fun | n => n⟩
theorem Tryz.laysSlK4 : Go.Proofs.SlLaysK.n4 Tryz.prog Tryz.laysSlK4_ren := {
 mixed := by kernel_rfl
 f4 := Tryz.func113.trans (congrArg some (by kernel_rfl))
 t4 := Tryz.underlying4
 a4 := Tryz.isAgg4
 z4 := Tryz.sizeOf4
 v4 := Tryz.zeroValue4
 t22 := Tryz.underlying22
 a22 := Tryz.isAgg22
 z22 := Tryz.sizeOf22
 v22 := Tryz.zeroValue22
 t5 := Tryz.underlying5
 i5 := by kernel_rfl }
open Go.RowKit
open Fdd
def ascii (l : List UInt8) : Prop := ∀ (j : Nat) b, l[j]? = some b → b.toNat < 128
theorem trim_only : ∀ (l cs : List UInt8), (Lib.trimLeftS l cs == []) = onlyOf l cs
 | [], cs => rfl
 | a :: l, cs => by
   unfold Lib.trimLeftS onlyOf
   rw [List.dropWhile_cons, List.all_cons]
   by_cases h : cs.contains a
   ·have ih := trim_only l cs
    unfold Lib.trimLeftS onlyOf at ih
    rw [if_pos h, h, ih, Bool.true_and]
   ·rw [if_neg h]
    simp only [Bool.not_eq_true] at h
    rw [h]
    simp
theorem only_walk (l cs : List UInt8) (hc : cs.length < 100) (ha : ascii cs) (w : World) :
 Calls Tryz.prog 125 #[strV l, strV cs] w fun e w' => e = .returned (.bool (onlyOf l cs)) ∧ Turn nowhere w w' := by
 go_enter Tryz.func125, Tryz.ntmps125
 go_wp2_with (go_at_call 136; refine (Any.strings_TrimLeft_laid Tryz.lays161 (by kernel_rfl) ⟨l.toArray⟩ ⟨cs.toArray⟩ _ (by rw [str_size]; omega) ha).mono ?_; rintro e w1 ⟨rfl, hb⟩)
 go_ret
 refine ⟨ret_bool ?_, Turn.of_below hb (Nat.le_refl _)⟩
 rw [← trim_only]
 cases Lib.trimLeftS l cs <;> rfl
def fmV (f : Fm) : Value := .agg #[.int .i64 f.kind, .int .i64 f.size, .int .i64 f.code]
def fmC (f : Fm) : Array Value := #[.int .i64 f.kind, .int .i64 f.size, .int .i64 f.code]
theorem mayBe_walk (f : Fm) (w : World) :
 Calls Tryz.prog 107 #[fmV f] w fun e w' => e = .returned (.bool f.may) ∧ Turn nowhere w w' := by
 obtain ⟨k, s, c⟩ := f
 unfold fmV
 go_enter Tryz.func107, Tryz.ntmps107
 go_wp2
 all_goals (try go_ret)
 all_goals
  refine ⟨ret_bool ?_, (Turn.refl _ w).alloc _⟩
  simp only [beq_iff_eq, beq_eq_false_iff_ne, ne_eq] at *
  rw [Bool.eq_iff_iff]
  simp only [Fm.may, Bool.and_eq_true, decide_eq_true_eq, Bool.false_eq_true]
  refine ⟨fun h => ?_, fun h => ?_⟩ <;> (try dsimp only at h ⊢) <;> omega
theorem dbl (n : Nat) (h : n ≤ 64) : IntKind.i64.wrap (2 * (n : Int)) = ((2 * n : Nat) : Int) := by
 rw [IntKind.wrap_i64]
 omega
def rowV (r : Rw) : List Value := [strV r.d, strV r.h, strV r.s, strV r.m]
def RowsT (w : World) : Prop := ∀ k, k < 4 → w.rangeAt 13 (k * 4) (rowV (rws k))
theorem RowsT.turn {w w' : World} (h : RowsT w) (ht : Turn nowhere w w') : RowsT w' := fun k hk j v hv => by
 have := h k hk j v hv
 rw [ht.cell (World.block_lt_of_cell? _ _ this) (fun e => e)]
 exact this
def ptC (p : Pt) : List Value := [.int .i64 (p.n : Int), strV p.chars, strV p.stands]
def ptsC (ps : List Pt) : List Value := ps.flatMap ptC
def PtsAt (w : World) (g : Nat) (ps : List Pt) : Prop := ∃ cs, Blk w g 200 cs ∧ ∀ i p, ps[i]? = some p → ∀ j v, (ptC p)[j]? = some v → cs[i * 3 + j]? = some v
theorem PtsAt.turn {F : Nat → Prop} {w w' : World} {g : Nat} {ps : List Pt} (h : PtsAt w g ps) (ht : Turn F w w') (hn : ¬ F g) : PtsAt w' g ps := by
 obtain ⟨cs, h1, h2⟩ := h
 exact ⟨cs, h1.turn ht hn, h2⟩
theorem PtsAt.range {w : World} {g : Nat} {ps : List Pt} (h : PtsAt w g ps) {i : Nat} {p : Pt} (hp : ps[i]? = some p) : w.rangeAt g (i * 3) (ptC p) := by
 obtain ⟨cs, h1, h2⟩ := h
 intro j v hv
 exact (h1.cell _).trans (h2 i p hp j v hv)
theorem info_part : (Tryz.prog.info? 200).map (fun i => (i.zero, i.size, i.bytes)) = some (some (.agg #[.int .i64 0, .string ByteArray.empty, .string ByteArray.empty]), 3, 40) := by kernel_rfl
theorem build_part (z : Int) (a b : ByteArray) (W : World) : (Instr.build 200 #[(0, .int .i64 z), (1, .string a), (2, .string b)]).run Tryz.prog W = .ok (.agg #[.int .i64 z, .string a, .string b]) W := by kernel_rfl
theorem exec_build3 {P : Program} {a : Act} {o : Oper} {t : TypeId} {x y z : Operand} {u v q r : Value} {W : World} (ho : o.op = .build t #[(0, x), (1, y), (2, z)]) (hx : a.eval x = u) (hy : a.eval y = v) (hz : a.eval z = q)
 (h : (Instr.build t #[(0, u), (1, v), (2, q)]).run P W = .ok r W) : (execOp a.eval o).run P W = .ok (.value r) W := by
 unfold execOp
 simp only [ho, List.map_toArray, List.map_cons, List.map_nil, hx, hy, hz, h, Sem.run_bind, Sem.run_pure, Result.andThen_ok]
theorem add_part {W1 w : World} {v : Value} {n : Nat} {xs : List Value} (hown : w.ownsRow W1.heap.size 200 3 v n xs) (hT : Turn nowhere W1 w) (hn : n < 10) (p : Pt) :
 ∃ v' w', (Builtin.append_ #[175, 175] 175 #[v, .slice (some ⟨w.heap.size, 0, none⟩) 1 1]).run Tryz.prog (w.alloc (.cells (ptC p).toArray 200)) = .ok v' w' ∧
  w'.ownsRow W1.heap.size 200 3 v' (n + 1) (xs ++ ptC p) ∧ Turn nowhere W1 w' := by
 obtain ⟨i0, hi0, hz0, hz1, hz2⟩ := info_parts info_part
 obtain ⟨v', w', h1, h2, h3, _, _⟩ := run_append_own_at (P := Tryz.prog) (w.alloc (.cells (ptC p).toArray 200)) W1.heap.size 175 175 200 i0 _ 3 40 Tryz.underlying175 hi0 hz0 hz1 hz2
  rfl (by omega) v n xs (hown.alloc _) ⟨w.heap.size, 0, none⟩ 1 1 (ptC p) rfl (fun j u hj => by
   rw [add_nat, Nat.zero_add, (Blk.new w 200 (ptC p).toArray).cell j]
   simpa using hj) (by simp [ptC, strV, Value.oneCell']) (by unfold maxLen; omega) (by omega) (by have := hT.size; simp; omega)
 refine ⟨v', w', h1, h2, (hT.alloc _).grown h3 fun b e hb => ?_⟩
 have := (hown.lt b e).1
 omega
theorem own_pts {w : World} {B n : Nat} {v : Value} {ps : List Pt} (h : w.ownsRow B 200 3 v n (ptsC ps)) (hn : ps.length = n) (h0 : 0 < n) : ∃ g c, v = .slice (some ⟨g, 0, none⟩) n c ∧ PtsAt w g ps := by
 obtain ⟨hlt, h2⟩ := id h
 rcases h2 with ⟨e, h0'⟩ | ⟨g, cap, cur, rfl, hb, hg, _⟩
 ·omega
 ·refine ⟨g, cap, rfl, cur, hg, fun i p hp j v hv => ?_⟩
  have hc := World.ownsRow.cells (g := g) h rfl (i * 3 + j) v (by
   have key : ∀ (ps : List Pt) (i : Nat) (p : Pt) (j : Nat) (v : Value), ps[i]? = some p → (ptC p)[j]? = some v → (ptsC ps)[i * 3 + j]? = some v := by
    intro ps
    induction ps with
    | nil => intro i p j v h _; simp at h
    | cons q r ih =>
      intro i p j v h hj
      have hj3 : j < 3 := by
       have := (List.getElem?_eq_some_iff.1 hj).1
       simpa [ptC] using this
      unfold ptsC
      rw [List.flatMap_cons]
      cases i with
      | zero =>
        simp only [List.getElem?_cons_zero, Option.some.injEq] at h
        subst h
        rw [List.getElem?_append_left (by simp [ptC]; omega)]
        simpa using hj
      | succ i =>
        rw [List.getElem?_append_right (by simp [ptC]; omega)]
        have e : (i + 1) * 3 + j - (ptC q).length = i * 3 + j := by simp [ptC]; omega
        rw [e]
        exact ih i p j v (by simpa using h) hj
   exact key ps i p j v hp hv)
  rw [add_nat, Nat.zero_add] at hc
  exact ((Blk.cell (show Blk w g 200 cur from hg) (i * 3 + j)).symm.trans hc)
theorem own_form {w : World} {B : Nat} {e : TypeId} {sz n : Nat} {v : Value} {xs : List Value} (h : w.ownsRow B e sz v n xs) : ∃ A c, v = .slice A n c := by
 rcases h.2 with ⟨rfl, h0⟩ | ⟨g, cap, cur, rfl, _⟩
 ·subst h0
  exact ⟨none, 0, rfl⟩
 ·exact ⟨_, _, rfl⟩
theorem exec_alloc {P : Program} {a : Act} {o : Oper} {t : TypeId} {cs : Array Value} {W : World} (ho : o.op = .alloc t) (hz : (zeroValue t).run P W = .ok (.agg cs) W) :
 (execOp a.eval o).run P W = .ok (.value (.pointer (some ⟨W.heap.size, 0, none⟩))) (W.alloc (.cells cs t)) := by
 unfold execOp
 simp only [ho]
 simp [hz, Instr.alloc, Result.andThen, newVar, newRow, Value.cells]
theorem zero_row (w : World) : (zeroValue 219).run Tryz.prog w = .ok (.agg #[.string ByteArray.empty, .string ByteArray.empty, .string ByteArray.empty, .string ByteArray.empty]) w := by kernel_rfl
theorem size_row : (Tryz.prog.info? 219).map (·.size) = some 4 := by kernel_rfl
theorem parts_walk (k : Int) (s : Int) (c n : Nat) (w : World) (hk : 1 ≤ k ∧ k ≤ 5) (hc : c < 4) (hn : n ≤ 64) (hr : RowsT w) :
 Calls Tryz.prog 116 #[fmV ⟨k, s, (c : Int)⟩, .int .i64 (n : Int)] w fun e w' => ∃ g cap, e = .returned (.slice (some ⟨g, 0, none⟩) (ptsOf k (c : Int) n).length cap) ∧ PtsAt w' g (ptsOf k (c : Int) n) ∧ Turn nowhere w w' := by
 unfold fmV
 obtain ⟨i0, hi0, hz0, hz1, hz2⟩ := info_parts info_part
 go_enter Tryz.func116, Tryz.ntmps116
 go_upto_region 1 with fail
 have hb0 := Blk.new w 105 #[.int .i64 k, .int .i64 s, .int .i64 (c : Int)]
 have ht0 := (Turn.refl nowhere w).alloc (.cells #[.int .i64 k, .int .i64 s, .int .i64 (c : Int)] 105)
 generalize (w.alloc (.cells #[.int .i64 k, .int .i64 s, .int .i64 (c : Int)] 105)) = w0 at *
 obtain ⟨b2, hb2⟩ : ∃ b2, b2 = w.heap.size := ⟨_, rfl⟩
 rw [← hb2] at hb0 ⊢
 have hrow := (hr.turn ht0) c hc
 have HN := zH hn
 have hc2 : (c : Int) < 4 := by omega
 have hc3 : (0 : Int) ≤ (c : Int) := by omega
 refine wp_region_lit ?_
 refine wS (.pointer (some ⟨b2, 2, none⟩)) (xF 0 2) ?_;simp only [zz];refine wS (.int .i64 (c : Int)) (xL (hb0.cell 2)) ?_;simp only [zz]
 refine wR (v := .pointer (some ⟨13, c * 4, none⟩)) (w' := w0) rfl (by go_simp <;> (first | omega | (intro h; omega))) ?_
 simp only [zz];refine wS (.agg (rowV (rws c)).toArray) (exec_load rfl rfl (run_loadAt_mid w0 _ _ 219 (rowV (rws c)) _ hrow Tryz.underlying219 rfl (by rw [size_row]; rfl))) ?_;simp only [zz];refine wS _ (exec_alloc rfl (zero_row _)) ?_;simp only [zz]
 have hq := Blk.new w0 219 #[.string ByteArray.empty, .string ByteArray.empty, .string ByteArray.empty, .string ByteArray.empty]
 have hb4 := hb0.alloc (.cells #[.string ByteArray.empty, .string ByteArray.empty, .string ByteArray.empty, .string ByteArray.empty] 219)
 have ht4 := ht0.alloc (.cells #[.string ByteArray.empty, .string ByteArray.empty, .string ByteArray.empty, .string ByteArray.empty] 219)
 have hlt := hb0.lt
 have hle := ht0.size
 generalize (w0.alloc (.cells #[.string ByteArray.empty, .string ByteArray.empty, .string ByteArray.empty, .string ByteArray.empty] 219)) = w4 at *
 generalize w0.heap.size = b5 at *
 refine wpList_store_row rfl 219 (.tmp 5) (.tmp 10) rfl (rowV (rws c)).toArray hq rfl rfl rfl size_row (by simp [rowV, strV, Value.oneCell']) ?_
 intro w5 hq5 ht5
 have hb5 := hb4.turn ht5 (fun e => by have h2 : b2 = b5 := e; omega)
 have HT5 := zH (show Turn nowhere w w5 from ht4.trans ht5 (fun j hj e => by have h2 : j = b5 := e; omega))
 have HB5 := zH hq5
 clear hq hb4 ht4 ht5 hb0 ht0 hrow hr hlt hle hb2
 simp only [Act.put]
 have c20 : w5.cell? ⟨b2, 0, none⟩ = some (.int .i64 k) := hb5.cell 0
 clear hb5
 have hnil : w5.ownsRow w5.heap.size 200 3 (.slice none 0 0) 0 [] := World.ownsRow_nil w5 _ _ _
 have hck : k = 1 ∨ k = 2 ∨ k = 3 ∨ k = 4 ∨ k = 5 := by omega
 clear hk hn
 rcases hck with rfl | rfl | rfl | rfl | rfl
 ·go_upto_region 12 with fail
  refine wp_region_lit ?_
  refine wM (.slice none 0 0) ?_;simp only [zz];refine wM (.int .i64 (n : Int)) ?_;simp only [zz];refine wS (.pointer (some ⟨b5, 0, none⟩)) (xF 0 0) ?_;simp only [zz];refine wS (strV (rws c).d) (xL (HB5.out.cell 0)) ?_;simp only [zz]
  obtain ⟨v6, w6, hrun6, hown6, ht6⟩ := add_part hnil (Turn.refl nowhere w5) (by omega) ⟨n, dec, (rws c).d⟩
  refine wS (.agg (ptC ⟨n, dec, (rws c).d⟩).toArray) (exec_build3 rfl rfl rfl rfl (build_part _ _ _ _)) ?_;simp only [zz];refine wS _ (exec_buildSlice1 rfl rfl (run_buildSlice_one (v := .agg (ptC ⟨n, dec, (rws c).d⟩).toArray) Tryz.underlying175 hi0 hz0 (by rw [hz1]; rfl) (by rw [hz1]; rfl) (by omega) (by omega) _)) ?_;simp only [zz]
  refine wR (v := v6) (w' := w6) rfl (exec_append rfl rfl rfl hrun6) ?_
  simp only [zz]
  obtain ⟨g, cap, rfl, hp⟩ := own_pts (ps := [⟨n, dec, (rws c).d⟩]) hown6 rfl (by omega)
  have HPP := zH hp
  have HT6 := zH (HT5.out.next ht6)
  clear hnil hrun6 hown6 ht6 hp
  go_wp2_with fail
  go_ret
  exact ⟨g, cap, rfl, HPP.out, HT6.out⟩
 ·go_upto_region 12 with fail
  refine wp_region_lit ?_
  refine wM (.slice none 0 0) ?_;simp only [zz];refine wM (.int .i64 (n : Int)) ?_;simp only [zz];refine wS (.pointer (some ⟨b5, 0, none⟩)) (xF 0 0) ?_;simp only [zz];refine wS (strV (rws c).d) (xL (HB5.out.cell 0)) ?_;simp only [zz]
  obtain ⟨v6, w6, hrun6, hown6, ht6⟩ := add_part hnil (Turn.refl nowhere w5) (by omega) ⟨n, dec, (rws c).d⟩
  refine wS (.agg (ptC ⟨n, dec, (rws c).d⟩).toArray) (exec_build3 rfl rfl rfl rfl (build_part _ _ _ _)) ?_;simp only [zz];refine wS _ (exec_buildSlice1 rfl rfl (run_buildSlice_one (v := .agg (ptC ⟨n, dec, (rws c).d⟩).toArray) Tryz.underlying175 hi0 hz0 (by rw [hz1]; rfl) (by rw [hz1]; rfl) (by omega) (by omega) _)) ?_;simp only [zz]
  refine wR (v := v6) (w' := w6) rfl (exec_append rfl rfl rfl hrun6) ?_
  simp only [zz]
  obtain ⟨g, cap, rfl, hp⟩ := own_pts (ps := [⟨n, dec, (rws c).d⟩]) hown6 rfl (by omega)
  have HPP := zH hp
  have HT6 := zH (HT5.out.next ht6)
  clear hnil hrun6 hown6 ht6 hp
  go_wp2_with fail
  go_ret
  exact ⟨g, cap, rfl, HPP.out, HT6.out⟩
 ·go_upto_region 9 with fail
  refine wp_region_lit ?_
  refine wM (.slice none 0 0) ?_;simp only [zz];refine wM (.int .i64 (n : Int)) ?_;simp only [zz];refine wS (.pointer (some ⟨b5, 2, none⟩)) (xF 0 2) ?_;simp only [zz];refine wS (strV (rws c).s) (xL (HB5.out.cell 2)) ?_;simp only [zz]
  obtain ⟨v6, w6, hrun6, hown6, ht6⟩ := add_part hnil (Turn.refl nowhere w5) (by omega) ⟨n, sgn, (rws c).s⟩
  refine wS (.agg (ptC ⟨n, sgn, (rws c).s⟩).toArray) (exec_build3 rfl rfl rfl rfl (build_part _ _ _ _)) ?_;simp only [zz];refine wS _ (exec_buildSlice1 rfl rfl (run_buildSlice_one (v := .agg (ptC ⟨n, sgn, (rws c).s⟩).toArray) Tryz.underlying175 hi0 hz0 (by rw [hz1]; rfl) (by rw [hz1]; rfl) (by omega) (by omega) _)) ?_;simp only [zz]
  refine wR (v := v6) (w' := w6) rfl (exec_append rfl rfl rfl hrun6) ?_
  simp only [zz]
  obtain ⟨g, cap, rfl, hp⟩ := own_pts (ps := [⟨n, sgn, (rws c).s⟩]) hown6 rfl (by omega)
  have HPP := zH hp
  have HT6 := zH (HT5.out.next ht6)
  clear hnil hrun6 hown6 ht6 hp
  go_wp2_with fail
  go_ret
  exact ⟨g, cap, rfl, HPP.out, HT6.out⟩
 ·go_upto_region 10 with fail
  refine wp_region_lit ?_
  refine wM (.slice none 0 0) ?_;simp only [zz];refine wM (.int .i64 (n : Int)) ?_;simp only [zz]
  refine wR (v := .int .i64 ((2 * n : Nat) : Int)) (w' := w5) rfl (by go_simp; exact dbl n HN.out) ?_
  simp only [zz];refine wS (.pointer (some ⟨b5, 1, none⟩)) (xF 0 1) ?_;simp only [zz];refine wS (strV (rws c).h) (xL (HB5.out.cell 1)) ?_;simp only [zz]
  obtain ⟨v6, w6, hrun6, hown6, ht6⟩ := add_part hnil (Turn.refl nowhere w5) (by omega) ⟨2 * n, hexs, (rws c).h⟩
  refine wS (.agg (ptC ⟨2 * n, hexs, (rws c).h⟩).toArray) (exec_build3 rfl rfl rfl rfl (build_part _ _ _ _)) ?_;simp only [zz];refine wS _ (exec_buildSlice1 rfl rfl (run_buildSlice_one (v := .agg (ptC ⟨2 * n, hexs, (rws c).h⟩).toArray) Tryz.underlying175 hi0 hz0 (by rw [hz1]; rfl) (by rw [hz1]; rfl) (by omega) (by omega) _)) ?_;simp only [zz]
  refine wR (v := v6) (w' := w6) rfl (exec_append rfl rfl rfl hrun6) ?_
  simp only [zz]
  obtain ⟨g, cap, rfl, hp⟩ := own_pts (ps := [⟨2 * n, hexs, (rws c).h⟩]) hown6 rfl (by omega)
  have HPP := zH hp
  have HT6 := zH (HT5.out.next ht6)
  clear hnil hrun6 hown6 ht6 hp
  go_wp2_with fail
  go_ret
  exact ⟨g, cap, rfl, HPP.out, HT6.out⟩
 ·go_upto_region 11 with fail
  refine wp_region_lit ?_
  refine wM (.slice none 0 0) ?_;simp only [zz];refine wS (.pointer (some ⟨b5, 3, none⟩)) (xF 0 3) ?_;simp only [zz];refine wS (strV (rws c).m) (xL (HB5.out.cell 3)) ?_;simp only [zz]
  obtain ⟨v6, w6, hrun6, hown6, ht6⟩ := add_part hnil (Turn.refl nowhere w5) (by omega) ⟨1, mk, (rws c).m⟩
  refine wS (.agg (ptC ⟨1, mk, (rws c).m⟩).toArray) (exec_build3 rfl rfl rfl rfl (build_part _ _ _ _)) ?_;simp only [zz];refine wS _ (exec_buildSlice1 rfl rfl (run_buildSlice_one (v := .agg (ptC ⟨1, mk, (rws c).m⟩).toArray) Tryz.underlying175 hi0 hz0 (by rw [hz1]; rfl) (by rw [hz1]; rfl) (by omega) (by omega) _)) ?_;simp only [zz]
  refine wR (v := v6) (w' := w6) rfl (exec_append rfl rfl rfl hrun6) ?_
  simp only [zz]
  obtain ⟨A6, c6, rfl⟩ := own_form hown6
  have HB5' := zH (HB5.out.turn ht6 (fun e => e))
  have HO6 := zH hown6
  have HT6' := zH ht6
  clear hnil hrun6 hown6 ht6
  go_upto_region 12 with fail
  refine wp_region_lit ?_
  refine wM (.slice A6 1 c6) ?_;simp only [zz];refine wM (.int .i64 (n : Int)) ?_;simp only [zz];refine wS (.pointer (some ⟨b5, 0, none⟩)) (xF 0 0) ?_;simp only [zz];refine wS (strV (rws c).d) (xL (HB5'.out.cell 0)) ?_;simp only [zz]
  obtain ⟨v7, w7, hrun7, hown7, ht7⟩ := add_part HO6.out HT6'.out (by omega) ⟨n, dec, (rws c).d⟩
  refine wS (.agg (ptC ⟨n, dec, (rws c).d⟩).toArray) (exec_build3 rfl rfl rfl rfl (build_part _ _ _ _)) ?_;simp only [zz];refine wS _ (exec_buildSlice1 rfl rfl (run_buildSlice_one (v := .agg (ptC ⟨n, dec, (rws c).d⟩).toArray) Tryz.underlying175 hi0 hz0 (by rw [hz1]; rfl) (by rw [hz1]; rfl) (by omega) (by omega) _)) ?_;simp only [zz]
  refine wR (v := v7) (w' := w7) rfl (exec_append rfl rfl rfl hrun7) ?_
  simp only [zz]
  obtain ⟨g, cap, rfl, hp⟩ := own_pts (ps := [⟨1, mk, (rws c).m⟩, ⟨n, dec, (rws c).d⟩]) hown7 rfl (by omega)
  have HPP := zH hp
  have HT6 := zH (HT5.out.next ht7)
  clear hrun7 hown7 ht7 hp
  go_wp2_with fail
  go_ret
  exact ⟨g, cap, rfl, HPP.out, HT6.out⟩
theorem hmf : ∀ (fn : Fn) (first cap : Array Value) (w : World), (Instr.makeFunc fn first cap).run Tryz.prog w = .ok (.func fn first cap) w := fun _ _ _ _ => rfl
def ptrTo (b : Nat) : Value := .pointer (some ⟨b, 0, none⟩)
def pairV (q c : Nat) : Array Value := #[.func (.func 157) #[] #[], .func (.func 158) #[] #[ptrTo q], .func (.func 159) #[] #[ptrTo c]]
def sinV (s c : Nat) : Array Value := #[.func (.func 160) #[] #[], .func (.func 161) #[] #[ptrTo s, ptrTo c], .func (.func 162) #[] #[ptrTo s, ptrTo c]]
def placeV (c : Nat) : Value := .func (.func 155) #[] #[ptrTo c]
theorem size_code : (Tryz.prog.info? 216).map (·.size) = some 3 := by kernel_rfl
theorem paired_walk (ch : ByteArray) (w : World) :
 Calls Tryz.prog 143 #[.string ch] w fun e w' => ∃ q c, e = .returned (.agg (pairV q c)) ∧ Blk w' q 197 #[placeV c] ∧ Blk w' c 9 #[.string ch] ∧ Turn nowhere w w' := by
 have hmf := hmf
 have hs1 : w.heap.size + 1 = (w.alloc (.cells #[.string ch] 9)).heap.size := by simp
 have hs2 : w.heap.size + 1 + 1 = ((w.alloc (.cells #[.string ch] 9)).alloc (.cells (pairV (w.heap.size + 1 + 1) w.heap.size) 216)).heap.size := by simp
 have HS1 := zH hs1
 have HS2 := zH hs2
 clear hs1 hs2
 go_enter Tryz.func143, Tryz.ntmps143
 go_wp2
 change bodyPost _ _ _ _ _ (((w.alloc (.cells #[.string ch] 9)).alloc (.cells (pairV (w.heap.size + 1 + 1) w.heap.size) 216)).alloc (.cells #[placeV w.heap.size] 197))
 have hb2 := (Blk.new (w.alloc (.cells #[.string ch] 9)) 216 (pairV (w.heap.size + 1 + 1) w.heap.size)).alloc (.cells #[placeV w.heap.size] 197)
 have hb3 := Blk.new ((w.alloc (.cells #[.string ch] 9)).alloc (.cells (pairV (w.heap.size + 1 + 1) w.heap.size) 216)) 197 #[placeV w.heap.size]
 rw [← HS1.out] at hb2
 rw [← HS2.out] at hb3
 refine bodyPost_ret (v := .agg (pairV (w.heap.size + 1 + 1) w.heap.size)) (results_cell_row rfl _ _ (w.heap.size + 1) 216 _ (0, 0) _ rfl hb2 Tryz.underlying216 rfl size_code) rfl
  ⟨w.heap.size + 1 + 1, w.heap.size, rfl, hb3, ((Blk.new w 9 #[.string ch]).alloc _).alloc _, (((Turn.refl _ w).alloc _).alloc _).alloc _⟩
theorem single_walk (ch st : ByteArray) (w : World) :
 Calls Tryz.prog 144 #[.string ch, .string st] w fun e w' => ∃ s c, e = .returned (.agg (sinV s c)) ∧ Blk w' s 9 #[.string st] ∧ Blk w' c 9 #[.string ch] ∧ Turn nowhere w w' := by
 have hmf := hmf
 have hs1 : w.heap.size + 1 = (w.alloc (.cells #[.string ch] 9)).heap.size := by simp
 have hs2 : w.heap.size + 1 + 1 = ((w.alloc (.cells #[.string ch] 9)).alloc (.cells #[.string st] 9)).heap.size := by simp
 have HS1 := zH hs1
 have HS2 := zH hs2
 clear hs1 hs2
 go_enter Tryz.func144, Tryz.ntmps144
 go_wp2
 change bodyPost _ _ _ _ _ (((w.alloc (.cells #[.string ch] 9)).alloc (.cells #[.string st] 9)).alloc (.cells (sinV (w.heap.size + 1) w.heap.size) 216))
 have hb2 := (Blk.new (w.alloc (.cells #[.string ch] 9)) 9 #[.string st]).alloc (.cells (sinV (w.heap.size + 1) w.heap.size) 216)
 have hb3 := Blk.new ((w.alloc (.cells #[.string ch] 9)).alloc (.cells #[.string st] 9)) 216 (sinV (w.heap.size + 1) w.heap.size)
 rw [← HS1.out] at hb2
 rw [← HS2.out] at hb3
 refine bodyPost_ret (v := .agg (sinV (w.heap.size + 1) w.heap.size)) (results_cell_row rfl _ _ (w.heap.size + 1 + 1) 216 _ (0, 0) _ rfl hb3 Tryz.underlying216 rfl size_code) rfl
  ⟨w.heap.size + 1, w.heap.size, rfl, hb2, ((Blk.new w 9 #[.string ch]).alloc _).alloc _, (((Turn.refl _ w).alloc _).alloc _).alloc _⟩
def CodeAt (w : World) (cv : Array Value) (p : Pt) : Prop :=
 (p.stands = [] ∧ ∃ q c, cv = pairV q c ∧ Blk w q 197 #[placeV c] ∧ Blk w c 9 #[strV p.chars]) ∨
 (p.stands ≠ [] ∧ ∃ s c, cv = sinV s c ∧ Blk w s 9 #[strV p.stands] ∧ Blk w c 9 #[strV p.chars])
theorem pair_one (q c : Nat) : ∀ v ∈ (pairV q c).toList, v.oneCell' = true := by simp [pairV, Value.oneCell']
theorem sin_one (q c : Nat) : ∀ v ∈ (sinV q c).toList, v.oneCell' = true := by simp [sinV, Value.oneCell']
theorem codeOf_walk (p : Pt) (w : World) :
 Calls Tryz.prog 134 #[.agg (ptC p).toArray] w fun e w' => ∃ cv, e = .returned (.agg cv) ∧ CodeAt w' cv p ∧ Turn nowhere w w' := by
 obtain ⟨n, ch, st⟩ := p
 unfold ptC
 go_enter Tryz.func134, Tryz.ntmps134
 go_upto_region 1 with fail
 have hb1 := (Blk.new w 200 #[.int .i64 (n : Int), strV ch, strV st]).alloc (.cells #[.nilFunc, .nilFunc, .nilFunc] 216)
 have hb2 := Blk.new (w.alloc (.cells #[.int .i64 (n : Int), strV ch, strV st] 200)) 216 #[.nilFunc, .nilFunc, .nilFunc]
 have ht := ((Turn.refl nowhere w).alloc (.cells #[.int .i64 (n : Int), strV ch, strV st] 200)).alloc (.cells #[.nilFunc, .nilFunc, .nilFunc] 216)
 rw [show (w.alloc (.cells #[.int .i64 (n : Int), strV ch, strV st] 200)).heap.size = w.heap.size + 1 from by simp] at hb2
 generalize ((w.alloc (.cells #[.int .i64 (n : Int), strV ch, strV st] 200)).alloc (.cells #[.nilFunc, .nilFunc, .nilFunc] 216)) = w2 at *
 obtain ⟨b2, hq⟩ : ∃ b2, b2 = w.heap.size + 1 := ⟨_, rfl⟩
 obtain ⟨b1, hp⟩ : ∃ b1, b1 = w.heap.size := ⟨_, rfl⟩
 rw [← hq] at hb2 ⊢
 rw [← hp] at hb1 ⊢
 have HQ := zH (show w.heap.size < b2 from by omega)
 have HB2 := zH hb2
 have HT := zH ht
 clear hq hp ht hb2
 refine wp_region_lit ?_
 refine wS (.pointer (some ⟨b1, 2, none⟩)) (xF 0 2) ?_;simp only [zz];refine wS (strV st) (xL (hb1.cell 2)) ?_;simp only [zz]
 refine wR (v := .bool (st == [])) (w' := w2) rfl (exec_seql (m := []) rfl rfl rfl) ?_
 simp only [zz]
 have c11 : w2.cell? ⟨b1, 1, none⟩ = some (strV ch) := hb1.cell 1
 have c12 : w2.cell? ⟨b1, 2, none⟩ = some (strV st) := hb1.cell 2
 clear hb1
 by_cases hst : st = []
 ·have hst1 : (st == []) = true := by simpa using hst
  have HST := zH hst
  rw [hst1]
  clear hst hst1
  go_wp2_with (first
   | (go_at_call 143; refine (paired_walk ⟨ch.toArray⟩ _).mono ?_; rintro e w3 ⟨q, c, rfl, h1, h2, h3⟩)
   | (refine wpList_store_row rfl 216 (.tmp 2) (.tmp 8) rfl (pairV q c) (HB2.out.turn h3 (fun e => e)) rfl rfl rfl size_code (pair_one q c) ?_; intro w4 h4 h5))
  have e1 : q ≠ b2 := (h1.turn (Turn.refl nowhere _) (fun e => e)).ne_ (HB2.out.turn h3 (fun e => e)) (by decide)
  have e2 : c ≠ b2 := h2.ne_ (HB2.out.turn h3 (fun e => e)) (by decide)
  refine bodyPost_ret (v := .agg (pairV q c)) (results_cell_row rfl _ _ b2 216 _ (0, 0) _ rfl h4 Tryz.underlying216 rfl size_code) rfl
   ⟨_, rfl, .inl ⟨HST.out, q, c, rfl, h1.turn h5 e1, h2.turn h5 e2⟩, ?_⟩
  exact (HT.out.next h3).trans h5 (fun j hj e => by have := HQ.out; have h : j = b2 := e; omega)
 ·have hst1 : (st == []) = false := by simpa using hst
  have HST := zH hst
  rw [hst1]
  clear hst hst1
  go_wp2_with (first
   | (go_at_call 144; refine (single_walk ⟨ch.toArray⟩ ⟨st.toArray⟩ _).mono ?_; rintro e w3 ⟨q, c, rfl, h1, h2, h3⟩)
   | (refine wpList_store_row rfl 216 (.tmp 2) (.tmp 13) rfl (sinV q c) (HB2.out.turn h3 (fun e => e)) rfl rfl rfl size_code (sin_one q c) ?_; intro w4 h4 h5))
  have e1 : q ≠ b2 := h1.ne_ (HB2.out.turn h3 (fun e => e)) (by decide)
  have e2 : c ≠ b2 := h2.ne_ (HB2.out.turn h3 (fun e => e)) (by decide)
  refine bodyPost_ret (v := .agg (sinV q c)) (results_cell_row rfl _ _ b2 216 _ (0, 0) _ rfl h4 Tryz.underlying216 rfl size_code) rfl
   ⟨_, rfl, .inr ⟨HST.out, q, c, rfl, h1.turn h5 e1, h2.turn h5 e2⟩, ?_⟩
  exact (HT.out.next h3).trans h5 (fun j hj e => by have := HQ.out; have h : j = b2 := e; omega)
theorem row_ne {w : World} {B : Nat} {e : TypeId} {sz n g : Nat} {v : Value} {xs : List Value} {t : TypeId} {cs : Array Value} (h : w.ownsRow B e sz v n xs) (hg : Blk w g t cs) (ht : t ≠ e) : ¬ (some g = v.ownBlock) := by
 rcases h.2 with ⟨rfl, _⟩ | ⟨g', cap, cur, rfl, _, hg', _⟩
 ·intro e'; cases e'
 ·intro e'
  have e2 : g = g' := Option.some.inj e'
  subst e2
  have h1 : w.heap[g]? = some (.cells cs t (0, 0)) := hg
  rw [h1] at hg'
  injection hg' with h2
  injection h2 with _ h3
  exact ht h3
structure Ext (w w' : World) (v v' : Value) : Prop where
 tr : Turn (fun b => some b = v.ownBlock) w w'
 sub : ∀ b, some b = v'.ownBlock → b < w.heap.size → some b = v.ownBlock
theorem Ext.refl (w : World) (v : Value) : Ext w w v v := ⟨Turn.refl _ _, fun _ h _ => h⟩
theorem Ext.trans {w w1 w' : World} {v v1 v' : Value} (h : Ext w w1 v v1) (g : Ext w1 w' v1 v') : Ext w w' v v' where
 tr := h.tr.trans g.tr fun k hk e => h.sub k e hk
 sub := fun b e hb => h.sub b (g.sub b e (Nat.lt_of_lt_of_le hb h.tr.size)) hb
theorem Ext.still {w w1 : World} {v v' : Value} {w' : World} (h : Ext w w1 v v') (ht : Turn nowhere w1 w') : Ext w w' v v' := ⟨h.tr.trans ht fun _ _ e => e.elim, h.sub⟩
theorem Blk.ext {w w' : World} {v v' : Value} {g : Nat} {t : TypeId} {cs : Array Value} (h : Blk w g t cs) (he : Ext w w' v v') (hn : ¬ (some g = v.ownBlock)) : Blk w' g t cs := h.turn he.tr hn
theorem byteInfo : (Tryz.prog.info? 5).map (fun i => (i.zero, i.size, i.bytes)) = some (some (.int .u8 0), 1, 1) := by kernel_rfl
theorem append_news {w : World} {B : Nat} {v : Value} {bs : List UInt8} (hown : Own w B 5 v bs) (hB : B ≤ w.heap.size) (xs : List UInt8) (hlen : bs.length + xs.length ≤ 140737488355328) {m c : Nat} (hm : xs.length = m) :
 ∃ A c' w', (Builtin.append_ #[22, 22] 22 #[v, .slice (some ⟨w.heap.size, 0, none⟩) m c]).run Tryz.prog (w.alloc (.cells (bcs xs).toArray 5)) = .ok (.slice A (bs.length + m) c') w' ∧
  Own w' B 5 (.slice A (bs.length + m) c') (bs ++ xs) ∧ Ext w w' v (.slice A (bs.length + m) c') := by
 subst hm
 obtain ⟨i0, hi0, hz0, hz1, hz2⟩ := info_parts byteInfo
 obtain ⟨v', w', h1, h2, h3, _, h5⟩ := run_append_own_at (P := Tryz.prog) (w.alloc (.cells (bcs xs).toArray 5)) B 22 22 5 i0 _ 1 1 Tryz.underlying22 hi0 hz0 hz1 hz2
  rfl (by omega) v bs.length (bcs bs) (hown.alloc _) ⟨w.heap.size, 0, none⟩ xs.length c (bcs xs) (by rw [bcs_length, Nat.mul_one]) (fun j u hj => by
   rw [add_nat, Nat.zero_add, (Blk.new w 5 (bcs xs).toArray).cell j]
   simpa using hj) (bcs_one xs) (by unfold maxLen; omega) (by omega) (by simp; omega)
 obtain ⟨A, c', rfl⟩ := own_form h2
 refine ⟨A, c', w', h1, ?_, ((Turn.refl _ w).alloc _).grown h3 fun b e hb => e.symm, fun b e hb => ?_⟩
 ·unfold Own
  rw [List.length_append, bcs_append]
  exact h2
 ·rcases h5 with h5 | h5
  ·rw [← h5]
   exact e
  ·rw [h5] at e
   have : b = (w.alloc (.cells (bcs xs).toArray 5)).heap.size := Option.some.inj e
   simp at this
   omega
theorem u8_of (x : UInt8) : ((x.toNat : Int).toNat).toUInt8 = x := by simp
theorem index_walk (l : List UInt8) (x : UInt8) (w : World) :
 Calls Tryz.prog 156 #[strV l, .int .u8 (x.toNat : Int)] w fun e w' => e = .returned (.int .i64 (Lib.indexByte l x)) ∧ w' = w := by
 have h := Any.strings_IndexByte Tryz.lays137 ⟨l.toArray⟩ (x.toNat : Int) w
 rw [u8_of] at h
 exact h
theorem place_walk {w : World} {c : Nat} {ch : List UInt8} (hc : Blk w c 9 #[strV ch]) (x : UInt8) (hx : x ∈ ch) (hl : ch.length ≤ 16) :
 Calls Tryz.prog 155 #[.int .u8 (x.toNat : Int), ptrTo c] w fun e w' => e = .returned (.int .u8 ((ch.idxOf x : Nat) : Int)) ∧ w' = w := by
 unfold ptrTo
 have c0 : w.cell? ⟨c, 0, none⟩ = some (strV ch) := hc.cell 0
 have h := index_walk ch x w
 rw [index_mem ch x hx] at h
 have hlt := idx_lt hx
 generalize ch.idxOf x = k at *
 clear hx hc
 go_enter Tryz.func155, Tryz.ntmps155
 go_wp2_with (go_at_call 156; refine h.mono ?_; rintro e w1 ⟨rfl, rfl⟩)
 go_ret
 exact ⟨rfl, rfl⟩
def TwoS (s c : Nat) (st ch : List UInt8) (W : World) : Prop := Blk W s 9 #[strV st] ∧ Blk W c 9 #[strV ch]
theorem sput_walk {w : World} {s c B : Nat} {st ch t bs : List UInt8} {A0 : Option Addr} {n0 c0 : Nat} (hs : Blk w s 9 #[strV st]) (hc : Blk w c 9 #[strV ch]) (ht : onlyOf t ch = true) (hl : st.length = ch.length) (hown : Own w B 5 (.slice A0 n0 c0) bs) (hB : B ≤ w.heap.size)
 (hlen : bs.length + t.length ≤ 140737488355328) (ht1 : t.length ≤ 1000) (hch : ch.length ≤ 1000) :
 Calls Tryz.prog 161 #[.slice A0 n0 c0, strV t, ptrTo s, ptrTo c] w fun e w' => ∃ A n c', e = .returned (.slice A n c') ∧ Own w' B 5 (.slice A n c') (bs ++ t.map (one ch st)) ∧ Ext w w' (.slice A0 n0 c0) (.slice A n c') := by
 unfold ptrTo
 have HS := zH hs
 have HC := zH hc
 have HT := zH ht
 have HL := zH hl
 have HO := zH hown
 have HB := zH hB
 have HN := zH hlen
 have HT1 := zH ht1
 have HCH := zH hch
 clear hs hc ht hl hown hB hlen ht1 hch
 go_enter Tryz.func161, Tryz.ntmps161
 go_upto_region 1 with fail
 refine wp_region_lit ?_
 refine wM (strV t) ?_;simp only [zz]
 refine wR (v := .int .i64 (t.length : Int)) (w' := w) rfl (exec_slen rfl rfl) ?_
 simp only [zz]
 obtain ⟨len, hlen⟩ : ∃ len, t.length = len := ⟨_, rfl⟩
 rw [hlen]
 have HLEN := zH hlen
 clear hlen
 go_wp2_with fail
 go_loopg [0, 10] len (fun gk b i wr => ∃ (k : Nat) (A : Option Addr) (n c' : Nat), k + gk = len ∧ i = .int .i64 (k : Int) ∧ b = .slice A n c' ∧ Own wr B 5 (.slice A n c') (bs ++ (t.take k).map (one ch st)) ∧ Ext w wr (.slice A0 n0 c0) (.slice A n c'))
 case atStart => exact ⟨0, _, _, _, by omega, rfl, rfl, by simpa using HO.out, Ext.refl _ _⟩
 case round =>
  obtain ⟨k, A, n, c', hkl, rfl, rfl, hO, hE⟩ := hrel
  have HKL := zH hkl
  have HO' := zH hO
  have HE := zH hE
  clear hkl hO hE
  by_cases hlt : k < len
  ·have y1 : (k : Int) < (len : Int) := by omega
   have y2 : (0 : Int) ≤ (k : Int) := by omega
   have y3 : (len : Int) ≤ 1000 := by have := HT1.out; have := HLEN.out; omega
   have HLT := zH hlt
   clear hlt
   go_upto_region 4 with fail
   have hk : k < t.length := by rw [HLEN.out]; exact HLT.out
   have hmem : t.getD k 0 ∈ ch := by
    rw [List.getD_eq_getElem?_getD, List.getElem?_eq_getElem hk]
    exact onlyOf_mem HT.out (List.getElem_mem _)
   have htk : (t.take (k + 1)).map (one ch st) = (t.take k).map (one ch st) ++ [one ch st (t.getD k 0)] := by
    rw [List.take_add_one, List.getElem?_eq_getElem hk, List.map_append, List.getD_eq_getElem?_getD, List.getElem?_eq_getElem hk]
    rfl
   have HK := zH hk
   have HTK := zH htk
   have hiw := index_walk ch (t.getD k 0)
   have hix := idx_lt hmem
   have hone : one ch st (t.getD k 0) = st.getD (ch.idxOf (t.getD k 0)) 0 := rfl
   rw [index_mem ch _ hmem] at hiw
   generalize ch.idxOf (t.getD k 0) = ix at *
   have HIW := zH hiw
   have HIX := zH hix
   have HONE := zH hone
   clear hiw hix hone hmem hk htk
   have hS0 : TwoS s c st ch wr.drew := ⟨(HS.out.ext HE.out (row_ne HO.out HS.out (by decide))).drew, (HC.out.ext HE.out (row_ne HO.out HC.out (by decide))).drew⟩
   refine wp_region_till (TwoS s c st ch) 7 (by kernel_rfl) ?_
   refine tP 0 (.slice A n c') rfl (fun W hW => exec_move rfl rfl) hS0 ?_;simp only [zz];refine tU 1 (strV st) rfl (fun W hW => xL (hW.1.cell 0)) hS0 ?_;simp only [zz]
   refine till_take2 6 (i := 2) (v := strV ch) rfl (by kernel_rfl) (by kernel_rfl) (fun _ _ _ h => h) (.inl ⟨by rfl, fun W hW => xL (hW.2.cell 0)⟩) hS0 ?_
   simp only [zz];refine tP 3 (strV t) rfl (fun W hW => exec_move rfl rfl) hS0 ?_;simp only [zz];refine tP 4 (.int .i64 (k : Int)) rfl (fun W hW => exec_move rfl rfl) hS0 ?_;simp only [zz];refine tP 5 (.int .u8 ((t.getD k 0).toNat : Int)) rfl (fun W hW => exec_sidx rfl rfl rfl HK.out) hS0 ?_;simp only [zz]
   refine till_step (i := 6) (by kernel_rfl) rfl rfl ?_
   intro K1 HK1
   go_wp2_with fail
   refine (HIW.out _).mono ?_
   rintro e w5 ⟨rfl, rfl⟩
   refine HK1.out _ _ ⟨fun _ => hS0, ?_⟩
   clear HK1
   refine till_tail 7 rfl (by kernel_rfl) ?_
   refine wS (.int .u8 ((one ch st (t.getD k 0)).toNat : Int)) (by rw [HONE.out]; exact exec_sidx rfl rfl rfl (by rw [HL.out]; exact HIX.out)) ?_;simp only [zz]
   obtain ⟨i0, hi0, hz0, hz1, hz2⟩ := info_parts byteInfo
   refine wS _ (exec_buildSlice1 rfl rfl (run_buildSlice_one (v := .int .u8 ((one ch st (t.getD k 0)).toNat : Int)) Tryz.underlying22 hi0 hz0 (by rw [hz1]; rfl) (by rw [hz1]; rfl) (by omega) (by omega) _)) ?_;simp only [zz]
   obtain ⟨A6, c6, w6, hrun, hown6, hext6⟩ := append_news (m := 1) (c := 1) (w := wr.drew) HO'.out.drew (Nat.le_trans HB.out HE.out.tr.size) [one ch st (t.getD k 0)] (by rw [List.length_append, List.length_map, List.length_take]; have := HN.out; have := HK.out; simp; omega) rfl
   refine wR (v := .slice A6 ((bs ++ (t.take k).map (one ch st)).length + 1) c6) (w' := w6) rfl (exec_append rfl rfl rfl hrun) ?_
   simp only [zz]
   have HO6 := zH hown6
   have HE6 := zH hext6
   clear hrun hown6 hext6 hS0
   generalize ((bs ++ (t.take k).map (one ch st)).length + 1) = n6 at *
   go_wp2_with fail
   refine NoPanic.normal ?_
   go_wp2_with fail
   go_roundg (gk - 1)
   case measure => have := HKL.out; have := HLT.out; omega
   case rel =>
    refine ⟨k + 1, A6, n6, c6, by have := HKL.out; have := HLT.out; omega, by go_num, rfl, ?_, ?_⟩
    ·rw [HTK.out, ← List.append_assoc]
     exact HO6.out
    ·exact (HE.out.still (Turn.drew (Turn.refl _ _))).trans HE6.out
  ·have hke : k = len := by have := HKL.out; omega
   have y1 : ¬ ((k : Int) < (len : Int)) := by omega
   clear hlt
   have HKE := zH hke
   clear hke
   go_wp2_with fail
   go_ret
   refine ⟨A, n, c', rfl, ?_, HE.out⟩
   have := HO'.out
   rwa [List.take_of_length_le (by rw [HLEN.out, HKE.out]; exact Nat.le_refl _)] at this
theorem bs_turn {w w' : World} {A : Option Addr} {n : Nat} {bs : List UInt8} (h : Bs w A n bs) (ht : Turn nowhere w w') : Bs w' A n bs := by
 obtain ⟨h1, h2, h3⟩ := h
 refine ⟨h1, h2, fun hp => ?_⟩
 obtain ⟨b, off, e, hc⟩ := h3 hp
 exact ⟨b, off, e, fun i hi => by rw [ht.cell (World.block_lt_of_cell? _ _ (hc i hi)) (fun e => e)]; exact hc i hi⟩
theorem exec_makeV {P : Program} {a : Act} {o : Oper} {t : TypeId} {x y : Operand} {u u' v : Value} {W W' : World} (ho : o.op = .makeSlice t x y) (hx : a.eval x = u) (hy : a.eval y = u') (h : (Instr.makeSlice t u u').run P W = .ok v W') : (execOp a.eval o).run P W = .ok (.value v) W' := by
 unfold execOp
 simp only [ho, hx, hy, h, Sem.run_bind, Sem.run_pure, Result.andThen_ok]
section
variable {P : Program} {md : Region.Mode} {ops : Array Oper} {Q : Exit → Act → World → Prop} {S : World → Prop} {k : Nat}
end
theorem pack_take (ch : List UInt8) : ∀ (k : Nat) (T : List UInt8), 2 * k + 2 ≤ T.length → pack ch (T.take (2 * k + 2)) = pack ch (T.take (2 * k)) ++ [UInt8.ofNat (16 * ch.idxOf (T.getD (2 * k) 0) + ch.idxOf (T.getD (2 * k + 1) 0))]
 | 0, a :: b :: r, _ => by simp [pack]
 | k + 1, a :: b :: r, h => by
   have ih := pack_take ch k r (by simp at h; omega)
   rw [show 2 * (k + 1) + 2 = 2 * k + 2 + 2 from by omega, show 2 * (k + 1) = 2 * k + 2 from by omega]
   simp only [List.take_succ_cons, pack, List.cons_append, List.getD_cons_succ]
   rw [ih]
 | _, [], h => by simp at h
 | _, [_], h => by simp at h
theorem padded_len (t : List UInt8) : (padded t).length = 2 * ((t.length + 1) / 2) := by
 unfold padded
 by_cases h : t.length % 2 = 1
 ·rw [if_pos h, List.length_cons]
  omega
 ·rw [if_neg h]
  omega
theorem padded_mem {t ch : List UInt8} (h : onlyOf t ch = true) (h0 : 48 ∈ ch) {c : UInt8} (hc : c ∈ padded t) : c ∈ ch := by
 unfold padded at hc
 by_cases h1 : t.length % 2 = 1
 ·rw [if_pos h1] at hc
  rcases List.mem_cons.1 hc with rfl | hc
  ·exact h0
  ·exact onlyOf_mem h hc
 ·rw [if_neg h1] at hc
  exact onlyOf_mem h hc
def PlS (q c : Nat) (ch : List UInt8) (W : World) : Prop := Blk W q 197 #[placeV c] ∧ Blk W c 9 #[strV ch]
theorem exec_shl4 {W : World} {a : Act} {o : Oper} {x : Operand} (k : Nat) (hk : k < 16) (ho : o.op = .binOp .shl 5 x (.const (.int .u64 4)) 99) (hx : a.eval x = .int .u8 (k : Int)) : (execOp a.eval o).run Tryz.prog W = .ok (.value (.int .u8 ((16 * k : Nat) : Int))) W := by
 unfold execOp
 simp only [ho, hx]
 go_simp
 have h : ∀ k : Fin 16, IntKind.u8.wrap ((k.val : Int) * 16) = 16 * (k.val : Int) := by decide +kernel
 exact h ⟨k, hk⟩
theorem exec_or {W : World} {a : Act} {o : Oper} {x y : Operand} (k m : Nat) (hk : k < 16) (hm : m < 16) (ho : o.op = .binOp .or 5 x y 5) (hx : a.eval x = .int .u8 ((16 * k : Nat) : Int)) (hy : a.eval y = .int .u8 (m : Int)) : (execOp a.eval o).run Tryz.prog W = .ok (.value (.int .u8 ((16 * k + m : Nat) : Int))) W := by
 unfold execOp
 simp only [ho, hx, hy]
 go_simp
 have h : ∀ k m : Fin 16, bits BinOp.or IntKind.u8 (16 * (k.val : Int)) (m.val : Int) = 16 * (k.val : Int) + (m.val : Int) := by decide +kernel
 exact h ⟨k, hk⟩ ⟨m, hm⟩
theorem exec_lss {W : World} {a : Act} {o : Oper} {x y : Operand} {i j : Int} (ho : o.op = .binOp .lss 3 x y 3) (hx : a.eval x = .int .i64 i) (hy : a.eval y = .int .i64 j) (h : i < j) : (execOp a.eval o).run Tryz.prog W = .ok (.value (.bool true)) W := by
 unfold execOp
 simp only [ho, hx, hy]
 go_simp
theorem exec_nlss {W : World} {a : Act} {o : Oper} {x y : Operand} {i j : Int} (ho : o.op = .binOp .lss 3 x y 3) (hx : a.eval x = .int .i64 i) (hy : a.eval y = .int .i64 j) (h : ¬ (i < j)) : (execOp a.eval o).run Tryz.prog W = .ok (.value (.bool false)) W := by
 unfold execOp
 simp only [ho, hx, hy]
 go_simp
theorem pack_le (ch : List UInt8) : ∀ l : List UInt8, (pack ch l).length ≤ l.length
 | [] => Nat.le_refl _
 | [_] => by simp [pack]
 | a :: b :: r => by
   have := pack_le ch r
   simp only [pack, List.length_cons]
   omega
theorem tmod_one {n : Nat} (h : n % 2 = 1) : Int.tmod (n : Int) 2 = 1 := by
 rw [show Int.tmod (n : Int) 2 = ((n % 2 : Nat) : Int) from rfl, h]
 rfl
theorem tmod_nil {n : Nat} (h : ¬ n % 2 = 1) : Int.tmod (n : Int) 2 = 0 := by
 rw [show Int.tmod (n : Int) 2 = ((n % 2 : Nat) : Int) from rfl, show n % 2 = 0 from by omega]
 rfl
end Go.Proofs.YtkagijifkpoplaaGreatDoor
