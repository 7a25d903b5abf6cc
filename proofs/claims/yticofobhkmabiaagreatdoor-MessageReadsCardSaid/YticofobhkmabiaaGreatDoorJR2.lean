/-
  Texts of MessageReads in one file, shortened: Lays FdA FdB FdC FdD FdE FdH FdF FdG FdI FdJ FdK FdL FdM FdO FdP FdS FdT FdU FdVa FdW FdPc. Conditions: the tables and the errors read as the program's text lays them.
-/
import Derived.Shelf.Strings.SlTrimAscii
import Derived.Shelf.Small.Strs
import Derived.Shelf.Strconv.Atoi
import Derived.Shelf.Strconv.AtoiErr
import Derived.Shelf.LaysM
import Derived.Shelf.LaysC
import Derived.Shelf.Strconv.Itoa3
import Derived.Shelf.Strings.Repeat
import Derived.Ground.SlbCloneProg
import Derived.Shelf.Bytes.SlClone
import Derived.Test.YticofobhkmabiaaGreatDoorProg
import Derived.Test.YticofobhkmabiaaGreatDoorJR0
import Derived.Deep.MidRow
import Derived.Maps.AppendAt
import Derived.Laws.EntriesVeiled
import Derived.Deep.Upon
set_option linter.unusedVariables false
set_option linter.unusedSimpArgs false
set_option maxRecDepth 40000
set_option maxHeartbeats 20000000
namespace Go.Proofs.YticofobhkmabiaaGreatDoor
open Go.Shelf
def Tryz.lays161_ren : Go.Shelf.Ren := ⟨fun | 161 => 114 | 231 => 129 | 227 => 130 | 233 => 131 | 235 => 132 | 228 => 154 | 197 => 155 | 151 => 156 | 260 => 164 | 152 => 165 | 137 => 147 | 119 => 169 | 224 => 170 | 225 => 171 | 217 => 163 | 266 => 168 | n => n, fun | 9 => 9 | 4 => 4 | 3 => 3 | 5 => 5 | 117 => 207 | 116 => 206 | 0 => 0 | 124 => 210 | 105 => 224 | 21 => 21 | 119 => 240 | 46 => 172 | 139 => 243 | 138 => 242 | n => n, fun | 3 => 17 | 4 => 18 | n => n⟩
theorem Tryz.lays161 : Go.Proofs.Lays.n161 Tryz.prog Tryz.lays161_ren := {
 mixed := by kernel_rfl
 f119 := Tryz.func169.trans (congrArg some (by kernel_rfl))
 f137 := Tryz.func147.trans (congrArg some (by kernel_rfl))
 f151 := Tryz.func156.trans (congrArg some (by kernel_rfl))
 f152 := Tryz.func165.trans (congrArg some (by kernel_rfl))
 f161 := Tryz.func114.trans (congrArg some (by kernel_rfl))
 f197 := Tryz.func155.trans (congrArg some (by kernel_rfl))
 f217 := Tryz.func163.trans (congrArg some (by kernel_rfl))
 f224 := Tryz.func170.trans (congrArg some (by kernel_rfl))
 f225 := Tryz.func171.trans (congrArg some (by kernel_rfl))
 f227 := Tryz.func130.trans (congrArg some (by kernel_rfl))
 f228 := Tryz.func154.trans (congrArg some (by kernel_rfl))
 f231 := Tryz.func129.trans (congrArg some (by kernel_rfl))
 f233 := Tryz.func131.trans (congrArg some (by kernel_rfl))
 f235 := Tryz.func132.trans (congrArg some (by kernel_rfl))
 f260 := Tryz.func164.trans (congrArg some (by kernel_rfl))
 f266 := Tryz.func168.trans (congrArg some (by kernel_rfl))
 t0 := Tryz.underlying0
 a0 := Tryz.isAgg0
 z0 := Tryz.sizeOf0
 v0 := Tryz.zeroValue0
 t3 := Tryz.underlying3
 a3 := Tryz.isAgg3
 z3 := Tryz.sizeOf3
 v3 := Tryz.zeroValue3
 t4 := Tryz.underlying4
 a4 := Tryz.isAgg4
 z4 := Tryz.sizeOf4
 v4 := Tryz.zeroValue4
 t5 := Tryz.underlying5
 a5 := Tryz.isAgg5
 z5 := Tryz.sizeOf5
 v5 := Tryz.zeroValue5
 t9 := Tryz.underlying9
 a9 := Tryz.isAgg9
 z9 := Tryz.sizeOf9
 v9 := Tryz.zeroValue9
 t21 := Tryz.underlying21
 a21 := Tryz.isAgg21
 z21 := Tryz.sizeOf21
 v21 := Tryz.zeroValue21
 t46 := Tryz.underlying172
 a46 := Tryz.isAgg172
 z46 := Tryz.sizeOf172
 v46 := Tryz.zeroValue172
 t105 := Tryz.underlying224
 a105 := Tryz.isAgg224
 z105 := Tryz.sizeOf224
 v105 := Tryz.zeroValue224
 t116 := Tryz.underlying206
 a116 := Tryz.isAgg206
 z116 := Tryz.sizeOf206
 t117 := Tryz.underlying207
 a117 := Tryz.isAgg207
 z117 := Tryz.sizeOf207
 v117 := Tryz.zeroValue207
 t119 := Tryz.underlying240
 a119 := Tryz.isAgg240
 z119 := Tryz.sizeOf240
 t124 := Tryz.underlying210
 a124 := Tryz.isAgg210
 z124 := Tryz.sizeOf210
 v124 := Tryz.zeroValue210
 t138 := Tryz.underlying242
 a138 := Tryz.isAgg242
 z138 := Tryz.sizeOf242
 v138 := Tryz.zeroValue242
 t139 := Tryz.underlying243
 a139 := Tryz.isAgg243
 z139 := Tryz.sizeOf243
 v139 := Tryz.zeroValue243
 g3 := by kernel_rfl
 g4 := by kernel_rfl }
def Tryz.lays137_ren : Go.Shelf.Ren := ⟨fun | 137 => 147 | 217 => 163 | 266 => 168 | n => n, fun | 9 => 9 | 5 => 5 | 3 => 3 | n => n, fun | n => n⟩
theorem Tryz.lays137 : Go.Proofs.Lays.n137 Tryz.prog Tryz.lays137_ren := {
 mixed := by kernel_rfl
 f137 := Tryz.func147.trans (congrArg some (by kernel_rfl))
 f217 := Tryz.func163.trans (congrArg some (by kernel_rfl))
 f266 := Tryz.func168.trans (congrArg some (by kernel_rfl))
 t3 := Tryz.underlying3
 a3 := Tryz.isAgg3
 z3 := Tryz.sizeOf3
 v3 := Tryz.zeroValue3
 t5 := Tryz.underlying5
 a5 := Tryz.isAgg5
 z5 := Tryz.sizeOf5
 v5 := Tryz.zeroValue5
 t9 := Tryz.underlying9
 a9 := Tryz.isAgg9
 z9 := Tryz.sizeOf9
 v9 := Tryz.zeroValue9 }
def Tryz.lays172_ren : Go.Shelf.Ren := ⟨fun | 172 => 101 | 244 => 117 | 245 => 118 | 247 => 133 | 279 => 134 | 280 => 135 | 281 => 136 | 282 => 137 | 287 => 119 | 316 => 157 | 171 => 88 | 205 => 158 | 321 => 138 | 322 => 139 | 243 => 105 | 246 => 121 | 283 => 140 | 284 => 141 | 285 => 142 | 286 => 143 | 129 => 120 | 317 => 159 | 318 => 160 | 319 => 161 | 320 => 162 | 337 => 166 | 338 => 167 | n => n, fun | 9 => 9 | 3 => 3 | 75 => 43 | 76 => 92 | 4 => 4 | 5 => 5 | 167 => 211 | 37 => 26 | 0 => 0 | 85 => 212 | 2 => 2 | 168 => 214 | 53 => 135 | 175 => 136 | 46 => 172 | 210 => 229 | 127 => 201 | 145 => 238 | 143 => 236 | 21 => 21 | 171 => 217 | 173 => 219 | 212 => 232 | 51 => 196 | 20 => 20 | 213 => 233 | 232 => 246 | 233 => 247 | 80 => 180 | n => n, fun | 15 => 13 | 16 => 14 | 17 => 15 | 18 => 19 | 19 => 20 | n => n⟩
theorem Tryz.lays172 : Go.Proofs.Lays.n172 Tryz.prog Tryz.lays172_ren := {
 mixed := by kernel_rfl
 f129 := Tryz.func120.trans (congrArg some (by kernel_rfl))
 f171 := Tryz.func88.trans (congrArg some (by kernel_rfl))
 f172 := Tryz.func101.trans (congrArg some (by kernel_rfl))
 f205 := Tryz.func158.trans (congrArg some (by kernel_rfl))
 f243 := Tryz.func105.trans (congrArg some (by kernel_rfl))
 f244 := Tryz.func117.trans (congrArg some (by kernel_rfl))
 f245 := Tryz.func118.trans (congrArg some (by kernel_rfl))
 f246 := Tryz.func121.trans (congrArg some (by kernel_rfl))
 f247 := Tryz.func133.trans (congrArg some (by kernel_rfl))
 f279 := Tryz.func134.trans (congrArg some (by kernel_rfl))
 f280 := Tryz.func135.trans (congrArg some (by kernel_rfl))
 f281 := Tryz.func136.trans (congrArg some (by kernel_rfl))
 f282 := Tryz.func137.trans (congrArg some (by kernel_rfl))
 f283 := Tryz.func140.trans (congrArg some (by kernel_rfl))
 f284 := Tryz.func141.trans (congrArg some (by kernel_rfl))
 f285 := Tryz.func142.trans (congrArg some (by kernel_rfl))
 f286 := Tryz.func143.trans (congrArg some (by kernel_rfl))
 f287 := Tryz.func119.trans (congrArg some (by kernel_rfl))
 f316 := Tryz.func157.trans (congrArg some (by kernel_rfl))
 f317 := Tryz.func159.trans (congrArg some (by kernel_rfl))
 f318 := Tryz.func160.trans (congrArg some (by kernel_rfl))
 f319 := Tryz.func161.trans (congrArg some (by kernel_rfl))
 f320 := Tryz.func162.trans (congrArg some (by kernel_rfl))
 f321 := Tryz.func138.trans (congrArg some (by kernel_rfl))
 f322 := Tryz.func139.trans (congrArg some (by kernel_rfl))
 f337 := Tryz.func166.trans (congrArg some (by kernel_rfl))
 f338 := Tryz.func167.trans (congrArg some (by kernel_rfl))
 t0 := Tryz.underlying0
 a0 := Tryz.isAgg0
 z0 := Tryz.sizeOf0
 v0 := Tryz.zeroValue0
 t2 := Tryz.underlying2
 a2 := Tryz.isAgg2
 z2 := Tryz.sizeOf2
 v2 := Tryz.zeroValue2
 t3 := Tryz.underlying3
 a3 := Tryz.isAgg3
 z3 := Tryz.sizeOf3
 v3 := Tryz.zeroValue3
 t4 := Tryz.underlying4
 a4 := Tryz.isAgg4
 z4 := Tryz.sizeOf4
 v4 := Tryz.zeroValue4
 t5 := Tryz.underlying5
 a5 := Tryz.isAgg5
 z5 := Tryz.sizeOf5
 v5 := Tryz.zeroValue5
 t9 := Tryz.underlying9
 a9 := Tryz.isAgg9
 z9 := Tryz.sizeOf9
 v9 := Tryz.zeroValue9
 t20 := Tryz.underlying20
 a20 := Tryz.isAgg20
 z20 := Tryz.sizeOf20
 v20 := Tryz.zeroValue20
 t21 := Tryz.underlying21
 a21 := Tryz.isAgg21
 z21 := Tryz.sizeOf21
 v21 := Tryz.zeroValue21
 t37 := Tryz.underlying26
 a37 := Tryz.isAgg26
 z37 := Tryz.sizeOf26
 v37 := Tryz.zeroValue26
 t46 := Tryz.underlying172
 a46 := Tryz.isAgg172
 z46 := Tryz.sizeOf172
 v46 := Tryz.zeroValue172
 t51 := Tryz.underlying196
 a51 := Tryz.isAgg196
 z51 := Tryz.sizeOf196
 v51 := Tryz.zeroValue196
 t53 := Tryz.underlying135
 a53 := Tryz.isAgg135
 z53 := Tryz.sizeOf135
 v53 := Tryz.zeroValue135
 t75 := Tryz.underlying43
 a75 := Tryz.isAgg43
 z75 := Tryz.sizeOf43
 v75 := Tryz.zeroValue43
 t76 := Tryz.underlying92
 a76 := Tryz.isAgg92
 z76 := Tryz.sizeOf92
 v76 := Tryz.zeroValue92
 t85 := Tryz.underlying212
 a85 := Tryz.isAgg212
 z85 := Tryz.sizeOf212
 v85 := Tryz.zeroValue212
 t127 := Tryz.underlying201
 a127 := Tryz.isAgg201
 z127 := Tryz.sizeOf201
 v127 := Tryz.zeroValue201
 t143 := Tryz.underlying236
 a143 := Tryz.isAgg236
 z143 := Tryz.sizeOf236
 v143 := Tryz.zeroValue236
 t145 := Tryz.underlying238
 a145 := Tryz.isAgg238
 z145 := Tryz.sizeOf238
 v145 := Tryz.zeroValue238
 t167 := Tryz.underlying211
 a167 := Tryz.isAgg211
 z167 := Tryz.sizeOf211
 v167 := Tryz.zeroValue211
 t168 := Tryz.underlying214
 a168 := Tryz.isAgg214
 z168 := Tryz.sizeOf214
 v168 := Tryz.zeroValue214
 t171 := Tryz.underlying217
 a171 := Tryz.isAgg217
 z171 := Tryz.sizeOf217
 v171 := Tryz.zeroValue217
 t173 := Tryz.underlying219
 a173 := Tryz.isAgg219
 z173 := Tryz.sizeOf219
 v173 := Tryz.zeroValue219
 t175 := Tryz.underlying136
 a175 := Tryz.isAgg136
 z175 := Tryz.sizeOf136
 v175 := Tryz.zeroValue136
 t210 := Tryz.underlying229
 a210 := Tryz.isAgg229
 z210 := Tryz.sizeOf229
 v210 := Tryz.zeroValue229
 t212 := Tryz.underlying232
 a212 := Tryz.isAgg232
 z212 := Tryz.sizeOf232
 v212 := Tryz.zeroValue232
 t213 := Tryz.underlying233
 a213 := Tryz.isAgg233
 z213 := Tryz.sizeOf233
 t232 := Tryz.underlying246
 a232 := Tryz.isAgg246
 z232 := Tryz.sizeOf246
 v232 := Tryz.zeroValue246
 t233 := Tryz.underlying247
 a233 := Tryz.isAgg247
 z233 := Tryz.sizeOf247
 v233 := Tryz.zeroValue247
 g15 := by kernel_rfl
 g16 := by kernel_rfl
 g17 := by kernel_rfl
 g18 := by kernel_rfl
 g19 := by kernel_rfl }
def Tryz.laysM171_ren : Go.Shelf.Ren := ⟨fun | 171 => 88 | 243 => 105 | 246 => 121 | 283 => 140 | 284 => 141 | 285 => 142 | 286 => 143 | 129 => 120 | 317 => 159 | 318 => 160 | 319 => 161 | 320 => 162 | 337 => 166 | 338 => 167 | n => n, fun | 3 => 3 | 9 => 9 | 2 => 2 | 4 => 4 | 171 => 217 | 0 => 0 | 53 => 135 | 37 => 26 | 5 => 5 | 173 => 219 | 212 => 232 | 51 => 196 | 20 => 20 | 213 => 233 | 46 => 172 | 232 => 246 | 233 => 247 | n => n, fun | 17 => 15 | 18 => 19 | 19 => 20 | n => n⟩
theorem Tryz.laysM171 : Go.Proofs.LaysM.n171 Tryz.prog Tryz.laysM171_ren := {
 mixed := by kernel_rfl
 f129 := Tryz.func120.trans (congrArg some (by kernel_rfl))
 f171 := Tryz.func88.trans (congrArg some (by kernel_rfl))
 f243 := Tryz.func105.trans (congrArg some (by kernel_rfl))
 f246 := Tryz.func121.trans (congrArg some (by kernel_rfl))
 f283 := Tryz.func140.trans (congrArg some (by kernel_rfl))
 f284 := Tryz.func141.trans (congrArg some (by kernel_rfl))
 f285 := Tryz.func142.trans (congrArg some (by kernel_rfl))
 f286 := Tryz.func143.trans (congrArg some (by kernel_rfl))
 f317 := Tryz.func159.trans (congrArg some (by kernel_rfl))
 f318 := Tryz.func160.trans (congrArg some (by kernel_rfl))
 f319 := Tryz.func161.trans (congrArg some (by kernel_rfl))
 f320 := Tryz.func162.trans (congrArg some (by kernel_rfl))
 f337 := Tryz.func166.trans (congrArg some (by kernel_rfl))
 f338 := Tryz.func167.trans (congrArg some (by kernel_rfl))
 t0 := Tryz.underlying0
 a0 := Tryz.isAgg0
 z0 := Tryz.sizeOf0
 v0 := Tryz.zeroValue0
 t2 := Tryz.underlying2
 a2 := Tryz.isAgg2
 z2 := Tryz.sizeOf2
 v2 := Tryz.zeroValue2
 t3 := Tryz.underlying3
 a3 := Tryz.isAgg3
 z3 := Tryz.sizeOf3
 v3 := Tryz.zeroValue3
 t4 := Tryz.underlying4
 a4 := Tryz.isAgg4
 z4 := Tryz.sizeOf4
 v4 := Tryz.zeroValue4
 t5 := Tryz.underlying5
 a5 := Tryz.isAgg5
 z5 := Tryz.sizeOf5
 v5 := Tryz.zeroValue5
 t9 := Tryz.underlying9
 a9 := Tryz.isAgg9
 z9 := Tryz.sizeOf9
 v9 := Tryz.zeroValue9
 t20 := Tryz.underlying20
 a20 := Tryz.isAgg20
 z20 := Tryz.sizeOf20
 v20 := Tryz.zeroValue20
 t37 := Tryz.underlying26
 a37 := Tryz.isAgg26
 z37 := Tryz.sizeOf26
 v37 := Tryz.zeroValue26
 t46 := Tryz.underlying172
 a46 := Tryz.isAgg172
 z46 := Tryz.sizeOf172
 v46 := Tryz.zeroValue172
 t51 := Tryz.underlying196
 a51 := Tryz.isAgg196
 z51 := Tryz.sizeOf196
 v51 := Tryz.zeroValue196
 t53 := Tryz.underlying135
 a53 := Tryz.isAgg135
 z53 := Tryz.sizeOf135
 v53 := Tryz.zeroValue135
 t171 := Tryz.underlying217
 a171 := Tryz.isAgg217
 z171 := Tryz.sizeOf217
 v171 := Tryz.zeroValue217
 t173 := Tryz.underlying219
 a173 := Tryz.isAgg219
 z173 := Tryz.sizeOf219
 v173 := Tryz.zeroValue219
 t212 := Tryz.underlying232
 a212 := Tryz.isAgg232
 z212 := Tryz.sizeOf232
 v212 := Tryz.zeroValue232
 t213 := Tryz.underlying233
 a213 := Tryz.isAgg233
 z213 := Tryz.sizeOf233
 t232 := Tryz.underlying246
 a232 := Tryz.isAgg246
 z232 := Tryz.sizeOf246
 v232 := Tryz.zeroValue246
 t233 := Tryz.underlying247
 a233 := Tryz.isAgg247
 z233 := Tryz.sizeOf247
 v233 := Tryz.zeroValue247
 g17 := by kernel_rfl
 g18 := by kernel_rfl
 g19 := by kernel_rfl
 i0 := by kernel_rfl
 i2 := by kernel_rfl
 i3 := by kernel_rfl
 i4 := by kernel_rfl
 i5 := by kernel_rfl
 i9 := by kernel_rfl
 i20 := by kernel_rfl
 i37 := by kernel_rfl
 i46 := by kernel_rfl
 i51 := by kernel_rfl
 i53 := by kernel_rfl
 i171 := by kernel_rfl
 i173 := by kernel_rfl
 i212 := by kernel_rfl
 i232 := by kernel_rfl
 i233 := by kernel_rfl
 m17 := by kernel_rfl
 m18 := by kernel_rfl
 m19 := by kernel_rfl }
def Tryz.lays171_ren : Go.Shelf.Ren := ⟨fun | 171 => 88 | 243 => 105 | 246 => 121 | 283 => 140 | 284 => 141 | 285 => 142 | 286 => 143 | 129 => 120 | 317 => 159 | 318 => 160 | 319 => 161 | 320 => 162 | 337 => 166 | 338 => 167 | n => n, fun | 3 => 3 | 9 => 9 | 2 => 2 | 4 => 4 | 171 => 217 | 0 => 0 | 53 => 135 | 37 => 26 | 5 => 5 | 173 => 219 | 212 => 232 | 51 => 196 | 20 => 20 | 213 => 233 | 46 => 172 | 232 => 246 | 233 => 247 | n => n, fun | 17 => 15 | 18 => 19 | 19 => 20 | n => n⟩
theorem Tryz.lays171 : Go.Proofs.Lays.n171 Tryz.prog Tryz.lays171_ren := {
 mixed := by kernel_rfl
 f129 := Tryz.func120.trans (congrArg some (by kernel_rfl))
 f171 := Tryz.func88.trans (congrArg some (by kernel_rfl))
 f243 := Tryz.func105.trans (congrArg some (by kernel_rfl))
 f246 := Tryz.func121.trans (congrArg some (by kernel_rfl))
 f283 := Tryz.func140.trans (congrArg some (by kernel_rfl))
 f284 := Tryz.func141.trans (congrArg some (by kernel_rfl))
 f285 := Tryz.func142.trans (congrArg some (by kernel_rfl))
 f286 := Tryz.func143.trans (congrArg some (by kernel_rfl))
 f317 := Tryz.func159.trans (congrArg some (by kernel_rfl))
 f318 := Tryz.func160.trans (congrArg some (by kernel_rfl))
 f319 := Tryz.func161.trans (congrArg some (by kernel_rfl))
 f320 := Tryz.func162.trans (congrArg some (by kernel_rfl))
 f337 := Tryz.func166.trans (congrArg some (by kernel_rfl))
 f338 := Tryz.func167.trans (congrArg some (by kernel_rfl))
 t0 := Tryz.underlying0
 a0 := Tryz.isAgg0
 z0 := Tryz.sizeOf0
 v0 := Tryz.zeroValue0
 t2 := Tryz.underlying2
 a2 := Tryz.isAgg2
 z2 := Tryz.sizeOf2
 v2 := Tryz.zeroValue2
 t3 := Tryz.underlying3
 a3 := Tryz.isAgg3
 z3 := Tryz.sizeOf3
 v3 := Tryz.zeroValue3
 t4 := Tryz.underlying4
 a4 := Tryz.isAgg4
 z4 := Tryz.sizeOf4
 v4 := Tryz.zeroValue4
 t5 := Tryz.underlying5
 a5 := Tryz.isAgg5
 z5 := Tryz.sizeOf5
 v5 := Tryz.zeroValue5
 t9 := Tryz.underlying9
 a9 := Tryz.isAgg9
 z9 := Tryz.sizeOf9
 v9 := Tryz.zeroValue9
 t20 := Tryz.underlying20
 a20 := Tryz.isAgg20
 z20 := Tryz.sizeOf20
 v20 := Tryz.zeroValue20
 t37 := Tryz.underlying26
 a37 := Tryz.isAgg26
 z37 := Tryz.sizeOf26
 v37 := Tryz.zeroValue26
 t46 := Tryz.underlying172
 a46 := Tryz.isAgg172
 z46 := Tryz.sizeOf172
 v46 := Tryz.zeroValue172
 t51 := Tryz.underlying196
 a51 := Tryz.isAgg196
 z51 := Tryz.sizeOf196
 v51 := Tryz.zeroValue196
 t53 := Tryz.underlying135
 a53 := Tryz.isAgg135
 z53 := Tryz.sizeOf135
 v53 := Tryz.zeroValue135
 t171 := Tryz.underlying217
 a171 := Tryz.isAgg217
 z171 := Tryz.sizeOf217
 v171 := Tryz.zeroValue217
 t173 := Tryz.underlying219
 a173 := Tryz.isAgg219
 z173 := Tryz.sizeOf219
 v173 := Tryz.zeroValue219
 t212 := Tryz.underlying232
 a212 := Tryz.isAgg232
 z212 := Tryz.sizeOf232
 v212 := Tryz.zeroValue232
 t213 := Tryz.underlying233
 a213 := Tryz.isAgg233
 z213 := Tryz.sizeOf233
 t232 := Tryz.underlying246
 a232 := Tryz.isAgg246
 z232 := Tryz.sizeOf246
 v232 := Tryz.zeroValue246
 t233 := Tryz.underlying247
 a233 := Tryz.isAgg247
 z233 := Tryz.sizeOf247
 v233 := Tryz.zeroValue247
 g17 := by kernel_rfl
 g18 := by kernel_rfl
 g19 := by kernel_rfl }
def Tryz.laysC172_ren : Go.Shelf.Ren := ⟨fun | 172 => 101 | 244 => 117 | 245 => 118 | 247 => 133 | 279 => 134 | 280 => 135 | 281 => 136 | 282 => 137 | 287 => 119 | 316 => 157 | 171 => 88 | 205 => 158 | 321 => 138 | 322 => 139 | 243 => 105 | 246 => 121 | 283 => 140 | 284 => 141 | 285 => 142 | 286 => 143 | 129 => 120 | 317 => 159 | 318 => 160 | 319 => 161 | 320 => 162 | 337 => 166 | 338 => 167 | n => n, fun | 9 => 9 | 3 => 3 | 75 => 43 | 76 => 92 | 4 => 4 | 5 => 5 | 167 => 211 | 37 => 26 | 0 => 0 | 85 => 212 | 2 => 2 | 168 => 214 | 53 => 135 | 175 => 136 | 46 => 172 | 210 => 229 | 127 => 201 | 145 => 238 | 143 => 236 | 21 => 21 | 171 => 217 | 173 => 219 | 212 => 232 | 51 => 196 | 20 => 20 | 213 => 233 | 232 => 246 | 233 => 247 | 80 => 180 | n => n, fun | 15 => 13 | 16 => 14 | 17 => 15 | 18 => 19 | 19 => 20 | n => n⟩
theorem Tryz.laysC172 : Go.Proofs.LaysC.n172 Tryz.prog Tryz.laysC172_ren := {
 mixed := by kernel_rfl
 f129 := Tryz.func120.trans (congrArg some (by kernel_rfl))
 f171 := Tryz.func88.trans (congrArg some (by kernel_rfl))
 f172 := Tryz.func101.trans (congrArg some (by kernel_rfl))
 f205 := Tryz.func158.trans (congrArg some (by kernel_rfl))
 f243 := Tryz.func105.trans (congrArg some (by kernel_rfl))
 f244 := Tryz.func117.trans (congrArg some (by kernel_rfl))
 f245 := Tryz.func118.trans (congrArg some (by kernel_rfl))
 f246 := Tryz.func121.trans (congrArg some (by kernel_rfl))
 f247 := Tryz.func133.trans (congrArg some (by kernel_rfl))
 f279 := Tryz.func134.trans (congrArg some (by kernel_rfl))
 f280 := Tryz.func135.trans (congrArg some (by kernel_rfl))
 f281 := Tryz.func136.trans (congrArg some (by kernel_rfl))
 f282 := Tryz.func137.trans (congrArg some (by kernel_rfl))
 f283 := Tryz.func140.trans (congrArg some (by kernel_rfl))
 f284 := Tryz.func141.trans (congrArg some (by kernel_rfl))
 f285 := Tryz.func142.trans (congrArg some (by kernel_rfl))
 f286 := Tryz.func143.trans (congrArg some (by kernel_rfl))
 f287 := Tryz.func119.trans (congrArg some (by kernel_rfl))
 f316 := Tryz.func157.trans (congrArg some (by kernel_rfl))
 f317 := Tryz.func159.trans (congrArg some (by kernel_rfl))
 f318 := Tryz.func160.trans (congrArg some (by kernel_rfl))
 f319 := Tryz.func161.trans (congrArg some (by kernel_rfl))
 f320 := Tryz.func162.trans (congrArg some (by kernel_rfl))
 f321 := Tryz.func138.trans (congrArg some (by kernel_rfl))
 f322 := Tryz.func139.trans (congrArg some (by kernel_rfl))
 f337 := Tryz.func166.trans (congrArg some (by kernel_rfl))
 f338 := Tryz.func167.trans (congrArg some (by kernel_rfl))
 t0 := Tryz.underlying0
 a0 := Tryz.isAgg0
 z0 := Tryz.sizeOf0
 v0 := Tryz.zeroValue0
 t2 := Tryz.underlying2
 a2 := Tryz.isAgg2
 z2 := Tryz.sizeOf2
 v2 := Tryz.zeroValue2
 t3 := Tryz.underlying3
 a3 := Tryz.isAgg3
 z3 := Tryz.sizeOf3
 v3 := Tryz.zeroValue3
 t4 := Tryz.underlying4
 a4 := Tryz.isAgg4
 z4 := Tryz.sizeOf4
 v4 := Tryz.zeroValue4
 t5 := Tryz.underlying5
 a5 := Tryz.isAgg5
 z5 := Tryz.sizeOf5
 v5 := Tryz.zeroValue5
 t9 := Tryz.underlying9
 a9 := Tryz.isAgg9
 z9 := Tryz.sizeOf9
 v9 := Tryz.zeroValue9
 t20 := Tryz.underlying20
 a20 := Tryz.isAgg20
 z20 := Tryz.sizeOf20
 v20 := Tryz.zeroValue20
 t21 := Tryz.underlying21
 a21 := Tryz.isAgg21
 z21 := Tryz.sizeOf21
 v21 := Tryz.zeroValue21
 t37 := Tryz.underlying26
 a37 := Tryz.isAgg26
 z37 := Tryz.sizeOf26
 v37 := Tryz.zeroValue26
 t46 := Tryz.underlying172
 a46 := Tryz.isAgg172
 z46 := Tryz.sizeOf172
 v46 := Tryz.zeroValue172
 t51 := Tryz.underlying196
 a51 := Tryz.isAgg196
 z51 := Tryz.sizeOf196
 v51 := Tryz.zeroValue196
 t53 := Tryz.underlying135
 a53 := Tryz.isAgg135
 z53 := Tryz.sizeOf135
 v53 := Tryz.zeroValue135
 t75 := Tryz.underlying43
 a75 := Tryz.isAgg43
 z75 := Tryz.sizeOf43
 v75 := Tryz.zeroValue43
 t76 := Tryz.underlying92
 a76 := Tryz.isAgg92
 z76 := Tryz.sizeOf92
 v76 := Tryz.zeroValue92
 t85 := Tryz.underlying212
 a85 := Tryz.isAgg212
 z85 := Tryz.sizeOf212
 v85 := Tryz.zeroValue212
 t127 := Tryz.underlying201
 a127 := Tryz.isAgg201
 z127 := Tryz.sizeOf201
 v127 := Tryz.zeroValue201
 t143 := Tryz.underlying236
 a143 := Tryz.isAgg236
 z143 := Tryz.sizeOf236
 v143 := Tryz.zeroValue236
 t145 := Tryz.underlying238
 a145 := Tryz.isAgg238
 z145 := Tryz.sizeOf238
 v145 := Tryz.zeroValue238
 t167 := Tryz.underlying211
 a167 := Tryz.isAgg211
 z167 := Tryz.sizeOf211
 v167 := Tryz.zeroValue211
 t168 := Tryz.underlying214
 a168 := Tryz.isAgg214
 z168 := Tryz.sizeOf214
 v168 := Tryz.zeroValue214
 t171 := Tryz.underlying217
 a171 := Tryz.isAgg217
 z171 := Tryz.sizeOf217
 v171 := Tryz.zeroValue217
 t173 := Tryz.underlying219
 a173 := Tryz.isAgg219
 z173 := Tryz.sizeOf219
 v173 := Tryz.zeroValue219
 t175 := Tryz.underlying136
 a175 := Tryz.isAgg136
 z175 := Tryz.sizeOf136
 v175 := Tryz.zeroValue136
 t210 := Tryz.underlying229
 a210 := Tryz.isAgg229
 z210 := Tryz.sizeOf229
 v210 := Tryz.zeroValue229
 t212 := Tryz.underlying232
 a212 := Tryz.isAgg232
 z212 := Tryz.sizeOf232
 v212 := Tryz.zeroValue232
 t213 := Tryz.underlying233
 a213 := Tryz.isAgg233
 z213 := Tryz.sizeOf233
 t232 := Tryz.underlying246
 a232 := Tryz.isAgg246
 z232 := Tryz.sizeOf246
 v232 := Tryz.zeroValue246
 t233 := Tryz.underlying247
 a233 := Tryz.isAgg247
 z233 := Tryz.sizeOf247
 v233 := Tryz.zeroValue247
 g15 := by kernel_rfl
 g16 := by kernel_rfl
 g17 := by kernel_rfl
 g18 := by kernel_rfl
 g19 := by kernel_rfl
 t80 := Tryz.underlying180
 a80 := Tryz.isAgg180
 z80 := Tryz.sizeOf180
 v80 := Tryz.zeroValue180
 i0 := by kernel_rfl
 i2 := by kernel_rfl
 i3 := by kernel_rfl
 i4 := by kernel_rfl
 i5 := by kernel_rfl
 i9 := by kernel_rfl
 i20 := by kernel_rfl
 i21 := by kernel_rfl
 i37 := by kernel_rfl
 i46 := by kernel_rfl
 i51 := by kernel_rfl
 i53 := by kernel_rfl
 i75 := by kernel_rfl
 i76 := by kernel_rfl
 i80 := by kernel_rfl
 i85 := by kernel_rfl
 i127 := by kernel_rfl
 i143 := by kernel_rfl
 i145 := by kernel_rfl
 i167 := by kernel_rfl
 i168 := by kernel_rfl
 i171 := by kernel_rfl
 i173 := by kernel_rfl
 i175 := by kernel_rfl
 i210 := by kernel_rfl
 i212 := by kernel_rfl
 i232 := by kernel_rfl
 i233 := by kernel_rfl
 m15 := by kernel_rfl
 m16 := by kernel_rfl
 m17 := by kernel_rfl
 m18 := by kernel_rfl
 m19 := by kernel_rfl
 c0 := by kernel_rfl
 c2 := by kernel_rfl
 c3 := by kernel_rfl
 c4 := by kernel_rfl
 c5 := by kernel_rfl
 c9 := by kernel_rfl
 c20 := by kernel_rfl
 c21 := by kernel_rfl
 c37 := by kernel_rfl
 c46 := by kernel_rfl
 c51 := by kernel_rfl
 c53 := by kernel_rfl
 c75 := by kernel_rfl
 c76 := by kernel_rfl
 c80 := by kernel_rfl
 c85 := by kernel_rfl
 c127 := by kernel_rfl
 c143 := by kernel_rfl
 c145 := by kernel_rfl
 c167 := by kernel_rfl
 c168 := by kernel_rfl
 c171 := by kernel_rfl
 c173 := by kernel_rfl
 c175 := by kernel_rfl
 c210 := by kernel_rfl
 c212 := by kernel_rfl
 c213 := by kernel_rfl
 c232 := by kernel_rfl
 c233 := by kernel_rfl }
def Tryz.lays105_ren : Go.Shelf.Ren := ⟨fun | 105 => 89 | 212 => 106 | 99 => 107 | 165 => 108 | 166 => 109 | 170 => 110 | 169 => 111 | 263 => 122 | 264 => 123 | 206 => 95 | 240 => 124 | 241 => 125 | 276 => 144 | 277 => 145 | n => n, fun | 9 => 9 | 3 => 3 | 4 => 4 | 20 => 20 | 0 => 0 | 46 => 172 | 109 => 173 | 5 => 5 | 72 => 177 | 76 => 92 | 51 => 196 | 146 => 197 | 53 => 135 | 148 => 199 | 70 => 175 | 37 => 26 | 75 => 43 | 127 => 201 | 164 => 111 | 80 => 180 | n => n, fun | n => n⟩
theorem Tryz.lays105 : Go.Proofs.Lays.n105 Tryz.prog Tryz.lays105_ren := {
 mixed := by kernel_rfl
 f99 := Tryz.func107.trans (congrArg some (by kernel_rfl))
 f105 := Tryz.func89.trans (congrArg some (by kernel_rfl))
 f165 := Tryz.func108.trans (congrArg some (by kernel_rfl))
 f166 := Tryz.func109.trans (congrArg some (by kernel_rfl))
 f169 := Tryz.func111.trans (congrArg some (by kernel_rfl))
 f170 := Tryz.func110.trans (congrArg some (by kernel_rfl))
 f206 := Tryz.func95.trans (congrArg some (by kernel_rfl))
 f212 := Tryz.func106.trans (congrArg some (by kernel_rfl))
 f240 := Tryz.func124.trans (congrArg some (by kernel_rfl))
 f241 := Tryz.func125.trans (congrArg some (by kernel_rfl))
 f263 := Tryz.func122.trans (congrArg some (by kernel_rfl))
 f264 := Tryz.func123.trans (congrArg some (by kernel_rfl))
 f276 := Tryz.func144.trans (congrArg some (by kernel_rfl))
 f277 := Tryz.func145.trans (congrArg some (by kernel_rfl))
 t0 := Tryz.underlying0
 a0 := Tryz.isAgg0
 z0 := Tryz.sizeOf0
 v0 := Tryz.zeroValue0
 t3 := Tryz.underlying3
 a3 := Tryz.isAgg3
 z3 := Tryz.sizeOf3
 v3 := Tryz.zeroValue3
 t4 := Tryz.underlying4
 a4 := Tryz.isAgg4
 z4 := Tryz.sizeOf4
 v4 := Tryz.zeroValue4
 t5 := Tryz.underlying5
 a5 := Tryz.isAgg5
 z5 := Tryz.sizeOf5
 v5 := Tryz.zeroValue5
 t9 := Tryz.underlying9
 a9 := Tryz.isAgg9
 z9 := Tryz.sizeOf9
 v9 := Tryz.zeroValue9
 t20 := Tryz.underlying20
 a20 := Tryz.isAgg20
 z20 := Tryz.sizeOf20
 v20 := Tryz.zeroValue20
 t37 := Tryz.underlying26
 a37 := Tryz.isAgg26
 z37 := Tryz.sizeOf26
 v37 := Tryz.zeroValue26
 t46 := Tryz.underlying172
 a46 := Tryz.isAgg172
 z46 := Tryz.sizeOf172
 v46 := Tryz.zeroValue172
 t51 := Tryz.underlying196
 a51 := Tryz.isAgg196
 z51 := Tryz.sizeOf196
 v51 := Tryz.zeroValue196
 t53 := Tryz.underlying135
 a53 := Tryz.isAgg135
 z53 := Tryz.sizeOf135
 v53 := Tryz.zeroValue135
 t70 := Tryz.underlying175
 a70 := Tryz.isAgg175
 z70 := Tryz.sizeOf175
 v70 := Tryz.zeroValue175
 t72 := Tryz.underlying177
 a72 := Tryz.isAgg177
 z72 := Tryz.sizeOf177
 v72 := Tryz.zeroValue177
 t75 := Tryz.underlying43
 a75 := Tryz.isAgg43
 z75 := Tryz.sizeOf43
 v75 := Tryz.zeroValue43
 t76 := Tryz.underlying92
 a76 := Tryz.isAgg92
 z76 := Tryz.sizeOf92
 v76 := Tryz.zeroValue92
 t109 := Tryz.underlying173
 a109 := Tryz.isAgg173
 z109 := Tryz.sizeOf173
 v109 := Tryz.zeroValue173
 t127 := Tryz.underlying201
 a127 := Tryz.isAgg201
 z127 := Tryz.sizeOf201
 v127 := Tryz.zeroValue201
 t146 := Tryz.underlying197
 a146 := Tryz.isAgg197
 z146 := Tryz.sizeOf197
 v146 := Tryz.zeroValue197
 t148 := Tryz.underlying199
 a148 := Tryz.isAgg199
 z148 := Tryz.sizeOf199
 v148 := Tryz.zeroValue199
 t164 := Tryz.underlying111
 a164 := Tryz.isAgg111
 z164 := Tryz.sizeOf111
 v164 := Tryz.zeroValue111 }
theorem Tryz.Builder_Extra_105 : Builder.Extra Tryz.prog Tryz.lays105_ren := {
 sizeBuilder := by kernel_rfl
 liesBuilder := by kernel_rfl
 t5 := Tryz.underlying5
 a5 := Tryz.isAgg5
 z5 := Tryz.sizeOf5
 v5 := Tryz.zeroValue5
 infoByte := by kernel_rfl
 cellsByte := by kernel_rfl
 sizeByte := by kernel_rfl
 neB5 := by decide }
def Tryz.laysSlK4_ren : Go.Shelf.Ren := ⟨fun | 4 => 91 | n => n, fun | 22 => 26 | 4 => 4 | 5 => 5 | n => n, fun | n => n⟩
theorem Tryz.laysSlK4 : Go.Proofs.SlLaysK.n4 Tryz.prog Tryz.laysSlK4_ren := {
 mixed := by kernel_rfl
 f4 := Tryz.func91.trans (congrArg some (by kernel_rfl))
 t4 := Tryz.underlying4
 a4 := Tryz.isAgg4
 z4 := Tryz.sizeOf4
 v4 := Tryz.zeroValue4
 t22 := Tryz.underlying26
 a22 := Tryz.isAgg26
 z22 := Tryz.sizeOf26
 v22 := Tryz.zeroValue26
 t5 := Tryz.underlying5
 i5 := by kernel_rfl }
open Go.RowKit
open Fdd
def ascii (l : List UInt8) : Prop := ∀ (j : Nat) b, l[j]? = some b → b.toNat < 128
theorem trim_only : ∀ (l cs : List UInt8), (Lib.trimLeftS l cs == []) = onlyOf l cs
 | [], cs => rfl
 | a :: l, cs => by
   unfold Lib.trimLeftS onlyOf
   rw [List.dropWhile_cons, List.all_cons]
   by_cases h : cs.contains a
   ·have ih := trim_only l cs
    unfold Lib.trimLeftS onlyOf at ih
    rw [if_pos h, h, ih, Bool.true_and]
   ·rw [if_neg h]
    simp only [Bool.not_eq_true] at h
    rw [h]
    simp
theorem only_walk (l cs : List UInt8) (hc : cs.length < 100) (ha : ascii cs) (w : World) :
 Calls Tryz.prog 98 #[strV l, strV cs] w fun e w' => e = .returned (.bool (onlyOf l cs)) ∧ Turn nowhere w w' := by
 go_enter Tryz.func98, Tryz.ntmps98
 go_wp2_with (go_at_call 114; refine (Any.strings_TrimLeft_laid Tryz.lays161 (by kernel_rfl) ⟨l.toArray⟩ ⟨cs.toArray⟩ _ (by rw [str_size]; omega) ha).mono ?_; rintro e w1 ⟨rfl, hb⟩)
 go_ret
 refine ⟨ret_bool ?_, Turn.of_below hb (Nat.le_refl _)⟩
 rw [← trim_only]
 cases Lib.trimLeftS l cs <;> rfl
def fmV (f : Fm) : Value := .agg #[.int .i64 f.kind, .int .i64 f.size, .int .i64 f.code]
def fmC (f : Fm) : Array Value := #[.int .i64 f.kind, .int .i64 f.size, .int .i64 f.code]
theorem mayBe_walk (f : Fm) (w : World) :
 Calls Tryz.prog 74 #[fmV f] w fun e w' => e = .returned (.bool f.may) ∧ Turn nowhere w w' := by
 obtain ⟨k, s, c⟩ := f
 unfold fmV
 go_enter Tryz.func74, Tryz.ntmps74
 go_wp2
 all_goals (try go_ret)
 all_goals
  refine ⟨ret_bool ?_, (Turn.refl _ w).alloc _⟩
  simp only [beq_iff_eq, beq_eq_false_iff_ne, ne_eq] at *
  rw [Bool.eq_iff_iff]
  simp only [Fm.may, Bool.and_eq_true, decide_eq_true_eq, Bool.false_eq_true]
  refine ⟨fun h => ?_, fun h => ?_⟩ <;> (try dsimp only at h ⊢) <;> omega
theorem dbl (n : Nat) (h : n ≤ 64) : IntKind.i64.wrap (2 * (n : Int)) = ((2 * n : Nat) : Int) := by
 rw [IntKind.wrap_i64]
 omega
def rowV (r : Rw) : List Value := [strV r.d, strV r.h, strV r.s, strV r.m]
def RowsT (w : World) : Prop := ∀ k, k < 4 → w.rangeAt 12 (k * 4) (rowV (rws k))
theorem RowsT.turn {w w' : World} (h : RowsT w) (ht : Turn nowhere w w') : RowsT w' := fun k hk j v hv => by
 have := h k hk j v hv
 rw [ht.cell (World.block_lt_of_cell? _ _ this) (fun e => e)]
 exact this
def ptC (p : Pt) : List Value := [.int .i64 (p.n : Int), strV p.chars, strV p.stands]
def ptsC (ps : List Pt) : List Value := ps.flatMap ptC
def PtsAt (w : World) (g : Nat) (ps : List Pt) : Prop := ∃ cs, Blk w g 167 cs ∧ ∀ i p, ps[i]? = some p → ∀ j v, (ptC p)[j]? = some v → cs[i * 3 + j]? = some v
theorem PtsAt.turn {F : Nat → Prop} {w w' : World} {g : Nat} {ps : List Pt} (h : PtsAt w g ps) (ht : Turn F w w') (hn : ¬ F g) : PtsAt w' g ps := by
 obtain ⟨cs, h1, h2⟩ := h
 exact ⟨cs, h1.turn ht hn, h2⟩
theorem PtsAt.range {w : World} {g : Nat} {ps : List Pt} (h : PtsAt w g ps) {i : Nat} {p : Pt} (hp : ps[i]? = some p) : w.rangeAt g (i * 3) (ptC p) := by
 obtain ⟨cs, h1, h2⟩ := h
 intro j v hv
 exact (h1.cell _).trans (h2 i p hp j v hv)
theorem info_part : (Tryz.prog.info? 167).map (fun i => (i.zero, i.size, i.bytes)) = some (some (.agg #[.int .i64 0, .string ByteArray.empty, .string ByteArray.empty]), 3, 40) := by kernel_rfl
theorem build_part (z : Int) (a b : ByteArray) (W : World) : (Instr.build 167 #[(0, .int .i64 z), (1, .string a), (2, .string b)]).run Tryz.prog W = .ok (.agg #[.int .i64 z, .string a, .string b]) W := by kernel_rfl
theorem exec_build3 {P : Program} {a : Act} {o : Oper} {t : TypeId} {x y z : Operand} {u v q r : Value} {W : World} (ho : o.op = .build t #[(0, x), (1, y), (2, z)]) (hx : a.eval x = u) (hy : a.eval y = v) (hz : a.eval z = q)
 (h : (Instr.build t #[(0, u), (1, v), (2, q)]).run P W = .ok r W) : (execOp a.eval o).run P W = .ok (.value r) W := by
 unfold execOp
 simp only [ho, List.map_toArray, List.map_cons, List.map_nil, hx, hy, hz, h, Sem.run_bind, Sem.run_pure, Result.andThen_ok]
theorem add_part {W1 w : World} {v : Value} {n : Nat} {xs : List Value} (hown : w.ownsRow W1.heap.size 167 3 v n xs) (hT : Turn nowhere W1 w) (hn : n < 10) (p : Pt) :
 ∃ v' w', (Builtin.append_ #[146, 146] 146 #[v, .slice (some ⟨w.heap.size, 0, none⟩) 1 1]).run Tryz.prog (w.alloc (.cells (ptC p).toArray 167)) = .ok v' w' ∧
  w'.ownsRow W1.heap.size 167 3 v' (n + 1) (xs ++ ptC p) ∧ Turn nowhere W1 w' := by
 obtain ⟨i0, hi0, hz0, hz1, hz2⟩ := info_parts info_part
 obtain ⟨v', w', h1, h2, h3, _, _⟩ := run_append_own_at (P := Tryz.prog) (w.alloc (.cells (ptC p).toArray 167)) W1.heap.size 146 146 167 i0 _ 3 40 Tryz.underlying146 hi0 hz0 hz1 hz2
  rfl (by omega) v n xs (hown.alloc _) ⟨w.heap.size, 0, none⟩ 1 1 (ptC p) rfl (fun j u hj => by
   rw [add_nat, Nat.zero_add, (Blk.new w 167 (ptC p).toArray).cell j]
   simpa using hj) (by simp [ptC, strV, Value.oneCell']) (by unfold maxLen; omega) (by omega) (by have := hT.size; simp; omega)
 refine ⟨v', w', h1, h2, (hT.alloc _).grown h3 fun b e hb => ?_⟩
 have := (hown.lt b e).1
 omega
theorem own_pts {w : World} {B n : Nat} {v : Value} {ps : List Pt} (h : w.ownsRow B 167 3 v n (ptsC ps)) (hn : ps.length = n) (h0 : 0 < n) : ∃ g c, v = .slice (some ⟨g, 0, none⟩) n c ∧ PtsAt w g ps := by
 obtain ⟨hlt, h2⟩ := id h
 rcases h2 with ⟨e, h0'⟩ | ⟨g, cap, cur, rfl, hb, hg, _⟩
 ·omega
 ·refine ⟨g, cap, rfl, cur, hg, fun i p hp j v hv => ?_⟩
  have hc := World.ownsRow.cells (g := g) h rfl (i * 3 + j) v (by
   have key : ∀ (ps : List Pt) (i : Nat) (p : Pt) (j : Nat) (v : Value), ps[i]? = some p → (ptC p)[j]? = some v → (ptsC ps)[i * 3 + j]? = some v := by
    intro ps
    induction ps with
    | nil => intro i p j v h _; simp at h
    | cons q r ih =>
      intro i p j v h hj
      have hj3 : j < 3 := by
       have := (List.getElem?_eq_some_iff.1 hj).1
       simpa [ptC] using this
      unfold ptsC
      rw [List.flatMap_cons]
      cases i with
      | zero =>
        simp only [List.getElem?_cons_zero, Option.some.injEq] at h
        subst h
        rw [List.getElem?_append_left (by simp [ptC]; omega)]
        simpa using hj
      | succ i =>
        rw [List.getElem?_append_right (by simp [ptC]; omega)]
        have e : (i + 1) * 3 + j - (ptC q).length = i * 3 + j := by simp [ptC]; omega
        rw [e]
        exact ih i p j v (by simpa using h) hj
   exact key ps i p j v hp hv)
  rw [add_nat, Nat.zero_add] at hc
  exact ((Blk.cell (show Blk w g 167 cur from hg) (i * 3 + j)).symm.trans hc)
theorem own_form {w : World} {B : Nat} {e : TypeId} {sz n : Nat} {v : Value} {xs : List Value} (h : w.ownsRow B e sz v n xs) : ∃ A c, v = .slice A n c := by
 rcases h.2 with ⟨rfl, h0⟩ | ⟨g, cap, cur, rfl, _⟩
 ·subst h0
  exact ⟨none, 0, rfl⟩
 ·exact ⟨_, _, rfl⟩
theorem exec_alloc {P : Program} {a : Act} {o : Oper} {t : TypeId} {cs : Array Value} {W : World} (ho : o.op = .alloc t) (hz : (zeroValue t).run P W = .ok (.agg cs) W) :
 (execOp a.eval o).run P W = .ok (.value (.pointer (some ⟨W.heap.size, 0, none⟩))) (W.alloc (.cells cs t)) := by
 unfold execOp
 simp only [ho]
 simp [hz, Instr.alloc, Result.andThen, newVar, newRow, Value.cells]
theorem zero_row (w : World) : (zeroValue 189).run Tryz.prog w = .ok (.agg #[.string ByteArray.empty, .string ByteArray.empty, .string ByteArray.empty, .string ByteArray.empty]) w := by kernel_rfl
theorem size_row : (Tryz.prog.info? 189).map (·.size) = some 4 := by kernel_rfl
theorem parts_walk (k : Int) (s : Int) (c n : Nat) (w : World) (hk : 1 ≤ k ∧ k ≤ 5) (hc : c < 4) (hn : n ≤ 64) (hr : RowsT w) :
 Calls Tryz.prog 94 #[fmV ⟨k, s, (c : Int)⟩, .int .i64 (n : Int)] w fun e w' => ∃ g cap, e = .returned (.slice (some ⟨g, 0, none⟩) (ptsOf k (c : Int) n).length cap) ∧ PtsAt w' g (ptsOf k (c : Int) n) ∧ Turn nowhere w w' := by
 unfold fmV
 obtain ⟨i0, hi0, hz0, hz1, hz2⟩ := info_parts info_part
 go_enter Tryz.func94, Tryz.ntmps94
 go_upto_region 1 with fail
 have hb0 := Blk.new w 49 #[.int .i64 k, .int .i64 s, .int .i64 (c : Int)]
 have ht0 := (Turn.refl nowhere w).alloc (.cells #[.int .i64 k, .int .i64 s, .int .i64 (c : Int)] 49)
 generalize (w.alloc (.cells #[.int .i64 k, .int .i64 s, .int .i64 (c : Int)] 49)) = w0 at *
 obtain ⟨b2, hb2⟩ : ∃ b2, b2 = w.heap.size := ⟨_, rfl⟩
 rw [← hb2] at hb0 ⊢
 have hrow := (hr.turn ht0) c hc
 have HN := zH hn
 have hc2 : (c : Int) < 4 := by omega
 have hc3 : (0 : Int) ≤ (c : Int) := by omega
 refine wp_region_lit ?_
 refine wR (v := .pointer (some ⟨b2, 2, none⟩)) rfl (exec_field (off := 0) (d := 2) rfl rfl (by kernel_rfl)) ?_
 simp only [zz]
 refine wR (v := .int .i64 (c : Int)) rfl (exec_load1 rfl rfl (by kernel_rfl) (hb0.cell 2)) ?_
 simp only [zz]
 refine wR (v := .pointer (some ⟨12, c * 4, none⟩)) (w' := w0) rfl (by go_simp <;> (first | omega | (intro h; omega))) ?_
 simp only [zz]
 refine wR (v := .agg (rowV (rws c)).toArray) rfl (exec_load rfl rfl (run_loadAt_mid w0 _ _ 189 (rowV (rws c)) _ hrow Tryz.underlying189 rfl (by rw [size_row]; rfl))) ?_
 simp only [zz]
 refine wR (v := _) rfl (exec_alloc rfl (zero_row _)) ?_
 simp only [zz]
 have hq := Blk.new w0 189 #[.string ByteArray.empty, .string ByteArray.empty, .string ByteArray.empty, .string ByteArray.empty]
 have hb4 := hb0.alloc (.cells #[.string ByteArray.empty, .string ByteArray.empty, .string ByteArray.empty, .string ByteArray.empty] 189)
 have ht4 := ht0.alloc (.cells #[.string ByteArray.empty, .string ByteArray.empty, .string ByteArray.empty, .string ByteArray.empty] 189)
 have hlt := hb0.lt
 have hle := ht0.size
 generalize (w0.alloc (.cells #[.string ByteArray.empty, .string ByteArray.empty, .string ByteArray.empty, .string ByteArray.empty] 189)) = w4 at *
 generalize w0.heap.size = b5 at *
 refine wpList_store_row rfl 189 (.tmp 5) (.tmp 10) rfl (rowV (rws c)).toArray hq rfl rfl rfl size_row (by simp [rowV, strV, Value.oneCell']) ?_
 intro w5 hq5 ht5
 have hb5 := hb4.turn ht5 (fun e => by have h2 : b2 = b5 := e; omega)
 have HT5 := zH (show Turn nowhere w w5 from ht4.trans ht5 (fun j hj e => by have h2 : j = b5 := e; omega))
 have HB5 := zH hq5
 clear hq hb4 ht4 ht5 hb0 ht0 hrow hr hlt hle hb2
 simp only [Act.put]
 have c20 : w5.cell? ⟨b2, 0, none⟩ = some (.int .i64 k) := hb5.cell 0
 clear hb5
 have hnil : w5.ownsRow w5.heap.size 167 3 (.slice none 0 0) 0 [] := World.ownsRow_nil w5 _ _ _
 have hck : k = 1 ∨ k = 2 ∨ k = 3 ∨ k = 4 ∨ k = 5 := by omega
 clear hk hn
 rcases hck with rfl | rfl | rfl | rfl | rfl
 ·go_upto_region 12 with fail
  refine wp_region_lit ?_
  refine wM (.slice none 0 0) ?_
  simp only [zz]
  refine wM (.int .i64 (n : Int)) ?_
  simp only [zz]
  refine wR (v := .pointer (some ⟨b5, 0, none⟩)) rfl (exec_field (off := 0) (d := 0) rfl rfl (by kernel_rfl)) ?_
  simp only [zz]
  refine wR (v := strV (rws c).d) rfl (exec_load1 rfl rfl (by kernel_rfl) (HB5.out.cell 0)) ?_
  simp only [zz]
  obtain ⟨v6, w6, hrun6, hown6, ht6⟩ := add_part hnil (Turn.refl nowhere w5) (by omega) ⟨n, dec, (rws c).d⟩
  refine wR (v := .agg (ptC ⟨n, dec, (rws c).d⟩).toArray) rfl (exec_build3 rfl rfl rfl rfl (build_part _ _ _ _)) ?_
  simp only [zz]
  refine wR (v := _) rfl (exec_buildSlice1 rfl rfl (run_buildSlice_one (v := .agg (ptC ⟨n, dec, (rws c).d⟩).toArray) Tryz.underlying146 hi0 hz0 (by rw [hz1]; rfl) (by rw [hz1]; rfl) (by omega) (by omega) _)) ?_
  simp only [zz]
  refine wR (v := v6) (w' := w6) rfl (exec_append rfl rfl rfl hrun6) ?_
  simp only [zz]
  obtain ⟨g, cap, rfl, hp⟩ := own_pts (ps := [⟨n, dec, (rws c).d⟩]) hown6 rfl (by omega)
  have HPP := zH hp
  have HT6 := zH (HT5.out.next ht6)
  clear hnil hrun6 hown6 ht6 hp
  go_wp2_with fail
  go_ret
  exact ⟨g, cap, rfl, HPP.out, HT6.out⟩
 ·go_upto_region 12 with fail
  refine wp_region_lit ?_
  refine wM (.slice none 0 0) ?_
  simp only [zz]
  refine wM (.int .i64 (n : Int)) ?_
  simp only [zz]
  refine wR (v := .pointer (some ⟨b5, 0, none⟩)) rfl (exec_field (off := 0) (d := 0) rfl rfl (by kernel_rfl)) ?_
  simp only [zz]
  refine wR (v := strV (rws c).d) rfl (exec_load1 rfl rfl (by kernel_rfl) (HB5.out.cell 0)) ?_
  simp only [zz]
  obtain ⟨v6, w6, hrun6, hown6, ht6⟩ := add_part hnil (Turn.refl nowhere w5) (by omega) ⟨n, dec, (rws c).d⟩
  refine wR (v := .agg (ptC ⟨n, dec, (rws c).d⟩).toArray) rfl (exec_build3 rfl rfl rfl rfl (build_part _ _ _ _)) ?_
  simp only [zz]
  refine wR (v := _) rfl (exec_buildSlice1 rfl rfl (run_buildSlice_one (v := .agg (ptC ⟨n, dec, (rws c).d⟩).toArray) Tryz.underlying146 hi0 hz0 (by rw [hz1]; rfl) (by rw [hz1]; rfl) (by omega) (by omega) _)) ?_
  simp only [zz]
  refine wR (v := v6) (w' := w6) rfl (exec_append rfl rfl rfl hrun6) ?_
  simp only [zz]
  obtain ⟨g, cap, rfl, hp⟩ := own_pts (ps := [⟨n, dec, (rws c).d⟩]) hown6 rfl (by omega)
  have HPP := zH hp
  have HT6 := zH (HT5.out.next ht6)
  clear hnil hrun6 hown6 ht6 hp
  go_wp2_with fail
  go_ret
  exact ⟨g, cap, rfl, HPP.out, HT6.out⟩
 ·go_upto_region 9 with fail
  refine wp_region_lit ?_
  refine wM (.slice none 0 0) ?_
  simp only [zz]
  refine wM (.int .i64 (n : Int)) ?_
  simp only [zz]
  refine wR (v := .pointer (some ⟨b5, 2, none⟩)) rfl (exec_field (off := 0) (d := 2) rfl rfl (by kernel_rfl)) ?_
  simp only [zz]
  refine wR (v := strV (rws c).s) rfl (exec_load1 rfl rfl (by kernel_rfl) (HB5.out.cell 2)) ?_
  simp only [zz]
  obtain ⟨v6, w6, hrun6, hown6, ht6⟩ := add_part hnil (Turn.refl nowhere w5) (by omega) ⟨n, sgn, (rws c).s⟩
  refine wR (v := .agg (ptC ⟨n, sgn, (rws c).s⟩).toArray) rfl (exec_build3 rfl rfl rfl rfl (build_part _ _ _ _)) ?_
  simp only [zz]
  refine wR (v := _) rfl (exec_buildSlice1 rfl rfl (run_buildSlice_one (v := .agg (ptC ⟨n, sgn, (rws c).s⟩).toArray) Tryz.underlying146 hi0 hz0 (by rw [hz1]; rfl) (by rw [hz1]; rfl) (by omega) (by omega) _)) ?_
  simp only [zz]
  refine wR (v := v6) (w' := w6) rfl (exec_append rfl rfl rfl hrun6) ?_
  simp only [zz]
  obtain ⟨g, cap, rfl, hp⟩ := own_pts (ps := [⟨n, sgn, (rws c).s⟩]) hown6 rfl (by omega)
  have HPP := zH hp
  have HT6 := zH (HT5.out.next ht6)
  clear hnil hrun6 hown6 ht6 hp
  go_wp2_with fail
  go_ret
  exact ⟨g, cap, rfl, HPP.out, HT6.out⟩
 ·go_upto_region 10 with fail
  refine wp_region_lit ?_
  refine wM (.slice none 0 0) ?_
  simp only [zz]
  refine wM (.int .i64 (n : Int)) ?_
  simp only [zz]
  refine wR (v := .int .i64 ((2 * n : Nat) : Int)) (w' := w5) rfl (by go_simp; exact dbl n HN.out) ?_
  simp only [zz]
  refine wR (v := .pointer (some ⟨b5, 1, none⟩)) rfl (exec_field (off := 0) (d := 1) rfl rfl (by kernel_rfl)) ?_
  simp only [zz]
  refine wR (v := strV (rws c).h) rfl (exec_load1 rfl rfl (by kernel_rfl) (HB5.out.cell 1)) ?_
  simp only [zz]
  obtain ⟨v6, w6, hrun6, hown6, ht6⟩ := add_part hnil (Turn.refl nowhere w5) (by omega) ⟨2 * n, hexs, (rws c).h⟩
  refine wR (v := .agg (ptC ⟨2 * n, hexs, (rws c).h⟩).toArray) rfl (exec_build3 rfl rfl rfl rfl (build_part _ _ _ _)) ?_
  simp only [zz]
  refine wR (v := _) rfl (exec_buildSlice1 rfl rfl (run_buildSlice_one (v := .agg (ptC ⟨2 * n, hexs, (rws c).h⟩).toArray) Tryz.underlying146 hi0 hz0 (by rw [hz1]; rfl) (by rw [hz1]; rfl) (by omega) (by omega) _)) ?_
  simp only [zz]
  refine wR (v := v6) (w' := w6) rfl (exec_append rfl rfl rfl hrun6) ?_
  simp only [zz]
  obtain ⟨g, cap, rfl, hp⟩ := own_pts (ps := [⟨2 * n, hexs, (rws c).h⟩]) hown6 rfl (by omega)
  have HPP := zH hp
  have HT6 := zH (HT5.out.next ht6)
  clear hnil hrun6 hown6 ht6 hp
  go_wp2_with fail
  go_ret
  exact ⟨g, cap, rfl, HPP.out, HT6.out⟩
 ·go_upto_region 11 with fail
  refine wp_region_lit ?_
  refine wM (.slice none 0 0) ?_
  simp only [zz]
  refine wR (v := .pointer (some ⟨b5, 3, none⟩)) rfl (exec_field (off := 0) (d := 3) rfl rfl (by kernel_rfl)) ?_
  simp only [zz]
  refine wR (v := strV (rws c).m) rfl (exec_load1 rfl rfl (by kernel_rfl) (HB5.out.cell 3)) ?_
  simp only [zz]
  obtain ⟨v6, w6, hrun6, hown6, ht6⟩ := add_part hnil (Turn.refl nowhere w5) (by omega) ⟨1, mk, (rws c).m⟩
  refine wR (v := .agg (ptC ⟨1, mk, (rws c).m⟩).toArray) rfl (exec_build3 rfl rfl rfl rfl (build_part _ _ _ _)) ?_
  simp only [zz]
  refine wR (v := _) rfl (exec_buildSlice1 rfl rfl (run_buildSlice_one (v := .agg (ptC ⟨1, mk, (rws c).m⟩).toArray) Tryz.underlying146 hi0 hz0 (by rw [hz1]; rfl) (by rw [hz1]; rfl) (by omega) (by omega) _)) ?_
  simp only [zz]
  refine wR (v := v6) (w' := w6) rfl (exec_append rfl rfl rfl hrun6) ?_
  simp only [zz]
  obtain ⟨A6, c6, rfl⟩ := own_form hown6
  have HB5' := zH (HB5.out.turn ht6 (fun e => e))
  have HO6 := zH hown6
  have HT6' := zH ht6
  clear hnil hrun6 hown6 ht6
  go_upto_region 12 with fail
  refine wp_region_lit ?_
  refine wM (.slice A6 1 c6) ?_
  simp only [zz]
  refine wM (.int .i64 (n : Int)) ?_
  simp only [zz]
  refine wR (v := .pointer (some ⟨b5, 0, none⟩)) rfl (exec_field (off := 0) (d := 0) rfl rfl (by kernel_rfl)) ?_
  simp only [zz]
  refine wR (v := strV (rws c).d) rfl (exec_load1 rfl rfl (by kernel_rfl) (HB5'.out.cell 0)) ?_
  simp only [zz]
  obtain ⟨v7, w7, hrun7, hown7, ht7⟩ := add_part HO6.out HT6'.out (by omega) ⟨n, dec, (rws c).d⟩
  refine wR (v := .agg (ptC ⟨n, dec, (rws c).d⟩).toArray) rfl (exec_build3 rfl rfl rfl rfl (build_part _ _ _ _)) ?_
  simp only [zz]
  refine wR (v := _) rfl (exec_buildSlice1 rfl rfl (run_buildSlice_one (v := .agg (ptC ⟨n, dec, (rws c).d⟩).toArray) Tryz.underlying146 hi0 hz0 (by rw [hz1]; rfl) (by rw [hz1]; rfl) (by omega) (by omega) _)) ?_
  simp only [zz]
  refine wR (v := v7) (w' := w7) rfl (exec_append rfl rfl rfl hrun7) ?_
  simp only [zz]
  obtain ⟨g, cap, rfl, hp⟩ := own_pts (ps := [⟨1, mk, (rws c).m⟩, ⟨n, dec, (rws c).d⟩]) hown7 rfl (by omega)
  have HPP := zH hp
  have HT6 := zH (HT5.out.next ht7)
  clear hrun7 hown7 ht7 hp
  go_wp2_with fail
  go_ret
  exact ⟨g, cap, rfl, HPP.out, HT6.out⟩
theorem hmf : ∀ (fn : Fn) (first cap : Array Value) (w : World), (Instr.makeFunc fn first cap).run Tryz.prog w = .ok (.func fn first cap) w := fun _ _ _ _ => rfl
def ptrTo (b : Nat) : Value := .pointer (some ⟨b, 0, none⟩)
def pairV (q c : Nat) : Array Value := #[.func (.func 148) #[] #[], .func (.func 149) #[] #[ptrTo q], .func (.func 150) #[] #[ptrTo c]]
def sinV (s c : Nat) : Array Value := #[.func (.func 151) #[] #[], .func (.func 152) #[] #[ptrTo s, ptrTo c], .func (.func 153) #[] #[ptrTo s, ptrTo c]]
def placeV (c : Nat) : Value := .func (.func 146) #[] #[ptrTo c]
theorem size_code : (Tryz.prog.info? 186).map (·.size) = some 3 := by kernel_rfl
theorem paired_walk (ch : ByteArray) (w : World) :
 Calls Tryz.prog 127 #[.string ch] w fun e w' => ∃ q c, e = .returned (.agg (pairV q c)) ∧ Blk w' q 141 #[placeV c] ∧ Blk w' c 9 #[.string ch] ∧ Turn nowhere w w' := by
 have hmf := hmf
 have hs1 : w.heap.size + 1 = (w.alloc (.cells #[.string ch] 9)).heap.size := by simp
 have hs2 : w.heap.size + 1 + 1 = ((w.alloc (.cells #[.string ch] 9)).alloc (.cells (pairV (w.heap.size + 1 + 1) w.heap.size) 186)).heap.size := by simp
 have HS1 := zH hs1
 have HS2 := zH hs2
 clear hs1 hs2
 go_enter Tryz.func127, Tryz.ntmps127
 go_wp2
 change bodyPost _ _ _ _ _ (((w.alloc (.cells #[.string ch] 9)).alloc (.cells (pairV (w.heap.size + 1 + 1) w.heap.size) 186)).alloc (.cells #[placeV w.heap.size] 141))
 have hb2 := (Blk.new (w.alloc (.cells #[.string ch] 9)) 186 (pairV (w.heap.size + 1 + 1) w.heap.size)).alloc (.cells #[placeV w.heap.size] 141)
 have hb3 := Blk.new ((w.alloc (.cells #[.string ch] 9)).alloc (.cells (pairV (w.heap.size + 1 + 1) w.heap.size) 186)) 141 #[placeV w.heap.size]
 rw [← HS1.out] at hb2
 rw [← HS2.out] at hb3
 refine bodyPost_ret (v := .agg (pairV (w.heap.size + 1 + 1) w.heap.size)) (results_cell_row rfl _ _ (w.heap.size + 1) 186 _ (0, 0) _ rfl hb2 Tryz.underlying186 rfl size_code) rfl
  ⟨w.heap.size + 1 + 1, w.heap.size, rfl, hb3, ((Blk.new w 9 #[.string ch]).alloc _).alloc _, (((Turn.refl _ w).alloc _).alloc _).alloc _⟩
theorem single_walk (ch st : ByteArray) (w : World) :
 Calls Tryz.prog 128 #[.string ch, .string st] w fun e w' => ∃ s c, e = .returned (.agg (sinV s c)) ∧ Blk w' s 9 #[.string st] ∧ Blk w' c 9 #[.string ch] ∧ Turn nowhere w w' := by
 have hmf := hmf
 have hs1 : w.heap.size + 1 = (w.alloc (.cells #[.string ch] 9)).heap.size := by simp
 have hs2 : w.heap.size + 1 + 1 = ((w.alloc (.cells #[.string ch] 9)).alloc (.cells #[.string st] 9)).heap.size := by simp
 have HS1 := zH hs1
 have HS2 := zH hs2
 clear hs1 hs2
 go_enter Tryz.func128, Tryz.ntmps128
 go_wp2
 change bodyPost _ _ _ _ _ (((w.alloc (.cells #[.string ch] 9)).alloc (.cells #[.string st] 9)).alloc (.cells (sinV (w.heap.size + 1) w.heap.size) 186))
 have hb2 := (Blk.new (w.alloc (.cells #[.string ch] 9)) 9 #[.string st]).alloc (.cells (sinV (w.heap.size + 1) w.heap.size) 186)
 have hb3 := Blk.new ((w.alloc (.cells #[.string ch] 9)).alloc (.cells #[.string st] 9)) 186 (sinV (w.heap.size + 1) w.heap.size)
 rw [← HS1.out] at hb2
 rw [← HS2.out] at hb3
 refine bodyPost_ret (v := .agg (sinV (w.heap.size + 1) w.heap.size)) (results_cell_row rfl _ _ (w.heap.size + 1 + 1) 186 _ (0, 0) _ rfl hb3 Tryz.underlying186 rfl size_code) rfl
  ⟨w.heap.size + 1, w.heap.size, rfl, hb2, ((Blk.new w 9 #[.string ch]).alloc _).alloc _, (((Turn.refl _ w).alloc _).alloc _).alloc _⟩
def CodeAt (w : World) (cv : Array Value) (p : Pt) : Prop :=
 (p.stands = [] ∧ ∃ q c, cv = pairV q c ∧ Blk w q 141 #[placeV c] ∧ Blk w c 9 #[strV p.chars]) ∨
 (p.stands ≠ [] ∧ ∃ s c, cv = sinV s c ∧ Blk w s 9 #[strV p.stands] ∧ Blk w c 9 #[strV p.chars])
theorem CodeAt.turn {w w' : World} {cv : Array Value} {p : Pt} (h : CodeAt w cv p) (ht : Turn nowhere w w') : CodeAt w' cv p := by
 rcases h with ⟨h0, q, c, h1, h2, h3⟩ | ⟨h0, q, c, h1, h2, h3⟩
 ·exact .inl ⟨h0, q, c, h1, h2.turn ht (fun e => e), h3.turn ht (fun e => e)⟩
 ·exact .inr ⟨h0, q, c, h1, h2.turn ht (fun e => e), h3.turn ht (fun e => e)⟩
theorem zero_code (w : World) : (zeroValue 186).run Tryz.prog w = .ok (.agg #[.nilFunc, .nilFunc, .nilFunc]) w := by kernel_rfl
theorem pair_one (q c : Nat) : ∀ v ∈ (pairV q c).toList, v.oneCell' = true := by simp [pairV, Value.oneCell']
theorem sin_one (q c : Nat) : ∀ v ∈ (sinV q c).toList, v.oneCell' = true := by simp [sinV, Value.oneCell']
theorem codeOf_walk (p : Pt) (w : World) :
 Calls Tryz.prog 113 #[.agg (ptC p).toArray] w fun e w' => ∃ cv, e = .returned (.agg cv) ∧ CodeAt w' cv p ∧ Turn nowhere w w' := by
 obtain ⟨n, ch, st⟩ := p
 unfold ptC
 go_enter Tryz.func113, Tryz.ntmps113
 go_upto_region 1 with fail
 have hb1 := (Blk.new w 167 #[.int .i64 (n : Int), strV ch, strV st]).alloc (.cells #[.nilFunc, .nilFunc, .nilFunc] 186)
 have hb2 := Blk.new (w.alloc (.cells #[.int .i64 (n : Int), strV ch, strV st] 167)) 186 #[.nilFunc, .nilFunc, .nilFunc]
 have ht := ((Turn.refl nowhere w).alloc (.cells #[.int .i64 (n : Int), strV ch, strV st] 167)).alloc (.cells #[.nilFunc, .nilFunc, .nilFunc] 186)
 rw [show (w.alloc (.cells #[.int .i64 (n : Int), strV ch, strV st] 167)).heap.size = w.heap.size + 1 from by simp] at hb2
 generalize ((w.alloc (.cells #[.int .i64 (n : Int), strV ch, strV st] 167)).alloc (.cells #[.nilFunc, .nilFunc, .nilFunc] 186)) = w2 at *
 obtain ⟨b2, hq⟩ : ∃ b2, b2 = w.heap.size + 1 := ⟨_, rfl⟩
 obtain ⟨b1, hp⟩ : ∃ b1, b1 = w.heap.size := ⟨_, rfl⟩
 rw [← hq] at hb2 ⊢
 rw [← hp] at hb1 ⊢
 have HQ := zH (show w.heap.size < b2 from by omega)
 have HB2 := zH hb2
 have HT := zH ht
 clear hq hp ht hb2
 refine wp_region_lit ?_
 refine wR (v := .pointer (some ⟨b1, 2, none⟩)) rfl (exec_field (off := 0) (d := 2) rfl rfl (by kernel_rfl)) ?_
 simp only [zz]
 refine wR (v := strV st) rfl (exec_load1 rfl rfl (by kernel_rfl) (hb1.cell 2)) ?_
 simp only [zz]
 refine wR (v := .bool (st == [])) (w' := w2) rfl (exec_seql (m := []) rfl rfl rfl) ?_
 simp only [zz]
 have c11 : w2.cell? ⟨b1, 1, none⟩ = some (strV ch) := hb1.cell 1
 have c12 : w2.cell? ⟨b1, 2, none⟩ = some (strV st) := hb1.cell 2
 clear hb1
 by_cases hst : st = []
 ·have hst1 : (st == []) = true := by simpa using hst
  have HST := zH hst
  rw [hst1]
  clear hst hst1
  go_wp2_with (first
   | (go_at_call 127; refine (paired_walk ⟨ch.toArray⟩ _).mono ?_; rintro e w3 ⟨q, c, rfl, h1, h2, h3⟩)
   | (refine wpList_store_row rfl 186 (.tmp 2) (.tmp 8) rfl (pairV q c) (HB2.out.turn h3 (fun e => e)) rfl rfl rfl size_code (pair_one q c) ?_; intro w4 h4 h5))
  have e1 : q ≠ b2 := (h1.turn (Turn.refl nowhere _) (fun e => e)).ne_ (HB2.out.turn h3 (fun e => e)) (by decide)
  have e2 : c ≠ b2 := h2.ne_ (HB2.out.turn h3 (fun e => e)) (by decide)
  refine bodyPost_ret (v := .agg (pairV q c)) (results_cell_row rfl _ _ b2 186 _ (0, 0) _ rfl h4 Tryz.underlying186 rfl size_code) rfl
   ⟨_, rfl, .inl ⟨HST.out, q, c, rfl, h1.turn h5 e1, h2.turn h5 e2⟩, ?_⟩
  exact (HT.out.next h3).trans h5 (fun j hj e => by have := HQ.out; have h : j = b2 := e; omega)
 ·have hst1 : (st == []) = false := by simpa using hst
  have HST := zH hst
  rw [hst1]
  clear hst hst1
  go_wp2_with (first
   | (go_at_call 128; refine (single_walk ⟨ch.toArray⟩ ⟨st.toArray⟩ _).mono ?_; rintro e w3 ⟨q, c, rfl, h1, h2, h3⟩)
   | (refine wpList_store_row rfl 186 (.tmp 2) (.tmp 13) rfl (sinV q c) (HB2.out.turn h3 (fun e => e)) rfl rfl rfl size_code (sin_one q c) ?_; intro w4 h4 h5))
  have e1 : q ≠ b2 := h1.ne_ (HB2.out.turn h3 (fun e => e)) (by decide)
  have e2 : c ≠ b2 := h2.ne_ (HB2.out.turn h3 (fun e => e)) (by decide)
  refine bodyPost_ret (v := .agg (sinV q c)) (results_cell_row rfl _ _ b2 186 _ (0, 0) _ rfl h4 Tryz.underlying186 rfl size_code) rfl
   ⟨_, rfl, .inr ⟨HST.out, q, c, rfl, h1.turn h5 e1, h2.turn h5 e2⟩, ?_⟩
  exact (HT.out.next h3).trans h5 (fun j hj e => by have := HQ.out; have h : j = b2 := e; omega)
theorem row_ne {w : World} {B : Nat} {e : TypeId} {sz n g : Nat} {v : Value} {xs : List Value} {t : TypeId} {cs : Array Value} (h : w.ownsRow B e sz v n xs) (hg : Blk w g t cs) (ht : t ≠ e) : ¬ (some g = v.ownBlock) := by
 rcases h.2 with ⟨rfl, _⟩ | ⟨g', cap, cur, rfl, _, hg', _⟩
 ·intro e'; cases e'
 ·intro e'
  have e2 : g = g' := Option.some.inj e'
  subst e2
  have h1 : w.heap[g]? = some (.cells cs t (0, 0)) := hg
  rw [h1] at hg'
  injection hg' with h2
  injection h2 with _ h3
  exact ht h3
structure Ext (w w' : World) (v v' : Value) : Prop where
 tr : Turn (fun b => some b = v.ownBlock) w w'
 sub : ∀ b, some b = v'.ownBlock → b < w.heap.size → some b = v.ownBlock
theorem Ext.refl (w : World) (v : Value) : Ext w w v v := ⟨Turn.refl _ _, fun _ h _ => h⟩
theorem Ext.trans {w w1 w' : World} {v v1 v' : Value} (h : Ext w w1 v v1) (g : Ext w1 w' v1 v') : Ext w w' v v' where
 tr := h.tr.trans g.tr fun k hk e => h.sub k e hk
 sub := fun b e hb => h.sub b (g.sub b e (Nat.lt_of_lt_of_le hb h.tr.size)) hb
theorem Ext.still {w w1 : World} {v v' : Value} {w' : World} (h : Ext w w1 v v') (ht : Turn nowhere w1 w') : Ext w w' v v' := ⟨h.tr.trans ht fun _ _ e => e.elim, h.sub⟩
theorem Ext.behind {w w1 w' : World} {v v' : Value} (ht : Turn nowhere w w1) (h : Ext w1 w' v v') : Ext w w' v v' := ⟨(ht.mono fun _ _ e => e.elim).trans h.tr fun _ _ e => e, fun b e hb => h.sub b e (Nat.lt_of_lt_of_le hb ht.size)⟩
theorem Blk.ext {w w' : World} {v v' : Value} {g : Nat} {t : TypeId} {cs : Array Value} (h : Blk w g t cs) (he : Ext w w' v v') (hn : ¬ (some g = v.ownBlock)) : Blk w' g t cs := h.turn he.tr hn
theorem byteInfo : (Tryz.prog.info? 5).map (fun i => (i.zero, i.size, i.bytes)) = some (some (.int .u8 0), 1, 1) := by kernel_rfl
theorem append_news {w : World} {B : Nat} {v : Value} {bs : List UInt8} (hown : Own w B 5 v bs) (hB : B ≤ w.heap.size) (xs : List UInt8) (hlen : bs.length + xs.length ≤ 140737488355328) {m c : Nat} (hm : xs.length = m) :
 ∃ A c' w', (Builtin.append_ #[26, 26] 26 #[v, .slice (some ⟨w.heap.size, 0, none⟩) m c]).run Tryz.prog (w.alloc (.cells (bcs xs).toArray 5)) = .ok (.slice A (bs.length + m) c') w' ∧
  Own w' B 5 (.slice A (bs.length + m) c') (bs ++ xs) ∧ Ext w w' v (.slice A (bs.length + m) c') := by
 subst hm
 obtain ⟨i0, hi0, hz0, hz1, hz2⟩ := info_parts byteInfo
 obtain ⟨v', w', h1, h2, h3, _, h5⟩ := run_append_own_at (P := Tryz.prog) (w.alloc (.cells (bcs xs).toArray 5)) B 26 26 5 i0 _ 1 1 Tryz.underlying26 hi0 hz0 hz1 hz2
  rfl (by omega) v bs.length (bcs bs) (hown.alloc _) ⟨w.heap.size, 0, none⟩ xs.length c (bcs xs) (by rw [bcs_length, Nat.mul_one]) (fun j u hj => by
   rw [add_nat, Nat.zero_add, (Blk.new w 5 (bcs xs).toArray).cell j]
   simpa using hj) (bcs_one xs) (by unfold maxLen; omega) (by omega) (by simp; omega)
 obtain ⟨A, c', rfl⟩ := own_form h2
 refine ⟨A, c', w', h1, ?_, ((Turn.refl _ w).alloc _).grown h3 fun b e hb => e.symm, fun b e hb => ?_⟩
 ·unfold Own
  rw [List.length_append, bcs_append]
  exact h2
 ·rcases h5 with h5 | h5
  ·rw [← h5]
   exact e
  ·rw [h5] at e
   have : b = (w.alloc (.cells (bcs xs).toArray 5)).heap.size := Option.some.inj e
   simp at this
   omega
theorem u8_of (x : UInt8) : ((x.toNat : Int).toNat).toUInt8 = x := by simp
theorem index_walk (l : List UInt8) (x : UInt8) (w : World) :
 Calls Tryz.prog 147 #[strV l, .int .u8 (x.toNat : Int)] w fun e w' => e = .returned (.int .i64 (Lib.indexByte l x)) ∧ w' = w := by
 have h := Any.strings_IndexByte Tryz.lays137 ⟨l.toArray⟩ (x.toNat : Int) w
 rw [u8_of] at h
 exact h
theorem place_walk {w : World} {c : Nat} {ch : List UInt8} (hc : Blk w c 9 #[strV ch]) (x : UInt8) (hx : x ∈ ch) (hl : ch.length ≤ 16) :
 Calls Tryz.prog 146 #[.int .u8 (x.toNat : Int), ptrTo c] w fun e w' => e = .returned (.int .u8 ((ch.idxOf x : Nat) : Int)) ∧ w' = w := by
 unfold ptrTo
 have c0 : w.cell? ⟨c, 0, none⟩ = some (strV ch) := hc.cell 0
 have h := index_walk ch x w
 rw [index_mem ch x hx] at h
 have hlt := idx_lt hx
 generalize ch.idxOf x = k at *
 clear hx hc
 go_enter Tryz.func146, Tryz.ntmps146
 go_wp2_with (go_at_call 147; refine h.mono ?_; rintro e w1 ⟨rfl, rfl⟩)
 go_ret
 exact ⟨rfl, rfl⟩
theorem psize_walk (n : Nat) (hn : n ≤ 1000) (w : World) :
 Calls Tryz.prog 148 #[.int .i64 (n : Int)] w fun e w' => e = .returned (.int .i64 (((n + 1) / 2 : Nat) : Int)) ∧ w' = w := by
 go_enter Tryz.func148, Tryz.ntmps148
 go_wp2
 go_ret
 exact ⟨ret_int (show ((n : Int) + 1) / 2 = (((n + 1) / 2 : Nat) : Int) by omega), rfl⟩
theorem ssize_walk (n : Nat) (w : World) :
 Calls Tryz.prog 151 #[.int .i64 (n : Int)] w fun e w' => e = .returned (.int .i64 (n : Int)) ∧ w' = w := by
 go_enter Tryz.func151, Tryz.ntmps151
 go_wp2
 go_ret
 exact ⟨rfl, rfl⟩
def TwoS (s c : Nat) (st ch : List UInt8) (W : World) : Prop := Blk W s 9 #[strV st] ∧ Blk W c 9 #[strV ch]
theorem sput_walk {w : World} {s c B : Nat} {st ch t bs : List UInt8} {A0 : Option Addr} {n0 c0 : Nat} (hs : Blk w s 9 #[strV st]) (hc : Blk w c 9 #[strV ch]) (ht : onlyOf t ch = true) (hl : st.length = ch.length) (hown : Own w B 5 (.slice A0 n0 c0) bs) (hB : B ≤ w.heap.size)
 (hlen : bs.length + t.length ≤ 140737488355328) (ht1 : t.length ≤ 1000) (hch : ch.length ≤ 1000) :
 Calls Tryz.prog 152 #[.slice A0 n0 c0, strV t, ptrTo s, ptrTo c] w fun e w' => ∃ A n c', e = .returned (.slice A n c') ∧ Own w' B 5 (.slice A n c') (bs ++ t.map (one ch st)) ∧ Ext w w' (.slice A0 n0 c0) (.slice A n c') := by
 unfold ptrTo
 have HS := zH hs
 have HC := zH hc
 have HT := zH ht
 have HL := zH hl
 have HO := zH hown
 have HB := zH hB
 have HN := zH hlen
 have HT1 := zH ht1
 have HCH := zH hch
 clear hs hc ht hl hown hB hlen ht1 hch
 go_enter Tryz.func152, Tryz.ntmps152
 go_upto_region 1 with fail
 refine wp_region_lit ?_
 refine wM (strV t) ?_
 simp only [zz]
 refine wR (v := .int .i64 (t.length : Int)) (w' := w) rfl (exec_slen rfl rfl) ?_
 simp only [zz]
 obtain ⟨len, hlen⟩ : ∃ len, t.length = len := ⟨_, rfl⟩
 rw [hlen]
 have HLEN := zH hlen
 clear hlen
 go_wp2_with fail
 go_loopg [0, 10] len (fun gk b i wr => ∃ (k : Nat) (A : Option Addr) (n c' : Nat), k + gk = len ∧ i = .int .i64 (k : Int) ∧ b = .slice A n c' ∧ Own wr B 5 (.slice A n c') (bs ++ (t.take k).map (one ch st)) ∧ Ext w wr (.slice A0 n0 c0) (.slice A n c'))
 case atStart => exact ⟨0, _, _, _, by omega, rfl, rfl, by simpa using HO.out, Ext.refl _ _⟩
 case round =>
  obtain ⟨k, A, n, c', hkl, rfl, rfl, hO, hE⟩ := hrel
  have HKL := zH hkl
  have HO' := zH hO
  have HE := zH hE
  clear hkl hO hE
  by_cases hlt : k < len
  ·have y1 : (k : Int) < (len : Int) := by omega
   have y2 : (0 : Int) ≤ (k : Int) := by omega
   have y3 : (len : Int) ≤ 1000 := by have := HT1.out; have := HLEN.out; omega
   have HLT := zH hlt
   clear hlt
   go_upto_region 4 with fail
   have hk : k < t.length := by rw [HLEN.out]; exact HLT.out
   have hmem : t.getD k 0 ∈ ch := by
    rw [List.getD_eq_getElem?_getD, List.getElem?_eq_getElem hk]
    exact onlyOf_mem HT.out (List.getElem_mem _)
   have htk : (t.take (k + 1)).map (one ch st) = (t.take k).map (one ch st) ++ [one ch st (t.getD k 0)] := by
    rw [List.take_add_one, List.getElem?_eq_getElem hk, List.map_append, List.getD_eq_getElem?_getD, List.getElem?_eq_getElem hk]
    rfl
   have HK := zH hk
   have HTK := zH htk
   have hiw := index_walk ch (t.getD k 0)
   have hix := idx_lt hmem
   have hone : one ch st (t.getD k 0) = st.getD (ch.idxOf (t.getD k 0)) 0 := rfl
   rw [index_mem ch _ hmem] at hiw
   generalize ch.idxOf (t.getD k 0) = ix at *
   have HIW := zH hiw
   have HIX := zH hix
   have HONE := zH hone
   clear hiw hix hone hmem hk htk
   have hS0 : TwoS s c st ch wr.drew := ⟨(HS.out.ext HE.out (row_ne HO.out HS.out (by decide))).drew, (HC.out.ext HE.out (row_ne HO.out HC.out (by decide))).drew⟩
   refine wp_region_till (TwoS s c st ch) 7 (by kernel_rfl) ?_
   refine till_pure (i := 0) (v := .slice A n c') rfl (by kernel_rfl) (by kernel_rfl) (fun _ _ _ h => h) (.inl ⟨by rfl, fun W hW => exec_move rfl rfl⟩) hS0 ?_
   simp only [zz]
   refine tT (i := 1) (v := strV st) rfl (by kernel_rfl) (by kernel_rfl) (fun W hW => exec_load1 rfl rfl (by kernel_rfl) (hW.1.cell 0)) hS0 ?_
   simp only [zz]
   refine till_take2 6 (i := 2) (v := strV ch) rfl (by kernel_rfl) (by kernel_rfl) (fun _ _ _ h => h) (.inl ⟨by rfl, fun W hW => exec_load1 rfl rfl (by kernel_rfl) (hW.2.cell 0)⟩) hS0 ?_
   simp only [zz]
   refine till_pure (i := 3) (v := strV t) rfl (by kernel_rfl) (by kernel_rfl) (fun _ _ _ h => h) (.inl ⟨by rfl, fun W hW => exec_move rfl rfl⟩) hS0 ?_
   simp only [zz]
   refine till_pure (i := 4) (v := .int .i64 (k : Int)) rfl (by kernel_rfl) (by kernel_rfl) (fun _ _ _ h => h) (.inl ⟨by rfl, fun W hW => exec_move rfl rfl⟩) hS0 ?_
   simp only [zz]
   refine till_pure (i := 5) (v := .int .u8 ((t.getD k 0).toNat : Int)) rfl (by kernel_rfl) (by kernel_rfl) (fun _ _ _ h => h) (.inl ⟨by rfl, fun W hW => exec_sidx rfl rfl rfl HK.out⟩) hS0 ?_
   simp only [zz]
   refine till_step (i := 6) (by kernel_rfl) rfl rfl ?_
   intro K1 HK1
   go_wp2_with fail
   refine (HIW.out _).mono ?_
   rintro e w5 ⟨rfl, rfl⟩
   refine HK1.out _ _ ⟨fun _ => hS0, ?_⟩
   clear HK1
   refine till_tail 7 rfl (by kernel_rfl) ?_
   refine wR (v := .int .u8 ((one ch st (t.getD k 0)).toNat : Int)) rfl (by rw [HONE.out]; exact exec_sidx rfl rfl rfl (by rw [HL.out]; exact HIX.out)) ?_
   simp only [zz]
   obtain ⟨i0, hi0, hz0, hz1, hz2⟩ := info_parts byteInfo
   refine wR (v := _) rfl (exec_buildSlice1 rfl rfl (run_buildSlice_one (v := .int .u8 ((one ch st (t.getD k 0)).toNat : Int)) Tryz.underlying26 hi0 hz0 (by rw [hz1]; rfl) (by rw [hz1]; rfl) (by omega) (by omega) _)) ?_
   simp only [zz]
   obtain ⟨A6, c6, w6, hrun, hown6, hext6⟩ := append_news (m := 1) (c := 1) (w := wr.drew) HO'.out.drew (Nat.le_trans HB.out HE.out.tr.size) [one ch st (t.getD k 0)] (by rw [List.length_append, List.length_map, List.length_take]; have := HN.out; have := HK.out; simp; omega) rfl
   refine wR (v := .slice A6 ((bs ++ (t.take k).map (one ch st)).length + 1) c6) (w' := w6) rfl (exec_append rfl rfl rfl hrun) ?_
   simp only [zz]
   have HO6 := zH hown6
   have HE6 := zH hext6
   clear hrun hown6 hext6 hS0
   generalize ((bs ++ (t.take k).map (one ch st)).length + 1) = n6 at *
   go_wp2_with fail
   refine NoPanic.normal ?_
   go_wp2_with fail
   go_roundg (gk - 1)
   case measure => have := HKL.out; have := HLT.out; omega
   case rel =>
    refine ⟨k + 1, A6, n6, c6, by have := HKL.out; have := HLT.out; omega, by go_num, rfl, ?_, ?_⟩
    ·rw [HTK.out, ← List.append_assoc]
     exact HO6.out
    ·exact (HE.out.still (Turn.drew (Turn.refl _ _))).trans HE6.out
  ·have hke : k = len := by have := HKL.out; omega
   have y1 : ¬ ((k : Int) < (len : Int)) := by omega
   clear hlt
   have HKE := zH hke
   clear hke
   go_wp2_with fail
   go_ret
   refine ⟨A, n, c', rfl, ?_, HE.out⟩
   have := HO'.out
   rwa [List.take_of_length_le (by rw [HLEN.out, HKE.out]; exact Nat.le_refl _)] at this
theorem bs_turn {w w' : World} {A : Option Addr} {n : Nat} {bs : List UInt8} (h : Bs w A n bs) (ht : Turn nowhere w w') : Bs w' A n bs := by
 obtain ⟨h1, h2, h3⟩ := h
 refine ⟨h1, h2, fun hp => ?_⟩
 obtain ⟨b, off, e, hc⟩ := h3 hp
 exact ⟨b, off, e, fun i hi => by rw [ht.cell (World.block_lt_of_cell? _ _ (hc i hi)) (fun e => e)]; exact hc i hi⟩
theorem exec_makeV {P : Program} {a : Act} {o : Oper} {t : TypeId} {x y : Operand} {u u' v : Value} {W W' : World} (ho : o.op = .makeSlice t x y) (hx : a.eval x = u) (hy : a.eval y = u') (h : (Instr.makeSlice t u u').run P W = .ok v W') : (execOp a.eval o).run P W = .ok (.value v) W' := by
 unfold execOp
 simp only [ho, hx, hy, h, Sem.run_bind, Sem.run_pure, Result.andThen_ok]
theorem make_bytes (n m : Nat) (hn : n ≤ m) (hm : m ≤ 100000) (w : World) : (Instr.makeSlice 26 (.int .i64 (n : Int)) (.int .i64 (m : Int))).run Tryz.prog w = .ok (.slice (some ⟨w.heap.size, 0, none⟩) n m) (w.alloc (.cells (bcs (List.replicate m 0)).toArray 5)) := by
 obtain ⟨j0, hj0, hjz, hj1, hj2⟩ := info_parts byteInfo
 have h := run_makeSlice (P := Tryz.prog) w 26 5 j0 _ Tryz.underlying26 hj0 hjz .i64 .i64 (n : Int) (m : Int) (by omega) (by omega) (by rw [hj1]; omega) (by rw [hj2]; omega) (by omega)
 rw [h, hj1, Int.toNat_natCast, Int.toNat_natCast, Nat.mul_one, madeBytes]
 rfl
def fillL (f : UInt8 → UInt8) (bs : List UInt8) (k : Nat) : List UInt8 := (bs.take k).map f ++ List.replicate (bs.length - k) 0
theorem fill_zero (f : UInt8 → UInt8) (bs : List UInt8) : fillL f bs 0 = List.replicate bs.length 0 := by simp [fillL]
theorem fill_all (f : UInt8 → UInt8) (bs : List UInt8) : fillL f bs bs.length = bs.map f := by simp [fillL]
theorem fill_len (f : UInt8 → UInt8) (bs : List UInt8) (k : Nat) (h : k ≤ bs.length) : (fillL f bs k).length = bs.length := by simp [fillL]; omega
theorem fill_set (f : UInt8 → UInt8) (bs : List UInt8) (k : Nat) (h : k < bs.length) : (fillL f bs k).set k (f (bs.getD k 0)) = fillL f bs (k + 1) := by
 apply List.ext_getElem?
 intro j
 unfold fillL
 rw [List.getElem?_set]
 by_cases hj : k = j
 ·subst hj
  rw [if_pos rfl, if_pos (by simp; omega), List.getElem?_append_left (by simp; omega), List.getElem?_map, List.getElem?_take, if_pos (by omega), List.getElem?_eq_getElem h, List.getD_eq_getElem?_getD, List.getElem?_eq_getElem h]
  rfl
 ·rw [if_neg hj]
  by_cases h1 : j < k
  ·rw [List.getElem?_append_left (by simp; omega), List.getElem?_append_left (by simp; omega)]
   simp [h1, show j < k + 1 from by omega]
  ·rw [List.getElem?_append_right (by simp; omega), List.getElem?_append_right (by simp; omega)]
   simp only [List.length_map, List.length_take, List.getElem?_replicate]
   have e1 : min k bs.length = k := by omega
   have e2 : min (k + 1) bs.length = k + 1 := by omega
   rw [e1, e2]
   by_cases h2 : j < bs.length
   ·rw [if_pos (by omega), if_pos (by omega)]
   ·rw [if_neg (by omega), if_neg (by omega)]
theorem bcs_set (l : List UInt8) (i : Nat) (x : UInt8) : (bcs l).toArray.setIfInBounds i (.int .u8 (x.toNat : Int)) = (bcs (l.set i x)).toArray := by
 unfold bcs
 rw [List.setIfInBounds_toArray, List.map_set]
theorem index_cases (l : List UInt8) (x : UInt8) : (x ∈ l ∧ Lib.indexByte l x = (l.idxOf x : Int) ∧ l.idxOf x < l.length) ∨ (x ∉ l ∧ Lib.indexByte l x = -1) := by
 by_cases h : x ∈ l
 ·exact .inl ⟨h, index_mem l x h, idx_lt h⟩
 ·exact .inr ⟨h, index_not l x h⟩
def sdec (st ch bs : List UInt8) : Option (List UInt8) := if onlyOf bs st = true then some (bs.map (one st ch)) else none
def optV (o : Option (List UInt8)) : Value := .tuple #[strV (o.getD []), .bool o.isSome]
theorem stake_walk {w : World} {s c n cap : Nat} {st ch bs : List UInt8} {A : Option Addr} (hs : Blk w s 9 #[strV st]) (hc : Blk w c 9 #[strV ch]) (hl : st.length = ch.length) (hb : Bs w A n bs) (hn : n ≤ 1000) (hch : ch.length ≤ 1000) :
 Calls Tryz.prog 153 #[.slice A n cap, .int .i64 (n : Int), ptrTo s, ptrTo c] w fun e w' => e = .returned (optV (sdec st ch bs)) ∧ Turn nowhere w w' := by
 unfold ptrTo
 have HS := zH hs
 have HC := zH hc
 have HL := zH hl
 have HB := zH hb
 have HN := zH hn
 have HCH := zH hch
 clear hs hc hl hb hn hch
 go_enter Tryz.func153, Tryz.ntmps153
 go_upto_region 1 with fail
 refine wp_region_lit ?_
 refine wM (.int .i64 (n : Int)) ?_
 simp only [zz]
 refine wR (v := .slice (some ⟨w.heap.size, 0, none⟩) n n) (w' := w.alloc (.cells (bcs (List.replicate n 0)).toArray 5)) rfl (exec_makeV rfl rfl rfl (make_bytes n n (Nat.le_refl _) (by have := HN.out; omega) w)) ?_
 simp only [zz]
 have hg := Blk.new w 5 (bcs (List.replicate n 0)).toArray
 have ht := (Turn.refl nowhere w).alloc (.cells (bcs (List.replicate n 0)).toArray 5)
 generalize (w.alloc (.cells (bcs (List.replicate n 0)).toArray 5)) = w1 at *
 obtain ⟨g, hgg⟩ : ∃ g, g = w.heap.size := ⟨_, rfl⟩
 rw [← hgg] at hg ⊢
 have HGG := zH hgg
 have hbl : bs.length = n := HB.out.1
 rw [← hbl, ← fill_zero (one st ch)] at hg
 have HG := zH hg
 have HT := zH ht
 have HBL := zH hbl
 clear hg ht hgg hbl
 go_wp2_with fail
 go_loopg [16] n (fun gk i wr => ∃ k : Nat, k + gk = n ∧ i = .int .i64 (k : Int) ∧ Blk wr g 5 (bcs (fillL (one st ch) bs k)).toArray ∧ Turn nowhere w wr ∧ ∀ x ∈ bs.take k, x ∈ st)
 case atStart => exact ⟨0, by omega, rfl, HG.out, HT.out, fun x hx => by simp at hx⟩
 case round =>
  obtain ⟨k, hkl, rfl, hblk, htr, hin⟩ := hrel
  have HKL := zH hkl
  have HBLK := zH hblk
  have HTR := zH htr
  have HIN := zH hin
  clear hkl hblk htr hin
  by_cases hlt : k < n
  ·have y1 : (k : Int) < (n : Int) := by omega
   have y2 : (0 : Int) ≤ (k : Int) := by omega
   have y3 : (n : Int) ≤ 1000 := by have := HN.out; omega
   obtain ⟨h1, h2, h3⟩ := bs_turn HB.out HTR.out
   obtain ⟨b, off, rfl, hcell⟩ := h3 (by omega)
   have hcell := hcell k hlt
   have hkb : k < bs.length := by rw [HBL.out]; exact hlt
   have HKB := zH hkb
   have HLT := zH hlt
   have hmem : bs.getD k 0 ∈ bs := by
    rw [List.getD_eq_getElem?_getD, List.getElem?_eq_getElem hkb]
    exact List.getElem_mem _
   have HMEM := zH hmem
   have HX := zH (show bs.getD k 0 = bs.getD k 0 from rfl)
   have cs : wr.cell? ⟨s, 0, none⟩ = some (strV st) := (HS.out.turn HTR.out (fun e => e)).cell 0
   have cc : wr.cell? ⟨c, 0, none⟩ = some (strV ch) := (HC.out.turn HTR.out (fun e => e)).cell 0
   obtain ⟨x, hx⟩ : ∃ x, x = bs.getD k 0 := ⟨_, rfl⟩
   rw [← hx] at hcell
   have HXK := zH hx
   have hiw := index_walk st x
   clear hlt h1 h2 h3 hkb hmem hx
   rcases index_cases st x with ⟨hm, he, hi⟩ | ⟨hm, he⟩
   ·have hone : one st ch x = ch.getD (st.idxOf x) 0 := rfl
    rw [he] at hiw
    generalize st.idxOf x = ix at *
    have HONE := zH hone
    have HM := zH hm
    have HIX := zH hi
    have y5 : ¬ ((ix : Int) < 0) := by omega
    clear hone hm he hi
    go_upto_region 8 with (go_at_call 147; refine (hiw _).mono ?_; rintro e w5 ⟨rfl, rfl⟩)
    refine wp_region_lit ?_
    refine wM (.slice (some ⟨g, 0, none⟩) n n) ?_
    simp only [zz]
    refine wM (.int .i64 (k : Int)) ?_
    simp only [zz]
    refine wR (v := strV ch) rfl (exec_load1 rfl rfl (by kernel_rfl) cc) ?_
    simp only [zz]
    refine wM (.int .i64 (ix : Int)) ?_
    simp only [zz]
    refine wR (v := .int .u8 ((one st ch x).toNat : Int)) rfl (by rw [HONE.out]; exact exec_sidx rfl rfl rfl (by rw [← HL.out]; exact HIX.out)) ?_
    simp only [zz]
    have g0 : ∃ u, w5.cell? ⟨g, k, none⟩ = some u := ⟨_, (HBLK.out.cell k).trans (Array.getElem?_eq_getElem (by have := HKB.out; rw [List.size_toArray, bcs_length, fill_len _ _ _ (by omega)]; exact this))⟩
    obtain ⟨u, g0⟩ := g0
    have g1 := HBLK.out.frozen k
    generalize hz : one st ch x = z at *
    have HZ := zH hz
    clear hz
    go_wp2_with fail
    go_roundg (gk - 1)
    case measure => have := HKL.out; have := HLT.out; omega
    case rel =>
     refine ⟨k + 1, by have := HKL.out; have := HLT.out; omega, by go_num, ?_, ?_, ?_⟩
     ·have h := HBLK.out.set_ k (.int .u8 (z.toNat : Int))
      rw [bcs_set, ← HZ.out, HXK.out, fill_set (one st ch) bs k HKB.out] at h
      rw [HXK.out] at HZ
      rw [← HZ.out]
      exact h
     ·exact HTR.out.setCell (p := ⟨g, k, none⟩) (fun hb => by have := HGG.out; have hb' : g < w.heap.size := hb; omega) _
     ·intro y hy
      rw [List.take_add_one, List.mem_append] at hy
      rcases hy with hy | hy
      ·exact HIN.out y hy
      ·rw [List.getElem?_eq_getElem HKB.out] at hy
       have hxk := HXK.out
       rw [List.getD_eq_getElem?_getD, List.getElem?_eq_getElem HKB.out] at hxk
       simp at hy hxk
       rw [hy, ← hxk]
       exact HM.out
   ·rw [he] at hiw
    have HM := zH hm
    have HNO := zH (show sdec st ch bs = none from by
     unfold sdec
     rw [if_neg]
     intro h
     exact hm (by rw [HXK.out]; exact onlyOf_mem h HMEM.out))
    clear hm he
    go_wp2_with (go_at_call 147; refine (hiw _).mono ?_; rintro e w5 ⟨rfl, rfl⟩)
    go_ret2
    rw [HNO.out]
    exact ⟨rfl, HTR.out⟩
  ·have hke : k = n := by have := HKL.out; omega
   have y1 : ¬ ((k : Int) < (n : Int)) := by omega
   subst hke
   have HALL := zH (show sdec st ch bs = some (bs.map (one st ch)) from by
    unfold sdec
    rw [if_pos]
    unfold onlyOf
    rw [List.all_eq_true]
    intro x hx
    have := HIN.out x (by rw [List.take_of_length_le (by rw [HBL.out]; exact Nat.le_refl _)]; exact hx)
    simpa using this)
   have hblk := HBLK.out
   rw [← HBL.out, fill_all] at hblk
   have hbsA : Bs wr (some ⟨g, 0, none⟩) k (bs.map (one st ch)) := (Row.bs (n := k) (by exact hblk) (by rw [List.length_map, HBL.out]; exact Nat.le_refl _) (by have := HN.out; unfold maxLen; omega)) |> fun h => by rwa [List.take_of_length_le (by rw [List.length_map, HBL.out]; exact Nat.le_refl _)] at h
   clear hlt hblk
   go_upto_region 10 with fail
   refine wp_region_lit ?_
   refine wM (.slice (some ⟨g, 0, none⟩) k k) ?_
   simp only [zz]
   refine wR (v := strV (bs.map (one st ch))) (w' := wr) rfl (exec_strBs rfl rfl hbsA) ?_
   simp only [zz]
   go_wp2_with fail
   go_ret2
   rw [HALL.out]
   exact ⟨rfl, HTR.out⟩
section
variable {P : Program} {md : Region.Mode} {ops : Array Oper} {Q : Exit → Act → World → Prop} {S : World → Prop} {k : Nat}
end
theorem pack_take (ch : List UInt8) : ∀ (k : Nat) (T : List UInt8), 2 * k + 2 ≤ T.length → pack ch (T.take (2 * k + 2)) = pack ch (T.take (2 * k)) ++ [UInt8.ofNat (16 * ch.idxOf (T.getD (2 * k) 0) + ch.idxOf (T.getD (2 * k + 1) 0))]
 | 0, a :: b :: r, _ => by simp [pack]
 | k + 1, a :: b :: r, h => by
   have ih := pack_take ch k r (by simp at h; omega)
   rw [show 2 * (k + 1) + 2 = 2 * k + 2 + 2 from by omega, show 2 * (k + 1) = 2 * k + 2 from by omega]
   simp only [List.take_succ_cons, pack, List.cons_append, List.getD_cons_succ]
   rw [ih]
 | _, [], h => by simp at h
 | _, [_], h => by simp at h
theorem padded_len (t : List UInt8) : (padded t).length = 2 * ((t.length + 1) / 2) := by
 unfold padded
 by_cases h : t.length % 2 = 1
 ·rw [if_pos h, List.length_cons]
  omega
 ·rw [if_neg h]
  omega
theorem padded_mem {t ch : List UInt8} (h : onlyOf t ch = true) (h0 : 48 ∈ ch) {c : UInt8} (hc : c ∈ padded t) : c ∈ ch := by
 unfold padded at hc
 by_cases h1 : t.length % 2 = 1
 ·rw [if_pos h1] at hc
  rcases List.mem_cons.1 hc with rfl | hc
  ·exact h0
  ·exact onlyOf_mem h hc
 ·rw [if_neg h1] at hc
  exact onlyOf_mem h hc
def PlS (q c : Nat) (ch : List UInt8) (W : World) : Prop := Blk W q 141 #[placeV c] ∧ Blk W c 9 #[strV ch]
theorem exec_shl4 {W : World} {a : Act} {o : Oper} {x : Operand} (k : Nat) (hk : k < 16) (ho : o.op = .binOp .shl 5 x (.const (.int .u64 4)) 172) (hx : a.eval x = .int .u8 (k : Int)) : (execOp a.eval o).run Tryz.prog W = .ok (.value (.int .u8 ((16 * k : Nat) : Int))) W := by
 unfold execOp
 simp only [ho, hx]
 go_simp
 have h : ∀ k : Fin 16, IntKind.u8.wrap ((k.val : Int) * 16) = 16 * (k.val : Int) := by decide +kernel
 exact h ⟨k, hk⟩
theorem exec_or {W : World} {a : Act} {o : Oper} {x y : Operand} (k m : Nat) (hk : k < 16) (hm : m < 16) (ho : o.op = .binOp .or 5 x y 5) (hx : a.eval x = .int .u8 ((16 * k : Nat) : Int)) (hy : a.eval y = .int .u8 (m : Int)) : (execOp a.eval o).run Tryz.prog W = .ok (.value (.int .u8 ((16 * k + m : Nat) : Int))) W := by
 unfold execOp
 simp only [ho, hx, hy]
 go_simp
 have h : ∀ k m : Fin 16, bits BinOp.or IntKind.u8 (16 * (k.val : Int)) (m.val : Int) = 16 * (k.val : Int) + (m.val : Int) := by decide +kernel
 exact h ⟨k, hk⟩ ⟨m, hm⟩
theorem exec_lss {W : World} {a : Act} {o : Oper} {x y : Operand} {i j : Int} (ho : o.op = .binOp .lss 3 x y 3) (hx : a.eval x = .int .i64 i) (hy : a.eval y = .int .i64 j) (h : i < j) : (execOp a.eval o).run Tryz.prog W = .ok (.value (.bool true)) W := by
 unfold execOp
 simp only [ho, hx, hy]
 go_simp
theorem exec_nlss {W : World} {a : Act} {o : Oper} {x y : Operand} {i j : Int} (ho : o.op = .binOp .lss 3 x y 3) (hx : a.eval x = .int .i64 i) (hy : a.eval y = .int .i64 j) (h : ¬ (i < j)) : (execOp a.eval o).run Tryz.prog W = .ok (.value (.bool false)) W := by
 unfold execOp
 simp only [ho, hx, hy]
 go_simp
theorem pack_le (ch : List UInt8) : ∀ l : List UInt8, (pack ch l).length ≤ l.length
 | [] => Nat.le_refl _
 | [_] => by simp [pack]
 | a :: b :: r => by
   have := pack_le ch r
   simp only [pack, List.length_cons]
   omega
theorem tmod_one {n : Nat} (h : n % 2 = 1) : Int.tmod (n : Int) 2 = 1 := by
 rw [show Int.tmod (n : Int) 2 = ((n % 2 : Nat) : Int) from rfl, h]
 rfl
theorem tmod_nil {n : Nat} (h : ¬ n % 2 = 1) : Int.tmod (n : Int) 2 = 0 := by
 rw [show Int.tmod (n : Int) 2 = ((n % 2 : Nat) : Int) from rfl, show n % 2 = 0 from by omega]
 rfl
theorem pput_walk {w : World} {q c B : Nat} {ch t bs : List UInt8} {A0 : Option Addr} {n0 c0 : Nat} (hq : Blk w q 141 #[placeV c]) (hc : Blk w c 9 #[strV ch]) (ht : onlyOf t ch = true) (h48 : 48 ∈ ch) (hown : Own w B 5 (.slice A0 n0 c0) bs) (hB : B ≤ w.heap.size)
 (hlen : bs.length + t.length ≤ 140737488354000) (ht1 : t.length ≤ 1000) (hch : ch.length ≤ 16) :
 Calls Tryz.prog 149 #[.slice A0 n0 c0, strV t, ptrTo q] w fun e w' => ∃ A n c', e = .returned (.slice A n c') ∧ Own w' B 5 (.slice A n c') (bs ++ pack ch (padded t)) ∧ Ext w w' (.slice A0 n0 c0) (.slice A n c') := by
 unfold ptrTo
 have HQ := zH hq
 have HC := zH hc
 have HM := zH (fun x (hx : x ∈ padded t) => padded_mem ht h48 hx)
 have HO := zH hown
 have HB := zH hB
 have hpl := padded_len t
 have HN := zH (show bs.length + (padded t).length ≤ 140737488355328 from by omega)
 have HT1 := zH ht1
 have HCH := zH hch
 clear hq hc hown hB hlen hch ht h48
 go_enter Tryz.func149, Tryz.ntmps149
 go_upto_region 1 with fail
 refine wp_region_lit ?_
 refine wM (strV t) ?_
 simp only [zz]
 refine wR (v := .int .i64 (t.length : Int)) (w' := w) rfl (exec_slen rfl rfl) ?_
 simp only [zz]
 have hpd : padded t = if t.length % 2 = 1 then 48 :: t else t := rfl
 by_cases hodd : t.length % 2 = 1
 ·rw [if_pos hodd] at hpd
  refine wR (v := .int .i64 1) (w' := w) rfl (by go_simp; exact tmod_one hodd) ?_
  simp only [zz]
  have HPD := zH hpd
  have HPL := zH hpl
  clear hpd hpl hodd ht1
  go_upto_region 2 with fail
  refine wp_region_lit ?_
  refine wM (strV t) ?_
  simp only [zz]
  refine wR (v := strV (padded t)) (w' := w) rfl (by rw [HPD.out]; exact exec_sadd (l := [48]) rfl rfl rfl (by have := HT1.out; simp; omega)) ?_
  simp only [zz]
  obtain ⟨T, hTT⟩ : ∃ T, T = padded t := ⟨_, rfl⟩
  rw [← hTT]
  clear HPD
  rw [← hTT] at HPL HM HN
  have HTT := zH hTT
  clear hTT
  obtain ⟨h, hh⟩ : ∃ h, h = (t.length + 1) / 2 := ⟨_, rfl⟩
  have hT : T.length = 2 * h := by rw [hh]; exact HPL.out
  have hh1 : h ≤ 1000 := by have := HT1.out; omega
  have HT := zH hT
  have HH1 := zH hh1
  clear hT hh1 hh HPL HT1
  go_wp2_with fail
  go_loopg [0, 6] h (fun gk b i wr => ∃ (k : Nat) (A : Option Addr) (n c' : Nat), k + gk = h ∧ i = .int .i64 ((2 * k : Nat) : Int) ∧ b = .slice A n c' ∧ Own wr B 5 (.slice A n c') (bs ++ pack ch (T.take (2 * k))) ∧ Ext w wr (.slice A0 n0 c0) (.slice A n c'))
  case atStart => exact ⟨0, _, _, _, by omega, rfl, rfl, by simpa [pack] using HO.out, Ext.refl _ _⟩
  case round =>
   obtain ⟨k, A, n, c', hkl, rfl, rfl, hO, hE⟩ := hrel
   have HKL := zH hkl
   have HO' := zH hO
   have HE := zH hE
   clear hkl hO hE
   go_upto_region 4 with fail
   refine wp_region_lit ?_
   refine wM (.int .i64 ((2 * k : Nat) : Int)) ?_
   simp only [zz]
   refine wM (strV T) ?_
   simp only [zz]
   refine wR (v := .int .i64 ((2 * h : Nat) : Int)) (w' := wr) rfl (by rw [← HT.out]; exact exec_slen rfl rfl) ?_
   simp only [zz]
   by_cases hlt : k < h
   ·have y1 : ((2 * k : Nat) : Int) < ((2 * h : Nat) : Int) := by omega
    refine wR (v := .bool true) (w' := wr) rfl (exec_lss rfl rfl rfl y1) ?_
    simp only [zz]
    have HLT := zH hlt
    clear hlt y1
    go_upto_region 6 with fail
    have hk0 : 2 * k < T.length := by rw [HT.out]; have := HLT.out; omega
    have hk1 : 2 * k + 1 < T.length := by rw [HT.out]; have := HLT.out; omega
    have hm0 : T.getD (2 * k) 0 ∈ ch := by
     rw [List.getD_eq_getElem?_getD, List.getElem?_eq_getElem hk0]
     exact HM.out _ (List.getElem_mem _)
    have hm1 : T.getD (2 * k + 1) 0 ∈ ch := by
     rw [List.getD_eq_getElem?_getD, List.getElem?_eq_getElem hk1]
     exact HM.out _ (List.getElem_mem _)
    have HK0 := zH hk0
    have HK1 := zH hk1
    have HM0 := zH hm0
    have HM1 := zH hm1
    have HP0 := zH (fun W (hW : PlS q c ch W) => place_walk hW.2 _ hm0 HCH.out)
    have HP1 := zH (fun W (hW : PlS q c ch W) => place_walk hW.2 _ hm1 HCH.out)
    have HI0 := zH (show ch.idxOf (T.getD (2 * k) 0) < 16 from Nat.lt_of_lt_of_le (idx_lt hm0) HCH.out)
    have HI1 := zH (show ch.idxOf (T.getD (2 * k + 1) 0) < 16 from Nat.lt_of_lt_of_le (idx_lt hm1) HCH.out)
    have htk := pack_take ch k T (by rw [HT.out]; have := HLT.out; omega)
    generalize ch.idxOf (T.getD (2 * k) 0) = i0 at *
    generalize ch.idxOf (T.getD (2 * k + 1) 0) = i1 at *
    have hby : ((UInt8.ofNat (16 * i0 + i1)).toNat : Int) = ((16 * i0 + i1 : Nat) : Int) := by rw [UInt8.toNat_ofNat']; have := HI0.out; have := HI1.out; omega
    generalize UInt8.ofNat (16 * i0 + i1) = z at *
    have HTK := zH htk
    have HBY := zH hby
    clear hk0 hk1 hm0 hm1 htk hby
    have hS0 : PlS q c ch wr.drew := ⟨(HQ.out.ext HE.out (row_ne HO.out HQ.out (by decide))).drew, (HC.out.ext HE.out (row_ne HO.out HC.out (by decide))).drew⟩
    have x64 : (2 * (k : Int) + 1) ≤ 2001 := by have := HLT.out; have := HH1.out; omega
    refine wp_region_till (PlS q c ch) 16 (by kernel_rfl) ?_
    refine till_pure (i := 0) (v := .slice A n c') rfl (by kernel_rfl) (by kernel_rfl) (fun _ _ _ h => h) (.inl ⟨by rfl, fun W hW => exec_move rfl rfl⟩) hS0 ?_
    simp only [zz]
    refine tT (i := 1) (v := placeV c) rfl (by kernel_rfl) (by kernel_rfl) (fun W hW => exec_load1 rfl rfl (by kernel_rfl) (hW.1.cell 0)) hS0 ?_
    simp only [zz]
    refine till_pure (i := 2) (v := strV T) rfl (by kernel_rfl) (by kernel_rfl) (fun _ _ _ h => h) (.inl ⟨by rfl, fun W hW => exec_move rfl rfl⟩) hS0 ?_
    simp only [zz]
    refine till_pure (i := 3) (v := .int .i64 ((2 * k : Nat) : Int)) rfl (by kernel_rfl) (by kernel_rfl) (fun _ _ _ h => h) (.inl ⟨by rfl, fun W hW => exec_move rfl rfl⟩) hS0 ?_
    simp only [zz]
    refine till_pure (i := 4) (v := .int .u8 ((T.getD (2 * k) 0).toNat : Int)) rfl (by kernel_rfl) (by kernel_rfl) (fun _ _ _ h => h) (.inl ⟨by rfl, fun W hW => exec_sidx rfl rfl rfl HK0.out⟩) hS0 ?_
    simp only [zz]
    refine tT (i := 7) (v := placeV c) rfl (by kernel_rfl) (by kernel_rfl) (fun W hW => exec_load1 rfl rfl (by kernel_rfl) (hW.1.cell 0)) hS0 ?_
    simp only [zz]
    refine till_pure (i := 8) (v := strV T) rfl (by kernel_rfl) (by kernel_rfl) (fun _ _ _ h => h) (.inl ⟨by rfl, fun W hW => exec_move rfl rfl⟩) hS0 ?_
    simp only [zz]
    refine till_pure (i := 9) (v := .int .i64 ((2 * k : Nat) : Int)) rfl (by kernel_rfl) (by kernel_rfl) (fun _ _ _ h => h) (.inl ⟨by rfl, fun W hW => exec_move rfl rfl⟩) hS0 ?_
    simp only [zz]
    refine till_pure (i := 10) (v := .int .i64 ((2 * k + 1 : Nat) : Int)) rfl (by kernel_rfl) (by kernel_rfl) (fun _ _ _ h => h) (.inl ⟨by rfl, fun W hW => by go_simp; rw [IntKind.wrap_i64]; omega⟩) hS0 ?_
    simp only [zz]
    refine till_pure (i := 11) (v := .int .u8 ((T.getD (2 * k + 1) 0).toNat : Int)) rfl (by kernel_rfl) (by kernel_rfl) (fun _ _ _ h => h) (.inl ⟨by rfl, fun W hW => exec_sidx rfl rfl rfl HK1.out⟩) hS0 ?_
    simp only [zz]
    refine till_step (i := 5) (by kernel_rfl) rfl rfl ?_
    intro K1 HK1x
    try unfold placeV
    go_wp2_with fail
    refine (HP0.out _ hS0).mono ?_
    rintro e w5 ⟨rfl, rfl⟩
    refine HK1x.out _ _ ⟨fun _ => hS0, ?_⟩
    clear HK1x
    refine till_pure (i := 6) (v := .int .u8 ((16 * i0 : Nat) : Int)) rfl (by kernel_rfl) (by kernel_rfl) (fun _ _ _ h => h) (.inl ⟨by rfl, fun W hW => exec_shl4 i0 HI0.out rfl rfl⟩) hS0 ?_
    simp only [zz]
    refine till_step (i := 12) (by kernel_rfl) rfl rfl ?_
    intro K1 HK1x
    try unfold placeV
    go_wp2_with fail
    refine (HP1.out _ hS0).mono ?_
    rintro e w5 ⟨rfl, rfl⟩
    refine HK1x.out _ _ ⟨fun _ => hS0, ?_⟩
    clear HK1x
    refine till_only (i := 13) (by kernel_rfl) rfl rfl ?_
    refine wp_run (v := .int .u8 (z.toNat : Int)) (w' := wr.drew) (by rw [HBY.out]; exact exec_or i0 i1 HI0.out HI1.out rfl rfl rfl) ?_
    refine ⟨fun _ => hS0, ?_⟩
    simp only [zz]
    obtain ⟨j0, hj0, hjz, hj1, hj2⟩ := info_parts byteInfo
    refine till_only (i := 14) (by kernel_rfl) rfl rfl ?_
    refine wp_run (exec_buildSlice1 rfl rfl (run_buildSlice_one (v := .int .u8 (z.toNat : Int)) Tryz.underlying26 hj0 hjz (by rw [hj1]; rfl) (by rw [hj1]; rfl) (by omega) (by omega) _)) ?_
    refine ⟨fun _ => ⟨hS0.1.alloc _, hS0.2.alloc _⟩, ?_⟩
    simp only [zz]
    obtain ⟨A6, c6, w6, hrun, hown6, hext6⟩ := append_news (m := 1) (c := 1) (w := wr.drew) HO'.out.drew (Nat.le_trans HB.out HE.out.tr.size) [z] (by
     have hn := HN.out
     have h1 := HK0.out
     have h2 : (pack ch (T.take (2 * k))).length ≤ (T.take (2 * k)).length := pack_le ch _
     rw [List.length_take] at h2
     rw [List.length_append]
     simp
     omega) rfl
    refine till_only (i := 15) (by kernel_rfl) rfl rfl ?_
    refine wp_run (v := .slice A6 ((bs ++ pack ch (T.take (2 * k))).length + 1) c6) (w' := w6) (exec_append rfl rfl rfl hrun) ?_
    refine ⟨fun _ => ⟨hS0.1.ext hext6 (row_ne HO'.out hS0.1 (by decide)), hS0.2.ext hext6 (row_ne HO'.out hS0.2 (by decide))⟩, ?_⟩
    simp only [zz]
    have HO6 := zH hown6
    have HE6 := zH hext6
    clear hrun hown6 hext6 hS0
    generalize ((bs ++ pack ch (T.take (2 * k))).length + 1) = n6 at *
    refine till_tail 16 rfl (by kernel_rfl) ?_
    go_wp2_with fail
    refine NoPanic.normal ?_
    go_wp2_with fail
    go_roundg (gk - 1)
    case measure => have := HKL.out; have := HLT.out; omega
    case rel =>
     refine ⟨k + 1, A6, n6, c6, by have := HKL.out; have := HLT.out; omega, by go_num, rfl, ?_, ?_⟩
     ·rw [show 2 * (k + 1) = 2 * k + 2 from by omega, HTK.out, ← List.append_assoc]
      exact HO6.out
     ·exact (HE.out.still (Turn.drew (Turn.refl _ _))).trans HE6.out
   ·have hke : k = h := by have := HKL.out; omega
    have y1 : ¬ (((2 * k : Nat) : Int) < ((2 * h : Nat) : Int)) := by omega
    refine wR (v := .bool false) (w' := wr) rfl (exec_nlss rfl rfl rfl y1) ?_
    simp only [zz]
    have HKE := zH hke
    clear hlt hke y1
    go_wp2_with fail
    go_ret
    refine ⟨A, n, c', rfl, ?_, HE.out⟩
    have := HO'.out
    rw [List.take_of_length_le (by rw [HT.out, HKE.out]; exact Nat.le_refl _)] at this
    rw [← HTT.out]
    exact this
 ·rw [if_neg hodd] at hpd
  refine wR (v := .int .i64 0) (w' := w) rfl (by go_simp; exact tmod_nil hodd) ?_
  simp only [zz]
  have HPL := zH hpl
  have HPD := zH hpd
  clear hpl hodd ht1 hpd
  obtain ⟨T, hTT⟩ : ∃ T, T = padded t := ⟨_, rfl⟩
  have hTt : T = t := hTT.trans HPD.out
  rw [← hTt]
  clear hTt HPD
  rw [← hTT] at HPL HM HN
  have HTT := zH hTT
  clear hTT
  obtain ⟨h, hh⟩ : ∃ h, h = (t.length + 1) / 2 := ⟨_, rfl⟩
  have hT : T.length = 2 * h := by rw [hh]; exact HPL.out
  have hh1 : h ≤ 1000 := by have := HT1.out; omega
  have HT := zH hT
  have HH1 := zH hh1
  clear hT hh1 hh HPL HT1
  go_wp2_with fail
  go_loopg [0, 6] h (fun gk b i wr => ∃ (k : Nat) (A : Option Addr) (n c' : Nat), k + gk = h ∧ i = .int .i64 ((2 * k : Nat) : Int) ∧ b = .slice A n c' ∧ Own wr B 5 (.slice A n c') (bs ++ pack ch (T.take (2 * k))) ∧ Ext w wr (.slice A0 n0 c0) (.slice A n c'))
  case atStart => exact ⟨0, _, _, _, by omega, rfl, rfl, by simpa [pack] using HO.out, Ext.refl _ _⟩
  case round =>
   obtain ⟨k, A, n, c', hkl, rfl, rfl, hO, hE⟩ := hrel
   have HKL := zH hkl
   have HO' := zH hO
   have HE := zH hE
   clear hkl hO hE
   go_upto_region 4 with fail
   refine wp_region_lit ?_
   refine wM (.int .i64 ((2 * k : Nat) : Int)) ?_
   simp only [zz]
   refine wM (strV T) ?_
   simp only [zz]
   refine wR (v := .int .i64 ((2 * h : Nat) : Int)) (w' := wr) rfl (by rw [← HT.out]; exact exec_slen rfl rfl) ?_
   simp only [zz]
   by_cases hlt : k < h
   ·have y1 : ((2 * k : Nat) : Int) < ((2 * h : Nat) : Int) := by omega
    refine wR (v := .bool true) (w' := wr) rfl (exec_lss rfl rfl rfl y1) ?_
    simp only [zz]
    have HLT := zH hlt
    clear hlt y1
    go_upto_region 6 with fail
    have hk0 : 2 * k < T.length := by rw [HT.out]; have := HLT.out; omega
    have hk1 : 2 * k + 1 < T.length := by rw [HT.out]; have := HLT.out; omega
    have hm0 : T.getD (2 * k) 0 ∈ ch := by
     rw [List.getD_eq_getElem?_getD, List.getElem?_eq_getElem hk0]
     exact HM.out _ (List.getElem_mem _)
    have hm1 : T.getD (2 * k + 1) 0 ∈ ch := by
     rw [List.getD_eq_getElem?_getD, List.getElem?_eq_getElem hk1]
     exact HM.out _ (List.getElem_mem _)
    have HK0 := zH hk0
    have HK1 := zH hk1
    have HM0 := zH hm0
    have HM1 := zH hm1
    have HP0 := zH (fun W (hW : PlS q c ch W) => place_walk hW.2 _ hm0 HCH.out)
    have HP1 := zH (fun W (hW : PlS q c ch W) => place_walk hW.2 _ hm1 HCH.out)
    have HI0 := zH (show ch.idxOf (T.getD (2 * k) 0) < 16 from Nat.lt_of_lt_of_le (idx_lt hm0) HCH.out)
    have HI1 := zH (show ch.idxOf (T.getD (2 * k + 1) 0) < 16 from Nat.lt_of_lt_of_le (idx_lt hm1) HCH.out)
    have htk := pack_take ch k T (by rw [HT.out]; have := HLT.out; omega)
    generalize ch.idxOf (T.getD (2 * k) 0) = i0 at *
    generalize ch.idxOf (T.getD (2 * k + 1) 0) = i1 at *
    have hby : ((UInt8.ofNat (16 * i0 + i1)).toNat : Int) = ((16 * i0 + i1 : Nat) : Int) := by rw [UInt8.toNat_ofNat']; have := HI0.out; have := HI1.out; omega
    generalize UInt8.ofNat (16 * i0 + i1) = z at *
    have HTK := zH htk
    have HBY := zH hby
    clear hk0 hk1 hm0 hm1 htk hby
    have hS0 : PlS q c ch wr.drew := ⟨(HQ.out.ext HE.out (row_ne HO.out HQ.out (by decide))).drew, (HC.out.ext HE.out (row_ne HO.out HC.out (by decide))).drew⟩
    have x64 : (2 * (k : Int) + 1) ≤ 2001 := by have := HLT.out; have := HH1.out; omega
    refine wp_region_till (PlS q c ch) 16 (by kernel_rfl) ?_
    refine till_pure (i := 0) (v := .slice A n c') rfl (by kernel_rfl) (by kernel_rfl) (fun _ _ _ h => h) (.inl ⟨by rfl, fun W hW => exec_move rfl rfl⟩) hS0 ?_
    simp only [zz]
    refine tT (i := 1) (v := placeV c) rfl (by kernel_rfl) (by kernel_rfl) (fun W hW => exec_load1 rfl rfl (by kernel_rfl) (hW.1.cell 0)) hS0 ?_
    simp only [zz]
    refine till_pure (i := 2) (v := strV T) rfl (by kernel_rfl) (by kernel_rfl) (fun _ _ _ h => h) (.inl ⟨by rfl, fun W hW => exec_move rfl rfl⟩) hS0 ?_
    simp only [zz]
    refine till_pure (i := 3) (v := .int .i64 ((2 * k : Nat) : Int)) rfl (by kernel_rfl) (by kernel_rfl) (fun _ _ _ h => h) (.inl ⟨by rfl, fun W hW => exec_move rfl rfl⟩) hS0 ?_
    simp only [zz]
    refine till_pure (i := 4) (v := .int .u8 ((T.getD (2 * k) 0).toNat : Int)) rfl (by kernel_rfl) (by kernel_rfl) (fun _ _ _ h => h) (.inl ⟨by rfl, fun W hW => exec_sidx rfl rfl rfl HK0.out⟩) hS0 ?_
    simp only [zz]
    refine tT (i := 7) (v := placeV c) rfl (by kernel_rfl) (by kernel_rfl) (fun W hW => exec_load1 rfl rfl (by kernel_rfl) (hW.1.cell 0)) hS0 ?_
    simp only [zz]
    refine till_pure (i := 8) (v := strV T) rfl (by kernel_rfl) (by kernel_rfl) (fun _ _ _ h => h) (.inl ⟨by rfl, fun W hW => exec_move rfl rfl⟩) hS0 ?_
    simp only [zz]
    refine till_pure (i := 9) (v := .int .i64 ((2 * k : Nat) : Int)) rfl (by kernel_rfl) (by kernel_rfl) (fun _ _ _ h => h) (.inl ⟨by rfl, fun W hW => exec_move rfl rfl⟩) hS0 ?_
    simp only [zz]
    refine till_pure (i := 10) (v := .int .i64 ((2 * k + 1 : Nat) : Int)) rfl (by kernel_rfl) (by kernel_rfl) (fun _ _ _ h => h) (.inl ⟨by rfl, fun W hW => by go_simp; rw [IntKind.wrap_i64]; omega⟩) hS0 ?_
    simp only [zz]
    refine till_pure (i := 11) (v := .int .u8 ((T.getD (2 * k + 1) 0).toNat : Int)) rfl (by kernel_rfl) (by kernel_rfl) (fun _ _ _ h => h) (.inl ⟨by rfl, fun W hW => exec_sidx rfl rfl rfl HK1.out⟩) hS0 ?_
    simp only [zz]
    refine till_step (i := 5) (by kernel_rfl) rfl rfl ?_
    intro K1 HK1x
    try unfold placeV
    go_wp2_with fail
    refine (HP0.out _ hS0).mono ?_
    rintro e w5 ⟨rfl, rfl⟩
    refine HK1x.out _ _ ⟨fun _ => hS0, ?_⟩
    clear HK1x
    refine till_pure (i := 6) (v := .int .u8 ((16 * i0 : Nat) : Int)) rfl (by kernel_rfl) (by kernel_rfl) (fun _ _ _ h => h) (.inl ⟨by rfl, fun W hW => exec_shl4 i0 HI0.out rfl rfl⟩) hS0 ?_
    simp only [zz]
    refine till_step (i := 12) (by kernel_rfl) rfl rfl ?_
    intro K1 HK1x
    try unfold placeV
    go_wp2_with fail
    refine (HP1.out _ hS0).mono ?_
    rintro e w5 ⟨rfl, rfl⟩
    refine HK1x.out _ _ ⟨fun _ => hS0, ?_⟩
    clear HK1x
    refine till_only (i := 13) (by kernel_rfl) rfl rfl ?_
    refine wp_run (v := .int .u8 (z.toNat : Int)) (w' := wr.drew) (by rw [HBY.out]; exact exec_or i0 i1 HI0.out HI1.out rfl rfl rfl) ?_
    refine ⟨fun _ => hS0, ?_⟩
    simp only [zz]
    obtain ⟨j0, hj0, hjz, hj1, hj2⟩ := info_parts byteInfo
    refine till_only (i := 14) (by kernel_rfl) rfl rfl ?_
    refine wp_run (exec_buildSlice1 rfl rfl (run_buildSlice_one (v := .int .u8 (z.toNat : Int)) Tryz.underlying26 hj0 hjz (by rw [hj1]; rfl) (by rw [hj1]; rfl) (by omega) (by omega) _)) ?_
    refine ⟨fun _ => ⟨hS0.1.alloc _, hS0.2.alloc _⟩, ?_⟩
    simp only [zz]
    obtain ⟨A6, c6, w6, hrun, hown6, hext6⟩ := append_news (m := 1) (c := 1) (w := wr.drew) HO'.out.drew (Nat.le_trans HB.out HE.out.tr.size) [z] (by
     have hn := HN.out
     have h1 := HK0.out
     have h2 : (pack ch (T.take (2 * k))).length ≤ (T.take (2 * k)).length := pack_le ch _
     rw [List.length_take] at h2
     rw [List.length_append]
     simp
     omega) rfl
    refine till_only (i := 15) (by kernel_rfl) rfl rfl ?_
    refine wp_run (v := .slice A6 ((bs ++ pack ch (T.take (2 * k))).length + 1) c6) (w' := w6) (exec_append rfl rfl rfl hrun) ?_
    refine ⟨fun _ => ⟨hS0.1.ext hext6 (row_ne HO'.out hS0.1 (by decide)), hS0.2.ext hext6 (row_ne HO'.out hS0.2 (by decide))⟩, ?_⟩
    simp only [zz]
    have HO6 := zH hown6
    have HE6 := zH hext6
    clear hrun hown6 hext6 hS0
    generalize ((bs ++ pack ch (T.take (2 * k))).length + 1) = n6 at *
    refine till_tail 16 rfl (by kernel_rfl) ?_
    go_wp2_with fail
    refine NoPanic.normal ?_
    go_wp2_with fail
    go_roundg (gk - 1)
    case measure => have := HKL.out; have := HLT.out; omega
    case rel =>
     refine ⟨k + 1, A6, n6, c6, by have := HKL.out; have := HLT.out; omega, by go_num, rfl, ?_, ?_⟩
     ·rw [show 2 * (k + 1) = 2 * k + 2 from by omega, HTK.out, ← List.append_assoc]
      exact HO6.out
     ·exact (HE.out.still (Turn.drew (Turn.refl _ _))).trans HE6.out
   ·have hke : k = h := by have := HKL.out; omega
    have y1 : ¬ (((2 * k : Nat) : Int) < ((2 * h : Nat) : Int)) := by omega
    refine wR (v := .bool false) (w' := wr) rfl (exec_nlss rfl rfl rfl y1) ?_
    simp only [zz]
    have HKE := zH hke
    clear hlt hke y1
    go_wp2_with fail
    go_ret
    refine ⟨A, n, c', rfl, ?_, HE.out⟩
    have := HO'.out
    rw [List.take_of_length_le (by rw [HT.out, HKE.out]; exact Nat.le_refl _)] at this
    rw [← HTT.out]
    exact this
theorem exec_shr4 {W : World} {a : Act} {o : Oper} {x : Operand} (z : UInt8) (ho : o.op = .binOp .shr 5 x (.const (.int .u64 4)) 172) (hx : a.eval x = .int .u8 (z.toNat : Int)) : (execOp a.eval o).run Tryz.prog W = .ok (.value (.int .u8 ((z.toNat / 16 : Nat) : Int))) W := by
 unfold execOp
 simp only [ho, hx]
 go_simp
theorem exec_and15 {W : World} {a : Act} {o : Oper} {x : Operand} (z : UInt8) (ho : o.op = .binOp .and 5 x (.const (.int .u8 15)) 5) (hx : a.eval x = .int .u8 (z.toNat : Int)) : (execOp a.eval o).run Tryz.prog W = .ok (.value (.int .u8 ((z.toNat % 16 : Nat) : Int))) W := by
 unfold execOp
 simp only [ho, hx]
 go_simp
 have h : ∀ k : Fin 256, bits BinOp.and IntKind.u8 (k.val : Int) 15 = (k.val : Int) % 16 := by decide +kernel
 exact h ⟨z.toNat, z.toNat_lt⟩
theorem exec_sub {W : World} {a : Act} {o : Oper} {x y : Operand} {m n : Nat} (ho : o.op = .binOp .sub 3 x y 3) (hx : a.eval x = .int .i64 (m : Int)) (hy : a.eval y = .int .i64 (n : Int)) (h : n ≤ m) (hm : m ≤ 1000000) : (execOp a.eval o).run Tryz.prog W = .ok (.value (.int .i64 ((m - n : Nat) : Int))) W := by
 unfold execOp
 simp only [ho, hx, hy]
 have e : IntKind.i64.wrap ((m : Int) - (n : Int)) = ((m - n : Nat) : Int) := by
  rw [IntKind.wrap_i64]
  omega
 rw [← e]
 go_simp
theorem exec_u8int {W : World} {a : Act} {o : Oper} {x : Operand} (n : Nat) (hn : n < 256) (ho : o.op = .convert 5 3 x) (hx : a.eval x = .int .u8 (n : Int)) : (execOp a.eval o).run Tryz.prog W = .ok (.value (.int .i64 (n : Int))) W := by
 unfold execOp
 simp only [ho, hx]
 go_simp
 rw [IntKind.wrap_i64]
 omega
theorem build_two (x y : Int) (W : World) : (Instr.buildSlice 26 2 #[(0, .int .u8 x), (1, .int .u8 y)]).run Tryz.prog W = .ok (.slice (some ⟨W.heap.size, 0, none⟩) 2 2) (W.alloc (.cells #[.int .u8 x, .int .u8 y] 5)) := by kernel_rfl
theorem exec_build2 {P : Program} {a : Act} {o : Oper} {t : TypeId} {x y : Operand} {u v r : Value} {W W' : World} (ho : o.op = .buildSlice t 2 #[(0, x), (1, y)]) (hx : a.eval x = u) (hy : a.eval y = v)
 (h : (Instr.buildSlice t 2 #[(0, u), (1, v)]).run P W = .ok r W') : (execOp a.eval o).run P W = .ok (.value r) W' := by
 unfold execOp
 simp only [ho, List.map_toArray, List.map_cons, List.map_nil, hx, hy, h, Sem.run_bind, Sem.run_pure, Result.andThen_ok]
theorem unpack_len (ch : List UInt8) : ∀ bs : List UInt8, (unpack ch bs).length = 2 * bs.length
 | [] => rfl
 | x :: r => by
   have := unpack_len ch r
   simp only [unpack, List.length_cons]
   omega
theorem unpack_snoc (ch : List UInt8) : ∀ (k : Nat) (bs : List UInt8), k < bs.length → unpack ch (bs.take (k + 1)) = unpack ch (bs.take k) ++ [ch.getD ((bs.getD k 0).toNat / 16) 0, ch.getD ((bs.getD k 0).toNat % 16) 0]
 | 0, x :: r, _ => by simp [unpack]
 | k + 1, x :: r, h => by
   have ih := unpack_snoc ch k r (by simpa using h)
   simp only [List.take_succ_cons, unpack, List.cons_append, List.getD_cons_succ]
   rw [ih]
 | _, [], h => by simp at h
def okB (ch : List UInt8) (x : UInt8) : Prop := x.toNat / 16 < ch.length ∧ x.toNat % 16 < ch.length
theorem packOk_of {ch bs : List UInt8} (h : ∀ x ∈ bs, okB ch x) : packOk ch bs = true := by
 unfold packOk
 rw [List.all_eq_true]
 intro x hx
 have := h x hx
 simp only [Bool.and_eq_true, decide_eq_true_eq]
 exact this
theorem packOk_not {ch bs : List UInt8} {x : UInt8} (hx : x ∈ bs) (h : ¬ okB ch x) : packOk ch bs = false := by
 rw [Bool.eq_false_iff]
 intro hp
 have := List.all_eq_true.1 hp x hx
 simp only [Bool.and_eq_true, decide_eq_true_eq] at this
 exact h this
theorem slice_end (g L c d : Nat) (h0 : d < L) (hc : L ≤ c) (W : World) : (Instr.sliceAt 26 (.slice (some ⟨g, 0, none⟩) L c) (some (.int .i64 (d : Int))) none none).run Tryz.prog W = .ok (.slice (some ⟨g, d, none⟩) (L - d) (c - d)) W := by
 have hi : ∃ i, Tryz.prog.info? 5 = some i ∧ i.size = 1 := by
  have h := byteInfo
  cases hq : Tryz.prog.info? 5 with
  | none => rw [hq] at h; cases h
  | some i => exact ⟨i, rfl, by rw [hq] at h; simp at h; exact h.2.1⟩
 obtain ⟨i, hi1, hi2⟩ := hi
 have e1 : (⟨g, 0, none⟩ : Addr).add d = ⟨g, d, none⟩ := by rw [add_nat, Nat.zero_add]
 have b1 : (0 : Int) ≤ (d : Int) ∧ (d : Int) ≤ (L : Int) := ⟨by omega, by omega⟩
 have hne : c ≠ d := by omega
 have hu := Tryz.underlying26
 simp [Instr.sliceAt, Instr.slice, Instr.sliceBounds, Instr.sliceBound, asIntOf, run_underlying hu, sizeOf, typeInfo, hi1, hi2, b1, hne, e1]
 intro h
 omega
theorem own_slice {W : World} {B g L c d : Nat} {xs : List UInt8} (h : Own W B 5 (.slice (some ⟨g, 0, none⟩) L c) xs) (hL : xs.length = L) (hm : L ≤ 100000) : Bs W (some ⟨g, d, none⟩) (L - d) (xs.drop d) := by
 refine ⟨by rw [List.length_drop, hL], by unfold maxLen; omega, fun hp => ⟨g, d, rfl, fun i hi => ?_⟩⟩
 have hc := World.ownsRow.cells (g := g) h rfl (d + i) _ (bcs_at xs (d + i) (by omega))
 rw [add_nat, Nat.zero_add] at hc
 rw [hc, List.getD_eq_getElem?_getD, List.getD_eq_getElem?_getD, List.getElem?_drop]
def CsS (c : Nat) (ch : List UInt8) (W : World) : Prop := Blk W c 9 #[strV ch]
theorem ptake_walk {w : World} {c n m cap : Nat} {ch bs : List UInt8} {A : Option Addr} (hc : Blk w c 9 #[strV ch]) (hb : Bs w A m bs) (hm : m = (n + 1) / 2) (hn : n ≤ 1000) (hn1 : 1 ≤ n) (hch : ch.length ≤ 1000) :
 Calls Tryz.prog 150 #[.slice A m cap, .int .i64 (n : Int), ptrTo c] w fun e w' => e = .returned (optV (unpacked ch bs n)) ∧ Turn nowhere w w' := by
 unfold ptrTo
 have HC := zH hc
 have HB := zH hb
 have HM := zH hm
 have HN := zH hn
 have HN1 := zH hn1
 have hm1 : m ≤ 501 := by omega
 have HM1 := zH hm1
 clear hc hb hm hn hn1
 go_enter Tryz.func150, Tryz.ntmps150
 go_upto_region 1 with fail
 refine wp_region_lit ?_
 refine wM (.slice A m cap) ?_
 simp only [zz]
 refine wR (v := .int .i64 (m : Int)) (w' := w) rfl (by go_simp) ?_
 simp only [zz]
 refine wR (v := .int .i64 ((2 * m : Nat) : Int)) (w' := w) rfl (by go_simp; rw [IntKind.wrap_i64]; omega) ?_
 simp only [zz]
 refine wR (v := .slice (some ⟨w.heap.size, 0, none⟩) 0 (2 * m)) (w' := w.alloc (.cells (bcs (List.replicate (2 * m) 0)).toArray 5)) rfl (exec_makeV rfl rfl rfl (make_bytes 0 (2 * m) (by omega) (by omega) w)) ?_
 simp only [zz]
 have hg : Own (w.alloc (.cells (bcs (List.replicate (2 * m) 0)).toArray 5)) w.heap.size 5 (.slice (some ⟨w.heap.size, 0, none⟩) 0 (2 * m)) [] := World.ownsRow_made w _ (2 * m) (Nat.le_refl _) (by unfold maxLen; omega) (by simp [bcs])
 have ht := (Turn.refl nowhere w).alloc (.cells (bcs (List.replicate (2 * m) 0)).toArray 5)
 generalize (w.alloc (.cells (bcs (List.replicate (2 * m) 0)).toArray 5)) = w1 at *
 have HG := zH hg
 have HT := zH ht
 have HBL := zH (show bs.length = m from HB.out.1)
 clear hg ht hm1
 go_wp2_with fail
 go_loopg [7, 18] m (fun gk v i wr => ∃ (k : Nat) (A' : Option Addr) (n' c' : Nat), k + gk = m ∧ i = .int .i64 (k : Int) ∧ v = .slice A' n' c' ∧ Own wr w.heap.size 5 (.slice A' n' c') (unpack ch (bs.take k)) ∧ Turn nowhere w wr ∧ ∀ x ∈ bs.take k, okB ch x)
 case atStart => exact ⟨0, _, _, _, by omega, rfl, rfl, by simpa [unpack] using HG.out, HT.out, fun x hx => by simp at hx⟩
 case round =>
  obtain ⟨k, A', n', c', hkl, rfl, rfl, hown, htr, hin⟩ := hrel
  have HKL := zH hkl
  have HO := zH hown
  have HTR := zH htr
  have HIN := zH hin
  clear hkl hown htr hin
  by_cases hlt : k < m
  ·have y1 : (k : Int) < (m : Int) := by omega
   have y2 : (0 : Int) ≤ (k : Int) := by omega
   have y3 : (m : Int) ≤ 501 := by have := HM1.out; omega
   obtain ⟨h1, h2, h3⟩ := bs_turn HB.out HTR.out
   obtain ⟨b, off, rfl, hcell⟩ := h3 (by omega)
   have hcell := hcell k hlt
   have hkb : k < bs.length := by rw [HBL.out]; exact hlt
   have HKB := zH hkb
   have HLT := zH hlt
   have hmem : bs.getD k 0 ∈ bs := by
    rw [List.getD_eq_getElem?_getD, List.getElem?_eq_getElem hkb]
    exact List.getElem_mem _
   have HMEM := zH hmem
   have hus := unpack_snoc ch k bs hkb
   obtain ⟨x, hx⟩ : ∃ x, x = bs.getD k 0 := ⟨_, rfl⟩
   rw [← hx] at hcell hmem hus
   have HXK := zH hx
   have HUS := zH hus
   clear hlt h1 h2 h3 hkb hx hus
   go_upto_region 5 with fail
   clear hcell
   have x16 : x.toNat / 16 < 16 := by have := x.toNat_lt; omega
   have X16 := zH x16
   clear x16
   refine wp_region_lit ?_
   refine wM (.int .u8 (x.toNat : Int)) ?_
   simp only [zz]
   refine wR (v := .int .u8 ((x.toNat / 16 : Nat) : Int)) (w' := wr) rfl (exec_shr4 x rfl rfl) ?_
   simp only [zz]
   refine wR (v := .int .i64 ((x.toNat / 16 : Nat) : Int)) (w' := wr) rfl (exec_u8int _ (by have := X16.out; omega) rfl rfl) ?_
   simp only [zz]
   refine wM (.int .u8 (x.toNat : Int)) ?_
   simp only [zz]
   refine wR (v := .int .u8 ((x.toNat % 16 : Nat) : Int)) (w' := wr) rfl (exec_and15 x rfl rfl) ?_
   simp only [zz]
   refine wR (v := .int .i64 ((x.toNat % 16 : Nat) : Int)) (w' := wr) rfl (exec_u8int _ (by omega) rfl rfl) ?_
   simp only [zz]
   have cc : wr.cell? ⟨c, 0, none⟩ = some (.string ⟨ch.toArray⟩) := (HC.out.turn HTR.out (fun e => e)).cell 0
   have hsz := str_size ch
   have hup : unpack ch (bs.take (k + 1)) = unpack ch (bs.take k) ++ [ch.getD (x.toNat / 16) 0, ch.getD (x.toNat % 16) 0] := HUS.out
   obtain ⟨hi, hhi⟩ : ∃ hi, hi = x.toNat / 16 := ⟨_, rfl⟩
   obtain ⟨lo, hlo⟩ : ∃ lo, lo = x.toNat % 16 := ⟨_, rfl⟩
   rw [← hhi, ← hlo] at hup ⊢
   have HUP := zH hup
   have HHI := zH hhi
   have HLO := zH hlo
   clear HUS X16 hup hhi hlo
   obtain ⟨s, hs⟩ : ∃ s : ByteArray, s = ⟨ch.toArray⟩ := ⟨_, rfl⟩
   rw [← hs] at cc hsz
   have HS := zH hs
   have HSZ := zH hsz
   clear hs hsz
   have z1 : (0 : Int) ≤ (hi : Int) := by omega
   have z2 : (0 : Int) ≤ (lo : Int) := by omega
   by_cases hgood : hi < s.size ∧ lo < s.size
   ·have y5 : ¬ ((s.size : Int) ≤ (hi : Int)) := by omega
    have y6 : ¬ ((s.size : Int) ≤ (lo : Int)) := by omega
    have HGD := zH hgood
    clear hgood
    go_upto_region 8 with fail
    have hS0 : CsS c ch wr.drew := (HC.out.turn HTR.out (fun e => e)).drew
    have HZ := zH (show okB ch x from ⟨by rw [← HHI.out, ← HSZ.out]; exact HGD.out.1, by rw [← HLO.out, ← HSZ.out]; exact HGD.out.2⟩)
    have hgh : hi < ch.length := by rw [← HSZ.out]; exact HGD.out.1
    have hgl : lo < ch.length := by rw [← HSZ.out]; exact HGD.out.2
    have HGH := zH hgh
    have HGL := zH hgl
    clear hgh hgl cc y5 y6 HGD HSZ HS
    refine wp_region_till (CsS c ch) 9 (by kernel_rfl) ?_
    refine till_pure (i := 0) (v := .slice A' n' c') rfl (by kernel_rfl) (by kernel_rfl) (fun _ _ _ h => h) (.inl ⟨by rfl, fun W hW => exec_move rfl rfl⟩) hS0 ?_
    simp only [zz]
    refine tT (i := 1) (v := strV ch) rfl (by kernel_rfl) (by kernel_rfl) (fun W hW => exec_load1 rfl rfl (by kernel_rfl) (Blk.cell hW 0)) hS0 ?_
    simp only [zz]
    refine till_pure (i := 2) (v := .int .i64 (hi : Int)) rfl (by kernel_rfl) (by kernel_rfl) (fun _ _ _ h => h) (.inl ⟨by rfl, fun W hW => exec_move rfl rfl⟩) hS0 ?_
    simp only [zz]
    refine till_pure (i := 3) (v := .int .u8 ((ch.getD hi 0).toNat : Int)) rfl (by kernel_rfl) (by kernel_rfl) (fun _ _ _ h => h) (.inl ⟨by rfl, fun W hW => exec_sidx rfl rfl rfl HGH.out⟩) hS0 ?_
    simp only [zz]
    refine tT (i := 4) (v := strV ch) rfl (by kernel_rfl) (by kernel_rfl) (fun W hW => exec_load1 rfl rfl (by kernel_rfl) (Blk.cell hW 0)) hS0 ?_
    simp only [zz]
    refine till_pure (i := 5) (v := .int .i64 (lo : Int)) rfl (by kernel_rfl) (by kernel_rfl) (fun _ _ _ h => h) (.inl ⟨by rfl, fun W hW => exec_move rfl rfl⟩) hS0 ?_
    simp only [zz]
    refine till_pure (i := 6) (v := .int .u8 ((ch.getD lo 0).toNat : Int)) rfl (by kernel_rfl) (by kernel_rfl) (fun _ _ _ h => h) (.inl ⟨by rfl, fun W hW => exec_sidx rfl rfl rfl HGL.out⟩) hS0 ?_
    simp only [zz]
    refine till_only (i := 7) (by kernel_rfl) rfl rfl ?_
    refine wp_run (exec_build2 rfl rfl rfl (build_two _ _ _)) ?_
    refine ⟨fun _ => hS0.alloc _, ?_⟩
    simp only [zz]
    obtain ⟨A6, c6, w6, hrun, hown6, hext6⟩ := append_news (m := 2) (c := 2) (w := wr.drew) HO.out.drew (Nat.le_trans HTR.out.size (Nat.le_refl _)) [ch.getD hi 0, ch.getD lo 0] (by
     rw [unpack_len, List.length_take]
     have := HM1.out
     have := HLT.out
     simp
     omega) rfl
    refine till_only (i := 8) (by kernel_rfl) rfl rfl ?_
    refine wp_run (v := .slice A6 ((unpack ch (bs.take k)).length + 2) c6) (w' := w6) (exec_append rfl rfl rfl hrun) ?_
    refine ⟨fun _ => Blk.ext hS0 hext6 (row_ne HO.out hS0 (by decide)), ?_⟩
    simp only [zz]
    have HO6 := zH hown6
    have HE6 := zH hext6
    clear hrun hown6 hext6 hS0
    generalize ((unpack ch (bs.take k)).length + 2) = n6 at *
    refine till_tail 9 rfl (by kernel_rfl) ?_
    go_wp2_with fail
    refine NoPanic.normal ?_
    go_wp2_with fail
    go_roundg (gk - 1)
    case measure => have := HKL.out; have := HLT.out; omega
    case rel =>
     refine ⟨k + 1, A6, n6, c6, by have := HKL.out; have := HLT.out; omega, by go_num, rfl, ?_, ?_, ?_⟩
     ·rw [HUP.out]
      exact HO6.out
     ·refine (HTR.out.drew).trans HE6.out.tr fun j hj e => ?_
      have := (HO.out.lt j e.symm).1
      omega
     ·intro y hy
      rw [List.take_add_one, List.mem_append] at hy
      rcases hy with hy | hy
      ·exact HIN.out y hy
      ·rw [List.getElem?_eq_getElem HKB.out] at hy
       have hxk := HXK.out
       rw [List.getD_eq_getElem?_getD, List.getElem?_eq_getElem HKB.out] at hxk
       simp at hy hxk
       rw [hy, ← hxk]
       exact HZ.out
   ·have HNO := zH (show unpacked ch bs n = none from by
     unfold unpacked
     rw [packOk_not (x := x) (by rw [HXK.out]; exact HMEM.out) (fun h => hgood ⟨by rw [HSZ.out, HHI.out]; exact h.1, by rw [HSZ.out, HLO.out]; exact h.2⟩)]
     rfl)
    by_cases hh : hi < s.size
    ·have y5 : ¬ ((s.size : Int) ≤ (hi : Int)) := by omega
     have y6 : (s.size : Int) ≤ (lo : Int) := by omega
     clear hgood hh
     go_wp2_with fail
     go_ret2
     rw [HNO.out]
     exact ⟨rfl, HTR.out⟩
    ·have y5 : (s.size : Int) ≤ (hi : Int) := by omega
     clear hgood hh
     go_wp2_with fail
     go_ret2
     rw [HNO.out]
     exact ⟨rfl, HTR.out⟩
  ·have hke : k = m := by have := HKL.out; omega
   have y1 : ¬ ((k : Int) < (m : Int)) := by omega
   clear hlt
   have hown := HO.out
   have hin := HIN.out
   rw [List.take_of_length_le (by rw [HBL.out, hke]; exact Nat.le_refl _)] at hown hin
   have hpk := packOk_of hin
   have hul := unpack_len ch bs
   rw [HBL.out] at hul
   obtain ⟨A'', n'', c'', hform, hbs, hncap, _⟩ := hown.form
   injection hform with hf1 hf2 hf3
   subst hf1 hf2 hf3
   have hnl : n' = 2 * m := hbs.1.symm.trans hul
   subst hnl
   obtain ⟨g, off, rfl, hcells⟩ := hbs.2.2 (by have := HM.out; have := HN1.out; omega)
   have hoff : off = 0 := by
    rcases hown.2 with ⟨h, _⟩ | ⟨g', cap', cur, h, _⟩
    ·cases h
    ·injection h with h _ _
     injection h with h
     injection h
   subst hoff
   have hc0 := hcells 0 (by have := HM.out; have := HN1.out; omega)
   rw [Nat.zero_add] at hc0
   have HCAP := zH hncap
   have HOO := zH hown
   have HUL := zH hul
   have HPK := zH hpk
   have HKE := zH hke
   clear hcells hbs hin hown hul hpk hncap hke
   have hunp : unpacked ch bs n = if n % 2 = 1 ∧ (unpack ch bs).getD 0 0 ≠ 48 then none else some ((unpack ch bs).drop ((unpack ch bs).length - n)) := by
    unfold unpacked
    rw [HPK.out]
    rfl
   rw [HUL.out] at hunp
   generalize (unpack ch bs).getD 0 0 = z0 at *
   have HU := zH hunp
   clear hunp
   have hnm : n ≤ 2 * m := by have := HM.out; omega
   have HNM := zH hnm
   clear hnm
   have y7 : (0 : Int) < 2 * (m : Int) := by have := HM.out; have := HN1.out; omega
   by_cases hodd : n % 2 = 1
   ·by_cases hz : z0 = 48
    ·have hu := HU.out
     rw [if_neg (by intro h; exact h.2 hz)] at hu
     have HU2 := zH hu
     have t1 : Int.tmod (n : Int) 2 = 1 := tmod_one hodd
     have hz0 : (z0.toNat : Int) = 48 := by rw [hz]; rfl
     clear hu HU
     rw [hz0] at hc0
     clear hz0 hz hodd
     go_upto_region 12 with fail
     clear hc0
     refine wp_region_lit ?_
     refine wM (.slice (some ⟨g, 0, none⟩) (2 * m) c') ?_
     simp only [zz]
     refine wM (.slice (some ⟨g, 0, none⟩) (2 * m) c') ?_
     simp only [zz]
     refine wR (v := .int .i64 ((2 * m : Nat) : Int)) (w' := wr) rfl (by go_simp) ?_
     simp only [zz]
     refine wM (.int .i64 (n : Int)) ?_
     simp only [zz]
     refine wR (v := .int .i64 ((2 * m - n : Nat) : Int)) (w' := wr) rfl (exec_sub rfl rfl rfl HNM.out (by have := HM1.out; omega)) ?_
     simp only [zz]
     refine wR (v := .slice (some ⟨g, 2 * m - n, none⟩) (2 * m - (2 * m - n)) (c' - (2 * m - n))) rfl (exec_slice rfl rfl rfl rfl rfl (slice_end g (2 * m) c' (2 * m - n) (by have := HN1.out; have := HNM.out; omega) HCAP.out wr)) ?_
     simp only [zz]
     refine wR (v := strV ((unpack ch bs).drop (2 * m - n))) (w' := wr) rfl (exec_strBs rfl rfl (own_slice HOO.out HUL.out (by have := HM1.out; omega))) ?_
     simp only [zz]
     go_wp2_with fail
     go_ret2
     rw [HU2.out]
     exact ⟨rfl, HTR.out⟩
    ·have hu := HU.out
     rw [if_pos ⟨hodd, hz⟩] at hu
     have t1 : Int.tmod (n : Int) 2 = 1 := tmod_one hodd
     have hz0 : ((z0.toNat : Int) == 48) = false := by
      simp only [beq_eq_false_iff_ne, ne_eq]
      intro h
      exact hz (UInt8.toNat_inj.1 (by rw [show (48 : UInt8).toNat = 48 from rfl]; omega))
     have HU2 := zH hu
     clear hu HU hz hodd
     go_wp2_with fail
     go_ret2
     rw [HU2.out]
     exact ⟨rfl, HTR.out⟩
   ·have hu := HU.out
    rw [if_neg (by intro h; exact hodd h.1)] at hu
    have HU2 := zH hu
    have t1 : Int.tmod (n : Int) 2 = 0 := tmod_nil hodd
    clear hu HU hodd
    go_upto_region 12 with fail
    clear hc0
    refine wp_region_lit ?_
    refine wM (.slice (some ⟨g, 0, none⟩) (2 * m) c') ?_
    simp only [zz]
    refine wM (.slice (some ⟨g, 0, none⟩) (2 * m) c') ?_
    simp only [zz]
    refine wR (v := .int .i64 ((2 * m : Nat) : Int)) (w' := wr) rfl (by go_simp) ?_
    simp only [zz]
    refine wM (.int .i64 (n : Int)) ?_
    simp only [zz]
    refine wR (v := .int .i64 ((2 * m - n : Nat) : Int)) (w' := wr) rfl (exec_sub rfl rfl rfl HNM.out (by have := HM1.out; omega)) ?_
    simp only [zz]
    refine wR (v := .slice (some ⟨g, 2 * m - n, none⟩) (2 * m - (2 * m - n)) (c' - (2 * m - n))) rfl (exec_slice rfl rfl rfl rfl rfl (slice_end g (2 * m) c' (2 * m - n) (by have := HN1.out; have := HNM.out; omega) HCAP.out wr)) ?_
    simp only [zz]
    refine wR (v := strV ((unpack ch bs).drop (2 * m - n))) (w' := wr) rfl (exec_strBs rfl rfl (own_slice HOO.out HUL.out (by have := HM1.out; omega))) ?_
    simp only [zz]
    go_wp2_with fail
    go_ret2
    rw [HU2.out]
    exact ⟨rfl, HTR.out⟩
structure Gd (p : Pt) : Prop where
 st : (p.stands = [] ∧ p.chars.length ≤ 16 ∧ 48 ∈ p.chars) ∨ (p.stands ≠ [] ∧ p.stands.length = p.chars.length)
 ch : p.chars.length ≤ 99
 n1 : 1 ≤ p.n
 n2 : p.n ≤ 200
 asc : ascii p.chars
theorem zero_part (w : World) : (zeroValue 167).run Tryz.prog w = .ok (.agg #[.int .i64 0, .string ByteArray.empty, .string ByteArray.empty]) w := by kernel_rfl
theorem size_part : (Tryz.prog.info? 167).map (·.size) = some 3 := by kernel_rfl
theorem pt_one (p : Pt) : ∀ v ∈ (ptC p).toArray.toList, v.oneCell' = true := by simp [ptC, strV, Value.oneCell']
theorem load_part {w : World} {g q : Nat} {p : Pt} (h : w.rangeAt g q (ptC p)) : (Instr.loadAt 167 (.pointer (some ⟨g, q, none⟩))).run Tryz.prog w = .ok (.agg (ptC p).toArray) w :=
 run_loadAt_mid w g q 167 (ptC p) _ h Tryz.underlying167 rfl (by rw [size_part]; rfl)
theorem load_blkPart {w : World} {g : Nat} {p : Pt} (h : Blk w g 167 (ptC p).toArray) : (Instr.loadAt 167 (.pointer (some ⟨g, 0, none⟩))).run Tryz.prog w = .ok (.agg (ptC p).toArray) w :=
 load_part fun j v hv => by
  rw [Nat.zero_add, h.cell j]
  simpa using hv
theorem wpList_store_part {P : Program} {ops : Array Oper} {rest : List Oper} {o : Oper} {a : Act} {w : World} {Q : Exit → Act → World → Prop} (hgd : Region.wanted o (yielded ops a.tmps) = true) (x y : Operand) (ho : o.op = .store 167 x y) {g : Nat} {p : Pt} {old : Array Value} (hb : Blk w g 167 old) (hs : old.size = 3)
 (hx : a.eval x = .pointer (some ⟨g, 0, none⟩)) (hy : a.eval y = .agg (ptC p).toArray) (hi : (P.info? 167).map (·.size) = some 3)
 (h : ∀ w', Blk w' g 167 (ptC p).toArray → Turn (only g) w w' → wpList P ops Q rest (a.put o.dst undef) w') : wpList P ops Q (o :: rest) a w :=
 wpList_store_row hgd 167 x y ho (ptC p).toArray hb hx hy hs hi (pt_one p) h
theorem field_put (x y z : Value) (W : World) : (Instr.field 186 (.agg #[x, y, z]) 1).run Tryz.prog W = .ok y W := by kernel_rfl
theorem field_size (x y z : Value) (W : World) : (Instr.field 186 (.agg #[x, y, z]) 0).run Tryz.prog W = .ok x W := by kernel_rfl
theorem exec_getField {P : Program} {a : Act} {o : Oper} {t : TypeId} {x : Operand} {n : Nat} {u v : Value} {W : World} (ho : o.op = .field t x n) (hx : a.eval x = u) (h : (Instr.field t u n).run P W = .ok v W) : (execOp a.eval o).run P W = .ok (.value v) W := by
 unfold execOp
 simp only [ho, hx, h, Sem.run_bind, Sem.run_pure, Result.andThen_ok]
theorem row_keep {w w' : World} {B : Nat} {e : TypeId} {sz n : Nat} {v : Value} {xs : List Value} (h : w.ownsRow B e sz v n xs) (hk : ∀ g, v.ownBlock = some g → w'.heap[g]? = w.heap[g]?) : w'.ownsRow B e sz v n xs := by
 refine ⟨h.1, ?_⟩
 rcases h.2 with h2 | ⟨g, cap, cur, rfl, h3, h4, h5⟩
 ·exact .inl h2
 ·exact .inr ⟨g, cap, cur, rfl, h3, (hk g rfl).trans h4, h5⟩
theorem own_turn {w w' : World} {B : Nat} {e : TypeId} {v : Value} {bs : List UInt8} (h : Own w B e v bs) (ht : Turn nowhere w w') : Own w' B e v bs := row_keep h fun g hg => ht.block g (h.lt g hg).2 (fun e => e)
theorem code_put {w : World} {cv : Array Value} {p : Pt} (h : CodeAt w cv p) (hg : Gd p) {B : Nat} {t bs : List UInt8} {A0 : Option Addr} {n0 c0 : Nat} (ht : onlyOf t p.chars = true) (hown : Own w B 5 (.slice A0 n0 c0) bs) (hB : B ≤ w.heap.size)
 (hlen : bs.length + t.length ≤ 140737488354000) (ht1 : t.length ≤ 1000) :
 ∃ f c x y, cv = #[x, .func (.func f) #[] c, y] ∧ (f = 152 ∨ f = 149) ∧
 Calls Tryz.prog f (#[.slice A0 n0 c0, strV t] ++ c) w fun e w' => ∃ A n c', e = .returned (.slice A n c') ∧ Own w' B 5 (.slice A n c') (bs ++ p.enc t) ∧ Ext w w' (.slice A0 n0 c0) (.slice A n c') := by
 unfold Pt.enc
 rcases h with ⟨h0, q, c, rfl, h1, h2⟩ | ⟨h0, q, c, rfl, h1, h2⟩
 ·rw [if_pos h0]
  rcases hg.st with ⟨_, g2, g3⟩ | ⟨g1, _⟩
  ·exact ⟨_, #[ptrTo q], _, _, rfl, .inr rfl, pput_walk h1 h2 ht g3 hown hB hlen ht1 g2⟩
  ·exact absurd h0 g1
 ·rw [if_neg h0]
  rcases hg.st with ⟨g1, _⟩ | ⟨_, g2⟩
  ·exact absurd g1 h0
  ·exact ⟨_, #[ptrTo q, ptrTo c], _, _, rfl, .inl rfl, sput_walk h1 h2 ht g2 hown hB (by omega) ht1 (by have := hg.ch; omega)⟩
theorem enc_len (p : Pt) (t : List UInt8) : (p.enc t).length ≤ t.length + 1 := by
 unfold Pt.enc
 by_cases h : p.stands = []
 ·rw [if_pos h]
  have h1 := pack_le p.chars (padded t)
  have h2 := padded_len t
  omega
 ·rw [if_neg h, List.length_map]
  omega
theorem right_cons {p : Pt} {r : List Pt} {t : List UInt8} (h : rightAll (p :: r) t = true) : p.n ≤ t.length ∧ onlyOf (t.take p.n) p.chars = true ∧ rightAll r (t.drop p.n) = true := by
 simpa [rightAll] using h
theorem drop_cons {ps r : List Pt} {p : Pt} {k : Nat} (h : ps.drop k = p :: r) : ps[k]? = some p ∧ ps.drop (k + 1) = r ∧ k < ps.length := by
 have h1 : ps[k]? = some p := by
  have := congrArg (fun l => l[0]?) h
  simpa [List.getElem?_drop] using this
 refine ⟨h1, ?_, (List.getElem?_eq_some_iff.1 h1).1⟩
 have := congrArg (List.drop 1) h
 simpa [List.drop_drop, Nat.add_comm] using this
def PtB (b8 : Nat) (p : Pt) (W : World) : Prop := Blk W b8 167 (ptC p).toArray
theorem put_walk {w : World} {g B np cp : Nat} {ps : List Pt} {t bs : List UInt8} {A0 : Option Addr} {n0 c0 : Nat} (hp : PtsAt w g ps) (hnp : ps.length = np) (hg : ∀ p ∈ ps, Gd p) (hr : rightAll ps t = true) (hown : Own w B 5 (.slice A0 n0 c0) bs) (hB : B ≤ w.heap.size) (hlen : bs.length + 10 * t.length ≤ 140737488354000) (ht1 : t.length ≤ 1000) (hps : np ≤ 5) :
 Calls Tryz.prog 92 #[.slice A0 n0 c0, .slice (some ⟨g, 0, none⟩) np cp, strV t] w fun e w' => ∃ A n c', e = .returned (.slice A n c') ∧ Own w' B 5 (.slice A n c') (bs ++ encAll ps t) ∧ Ext w w' (.slice A0 n0 c0) (.slice A n c') := by
 have HP := zH hp
 have HNP := zH hnp
 have HG := zH hg
 have HO := zH hown
 have HB := zH hB
 have HN := zH hlen
 have HT1 := zH ht1
 have HPS := zH hps
 have HR := zH hr
 clear hp hg hown hB hlen ht1 hps hnp hr
 go_enter Tryz.func92, Tryz.ntmps92
 go_upto_region 2 with fail
 go_loopg [0, 2, 11] np (fun gk b x i wr => ∃ (k : Nat) (A : Option Addr) (n c' : Nat) (t2 e1 : List UInt8), k + gk = np ∧ i = .int .i64 (k : Int) ∧ b = .slice A n c' ∧ x = strV t2 ∧ Own wr B 5 (.slice A n c') (bs ++ e1) ∧ e1 ++ encAll (ps.drop k) t2 = encAll ps t ∧ rightAll (ps.drop k) t2 = true ∧ t2.length ≤ t.length ∧ Ext w wr (.slice A0 n0 c0) (.slice A n c') ∧ e1.length ≤ 2 * k * t.length)
 case atStart => exact ⟨0, _, _, _, t, [], by omega, rfl, rfl, rfl, by simpa using HO.out, by simp, HR.out, Nat.le_refl _, Ext.refl _ _, by simp⟩
 case round =>
  obtain ⟨k, A, n, c', t2, e1, hkl, rfl, rfl, rfl, hO, henc, hright, htl, hE, hel⟩ := hrel
  have HKL := zH hkl
  have HO' := zH hO
  have HENC := zH henc
  have HTL := zH htl
  have HE := zH hE
  have HEL := zH hel
  have HRR := zH hright
  clear hkl hO henc htl hE hel hright
  by_cases hlt : k < np
  ·have y1 : (k : Int) < (np : Int) := by omega
   have y2 : (0 : Int) ≤ (k : Int) := by omega
   have y3 : (np : Int) ≤ 5 := by have := HPS.out; omega
   obtain ⟨p, r, hd⟩ : ∃ p r, ps.drop k = p :: r := by
    cases h : ps.drop k with
    | nil =>
      have := congrArg List.length h
      rw [List.length_drop, HNP.out] at this
      simp at this
      omega
    | cons p r => exact ⟨p, r, rfl⟩
   have HD := zH (drop_cons hd)
   have hrr := HRR.out
   have hen := HENC.out
   rw [hd] at hrr hen
   have HRC := zH (right_cons hrr)
   have HEN := zH hen
   have HLT := zH hlt
   clear hlt hd hrr hen
   go_upto_region 3 with fail
   have hk0 : wr.rangeAt g (k * 3) (ptC p) := ((let ⟨_, hb, _⟩ := HP.out; HP.out.turn HE.out.tr (row_ne HO.out hb (by decide)))).range HD.out.1
   refine wp_region_lit ?_
   refine wR (v := .pointer (some ⟨g, k * 3, none⟩)) (w' := wr) rfl (by go_simp) ?_
   simp only [zz]
   refine wR (v := .agg (ptC p).toArray) rfl (exec_load rfl rfl (load_part hk0)) ?_
   simp only [zz]
   refine wR (v := _) rfl (exec_alloc rfl (zero_part _)) ?_
   simp only [zz]
   have hbn := Blk.new wr 167 #[.int .i64 0, .string ByteArray.empty, .string ByteArray.empty]
   have htn := (Turn.refl nowhere wr).alloc (.cells #[.int .i64 0, .string ByteArray.empty, .string ByteArray.empty] 167)
   generalize (wr.alloc (.cells #[.int .i64 0, .string ByteArray.empty, .string ByteArray.empty] 167)) = w4 at *
   obtain ⟨b8, hb8⟩ : ∃ b8, b8 = wr.heap.size := ⟨_, rfl⟩
   rw [← hb8] at hbn ⊢
   refine wpList_store_part rfl (.tmp 8) (.tmp 14) rfl hbn rfl rfl rfl size_part ?_
   intro w5 hq5 ht5
   have HT5 := zH (show Turn nowhere wr w5 from htn.trans ht5 (fun j hj e => by have h2 : j = b8 := e; omega))
   have HB5 := zH hq5
   clear hk0 hbn htn hb8 hq5 ht5
   simp only [Act.put]
   have HGD := zH (HG.out p (List.mem_of_getElem? HD.out.1))
   go_upto_region 4 with fail
   have hS0 : PtB b8 p w5.drew := HB5.out.drew
   refine wp_region_till (PtB b8 p) 9 (by kernel_rfl) ?_
   refine tT (i := 0) (v := .agg (ptC p).toArray) rfl (by kernel_rfl) (by kernel_rfl) (fun W hW => exec_load rfl rfl (load_blkPart hW)) hS0 ?_
   simp only [zz]
   refine till_pure (i := 3) (v := .slice A n c') rfl (by kernel_rfl) (by kernel_rfl) (fun _ _ _ h => h) (.inl ⟨by rfl, fun W hW => exec_move rfl rfl⟩) hS0 ?_
   simp only [zz]
   refine till_pure (i := 4) (v := strV t2) rfl (by kernel_rfl) (by kernel_rfl) (fun _ _ _ h => h) (.inl ⟨by rfl, fun W hW => exec_move rfl rfl⟩) hS0 ?_
   simp only [zz]
   refine till_pure (i := 5) (v := .pointer (some ⟨b8, 0, none⟩)) rfl (by kernel_rfl) (by kernel_rfl) (fun _ _ _ h => h) (.inl ⟨by rfl, fun W hW => exec_field (off := 0) (d := 0) rfl rfl (by kernel_rfl)⟩) hS0 ?_
   simp only [zz]
   refine tT (i := 6) (v := .int .i64 (p.n : Int)) rfl (by kernel_rfl) (by kernel_rfl) (fun W hW => exec_load1 rfl rfl (by kernel_rfl) (Blk.cell hW 0)) hS0 ?_
   simp only [zz]
   refine till_pure (i := 7) (v := strV (t2.take p.n)) rfl (by kernel_rfl) (by kernel_rfl) (fun _ _ _ h => h) (.inl ⟨by rfl, fun W hW => exec_sto rfl rfl rfl HRC.out.1⟩) hS0 ?_
   simp only [zz]
   refine till_step (i := 1) (by kernel_rfl) rfl rfl ?_
   intro K1 HK1
   go_wp2_with fail
   refine (codeOf_walk p _).mono ?_
   rintro e w6 ⟨cv, rfl, hcode, ht6⟩
   have hS1 : PtB b8 p w6 := hS0.turn ht6 (fun e => e)
   refine HK1.out _ _ ⟨fun _ => hS1, ?_⟩
   clear HK1
   have hE6 : Ext w w6 (.slice A0 n0 c0) (.slice A n c') := (HE.out.still ((HT5.out.drew).next ht6))
   have hO6 : Own w6 B 5 (.slice A n c') (bs ++ e1) := own_turn HO'.out ((HT5.out.drew).next ht6)
   obtain ⟨f, cc, xx, yy, rfl, hf, hcall⟩ := code_put hcode HGD.out HRC.out.2.1 hO6 (Nat.le_trans HB.out hE6.tr.size) (by
    rw [List.length_append, List.length_take]
    have h1 := HN.out
    have h2 := HEL.out
    have h3 := HTL.out
    have h4 := HLT.out
    have h5 := HPS.out
    have h6 : 2 * k * t.length ≤ 8 * t.length := Nat.mul_le_mul_right _ (by omega)
    omega) (by rw [List.length_take]; have := HT1.out; have := HTL.out; omega)
   have HCALL := zH hcall
   have HE6 := zH hE6
   have HO6 := zH hO6
   clear hcall hcode ht6 hE6 hO6
   refine till_pure (i := 2) (v := .func (.func f) #[] cc) rfl (by kernel_rfl) (by kernel_rfl) (fun _ _ _ h => h) (.inl ⟨by rfl, fun W hW => exec_getField rfl rfl (field_put _ _ _ W)⟩) hS1 ?_
   simp only [zz]
   refine till_step (i := 8) (by kernel_rfl) rfl rfl ?_
   intro K1 HK1
   have HS1 := zH hS1
   clear hS0 hS1
   rcases hf with rfl | rfl
   ·go_wp2_with fail
    refine HCALL.out.mono ?_
    rintro e w7 ⟨A7, n7, c7, rfl, hO7, hE7⟩
    have hS2 : PtB b8 p w7 := Blk.ext HS1.out hE7 (row_ne HO6.out HS1.out (by decide))
    refine HK1.out _ _ ⟨fun _ => hS2, ?_⟩
    clear HK1
    have HO7 := zH hO7
    have HE7 := zH (HE6.out.trans hE7)
    have HB7 := zH hS2
    clear hO7 hE7 hS2
    refine till_tail 9 rfl (by kernel_rfl) ?_
    go_wp2_with fail
    refine NoPanic.normal ?_
    go_upto_region 5 with fail
    refine wp_region_lit ?_
    refine wM (strV t2) ?_
    simp only [zz]
    refine wR (v := .pointer (some ⟨b8, 0, none⟩)) rfl (exec_field (off := 0) (d := 0) rfl rfl (by kernel_rfl)) ?_
    simp only [zz]
    refine wR (v := .int .i64 (p.n : Int)) rfl (exec_load1 rfl rfl (by kernel_rfl) (Blk.cell HB7.out 0)) ?_
    simp only [zz]
    refine wR (v := strV (t2.drop p.n)) (w' := w7) rfl (exec_sfrom rfl rfl rfl HRC.out.1) ?_
    simp only [zz]
    go_wp2_with fail
    go_roundg (gk - 1)
    case measure => have := HKL.out; have := HLT.out; omega
    case rel =>
     refine ⟨k + 1, A7, n7, c7, t2.drop p.n, e1 ++ p.enc (t2.take p.n), by have := HKL.out; have := HLT.out; omega, by go_num, rfl, rfl, ?_, ?_, ?_, ?_, HE7.out, ?_⟩
     ·rw [← List.append_assoc]
      exact HO7.out
     ·rw [HD.out.2.1, List.append_assoc]
      exact HEN.out
     ·rw [HD.out.2.1]
      exact HRC.out.2.2
     ·rw [List.length_drop]
      have := HTL.out
      omega
     ·have h1 := enc_len p (t2.take p.n)
      have h2 := HEL.out
      have h3 := HTL.out
      have h5 := HGD.out.n1
      have h6 := HRC.out.1
      rw [List.length_take] at h1
      rw [List.length_append, show 2 * (k + 1) * t.length = 2 * k * t.length + 2 * t.length from by rw [Nat.mul_add, Nat.add_mul]]
      omega
   ·go_wp2_with fail
    refine HCALL.out.mono ?_
    rintro e w7 ⟨A7, n7, c7, rfl, hO7, hE7⟩
    have hS2 : PtB b8 p w7 := Blk.ext HS1.out hE7 (row_ne HO6.out HS1.out (by decide))
    refine HK1.out _ _ ⟨fun _ => hS2, ?_⟩
    clear HK1
    have HO7 := zH hO7
    have HE7 := zH (HE6.out.trans hE7)
    have HB7 := zH hS2
    clear hO7 hE7 hS2
    refine till_tail 9 rfl (by kernel_rfl) ?_
    go_wp2_with fail
    refine NoPanic.normal ?_
    go_upto_region 5 with fail
    refine wp_region_lit ?_
    refine wM (strV t2) ?_
    simp only [zz]
    refine wR (v := .pointer (some ⟨b8, 0, none⟩)) rfl (exec_field (off := 0) (d := 0) rfl rfl (by kernel_rfl)) ?_
    simp only [zz]
    refine wR (v := .int .i64 (p.n : Int)) rfl (exec_load1 rfl rfl (by kernel_rfl) (Blk.cell HB7.out 0)) ?_
    simp only [zz]
    refine wR (v := strV (t2.drop p.n)) (w' := w7) rfl (exec_sfrom rfl rfl rfl HRC.out.1) ?_
    simp only [zz]
    go_wp2_with fail
    go_roundg (gk - 1)
    case measure => have := HKL.out; have := HLT.out; omega
    case rel =>
     refine ⟨k + 1, A7, n7, c7, t2.drop p.n, e1 ++ p.enc (t2.take p.n), by have := HKL.out; have := HLT.out; omega, by go_num, rfl, rfl, ?_, ?_, ?_, ?_, HE7.out, ?_⟩
     ·rw [← List.append_assoc]
      exact HO7.out
     ·rw [HD.out.2.1, List.append_assoc]
      exact HEN.out
     ·rw [HD.out.2.1]
      exact HRC.out.2.2
     ·rw [List.length_drop]
      have := HTL.out
      omega
     ·have h1 := enc_len p (t2.take p.n)
      have h2 := HEL.out
      have h3 := HTL.out
      have h5 := HGD.out.n1
      have h6 := HRC.out.1
      rw [List.length_take] at h1
      rw [List.length_append, show 2 * (k + 1) * t.length = 2 * k * t.length + 2 * t.length from by rw [Nat.mul_add, Nat.add_mul]]
      omega
  ·have hke : k = np := by have := HKL.out; omega
   have y1 : ¬ ((k : Int) < (np : Int)) := by omega
   clear hlt
   have hen := HENC.out
   rw [List.drop_of_length_le (by rw [HNP.out, hke]; exact Nat.le_refl _)] at hen
   have he : e1 = encAll ps t := by simpa [encAll] using hen
   have HEE := zH he
   clear hke hen he
   go_wp2_with fail
   go_ret
   refine ⟨A, n, c', rfl, ?_, HE.out⟩
   have := HO'.out
   rwa [HEE.out] at this
theorem ascii_of {l : List UInt8} (h : l.all (fun b => decide (b.toNat < 128)) = true) : ascii l := fun j b hj => by
 simpa using List.all_eq_true.1 h b (List.mem_of_getElem? hj)
theorem pts_good {k : Int} {c n : Nat} (hk : 1 ≤ k ∧ k ≤ 5) (hc : 1 ≤ c ∧ c ≤ 3) (hn : 1 ≤ n ∧ n ≤ 64) : ∀ p ∈ ptsOf k (c : Int) n, Gd p := by
 have hcc : c = 1 ∨ c = 2 ∨ c = 3 := by omega
 intro p hp
 unfold ptsOf at hp
 rw [Int.toNat_natCast] at hp
 have good : ∀ (n : Nat) (ch st : List UInt8), 1 ≤ n → n ≤ 200 → ((decide (st = []) && (decide (ch.length ≤ 16) && ch.contains 48)) || (!decide (st = []) && decide (st.length = ch.length))) = true → ch.length ≤ 99 → ch.all (fun b => decide (b.toNat < 128)) = true → Gd ⟨n, ch, st⟩ := by
  intro n ch st h1 h2 h3 h4 h5
  refine ⟨?_, h4, h1, h2, ascii_of h5⟩
  simp only [Bool.or_eq_true, Bool.and_eq_true, decide_eq_true_eq, Bool.not_eq_true', decide_eq_false_iff_not] at h3
  rcases h3 with ⟨h, h6, h7⟩ | ⟨h, h6⟩
  ·exact .inl ⟨h, h6, by simpa using h7⟩
  ·exact .inr ⟨h, h6⟩
 split at hp
 ·simp only [List.mem_singleton] at hp
  subst hp
  rcases hcc with rfl | rfl | rfl <;> exact good _ _ _ (by omega) (by omega) (by decide) (by decide) (by decide)
 ·split at hp
  ·simp only [List.mem_singleton] at hp
   subst hp
   rcases hcc with rfl | rfl | rfl <;> exact good _ _ _ (by omega) (by omega) (by decide) (by decide) (by decide)
  ·split at hp
   ·simp only [List.mem_cons, List.not_mem_nil, or_false] at hp
    rcases hp with rfl | rfl
    ·rcases hcc with rfl | rfl | rfl <;> exact good _ _ _ (by omega) (by omega) (by decide) (by decide) (by decide)
    ·rcases hcc with rfl | rfl | rfl <;> exact good _ _ _ (by omega) (by omega) (by decide) (by decide) (by decide)
   ·simp only [List.mem_singleton] at hp
    subst hp
    rcases hcc with rfl | rfl | rfl <;> exact good _ _ _ (by omega) (by omega) (by decide) (by decide) (by decide)
theorem pts_len (k : Int) (c n : Nat) : (ptsOf k (c : Int) n).length ≤ 2 := by
 unfold ptsOf
 split
 ·simp
 ·split
  ·simp
  ·split
   ·simp
   ·simp
theorem size_form : (Tryz.prog.info? 49).map (·.size) = some 3 := by kernel_rfl
theorem load_blkForm {w : World} {g : Nat} {k s c : Int} (h : Blk w g 49 #[.int .i64 k, .int .i64 s, .int .i64 c]) : (Instr.loadAt 49 (.pointer (some ⟨g, 0, none⟩))).run Tryz.prog w = .ok (fmV ⟨k, s, c⟩) w :=
 run_loadAt_mid w g 0 49 [.int .i64 k, .int .i64 s, .int .i64 c] _ (fun j v hv => by
  rw [Nat.zero_add, h.cell j]
  simpa using hv) Tryz.underlying49 rfl (by rw [size_form]; rfl)
theorem right_walk {w : World} {kk s c : Nat} {t : List UInt8} (hk : 1 ≤ kk ∧ kk ≤ 5) (hc : 1 ≤ c ∧ c ≤ 3) (hs : 1 ≤ s ∧ s ≤ 64) (hr : RowsT w) :
 Calls Tryz.prog 75 #[fmV ⟨(kk : Int), (s : Int), (c : Int)⟩, strV t] w fun e w' => e = .returned (.bool (Fm.right ⟨(kk : Int), (s : Int), (c : Int)⟩ t)) ∧ Turn nowhere w w' := by
 unfold fmV
 have HK := zH hk
 have HC := zH hc
 have HS := zH hs
 have HR := zH hr
 clear hr
 go_enter Tryz.func75, Tryz.ntmps75
 go_upto_region 1 with fail
 have hb0 := Blk.new w 49 #[.int .i64 (kk : Int), .int .i64 (s : Int), .int .i64 (c : Int)]
 have ht0 := (Turn.refl nowhere w).alloc (.cells #[.int .i64 (kk : Int), .int .i64 (s : Int), .int .i64 (c : Int)] 49)
 generalize (w.alloc (.cells #[.int .i64 (kk : Int), .int .i64 (s : Int), .int .i64 (c : Int)] 49)) = w0 at *
 generalize w.heap.size = b2 at *
 have HB0 := zH hb0
 have HT0 := zH ht0
 have hload := load_blkForm hb0
 have HLOAD := zH hload
 have c0 : w0.cell? ⟨b2, 0, none⟩ = some (.int .i64 (kk : Int)) := hb0.cell 0
 have c1 : w0.cell? ⟨b2, 1, none⟩ = some (.int .i64 (s : Int)) := hb0.cell 1
 have c2 : w0.cell? ⟨b2, 2, none⟩ = some (.int .i64 (c : Int)) := hb0.cell 2
 clear hb0 ht0 hload
 by_cases hk2 : kk = 2
 ·have y0 : ((kk : Int) == 2) = true := by simp; omega
  have HK2 := zH hk2
  clear hk hk2
  go_upto_region 3 with fail
  refine wp_region_lit ?_
  refine wM (strV t) ?_
  simp only [zz]
  refine wR (v := .int .i64 (t.length : Int)) (w' := w0) rfl (exec_slen rfl rfl) ?_
  simp only [zz]
  have hform : Fm.right ⟨(kk : Int), (s : Int), (c : Int)⟩ t = (decide (1 ≤ t.length ∧ (t.length : Int) ≤ (s : Int)) && rightAll (ptsOf (kk : Int) (c : Int) t.length) t) := by
   unfold Fm.right
   rw [HK2.out]
   rfl
  have HFORM := zH hform
  clear hform
  by_cases hb1 : t.length < 1
  ·have HRT := zH (show Fm.right ⟨(kk : Int), (s : Int), (c : Int)⟩ t = false from by
    rw [HFORM.out, decide_eq_false (by omega)]
    rfl)
   have y1 : (t.length : Int) < 1 := by omega
   clear hb1
   go_wp2_with fail
   go_ret
   exact ⟨ret_bool HRT.out.symm, HT0.out⟩
  ·by_cases hb2 : s < t.length
   ·have HRT := zH (show Fm.right ⟨(kk : Int), (s : Int), (c : Int)⟩ t = false from by
     rw [HFORM.out, decide_eq_false (by omega)]
     rfl)
    have y1 : ¬ ((t.length : Int) < 1) := by omega
    have y2 : (s : Int) < (t.length : Int) := by omega
    clear hb1 hb2
    go_wp2_with fail
    go_ret
    exact ⟨ret_bool HRT.out.symm, HT0.out⟩
   ·have HRT := zH (show Fm.right ⟨(kk : Int), (s : Int), (c : Int)⟩ t = rightAll (ptsOf (kk : Int) (c : Int) t.length) t from by
     rw [HFORM.out, decide_eq_true (by omega), Bool.true_and])
    have y1 : ¬ ((t.length : Int) < 1) := by omega
    have y2 : ¬ ((s : Int) < (t.length : Int)) := by omega
    obtain ⟨n, hn⟩ : ∃ n, n = t.length := ⟨_, rfl⟩
    have hn1 : 1 ≤ n ∧ n ≤ 64 := by omega
    rw [← hn] at y1 y2 ⊢
    rw [← hn] at HRT
    have HN1 := zH hn1
    have HQ := HK
    clear hb1 hb2 hn hn1
    go_upto_region 6 with fail
    clear y0 y1 y2 c1 c2 HK2 HFORM
    have hpts := parts_walk (kk : Int) (s : Int) c n w0 (by have := HQ.out; omega) (by have := HC.out; omega) (by have := HN1.out; omega) (HR.out.turn HT0.out)
    have HPTS := zH hpts
    have HGOOD := zH (pts_good (k := (kk : Int)) (by have := HQ.out; omega) HC.out HN1.out)
    have HPL := zH (pts_len (kk : Int) c n)
    clear hpts
    generalize ptsOf (kk : Int) (c : Int) n = ps at *
    obtain ⟨np, hnp⟩ : ∃ np, ps.length = np := ⟨_, rfl⟩
    have HNP := zH hnp
    rw [hnp] at HPTS HPL
    clear hnp
    refine wp_region_lit ?_
    refine wR (v := fmV ⟨(kk : Int), (s : Int), (c : Int)⟩) rfl (exec_load rfl rfl HLOAD.out) ?_
    simp only [zz]
    refine wM (.int .i64 (n : Int)) ?_
    simp only [zz]
    unfold fmV
    go_wp2_with (go_at_call 94; refine HPTS.out.mono ?_; rintro e w1 ⟨g, cp, rfl, hp, ht1⟩)
    have HP := zH hp
    have HT1 := zH (HT0.out.next ht1)
    clear hp ht1 HLOAD
    go_loopg [1, 27] np (fun gk x i wr => ∃ (k : Nat) (t2 : List UInt8), k + gk = np ∧ i = .int .i64 (k : Int) ∧ x = strV t2 ∧ rightAll (ps.drop k) t2 = rightAll ps t ∧ Turn nowhere w1 wr)
    case atStart => exact ⟨0, t, by omega, rfl, rfl, by rw [List.drop_zero], Turn.refl _ _⟩
    case round =>
     obtain ⟨k, t2, hkl, rfl, rfl, hright, htr⟩ := hrel
     have HKL := zH hkl
     have HTR := zH htr
     have HRR := zH hright
     clear hkl hright htr
     by_cases hlt : k < np
     ·have y1 : (k : Int) < (np : Int) := by omega
      have y2 : (0 : Int) ≤ (k : Int) := by omega
      have y3 : (np : Int) ≤ 2 := by have := HPL.out; omega
      obtain ⟨p, r, hd⟩ : ∃ p r, ps.drop k = p :: r := by
       cases h : ps.drop k with
       | nil =>
         have := congrArg List.length h
         rw [List.length_drop, HNP.out] at this
         simp at this
         omega
       | cons p r => exact ⟨p, r, rfl⟩
      have HD := zH (drop_cons hd)
      have hrr := HRR.out
      rw [hd] at hrr
      have HRC := zH hrr
      have HLT := zH hlt
      clear hlt hd hrr
      go_upto_region 8 with fail
      have hk0 : wr.rangeAt g (k * 3) (ptC p) := (HP.out.turn HTR.out (fun e => e)).range HD.out.1
      refine wp_region_lit ?_
      refine wR (v := .pointer (some ⟨g, k * 3, none⟩)) (w' := wr) rfl (by go_simp) ?_
      simp only [zz]
      refine wR (v := .agg (ptC p).toArray) rfl (exec_load rfl rfl (load_part hk0)) ?_
      simp only [zz]
      refine wR (v := _) rfl (exec_alloc rfl (zero_part _)) ?_
      simp only [zz]
      have hbn := Blk.new wr 167 #[.int .i64 0, .string ByteArray.empty, .string ByteArray.empty]
      have htn := (Turn.refl nowhere wr).alloc (.cells #[.int .i64 0, .string ByteArray.empty, .string ByteArray.empty] 167)
      generalize (wr.alloc (.cells #[.int .i64 0, .string ByteArray.empty, .string ByteArray.empty] 167)) = w4 at *
      obtain ⟨b8, hb8⟩ : ∃ b8, b8 = wr.heap.size := ⟨_, rfl⟩
      rw [← hb8] at hbn ⊢
      refine wpList_store_part rfl (.tmp 7) (.tmp 30) rfl hbn rfl rfl rfl size_part ?_
      intro w5 hq5 ht5
      have HT5 := zH (show Turn nowhere wr w5 from htn.trans ht5 (fun j hj e => by have h2 : j = b8 := e; omega))
      have HB5 := zH hq5
      clear hk0 hbn htn hb8 hq5 ht5
      simp only [Act.put]
      have HGD := zH (HGOOD.out p (List.mem_of_getElem? HD.out.1))
      go_upto_region 9 with fail
      have hS0 : PtB b8 p w5.drew := HB5.out.drew
      by_cases hshort : t2.length < p.n
      ·refine wp_region_till (PtB b8 p) 14 (by kernel_rfl) ?_
       refine till_pure (i := 0) (v := strV t2) rfl (by kernel_rfl) (by kernel_rfl) (fun _ _ _ h => h) (.inl ⟨by rfl, fun W hW => exec_move rfl rfl⟩) hS0 ?_
       simp only [zz]
       refine till_pure (i := 1) (v := .int .i64 (t2.length : Int)) rfl (by kernel_rfl) (by kernel_rfl) (fun _ _ _ h => h) (.inl ⟨by rfl, fun W hW => exec_slen rfl rfl⟩) hS0 ?_
       simp only [zz]
       refine till_pure (i := 2) (v := .pointer (some ⟨b8, 0, none⟩)) rfl (by kernel_rfl) (by kernel_rfl) (fun _ _ _ h => h) (.inl ⟨by rfl, fun W hW => exec_field (off := 0) (d := 0) rfl rfl (by kernel_rfl)⟩) hS0 ?_
       simp only [zz]
       refine till_only (i := 3) (by kernel_rfl) rfl rfl ?_
       refine wp_run (v := .int .i64 (p.n : Int)) (w' := w5.drew) (exec_load1 rfl rfl (by kernel_rfl) (Blk.cell hS0 0)) ?_
       refine ⟨fun _ => hS0, ?_⟩
       simp only [zz]
       refine till_only (i := 4) (by kernel_rfl) rfl rfl ?_
       refine wp_run (v := .bool true) (w' := w5.drew) (exec_lss rfl rfl rfl (by omega)) ?_
       refine ⟨fun _ => hS0, ?_⟩
       simp only [zz]
       refine till_only (i := 5) (by kernel_rfl) rfl rfl ?_
       refine wp_run (v := .bool true) (w' := w5.drew) (exec_move rfl rfl) ?_
       refine ⟨fun _ => hS0, ?_⟩
       simp only [zz]
       refine till_pure (i := 6) (v := undef) rfl (by kernel_rfl) (by kernel_rfl) (fun _ _ _ h => h) (.inr ⟨by rfl, rfl⟩) hS0 ?_
       simp only [zz]
       refine till_pure (i := 7) (v := undef) rfl (by kernel_rfl) (by kernel_rfl) (fun _ _ _ h => h) (.inr ⟨by rfl, rfl⟩) hS0 ?_
       simp only [zz]
       refine till_pure (i := 8) (v := undef) rfl (by kernel_rfl) (by kernel_rfl) (fun _ _ _ h => h) (.inr ⟨by rfl, rfl⟩) hS0 ?_
       simp only [zz]
       refine till_pure (i := 9) (v := undef) rfl (by kernel_rfl) (by kernel_rfl) (fun _ _ _ h => h) (.inr ⟨by rfl, rfl⟩) hS0 ?_
       simp only [zz]
       refine till_pure (i := 10) (v := undef) rfl (by kernel_rfl) (by kernel_rfl) (fun _ _ _ h => h) (.inr ⟨by rfl, rfl⟩) hS0 ?_
       simp only [zz]
       refine till_pure (i := 11) (v := undef) rfl (by kernel_rfl) (by kernel_rfl) (fun _ _ _ h => h) (.inr ⟨by rfl, rfl⟩) hS0 ?_
       simp only [zz]
       refine till_pure (i := 12) (v := undef) rfl (by kernel_rfl) (by kernel_rfl) (fun _ _ _ h => h) (.inr ⟨by rfl, rfl⟩) hS0 ?_
       simp only [zz]
       refine till_pure (i := 13) (v := undef) rfl (by kernel_rfl) (by kernel_rfl) (fun _ _ _ h => h) (.inr ⟨by rfl, rfl⟩) hS0 ?_
       simp only [zz]
       refine till_tail 14 rfl (by kernel_rfl) ?_
       have HNO := zH (show Fm.right ⟨(kk : Int), (s : Int), (c : Int)⟩ t = false from by
        rw [HRT.out, ← HRC.out]
        unfold rightAll
        rw [decide_eq_false (by omega)]
        rfl)
       clear hshort
       go_wp2_with fail
       refine NoPanic.normal ?_
       go_wp2_with fail
       go_ret
       exact ⟨ret_bool HNO.out.symm, (HT1.out.next HTR.out).next HT5.out |>.drew⟩
      ·refine wp_region_till (PtB b8 p) 12 (by kernel_rfl) ?_
       refine till_pure (i := 0) (v := strV t2) rfl (by kernel_rfl) (by kernel_rfl) (fun _ _ _ h => h) (.inl ⟨by rfl, fun W hW => exec_move rfl rfl⟩) hS0 ?_
       simp only [zz]
       refine till_pure (i := 1) (v := .int .i64 (t2.length : Int)) rfl (by kernel_rfl) (by kernel_rfl) (fun _ _ _ h => h) (.inl ⟨by rfl, fun W hW => exec_slen rfl rfl⟩) hS0 ?_
       simp only [zz]
       refine till_pure (i := 2) (v := .pointer (some ⟨b8, 0, none⟩)) rfl (by kernel_rfl) (by kernel_rfl) (fun _ _ _ h => h) (.inl ⟨by rfl, fun W hW => exec_field (off := 0) (d := 0) rfl rfl (by kernel_rfl)⟩) hS0 ?_
       simp only [zz]
       refine till_only (i := 3) (by kernel_rfl) rfl rfl ?_
       refine wp_run (v := .int .i64 (p.n : Int)) (w' := w5.drew) (exec_load1 rfl rfl (by kernel_rfl) (Blk.cell hS0 0)) ?_
       refine ⟨fun _ => hS0, ?_⟩
       simp only [zz]
       refine till_only (i := 4) (by kernel_rfl) rfl rfl ?_
       refine wp_run (v := .bool false) (w' := w5.drew) (exec_nlss rfl rfl rfl (by omega)) ?_
       refine ⟨fun _ => hS0, ?_⟩
       simp only [zz]
       refine till_only (i := 5) (by kernel_rfl) rfl rfl ?_
       refine wp_run (v := .bool false) (w' := w5.drew) (exec_move rfl rfl) ?_
       refine ⟨fun _ => hS0, ?_⟩
       simp only [zz]
       refine till_pure (i := 6) (v := strV t2) rfl (by kernel_rfl) (by kernel_rfl) (fun _ _ _ h => h) (.inl ⟨by rfl, fun W hW => exec_move rfl rfl⟩) hS0 ?_
       simp only [zz]
       refine till_pure (i := 7) (v := .pointer (some ⟨b8, 0, none⟩)) rfl (by kernel_rfl) (by kernel_rfl) (fun _ _ _ h => h) (.inl ⟨by rfl, fun W hW => exec_field (off := 0) (d := 0) rfl rfl (by kernel_rfl)⟩) hS0 ?_
       simp only [zz]
       refine till_pure (i := 10) (v := .pointer (some ⟨b8, 1, none⟩)) rfl (by kernel_rfl) (by kernel_rfl) (fun _ _ _ h => h) (.inl ⟨by rfl, fun W hW => exec_field (off := 0) (d := 1) rfl rfl (by kernel_rfl)⟩) hS0 ?_
       simp only [zz]
       refine till_take2 9 (i := 8) (v := .int .i64 (p.n : Int)) rfl (by kernel_rfl) (by kernel_rfl) (fun _ _ _ h => h) (.inl ⟨by rfl, fun W hW => exec_load1 rfl rfl (by kernel_rfl) (Blk.cell hW 0)⟩) hS0 ?_
       simp only [zz]
       refine tT (i := 11) (v := strV p.chars) rfl (by kernel_rfl) (by kernel_rfl) (fun W hW => exec_load1 rfl rfl (by kernel_rfl) (Blk.cell hW 1)) hS0 ?_
       simp only [zz]
       have hle : p.n ≤ t2.length := by omega
       have HLE := zH hle
       refine till_only (i := 9) (by kernel_rfl) rfl rfl ?_
       refine wp_run (v := strV (t2.take p.n)) (w' := w5.drew) (exec_sto rfl rfl rfl hle) ?_
       refine ⟨fun _ => hS0, ?_⟩
       simp only [zz]
       clear hshort hle
       refine till_step (i := 12) (by kernel_rfl) rfl rfl ?_
       intro K1 HK1
       go_wp2_with fail
       refine (only_walk (t2.take p.n) p.chars (by have := HGD.out.ch; omega) HGD.out.asc _).mono ?_
       rintro e w6 ⟨rfl, ht6⟩
       have hS1 : PtB b8 p w6 := hS0.turn ht6 (fun e => e)
       refine HK1.out _ _ ⟨fun _ => hS1, ?_⟩
       clear HK1
       have HB6 := zH hS1
       have HT6 := zH ht6
       clear hS0 hS1 ht6
       have hrc : rightAll ps t = (onlyOf (t2.take p.n) p.chars && rightAll r (t2.drop p.n)) := by
        rw [← HRC.out]
        unfold rightAll
        rw [decide_eq_true HLE.out, Bool.true_and]
        cases r <;> rfl
       have HRC2 := zH hrc
       clear hrc
       refine till_tail 13 rfl (by kernel_rfl) ?_
       cases hon : onlyOf (t2.take p.n) p.chars with
       | false =>
         have HNO := zH (show Fm.right ⟨(kk : Int), (s : Int), (c : Int)⟩ t = false from by rw [HRT.out, HRC2.out, hon]; rfl)
         clear hon
         go_wp2_with fail
         refine NoPanic.normal ?_
         go_wp2_with fail
         go_ret
         exact ⟨ret_bool HNO.out.symm, (((HT1.out.next HTR.out).next HT5.out).drew).next HT6.out⟩
       | true =>
         have HYES := zH (show rightAll r (t2.drop p.n) = rightAll ps t from by rw [HRC2.out, hon]; rfl)
         clear hon
         go_wp2_with fail
         refine NoPanic.normal ?_
         go_upto_region 11 with fail
         refine wp_region_lit ?_
         refine wM (strV t2) ?_
         simp only [zz]
         refine wR (v := .pointer (some ⟨b8, 0, none⟩)) rfl (exec_field (off := 0) (d := 0) rfl rfl (by kernel_rfl)) ?_
         simp only [zz]
         refine wR (v := .int .i64 (p.n : Int)) rfl (exec_load1 rfl rfl (by kernel_rfl) (Blk.cell HB6.out 0)) ?_
         simp only [zz]
         refine wR (v := strV (t2.drop p.n)) (w' := w6) rfl (exec_sfrom rfl rfl rfl HLE.out) ?_
         simp only [zz]
         go_wp2_with fail
         go_roundg (gk - 1)
         case measure => have := HKL.out; have := HLT.out; omega
         case rel => exact ⟨k + 1, t2.drop p.n, by have := HKL.out; have := HLT.out; omega, by go_num, rfl, by rw [HD.out.2.1]; exact HYES.out, ((HTR.out.next HT5.out).drew).next HT6.out⟩
     ·have hke : k = np := by have := HKL.out; omega
      have y1 : ¬ ((k : Int) < (np : Int)) := by omega
      clear hlt
      have hrr := HRR.out
      rw [List.drop_of_length_le (by rw [HNP.out, hke]; exact Nat.le_refl _)] at hrr
      have HEND := zH (show Fm.right ⟨(kk : Int), (s : Int), (c : Int)⟩ t = (t2 == []) from by rw [HRT.out, ← hrr]; rfl)
      clear hke hrr
      go_upto_region 13 with fail
      refine wp_region_lit ?_
      refine wM (strV t2) ?_
      simp only [zz]
      refine wR (v := .bool (t2 == [])) (w' := wr) rfl (exec_seql (m := []) rfl rfl rfl) ?_
      simp only [zz]
      rw [← HEND.out]
      go_wp2_with fail
      go_ret
      exact ⟨rfl, HT1.out.next HTR.out⟩
 ·obtain ⟨n, hn⟩ : ∃ n, n = s := ⟨_, rfl⟩
  have HRT := zH (show Fm.right ⟨(kk : Int), (s : Int), (c : Int)⟩ t = rightAll (ptsOf (kk : Int) (c : Int) n) t from by
   unfold Fm.right
   rw [if_neg (by simp; omega), hn]
   rfl)
  have y1 : ((kk : Int) == 2) = false := by simp; omega
  clear hk2 hk
  have HN1 := zH (show 1 ≤ n ∧ n ≤ 64 from by omega)
  have HQ := HK
  clear c2
  go_upto_region 6 with fail
  rw [← hn]
  clear hn c1 y1
  have hpts := parts_walk (kk : Int) (s : Int) c n w0 (by have := HQ.out; omega) (by have := HC.out; omega) (by have := HN1.out; omega) (HR.out.turn HT0.out)
  have HPTS := zH hpts
  have HGOOD := zH (pts_good (k := (kk : Int)) (by have := HQ.out; omega) HC.out HN1.out)
  have HPL := zH (pts_len (kk : Int) c n)
  clear hpts
  generalize ptsOf (kk : Int) (c : Int) n = ps at *
  obtain ⟨np, hnp⟩ : ∃ np, ps.length = np := ⟨_, rfl⟩
  have HNP := zH hnp
  rw [hnp] at HPTS HPL
  clear hnp
  refine wp_region_lit ?_
  refine wR (v := fmV ⟨(kk : Int), (s : Int), (c : Int)⟩) rfl (exec_load rfl rfl HLOAD.out) ?_
  simp only [zz]
  refine wM (.int .i64 (n : Int)) ?_
  simp only [zz]
  unfold fmV
  go_wp2_with (go_at_call 94; refine HPTS.out.mono ?_; rintro e w1 ⟨g, cp, rfl, hp, ht1⟩)
  have HP := zH hp
  have HT1 := zH (HT0.out.next ht1)
  clear hp ht1 HLOAD
  go_loopg [1, 27] np (fun gk x i wr => ∃ (k : Nat) (t2 : List UInt8), k + gk = np ∧ i = .int .i64 (k : Int) ∧ x = strV t2 ∧ rightAll (ps.drop k) t2 = rightAll ps t ∧ Turn nowhere w1 wr)
  case atStart => exact ⟨0, t, by omega, rfl, rfl, by rw [List.drop_zero], Turn.refl _ _⟩
  case round =>
   obtain ⟨k, t2, hkl, rfl, rfl, hright, htr⟩ := hrel
   have HKL := zH hkl
   have HTR := zH htr
   have HRR := zH hright
   clear hkl hright htr
   by_cases hlt : k < np
   ·have y1 : (k : Int) < (np : Int) := by omega
    have y2 : (0 : Int) ≤ (k : Int) := by omega
    have y3 : (np : Int) ≤ 2 := by have := HPL.out; omega
    obtain ⟨p, r, hd⟩ : ∃ p r, ps.drop k = p :: r := by
     cases h : ps.drop k with
     | nil =>
       have := congrArg List.length h
       rw [List.length_drop, HNP.out] at this
       simp at this
       omega
     | cons p r => exact ⟨p, r, rfl⟩
    have HD := zH (drop_cons hd)
    have hrr := HRR.out
    rw [hd] at hrr
    have HRC := zH hrr
    have HLT := zH hlt
    clear hlt hd hrr
    go_upto_region 8 with fail
    have hk0 : wr.rangeAt g (k * 3) (ptC p) := (HP.out.turn HTR.out (fun e => e)).range HD.out.1
    refine wp_region_lit ?_
    refine wR (v := .pointer (some ⟨g, k * 3, none⟩)) (w' := wr) rfl (by go_simp) ?_
    simp only [zz]
    refine wR (v := .agg (ptC p).toArray) rfl (exec_load rfl rfl (load_part hk0)) ?_
    simp only [zz]
    refine wR (v := _) rfl (exec_alloc rfl (zero_part _)) ?_
    simp only [zz]
    have hbn := Blk.new wr 167 #[.int .i64 0, .string ByteArray.empty, .string ByteArray.empty]
    have htn := (Turn.refl nowhere wr).alloc (.cells #[.int .i64 0, .string ByteArray.empty, .string ByteArray.empty] 167)
    generalize (wr.alloc (.cells #[.int .i64 0, .string ByteArray.empty, .string ByteArray.empty] 167)) = w4 at *
    obtain ⟨b8, hb8⟩ : ∃ b8, b8 = wr.heap.size := ⟨_, rfl⟩
    rw [← hb8] at hbn ⊢
    refine wpList_store_part rfl (.tmp 7) (.tmp 30) rfl hbn rfl rfl rfl size_part ?_
    intro w5 hq5 ht5
    have HT5 := zH (show Turn nowhere wr w5 from htn.trans ht5 (fun j hj e => by have h2 : j = b8 := e; omega))
    have HB5 := zH hq5
    clear hk0 hbn htn hb8 hq5 ht5
    simp only [Act.put]
    have HGD := zH (HGOOD.out p (List.mem_of_getElem? HD.out.1))
    go_upto_region 9 with fail
    have hS0 : PtB b8 p w5.drew := HB5.out.drew
    by_cases hshort : t2.length < p.n
    ·refine wp_region_till (PtB b8 p) 14 (by kernel_rfl) ?_
     refine till_pure (i := 0) (v := strV t2) rfl (by kernel_rfl) (by kernel_rfl) (fun _ _ _ h => h) (.inl ⟨by rfl, fun W hW => exec_move rfl rfl⟩) hS0 ?_
     simp only [zz]
     refine till_pure (i := 1) (v := .int .i64 (t2.length : Int)) rfl (by kernel_rfl) (by kernel_rfl) (fun _ _ _ h => h) (.inl ⟨by rfl, fun W hW => exec_slen rfl rfl⟩) hS0 ?_
     simp only [zz]
     refine till_pure (i := 2) (v := .pointer (some ⟨b8, 0, none⟩)) rfl (by kernel_rfl) (by kernel_rfl) (fun _ _ _ h => h) (.inl ⟨by rfl, fun W hW => exec_field (off := 0) (d := 0) rfl rfl (by kernel_rfl)⟩) hS0 ?_
     simp only [zz]
     refine till_only (i := 3) (by kernel_rfl) rfl rfl ?_
     refine wp_run (v := .int .i64 (p.n : Int)) (w' := w5.drew) (exec_load1 rfl rfl (by kernel_rfl) (Blk.cell hS0 0)) ?_
     refine ⟨fun _ => hS0, ?_⟩
     simp only [zz]
     refine till_only (i := 4) (by kernel_rfl) rfl rfl ?_
     refine wp_run (v := .bool true) (w' := w5.drew) (exec_lss rfl rfl rfl (by omega)) ?_
     refine ⟨fun _ => hS0, ?_⟩
     simp only [zz]
     refine till_only (i := 5) (by kernel_rfl) rfl rfl ?_
     refine wp_run (v := .bool true) (w' := w5.drew) (exec_move rfl rfl) ?_
     refine ⟨fun _ => hS0, ?_⟩
     simp only [zz]
     refine till_pure (i := 6) (v := undef) rfl (by kernel_rfl) (by kernel_rfl) (fun _ _ _ h => h) (.inr ⟨by rfl, rfl⟩) hS0 ?_
     simp only [zz]
     refine till_pure (i := 7) (v := undef) rfl (by kernel_rfl) (by kernel_rfl) (fun _ _ _ h => h) (.inr ⟨by rfl, rfl⟩) hS0 ?_
     simp only [zz]
     refine till_pure (i := 8) (v := undef) rfl (by kernel_rfl) (by kernel_rfl) (fun _ _ _ h => h) (.inr ⟨by rfl, rfl⟩) hS0 ?_
     simp only [zz]
     refine till_pure (i := 9) (v := undef) rfl (by kernel_rfl) (by kernel_rfl) (fun _ _ _ h => h) (.inr ⟨by rfl, rfl⟩) hS0 ?_
     simp only [zz]
     refine till_pure (i := 10) (v := undef) rfl (by kernel_rfl) (by kernel_rfl) (fun _ _ _ h => h) (.inr ⟨by rfl, rfl⟩) hS0 ?_
     simp only [zz]
     refine till_pure (i := 11) (v := undef) rfl (by kernel_rfl) (by kernel_rfl) (fun _ _ _ h => h) (.inr ⟨by rfl, rfl⟩) hS0 ?_
     simp only [zz]
     refine till_pure (i := 12) (v := undef) rfl (by kernel_rfl) (by kernel_rfl) (fun _ _ _ h => h) (.inr ⟨by rfl, rfl⟩) hS0 ?_
     simp only [zz]
     refine till_pure (i := 13) (v := undef) rfl (by kernel_rfl) (by kernel_rfl) (fun _ _ _ h => h) (.inr ⟨by rfl, rfl⟩) hS0 ?_
     simp only [zz]
     refine till_tail 14 rfl (by kernel_rfl) ?_
     have HNO := zH (show Fm.right ⟨(kk : Int), (s : Int), (c : Int)⟩ t = false from by
      rw [HRT.out, ← HRC.out]
      unfold rightAll
      rw [decide_eq_false (by omega)]
      rfl)
     clear hshort
     go_wp2_with fail
     refine NoPanic.normal ?_
     go_wp2_with fail
     go_ret
     exact ⟨ret_bool HNO.out.symm, (HT1.out.next HTR.out).next HT5.out |>.drew⟩
    ·refine wp_region_till (PtB b8 p) 12 (by kernel_rfl) ?_
     refine till_pure (i := 0) (v := strV t2) rfl (by kernel_rfl) (by kernel_rfl) (fun _ _ _ h => h) (.inl ⟨by rfl, fun W hW => exec_move rfl rfl⟩) hS0 ?_
     simp only [zz]
     refine till_pure (i := 1) (v := .int .i64 (t2.length : Int)) rfl (by kernel_rfl) (by kernel_rfl) (fun _ _ _ h => h) (.inl ⟨by rfl, fun W hW => exec_slen rfl rfl⟩) hS0 ?_
     simp only [zz]
     refine till_pure (i := 2) (v := .pointer (some ⟨b8, 0, none⟩)) rfl (by kernel_rfl) (by kernel_rfl) (fun _ _ _ h => h) (.inl ⟨by rfl, fun W hW => exec_field (off := 0) (d := 0) rfl rfl (by kernel_rfl)⟩) hS0 ?_
     simp only [zz]
     refine till_only (i := 3) (by kernel_rfl) rfl rfl ?_
     refine wp_run (v := .int .i64 (p.n : Int)) (w' := w5.drew) (exec_load1 rfl rfl (by kernel_rfl) (Blk.cell hS0 0)) ?_
     refine ⟨fun _ => hS0, ?_⟩
     simp only [zz]
     refine till_only (i := 4) (by kernel_rfl) rfl rfl ?_
     refine wp_run (v := .bool false) (w' := w5.drew) (exec_nlss rfl rfl rfl (by omega)) ?_
     refine ⟨fun _ => hS0, ?_⟩
     simp only [zz]
     refine till_only (i := 5) (by kernel_rfl) rfl rfl ?_
     refine wp_run (v := .bool false) (w' := w5.drew) (exec_move rfl rfl) ?_
     refine ⟨fun _ => hS0, ?_⟩
     simp only [zz]
     refine till_pure (i := 6) (v := strV t2) rfl (by kernel_rfl) (by kernel_rfl) (fun _ _ _ h => h) (.inl ⟨by rfl, fun W hW => exec_move rfl rfl⟩) hS0 ?_
     simp only [zz]
     refine till_pure (i := 7) (v := .pointer (some ⟨b8, 0, none⟩)) rfl (by kernel_rfl) (by kernel_rfl) (fun _ _ _ h => h) (.inl ⟨by rfl, fun W hW => exec_field (off := 0) (d := 0) rfl rfl (by kernel_rfl)⟩) hS0 ?_
     simp only [zz]
     refine till_pure (i := 10) (v := .pointer (some ⟨b8, 1, none⟩)) rfl (by kernel_rfl) (by kernel_rfl) (fun _ _ _ h => h) (.inl ⟨by rfl, fun W hW => exec_field (off := 0) (d := 1) rfl rfl (by kernel_rfl)⟩) hS0 ?_
     simp only [zz]
     refine till_take2 9 (i := 8) (v := .int .i64 (p.n : Int)) rfl (by kernel_rfl) (by kernel_rfl) (fun _ _ _ h => h) (.inl ⟨by rfl, fun W hW => exec_load1 rfl rfl (by kernel_rfl) (Blk.cell hW 0)⟩) hS0 ?_
     simp only [zz]
     refine tT (i := 11) (v := strV p.chars) rfl (by kernel_rfl) (by kernel_rfl) (fun W hW => exec_load1 rfl rfl (by kernel_rfl) (Blk.cell hW 1)) hS0 ?_
     simp only [zz]
     have hle : p.n ≤ t2.length := by omega
     have HLE := zH hle
     refine till_only (i := 9) (by kernel_rfl) rfl rfl ?_
     refine wp_run (v := strV (t2.take p.n)) (w' := w5.drew) (exec_sto rfl rfl rfl hle) ?_
     refine ⟨fun _ => hS0, ?_⟩
     simp only [zz]
     clear hshort hle
     refine till_step (i := 12) (by kernel_rfl) rfl rfl ?_
     intro K1 HK1
     go_wp2_with fail
     refine (only_walk (t2.take p.n) p.chars (by have := HGD.out.ch; omega) HGD.out.asc _).mono ?_
     rintro e w6 ⟨rfl, ht6⟩
     have hS1 : PtB b8 p w6 := hS0.turn ht6 (fun e => e)
     refine HK1.out _ _ ⟨fun _ => hS1, ?_⟩
     clear HK1
     have HB6 := zH hS1
     have HT6 := zH ht6
     clear hS0 hS1 ht6
     have hrc : rightAll ps t = (onlyOf (t2.take p.n) p.chars && rightAll r (t2.drop p.n)) := by
      rw [← HRC.out]
      unfold rightAll
      rw [decide_eq_true HLE.out, Bool.true_and]
      cases r <;> rfl
     have HRC2 := zH hrc
     clear hrc
     refine till_tail 13 rfl (by kernel_rfl) ?_
     cases hon : onlyOf (t2.take p.n) p.chars with
     | false =>
       have HNO := zH (show Fm.right ⟨(kk : Int), (s : Int), (c : Int)⟩ t = false from by rw [HRT.out, HRC2.out, hon]; rfl)
       clear hon
       go_wp2_with fail
       refine NoPanic.normal ?_
       go_wp2_with fail
       go_ret
       exact ⟨ret_bool HNO.out.symm, (((HT1.out.next HTR.out).next HT5.out).drew).next HT6.out⟩
     | true =>
       have HYES := zH (show rightAll r (t2.drop p.n) = rightAll ps t from by rw [HRC2.out, hon]; rfl)
       clear hon
       go_wp2_with fail
       refine NoPanic.normal ?_
       go_upto_region 11 with fail
       refine wp_region_lit ?_
       refine wM (strV t2) ?_
       simp only [zz]
       refine wR (v := .pointer (some ⟨b8, 0, none⟩)) rfl (exec_field (off := 0) (d := 0) rfl rfl (by kernel_rfl)) ?_
       simp only [zz]
       refine wR (v := .int .i64 (p.n : Int)) rfl (exec_load1 rfl rfl (by kernel_rfl) (Blk.cell HB6.out 0)) ?_
       simp only [zz]
       refine wR (v := strV (t2.drop p.n)) (w' := w6) rfl (exec_sfrom rfl rfl rfl HLE.out) ?_
       simp only [zz]
       go_wp2_with fail
       go_roundg (gk - 1)
       case measure => have := HKL.out; have := HLT.out; omega
       case rel => exact ⟨k + 1, t2.drop p.n, by have := HKL.out; have := HLT.out; omega, by go_num, rfl, by rw [HD.out.2.1]; exact HYES.out, ((HTR.out.next HT5.out).drew).next HT6.out⟩
   ·have hke : k = np := by have := HKL.out; omega
    have y1 : ¬ ((k : Int) < (np : Int)) := by omega
    clear hlt
    have hrr := HRR.out
    rw [List.drop_of_length_le (by rw [HNP.out, hke]; exact Nat.le_refl _)] at hrr
    have HEND := zH (show Fm.right ⟨(kk : Int), (s : Int), (c : Int)⟩ t = (t2 == []) from by rw [HRT.out, ← hrr]; rfl)
    clear hke hrr
    go_upto_region 13 with fail
    refine wp_region_lit ?_
    refine wM (strV t2) ?_
    simp only [zz]
    refine wR (v := .bool (t2 == [])) (w' := wr) rfl (exec_seql (m := []) rfl rfl rfl) ?_
    simp only [zz]
    rw [← HEND.out]
    go_wp2_with fail
    go_ret
    exact ⟨rfl, HT1.out.next HTR.out⟩
theorem may_nat {f : Fm} (h : f.may = true) : ∃ k s c : Nat, f = ⟨(k : Int), (s : Int), (c : Int)⟩ ∧ (1 ≤ k ∧ k ≤ 5) ∧ (1 ≤ c ∧ c ≤ 3) ∧ (1 ≤ s ∧ s ≤ 64) := by
 obtain ⟨k, s, c⟩ := f
 simp only [Fm.may, Bool.and_eq_true, decide_eq_true_eq] at h
 obtain ⟨h1, h2, h3⟩ := h
 refine ⟨k.toNat, s.toNat, c.toNat, ?_, by omega, by omega, by omega⟩
 rw [Int.toNat_of_nonneg (by omega), Int.toNat_of_nonneg (by omega), Int.toNat_of_nonneg (by omega)]
theorem check_walk {w : World} {f : Fm} {t : List UInt8} (hr : RowsT w) :
 Calls Tryz.prog 46 #[fmV f, strV t] w fun e w' => e = .returned (.int .i64 (f.check t)) ∧ Turn nowhere w w' := by
 have HR := zH hr
 clear hr
 have HMW := zH (mayBe_walk f)
 have hrw : f.may = true → ∀ W, RowsT W → Calls Tryz.prog 75 #[fmV f, strV t] W fun e w' => e = .returned (.bool (f.right t)) ∧ Turn nowhere W w' := by
  intro h W hW
  obtain ⟨k, s, c, rfl, h1, h2, h3⟩ := may_nat h
  exact right_walk h1 h2 h3 hW
 have HRW := zH hrw
 have hch : f.check t = if f.may = true then if f.right t = true then 0 else 41 else 40 := rfl
 have HCH := zH hch
 clear hrw hch
 obtain ⟨fv, hfv⟩ : ∃ fv, fv = fmC f := ⟨_, rfl⟩
 have hv : fmV f = .agg fv := by rw [hfv]; rfl
 have hlf : ∀ W g, Blk W g 49 fv → (Instr.loadAt 49 (.pointer (some ⟨g, 0, none⟩))).run Tryz.prog W = .ok (.agg fv) W := by
  intro W g hb
  rw [← hv]
  rw [hfv] at hb
  exact load_blkForm hb
 have HLF := zH hlf
 have HV := zH hv
 rw [hv] at HMW HRW ⊢
 obtain ⟨x0, x1, x2, rfl⟩ : ∃ x0 x1 x2, fv = #[.int .i64 x0, .int .i64 x1, .int .i64 x2] := ⟨_, _, _, hfv⟩
 clear hlf hv hfv
 go_enter Tryz.func46, Tryz.ntmps46
 go_upto_region 1 with fail
 have hb0 := Blk.new w 49 #[.int .i64 x0, .int .i64 x1, .int .i64 x2]
 have ht0 := (Turn.refl nowhere w).alloc (.cells #[.int .i64 x0, .int .i64 x1, .int .i64 x2] 49)
 generalize (w.alloc (.cells #[.int .i64 x0, .int .i64 x1, .int .i64 x2] 49)) = w0 at *
 generalize w.heap.size = b2 at *
 refine wp_region_lit ?_
 refine wR (v := .agg #[.int .i64 x0, .int .i64 x1, .int .i64 x2]) rfl (exec_load rfl rfl (HLF.out _ _ hb0)) ?_
 simp only [zz]
 have HB0 := zH hb0
 have HT0 := zH ht0
 clear hb0 ht0
 cases hmay : f.may with
 | false =>
   rw [hmay] at HMW
   have HC := zH (show f.check t = 40 from by rw [HCH.out, hmay]; rfl)
   clear hmay
   go_wp2_with (go_at_call 74; refine (HMW.out _).mono ?_; rintro e w1 ⟨rfl, ht1⟩)
   go_ret
   exact ⟨ret_int HC.out.symm, HT0.out.next ht1⟩
 | true =>
   rw [hmay] at HMW
   have HC := zH (show f.check t = if f.right t = true then 0 else 41 from by rw [HCH.out, hmay]; rfl)
   have HMY := zH hmay
   clear hmay
   go_upto_region 3 with (go_at_call 74; refine (HMW.out _).mono ?_; rintro e w1 ⟨rfl, ht1⟩)
   have HT1 := zH (HT0.out.next ht1)
   have hb1 := HB0.out.turn ht1 (fun e => e)
   clear ht1
   refine wp_region_lit ?_
   refine wR (v := .agg #[.int .i64 x0, .int .i64 x1, .int .i64 x2]) rfl (exec_load rfl rfl (HLF.out _ _ hb1)) ?_
   simp only [zz]
   clear hb1
   have hcall := HRW.out HMY.out w1 (HR.out.turn HT1.out)
   cases hrt : f.right t with
   | false =>
     rw [hrt] at hcall
     have HC2 := zH (show f.check t = 41 from by rw [HC.out, hrt]; rfl)
     clear hrt
     go_wp2_with (go_at_call 75; refine hcall.mono ?_; rintro e w2 ⟨rfl, ht2⟩)
     go_ret
     exact ⟨ret_int HC2.out.symm, HT1.out.next ht2⟩
   | true =>
     rw [hrt] at hcall
     have HC2 := zH (show f.check t = 0 from by rw [HC.out, hrt]; rfl)
     clear hrt
     go_wp2_with (go_at_call 75; refine hcall.mono ?_; rintro e w2 ⟨rfl, ht2⟩)
     go_ret
     exact ⟨ret_int HC2.out.symm, HT1.out.next ht2⟩
theorem repeat_one (c : UInt8) : ∀ n, Lib.repeatL [c] n = List.replicate n c
 | 0 => rfl
 | n + 1 => by
   unfold Lib.repeatL
   rw [repeat_one c n]
   rfl
def digitsOf (n size : Int) : List UInt8 × Int :=
 if size < 1 ∨ 18 < size then ([], 40) else if n < 0 ∨ size < ((Lib.itoa n).length : Int) then ([], 41) else (List.replicate (size.toNat - (Lib.itoa n).length) 48 ++ Lib.itoa n, 0)
def ItoaAt (n : Int) (w : World) : Prop := Calls Tryz.prog 88 #[.int .i64 n] w fun e w' => e = .returned (strV (Lib.itoa n)) ∧ Turn nowhere w w'
theorem itoa_small (n : Nat) (h : n < 100) (w : World) : ItoaAt (n : Int) w := by
 refine (Any.strconv_Itoa_small Tryz.lays171 n h w).mono ?_
 rintro e w' ⟨rfl, rfl⟩
 refine ⟨?_, Turn.refl _ _⟩
 have : Lib.itoa (n : Int) = Lib.decDigits n := by
  unfold Lib.itoa
  rw [if_neg (by omega), Int.toNat_natCast]
 rw [this]
 rfl
theorem digits_walk (n size : Int) (w : World) (hi : ∀ W, Turn nowhere w W → ItoaAt n W) :
 Calls Tryz.prog 58 #[.int .i64 n, .int .i64 size] w fun e w' => e = .returned (.tuple #[strV (digitsOf n size).1, .int .i64 (digitsOf n size).2]) ∧ Turn nowhere w w' := by
 have HI := zH (hi w (Turn.refl _ _))
 clear hi
 have hdef : digitsOf n size = if size < 1 ∨ 18 < size then ([], 40) else if n < 0 ∨ size < ((Lib.itoa n).length : Int) then ([], 41) else (List.replicate (size.toNat - (Lib.itoa n).length) 48 ++ Lib.itoa n, 0) := rfl
 have HD := zH hdef
 clear hdef
 go_enter Tryz.func58, Tryz.ntmps58
 by_cases h1 : size < 1
 ·have HX := zH (show digitsOf n size = ([], 40) from by rw [HD.out, if_pos (.inl h1)])
  go_wp2_with fail
  go_ret2
  rw [HX.out]
  exact ⟨rfl, Turn.refl _ _⟩
 ·by_cases h2 : 18 < size
  ·have HX := zH (show digitsOf n size = ([], 40) from by rw [HD.out, if_pos (.inr h2)])
   go_wp2_with fail
   go_ret2
   rw [HX.out]
   exact ⟨rfl, Turn.refl _ _⟩
  ·have HX := zH (show digitsOf n size = if n < 0 ∨ size < ((Lib.itoa n).length : Int) then ([], 41) else (List.replicate (size.toNat - (Lib.itoa n).length) 48 ++ Lib.itoa n, 0) from by rw [HD.out, if_neg (by omega)])
   go_upto_region 4 with (go_at_call 88; refine HI.out.mono ?_; rintro e w1 ⟨rfl, ht⟩)
   have HT := zH ht
   clear ht HD
   generalize Lib.itoa n = dg at *
   unfold strV
   by_cases h3 : n < 0
   ·have HY := zH (show digitsOf n size = ([], 41) from by rw [HX.out, if_pos (.inl h3)])
    go_wp2_with fail
    go_ret2
    rw [HY.out]
    exact ⟨rfl, HT.out⟩
   ·by_cases h4 : size < (dg.length : Int)
    ·have HY := zH (show digitsOf n size = ([], 41) from by rw [HX.out, if_pos (.inr h4)])
     go_wp2_with fail
     go_ret2
     rw [HY.out]
     exact ⟨rfl, HT.out⟩
    ·have HY := zH (show digitsOf n size = (List.replicate (size.toNat - dg.length) 48 ++ dg, 0) from by rw [HX.out, if_neg (by omega)])
     go_upto_region 6 with fail
     refine wp_region_lit ?_
     refine wR (v := .int .i64 ((size.toNat : Nat) : Int)) (w' := w1) rfl (by rw [Int.toNat_of_nonneg (by omega)]; exact exec_move rfl rfl) ?_
     simp only [zz]
     refine wM (strV dg) ?_
     simp only [zz]
     refine wR (v := .int .i64 (dg.length : Int)) (w' := w1) rfl (exec_slen rfl rfl) ?_
     simp only [zz]
     refine wR (v := .int .i64 ((size.toNat - dg.length : Nat) : Int)) (w' := w1) rfl (exec_sub rfl rfl rfl (by omega) (by omega)) ?_
     simp only [zz]
     have h5 : size.toNat - dg.length ≤ 18 := by omega
     have h6 : dg.length ≤ 18 := by omega
     have H6 := zH h6
     generalize size.toNat - dg.length = m at *
     have H5 := zH h5
     clear h3 h4 h5 h6
     have hrep : Calls Tryz.prog 89 #[.string ⟨#[48]⟩, .int .i64 (m : Int)] w1 fun e w' => e = .returned (strV (List.replicate m 48)) ∧ Below w1.heap.size w1 w' := by
      have h := Any.strings_Repeat Tryz.lays105 Tryz.Builder_Extra_105 ⟨#[48]⟩ m w1 (by have := H5.out; omega) (by have := H5.out; rw [show (ByteArray.mk #[48]).size = 1 from rfl]; omega)
      rw [show (ByteArray.mk #[48]).data.toList = [48] from rfl, repeat_one] at h
      exact h
     go_wp2_with (first
      | (go_at_call 89; refine hrep.mono ?_; rintro e w2 ⟨rfl, hb⟩)
      | (refine wR (v := strV (List.replicate m 48 ++ dg)) (w' := w2) rfl (exec_sadd (l := List.replicate m 48) (m := dg) rfl rfl rfl (by have := H5.out; have := H6.out; rw [List.length_replicate]; omega)) ?_))
     go_ret2
     rw [HY.out]
     exact ⟨rfl, HT.out.next (Turn.of_below hb (Nat.le_refl _))⟩
theorem digitVal_dec {b : UInt8} (h : b ∈ dec) : Lib.digitVal b = some (b.toNat - 48) ∧ b.toNat - 48 < 10 ∧ b ≠ 45 ∧ b ≠ 43 ∧ 48 ≤ b.toNat ∧ b.toNat ≤ 57 := by
 simp only [dec, List.mem_cons, List.not_mem_nil, or_false] at h
 rcases h with rfl | rfl | rfl | rfl | rfl | rfl | rfl | rfl | rfl | rfl <;> decide
theorem decFrom_val : ∀ (l : List UInt8) (acc : Nat), (∀ b ∈ l, b ∈ dec) → Lib.decFrom acc l = some (l.foldl (fun a c => a * 10 + (c.toNat - 48)) acc)
 | [], acc, _ => rfl
 | b :: r, acc, h => by
   unfold Lib.decFrom
   rw [(digitVal_dec (h b (List.mem_cons_self ..))).1]
   exact decFrom_val r _ fun x hx => h x (List.mem_cons_of_mem _ hx)
theorem atoi_val {t : List UInt8} (h : onlyOf t dec = true) (h0 : t ≠ []) : Lib.atoi t = some (val t : Int) := by
 cases t with
 | nil => exact absurd rfl h0
 | cons b r =>
   have hb := digitVal_dec (onlyOf_mem h (List.mem_cons_self ..))
   have h1 : (b == 45) = false := by simpa using hb.2.2.1
   have h2 : (b == 43) = false := by simpa using hb.2.2.2.1
   unfold Lib.atoi
   simp only [h1, h2, Bool.false_eq_true, if_false]
   unfold Lib.decNat
   rw [show (b :: r).isEmpty = false from rfl]
   simp only [Bool.false_eq_true, if_false]
   rw [decFrom_val (b :: r) 0 fun x hx => onlyOf_mem h hx]
   rfl
def amountOf (t : List UInt8) : Int × Int := if t.length ≤ 18 ∧ onlyOf t dec = true ∧ t ≠ [] then ((val t : Int), 0) else (0, 41)
def ErrT (w : World) : Prop := ∃ te pe, w.cell? ⟨13, 0, none⟩ = some (.iface te pe)
theorem ErrT.turn {w w' : World} (h : ErrT w) (ht : Turn nowhere w w') : ErrT w' := by
 obtain ⟨te, pe, h⟩ := h
 exact ⟨te, pe, by rw [ht.cell (World.block_lt_of_cell? _ _ h) (fun e => e)]; exact h⟩
theorem dec_ascii : ascii dec := ascii_of (by decide)
theorem amount_walk {t : List UInt8} (w : World) (hE : t = [] → ErrT w) :
 Calls Tryz.prog 81 #[strV t] w fun e w' => e = .returned (.tuple #[.int .i64 (amountOf t).1, .int .i64 (amountOf t).2]) ∧ Turn nowhere w w' := by
 have hdef : amountOf t = if t.length ≤ 18 ∧ onlyOf t dec = true ∧ t ≠ [] then ((val t : Int), 0) else (0, 41) := rfl
 have HD := zH hdef
 have HE := zH hE
 clear hdef hE
 unfold strV
 go_enter Tryz.func81, Tryz.ntmps81
 by_cases h1 : t.length ≤ 18
 ·have HL := zH h1
  have y1 : ¬ ((18 : Int) < (t.length : Int)) := by omega
  clear h1
  have how := only_walk t dec (by decide) dec_ascii w
  cases hon : onlyOf t dec with
  | false =>
    rw [hon] at how
    have HX := zH (show amountOf t = (0, 41) from by
     rw [HD.out, if_neg]
     intro h
     rw [hon] at h
     exact absurd h.2.1 (by decide))
    clear hon HD
    go_wp2_with (go_at_call 98; refine how.mono ?_; rintro e w1 ⟨rfl, ht⟩)
    go_ret2
    rw [HX.out]
    exact ⟨rfl, ht⟩
  | true =>
    rw [hon] at how
    have HON := zH hon
    clear hon
    go_upto_region 3 with (go_at_call 98; refine how.mono ?_; rintro e w1 ⟨rfl, ht⟩)
    have HT := zH ht
    clear ht how
    by_cases h0 : t = []
    ·have HX := zH (show amountOf t = (0, 41) from by rw [HD.out, if_neg (by intro h; exact h.2.2 h0)])
     obtain ⟨te, pe, hev⟩ := (HE.out h0).turn HT.out
     have hat := Any.strconv_Atoi_err Tryz.laysC172 ⟨t.toArray⟩ (by rw [str_size]; exact HL.out) (by rw [h0]; rfl) _ w1 hev (.inr ⟨te, pe, rfl⟩)
     clear h0 hev
     go_wp2_with (go_at_call 101; refine hat.mono ?_; rintro e w2 ⟨N, rfl, _, _, hb⟩)
     go_ret2
     rw [HX.out]
     exact ⟨rfl, HT.out.next (Turn.of_below hb (Nat.le_refl _))⟩
    ·have HX := zH (show amountOf t = ((val t : Int), 0) from by rw [HD.out, if_pos ⟨HL.out, HON.out, h0⟩])
     have hat := Any.strconv_Atoi Tryz.lays172 ⟨t.toArray⟩ (val t : Int) (by rw [str_size]; exact HL.out) (atoi_val HON.out h0) w1
     clear h0
     go_wp2_with (go_at_call 101; refine hat.mono ?_; rintro e w2 ⟨rfl, bt, rfl⟩)
     go_ret2
     rw [HX.out]
     exact ⟨rfl, HT.out.next (Turn.of_below (Lib.bytesWorld_below _ _ _) (Nat.le_refl _))⟩
 ·have HX := zH (show amountOf t = (0, 41) from by rw [HD.out, if_neg (by intro h; exact h1 h.1)])
  have y1 : (18 : Int) < (t.length : Int) := by omega
  go_wp2_with fail
  go_ret2
  rw [HX.out]
  exact ⟨rfl, Turn.refl _ _⟩
theorem byte_size : ∃ i, Tryz.prog.info? 5 = some i ∧ i.size = 1 := by
 have h := byteInfo
 cases hq : Tryz.prog.info? 5 with
 | none => rw [hq] at h; cases h
 | some i => exact ⟨i, rfl, by rw [hq] at h; simp at h; exact h.2.1⟩
theorem slice_to_any (A : Option Addr) (n c e : Nat) (h0 : e ≤ n) (hc : n ≤ c) (W : World) : (Instr.sliceAt 26 (.slice A n c) none (some (.int .i64 (e : Int))) none).run Tryz.prog W = .ok (.slice A e c) W := by
 obtain ⟨i, hi1, hi2⟩ := byte_size
 have b1 : (0 : Int) ≤ (e : Int) ∧ (e : Int) ≤ (c : Int) := ⟨by omega, by omega⟩
 have hu := Tryz.underlying26
 simp [Instr.sliceAt, Instr.slice, Instr.sliceBounds, Instr.sliceBound, asIntOf, run_underlying hu, sizeOf, typeInfo, hi1, b1]
 rw [if_pos (show e ≤ c by omega)]
 cases A <;> simp [Addr.add]
def fromA (A : Option Addr) (c d : Nat) : Option Addr := if c = d then A else A.map (·.add (d * 1))
theorem slice_from_any (A : Option Addr) (n c d : Nat) (h0 : d ≤ n) (hc : n ≤ c) (W : World) : (Instr.sliceAt 26 (.slice A n c) (some (.int .i64 (d : Int))) none none).run Tryz.prog W = .ok (.slice (fromA A c d) (n - d) (c - d)) W := by
 obtain ⟨i, hi1, hi2⟩ := byte_size
 have b1 : (0 : Int) ≤ (d : Int) ∧ (d : Int) ≤ (n : Int) := ⟨by omega, by omega⟩
 have hu := Tryz.underlying26
 simp [Instr.sliceAt, Instr.slice, Instr.sliceBounds, Instr.sliceBound, asIntOf, run_underlying hu, sizeOf, typeInfo, hi1, hi2, b1, fromA]
 intro h
 omega
theorem bs_to {W : World} {A : Option Addr} {n e : Nat} {b : List UInt8} (h : Bs W A n b) (he : e ≤ n) : Bs W A e (b.take e) := by
 obtain ⟨h1, h2, h3⟩ := h
 refine ⟨by rw [List.length_take]; omega, by omega, fun hp => ?_⟩
 obtain ⟨g, off, rfl, hc⟩ := h3 (by omega)
 refine ⟨g, off, rfl, fun i hi => ?_⟩
 rw [hc i (by omega), List.getD_eq_getElem?_getD, List.getD_eq_getElem?_getD, List.getElem?_take, if_pos hi]
theorem bs_from {W : World} {A : Option Addr} {n c d : Nat} {b : List UInt8} (h : Bs W A n b) (hd : d ≤ n) (hc : n ≤ c) : Bs W (fromA A c d) (n - d) (b.drop d) := by
 obtain ⟨h1, h2, h3⟩ := h
 refine ⟨by rw [List.length_drop]; omega, by omega, fun hp => ?_⟩
 obtain ⟨g, off, rfl, hcell⟩ := h3 (by omega)
 refine ⟨g, off + d, ?_, fun i hi => ?_⟩
 ·unfold fromA
  rw [if_neg (by omega)]
  simp only [Option.map_some, Nat.mul_one]
  rw [add_nat]
 ·rw [Nat.add_assoc, hcell (d + i) (by omega), List.getD_eq_getElem?_getD, List.getD_eq_getElem?_getD, List.getElem?_drop]
theorem sizeAll_cons (p : Pt) (r : List Pt) : sizeAll (p :: r) = p.size + sizeAll r := rfl
theorem code_size {w : World} {cv : Array Value} {p : Pt} (h : CodeAt w cv p) (hg : Gd p) : ∃ f c x y, cv = #[.func (.func f) #[] c, x, y] ∧ (f = 151 ∨ f = 148) ∧ c = #[] ∧
 ∀ W, Calls Tryz.prog f #[.int .i64 (p.n : Int)] W fun e w' => e = .returned (.int .i64 (p.size : Int)) ∧ w' = W := by
 unfold Pt.size
 rcases h with ⟨h0, q, c, rfl, h1, h2⟩ | ⟨h0, q, c, rfl, h1, h2⟩
 ·rw [if_pos h0]
  exact ⟨_, #[], _, _, rfl, .inr rfl, rfl, fun W => psize_walk p.n (by have := hg.n2; omega) W⟩
 ·rw [if_neg h0]
  exact ⟨_, #[], _, _, rfl, .inl rfl, rfl, fun W => ssize_walk p.n W⟩
theorem code_take {w : World} {cv : Array Value} {p : Pt} (h : CodeAt w cv p) (hg : Gd p) {A : Option Addr} {m cap : Nat} {bs : List UInt8} (hb : Bs w A m bs) (hm : m = p.size) : ∃ f c x y, cv = #[x, y, .func (.func f) #[] c] ∧ (f = 153 ∨ f = 150) ∧
 Calls Tryz.prog f (#[.slice A m cap, .int .i64 (p.n : Int)] ++ c) w fun e w' => e = .returned (optV (p.dec bs)) ∧ Turn nowhere w w' := by
 unfold Pt.size at hm
 unfold Pt.dec
 rcases h with ⟨h0, q, c, rfl, h1, h2⟩ | ⟨h0, q, c, rfl, h1, h2⟩
 ·rw [if_pos h0] at hm ⊢
  exact ⟨_, #[ptrTo c], _, _, rfl, .inr rfl, ptake_walk h2 hb hm (by have := hg.n2; omega) hg.n1 (by have := hg.ch; omega)⟩
 ·rw [if_neg h0] at hm ⊢
  subst hm
  rcases hg.st with ⟨g1, _⟩ | ⟨_, g2⟩
  ·exact absurd g1 h0
  ·exact ⟨_, #[ptrTo q, ptrTo c], _, _, rfl, .inl rfl, stake_walk h1 h2 g2 hb (by have := hg.n2; omega) (by have := hg.ch; omega)⟩
theorem code_rd {w : World} {cv : Array Value} {p : Pt} (h : CodeAt w cv p) (hg : Gd p) : ∃ fs ft ct y, cv = #[.func (.func fs) #[] #[], y, .func (.func ft) #[] ct] ∧ y.oneCell' = true ∧
 ((fs = 151 ∧ ft = 153) ∨ (fs = 148 ∧ ft = 150)) ∧
 (∀ W, Calls Tryz.prog fs #[.int .i64 (p.n : Int)] W fun e w' => e = .returned (.int .i64 (p.size : Int)) ∧ w' = W) ∧
 ∀ W, CodeAt W cv p → ∀ (A : Option Addr) (m cap : Nat) (bs : List UInt8), Bs W A m bs → m = p.size → Calls Tryz.prog ft (#[.slice A m cap, .int .i64 (p.n : Int)] ++ ct) W fun e w' => e = .returned (optV (p.dec bs)) ∧ Turn nowhere W w' := by
 rcases h with ⟨h0, q, c, rfl, h1, h2⟩ | ⟨h0, q, c, rfl, h1, h2⟩
 ·refine ⟨_, _, #[ptrTo c], _, rfl, rfl, .inr ⟨rfl, rfl⟩, ?_, ?_⟩
  ·intro W
   unfold Pt.size
   rw [if_pos h0]
   exact psize_walk p.n (by have := hg.n2; omega) W
  ·intro W hW A m cap bs hb hm
   obtain ⟨f, c', x, y, hcv, _, hcall⟩ := code_take (cap := cap) hW hg hb hm
   injection hcv with hcv
   injection hcv with _ hcv
   injection hcv with _ hcv
   injection hcv with hcv
   injection hcv with hf _ hc
   injection hf with hf
   subst hf hc
   exact hcall
 ·refine ⟨_, _, #[ptrTo q, ptrTo c], _, rfl, rfl, .inl ⟨rfl, rfl⟩, ?_, ?_⟩
  ·intro W
   unfold Pt.size
   rw [if_neg h0]
   exact ssize_walk p.n W
  ·intro W hW A m cap bs hb hm
   obtain ⟨f, c', x, y, hcv, _, hcall⟩ := code_take (cap := cap) hW hg hb hm
   injection hcv with hcv
   injection hcv with _ hcv
   injection hcv with _ hcv
   injection hcv with hcv
   injection hcv with hf _ hc
   injection hf with hf
   subst hf hc
   exact hcall
theorem rd_one {fs ft : FuncId} {ct : Array Value} {y : Value} (hy : y.oneCell' = true) : ∀ v ∈ (#[.func (.func fs) #[] #[], y, .func (.func ft) #[] ct] : Array Value).toList, v.oneCell' = true := by
 intro v hv
 simp only [List.mem_cons, List.not_mem_nil, or_false] at hv
 rcases hv with rfl | rfl | rfl
 ·rfl
 ·exact hy
 ·rfl
def RdS (b8 b12 : Nat) (p : Pt) (cv : Array Value) (W : World) : Prop := Blk W b8 167 (ptC p).toArray ∧ Blk W b12 186 cv
theorem CodeAt.poke {w5 w6 w7 w8 : World} {cv : Array Value} {p : Pt} {b12 : Nat} (h6 : CodeAt w6 cv p) (_ : Turn nowhere w5 w8) (_ : Turn nowhere w5 w6) (ht : Turn (only b12) w7 w8) (h : CodeAt w7 cv p) (hn : ∀ (cs : Array Value) (tt : TypeId) (q : Nat), Blk w6 q tt cs → q ≠ b12) : CodeAt w8 cv p := by
 rcases h with ⟨h0, q, c, rfl, h1, h2⟩ | ⟨h0, q, c, rfl, h1, h2⟩
 ·rcases h6 with ⟨_, q', c', hcv, g1, g2⟩ | ⟨g0, _⟩
  ·have e1 : q = q' ∧ c = c' := by
    unfold pairV at hcv
    injection hcv with hcv
    injection hcv with _ hcv
    injection hcv with h3 hcv
    injection hcv with h4 _
    injection h3 with _ _ h3
    injection h4 with _ _ h4
    unfold ptrTo at h3 h4
    simp at h3 h4
    exact ⟨h3, h4⟩
   obtain ⟨rfl, rfl⟩ := e1
   exact .inl ⟨h0, q, c, rfl, h1.turn ht (hn _ _ _ g1), h2.turn ht (hn _ _ _ g2)⟩
  ·exact absurd h0 g0
 ·rcases h6 with ⟨g0, _⟩ | ⟨_, q', c', hcv, g1, g2⟩
  ·exact absurd g0 h0
  ·have e1 : q = q' ∧ c = c' := by
    unfold sinV at hcv
    injection hcv with hcv
    injection hcv with _ hcv
    injection hcv with h3 hcv
    injection h3 with _ _ h3
    unfold ptrTo at h3
    simp at h3
    exact h3
   obtain ⟨rfl, rfl⟩ := e1
   exact .inr ⟨h0, q, c, rfl, h1.turn ht (hn _ _ _ g1), h2.turn ht (hn _ _ _ g2)⟩
def TakeR (r : Except Int (List UInt8 × List UInt8)) (e : Ending) (w' : World) : Prop :=
 match r with
 | .error k => e = .returned (.tuple #[strV [], .slice none 0 0, .int .i64 k])
 | .ok (t, rest) => ∃ A n c, e = .returned (.tuple #[strV t, .slice A n c, .int .i64 0]) ∧ Bs w' A n rest ∧ n ≤ c
theorem exec_assign {a : Act} {o : Oper} {W : World} {P : Program} {x : Operand} {v : Value} (ho : o.op = .assign x) (hx : a.eval x = v) : (execOp a.eval o).run P W = .ok (.value v) W := by
 unfold execOp
 simp only [ho, hx, Sem.run_pure]
theorem exec_extract {a : Act} {o : Oper} {W : World} {P : Program} {x : Operand} {i : Nat} {vs : Array Value} {v : Value} (ho : o.op = .extract x i) (hx : a.eval x = .tuple vs) (hv : vs[i]? = some v) : (execOp a.eval o).run P W = .ok (.value v) W := by
 unfold execOp
 simp only [ho, hx]
 go_simp
theorem exec_addN {W : World} {a : Act} {o : Oper} {x y : Operand} {m n : Nat} (ho : o.op = .binOp .add 3 x y 3) (hx : a.eval x = .int .i64 (m : Int)) (hy : a.eval y = .int .i64 (n : Int)) (h : m + n ≤ 1000000) : (execOp a.eval o).run Tryz.prog W = .ok (.value (.int .i64 ((m + n : Nat) : Int))) W := by
 unfold execOp
 simp only [ho, hx, hy]
 have e : IntKind.i64.wrap ((m : Int) + (n : Int)) = ((m + n : Nat) : Int) := by
  rw [IntKind.wrap_i64]
  omega
 rw [← e]
 go_simp
theorem size_le {p : Pt} (h : Gd p) : p.size ≤ 200 := by
 unfold Pt.size
 have := h.n2
 split <;> omega
theorem dec_len {p : Pt} {b t : List UInt8} (h : p.dec b = some t) : t.length ≤ 2 * b.length + 1 := by
 unfold Pt.dec at h
 split at h
 ·unfold unpacked at h
  split at h
  ·split at h
   ·cases h
   ·injection h with h
    rw [← h, List.length_drop, unpack_len]
    omega
  ·cases h
 ·split at h
  ·injection h with h
   rw [← h, List.length_map]
   omega
  ·cases h
theorem take_walk {w : World} {g np cp n c : Nat} {ps : List Pt} {b : List UInt8} {A : Option Addr} (hp : PtsAt w g ps) (hnp : ps.length = np) (hg : ∀ p ∈ ps, Gd p) (hps : np ≤ 2) (hb : Bs w A n b) (hc : n ≤ c) :
 Calls Tryz.prog 116 #[.slice A n c, .slice (some ⟨g, 0, none⟩) np cp] w fun e w' => TakeR (takeAll ps b) e w' ∧ Turn nowhere w w' := by
 have HP := zH hp
 have HNP := zH hnp
 have HG := zH hg
 have HPS := zH hps
 have HB := zH hb
 have HC := zH hc
 have hdef : takeAll ps b = if b.length < sizeAll ps then .error 43 else match decAll ps b with
  | none => .error 42
  | some t => .ok (t, b.drop (sizeAll ps)) := rfl
 have HDEF := zH hdef
 clear hp hnp hg hps hb hc hdef
 go_enter Tryz.func116, Tryz.ntmps116
 go_upto_region 3 with fail
 go_loopg [7, 18] np (fun gk s i wr => ∃ k sz : Nat, k + gk = np ∧ i = .int .i64 (k : Int) ∧ s = .int .i64 (sz : Int) ∧ sz + sizeAll (ps.drop k) = sizeAll ps ∧ sz ≤ 200 * k ∧ Turn nowhere w wr)
 case atStart => exact ⟨0, 0, by omega, rfl, rfl, by simp, by omega, Turn.refl _ _⟩
 case round =>
  obtain ⟨k, sz, hkl, rfl, rfl, hsz, hsz2, htr⟩ := hrel
  have HKL := zH hkl
  have HTR := zH htr
  have HSZ := zH hsz
  have HSZ2 := zH hsz2
  clear hkl htr hsz hsz2
  by_cases hlt : k < np
  ·have y1 : (k : Int) < (np : Int) := by omega
   have y2 : (0 : Int) ≤ (k : Int) := by omega
   have y3 : (np : Int) ≤ 2 := by have := HPS.out; omega
   obtain ⟨p, r, hd⟩ : ∃ p r, ps.drop k = p :: r := by
    cases h : ps.drop k with
    | nil =>
      have := congrArg List.length h
      rw [List.length_drop, HNP.out] at this
      simp at this
      omega
    | cons p r => exact ⟨p, r, rfl⟩
   have hszz := HSZ.out
   rw [hd] at hszz
   have HSZ3 := zH (show sz + p.size + sizeAll r = sizeAll ps from by rw [sizeAll_cons] at hszz; omega)
   have HD := zH (drop_cons hd)
   have HLT := zH hlt
   clear hlt hd hszz
   go_upto_region 4 with fail
   have hk0 : wr.rangeAt g (k * 3) (ptC p) := (HP.out.turn HTR.out (fun e => e)).range HD.out.1
   refine wp_region_lit ?_
   refine wR (v := .pointer (some ⟨g, k * 3, none⟩)) (w' := wr) rfl (by go_simp) ?_
   simp only [zz]
   refine wR (v := .agg (ptC p).toArray) rfl (exec_load rfl rfl (load_part hk0)) ?_
   simp only [zz]
   refine wR (v := _) rfl (exec_alloc rfl (zero_part _)) ?_
   simp only [zz]
   have hbn := Blk.new wr 167 #[.int .i64 0, .string ByteArray.empty, .string ByteArray.empty]
   have htn := (Turn.refl nowhere wr).alloc (.cells #[.int .i64 0, .string ByteArray.empty, .string ByteArray.empty] 167)
   generalize (wr.alloc (.cells #[.int .i64 0, .string ByteArray.empty, .string ByteArray.empty] 167)) = w4 at *
   obtain ⟨b8, hb8⟩ : ∃ b8, b8 = wr.heap.size := ⟨_, rfl⟩
   rw [← hb8] at hbn ⊢
   refine wpList_store_part rfl (.tmp 9) (.tmp 21) rfl hbn rfl rfl rfl size_part ?_
   intro w5 hq5 ht5
   have HT5 := zH (show Turn nowhere wr w5 from htn.trans ht5 (fun j hj e => by have h2 : j = b8 := e; omega))
   have HB5 := zH hq5
   clear hk0 hbn htn hb8 hq5 ht5
   simp only [Act.put]
   have HGD := zH (HG.out p (List.mem_of_getElem? HD.out.1))
   go_upto_region 5 with fail
   have hS0 : PtB b8 p w5.drew := HB5.out.drew
   refine wp_region_till (PtB b8 p) 8 (by kernel_rfl) ?_
   refine till_pure (i := 0) (v := .int .i64 (sz : Int)) rfl (by kernel_rfl) (by kernel_rfl) (fun _ _ _ h => h) (.inl ⟨by rfl, fun W hW => exec_move rfl rfl⟩) hS0 ?_
   simp only [zz]
   refine tT (i := 1) (v := .agg (ptC p).toArray) rfl (by kernel_rfl) (by kernel_rfl) (fun W hW => exec_load rfl rfl (load_blkPart hW)) hS0 ?_
   simp only [zz]
   refine till_pure (i := 4) (v := .pointer (some ⟨b8, 0, none⟩)) rfl (by kernel_rfl) (by kernel_rfl) (fun _ _ _ h => h) (.inl ⟨by rfl, fun W hW => exec_field (off := 0) (d := 0) rfl rfl (by kernel_rfl)⟩) hS0 ?_
   simp only [zz]
   refine tT (i := 5) (v := .int .i64 (p.n : Int)) rfl (by kernel_rfl) (by kernel_rfl) (fun W hW => exec_load1 rfl rfl (by kernel_rfl) (Blk.cell hW 0)) hS0 ?_
   simp only [zz]
   refine till_step (i := 2) (by kernel_rfl) rfl rfl ?_
   intro K1 HK1
   go_wp2_with fail
   refine (codeOf_walk p _).mono ?_
   rintro e w6 ⟨cv, rfl, hcode, ht6⟩
   have hS1 : PtB b8 p w6 := hS0.turn ht6 (fun e => e)
   refine HK1.out _ _ ⟨fun _ => hS1, ?_⟩
   clear HK1
   obtain ⟨f, cc, xx, yy, rfl, hf, rfl, hcall⟩ := code_size hcode HGD.out
   have HCALL := zH hcall
   have HT6 := zH ((HTR.out.next HT5.out).drew.next ht6)
   clear hcall hcode ht6 hS0
   refine till_pure (i := 3) (v := .func (.func f) #[] #[]) rfl (by kernel_rfl) (by kernel_rfl) (fun _ _ _ h => h) (.inl ⟨by rfl, fun W hW => exec_getField rfl rfl (field_size _ _ _ W)⟩) hS1 ?_
   simp only [zz]
   refine till_step (i := 6) (by kernel_rfl) rfl rfl ?_
   intro K1 HK1
   have HS1 := zH hS1
   clear hS1
   have hp8 := size_le HGD.out
   generalize hps8 : p.size = ps8 at *
   have HPS8 := zH hps8
   have HP8 := zH hp8
   clear hps8 hp8
   rcases hf with rfl | rfl
   ·go_wp2_with fail
    refine (HCALL.out _).mono ?_
    rintro e w7 ⟨rfl, rfl⟩
    refine HK1.out _ _ ⟨fun _ => HS1.out, ?_⟩
    clear HK1
    refine till_only (i := 7) (by kernel_rfl) rfl rfl ?_
    refine wp_run (v := .int .i64 ((sz + ps8 : Nat) : Int)) (w' := w7) (exec_addN rfl rfl rfl (by have h1 := HSZ2.out; have h2 := HP8.out; have h3 := HLT.out; have h4 := HPS.out; omega)) ?_
    refine ⟨fun _ => HS1.out, ?_⟩
    simp only [zz]
    refine till_tail 8 rfl (by kernel_rfl) ?_
    go_wp2_with fail
    refine NoPanic.normal ?_
    go_wp2_with fail
    go_roundg (gk - 1)
    case measure => have := HKL.out; have := HLT.out; omega
    case rel =>
     refine ⟨k + 1, sz + ps8, by have := HKL.out; have := HLT.out; omega, by go_num, rfl, ?_, by have h1 := HSZ2.out; have h2 := HP8.out; omega, HT6.out⟩
     rw [HD.out.2.1]
     exact HSZ3.out
   ·go_wp2_with fail
    refine (HCALL.out _).mono ?_
    rintro e w7 ⟨rfl, rfl⟩
    refine HK1.out _ _ ⟨fun _ => HS1.out, ?_⟩
    clear HK1
    refine till_only (i := 7) (by kernel_rfl) rfl rfl ?_
    refine wp_run (v := .int .i64 ((sz + ps8 : Nat) : Int)) (w' := w7) (exec_addN rfl rfl rfl (by have h1 := HSZ2.out; have h2 := HP8.out; have h3 := HLT.out; have h4 := HPS.out; omega)) ?_
    refine ⟨fun _ => HS1.out, ?_⟩
    simp only [zz]
    refine till_tail 8 rfl (by kernel_rfl) ?_
    go_wp2_with fail
    refine NoPanic.normal ?_
    go_wp2_with fail
    go_roundg (gk - 1)
    case measure => have := HKL.out; have := HLT.out; omega
    case rel =>
     refine ⟨k + 1, sz + ps8, by have := HKL.out; have := HLT.out; omega, by go_num, rfl, ?_, by have h1 := HSZ2.out; have h2 := HP8.out; omega, HT6.out⟩
     rw [HD.out.2.1]
     exact HSZ3.out
  ·have hke : k = np := by have := HKL.out; omega
   have y1 : ¬ ((k : Int) < (np : Int)) := by omega
   clear hlt
   have hsz := HSZ.out
   rw [List.drop_of_length_le (by rw [HNP.out, hke]; exact Nat.le_refl _)] at hsz
   have hsz2 : sz = sizeAll ps := by simpa [sizeAll] using hsz
   have HSS := zH hsz2
   clear hsz hsz2 hke
   have hbl : b.length = n := HB.out.1
   have HBL := zH hbl
   clear hbl
   by_cases hshort : n < sz
   ·have HRES := zH (show takeAll ps b = .error 43 from by rw [HDEF.out, if_pos (by rw [HBL.out, ← HSS.out]; exact hshort)])
    have y2 : (n : Int) < (sz : Int) := by omega
    clear hshort
    go_wp2_with fail
    go_ret3
    rw [HRES.out]
    exact ⟨rfl, HTR.out⟩
   ·have HRES := zH (show takeAll ps b = (match decAll ps b with
     | none => .error 42
     | some t => .ok (t, b.drop (sizeAll ps))) from by rw [HDEF.out, if_neg (by rw [HBL.out, ← HSS.out]; exact hshort)])
    have y2 : ¬ ((n : Int) < (sz : Int)) := by omega
    have HLONG := zH hshort
    clear hshort
    generalize gk = gk1 at *
    go_upto_region 10 with fail
    generalize wr = wL at *
    have HB2 := zH (bs_turn HB.out HTR.out)
    have HP2 := zH (HP.out.turn HTR.out (fun e => e))
    have HLL := zH (show sizeAll ps ≤ b.length from by rw [HBL.out, ← HSS.out]; have := HLONG.out; omega)
    clear HSZ HSZ2 HKL y2
    go_loopg [0, 4, 37] np (fun gk x s i wr => ∃ (k n' c' : Nat) (A' : Option Addr) (b2 t1 : List UInt8), k + gk = np ∧ i = .int .i64 (k : Int) ∧ x = .slice A' n' c' ∧ s = strV t1 ∧ Bs wr A' n' b2 ∧ n' ≤ c' ∧ sizeAll (ps.drop k) ≤ b2.length ∧ decAll ps b = (decAll (ps.drop k) b2).map (t1 ++ ·) ∧ b2.drop (sizeAll (ps.drop k)) = b.drop (sizeAll ps) ∧ t1.length ≤ 1000 * k ∧ Turn nowhere wL wr)
    case atStart => exact ⟨0, _, _, _, b, [], by omega, rfl, rfl, rfl, HB2.out, HC.out, by rw [List.drop_zero]; exact HLL.out, by rw [List.drop_zero]; cases decAll ps b <;> rfl, by rw [List.drop_zero], by simp, Turn.refl _ _⟩
    case round =>
     obtain ⟨k, n', c', A', b2, t1, hkl, rfl, rfl, rfl, hbs, hnc, hsl, hdec, hdrop, htl, htr⟩ := hrel
     have HKL := zH hkl
     have HTR2 := zH htr
     have HBS := zH hbs
     have HNC := zH hnc
     have HSL := zH hsl
     have HDEC := zH hdec
     have HDROP := zH hdrop
     have HTL := zH htl
     clear hkl htr hbs hnc hsl hdec hdrop htl
     by_cases hlt : k < np
     ·have y1 : (k : Int) < (np : Int) := by omega
      have y2 : (0 : Int) ≤ (k : Int) := by omega
      have y3 : (np : Int) ≤ 2 := by have := HPS.out; omega
      obtain ⟨p, r, hd⟩ : ∃ p r, ps.drop k = p :: r := by
       cases h : ps.drop k with
       | nil =>
         have := congrArg List.length h
         rw [List.length_drop, HNP.out] at this
         simp at this
         omega
       | cons p r => exact ⟨p, r, rfl⟩
      have h1 := HSL.out
      have h2 := HDEC.out
      have h3 := HDROP.out
      rw [hd] at h1 h2 h3
      rw [sizeAll_cons] at h1 h3
      have HSL2 := zH h1
      have HDEC2 := zH h2
      have HDROP2 := zH h3
      have HD := zH (drop_cons hd)
      have HLT := zH hlt
      clear hlt hd h1 h2 h3
      go_upto_region 11 with fail
      have hk0 : wr.rangeAt g (k * 3) (ptC p) := (HP2.out.turn HTR2.out (fun e => e)).range HD.out.1
      refine wp_region_lit ?_
      refine wR (v := .pointer (some ⟨g, k * 3, none⟩)) (w' := wr) rfl (by go_simp) ?_
      simp only [zz]
      refine wR (v := .agg (ptC p).toArray) rfl (exec_load rfl rfl (load_part hk0)) ?_
      simp only [zz]
      refine wR (v := _) rfl (exec_alloc rfl (zero_part _)) ?_
      simp only [zz]
      have hbn := Blk.new wr 167 #[.int .i64 0, .string ByteArray.empty, .string ByteArray.empty]
      have htn := (Turn.refl nowhere wr).alloc (.cells #[.int .i64 0, .string ByteArray.empty, .string ByteArray.empty] 167)
      generalize (wr.alloc (.cells #[.int .i64 0, .string ByteArray.empty, .string ByteArray.empty] 167)) = w4 at *
      obtain ⟨b8, hb8⟩ : ∃ b8, b8 = wr.heap.size := ⟨_, rfl⟩
      rw [← hb8] at hbn ⊢
      refine wpList_store_part rfl (.tmp 11) (.tmp 40) rfl hbn rfl rfl rfl size_part ?_
      intro w5 hq5 ht5
      have HT5 := zH (show Turn nowhere wr w5 from htn.trans ht5 (fun j hj e => by have h2 : j = b8 := e; omega))
      have HB5 := zH hq5
      clear hk0 hbn htn hb8 hq5 ht5
      simp only [Act.put]
      have HGD := zH (HG.out p (List.mem_of_getElem? HD.out.1))
      go_upto_region 12 with fail
      refine wp_region_lit ?_
      refine wR (v := .agg (ptC p).toArray) rfl (exec_load rfl rfl (load_blkPart HB5.out)) ?_
      simp only [zz]
      go_upto_region 13 with (first
       | (
        go_at_call 113
        refine (codeOf_walk p _).mono ?_
        rintro e w6 ⟨cv, rfl, hcode, ht6⟩
        obtain ⟨fs, ft, ct, yy, rfl, hy, hf, hsize, htake⟩ := code_rd hcode HGD.out
        have HY := zH hy
        have HF := zH hf
        have HSIZE := zH hsize
        have HTAKE := zH htake
        have HCODE := zH hcode
        have HT6 := zH ht6
        clear hcode ht6 hsize htake hf hy)
       | (
        refine wR (v := _) rfl (exec_alloc rfl (zero_code _)) ?_
        simp only [zz]
        have hq7 := Blk.new w6 186 #[.nilFunc, .nilFunc, .nilFunc]
        have HB7 := zH ((HB5.out.turn HT6.out (fun e => e)).alloc (.cells #[.nilFunc, .nilFunc, .nilFunc] 186))
        have HT7 := zH (HT6.out.alloc (.cells #[.nilFunc, .nilFunc, .nilFunc] 186))
        have HC7 := zH (HCODE.out.turn ((Turn.refl nowhere w6).alloc (.cells #[.nilFunc, .nilFunc, .nilFunc] 186)))
        have HL6 := zH (show b8 < w6.heap.size from Nat.lt_of_lt_of_le HB5.out.lt HT6.out.size)
        have HL5 := zH (show w5.heap.size ≤ w6.heap.size from HT6.out.size)
        have HL7 := zH (show ∀ (cs : Array Value) (tt : TypeId) (q : Nat), Blk w6 q tt cs → q ≠ w6.heap.size from fun cs tt q h => Nat.ne_of_lt h.lt)
        generalize (w6.alloc (.cells #[.nilFunc, .nilFunc, .nilFunc] 186)) = w7 at *
        generalize w6.heap.size = b12 at *)
       | (
        refine wpList_store_row rfl 186 (.tmp 12) (.tmp 42) rfl #[.func (.func fs) #[] #[], yy, .func (.func ft) #[] ct] hq7 rfl rfl rfl size_code (rd_one HY.out) ?_
        intro w8 hb8c ht8
        have HQ8 := zH hb8c
        have HT8 := zH (show Turn nowhere w5 w8 from HT7.out.trans ht8 (fun j hj e => by have h2 : j = b12 := e; have := HL5.out; omega))
        have HB8 := zH (HB7.out.turn ht8 (fun e => by have h2 : b8 = b12 := e; have := HL6.out; omega))
        have HC8 := zH (HCODE.out.poke HT8.out HT6.out ht8 HC7.out HL7.out)
        clear hb8c ht8 hq7))
      have c0 : w8.cell? ⟨b12, 0, none⟩ = some (.func (.func fs) #[] #[]) := HQ8.out.cell 0
      have c1 : w8.cell? ⟨b8, 0, none⟩ = some (.int .i64 (p.n : Int)) := HB8.out.cell 0
      have hdc : decAll (p :: r) b2 = match p.dec (b2.take p.size) with
       | none => none
       | some t => (decAll r (b2.drop p.size)).map (t ++ ·) := rfl
      have HDC := zH hdc
      clear hdc
      have hp8 := size_le HGD.out
      have HTAKE8 := zH (HTAKE.out w8.drew (HC8.out.turn (Turn.drew (Turn.refl _ _))) A' p.size c' (b2.take p.size) (bs_to (bs_turn HBS.out ((HT5.out.next HT8.out).drew)) (by have h1 := HSL2.out; have h2 := HBS.out.1; omega)) rfl)
      generalize hps8 : p.size = ps8 at *
      have HPS8 := zH hps8
      have HP8 := zH hp8
      clear hps8 hp8 HTAKE
      rcases HF.out with ⟨rfl, rfl⟩ | ⟨rfl, rfl⟩
      ·go_upto_region 14 with (go_at_call 151; refine (HSIZE.out _).mono ?_; rintro e w9 ⟨rfl, rfl⟩)
       have hS0 : RdS b8 b12 p #[.func (.func 151) #[] #[], yy, .func (.func 153) #[] ct] w9.drew := ⟨HB8.out.drew, HQ8.out.drew⟩
       refine wp_region_till (RdS b8 b12 p #[.func (.func 151) #[] #[], yy, .func (.func 153) #[] ct]) 7 (by kernel_rfl) ?_
       refine till_pure (i := 0) (v := .pointer (some ⟨b12, 2, none⟩)) rfl (by kernel_rfl) (by kernel_rfl) (fun _ _ _ h => h) (.inl ⟨by rfl, fun W hW => exec_field (off := 0) (d := 2) rfl rfl (by kernel_rfl)⟩) hS0 ?_
       simp only [zz]
       refine tT (i := 1) (v := .func (.func 153) #[] ct) rfl (by kernel_rfl) (by kernel_rfl) (fun W hW => exec_load1 rfl rfl (by kernel_rfl) (hW.2.cell 2)) hS0 ?_
       simp only [zz]
       refine till_pure (i := 2) (v := .slice A' n' c') rfl (by kernel_rfl) (by kernel_rfl) (fun _ _ _ h => h) (.inl ⟨by rfl, fun W hW => exec_move rfl rfl⟩) hS0 ?_
       simp only [zz]
       refine till_pure (i := 3) (v := .int .i64 (ps8 : Int)) rfl (by kernel_rfl) (by kernel_rfl) (fun _ _ _ h => h) (.inl ⟨by rfl, fun W hW => exec_move rfl rfl⟩) hS0 ?_
       simp only [zz]
       refine till_pure (i := 4) (v := .slice A' ps8 c') rfl (by kernel_rfl) (by kernel_rfl) (fun _ _ _ h => h) (.inl ⟨by rfl, fun W hW => exec_slice rfl rfl rfl rfl rfl (slice_to_any A' n' c' ps8 (by have h1 := HSL2.out; have h2 := HBS.out.1; omega) HNC.out W)⟩) hS0 ?_
       simp only [zz]
       refine till_pure (i := 5) (v := .pointer (some ⟨b8, 0, none⟩)) rfl (by kernel_rfl) (by kernel_rfl) (fun _ _ _ h => h) (.inl ⟨by rfl, fun W hW => exec_field (off := 0) (d := 0) rfl rfl (by kernel_rfl)⟩) hS0 ?_
       simp only [zz]
       refine tT (i := 6) (v := .int .i64 (p.n : Int)) rfl (by kernel_rfl) (by kernel_rfl) (fun W hW => exec_load1 rfl rfl (by kernel_rfl) (hW.1.cell 0)) hS0 ?_
       simp only [zz]
       refine till_step (i := 7) (by kernel_rfl) rfl rfl ?_
       intro K1 HK1
       have HS0 := zH hS0
       clear hS0 c0 c1
       go_wp2_with fail
       refine HTAKE8.out.mono ?_
       rintro e w10 ⟨rfl, ht10⟩
       have hS1 : RdS b8 b12 p #[.func (.func 151) #[] #[], yy, .func (.func 153) #[] ct] w10 := ⟨HS0.out.1.turn ht10 (fun e => e), HS0.out.2.turn ht10 (fun e => e)⟩
       refine HK1.out _ _ ⟨fun _ => hS1, ?_⟩
       clear HK1
       have HT9 := zH (((HT5.out.next HT8.out).drew).next ht10)
       have HT10 := zH (((HTR2.out.next HT5.out).next HT8.out).drew.next ht10)
       clear ht10
       refine till_pure (i := 8) (v := optV (p.dec (b2.take ps8))) rfl (by kernel_rfl) (by kernel_rfl) (fun _ _ _ h => h) (.inl ⟨by rfl, fun W hW => exec_move rfl rfl⟩) hS1 ?_
       simp only [zz]
       refine till_pure (i := 9) (v := strV ((p.dec (b2.take ps8)).getD [])) rfl (by kernel_rfl) (by kernel_rfl) (fun _ _ _ h => h) (.inl ⟨by rfl, fun W hW => exec_extract rfl rfl rfl⟩) hS1 ?_
       simp only [zz]
       refine till_pure (i := 10) (v := .bool (p.dec (b2.take ps8)).isSome) rfl (by kernel_rfl) (by kernel_rfl) (fun _ _ _ h => h) (.inl ⟨by rfl, fun W hW => exec_extract rfl rfl rfl⟩) hS1 ?_
       simp only [zz]
       refine till_pure (i := 11) (v := strV ((p.dec (b2.take ps8)).getD [])) rfl (by kernel_rfl) (by kernel_rfl) (fun _ _ _ h => h) (.inl ⟨by rfl, fun W hW => exec_assign rfl rfl⟩) hS1 ?_
       simp only [zz]
       refine till_pure (i := 12) (v := .bool (p.dec (b2.take ps8)).isSome) rfl (by kernel_rfl) (by kernel_rfl) (fun _ _ _ h => h) (.inl ⟨by rfl, fun W hW => exec_assign rfl rfl⟩) hS1 ?_
       simp only [zz]
       refine till_done (by kernel_rfl) ?_
       refine NoPanic.normal ?_
       clear hS1 HS0
       cases hpd : p.dec (b2.take ps8) with
       | none =>
         have HFAIL := zH (show takeAll ps b = .error 42 from by
          rw [HRES.out, HDEC2.out, HDC.out, hpd]
          rfl)
         simp only [Option.getD_none, Option.isSome_none]
         clear hpd
         go_wp2_with fail
         go_ret3
         rw [HFAIL.out]
         exact ⟨rfl, HTR.out.next HT10.out⟩
       | some tp =>
         have HPD := zH hpd
         have HTPL := zH (dec_len hpd)
         simp only [Option.getD_some, Option.isSome_some]
         clear hpd
         go_upto_region 17 with fail
         have hT : (fun _ : World => True) w10.drew := trivial
         refine wp_region_till (fun _ => True) 8 (by kernel_rfl) ?_
         refine till_pure (i := 0) (v := strV t1) rfl (by kernel_rfl) (by kernel_rfl) (fun _ _ _ h => h) (.inl ⟨by rfl, fun W hW => exec_move rfl rfl⟩) hT ?_
         simp only [zz]
         refine till_pure (i := 1) (v := strV tp) rfl (by kernel_rfl) (by kernel_rfl) (fun _ _ _ h => h) (.inl ⟨by rfl, fun W hW => exec_move rfl rfl⟩) hT ?_
         simp only [zz]
         refine till_pure (i := 2) (v := strV (t1 ++ tp)) rfl (by kernel_rfl) (by kernel_rfl) (fun _ _ _ h => h) (.inl ⟨by rfl, fun W hW => exec_sadd rfl rfl rfl (by have h1 := HTL.out; have h2 := HTPL.out; have h3 := HP8.out; have h4 := HLT.out; have h5 := HPS.out; rw [List.length_take] at h2; omega)⟩) hT ?_
         simp only [zz]
         refine till_pure (i := 3) (v := .slice A' n' c') rfl (by kernel_rfl) (by kernel_rfl) (fun _ _ _ h => h) (.inl ⟨by rfl, fun W hW => exec_move rfl rfl⟩) hT ?_
         simp only [zz]
         refine till_pure (i := 4) (v := .int .i64 (ps8 : Int)) rfl (by kernel_rfl) (by kernel_rfl) (fun _ _ _ h => h) (.inl ⟨by rfl, fun W hW => exec_move rfl rfl⟩) hT ?_
         simp only [zz]
         refine till_pure (i := 5) (v := .slice (fromA A' c' ps8) (n' - ps8) (c' - ps8)) rfl (by kernel_rfl) (by kernel_rfl) (fun _ _ _ h => h) (.inl ⟨by rfl, fun W hW => exec_slice rfl rfl rfl rfl rfl (slice_from_any A' n' c' ps8 (by have h1 := HSL2.out; have h2 := HBS.out.1; omega) HNC.out W)⟩) hT ?_
         simp only [zz]
         refine till_pure (i := 6) (v := strV (t1 ++ tp)) rfl (by kernel_rfl) (by kernel_rfl) (fun _ _ _ h => h) (.inl ⟨by rfl, fun W hW => exec_assign rfl rfl⟩) hT ?_
         simp only [zz]
         refine till_pure (i := 7) (v := .slice (fromA A' c' ps8) (n' - ps8) (c' - ps8)) rfl (by kernel_rfl) (by kernel_rfl) (fun _ _ _ h => h) (.inl ⟨by rfl, fun W hW => exec_assign rfl rfl⟩) hT ?_
         simp only [Act.put, List.setIfInBounds_toArray, List.set_cons_zero]
         refine till_done (by kernel_rfl) ?_
         refine NoPanic.normal ?_
         clear hT
         go_wp2_with fail
         go_roundg (gk - 1)
         case measure => have := HKL.out; have := HLT.out; omega
         case rel =>
          refine ⟨k + 1, n' - ps8, c' - ps8, fromA A' c' ps8, b2.drop ps8, t1 ++ tp, by have := HKL.out; have := HLT.out; omega, by go_num, rfl, rfl, ?_, by have := HNC.out; omega, ?_, ?_, ?_, ?_, HT10.out.drew⟩
          ·exact bs_from (bs_turn HBS.out HT9.out.drew) (by have h1 := HSL2.out; have h2 := HBS.out.1; omega) HNC.out
          ·rw [HD.out.2.1, List.length_drop]
           have h1 := HSL2.out
           omega
          ·rw [HD.out.2.1, HDEC2.out, HDC.out, HPD.out]
           cases decAll r (b2.drop ps8) <;> simp
          ·rw [HD.out.2.1, List.drop_drop]
           exact HDROP2.out
          ·have h1 := HTL.out
           have h2 := HTPL.out
           have h3 := HP8.out
           rw [List.length_take] at h2
           rw [List.length_append]
           omega
      ·go_upto_region 14 with (go_at_call 148; refine (HSIZE.out _).mono ?_; rintro e w9 ⟨rfl, rfl⟩)
       have hS0 : RdS b8 b12 p #[.func (.func 148) #[] #[], yy, .func (.func 150) #[] ct] w9.drew := ⟨HB8.out.drew, HQ8.out.drew⟩
       refine wp_region_till (RdS b8 b12 p #[.func (.func 148) #[] #[], yy, .func (.func 150) #[] ct]) 7 (by kernel_rfl) ?_
       refine till_pure (i := 0) (v := .pointer (some ⟨b12, 2, none⟩)) rfl (by kernel_rfl) (by kernel_rfl) (fun _ _ _ h => h) (.inl ⟨by rfl, fun W hW => exec_field (off := 0) (d := 2) rfl rfl (by kernel_rfl)⟩) hS0 ?_
       simp only [zz]
       refine tT (i := 1) (v := .func (.func 150) #[] ct) rfl (by kernel_rfl) (by kernel_rfl) (fun W hW => exec_load1 rfl rfl (by kernel_rfl) (hW.2.cell 2)) hS0 ?_
       simp only [zz]
       refine till_pure (i := 2) (v := .slice A' n' c') rfl (by kernel_rfl) (by kernel_rfl) (fun _ _ _ h => h) (.inl ⟨by rfl, fun W hW => exec_move rfl rfl⟩) hS0 ?_
       simp only [zz]
       refine till_pure (i := 3) (v := .int .i64 (ps8 : Int)) rfl (by kernel_rfl) (by kernel_rfl) (fun _ _ _ h => h) (.inl ⟨by rfl, fun W hW => exec_move rfl rfl⟩) hS0 ?_
       simp only [zz]
       refine till_pure (i := 4) (v := .slice A' ps8 c') rfl (by kernel_rfl) (by kernel_rfl) (fun _ _ _ h => h) (.inl ⟨by rfl, fun W hW => exec_slice rfl rfl rfl rfl rfl (slice_to_any A' n' c' ps8 (by have h1 := HSL2.out; have h2 := HBS.out.1; omega) HNC.out W)⟩) hS0 ?_
       simp only [zz]
       refine till_pure (i := 5) (v := .pointer (some ⟨b8, 0, none⟩)) rfl (by kernel_rfl) (by kernel_rfl) (fun _ _ _ h => h) (.inl ⟨by rfl, fun W hW => exec_field (off := 0) (d := 0) rfl rfl (by kernel_rfl)⟩) hS0 ?_
       simp only [zz]
       refine tT (i := 6) (v := .int .i64 (p.n : Int)) rfl (by kernel_rfl) (by kernel_rfl) (fun W hW => exec_load1 rfl rfl (by kernel_rfl) (hW.1.cell 0)) hS0 ?_
       simp only [zz]
       refine till_step (i := 7) (by kernel_rfl) rfl rfl ?_
       intro K1 HK1
       have HS0 := zH hS0
       clear hS0 c0 c1
       go_wp2_with fail
       refine HTAKE8.out.mono ?_
       rintro e w10 ⟨rfl, ht10⟩
       have hS1 : RdS b8 b12 p #[.func (.func 148) #[] #[], yy, .func (.func 150) #[] ct] w10 := ⟨HS0.out.1.turn ht10 (fun e => e), HS0.out.2.turn ht10 (fun e => e)⟩
       refine HK1.out _ _ ⟨fun _ => hS1, ?_⟩
       clear HK1
       have HT9 := zH (((HT5.out.next HT8.out).drew).next ht10)
       have HT10 := zH (((HTR2.out.next HT5.out).next HT8.out).drew.next ht10)
       clear ht10
       refine till_pure (i := 8) (v := optV (p.dec (b2.take ps8))) rfl (by kernel_rfl) (by kernel_rfl) (fun _ _ _ h => h) (.inl ⟨by rfl, fun W hW => exec_move rfl rfl⟩) hS1 ?_
       simp only [zz]
       refine till_pure (i := 9) (v := strV ((p.dec (b2.take ps8)).getD [])) rfl (by kernel_rfl) (by kernel_rfl) (fun _ _ _ h => h) (.inl ⟨by rfl, fun W hW => exec_extract rfl rfl rfl⟩) hS1 ?_
       simp only [zz]
       refine till_pure (i := 10) (v := .bool (p.dec (b2.take ps8)).isSome) rfl (by kernel_rfl) (by kernel_rfl) (fun _ _ _ h => h) (.inl ⟨by rfl, fun W hW => exec_extract rfl rfl rfl⟩) hS1 ?_
       simp only [zz]
       refine till_pure (i := 11) (v := strV ((p.dec (b2.take ps8)).getD [])) rfl (by kernel_rfl) (by kernel_rfl) (fun _ _ _ h => h) (.inl ⟨by rfl, fun W hW => exec_assign rfl rfl⟩) hS1 ?_
       simp only [zz]
       refine till_pure (i := 12) (v := .bool (p.dec (b2.take ps8)).isSome) rfl (by kernel_rfl) (by kernel_rfl) (fun _ _ _ h => h) (.inl ⟨by rfl, fun W hW => exec_assign rfl rfl⟩) hS1 ?_
       simp only [zz]
       refine till_done (by kernel_rfl) ?_
       refine NoPanic.normal ?_
       clear hS1 HS0
       cases hpd : p.dec (b2.take ps8) with
       | none =>
         have HFAIL := zH (show takeAll ps b = .error 42 from by
          rw [HRES.out, HDEC2.out, HDC.out, hpd]
          rfl)
         simp only [Option.getD_none, Option.isSome_none]
         clear hpd
         go_wp2_with fail
         go_ret3
         rw [HFAIL.out]
         exact ⟨rfl, HTR.out.next HT10.out⟩
       | some tp =>
         have HPD := zH hpd
         have HTPL := zH (dec_len hpd)
         simp only [Option.getD_some, Option.isSome_some]
         clear hpd
         go_upto_region 17 with fail
         have hT : (fun _ : World => True) w10.drew := trivial
         refine wp_region_till (fun _ => True) 8 (by kernel_rfl) ?_
         refine till_pure (i := 0) (v := strV t1) rfl (by kernel_rfl) (by kernel_rfl) (fun _ _ _ h => h) (.inl ⟨by rfl, fun W hW => exec_move rfl rfl⟩) hT ?_
         simp only [zz]
         refine till_pure (i := 1) (v := strV tp) rfl (by kernel_rfl) (by kernel_rfl) (fun _ _ _ h => h) (.inl ⟨by rfl, fun W hW => exec_move rfl rfl⟩) hT ?_
         simp only [zz]
         refine till_pure (i := 2) (v := strV (t1 ++ tp)) rfl (by kernel_rfl) (by kernel_rfl) (fun _ _ _ h => h) (.inl ⟨by rfl, fun W hW => exec_sadd rfl rfl rfl (by have h1 := HTL.out; have h2 := HTPL.out; have h3 := HP8.out; have h4 := HLT.out; have h5 := HPS.out; rw [List.length_take] at h2; omega)⟩) hT ?_
         simp only [zz]
         refine till_pure (i := 3) (v := .slice A' n' c') rfl (by kernel_rfl) (by kernel_rfl) (fun _ _ _ h => h) (.inl ⟨by rfl, fun W hW => exec_move rfl rfl⟩) hT ?_
         simp only [zz]
         refine till_pure (i := 4) (v := .int .i64 (ps8 : Int)) rfl (by kernel_rfl) (by kernel_rfl) (fun _ _ _ h => h) (.inl ⟨by rfl, fun W hW => exec_move rfl rfl⟩) hT ?_
         simp only [zz]
         refine till_pure (i := 5) (v := .slice (fromA A' c' ps8) (n' - ps8) (c' - ps8)) rfl (by kernel_rfl) (by kernel_rfl) (fun _ _ _ h => h) (.inl ⟨by rfl, fun W hW => exec_slice rfl rfl rfl rfl rfl (slice_from_any A' n' c' ps8 (by have h1 := HSL2.out; have h2 := HBS.out.1; omega) HNC.out W)⟩) hT ?_
         simp only [zz]
         refine till_pure (i := 6) (v := strV (t1 ++ tp)) rfl (by kernel_rfl) (by kernel_rfl) (fun _ _ _ h => h) (.inl ⟨by rfl, fun W hW => exec_assign rfl rfl⟩) hT ?_
         simp only [zz]
         refine till_pure (i := 7) (v := .slice (fromA A' c' ps8) (n' - ps8) (c' - ps8)) rfl (by kernel_rfl) (by kernel_rfl) (fun _ _ _ h => h) (.inl ⟨by rfl, fun W hW => exec_assign rfl rfl⟩) hT ?_
         simp only [Act.put, List.setIfInBounds_toArray, List.set_cons_zero]
         refine till_done (by kernel_rfl) ?_
         refine NoPanic.normal ?_
         clear hT
         go_wp2_with fail
         go_roundg (gk - 1)
         case measure => have := HKL.out; have := HLT.out; omega
         case rel =>
          refine ⟨k + 1, n' - ps8, c' - ps8, fromA A' c' ps8, b2.drop ps8, t1 ++ tp, by have := HKL.out; have := HLT.out; omega, by go_num, rfl, rfl, ?_, by have := HNC.out; omega, ?_, ?_, ?_, ?_, HT10.out.drew⟩
          ·exact bs_from (bs_turn HBS.out HT9.out.drew) (by have h1 := HSL2.out; have h2 := HBS.out.1; omega) HNC.out
          ·rw [HD.out.2.1, List.length_drop]
           have h1 := HSL2.out
           omega
          ·rw [HD.out.2.1, HDEC2.out, HDC.out, HPD.out]
           cases decAll r (b2.drop ps8) <;> simp
          ·rw [HD.out.2.1, List.drop_drop]
           exact HDROP2.out
          ·have h1 := HTL.out
           have h2 := HTPL.out
           have h3 := HP8.out
           rw [List.length_take] at h2
           rw [List.length_append]
           omega
     ·have hke : k = np := by have := HKL.out; omega
      have y1 : ¬ ((k : Int) < (np : Int)) := by omega
      have h1 := HDEC.out
      have h2 := HDROP.out
      have hdr : ps.drop k = [] := List.drop_of_length_le (by rw [HNP.out, hke]; exact Nat.le_refl _)
      rw [hdr] at h1 h2
      rw [show sizeAll [] = 0 from rfl, List.drop_zero] at h2
      have HDONE := zH (show takeAll ps b = .ok (t1, b2) from by
       rw [HRES.out, h1, ← h2]
       simp [decAll])
      clear hlt hke h1 h2 hdr
      go_wp2_with fail
      go_ret3
      rw [HDONE.out]
      exact ⟨⟨A', n', c', rfl, HBS.out, HNC.out⟩, HTR.out.next HTR2.out⟩
theorem build_form (z : Int) (W : World) : (Instr.build 49 #[(0, .int .i64 1), (1, .int .i64 2), (2, .int .i64 z)]).run Tryz.prog W = .ok (.agg #[.int .i64 1, .int .i64 2, .int .i64 z]) W := by kernel_rfl
theorem nums_walk (k s : Int) (c : Nat) (w : World) (hc : c < 4) (hr : RowsT w) :
 Calls Tryz.prog 93 #[fmV ⟨k, s, (c : Int)⟩] w fun e w' => ∃ g cap, e = .returned (.slice (some ⟨g, 0, none⟩) (ptsOf 1 (c : Int) 2).length cap) ∧ PtsAt w' g (ptsOf 1 (c : Int) 2) ∧ Turn nowhere w w' := by
 unfold fmV
 have HR := zH hr
 go_enter Tryz.func93, Tryz.ntmps93
 go_upto_region 1 with fail
 have hb0 := Blk.new w 49 #[.int .i64 k, .int .i64 s, .int .i64 (c : Int)]
 have ht0 := (Turn.refl nowhere w).alloc (.cells #[.int .i64 k, .int .i64 s, .int .i64 (c : Int)] 49)
 generalize (w.alloc (.cells #[.int .i64 k, .int .i64 s, .int .i64 (c : Int)] 49)) = w0 at *
 generalize w.heap.size = b2 at *
 refine wp_region_lit ?_
 refine wR (v := .pointer (some ⟨b2, 2, none⟩)) rfl (exec_field (off := 0) (d := 2) rfl rfl (by kernel_rfl)) ?_
 simp only [zz]
 refine wR (v := .int .i64 (c : Int)) rfl (exec_load1 rfl rfl (by kernel_rfl) (hb0.cell 2)) ?_
 simp only [zz]
 refine wR (v := .agg #[.int .i64 1, .int .i64 2, .int .i64 (c : Int)]) rfl (exec_build3 rfl rfl rfl rfl (build_form _ _)) ?_
 simp only [zz]
 have hpts := parts_walk 1 2 c 2 w0 (by decide) hc (by decide) (hr.turn ht0)
 generalize hps : ptsOf 1 (c : Int) 2 = ps at *
 have HPSE := zH hps
 have HT0 := zH ht0
 clear hb0 ht0 hr hps
 go_wp2_with (go_at_call 94; refine hpts.mono ?_; rintro e w1 ⟨g, cp, rfl, hp, ht1⟩)
 go_ret
 rw [HPSE.out]
 exact ⟨g, cp, rfl, hp, HT0.out.next ht1⟩
theorem clone_walk (A : Option Addr) (n c : Nat) (b : List UInt8) (w : World) (hb : Bs w A n b) (hn : n ≤ 140737488355328) :
 Calls Tryz.prog 91 #[.slice A n c] w fun e w' => ∃ A' n' c', e = .returned (.slice A' n' c') ∧ Own w' w.heap.size 5 (.slice A' n' c') b ∧ Turn nowhere w w' := by
 obtain ⟨h1, h2, h3⟩ := hb
 rcases A with _ | a
 ·have hn0 : n = 0 := by
   rcases Nat.eq_zero_or_pos n with h | h
   ·exact h
   ·obtain ⟨_, _, h4, _⟩ := h3 h
    cases h4
  have hbn : b = [] := List.eq_nil_of_length_eq_zero (by omega)
  subst hbn
  refine (Any.bytes_Clone_nil Tryz.laysSlK4 n c w).mono ?_
  rintro e w' ⟨rfl, rfl⟩
  exact ⟨none, 0, 0, rfl, World.ownsRow_nil w' _ _ _, Turn.refl _ _⟩
 ·refine (Any.bytes_Clone_at Tryz.laysSlK4 a n c (b.map fun x => (x.toNat : Int)) w (by rw [List.length_map, h1]) hn (fun i hi => ?_)).mono ?_
  ·obtain ⟨g, off, he, hc⟩ := h3 (by omega)
   injection he with he
   subst he
   rw [add_nat, hc i hi]
   rw [List.getD_eq_getElem?_getD, List.getD_eq_getElem?_getD, List.getElem?_map, List.getElem?_eq_getElem (by omega)]
   rfl
  ·rintro e w' ⟨v', rfl, hown, _, hbel⟩
   obtain ⟨A', c', rfl⟩ := own_form hown
   refine ⟨A', n, c', rfl, ?_, Turn.of_below hbel (Nat.le_refl _)⟩
   unfold Own bcs
   rw [h1]
   rw [List.map_map] at hown
   exact hown
theorem dig_one {n : Nat} (h : n < 10) : Lib.decDigits n = [UInt8.ofNat (48 + n)] := by rw [Lib.decDigits, dif_pos h]
theorem digits_two {n : Nat} (h : n ≤ 99) : digitsOf (n : Int) 2 = (two n, 0) := by
 have e : Lib.itoa (n : Int) = Lib.decDigits n := by
  unfold Lib.itoa
  rw [if_neg (by omega), Int.toNat_natCast]
 unfold digitsOf
 rw [if_neg (by omega), e]
 by_cases h1 : n < 10
 ·rw [dig_one h1, if_neg (by simp)]
  unfold two
  rw [show n / 10 = 0 from by omega, show n % 10 = n from by omega]
  rfl
 ·have e2 : Lib.decDigits n = [UInt8.ofNat (48 + n / 10), UInt8.ofNat (48 + n % 10)] := by
   rw [Lib.decDigits, dif_neg h1, dig_one (by omega)]
   rfl
  rw [e2, if_neg (by simp)]
  rfl
theorem num_size {c : Nat} (hc : 1 ≤ c ∧ c ≤ 3) : sizeAll (ptsOf 1 (c : Int) 2) ≤ 2 := by
 have hcc : c = 1 ∨ c = 2 ∨ c = 3 := by omega
 rcases hcc with rfl | rfl | rfl <;> decide
theorem pts_sum {k : Int} {c n : Nat} (hk : 1 ≤ k ∧ k ≤ 5) (hn : n ≤ 64) : ((ptsOf k (c : Int) n).map (·.n)).sum ≤ 130 := by
 unfold ptsOf
 split
 ·simp; omega
 ·split
  ·simp; omega
  ·split
   ·simp; omega
   ·simp; omega
theorem own_base {w : World} {B B' : Nat} {e : TypeId} {v : Value} {bs : List UInt8} (h : Own w B e v bs) (hB : B' ≤ B) : Own w B' e v bs := by
 refine ⟨h.1, ?_⟩
 rcases h.2 with h2 | ⟨g, cap, cur, rfl, h3, h4⟩
 ·exact .inl h2
 ·exact .inr ⟨g, cap, cur, rfl, Nat.le_trans hB h3, h4⟩
theorem Ext.fresh {w0 w w' : World} {B : Nat} {e : TypeId} {v v' : Value} {bs : List UInt8} (h : Ext w w' v v') (hown : Own w B e v bs) (ht : Turn nowhere w0 w) (hB : w0.heap.size ≤ B) : Turn nowhere w0 w' :=
 ht.trans h.tr fun k hk he => by
  have := (hown.lt k he.symm).1
  omega
theorem put_main {w : World} {kk s c n cap : Nat} {A : Option Addr} {b t : List UInt8} (hk : 1 ≤ kk ∧ kk ≤ 5) (hc : 1 ≤ c ∧ c ≤ 3) (hs : 1 ≤ s ∧ s ≤ 64) (hrt : (nf kk s c).right t = true) (hr : RowsT w) (hb : Bs w A n b) (hn : n ≤ 140737488351232) :
 Calls Tryz.prog 62 #[.slice A n cap, fmV (nf kk s c), strV t] w fun e w' => ∃ A' n' c', e = .returned (.tuple #[.slice A' n' c', .int .i64 0]) ∧ Own w' w.heap.size 5 (.slice A' n' c') (b ++ (nf kk s c).put t) ∧ Turn nowhere w w' := by
 have hck : (nf kk s c).check t = 0 := by
  unfold Fm.check
  rw [if_pos (may_nf hk hc hs), if_pos hrt]
 have hch : ∀ W, RowsT W → Calls Tryz.prog 46 #[fmV (nf kk s c), strV t] W fun e w' => e = .returned (.int .i64 0) ∧ Turn nowhere W w' := by
  intro W hW
  have h := check_walk (f := nf kk s c) (t := t) hW
  rw [hck] at h
  exact h
 have HCH := zH hch
 clear hch hck
 have HRT := zH hrt
 have HK := zH hk
 have HC := zH hc
 have HS := zH hs
 have HR := zH hr
 have HB := zH hb
 have HN := zH hn
 clear hr hrt hb hn
 unfold nf fmV at *
 go_enter Tryz.func62, Tryz.ntmps62
 go_upto_region 1 with fail
 have hb0 := Blk.new w 49 #[.int .i64 (kk : Int), .int .i64 (s : Int), .int .i64 (c : Int)]
 have ht0 := (Turn.refl nowhere w).alloc (.cells #[.int .i64 (kk : Int), .int .i64 (s : Int), .int .i64 (c : Int)] 49)
 generalize (w.alloc (.cells #[.int .i64 (kk : Int), .int .i64 (s : Int), .int .i64 (c : Int)] 49)) = w0 at *
 obtain ⟨b2, hb2⟩ : ∃ b2, b2 = w.heap.size := ⟨_, rfl⟩
 rw [← hb2] at hb0 ⊢
 have HB2 := zH hb2
 clear hb2
 refine wp_region_lit ?_
 refine wR (v := fmV ⟨(kk : Int), (s : Int), (c : Int)⟩) rfl (exec_load rfl rfl (load_blkForm hb0)) ?_
 simp only [zz]
 unfold fmV
 have HB0 := zH hb0
 have HT0 := zH ht0
 clear hb0 ht0
 go_upto_region 4 with (go_at_call 46; refine (HCH.out _ (HR.out.turn HT0.out)).mono ?_; rintro e w1 ⟨rfl, ht1⟩)
 have HT1 := zH (HT0.out.next ht1)
 have HB1 := zH (HB0.out.turn ht1 (fun e => e))
 clear ht1 HCH
 go_upto_region 5 with (go_at_call 91; refine (clone_walk A n cap b w1 (bs_turn HB.out HT1.out) (by have := HN.out; omega)).mono ?_; rintro e w3 ⟨A3, n3, c3, rfl, hown3, ht3⟩)
 have HO3 := zH hown3
 have HT3 := zH (HT1.out.next ht3)
 have hb3 := HB1.out.turn ht3 (fun e => e)
 have HB3 := zH hb3
 have HSZ := zH (show w.heap.size ≤ w1.heap.size from HT1.out.size)
 have HSZ3 := zH (show w1.heap.size ≤ w3.heap.size from ht3.size)
 have HBL := zH HB.out.1
 have c0 : w3.cell? ⟨b2, 0, none⟩ = some (.int .i64 (kk : Int)) := hb3.cell 0
 have c1 : w3.cell? ⟨b2, 1, none⟩ = some (.int .i64 (s : Int)) := hb3.cell 1
 clear hown3 ht3 hb3
 by_cases hk2 : kk = 2
 ·have y0 : ((kk : Int) == 2) = true := by simp; omega
  have HK2 := zH hk2
  have hrr := HRT.out
  have hpp : Fm.put ⟨(kk : Int), (s : Int), (c : Int)⟩ t = encAll (ptsOf 1 (c : Int) 2) (two t.length) ++ encAll (ptsOf (kk : Int) (c : Int) t.length) t := by
   rw [hk2]
   rfl
  have hrr2 : (1 ≤ t.length ∧ t.length ≤ s) ∧ rightAll (ptsOf (kk : Int) (c : Int) t.length) t = true := by
   rw [hk2] at hrr ⊢
   exact ll_right hrr
  have HPP := zH hpp
  have HRR := zH hrr2
  have HTW := zH (two_ok (n := t.length) (by have := hrr2.1; omega))
  clear hk2 hk hrr hpp hrr2 HRT
  go_upto_region 7 with fail
  refine wp_region_lit ?_
  refine wM (strV t) ?_
  simp only [zz]
  refine wR (v := .int .i64 (t.length : Int)) (w' := w3) rfl (exec_slen rfl rfl) ?_
  simp only [zz]
  have hdw := digits_walk (t.length : Int) 2 w3 (fun W _ => itoa_small t.length (by have := HRR.out.1; omega) W)
  rw [digits_two (by have := HRR.out.1; omega)] at hdw
  have HTL := zH (show t.length ≤ 64 from by have := HRR.out.1; omega)
  obtain ⟨m, hm⟩ : ∃ m, m = t.length := ⟨_, rfl⟩
  rw [← hm] at hdw ⊢
  have HM := zH hm
  clear hm c0 c1
  go_upto_region 9 with (go_at_call 58; refine hdw.mono ?_; rintro e w4 ⟨rfl, ht4⟩)
  have HT4 := zH ht4
  have hb4 := HB3.out.turn ht4 (fun e => e)
  clear hdw ht4
  refine wp_region_lit ?_
  refine wM (.slice A3 n3 c3) ?_
  simp only [zz]
  refine wR (v := fmV ⟨(kk : Int), (s : Int), (c : Int)⟩) rfl (exec_load rfl rfl (load_blkForm hb4)) ?_
  simp only [zz]
  have hnw := nums_walk (kk : Int) (s : Int) c w4 (by have := HC.out; omega) (HR.out.turn (HT3.out.next HT4.out))
  have HNW := zH hnw
  have HB4 := zH hb4
  unfold fmV at *
  clear hnw hb4
  have HPL := zH (pts_len 1 c 2)
  have HGD := zH (pts_good (k := 1) (n := 2) (by decide) HC.out (by decide))
  have HRN := zH ((num_right (c : Int) (two m)).2 ⟨rfl, by rw [HM.out]; exact HTW.out.2⟩)
  generalize hps : ptsOf 1 (c : Int) 2 = ps at *
  have HPSE := zH hps
  clear hps
  go_wp2_with (go_at_call 93; refine HNW.out.mono ?_; rintro e w5 ⟨g5, cp5, rfl, hp5, ht5⟩)
  have HT5 := zH ht5
  have hput := put_walk (cp := cp5) hp5 rfl HGD.out HRN.out (own_turn HO3.out (HT4.out.next ht5)) (Nat.le_trans HSZ3.out (HT4.out.next ht5).size) (by have h1 := HBL.out; have h2 := HN.out; rw [two_len]; omega) (by rw [two_len]; omega) (by have := HPL.out; omega)
  clear hp5 ht5
  have HPUT := zH hput
  clear hput
  go_upto_region 10 with (go_at_call 92; refine HPUT.out.mono ?_; rintro e w6 ⟨A6, n6, c6, rfl, hown6, hext6⟩)
  have HO6 := zH hown6
  have HT6 := zH (hext6.fresh (own_turn HO3.out (HT4.out.next HT5.out)) ((HT3.out.next HT4.out).next HT5.out) HSZ.out)
  have hb6 := Blk.ext (HB4.out.turn HT5.out (fun e => e)) hext6 (row_ne (own_turn HO3.out (HT4.out.next HT5.out)) (HB4.out.turn HT5.out (fun e => e)) (by decide))
  have HS6 := zH (show w1.heap.size ≤ w6.heap.size from Nat.le_trans HSZ3.out (Nat.le_trans (HT4.out.next HT5.out).size hext6.tr.size))
  clear hown6 hext6 HPUT HNW HPL HGD HRN
  rw [HPSE.out.symm] at HO6
  have hlenA := enc_all (ptsOf 1 (c : Int) 2) (two t.length) [] (pts_gm HC.out) ((num_right _ _).2 ⟨rfl, HTW.out.2⟩)
  have HLA := zH (show (encAll (ptsOf 1 (c : Int) 2) (two m)).length ≤ 2 from by rw [HM.out, hlenA.1]; exact num_size HC.out)
  clear hlenA
  refine wp_region_lit ?_
  refine wM (.slice A6 n6 c6) ?_
  simp only [zz]
  refine wR (v := fmV ⟨(kk : Int), (s : Int), (c : Int)⟩) rfl (exec_load rfl rfl (load_blkForm hb6)) ?_
  simp only [zz]
  refine wM (.int .i64 (m : Int)) ?_
  simp only [zz]
  have HPW := zH (parts_walk (kk : Int) (s : Int) c m w6 (by have := HK.out; omega) (by have := HC.out; omega) (by have := And.intro HRR.out.1 HM.out; omega) (HR.out.turn HT6.out))
  have HPL2 := zH (pts_len (kk : Int) c m)
  have HGD2 := zH (pts_good (k := (kk : Int)) (n := m) (by have := HK.out; omega) HC.out (by have := And.intro HRR.out.1 HM.out; omega))
  have HR2 := zH (show rightAll (ptsOf (kk : Int) (c : Int) m) t = true from by rw [HM.out]; exact HRR.out.2)
  have HTL2 := zH (show t.length ≤ 130 from by
   have h := right_len _ _ HR2.out
   rw [h]
   exact pts_sum (by have := HK.out; omega) (by have := And.intro HRR.out.1 HM.out; omega))
  unfold fmV
  generalize hps2 : ptsOf (kk : Int) (c : Int) m = ps2 at *
  have HPS2 := zH hps2
  clear hps2
  go_upto_region 99 with (first
   | (
    go_at_call 94
    refine HPW.out.mono ?_
    rintro e w7 ⟨g7, cp7, rfl, hp7, ht7⟩
    have HT7 := zH ht7
    have HP7 := zH hp7
    clear ht7 hp7)
   | (
    go_at_call 92
    refine (put_walk (cp := cp7) HP7.out rfl HGD2.out HR2.out (own_turn HO6.out HT7.out) (Nat.le_trans HS6.out HT7.out.size) (by have h1 := HTL2.out; have h2 := HBL.out; have h3 := HN.out; have h4 := HLA.out; rw [List.length_append]; omega) (by have := HTL2.out; omega) (by have := HPL2.out; omega)).mono ?_
    rintro e w8 ⟨A8, n8, c8, rfl, hown8, hext8⟩
    have HO9 := zH hown8
    have HT9 := zH (hext8.fresh (own_turn HO6.out HT7.out) (HT6.out.next HT7.out) HSZ.out)
    clear hown8 hext8))
  go_ret2
  refine ⟨A8, n8, c8, rfl, own_base ?_ HSZ.out, HT9.out⟩
  have h9 := HO9.out
  rw [← HPS2.out, List.append_assoc, HM.out, HPSE.out] at h9
  rw [HPP.out]
  exact h9
 ·have y0 : ((kk : Int) == 2) = false := by simp; omega
  have hrr := HRT.out
  have HPP := zH (show Fm.put ⟨(kk : Int), (s : Int), (c : Int)⟩ t = encAll (ptsOf (kk : Int) (c : Int) s) t from put_nl (k := kk) (s := s) (c := c) hk2)
  have HRR := zH (show rightAll (ptsOf (kk : Int) (c : Int) s) t = true from by rw [← right_nl (k := kk) (s := s) (c := c) (t := t) hk2]; exact hrr)
  clear hk2 hk hrr HRT
  go_upto_region 10 with fail
  refine wp_region_lit ?_
  refine wM (.slice A3 n3 c3) ?_
  simp only [zz]
  refine wR (v := fmV ⟨(kk : Int), (s : Int), (c : Int)⟩) rfl (exec_load rfl rfl (load_blkForm HB3.out)) ?_
  simp only [zz]
  refine wM (.int .i64 (s : Int)) ?_
  simp only [zz]
  have HPW := zH (parts_walk (kk : Int) (s : Int) c s w3 (by have := HK.out; omega) (by have := HC.out; omega) (by have := HS.out; omega) (HR.out.turn HT3.out))
  have HPL2 := zH (pts_len (kk : Int) c s)
  have HGD2 := zH (pts_good (k := (kk : Int)) (n := s) (by have := HK.out; omega) HC.out (by have := HS.out; omega))
  have HR2 := zH (show rightAll (ptsOf (kk : Int) (c : Int) s) t = true from HRR.out)
  have HTL2 := zH (show t.length ≤ 130 from by
   have h := right_len _ _ HR2.out
   rw [h]
   exact pts_sum (by have := HK.out; omega) (by have := HS.out; omega))
  unfold fmV
  generalize hps2 : ptsOf (kk : Int) (c : Int) s = ps2 at *
  have HPS2 := zH hps2
  clear hps2
  go_upto_region 99 with (first
   | (
    go_at_call 94
    refine HPW.out.mono ?_
    rintro e w7 ⟨g7, cp7, rfl, hp7, ht7⟩
    have HT7 := zH ht7
    have HP7 := zH hp7
    clear ht7 hp7)
   | (
    go_at_call 92
    refine (put_walk (cp := cp7) HP7.out rfl HGD2.out HR2.out (own_turn HO3.out HT7.out) (Nat.le_trans HSZ3.out HT7.out.size) (by have h1 := HTL2.out; have h2 := HBL.out; have h3 := HN.out; omega) (by have := HTL2.out; omega) (by have := HPL2.out; omega)).mono ?_
    rintro e w8 ⟨A8, n8, c8, rfl, hown8, hext8⟩
    have HO9 := zH hown8
    have HT9 := zH (hext8.fresh (own_turn HO3.out HT7.out) (HT3.out.next HT7.out) HSZ.out)
    clear hown8 hext8))
  go_ret2
  refine ⟨A8, n8, c8, rfl, own_base ?_ HSZ.out, HT9.out⟩
  have h9 := HO9.out
  rw [HPP.out]
  exact h9
theorem put_bad {w : World} {f : Fm} {n cap : Nat} {A : Option Addr} {t : List UInt8} (hck : f.check t ≠ 0) (hr : RowsT w) :
 Calls Tryz.prog 62 #[.slice A n cap, fmV f, strV t] w fun e w' => e = .returned (.tuple #[.slice none 0 0, .int .i64 (f.check t)]) ∧ Turn nowhere w w' := by
 have HR := zH hr
 have hcw : ∀ W, RowsT W → Calls Tryz.prog 46 #[fmV f, strV t] W fun e w' => e = .returned (.int .i64 (f.check t)) ∧ Turn nowhere W w' := fun W hW => check_walk hW
 have y0 : (f.check t == 0) = false := by simpa using hck
 generalize f.check t = ck at *
 have HCW := zH hcw
 clear hr hcw hck
 obtain ⟨k, s, c⟩ := f
 unfold fmV at *
 go_enter Tryz.func62, Tryz.ntmps62
 go_upto_region 1 with fail
 have hb0 := Blk.new w 49 #[.int .i64 k, .int .i64 s, .int .i64 c]
 have ht0 := (Turn.refl nowhere w).alloc (.cells #[.int .i64 k, .int .i64 s, .int .i64 c] 49)
 generalize (w.alloc (.cells #[.int .i64 k, .int .i64 s, .int .i64 c] 49)) = w0 at *
 generalize w.heap.size = b2 at *
 refine wp_region_lit ?_
 refine wR (v := fmV ⟨k, s, c⟩) rfl (exec_load rfl rfl (load_blkForm hb0)) ?_
 simp only [zz]
 unfold fmV
 have HT0 := zH ht0
 clear hb0 ht0
 go_wp2_with (go_at_call 46; refine (HCW.out _ (HR.out.turn HT0.out)).mono ?_; rintro e w1 ⟨rfl, ht1⟩)
 go_ret2
 exact ⟨rfl, HT0.out.next ht1⟩
theorem takeAll_err {ps : List Pt} {b : List UInt8} {k : Int} (h : takeAll ps b = .error k) : k = 42 ∨ k = 43 := by
 unfold takeAll at h
 split at h
 ·injection h with h
  exact .inr h.symm
 ·split at h
  ·injection h with h
   exact .inl h.symm
  ·cases h
def NumR (s : Nat) (r : Except Int (List UInt8 × List UInt8)) (e : Ending) (w' : World) : Prop :=
 match r with
 | .error k => e = .returned (.tuple #[.int .i64 0, .slice none 0 0, .int .i64 k])
 | .ok (t, rest) => if 1 ≤ val t ∧ (val t : Int) ≤ (s : Int) then ∃ A n c, e = .returned (.tuple #[.int .i64 (val t : Int), .slice A n c, .int .i64 0]) ∧ Bs w' A n rest ∧ n ≤ c else e = .returned (.tuple #[.int .i64 0, .slice none 0 0, .int .i64 42])
theorem num_walk {w : World} {k s c n cap : Nat} {A : Option Addr} {b : List UInt8} (hc : 1 ≤ c ∧ c ≤ 3) (hs : s ≤ 64) (hr : RowsT w) (hb : Bs w A n b) (hcap : n ≤ cap) :
 Calls Tryz.prog 115 #[.slice A n cap, fmV ⟨(k : Int), (s : Int), (c : Int)⟩] w fun e w' => NumR s (takeAll (ptsOf 1 (c : Int) 2) b) e w' ∧ Turn nowhere w w' := by
 have HR := zH hr
 have HC := zH hc
 have HS := zH hs
 have HB := zH hb
 have HCAP := zH hcap
 clear hr hc hs hb hcap
 unfold fmV
 go_enter Tryz.func115, Tryz.ntmps115
 go_upto_region 1 with fail
 have hb0 := Blk.new w 49 #[.int .i64 (k : Int), .int .i64 (s : Int), .int .i64 (c : Int)]
 have ht0 := (Turn.refl nowhere w).alloc (.cells #[.int .i64 (k : Int), .int .i64 (s : Int), .int .i64 (c : Int)] 49)
 generalize (w.alloc (.cells #[.int .i64 (k : Int), .int .i64 (s : Int), .int .i64 (c : Int)] 49)) = w0 at *
 generalize w.heap.size = b2 at *
 refine wp_region_lit ?_
 refine wM (.slice A n cap) ?_
 simp only [zz]
 refine wR (v := fmV ⟨(k : Int), (s : Int), (c : Int)⟩) rfl (exec_load rfl rfl (load_blkForm hb0)) ?_
 simp only [zz]
 unfold fmV
 have HB0 := zH hb0
 have HT0 := zH ht0
 clear hb0 ht0
 have HNW := zH (nums_walk (k : Int) (s : Int) c w0 (by have := HC.out; omega) (HR.out.turn HT0.out))
 have HPL := zH (pts_len 1 c 2)
 have HGD := zH (pts_good (k := 1) (n := 2) (by decide) HC.out (by decide))
 have HGM := zH (pts_gm (k := 1) (n := 2) HC.out)
 unfold fmV at HNW
 generalize hps : ptsOf 1 (c : Int) 2 = ps at *
 have HPSE := zH hps
 clear hps
 generalize hres : takeAll ps b = res at *
 have HRES := zH hres
 clear hres
 go_wp2_with (go_at_call 93; refine HNW.out.mono ?_; rintro e w1 ⟨g1, cp1, rfl, hp1, ht1⟩)
 have HT1 := zH (HT0.out.next ht1)
 have htw := take_walk (cp := cp1) hp1 rfl HGD.out HPL.out (bs_turn HB.out HT1.out) HCAP.out
 rw [HRES.out] at htw
 have HTW := zH htw
 have HB1 := zH (HB0.out.turn ht1 (fun e => e))
 clear htw hp1 ht1
 have hfin : NumR s (takeAll (ptsOf 1 (c : Int) 2) b) = NumR s res := by rw [HPSE.out, HRES.out]
 have HFIN := zH hfin
 clear hfin
 cases res with
 | error kk =>
   have hkk := takeAll_err HRES.out
   have y0 : (kk == 0) = false := by simp; omega
   have HY := zH y0
   clear hkk
   go_wp2_with (go_at_call 116; refine HTW.out.mono ?_; rintro e w2 ⟨(rfl : e = _), ht2⟩)
   go_ret3
   rw [HFIN.out]
   exact ⟨rfl, HT1.out.next ht2⟩
 | ok tr =>
   obtain ⟨t1, r1⟩ := tr
   obtain ⟨hright, _⟩ := ok_take HGM.out HRES.out
   rw [← HPSE.out] at hright
   obtain ⟨hl, hon⟩ := (num_right _ _).1 hright
   have hv := (two_of hl hon).2
   have ham : amountOf t1 = ((val t1 : Int), 0) := by
    unfold amountOf
    rw [if_pos ⟨by omega, hon, by intro h; rw [h] at hl; simp at hl⟩]
   have haw : ∀ W, Calls Tryz.prog 81 #[strV t1] W fun e w' => e = .returned (.tuple #[.int .i64 (val t1 : Int), .int .i64 0]) ∧ Turn nowhere W w' := by
    intro W
    have h := amount_walk (t := t1) W (fun h => by rw [h] at hl; simp at hl)
    rw [ham] at h
    exact h
   have HAW := zH haw
   clear hright hl hon ham haw
   go_upto_region 4 with (go_at_call 116; refine HTW.out.mono ?_; rintro e w2 ⟨⟨A2, n2, c2, rfl, hbs2, hnc2⟩, ht2⟩)
   have HBS2 := zH hbs2
   have HNC2 := zH hnc2
   have HT2 := zH (HT1.out.next ht2)
   have HB2 := zH (HB1.out.turn ht2 (fun e => e))
   clear hbs2 hnc2 ht2 HTW
   obtain ⟨m, hm⟩ : ∃ m, m = val t1 := ⟨_, rfl⟩
   rw [← hm] at hv HAW
   have HM := zH hm
   clear hm
   go_upto_region 5 with (go_at_call 81; refine (HAW.out _).mono ?_; rintro e w3 ⟨rfl, ht3⟩)
   have c1 : w3.cell? ⟨b2, 1, none⟩ = some (.int .i64 (s : Int)) := (HB2.out.turn ht3 (fun e => e)).cell 1
   have HT3 := zH (HT2.out.next ht3)
   have HBS3 := zH (bs_turn HBS2.out ht3)
   clear ht3
   have hgoal : ∀ e W, NumR s (takeAll (ptsOf 1 (c : Int) 2) b) e W = (if 1 ≤ m ∧ (m : Int) ≤ (s : Int) then ∃ A n c, e = .returned (.tuple #[.int .i64 (m : Int), .slice A n c, .int .i64 0]) ∧ Bs W A n r1 ∧ n ≤ c else e = .returned (.tuple #[.int .i64 0, .slice none 0 0, .int .i64 42])) := fun e W => by
    rw [HFIN.out, HM.out]
    rfl
   have HGO := zH hgoal
   clear hgoal HFIN
   by_cases h1 : m < 1
   ·have y1 : (m : Int) < 1 := by omega
    have HNO := zH (show ¬ (1 ≤ m ∧ (m : Int) ≤ (s : Int)) from by omega)
    clear h1
    go_wp2_with fail
    go_ret3
    rw [HGO.out, if_neg HNO.out]
    exact ⟨rfl, HT3.out⟩
   ·by_cases h2 : s < m
    ·have y1 : ¬ ((m : Int) < 1) := by omega
     have y2 : (s : Int) < (m : Int) := by omega
     have HNO := zH (show ¬ (1 ≤ m ∧ (m : Int) ≤ (s : Int)) from by omega)
     clear h1 h2
     go_wp2_with fail
     go_ret3
     rw [HGO.out, if_neg HNO.out]
     exact ⟨rfl, HT3.out⟩
    ·have y1 : ¬ ((m : Int) < 1) := by omega
     have y2 : ¬ ((s : Int) < (m : Int)) := by omega
     have HYES := zH (show 1 ≤ m ∧ (m : Int) ≤ (s : Int) from by omega)
     clear h1 h2
     go_wp2_with fail
     go_ret3
     rw [HGO.out, if_pos HYES.out]
     exact ⟨⟨A2, n2, c2, rfl, HBS3.out, HNC2.out⟩, HT3.out⟩
def TakeF (r : Except Int (List UInt8 × List UInt8)) (B : Nat) (e : Ending) (w' : World) : Prop :=
 match r with
 | .error k => e = .returned (.tuple #[strV [], .slice none 0 0, .int .i64 k])
 | .ok (t, rest) => ∃ A n c, e = .returned (.tuple #[strV t, .slice A n c, .int .i64 0]) ∧ Own w' B 5 (.slice A n c) rest
theorem take_bad {w : World} {f : Fm} {n cap : Nat} {A : Option Addr} (hm : f.may = false) :
 Calls Tryz.prog 99 #[.slice A n cap, fmV f] w fun e w' => e = .returned (.tuple #[strV [], .slice none 0 0, .int .i64 40]) ∧ Turn nowhere w w' := by
 have hmw := mayBe_walk f
 rw [hm] at hmw
 have HMW := zH hmw
 clear hmw hm
 obtain ⟨k, s, c⟩ := f
 unfold fmV at *
 go_enter Tryz.func99, Tryz.ntmps99
 go_upto_region 1 with fail
 have hb0 := Blk.new w 49 #[.int .i64 k, .int .i64 s, .int .i64 c]
 have ht0 := (Turn.refl nowhere w).alloc (.cells #[.int .i64 k, .int .i64 s, .int .i64 c] 49)
 generalize (w.alloc (.cells #[.int .i64 k, .int .i64 s, .int .i64 c] 49)) = w0 at *
 generalize w.heap.size = b2 at *
 refine wp_region_lit ?_
 refine wR (v := fmV ⟨k, s, c⟩) rfl (exec_load rfl rfl (load_blkForm hb0)) ?_
 simp only [zz]
 unfold fmV
 have HT0 := zH ht0
 clear hb0 ht0
 go_wp2_with (go_at_call 74; refine (HMW.out _).mono ?_; rintro e w1 ⟨rfl, ht1⟩)
 go_ret3
 exact ⟨rfl, HT0.out.next ht1⟩
theorem take_main {w : World} {kk s c n cap : Nat} {A : Option Addr} {b : List UInt8} (hk : 1 ≤ kk ∧ kk ≤ 5) (hc : 1 ≤ c ∧ c ≤ 3) (hs : 1 ≤ s ∧ s ≤ 64) (hr : RowsT w) (hb : Bs w A n b) (hcap : n ≤ cap) (hn : n ≤ 140737488355328) :
 Calls Tryz.prog 99 #[.slice A n cap, fmV (nf kk s c)] w fun e w' => TakeF ((nf kk s c).take b) w.heap.size e w' ∧ Turn nowhere w w' := by
 have hmw := mayBe_walk (nf kk s c)
 rw [may_nf hk hc hs] at hmw
 have HMW := zH hmw
 have HMAY := zH (may_nf hk hc hs)
 clear hmw
 have HK := zH hk
 have HC := zH hc
 have HS := zH hs
 have HR := zH hr
 have HB := zH hb
 have HN := zH hn
 have HCAP := zH hcap
 clear hr hb hn hcap
 obtain ⟨res, hres⟩ : ∃ res, res = (nf kk s c).take b := ⟨_, rfl⟩
 rw [← hres]
 have HRES := zH hres
 clear hres
 have hform : fmV (nf kk s c) = .agg #[.int .i64 (kk : Int), .int .i64 (s : Int), .int .i64 (c : Int)] := rfl
 rw [hform] at HMW ⊢
 clear hform
 go_enter Tryz.func99, Tryz.ntmps99
 go_upto_region 1 with fail
 have hb0 := Blk.new w 49 #[.int .i64 (kk : Int), .int .i64 (s : Int), .int .i64 (c : Int)]
 have ht0 := (Turn.refl nowhere w).alloc (.cells #[.int .i64 (kk : Int), .int .i64 (s : Int), .int .i64 (c : Int)] 49)
 generalize (w.alloc (.cells #[.int .i64 (kk : Int), .int .i64 (s : Int), .int .i64 (c : Int)] 49)) = w0 at *
 obtain ⟨b2, hb2⟩ : ∃ b2, b2 = w.heap.size := ⟨_, rfl⟩
 rw [← hb2] at hb0 ⊢
 clear hb2
 refine wp_region_lit ?_
 refine wR (v := fmV ⟨(kk : Int), (s : Int), (c : Int)⟩) rfl (exec_load rfl rfl (load_blkForm hb0)) ?_
 simp only [zz]
 unfold fmV
 have HB0 := zH hb0
 have HT0 := zH ht0
 clear hb0 ht0
 go_upto_region 3 with (go_at_call 74; refine (HMW.out _).mono ?_; rintro e w1 ⟨rfl, ht1⟩)
 have HT1 := zH (HT0.out.next ht1)
 have hb1 := HB0.out.turn ht1 (fun e => e)
 have HB1 := zH hb1
 have HB1s := zH (bs_turn HB.out HT1.out)
 have c0 : w1.cell? ⟨b2, 0, none⟩ = some (.int .i64 (kk : Int)) := hb1.cell 0
 have c1 : w1.cell? ⟨b2, 1, none⟩ = some (.int .i64 (s : Int)) := hb1.cell 1
 clear ht1 hb1 HMW HB0
 have HBL := zH HB.out.1
 by_cases hk2 : kk = 2
 ·have y0 : ((kk : Int) == 2) = true := by simp; omega
  have HK2 := zH hk2
  have htl := HRES.out
  rw [hk2, take_ll (by rw [← hk2]; exact HMAY.out)] at htl
  have HTL := zH htl
  clear hk2 hk htl HRES
  go_upto_region 5 with fail
  clear c0 c1 y0
  refine wp_region_lit ?_
  refine wM (.slice A n cap) ?_
  simp only [zz]
  refine wR (v := fmV ⟨(kk : Int), (s : Int), (c : Int)⟩) rfl (exec_load rfl rfl (load_blkForm HB1.out)) ?_
  simp only [zz]
  have hnw := num_walk (k := kk) (s := s) (c := c) (cap := cap) HC.out (by have := HS.out; omega) (HR.out.turn HT1.out) HB1s.out HCAP.out
  unfold fmV at *
  cases hta : takeAll (ptsOf 1 (c : Int) 2) b with
  | error kk2 =>
    have hke := takeAll_err hta
    rw [hta] at hnw
    have y9 : (kk2 == 0) = false := by simp; omega
    have HRES := zH (show res = .error kk2 from by rw [HTL.out, hta])
    clear hta hke
    go_wp2_with (go_at_call 115; refine hnw.mono ?_; rintro e w2 ⟨(rfl : e = _), ht2⟩)
    go_ret3
    rw [HRES.out]
    exact ⟨rfl, HT1.out.next ht2⟩
  | ok tr =>
    obtain ⟨t1, r1⟩ := tr
    rw [hta] at hnw
    have HR1L := zH (show r1.length ≤ b.length from by
     have h := (ok_take (pts_gm HC.out) hta).2
     rw [← h, List.length_append]
     omega)
    have HRES := zH (show res = if 1 ≤ val t1 ∧ (val t1 : Int) ≤ (s : Int) then takeAll (ptsOf 2 (c : Int) (val t1)) r1 else .error 42 from by rw [HTL.out, hta])
    clear hta
    by_cases hgood : 1 ≤ val t1 ∧ (val t1 : Int) ≤ (s : Int)
    ·have hnw2 : Calls Tryz.prog 115 #[.slice A n cap, .agg #[.int .i64 (kk : Int), .int .i64 (s : Int), .int .i64 (c : Int)]] w1 fun e w' => (∃ A n c, e = .returned (.tuple #[.int .i64 (val t1 : Int), .slice A n c, .int .i64 0]) ∧ Bs w' A n r1 ∧ n ≤ c) ∧ Turn nowhere w1 w' := by
      refine hnw.mono ?_
      rintro e w' ⟨h1, h2⟩
      refine ⟨?_, h2⟩
      unfold NumR at h1
      simp only [if_pos hgood] at h1
      exact h1
     have HR2 := zH (show res = takeAll (ptsOf (kk : Int) (c : Int) (val t1)) r1 from by rw [HRES.out, if_pos hgood, HK2.out]; rfl)
     have HG := zH hgood
     generalize val t1 = m at *
     clear hnw hgood HRES
     go_upto_region 8 with (go_at_call 115; refine hnw2.mono ?_; rintro e w2 ⟨⟨A2, n2, c2, rfl, hbs2, hnc2⟩, ht2⟩)
     have HT2 := zH (HT1.out.next ht2)
     have HB2 := zH (HB1.out.turn ht2 (fun e => e))
     have HBS2 := zH hbs2
     have HNC2 := zH hnc2
     clear hbs2 hnc2 ht2 hnw2
     refine wp_region_lit ?_
     refine wM (.slice A2 n2 c2) ?_
     simp only [zz]
     refine wR (v := fmV ⟨(kk : Int), (s : Int), (c : Int)⟩) rfl (exec_load rfl rfl (load_blkForm HB2.out)) ?_
     simp only [zz]
     refine wM (.int .i64 (m : Int)) ?_
     simp only [zz]
     have HPW := zH (parts_walk (kk : Int) (s : Int) c m w2 (by have := HK.out; omega) (by have := HC.out; omega) (by have := HG.out; have := HS.out; omega) (HR.out.turn HT2.out))
     have HPL2 := zH (pts_len (kk : Int) c m)
     have HGD2 := zH (pts_good (k := (kk : Int)) (n := m) (by have := HK.out; omega) HC.out (by have := HG.out; have := HS.out; omega))
     have HGM2 := zH (pts_gm (k := (kk : Int)) (n := m) HC.out)
     unfold fmV
     generalize ptsOf (kk : Int) (c : Int) m = ps2 at *
     cases hta2 : takeAll ps2 r1 with
     | error ke =>
       have hke := takeAll_err hta2
       have y9 : (ke == 0) = false := by simp; omega
       have HRX := zH (show res = .error ke from by rw [HR2.out, hta2])
       have HTA2 := zH hta2
       clear hta2 hke
       go_wp2_with (first
        | (
         go_at_call 94
         refine HPW.out.mono ?_
         rintro e w7 ⟨g7, cp7, rfl, hp7, ht7⟩
         have HT7 := zH (HT2.out.next ht7)
         have htw := take_walk (cp := cp7) hp7 rfl HGD2.out HPL2.out (bs_turn HBS2.out ht7) HNC2.out
         rw [HTA2.out] at htw
         have HTW := zH htw
         clear ht7 hp7 htw)
        | (
         go_at_call 116
         refine HTW.out.mono ?_
         rintro e w8 ⟨(rfl : e = _), ht8⟩
         have HT8 := zH (HT7.out.next ht8)
         clear ht8))
       go_ret3
       rw [HRX.out]
       exact ⟨rfl, HT8.out⟩
     | ok tr2 =>
       obtain ⟨t2, r2⟩ := tr2
       have HRX := zH (show res = .ok (t2, r2) from by rw [HR2.out, hta2])
       have HR2L := zH (show r2.length ≤ r1.length from by
        have h := (ok_take HGM2.out hta2).2
        rw [← h, List.length_append]
        omega)
       have HTA2 := zH hta2
       clear hta2
       go_wp2_with (first
        | (
         go_at_call 94
         refine HPW.out.mono ?_
         rintro e w7 ⟨g7, cp7, rfl, hp7, ht7⟩
         have HT7 := zH (HT2.out.next ht7)
         have htw := take_walk (cp := cp7) hp7 rfl HGD2.out HPL2.out (bs_turn HBS2.out ht7) HNC2.out
         rw [HTA2.out] at htw
         have HTW := zH htw
         clear ht7 hp7 htw)
        | (
         go_at_call 116
         refine HTW.out.mono ?_
         rintro e w8 ⟨⟨A8, n8, c8, rfl, hbs8, hnc8⟩, ht8⟩
         have HT8 := zH (HT7.out.next ht8)
         have HBS8 := zH hbs8
         clear ht8 hbs8 hnc8)
        | (
         go_at_call 91
         refine (clone_walk A8 n8 c8 r2 w8 HBS8.out (by have h1 := HBS8.out.1; have h2 := HR2L.out; have h3 := HBL.out; have h4 := HN.out; have h5 := HR1L.out; omega)).mono ?_
         rintro e w9 ⟨A9, n9, c9, rfl, hown9, ht9⟩
         have HO9 := zH (own_base hown9 HT8.out.size)
         have HT9 := zH (HT8.out.next ht9)
         clear hown9 ht9))
       go_ret3
       rw [HRX.out]
       exact ⟨⟨A9, n9, c9, rfl, HO9.out⟩, HT9.out⟩
    ·have hnw2 : Calls Tryz.prog 115 #[.slice A n cap, .agg #[.int .i64 (kk : Int), .int .i64 (s : Int), .int .i64 (c : Int)]] w1 fun e w' => e = .returned (.tuple #[.int .i64 0, .slice none 0 0, .int .i64 42]) ∧ Turn nowhere w1 w' := by
      refine hnw.mono ?_
      rintro e w' ⟨h1, h2⟩
      refine ⟨?_, h2⟩
      unfold NumR at h1
      simp only [if_neg hgood] at h1
      exact h1
     have HR2 := zH (show res = .error 42 from by rw [HRES.out, if_neg hgood])
     clear hnw hgood HRES
     go_wp2_with (go_at_call 115; refine hnw2.mono ?_; rintro e w2 ⟨rfl, ht2⟩)
     go_ret3
     rw [HR2.out]
     exact ⟨rfl, HT1.out.next ht2⟩
 ·have y0 : ((kk : Int) == 2) = false := by simp; omega
  have HR2 := zH (show res = takeAll (ptsOf (kk : Int) (c : Int) s) b from by rw [HRES.out, take_nl hk2 HMAY.out])
  clear hk2 hk HRES
  go_upto_region 8 with fail
  clear c0 c1 y0
  refine wp_region_lit ?_
  refine wM (.slice A n cap) ?_
  simp only [zz]
  refine wR (v := fmV ⟨(kk : Int), (s : Int), (c : Int)⟩) rfl (exec_load rfl rfl (load_blkForm HB1.out)) ?_
  simp only [zz]
  refine wM (.int .i64 (s : Int)) ?_
  simp only [zz]
  have HPW := zH (parts_walk (kk : Int) (s : Int) c s w1 (by have := HK.out; omega) (by have := HC.out; omega) (by have := HS.out; have := HS.out; omega) (HR.out.turn HT1.out))
  have HPL2 := zH (pts_len (kk : Int) c s)
  have HGD2 := zH (pts_good (k := (kk : Int)) (n := s) (by have := HK.out; omega) HC.out (by have := HS.out; have := HS.out; omega))
  have HGM2 := zH (pts_gm (k := (kk : Int)) (n := s) HC.out)
  unfold fmV
  generalize ptsOf (kk : Int) (c : Int) s = ps2 at *
  cases hta2 : takeAll ps2 b with
  | error ke =>
    have hke := takeAll_err hta2
    have y9 : (ke == 0) = false := by simp; omega
    have HRX := zH (show res = .error ke from by rw [HR2.out, hta2])
    have HTA2 := zH hta2
    clear hta2 hke
    go_wp2_with (first
     | (
      go_at_call 94
      refine HPW.out.mono ?_
      rintro e w7 ⟨g7, cp7, rfl, hp7, ht7⟩
      have HT7 := zH (HT1.out.next ht7)
      have htw := take_walk (cp := cp7) hp7 rfl HGD2.out HPL2.out (bs_turn HB1s.out ht7) HCAP.out
      rw [HTA2.out] at htw
      have HTW := zH htw
      clear ht7 hp7 htw)
     | (
      go_at_call 116
      refine HTW.out.mono ?_
      rintro e w8 ⟨(rfl : e = _), ht8⟩
      have HT8 := zH (HT7.out.next ht8)
      clear ht8))
    go_ret3
    rw [HRX.out]
    exact ⟨rfl, HT8.out⟩
  | ok tr2 =>
    obtain ⟨t2, r2⟩ := tr2
    have HRX := zH (show res = .ok (t2, r2) from by rw [HR2.out, hta2])
    have HR2L := zH (show r2.length ≤ b.length from by
     have h := (ok_take HGM2.out hta2).2
     rw [← h, List.length_append]
     omega)
    have HTA2 := zH hta2
    clear hta2
    go_wp2_with (first
     | (
      go_at_call 94
      refine HPW.out.mono ?_
      rintro e w7 ⟨g7, cp7, rfl, hp7, ht7⟩
      have HT7 := zH (HT1.out.next ht7)
      have htw := take_walk (cp := cp7) hp7 rfl HGD2.out HPL2.out (bs_turn HB1s.out ht7) HCAP.out
      rw [HTA2.out] at htw
      have HTW := zH htw
      clear ht7 hp7 htw)
     | (
      go_at_call 116
      refine HTW.out.mono ?_
      rintro e w8 ⟨⟨A8, n8, c8, rfl, hbs8, hnc8⟩, ht8⟩
      have HT8 := zH (HT7.out.next ht8)
      have HBS8 := zH hbs8
      clear ht8 hbs8 hnc8)
     | (
      go_at_call 91
      refine (clone_walk A8 n8 c8 r2 w8 HBS8.out (by have h1 := HBS8.out.1; have h2 := HR2L.out; have h3 := HBL.out; have h4 := HN.out; omega)).mono ?_
      rintro e w9 ⟨A9, n9, c9, rfl, hown9, ht9⟩
      have HO9 := zH (own_base hown9 HT8.out.size)
      have HT9 := zH (HT8.out.next ht9)
      clear hown9 ht9))
    go_ret3
    rw [HRX.out]
    exact ⟨⟨A9, n9, c9, rfl, HO9.out⟩, HT9.out⟩
theorem build_any (x y z : Int) (W : World) : (Instr.build 49 #[(0, .int .i64 x), (1, .int .i64 y), (2, .int .i64 z)]).run Tryz.prog W = .ok (.agg #[.int .i64 x, .int .i64 y, .int .i64 z]) W := by kernel_rfl
theorem own_bs {w : World} {B n c : Nat} {A : Option Addr} {bs : List UInt8} (h : Own w B 5 (.slice A n c) bs) : Bs w A n bs ∧ n ≤ c ∧ (A = none → c = 0) := by
 obtain ⟨A', n', c', hf, h1, h2, h3⟩ := h.form
 injection hf with e1 e2 e3
 subst e1 e2 e3
 exact ⟨h1, h2, h3⟩
theorem fm_exp {f : Fm} (h : f.may = true) : ∃ k s c : Nat, f = nf k s c ∧ (1 ≤ k ∧ k ≤ 5) ∧ (1 ≤ c ∧ c ≤ 3) ∧ (1 ≤ s ∧ s ≤ 64) := Fdd.may_form h
theorem check_cases {f : Fm} {t : List UInt8} (h : f.check t = 0) : f.may = true ∧ f.right t = true := by
 unfold Fm.check at h
 split at h
 ·rename_i hm
  split at h
  ·rename_i hr
   exact ⟨hm, hr⟩
  ·cases h
 ·cases h
end Go.Proofs.YticofobhkmabiaaGreatDoor
