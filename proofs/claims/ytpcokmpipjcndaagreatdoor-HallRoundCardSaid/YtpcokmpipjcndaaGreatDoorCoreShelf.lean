/-
  Part of the engine that the claim is proved with: it states nothing of the document by itself.
-/
import Derived.Test.YtpcokmpipjcndaaGreatDoorProg
import Derived.Shelf.Sort.AssemblyIn
import Derived.Shelf.Slices.CompactI
import Derived.Sort.EveryDepth
namespace Go.Proofs
open Go.Shelf
def Tryz.lays189_ren : Go.Shelf.Ren := ⟨fun | 189 => 63 | 125 => 85 | 257 => 92 | 128 => 115 | 129 => 116 | 294 => 126 | 295 => 127 | 296 => 128 | 297 => 129 | 298 => 130 | 299 => 131 | 216 => 132 | 300 => 133 | 301 => 134 | 328 => 179 | 329 => 172 | 330 => 173 | 331 => 180 | 332 => 181 | 215 => 86 | 343 => 200 | n => n, fun | 28 => 37 | 3 => 3 | 46 => 125 | 0 => 0 | 51 => 149 | 53 => 151 | 4 => 4 | 183 => 143 | 182 => 142 | 131 => 40 | 5 => 5 | 9 => 9 | 218 => 175 | 222 => 179 | 228 => 193 | 229 => 194 | n => n, fun | n => n⟩
theorem Tryz.lays189 : Go.Proofs.Lays.n189 Tryz.prog Tryz.lays189_ren := {
 mixed := by kernel_rfl
 f125 := Tryz.func85.trans (congrArg some (by kernel_rfl))
 f128 := Tryz.func115.trans (congrArg some (by kernel_rfl))
 f129 := Tryz.func116.trans (congrArg some (by kernel_rfl))
 f189 := Tryz.func63.trans (congrArg some (by kernel_rfl))
 f215 := Tryz.func86.trans (congrArg some (by kernel_rfl))
 f216 := Tryz.func132.trans (congrArg some (by kernel_rfl))
 f257 := Tryz.func92.trans (congrArg some (by kernel_rfl))
 f294 := Tryz.func126.trans (congrArg some (by kernel_rfl))
 f295 := Tryz.func127.trans (congrArg some (by kernel_rfl))
 f296 := Tryz.func128.trans (congrArg some (by kernel_rfl))
 f297 := Tryz.func129.trans (congrArg some (by kernel_rfl))
 f298 := Tryz.func130.trans (congrArg some (by kernel_rfl))
 f299 := Tryz.func131.trans (congrArg some (by kernel_rfl))
 f300 := Tryz.func133.trans (congrArg some (by kernel_rfl))
 f301 := Tryz.func134.trans (congrArg some (by kernel_rfl))
 f328 := Tryz.func179.trans (congrArg some (by kernel_rfl))
 f329 := Tryz.func172.trans (congrArg some (by kernel_rfl))
 f330 := Tryz.func173.trans (congrArg some (by kernel_rfl))
 f331 := Tryz.func180.trans (congrArg some (by kernel_rfl))
 f332 := Tryz.func181.trans (congrArg some (by kernel_rfl))
 f343 := Tryz.func200.trans (congrArg some (by kernel_rfl))
 t0 := Tryz.underlying0
 a0 := Tryz.isAgg0
 z0 := Tryz.sizeOf0
 v0 := Tryz.zeroValue0
 t3 := Tryz.underlying3
 a3 := Tryz.isAgg3
 z3 := Tryz.sizeOf3
 v3 := Tryz.zeroValue3
 t4 := Tryz.underlying4
 a4 := Tryz.isAgg4
 z4 := Tryz.sizeOf4
 v4 := Tryz.zeroValue4
 t5 := Tryz.underlying5
 a5 := Tryz.isAgg5
 z5 := Tryz.sizeOf5
 v5 := Tryz.zeroValue5
 t9 := Tryz.underlying9
 a9 := Tryz.isAgg9
 z9 := Tryz.sizeOf9
 v9 := Tryz.zeroValue9
 t28 := Tryz.underlying37
 a28 := Tryz.isAgg37
 z28 := Tryz.sizeOf37
 v28 := Tryz.zeroValue37
 t46 := Tryz.underlying125
 a46 := Tryz.isAgg125
 z46 := Tryz.sizeOf125
 v46 := Tryz.zeroValue125
 t51 := Tryz.underlying149
 a51 := Tryz.isAgg149
 z51 := Tryz.sizeOf149
 v51 := Tryz.zeroValue149
 t53 := Tryz.underlying151
 a53 := Tryz.isAgg151
 z53 := Tryz.sizeOf151
 v53 := Tryz.zeroValue151
 t131 := Tryz.underlying40
 a131 := Tryz.isAgg40
 z131 := Tryz.sizeOf40
 v131 := Tryz.zeroValue40
 t182 := Tryz.underlying142
 a182 := Tryz.isAgg142
 z182 := Tryz.sizeOf142
 v182 := Tryz.zeroValue142
 t183 := Tryz.underlying143
 a183 := Tryz.isAgg143
 z183 := Tryz.sizeOf143
 v183 := Tryz.zeroValue143
 t218 := Tryz.underlying175
 a218 := Tryz.isAgg175
 z218 := Tryz.sizeOf175
 v218 := Tryz.zeroValue175
 t222 := Tryz.underlying179
 a222 := Tryz.isAgg179
 z222 := Tryz.sizeOf179
 v222 := Tryz.zeroValue179
 t228 := Tryz.underlying193
 a228 := Tryz.isAgg193
 z228 := Tryz.sizeOf193
 v228 := Tryz.zeroValue193
 t229 := Tryz.underlying194
 a229 := Tryz.isAgg194
 z229 := Tryz.sizeOf194
 v229 := Tryz.zeroValue194 }
def Tryz.lays2_20_ren : Go.Shelf.Ren := ⟨fun | 20 => 64 | n => n, fun | 22 => 37 | 3 => 3 | 4 => 4 | 0 => 0 | n => n, fun | n => n⟩
theorem Tryz.lays2_20 : Go.Proofs.Lays2.n20 Tryz.prog Tryz.lays2_20_ren := {
 mixed := by kernel_rfl
 f20 := Tryz.func64.trans (congrArg some (by kernel_rfl))
 t0 := Tryz.underlying0
 a0 := Tryz.isAgg0
 z0 := Tryz.sizeOf0
 v0 := Tryz.zeroValue0
 t3 := Tryz.underlying3
 a3 := Tryz.isAgg3
 z3 := Tryz.sizeOf3
 v3 := Tryz.zeroValue3
 t4 := Tryz.underlying4
 a4 := Tryz.isAgg4
 z4 := Tryz.sizeOf4
 v4 := Tryz.zeroValue4
 t22 := Tryz.underlying37
 a22 := Tryz.isAgg37
 z22 := Tryz.sizeOf37
 v22 := Tryz.zeroValue37
 i3 := by kernel_rfl }
end Go.Proofs
