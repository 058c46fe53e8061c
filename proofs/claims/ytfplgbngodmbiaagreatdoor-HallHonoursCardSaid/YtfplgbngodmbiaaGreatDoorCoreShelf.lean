/-
  Part of the engine that the claim is proved with: it states nothing of the document by itself.
-/
import Derived.Test.YtfplgbngodmbiaaGreatDoorProg
import Derived.Shelf.Sort.AssemblyIn
import Derived.Shelf.Slices.CompactI
import Derived.Sort.EveryDepth
namespace Go.Proofs
open Go.Shelf
def Tryz.lays189_ren : Go.Shelf.Ren := ⟨fun | 189 => 147 | 125 => 146 | 257 => 181 | 128 => 179 | 129 => 180 | 294 => 235 | 295 => 236 | 296 => 237 | 297 => 238 | 298 => 239 | 299 => 240 | 216 => 94 | 300 => 241 | 301 => 242 | 328 => 264 | 329 => 231 | 330 => 232 | 331 => 265 | 332 => 266 | 215 => 144 | 343 => 274 | n => n, fun | 28 => 29 | 3 => 3 | 46 => 81 | 0 => 0 | 51 => 189 | 53 => 191 | 4 => 4 | 183 => 183 | 182 => 182 | 131 => 46 | 5 => 5 | 9 => 9 | 218 => 209 | 222 => 213 | 228 => 229 | 229 => 89 | n => n, fun | n => n⟩
theorem Tryz.lays189 : Go.Proofs.Lays.n189 Tryz.prog Tryz.lays189_ren := {
 mixed := by kernel_rfl
 f125 := Tryz.func146.trans (congrArg some (by kernel_rfl))
 f128 := Tryz.func179.trans (congrArg some (by kernel_rfl))
 f129 := Tryz.func180.trans (congrArg some (by kernel_rfl))
 f189 := Tryz.func147.trans (congrArg some (by kernel_rfl))
 f215 := Tryz.func144.trans (congrArg some (by kernel_rfl))
 f216 := Tryz.func94.trans (congrArg some (by kernel_rfl))
 f257 := Tryz.func181.trans (congrArg some (by kernel_rfl))
 f294 := Tryz.func235.trans (congrArg some (by kernel_rfl))
 f295 := Tryz.func236.trans (congrArg some (by kernel_rfl))
 f296 := Tryz.func237.trans (congrArg some (by kernel_rfl))
 f297 := Tryz.func238.trans (congrArg some (by kernel_rfl))
 f298 := Tryz.func239.trans (congrArg some (by kernel_rfl))
 f299 := Tryz.func240.trans (congrArg some (by kernel_rfl))
 f300 := Tryz.func241.trans (congrArg some (by kernel_rfl))
 f301 := Tryz.func242.trans (congrArg some (by kernel_rfl))
 f328 := Tryz.func264.trans (congrArg some (by kernel_rfl))
 f329 := Tryz.func231.trans (congrArg some (by kernel_rfl))
 f330 := Tryz.func232.trans (congrArg some (by kernel_rfl))
 f331 := Tryz.func265.trans (congrArg some (by kernel_rfl))
 f332 := Tryz.func266.trans (congrArg some (by kernel_rfl))
 f343 := Tryz.func274.trans (congrArg some (by kernel_rfl))
 t0 := Tryz.underlying0
 a0 := Tryz.isAgg0
 z0 := Tryz.sizeOf0
 v0 := Tryz.zeroValue0
 t3 := Tryz.underlying3
 a3 := Tryz.isAgg3
 z3 := Tryz.sizeOf3
 v3 := Tryz.zeroValue3
 t4 := Tryz.underlying4
 a4 := Tryz.isAgg4
 z4 := Tryz.sizeOf4
 v4 := Tryz.zeroValue4
 t5 := Tryz.underlying5
 a5 := Tryz.isAgg5
 z5 := Tryz.sizeOf5
 v5 := Tryz.zeroValue5
 t9 := Tryz.underlying9
 a9 := Tryz.isAgg9
 z9 := Tryz.sizeOf9
 v9 := Tryz.zeroValue9
 t28 := Tryz.underlying29
 a28 := Tryz.isAgg29
 z28 := Tryz.sizeOf29
 v28 := Tryz.zeroValue29
 t46 := Tryz.underlying81
 a46 := Tryz.isAgg81
 z46 := Tryz.sizeOf81
 v46 := Tryz.zeroValue81
 t51 := Tryz.underlying189
 a51 := Tryz.isAgg189
 z51 := Tryz.sizeOf189
 v51 := Tryz.zeroValue189
 t53 := Tryz.underlying191
 a53 := Tryz.isAgg191
 z53 := Tryz.sizeOf191
 v53 := Tryz.zeroValue191
 t131 := Tryz.underlying46
 a131 := Tryz.isAgg46
 z131 := Tryz.sizeOf46
 v131 := Tryz.zeroValue46
 t182 := Tryz.underlying182
 a182 := Tryz.isAgg182
 z182 := Tryz.sizeOf182
 v182 := Tryz.zeroValue182
 t183 := Tryz.underlying183
 a183 := Tryz.isAgg183
 z183 := Tryz.sizeOf183
 v183 := Tryz.zeroValue183
 t218 := Tryz.underlying209
 a218 := Tryz.isAgg209
 z218 := Tryz.sizeOf209
 v218 := Tryz.zeroValue209
 t222 := Tryz.underlying213
 a222 := Tryz.isAgg213
 z222 := Tryz.sizeOf213
 v222 := Tryz.zeroValue213
 t228 := Tryz.underlying229
 a228 := Tryz.isAgg229
 z228 := Tryz.sizeOf229
 v228 := Tryz.zeroValue229
 t229 := Tryz.underlying89
 a229 := Tryz.isAgg89
 z229 := Tryz.sizeOf89
 v229 := Tryz.zeroValue89 }
def Tryz.lays2_20_ren : Go.Shelf.Ren := ⟨fun | 20 => 148 | n => n, fun | 22 => 29 | 3 => 3 | 4 => 4 | 0 => 0 | n => n, fun | n => n⟩
theorem Tryz.lays2_20 : Go.Proofs.Lays2.n20 Tryz.prog Tryz.lays2_20_ren := {
 mixed := by kernel_rfl
 f20 := Tryz.func148.trans (congrArg some (by kernel_rfl))
 t0 := Tryz.underlying0
 a0 := Tryz.isAgg0
 z0 := Tryz.sizeOf0
 v0 := Tryz.zeroValue0
 t3 := Tryz.underlying3
 a3 := Tryz.isAgg3
 z3 := Tryz.sizeOf3
 v3 := Tryz.zeroValue3
 t4 := Tryz.underlying4
 a4 := Tryz.isAgg4
 z4 := Tryz.sizeOf4
 v4 := Tryz.zeroValue4
 t22 := Tryz.underlying29
 a22 := Tryz.isAgg29
 z22 := Tryz.sizeOf29
 v22 := Tryz.zeroValue29
 i3 := by kernel_rfl }
end Go.Proofs
