/- slices.Sort at this program, laid by the kit's command. -/
import Derived.Ground.SlgnProg
import Derived.Ground.SlgmProg
import Derived.Shelf.SortM.Plain
import Derived.Test.YtpbbedelapnnnaaProg
namespace Go.Proofs
open Go.Shelf
def Try.laysSlM5_fX_ren : Go.Shelf.Ren := ⟨fun | 5 => 107 | 8 => 187 | 7 => 186 | 19 => 241 | 20 => 242 | 10 => 232 | 11 => 233 | 12 => 234 | 13 => 235 | 14 => 236 | 15 => 237 | 16 => 238 | 17 => 239 | 18 => 240 | 30 => 263 | 31 => 264 | 32 => 265 | 33 => 266 | 34 => 267 | 35 => 268 | 40 => 271 | n => n, fun | 23 => 42 | 25 => 2 | 3 => 3 | 32 => 205 | 22 => 42 | 0 => 0 | 44 => 249 | 46 => 211 | 4 => 4 | 36 => 241 | 35 => 240 | 41 => 246 | 5 => 5 | 9 => 9 | 53 => 261 | 57 => 265 | 63 => 267 | 64 => 268 | n => n, fun | n => n⟩
theorem Try.laysSlM5_fX : Go.Proofs.SlLaysM.n5 Try.prog Try.laysSlM5_fX_ren := {
  mixed := by kernel_rfl
  f5 := ⟨Try.f107.name, by decide, Try.func107.trans (congrArg some (by kernel_rfl))⟩
  f7 := ⟨Try.f186.name, by decide, Try.func186.trans (congrArg some (by kernel_rfl))⟩
  f8 := Try.func187.trans (congrArg some (by kernel_rfl))
  f10 := ⟨Try.f232.name, by decide, Try.func232.trans (congrArg some (by kernel_rfl))⟩
  f11 := ⟨Try.f233.name, by decide, Try.func233.trans (congrArg some (by kernel_rfl))⟩
  f12 := ⟨Try.f234.name, by decide, Try.func234.trans (congrArg some (by kernel_rfl))⟩
  f13 := ⟨Try.f235.name, by decide, Try.func235.trans (congrArg some (by kernel_rfl))⟩
  f14 := ⟨Try.f236.name, by decide, Try.func236.trans (congrArg some (by kernel_rfl))⟩
  f15 := ⟨Try.f237.name, by decide, Try.func237.trans (congrArg some (by kernel_rfl))⟩
  f16 := ⟨Try.f238.name, by decide, Try.func238.trans (congrArg some (by kernel_rfl))⟩
  f17 := ⟨Try.f239.name, by decide, Try.func239.trans (congrArg some (by kernel_rfl))⟩
  f18 := ⟨Try.f240.name, by decide, Try.func240.trans (congrArg some (by kernel_rfl))⟩
  f19 := Try.func241.trans (congrArg some (by kernel_rfl))
  f20 := Try.func242.trans (congrArg some (by kernel_rfl))
  f30 := ⟨Try.f263.name, by decide, Try.func263.trans (congrArg some (by kernel_rfl))⟩
  f31 := Try.func264.trans (congrArg some (by kernel_rfl))
  f32 := Try.func265.trans (congrArg some (by kernel_rfl))
  f33 := ⟨Try.f266.name, by decide, Try.func266.trans (congrArg some (by kernel_rfl))⟩
  f34 := ⟨Try.f267.name, by decide, Try.func267.trans (congrArg some (by kernel_rfl))⟩
  f35 := ⟨Try.f268.name, by decide, Try.func268.trans (congrArg some (by kernel_rfl))⟩
  f40 := ⟨Try.f271.name, by decide, Try.func271.trans (congrArg some (by kernel_rfl))⟩
  t0 := Try.underlying0
  a0 := Try.isAgg0
  z0 := Try.sizeOf0
  v0 := Try.zeroValue0
  t3 := Try.underlying3
  a3 := Try.isAgg3
  z3 := Try.sizeOf3
  v3 := Try.zeroValue3
  t4 := Try.underlying4
  a4 := Try.isAgg4
  z4 := Try.sizeOf4
  v4 := Try.zeroValue4
  t5 := Try.underlying5
  a5 := Try.isAgg5
  z5 := Try.sizeOf5
  v5 := Try.zeroValue5
  t9 := Try.underlying9
  a9 := Try.isAgg9
  z9 := Try.sizeOf9
  v9 := Try.zeroValue9
  t22 := Try.underlying42
  a22 := Try.isAgg42
  z22 := Try.sizeOf42
  v22 := Try.zeroValue42
  t23 := Try.underlying42
  a23 := Try.isAgg42
  z23 := Try.sizeOf42
  v23 := Try.zeroValue42
  t25 := Try.underlying2
  a25 := Try.isAgg2
  z25 := Try.sizeOf2
  v25 := Try.zeroValue2
  t32 := Try.underlying205
  a32 := Try.isAgg205
  z32 := Try.sizeOf205
  v32 := Try.zeroValue205
  t35 := Try.underlying240
  a35 := Try.isAgg240
  z35 := Try.sizeOf240
  v35 := Try.zeroValue240
  t36 := Try.underlying241
  a36 := Try.isAgg241
  z36 := Try.sizeOf241
  v36 := Try.zeroValue241
  t41 := Try.underlying246
  a41 := Try.isAgg246
  z41 := Try.sizeOf246
  v41 := Try.zeroValue246
  t44 := Try.underlying249
  a44 := Try.isAgg249
  z44 := Try.sizeOf249
  v44 := Try.zeroValue249
  t46 := Try.underlying211
  a46 := Try.isAgg211
  z46 := Try.sizeOf211
  v46 := Try.zeroValue211
  t53 := Try.underlying261
  a53 := Try.isAgg261
  z53 := Try.sizeOf261
  v53 := Try.zeroValue261
  t57 := Try.underlying265
  a57 := Try.isAgg265
  z57 := Try.sizeOf265
  v57 := Try.zeroValue265
  t63 := Try.underlying267
  a63 := Try.isAgg267
  z63 := Try.sizeOf267
  v63 := Try.zeroValue267
  t64 := Try.underlying268
  a64 := Try.isAgg268
  z64 := Try.sizeOf268
  v64 := Try.zeroValue268 }
open Go.Sort Go.RowKit in
theorem Try.slices_Sort_int (blk off cap : Nat) (zs : List Int) (w : World) (hH : Holds (Value.int .i64) w blk off zs.toArray) (hblk : blk < w.heap.size) (hsz : zs.length < 4611686018427387904) :
    Calls Try.prog 107 #[.slice (some ⟨blk, off, none⟩) zs.length cap] w fun e w' =>
      e = .returned (.tuple #[]) ∧ ∃ n os, w' = grow (putRow (Value.int .i64) (Sort.ahead w n) blk off (zs.mergeSort fun x y => decide (x ≤ y)).toArray) os := AnyM.slices_Sort_int Try.laysSlM5_fX blk off cap zs w hH hblk hsz
end Go.Proofs
