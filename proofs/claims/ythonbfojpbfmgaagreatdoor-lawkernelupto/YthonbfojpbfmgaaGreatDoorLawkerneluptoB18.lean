/- The document's leaf as mathematics: the hits that are counted over the literals. -/
import Derived.Test.YthonbfojpbfmgaaGreatDoorLawkerneluptoB17
import Derived.Test.YthonbfojpbfmgaaGreatDoorLawkerneluptoB10
import Derived.Ground.SlgnProg
import Derived.Shelf.SlicesG.Turned
import Derived.Shelf.SlicesG.Clone
import Derived.Shelf.SlicesG.CompactI
import Derived.Shelf.SlicesG.CompactS
import Derived.Ground.SlgmProg
import Derived.Shelf.SortM.Plain
import Derived.Shelf.SortM.SortNone
import Derived.Test.YthonbfojpbfmgaaGreatDoorProg
import Derived.Test.YthonbfojpbfmgaaGreatDoorLawkerneluptoB16
import Derived.Lib.OwnBridge
import Derived.Sort.OwnSortedInts
import Derived.Test.YthonbfojpbfmgaaGreatDoorLawkerneluptoB8
set_option linter.unusedVariables false
set_option linter.unusedSimpArgs false
set_option linter.unnecessarySimpa false
set_option maxRecDepth 100000
namespace Go.Proofs.YthonbfojpbfmgaaGreatDoor
open Go.RowKit

/-- the value of a cell that is not NULL -/
def pvOf (c : C3) : PV := (c.i, c.s)
/-- what a leaf is for a cell -/
def leafV (op : Int) (az : List C3) (nl : Bool) (v : PV) : Int := if nl = true ∨ op = 9 then (if op = 9 then (if nl = true then 2 else 0) else 1) else (if leafT op (az.map pvOf) v = true then 2 else 0)
/-- the code that is due -/
def rfCode (kind rows op col : Int) (args : List C3) (xs : List Nat) : Int := if refCode kind rows xs = 0 then (if leafR kind ⟨op, col, args⟩ = true then 0 else 2) else refCode kind rows xs
/-- what the leaf is in a row -/
def rfV (kd rows : Nat) (op : Int) (args : List C3) (xs : List Nat) (r : Nat) : Int := leafV op args (cA (rWs rows xs) r) (cB (rWs rows xs) (rPay kd rows xs).2 r, cC (rWs rows xs) (rPay kd rows xs).2 r)
def rfB (kd rows : Nat) (op : Int) (args : List C3) (xs : List Nat) (t : Int) (n : Nat) : List Bool := (List.range n).map fun r => decide (rfV kd rows op args xs r = t)
/-- the words of the bitmap of those rows in which the leaf is t -/
def rfZ (kind rows op col : Int) (args : List C3) (xs : List Nat) (t : Int) : List Nat := if rfCode kind rows op col args xs = 0 then bmL (rfB kind.toNat rows.toNat op args xs t rows.toNat) else []
theorem rfB_get (kd rows : Nat) (op : Int) (args : List C3) (xs : List Nat) (t : Int) (n r : Nat) (h : r < n) : (rfB kd rows op args xs t n).getD r false = decide (rfV kd rows op args xs r = t) := by
  simp [rfB, List.getD, h]
theorem rfB_len (kd rows : Nat) (op : Int) (args : List C3) (xs : List Nat) (t : Int) (n : Nat) : (rfB kd rows op args xs t n).length = n := by simp [rfB]
end Go.Proofs.YthonbfojpbfmgaaGreatDoor

/- The library's contracts, laid at this program. -/
set_option maxRecDepth 512
namespace Go.Proofs
open Go.Shelf
def Tryz.laysSlN39_f224_ren : Go.Shelf.Ren := ⟨fun | 39 => 224 | n => n, fun | 22 => 51 | 23 => 2 | 3 => 3 | 4 => 4 | 9 => 9 | 20 => 20 | 0 => 0 | n => n, fun | n => n⟩
theorem Tryz.laysSlN39_f224 : Go.Proofs.SlLaysN.n39 Tryz.prog Tryz.laysSlN39_f224_ren := {
  mixed := by kernel_rfl
  f39 := ⟨Tryz.f224.name, by decide, Tryz.func224.trans (congrArg some (by kernel_rfl))⟩
  t0 := Tryz.underlying0
  a0 := Tryz.isAgg0
  z0 := Tryz.sizeOf0
  v0 := Tryz.zeroValue0
  t3 := Tryz.underlying3
  a3 := Tryz.isAgg3
  z3 := Tryz.sizeOf3
  v3 := Tryz.zeroValue3
  t4 := Tryz.underlying4
  a4 := Tryz.isAgg4
  z4 := Tryz.sizeOf4
  v4 := Tryz.zeroValue4
  t9 := Tryz.underlying9
  a9 := Tryz.isAgg9
  z9 := Tryz.sizeOf9
  v9 := Tryz.zeroValue9
  t20 := Tryz.underlying20
  a20 := Tryz.isAgg20
  z20 := Tryz.sizeOf20
  v20 := Tryz.zeroValue20
  t22 := Tryz.underlying51
  a22 := Tryz.isAgg51
  z22 := Tryz.sizeOf51
  v22 := Tryz.zeroValue51
  t23 := Tryz.underlying2
  a23 := Tryz.isAgg2
  z23 := Tryz.sizeOf2
  v23 := Tryz.zeroValue2 }
open Go.Lib in
theorem Tryz.slices_Min_int (b off n c : Nat) (zs : List Int) (w : World) (hn : 0 < n) (hz : n ≤ zs.length) (hbig : n ≤ 9223372036854775807) (hc : ∀ j, j < zs.length → w.cell? ⟨b, off + j, none⟩ = some (.int .i64 (zs.getD j 0))) :
    Calls Tryz.prog 224 #[.slice (some ⟨b, off, none⟩) n c] w fun e w' => e = .returned (.int .i64 (Lib.minOf (zs.take n))) ∧ w' = w := AnyG.slices_Min_int Tryz.laysSlN39_f224 b off n c zs w hn hz hbig hc
def Tryz.laysSlN41_f227_ren : Go.Shelf.Ren := ⟨fun | 41 => 227 | n => n, fun | 22 => 51 | 23 => 2 | 4 => 4 | n => n, fun | n => n⟩
theorem Tryz.laysSlN41_f227 : Go.Proofs.SlLaysN.n41 Tryz.prog Tryz.laysSlN41_f227_ren := {
  mixed := by kernel_rfl
  f41 := ⟨Tryz.f227.name, by decide, Tryz.func227.trans (congrArg some (by kernel_rfl))⟩
  t4 := Tryz.underlying4
  a4 := Tryz.isAgg4
  z4 := Tryz.sizeOf4
  v4 := Tryz.zeroValue4
  t22 := Tryz.underlying51
  a22 := Tryz.isAgg51
  z22 := Tryz.sizeOf51
  v22 := Tryz.zeroValue51
  t23 := Tryz.underlying2
  a23 := Tryz.isAgg2
  z23 := Tryz.sizeOf2
  v23 := Tryz.zeroValue2
  i23 := by kernel_rfl }
open Go.RowKit Go.Lib in
theorem Tryz.slices_Clone_int (b off n c : Nat) (zs : List Int) (w : World) (hz : n ≤ zs.length) (hbig : n * 8 ≤ 140737488355328) (hc : ∀ j, j < zs.length → w.cell? ⟨b, off + j, none⟩ = some (.int .i64 (zs.getD j 0))) :
    Calls Tryz.prog 227 #[.slice (some ⟨b, off, none⟩) n c] w fun e w' => ∃ v', e = .returned v' ∧ w'.ownsRow w.heap.size 2 1 v' n ((zs.take n).map (Value.int .i64)) ∧ v' ≠ .slice none 0 0 ∧ Below w.heap.size w w' := AnyG.slices_Clone_int Tryz.laysSlN41_f227 b off n c zs w hz hbig hc
open Go.RowKit Go.Lib in
theorem Tryz.slices_Clone_int_nil (n c : Nat) (w : World) :
    Calls Tryz.prog 227 #[.slice none n c] w fun e w' => e = .returned (.slice none 0 0) ∧ w' = w := AnyG.slices_Clone_int_nil Tryz.laysSlN41_f227 n c w
def Tryz.laysSlN42_f220_ren : Go.Shelf.Ren := ⟨fun | 42 => 220 | n => n, fun | 25 => 58 | 26 => 9 | 4 => 4 | n => n, fun | n => n⟩
theorem Tryz.laysSlN42_f220 : Go.Proofs.SlLaysN.n42 Tryz.prog Tryz.laysSlN42_f220_ren := {
  mixed := by kernel_rfl
  f42 := ⟨Tryz.f220.name, by decide, Tryz.func220.trans (congrArg some (by kernel_rfl))⟩
  t4 := Tryz.underlying4
  a4 := Tryz.isAgg4
  z4 := Tryz.sizeOf4
  v4 := Tryz.zeroValue4
  t25 := Tryz.underlying58
  a25 := Tryz.isAgg58
  z25 := Tryz.sizeOf58
  v25 := Tryz.zeroValue58
  t26 := Tryz.underlying9
  a26 := Tryz.isAgg9
  z26 := Tryz.sizeOf9
  v26 := Tryz.zeroValue9
  i26 := by kernel_rfl }
open Go.RowKit Go.Lib in
theorem Tryz.slices_Clone_string (b off n c : Nat) (zs : List ByteArray) (w : World) (hz : n ≤ zs.length) (hbig : n * 16 ≤ 140737488355328) (hc : ∀ j, j < zs.length → w.cell? ⟨b, off + j, none⟩ = some (.string (zs.getD j ByteArray.empty))) :
    Calls Tryz.prog 220 #[.slice (some ⟨b, off, none⟩) n c] w fun e w' => ∃ v', e = .returned v' ∧ w'.ownsRow w.heap.size 9 1 v' n ((zs.take n).map (Value.string)) ∧ v' ≠ .slice none 0 0 ∧ Below w.heap.size w w' := AnyG.slices_Clone_string Tryz.laysSlN42_f220 b off n c zs w hz hbig hc
open Go.RowKit Go.Lib in
theorem Tryz.slices_Clone_string_nil (n c : Nat) (w : World) :
    Calls Tryz.prog 220 #[.slice none n c] w fun e w' => e = .returned (.slice none 0 0) ∧ w' = w := AnyG.slices_Clone_string_nil Tryz.laysSlN42_f220 n c w
open Go.RowKit Go.Lib in
theorem Tryz.slices_Clone_int_zero (a : Addr) (c : Nat) (w : World) :
    Calls Tryz.prog 227 #[.slice (some a) 0 c] w fun e w' => ∃ v', e = .returned v' ∧ w'.ownsRow w.heap.size 2 1 v' 0 [] ∧ v' ≠ .slice none 0 0 ∧ Below w.heap.size w w' := AnyG.slices_Clone_int_zero Tryz.laysSlN41_f227 a c w
open Go.RowKit Go.Lib in
theorem Tryz.slices_Clone_string_zero (a : Addr) (c : Nat) (w : World) :
    Calls Tryz.prog 220 #[.slice (some a) 0 c] w fun e w' => ∃ v', e = .returned v' ∧ w'.ownsRow w.heap.size 9 1 v' 0 [] ∧ v' ≠ .slice none 0 0 ∧ Below w.heap.size w w' := AnyG.slices_Clone_string_zero Tryz.laysSlN42_f220 a c w
def Tryz.laysSlN43_f110_ren : Go.Shelf.Ren := ⟨fun | 43 => 110 | n => n, fun | 22 => 51 | 23 => 2 | 3 => 3 | 4 => 4 | 0 => 0 | n => n, fun | n => n⟩
theorem Tryz.laysSlN43_f110 : Go.Proofs.SlLaysN.n43 Tryz.prog Tryz.laysSlN43_f110_ren := {
  mixed := by kernel_rfl
  f43 := ⟨Tryz.f110.name, by decide, Tryz.func110.trans (congrArg some (by kernel_rfl))⟩
  t0 := Tryz.underlying0
  a0 := Tryz.isAgg0
  z0 := Tryz.sizeOf0
  v0 := Tryz.zeroValue0
  t3 := Tryz.underlying3
  a3 := Tryz.isAgg3
  z3 := Tryz.sizeOf3
  v3 := Tryz.zeroValue3
  t4 := Tryz.underlying4
  a4 := Tryz.isAgg4
  z4 := Tryz.sizeOf4
  v4 := Tryz.zeroValue4
  t22 := Tryz.underlying51
  a22 := Tryz.isAgg51
  z22 := Tryz.sizeOf51
  v22 := Tryz.zeroValue51
  t23 := Tryz.underlying2
  a23 := Tryz.isAgg2
  z23 := Tryz.sizeOf2
  v23 := Tryz.zeroValue2
  i23 := by kernel_rfl }
open Go.RowKit Go.Lib Go.Sort in
open Go.RowKit Go.Lib Go.Sort in
theorem Tryz.slices_Compact_int (blk off cap : Nat) (zs : List Int) (w : World) (hH : Holds (Value.int .i64) w blk off zs.toArray) (hsz : zs.length ≤ 9223372036854775807) (hcap : zs.length ≤ cap) :
    Calls Tryz.prog 110 #[.slice (some ⟨blk, off, none⟩) zs.length cap] w fun e w' => e = .returned (.slice (some ⟨blk, off, none⟩) (Lib.compact zs).length cap) ∧ ∃ q, w' = putRow (Value.int .i64) (Sort.ahead w q) blk off (Lib.compact zs ++ List.replicate (zs.length - (Lib.compact zs).length) 0).toArray := AnyG.slices_Compact_int Tryz.laysSlN43_f110 blk off cap zs w hH hsz hcap
open Go.RowKit Go.Lib Go.Sort in
theorem Tryz.slices_Compact_int_empty (a : Option Addr) (cap : Nat) (w : World) :
    Calls Tryz.prog 110 #[.slice a 0 cap] w fun e w' => e = .returned (.slice a 0 cap) ∧ w' = w := AnyG.slices_Compact_int_empty Tryz.laysSlN43_f110 a cap w
def Tryz.laysSlN44_f104_ren : Go.Shelf.Ren := ⟨fun | 44 => 104 | n => n, fun | 25 => 58 | 26 => 9 | 3 => 3 | 4 => 4 | 0 => 0 | n => n, fun | n => n⟩
theorem Tryz.laysSlN44_f104 : Go.Proofs.SlLaysN.n44 Tryz.prog Tryz.laysSlN44_f104_ren := {
  mixed := by kernel_rfl
  f44 := ⟨Tryz.f104.name, by decide, Tryz.func104.trans (congrArg some (by kernel_rfl))⟩
  t0 := Tryz.underlying0
  a0 := Tryz.isAgg0
  z0 := Tryz.sizeOf0
  v0 := Tryz.zeroValue0
  t3 := Tryz.underlying3
  a3 := Tryz.isAgg3
  z3 := Tryz.sizeOf3
  v3 := Tryz.zeroValue3
  t4 := Tryz.underlying4
  a4 := Tryz.isAgg4
  z4 := Tryz.sizeOf4
  v4 := Tryz.zeroValue4
  t25 := Tryz.underlying58
  a25 := Tryz.isAgg58
  z25 := Tryz.sizeOf58
  v25 := Tryz.zeroValue58
  t26 := Tryz.underlying9
  a26 := Tryz.isAgg9
  z26 := Tryz.sizeOf9
  v26 := Tryz.zeroValue9
  i26 := by kernel_rfl }
open Go.RowKit Go.Lib Go.Sort in
open Go.RowKit Go.Lib Go.Sort in
theorem Tryz.slices_Compact_string (blk off cap : Nat) (zs : List (List UInt8)) (w : World) (hH : Holds encStr w blk off zs.toArray) (hsz : zs.length ≤ 9223372036854775807) (hcap : zs.length ≤ cap) :
    Calls Tryz.prog 104 #[.slice (some ⟨blk, off, none⟩) zs.length cap] w fun e w' => e = .returned (.slice (some ⟨blk, off, none⟩) (Lib.compact zs).length cap) ∧ ∃ q, w' = putRow encStr (Sort.ahead w q) blk off (Lib.compact zs ++ List.replicate (zs.length - (Lib.compact zs).length) []).toArray := AnyG.slices_Compact_string Tryz.laysSlN44_f104 blk off cap zs w hH hsz hcap
open Go.RowKit Go.Lib Go.Sort in
theorem Tryz.slices_Compact_string_empty (a : Option Addr) (cap : Nat) (w : World) :
    Calls Tryz.prog 104 #[.slice a 0 cap] w fun e w' => e = .returned (.slice a 0 cap) ∧ w' = w := AnyG.slices_Compact_string_empty Tryz.laysSlN44_f104 a cap w
def Tryz.laysSlM5_f109_ren : Go.Shelf.Ren := ⟨fun | 5 => 109 | 8 => 155 | 7 => 162 | 19 => 202 | 20 => 203 | 10 => 209 | 11 => 210 | 12 => 211 | 13 => 212 | 14 => 213 | 15 => 214 | 16 => 215 | 17 => 216 | 18 => 217 | 30 => 236 | 31 => 230 | 32 => 231 | 33 => 237 | 34 => 238 | 35 => 239 | 40 => 246 | n => n, fun | 23 => 51 | 25 => 2 | 3 => 3 | 32 => 80 | 22 => 51 | 0 => 0 | 44 => 238 | 46 => 40 | 4 => 4 | 36 => 231 | 35 => 230 | 41 => 224 | 5 => 5 | 9 => 9 | 53 => 257 | 57 => 260 | 63 => 265 | 64 => 81 | n => n, fun | n => n⟩
theorem Tryz.laysSlM5_f109 : Go.Proofs.SlLaysM.n5 Tryz.prog Tryz.laysSlM5_f109_ren := {
  mixed := by kernel_rfl
  f5 := ⟨Tryz.f109.name, by decide, Tryz.func109.trans (congrArg some (by kernel_rfl))⟩
  f7 := ⟨Tryz.f162.name, by decide, Tryz.func162.trans (congrArg some (by kernel_rfl))⟩
  f8 := Tryz.func155.trans (congrArg some (by kernel_rfl))
  f10 := ⟨Tryz.f209.name, by decide, Tryz.func209.trans (congrArg some (by kernel_rfl))⟩
  f11 := ⟨Tryz.f210.name, by decide, Tryz.func210.trans (congrArg some (by kernel_rfl))⟩
  f12 := ⟨Tryz.f211.name, by decide, Tryz.func211.trans (congrArg some (by kernel_rfl))⟩
  f13 := ⟨Tryz.f212.name, by decide, Tryz.func212.trans (congrArg some (by kernel_rfl))⟩
  f14 := ⟨Tryz.f213.name, by decide, Tryz.func213.trans (congrArg some (by kernel_rfl))⟩
  f15 := ⟨Tryz.f214.name, by decide, Tryz.func214.trans (congrArg some (by kernel_rfl))⟩
  f16 := ⟨Tryz.f215.name, by decide, Tryz.func215.trans (congrArg some (by kernel_rfl))⟩
  f17 := ⟨Tryz.f216.name, by decide, Tryz.func216.trans (congrArg some (by kernel_rfl))⟩
  f18 := ⟨Tryz.f217.name, by decide, Tryz.func217.trans (congrArg some (by kernel_rfl))⟩
  f19 := Tryz.func202.trans (congrArg some (by kernel_rfl))
  f20 := Tryz.func203.trans (congrArg some (by kernel_rfl))
  f30 := ⟨Tryz.f236.name, by decide, Tryz.func236.trans (congrArg some (by kernel_rfl))⟩
  f31 := Tryz.func230.trans (congrArg some (by kernel_rfl))
  f32 := Tryz.func231.trans (congrArg some (by kernel_rfl))
  f33 := ⟨Tryz.f237.name, by decide, Tryz.func237.trans (congrArg some (by kernel_rfl))⟩
  f34 := ⟨Tryz.f238.name, by decide, Tryz.func238.trans (congrArg some (by kernel_rfl))⟩
  f35 := ⟨Tryz.f239.name, by decide, Tryz.func239.trans (congrArg some (by kernel_rfl))⟩
  f40 := ⟨Tryz.f246.name, by decide, Tryz.func246.trans (congrArg some (by kernel_rfl))⟩
  t0 := Tryz.underlying0
  a0 := Tryz.isAgg0
  z0 := Tryz.sizeOf0
  v0 := Tryz.zeroValue0
  t3 := Tryz.underlying3
  a3 := Tryz.isAgg3
  z3 := Tryz.sizeOf3
  v3 := Tryz.zeroValue3
  t4 := Tryz.underlying4
  a4 := Tryz.isAgg4
  z4 := Tryz.sizeOf4
  v4 := Tryz.zeroValue4
  t5 := Tryz.underlying5
  a5 := Tryz.isAgg5
  z5 := Tryz.sizeOf5
  v5 := Tryz.zeroValue5
  t9 := Tryz.underlying9
  a9 := Tryz.isAgg9
  z9 := Tryz.sizeOf9
  v9 := Tryz.zeroValue9
  t22 := Tryz.underlying51
  a22 := Tryz.isAgg51
  z22 := Tryz.sizeOf51
  v22 := Tryz.zeroValue51
  t23 := Tryz.underlying51
  a23 := Tryz.isAgg51
  z23 := Tryz.sizeOf51
  v23 := Tryz.zeroValue51
  t25 := Tryz.underlying2
  a25 := Tryz.isAgg2
  z25 := Tryz.sizeOf2
  v25 := Tryz.zeroValue2
  t32 := Tryz.underlying80
  a32 := Tryz.isAgg80
  z32 := Tryz.sizeOf80
  v32 := Tryz.zeroValue80
  t35 := Tryz.underlying230
  a35 := Tryz.isAgg230
  z35 := Tryz.sizeOf230
  v35 := Tryz.zeroValue230
  t36 := Tryz.underlying231
  a36 := Tryz.isAgg231
  z36 := Tryz.sizeOf231
  v36 := Tryz.zeroValue231
  t41 := Tryz.underlying224
  a41 := Tryz.isAgg224
  z41 := Tryz.sizeOf224
  v41 := Tryz.zeroValue224
  t44 := Tryz.underlying238
  a44 := Tryz.isAgg238
  z44 := Tryz.sizeOf238
  v44 := Tryz.zeroValue238
  t46 := Tryz.underlying40
  a46 := Tryz.isAgg40
  z46 := Tryz.sizeOf40
  v46 := Tryz.zeroValue40
  t53 := Tryz.underlying257
  a53 := Tryz.isAgg257
  z53 := Tryz.sizeOf257
  v53 := Tryz.zeroValue257
  t57 := Tryz.underlying260
  a57 := Tryz.isAgg260
  z57 := Tryz.sizeOf260
  v57 := Tryz.zeroValue260
  t63 := Tryz.underlying265
  a63 := Tryz.isAgg265
  z63 := Tryz.sizeOf265
  v63 := Tryz.zeroValue265
  t64 := Tryz.underlying81
  a64 := Tryz.isAgg81
  z64 := Tryz.sizeOf81
  v64 := Tryz.zeroValue81 }
open Go.Sort Go.RowKit in
theorem Tryz.slices_Sort_int (blk off cap : Nat) (zs : List Int) (w : World) (hH : Holds (Value.int .i64) w blk off zs.toArray) (hblk : blk < w.heap.size) (hsz : zs.length < 4611686018427387904) :
    Calls Tryz.prog 109 #[.slice (some ⟨blk, off, none⟩) zs.length cap] w fun e w' =>
      e = .returned (.tuple #[]) ∧ ∃ n os, w' = grow (putRow (Value.int .i64) (Sort.ahead w n) blk off (zs.mergeSort fun x y => decide (x ≤ y)).toArray) os := AnyM.slices_Sort_int Tryz.laysSlM5_f109 blk off cap zs w hH hblk hsz
def Tryz.laysSlM6_f103_ren : Go.Shelf.Ren := ⟨fun | 6 => 103 | 8 => 155 | 9 => 154 | 19 => 202 | 20 => 203 | 21 => 193 | 22 => 194 | 23 => 195 | 24 => 196 | 25 => 197 | 26 => 198 | 27 => 199 | 28 => 200 | 29 => 201 | 36 => 229 | 31 => 230 | 32 => 231 | 37 => 232 | 38 => 233 | 39 => 234 | 41 => 245 | n => n, fun | 27 => 58 | 29 => 9 | 3 => 3 | 32 => 80 | 26 => 58 | 0 => 0 | 44 => 238 | 46 => 40 | 4 => 4 | 36 => 231 | 35 => 230 | 41 => 224 | 5 => 5 | 9 => 9 | 53 => 257 | 57 => 260 | 63 => 265 | 64 => 81 | n => n, fun | n => n⟩
theorem Tryz.laysSlM6_f103 : Go.Proofs.SlLaysM.n6 Tryz.prog Tryz.laysSlM6_f103_ren := {
  mixed := by kernel_rfl
  f6 := ⟨Tryz.f103.name, by decide, Tryz.func103.trans (congrArg some (by kernel_rfl))⟩
  f8 := Tryz.func155.trans (congrArg some (by kernel_rfl))
  f9 := ⟨Tryz.f154.name, by decide, Tryz.func154.trans (congrArg some (by kernel_rfl))⟩
  f19 := Tryz.func202.trans (congrArg some (by kernel_rfl))
  f20 := Tryz.func203.trans (congrArg some (by kernel_rfl))
  f21 := ⟨Tryz.f193.name, by decide, Tryz.func193.trans (congrArg some (by kernel_rfl))⟩
  f22 := ⟨Tryz.f194.name, by decide, Tryz.func194.trans (congrArg some (by kernel_rfl))⟩
  f23 := ⟨Tryz.f195.name, by decide, Tryz.func195.trans (congrArg some (by kernel_rfl))⟩
  f24 := ⟨Tryz.f196.name, by decide, Tryz.func196.trans (congrArg some (by kernel_rfl))⟩
  f25 := ⟨Tryz.f197.name, by decide, Tryz.func197.trans (congrArg some (by kernel_rfl))⟩
  f26 := ⟨Tryz.f198.name, by decide, Tryz.func198.trans (congrArg some (by kernel_rfl))⟩
  f27 := ⟨Tryz.f199.name, by decide, Tryz.func199.trans (congrArg some (by kernel_rfl))⟩
  f28 := ⟨Tryz.f200.name, by decide, Tryz.func200.trans (congrArg some (by kernel_rfl))⟩
  f29 := ⟨Tryz.f201.name, by decide, Tryz.func201.trans (congrArg some (by kernel_rfl))⟩
  f31 := Tryz.func230.trans (congrArg some (by kernel_rfl))
  f32 := Tryz.func231.trans (congrArg some (by kernel_rfl))
  f36 := ⟨Tryz.f229.name, by decide, Tryz.func229.trans (congrArg some (by kernel_rfl))⟩
  f37 := ⟨Tryz.f232.name, by decide, Tryz.func232.trans (congrArg some (by kernel_rfl))⟩
  f38 := ⟨Tryz.f233.name, by decide, Tryz.func233.trans (congrArg some (by kernel_rfl))⟩
  f39 := ⟨Tryz.f234.name, by decide, Tryz.func234.trans (congrArg some (by kernel_rfl))⟩
  f41 := ⟨Tryz.f245.name, by decide, Tryz.func245.trans (congrArg some (by kernel_rfl))⟩
  t0 := Tryz.underlying0
  a0 := Tryz.isAgg0
  z0 := Tryz.sizeOf0
  v0 := Tryz.zeroValue0
  t3 := Tryz.underlying3
  a3 := Tryz.isAgg3
  z3 := Tryz.sizeOf3
  v3 := Tryz.zeroValue3
  t4 := Tryz.underlying4
  a4 := Tryz.isAgg4
  z4 := Tryz.sizeOf4
  v4 := Tryz.zeroValue4
  t5 := Tryz.underlying5
  a5 := Tryz.isAgg5
  z5 := Tryz.sizeOf5
  v5 := Tryz.zeroValue5
  t9 := Tryz.underlying9
  a9 := Tryz.isAgg9
  z9 := Tryz.sizeOf9
  v9 := Tryz.zeroValue9
  t26 := Tryz.underlying58
  a26 := Tryz.isAgg58
  z26 := Tryz.sizeOf58
  v26 := Tryz.zeroValue58
  t27 := Tryz.underlying58
  a27 := Tryz.isAgg58
  z27 := Tryz.sizeOf58
  v27 := Tryz.zeroValue58
  t29 := Tryz.underlying9
  a29 := Tryz.isAgg9
  z29 := Tryz.sizeOf9
  v29 := Tryz.zeroValue9
  t32 := Tryz.underlying80
  a32 := Tryz.isAgg80
  z32 := Tryz.sizeOf80
  v32 := Tryz.zeroValue80
  t35 := Tryz.underlying230
  a35 := Tryz.isAgg230
  z35 := Tryz.sizeOf230
  v35 := Tryz.zeroValue230
  t36 := Tryz.underlying231
  a36 := Tryz.isAgg231
  z36 := Tryz.sizeOf231
  v36 := Tryz.zeroValue231
  t41 := Tryz.underlying224
  a41 := Tryz.isAgg224
  z41 := Tryz.sizeOf224
  v41 := Tryz.zeroValue224
  t44 := Tryz.underlying238
  a44 := Tryz.isAgg238
  z44 := Tryz.sizeOf238
  v44 := Tryz.zeroValue238
  t46 := Tryz.underlying40
  a46 := Tryz.isAgg40
  z46 := Tryz.sizeOf40
  v46 := Tryz.zeroValue40
  t53 := Tryz.underlying257
  a53 := Tryz.isAgg257
  z53 := Tryz.sizeOf257
  v53 := Tryz.zeroValue257
  t57 := Tryz.underlying260
  a57 := Tryz.isAgg260
  z57 := Tryz.sizeOf260
  v57 := Tryz.zeroValue260
  t63 := Tryz.underlying265
  a63 := Tryz.isAgg265
  z63 := Tryz.sizeOf265
  v63 := Tryz.zeroValue265
  t64 := Tryz.underlying81
  a64 := Tryz.isAgg81
  z64 := Tryz.sizeOf81
  v64 := Tryz.zeroValue81 }
open Go.Sort Go.RowKit in
theorem Tryz.slices_Sort_string (blk off cap : Nat) (ss : List (List UInt8)) (w : World) (hH : Holds encStr w blk off ss.toArray) (hblk : blk < w.heap.size) (hsz : ss.length < 4611686018427387904) :
    Calls Tryz.prog 103 #[.slice (some ⟨blk, off, none⟩) ss.length cap] w fun e w' =>
      e = .returned (.tuple #[]) ∧ ∃ n os, w' = grow (putRow encStr (Sort.ahead w n) blk off (ss.mergeSort fun x y => decide (x ≤ y)).toArray) os := AnyM.slices_Sort_string Tryz.laysSlM6_f103 blk off cap ss w hH hblk hsz
open Go.RowKit Go.Sort in
theorem Tryz.slices_Sort_string_none (p : Option Addr) (cap : Nat) (w : World) :
    Calls Tryz.prog 103 #[.slice p 0 cap] w fun e w' => e = .returned (.tuple #[]) ∧ w' = w := AnyM.slices_Sort_string_none Tryz.laysSlM6_f103 p cap w
open Go.RowKit Go.Sort in
theorem Tryz.slices_Sort_int_none (p : Option Addr) (cap : Nat) (w : World) :
    Calls Tryz.prog 109 #[.slice p 0 cap] w fun e w' => e = .returned (.tuple #[]) ∧ w' = w := AnyM.slices_Sort_int_none Tryz.laysSlM5_f109 p cap w
end Go.Proofs

/- The library's Clone, Sort and Compact, over numbers and over strings, as they bear upon a list that the call owns. -/
set_option linter.unusedVariables false
set_option linter.unusedSimpArgs false
set_option linter.unnecessarySimpa false
set_option maxRecDepth 100000
namespace Go.Proofs.YthonbfojpbfmgaaGreatDoor
open Go.RowKit Go.Sort

theorem owns_pos {w : World} {B : Nat} {e : TypeId} {v : Value} {n : Nat} {cs : List Value} (h : w.ownsRow B e 1 v n cs) (h0 : 0 < n) : v ≠ .slice none 0 0 := by
  rintro rfl
  obtain ⟨A, c, h1, h2, _, _⟩ := owns_form h
  injection h1 with h3 h4 h5
  omega
theorem CloneI_any (xs : List Int) (u : Value) (w : World) (hu : Rd w u xs.length 1 (i64s xs)) (hl : xs.length ≤ 1048576) :
    Calls Tryz.prog 227 #[u] w fun e w' => ∃ v', e = .returned v' ∧ w'.ownsRow w.heap.size 2 1 v' xs.length (i64s xs) ∧ Below w.heap.size w w' := by
  obtain ⟨A1, c1, rfl, _, _, _⟩ := hu.form
  by_cases h0 : 0 < xs.length
  · obtain ⟨b, o, rfl, hs⟩ := hu.atI h0
    have h := Tryz.slices_Clone_int b o xs.length c1 xs w (Nat.le_refl _) (by omega) hs
    rw [List.take_length] at h
    refine h.mono ?_
    rintro e w' ⟨v', rfl, h1, h2, h3⟩
    exact ⟨v', rfl, h1, h3⟩
  · obtain rfl : xs = [] := List.eq_nil_of_length_eq_zero (by omega)
    cases A1 with
    | none =>
      refine (Tryz.slices_Clone_int_nil 0 c1 w).mono ?_
      rintro e w' ⟨rfl, rfl⟩
      exact ⟨_, rfl, World.ownsRow_nil _ _ _ _, brefl w'⟩
    | some a =>
      refine (Tryz.slices_Clone_int_zero a c1 w).mono ?_
      rintro e w' ⟨v', rfl, h1, h2, h3⟩
      exact ⟨v', rfl, h1, h3⟩
theorem CloneS_any (xs : List ByteArray) (u : Value) (w : World) (hu : Rd w u xs.length 1 (strs xs)) (hl : xs.length ≤ 1048576) :
    Calls Tryz.prog 220 #[u] w fun e w' => ∃ v', e = .returned v' ∧ w'.ownsRow w.heap.size 9 1 v' xs.length (strs xs) ∧ Below w.heap.size w w' := by
  obtain ⟨A1, c1, rfl, _, _, _⟩ := hu.form
  by_cases h0 : 0 < xs.length
  · obtain ⟨b, o, rfl, hs⟩ := hu.atS h0
    have h := Tryz.slices_Clone_string b o xs.length c1 xs w (Nat.le_refl _) (by omega) hs
    rw [List.take_length] at h
    refine h.mono ?_
    rintro e w' ⟨v', rfl, h1, h2, h3⟩
    exact ⟨v', rfl, h1, h3⟩
  · obtain rfl : xs = [] := List.eq_nil_of_length_eq_zero (by omega)
    cases A1 with
    | none =>
      refine (Tryz.slices_Clone_string_nil 0 c1 w).mono ?_
      rintro e w' ⟨rfl, rfl⟩
      exact ⟨_, rfl, World.ownsRow_nil _ _ _ _, brefl w'⟩
    | some a =>
      refine (Tryz.slices_Clone_string_zero a c1 w).mono ?_
      rintro e w' ⟨v', rfl, h1, h2, h3⟩
      exact ⟨v', rfl, h1, h3⟩
theorem SortI_any (B : Nat) (xs : List Int) (u : Value) (w : World) (hu : w.ownsRow B 2 1 u xs.length (i64s xs)) (hB : B ≤ w.heap.size) (hl : xs.length ≤ 1048576) :
    Calls Tryz.prog 109 #[u] w fun e w' => e = .returned (.tuple #[]) ∧ w'.ownsRow B 2 1 u (xs.mergeSort fun x y => decide (x ≤ y)).length (i64s (xs.mergeSort fun x y => decide (x ≤ y))) ∧ Below B w w' := by
  have hlm : (xs.mergeSort fun x y => decide (x ≤ y)).length = xs.length := List.length_mergeSort xs
  by_cases h0 : 0 < xs.length
  · obtain ⟨g, cap, rfl, hbg, hgl, hncap, hcm, hlen, hH⟩ := Lib.holds_of_ownsRow (enc := Value.int .i64) hu (owns_pos hu h0)
    refine (Tryz.slices_Sort_int g 0 cap xs w hH hgl (by omega)).mono ?_
    rintro e w' ⟨rfl, n, os, rfl⟩
    refine ⟨rfl, ?_, (Below.refl B w).grown (grownBy_sortedI _) hB (fun j hj => by cases hj; exact hbg)⟩
    rcases hu.2 with ⟨h1, _⟩ | ⟨g', cap', cur, hv, hbase, hb, h1, h2, h3, h4⟩
    · cases h1
    · injection hv with e1 _ e3
      injection e1 with e1
      injection e1 with e1
      subst e1; subst e3
      rw [hlm]
      exact ownsRow_sortedI hlm hbase hb h1 h2 h3
  · obtain rfl : xs = [] := List.eq_nil_of_length_eq_zero (by omega)
    obtain ⟨A, c, rfl, _⟩ := owns_form hu
    refine (Tryz.slices_Sort_int_none A c w).mono ?_
    rintro e w' ⟨rfl, rfl⟩
    exact ⟨rfl, by simpa using hu, Below.refl _ _⟩
theorem SortS_any (B : Nat) (xs : List (List UInt8)) (u : Value) (w : World) (hu : w.ownsRow B 9 1 u xs.length (xs.map encStr)) (hB : B ≤ w.heap.size) (hl : xs.length ≤ 1048576) :
    Calls Tryz.prog 103 #[u] w fun e w' => e = .returned (.tuple #[]) ∧ w'.ownsRow B 9 1 u (xs.mergeSort fun x y => decide (x ≤ y)).length ((xs.mergeSort fun x y => decide (x ≤ y)).map encStr) ∧ Below B w w' := by
  have hlm : (xs.mergeSort fun x y => decide (x ≤ y)).length = xs.length := List.length_mergeSort xs
  by_cases h0 : 0 < xs.length
  · obtain ⟨g, cap, rfl, hbg, hgl, hncap, hcm, hlen, hH⟩ := Lib.holds_of_ownsRow (enc := encStr) hu (owns_pos hu h0)
    refine (Tryz.slices_Sort_string g 0 cap xs w hH hgl (by omega)).mono ?_
    rintro e w' ⟨rfl, n, os, rfl⟩
    refine ⟨rfl, ?_, (Below.refl B w).grown (grownBy_sorted _) hB (fun j hj => by cases hj; exact hbg)⟩
    rcases hu.2 with ⟨h1, _⟩ | ⟨g', cap', cur, hv, hbase, hb, h1, h2, h3, h4⟩
    · cases h1
    · injection hv with e1 _ e3
      injection e1 with e1
      injection e1 with e1
      subst e1; subst e3
      rw [hlm]
      exact ownsRow_sorted hlm hbase hb h1 h2 h3
  · obtain rfl : xs = [] := List.eq_nil_of_length_eq_zero (by omega)
    obtain ⟨A, c, rfl, _⟩ := owns_form hu
    refine (Tryz.slices_Sort_string_none A c w).mono ?_
    rintro e w' ⟨rfl, rfl⟩
    exact ⟨rfl, by simpa using hu, Below.refl _ _⟩
theorem CompactI_any (B : Nat) (xs : List Int) (u : Value) (w : World) (hu : w.ownsRow B 2 1 u xs.length (i64s xs)) (hB : B ≤ w.heap.size) (hl : xs.length ≤ 1048576) :
    Calls Tryz.prog 110 #[u] w fun e w' => ∃ v', e = .returned v' ∧ w'.ownsRow B 2 1 v' (Lib.compact xs).length (i64s (Lib.compact xs)) ∧ Below B w w' := by
  have hle := Lib.compact_length_le xs
  by_cases h0 : 0 < xs.length
  · obtain ⟨g, cap, rfl, hbg, hgl, hncap, hcm, hlen, hH⟩ := Lib.holds_of_ownsRow (enc := Value.int .i64) hu (owns_pos hu h0)
    refine (Tryz.slices_Compact_int g 0 cap xs w hH (by omega) (by omega)).mono ?_
    rintro e w' ⟨rfl, q, rfl⟩
    refine ⟨_, rfl, ?_, Lib.below_putRow (Below.refl B w) hbg⟩
    have hc := Lib.ownsRow_putRow (q := q) (k := (Lib.compact xs).length) (ys := Lib.compact xs ++ List.replicate (xs.length - (Lib.compact xs).length) 0) (enc := Value.int .i64) hu (by simp; omega) hle
    rw [List.take_left] at hc
    exact hc
  · obtain rfl : xs = [] := List.eq_nil_of_length_eq_zero (by omega)
    obtain ⟨A, c, rfl, _⟩ := owns_form hu
    refine (Tryz.slices_Compact_int_empty A c w).mono ?_
    rintro e w' ⟨rfl, rfl⟩
    exact ⟨_, rfl, hu, Below.refl _ _⟩
theorem CompactS_any (B : Nat) (xs : List (List UInt8)) (u : Value) (w : World) (hu : w.ownsRow B 9 1 u xs.length (xs.map encStr)) (hB : B ≤ w.heap.size) (hl : xs.length ≤ 1048576) :
    Calls Tryz.prog 104 #[u] w fun e w' => ∃ v', e = .returned v' ∧ w'.ownsRow B 9 1 v' (Lib.compact xs).length ((Lib.compact xs).map encStr) ∧ Below B w w' := by
  have hle := Lib.compact_length_le xs
  by_cases h0 : 0 < xs.length
  · obtain ⟨g, cap, rfl, hbg, hgl, hncap, hcm, hlen, hH⟩ := Lib.holds_of_ownsRow (enc := encStr) hu (owns_pos hu h0)
    refine (Tryz.slices_Compact_string g 0 cap xs w hH (by omega) (by omega)).mono ?_
    rintro e w' ⟨rfl, q, rfl⟩
    refine ⟨_, rfl, ?_, Lib.below_putRow (Below.refl B w) hbg⟩
    have hc := Lib.ownsRow_putRow (q := q) (k := (Lib.compact xs).length) (ys := Lib.compact xs ++ List.replicate (xs.length - (Lib.compact xs).length) []) (enc := encStr) hu (by simp; omega) hle
    rw [List.take_left] at hc
    exact hc
  · obtain rfl : xs = [] := List.eq_nil_of_length_eq_zero (by omega)
    obtain ⟨A, c, rfl, _⟩ := owns_form hu
    refine (Tryz.slices_Compact_string_empty A c w).mono ?_
    rintro e w' ⟨rfl, rfl⟩
    exact ⟨_, rfl, hu, Below.refl _ _⟩
theorem strs_enc (ss : List ByteArray) : (ss.map (·.data.toList)).map encStr = strs ss := Lib.map_encStr ss
theorem strs_dict (ss : List ByteArray) : (Lib.compact ((ss.map (·.data.toList)).mergeSort fun x y => decide (x ≤ y))).map encStr = strs (dictS ss) := by
  unfold dictS strs
  rw [List.map_map]; rfl
/-- Clone, Sort and Compact one behind the other: what stands ahead of the loop of dictPayload -/
theorem dictS_le (ss : List ByteArray) : (dictS ss).length ≤ ss.length := by
  unfold dictS
  rw [List.length_map]
  refine Nat.le_trans (Lib.compact_length_le _) ?_
  rw [List.length_mergeSort, List.length_map]; exact Nat.le_refl _
theorem dictI_le (xs : List Int) : (dictI xs).length ≤ xs.length := by
  unfold dictI
  refine Nat.le_trans (Lib.compact_length_le _) ?_
  rw [List.length_mergeSort]; exact Nat.le_refl _
end Go.Proofs.YthonbfojpbfmgaaGreatDoor

/- Package codec: runs of integers put into bytes. -/
set_option linter.unusedVariables false
set_option linter.unusedSimpArgs false
set_option linter.unnecessarySimpa false
set_option maxRecDepth 100000
namespace Go.Proofs.YthonbfojpbfmgaaGreatDoor
open Go.RowKit

theorem m_Append_I : ∀ w : World, (method 386 68 (.agg #[]) "AppendList").run Tryz.prog w = .ok (270, .agg #[]) w := fun _ => by kernel_rfl
theorem ordS_refl0 : ordS ByteArray.empty ByteArray.empty = 0 := by decide +kernel
theorem eqP_pI (x y : Int) : eqP (pI x) (pI y) = decide (x = y) := by
  unfold eqP ordP pI
  simp only [ordS_refl0]
  by_cases h1 : x < y
  · rw [if_pos h1]; have : ¬ x = y := by omega
    simp [this]
  · rw [if_neg h1]
    by_cases h2 : y < x
    · rw [if_pos h2]; have : ¬ x = y := by omega
      simp [this]
    · rw [if_neg h2]; have : x = y := by omega
      simp [this]
theorem pI_get (xs : List Int) (t : Nat) (h : t < xs.length) : (xs.map pI).getD t dfP = pI (xs.getD t 0) := by
  simp [List.getD, List.getElem?_eq_getElem h]
theorem endAt_I (xs : List Int) (t : Nat) (h : t + 1 < xs.length) : endAt (xs.map pI) t = !decide (xs.getD t 0 = xs.getD (t + 1) 0) := by
  unfold endAt
  rw [pI_get xs t (by omega), pI_get xs (t + 1) h, eqP_pI, List.length_map, decide_eq_false (by omega), Bool.false_or]
theorem endAt_last (vs : List PV) (t : Nat) (h : t + 1 = vs.length) : endAt vs t = true := by
  unfold endAt; rw [decide_eq_true h, Bool.true_or]
theorem textB_heads (xs : List Int) : textB ((runHeads (xs.map pI) xs.length).map Prod.snd) = [] := by
  unfold textB runHeads
  rw [List.flatMap_eq_nil_iff]
  intro s hs
  simp only [List.map_map, List.mem_map, Function.comp] at hs
  obtain ⟨i, hi, rfl⟩ := hs
  simp only [endIx, List.mem_filter, List.mem_range] at hi
  rw [pI_get xs i hi.1]
  rfl
set_option maxHeartbeats 8000000 in
theorem runsPayloadI_any (xs : List Int) (u : Value) (w : World) (hu : Rd w u xs.length 1 (i64s xs)) (hl : xs.length ≤ 1048576) :
    Calls Tryz.prog 181 #[.iface 68 (.agg #[]), u] w fun e w' => ∃ r, e = .returned r ∧ OwnB w.heap.size w' r (runsB 1 (xs.map pI)) ∧ Below w.heap.size w w' := by
  have HU := hid hu
  obtain ⟨A1, c1, rfl, _, _, _⟩ := hu.form
  have HRR : Hid (runsB 1 (xs.map pI) = leN 4 (runEndsL (xs.map pI) xs.length).length ++ le4 ((runEndsL (xs.map pI) xs.length).map Int.ofNat) ++ le8I ((runHeads (xs.map pI) xs.length).map Prod.fst)) := hid (by
    unfold runsB listB headB
    rw [List.length_map, textB_heads, if_pos rfl, List.append_nil]
    congr 2
    simp [le4, le4N, List.flatMap_map])
  generalize runsB 1 (xs.map pI) = R at *
  obtain ⟨n, hn⟩ : ∃ n, xs.length = n := ⟨_, rfl⟩
  have HN := hid hn
  simp only [hn] at HU HRR hl
  clear hu
  simp only [hn]
  have HVN : Hid ((xs.map pI).length = n) := hid (by rw [List.length_map]; exact hn)
  clear hn
  go_enter Tryz.func181, Tryz.ntmps181
  go_wp2_with fail
  go_loopw [5, 6, 12] (fun ev fv i wr => ∃ t : Nat, t ≤ n ∧ i = .int .i64 t ∧ Hid (wr.ownsRow w.heap.size 3 1 ev (runEndsL (xs.map pI) t).length (i64s ((runEndsL (xs.map pI) t).map Int.ofNat))) ∧ Hid (wr.ownsRow w.heap.size 2 1 fv (runEndsL (xs.map pI) t).length (i64s ((runHeads (xs.map pI) t).map Prod.fst))) ∧ Hid (Apart ev fv) ∧ Hid (Below w.heap.size w wr)) (fun _ _ i _ => n - (intOf i).toNat)
  case atStart => exact ⟨0, by omega, rfl, hid (World.ownsRow_nil _ _ _ _), hid (World.ownsRow_nil _ _ _ _), hid (fun k h => by cases h), hid (brefl w)⟩
  case round =>
    obtain ⟨t, ht, rfl, HE, HF, HAP, HB⟩ := hrel
    by_cases hlt : t < n
    · obtain ⟨b, o, rfl, hcells⟩ := (HU.out.mono HB.out).atI (by omega)
      have l0 := hcells t (by rw [HN.out]; exact hlt)
      have HC := hid hcells
      clear hcells
      have HSE := hid (runEndsL_succ (xs.map pI) t)
      have HSF := hid (runHeads_succ (xs.map pI) t)
      rw [pI_get xs t (by rw [HN.out]; exact hlt)] at HSF
      have HML := hid (runEndsL_len (xs.map pI) t)
      have HEA := hid (fun (h : t + 1 < n) => endAt_I xs t (by rw [HN.out]; exact h))
      have HEL := hid (fun (h : t + 1 = n) => endAt_last (xs.map pI) t (by rw [HVN.out]; exact h))
      generalize xs.getD t 0 = x at *
      generalize runEndsL (xs.map pI) t = es at *
      generalize runHeads (xs.map pI) t = hs at *
      obtain ⟨m, hm⟩ : ∃ m, es.length = m := ⟨_, rfl⟩
      have HM := hid hm
      simp only [hm] at HE HF HML
      have hm9 : m ≤ 1048576 := by have := HML.out; omega
      clear hm
      obtain ⟨E1, ce1, rfl, _⟩ := owns_form HE.out
      obtain ⟨F1, cf1, rfl, _⟩ := owns_form HF.out
      have HSZ := hid HB.out.size
      have hlast : t + 1 = n ∨ t + 1 < n := by omega
      by_cases hend : endAt (xs.map pI) t = true
      · have HEN := hid hend
        have hg : ((t : Int) + 1 == (n : Int)) = true ∨ (t + 1 < n ∧ ∃ y, xs.getD (t + 1) 0 = y ∧ y ≠ x) := by
          rcases hlast with h | h
          · exact .inl (by simp; omega)
          · refine .inr ⟨h, _, rfl, ?_⟩
            have h2 := HEA.out h
            rw [hend] at h2
            intro h3
            rw [h3] at h2
            simp at h2
        clear hend
        rcases hg with i0 | ⟨h1, y, hy, hyx⟩
        · go_upto_region 8 with (at_builtin; refine wpList_append1W rfl (.tmp 31) (.tmp 34) rfl 3 (.int .i64 0) 8 Tryz.underlying92 Tryz.infoI64 rfl rfl rfl HE.out HSZ.out (by rfl) (by unfold maxLen; omega) (by omega) ?_; intro v5 w5 ho5 hb5 hz5 hk5 hw5)
          have HO5 := hid ho5
          have HB5 := hid hb5
          have HZ5 := hid hz5
          have HK5 := hid (show Kp _ wr w5 v5 from ⟨hk5, fun k hk => by
            rcases hw5 with h | h
            · exact .inl (by rw [← h]; exact hk.symm)
            · exact .inr (h.1 k hk)⟩)
          clear ho5 hb5 hz5 hk5 hw5
          have HF5 := hid (owns_kp HF.out HK5.out HAP.out)
          have HAP5 := hid (HAP.out.left HK5.out (fun k hk => (HF.out.lt k hk).2))
          have HS5 := hid (Nat.le_trans HSZ.out HZ5.out)
          obtain ⟨E2, ce2, rfl, _⟩ := owns_form HO5.out
          go_wp2_with (at_builtin; refine wpList_append1W rfl (.tmp 36) (.tmp 38) rfl 2 (.int .i64 0) 8 Tryz.underlying51 Tryz.info64 rfl rfl rfl HF5.out HS5.out (by rfl) (by unfold maxLen; omega) (by omega) ?_; intro v6 w6 ho6 hb6 hz6 hk6 hw6)
          have HO6 := hid ho6
          have HB6 := hid hb6
          have HK6 := hid (show Kp _ w5 w6 v6 from ⟨hk6, fun k hk => by
            rcases hw6 with h | h
            · exact .inl (by rw [← h]; exact hk.symm)
            · exact .inr (h.1 k hk)⟩)
          clear ho6 hb6 hz6 hk6 hw6
          have HE6 := hid (owns_kp HO5.out HK6.out HAP5.out.symm)
          have HAP6 := hid (HAP5.out.right HK6.out (fun k hk => (HO5.out.lt k hk).2))
          go_roundw
          case rel =>
            have G1 : Hid ((runEndsL (xs.map pI) (t + 1)).length = m + 1) := hid (by rw [HSE.out, if_pos HEN.out, List.length_append, HM.out]; rfl)
            have G2 : Hid (i64s ((runEndsL (xs.map pI) (t + 1)).map Int.ofNat) = i64s (es.map Int.ofNat) ++ [.int .i64 ((t : Int) + 1)]) := hid (by rw [HSE.out, if_pos HEN.out, List.map_append, i64s_append]; rfl)
            have G3 : Hid (i64s ((runHeads (xs.map pI) (t + 1)).map Prod.fst) = i64s (hs.map Prod.fst) ++ [.int .i64 x]) := hid (by rw [HSF.out, if_pos HEN.out, List.map_append, i64s_append]; rfl)
            exact ⟨t + 1, by omega, by go_num, hid (by rw [G1.out, G2.out]; exact HE6.out), hid (by rw [G1.out, G3.out]; exact HO6.out), HAP6, hid (HB.out.trans (HB5.out.trans HB6.out))⟩
          case measure => simp [intOf]; omega
        · have l1 := HC.out (t + 1) (by rw [HN.out]; exact h1)
          rw [hy] at l1
          have iw : IntKind.i64.wrap ((t : Int) + 1) = (t : Int) + 1 := by rw [IntKind.wrap_i64]; omega
          have ig1 : (0 : Int) ≤ (t : Int) + 1 := by omega
          have ig2 : (t : Int) + 1 < (n : Int) := by omega
          have i0 : ((t : Int) + 1 == (n : Int)) = false := by simp; omega
          have iy : (y != x) = true := by simp [hyx]
          clear hy
          go_upto_region 8 with (at_builtin; refine wpList_append1W rfl (.tmp 31) (.tmp 34) rfl 3 (.int .i64 0) 8 Tryz.underlying92 Tryz.infoI64 rfl rfl rfl HE.out HSZ.out (by rfl) (by unfold maxLen; omega) (by omega) ?_; intro v5 w5 ho5 hb5 hz5 hk5 hw5)
          have HO5 := hid ho5
          have HB5 := hid hb5
          have HZ5 := hid hz5
          have HK5 := hid (show Kp _ wr w5 v5 from ⟨hk5, fun k hk => by
            rcases hw5 with h | h
            · exact .inl (by rw [← h]; exact hk.symm)
            · exact .inr (h.1 k hk)⟩)
          clear ho5 hb5 hz5 hk5 hw5
          have HF5 := hid (owns_kp HF.out HK5.out HAP.out)
          have HAP5 := hid (HAP.out.left HK5.out (fun k hk => (HF.out.lt k hk).2))
          have HS5 := hid (Nat.le_trans HSZ.out HZ5.out)
          obtain ⟨E2, ce2, rfl, _⟩ := owns_form HO5.out
          go_wp2_with (at_builtin; refine wpList_append1W rfl (.tmp 36) (.tmp 38) rfl 2 (.int .i64 0) 8 Tryz.underlying51 Tryz.info64 rfl rfl rfl HF5.out HS5.out (by rfl) (by unfold maxLen; omega) (by omega) ?_; intro v6 w6 ho6 hb6 hz6 hk6 hw6)
          have HO6 := hid ho6
          have HB6 := hid hb6
          have HK6 := hid (show Kp _ w5 w6 v6 from ⟨hk6, fun k hk => by
            rcases hw6 with h | h
            · exact .inl (by rw [← h]; exact hk.symm)
            · exact .inr (h.1 k hk)⟩)
          clear ho6 hb6 hz6 hk6 hw6
          have HE6 := hid (owns_kp HO5.out HK6.out HAP5.out.symm)
          have HAP6 := hid (HAP5.out.right HK6.out (fun k hk => (HO5.out.lt k hk).2))
          go_roundw
          case rel =>
            have G1 : Hid ((runEndsL (xs.map pI) (t + 1)).length = m + 1) := hid (by rw [HSE.out, if_pos HEN.out, List.length_append, HM.out]; rfl)
            have G2 : Hid (i64s ((runEndsL (xs.map pI) (t + 1)).map Int.ofNat) = i64s (es.map Int.ofNat) ++ [.int .i64 ((t : Int) + 1)]) := hid (by rw [HSE.out, if_pos HEN.out, List.map_append, i64s_append]; rfl)
            have G3 : Hid (i64s ((runHeads (xs.map pI) (t + 1)).map Prod.fst) = i64s (hs.map Prod.fst) ++ [.int .i64 x]) := hid (by rw [HSF.out, if_pos HEN.out, List.map_append, i64s_append]; rfl)
            exact ⟨t + 1, by omega, by go_num, hid (by rw [G1.out, G2.out]; exact HE6.out), hid (by rw [G1.out, G3.out]; exact HO6.out), HAP6, hid (HB.out.trans (HB5.out.trans HB6.out))⟩
          case measure => simp [intOf]; omega
      · have HEN := hid hend
        have h1 : t + 1 < n := by
          rcases hlast with h | h
          · exact absurd (HEL.out h) hend
          · exact h
        obtain ⟨y, hy, hyx⟩ : ∃ y, xs.getD (t + 1) 0 = y ∧ y = x := by
          refine ⟨_, rfl, ?_⟩
          have h2 := HEA.out h1
          rw [Bool.eq_false_iff.2 hend] at h2
          simp at h2
          exact h2.symm
        clear hend
        have l1 := HC.out (t + 1) (by rw [HN.out]; exact h1)
        rw [hy] at l1
        have iw : IntKind.i64.wrap ((t : Int) + 1) = (t : Int) + 1 := by rw [IntKind.wrap_i64]; omega
        have ig1 : (0 : Int) ≤ (t : Int) + 1 := by omega
        have ig2 : (t : Int) + 1 < (n : Int) := by omega
        have i0 : ((t : Int) + 1 == (n : Int)) = false := by simp; omega
        have iy : (y != x) = false := by simp [hyx]
        clear hy
        go_wp2_with fail
        go_roundw
        case rel => exact ⟨t + 1, by omega, by go_num, hid (by rw [HSE.out, if_neg HEN.out, HM.out]; exact HE.out), hid (by rw [HSE.out, HSF.out, if_neg HEN.out, if_neg HEN.out, HM.out]; exact HF.out), HAP, HB⟩
        case measure => simp [intOf]; omega
    · obtain rfl : t = n := by omega
      have HML := hid (runEndsL_len (xs.map pI) t)
      have HMX := hid (runEndsL_lt (xs.map pI) t)
      have HHL := hid (runHeads_len (xs.map pI) t)
      generalize runEndsL (xs.map pI) t = es at *
      generalize runHeads (xs.map pI) t = hs at *
      obtain ⟨m, hm⟩ : ∃ m, es.length = m := ⟨_, rfl⟩
      have HM := hid hm
      simp only [hm] at HE HF HML HHL HRR
      have hm9 : m ≤ 1048576 := by have := HML.out; omega
      clear hm
      obtain ⟨E1, ce1, rfl, _⟩ := owns_form HE.out
      obtain ⟨F1, cf1, rfl, _⟩ := owns_form HF.out
      have HE' := hid (owns_rd HE.out)
      have HF' := hid (owns_rd HF.out)
      have HN0 := hid (AppendU32_any wr.heap.size (.slice none 0 0) [] m wr (OwnB.nil _ _) (Nat.le_refl _) (by omega) (by simp))
      rw [List.nil_append] at HN0
      have HHH : Hid ((leN 4 m).length = 4) := hid (leN_length 4 m)
      have HLE : Hid ((es.map Int.ofNat).length = m) := hid (by rw [List.length_map]; exact HM.out)
      have HLF : Hid ((hs.map Prod.fst).length = m) := hid (by rw [List.length_map]; exact HHL.out)
      have HXV : Hid (∀ x ∈ es.map Int.ofNat, 0 ≤ x ∧ x < 4294967296) := hid (by
        intro x hx
        obtain ⟨y, hy, rfl⟩ := List.mem_map.1 hx
        have := HMX.out y hy
        exact ⟨Int.natCast_nonneg _, by have h : Int.ofNat y = (y : Int) := rfl; omega⟩)
      clear HE HF HAP HU HMX HHL HM
      generalize es.map Int.ofNat = eI at *
      generalize hs.map Prod.fst = hI at *
      generalize leN 4 m = hd at *
      have HPE := hid (fun (A3 : Option Addr) (c3 : Nat) (w3 : World) (h1 : OwnB wr.heap.size w3 (.slice A3 hd.length c3) hd) (h2 : Below wr.heap.size wr w3) => AppendU32s_any wr.heap.size (.slice A3 hd.length c3) (.slice E1 m ce1) hd eI w3 h1 (Stay.low (by rw [HLE.out]; exact HE'.out) h2 (Nat.le_refl _)) HXV.out h2.size (by rw [HHH.out]; omega) (by rw [HLE.out]; omega))
      have HBL : Hid ((hd ++ le4 eI).length = 4 + 4 * m) := hid (by rw [List.length_append, HHH.out, le4_len, HLE.out])
      generalize hd ++ le4 eI = bs at *
      have HPL := hid (fun (A3 : Option Addr) (c3 : Nat) (w3 : World) (h1 : OwnB wr.heap.size w3 (.slice A3 bs.length c3) bs) (h2 : Below wr.heap.size wr w3) => AppendListI_any wr.heap.size (.slice A3 bs.length c3) (.slice F1 m cf1) bs hI w3 h1 (Stay.low (by rw [HLF.out]; exact HF'.out) h2 (Nat.le_refl _)) h2.size (by have := HBL.out; omega) (by rw [HLF.out]; omega))
      rw [← HRR.out] at HPL
      generalize wr = w2 at *
      have hma := m_Append_I
      go_wp2_with (first
        | (go_at_call 222; refine HN0.out.mono ?_; rintro e w3 ⟨r, rfl, h1, h2, h3, h4⟩; obtain ⟨A3, c3, rfl⟩ := h1.form; have H1 := hid h1; have H2 := hid h2; clear h1 h2 h3 h4)
        | (go_at_call 223; refine (HPE.out _ _ _ H1.out H2.out).mono ?_; rintro e w4 ⟨r, rfl, h1, h2, h3, h4⟩; obtain ⟨A4, c4, rfl⟩ := h1.form; have K1 := hid h1; have K2 := hid (H2.out.trans h2); clear h1 h2 h3 h4)
        | (go_at_call 270; refine (HPL.out _ _ _ K1.out K2.out).mono ?_; rintro e w5 ⟨r, rfl, h1, h2, h3, h4⟩; obtain ⟨A5, c5, rfl⟩ := h1.form; have M1 := hid h1; have M2 := hid (K2.out.trans h2); clear h1 h2 h3 h4))
      go_ret
      exact ⟨_, rfl, owns_low M1.out HB.out.size, HB.out.trans (M2.out.mono HB.out.size)⟩
end Go.Proofs.YthonbfojpbfmgaaGreatDoor

/- bitvec's setPlaces and Indexes. -/
set_option linter.unusedVariables false
set_option linter.unusedSimpArgs false
set_option linter.unnecessarySimpa false
set_option maxRecDepth 20000
namespace Go.Proofs.YthonbfojpbfmgaaGreatDoor
open Go.RowKit

theorem upon_make0 {P : Program} {w : World} {o : Oper} {a : Act} {K : Act → World → Prop} {Q : Exit → Act → World → Prop} {t : TypeId} {kl kc : IntKind} {L C : Int}
    (e : TypeId) (z : Value) (bytes : Nat) (h1 : P.underlying t = some (.slice e)) (h2 : (P.info? e).map (fun i => (i.zero, i.size, i.bytes)) = some (some z, 1, bytes)) (hz : z.cells = #[z])
    (n : Nat) (hL : L = 0) (hC : C = (n : Int)) (b2 : bytes * n ≤ 281474976710656) (b3 : n ≤ maxLen)
    (hK : ∀ v' w', w'.ownsRow w.heap.size e 1 v' 0 [] → Below w.heap.size w w' → K (a.put o.dst v') w') :
    o.upon P a K Q ((Sem.run P (Instr.makeSlice t (.int kl L) (.int kc C)) w).andThen fun b w' => Result.ok (Next.value b) w') := by
  obtain ⟨i, hi, hz0, hz1, hz2⟩ := info_parts h2
  subst hL
  subst hC
  have hb : (i.bytes : Int) * (n : Int) ≤ 281474976710656 := by
    have h : ((i.bytes * n : Nat) : Int) ≤ 281474976710656 := by rw [hz2]; omega
    rwa [Int.natCast_mul] at h
  have h63 : (n : Int) ≤ 9223372036854775807 := by
    unfold maxLen at b3; omega
  have hr := run_make (P := P) w t e i z h1 hi hz0 kl kc 0 n (by omega) (by omega) hb h63
  simp only [Int.toNat_natCast, hz1, hz] at hr
  refine upon_ok hr (hK _ _ ?_ ((Below.refl _ _).alloc (Nat.le_refl _) _))
  have hrow : Row (w.alloc (.cells (madeCells #[z] (n * 1)) e)) w.heap.size e (List.replicate n z) := by
    unfold Row
    rw [heap_alloc_new]
    congr 2
    apply Array.ext'
    simp [toList_madeCells_one]
  refine ⟨rfl, .inr ⟨w.heap.size, n, (List.replicate n z).toArray, rfl, Nat.le_refl _, hrow, Nat.zero_le _, b3, by simp, by simp⟩⟩

set_option maxHeartbeats 2000000 in
theorem setPlaces_any (v : Value) (xs : List Nat) (w : World) (ht : Tab w) (hx : Rd w v xs.length 1 (u64s xs)) (hv : ∀ x ∈ xs, x < 18446744073709551616) (hl : xs.length ≤ 65536) :
    Calls Tryz.prog 97 #[v] w fun e w' => ∃ r, e = .returned r ∧ w'.ownsRow w.heap.size 3 1 r (idxN xs (64 * xs.length)).length (ints (idxN xs (64 * xs.length))) ∧ Below w.heap.size w w' := by
  have HCS := hid (countSet_any v xs w hx hv hl)
  have HT := hid ht
  have HTL := hid ht.lt
  have HV := hid hv
  obtain ⟨A, ca, rfl, hlc, hcm, hA⟩ := hx.form
  have hpl := popL_le xs
  obtain ⟨pc, hpc⟩ : ∃ pc, popL xs = pc := ⟨_, rfl⟩
  rw [hpc] at HCS hpl
  clear hx hv ht hlc hcm hpc
  go_enter Tryz.func97, Tryz.ntmps97
  go_wp2_with (go_at_call 66; refine HCS.out.mono ?_; rintro e w' ⟨rfl, hw⟩; replace hw := hw.symm; subst hw)
  refine upon_make0 3 (.int .i64 0) 8 Tryz.underlying92 Tryz.infoInt rfl pc (by omega) (by omega) (by omega) (by unfold maxLen; omega) ?_
  intro v1 w1 ho1 hb1
  have HO1 := hid ho1
  clear ho1
  go_wp2
  go_loopw [3, 11] (fun v3 i wr => ∃ k : Nat, k ≤ xs.length ∧ i = .int .i64 k ∧ wr.ownsRow w.heap.size 3 1 v3 (idxN xs (64 * k)).length (ints (idxN xs (64 * k))) ∧ Below w.heap.size w wr) (fun _ i _ => xs.length - (intOf i).toNat)
  case atStart => exact ⟨0, by omega, rfl, by simpa [idxN, ints] using HO1.out, hb1⟩
  case round =>
    obtain ⟨k, hk, rfl, hown, hb⟩ := hrel
    have HOWN := hid hown
    clear hown hb1 HO1
    by_cases hlt : k < xs.length
    · obtain ⟨b, o, rfl, hs⟩ := hA (by omega)
      have c1 := (hs.mono (hb.mono (Nat.le_refl _))).word k hlt
      have HF := hid (rest_first xs k HV.out hlt)
      have hwb := hb
      clear hs hA
      generalize xs.getD k 0 = x at *
      go_wp2
      go_loopw [3, 5] (fun v3 y wr => ∃ (t z : Nat), y = .int .u64 z ∧ Hid (Rest xs k t z) ∧ wr.ownsRow w.heap.size 3 1 v3 (idxN xs (64 * k + t)).length (ints (idxN xs (64 * k + t))) ∧ Below w.heap.size w wr) (fun _ y _ => (intOf y).toNat)
      case atStart => exact ⟨0, x, rfl, HF, by simpa using HOWN.out, hb⟩
      case round =>
        obtain ⟨t, z, rfl, HRST, hown2, hb2⟩ := hrel
        have HOWN2 := hid hown2
        clear hown2 HOWN HF
        have hz64 : z < 18446744073709551616 := HRST.out.2.1
        by_cases hz : z = 0
        · have hze : ((z : Int) != 0) = false := by simpa using hz
          have HZ := hid hz
          clear hz
          go_wp2
          go_roundw
          case rel =>
            refine ⟨k + 1, by omega, by go_num, ?_, hb2⟩
            rw [rest_zero (by rw [← HZ.out]; exact HRST.out)]
            exact HOWN2.out
          case measure => simp [intOf]; omega
        · have hze : ((z : Int) != 0) = true := by simpa using hz
          have HNX := hid (rest_next HRST.out hz)
          have HTZ := hid (fun (w2 : World) (h : Tab w2) => trailingZeros_any z w2 hz hz64 h)
          have hz1 : IntKind.u64.wrap ((z : Int) - 1) = ((z - 1 : Nat) : Int) := by rw [IntKind.wrap_u64]; omega
          have hz2 := u64_and_nat z (z - 1) hz64 (by omega)
          have hle := idxN_le xs (64 * k + t)
          have hc64 := HNX.out.2.2.1
          have hzlt := HNX.out.2.2.2
          have ht64 := HRST.out.1
          have HTW := hid (HT.out.mono hb2 HTL.out)
          generalize Lib.ctz 64 z = c at *
          generalize z &&& (z - 1) = z' at *
          generalize z - 1 = zm at *
          clear hz HRST
          generalize hI : idxN xs (64 * k + t) = I at *
          have HI := hid hI
          clear hI
          go_wp2_with (first | (go_at_call 148; refine (HTZ.out _ HTW.out).mono ?_; rintro e w' ⟨rfl, hw⟩; replace hw := hw.symm; subst hw) | (at_builtin; refine wpList_append1 rfl (.tmp 22) (.tmp 28) rfl 3 (.int .i64 0) 8 Tryz.underlying92 Tryz.infoInt rfl rfl rfl HOWN2.out hb2.size (by rfl) (by unfold maxLen; omega) (by omega) ?_; intro v' w' ho hb3 _))
          go_roundw
          case rel =>
            refine ⟨c + 1, z', by first | rfl | (rw [hz1, hz2]), hid HNX.out.2.1, ?_, hb2.trans hb3⟩
            rw [HNX.out.1, ints_snoc, List.length_append]
            have e : (k : Int) * 64 + (c : Int) = ((64 * k + c : Nat) : Int) := by omega
            first | (rw [← e]; exact ho) | exact ho
          case measure => simp [intOf]; omega
    · go_wp2
      go_ret
      rw [show k = xs.length from by omega] at HOWN
      exact ⟨_, rfl, HOWN.out, hb⟩

end Go.Proofs.YthonbfojpbfmgaaGreatDoor
