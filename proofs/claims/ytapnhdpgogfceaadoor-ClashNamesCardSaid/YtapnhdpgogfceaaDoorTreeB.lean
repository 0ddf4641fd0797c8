/-
  The program's facts on nodes and trees: their types, among a law's arguments.
-/
import Derived.Test.YtapnhdpgogfceaaDoorNode
import Derived.Test.YtapnhdpgogfceaaDoorMem
import Derived.Test.YtapnhdpgogfceaaDoorBits
import Derived.WideShapes
import Derived.Lib.LaidTab
import Derived.Carry
import Derived.OpenShut
namespace Go.Proofs.YtapnhdpgogfceaaDoor
open Go.RowKit
set_option linter.unusedVariables false
set_option maxRecDepth 100000

def zNdC : Array Value := (ndC nd0 none 0).toArray
def zNd : Value := .agg zNdC
def zTrC : Array Value := #[.slice none 0 0, .int .i64 0]
theorem slotNd : Slot Tryd.prog Nd 32 64 zNd 80 where
  under := Tryd.underlying32
  info := by kernel_rfl
  zero := by decide +kernel
  pos := by decide
theorem zInfoNd : (Tryd.prog.info? 64).map (fun i => (i.zero, i.size)) = some (some (.agg zNdC), zNdC.size) := by kernel_rfl
theorem zSizeNd : zNdC.size = 36 := by decide +kernel
theorem sizeNd : (Tryd.prog.info? 64).map (·.size) = some 36 := by kernel_rfl
theorem zInfoTr : (Tryd.prog.info? 34).map (fun i => (i.zero, i.size)) = some (some (.agg zTrC), zTrC.size) := by kernel_rfl
theorem sizeTr : (Tryd.prog.info? 34).map (·.size) = some 2 := by kernel_rfl
theorem built_dg0 : Tryd.prog.built 27 [] = some (z0.1.map bv).toArray := by kernel_rfl
theorem sizeDgT (k : Dg) : (Tryd.prog.info? 27).map (·.size) = some (k.1.map bv).length := by rw [List.length_map, k.2]; exact size32

end Go.Proofs.YtapnhdpgogfceaaDoor
