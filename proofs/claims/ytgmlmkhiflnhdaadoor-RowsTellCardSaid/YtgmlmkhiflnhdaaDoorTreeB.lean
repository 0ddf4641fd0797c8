/-
  The program's facts on nodes and trees: their types, among a law's arguments.
-/
import Derived.Test.YtgmlmkhiflnhdaaDoorTrN
import Derived.Test.YtgmlmkhiflnhdaaDoorBits
import Derived.Test.YtgmlmkhiflnhdaaDoorOpensN
namespace Go.Proofs.YtgmlmkhiflnhdaaDoor
open Go.RowKit
set_option linter.unusedVariables false
set_option maxRecDepth 100000

def zNdC : Array Value := (ndC nd0 none 0).toArray
theorem zNdC_eq : zNdC = (ndC nd0 none 0).toArray := rfl
def zNd : Value := .agg zNdC
def zTrC : Array Value := #[.slice none 0 0, .int .i64 0]
theorem zSizeNd : zNdC.size = 36 := by decide +kernel
theorem built_dg0 : Tryd.prog.built 29 [] = some (z0.1.map bv).toArray := by kernel_rfl
theorem sizeDgT (k : Dg) : (Tryd.prog.info? 29).map (·.size) = some (k.1.map bv).length := by rw [List.length_map, k.2]; exact size32

theorem opensBool : Opens Tryd.prog 4 Bool := Opens.bool Tryd.underlying4 (by kernel_rfl)
theorem opensInt : Opens Tryd.prog 3 Int := Opens.i64 Tryd.underlying3 (by kernel_rfl)
end Go.Proofs.YtgmlmkhiflnhdaaDoor
