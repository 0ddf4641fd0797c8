/-
  The program's facts on nodes and trees: their types, among a law's arguments.
-/
import Derived.Test.YtcifncmfjlbhjaaDoorTrN
import Derived.Test.YtcifncmfjlbhjaaDoorBits
import Derived.Test.YtcifncmfjlbhjaaDoorOpensN
namespace Go.Proofs.YtcifncmfjlbhjaaDoor
open Go.RowKit
set_option linter.unusedVariables false
set_option maxRecDepth 100000

def zNdC : Array Value := (ndC nd0 none 0).toArray
theorem zNdC_eq : zNdC = (ndC nd0 none 0).toArray := rfl
def zNd : Value := .agg zNdC
def zTrC : Array Value := #[.slice none 0 0, .int .i64 0]
theorem slotNd : Slot Tryd.prog Nd 29 80 zNd 80 where
  under := Tryd.underlying29
  info := by kernel_rfl
  zero := by decide +kernel
  pos := by decide
theorem zInfoNd : (Tryd.prog.info? 80).map (fun i => (i.zero, i.size)) = some (some (.agg zNdC), zNdC.size) := by kernel_rfl
theorem zSizeNd : zNdC.size = 36 := by decide +kernel
theorem sizeNd : (Tryd.prog.info? 80).map (·.size) = some 36 := by kernel_rfl
theorem zInfoTr : (Tryd.prog.info? 31).map (fun i => (i.zero, i.size)) = some (some (.agg zTrC), zTrC.size) := by kernel_rfl
theorem sizeTr : (Tryd.prog.info? 31).map (·.size) = some 2 := by kernel_rfl
theorem built_dg0 : Tryd.prog.built 35 [] = some (z0.1.map bv).toArray := by kernel_rfl
theorem sizeDgT (k : Dg) : (Tryd.prog.info? 35).map (·.size) = some (k.1.map bv).length := by rw [List.length_map, k.2]; exact size32

theorem opensBool : Opens Tryd.prog 4 Bool := Opens.bool Tryd.underlying4 (by kernel_rfl)
theorem opensInt : Opens Tryd.prog 3 Int := Opens.i64 Tryd.underlying3 (by kernel_rfl)
theorem opensNd : Opens Tryd.prog 80 Nd :=
  Opens.by_ (fun x : Nd => (x.leaf, x.k, x.v, x.l, x.r)) (fun b => ⟨b.1, b.2.1, b.2.2.1, b.2.2.2.1, b.2.2.2.2⟩) (fun b => rfl) (Opens.struct5 Tryd.underlying80 (by kernel_rfl) rfl rfl rfl rfl rfl opensBool opensDg opensBytes opensInt opensInt)
theorem opensNds : Opens Tryd.prog 29 (List Nd) := Opens.slice Tryd.underlying29 (by kernel_rfl) opensNd
theorem opensTr : Opens Tryd.prog 31 Tr :=
  Opens.by_ (fun t : Tr => (t.ns, t.root)) (fun b => ⟨b.1, b.2⟩) (fun b => rfl) (Opens.struct2 Tryd.underlying31 (by kernel_rfl) rfl rfl opensNds opensInt)
end Go.Proofs.YtcifncmfjlbhjaaDoor
