/-
  The program's facts on nodes and trees: their types, among a law's arguments.
-/
import Derived.Test.YtcifncmfjlbhjaaTrN
import Derived.Test.YtcifncmfjlbhjaaBits
import Derived.Test.YtcifncmfjlbhjaaOpensN
namespace Go.Proofs.Ytcifncmfjlbhjaa
open Go.RowKit
set_option linter.unusedVariables false
set_option maxRecDepth 100000

def zNdC : Array Value := (ndC nd0 none 0).toArray
theorem zNdC_eq : zNdC = (ndC nd0 none 0).toArray := rfl
def zNd : Value := .agg zNdC
def zTrC : Array Value := #[.slice none 0 0, .int .i64 0]
theorem slotNd : Slot Try.prog Nd 22 59 zNd 80 where
  under := Try.underlying22
  info := by kernel_rfl
  zero := by decide +kernel
  pos := by decide
theorem zInfoNd : (Try.prog.info? 59).map (fun i => (i.zero, i.size)) = some (some (.agg zNdC), zNdC.size) := by kernel_rfl
theorem zSizeNd : zNdC.size = 36 := by decide +kernel
theorem sizeNd : (Try.prog.info? 59).map (·.size) = some 36 := by kernel_rfl
theorem zInfoTr : (Try.prog.info? 24).map (fun i => (i.zero, i.size)) = some (some (.agg zTrC), zTrC.size) := by kernel_rfl
theorem sizeTr : (Try.prog.info? 24).map (·.size) = some 2 := by kernel_rfl
theorem built_dg0 : Try.prog.built 26 [] = some (z0.1.map bv).toArray := by kernel_rfl
theorem sizeDgT (k : Dg) : (Try.prog.info? 26).map (·.size) = some (k.1.map bv).length := by rw [List.length_map, k.2]; exact size32

theorem opensBool : Opens Try.prog 4 Bool := Opens.bool Try.underlying4 (by kernel_rfl)
theorem opensInt : Opens Try.prog 3 Int := Opens.i64 Try.underlying3 (by kernel_rfl)
theorem opensNd : Opens Try.prog 59 Nd :=
  Opens.by_ (fun x : Nd => (x.leaf, x.k, x.v, x.l, x.r)) (fun b => ⟨b.1, b.2.1, b.2.2.1, b.2.2.2.1, b.2.2.2.2⟩) (fun b => rfl) (Opens.struct5 Try.underlying59 (by kernel_rfl) rfl rfl rfl rfl rfl opensBool opensDg opensBytes opensInt opensInt)
theorem opensNds : Opens Try.prog 22 (List Nd) := Opens.slice Try.underlying22 (by kernel_rfl) opensNd
theorem opensTr : Opens Try.prog 24 Tr :=
  Opens.by_ (fun t : Tr => (t.ns, t.root)) (fun b => ⟨b.1, b.2⟩) (fun b => rfl) (Opens.struct2 Try.underlying24 (by kernel_rfl) rfl rfl opensNds opensInt)
end Go.Proofs.Ytcifncmfjlbhjaa
