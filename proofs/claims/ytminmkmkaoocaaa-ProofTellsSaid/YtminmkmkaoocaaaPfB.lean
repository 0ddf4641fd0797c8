/-
  The program's facts on proofs: their type, among a law's arguments.
-/
import Derived.Test.YtminmkmkaoocaaaPf
import Derived.Test.YtminmkmkaoocaaaTreeB
namespace Go.Proofs.Ytminmkmkaoocaaa
open Go.RowKit
set_option linter.unusedVariables false
set_option maxRecDepth 100000

def zPfC : Array Value := (pfC pf0 none 0 none 0).toArray
theorem zInfoPf : (Try.prog.info? 44).map (fun i => (i.zero, i.size)) = some (some (.agg zPfC), zPfC.size) := by kernel_rfl
theorem zSizePf : zPfC.size = 67 := by decide +kernel
theorem sizePf : (Try.prog.info? 44).map (·.size) = some 67 := by kernel_rfl
theorem sizePfC (x : Pf) (A : Option Addr) (c : Nat) (D : Option Addr) (d : Nat) : (Try.prog.info? 44).map (·.size) = some (pfC x A c D d).length := by rw [len_pf]; exact sizePf
theorem sizePfS (x : Pf) (A : Option Addr) (c : Nat) (D : Option Addr) (d : Nat) : (Try.prog.info? 44).map (·.size) = some (pfC x A c D d).toArray.size := by rw [List.size_toArray, len_pf]; exact sizePf
theorem opensDgs : Opens Try.prog 42 (List Dg) := Opens.slice Try.underlying42 (by kernel_rfl) opensDg
theorem opensPf : Opens Try.prog 44 Pf :=
  Opens.by_ (fun x : Pf => (x.k, x.e, x.o, x.v, x.ss)) (fun b => ⟨b.1, b.2.1, b.2.2.1, b.2.2.2.1, b.2.2.2.2⟩) (fun b => rfl) (Opens.struct5 Try.underlying44 (by kernel_rfl) rfl rfl rfl rfl rfl opensDg opensByte opensDg opensBytes opensDgs)
end Go.Proofs.Ytminmkmkaoocaaa
