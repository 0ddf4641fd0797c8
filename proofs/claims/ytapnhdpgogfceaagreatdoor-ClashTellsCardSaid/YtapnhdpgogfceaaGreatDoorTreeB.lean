/-
  The program's facts on nodes and trees: their types, among a law's arguments.
-/
import Derived.Test.YtapnhdpgogfceaaGreatDoorTrN
import Derived.Test.YtapnhdpgogfceaaGreatDoorBits
namespace Go.Proofs.YtapnhdpgogfceaaGreatDoor
open Go.RowKit
set_option linter.unusedVariables false
set_option maxRecDepth 100000

def zNdC : Array Value := (ndC nd0 none 0).toArray
def zNd : Value := .agg zNdC
def zTrC : Array Value := #[.slice none 0 0, .int .i64 0]
theorem slotNd : Slot Tryz.prog Nd 22 47 zNd 80 where
  under := Tryz.underlying22
  info := by kernel_rfl
  zero := by decide +kernel
  pos := by decide
theorem zInfoNd : (Tryz.prog.info? 47).map (fun i => (i.zero, i.size)) = some (some (.agg zNdC), zNdC.size) := by kernel_rfl
theorem zSizeNd : zNdC.size = 36 := by decide +kernel
theorem sizeNd : (Tryz.prog.info? 47).map (·.size) = some 36 := by kernel_rfl
theorem zInfoTr : (Tryz.prog.info? 24).map (fun i => (i.zero, i.size)) = some (some (.agg zTrC), zTrC.size) := by kernel_rfl
theorem sizeTr : (Tryz.prog.info? 24).map (·.size) = some 2 := by kernel_rfl
theorem built_dg0 : Tryz.prog.built 26 [] = some (z0.1.map bv).toArray := by kernel_rfl
theorem sizeDgT (k : Dg) : (Tryz.prog.info? 26).map (·.size) = some (k.1.map bv).length := by rw [List.length_map, k.2]; exact size32

theorem cut_drop (cs : List Value) (a s : Nat) : (cs.drop a).take s ++ cs.drop (a + s) = cs.drop a := by
  rw [← List.drop_drop, List.take_append_drop]
theorem Opens.struct5 {P : Program} {t : TypeId} {α β γ δ ε : Type} [Enc α] [Enc β] [Enc γ] [Enc δ] [Enc ε] {f0 f1 f2 f3 f4 : Field} (ht : P.underlying t = some (.struct #[f0, f1, f2, f3, f4]))
    (hc : P.cellsOf t = Enc.size α + Enc.size β + Enc.size γ + Enc.size δ + Enc.size ε) (h0 : f0.offset = 0) (h1 : f1.offset = Enc.size α) (h2 : f2.offset = Enc.size α + Enc.size β) (h3 : f3.offset = Enc.size α + Enc.size β + Enc.size γ) (h4 : f4.offset = Enc.size α + Enc.size β + Enc.size γ + Enc.size δ)
    (o0 : Opens P f0.type α) (o1 : Opens P f1.type β) (o2 : Opens P f2.type γ) (o3 : Opens P f3.type δ) (o4 : Opens P f4.type ε) : Opens P t (α × β × γ × δ × ε) :=
  ⟨by rw [hc]; show _ = Enc.size α + (Enc.size β + (Enc.size γ + (Enc.size δ + Enc.size ε))); omega, Nat.lt_of_lt_of_le o0.pos (Nat.le_add_right _ _), fun {H enc w base sp held fuel cs x} h => by
    obtain ⟨xs, n, _, hx, hl, hxl, hf⟩ := DataW.trod_struct ht h
    have e0 := hf 0 f0 rfl
    have e1 := hf 1 f1 rfl
    have e2 := hf 2 f2 rfl
    have e3 := hf 3 f3 rfl
    have e4 := hf 4 f4 rfl
    have hxl : xs.length = 5 := by simpa using hxl
    rw [List.getElem?_eq_getElem (by omega)] at e0 e1 e2 e3 e4
    obtain ⟨a, ha⟩ := o0.opens e0
    obtain ⟨b, hb⟩ := o1.opens e1
    obtain ⟨c, hc'⟩ := o2.opens e2
    obtain ⟨d, hd⟩ := o3.opens e3
    obtain ⟨e, he⟩ := o4.opens e4
    rw [h0, o0.cells] at ha
    rw [h1, o1.cells] at hb
    rw [h2, o2.cells] at hc'
    rw [h3, o3.cells] at hd
    rw [h4, o4.cells, List.take_of_length_le (by rw [List.length_drop, hl, hc]; omega)] at he
    have c0 := cut_drop cs 0 (Enc.size α)
    have c1 := cut_drop cs (Enc.size α) (Enc.size β)
    have c2 := cut_drop cs (Enc.size α + Enc.size β) (Enc.size γ)
    have c3 := cut_drop cs (Enc.size α + Enc.size β + Enc.size γ) (Enc.size δ)
    rw [Nat.zero_add, List.drop_zero] at c0
    rw [List.drop_zero] at ha
    exact ⟨(a, b, c, d, e), _, _, c0.symm, ha, _, _, c1.symm, hb, _, _, c2.symm, hc', _, _, c3.symm, hd, he⟩⟩
theorem opensBool : Opens Tryz.prog 4 Bool := Opens.bool Tryz.underlying4 (by kernel_rfl)
theorem opensInt : Opens Tryz.prog 3 Int := Opens.i64 Tryz.underlying3 (by kernel_rfl)
theorem opensNd : Opens Tryz.prog 47 Nd :=
  Opens.by_ (fun x : Nd => (x.leaf, x.k, x.v, x.l, x.r)) (fun b => ⟨b.1, b.2.1, b.2.2.1, b.2.2.2.1, b.2.2.2.2⟩) (fun b => rfl) (Opens.struct5 Tryz.underlying47 (by kernel_rfl) rfl rfl rfl rfl rfl opensBool opensDg opensBytes opensInt opensInt)
theorem opensNds : Opens Tryz.prog 22 (List Nd) := Opens.slice Tryz.underlying22 (by kernel_rfl) opensNd
theorem opensTr : Opens Tryz.prog 24 Tr :=
  Opens.by_ (fun t : Tr => (t.ns, t.root)) (fun b => ⟨b.1, b.2⟩) (fun b => rfl) (Opens.struct2 Tryz.underlying24 (by kernel_rfl) rfl rfl opensNds opensInt)
end Go.Proofs.YtapnhdpgogfceaaGreatDoor
