/-
  Structs of three, five, six fields among a law's arguments. No program is named here.
-/
import Derived.Test.YtpfglincdlmfhaaDoorMem
namespace Go.Proofs.YtpfglincdlmfhaaDoor
open Go.RowKit
set_option linter.unusedVariables false

theorem cut_drop (cs : List Value) (a s : Nat) : (cs.drop a).take s ++ cs.drop (a + s) = cs.drop a := by
  rw [← List.drop_drop, List.take_append_drop]
theorem Opens.struct5 {P : Program} {t : TypeId} {α β γ δ ε : Type} [Enc α] [Enc β] [Enc γ] [Enc δ] [Enc ε] {f0 f1 f2 f3 f4 : Field} (ht : P.underlying t = some (.struct #[f0, f1, f2, f3, f4]))
    (hc : P.cellsOf t = Enc.size α + Enc.size β + Enc.size γ + Enc.size δ + Enc.size ε) (h0 : f0.offset = 0) (h1 : f1.offset = Enc.size α) (h2 : f2.offset = Enc.size α + Enc.size β) (h3 : f3.offset = Enc.size α + Enc.size β + Enc.size γ) (h4 : f4.offset = Enc.size α + Enc.size β + Enc.size γ + Enc.size δ)
    (o0 : Opens P f0.type α) (o1 : Opens P f1.type β) (o2 : Opens P f2.type γ) (o3 : Opens P f3.type δ) (o4 : Opens P f4.type ε) : Opens P t (α × β × γ × δ × ε) :=
  ⟨by rw [hc]; show _ = Enc.size α + (Enc.size β + (Enc.size γ + (Enc.size δ + Enc.size ε))); omega, Nat.lt_of_lt_of_le o0.pos (Nat.le_add_right _ _), fun {H enc w base sp held fuel cs x} h => by
    obtain ⟨xs, n, _, hx, hl, hxl, hf⟩ := DataW.trod_struct ht h
    have e0 := hf 0 f0 rfl
    have e1 := hf 1 f1 rfl
    have e2 := hf 2 f2 rfl
    have e3 := hf 3 f3 rfl
    have e4 := hf 4 f4 rfl
    have hxl : xs.length = 5 := by simpa using hxl
    rw [List.getElem?_eq_getElem (by omega)] at e0 e1 e2 e3 e4
    obtain ⟨a, ha⟩ := o0.opens e0
    obtain ⟨b, hb⟩ := o1.opens e1
    obtain ⟨c, hc'⟩ := o2.opens e2
    obtain ⟨d, hd⟩ := o3.opens e3
    obtain ⟨e, he⟩ := o4.opens e4
    rw [h0, o0.cells] at ha
    rw [h1, o1.cells] at hb
    rw [h2, o2.cells] at hc'
    rw [h3, o3.cells] at hd
    rw [h4, o4.cells, List.take_of_length_le (by rw [List.length_drop, hl, hc]; omega)] at he
    have c0 := cut_drop cs 0 (Enc.size α)
    have c1 := cut_drop cs (Enc.size α) (Enc.size β)
    have c2 := cut_drop cs (Enc.size α + Enc.size β) (Enc.size γ)
    have c3 := cut_drop cs (Enc.size α + Enc.size β + Enc.size γ) (Enc.size δ)
    rw [Nat.zero_add, List.drop_zero] at c0
    rw [List.drop_zero] at ha
    exact ⟨(a, b, c, d, e), _, _, c0.symm, ha, _, _, c1.symm, hb, _, _, c2.symm, hc', _, _, c3.symm, hd, he⟩⟩
theorem Opens.struct3 {P : Program} {t : TypeId} {α β γ : Type} [Enc α] [Enc β] [Enc γ] {f0 f1 f2 : Field} (ht : P.underlying t = some (.struct #[f0, f1, f2]))
    (hc : P.cellsOf t = Enc.size α + Enc.size β + Enc.size γ) (h0 : f0.offset = 0) (h1 : f1.offset = Enc.size α) (h2 : f2.offset = Enc.size α + Enc.size β)
    (o0 : Opens P f0.type α) (o1 : Opens P f1.type β) (o2 : Opens P f2.type γ) : Opens P t (α × β × γ) :=
  ⟨by rw [hc]; show _ = Enc.size α + (Enc.size β + Enc.size γ); omega, Nat.lt_of_lt_of_le o0.pos (Nat.le_add_right _ _), fun {H enc w base sp held fuel cs x} h => by
    obtain ⟨xs, n, _, hx, hl, hxl, hf⟩ := DataW.trod_struct ht h
    have e0 := hf 0 f0 rfl
    have e1 := hf 1 f1 rfl
    have e2 := hf 2 f2 rfl
    have hxl : xs.length = 3 := by simpa using hxl
    rw [List.getElem?_eq_getElem (by omega)] at e0 e1 e2
    obtain ⟨a, ha⟩ := o0.opens e0
    obtain ⟨b, hb⟩ := o1.opens e1
    obtain ⟨c, hc'⟩ := o2.opens e2
    rw [h0, o0.cells] at ha
    rw [h1, o1.cells] at hb
    rw [h2, o2.cells, List.take_of_length_le (by rw [List.length_drop, hl, hc]; omega)] at hc'
    have c0 := cut_drop cs 0 (Enc.size α)
    have c1 := cut_drop cs (Enc.size α) (Enc.size β)
    rw [Nat.zero_add, List.drop_zero] at c0
    rw [List.drop_zero] at ha
    exact ⟨(a, b, c), _, _, c0.symm, ha, _, _, c1.symm, hb, hc'⟩⟩
theorem Opens.struct6 {P : Program} {t : TypeId} {α β γ δ ε ζ : Type} [Enc α] [Enc β] [Enc γ] [Enc δ] [Enc ε] [Enc ζ] {f0 f1 f2 f3 f4 f5 : Field} (ht : P.underlying t = some (.struct #[f0, f1, f2, f3, f4, f5]))
    (hc : P.cellsOf t = Enc.size α + Enc.size β + Enc.size γ + Enc.size δ + Enc.size ε + Enc.size ζ) (h0 : f0.offset = 0) (h1 : f1.offset = Enc.size α) (h2 : f2.offset = Enc.size α + Enc.size β) (h3 : f3.offset = Enc.size α + Enc.size β + Enc.size γ) (h4 : f4.offset = Enc.size α + Enc.size β + Enc.size γ + Enc.size δ) (h5 : f5.offset = Enc.size α + Enc.size β + Enc.size γ + Enc.size δ + Enc.size ε)
    (o0 : Opens P f0.type α) (o1 : Opens P f1.type β) (o2 : Opens P f2.type γ) (o3 : Opens P f3.type δ) (o4 : Opens P f4.type ε) (o5 : Opens P f5.type ζ) : Opens P t (α × β × γ × δ × ε × ζ) :=
  ⟨by rw [hc]; show _ = Enc.size α + (Enc.size β + (Enc.size γ + (Enc.size δ + (Enc.size ε + Enc.size ζ)))); omega, Nat.lt_of_lt_of_le o0.pos (Nat.le_add_right _ _), fun {H enc w base sp held fuel cs x} h => by
    obtain ⟨xs, n, _, hx, hl, hxl, hf⟩ := DataW.trod_struct ht h
    have e0 := hf 0 f0 rfl
    have e1 := hf 1 f1 rfl
    have e2 := hf 2 f2 rfl
    have e3 := hf 3 f3 rfl
    have e4 := hf 4 f4 rfl
    have e5 := hf 5 f5 rfl
    have hxl : xs.length = 6 := by simpa using hxl
    rw [List.getElem?_eq_getElem (by omega)] at e0 e1 e2 e3 e4 e5
    obtain ⟨a, ha⟩ := o0.opens e0
    obtain ⟨b, hb⟩ := o1.opens e1
    obtain ⟨c, hc'⟩ := o2.opens e2
    obtain ⟨d, hd⟩ := o3.opens e3
    obtain ⟨e, he⟩ := o4.opens e4
    obtain ⟨f, hg⟩ := o5.opens e5
    rw [h0, o0.cells] at ha
    rw [h1, o1.cells] at hb
    rw [h2, o2.cells] at hc'
    rw [h3, o3.cells] at hd
    rw [h4, o4.cells] at he
    rw [h5, o5.cells, List.take_of_length_le (by rw [List.length_drop, hl, hc]; omega)] at hg
    have cd : ∀ a s, (cs.drop a).take s ++ cs.drop (a + s) = cs.drop a := fun a s => by rw [← List.drop_drop, List.take_append_drop]
    have c0 := cd 0 (Enc.size α)
    have c1 := cd (Enc.size α) (Enc.size β)
    have c2 := cd (Enc.size α + Enc.size β) (Enc.size γ)
    have c3 := cd (Enc.size α + Enc.size β + Enc.size γ) (Enc.size δ)
    have c4 := cd (Enc.size α + Enc.size β + Enc.size γ + Enc.size δ) (Enc.size ε)
    rw [Nat.zero_add, List.drop_zero] at c0
    rw [List.drop_zero] at ha
    exact ⟨(a, b, c, d, e, f), _, _, c0.symm, ha, _, _, c1.symm, hb, _, _, c2.symm, hc', _, _, c3.symm, hd, _, _, c4.symm, he, hg⟩⟩
end Go.Proofs.YtpfglincdlmfhaaDoor
