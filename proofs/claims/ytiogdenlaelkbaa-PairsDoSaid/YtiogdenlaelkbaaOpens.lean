/-
  What a law's arguments read as, by 'Enc'. No program is named here.
-/
import Derived.Test.YtiogdenlaelkbaaPair
import Derived.Test.YtiogdenlaelkbaaLists
import Derived.Deep.Slices
import Derived.ChangeArms
import Derived.OpenShut
import Derived.Lib.LaidTab
namespace Go.Proofs.Ytiogdenlaelkbaa
open Go.RowKit Go.ChangeShapes Go.WideShapes
set_option linter.unusedVariables false

/-- What reads as data at a type reads as a thing. -/
structure Opens (P : Program) (t : TypeId) (α : Type) [Enc α] : Prop where
  cells : P.cellsOf t = Enc.size α
  pos : 0 < Enc.size α
  opens : ∀ {H : Type} {enc : TypeId × Value → H} {w : World} {base : Nat} {sp : Nat → Bool} {held : Bool} {fuel : Nat} {cs : List Value} {x : DataW H × List MemPlace},
    DataW.trod enc P w base sp held fuel t cs = some x → ∃ a : α, Enc.rep (fun b => b < w.heap.size) w a cs
section
variable {P : Program} {t e : TypeId}
theorem Opens.u8 (ht : P.underlying t = some (.int .u8)) (hc : P.cellsOf t = 1) : Opens P t UInt8 := ⟨hc, by decide, fun h => by
  obtain ⟨n, rfl, _, hw⟩ := DataW.trod_int ht h
  have hb := bounds_u8 hw
  refine ⟨UInt8.ofNat n.toNat, ?_⟩
  show [Value.int .u8 n] = [bv (UInt8.ofNat n.toNat)]
  unfold bv
  congr 2
  simp
  omega⟩
theorem Opens.bool (ht : P.underlying t = some .bool) (hc : P.cellsOf t = 1) : Opens P t Bool := ⟨hc, by decide, fun h => by
  obtain ⟨b, rfl, _⟩ := DataW.trod_bool ht h
  exact ⟨b, rfl⟩⟩
theorem Opens.i64 (ht : P.underlying t = some (.int .i64)) (hc : P.cellsOf t = 1) : Opens P t Int := ⟨hc, by decide, fun h => by
  obtain ⟨n, rfl, _, hw⟩ := DataW.trod_int ht h
  refine ⟨n, rfl, ?_⟩
  simp [Lit.wf, IntKind.min, IntKind.max, IntKind.signed, IntKind.bits] at hw
  omega⟩
theorem Opens.u64 (ht : P.underlying t = some (.int .u64)) (hc : P.cellsOf t = 1) : Opens P t Nat := ⟨hc, by decide, fun h => by
  obtain ⟨n, rfl, _, hw⟩ := DataW.trod_int ht h
  simp [Lit.wf, IntKind.min, IntKind.max, IntKind.signed, IntKind.bits] at hw
  refine ⟨n.toNat, ?_, by omega⟩
  show [Value.int .u64 n] = [Value.int .u64 (n.toNat : Int)]
  congr 2
  omega⟩
theorem Opens.dg (ht : P.underlying t = some (.array 32 e)) (he : P.underlying e = some (.int .u8)) (hce : P.cellsOf e = 1) (hc : P.cellsOf t = 32) : Opens P t Dg := ⟨hc, by decide, fun {H enc w base sp held fuel cs x} h => by
  cases fuel with
  | zero => simp [DataW.trod] at h
  | succ fuel =>
    simp only [DataW.trod, ht, hce, hc, Nat.mul_one] at h
    split at h
    · rename_i hl
      obtain ⟨xs, hm, hx⟩ := Option.map_eq_some_iff.1 h
      have hall : ∀ i, i < 32 → ∃ z, cs[i]? = some (.int .u8 z) ∧ 0 ≤ z ∧ z < 256 := by
        intro i hi
        obtain ⟨b, hb, hf2⟩ := Lib.mapM_at hm i i (by simp [hi])
        obtain ⟨z, hcz, -, hw⟩ := DataW.trod_int he hf2
        have hb8 := bounds_u8 hw
        refine ⟨z, ?_, hb8.1, by omega⟩
        have := congrArg (·[0]?) hcz
        simpa [List.getElem?_take, List.getElem?_drop] using this
      refine ⟨⟨cs.map fun v => match v with | .int _ z => UInt8.ofNat z.toNat | _ => 0, by simp [hl]⟩, ?_⟩
      show cs = _
      rw [List.map_map]
      apply List.ext_getElem
      · simp
      · intro i h1 h2
        obtain ⟨z, hz, hz0, hz1⟩ := hall i (by omega)
        rw [List.getElem?_eq_getElem h1] at hz
        injection hz with hz
        simp [hz, bv]
        omega
    · cases h⟩
theorem Opens.slice {α : Type} [Enc α] (ht : P.underlying t = some (.slice e)) (hc : P.cellsOf t = 1) (ho : Opens P e α) : Opens P t (List α) := ⟨hc, (show 0 < 1 by decide), fun {H enc w base sp held fuel cs x} h => by
  rcases Deep.open_slice ht h with ⟨rfl, _⟩ | ⟨a, len, cap, m, n, D, Pl, rfl, _, hl, hcm, hm, _, hi⟩
  · exact ⟨[], none, 0, rfl, Nat.le_refl _, Nat.zero_le _, Row.nil _ _ _⟩
  · have hml : len ≤ m := by rw [hm]; split <;> omega
    have each : ∀ i, i < len → ∃ y : α, ∃ cs', w.cells? base (a.add (i * Enc.size α)) (Enc.size α) = some cs' ∧ Enc.rep (fun b => b < w.heap.size) w y cs' := by
      intro i hi2
      obtain ⟨cs', h1, h2⟩ := hi i (by omega)
      obtain ⟨y, hy⟩ := ho.opens h2
      rw [ho.cells] at h1
      exact ⟨y, cs', h1, hy⟩
    obtain ⟨xs, hxs, hp⟩ := list_upto len (fun i (y : α) => ∃ cs', w.cells? base (a.add (i * Enc.size α)) (Enc.size α) = some cs' ∧ Enc.rep (fun b => b < w.heap.size) w y cs') each
    refine ⟨xs, some a, cap, by rw [hxs], by omega, hcm, fun hn => ?_⟩
    have hpos := ho.pos
    obtain ⟨b, o, spot⟩ := a
    have hcell : ∀ (j : Nat) (y : α), xs[j]? = some y → ∃ cs', cs'.length = Enc.size α ∧ (∀ i, i < Enc.size α → w.cell? (((⟨b, o, spot⟩ : Addr).add (j * Enc.size α)).add i) = cs'[i]?) ∧ Enc.rep (fun b => b < w.heap.size) w y cs' := by
      intro j y hy
      obtain ⟨cs', h1, h2⟩ := hp j y hy
      have h3 := World.cells?_some h1
      exact ⟨cs', h3.2.1, h3.2.2, h2⟩
    obtain ⟨cs0, hl0, hc0, hr0⟩ := hcell 0 _ (List.getElem?_eq_getElem hn)
    have h0 := hc0 0 hpos
    rw [List.getElem?_eq_getElem (by omega)] at h0
    have hspot : spot = none := by simpa [Addr.add] using World.cell?_spot h0
    subst hspot
    have hlt : b < w.heap.size := by
      rw [add_mid', add_mid'] at h0
      exact World.block_lt_of_cell? _ _ h0
    refine ⟨b, o, rfl, hlt, hlt, fun j y hy => ?_⟩
    obtain ⟨cs', h1, h2, h3⟩ := hcell j y hy
    refine ⟨cs', h3, fun i v hv => ?_⟩
    have hi3 := (List.getElem?_eq_some_iff.1 hv).1
    have h4 := h2 i (by omega)
    rw [add_mid', add_mid', hv] at h4
    exact h4⟩
theorem Opens.struct2 {α β : Type} [Enc α] [Enc β] {f0 f1 : Field} (ht : P.underlying t = some (.struct #[f0, f1])) (hc : P.cellsOf t = Enc.size α + Enc.size β) (h0 : f0.offset = 0) (h1 : f1.offset = Enc.size α) (ho0 : Opens P f0.type α) (ho1 : Opens P f1.type β) : Opens P t (α × β) :=
  ⟨hc, Nat.lt_of_lt_of_le ho0.pos (Nat.le_add_right _ _), fun {H enc w base sp held fuel cs x} h => by
    obtain ⟨xs, n, _, hx, hl, hxl, hf⟩ := DataW.trod_struct ht h
    have e0 := hf 0 f0 rfl
    have e1 := hf 1 f1 rfl
    have g0 : xs[0]? = some (xs[0]'(by simp at hxl; omega)) := List.getElem?_eq_getElem _
    have g1 : xs[1]? = some (xs[1]'(by simp at hxl; omega)) := List.getElem?_eq_getElem _
    rw [g0] at e0
    rw [g1] at e1
    obtain ⟨a, ha⟩ := ho0.opens e0
    obtain ⟨b, hb⟩ := ho1.opens e1
    rw [h0, ho0.cells, List.drop_zero] at ha
    rw [h1, ho1.cells, List.take_of_length_le (by rw [List.length_drop, hl, hc]; omega)] at hb
    refine ⟨(a, b), _, _, ?_, ha, hb⟩
    rw [List.take_append_drop]⟩
theorem Opens.by_ {α β : Type} [Enc β] (f : α → β) (g : β → α) (hfg : ∀ b, f (g b) = b) (h : Opens P t β) : @Opens P t α (Enc.by_ f) := by
  letI := (Enc.by_ f : Enc α)
  exact ⟨h.cells, h.pos, fun hh => by
    obtain ⟨b, hb⟩ := h.opens hh
    refine ⟨g b, ?_⟩
    show Enc.rep _ _ (f (g b)) _
    rw [hfg]
    exact hb⟩
/-- A list that came in, behind the frame's words for a slice. -/
theorem open_list {α : Type} [Enc α] (ho : Opens P t (List α)) {H : Type} {enc : TypeId × Value → H} {w : World} {base : Nat} {sp : Nat → Bool} {held : Bool} {a : Option Addr} {len cap : Nat} {x : DataW H × List MemPlace} {fuel : Nat}
    (h : DataW.trod enc P w base sp held fuel t [.slice a len cap] = some x) : ∃ xs : List α, len = xs.length ∧ Row (fun b => b < w.heap.size) w a xs ∧ xs.length ≤ cap ∧ cap ≤ maxLen := by
  obtain ⟨xs, A, c, he, h1, h2, h3⟩ := ho.opens h
  simp at he
  obtain ⟨rfl, rfl, rfl⟩ := he
  exact ⟨xs, rfl, h3, h1, h2⟩
end
end Go.Proofs.Ytiogdenlaelkbaa
