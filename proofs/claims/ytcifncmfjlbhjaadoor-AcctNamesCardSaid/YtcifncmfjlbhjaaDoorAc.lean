/-
  Accounts in memory, and compared.
-/
import Derived.Test.YtcifncmfjlbhjaaDoorAcP
import Derived.Test.YtcifncmfjlbhjaaDoorEqS
import Derived.Test.YtcifncmfjlbhjaaDoorTrN
import Derived.Test.YtcifncmfjlbhjaaDoorBits
namespace Go.Proofs.YtcifncmfjlbhjaaDoor
open Go.RowKit
set_option linter.unusedVariables false
set_option maxRecDepth 100000

instance : Enc Ac := Enc.by_ fun a => (a.n, a.b)
def acC (a : Ac) : List Value := [.int .u64 (a.n : Int), .int .u64 (a.b : Int)]
theorem len_ac (a : Ac) : (acC a).length = 2 := rfl
theorem rep_ac {F : Nat → Prop} {w : World} {a : Ac} {vs : List Value} (h : Enc.rep F w a vs) : vs = acC a ∧ a.ok := by
  obtain ⟨us, ts, rfl, ⟨h1, h2⟩, ⟨h3, h4⟩⟩ := h
  exact ⟨by rw [h1, h3]; rfl, h2, h4⟩
theorem opensU64 : Opens Tryd.prog 22 Nat := Opens.u64 Tryd.underlying22 (by kernel_rfl)
theorem opensAc : Opens Tryd.prog 24 Ac :=
  Opens.by_ (fun a : Ac => (a.n, a.b)) (fun b => ⟨b.1, b.2⟩) (fun b => rfl) (Opens.struct2 Tryd.underlying24 (by kernel_rfl) rfl rfl opensU64 opensU64)
theorem sizeAc : (Tryd.prog.info? 24).map (·.size) = some 2 := by kernel_rfl
theorem cellsAc : Tryd.prog.cellsOf 24 = 2 := by kernel_rfl
theorem zInfoAc : (Tryd.prog.info? 24).map (fun i => (i.zero, i.size)) = some (some (.agg (acC ac0).toArray), (acC ac0).toArray.size) := by kernel_rfl
theorem built_ac (n b : Nat) : Tryd.prog.built 24 [(0, .int .u64 (n : Int)), (1, .int .u64 (b : Int))] = some (acC ⟨n, b⟩).toArray := by rfl
theorem built_ac0 : Tryd.prog.built 24 [] = some (acC ac0).toArray := by kernel_rfl
theorem one_ac (a : Ac) : (acC a).toArray.all (·.oneCell') = true := all_oneCell_toArray (cs := acC a) fun u hu => by
  simp only [acC, List.mem_cons, List.not_mem_nil, or_false] at hu
  rcases hu with rfl | rfl <;> rfl
def litsAc (a : Ac) : List Lit := [litU a.n, litU a.b]
theorem litsAc_inj {a c : Ac} : litsAc a = litsAc c ↔ a = c := by
  constructor
  · intro h
    unfold litsAc litU at h
    injection h with h1 h2
    injection h2 with h2 _
    injection h1 with _ h1
    injection h2 with _ h2
    exact ac_ext (by omega) (by omega)
  · rintro rfl; rfl
theorem keyLits_ac (a : Ac) (h : a.ok) : Tryd.prog.keyLits 3 24 (acC a) = some (litsAc a) := by
  have h1 := keyLits_u64 Tryd.underlying22 1 a.n h.1
  have h2 := keyLits_u64 Tryd.underlying22 1 a.b h.2
  have c8 : Tryd.prog.cellsOf 22 = 1 := by kernel_rfl
  have hl : (acC a).length = Tryd.prog.cellsOf 24 := by rw [cellsAc]; rfl
  rw [keyLits_struct Tryd.underlying24 2 (acC a) hl (by decide +kernel)]
  simp only [List.mapM_cons, List.mapM_nil, acC, List.drop_zero, List.drop_succ_cons, List.take_succ_cons, List.take_zero, c8, h1, h2]
  rfl
theorem eqac_is (a c : Ac) (ha : a.ok) (hc : c.ok) (b : Bool) (h : decide (a = c) = b) (w : World) :
    (Op.equalIn 10000 24 (.agg (acC a).toArray) (.agg (acC c).toArray)).run Tryd.prog w = .ok b w := by
  have hf : ∀ x : Ac, (Value.agg (acC x).toArray).formed Tryd.prog 24 = true := fun x => by
    simp [Value.formed, Tryd.underlying24, cellsAc, acC]
  exact eq_lits 3 (by decide +kernel) (by decide) (hf a) (hf c) (keyLits_ac a ha) (keyLits_ac c hc) b (by rw [litsAc_inj, ← h, decide_eq_true_eq]) w
end Go.Proofs.YtcifncmfjlbhjaaDoor
