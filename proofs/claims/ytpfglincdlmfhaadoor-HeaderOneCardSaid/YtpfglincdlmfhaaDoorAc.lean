/-
  Accounts in memory, and compared.
-/
import Derived.Test.YtpfglincdlmfhaaDoorAcP
import Derived.Test.YtpfglincdlmfhaaDoorEqS
import Derived.Test.YtpfglincdlmfhaaDoorTrN
import Derived.Test.YtpfglincdlmfhaaDoorBits
namespace Go.Proofs.YtpfglincdlmfhaaDoor
open Go.RowKit
set_option linter.unusedVariables false
set_option maxRecDepth 100000

instance : Enc Ac := Enc.by_ fun a => (a.n, a.b)
def acC (a : Ac) : List Value := [.int .u64 (a.n : Int), .int .u64 (a.b : Int)]
theorem len_ac (a : Ac) : (acC a).length = 2 := rfl
theorem rep_ac {F : Nat → Prop} {w : World} {a : Ac} {vs : List Value} (h : Enc.rep F w a vs) : vs = acC a ∧ a.ok := by
  obtain ⟨us, ts, rfl, ⟨h1, h2⟩, ⟨h3, h4⟩⟩ := h
  exact ⟨by rw [h1, h3]; rfl, h2, h4⟩
theorem opensU64 : Opens Tryd.prog 48 Nat := Opens.u64 Tryd.underlying48 (by kernel_rfl)
theorem one_ac (a : Ac) : (acC a).toArray.all (·.oneCell') = true := all_oneCell_toArray (cs := acC a) fun u hu => by
  simp only [acC, List.mem_cons, List.not_mem_nil, or_false] at hu
  rcases hu with rfl | rfl <;> rfl
def litsAc (a : Ac) : List Lit := [litU a.n, litU a.b]
theorem litsAc_inj {a c : Ac} : litsAc a = litsAc c ↔ a = c := by
  constructor
  · intro h
    unfold litsAc litU at h
    injection h with h1 h2
    injection h2 with h2 _
    injection h1 with _ h1
    injection h2 with _ h2
    exact ac_ext (by omega) (by omega)
  · rintro rfl; rfl
end Go.Proofs.YtpfglincdlmfhaaDoor
