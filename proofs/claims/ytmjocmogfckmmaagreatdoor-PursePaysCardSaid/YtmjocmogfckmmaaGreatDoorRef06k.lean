/-
 The document's answers of layer 6: Put, Drop.
-/
import Derived.Test.YtmjocmogfckmmaaGreatDoorRf6
import Derived.Test.YtmjocmogfckmmaaGreatDoorRefE
import Derived.Test.YtmjocmogfckmmaaGreatDoorRefF
import Derived.Test.YtmjocmogfckmmaaGreatDoorTrD
namespace Go.Proofs.YtmjocmogfckmmaaGreatDoor
open Go.RowKit
set_option linter.unusedVariables false
set_option linter.unusedSimpArgs false
set_option maxRecDepth 100000

theorem all_short {t : Tr} (h : mayT t = true) : (∀ p ∈ allT t, p.v.length ≤ 1000000) ∧ (allT t).length ≤ 262144 := by
 obtain ⟨_, h2, h3, _⟩ := all_spec h
 have h4 := (mayT_iff.1 h).1
 exact ⟨fun p hp => by have := h2 p hp; unfold valB at this; simp at this; omega, by omega⟩

end Go.Proofs.YtmjocmogfckmmaaGreatDoor
