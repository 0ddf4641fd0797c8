/-
  Contracts of the landed package tag: those that read no listed variable.
-/
import Derived.Test.YtliahdlllmnkkaaDoorTagC
namespace Go.Proofs.YtliahdlllmnkkaaDoor
end Go.Proofs.YtliahdlllmnkkaaDoor
