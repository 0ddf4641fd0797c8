/-
  Contracts of the landed package tag: those that read no listed variable.
-/
import Derived.Test.YtliahdlllmnkkaaTagC
namespace Go.Proofs.Ytliahdlllmnkkaa
end Go.Proofs.Ytliahdlllmnkkaa
