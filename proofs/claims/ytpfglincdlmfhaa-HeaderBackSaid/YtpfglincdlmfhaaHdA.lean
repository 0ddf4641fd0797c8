/-
  Contracts of the landed package header: all that are plain.
-/
import Derived.Test.YtpfglincdlmfhaaHdM
import Derived.Test.YtpfglincdlmfhaaHdF
import Derived.Test.YtpfglincdlmfhaaHdI
import Derived.Test.YtpfglincdlmfhaaHdQ
