/-
  Contracts of the landed package header: all that are plain.
-/
import Derived.Test.YtpfglincdlmfhaaDoorHdM
import Derived.Test.YtpfglincdlmfhaaDoorHdF
import Derived.Test.YtpfglincdlmfhaaDoorHdI
import Derived.Test.YtpfglincdlmfhaaDoorHdQ
