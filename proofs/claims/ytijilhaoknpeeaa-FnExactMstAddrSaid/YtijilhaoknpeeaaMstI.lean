
/-
  The program's functions on masters, all but MstPost.
-/
import Derived.Test.YtijilhaoknpeeaaGMst2
import Derived.Test.YtijilhaoknpeeaaMstSz
namespace Go.Proofs.Ytijilhaoknpeeaa.KD
theorem implWantsI : WantsI := implWants
theorem implAddrI : AddrI := implAddr
end Go.Proofs.Ytijilhaoknpeeaa.KD
