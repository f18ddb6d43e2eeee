
/-
  isMaster of the program: is a number a master of a configuration.
-/
import Derived.Test.YtijilhaoknpeeaaConf2
namespace Go.Proofs.Ytijilhaoknpeeaa.Num
open Go.RowKit GR

end Go.Proofs.Ytijilhaoknpeeaa.Num
