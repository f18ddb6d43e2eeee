
/-
  The program's firstBeats, reqsOk.
-/
import Derived.Test.YtdhaelaoackfkaaMst8
namespace Go.Proofs.Ytdhaelaoackfkaa.KD
open Go.RowKit Rows3 GR Num
set_option linter.unusedVariables false

end Go.Proofs.Ytdhaelaoackfkaa.KD
