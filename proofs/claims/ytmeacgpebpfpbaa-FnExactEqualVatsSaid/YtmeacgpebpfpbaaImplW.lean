/- The program's IsValue and IsNumber. -/
import Derived.Test.YtmeacgpebpfpbaaAsk
namespace Go.Proofs.Ytmeacgpebpfpbaa
open Go.RowKit
end Go.Proofs.Ytmeacgpebpfpbaa
