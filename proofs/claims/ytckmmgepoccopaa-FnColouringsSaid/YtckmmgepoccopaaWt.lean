/- spec.l05Words. -/
import Derived.Test.YtckmmgepoccopaaWs
import Derived.Test.YtckmmgepoccopaaStc
namespace Go.Proofs.Ytckmmgepoccopaa
open Go.RowKit

end Go.Proofs.Ytckmmgepoccopaa
