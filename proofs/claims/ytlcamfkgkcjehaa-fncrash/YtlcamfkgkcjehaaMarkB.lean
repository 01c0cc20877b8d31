import Derived.Test.YtlcamfkgkcjehaaRows
import Derived.Test.YtlcamfkgkcjehaaOwn
namespace Go.Proofs.Ytlcamfkgkcjehaa
open Go.RowKit Go.Deep

end Go.Proofs.Ytlcamfkgkcjehaa
