import Derived.Test.YtlcamfkgkcjehaaEqByteS
import Derived.Test.YtlcamfkgkcjehaaOwnP
import Derived.Deep.RegionWith
namespace Go.Proofs.Ytlcamfkgkcjehaa
open Go.RowKit Go.Deep

end Go.Proofs.Ytlcamfkgkcjehaa
