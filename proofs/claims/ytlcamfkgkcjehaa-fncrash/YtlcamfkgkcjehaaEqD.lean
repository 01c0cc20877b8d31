import Derived.Test.YtlcamfkgkcjehaaEqP
namespace Go.Proofs.Ytlcamfkgkcjehaa
open Go.RowKit Go.Deep

end Go.Proofs.Ytlcamfkgkcjehaa
