import Derived.Test.YtlcamfkgkcjehaaRows
import Derived.Test.YtlcamfkgkcjehaaBase
import Derived.Deep.QuietTactic
import Derived.BigQuiet
namespace Go.Proofs.Ytlcamfkgkcjehaa
open Go.RowKit Go.Deep

end Go.Proofs.Ytlcamfkgkcjehaa
