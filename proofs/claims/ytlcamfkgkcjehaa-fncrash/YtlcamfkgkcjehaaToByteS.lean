import Derived.Test.YtlcamfkgkcjehaaRows
import Derived.Test.YtlcamfkgkcjehaaBase
namespace Go.Proofs.Ytlcamfkgkcjehaa
open Go.RowKit Go.Deep

theorem Try.info5 : (Try.prog.info? 5).map (fun i => (i.zero, i.size, i.bytes)) = some (some (.int .u8 0), 1, 1) := by kernel_rfl

end Go.Proofs.Ytlcamfkgkcjehaa
