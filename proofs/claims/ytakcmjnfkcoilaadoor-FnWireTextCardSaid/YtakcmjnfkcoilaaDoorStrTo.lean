import Derived.Test.YtakcmjnfkcoilaaDoorProg
import Derived.Test.YtakcmjnfkcoilaaDoorBase
/- toStringS copies a list of strings into memory of its own. -/
namespace Go.Proofs.YtakcmjnfkcoilaaDoor
open Go Go.RowKit

theorem infoStr : (Tryd.prog.info? 9).map (fun i => (i.zero, i.size, i.bytes)) = some (some (.string ⟨#[]⟩), 1, 16) := by kernel_rfl

end Go.Proofs.YtakcmjnfkcoilaaDoor
