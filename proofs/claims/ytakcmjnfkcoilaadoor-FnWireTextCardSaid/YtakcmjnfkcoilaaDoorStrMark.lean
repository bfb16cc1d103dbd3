import Derived.Test.YtakcmjnfkcoilaaDoorProg
import Derived.Test.YtakcmjnfkcoilaaDoorBase
import Derived.Test.YtakcmjnfkcoilaaDoorMark
import Derived.Deep.RegionHeld3
/- markStringS writes marks into a list of strings; heldStringS finds them there. -/
namespace Go.Proofs.YtakcmjnfkcoilaaDoor
open Go Go.RowKit

def marksS (k : Int) (n : Nat) : List ByteArray := marks markB k n
theorem marksS_len (k : Int) (n : Nat) : (marksS k n).length = n := by simp [marksS, marks]
theorem marksS_get (k : Int) (n j : Nat) (h : j < (marksS k n).length) : (marksS k n)[j] = markB (k + (j : Int)) := by simp [marksS, marks]

end Go.Proofs.YtakcmjnfkcoilaaDoor
