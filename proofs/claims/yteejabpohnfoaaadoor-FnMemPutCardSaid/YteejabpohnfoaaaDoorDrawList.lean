import Derived.Test.YteejabpohnfoaaaDoorSpoilEnts
/- Drawn lists of entries with a moment, and with a beginning. -/
namespace Go.Proofs.YteejabpohnfoaaaDoor
open Go Go.RowKit

def TrimPost (w : World) (e : Ending) (w' : World) : Prop :=
  ∃ (b : Option Addr) (cb : Nat) (L : List EntryD) (q : Int) (z : Bool), e = .returned (.tuple #[.slice b L.length cb, .int .i64 q, .bool z]) ∧ ElS 4 encEntry w' b L ∧ L.length ≤ cb ∧ AnyE L ∧ L.length ≤ 241 ∧ 0 ≤ q ∧ q < 11 ∧ Below w.heap.size w w'
def ScanPost (w : World) (e : Ending) (w' : World) : Prop :=
  ∃ (b : Option Addr) (cb : Nat) (L : List EntryD) (s : ByteArray) (q : Int), e = .returned (.tuple #[.slice b L.length cb, .string s, .int .i64 q]) ∧ ElS 4 encEntry w' b L ∧ L.length ≤ cb ∧ AnyE L ∧ L.length ≤ 241 ∧ s.size ≤ 24 ∧ 0 ≤ q ∧ q < 11 ∧ Below w.heap.size w w'

end Go.Proofs.YteejabpohnfoaaaDoor
