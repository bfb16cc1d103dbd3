import Derived.Test.YtfekpbkcidhbfaaDoorEntsJ2
/- MemGet of both sides. -/
namespace Go.Proofs.YtfekpbkcidhbfaaDoor
open Go Go.RowKit

/-- what MemGet answers -/
def optV (o : Option EntryD) : ByteArray := match o with | none => ⟨#[]⟩ | some e => e.2.2.2
def optB (o : Option EntryD) : Bool := match o with | none => false | some e => !e.2.2.1
def getV (l : List EntryD) (key : ByteArray) (seq : Int) : ByteArray := optV (getE l key seq)
def getB (l : List EntryD) (key : ByteArray) (seq : Int) : Bool := optB (getE l key seq)
/-- an entry that may be none, as a value -/
def optE (o : Option EntryD) : Value := match o with | none => .agg #[.string ⟨#[]⟩, .int .i64 0, .bool false, .string ⟨#[]⟩] | some e => .agg #[.string e.1, .int .i64 e.2.1, .bool e.2.2.1, .string e.2.2.2]

theorem optE_none {o : Option EntryD} (h : o = none) : Ending.returned (.tuple #[.agg #[.string ⟨#[]⟩, .int .i64 0, .bool false, .string ⟨#[]⟩], .bool false]) = .returned (.tuple #[optE o, .bool o.isSome]) := by subst h; rfl
theorem optE_some {o : Option EntryD} {x : EntryD} (h : o = some x) : Ending.returned (.tuple #[.agg #[.string x.1, .int .i64 x.2.1, .bool x.2.2.1, .string x.2.2.2], .bool true]) = .returned (.tuple #[optE o, .bool o.isSome]) := by subst h; rfl

end Go.Proofs.YtfekpbkcidhbfaaDoor
