import Derived.Test.YtgjfflfldddebaaDoorProg
import Derived.Test.YtgjfflfldddebaaDoorBase
import Derived.Test.YtgjfflfldddebaaDoorMark
import Derived.Deep.RegionHeld3
import Derived.Deep.QuietTactic
import Derived.BigQuiet
import Derived.Test.YtgjfflfldddebaaDoorOpen
/- Entry: what the helpers of the exact laws do with values of this type and with lists of them. -/
namespace Go.Proofs.YtgjfflfldddebaaDoor
open Go Go.RowKit Go.ChangeShapes Go.WideShapes

abbrev EntryD := ByteArray × Int × Bool × ByteArray
def encEntry (x : EntryD) : List Value := [.string x.1, .int .i64 x.2.1, .bool x.2.2.1, .string x.2.2.2]
theorem encEntry_len (x : EntryD) : (encEntry x).length = 4 := rfl
def bulkEntry (x : EntryD) : Nat := x.1.size + x.2.2.2.size
def OkEntry (x : EntryD) : Prop := x.1.size ≤ maxLen ∧ x.2.2.2.size ≤ maxLen
def bulkEntryS (l : List EntryD) : Nat := l.length + sumTo bulkEntry l l.length

theorem cellsEntry {w wr : World} {b o : Nat} {l : List EntryD} (hb : Below w.heap.size w wr) (hc : ∀ j, (h : j < l.length) → ∀ i v, (encEntry l[j])[i]? = some v → w.cell? ⟨b, o + j * 4 + i, none⟩ = some v) (k : Nat) (h : k < l.length) :
    wr.cell? ⟨b, o + k * 4, none⟩ = some (.string l[k].1) ∧ wr.cell? ⟨b, o + k * 4 + 1, none⟩ = some (.int .i64 l[k].2.1) ∧ wr.cell? ⟨b, o + k * 4 + 2, none⟩ = some (.bool l[k].2.2.1) ∧ wr.cell? ⟨b, o + k * 4 + 3, none⟩ = some (.string l[k].2.2.2) := by
  have g : ∀ i v, (encEntry l[k])[i]? = some v → wr.cell? ⟨b, o + k * 4 + i, none⟩ = some v := fun i v hv => by
    have h0 := hc k h i v hv
    rw [hb.cell (by have := World.block_lt_of_cell? w _ h0; simpa using this)]
    exact h0
  exact ⟨g 0 _ rfl, g 1 _ rfl, g 2 _ rfl, g 3 _ rfl⟩




theorem infoEntry : (Tryd.prog.info? 100).map (fun i => (i.zero, i.size, i.bytes)) = some (some (.agg #[.string ⟨#[]⟩, .int .i64 0, .bool false, .string ⟨#[]⟩]), 4, 48) := by kernel_rfl






end Go.Proofs.YtgjfflfldddebaaDoor
