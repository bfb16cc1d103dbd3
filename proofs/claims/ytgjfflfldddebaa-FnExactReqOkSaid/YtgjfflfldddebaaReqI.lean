import Derived.Test.YtgjfflfldddebaaMarksS
import Derived.Test.YtgjfflfldddebaaSpaceS
import Derived.WalkSpells
import Derived.Deep.RegionHeld3
/- Requests, of the program: reqOf, ok, reqBack, ReqOk. -/
namespace Go.Proofs.Ytgjfflfldddebaa
open Go Go.RowKit
set_option maxRecDepth 100000 in
set_option maxHeartbeats 4000000 in
theorem reqOf1 (sp nm tx : ByteArray) (n : Int) (w : World) : Calls Try.prog 40 #[.agg #[.int .i64 1, .string sp, .string nm, .int .i64 n, .string tx]] w fun e w' => e = .returned (.iface 115 (.agg #[.string sp, .string nm, .int .i64 n])) ∧ Below w.heap.size w w' := by
  go_enter Try.func40, Try.ntmps40
  go_wp2
  go_ret
  exact ⟨rfl, (by repeat (first | exact Below.refl _ _ | (refine Below.alloc ?_ (by first | (simp; done) | (simp; omega)) _) | (refine Below.setCell ?_ (by first | (simp; done) | (simp; omega)) _) | (refine Below.drew ?_)))⟩
set_option maxRecDepth 100000 in
set_option maxHeartbeats 4000000 in
theorem reqOf2 (sp nm tx : ByteArray) (n : Int) (w : World) : Calls Try.prog 40 #[.agg #[.int .i64 2, .string sp, .string nm, .int .i64 n, .string tx]] w fun e w' => e = .returned (.iface 117 (.agg #[.string sp, .int .i64 n])) ∧ Below w.heap.size w w' := by
  go_enter Try.func40, Try.ntmps40
  go_wp2
  go_ret
  exact ⟨rfl, (by repeat (first | exact Below.refl _ _ | (refine Below.alloc ?_ (by first | (simp; done) | (simp; omega)) _) | (refine Below.setCell ?_ (by first | (simp; done) | (simp; omega)) _) | (refine Below.drew ?_)))⟩
set_option maxRecDepth 100000 in
set_option maxHeartbeats 4000000 in
theorem reqOf3 (sp nm tx : ByteArray) (n : Int) (w : World) : Calls Try.prog 40 #[.agg #[.int .i64 3, .string sp, .string nm, .int .i64 n, .string tx]] w fun e w' => e = .returned (.iface 119 (.agg #[.string sp])) ∧ Below w.heap.size w w' := by
  go_enter Try.func40, Try.ntmps40
  go_wp2
  go_ret
  exact ⟨rfl, (by repeat (first | exact Below.refl _ _ | (refine Below.alloc ?_ (by first | (simp; done) | (simp; omega)) _) | (refine Below.setCell ?_ (by first | (simp; done) | (simp; omega)) _) | (refine Below.drew ?_)))⟩
set_option maxRecDepth 100000 in
set_option maxHeartbeats 4000000 in
theorem reqOf4 (sp nm tx : ByteArray) (n : Int) (w : World) : Calls Try.prog 40 #[.agg #[.int .i64 4, .string sp, .string nm, .int .i64 n, .string tx]] w fun e w' => e = .returned (.iface 121 (.agg #[.string sp, .string nm, .string tx])) ∧ Below w.heap.size w w' := by
  go_enter Try.func40, Try.ntmps40
  go_wp2
  go_ret
  exact ⟨rfl, (by repeat (first | exact Below.refl _ _ | (refine Below.alloc ?_ (by first | (simp; done) | (simp; omega)) _) | (refine Below.setCell ?_ (by first | (simp; done) | (simp; omega)) _) | (refine Below.drew ?_)))⟩
set_option maxRecDepth 100000 in
set_option maxHeartbeats 4000000 in
theorem reqOf5 (sp nm tx : ByteArray) (n : Int) (w : World) : Calls Try.prog 40 #[.agg #[.int .i64 5, .string sp, .string nm, .int .i64 n, .string tx]] w fun e w' => e = .returned (.iface 123 (.agg #[.string sp, .string nm, .int .i64 n, .string tx])) ∧ Below w.heap.size w w' := by
  go_enter Try.func40, Try.ntmps40
  go_wp2
  go_ret
  exact ⟨rfl, (by repeat (first | exact Below.refl _ _ | (refine Below.alloc ?_ (by first | (simp; done) | (simp; omega)) _) | (refine Below.setCell ?_ (by first | (simp; done) | (simp; omega)) _) | (refine Below.drew ?_)))⟩
set_option maxRecDepth 100000 in
set_option maxHeartbeats 4000000 in
theorem reqOf6 (sp nm tx : ByteArray) (n : Int) (w : World) : Calls Try.prog 40 #[.agg #[.int .i64 6, .string sp, .string nm, .int .i64 n, .string tx]] w fun e w' => e = .returned (.iface 125 (.agg #[.string sp, .string nm, .string tx])) ∧ Below w.heap.size w w' := by
  go_enter Try.func40, Try.ntmps40
  go_wp2
  go_ret
  exact ⟨rfl, (by repeat (first | exact Below.refl _ _ | (refine Below.alloc ?_ (by first | (simp; done) | (simp; omega)) _) | (refine Below.setCell ?_ (by first | (simp; done) | (simp; omega)) _) | (refine Below.drew ?_)))⟩
set_option maxRecDepth 100000 in
set_option maxHeartbeats 4000000 in
theorem reqOf7 (sp nm tx : ByteArray) (n : Int) (w : World) : Calls Try.prog 40 #[.agg #[.int .i64 7, .string sp, .string nm, .int .i64 n, .string tx]] w fun e w' => e = .returned (.iface 126 (.agg #[.string sp, .string nm, .string tx])) ∧ Below w.heap.size w w' := by
  go_enter Try.func40, Try.ntmps40
  go_wp2
  go_ret
  exact ⟨rfl, (by repeat (first | exact Below.refl _ _ | (refine Below.alloc ?_ (by first | (simp; done) | (simp; omega)) _) | (refine Below.setCell ?_ (by first | (simp; done) | (simp; omega)) _) | (refine Below.drew ?_)))⟩
set_option maxRecDepth 100000 in
set_option maxHeartbeats 4000000 in
theorem reqOf8 (sp nm tx : ByteArray) (n : Int) (w : World) : Calls Try.prog 40 #[.agg #[.int .i64 8, .string sp, .string nm, .int .i64 n, .string tx]] w fun e w' => e = .returned (.iface 128 (.agg #[.string sp, .string nm])) ∧ Below w.heap.size w w' := by
  go_enter Try.func40, Try.ntmps40
  go_wp2
  go_ret
  exact ⟨rfl, (by repeat (first | exact Below.refl _ _ | (refine Below.alloc ?_ (by first | (simp; done) | (simp; omega)) _) | (refine Below.setCell ?_ (by first | (simp; done) | (simp; omega)) _) | (refine Below.drew ?_)))⟩
set_option maxRecDepth 100000 in
set_option maxHeartbeats 4000000 in
theorem reqOf9 (sp nm tx : ByteArray) (n : Int) (w : World) : Calls Try.prog 40 #[.agg #[.int .i64 9, .string sp, .string nm, .int .i64 n, .string tx]] w fun e w' => e = .returned (.iface 129 (.agg #[.string sp, .string nm])) ∧ Below w.heap.size w w' := by
  go_enter Try.func40, Try.ntmps40
  go_wp2
  go_ret
  exact ⟨rfl, (by repeat (first | exact Below.refl _ _ | (refine Below.alloc ?_ (by first | (simp; done) | (simp; omega)) _) | (refine Below.setCell ?_ (by first | (simp; done) | (simp; omega)) _) | (refine Below.drew ?_)))⟩
set_option maxRecDepth 100000 in
set_option maxHeartbeats 4000000 in
theorem reqOf10 (sp nm tx : ByteArray) (n : Int) (w : World) : Calls Try.prog 40 #[.agg #[.int .i64 10, .string sp, .string nm, .int .i64 n, .string tx]] w fun e w' => e = .returned (.iface 130 (.agg #[.string sp])) ∧ Below w.heap.size w w' := by
  go_enter Try.func40, Try.ntmps40
  go_wp2
  go_ret
  exact ⟨rfl, (by repeat (first | exact Below.refl _ _ | (refine Below.alloc ?_ (by first | (simp; done) | (simp; omega)) _) | (refine Below.setCell ?_ (by first | (simp; done) | (simp; omega)) _) | (refine Below.drew ?_)))⟩
set_option maxRecDepth 100000 in
set_option maxHeartbeats 4000000 in
theorem reqOf11 (sp nm tx : ByteArray) (n : Int) (w : World) : Calls Try.prog 40 #[.agg #[.int .i64 11, .string sp, .string nm, .int .i64 n, .string tx]] w fun e w' => e = .returned (.iface 132 (.agg #[.string sp, .int .i64 n])) ∧ Below w.heap.size w w' := by
  go_enter Try.func40, Try.ntmps40
  go_wp2
  go_ret
  exact ⟨rfl, (by repeat (first | exact Below.refl _ _ | (refine Below.alloc ?_ (by first | (simp; done) | (simp; omega)) _) | (refine Below.setCell ?_ (by first | (simp; done) | (simp; omega)) _) | (refine Below.drew ?_)))⟩
set_option maxRecDepth 100000 in
set_option maxHeartbeats 4000000 in
theorem reqOf12 (sp nm tx : ByteArray) (n : Int) (w : World) : Calls Try.prog 40 #[.agg #[.int .i64 12, .string sp, .string nm, .int .i64 n, .string tx]] w fun e w' => e = .returned (.iface 134 (.agg #[])) ∧ Below w.heap.size w w' := by
  go_enter Try.func40, Try.ntmps40
  go_wp2
  go_ret
  exact ⟨rfl, (by repeat (first | exact Below.refl _ _ | (refine Below.alloc ?_ (by first | (simp; done) | (simp; omega)) _) | (refine Below.setCell ?_ (by first | (simp; done) | (simp; omega)) _) | (refine Below.drew ?_)))⟩
section
variable {P : Program}
theorem ta_yes {T I : TypeId} {d : TypeDesc} (hu : P.underlying T = some d) (hd : ∀ m, d ≠ .interface m) (v : Value) (W : World) : (Instr.typeAssert (.iface T v) I T true).run P W = .ok (.tuple #[v, .bool true]) W := by
  cases d <;> first | exact absurd rfl (hd _) | simp [Instr.typeAssert, run_underlying hu]
theorem ta_no {t T I : TypeId} {d : TypeDesc} {z : Value} (hu : P.underlying T = some d) (hd : ∀ m, d ≠ .interface m) (hne : t ≠ T) (hz : (P.info? T).map (·.zero) = some (some z)) (v : Value) (W : World) : (Instr.typeAssert (.iface t v) I T true).run P W = .ok (.tuple #[z, .bool false]) W := by
  obtain ⟨i, hi, hz⟩ := Option.map_eq_some_iff.1 hz
  cases d <;> first | exact absurd rfl (hd _) | simp [Instr.typeAssert, run_underlying hu, hne, zeroValue, typeInfo, hi, hz]
end
set_option maxRecDepth 100000 in
set_option maxHeartbeats 4000000 in
theorem reqBack1 (sp nm : ByteArray) (n : Int) (w : World) : Calls Try.prog 41 #[.iface 115 (.agg #[.string sp, .string nm, .int .i64 n])] w fun e w' => e = .returned (.agg #[.int .i64 1, .string sp, .string nm, .int .i64 n, .string ⟨#[]⟩]) ∧ Below w.heap.size w w' := by
  have y1 : ∀ W, (Instr.typeAssert (.iface 115 (.agg #[.string sp, .string nm, .int .i64 n])) 71 115 true).run Try.prog W = .ok (.tuple #[.agg #[.string sp, .string nm, .int .i64 n], .bool true]) W := fun W => ta_yes Try.underlying115 (by intro m h; cases h) _ W
  go_enter Try.func41, Try.ntmps41
  go_wp2
  refine bodyPost_ret (v := .agg #[.int .i64 1, .string sp, .string nm, .int .i64 n, .string ⟨#[]⟩]) (by simp [results, Try.results41, go_sem]) rfl ⟨rfl, (by repeat (first | exact Below.refl _ _ | (refine Below.alloc ?_ (by first | (simp; done) | (simp; omega)) _) | (refine Below.setCell ?_ (by first | (simp; done) | (simp; omega)) _) | (refine Below.drew ?_)))⟩
set_option maxRecDepth 100000 in
set_option maxHeartbeats 4000000 in
theorem reqBack2 (sp : ByteArray) (n : Int) (w : World) : Calls Try.prog 41 #[.iface 117 (.agg #[.string sp, .int .i64 n])] w fun e w' => e = .returned (.agg #[.int .i64 2, .string sp, .string ⟨#[]⟩, .int .i64 n, .string ⟨#[]⟩]) ∧ Below w.heap.size w w' := by
  have n1 : ∀ W, (Instr.typeAssert (.iface 117 (.agg #[.string sp, .int .i64 n])) 71 115 true).run Try.prog W = .ok (.tuple #[.agg #[.string ⟨#[]⟩, .string ⟨#[]⟩, .int .i64 0], .bool false]) W := fun W => ta_no Try.underlying115 (by intro m h; cases h) (by decide) (by kernel_rfl) _ W
  have y2 : ∀ W, (Instr.typeAssert (.iface 117 (.agg #[.string sp, .int .i64 n])) 71 117 true).run Try.prog W = .ok (.tuple #[.agg #[.string sp, .int .i64 n], .bool true]) W := fun W => ta_yes Try.underlying117 (by intro m h; cases h) _ W
  go_enter Try.func41, Try.ntmps41
  go_wp2
  refine bodyPost_ret (v := .agg #[.int .i64 2, .string sp, .string ⟨#[]⟩, .int .i64 n, .string ⟨#[]⟩]) (by simp [results, Try.results41, go_sem]) rfl ⟨rfl, (by repeat (first | exact Below.refl _ _ | (refine Below.alloc ?_ (by first | (simp; done) | (simp; omega)) _) | (refine Below.setCell ?_ (by first | (simp; done) | (simp; omega)) _) | (refine Below.drew ?_)))⟩
set_option maxRecDepth 100000 in
set_option maxHeartbeats 4000000 in
theorem reqBack3 (sp : ByteArray) (w : World) : Calls Try.prog 41 #[.iface 119 (.agg #[.string sp])] w fun e w' => e = .returned (.agg #[.int .i64 3, .string sp, .string ⟨#[]⟩, .int .i64 0, .string ⟨#[]⟩]) ∧ Below w.heap.size w w' := by
  have n1 : ∀ W, (Instr.typeAssert (.iface 119 (.agg #[.string sp])) 71 115 true).run Try.prog W = .ok (.tuple #[.agg #[.string ⟨#[]⟩, .string ⟨#[]⟩, .int .i64 0], .bool false]) W := fun W => ta_no Try.underlying115 (by intro m h; cases h) (by decide) (by kernel_rfl) _ W
  have n2 : ∀ W, (Instr.typeAssert (.iface 119 (.agg #[.string sp])) 71 117 true).run Try.prog W = .ok (.tuple #[.agg #[.string ⟨#[]⟩, .int .i64 0], .bool false]) W := fun W => ta_no Try.underlying117 (by intro m h; cases h) (by decide) (by kernel_rfl) _ W
  have y3 : ∀ W, (Instr.typeAssert (.iface 119 (.agg #[.string sp])) 71 119 true).run Try.prog W = .ok (.tuple #[.agg #[.string sp], .bool true]) W := fun W => ta_yes Try.underlying119 (by intro m h; cases h) _ W
  go_enter Try.func41, Try.ntmps41
  go_wp2
  refine bodyPost_ret (v := .agg #[.int .i64 3, .string sp, .string ⟨#[]⟩, .int .i64 0, .string ⟨#[]⟩]) (by simp [results, Try.results41, go_sem]) rfl ⟨rfl, (by repeat (first | exact Below.refl _ _ | (refine Below.alloc ?_ (by first | (simp; done) | (simp; omega)) _) | (refine Below.setCell ?_ (by first | (simp; done) | (simp; omega)) _) | (refine Below.drew ?_)))⟩
set_option maxRecDepth 100000 in
set_option maxHeartbeats 4000000 in
theorem reqBack4 (sp nm tx : ByteArray) (w : World) : Calls Try.prog 41 #[.iface 121 (.agg #[.string sp, .string nm, .string tx])] w fun e w' => e = .returned (.agg #[.int .i64 4, .string sp, .string nm, .int .i64 0, .string tx]) ∧ Below w.heap.size w w' := by
  have n1 : ∀ W, (Instr.typeAssert (.iface 121 (.agg #[.string sp, .string nm, .string tx])) 71 115 true).run Try.prog W = .ok (.tuple #[.agg #[.string ⟨#[]⟩, .string ⟨#[]⟩, .int .i64 0], .bool false]) W := fun W => ta_no Try.underlying115 (by intro m h; cases h) (by decide) (by kernel_rfl) _ W
  have n2 : ∀ W, (Instr.typeAssert (.iface 121 (.agg #[.string sp, .string nm, .string tx])) 71 117 true).run Try.prog W = .ok (.tuple #[.agg #[.string ⟨#[]⟩, .int .i64 0], .bool false]) W := fun W => ta_no Try.underlying117 (by intro m h; cases h) (by decide) (by kernel_rfl) _ W
  have n3 : ∀ W, (Instr.typeAssert (.iface 121 (.agg #[.string sp, .string nm, .string tx])) 71 119 true).run Try.prog W = .ok (.tuple #[.agg #[.string ⟨#[]⟩], .bool false]) W := fun W => ta_no Try.underlying119 (by intro m h; cases h) (by decide) (by kernel_rfl) _ W
  have y4 : ∀ W, (Instr.typeAssert (.iface 121 (.agg #[.string sp, .string nm, .string tx])) 71 121 true).run Try.prog W = .ok (.tuple #[.agg #[.string sp, .string nm, .string tx], .bool true]) W := fun W => ta_yes Try.underlying121 (by intro m h; cases h) _ W
  go_enter Try.func41, Try.ntmps41
  go_wp2
  refine bodyPost_ret (v := .agg #[.int .i64 4, .string sp, .string nm, .int .i64 0, .string tx]) (by simp [results, Try.results41, go_sem]) rfl ⟨rfl, (by repeat (first | exact Below.refl _ _ | (refine Below.alloc ?_ (by first | (simp; done) | (simp; omega)) _) | (refine Below.setCell ?_ (by first | (simp; done) | (simp; omega)) _) | (refine Below.drew ?_)))⟩
set_option maxRecDepth 100000 in
set_option maxHeartbeats 4000000 in
theorem reqBack5 (sp nm tx : ByteArray) (n : Int) (w : World) : Calls Try.prog 41 #[.iface 123 (.agg #[.string sp, .string nm, .int .i64 n, .string tx])] w fun e w' => e = .returned (.agg #[.int .i64 5, .string sp, .string nm, .int .i64 n, .string tx]) ∧ Below w.heap.size w w' := by
  have n1 : ∀ W, (Instr.typeAssert (.iface 123 (.agg #[.string sp, .string nm, .int .i64 n, .string tx])) 71 115 true).run Try.prog W = .ok (.tuple #[.agg #[.string ⟨#[]⟩, .string ⟨#[]⟩, .int .i64 0], .bool false]) W := fun W => ta_no Try.underlying115 (by intro m h; cases h) (by decide) (by kernel_rfl) _ W
  have n2 : ∀ W, (Instr.typeAssert (.iface 123 (.agg #[.string sp, .string nm, .int .i64 n, .string tx])) 71 117 true).run Try.prog W = .ok (.tuple #[.agg #[.string ⟨#[]⟩, .int .i64 0], .bool false]) W := fun W => ta_no Try.underlying117 (by intro m h; cases h) (by decide) (by kernel_rfl) _ W
  have n3 : ∀ W, (Instr.typeAssert (.iface 123 (.agg #[.string sp, .string nm, .int .i64 n, .string tx])) 71 119 true).run Try.prog W = .ok (.tuple #[.agg #[.string ⟨#[]⟩], .bool false]) W := fun W => ta_no Try.underlying119 (by intro m h; cases h) (by decide) (by kernel_rfl) _ W
  have n4 : ∀ W, (Instr.typeAssert (.iface 123 (.agg #[.string sp, .string nm, .int .i64 n, .string tx])) 71 121 true).run Try.prog W = .ok (.tuple #[.agg #[.string ⟨#[]⟩, .string ⟨#[]⟩, .string ⟨#[]⟩], .bool false]) W := fun W => ta_no Try.underlying121 (by intro m h; cases h) (by decide) (by kernel_rfl) _ W
  have y5 : ∀ W, (Instr.typeAssert (.iface 123 (.agg #[.string sp, .string nm, .int .i64 n, .string tx])) 71 123 true).run Try.prog W = .ok (.tuple #[.agg #[.string sp, .string nm, .int .i64 n, .string tx], .bool true]) W := fun W => ta_yes Try.underlying123 (by intro m h; cases h) _ W
  go_enter Try.func41, Try.ntmps41
  go_wp2
  refine bodyPost_ret (v := .agg #[.int .i64 5, .string sp, .string nm, .int .i64 n, .string tx]) (by simp [results, Try.results41, go_sem]) rfl ⟨rfl, (by repeat (first | exact Below.refl _ _ | (refine Below.alloc ?_ (by first | (simp; done) | (simp; omega)) _) | (refine Below.setCell ?_ (by first | (simp; done) | (simp; omega)) _) | (refine Below.drew ?_)))⟩
set_option maxRecDepth 100000 in
set_option maxHeartbeats 4000000 in
theorem reqBack6 (sp nm tx : ByteArray) (w : World) : Calls Try.prog 41 #[.iface 125 (.agg #[.string sp, .string nm, .string tx])] w fun e w' => e = .returned (.agg #[.int .i64 6, .string sp, .string nm, .int .i64 0, .string tx]) ∧ Below w.heap.size w w' := by
  have n1 : ∀ W, (Instr.typeAssert (.iface 125 (.agg #[.string sp, .string nm, .string tx])) 71 115 true).run Try.prog W = .ok (.tuple #[.agg #[.string ⟨#[]⟩, .string ⟨#[]⟩, .int .i64 0], .bool false]) W := fun W => ta_no Try.underlying115 (by intro m h; cases h) (by decide) (by kernel_rfl) _ W
  have n2 : ∀ W, (Instr.typeAssert (.iface 125 (.agg #[.string sp, .string nm, .string tx])) 71 117 true).run Try.prog W = .ok (.tuple #[.agg #[.string ⟨#[]⟩, .int .i64 0], .bool false]) W := fun W => ta_no Try.underlying117 (by intro m h; cases h) (by decide) (by kernel_rfl) _ W
  have n3 : ∀ W, (Instr.typeAssert (.iface 125 (.agg #[.string sp, .string nm, .string tx])) 71 119 true).run Try.prog W = .ok (.tuple #[.agg #[.string ⟨#[]⟩], .bool false]) W := fun W => ta_no Try.underlying119 (by intro m h; cases h) (by decide) (by kernel_rfl) _ W
  have n4 : ∀ W, (Instr.typeAssert (.iface 125 (.agg #[.string sp, .string nm, .string tx])) 71 121 true).run Try.prog W = .ok (.tuple #[.agg #[.string ⟨#[]⟩, .string ⟨#[]⟩, .string ⟨#[]⟩], .bool false]) W := fun W => ta_no Try.underlying121 (by intro m h; cases h) (by decide) (by kernel_rfl) _ W
  have n5 : ∀ W, (Instr.typeAssert (.iface 125 (.agg #[.string sp, .string nm, .string tx])) 71 123 true).run Try.prog W = .ok (.tuple #[.agg #[.string ⟨#[]⟩, .string ⟨#[]⟩, .int .i64 0, .string ⟨#[]⟩], .bool false]) W := fun W => ta_no Try.underlying123 (by intro m h; cases h) (by decide) (by kernel_rfl) _ W
  have y6 : ∀ W, (Instr.typeAssert (.iface 125 (.agg #[.string sp, .string nm, .string tx])) 71 125 true).run Try.prog W = .ok (.tuple #[.agg #[.string sp, .string nm, .string tx], .bool true]) W := fun W => ta_yes Try.underlying125 (by intro m h; cases h) _ W
  go_enter Try.func41, Try.ntmps41
  go_wp2
  refine bodyPost_ret (v := .agg #[.int .i64 6, .string sp, .string nm, .int .i64 0, .string tx]) (by simp [results, Try.results41, go_sem]) rfl ⟨rfl, (by repeat (first | exact Below.refl _ _ | (refine Below.alloc ?_ (by first | (simp; done) | (simp; omega)) _) | (refine Below.setCell ?_ (by first | (simp; done) | (simp; omega)) _) | (refine Below.drew ?_)))⟩
set_option maxRecDepth 100000 in
set_option maxHeartbeats 4000000 in
theorem reqBack7 (sp nm tx : ByteArray) (w : World) : Calls Try.prog 41 #[.iface 126 (.agg #[.string sp, .string nm, .string tx])] w fun e w' => e = .returned (.agg #[.int .i64 7, .string sp, .string nm, .int .i64 0, .string tx]) ∧ Below w.heap.size w w' := by
  have n1 : ∀ W, (Instr.typeAssert (.iface 126 (.agg #[.string sp, .string nm, .string tx])) 71 115 true).run Try.prog W = .ok (.tuple #[.agg #[.string ⟨#[]⟩, .string ⟨#[]⟩, .int .i64 0], .bool false]) W := fun W => ta_no Try.underlying115 (by intro m h; cases h) (by decide) (by kernel_rfl) _ W
  have n2 : ∀ W, (Instr.typeAssert (.iface 126 (.agg #[.string sp, .string nm, .string tx])) 71 117 true).run Try.prog W = .ok (.tuple #[.agg #[.string ⟨#[]⟩, .int .i64 0], .bool false]) W := fun W => ta_no Try.underlying117 (by intro m h; cases h) (by decide) (by kernel_rfl) _ W
  have n3 : ∀ W, (Instr.typeAssert (.iface 126 (.agg #[.string sp, .string nm, .string tx])) 71 119 true).run Try.prog W = .ok (.tuple #[.agg #[.string ⟨#[]⟩], .bool false]) W := fun W => ta_no Try.underlying119 (by intro m h; cases h) (by decide) (by kernel_rfl) _ W
  have n4 : ∀ W, (Instr.typeAssert (.iface 126 (.agg #[.string sp, .string nm, .string tx])) 71 121 true).run Try.prog W = .ok (.tuple #[.agg #[.string ⟨#[]⟩, .string ⟨#[]⟩, .string ⟨#[]⟩], .bool false]) W := fun W => ta_no Try.underlying121 (by intro m h; cases h) (by decide) (by kernel_rfl) _ W
  have n5 : ∀ W, (Instr.typeAssert (.iface 126 (.agg #[.string sp, .string nm, .string tx])) 71 123 true).run Try.prog W = .ok (.tuple #[.agg #[.string ⟨#[]⟩, .string ⟨#[]⟩, .int .i64 0, .string ⟨#[]⟩], .bool false]) W := fun W => ta_no Try.underlying123 (by intro m h; cases h) (by decide) (by kernel_rfl) _ W
  have n6 : ∀ W, (Instr.typeAssert (.iface 126 (.agg #[.string sp, .string nm, .string tx])) 71 125 true).run Try.prog W = .ok (.tuple #[.agg #[.string ⟨#[]⟩, .string ⟨#[]⟩, .string ⟨#[]⟩], .bool false]) W := fun W => ta_no Try.underlying125 (by intro m h; cases h) (by decide) (by kernel_rfl) _ W
  have y7 : ∀ W, (Instr.typeAssert (.iface 126 (.agg #[.string sp, .string nm, .string tx])) 71 126 true).run Try.prog W = .ok (.tuple #[.agg #[.string sp, .string nm, .string tx], .bool true]) W := fun W => ta_yes Try.underlying126 (by intro m h; cases h) _ W
  go_enter Try.func41, Try.ntmps41
  go_wp2
  refine bodyPost_ret (v := .agg #[.int .i64 7, .string sp, .string nm, .int .i64 0, .string tx]) (by simp [results, Try.results41, go_sem]) rfl ⟨rfl, (by repeat (first | exact Below.refl _ _ | (refine Below.alloc ?_ (by first | (simp; done) | (simp; omega)) _) | (refine Below.setCell ?_ (by first | (simp; done) | (simp; omega)) _) | (refine Below.drew ?_)))⟩
set_option maxRecDepth 100000 in
set_option maxHeartbeats 4000000 in
theorem reqBack8 (sp nm : ByteArray) (w : World) : Calls Try.prog 41 #[.iface 128 (.agg #[.string sp, .string nm])] w fun e w' => e = .returned (.agg #[.int .i64 8, .string sp, .string nm, .int .i64 0, .string ⟨#[]⟩]) ∧ Below w.heap.size w w' := by
  have n1 : ∀ W, (Instr.typeAssert (.iface 128 (.agg #[.string sp, .string nm])) 71 115 true).run Try.prog W = .ok (.tuple #[.agg #[.string ⟨#[]⟩, .string ⟨#[]⟩, .int .i64 0], .bool false]) W := fun W => ta_no Try.underlying115 (by intro m h; cases h) (by decide) (by kernel_rfl) _ W
  have n2 : ∀ W, (Instr.typeAssert (.iface 128 (.agg #[.string sp, .string nm])) 71 117 true).run Try.prog W = .ok (.tuple #[.agg #[.string ⟨#[]⟩, .int .i64 0], .bool false]) W := fun W => ta_no Try.underlying117 (by intro m h; cases h) (by decide) (by kernel_rfl) _ W
  have n3 : ∀ W, (Instr.typeAssert (.iface 128 (.agg #[.string sp, .string nm])) 71 119 true).run Try.prog W = .ok (.tuple #[.agg #[.string ⟨#[]⟩], .bool false]) W := fun W => ta_no Try.underlying119 (by intro m h; cases h) (by decide) (by kernel_rfl) _ W
  have n4 : ∀ W, (Instr.typeAssert (.iface 128 (.agg #[.string sp, .string nm])) 71 121 true).run Try.prog W = .ok (.tuple #[.agg #[.string ⟨#[]⟩, .string ⟨#[]⟩, .string ⟨#[]⟩], .bool false]) W := fun W => ta_no Try.underlying121 (by intro m h; cases h) (by decide) (by kernel_rfl) _ W
  have n5 : ∀ W, (Instr.typeAssert (.iface 128 (.agg #[.string sp, .string nm])) 71 123 true).run Try.prog W = .ok (.tuple #[.agg #[.string ⟨#[]⟩, .string ⟨#[]⟩, .int .i64 0, .string ⟨#[]⟩], .bool false]) W := fun W => ta_no Try.underlying123 (by intro m h; cases h) (by decide) (by kernel_rfl) _ W
  have n6 : ∀ W, (Instr.typeAssert (.iface 128 (.agg #[.string sp, .string nm])) 71 125 true).run Try.prog W = .ok (.tuple #[.agg #[.string ⟨#[]⟩, .string ⟨#[]⟩, .string ⟨#[]⟩], .bool false]) W := fun W => ta_no Try.underlying125 (by intro m h; cases h) (by decide) (by kernel_rfl) _ W
  have n7 : ∀ W, (Instr.typeAssert (.iface 128 (.agg #[.string sp, .string nm])) 71 126 true).run Try.prog W = .ok (.tuple #[.agg #[.string ⟨#[]⟩, .string ⟨#[]⟩, .string ⟨#[]⟩], .bool false]) W := fun W => ta_no Try.underlying126 (by intro m h; cases h) (by decide) (by kernel_rfl) _ W
  have y8 : ∀ W, (Instr.typeAssert (.iface 128 (.agg #[.string sp, .string nm])) 71 128 true).run Try.prog W = .ok (.tuple #[.agg #[.string sp, .string nm], .bool true]) W := fun W => ta_yes Try.underlying128 (by intro m h; cases h) _ W
  go_enter Try.func41, Try.ntmps41
  go_wp2
  refine bodyPost_ret (v := .agg #[.int .i64 8, .string sp, .string nm, .int .i64 0, .string ⟨#[]⟩]) (by simp [results, Try.results41, go_sem]) rfl ⟨rfl, (by repeat (first | exact Below.refl _ _ | (refine Below.alloc ?_ (by first | (simp; done) | (simp; omega)) _) | (refine Below.setCell ?_ (by first | (simp; done) | (simp; omega)) _) | (refine Below.drew ?_)))⟩
set_option maxRecDepth 100000 in
set_option maxHeartbeats 4000000 in
theorem reqBack9 (sp nm : ByteArray) (w : World) : Calls Try.prog 41 #[.iface 129 (.agg #[.string sp, .string nm])] w fun e w' => e = .returned (.agg #[.int .i64 9, .string sp, .string nm, .int .i64 0, .string ⟨#[]⟩]) ∧ Below w.heap.size w w' := by
  have n1 : ∀ W, (Instr.typeAssert (.iface 129 (.agg #[.string sp, .string nm])) 71 115 true).run Try.prog W = .ok (.tuple #[.agg #[.string ⟨#[]⟩, .string ⟨#[]⟩, .int .i64 0], .bool false]) W := fun W => ta_no Try.underlying115 (by intro m h; cases h) (by decide) (by kernel_rfl) _ W
  have n2 : ∀ W, (Instr.typeAssert (.iface 129 (.agg #[.string sp, .string nm])) 71 117 true).run Try.prog W = .ok (.tuple #[.agg #[.string ⟨#[]⟩, .int .i64 0], .bool false]) W := fun W => ta_no Try.underlying117 (by intro m h; cases h) (by decide) (by kernel_rfl) _ W
  have n3 : ∀ W, (Instr.typeAssert (.iface 129 (.agg #[.string sp, .string nm])) 71 119 true).run Try.prog W = .ok (.tuple #[.agg #[.string ⟨#[]⟩], .bool false]) W := fun W => ta_no Try.underlying119 (by intro m h; cases h) (by decide) (by kernel_rfl) _ W
  have n4 : ∀ W, (Instr.typeAssert (.iface 129 (.agg #[.string sp, .string nm])) 71 121 true).run Try.prog W = .ok (.tuple #[.agg #[.string ⟨#[]⟩, .string ⟨#[]⟩, .string ⟨#[]⟩], .bool false]) W := fun W => ta_no Try.underlying121 (by intro m h; cases h) (by decide) (by kernel_rfl) _ W
  have n5 : ∀ W, (Instr.typeAssert (.iface 129 (.agg #[.string sp, .string nm])) 71 123 true).run Try.prog W = .ok (.tuple #[.agg #[.string ⟨#[]⟩, .string ⟨#[]⟩, .int .i64 0, .string ⟨#[]⟩], .bool false]) W := fun W => ta_no Try.underlying123 (by intro m h; cases h) (by decide) (by kernel_rfl) _ W
  have n6 : ∀ W, (Instr.typeAssert (.iface 129 (.agg #[.string sp, .string nm])) 71 125 true).run Try.prog W = .ok (.tuple #[.agg #[.string ⟨#[]⟩, .string ⟨#[]⟩, .string ⟨#[]⟩], .bool false]) W := fun W => ta_no Try.underlying125 (by intro m h; cases h) (by decide) (by kernel_rfl) _ W
  have n7 : ∀ W, (Instr.typeAssert (.iface 129 (.agg #[.string sp, .string nm])) 71 126 true).run Try.prog W = .ok (.tuple #[.agg #[.string ⟨#[]⟩, .string ⟨#[]⟩, .string ⟨#[]⟩], .bool false]) W := fun W => ta_no Try.underlying126 (by intro m h; cases h) (by decide) (by kernel_rfl) _ W
  have n8 : ∀ W, (Instr.typeAssert (.iface 129 (.agg #[.string sp, .string nm])) 71 128 true).run Try.prog W = .ok (.tuple #[.agg #[.string ⟨#[]⟩, .string ⟨#[]⟩], .bool false]) W := fun W => ta_no Try.underlying128 (by intro m h; cases h) (by decide) (by kernel_rfl) _ W
  have y9 : ∀ W, (Instr.typeAssert (.iface 129 (.agg #[.string sp, .string nm])) 71 129 true).run Try.prog W = .ok (.tuple #[.agg #[.string sp, .string nm], .bool true]) W := fun W => ta_yes Try.underlying129 (by intro m h; cases h) _ W
  go_enter Try.func41, Try.ntmps41
  go_wp2
  refine bodyPost_ret (v := .agg #[.int .i64 9, .string sp, .string nm, .int .i64 0, .string ⟨#[]⟩]) (by simp [results, Try.results41, go_sem]) rfl ⟨rfl, (by repeat (first | exact Below.refl _ _ | (refine Below.alloc ?_ (by first | (simp; done) | (simp; omega)) _) | (refine Below.setCell ?_ (by first | (simp; done) | (simp; omega)) _) | (refine Below.drew ?_)))⟩
set_option maxRecDepth 100000 in
set_option maxHeartbeats 4000000 in
theorem reqBack10 (sp : ByteArray) (w : World) : Calls Try.prog 41 #[.iface 130 (.agg #[.string sp])] w fun e w' => e = .returned (.agg #[.int .i64 10, .string sp, .string ⟨#[]⟩, .int .i64 0, .string ⟨#[]⟩]) ∧ Below w.heap.size w w' := by
  have n1 : ∀ W, (Instr.typeAssert (.iface 130 (.agg #[.string sp])) 71 115 true).run Try.prog W = .ok (.tuple #[.agg #[.string ⟨#[]⟩, .string ⟨#[]⟩, .int .i64 0], .bool false]) W := fun W => ta_no Try.underlying115 (by intro m h; cases h) (by decide) (by kernel_rfl) _ W
  have n2 : ∀ W, (Instr.typeAssert (.iface 130 (.agg #[.string sp])) 71 117 true).run Try.prog W = .ok (.tuple #[.agg #[.string ⟨#[]⟩, .int .i64 0], .bool false]) W := fun W => ta_no Try.underlying117 (by intro m h; cases h) (by decide) (by kernel_rfl) _ W
  have n3 : ∀ W, (Instr.typeAssert (.iface 130 (.agg #[.string sp])) 71 119 true).run Try.prog W = .ok (.tuple #[.agg #[.string ⟨#[]⟩], .bool false]) W := fun W => ta_no Try.underlying119 (by intro m h; cases h) (by decide) (by kernel_rfl) _ W
  have n4 : ∀ W, (Instr.typeAssert (.iface 130 (.agg #[.string sp])) 71 121 true).run Try.prog W = .ok (.tuple #[.agg #[.string ⟨#[]⟩, .string ⟨#[]⟩, .string ⟨#[]⟩], .bool false]) W := fun W => ta_no Try.underlying121 (by intro m h; cases h) (by decide) (by kernel_rfl) _ W
  have n5 : ∀ W, (Instr.typeAssert (.iface 130 (.agg #[.string sp])) 71 123 true).run Try.prog W = .ok (.tuple #[.agg #[.string ⟨#[]⟩, .string ⟨#[]⟩, .int .i64 0, .string ⟨#[]⟩], .bool false]) W := fun W => ta_no Try.underlying123 (by intro m h; cases h) (by decide) (by kernel_rfl) _ W
  have n6 : ∀ W, (Instr.typeAssert (.iface 130 (.agg #[.string sp])) 71 125 true).run Try.prog W = .ok (.tuple #[.agg #[.string ⟨#[]⟩, .string ⟨#[]⟩, .string ⟨#[]⟩], .bool false]) W := fun W => ta_no Try.underlying125 (by intro m h; cases h) (by decide) (by kernel_rfl) _ W
  have n7 : ∀ W, (Instr.typeAssert (.iface 130 (.agg #[.string sp])) 71 126 true).run Try.prog W = .ok (.tuple #[.agg #[.string ⟨#[]⟩, .string ⟨#[]⟩, .string ⟨#[]⟩], .bool false]) W := fun W => ta_no Try.underlying126 (by intro m h; cases h) (by decide) (by kernel_rfl) _ W
  have n8 : ∀ W, (Instr.typeAssert (.iface 130 (.agg #[.string sp])) 71 128 true).run Try.prog W = .ok (.tuple #[.agg #[.string ⟨#[]⟩, .string ⟨#[]⟩], .bool false]) W := fun W => ta_no Try.underlying128 (by intro m h; cases h) (by decide) (by kernel_rfl) _ W
  have n9 : ∀ W, (Instr.typeAssert (.iface 130 (.agg #[.string sp])) 71 129 true).run Try.prog W = .ok (.tuple #[.agg #[.string ⟨#[]⟩, .string ⟨#[]⟩], .bool false]) W := fun W => ta_no Try.underlying129 (by intro m h; cases h) (by decide) (by kernel_rfl) _ W
  have y10 : ∀ W, (Instr.typeAssert (.iface 130 (.agg #[.string sp])) 71 130 true).run Try.prog W = .ok (.tuple #[.agg #[.string sp], .bool true]) W := fun W => ta_yes Try.underlying130 (by intro m h; cases h) _ W
  go_enter Try.func41, Try.ntmps41
  go_wp2
  refine bodyPost_ret (v := .agg #[.int .i64 10, .string sp, .string ⟨#[]⟩, .int .i64 0, .string ⟨#[]⟩]) (by simp [results, Try.results41, go_sem]) rfl ⟨rfl, (by repeat (first | exact Below.refl _ _ | (refine Below.alloc ?_ (by first | (simp; done) | (simp; omega)) _) | (refine Below.setCell ?_ (by first | (simp; done) | (simp; omega)) _) | (refine Below.drew ?_)))⟩
set_option maxRecDepth 100000 in
set_option maxHeartbeats 4000000 in
theorem reqBack11 (sp : ByteArray) (n : Int) (w : World) : Calls Try.prog 41 #[.iface 132 (.agg #[.string sp, .int .i64 n])] w fun e w' => e = .returned (.agg #[.int .i64 11, .string sp, .string ⟨#[]⟩, .int .i64 n, .string ⟨#[]⟩]) ∧ Below w.heap.size w w' := by
  have n1 : ∀ W, (Instr.typeAssert (.iface 132 (.agg #[.string sp, .int .i64 n])) 71 115 true).run Try.prog W = .ok (.tuple #[.agg #[.string ⟨#[]⟩, .string ⟨#[]⟩, .int .i64 0], .bool false]) W := fun W => ta_no Try.underlying115 (by intro m h; cases h) (by decide) (by kernel_rfl) _ W
  have n2 : ∀ W, (Instr.typeAssert (.iface 132 (.agg #[.string sp, .int .i64 n])) 71 117 true).run Try.prog W = .ok (.tuple #[.agg #[.string ⟨#[]⟩, .int .i64 0], .bool false]) W := fun W => ta_no Try.underlying117 (by intro m h; cases h) (by decide) (by kernel_rfl) _ W
  have n3 : ∀ W, (Instr.typeAssert (.iface 132 (.agg #[.string sp, .int .i64 n])) 71 119 true).run Try.prog W = .ok (.tuple #[.agg #[.string ⟨#[]⟩], .bool false]) W := fun W => ta_no Try.underlying119 (by intro m h; cases h) (by decide) (by kernel_rfl) _ W
  have n4 : ∀ W, (Instr.typeAssert (.iface 132 (.agg #[.string sp, .int .i64 n])) 71 121 true).run Try.prog W = .ok (.tuple #[.agg #[.string ⟨#[]⟩, .string ⟨#[]⟩, .string ⟨#[]⟩], .bool false]) W := fun W => ta_no Try.underlying121 (by intro m h; cases h) (by decide) (by kernel_rfl) _ W
  have n5 : ∀ W, (Instr.typeAssert (.iface 132 (.agg #[.string sp, .int .i64 n])) 71 123 true).run Try.prog W = .ok (.tuple #[.agg #[.string ⟨#[]⟩, .string ⟨#[]⟩, .int .i64 0, .string ⟨#[]⟩], .bool false]) W := fun W => ta_no Try.underlying123 (by intro m h; cases h) (by decide) (by kernel_rfl) _ W
  have n6 : ∀ W, (Instr.typeAssert (.iface 132 (.agg #[.string sp, .int .i64 n])) 71 125 true).run Try.prog W = .ok (.tuple #[.agg #[.string ⟨#[]⟩, .string ⟨#[]⟩, .string ⟨#[]⟩], .bool false]) W := fun W => ta_no Try.underlying125 (by intro m h; cases h) (by decide) (by kernel_rfl) _ W
  have n7 : ∀ W, (Instr.typeAssert (.iface 132 (.agg #[.string sp, .int .i64 n])) 71 126 true).run Try.prog W = .ok (.tuple #[.agg #[.string ⟨#[]⟩, .string ⟨#[]⟩, .string ⟨#[]⟩], .bool false]) W := fun W => ta_no Try.underlying126 (by intro m h; cases h) (by decide) (by kernel_rfl) _ W
  have n8 : ∀ W, (Instr.typeAssert (.iface 132 (.agg #[.string sp, .int .i64 n])) 71 128 true).run Try.prog W = .ok (.tuple #[.agg #[.string ⟨#[]⟩, .string ⟨#[]⟩], .bool false]) W := fun W => ta_no Try.underlying128 (by intro m h; cases h) (by decide) (by kernel_rfl) _ W
  have n9 : ∀ W, (Instr.typeAssert (.iface 132 (.agg #[.string sp, .int .i64 n])) 71 129 true).run Try.prog W = .ok (.tuple #[.agg #[.string ⟨#[]⟩, .string ⟨#[]⟩], .bool false]) W := fun W => ta_no Try.underlying129 (by intro m h; cases h) (by decide) (by kernel_rfl) _ W
  have n10 : ∀ W, (Instr.typeAssert (.iface 132 (.agg #[.string sp, .int .i64 n])) 71 130 true).run Try.prog W = .ok (.tuple #[.agg #[.string ⟨#[]⟩], .bool false]) W := fun W => ta_no Try.underlying130 (by intro m h; cases h) (by decide) (by kernel_rfl) _ W
  have y11 : ∀ W, (Instr.typeAssert (.iface 132 (.agg #[.string sp, .int .i64 n])) 71 132 true).run Try.prog W = .ok (.tuple #[.agg #[.string sp, .int .i64 n], .bool true]) W := fun W => ta_yes Try.underlying132 (by intro m h; cases h) _ W
  go_enter Try.func41, Try.ntmps41
  go_wp2
  refine bodyPost_ret (v := .agg #[.int .i64 11, .string sp, .string ⟨#[]⟩, .int .i64 n, .string ⟨#[]⟩]) (by simp [results, Try.results41, go_sem]) rfl ⟨rfl, (by repeat (first | exact Below.refl _ _ | (refine Below.alloc ?_ (by first | (simp; done) | (simp; omega)) _) | (refine Below.setCell ?_ (by first | (simp; done) | (simp; omega)) _) | (refine Below.drew ?_)))⟩
set_option maxRecDepth 100000 in
set_option maxHeartbeats 4000000 in
theorem reqBack12 (w : World) : Calls Try.prog 41 #[.iface 134 (.agg #[])] w fun e w' => e = .returned (.agg #[.int .i64 12, .string ⟨#[]⟩, .string ⟨#[]⟩, .int .i64 0, .string ⟨#[]⟩]) ∧ Below w.heap.size w w' := by
  have n1 : ∀ W, (Instr.typeAssert (.iface 134 (.agg #[])) 71 115 true).run Try.prog W = .ok (.tuple #[.agg #[.string ⟨#[]⟩, .string ⟨#[]⟩, .int .i64 0], .bool false]) W := fun W => ta_no Try.underlying115 (by intro m h; cases h) (by decide) (by kernel_rfl) _ W
  have n2 : ∀ W, (Instr.typeAssert (.iface 134 (.agg #[])) 71 117 true).run Try.prog W = .ok (.tuple #[.agg #[.string ⟨#[]⟩, .int .i64 0], .bool false]) W := fun W => ta_no Try.underlying117 (by intro m h; cases h) (by decide) (by kernel_rfl) _ W
  have n3 : ∀ W, (Instr.typeAssert (.iface 134 (.agg #[])) 71 119 true).run Try.prog W = .ok (.tuple #[.agg #[.string ⟨#[]⟩], .bool false]) W := fun W => ta_no Try.underlying119 (by intro m h; cases h) (by decide) (by kernel_rfl) _ W
  have n4 : ∀ W, (Instr.typeAssert (.iface 134 (.agg #[])) 71 121 true).run Try.prog W = .ok (.tuple #[.agg #[.string ⟨#[]⟩, .string ⟨#[]⟩, .string ⟨#[]⟩], .bool false]) W := fun W => ta_no Try.underlying121 (by intro m h; cases h) (by decide) (by kernel_rfl) _ W
  have n5 : ∀ W, (Instr.typeAssert (.iface 134 (.agg #[])) 71 123 true).run Try.prog W = .ok (.tuple #[.agg #[.string ⟨#[]⟩, .string ⟨#[]⟩, .int .i64 0, .string ⟨#[]⟩], .bool false]) W := fun W => ta_no Try.underlying123 (by intro m h; cases h) (by decide) (by kernel_rfl) _ W
  have n6 : ∀ W, (Instr.typeAssert (.iface 134 (.agg #[])) 71 125 true).run Try.prog W = .ok (.tuple #[.agg #[.string ⟨#[]⟩, .string ⟨#[]⟩, .string ⟨#[]⟩], .bool false]) W := fun W => ta_no Try.underlying125 (by intro m h; cases h) (by decide) (by kernel_rfl) _ W
  have n7 : ∀ W, (Instr.typeAssert (.iface 134 (.agg #[])) 71 126 true).run Try.prog W = .ok (.tuple #[.agg #[.string ⟨#[]⟩, .string ⟨#[]⟩, .string ⟨#[]⟩], .bool false]) W := fun W => ta_no Try.underlying126 (by intro m h; cases h) (by decide) (by kernel_rfl) _ W
  have n8 : ∀ W, (Instr.typeAssert (.iface 134 (.agg #[])) 71 128 true).run Try.prog W = .ok (.tuple #[.agg #[.string ⟨#[]⟩, .string ⟨#[]⟩], .bool false]) W := fun W => ta_no Try.underlying128 (by intro m h; cases h) (by decide) (by kernel_rfl) _ W
  have n9 : ∀ W, (Instr.typeAssert (.iface 134 (.agg #[])) 71 129 true).run Try.prog W = .ok (.tuple #[.agg #[.string ⟨#[]⟩, .string ⟨#[]⟩], .bool false]) W := fun W => ta_no Try.underlying129 (by intro m h; cases h) (by decide) (by kernel_rfl) _ W
  have n10 : ∀ W, (Instr.typeAssert (.iface 134 (.agg #[])) 71 130 true).run Try.prog W = .ok (.tuple #[.agg #[.string ⟨#[]⟩], .bool false]) W := fun W => ta_no Try.underlying130 (by intro m h; cases h) (by decide) (by kernel_rfl) _ W
  have n11 : ∀ W, (Instr.typeAssert (.iface 134 (.agg #[])) 71 132 true).run Try.prog W = .ok (.tuple #[.agg #[.string ⟨#[]⟩, .int .i64 0], .bool false]) W := fun W => ta_no Try.underlying132 (by intro m h; cases h) (by decide) (by kernel_rfl) _ W
  go_enter Try.func41, Try.ntmps41
  go_wp2
  refine bodyPost_ret (v := .agg #[.int .i64 12, .string ⟨#[]⟩, .string ⟨#[]⟩, .int .i64 0, .string ⟨#[]⟩]) (by simp [results, Try.results41, go_sem]) rfl ⟨rfl, (by repeat (first | exact Below.refl _ _ | (refine Below.alloc ?_ (by first | (simp; done) | (simp; omega)) _) | (refine Below.setCell ?_ (by first | (simp; done) | (simp; omega)) _) | (refine Below.drew ?_)))⟩
end Go.Proofs.Ytgjfflfldddebaa
