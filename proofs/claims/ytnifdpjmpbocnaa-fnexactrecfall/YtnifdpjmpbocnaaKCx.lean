/-
  Copies of slots, disks, messages: the specification.
-/
import Derived.Test.YtnifdpjmpbocnaaUC
import Derived.Test.YtnifdpjmpbocnaaKSh
namespace Go.Proofs.Ytnifdpjmpbocnaa
open Go.RowKit Go.Deep

theorem Try.cinfoRecSlot : (Try.prog.info? 98).map (fun i => (i.zero, i.size, i.bytes)) = some (some (.agg #[.int .i64 0, .string ByteArray.empty]), 2, 24) := by kernel_rfl
theorem Try.cunderRecSlot : Try.prog.underlying 34 = some (.slice 98) := by kernel_rfl
theorem Try.cinfoN1 : (Try.prog.info? 3).map (fun i => (i.zero, i.size, i.bytes)) = some (some (.int .i64 0), 1, 8) := by kernel_rfl
theorem Try.cunderN1 : Try.prog.underlying 29 = some (.slice 3) := by kernel_rfl
theorem Try.cinfoT1 : (Try.prog.info? 9).map (fun i => (i.zero, i.size, i.bytes)) = some (some (.string ByteArray.empty), 1, 16) := by kernel_rfl
theorem Try.cunderT1 : Try.prog.underlying 28 = some (.slice 9) := by kernel_rfl
theorem Try.cinfoRecMessage : (Try.prog.info? 92).map (fun i => (i.zero, i.size, i.bytes)) = some (some (.agg #[.int .i64 0, .int .i64 0, .int .i64 0, .int .i64 0, .int .i64 0, .int .i64 0, .string ByteArray.empty, .slice none 0 0]), 8, 88) := by kernel_rfl
theorem Try.cunderRecMessage : Try.prog.underlying 37 = some (.slice 92) := by kernel_rfl
theorem Try.cinfoRecAck : (Try.prog.info? 100).map (fun i => (i.zero, i.size, i.bytes)) = some (some (.agg #[.int .i64 0, .slice none 0 0]), 2, 32) := by kernel_rfl
theorem Try.cunderRecAck : Try.prog.underlying 38 = some (.slice 100) := by kernel_rfl
end Go.Proofs.Ytnifdpjmpbocnaa
