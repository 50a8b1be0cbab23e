/-
  Copies of slots, disks, messages: the specification.
-/
import Derived.Test.YtnifdpjmpbocnaaGreatUC
import Derived.Test.YtnifdpjmpbocnaaGreatKSh
namespace Go.Proofs.YtnifdpjmpbocnaaGreat
open Go.RowKit Go.Deep

theorem Tryz.cinfoRecSlot : (Tryz.prog.info? 98).map (fun i => (i.zero, i.size, i.bytes)) = some (some (.agg #[.int .i64 0, .string ByteArray.empty]), 2, 24) := by kernel_rfl
theorem Tryz.cunderRecSlot : Tryz.prog.underlying 32 = some (.slice 98) := by kernel_rfl
theorem Tryz.cinfoN1 : (Tryz.prog.info? 3).map (fun i => (i.zero, i.size, i.bytes)) = some (some (.int .i64 0), 1, 8) := by kernel_rfl
theorem Tryz.cunderN1 : Tryz.prog.underlying 27 = some (.slice 3) := by kernel_rfl
theorem Tryz.cinfoT1 : (Tryz.prog.info? 9).map (fun i => (i.zero, i.size, i.bytes)) = some (some (.string ByteArray.empty), 1, 16) := by kernel_rfl
theorem Tryz.cunderT1 : Tryz.prog.underlying 26 = some (.slice 9) := by kernel_rfl
theorem Tryz.cinfoRecMessage : (Tryz.prog.info? 89).map (fun i => (i.zero, i.size, i.bytes)) = some (some (.agg #[.int .i64 0, .int .i64 0, .int .i64 0, .int .i64 0, .int .i64 0, .int .i64 0, .string ByteArray.empty, .slice none 0 0]), 8, 88) := by kernel_rfl
theorem Tryz.cunderRecMessage : Tryz.prog.underlying 35 = some (.slice 89) := by kernel_rfl
theorem Tryz.cinfoRecAck : (Tryz.prog.info? 96).map (fun i => (i.zero, i.size, i.bytes)) = some (some (.agg #[.int .i64 0, .slice none 0 0]), 2, 32) := by kernel_rfl
theorem Tryz.cunderRecAck : Tryz.prog.underlying 36 = some (.slice 96) := by kernel_rfl
end Go.Proofs.YtnifdpjmpbocnaaGreat
