/- The contracts of package quarryref02's Add and Sub. -/
import Derived.Test.YtchhnalalplggaaRTrim
import Derived.OwnWalk
import Derived.Outline
namespace Go.Proofs.Ytchhnalalplggaa
open Go.RowKit

theorem info32 : (Try.prog.info? 112).map (fun i => (i.zero, i.size, i.bytes)) = some (some (.int .u32 0), 1, 4) := by kernel_rfl
/-- make of digits of 32 bits. -/
theorem mk32 (z : Int) (n : Nat) (hz : z = n) (hn : n ≤ 67108864) (W : World) : (Instr.makeSlice 91 (.int .i64 z) (.int .i64 z)).run Try.prog W =
    .ok (.slice (some ⟨W.heap.size, 0, none⟩) n n) (W.alloc (.cells (madeCells #[Value.int .u32 0] n) 112)) := by
  obtain ⟨i0, hi, hz0, hz1, hz2⟩ := info_parts info32
  subst hz
  have h := run_make (P := Try.prog) W 91 112 i0 (.int .u32 0) Try.underlying91 hi hz0 .i64 .i64 n n (by omega) (by omega) (by rw [hz2]; omega) (by omega)
  rw [h, hz1]
  simp [Value.cells]

end Go.Proofs.Ytchhnalalplggaa
