/- The reference's Split. -/
import Derived.Test.YtgjiealcjaojaaaRlFirst2
import Derived.Test.YtgjiealcjaojaaaRCmp
import Derived.Test.YtgjiealcjaojaaaRefW
namespace Go.Proofs.Ytgjiealcjaojaaa
open Go.RowKit

theorem results_tmp4 {fn : Func} {t u v x : Tmp} (h : fn.results = #[.tmp t, .tmp u, .tmp v, .tmp x]) (tmps : Array Value) (P : Program) (w : World) :
    (results fn tmps).run P w = .ok (.tuple #[tmps.getD t undef, tmps.getD u undef, tmps.getD v undef, tmps.getD x undef]) w := by
  simp [results, h]
theorem index_w (a b c d : Int) (w : World) : (Instr.index 70 (.agg #[.int .u64 a, .int .u64 b, .int .u64 c, .int .u64 d]) (.int .i64 0)).run Try.prog w = .ok (.int .u64 a) w := by kernel_rfl
def RSplitR (A : Option Addr) (raw : List Nat) (w : World) (e : Ending) (w' : World) : Prop := Below w.heap.size w w' ∧ match fstS raw with
  | none => e = .returned (.tuple #[.bool false, .slice none 0 0, .slice none 0 0, .int .i64 2])
  | some (l, u, r) => ∃ vu vr, e = .returned (.tuple #[.bool l, vu, vr, .int .i64 0]) ∧ Byt w' vu u ∧ Byt w' vr r ∧ vu.ownBlock = (Value.slice A 0 0).ownBlock ∧ vr.ownBlock = (Value.slice A 0 0).ownBlock

end Go.Proofs.Ytgjiealcjaojaaa
