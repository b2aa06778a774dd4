/- What the laws of layer 17 ask of package gas: its contracts, in the weak form. THE ADAPTOR: over the landed code's own contracts (Gc..); over a scratch's wrappers: GpAll in their place. -/
import Derived.Test.YtiflfcdegpmhnaaGcWords
import Derived.Test.YtiflfcdegpmhnaaGcPart
import Derived.Test.YtiflfcdegpmhnaaGcBase
import Derived.Test.YtiflfcdegpmhnaaGcStore
namespace Go.Proofs.Ytiflfcdegpmhnaa
open Go.RowKit

theorem kf22 (f : Int) : 0 ≤ kf f 22 ∧ kf f 22 ≤ 1000000 := by
  show 0 ≤ fromZ f 15000 [(10, 4800)] ∧ fromZ f 15000 [(10, 4800)] ≤ 1000000
  simp only [fromZ]; split <;> omega
theorem kf16 (f : Int) : kf f 16 = if 9 ≤ f then 2100 else 0 := by
  show fromZ f 0 [(9, 2100)] = _
  simp only [fromZ]
/-- By what a refund is bounded. -/
def partD (f : Int) : Nat := if 10 ≤ f then 5 else 2
theorem kf23 (f : Int) : kf f 23 = (partD f : Nat) := by
  show fromZ f 2 [(10, 5)] = _
  simp only [fromZ, partD]; split <;> rfl
theorem partD_pos (f : Int) : 0 < partD f := by unfold partD; split <;> omega
/-- A fork's numbers, as Of tells them. -/
def RK (f : Int) : Value := .agg (RulesK f (kf f))
theorem gWords {a e : Nat} (ha : Big a) (he : e ≤ 6) (w : World) : Calls Try.prog 11 #[W a, .int .u64 (e : Nat)] w (RetV (wordsV a e) w) := pwords_c ha he w
theorem gLog {a t : Nat} (ha : Big a) (ht : t ≤ 4) (w : World) : Calls Try.prog 13 #[.int .i64 (t : Nat), W a] w (RetV (logV t a) w) := plog_c ha ht w
theorem gBase (f op : Int) (_h0 : 0 ≤ f) (_h1 : f ≤ 15) (w : World) : Calls Try.prog 15 #[RK f, .int .i64 op] w (RetV (.int .u64 (baseZ f (kf f) op)) w) := pbase_c f op _ w
theorem gExp (f : Int) (_h0 : 0 ≤ f) (_h1 : f ≤ 15) {a : Nat} (ha : Big a) (w : World) : Calls Try.prog 17 #[RK f, W a] w (RetV (.int .u64 (expZ (kf f 21) a)) w) := pexp_c f _ ha w
theorem gGrow {s a n : Nat} (hs : s ≤ 1099511627776) (_h32 : s % 32 = 0) (ha : Big a) (hn : Big n) (w : World) : Calls Try.prog 20 #[.int .u64 (s : Nat), W a, W n] w (RetV (growV s a n) w) := pgrow_c hs ha hn w
theorem gStore (f : Int) (_h0 : 0 ≤ f) (_h1 : f ≤ 15) {o c n left : Nat} {warm : Bool} (ho : Big o) (hc : Big c) (hn : Big n) (_hl : left < 18446744073709551616) (w : World) : Calls Try.prog 23 #[RK f, .agg (StC o c n warm left)] w (RetV (storeN f (kf f 22) o c n warm left) w) := pstore_c f _ (kf22 f).1 (kf22 f).2 (kf16 f) ho hc hn w
theorem gPart (f : Int) (_h0 : 0 ≤ f) (_h1 : f ≤ 15) {left a : Nat} (hl : left < 18446744073709551616) (ha : Big a) (w : World) : Calls Try.prog 25 #[RK f, .int .u64 (left : Nat), W a] w (RetV (partV f left a) w) := ppart_c f _ hl ha w
theorem gBack (f : Int) (_h0 : 0 ≤ f) (_h1 : f ≤ 15) {used refund : Nat} (hu : used < 18446744073709551616) (_hr : refund < 18446744073709551616) (w : World) : Calls Try.prog 27 #[RK f, .int .u64 (used : Nat), .int .u64 (refund : Nat)] w (RetV (.int .u64 (backN used refund (partD f) : Nat)) w) := pback_c f _ (kf23 f) (partD_pos f) hu w
end Go.Proofs.Ytiflfcdegpmhnaa
