/- What the laws of layer 13 (and those above it) ask of package fork: its contracts, in the weak form. -/
import Derived.Test.YtijoafmbmplgcaaDoorFoOp
import Derived.Test.YtijoafmbmplgcaaDoorFoOf
import Derived.Test.YtijoafmbmplgcaaDoorFoNative
import Derived.Test.YtijoafmbmplgcaaDoorFoName
import Derived.Test.YtijoafmbmplgcaaDoorFoAt
namespace Go.Proofs.YtijoafmbmplgcaaDoor
open Go.RowKit

theorem weak {f : FuncId} {args : Array Value} {w : World} {v : Value} (h : Calls Tryd.prog f args w fun e w' => e = .returned v ∧ w' = w) : Calls Tryd.prog f args w (RetV v w) :=
  h.mono fun _ _ ⟨he, hw⟩ => ⟨he, by rw [hw]; exact Below.refl _ _⟩
/-- What Of tells. -/
def ofV (f : Int) : Value := if 0 ≤ f ∧ f ≤ 15 then .tuple #[RulesV f, .int .i64 0] else .tuple #[Rules0, .int .i64 1]
theorem cOf (f : Int) (w : World) : Calls Tryd.prog 14 #[.int .i64 f] w (RetV (ofV f) w) := by
  unfold ofV
  by_cases h : 0 ≤ f ∧ f ≤ 15
  · rw [if_pos h]; exact foof_c f w h.1 h.2
  · rw [if_neg h]; exact foof_no f w h
theorem cOp (f op : Int) (w : World) : Calls Tryd.prog 18 #[.int .i64 f, .int .i64 op] w (RetV (.bool (opZ f op)) w) := weak (foop_c f op w)
theorem cNative (f : Int) (bs : List Nat) (hl : bs.length = 20) (hd : Ds 256 bs) (w : World) : Calls Tryd.prog 20 #[.int .i64 f, AdV bs] w (RetV (.int .i64 (nativeZ f bs)) w) := fonative_c f bs hl hd w
theorem cName (f : Int) (hf : -9223372036854775808 ≤ f ∧ f ≤ 9223372036854775807) (w : World) (hN : NamesAt w) : Calls Tryd.prog 16 #[.int .i64 f] w (RetV (.string (nameZ f)) w) := foname_c f hf w hN
theorem cNamed (s : ByteArray) (w : World) (hN : NamesAt w) : Calls Tryd.prog 22 #[.string s] w (RetV (namedV (namedZ s)) w) := fonamed_c s w hN
theorem cCheck {ch : Nat} {bl : List Nat} {t0 t1 dao : Nat} {A : Option Addr} {c : Nat} {fs : List (List Nat)} {ta : List Nat} (hl : bl.length = 14) (_ht : ta.length = 20) (w : World) (hf : AdsAt w A fs) (hd : FineConf bl t1 fs) (hn : fs.length ≤ 1000) :
    Calls Tryd.prog 11 #[.agg (ConfL ch bl t0 t1 dao (.slice A fs.length c) ta).toArray] w (RetV (.int .i64 (checkZ bl t0 t1 fs)) w) := focheck_c hl w hf hd.1 hn
theorem cAt {ch : Nat} {bl : List Nat} {t0 t1 dao : Nat} {A : Option Addr} {c : Nat} {fs : List (List Nat)} {ta : List Nat} (hl : bl.length = 14) (ht : ta.length = 20) (w : World) (hf : AdsAt w A fs) (hd : FineConf bl t1 fs) (hn : fs.length ≤ 1000) (num time : Nat) :
    Calls Tryd.prog 9 #[.agg (ConfL ch bl t0 t1 dao (.slice A fs.length c) ta).toArray, .int .u64 (num : Nat), .int .u64 (time : Nat)] w (RetV (.tuple #[.int .i64 (atV bl t0 t1 fs num time).1, .int .i64 (atV bl t0 t1 fs num time).2]) w) := foat_c hl ht w hf hd hn num time
end Go.Proofs.YtijoafmbmplgcaaDoor
