/- What the laws of layer 18 ask of package code: its contracts, in the weak form. THE ADAPTOR: over the landed code's own contracts (CcName, CcJump). -/
import Derived.Test.YtopeahjdglkheaaDoorCcName
import Derived.Test.YtopeahjdglkheaaDoorCcJump
namespace Go.Proofs.YtopeahjdglkheaaDoor
open Go.RowKit

theorem cdName (f op : Int) (w : World) : Calls Tryd.prog 13 #[.int .i64 f, .int .i64 op] w (RetV (.string (nameZ f op)) w) := pname_c f op w
theorem cdNamed (f : Int) (s : ByteArray) (_hs : s.size ≤ 140737488351232) (w : World) : Calls Tryd.prog 10 #[.int .i64 f, .string s] w (RetV (cnamedV (cnamedZ f s)) w) := pnamed_c f s w
theorem cdPops (f op : Int) (w : World) : Calls Tryd.prog 9 #[.int .i64 f, .int .i64 op] w (RetV (.tuple #[.int .i64 (popsZ f op : Nat), .int .i64 (laysZ f op : Nat), .bool (opZ f op)]) w) := ppops_c f op w
/-- What Jumps tells, where nothing more is asked. -/
def JumpsW (bs : List Nat) (w : World) (e : Ending) (w' : World) : Prop := ∃ A c, e = .returned (.slice A (jmp 0 0 bs).length c) ∧ IntsAt w' A (jmp 0 0 bs) ∧ Below w.heap.size w w'
theorem JumpsR.weak {bs : List Nat} {w : World} {e : Ending} {w' : World} (h : JumpsR bs w e w') : JumpsW bs w e w' := by
  obtain ⟨v, rfl, ho, hb⟩ := h
  obtain ⟨A, c, rfl, _, hat⟩ := ownI_at ho
  exact ⟨A, c, rfl, hat, hb⟩
theorem cdJumps {A : Option Addr} {c : Nat} {bs : List Nat} (w : World) (h : Rd .u8 w A c bs) (hd : Ds 256 bs) (hl : bs.length ≤ 3000) : Calls Tryd.prog 16 #[.slice A bs.length c] w (JumpsW bs w) := (pjumps_c w h hd (by omega)).mono fun _ _ h => h.weak
/-- What Jumps tells, where the answer is the caller's own. -/
theorem cdJumpsO {A : Option Addr} {c : Nat} {bs : List Nat} (w : World) (h : Rd .u8 w A c bs) (hd : Ds 256 bs) (hl : bs.length ≤ 3000) : Calls Tryd.prog 16 #[.slice A bs.length c] w (JumpsR bs w) := pjumps_c w h hd (by omega)
theorem cdJump {A : Option Addr} {c a : Nat} {bs : List Nat} (w : World) (h : Rd .u8 w A c bs) (hd : Ds 256 bs) (hl : bs.length ≤ 3000) (hb : Big a) : Calls Tryd.prog 18 #[.slice A bs.length c, W a] w (RetV (.bool (jumpB a bs)) w) := pjump_c w h hd (by omega) hb
end Go.Proofs.YtopeahjdglkheaaDoor
