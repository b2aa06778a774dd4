/- The contract of package nat's DivMod. -/
import Derived.Test.YteaafnjflghlhaaDoorNDivide
import Derived.Test.YteaafnjflghlhaaDoorNDown
import Derived.Test.YteaafnjflghlhaaDoorNMul
import Derived.OwnWalk
namespace Go.Proofs.YteaafnjflghlhaaDoor
open Go.RowKit

/-- A slice of bytes that tells n, without zeros ahead. -/
def NB (w : World) (v : Value) (n : Nat) : Prop := ∃ zs, Byt w v zs ∧ Can 256 zs.reverse n
theorem NB.below {w w' : World} {v : Value} {n : Nat} (h : NB w v n) (hb : Below w.heap.size w w') : NB w' v n := by
  obtain ⟨zs, h1, h2⟩ := h
  exact ⟨zs, h1.below hb, h2⟩
/-- Quotient and rest, and true. -/
def RetDM (a b : Nat) (w : World) (e : Ending) (w' : World) : Prop := ∃ u v, e = .returned (.tuple #[u, v, .bool true]) ∧ NB w' u (a / b) ∧ NB w' v (a % b) ∧ Below w.heap.size w w'

def RetDMO (a b : Nat) (w : World) (e : Ending) (w' : World) : Prop := ∃ u v, e = .returned (.tuple #[u, v, .bool true]) ∧ NBO w.heap.size w' u (a / b) ∧ NBO w.heap.size w' v (a % b) ∧ (∀ k, u.ownBlock = some k → v.ownBlock ≠ some k) ∧ Below w.heap.size w w'

theorem Row.lt' {k : IntKind} {w : World} {g : Nat} {t : TypeId} {xs : List Nat} (h : Row k w g t xs) : g < w.heap.size := h.lt

set_option maxRecDepth 100000 in
set_option maxHeartbeats 1600000 in
theorem divmod_no {A B : Option Addr} {c d : Nat} {xs ys : List Nat} (w : World) (h : Rd .u8 w B d ys) (hy : Ds 256 ys) (hl : ys.length ≤ 2097152) (h0 : dv 256 ys.reverse = 0) :
    Calls Tryd.prog 66 #[.slice A xs.length c, .slice B ys.length d] w fun e w' => e = .returned (.tuple #[.slice none 0 0, .slice none 0 0, .bool false]) ∧ Below w.heap.size w w' := by
  have C1 := Lib.hid (toLimbs_c w h hy (by omega))
  rw [h0] at C1
  generalize xs.length = L at *
  generalize ys.length = M at *
  clear h hy h0
  go_enter Tryd.func66, Tryd.ntmps66
  go_wp2_with fail
  (with_reducible refine C1.out.mono ?_)
  rintro e w1 ⟨G1, l1, rfl, hr1, hg1, hc1, hk1, hb1⟩
  have e : l1 = [] := (hc1.pos (by omega)).2 rfl
  subst e
  have HB := Lib.hid hb1
  clear hr1 hg1 hc1 hk1 hb1 C1
  go_wp2_with fail
  go_ret3
  exact ⟨rfl, HB.out⟩

/-- The dividend shifted is below the divisor shifted, its digits ahead. -/
theorem div_fits {a b s Z n : Nat} {ls ds : List Nat} (ha : Can 18446744073709551616 ls a) (hb : Can 18446744073709551616 ds b) (hZ : Z = ls.length + 1) (hn : n = ds.length) (hn0 : 0 < n) : a * 2 ^ s < b * 2 ^ s * 18446744073709551616 ^ (Z - n) := by
  have h1 := ha.lt
  have h2 := hb.ge (by omega)
  have h3 : (18446744073709551616 : Nat) ^ ls.length ≤ b * 18446744073709551616 ^ (Z - n) := by
    refine Nat.le_trans ?_ (Nat.mul_le_mul_right _ h2)
    rw [← Nat.pow_add]
    exact Nat.pow_le_pow_right (by omega) (by omega)
  rw [Nat.mul_right_comm]
  exact Nat.mul_lt_mul_of_pos_right (by omega) (Nat.two_pow_pos s)

set_option maxRecDepth 100000 in
set_option maxHeartbeats 6400000 in
theorem divmod_o {A B : Option Addr} {c d : Nat} {xs ys : List Nat} (w : World) (h : Rd .u8 w A c xs) (h' : Rd .u8 w B d ys) (hx : Ds 256 xs) (hy : Ds 256 ys) (hl : xs.length ≤ 2097152) (hl' : ys.length ≤ 2097152) (hb0 : 0 < dv 256 ys.reverse) :
    Calls Tryd.prog 66 #[.slice A xs.length c, .slice B ys.length d] w (RetDMO (dv 256 xs.reverse) (dv 256 ys.reverse) w) := by
  have RX := Lib.hid h
  have HX := Lib.hid hx
  have C1 := Lib.hid (toLimbs_c w h' hy (by omega))
  obtain ⟨a, ha⟩ : ∃ a, a = dv 256 xs.reverse := ⟨_, rfl⟩
  obtain ⟨b, hb⟩ : ∃ b, b = dv 256 ys.reverse := ⟨_, rfl⟩
  obtain ⟨L, hL⟩ : ∃ L, L = xs.length := ⟨_, rfl⟩
  obtain ⟨M, hM⟩ : ∃ M, M = ys.length := ⟨_, rfl⟩
  have HA := Lib.hid ha
  have HL := Lib.hid hL
  rw [← hb, ← hM] at C1
  rw [← hb] at hb0
  rw [← hL] at hl
  rw [← hM] at hl'
  rw [← hL, ← hM, ← ha, ← hb]
  clear h h' hx hy ha hb hL hM
  go_enter Tryd.func66, Tryd.ntmps66
  go_wp2_with fail
  (with_reducible refine C1.out.mono ?_)
  rintro e w1 ⟨G1, l1, rfl, hr1, hg1, hc1, hk1, hb1⟩
  have hpos : 0 < l1.length := by
    rcases Nat.eq_zero_or_pos l1.length with h0 | h0
    · have := (hc1.pos (by omega)).1 (List.eq_nil_of_length_eq_zero h0); omega
    · exact h0
  have C2 := Lib.hid (raised_c w1 hr1.rd0 hc1 (by omega) hpos)
  have hsz1 := hb1.size
  obtain ⟨n, hn⟩ : ∃ n, n = l1.length := ⟨_, rfl⟩
  rw [← hn] at C2 hk1 hpos
  rw [← hn]
  have HN := Lib.hid hn
  have HC1 := Lib.hid hc1
  have HB1 := Lib.hid hb1
  have hz0 : ((n : Int) == 0) = false := by simp; omega
  clear C1 hc1 hr1 hb1 hn
  go_wp2_with fail
  (with_reducible refine C2.out.mono ?_)
  rintro e w2 ⟨G2, es, s, rfl, hr2, hg2, hd2, hl2, hv2, hlt2, htop2, htk2, hs, hb2⟩
  have hG2 := hr2.lt
  have HB2 := Lib.hid (HB1.out.trans (hb2.mono hsz1))
  have hsz2 := HB2.out.size
  have C3 := Lib.hid (toLimbs_c w2 (RX.out.below HB2.out) HX.out (by rw [← HL.out]; omega))
  rw [← HL.out, ← HA.out] at C3
  have HR2 := Lib.hid hr2
  have HD2 := Lib.hid hd2
  have HL2 := Lib.hid hl2
  have HV2 := Lib.hid hv2
  have HT2 := Lib.hid htop2
  have HK2 := Lib.hid htk2
  have HS := Lib.hid hs
  clear C2 hr2 hd2 hl2 hv2 hlt2 htop2 htk2 hs hb2 hz0 HB1
  go_wp2_with fail
  (with_reducible refine C3.out.mono ?_)
  rintro e w3 ⟨G3, l3, rfl, hr3, hg3, hc3, hk3, hb3⟩
  have HR2 := Lib.hid (HR2.out.below hb3 hG2)
  have HB3 := Lib.hid (HB2.out.trans (hb3.mono hsz2))
  have hsz3 := HB3.out.size
  have hsz23 := hb3.size
  have C4 := Lib.hid (shiftUp_c w3 hr3.rd0 hc3.1 (by omega) s HS.out)
  rw [hc3.2.1] at C4
  have HC3 := Lib.hid hc3
  clear C3 hr3 hc3 hb3 HB2
  go_wp2_with fail
  (with_reducible refine C4.out.mono ?_)
  rintro e w4 ⟨G4, zs, rfl, hr4, hg4, hd4, hv4, hl4, hb4⟩
  have HR2 := Lib.hid (HR2.out.below hb4 (by omega))
  have HB4 := Lib.hid (HB3.out.trans (hb4.mono hsz3))
  have hsz4 := HB4.out.size
  have hG4 := hr4.lt
  have hsz34 := hb4.size
  obtain ⟨Z, hZ⟩ : ∃ Z, Z = zs.length := ⟨_, rfl⟩
  rw [← hZ] at hl4
  rw [← hZ]
  obtain ⟨Q, hQ⟩ : ∃ Q, Q = Z - n := ⟨_, rfl⟩
  have hmk := mk64 (Q : Int) Q rfl (by omega) w4
  have hfit : a * 2 ^ s < b * 2 ^ s * 18446744073709551616 ^ (Z - n) := div_fits HC3.out HC1.out hl4 HN.out hpos
  have hrow := Row.made (k := .u64) w4 22 Q
  have hne1 : G2 ≠ w4.heap.size := by omega
  have hne2 : w4.heap.size ≠ G4 := by omega
  have hne3 : G2 ≠ G4 := by omega
  have HR2 := Lib.hid (HR2.out.alloc (.cells (madeCells #[Value.int .u64 0] Q) 22))
  have HR4 := Lib.hid (hr4.alloc (.cells (madeCells #[Value.int .u64 0] Q) 22))
  have HB5 := Lib.hid (HB4.out.alloc (by omega) (.cells (madeCells #[Value.int .u64 0] Q) 22))
  have C5 := Lib.hid (ndivide_c (n := n) (D := b * 2 ^ s) (cq := Q) (cl := Z) (cd := n + 1) _ hrow HR4.out HR2.out hne2 hne1 hne3 (Ds.zeros (by omega) _) hd4 HD2.out (by omega) (by rw [HL2.out]; omega) (by rw [HL2.out]; omega) (by rw [← hZ]; omega)
    (by rw [← HK2.out, HV2.out]) HT2.out (by rw [hv4, List.length_replicate, hQ]; exact hfit) (by rw [List.length_replicate, ← hZ]; exact hQ) (by rw [← hZ]; exact Nat.le_refl _))
  rw [List.length_replicate, ← hZ, hv4] at C5
  have hn8 : (n : Int) ≤ 8388608 := by omega
  have hn1 : (1 : Int) ≤ (n : Int) := by omega
  have hZ8 : (Z : Int) ≤ 1048576 := by omega
  have hwZ : IntKind.i64.wrap ((Z : Int) - (n : Int)) = (Z : Int) - (n : Int) := IntWalk.i64_in _ (by omega)
  have hmx : max (0 : Int) ((Z : Int) - (n : Int)) = (Q : Int) := by omega
  have HQL := Lib.hid hQ
  have HZL := Lib.hid hZ
  have hq0 : (0 : Int) ≤ (Q : Int) := by omega
  clear C4 hrow hr4 hd4 hv4 hb4 hfit hQ hZ HR2 HR4 HB4 hl4 hk3
  go_upto_region 7 with (fail)
  clear hmk hmx hwZ
  generalize hW : w4.alloc (.cells (madeCells #[Value.int .u64 0] Q) 22) = W at *
  have hWs : W.heap.size = w4.heap.size + 1 := by rw [← hW]; simp
  have HWs := Lib.hid hWs
  clear hW hWs
  go_wp2_with fail
  (with_reducible refine C5.out.mono ?_)
  rintro e w6 ⟨qs, rs, rfl, hrq, hrr, hdq, hdr, hvq, hvr, hlq, hlr, ht6⟩
  have HB6 := Lib.hid (ht6.below HB5.out (by omega) (by omega))
  have C6 := Lib.hid (shiftDown_c w6 hrr hdr (by omega) s HS.out)
  rw [hlr, hvr, (div_shift a b s).2] at C6
  rw [(div_shift a b s).1] at hvq
  have hsz6 := ht6.size
  have HRQ := Lib.hid hrq
  have HDQ := Lib.hid hdq
  have HVQ := Lib.hid hvq
  have HLQ := Lib.hid hlq
  clear C5 hrr hdr hvr hlr ht6 hrq hdq hvq hlq HB5
  go_wp2_with fail
  (with_reducible refine C6.out.mono ?_)
  rintro e w7 ⟨us, rfl, hru, hdu, hvu, hlu, ht7⟩
  have HRQ := Lib.hid (ht7.row HRQ.out hne2)
  have HB7 := Lib.hid (ht7.below HB6.out (by omega))
  have hsz7 := ht7.size
  have C7 := Lib.hid (toBytes_o w7 HRQ.out.rd0 HDQ.out (by rw [HLQ.out]; have := HQL.out; omega))
  rw [HLQ.out, HVQ.out] at C7
  have HRU := Lib.hid hru
  have HDU := Lib.hid hdu
  have HVU := Lib.hid hvu
  have HLU := Lib.hid hlu
  clear C6 hru hdu hvu hlu ht7 HB6
  go_wp2_with fail
  (with_reducible refine C7.out.mono ?_)
  rintro e w8 ⟨v1, rfl, hv1, hb8⟩
  have HRU := Lib.hid (HRU.out.below hb8 HRU.out.lt)
  have HB8 := Lib.hid (HB7.out.trans (hb8.mono HB7.out.size))
  have C8 := Lib.hid (toBytes_o w8 HRU.out.rd0 HDU.out (by rw [HLU.out]; omega))
  rw [HLU.out, HVU.out] at C8
  have HV1 : Hid (NBO w.heap.size w8 v1 (a / b)) := hv1.mono HB7.out.size
  clear C7 hv1 hb8 HB7
  go_wp2_with fail
  (with_reducible refine C8.out.mono ?_)
  rintro e w9 ⟨v2, rfl, hv2, hb9⟩
  have HV18 := HV1
  have HV1 := Lib.hid (HV1.out.below hb9)
  have HNE : Hid (∀ k, v1.ownBlock = some k → v2.ownBlock ≠ some k) := fun k h1 h2 => by
    obtain ⟨_, o1, _⟩ := HV18.out
    obtain ⟨_, o2, _⟩ := hv2
    have := o1.1.lt k h1
    have := o2.2 k h2
    omega
  have HV2 : Hid (NBO w.heap.size w9 v2 (a % b)) := hv2.mono HB8.out.size
  have HB9 := Lib.hid (HB8.out.trans (hb9.mono HB8.out.size))
  clear C8 hv2 hb9 HB8
  go_wp2_with fail
  go_ret3
  exact ⟨v1, v2, rfl, HV1.out, HV2.out, HNE.out, HB9.out⟩
theorem divmod_n {A B : Option Addr} {c d : Nat} {xs ys : List Nat} (w : World) (h : Rd .u8 w A c xs) (h' : Rd .u8 w B d ys) (hx : Ds 256 xs) (hy : Ds 256 ys) (hl : xs.length ≤ 2097152) (hl' : ys.length ≤ 2097152) (hb0 : 0 < dv 256 ys.reverse) :
    Calls Tryd.prog 66 #[.slice A xs.length c, .slice B ys.length d] w (RetDM (dv 256 xs.reverse) (dv 256 ys.reverse) w) := (divmod_o w h h' hx hy hl hl' hb0).mono fun _ _ ⟨u, v, e, h1, h2, _, hb⟩ => ⟨u, v, e, h1.byt, h2.byt, hb⟩
end Go.Proofs.YteaafnjflghlhaaDoor
