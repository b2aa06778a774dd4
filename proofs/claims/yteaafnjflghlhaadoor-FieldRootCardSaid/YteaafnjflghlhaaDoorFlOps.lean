/- Operations of the laws of package field. -/
import Derived.Test.YteaafnjflghlhaaDoorRDiv
import Derived.Test.YteaafnjflghlhaaDoorRFrom
import Derived.Test.YteaafnjflghlhaaDoorRShl
import Derived.Test.YteaafnjflghlhaaDoorWordMath
import Derived.Test.YteaafnjflghlhaaDoorFlReduce
import Derived.Test.YteaafnjflghlhaaDoorFlNew
import Derived.Test.YteaafnjflghlhaaDoorRefN
import Derived.Deep.RegionLaw
import Derived.Deep.RegionHeld3
import Derived.Test.YteaafnjflghlhaaDoorOpsS
import Derived.ChangeKeysEq
import Derived.WalkKit
namespace Go.Proofs.YteaafnjflghlhaaDoor
open Go.RowKit

/-- A hex digit. -/
def hexd (c : Nat) : Nat := if 97 ≤ c then c - 87 else c - 48
/-- What hex digits are. -/
def hexv (cs : List Nat) : Nat := cs.foldl (fun n c => n * 16 + hexd c) 0

set_option maxRecDepth 100000 in
set_option maxHeartbeats 6400000 in
theorem rhex_c {s : ByteArray} (w : World) (hs : s.size ≤ 100) (hd : ∀ c ∈ s.data.toList, 48 ≤ c.toNat ∧ c.toNat ≤ 57 ∨ 97 ≤ c.toNat ∧ c.toNat ≤ 102) :
    Calls Tryd.prog 50 #[.string s] w (RetR (fun w' v => Num w' v (hexv (s.data.toList.map (·.toNat))) 1000) w) := by
  obtain ⟨L, hL⟩ : ∃ L, L = s.size := ⟨_, rfl⟩
  have HL := Lib.hid hL
  have HD := Lib.hid hd
  have hL8 : L ≤ 100 := by omega
  clear hL hs hd
  go_enter Tryd.func50, Tryd.ntmps50
  go_wp2_with fail
  go_loopw [3, 4] (fun v i wr => ∃ m : Nat, m ≤ L ∧ i = .int .i64 (m : Int) ∧ Hid (Num wr v (hexv ((s.data.toList.map (·.toNat)).take m)) (2 * m + 2)) ∧ Hid (Below w.heap.size w wr))
    (fun _ i _ => (L - intOf i).toNat)
  case atStart => exact ⟨0, by omega, rfl, (Num.nil _).mono (by omega), Below.refl _ _⟩
  case round =>
    obtain ⟨m, hm, rfl, hn, hb⟩ := hrel
    have hsz : (s.size : Int) = (L : Int) := by rw [HL.out]
    by_cases hlt : (m : Int) < (L : Int)
    · have hmL : m < s.size := by rw [← HL.out]; omega
      have hget : s[m] = s.data.toList[m]'(by simpa using hmL) := by simp; rfl
      have hmem : s[m] ∈ s.data.toList := by rw [hget]; exact List.getElem_mem _
      have hx := HD.out _ hmem
      have hst : ∀ d, hexd s[m].toNat = d → hexv ((s.data.toList.map (·.toNat)).take (m + 1)) = hexv ((s.data.toList.map (·.toNat)).take m) * 2 ^ 4 + d := fun d hd => by
        rw [List.take_succ_eq_append_getElem (by simpa using hmL)]
        unfold hexv
        rw [List.foldl_append]
        simp only [List.getElem_map, List.foldl_cons, List.foldl_nil]
        rw [← hget, hd]
      by_cases h97 : 97 ≤ s[m].toNat
      · obtain ⟨d1, hd1⟩ : ∃ d, d = s[m].toNat - 97 := ⟨_, rfl⟩
        obtain ⟨d, hdd⟩ : ∃ d, d = d1 + 10 := ⟨_, rfl⟩
        have hdl : d < 18446744073709551616 := by omega
        have t1 : (97 : Int) ≤ (s[m].toNat : Int) := by omega
        have t2 : decide ((97 : Int) ≤ (s[m].toNat : Int)) = true := decide_eq_true t1
        have e1 : ((s[m].toNat : Int) - 97) % 256 = (d1 : Int) := by omega
        have e2 : IntKind.i64.wrap ((d1 : Int) + 10) = (d : Int) := by rw [IntWalk.i64_in _ (by omega)]; omega
        have e3 : IntKind.u64.wrap (d : Int) = (d : Int) := by rw [wrapU, Nat.mod_eq_of_lt (by omega)]
        replace hst := hst d (by unfold hexd; rw [if_pos h97]; omega)
        clear hx hmem hget h97 hd1 hdd
        have HST := Lib.hid hst
        have HDL := Lib.hid hdl
        clear hst hdl
        have hLL : 2 * m + 2 ≤ 16777216 := by omega
        have CS := rshl_n wr hn.out hLL 4 (by decide)
        rw [show ((4 : Nat) : Int) = 4 from rfl] at CS
        have CS := Lib.hid CS
        clear hLL
        have HB := Lib.hid hb.out
        obtain ⟨a0, ha0⟩ : ∃ a, a = hexv ((s.data.toList.map (·.toNat)).take m) := ⟨_, rfl⟩
        rw [← ha0] at CS
        have HA0 := Lib.hid ha0
        clear hn hb ha0
        go_wp2_with fail
        (with_reducible refine (CS.out).mono ?_)
        rintro e w1 ⟨v1, rfl, hv1, hb1⟩
        have CO := Lib.hid (rof_c d HDL.out w1)
        have HV1 := Lib.hid hv1
        have HB1 := Lib.hid (HB.out.trans (hb1.mono HB.out.size))
        clear hv1 hb1 CS HB
        go_wp2_with fail
        (with_reducible refine (CO.out).mono ?_)
        rintro e w2 ⟨v2, rfl, hv2, hb2⟩
        have CA := Lib.hid (radd_n w2 (HV1.out.below hb2) hv2 (by omega) (by omega))
        have HB2 := Lib.hid (HB1.out.trans (hb2.mono HB1.out.size))
        clear hv2 hb2 CO HV1 HB1
        go_wp2_with fail
        (with_reducible refine (CA.out).mono ?_)
        rintro e w3 ⟨v3, rfl, hv3, hb3⟩
        have HV3 : Hid (Num w3 v3 (hexv ((s.data.toList.map (·.toNat)).take (m + 1))) (2 * (m + 1) + 2)) := by
          have h := hv3
          rw [HST.out, ← HA0.out]
          exact h.mono (by omega)
        have HB3 := Lib.hid (HB2.out.trans (hb3.mono HB2.out.size))
        clear hv3 hb3 CA HB2
        go_wp2_with fail
        go_roundw
        case rel => exact ⟨m + 1, by omega, by go_num, HV3.out, HB3.out⟩
        case measure => simp [intOf]; omega
      · obtain ⟨d, hdd⟩ : ∃ d, d = s[m].toNat - 48 := ⟨_, rfl⟩
        have hdl : d < 18446744073709551616 := by omega
        have t1 : ¬ ((97 : Int) ≤ (s[m].toNat : Int)) := by omega
        have t2 : decide ((97 : Int) ≤ (s[m].toNat : Int)) = false := decide_eq_false t1
        have e1 : ((s[m].toNat : Int) - 48) % 256 = (d : Int) := by omega
        have e3 : IntKind.u64.wrap (d : Int) = (d : Int) := by rw [wrapU, Nat.mod_eq_of_lt (by omega)]
        replace hst := hst d (by unfold hexd; rw [if_neg h97]; omega)
        clear hx hmem hget h97 hdd
        have HST := Lib.hid hst
        have HDL := Lib.hid hdl
        clear hst hdl
        have hLL : 2 * m + 2 ≤ 16777216 := by omega
        have CS := rshl_n wr hn.out hLL 4 (by decide)
        rw [show ((4 : Nat) : Int) = 4 from rfl] at CS
        have CS := Lib.hid CS
        clear hLL
        have HB := Lib.hid hb.out
        obtain ⟨a0, ha0⟩ : ∃ a, a = hexv ((s.data.toList.map (·.toNat)).take m) := ⟨_, rfl⟩
        rw [← ha0] at CS
        have HA0 := Lib.hid ha0
        clear hn hb ha0
        go_wp2_with fail
        (with_reducible refine (CS.out).mono ?_)
        rintro e w1 ⟨v1, rfl, hv1, hb1⟩
        have CO := Lib.hid (rof_c d HDL.out w1)
        have HV1 := Lib.hid hv1
        have HB1 := Lib.hid (HB.out.trans (hb1.mono HB.out.size))
        clear hv1 hb1 CS HB
        go_wp2_with fail
        (with_reducible refine (CO.out).mono ?_)
        rintro e w2 ⟨v2, rfl, hv2, hb2⟩
        have CA := Lib.hid (radd_n w2 (HV1.out.below hb2) hv2 (by omega) (by omega))
        have HB2 := Lib.hid (HB1.out.trans (hb2.mono HB1.out.size))
        clear hv2 hb2 CO HV1 HB1
        go_wp2_with fail
        (with_reducible refine (CA.out).mono ?_)
        rintro e w3 ⟨v3, rfl, hv3, hb3⟩
        have HV3 : Hid (Num w3 v3 (hexv ((s.data.toList.map (·.toNat)).take (m + 1))) (2 * (m + 1) + 2)) := by
          have h := hv3
          rw [HST.out, ← HA0.out]
          exact h.mono (by omega)
        have HB3 := Lib.hid (HB2.out.trans (hb3.mono HB2.out.size))
        clear hv3 hb3 CA HB2
        go_wp2_with fail
        go_roundw
        case rel => exact ⟨m + 1, by omega, by go_num, HV3.out, HB3.out⟩
        case measure => simp [intOf]; omega
    · obtain rfl : m = L := by omega
      have HN := Lib.hid hn.out
      have HB := Lib.hid hb.out
      clear hn hb
      go_wp2_with fail
      go_ret
      have h := HN.out
      rw [List.take_of_length_le (by simp; have := HL.out; omega)] at h
      exact ⟨_, rfl, h.mono (by omega), HB.out⟩
end Go.Proofs.YteaafnjflghlhaaDoor
namespace Go.Proofs.YteaafnjflghlhaaDoor
open Go.RowKit

/-- The six primes. -/
def prm (k : Nat) : Nat := [0, 115792089237316195423570985008687907853269984665640564039457584007908834671663, 115792089237316195423570985008687907852837564279074904382605163141518161494337, 21888242871839275222246405745257275088696311157297823662689037894645226208583, 21888242871839275222246405745257275088548364400416034343698204186575808495617, 4002409555221667393417789825735904156556882819939007885332058136124031650490837864442687629129015664037894272559787, 52435875175126190479447740508185965837690552500527637822603658699938581184513].getD k 0
/-- How many limbs. -/
def plim (k : Nat) : Nat := if k = 5 then 6 else 4
def pri (k : Nat) : Nat := [0, 91248989341183975618893650062416139444822672217621753343178995607984094583082, 98562742561918706241446412617699626731164144128788972284189895985653995782166, 20988524275117001072002809824448087578619730785600314334253784976379291040311, 9915499612839321149637521777990102151350674507940716049588462388200839649614, 3231460744492646417066832100176244795738767926513225105051837195607029917124509527734802654356338138714468589979680, 12549076656233958353659347336803947287922716146853412054870763148006372261952].getD k 0
theorem fnum {k : Nat} (h1 : 1 ≤ k) (h6 : k ≤ 6) : FNum (prm k) (plim k) := by
  rcases (show k = 1 ∨ k = 2 ∨ k = 3 ∨ k = 4 ∨ k = 5 ∨ k = 6 by omega) with rfl | rfl | rfl | rfl | rfl | rfl
  · exact ⟨by decide +kernel, by decide +kernel, by decide +kernel, by decide +kernel, ⟨pri 1, by decide +kernel⟩⟩
  · exact ⟨by decide +kernel, by decide +kernel, by decide +kernel, by decide +kernel, ⟨pri 2, by decide +kernel⟩⟩
  · exact ⟨by decide +kernel, by decide +kernel, by decide +kernel, by decide +kernel, ⟨pri 3, by decide +kernel⟩⟩
  · exact ⟨by decide +kernel, by decide +kernel, by decide +kernel, by decide +kernel, ⟨pri 4, by decide +kernel⟩⟩
  · exact ⟨by decide +kernel, by decide +kernel, by decide +kernel, by decide +kernel, ⟨pri 5, by decide +kernel⟩⟩
  · exact ⟨by decide +kernel, by decide +kernel, by decide +kernel, by decide +kernel, ⟨pri 6, by decide +kernel⟩⟩
theorem Num.at_ {w : World} {v : Value} {a b L : Nat} (h : Num w v a L) (e : a = b) : Num w v b L := e ▸ h
/-- The limbs of the primes. -/
def plb (k i : Nat) : Nat := prm k / 18446744073709551616 ^ i % 18446744073709551616
theorem plb_facts {k : Nat} (h1 : 1 ≤ k) (h6 : k ≤ 6) : Lim6 (plb k 0) (plb k 1) (plb k 2) (plb k 3) (plb k 4) (plb k 5) ∧ n6 (plb k 0) (plb k 1) (plb k 2) (plb k 3) (plb k 4) (plb k 5) = prm k ∧ plb k 0 % 2 = 1 ∧ (blen (prm k) + 63) / 64 = plim k := by
  refine ⟨⟨?_, ?_, ?_, ?_, ?_, ?_⟩, ?_⟩
  all_goals first
    | (unfold Lim plb; exact Nat.mod_lt _ (by omega))
    | skip
  rcases (show k = 1 ∨ k = 2 ∨ k = 3 ∨ k = 4 ∨ k = 5 ∨ k = 6 by omega) with rfl | rfl | rfl | rfl | rfl | rfl <;>
    exact ⟨by decide +kernel, by decide +kernel, by decide +kernel⟩

/-- A number stands where a block that holds no digit turned. -/
theorem Num.far {w w' : World} {v : Value} {n L g : Nat} (h : Num w v n L) (hne : ∀ o (m : Int), w.cell? ⟨g, o, none⟩ ≠ some (.int .u32 m)) (hk : ∀ k, k ≠ g → w'.heap[k]? = w.heap[k]?) (hs : w'.heap.size = w.heap.size) : Num w' v n L := by
  obtain ⟨A, c, xs, rfl, hr, hc, hl⟩ := h
  refine ⟨A, c, xs, rfl, ?_, hc, hl⟩
  rcases Nat.eq_zero_or_pos xs.length with h0 | h0
  · exact ⟨hr.le, hr.cap, fun hp => by omega⟩
  · obtain ⟨b, o, rfl, hb, hcell⟩ := hr.at_ h0
    have hbg : b ≠ g := fun e => by
      subst e
      exact hne _ _ (hcell 0 h0)
    exact ⟨hr.le, hr.cap, fun _ => ⟨b, o, rfl, by rw [hs]; exact hb, fun j hj => (World.cell?_of_block (w := w) (a := ⟨b, o + j, none⟩) (hk b hbg)).trans (hcell j hj)⟩⟩
/-- What Of tells of a kind. -/
def OfF (k : Nat) (w : World) (e : Ending) (w' : World) : Prop := ∃ v, e = .returned (.tuple #[.agg #[v, .int .i64 ((8 * plim k : Nat) : Int)], .bool true]) ∧ Num w' v (prm k) 12 ∧ Below w.heap.size w w'

set_option maxRecDepth 100000 in
set_option maxHeartbeats 6400000 in
theorem rOf1 (w : World) : Calls Tryd.prog 26 #[.int .i64 1] w (OfF 1 w) := by
  obtain ⟨X, hX⟩ : ∃ X, X = w.alloc (.cells #[.slice none 0 0, .int .i64 0] 32) := ⟨_, rfl⟩
  have hcell : X.heap[w.heap.size]? = some (.cells #[.slice none 0 0, .int .i64 0] 32 (0, 0)) := by rw [hX]; exact heap_alloc_new w _
  have hb : Below w.heap.size w X := by rw [hX]; exact (Below.refl _ _).alloc (Nat.le_refl _) _
  have hs : X.heap.size = w.heap.size + 1 := by rw [hX]; simp
  have HX := Lib.hid hX
  have HC := Lib.hid hcell
  have HB := Lib.hid hb
  have HS := Lib.hid hs
  clear hX hcell hb hs
  go_enter Tryd.func26, Tryd.ntmps26
  go_upto_region 1 with (fail)
  rw [← HX.out]
  go_wp2_with fail
  (with_reducible refine (rhex_c X (by decide +kernel) (by decide +kernel)).mono ?_)
  rintro e w1 ⟨v1, rfl, hv1, hb1⟩
  have hv : Num w1 v1 (prm 1) 12 := (Num.at_ (b := prm 1) hv1 (by decide +kernel)).small (by decide +kernel)
  obtain ⟨A1, c1, xs1, rfl, hr1, hcn1, hl1⟩ := hv
  have HV : Hid (Num w1 (.slice A1 xs1.length c1) (prm 1) 12) := ⟨A1, c1, xs1, rfl, hr1, hcn1, hl1⟩
  clear hr1 hcn1 hl1
  generalize xs1.length = n1 at *
  have hc1 := (hb1.block w.heap.size (by rw [HS.out]; omega)).trans HC.out
  have y0 := cell_of_row w1 w.heap.size 0 _ _ _ hc1
  have y1 := cell_of_row w1 w.heap.size 1 _ _ _ hc1
  have f0 := frozen_of_row w1 w.heap.size 0 _ _ hc1
  have f1 := frozen_of_row w1 w.heap.size 1 _ _ hc1
  have HW := Lib.hid (HB.out.trans (hb1.mono HB.out.size))
  have HNE : Hid (∀ o (m : Int), w1.cell? ⟨w.heap.size, o, none⟩ ≠ some (.int .u32 m)) := by
    show ∀ o (m : Int), _
    intro o m h
    rw [cell_of_row w1 w.heap.size o _ _ _ hc1] at h
    match o with
    | 0 => simp at h
    | 1 => simp at h
    | k + 2 => simp at h
  simp at y0 y1
  clear hv1 hb1 hc1 HX HC
  go_wp2_with fail
  have gW := HW.out
  refine bodyPost_ret (v := .tuple #[.agg #[.slice A1 n1 c1, .int .i64 32], .bool true]) (by simp [results, Tryd.results26, go_sem, y0, y1]) rfl ⟨_, rfl, HV.out.far HNE.out (fun k hk => by rw [Below.heap_setCell _ _ _ _ hk, Below.heap_setCell _ _ _ _ hk]) (by simp [World.setCell]), ?_⟩
  repeat (first | exact gW | refine Below.setCell ?_ (by simp; try omega) _)

set_option maxRecDepth 100000 in
set_option maxHeartbeats 6400000 in
theorem rOf2 (w : World) : Calls Tryd.prog 26 #[.int .i64 2] w (OfF 2 w) := by
  obtain ⟨X, hX⟩ : ∃ X, X = w.alloc (.cells #[.slice none 0 0, .int .i64 0] 32) := ⟨_, rfl⟩
  have hcell : X.heap[w.heap.size]? = some (.cells #[.slice none 0 0, .int .i64 0] 32 (0, 0)) := by rw [hX]; exact heap_alloc_new w _
  have hb : Below w.heap.size w X := by rw [hX]; exact (Below.refl _ _).alloc (Nat.le_refl _) _
  have hs : X.heap.size = w.heap.size + 1 := by rw [hX]; simp
  have HX := Lib.hid hX
  have HC := Lib.hid hcell
  have HB := Lib.hid hb
  have HS := Lib.hid hs
  clear hX hcell hb hs
  go_enter Tryd.func26, Tryd.ntmps26
  go_upto_region 1 with (fail)
  rw [← HX.out]
  go_wp2_with fail
  (with_reducible refine (rhex_c X (by decide +kernel) (by decide +kernel)).mono ?_)
  rintro e w1 ⟨v1, rfl, hv1, hb1⟩
  have hv : Num w1 v1 (prm 2) 12 := (Num.at_ (b := prm 2) hv1 (by decide +kernel)).small (by decide +kernel)
  obtain ⟨A1, c1, xs1, rfl, hr1, hcn1, hl1⟩ := hv
  have HV : Hid (Num w1 (.slice A1 xs1.length c1) (prm 2) 12) := ⟨A1, c1, xs1, rfl, hr1, hcn1, hl1⟩
  clear hr1 hcn1 hl1
  generalize xs1.length = n1 at *
  have hc1 := (hb1.block w.heap.size (by rw [HS.out]; omega)).trans HC.out
  have y0 := cell_of_row w1 w.heap.size 0 _ _ _ hc1
  have y1 := cell_of_row w1 w.heap.size 1 _ _ _ hc1
  have f0 := frozen_of_row w1 w.heap.size 0 _ _ hc1
  have f1 := frozen_of_row w1 w.heap.size 1 _ _ hc1
  have HW := Lib.hid (HB.out.trans (hb1.mono HB.out.size))
  have HNE : Hid (∀ o (m : Int), w1.cell? ⟨w.heap.size, o, none⟩ ≠ some (.int .u32 m)) := by
    show ∀ o (m : Int), _
    intro o m h
    rw [cell_of_row w1 w.heap.size o _ _ _ hc1] at h
    match o with
    | 0 => simp at h
    | 1 => simp at h
    | k + 2 => simp at h
  simp at y0 y1
  clear hv1 hb1 hc1 HX HC
  go_wp2_with fail
  have gW := HW.out
  refine bodyPost_ret (v := .tuple #[.agg #[.slice A1 n1 c1, .int .i64 32], .bool true]) (by simp [results, Tryd.results26, go_sem, y0, y1]) rfl ⟨_, rfl, HV.out.far HNE.out (fun k hk => by rw [Below.heap_setCell _ _ _ _ hk, Below.heap_setCell _ _ _ _ hk]) (by simp [World.setCell]), ?_⟩
  repeat (first | exact gW | refine Below.setCell ?_ (by simp; try omega) _)

set_option maxRecDepth 100000 in
set_option maxHeartbeats 6400000 in
theorem rOf3 (w : World) : Calls Tryd.prog 26 #[.int .i64 3] w (OfF 3 w) := by
  obtain ⟨X, hX⟩ : ∃ X, X = w.alloc (.cells #[.slice none 0 0, .int .i64 0] 32) := ⟨_, rfl⟩
  have hcell : X.heap[w.heap.size]? = some (.cells #[.slice none 0 0, .int .i64 0] 32 (0, 0)) := by rw [hX]; exact heap_alloc_new w _
  have hb : Below w.heap.size w X := by rw [hX]; exact (Below.refl _ _).alloc (Nat.le_refl _) _
  have hs : X.heap.size = w.heap.size + 1 := by rw [hX]; simp
  have HX := Lib.hid hX
  have HC := Lib.hid hcell
  have HB := Lib.hid hb
  have HS := Lib.hid hs
  clear hX hcell hb hs
  go_enter Tryd.func26, Tryd.ntmps26
  go_upto_region 1 with (fail)
  rw [← HX.out]
  go_wp2_with fail
  (with_reducible refine (rhex_c X (by decide +kernel) (by decide +kernel)).mono ?_)
  rintro e w1 ⟨v1, rfl, hv1, hb1⟩
  have hv : Num w1 v1 (prm 3) 12 := (Num.at_ (b := prm 3) hv1 (by decide +kernel)).small (by decide +kernel)
  obtain ⟨A1, c1, xs1, rfl, hr1, hcn1, hl1⟩ := hv
  have HV : Hid (Num w1 (.slice A1 xs1.length c1) (prm 3) 12) := ⟨A1, c1, xs1, rfl, hr1, hcn1, hl1⟩
  clear hr1 hcn1 hl1
  generalize xs1.length = n1 at *
  have hc1 := (hb1.block w.heap.size (by rw [HS.out]; omega)).trans HC.out
  have y0 := cell_of_row w1 w.heap.size 0 _ _ _ hc1
  have y1 := cell_of_row w1 w.heap.size 1 _ _ _ hc1
  have f0 := frozen_of_row w1 w.heap.size 0 _ _ hc1
  have f1 := frozen_of_row w1 w.heap.size 1 _ _ hc1
  have HW := Lib.hid (HB.out.trans (hb1.mono HB.out.size))
  have HNE : Hid (∀ o (m : Int), w1.cell? ⟨w.heap.size, o, none⟩ ≠ some (.int .u32 m)) := by
    show ∀ o (m : Int), _
    intro o m h
    rw [cell_of_row w1 w.heap.size o _ _ _ hc1] at h
    match o with
    | 0 => simp at h
    | 1 => simp at h
    | k + 2 => simp at h
  simp at y0 y1
  clear hv1 hb1 hc1 HX HC
  go_wp2_with fail
  have gW := HW.out
  refine bodyPost_ret (v := .tuple #[.agg #[.slice A1 n1 c1, .int .i64 32], .bool true]) (by simp [results, Tryd.results26, go_sem, y0, y1]) rfl ⟨_, rfl, HV.out.far HNE.out (fun k hk => by rw [Below.heap_setCell _ _ _ _ hk, Below.heap_setCell _ _ _ _ hk]) (by simp [World.setCell]), ?_⟩
  repeat (first | exact gW | refine Below.setCell ?_ (by simp; try omega) _)

set_option maxRecDepth 100000 in
set_option maxHeartbeats 6400000 in
theorem rOf4 (w : World) : Calls Tryd.prog 26 #[.int .i64 4] w (OfF 4 w) := by
  obtain ⟨X, hX⟩ : ∃ X, X = w.alloc (.cells #[.slice none 0 0, .int .i64 0] 32) := ⟨_, rfl⟩
  have hcell : X.heap[w.heap.size]? = some (.cells #[.slice none 0 0, .int .i64 0] 32 (0, 0)) := by rw [hX]; exact heap_alloc_new w _
  have hb : Below w.heap.size w X := by rw [hX]; exact (Below.refl _ _).alloc (Nat.le_refl _) _
  have hs : X.heap.size = w.heap.size + 1 := by rw [hX]; simp
  have HX := Lib.hid hX
  have HC := Lib.hid hcell
  have HB := Lib.hid hb
  have HS := Lib.hid hs
  clear hX hcell hb hs
  go_enter Tryd.func26, Tryd.ntmps26
  go_upto_region 1 with (fail)
  rw [← HX.out]
  go_wp2_with fail
  (with_reducible refine (rhex_c X (by decide +kernel) (by decide +kernel)).mono ?_)
  rintro e w1 ⟨v1, rfl, hv1, hb1⟩
  have hv : Num w1 v1 (prm 4) 12 := (Num.at_ (b := prm 4) hv1 (by decide +kernel)).small (by decide +kernel)
  obtain ⟨A1, c1, xs1, rfl, hr1, hcn1, hl1⟩ := hv
  have HV : Hid (Num w1 (.slice A1 xs1.length c1) (prm 4) 12) := ⟨A1, c1, xs1, rfl, hr1, hcn1, hl1⟩
  clear hr1 hcn1 hl1
  generalize xs1.length = n1 at *
  have hc1 := (hb1.block w.heap.size (by rw [HS.out]; omega)).trans HC.out
  have y0 := cell_of_row w1 w.heap.size 0 _ _ _ hc1
  have y1 := cell_of_row w1 w.heap.size 1 _ _ _ hc1
  have f0 := frozen_of_row w1 w.heap.size 0 _ _ hc1
  have f1 := frozen_of_row w1 w.heap.size 1 _ _ hc1
  have HW := Lib.hid (HB.out.trans (hb1.mono HB.out.size))
  have HNE : Hid (∀ o (m : Int), w1.cell? ⟨w.heap.size, o, none⟩ ≠ some (.int .u32 m)) := by
    show ∀ o (m : Int), _
    intro o m h
    rw [cell_of_row w1 w.heap.size o _ _ _ hc1] at h
    match o with
    | 0 => simp at h
    | 1 => simp at h
    | k + 2 => simp at h
  simp at y0 y1
  clear hv1 hb1 hc1 HX HC
  go_wp2_with fail
  have gW := HW.out
  refine bodyPost_ret (v := .tuple #[.agg #[.slice A1 n1 c1, .int .i64 32], .bool true]) (by simp [results, Tryd.results26, go_sem, y0, y1]) rfl ⟨_, rfl, HV.out.far HNE.out (fun k hk => by rw [Below.heap_setCell _ _ _ _ hk, Below.heap_setCell _ _ _ _ hk]) (by simp [World.setCell]), ?_⟩
  repeat (first | exact gW | refine Below.setCell ?_ (by simp; try omega) _)

set_option maxRecDepth 100000 in
set_option maxHeartbeats 6400000 in
theorem rOf5 (w : World) : Calls Tryd.prog 26 #[.int .i64 5] w (OfF 5 w) := by
  obtain ⟨X, hX⟩ : ∃ X, X = w.alloc (.cells #[.slice none 0 0, .int .i64 0] 32) := ⟨_, rfl⟩
  have hcell : X.heap[w.heap.size]? = some (.cells #[.slice none 0 0, .int .i64 0] 32 (0, 0)) := by rw [hX]; exact heap_alloc_new w _
  have hb : Below w.heap.size w X := by rw [hX]; exact (Below.refl _ _).alloc (Nat.le_refl _) _
  have hs : X.heap.size = w.heap.size + 1 := by rw [hX]; simp
  have HX := Lib.hid hX
  have HC := Lib.hid hcell
  have HB := Lib.hid hb
  have HS := Lib.hid hs
  clear hX hcell hb hs
  go_enter Tryd.func26, Tryd.ntmps26
  go_upto_region 1 with (fail)
  rw [← HX.out]
  go_wp2_with fail
  (with_reducible refine (rhex_c X (by decide +kernel) (by decide +kernel)).mono ?_)
  rintro e w1 ⟨v1, rfl, hv1, hb1⟩
  have hv : Num w1 v1 (prm 5) 12 := (Num.at_ (b := prm 5) hv1 (by decide +kernel)).small (by decide +kernel)
  obtain ⟨A1, c1, xs1, rfl, hr1, hcn1, hl1⟩ := hv
  have HV : Hid (Num w1 (.slice A1 xs1.length c1) (prm 5) 12) := ⟨A1, c1, xs1, rfl, hr1, hcn1, hl1⟩
  clear hr1 hcn1 hl1
  generalize xs1.length = n1 at *
  have hc1 := (hb1.block w.heap.size (by rw [HS.out]; omega)).trans HC.out
  have y0 := cell_of_row w1 w.heap.size 0 _ _ _ hc1
  have y1 := cell_of_row w1 w.heap.size 1 _ _ _ hc1
  have f0 := frozen_of_row w1 w.heap.size 0 _ _ hc1
  have f1 := frozen_of_row w1 w.heap.size 1 _ _ hc1
  have HW := Lib.hid (HB.out.trans (hb1.mono HB.out.size))
  have HNE : Hid (∀ o (m : Int), w1.cell? ⟨w.heap.size, o, none⟩ ≠ some (.int .u32 m)) := by
    show ∀ o (m : Int), _
    intro o m h
    rw [cell_of_row w1 w.heap.size o _ _ _ hc1] at h
    match o with
    | 0 => simp at h
    | 1 => simp at h
    | k + 2 => simp at h
  simp at y0 y1
  clear hv1 hb1 hc1 HX HC
  go_wp2_with fail
  have gW := HW.out
  refine bodyPost_ret (v := .tuple #[.agg #[.slice A1 n1 c1, .int .i64 48], .bool true]) (by simp [results, Tryd.results26, go_sem, y0, y1]) rfl ⟨_, rfl, HV.out.far HNE.out (fun k hk => by rw [Below.heap_setCell _ _ _ _ hk, Below.heap_setCell _ _ _ _ hk]) (by simp [World.setCell]), ?_⟩
  repeat (first | exact gW | refine Below.setCell ?_ (by simp; try omega) _)

set_option maxRecDepth 100000 in
set_option maxHeartbeats 6400000 in
theorem rOf6 (w : World) : Calls Tryd.prog 26 #[.int .i64 6] w (OfF 6 w) := by
  obtain ⟨X, hX⟩ : ∃ X, X = w.alloc (.cells #[.slice none 0 0, .int .i64 0] 32) := ⟨_, rfl⟩
  have hcell : X.heap[w.heap.size]? = some (.cells #[.slice none 0 0, .int .i64 0] 32 (0, 0)) := by rw [hX]; exact heap_alloc_new w _
  have hb : Below w.heap.size w X := by rw [hX]; exact (Below.refl _ _).alloc (Nat.le_refl _) _
  have hs : X.heap.size = w.heap.size + 1 := by rw [hX]; simp
  have HX := Lib.hid hX
  have HC := Lib.hid hcell
  have HB := Lib.hid hb
  have HS := Lib.hid hs
  clear hX hcell hb hs
  go_enter Tryd.func26, Tryd.ntmps26
  go_upto_region 1 with (fail)
  rw [← HX.out]
  go_wp2_with fail
  (with_reducible refine (rhex_c X (by decide +kernel) (by decide +kernel)).mono ?_)
  rintro e w1 ⟨v1, rfl, hv1, hb1⟩
  have hv : Num w1 v1 (prm 6) 12 := (Num.at_ (b := prm 6) hv1 (by decide +kernel)).small (by decide +kernel)
  obtain ⟨A1, c1, xs1, rfl, hr1, hcn1, hl1⟩ := hv
  have HV : Hid (Num w1 (.slice A1 xs1.length c1) (prm 6) 12) := ⟨A1, c1, xs1, rfl, hr1, hcn1, hl1⟩
  clear hr1 hcn1 hl1
  generalize xs1.length = n1 at *
  have hc1 := (hb1.block w.heap.size (by rw [HS.out]; omega)).trans HC.out
  have y0 := cell_of_row w1 w.heap.size 0 _ _ _ hc1
  have y1 := cell_of_row w1 w.heap.size 1 _ _ _ hc1
  have f0 := frozen_of_row w1 w.heap.size 0 _ _ hc1
  have f1 := frozen_of_row w1 w.heap.size 1 _ _ hc1
  have HW := Lib.hid (HB.out.trans (hb1.mono HB.out.size))
  have HNE : Hid (∀ o (m : Int), w1.cell? ⟨w.heap.size, o, none⟩ ≠ some (.int .u32 m)) := by
    show ∀ o (m : Int), _
    intro o m h
    rw [cell_of_row w1 w.heap.size o _ _ _ hc1] at h
    match o with
    | 0 => simp at h
    | 1 => simp at h
    | k + 2 => simp at h
  simp at y0 y1
  clear hv1 hb1 hc1 HX HC
  go_wp2_with fail
  have gW := HW.out
  refine bodyPost_ret (v := .tuple #[.agg #[.slice A1 n1 c1, .int .i64 32], .bool true]) (by simp [results, Tryd.results26, go_sem, y0, y1]) rfl ⟨_, rfl, HV.out.far HNE.out (fun k hk => by rw [Below.heap_setCell _ _ _ _ hk, Below.heap_setCell _ _ _ _ hk]) (by simp [World.setCell]), ?_⟩
  repeat (first | exact gW | refine Below.setCell ?_ (by simp; try omega) _)

theorem rOf_c {k : Nat} (w : World) (h1 : 1 ≤ k) (h6 : k ≤ 6) : Calls Tryd.prog 26 #[.int .i64 (k : Nat)] w (OfF k w) := by
  rcases (show k = 1 ∨ k = 2 ∨ k = 3 ∨ k = 4 ∨ k = 5 ∨ k = 6 by omega) with rfl | rfl | rfl | rfl | rfl | rfl
  · exact rOf1 w
  · exact rOf2 w
  · exact rOf3 w
  · exact rOf4 w
  · exact rOf5 w
  · exact rOf6 w

set_option maxRecDepth 100000 in
set_option maxHeartbeats 6400000 in
theorem rOf_no {K : Int} (w : World) (h : K < 1 ∨ 6 < K) : Calls Tryd.prog 26 #[.int .i64 K] w fun e w' => e = .returned (.tuple #[.agg #[.slice none 0 0, .int .i64 0], .bool false]) ∧ Below w.heap.size w w' := by
  have k1 : ¬ K = 1 := by omega
  have k2 : ¬ K = 2 := by omega
  have k3 : ¬ K = 3 := by omega
  have k4 : ¬ K = 4 := by omega
  have k5 : ¬ K = 5 := by omega
  have k6 : ¬ K = 6 := by omega
  obtain ⟨X, hX⟩ : ∃ X, X = w.alloc (.cells #[.slice none 0 0, .int .i64 0] 32) := ⟨_, rfl⟩
  have hcell : X.heap[w.heap.size]? = some (.cells #[.slice none 0 0, .int .i64 0] 32 (0, 0)) := by rw [hX]; exact heap_alloc_new w _
  have hb : Below w.heap.size w X := by rw [hX]; exact (Below.refl _ _).alloc (Nat.le_refl _) _
  have y0 := cell_of_row X w.heap.size 0 _ _ _ hcell
  have y1 := cell_of_row X w.heap.size 1 _ _ _ hcell
  have f0 := frozen_of_row X w.heap.size 0 _ _ hcell
  have f1 := frozen_of_row X w.heap.size 1 _ _ hcell
  simp at y0 y1
  have HX := Lib.hid hX
  have HB := Lib.hid hb
  clear hX hcell hb h
  go_enter Tryd.func26, Tryd.ntmps26
  go_upto_region 1 with (fail)
  rw [← HX.out]
  go_wp2_with fail
  have gW := HB.out
  refine bodyPost_ret (v := .tuple #[.agg #[.slice none 0 0, .int .i64 0], .bool false]) (by simp [results, Tryd.results26, go_sem, y0, y1]) rfl ⟨rfl, ?_⟩
  repeat (first | exact gW | refine Below.setCell ?_ (by simp; try omega) _)
end Go.Proofs.YteaafnjflghlhaaDoor
namespace Go.Proofs.YteaafnjflghlhaaDoor
open Go.RowKit

set_option maxRecDepth 100000 in
set_option maxHeartbeats 6400000 in
theorem fnew_no {K : Int} (w : World) (h : K < 1 ∨ 6 < K) : Calls Tryd.prog 25 #[.int .i64 K] w fun e w' => e = .returned (.tuple #[.pointer none, .int .i64 1]) ∧ w' = w := by
  by_cases h1 : K < 1
  · have d1 : decide (K < 1) = true := decide_eq_true h1
    go_enter Tryd.func25, Tryd.ntmps25
    go_wp2_with fail
    go_ret2
    exact ⟨rfl, rfl⟩
  · have h2 : 6 < K := by omega
    have d1 : decide (K < 1) = false := decide_eq_false h1
    have d2 : decide (6 < K) = true := decide_eq_true h2
    go_enter Tryd.func25, Tryd.ntmps25
    go_wp2_with fail
    go_ret2
    exact ⟨rfl, rfl⟩
/-- The table of the primes lies in block 0. -/
def PrimesAt (w : World) : Prop := ∀ k, 1 ≤ k → k ≤ 6 → L6 w 0 ((k - 1) * 6) (plb k 0) (plb k 1) (plb k 2) (plb k 3) (plb k 4) (plb k 5)
theorem PrimesAt.lt {w : World} (h : PrimesAt w) : 0 < w.heap.size := (h 1 (by omega) (by omega)).lt
theorem PrimesAt.below {w w' : World} {B : Nat} (h : PrimesAt w) (hb : Below B w w') (hB : 0 < B) : PrimesAt w' := fun k h1 h6 => (h k h1 h6).keepB (hb.block 0 hB)
/-- A field is made. -/
def NewF (k : Nat) (w : World) (e : Ending) (w' : World) : Prop := ∃ F, e = .returned (.tuple #[.pointer (some ⟨F, 0, none⟩), .int .i64 0]) ∧ FldAt (prm k) (plim k) w' F ∧ w.heap.size ≤ F ∧ Below w.heap.size w w'
theorem fnew_k {k : Nat} (w : World) (h1 : 1 ≤ k) (h6 : k ≤ 6) (hG : PrimesAt w) : Calls Tryd.prog 25 #[.int .i64 (k : Nat)] w (NewF k w) := by
  obtain ⟨a, b, c, d⟩ := plb_facts h1 h6
  exact fnew_c w (fnum h1 h6) (show k = (k - 1) + 1 by omega) (by omega) a b c d (hG k h1 h6)
theorem n6_parts {x0 x1 x2 x3 x4 x5 y0 y1 y2 y3 y4 y5 : Nat} (hx : Lim6 x0 x1 x2 x3 x4 x5) (hy : Lim6 y0 y1 y2 y3 y4 y5) (h : n6 x0 x1 x2 x3 x4 x5 = n6 y0 y1 y2 y3 y4 y5) : x0 = y0 ∧ x1 = y1 ∧ x2 = y2 ∧ x3 = y3 ∧ x4 = y4 ∧ x5 = y5 := by
  obtain ⟨a0, a1, a2, a3, a4, a5⟩ := hx
  obtain ⟨b0, b1, b2, b3, b4, b5⟩ := hy
  unfold Lim at a0 a1 a2 a3 a4 a5 b0 b1 b2 b3 b4 b5
  unfold n6 at h
  have e0 : x0 = y0 := by omega
  have e1 : x1 = y1 := by omega
  have e2 : x2 = y2 := by omega
  have e3 : x3 = y3 := by omega
  have e4 : x4 = y4 := by omega
  exact ⟨e0, e1, e2, e3, e4, by omega⟩
theorem lim_small {n : Nat} (h : n < 1000) : Lim n := by unfold Lim; omega
theorem n6_small {x0 x1 x2 x3 x4 x5 n : Nat} (hx : Lim6 x0 x1 x2 x3 x4 x5) (hn : n < 1000) (h : n6 x0 x1 x2 x3 x4 x5 = n) : x0 = n ∧ x1 = 0 ∧ x2 = 0 ∧ x3 = 0 ∧ x4 = 0 ∧ x5 = 0 :=
  n6_parts hx ⟨lim_small hn, lim0, lim0, lim0, lim0, lim0⟩ (by rw [h]; unfold n6; omega)

theorem eq0 (w : World) : (Op.equalIn 10000 24 (.agg #[.int .u64 0, .int .u64 0, .int .u64 0, .int .u64 0, .int .u64 0, .int .u64 0]) (.agg #[.int .u64 0, .int .u64 0, .int .u64 0, .int .u64 0, .int .u64 0, .int .u64 0])).run Tryd.prog w = .ok true w := by kernel_rfl
theorem eq6 (w : World) : (Op.equalIn 10000 24 (.agg #[.int .u64 6, .int .u64 0, .int .u64 0, .int .u64 0, .int .u64 0, .int .u64 0]) (.agg #[.int .u64 6, .int .u64 0, .int .u64 0, .int .u64 0, .int .u64 0, .int .u64 0])).run Tryd.prog w = .ok true w := by kernel_rfl

set_option maxRecDepth 100000 in
set_option maxHeartbeats 6400000 in
theorem fwakes_c (w : World) (hG : PrimesAt w) : Calls Tryd.prog 27 #[] w (RetV (.bool true) w) := by
  have CN := fnew_k (k := 3) w (by omega) (by omega) hG
  rw [show ((3 : Nat) : Int) = 3 from rfl] at CN
  have CN := Lib.hid CN
  have q0 := eq0
  have q6 := eq6
  clear hG
  go_enter Tryd.func27, Tryd.ntmps27
  go_wp2_with fail
  (with_reducible refine (CN.out).mono ?_)
  rintro e w1 ⟨F, rfl, hF, hFl, hb1⟩
  have hkn : FNum (prm 3) (plim 3) := fnum (by omega) (by omega)
  have CS := fsize_c w1 hkn.limbs hF
  rw [show ((8 * plim 3 : Nat) : Int) = 32 from rfl] at CS
  have CS := Lib.hid CS
  have CM := Lib.hid (fmodulus_c w1 hF)
  have HF := Lib.hid hF
  have HB1 := Lib.hid hb1
  have HK := Lib.hid hkn
  clear hF hFl hb1 hkn CN
  go_wp2_with fail
  (with_reducible refine (CS.out).mono ?_)
  rintro e w2 ⟨rfl, rfl⟩
  clear CS
  go_wp2_with fail
  (with_reducible refine (CM.out).mono ?_)
  rintro e w3 ⟨p0, p1, p2, p3, p4, p5, rfl, lp, np, hb3⟩
  obtain ⟨hx, hf, hb4, hs4⟩ := box6 w3 p0 p1 p2 p3 p4 p5
  obtain ⟨X, hX⟩ : ∃ X, X = w3.alloc (.cells #[.int .u64 (p0 : Nat), .int .u64 (p1 : Nat), .int .u64 (p2 : Nat), .int .u64 (p3 : Nat), .int .u64 (p4 : Nat), .int .u64 (p5 : Nat)] 24) := ⟨_, rfl⟩
  rw [show Box6 w3 p0 p1 p2 p3 p4 p5 = X from hX.symm] at hx hf hb4 hs4
  obtain ⟨c0, c1, c2, c3, c4, c5⟩ := hx
  simp only [Nat.zero_add] at c1 c2 c3 c4 c5
  have e0 : p0 = 4332616871279656263 := by
    obtain ⟨a0, a1, a2, a3, a4, a5⟩ := lp
    have h : prm 3 % 18446744073709551616 = 4332616871279656263 := by decide +kernel
    rw [← np] at h
    unfold Lim at a0
    unfold n6 at h
    omega
  have t0 : (p0 : Int) = 4332616871279656263 := by rw [e0]; rfl
  have hBX : Below w2.heap.size w2 X := hb3.trans (hb4.mono hb3.size)
  have HFX := Lib.hid (HF.out.below hBX HF.out.lt)
  have CR := fReduce_c X HK.out HFX.out lp
  unfold W6 at CR
  rw [t0] at CR
  have CR := Lib.hid CR
  have HNP := Lib.hid np
  have HBX := Lib.hid (HB1.out.trans (hBX.mono HB1.out.size))
  have HX := Lib.hid hX
  clear lp np hb3 hf hb4 hs4 hBX CM hX HF HB1 e0
  go_upto_region 5 with (fail)
  have HX2 := HX.out
  rw [t0] at HX2
  rw [← HX2]
  clear HX HX2
  go_wp2_with fail
  (with_reducible refine (CR.out).mono ?_)
  rintro e w5 ⟨s0, s1, s2, s3, s4, s5, rfl, ls, es, hb5⟩
  obtain ⟨rfl, rfl, rfl, rfl, rfl, rfl⟩ := n6_small (n := 0) ls (by omega) (by rw [es, HNP.out, Nat.mod_self])
  have hF5 := HFX.out.below hb5 HFX.out.lt
  have CS := fSub_c (x0 := 1) (x1 := 0) (x2 := 0) (x3 := 0) (x4 := 0) (x5 := 0) (y0 := 1) (y1 := 0) (y2 := 0) (y3 := 0) (y4 := 0) (y5 := 0) w5 HK.out hF5 ⟨lim1, lim0, lim0, lim0, lim0, lim0⟩ ⟨lim1, lim0, lim0, lim0, lim0, lim0⟩
  unfold W6 at CS
  rw [show ((1 : Nat) : Int) = 1 from rfl, show ((0 : Nat) : Int) = 0 from rfl] at CS
  have CS := Lib.hid CS
  have HF5 := Lib.hid hF5
  have HB5 := Lib.hid (HBX.out.trans (hb5.mono HBX.out.size))
  clear ls es hb5 hF5 CR HFX HBX HNP c0 c1 c2 c3 c4 c5 t0
  go_wp2_with fail
  (with_reducible refine (CS.out).mono ?_)
  rintro e w6 ⟨s0, s1, s2, s3, s4, s5, rfl, ls, es, hb6⟩
  obtain ⟨rfl, rfl, rfl, rfl, rfl, rfl⟩ := n6_small (n := 0) ls (by omega) (by rw [es]; decide +kernel)
  have hF6 := HF5.out.below hb6 HF5.out.lt
  have CM := fMul_c (x0 := 2) (x1 := 0) (x2 := 0) (x3 := 0) (x4 := 0) (x5 := 0) (y0 := 3) (y1 := 0) (y2 := 0) (y3 := 0) (y4 := 0) (y5 := 0) w6 HK.out hF6 ⟨lim_small (by omega), lim0, lim0, lim0, lim0, lim0⟩ ⟨lim_small (by omega), lim0, lim0, lim0, lim0, lim0⟩
  unfold W6 at CM
  rw [show ((2 : Nat) : Int) = 2 from rfl, show ((3 : Nat) : Int) = 3 from rfl, show ((0 : Nat) : Int) = 0 from rfl] at CM
  have CM := Lib.hid CM
  have HB6 := Lib.hid (HB5.out.trans (hb6.mono HB5.out.size))
  clear ls es hb6 hF6 CS HF5 HB5
  go_wp2_with fail
  (with_reducible refine (CM.out).mono ?_)
  rintro e w7 ⟨s0, s1, s2, s3, s4, s5, rfl, ls, es, hb7⟩
  obtain ⟨rfl, rfl, rfl, rfl, rfl, rfl⟩ := n6_small (n := 6) ls (by omega) (by rw [es]; decide +kernel)
  have HB7 := Lib.hid (HB6.out.trans (hb7.mono HB6.out.size))
  clear ls es hb7 CM HB6
  go_wp2_with fail
  go_ret
  exact ⟨rfl, HB7.out⟩
end Go.Proofs.YteaafnjflghlhaaDoor
namespace Go.Proofs.YteaafnjflghlhaaDoor
open Go.RowKit

/-- The highest q bytes of a number of 48. -/
def tops (n q : Nat) : List Nat := (List.range q).map fun j => n / 256 ^ (47 - j) % 256
theorem tops_succ (n q : Nat) : tops n (q + 1) = tops n q ++ [n / 256 ^ (47 - q) % 256] := by unfold tops; rw [List.range_succ, List.map_append]; rfl
theorem tops_len (n q : Nat) : (tops n q).length = q := by simp [tops]
theorem tops_ds (n q : Nat) : Ds 256 (tops n q) := fun x hx => by
  unfold tops at hx
  obtain ⟨j, -, rfl⟩ := List.mem_map.1 hx
  exact Nat.mod_lt _ (by omega)
theorem tops_get (n q j : Nat) (h : j < q) : (tops n q).getD j 0 = n / 256 ^ (q - 1 - j + (48 - q)) % 256 ∨ 48 < q := by
  rcases Nat.lt_or_ge 48 q with h1 | h1
  · exact .inr h1
  · left
    unfold tops
    rw [List.getD_eq_getElem?_getD, List.getElem?_map, List.getElem?_range h]
    show _ / 256 ^ (47 - j) % 256 = _
    rw [show q - 1 - j + (48 - q) = 47 - j by omega]

set_option maxRecDepth 100000 in
set_option maxHeartbeats 6400000 in
theorem rN_c {x0 x1 x2 x3 x4 x5 : Nat} (w : World) (lx : Lim6 x0 x1 x2 x3 x4 x5) :
    Calls Tryd.prog 8 #[W6 x0 x1 x2 x3 x4 x5] w (RetR (fun w' v => Num w' v (n6 x0 x1 x2 x3 x4 x5) 12) w) := by
  obtain ⟨i0, hi, hz0, hz1, hz2⟩ := info_parts info8
  obtain ⟨X, hX⟩ : ∃ X, X = w.alloc (.cells #[.int .u64 (x0 : Nat), .int .u64 (x1 : Nat), .int .u64 (x2 : Nat), .int .u64 (x3 : Nat), .int .u64 (x4 : Nat), .int .u64 (x5 : Nat)] 24) := ⟨_, rfl⟩
  have hrow : Row .u64 X w.heap.size 24 [x0, x1, x2, x3, x4, x5] := by rw [hX]; exact heap_alloc_new w _
  have hbX : Below w.heap.size w X := by rw [hX]; exact (Below.refl _ _).alloc (Nat.le_refl _) _
  have hsX : X.heap.size = w.heap.size + 1 := by rw [hX]; simp
  obtain ⟨xs, hxs⟩ : ∃ xs, xs = [x0, x1, x2, x3, x4, x5] := ⟨_, rfl⟩
  rw [← hxs] at hrow
  have hlen : xs.length = 6 := by rw [hxs]; rfl
  have hd6 := lims6 lx
  rw [← hxs] at hd6
  have hvl := vl6 x0 x1 x2 x3 x4 x5
  rw [← hxs] at hvl
  obtain ⟨n, hn⟩ : ∃ n, n = n6 x0 x1 x2 x3 x4 x5 := ⟨_, rfl⟩
  have hn48 : n < 256 ^ 48 := by have := n6_lim lx; rw [hn, show (256 : Nat) ^ 48 = 39402006196394479212279040100143613805079739270465446667948293404245721771497210611414266254884915640806627990306816 by decide]; omega
  rw [← hn] at hvl ⊢
  have HX := Lib.hid hX
  have HROW := Lib.hid hrow
  have HBX := Lib.hid hbX
  have HSX := Lib.hid hsX
  have HLEN := Lib.hid hlen
  have HD6 := Lib.hid hd6
  have HVL := Lib.hid hvl
  have HN48 := Lib.hid hn48
  clear hX hrow hbX hsX hxs hlen hd6 hvl hn hn48 lx
  go_enter Tryd.func8, Tryd.ntmps8
  go_upto_region 2 with (fail)
  rw [← HX.out]
  go_wp2_with fail
  go_loopw [3, 4, 5] (fun v i _ wr => ∃ m : Nat, m ≤ 6 ∧ i = .int .i64 (5 - (m : Int)) ∧ Hid (Acc wr (w.heap.size + 1) v (tops n (8 * m))) ∧ Hid (Below (w.heap.size + 1) X wr))
    (fun _ i _ _ => (intOf i + 1).toNat)
  case atStart => exact ⟨0, by omega, by simp, Acc.nil _ _, Below.refl _ _⟩
  case round =>
    obtain ⟨m, hm, rfl, hacc, hbel⟩ := hrel
    by_cases hlt : m < 6
    · have t0 : (0 : Int) ≤ 5 - (m : Int) := by omega
      have t1 : (m : Int) ≤ 5 := by omega
      go_upto_region 6 with (fail)
      clear t0 t1
      obtain ⟨p, hp⟩ : ∃ p : Nat, 5 - (m : Int) = (p : Int) := ⟨5 - m, by omega⟩
      rw [hp]
      have HP : Hid (p = 5 - m ∧ m < 6) := ⟨by omega, hlt⟩
      have hp0 : (p : Int) < 6 := by omega
      clear hp hlt hm
      go_loopw [3, 5] (fun v k wr => ∃ r : Nat, r ≤ 8 ∧ k = .int .i64 (7 - (r : Int)) ∧ Hid (Acc wr (w.heap.size + 1) v (tops n (8 * m + r))) ∧ Hid (Below (w.heap.size + 1) X wr))
        (fun _ k _ => (intOf k + 1).toNat)
      case atStart => exact ⟨0, by omega, by simp, hacc.out, hbel.out⟩
      case round =>
        clear hacc hbel
        obtain ⟨r, hr, rfl, hacc, hbel⟩ := hrel
        by_cases hlt : r < 8
        · obtain ⟨kk, hkk⟩ : ∃ k : Nat, 7 - (r : Int) = (k : Int) := ⟨7 - r, by omega⟩
          rw [hkk]
          obtain ⟨s, hs⟩ : ∃ s, s = 8 * kk := ⟨_, rfl⟩
          have hk8 : kk < 8 := by omega
          have e1 : IntKind.i64.wrap (8 * (kk : Int)) = (s : Int) := by rw [IntWalk.i64_in _ (by omega)]; omega
          have hs63 : (s : Int) ≤ 63 := by omega
          have e5 : wrap64 ((kk : Int) - 1) = (kk : Int) - 1 := IntWalk.wrap64_in _ (by omega)
          have cx := (hbel.out.cell (p := ⟨w.heap.size, p, none⟩) (Nat.lt_succ_self _)).trans (HROW.out.cell p (by rw [HLEN.out]; omega))
          obtain ⟨x, ex⟩ : ∃ x, x = xs.getD p 0 := ⟨_, rfl⟩
          rw [← ex] at cx
          obtain ⟨y, ey⟩ : ∃ y, y = x / 2 ^ s := ⟨_, rfl⟩
          obtain ⟨u, eu⟩ : ∃ u, u = y % 256 := ⟨_, rfl⟩
          have hbyte : u = n / 256 ^ (47 - (8 * m + r)) % 256 := by
            have h1 := HP.out
            rw [eu, ey, ex, hs, byte_of_limb HD6.out p kk hk8, vl_dv, HVL.out, show 8 * p + kk = 47 - (8 * m + r) by omega]
          have vy : (x : Int) / 2 ^ s = (y : Int) := by rw [ey]; simp
          have vb : IntKind.u8.wrap (y : Int) = (u : Int) := by rw [IntKind.wrap_u8']; omega
          obtain ⟨bs, hbs⟩ : ∃ bs, bs = tops n (8 * m + r) := ⟨_, rfl⟩
          have hnx : tops n (8 * m + (r + 1)) = bs ++ [u] := by rw [hbs, hbyte]; exact tops_succ n (8 * m + r)
          have hbl : bs.length ≤ 48 := by rw [hbs, tops_len]; have := HP.out; omega
          rw [← hbs] at hacc
          have HNX := Lib.hid hnx
          have HBL := Lib.hid hbl
          replace hacc := hacc.out
          replace hbel := hbel.out
          obtain ⟨A', c', rfl⟩ := hacc.form
          have HR8 : Hid (r < 8 ∧ 7 - (r : Int) = (kk : Int)) := ⟨hlt, hkk⟩
          clear hs ex ey eu hbyte hbs hnx hbl hlt hkk hk8 hr
          go_wp2_with (at_builtin; refine wpList_append_own _ rfl (.tmp 14) (.tmp 22) 25 rfl (w.heap.size + 1) 5 i0 (.int .u8 0) 1 1 Tryd.underlying25 hi hz0 hz1 hz2 rfl (by decide) _ _ _ rfl (World.ownsRow.alloc hacc _) ⟨wr.heap.size, 0, none⟩ 1 1 [.int .u8 (u : Int)] rfl rfl one_cells (by intro u hu; simp at hu; subst hu; rfl) (by have := HBL.out; unfold maxLen; omega) (by have := HBL.out; omega) (by have := hbel.size; have := HSX.out; simp; omega) ?_)
          intro v' w1 hown hg _
          have hacc' : Acc w1 (w.heap.size + 1) v' (bs ++ [u]) := by unfold Acc; rw [bv_append, List.length_append]; exact hown
          have hbel' : Below (w.heap.size + 1) X w1 := (hbel.alloc (by have := hbel.size; have := HSX.out; omega) _).grown hg (by have := hbel.size; have := HSX.out; simp; omega) hacc.own
          have HA := Lib.hid hacc'
          have HBl := Lib.hid hbel'
          clear hown hg hacc' hbel' hacc hbel
          go_wp2_with fail
          go_roundw
          case rel => exact ⟨r + 1, by have := HR8.out.1; omega, by have := HR8.out.2; go_num, by rw [HNX.out]; exact HA.out, HBl.out⟩
          case measure => have := HR8.out; simp [intOf] <;> omega
        · obtain rfl : r = 8 := by omega
          have HA := Lib.hid hacc.out
          have HBl := Lib.hid hbel.out
          have HP2 : Hid ((p : Int) = 5 - (m : Int)) := by have := HP.out; show _ = _; omega
          clear hacc hbel hlt hr
          go_wp2_with fail
          go_roundw
          case rel => exact ⟨m + 1, by have := HP.out.2; omega, by have := HP2.out; go_num, by rw [show 8 * (m + 1) = 8 * m + 8 by omega]; exact HA.out, HBl.out⟩
          case measure => have := HP2.out; have := HP.out; simp [intOf] <;> omega
    · obtain rfl : m = 6 := by omega
      have hbs := tops_ds n 48
      have hby := hacc.out.byt hbs
      have hv : dv 256 (tops n 48).reverse = n := dv_told (tops_len n 48) (fun j hj => by
        rcases tops_get n 48 j hj with h | h
        · rw [h, show 48 - 1 - j + (48 - 48) = 48 - 1 - j by omega]
        · omega) HN48.out
      have CF := Lib.hid (rfrom_n wr hby (by rw [tops_len]; omega))
      rw [hv, tops_len] at CF
      have HB := Lib.hid hbel.out
      clear hacc hbel hbs hby hv hlt hm
      go_wp2_with fail
      (with_reducible refine (CF.out).mono ?_)
      rintro e w1 ⟨v1, rfl, hv1, hb1⟩
      have HV1 := Lib.hid hv1
      have HB1 := Lib.hid (HBX.out.trans ((HB.out.trans (hb1.mono (by have := HB.out.size; have := HSX.out; omega))).mono (Nat.le_succ _)))
      clear hv1 hb1 CF
      go_wp2_with fail
      go_ret
      exact ⟨_, rfl, HV1.out, HB1.out⟩

set_option maxRecDepth 100000 in
set_option maxHeartbeats 1600000 in
theorem rRed_c {u v : Value} {n P L M : Nat} (w : World) (S : Int) (h : Num w u n L) (h' : Num w v P M) (hL : L ≤ 1048576) (hM : M ≤ 1048576) (hP : 0 < P) :
    Calls Tryd.prog 7 #[.agg #[v, .int .i64 S], u] w (RetR (fun w' x => Num w' x (n % P) M) w) := by
  obtain ⟨A, c, xs, rfl, hr, hc, hl⟩ := h'
  have hb := (Below.refl w.heap.size w).alloc (Nat.le_refl _) (.cells #[.slice A xs.length c, .int .i64 S] 32)
  have hcell := heap_alloc_new w (.cells #[.slice A xs.length c, .int .i64 S] 32)
  obtain ⟨X, hX⟩ : ∃ X, X = w.alloc (.cells #[.slice A xs.length c, .int .i64 S] 32) := ⟨_, rfl⟩
  rw [← hX] at hb hcell
  have c0 : X.cell? ⟨w.heap.size, 0, none⟩ = some (.slice A xs.length c) := cell_of_row X w.heap.size 0 _ _ _ hcell
  have CM := Lib.hid (rmod_n X (h.below hb) (⟨A, c, xs, rfl, hr.below hb, hc, hl⟩ : Num X (.slice A xs.length c) P M) hL hM hP)
  have HX := Lib.hid hX
  have HB := Lib.hid hb
  clear hX hb hcell h hr hc hl
  go_enter Tryd.func7, Tryd.ntmps7
  go_upto_region 1 with (fail)
  rw [← HX.out]
  go_wp2_with fail
  (with_reducible refine (CM.out).mono ?_)
  rintro e w1 ⟨v1, rfl, hv1, hb1⟩
  have HV1 := Lib.hid hv1
  have HB1 := Lib.hid (HB.out.trans (hb1.mono HB.out.size))
  clear hv1 hb1 CM HX
  go_wp2_with fail
  go_ret
  exact ⟨_, rfl, HV1.out, HB1.out⟩
end Go.Proofs.YteaafnjflghlhaaDoor
namespace Go.Proofs.YteaafnjflghlhaaDoor
open Go.RowKit

/-- A cell for a field of the document's. -/
theorem cellF {w X : World} {u s : Value} (hX : X = w.alloc (.cells #[u, s] 32)) : (X.cell? ⟨w.heap.size, 0, none⟩ = some u ∧ X.cell? ⟨w.heap.size, 1, none⟩ = some s ∧ X.frozen? ⟨w.heap.size, 0, none⟩ = false ∧ X.frozen? ⟨w.heap.size, 1, none⟩ = false) ∧ (∀ o, 2 ≤ o → X.cell? ⟨w.heap.size, o, none⟩ = none) ∧ Below w.heap.size w X ∧ X.heap.size = w.heap.size + 1 := by
  have h : X.heap[w.heap.size]? = some (.cells #[u, s] 32 (0, 0)) := by rw [hX]; exact heap_alloc_new w _
  refine ⟨⟨cell_of_row X w.heap.size 0 _ _ _ h, cell_of_row X w.heap.size 1 _ _ _ h, frozen_of_row X w.heap.size 0 _ _ h, frozen_of_row X w.heap.size 1 _ _ h⟩, fun o ho => ?_, by rw [hX]; exact (Below.refl _ _).alloc (Nat.le_refl _) _, by rw [hX]; simp⟩
  rw [cell_of_row X w.heap.size o _ _ _ h]
  match o, ho with
  | k + 2, _ => rfl
/-- A call without arguments, guarded, as one step of a region that draws. -/
theorem step_call0g {ops : Array Oper} {o : Oper} {a : Act} {w : World} {K : Act → World → Prop} {Q : Exit → Act → World → Prop} {E : Prop} (hw : Region.wanted o (yielded ops a.tmps) = true) (f : FuncId) {tys : Array TypeId}
    (ho : o.op = .call { callee := .value (.func f), args := #[], argTypes := tys }) (he : ∀ args w, (callFunc f args).run Tryd.prog w = .ok (.enter f args) w) {R : Ending → World → Prop}
    (h : Calls Tryd.prog f #[] w R) (hR : ∀ e w', R e w' → ∃ v, e = .returned v ∧ K (a.put o.dst v) w') : if Region.wanted o (yielded ops a.tmps) = true then o.wp Tryd.prog a w K Q else E := by
  rw [if_pos hw]
  have e : (execOp a.eval o).run Tryd.prog w = .ok (.enter f #[]) w := by
    have hp : a.eval (.func f) = .func (.func f) #[] #[] := rfl
    have e := he #[] w
    clear h hw hR
    generalize a.eval = p at *
    unfold execOp
    rw [ho]
    go_simp
  unfold Oper.wp
  rw [e]
  refine h.mono fun e w' hr => ?_
  obtain ⟨v, rfl, hk⟩ := hR e w' hr
  exact hk
set_option maxRecDepth 100000 in
theorem en_wakes (args : Array Value) (w : World) : (callFunc 27 args).run Tryd.prog w = .ok (.enter 27 args) w := by go_simp

/-- What both tells of one of the six. -/
def BothF (k : Nat) (w : World) (e : Ending) (w' : World) : Prop := ∃ F A n c, e = .returned (.tuple #[.pointer (some ⟨F, 0, none⟩), .agg #[.slice A n c, .int .i64 ((8 * plim k : Nat) : Int)], .bool true, .bool false]) ∧ Num w' (.slice A n c) (prm k) 12 ∧ FldAt (prm k) (plim k) w' F ∧ w.heap.size ≤ F ∧ Below w.heap.size w w'

set_option maxRecDepth 100000 in
set_option maxHeartbeats 6400000 in
theorem fboth_c {k : Nat} (w : World) (h1 : 1 ≤ k) (h6 : k ≤ 6) (hG : PrimesAt w) : Calls Tryd.prog 6 #[.int .i64 (k : Nat)] w (BothF k w) := by
  obtain ⟨X, hX⟩ : ∃ X, X = w.alloc (.cells #[.slice none 0 0, .int .i64 0] 32) := ⟨_, rfl⟩
  obtain ⟨⟨y0, y1, f0, f1⟩, hno, hb, hs⟩ := cellF hX
  have hG0 := hG.lt
  have CN := Lib.hid (fnew_k X h1 h6 (hG.below hb hG0))
  have CO : Hid (∀ W, Calls Tryd.prog 26 #[.int .i64 (k : Nat)] W (OfF k W)) := fun W => rOf_c W h1 h6
  have CW : Hid (∀ W, Below w.heap.size w W → Calls Tryd.prog 27 #[] W (RetV (.bool true) W)) := fun W h => fwakes_c W (hG.below h hG0)
  have HX := Lib.hid hX
  have HB := Lib.hid hb
  have HS := Lib.hid hs
  have HNO := Lib.hid hno
  have HY := Lib.hid (And.intro y0 (And.intro y1 (And.intro f0 f1)))
  clear hX hb hs hno y0 y1 f0 f1 hG hG0 h1 h6
  go_enter Tryd.func6, Tryd.ntmps6
  go_upto_region 1 with (fail)
  rw [← HX.out]
  clear HX
  go_wp2_with fail
  (with_reducible refine (CN.out).mono ?_)
  rintro e w1 ⟨F, rfl, hF, hFl, hb1⟩
  have HF := Lib.hid hF
  have HFL : Hid (X.heap.size ≤ F) := hFl
  have HB1 := Lib.hid hb1
  have CO1 := Lib.hid (CO.out w1)
  clear hF hFl hb1 CN CO
  go_wp2_with fail
  (with_reducible refine (CO1.out).mono ?_)
  rintro e w2 ⟨v, rfl, hv, hb2⟩
  obtain ⟨A, c, xs, rfl, hr, hcn, hl⟩ := hv
  have HV : Hid (Num w2 (.slice A xs.length c) (prm k) 12) := ⟨A, c, xs, rfl, hr, hcn, hl⟩
  obtain ⟨S, hS⟩ : ∃ S : Int, S = ((8 * plim k : Nat) : Int) := ⟨_, rfl⟩
  obtain ⟨n, hn⟩ : ∃ n, n = xs.length := ⟨_, rfl⟩
  rw [← hn] at HV ⊢
  rw [← hS]
  have HSS := Lib.hid hS
  have hF2 := HF.out.below hb2 HF.out.lt
  have hb12 : Below X.heap.size X w2 := HB1.out.trans (hb2.mono HB1.out.size)
  clear hr hcn hl hn hS CO1 HF
  obtain ⟨X3, hX3⟩ : ∃ X, X = w2.alloc (.cells #[.slice A n c, .int .i64 S] 32) := ⟨_, rfl⟩
  obtain ⟨⟨c0, c1, -, -⟩, -, hb3, hs3⟩ := cellF hX3
  have hb03 : Below X.heap.size X X3 := hb12.trans (hb3.mono hb12.size)
  have HV3 := Lib.hid (HV.out.below hb3)
  have HF3 := Lib.hid (hF2.below hb3 hF2.lt)
  have HB3 := Lib.hid hb03
  have HWX := Lib.hid (HB.out.trans (hb03.mono HB.out.size))
  have HSZ : Hid (w2.heap.size < X3.heap.size ∧ w.heap.size < w2.heap.size) := ⟨by omega, by have := hb12.size; have := HS.out; omega⟩
  have HX3 := Lib.hid hX3
  clear hF2 hb12 hb2 hb3 hs3 hb03 hX3 HV HB1
  go_upto_region 5 with (fail)
  rw [← HX3.out]
  clear HX3
  obtain ⟨y0, y1, f0, f1⟩ := HY.out
  have hlt : w.heap.size < X.heap.size := by rw [HS.out]; omega
  have d0 := (HB3.out.cell (p := ⟨w.heap.size, 0, none⟩) hlt).trans y0
  have d1 := (HB3.out.cell (p := ⟨w.heap.size, 1, none⟩) hlt).trans y1
  have g0 := (HB3.out.frozen (p := ⟨w.heap.size, 0, none⟩) hlt).trans f0
  have g1 := (HB3.out.frozen (p := ⟨w.heap.size, 1, none⟩) hlt).trans f1
  have HD := Lib.hid (And.intro d0 (And.intro d1 (And.intro g0 g1)))
  have HCC := Lib.hid (And.intro c0 c1)
  clear y0 y1 f0 f1 hlt HY d0 d1 g0 g1
  have HN2 : Hid (w.heap.size ≠ w2.heap.size) := by have := HSZ.out; show _ ≠ _; omega
  go_region_held3 (fun W' => W'.cell? ⟨w2.heap.size, 0, none⟩ = some (.slice A n c) ∧ W'.cell? ⟨w2.heap.size, 1, none⟩ = some (.int .i64 S))
    (first | exact HCC.out | exact HK4.out | exact ⟨((World.cell?_setCell_far _ _ _ _ HN2.out).trans (World.cell?_setCell_far _ _ _ _ HN2.out)).trans HK4.out.1, ((World.cell?_setCell_far _ _ _ _ HN2.out).trans (World.cell?_setCell_far _ _ _ _ HN2.out)).trans HK4.out.2⟩)
    (first
     | (refine step_call0g (by rfl) 27 rfl en_wakes (CW.out X3.drew ⟨HWX.out.os, HWX.out.tape, HWX.out.output, HWX.out.size, HWX.out.block⟩) ?_
        rintro e w4 ⟨rfl, hb4⟩
        refine ⟨_, rfl, ?_⟩
        have hb4' : Below X3.heap.size X3 w4 := ⟨hb4.os, hb4.tape, hb4.output, hb4.size, hb4.block⟩
        have d0 := (hb4'.cell (p := ⟨w.heap.size, 0, none⟩) (by show w.heap.size < _; have := HSZ.out; omega)).trans HD.out.1
        have d1 := (hb4'.cell (p := ⟨w.heap.size, 1, none⟩) (by show w.heap.size < _; have := HSZ.out; omega)).trans HD.out.2.1
        have g0 := (hb4'.frozen (p := ⟨w.heap.size, 0, none⟩) (by show w.heap.size < _; have := HSZ.out; omega)).trans HD.out.2.2.1
        have g1 := (hb4'.frozen (p := ⟨w.heap.size, 1, none⟩) (by show w.heap.size < _; have := HSZ.out; omega)).trans HD.out.2.2.2
        have HK4 := Lib.hid (And.intro ((hb4'.cell (p := ⟨w2.heap.size, 0, none⟩) (by show w2.heap.size < _; have := HSZ.out; omega)).trans HCC.out.1) ((hb4'.cell (p := ⟨w2.heap.size, 1, none⟩) (by show w2.heap.size < _; have := HSZ.out; omega)).trans HCC.out.2))
        have HB4 := Lib.hid hb4'
        clear hb4 hb4'))
  all_goals
    obtain ⟨d0, d1, g0, g1⟩ := And.intro d0 (And.intro d1 (And.intro g0 g1))
    go_simp
    go_wp2_with fail
    have hFw : F ≠ w.heap.size := by have := HFL.out; have := HS.out; omega
    have hF4 : FldAt (prm k) (plim k) w4 F := HF3.out.keepB (HB4.out.block F HF3.out.lt)
    have hne : ∀ o (m : Int), w4.cell? ⟨w.heap.size, o, none⟩ ≠ some (.int .u32 m) := by
      intro o m h
      match o with
      | 0 => rw [d0] at h; cases h
      | 1 => rw [d1] at h; cases h
      | q + 2 =>
        have e := (HB4.out.cell (p := ⟨w.heap.size, q + 2, none⟩) (by show w.heap.size < _; have := HSZ.out; omega)).trans ((HB3.out.cell (p := ⟨w.heap.size, q + 2, none⟩) (by show w.heap.size < _; rw [HS.out]; omega)).trans (HNO.out (q + 2) (by omega)))
        rw [e] at h
        cases h
    have gW : Below w.heap.size w w4 := HWX.out.trans (HB4.out.mono (by have := HSZ.out; omega))
    refine bodyPost_ret (v := .tuple #[.pointer (some ⟨F, 0, none⟩), .agg #[.slice A n c, .int .i64 S], .bool true, .bool false]) (by simp [results, Tryd.results6, go_sem, d0, d1]) rfl ⟨F, A, n, c, by rw [HSS.out], (HV3.out.below HB4.out).far hne (fun k hk => by rw [Below.heap_setCell _ _ _ _ hk, Below.heap_setCell _ _ _ _ hk]) (by simp [World.setCell]), hF4.keepB (by rw [Below.heap_setCell _ _ _ _ hFw, Below.heap_setCell _ _ _ _ hFw]), by have := HFL.out; have := HS.out; omega, ?_⟩
    repeat (first | exact gW | refine Below.setCell ?_ (by simp; try omega) _)

/-- What both tells where there is no field. -/
def BothN (w : World) (e : Ending) (w' : World) : Prop := ∃ r, e = .returned (.tuple #[.pointer none, .agg #[.slice none 0 0, .int .i64 0], .bool false, .bool r]) ∧ r = true ∧ Below w.heap.size w w'

set_option maxRecDepth 100000 in
set_option maxHeartbeats 6400000 in
theorem fboth_no {K : Int} (w : World) (h : K < 1 ∨ 6 < K) (hG : PrimesAt w) : Calls Tryd.prog 6 #[.int .i64 K] w (BothN w) := by
  obtain ⟨X, hX⟩ : ∃ X, X = w.alloc (.cells #[.slice none 0 0, .int .i64 0] 32) := ⟨_, rfl⟩
  obtain ⟨⟨y0, y1, f0, f1⟩, -, hb, hs⟩ := cellF hX
  have hG0 := hG.lt
  have CN := Lib.hid (fnew_no (K := K) X h)
  have CO := Lib.hid (rOf_no (K := K) X h)
  have CW : Hid (∀ W, Below w.heap.size w W → Calls Tryd.prog 27 #[] W (RetV (.bool true) W)) := fun W h => fwakes_c W (hG.below h hG0)
  have HX := Lib.hid hX
  have HB := Lib.hid hb
  have HS := Lib.hid hs
  have HY := Lib.hid (And.intro y0 (And.intro y1 (And.intro f0 f1)))
  clear hX hb hs y0 y1 f0 f1 hG hG0 h
  go_enter Tryd.func6, Tryd.ntmps6
  go_upto_region 1 with (fail)
  rw [← HX.out]
  clear HX
  go_wp2_with fail
  (with_reducible refine (CN.out).mono ?_)
  rintro e w1 ⟨rfl, rfl⟩
  clear CN
  go_wp2_with fail
  (with_reducible refine (CO.out).mono ?_)
  rintro e w2 ⟨rfl, hb2⟩
  obtain ⟨X3, hX3⟩ : ∃ X, X = w2.alloc (.cells #[.slice none 0 0, .int .i64 0] 32) := ⟨_, rfl⟩
  obtain ⟨⟨c0, c1, -, -⟩, -, hb3, hs3⟩ := cellF hX3
  have hb03 : Below w1.heap.size w1 X3 := hb2.trans (hb3.mono hb2.size)
  have HB3 := Lib.hid hb03
  have HWX := Lib.hid (HB.out.trans (hb03.mono HB.out.size))
  have HSZ : Hid (w2.heap.size < X3.heap.size ∧ w.heap.size < w2.heap.size) := ⟨by omega, by have := hb2.size; have := HS.out; omega⟩
  have HX3 := Lib.hid hX3
  obtain ⟨y0, y1, f0, f1⟩ := HY.out
  have hlt : w.heap.size < w1.heap.size := by rw [HS.out]; omega
  have d0 := (hb03.cell (p := ⟨w.heap.size, 0, none⟩) hlt).trans y0
  have d1 := (hb03.cell (p := ⟨w.heap.size, 1, none⟩) hlt).trans y1
  have g0 := (hb03.frozen (p := ⟨w.heap.size, 0, none⟩) hlt).trans f0
  have g1 := (hb03.frozen (p := ⟨w.heap.size, 1, none⟩) hlt).trans f1
  have HD := Lib.hid (And.intro d0 (And.intro d1 (And.intro g0 g1)))
  have HCC := Lib.hid (And.intro c0 c1)
  clear hb2 hb3 hs3 hb03 hX3 y0 y1 f0 f1 hlt HY d0 d1 g0 g1 CO
  go_upto_region 4 with (fail)
  rw [← HX3.out]
  clear HX3
  have HN2 : Hid (w.heap.size ≠ w2.heap.size) := by have := HSZ.out; show _ ≠ _; omega
  go_region_held3 (fun W' => W'.cell? ⟨w2.heap.size, 0, none⟩ = some (.slice none 0 0) ∧ W'.cell? ⟨w2.heap.size, 1, none⟩ = some (.int .i64 0))
    (first | exact HCC.out | exact HK4.out | exact ⟨((World.cell?_setCell_far _ _ _ _ HN2.out).trans (World.cell?_setCell_far _ _ _ _ HN2.out)).trans HK4.out.1, ((World.cell?_setCell_far _ _ _ _ HN2.out).trans (World.cell?_setCell_far _ _ _ _ HN2.out)).trans HK4.out.2⟩)
    (first
     | (refine step_call0g (by rfl) 27 rfl en_wakes (CW.out X3.drew ⟨HWX.out.os, HWX.out.tape, HWX.out.output, HWX.out.size, HWX.out.block⟩) ?_
        rintro e w4 ⟨rfl, hb4⟩
        refine ⟨_, rfl, ?_⟩
        have hb4' : Below X3.heap.size X3 w4 := ⟨hb4.os, hb4.tape, hb4.output, hb4.size, hb4.block⟩
        have d0 := (hb4'.cell (p := ⟨w.heap.size, 0, none⟩) (by show w.heap.size < _; have := HSZ.out; omega)).trans HD.out.1
        have d1 := (hb4'.cell (p := ⟨w.heap.size, 1, none⟩) (by show w.heap.size < _; have := HSZ.out; omega)).trans HD.out.2.1
        have g0 := (hb4'.frozen (p := ⟨w.heap.size, 0, none⟩) (by show w.heap.size < _; have := HSZ.out; omega)).trans HD.out.2.2.1
        have g1 := (hb4'.frozen (p := ⟨w.heap.size, 1, none⟩) (by show w.heap.size < _; have := HSZ.out; omega)).trans HD.out.2.2.2
        have HK4 := Lib.hid (And.intro ((hb4'.cell (p := ⟨w2.heap.size, 0, none⟩) (by show w2.heap.size < _; have := HSZ.out; omega)).trans HCC.out.1) ((hb4'.cell (p := ⟨w2.heap.size, 1, none⟩) (by show w2.heap.size < _; have := HSZ.out; omega)).trans HCC.out.2))
        have HB4 := Lib.hid hb4'
        clear hb4 hb4'))
  all_goals
    go_simp
    go_wp2_with fail
    have gW : Below w.heap.size w w4 := HWX.out.trans (HB4.out.mono (by have := HSZ.out; omega))
    refine bodyPost_ret (v := .tuple #[.pointer none, .agg #[.slice none 0 0, .int .i64 0], .bool false, .bool true]) (by simp [results, Tryd.results6, go_sem, d0, d1]) rfl ⟨true, rfl, rfl, ?_⟩
    repeat (first | exact gW | refine Below.setCell ?_ (by simp; try omega) _)
end Go.Proofs.YteaafnjflghlhaaDoor
namespace Go.Proofs.YteaafnjflghlhaaDoor
open Go.RowKit

theorem info22 : (Tryd.prog.info? 22).isSome = true := by kernel_rfl
theorem cells22 : Tryd.prog.cellsOf 22 = 1 := by kernel_rfl
theorem part6 (a b c d e f : Nat) (w : World) : (part 22 #[.int .u64 (a : Nat), .int .u64 (b : Nat), .int .u64 (c : Nat), .int .u64 (d : Nat), .int .u64 (e : Nat), .int .u64 (f : Nat)] 0).run Tryd.prog w = .ok (.int .u64 (a : Nat)) w ∧
   (part 22 #[.int .u64 (a : Nat), .int .u64 (b : Nat), .int .u64 (c : Nat), .int .u64 (d : Nat), .int .u64 (e : Nat), .int .u64 (f : Nat)] 1).run Tryd.prog w = .ok (.int .u64 (b : Nat)) w ∧
   (part 22 #[.int .u64 (a : Nat), .int .u64 (b : Nat), .int .u64 (c : Nat), .int .u64 (d : Nat), .int .u64 (e : Nat), .int .u64 (f : Nat)] 2).run Tryd.prog w = .ok (.int .u64 (c : Nat)) w ∧
   (part 22 #[.int .u64 (a : Nat), .int .u64 (b : Nat), .int .u64 (c : Nat), .int .u64 (d : Nat), .int .u64 (e : Nat), .int .u64 (f : Nat)] 3).run Tryd.prog w = .ok (.int .u64 (d : Nat)) w ∧
   (part 22 #[.int .u64 (a : Nat), .int .u64 (b : Nat), .int .u64 (c : Nat), .int .u64 (d : Nat), .int .u64 (e : Nat), .int .u64 (f : Nat)] 4).run Tryd.prog w = .ok (.int .u64 (e : Nat)) w ∧
   (part 22 #[.int .u64 (a : Nat), .int .u64 (b : Nat), .int .u64 (c : Nat), .int .u64 (d : Nat), .int .u64 (e : Nat), .int .u64 (f : Nat)] 5).run Tryd.prog w = .ok (.int .u64 (f : Nat)) w := by
  refine ⟨?_, ?_, ?_, ?_, ?_, ?_⟩ <;> kernel_rfl
/-- Two numbers of one form are one. -/
theorem eqIn6_same (a b c d e f : Nat) (w : World) : (Op.equalIn 10000 24 (W6 a b c d e f) (W6 a b c d e f)).run Tryd.prog w = .ok true w := by
  obtain ⟨i, hi⟩ := Option.isSome_iff_exists.1 info22
  obtain ⟨p0, p1, p2, p3, p4, p5⟩ := part6 a b c d e f w
  rw [run_equalIn_array w 9999 _ _ Tryd.underlying24 hi, cells22]
  have q : ∀ x : Nat, (Op.equalIn 9999 22 (.int .u64 (x : Nat)) (.int .u64 (x : Nat))).run Tryd.prog w = .ok true w := fun x => by
    rw [run_equalIn_int w 9998 _ _ _ _ _ Tryd.underlying22]
    simp
  show (Op.eqItems 9999 22 1 _ _ [0, 1, 2, 3, 4, 5]).run Tryd.prog w = _
  have step : ∀ (j x : Nat) (is : List Nat) (xs : Array Value), (part 22 xs (j * 1)).run Tryd.prog w = .ok (.int .u64 (x : Nat)) w →
      (Op.eqItems 9999 22 1 xs xs (j :: is)).run Tryd.prog w = (Op.eqItems 9999 22 1 xs xs is).run Tryd.prog w := by
    intro j x is xs h1
    simp only [Op.eqItems, Sem.run_bind, h1, q, Result.andThen_ok]
    simp
  rw [step 0 a _ _ p0, step 1 b _ _ p1, step 2 c _ _ p2, step 3 d _ _ p3, step 4 e _ _ p4, step 5 f _ _ p5]
  rfl

section
variable {ops : Array Oper} {T : Facts} {o : Oper} {a : Act} {w : World}
theorem op_eqE {z : Int} (x y : Operand) (t : TypeId) (ho : o.op = .binOp .eql 47 x y t) (hx : a.eval x = .int .i64 z) (hy : a.eval y = .int .i64 z) (hw : Region.wanted o (yielded ops a.tmps) = true) (hf : factTo T o.dst (.bool true) w) : relStep Tryd.prog ops T o a w :=
  relStep_val (.bool true) hw hf (by
    unfold execOp
    rw [ho]
    simp only [hx, hy]
    go_simp)
theorem op_call0 {f : FuncId} {tys : Array TypeId} {R : World → Value → Prop} (ho : o.op = .call { callee := .value (.func f), args := #[], argTypes := tys }) (he : ∀ args w, (callFunc f args).run Tryd.prog w = .ok (.enter f args) w) (hw : Region.wanted o (yielded ops a.tmps) = true)
    (h : Calls Tryd.prog f #[] w (RetR R w)) (k : ∀ v w', R w' v → factTo T o.dst v w') : relStep Tryd.prog ops T o a w :=
  relStep_call f #[] hw h k (by
    have hp : a.eval (.func f) = .func (.func f) #[] #[] := rfl
    have e := he #[] w
    clear h hw k
    generalize a.eval = p at *
    unfold execOp
    rw [ho]
    go_simp)
theorem op_call1 {f : FuncId} {tys : Array TypeId} {R : World → Value → Prop} (x : Operand) (ho : o.op = .call { callee := .value (.func f), args := #[x], argTypes := tys }) (he : ∀ args w, (callFunc f args).run Tryd.prog w = .ok (.enter f args) w) (hw : Region.wanted o (yielded ops a.tmps) = true)
    (h : Calls Tryd.prog f #[a.eval x] w (RetR R w)) (k : ∀ v w', R w' v → factTo T o.dst v w') : relStep Tryd.prog ops T o a w :=
  relStep_call f #[a.eval x] hw h k (by
    have hp : a.eval (.func f) = .func (.func f) #[] #[] := rfl
    have e := he #[a.eval x] w
    clear h hw k
    generalize a.eval = p at *
    unfold execOp
    rw [ho]
    go_simp)
theorem op_callB {f : FuncId} {tys : Array TypeId} {R : World → Value → Prop} (x y : Operand) (ho : o.op = .call { callee := .value (.func f), args := #[x, y], argTypes := tys }) (he : ∀ args w, (callFunc f args).run Tryd.prog w = .ok (.enter f args) w) (hw : Region.wanted o (yielded ops a.tmps) = true)
    (h : Calls Tryd.prog f #[a.eval x, a.eval y] w (RetR R w)) (k : ∀ v w', R w' v → factTo T o.dst v w') : relStep Tryd.prog ops T o a w :=
  relStep_call f #[a.eval x, a.eval y] hw h k (by
    have hp : a.eval (.func f) = .func (.func f) #[] #[] := rfl
    have e := he #[a.eval x, a.eval y] w
    clear h hw k
    generalize a.eval = p at *
    unfold execOp
    rw [ho]
    go_simp)

theorem op_lenS {A : Option Addr} {n c : Nat} (x : Operand) (ho : o.op = .call { callee := .builtin .len, args := #[x], argTypes := #[25] }) (hx : a.eval x = .slice A n c) (hw : Region.wanted o (yielded ops a.tmps) = true) (hf : factTo T o.dst (.int .i64 (n : Nat)) w) : relStep Tryd.prog ops T o a w :=
  relStep_val (.int .i64 (n : Nat)) hw hf (by
    clear hw hf
    generalize a.eval = p at *
    unfold execOp
    rw [ho]
    go_simp)
theorem op_faF {g : Nat} (x : Operand) (ho : o.op = .fieldAddr 32 x 1) (hx : a.eval x = .pointer (some ⟨g, 0, none⟩)) (hw : Region.wanted o (yielded ops a.tmps) = true) (hf : factTo T o.dst (.pointer (some ⟨g, 1, none⟩)) w) : relStep Tryd.prog ops T o a w :=
  relStep_val (.pointer (some ⟨g, 1, none⟩)) hw hf (by
    unfold execOp
    rw [ho]
    simp only [hx]
    go_simp)
theorem op_faA {g : Nat} (x : Operand) (ho : o.op = .fieldAddr 27 x 1) (hx : a.eval x = .pointer (some ⟨g, 0, none⟩)) (hw : Region.wanted o (yielded ops a.tmps) = true) (hf : factTo T o.dst (.pointer (some ⟨g, 1, none⟩)) w) : relStep Tryd.prog ops T o a w :=
  relStep_val (.pointer (some ⟨g, 1, none⟩)) hw hf (by
    unfold execOp
    rw [ho]
    simp only [hx]
    go_simp)
theorem op_loadI1 {g k : Nat} {z : Int} (x : Operand) (ho : o.op = .load 3 x) (hx : a.eval x = .pointer (some ⟨g, k, none⟩)) (hc : w.cell? ⟨g, k, none⟩ = some (.int .i64 z)) (hw : Region.wanted o (yielded ops a.tmps) = true) (hf : factTo T o.dst (.int .i64 z) w) : relStep Tryd.prog ops T o a w :=
  relStep_val (.int .i64 z) hw hf (by
    unfold execOp
    rw [ho]
    simp only [hx]
    go_simp)
theorem op_loadF {g : Nat} {u v : Value} (x : Operand) (ho : o.op = .load 32 x) (hx : a.eval x = .pointer (some ⟨g, 0, none⟩)) (hc : w.cell? ⟨g, 0, none⟩ = some u ∧ w.cell? ⟨g, 1, none⟩ = some v) (hw : Region.wanted o (yielded ops a.tmps) = true) (hf : factTo T o.dst (.agg #[u, v]) w) : relStep Tryd.prog ops T o a w :=
  relStep_val (.agg #[u, v]) hw hf (by
    obtain ⟨c0, c1⟩ := hc
    unfold execOp
    rw [ho]
    simp only [hx]
    go_simp)
theorem op_load6 {g k x0 x1 x2 x3 x4 x5 : Nat} (x : Operand) (ho : o.op = .load 24 x) (hx : a.eval x = .pointer (some ⟨g, k, none⟩)) (hc : L6 w g k x0 x1 x2 x3 x4 x5) (hw : Region.wanted o (yielded ops a.tmps) = true) (hf : factTo T o.dst (W6 x0 x1 x2 x3 x4 x5) w) : relStep Tryd.prog ops T o a w :=
  relStep_val (W6 x0 x1 x2 x3 x4 x5) hw hf (by
    obtain ⟨c0, c1, c2, c3, c4, c5⟩ := hc
    unfold execOp
    rw [ho]
    simp only [hx]
    go_simp)
theorem op_eqN6 {x0 x1 x2 x3 x4 x5 : Nat} (x y : Operand) (t : TypeId) (ho : o.op = .binOp .eql 24 x y t) (hx : a.eval x = W6 x0 x1 x2 x3 x4 x5) (hy : a.eval y = W6 x0 x1 x2 x3 x4 x5) (hw : Region.wanted o (yielded ops a.tmps) = true) (hf : factTo T o.dst (.bool true) w) : relStep Tryd.prog ops T o a w :=
  relStep_val (.bool true) hw hf (by
    have q := eqIn6_same x0 x1 x2 x3 x4 x5 w
    unfold execOp
    rw [ho]
    simp only [hx, hy]
    go_simp)
theorem op_neN6 {x0 x1 x2 x3 x4 x5 : Nat} (x y : Operand) (t : TypeId) (ho : o.op = .binOp .neq 24 x y t) (hx : a.eval x = W6 x0 x1 x2 x3 x4 x5) (hy : a.eval y = W6 x0 x1 x2 x3 x4 x5) (hw : Region.wanted o (yielded ops a.tmps) = true) (hf : factTo T o.dst (.bool false) w) : relStep Tryd.prog ops T o a w :=
  relStep_val (.bool false) hw hf (by
    have q := eqIn6_same x0 x1 x2 x3 x4 x5 w
    unfold execOp
    rw [ho]
    simp only [hx, hy]
    go_simp)
theorem op_neS {s : ByteArray} (x y : Operand) (t : TypeId) (ho : o.op = .binOp .neq 9 x y t) (hx : a.eval x = .string s) (hy : a.eval y = .string s) (hw : Region.wanted o (yielded ops a.tmps) = true) (hf : factTo T o.dst (.bool false) w) : relStep Tryd.prog ops T o a w :=
  relStep_val (.bool false) hw hf (by
    unfold execOp
    rw [ho]
    simp only [hx, hy]
    go_simp)
theorem op_neE {z : Int} (x y : Operand) (t : TypeId) (ho : o.op = .binOp .neq 47 x y t) (hx : a.eval x = .int .i64 z) (hy : a.eval y = .int .i64 z) (hw : Region.wanted o (yielded ops a.tmps) = true) (hf : factTo T o.dst (.bool false) w) : relStep Tryd.prog ops T o a w :=
  relStep_val (.bool false) hw hf (by
    unfold execOp
    rw [ho]
    simp only [hx, hy]
    go_simp)
theorem op_geI0 {z : Int} (x y : Operand) (t : TypeId) (ho : o.op = .binOp .geq 3 x y t) (hx : a.eval x = .int .i64 z) (hy : a.eval y = .int .i64 0) (hw : Region.wanted o (yielded ops a.tmps) = true) (hf : factTo T o.dst (.bool (decide (0 ≤ z))) w) : relStep Tryd.prog ops T o a w :=
  relStep_val (.bool (decide (0 ≤ z))) hw hf (by
    unfold execOp
    rw [ho]
    simp only [hx, hy]
    go_simp)
theorem op_faF0 {g : Nat} (x : Operand) (ho : o.op = .fieldAddr 32 x 0) (hx : a.eval x = .pointer (some ⟨g, 0, none⟩)) (hw : Region.wanted o (yielded ops a.tmps) = true) (hf : factTo T o.dst (.pointer (some ⟨g, 0, none⟩)) w) : relStep Tryd.prog ops T o a w :=
  relStep_val (.pointer (some ⟨g, 0, none⟩)) hw hf (by
    unfold execOp
    rw [ho]
    simp only [hx]
    go_simp)
theorem op_loadN1 {g k : Nat} {A : Option Addr} {n c : Nat} (x : Operand) (ho : o.op = .load 30 x) (hx : a.eval x = .pointer (some ⟨g, k, none⟩)) (hc : w.cell? ⟨g, k, none⟩ = some (.slice A n c)) (hw : Region.wanted o (yielded ops a.tmps) = true) (hf : factTo T o.dst (.slice A n c) w) : relStep Tryd.prog ops T o a w :=
  relStep_val (.slice A n c) hw hf (by
    unfold execOp
    rw [ho]
    simp only [hx]
    go_simp)
end
set_option maxRecDepth 100000 in
theorem en_rN (args : Array Value) (w : World) : (callFunc 8 args).run Tryd.prog w = .ok (.enter 8 args) w := by go_simp
set_option maxRecDepth 100000 in
theorem en_rRed (args : Array Value) (w : World) : (callFunc 7 args).run Tryd.prog w = .ok (.enter 7 args) w := by go_simp
set_option maxRecDepth 100000 in
theorem en_rFill (args : Array Value) (w : World) : (callFunc 24 args).run Tryd.prog w = .ok (.enter 24 args) w := by go_simp
set_option maxRecDepth 100000 in
theorem en_fReduce (args : Array Value) (w : World) : (callFunc 17 args).run Tryd.prog w = .ok (.enter 17 args) w := by go_simp
set_option maxRecDepth 100000 in
theorem en_rFrom (args : Array Value) (w : World) : (callFunc 21 args).run Tryd.prog w = .ok (.enter 21 args) w := by go_simp
set_option maxRecDepth 100000 in
theorem en_rCmp (args : Array Value) (w : World) : (callFunc 10 args).run Tryd.prog w = .ok (.enter 10 args) w := by go_simp
set_option maxRecDepth 100000 in
theorem en_rNum (args : Array Value) (w : World) : (callFunc 22 args).run Tryd.prog w = .ok (.enter 22 args) w := by go_simp
set_option maxRecDepth 100000 in
theorem en_fEncode (args : Array Value) (w : World) : (callFunc 23 args).run Tryd.prog w = .ok (.enter 23 args) w := by go_simp
end Go.Proofs.YteaafnjflghlhaaDoor
