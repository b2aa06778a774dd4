/- The law ForkNames. -/
import Derived.Test.YtijoafmbmplgcaaDoorFkOps
import Derived.Test.YtijoafmbmplgcaaDoorFkNameMath
namespace Go.Proofs.YtijoafmbmplgcaaDoor
open Go.RowKit

theorem named_form (q : Option Nat) : ∃ (i : Int) (o : Bool), namedV q = .tuple #[.int .i64 i, .bool o] := by
  cases q with
  | none => exact ⟨0, false, rfl⟩
  | some i => exact ⟨(i : Nat), true, rfl⟩
/-- Where a name with some of its letters turned is found. -/
def backZ (f : Int) : Option Nat := if 0 ≤ f ∧ f ≤ 15 then some f.toNat else none
theorem back_named (f : Int) : namedZ (nameZ f) = backZ f := by
  unfold nameZ backZ
  by_cases h : 0 ≤ f ∧ f ≤ 15
  · rw [if_pos h, if_pos h]
    exact named_names f.toNat (by omega)
  · rw [if_neg h, if_neg h]
    exact named_empty
theorem name_small (f : Int) : (nameZ f).size ≤ 20 := by
  unfold nameZ
  split
  · rename_i h
    have h2 : f.toNat < forkNames.length := by show f.toNat < 16; omega
    rw [List.getD_eq_getElem?_getD, List.getElem?_eq_getElem h2]
    exact names_small _ (List.getElem_mem h2)
  · decide

set_option maxRecDepth 100000 in
set_option maxHeartbeats 6400000 in
theorem forkNames_c (w : World) (hN : NamesAt w) (s : ByteArray) (hs : s.size ≤ 140737488351232) (f : Int) (hf0 : -9223372036854775808 ≤ f) (hf1 : f < 9223372036854775808) (t : Nat) (_ : t < 4294967296) :
    Calls Tryd.prog 6 #[.string s, .int .i64 f, .int .u32 (t : Nat)] w (RetV (.bool true) w) := by
  obtain ⟨q0, o0, hq0⟩ := named_form (namedZ s)
  have KW : Hid (∀ W, Below w.heap.size w W → Calls Tryd.prog 13 #[] W (RetV (.bool true) W)) := fun W hW => fkwakes_c W (hN.below hW)
  have KP : Hid (∀ W, Below w.heap.size w W → Calls Tryd.prog 22 #[.string s] W (RetV (.tuple #[.int .i64 q0, .bool o0]) W)) := fun W hW => by rw [← hq0]; exact cNamed s W (hN.below hW)
  have KQ : Hid (∀ W, Calls Tryd.prog 23 #[.string s] W (RetV (.tuple #[.int .i64 q0, .bool o0]) W)) := fun W => by rw [← hq0]; exact rnamed_c s hs W
  obtain ⟨S, hS⟩ : ∃ S, S = nameZ f := ⟨_, rfl⟩
  have KN : Hid (∀ W, Below w.heap.size w W → Calls Tryd.prog 16 #[.int .i64 f] W (RetV (.string S) W)) := fun W hW => by rw [hS]; exact cName f ⟨hf0, by omega⟩ W (hN.below hW)
  have hsz : S.size ≤ 20 := by rw [hS]; exact name_small f
  have hback : namedZ S = backZ f := by rw [hS]; exact back_named f
  have KB : Hid (∀ W xs, Below w.heap.size w W → Ds 256 xs → xs.length = S.size → xs.map lowB = (bytesN S).map lowB → Calls Tryd.prog 22 #[.string (sOf xs)] W (RetV (namedV (backZ f)) W)) := fun W xs hW h1 h2 h3 => by
    have e : namedZ (sOf xs) = backZ f := by rw [← hback]; exact namedZ_low (by rw [lowS_sOf h1, h3]; rfl)
    rw [← e]
    exact cNamed (sOf xs) W (hN.below hW)
  have HSZ := Lib.hid hsz
  clear hS hsz hback hs hq0 hN
  go_enter Tryd.func6, Tryd.ntmps6
  go_wp2_with fail
  (with_reducible refine (KP.out _ (Below.refl _ _)).mono ?_)
  rintro e w1 ⟨rfl, hb1⟩
  have HB1 := Lib.hid hb1
  clear hb1
  go_wp2_with fail
  (with_reducible refine (KQ.out _).mono ?_)
  rintro e w2 ⟨rfl, hb2⟩
  have HB2 := Lib.hid (HB1.out.trans (hb2.mono HB1.out.size))
  clear hb2 HB1
  have ho : (o0 != o0) = false := by cases o0 <;> rfl
  go_wp2_with fail
  (with_reducible refine (KN.out _ HB2.out).mono ?_)
  rintro e w3 ⟨rfl, hb3⟩
  have hb3' := HB2.out.trans (hb3.mono HB2.out.size)
  have hcv := Lib.run_convert_string_bytes (P := Tryd.prog) w3 9 54 5 S (u := .string) Tryd.underlying9 Tryd.underlying54 Tryd.underlying5
  have hcs := cells_of_string w3 S
  have hbl := hb3'.trans ((Lib.bytesWorld_below w3 5 S).mono hb3'.size)
  have hcap := grownCap_ge w3 S.size 0 5
  obtain ⟨W, hW⟩ : ∃ W, W = Lib.bytesWorld w3 5 S := ⟨_, rfl⟩
  obtain ⟨c, hc⟩ : ∃ c, c = grownCap w3 S.size 0 5 := ⟨_, rfl⟩
  obtain ⟨ys, hys⟩ : ∃ ys, ys = bytesN S := ⟨_, rfl⟩
  have hyd := bytesN_ds S
  have hyl := bytesN_len S
  rw [← hys] at hyd hyl hcs KB
  rw [← hW] at hcv hcs hbl
  rw [← hc] at hcv hcap
  obtain ⟨n, hn⟩ : ∃ n, n = S.size := ⟨_, rfl⟩
  rw [← hn] at hcv hyl hcap KB HSZ
  have hn20 : n ≤ 20 := HSZ.out
  have HYD := Lib.hid hyd
  have HYL := Lib.hid hyl
  have HCAP := Lib.hid hcap
  have HBL := Lib.hid hbl
  have HCS := Lib.hid hcs
  have HG3 : Hid (w.heap.size ≤ w3.heap.size) := hb3'.size
  obtain ⟨G, hG⟩ : ∃ G, G = w3.heap.size := ⟨_, rfl⟩
  rw [← hG] at hcv HCS HG3
  clear hW hc hys hyd hyl hcap hbl hcs hn hb3 hb3' HB2 KP KQ KN HSZ ho hG
  go_wp2_with fail
  go_loopw [12] (fun a wr => ∃ (m : Nat) (xs : List Nat), a = .int .i64 (m : Int) ∧ m ≤ n ∧ Hid (xs.length = n) ∧ Hid (Ds 256 xs) ∧ Hid (∀ j, j < n → lowB (xs.getD j 0) = lowB (ys.getD j 0)) ∧ Hid (CellsAt wr G xs) ∧ Hid (Below w.heap.size w wr))
    (fun a _ => n - (intOf a).toNat)
  case atStart => exact ⟨0, ys, rfl, Nat.zero_le _, HYL.out, HYD.out, fun _ _ => rfl, HCS.out, HBL.out⟩
  case round =>
    clear HCS HBL
    obtain ⟨m, xs, rfl, hm, hxl, hxd, hinv, hcs, hbl⟩ := hrel
    by_cases h0 : m < n
    · have cx := hcs.out.cell m (by rw [hxl.out]; exact h0)
      have fx := hcs.out.fr m (by rw [hxl.out]; exact h0)
      obtain ⟨x, hx⟩ : ∃ x, x = xs.getD m 0 := ⟨_, rfl⟩
      rw [← hx] at cx
      have hxb : x < 256 := by rw [hx]; exact hxd.out.get (by omega) _
      have HX := Lib.hid hx
      obtain ⟨r, hr⟩ : ∃ r, r = m % 32 := ⟨_, rfl⟩
      have er : (m : Int) % 32 = (r : Int) := by omega
      have er2 : (m : Int).tmod 32 = (r : Int) := by rw [Int.tmod_eq_emod_of_nonneg (by omega)]; omega
      have hr31 : r ≤ 31 := by omega
      obtain ⟨u, hu⟩ : ∃ u, u = t / 2 ^ r := ⟨_, rfl⟩
      have eu : (t : Int) / 2 ^ r = (u : Int) := by rw [hu]; simp
      obtain ⟨v, hv⟩ : ∃ v, v = bits .and .u32 (u : Int) 1 := ⟨_, rfl⟩
      have ev : bits .and .u32 (u : Int) 1 = v := hv.symm
      clear hx hr hu hv
      by_cases hv1 : v = 1
      · subst hv1
        by_cases h97 : 97 ≤ x
        · by_cases h122 : x ≤ 122
          · obtain ⟨y, hy⟩ : ∃ y, y = x - 32 := ⟨_, rfl⟩
            have vy : IntKind.u8.wrap ((x : Int) - 32) = (y : Int) := by rw [IntKind.wrap_u8']; omega
            have hly : lowB y = lowB x := lowB_turn h97 h122 (by omega)
            have hyb : y < 256 := by omega
            have HLY := Lib.hid hly
            have HYB := Lib.hid hyb
            clear hy hly hyb
            go_wp2_with fail
            go_roundw
            case rel => exact ⟨m + 1, xs.set m y, by go_num, by omega, by show _ = _; rw [List.length_set]; exact hxl.out, hxd.out.set m y HYB.out, fun j hj => by
              by_cases e : m = j
              · subst e; rw [getD_set_self (by rw [hxl.out]; exact h0), HLY.out, HX.out]; exact hinv.out m h0
              · rw [getD_set_ne e]; exact hinv.out j hj, hcs.out.set (by rw [hxl.out]; exact h0) y, hbl.out.setCell (p := ⟨G, m, none⟩) HG3.out _⟩
            case measure => simp [intOf]; omega
          · have k1 : ¬ (x : Int) ≤ 122 := by omega
            go_wp2_with fail
            go_roundw
            case rel => exact ⟨m + 1, xs, by go_num, by omega, hxl.out, hxd.out, hinv.out, hcs.out, hbl.out⟩
            case measure => simp [intOf]; omega
        · have k1 : ¬ (97 : Int) ≤ (x : Int) := by omega
          go_wp2_with fail
          go_roundw
          case rel => exact ⟨m + 1, xs, by go_num, by omega, hxl.out, hxd.out, hinv.out, hcs.out, hbl.out⟩
          case measure => simp [intOf]; omega
      · have k1 : (v == 1) = false := beq_eq_false_iff_ne.2 hv1
        go_wp2_with fail
        go_roundw
        case rel => exact ⟨m + 1, xs, by go_num, by omega, hxl.out, hxd.out, hinv.out, hcs.out, hbl.out⟩
        case measure => simp [intOf]; omega
    · have hmap : xs.map lowB = ys.map lowB := map_low (by rw [hxl.out, HYL.out]) fun j hj => hinv.out j (by rw [hxl.out] at hj; exact hj)
      have K5 := Lib.hid (fun W (hW : Below w.heap.size w W) => KB.out W xs hW hxd.out hxl.out hmap)
      have kb : (convert 54 9 (.slice (some ⟨G, 0, none⟩) n c)).run Tryd.prog wr = .ok (.string (sOf xs)) wr := by
        have h := hcs.out.byt (c := c) (by rw [hxl.out]; exact HCAP.out) hxd.out
        rw [hxl.out] at h
        exact run_sOf h
      have HB5 := hbl
      clear hcv KB hmap hcs hinv
      have hbz : (0 ≤ f ∧ f ≤ 15 ∧ ∃ k : Nat, f = k ∧ backZ f = some k) ∨ ((f < 0 ∨ 15 < f) ∧ backZ f = none) := by
        unfold backZ
        by_cases h : 0 ≤ f ∧ f ≤ 15
        · exact .inl ⟨h.1, h.2, f.toNat, by omega, if_pos h⟩
        · exact .inr ⟨by omega, if_neg h⟩
      rcases hbz with ⟨g0, g1, k, rfl, hb⟩ | ⟨g, hb⟩
      · rw [hb] at K5
        have K6 : Hid (∀ W, Below w.heap.size w W → Calls Tryd.prog 22 #[.string (sOf xs)] W (RetV (.tuple #[.int .i64 (k : Nat), .bool true]) W)) := K5.out
        clear K5 hb
        go_wp2_with fail
        (with_reducible refine (K6.out _ HB5.out).mono ?_)
        rintro e w5 ⟨rfl, hb5⟩
        have HB6 := Lib.hid (HB5.out.trans (hb5.mono HB5.out.size))
        clear hb5 HB5 K6 kb
        go_wp2_with fail
        (with_reducible refine (KW.out _ HB6.out).mono ?_)
        rintro e w6 ⟨rfl, hb6⟩
        have HB7 := Lib.hid (HB6.out.trans (hb6.mono HB6.out.size))
        clear hb6 HB6
        go_wp2_with fail
        go_ret
        exact ⟨rfl, HB7.out⟩
      · rw [hb] at K5
        have K6 : Hid (∀ W, Below w.heap.size w W → Calls Tryd.prog 22 #[.string (sOf xs)] W (RetV (.tuple #[.int .i64 0, .bool false]) W)) := K5.out
        clear K5 hb
        rcases g with g | g
        all_goals
          go_wp2_with fail
          (with_reducible refine (K6.out _ HB5.out).mono ?_)
          rintro e w5 ⟨rfl, hb5⟩
          have HB6 := Lib.hid (HB5.out.trans (hb5.mono HB5.out.size))
          clear hb5 HB5 K6 kb
          go_wp2_with fail
          (with_reducible refine (KW.out _ HB6.out).mono ?_)
          rintro e w6 ⟨rfl, hb6⟩
          have HB7 := Lib.hid (HB6.out.trans (hb6.mono HB6.out.size))
          clear hb6 HB6
          go_wp2_with fail
          go_ret
          exact ⟨rfl, HB7.out⟩
end Go.Proofs.YtijoafmbmplgcaaDoor
