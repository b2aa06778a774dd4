/- Package quarryref13: At, of any plan, block and time. -/
import Derived.Test.YtijoafmbmplgcaaDoorFkCheck
namespace Go.Proofs.YtijoafmbmplgcaaDoor
open Go.RowKit

/-- The last of the first m forks that has come. -/
def lastCome (bl : List Nat) (num : Nat) : Nat → Nat
  | 0 => 0
  | m + 1 => if comeB (bl.getD m 0) num = true then m else lastCome bl num m
/-- The fork at a block and a time. -/
def atF (bl : List Nat) (t0 t1 num time : Nat) : Nat :=
  let f := lastCome bl num 14
  let g := if f = 13 ∧ comeB t0 time = true then 14 else f
  if 13 ≤ g ∧ comeB t1 time = true then 15 else g
theorem lastCome_le (bl : List Nat) (num : Nat) : ∀ m, lastCome bl num m ≤ m - 1
  | 0 => Nat.le_refl _
  | m + 1 => by
    unfold lastCome
    split
    · omega
    · have := lastCome_le bl num m; omega
open Classical in
/-- What At tells. -/
noncomputable def atV (bl : List Nat) (t0 t1 : Nat) (fs : List (List Nat)) (num time : Nat) : Int × Int := if BadConf bl t0 t1 fs then (0, 10) else (((atF bl t0 t1 num time : Nat) : Int), 0)
theorem atV_bad {bl : List Nat} {t0 t1 : Nat} {fs : List (List Nat)} {num time : Nat} (h : BadConf bl t0 t1 fs) : atV bl t0 t1 fs num time = (0, 10) := if_pos h
theorem atV_good {bl : List Nat} {t0 t1 : Nat} {fs : List (List Nat)} {num time : Nat} (h : ¬ BadConf bl t0 t1 fs) : atV bl t0 t1 fs num time = (((atF bl t0 t1 num time : Nat) : Int), 0) := if_neg h

theorem infoConf : (Tryd.prog.info? 29).map (·.size) = some 39 := by kernel_rfl
theorem conf_len {ch : Nat} {bl : List Nat} {t0 t1 dao : Nat} {fv : Value} {ta : List Nat} (hl : bl.length = 14) (ht : ta.length = 20) : (ConfL ch bl t0 t1 dao fv ta).length = 39 := by
  simp [ConfL, hl, ht]

set_option maxRecDepth 100000 in
set_option maxHeartbeats 6400000 in
theorem rat_c {ch : Nat} {bl : List Nat} {t0 t1 dao : Nat} {A : Option Addr} {c : Nat} {fs : List (List Nat)} {ta : List Nat} (hl : bl.length = 14) (ht : ta.length = 20) (w : World) (hf : AdsAt w A fs) (hn : fs.length ≤ 1000) (num time : Nat) :
    Calls Tryd.prog 10 #[.agg (ConfL ch bl t0 t1 dao (.slice A fs.length c) ta).toArray, .int .u64 (num : Nat), .int .u64 (time : Nat)] w (RetV (.tuple #[.int .i64 (atV bl t0 t1 fs num time).1, .int .i64 (atV bl t0 t1 fs num time).2]) w) := by
  have hlen : (ConfL ch bl t0 t1 dao (.slice A fs.length c) ta).length = 39 := conf_len hl ht
  have hcf : ConfAt (w.alloc (.cells (ConfL ch bl t0 t1 dao (.slice A fs.length c) ta).toArray 29)) w.heap.size bl t0 t1 (.slice A fs.length c) := conf_box w _ hl
  have hbe : Below w.heap.size w (w.alloc (.cells (ConfL ch bl t0 t1 dao (.slice A fs.length c) ta).toArray 29)) := (Below.refl _ _).alloc (Nat.le_refl _) _
  have hfs := hf.below hbe
  have hg := heap_alloc_new w (.cells (ConfL ch bl t0 t1 dao (.slice A fs.length c) ta).toArray 29)
  have HCK : Hid (∀ W, AdsAt W A fs → Calls Tryd.prog 12 #[.agg (ConfL ch bl t0 t1 dao (.slice A fs.length c) ta).toArray] W (RetV (.int .i64 (checkZ bl t0 t1 fs)) W)) := fun W hW => rcheck_c hl W hW hn
  generalize ConfL ch bl t0 t1 dao (.slice A fs.length c) ta = L at *
  obtain ⟨z, hz⟩ : ∃ z, z = atV bl t0 t1 fs num time := ⟨_, rfl⟩
  rw [← hz]
  have HZ := Lib.hid hz
  have HC := Lib.hid hcf
  have HBE := Lib.hid hbe
  have HF := Lib.hid hfs
  have HG := Lib.hid hg
  have HLEN := Lib.hid hlen
  clear hz hf hl ht hcf hbe hfs hg hlen hn
  go_enter Tryd.func10, Tryd.ntmps10
  go_upto_region 1 with (fail)
  generalize w.alloc (.cells L.toArray 29) = W at *
  refine wp_region_lit ?_
  refine wpList_load_row rfl 29 (.tmp 3) rfl w.heap.size rfl 29 L.toArray (0, 0) _ HG.out Tryd.underlying29 rfl (by rw [infoConf, List.size_toArray, HLEN.out]) ?_
  go_simp
  go_wp2_with fail
  (with_reducible refine (HCK.out W HF.out).mono ?_)
  rintro e w1 ⟨rfl, hb1⟩
  have HC1 := Lib.hid (HC.out.below (hb1.mono (Nat.le_refl _)))
  have HBE1 := Lib.hid (HBE.out.trans (hb1.mono HBE.out.size))
  clear HC HBE HF HG HCK hb1
  by_cases hbad : BadConf bl t0 t1 fs
  · have e1 : z = (0, 10) := HZ.out.trans (atV_bad hbad)
    have e2 := checkZ_bad hbad
    rw [e2]
    have E1 := Lib.hid e1
    clear e1 e2 hbad HZ
    go_wp2_with fail
    exact bodyPost_ret (v := .tuple #[.int .i64 0, .int .i64 10]) (by simp [results, Tryd.results10, go_sem]) rfl ⟨by rw [E1.out], HBE1.out⟩
  · have e1 := HZ.out.trans (atV_good hbad)
    have e2 := checkZ_good hbad
    rw [e2]
    have HZ1 := Lib.hid e1
    clear e1 e2 hbad HZ
    go_wp2_with fail
    go_loopw [8, 9] (fun a b wr => ∃ (m : Nat), b = .int .i64 (m : Int) ∧ m ≤ 14 ∧ a = .int .i64 (lastCome bl num m : Nat) ∧ Hid (ConfAt wr w.heap.size bl t0 t1 (.slice A fs.length c)) ∧ Hid (Below w.heap.size w wr))
      (fun _ b _ => 14 - (intOf b).toNat)
    case atStart => exact ⟨0, rfl, by omega, rfl, HC1.out, HBE1.out⟩
    case round =>
      clear HC1 HBE1
      obtain ⟨m, rfl, hm, rfl, HC, HBE⟩ := hrel
      by_cases h0 : m < 14
      · have cm := HC.out.bl m h0
        obtain ⟨x, hx⟩ : ∃ x, x = bl.getD m 0 := ⟨_, rfl⟩
        rw [← hx] at cm
        have C1 := Lib.hid (rcome_c x num wr)
        have hlc : lastCome bl num (m + 1) = if comeB x num = true then m else lastCome bl num m := by rw [hx]; rfl
        have HLC := Lib.hid hlc
        clear hlc hx
        go_wp2_with fail
        (with_reducible refine C1.out.mono ?_)
        rintro e w2 ⟨rfl, rfl⟩
        clear C1
        cases hcb : comeB x num with
        | true =>
          have hlc := HLC.out
          rw [hcb, if_pos rfl] at hlc
          have HLD := Lib.hid hlc
          clear hlc hcb HLC
          go_wp2_with fail
          go_roundw
          case rel => exact ⟨m + 1, by go_num, by omega, by rw [HLD.out], HC.out, HBE.out⟩
          case measure => simp [intOf]; omega
        | false =>
          have hlc := HLC.out
          rw [hcb, if_neg (by decide)] at hlc
          have HLD := Lib.hid hlc
          clear hlc hcb HLC
          go_wp2_with fail
          go_roundw
          case rel => exact ⟨m + 1, by go_num, by omega, by rw [HLD.out], HC.out, HBE.out⟩
          case measure => simp [intOf]; omega
      · have HM : Hid (m = 14) := by show _ = _; omega
        obtain ⟨f, hf⟩ : ∃ f, f = lastCome bl num m := ⟨_, rfl⟩
        have hfle := lastCome_le bl num m
        rw [← hf] at hfle
        rw [← hf]
        have hf14 : f = lastCome bl num 14 := by rw [hf, HM.out]
        have HF14 := Lib.hid hf14
        clear hf hf14
        have ct0 := HC.out.t0
        have ct1 := HC.out.t1
        by_cases h13 : f = 13
        · subst h13
          have C1 := Lib.hid (rcome_c t0 time wr)
          cases hc0 : comeB t0 time with
          | true =>
            rw [hc0] at C1
            have HC0 := Lib.hid hc0
            clear hc0
            go_wp2_with fail
            (with_reducible refine C1.out.mono ?_)
            rintro e w2 ⟨rfl, rfl⟩
            clear C1
            have C2 := Lib.hid (rcome_c t1 time w2)
            cases hc1 : comeB t1 time with
            | true =>
              have hr : atF bl t0 t1 num time = 15 := by simp only [atF, ← HF14.out, HC0.out, hc1]; simp
              have HR := Lib.hid hr
              rw [hc1] at C2
              clear hr hc1
              go_wp2_with fail
              (with_reducible refine C2.out.mono ?_)
              rintro e w3 ⟨rfl, rfl⟩
              clear C2
              go_wp2_with fail
              exact bodyPost_ret (v := .tuple #[.int .i64 15, .int .i64 0]) (by simp [results, Tryd.results10, go_sem]) rfl ⟨by rw [HZ1.out, HR.out]; rfl, HBE.out⟩
            | false =>
              have hr : atF bl t0 t1 num time = 14 := by simp only [atF, ← HF14.out, HC0.out, hc1]; simp
              have HR := Lib.hid hr
              rw [hc1] at C2
              clear hr hc1
              go_wp2_with fail
              (with_reducible refine C2.out.mono ?_)
              rintro e w3 ⟨rfl, rfl⟩
              clear C2
              go_wp2_with fail
              exact bodyPost_ret (v := .tuple #[.int .i64 14, .int .i64 0]) (by simp [results, Tryd.results10, go_sem]) rfl ⟨by rw [HZ1.out, HR.out]; rfl, HBE.out⟩
          | false =>
            rw [hc0] at C1
            have HC0 := Lib.hid hc0
            clear hc0
            go_wp2_with fail
            (with_reducible refine C1.out.mono ?_)
            rintro e w2 ⟨rfl, rfl⟩
            clear C1
            have C2 := Lib.hid (rcome_c t1 time w2)
            cases hc1 : comeB t1 time with
            | true =>
              have hr : atF bl t0 t1 num time = 15 := by simp only [atF, ← HF14.out, HC0.out, hc1]; simp
              have HR := Lib.hid hr
              rw [hc1] at C2
              clear hr hc1
              go_wp2_with fail
              (with_reducible refine C2.out.mono ?_)
              rintro e w3 ⟨rfl, rfl⟩
              clear C2
              go_wp2_with fail
              exact bodyPost_ret (v := .tuple #[.int .i64 15, .int .i64 0]) (by simp [results, Tryd.results10, go_sem]) rfl ⟨by rw [HZ1.out, HR.out]; rfl, HBE.out⟩
            | false =>
              have hr : atF bl t0 t1 num time = 13 := by simp only [atF, ← HF14.out, HC0.out, hc1]; simp
              have HR := Lib.hid hr
              rw [hc1] at C2
              clear hr hc1
              go_wp2_with fail
              (with_reducible refine C2.out.mono ?_)
              rintro e w3 ⟨rfl, rfl⟩
              clear C2
              go_wp2_with fail
              exact bodyPost_ret (v := .tuple #[.int .i64 13, .int .i64 0]) (by simp [results, Tryd.results10, go_sem]) rfl ⟨by rw [HZ1.out, HR.out]; rfl, HBE.out⟩
        · have hr : atF bl t0 t1 num time = f := by
            simp only [atF, ← HF14.out]
            have e : (if f = 13 ∧ comeB t0 time = true then 14 else f) = f := if_neg fun h => h13 h.1
            rw [e]
            exact if_neg fun h => by have := h.1; omega
          have HR := Lib.hid hr
          have h12 : (f : Int) < 13 := by omega
          clear hr
          go_wp2_with fail
          exact bodyPost_ret (v := .tuple #[.int .i64 (f : Nat), .int .i64 0]) (by simp [results, Tryd.results10, go_sem]) rfl ⟨by rw [HZ1.out, HR.out], HBE.out⟩
end Go.Proofs.YtijoafmbmplgcaaDoor
