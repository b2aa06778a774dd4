/- The law RlpOwn. -/
import Derived.Test.YtgjiealcjaojaaaOwRlp2
import Derived.Deep.RegionHeld3
import Derived.Test.YtgjiealcjaojaaaRlTwin2
import Derived.Test.YtgjiealcjaojaaaRlEncode
import Derived.Test.YtgjiealcjaojaaaRlNum
import Derived.Test.YtgjiealcjaojaaaRlSame
import Derived.Test.YtgjiealcjaojaaaRlWakes
import Derived.Test.YtgjiealcjaojaaaLawRlpSplit
namespace Go.Proofs.Ytgjiealcjaojaaa
open Go.RowKit

def bl : Itm → Nat
  | .mk _ bs _ => bs.length
theorem twI_bl : ∀ (d : Nat) (x : Itm) (n : Nat), bl (twI d x n).1 ≤ 400
  | 0, .mk l bs xs, n => by show (bs.take 400).length ≤ 400; rw [List.length_take]; omega
  | d + 1, .mk l bs xs, n => by
    rw [twI]
    split <;> (show (bs.take 400).length ≤ 400; rw [List.length_take]; omega)
theorem twL_bl {f : Itm → Nat → Itm × Nat} (hf : ∀ x n, bl (f x n).1 ≤ 400) : ∀ (xs : List Itm) (n : Nat), ∀ z ∈ (twL f xs n).1, bl z ≤ 400
  | [], n, z, hz => by simp [twL] at hz
  | x :: xs, n, z, hz => by
    unfold twL at hz
    split at hz
    · cases hz
    · rcases List.mem_cons.1 hz with rfl | hz
      · exact hf _ _
      · exact twL_bl hf xs _ z hz
theorem twI_kids : ∀ (d : Nat) (x : Itm) (n : Nat) (l : Bool) (bs : List Nat) (ys : List Itm), (twI d x n).1 = .mk l bs ys → ∀ z ∈ ys, bl z ≤ 400
  | 0, .mk l' bs' xs', n, l, bs, ys, h, z, hz => by
    injection h with _ _ h
    subst h
    cases hz
  | d + 1, .mk l' bs' xs', n, l, bs, ys, h, z, hz => by
    rw [twI] at h
    split at h
    · injection h with _ _ h
      subst h
      exact twL_bl (fun x n => twI_bl d x n) _ _ z hz
    · injection h with _ _ h
      subst h
      cases hz
theorem en_lend (args : Array Value) (w : World) : (callFunc 10 args).run Try.prog w = .ok (.enter 10 args) w := by go_simp
/-- A call of a function of two arguments, as one step of a region that draws. -/
theorem step_callP {ops : Array Oper} {o : Oper} {a : Act} {w : World} {K : Act → World → Prop} {Q : Exit → Act → World → Prop} {E : Prop} (hgd : o.guard = none) (f : FuncId) (x y : Operand) {tys : Array TypeId}
    (ho : o.op = .call { callee := .value (.func f), args := #[x, y], argTypes := tys }) (he : ∀ args w, (callFunc f args).run Try.prog w = .ok (.enter f args) w) {R : Ending → World → Prop} (args : Array Value) (ha : #[a.eval x, a.eval y] = args)
    (h : Calls Try.prog f args w R) (hR : ∀ e w', R e w' → ∃ v, e = .returned v ∧ K (a.put o.dst v) w') : if Region.wanted o (yielded ops a.tmps) = true then o.wp Try.prog a w K Q else E := by
  have hw : Region.wanted o (yielded ops a.tmps) = true := by simp [Region.wanted, hgd]
  rw [if_pos hw]
  subst ha
  have e : (execOp a.eval o).run Try.prog w = .ok (.enter f #[a.eval x, a.eval y]) w := by
    have hp : a.eval (.func f) = .func (.func f) #[] #[] := rfl
    have e := he #[a.eval x, a.eval y] w
    clear h hw hR
    generalize a.eval = p at *
    unfold execOp
    rw [ho]
    go_simp
  unfold Oper.wp
  rw [e]
  refine h.mono fun e w' hr => ?_
  obtain ⟨v, rfl, hk⟩ := hR e w' hr
  exact hk

/-- A statement that ends in one way, the frame told by three numbers. -/
def Pt3 (F : Nat → Nat → Nat → Act) (R : Nat → Nat → Nat → World → Prop) : Exit → Act → World → Prop
  | .normal, a, w => ∃ g c z, R g c z w ∧ a = F g c z
  | _, _, _ => False
theorem wp_point3 {c : Code} {P : Program} {Q : Exit → Act → World → Prop} {a : Act} {w : World} (F : Nat → Nat → Nat → Act) (R : Nat → Nat → Nat → World → Prop) (h : c.wp P (Pt3 F R) a w) (k : ∀ g c z w', R g c z w' → Q .normal (F g c z) w') : c.wp P Q a w :=
  Code.wp_mono (fun ex a' w' h => by
    cases ex
    case normal =>
      obtain ⟨g, c, z, hr, rfl⟩ := h
      exact k g c z w' hr
    all_goals exact h.elim) h
/-- An item of the law's own in the block z, its bytes lent, no items yet. -/
def ZNew (base : Nat) (X : World) (k : Nat) (l : Bool) (n : Nat) (bs : List Nat) (g c z : Nat) (W : World) : Prop := ∃ (role : Role) (j : Nat), W.heap[z]? = some (.cells #[.bool l, .slice (some ⟨g, 0, none⟩) n c, .slice none 0 0] 56 (0, 0)) ∧
  Keeps base (base + 1) base role W (k + 1) ∧ B8 role (8, j) W (.slice (some ⟨g, 0, none⟩) n c) bs ∧ role z = some (20, 0) ∧ base ≤ z ∧ Below base X W
theorem znew_a {base : Nat} {X w : World} {k : Nat} {l : Bool} {n : Nat} {bs : List Nat} {g c j : Nat} {role : Role} (h : Keeps base (base + 1) base role w (k + 1)) (h8 : B8 role (8, j) w (.slice (some ⟨g, 0, none⟩) n c) bs) (hb : Below base X w) :
    ZNew base X k l n bs g c w.heap.size (w.alloc (.cells #[.bool l, .slice (some ⟨g, 0, none⟩) n c, .slice none 0 0] 56)) := by
  have hbw := (Below.refl w.heap.size w).alloc (Nat.le_refl _) (.cells #[.bool l, .slice (some ⟨g, 0, none⟩) n c, .slice none 0 0] 56)
  obtain ⟨h1, h2⟩ := (h.below hbw).block (b := w.heap.size) (by simp) h.old.1 (.inl (h.old.none (Nat.le_refl _)))
  exact ⟨_, j, heap_alloc_new w _, h1, (h8.keep (P := fun _ => False) (ChgR.of _ role hbw) id (Ext.refl _)).keep (P := fun _ => False) (ChgR.refl _ _ _) id h2, g20_self _ _, h.old.1, hb.trans (hbw.mono h.old.1)⟩
theorem znew_b {base : Nat} {X w : World} {k : Nat} {l : Bool} {n : Nat} {bs : List Nat} {g c j z : Nat} {role : Role} {a b d : Value} (h : Keeps base (base + 1) base role w (k + 1)) (h8 : B8 role (8, j) w (.slice (some ⟨g, 0, none⟩) n c) bs) (hb : Below base X w) (hz : w.heap[z]? = some (.cells #[a, b, d] 56 (0, 0))) (hn : role z = none) (hbz : base ≤ z) :
    ZNew base X k l n bs g c z (((w.setCell ⟨z, 0, none⟩ (.bool l)).setCell ⟨z, 1, none⟩ (.slice (some ⟨g, 0, none⟩) n c)).setCell ⟨z, 2, none⟩ (.slice none 0 0)) := by
  obtain ⟨h1, h2⟩ := h.block (b := z) (heap_lt2 hz) hbz (.inl hn)
  have hg := g20_self role z
  have hc : ChgR (fun r => 20 ≤ r.1) (g20 role z) w (((w.setCell ⟨z, 0, none⟩ (.bool l)).setCell ⟨z, 1, none⟩ (.slice (some ⟨g, 0, none⟩) n c)).setCell ⟨z, 2, none⟩ (.slice none 0 0)) :=
    (((ChgR.refl _ _ w).set _ hg (by decide)).set _ hg (by decide)).set _ hg (by decide)
  exact ⟨_, j, item_set hz _ _ _, h1.far hc, (h8.keep (P := fun _ => False) (ChgR.refl _ _ _) id h2).keep hc (by show ¬ 20 ≤ 8; omega) (Ext.refl _), hg, hbz, below_item hb hbz _ _ _⟩

/-- An operation of a region taken first, its row read off the list. -/
theorem take_at {P : Program} {md : Region.Mode} {l : List Oper} {Q : Exit → Act → World → Prop} {S : World → Prop} {k : Nat} {oi : Oper} {v : Value} {fuel : Nat} {listed : Array Bool} {a : Act} {w : World} (hi : l[k]? = some oi)
    (hs : Region.noSelect l.toArray = true) (hf : Region.free md l.toArray listed k = true) (hr : (Region.ready md l.toArray listed).contains k = true)
    (hy : YieldsIf P l.toArray S oi v a) (hS : S w) (hQ : ∀ c a w, Q (.panic c) (a.put oi.dst v) w → Q (.panic c) a w)
    (h : wpAnyH P md l.toArray Q S fuel (listed.setIfInBounds k true) (a.put oi.dst v) w) : wpAnyH P md l.toArray Q S (fuel + 1) listed a w :=
  wpAnyH_take (by simpa using hi) hs hf hr hQ hy hS h
theorem consL {l : List Oper} {k : Nat} {oi : Oper} (hi : l[k]? = some oi) : l.toArray[k]? = some oi := by simpa using hi

theorem w99 : W 166020696663385964553 = .agg #[.int .u64 9, .int .u64 9, .int .u64 0, .int .u64 0] := by
  first | rfl | kernel_rfl | decide
theorem len99 (h : Big 166020696663385964553) : (shortv 166020696663385964553).length ≤ 300 := by
  rw [shortv_len h]
  first | decide | (have : blen 166020696663385964553 ≤ 256 := (by decide); omega) | (have : blen 166020696663385964553 ≤ 256 := (by kernel_rfl); omega)

set_option maxRecDepth 100000 in
set_option maxHeartbeats 12800000 in
theorem rlpOwn_c {S : Nat → Prop} {x : Itm} {vx : Value} {A : Option Addr} {c : Nat} {raw : List Nat} (w : World) (hx : IAt S w vx x) (hrd : Rd .u8 w A c raw) (hds : Ds 256 raw) :
    Calls Try.prog 5 #[vx, .slice A raw.length c] w (RetV (.bool true) w) := by
  obtain ⟨l0, a0, n0, c0, b0, k0, d0, rfl⟩ := hx.parts
  obtain ⟨p, hp⟩ : ∃ p, p = raw.take 300 := ⟨_, rfl⟩
  have FT : Hid (∀ (w : World), Rd .u8 w A c raw → Calls Try.prog 7 #[.slice A raw.length c, .int .i64 300] w (RetR (fun w' v => OwnB w.heap.size w' v p) w)) := fun w h => by rw [hp]; exact twin_o w h hds 300 (by decide) (by decide)
  have HPL : Hid (p.length ≤ 300 ∧ Ds 256 p) := ⟨by rw [hp, List.length_take]; omega, by rw [hp]; exact hds.take 300⟩
  obtain ⟨L, hL⟩ : ∃ L, L = raw.length := ⟨_, rfl⟩
  rw [← hL] at FT ⊢
  obtain ⟨X2, hX2⟩ : ∃ X, X = (w.alloc (.cells #[.bool l0, .slice a0 n0 c0, .slice b0 k0 d0] 56)).alloc (.cells #[.int .i64 100] 3) := ⟨_, rfl⟩
  have hb2 : Below w.heap.size w X2 := by rw [hX2]; exact ((Below.refl _ _).alloc (Nat.le_refl _) _).alloc (by simp) _
  have hs2 : X2.heap.size = w.heap.size + 2 := by rw [hX2]; simp
  have hc1 : X2.heap[w.heap.size]? = some (.cells #[.bool l0, .slice a0 n0 c0, .slice b0 k0 d0] 56 (0, 0)) := by
    rw [hX2, Below.heap_alloc _ _ _ (by simp)]; exact heap_alloc_new w _
  have hc2 : X2.heap[w.heap.size + 1]? = some (.cells #[.int .i64 100] 3 (0, 0)) := by
    have := heap_alloc_new (w.alloc (.cells #[.bool l0, .slice a0 n0 c0, .slice b0 k0 d0] 56)) (.cells #[.int .i64 100] 3)
    rw [hX2]
    simpa using this
  have hx2 : IAt (fun b => b ≠ w.heap.size + 1) X2 (.agg #[.bool l0, .slice a0 n0 c0, .slice b0 k0 d0]) x := (hx.mono (S' := fun b => b ≠ w.heap.size + 1) (fun b hb _ => by omega)).keep hb2
  have CT := twin_i 5 (by decide) (w.heap.size + 1) 100 x X2 _ hx2 hc2 (by decide) (by decide)
  unfold TwR at CT
  obtain ⟨y, hy⟩ : ∃ y, y = (twI 5 x 100).1 := ⟨_, rfl⟩
  have hys := twI_sz 5 x 100 (by decide) (by decide)
  have hyb := twI_bl 5 x 100
  have hyk := twI_kids 5 x 100
  rw [← hy] at CT hys hyb hyk
  obtain ⟨x0, x1, x2, -, -, -⟩ := three_cells hc1
  have CT : Hid (Calls Try.prog 26 #[.agg #[.bool l0, .slice a0 n0 c0, .slice b0 k0 d0], .int .i64 5, .pointer (some ⟨w.heap.size + 1, 0, none⟩)] X2 _) := CT
  have HB2 := Lib.hid hb2
  have HS2 := Lib.hid hs2
  have HX2 := Lib.hid hX2
  have HRD := Lib.hid hrd
  have HLL := Lib.hid hL
  obtain ⟨ly, by_, ys⟩ := y
  have HYB : Hid (by_.length ≤ 400 ∧ (∀ z ∈ ys, bl z ≤ 400) ∧ ys.length ≤ 100 ∧ fsz (.mk ly by_ ys) ≤ 40900 ∧ isz (.mk ly by_ ys) ≤ 100) := ⟨hyb, fun z hz => hyk ly by_ ys rfl z hz, by
    have h1 := hys.2.1
    have h2 := iszL_len ys
    rw [isz] at h1
    omega, by have := hys.1; omega, by have := hys.2.1; omega⟩
  clear hx hrd hds hp hL hX2 hb2 hs2 hc1 hc2 hx2 hy hys hyb hyk
  go_enter Try.func5, Try.ntmps5
  go_upto_region 2 with (fail)
  rw [← HX2.out]
  clear HX2
  go_wp2_with fail
  (with_reducible refine CT.out.mono ?_)
  rintro e w3 ⟨htk, -, vy, rfl, hiy⟩
  obtain ⟨l1, a1, n1, c1, b1, k1, d1, rfl⟩ := hiy.parts
  have hb3 : Below w.heap.size w w3 := ⟨htk.os.trans HB2.out.os, htk.tape.trans HB2.out.tape, htk.output.trans HB2.out.output, Nat.le_trans HB2.out.size htk.size, fun k hk => (htk.block k (by have := HS2.out; omega) (by show ¬ k = _; omega)).trans (HB2.out.block k hk)⟩
  obtain ⟨X4, hX4⟩ : ∃ X, X = w3.alloc (.cells #[.bool l1, .slice a1 n1 c1, .slice b1 k1 d1] 56) := ⟨_, rfl⟩
  have hb34 : Below w3.heap.size w3 X4 := by rw [hX4]; exact (Below.refl _ _).alloc (Nat.le_refl _) _
  have hs4 : X4.heap.size = w3.heap.size + 1 := by rw [hX4]; simp
  have hcy : X4.heap[w3.heap.size]? = some (.cells #[.bool l1, .slice a1 n1 c1, .slice b1 k1 d1] 56 (0, 0)) := by rw [hX4]; exact heap_alloc_new w3 _
  have hiy4 : IAt (fun b => b < w3.heap.size + 1) X4 (.agg #[.bool l1, .slice a1 n1 c1, .slice b1 k1 d1]) (.mk ly by_ ys) := (hiy.mono (S' := fun b => b < w3.heap.size + 1) (fun b hb _ => by omega)).keep hb34
  have hbw4 : Below w.heap.size w X4 := hb3.trans (hb34.mono hb3.size)
  obtain ⟨X6, hX6⟩ : ∃ X, X = (X4.alloc (.cells #[.slice none 0 0, .slice none 0 0] 28)).alloc (.cells #[.slice none 0 0, .slice none 0 0, .slice none 0 0, .slice none 0 0, .int .i64 0] 31) := ⟨_, rfl⟩
  have hb6 : Below X4.heap.size X4 X6 := by rw [hX6]; exact ((Below.refl _ _).alloc (Nat.le_refl _) _).alloc (by simp) _
  have hg1 : X6.heap[X4.heap.size]? = some (.cells #[.slice none 0 0, .slice none 0 0] 28 (0, 0)) := by
    rw [hX6, Below.heap_alloc _ _ _ (by simp)]; exact heap_alloc_new X4 _
  have hg2 : X6.heap[X4.heap.size + 1]? = some (.cells #[.slice none 0 0, .slice none 0 0, .slice none 0 0, .slice none 0 0, .int .i64 0] 31 (0, 0)) := by
    have := heap_alloc_new (X4.alloc (.cells #[.slice none 0 0, .slice none 0 0] 28)) (.cells #[.slice none 0 0, .slice none 0 0, .slice none 0 0, .slice none 0 0, .int .i64 0] 31)
    rw [hX6]
    simpa using this
  have hk0 := Keeps.new (base := X4.heap.size) (by omega) hg1 hg2 (Nat.le_refl _) (by omega)
  obtain ⟨Gy, hGy⟩ : ∃ G, G = w3.heap.size := ⟨_, rfl⟩
  rw [← hGy] at hs4 hcy hiy4
  rw [hs4] at hk0 hb6
  have HXY : Hid (w3.heap.size = Gy) := hGy.symm
  have HX4 := Lib.hid hX4
  have HX6 := Lib.hid hX6
  have HK0 := Lib.hid hk0
  have HBW := Lib.hid hbw4
  have HB6 := Lib.hid hb6
  have HCY := Lib.hid hcy
  have HIY := Lib.hid hiy4
  have HS4 := Lib.hid hs4
  have HWG : Hid (w.heap.size ≤ Gy) := by have := hb3.size; show _ ≤ _; omega
  have HRA := Lib.hid (HRD.out.below hbw4)
  clear htk hiy hb3 hb34 hX4 hX6 hs4 hcy hiy4 hbw4 hb6 hg1 hg2 hk0 hGy CT HB2 HS2 HRD x0 x1 x2
  go_upto_region 3 with (fail)
  rw [← HX4.out, HXY.out]
  go_upto_region 5 with (fail)
  rw [← HX6.out, HS4.out]
  go_upto_region 6 with (fail)
  clear HX4 HX6 HXY
  obtain ⟨ely, ⟨ay, cy, ey, hry, hdy⟩, -⟩ := HIY.out.inv
  injection ely with ely
  subst ely
  injection ey with ey1 ey2 ey3
  subst ey1 ey3
  obtain ⟨By, capy, by2, offy, uy, e2, hBy, hcapy, huy, hxsy⟩ := HIY.out.inv2
  injection e2 with e21 e22 e23
  subst e21 e23
  have HKY : Hid (k1 = ys.length ∧ ys.length ≤ d1 ∧ (0 < ys.length → b1 = some ⟨by2, offy, none⟩ ∧ by2 < Gy + 1)) := ⟨e22, hcapy, fun h => ⟨(hBy h).1, (hBy h).2.2⟩⟩
  have HPC := Lib.hid (fun j x h => part_cells huy hxsy (j := j) (x := x) h)
  have HRY := Lib.hid hry
  have HDY := Lib.hid hdy
  have HNY : Hid (n1 = by_.length) := ey2
  clear hry hdy ey2 hBy hcapy huy hxsy e22
  go_loopw [9] (fun i wr => ∃ (j k : Nat) (role : Role), j ≤ 3 ∧ i = .int .i64 (j : Int) ∧ Hid (k ≤ 1000 * j) ∧ Hid (Keeps (Gy + 1) (Gy + 1 + 1) (Gy + 1) role wr k) ∧ Hid (Below (Gy + 1) X4 wr))
    (fun i _ => 3 - (intOf i).toNat)
  case atStart => exact ⟨0, 0, _, by omega, rfl, Nat.zero_le _, HK0.out, HB6.out⟩
  case round =>
    obtain ⟨j, k, role, hj, rfl, hkj, hk, hb⟩ := hrel
    by_cases hj3 : j < 3
    · have hj1 : (j : Int) < 3 := by omega
      have hGl : Gy < wr.heap.size := by have := hb.out.size; have := HS4.out; omega
      have hcy := (hb.out.block Gy (by omega)).trans HCY.out
      have hbX : Below X4.heap.size X4 wr := by rw [HS4.out]; exact hb.out
      have C : Hid (∀ W', Below wr.heap.size wr W' → Calls Try.prog 10 #[.pointer (some ⟨Gy + 1, 0, none⟩), .slice a1 n1 c1] W' (Lent (Gy + 1) (Gy + 1 + 1) (Gy + 1) role W' k n1 by_)) := fun W' hb' => by
        rw [HNY.out]
        exact (hk.out.below hb').lend ((HRY.out.below hbX).below hb') HDY.out (by have := HYB.out.1; omega) (by have := hkj.out; omega)
      obtain ⟨q0, q1, q2, -, -, -⟩ := three_cells hcy
      have hcy2 : ∀ cs, (wr.alloc (.cells cs 56)).heap[Gy]? = _ := fun cs => (Below.heap_alloc wr (.cells cs 56) Gy hGl).trans hcy
      obtain ⟨p0, p1, p2, -, -, -⟩ := three_cells (hcy2 #[.bool false, .slice none 0 0, .slice none 0 0])
      have HCY1 := Lib.hid hcy
      have HKR := Lib.hid hk.out
      have HBR := Lib.hid hb.out
      have HKJ := Lib.hid hkj.out
      have HGL := Lib.hid hGl
      clear hcy hbX hcy2 hk hb hkj hGl HK0 HB6
      go_upto_region 8 with (fail)
      apply wp_point3 (R := fun g c z W => ZNew (Gy + 1) X4 k l1 n1 by_ g c z W)
      case h =>
       go_region_law (first
         | (refine step_callP rfl 10 (.tmp 33) (.tmp 35) rfl en_lend _ rfl (C.out _ (by first | exact (Below.refl _ _).drew | exact ((Below.refl _ _).alloc (Nat.le_refl _) _).drew | exact (Below.refl _ _).drew.alloc (Nat.le_refl _) _)) ?_
            rintro e w5 ⟨role5, g5, c5, j5, rfl, hs5, hk5, her5, hch5, hbb5⟩
            refine ⟨_, rfl, ?_⟩
            have HS5 := Lib.hid hs5
            have HK5 := Lib.hid hk5
            have HE5 := Lib.hid her5
            have HC5 := Lib.hid hch5
            have HB5 := Lib.hid hbb5
            have hcy5 := (hbb5.block Gy (by omega)).trans (by first | exact HCY1.out | exact (Below.heap_alloc wr _ Gy HGL.out).trans HCY1.out)
            obtain ⟨z0, z1, z2, -, -, -⟩ := three_cells hcy5
            obtain ⟨r0, r1, r2, -, -, -⟩ := three_cells ((Below.heap_alloc w5 (.cells #[.bool false, .slice none 0 0, .slice none 0 0] 56) Gy (heap_lt2 hcy5)).trans hcy5)
            try
              have hzz : w5.heap[wr.heap.size]? = some (.cells #[.bool false, .slice none 0 0, .slice none 0 0] 56 (0, 0)) := (hch5.block wr.heap.size (by simp) (fun r e _ => by rw [HKR.out.old.none (Nat.le_refl _)] at e; cases e)).trans (heap_alloc_new wr _)
              obtain ⟨v0, v1, v2, v3, v4, v5⟩ := three_cells hzz
              have HZZ := Lib.hid hzz
              clear hzz
            clear hs5 hk5 her5 hch5 hbb5 hcy5))
       all_goals first
         | (have hzn : role5 wr.heap.size = none := by rw [HE5.out wr.heap.size (by simp)]; exact HKR.out.old.none (Nat.le_refl _)
            have hfin := znew_b (l := l1) HK5.out HS5.out (HBR.out.trans ((Below.refl (Gy + 1) wr).alloc (by have := HGL.out; omega) _ |>.drew |>.trans HB5.out)) HZZ.out hzn (by have := HGL.out; omega)
            obtain ⟨gz, hgz⟩ : ∃ gz, gz = wr.heap.size := ⟨_, rfl⟩
            rw [← hgz] at hfin ⊢
            exact ⟨g5, c5, gz, hfin, rfl⟩)
         | (have hfin := znew_a (l := l1) HK5.out HS5.out (HBR.out.trans ((Below.refl (Gy + 1) wr).drew.trans HB5.out))
            obtain ⟨gz, hgz⟩ : ∃ gz, gz = w5.heap.size := ⟨_, rfl⟩
            rw [← hgz] at hfin ⊢
            exact ⟨g5, c5, gz, hfin, rfl⟩)
      rintro g5 c5 gz W5 ⟨role5, j5, z1, z2, z3, z4, z5, z6⟩
      have HZ0 : Hid (ZAt (Gy + 1) X4 l1 n1 by_ g5 c5 gz role5 (k + 1) W5 (.slice none 0 0) [] []) := ⟨z1, z2, ⟨j5, z3⟩, z4, z5, AccG.nil _ _ _, fun b e => (by cases e), z6⟩
      clear z1 z2 z3 z4 z5 z6 C q0 q1 q2 p0 p1 p2 HCY1 HKR HBR HGL
      go_upto_region 10 with (fail)
      go_loopw [11] (fun i W => ∃ (i2 k2 : Nat) (role2 : Role) (v : Value) (us : List Value), i2 ≤ k1 ∧ i = .int .i64 (i2 : Int) ∧ Hid (k2 = k + 1 + i2) ∧ Hid (ZAt (Gy + 1) X4 l1 n1 by_ g5 c5 gz role2 k2 W v us (ys.take i2)))
        (fun i _ => k1 - (intOf i).toNat)
      case atStart => exact ⟨0, k + 1, role5, _, [], by omega, rfl, rfl, by simpa [Hid] using HZ0.out⟩
      case round =>
        obtain ⟨i2, k2, role2, v, us, hi2, rfl, hk2, hz⟩ := hrel
        have hbb := hz.out.bel
        have hcy := (hbb.block Gy (by omega)).trans HCY.out
        obtain ⟨q0, q1, q2, -, -, -⟩ := three_cells hcy
        obtain ⟨BB, cc, rfl⟩ := hz.out.row.form
        obtain ⟨f0, f1, f2, -, -, -⟩ := three_cells hz.out.cell
        have hK8 : k1 ≤ 100 := by have := HKY.out; have := HYB.out; omega
        by_cases hik : i2 < k1
        · obtain ⟨xi, hxi⟩ : ∃ x, ys[i2]? = some x := ⟨_, List.getElem?_eq_getElem (by rw [← HKY.out.1]; exact hik)⟩
          obtain ⟨rfl, hby2⟩ := HKY.out.2.2 (by rw [← HKY.out.1]; omega)
          obtain ⟨l3, a3, n3, c3, a4, n4, c4, p0, p1, p2, hI1⟩ := HPC.out i2 xi hxi
          obtain ⟨lz, bz, yz⟩ := xi
          obtain ⟨elz, ⟨az, cz, ez, hrz, hdz⟩, -⟩ := hI1.inv
          injection elz with elz
          subst elz
          injection ez with ez1 ez2 ez3
          subst ez1 ez3
          have hbz : bz.length ≤ 400 := HYB.out.2.1 _ (List.mem_of_getElem? hxi)
          have hbX : Below X4.heap.size X4 wr := by rw [HS4.out]; exact hbb
          have p0' := (hbX.cell (p := ⟨by2, offy + i2 * 3, none⟩) (by show by2 < _; rw [HS4.out]; exact hby2)).trans p0
          have p1' := (hbX.cell (p := ⟨by2, offy + i2 * 3 + 1, none⟩) (by show by2 < _; rw [HS4.out]; exact hby2)).trans p1
          have p2' := (hbX.cell (p := ⟨by2, offy + i2 * 3 + 2, none⟩) (by show by2 < _; rw [HS4.out]; exact hby2)).trans p2
          have C : Hid (Calls Try.prog 10 #[.pointer (some ⟨Gy + 1, 0, none⟩), .slice a3 n3 c3] wr.drew (Lent (Gy + 1) (Gy + 1 + 1) (Gy + 1) role2 wr.drew k2 n3 bz)) := by
            rw [ez2]
            exact (hz.out.keeps.below (Below.refl _ _).drew).lend ((hrz.below hbX).below (Below.refl _ _).drew) hdz (by omega) (by have := hk2.out; have := HKJ.out; omega)
          have hiU : (i2 : Int) < (k1 : Int) := by omega
          have ei2 : IntKind.i64.wrap ((i2 : Int) + 1) = (i2 : Int) + 1 := IntWalk.i64_in _ (by omega)
          obtain ⟨i0, hi, hz0, hz1, hz2⟩ : ∃ i, Try.prog.info? 56 = some i ∧ i.zero = some (.agg #[.bool false, .slice none 0 0, .slice none 0 0]) ∧ i.size = 3 ∧ i.bytes = 56 := by
            obtain ⟨i, hi, he⟩ := Option.map_eq_some_iff.1 infoIt
            injection he with h1 h2
            injection h2 with h2 h3
            exact ⟨i, hi, h1, h2, h3⟩
          obtain ⟨m, hm⟩ : ∃ m, m = (ys.take i2).length := ⟨_, rfl⟩
          have hmi : m = i2 := by rw [hm, List.length_take]; have := HKY.out.1; omega
          have HMM := Lib.hid hm
          have HMI := Lib.hid hmi
          have HXI := Lib.hid hxi
          have HI1 := Lib.hid hI1
          have HPP : Hid (∀ W', Below (Gy + 1) X4 W' → W'.cell? ⟨by2, offy + i2 * 3, none⟩ = some (.bool l3) ∧ W'.cell? ⟨by2, offy + i2 * 3 + 1, none⟩ = some (.slice a3 n3 c3) ∧ W'.cell? ⟨by2, offy + i2 * 3 + 2, none⟩ = some (.slice a4 n4 c4) ∧ W'.cell? ⟨Gy, 2, none⟩ = some (.slice (some ⟨by2, offy, none⟩) k1 d1)) := fun W' hb' => by
            have hb0 : Below X4.heap.size X4 W' := by rw [HS4.out]; exact hb'
            have hlx : by2 < X4.heap.size := by rw [HS4.out]; exact hby2
            exact ⟨(hb0.cell (p := ⟨by2, offy + i2 * 3, none⟩) hlx).trans p0, (hb0.cell (p := ⟨by2, offy + i2 * 3 + 1, none⟩) hlx).trans p1, (hb0.cell (p := ⟨by2, offy + i2 * 3 + 2, none⟩) hlx).trans p2, (three_cells ((hb'.block Gy (by omega)).trans HCY.out)).2.2.1⟩
          have HZD := Lib.hid (hz.out.same (Below.refl wr.heap.size wr).drew)
          rw [← hm] at HZD f2
          have HIK : Hid (i2 < k1 ∧ k1 ≤ 100) := ⟨hik, hK8⟩
          have HK2 := Lib.hid hk2.out
          clear hz hm hmi hxi hI1 hrz hdz hbz hbX p0 p1 p2 hcy q0 q1 hbb hk2 hik hK8 hi2 f0 f1 hby2 ez2 HZ0
          go_upto_region 12 with (fail)
          clear p0' p1' p2' q2
          refine wp_region_held_drew (S := (fun W' => W'.cell? ⟨by2, offy + i2 * 3, none⟩ = some (.bool l3) ∧ W'.cell? ⟨by2, offy + i2 * 3 + 1, none⟩ = some (.slice a3 n3 c3) ∧ W'.cell? ⟨by2, offy + i2 * 3 + 2, none⟩ = some (.slice a4 n4 c4) ∧ W'.cell? ⟨Gy, 2, none⟩ = some (.slice (some ⟨by2, offy, none⟩) k1 d1))) (by kernel_rfl) (by first | exact HPP.out _ HZD.out.bel) (fun hHeld => ?_)
          refine take_at (k := 0) (v := ?_) rfl (by kernel_rfl) (by kernel_rfl) (by kernel_rfl) (Or.inl ⟨by rfl, ?_⟩) (by assumption) (fun _ _ _ h => h) ?_
          rotate_left
          · (intro w hSw; (try dsimp only at hSw); go_simp) <;> with_reducible rfl
          try simp only [Act.put, List.setIfInBounds_toArray, List.set_cons_zero, List.set_cons_succ]
          refine take_at (k := 2) (v := ?_) rfl (by kernel_rfl) (by kernel_rfl) (by kernel_rfl) (Or.inl ⟨by rfl, ?_⟩) (by assumption) (fun _ _ _ h => h) ?_
          rotate_left
          · (intro w hSw; (try dsimp only at hSw); go_simp) <;> with_reducible rfl
          try simp only [Act.put, List.setIfInBounds_toArray, List.set_cons_zero, List.set_cons_succ]
          refine take_at (k := 3) (v := ?_) rfl (by kernel_rfl) (by kernel_rfl) (by kernel_rfl) (Or.inl ⟨by rfl, ?_⟩) (by assumption) (fun _ _ _ h => h) ?_
          rotate_left
          · (intro w hSw; (try dsimp only at hSw); go_simp) <;> with_reducible rfl
          try simp only [Act.put, List.setIfInBounds_toArray, List.set_cons_zero, List.set_cons_succ]
          refine take_at (k := 4) (v := ?_) rfl (by kernel_rfl) (by kernel_rfl) (by kernel_rfl) (Or.inl ⟨by rfl, ?_⟩) (by assumption) (fun _ _ _ h => h) ?_
          rotate_left
          · (intro w hSw; (try dsimp only at hSw); go_simp) <;> with_reducible rfl
          try simp only [Act.put, List.setIfInBounds_toArray, List.set_cons_zero, List.set_cons_succ]
          refine take_at (k := 5) (v := ?_) rfl (by kernel_rfl) (by kernel_rfl) (by kernel_rfl) (Or.inl ⟨by rfl, ?_⟩) (by assumption) (fun _ _ _ h => h) ?_
          rotate_left
          · (intro w hSw; (try dsimp only at hSw); go_simp) <;> with_reducible rfl
          try simp only [Act.put, List.setIfInBounds_toArray, List.set_cons_zero, List.set_cons_succ]
          refine take_at (k := 6) (v := ?_) rfl (by kernel_rfl) (by kernel_rfl) (by kernel_rfl) (Or.inl ⟨by rfl, ?_⟩) (by assumption) (fun _ _ _ h => h) ?_
          rotate_left
          · (intro w hSw; (try dsimp only at hSw); go_simp) <;> with_reducible rfl
          try simp only [Act.put, List.setIfInBounds_toArray, List.set_cons_zero, List.set_cons_succ]
          refine take_at (k := 7) (v := ?_) rfl (by kernel_rfl) (by kernel_rfl) (by kernel_rfl) (Or.inl ⟨by rfl, ?_⟩) (by assumption) (fun _ _ _ h => h) ?_
          rotate_left
          · (intro w hSw; (try dsimp only at hSw); go_simp) <;> with_reducible rfl
          try simp only [Act.put, List.setIfInBounds_toArray, List.set_cons_zero, List.set_cons_succ]
          refine take_at (k := 8) (v := ?_) rfl (by kernel_rfl) (by kernel_rfl) (by kernel_rfl) (Or.inl ⟨by rfl, ?_⟩) (by assumption) (fun _ _ _ h => h) ?_
          rotate_left
          · (intro w hSw; (try dsimp only at hSw); go_simp) <;> with_reducible rfl
          try simp only [Act.put, List.setIfInBounds_toArray, List.set_cons_zero, List.set_cons_succ]
          refine take_at (k := 9) (v := ?_) rfl (by kernel_rfl) (by kernel_rfl) (by kernel_rfl) (Or.inl ⟨by rfl, ?_⟩) (by assumption) (fun _ _ _ h => h) ?_
          rotate_left
          · (intro w hSw; (try dsimp only at hSw); go_simp) <;> with_reducible rfl
          try simp only [Act.put, List.setIfInBounds_toArray, List.set_cons_zero, List.set_cons_succ]
          refine take_at (k := 10) (v := ?_) rfl (by kernel_rfl) (by kernel_rfl) (by kernel_rfl) (Or.inl ⟨by rfl, ?_⟩) (by assumption) (fun _ _ _ h => h) ?_
          rotate_left
          · (intro w hSw; (try dsimp only at hSw); go_simp) <;> with_reducible rfl
          try simp only [Act.put, List.setIfInBounds_toArray, List.set_cons_zero, List.set_cons_succ]
          refine take_at (k := 11) (v := ?_) rfl (by kernel_rfl) (by kernel_rfl) (by kernel_rfl) (Or.inl ⟨by rfl, ?_⟩) (by assumption) (fun _ _ _ h => h) ?_
          rotate_left
          · (intro w hSw; (try dsimp only at hSw); go_simp) <;> with_reducible rfl
          try simp only [Act.put, List.setIfInBounds_toArray, List.set_cons_zero, List.set_cons_succ]
          refine take_at (k := 12) (v := ?_) rfl (by kernel_rfl) (by kernel_rfl) (by kernel_rfl) (Or.inl ⟨by rfl, ?_⟩) (by assumption) (fun _ _ _ h => h) ?_
          rotate_left
          · (intro w hSw; (try dsimp only at hSw); go_simp) <;> with_reducible rfl
          try simp only [Act.put, List.setIfInBounds_toArray, List.set_cons_zero, List.set_cons_succ]
          refine take_at (k := 13) (v := ?_) rfl (by kernel_rfl) (by kernel_rfl) (by kernel_rfl) (Or.inl ⟨by rfl, ?_⟩) (by assumption) (fun _ _ _ h => h) ?_
          rotate_left
          · (intro w hSw; (try dsimp only at hSw); go_simp) <;> with_reducible rfl
          try simp only [Act.put, List.setIfInBounds_toArray, List.set_cons_zero, List.set_cons_succ]
          refine take_at (k := 14) (v := ?_) rfl (by kernel_rfl) (by kernel_rfl) (by kernel_rfl) (Or.inl ⟨by rfl, ?_⟩) (by assumption) (fun _ _ _ h => h) ?_
          rotate_left
          · (intro w hSw; (try dsimp only at hSw); go_simp) <;> with_reducible rfl
          try simp only [Act.put, List.setIfInBounds_toArray, List.set_cons_zero, List.set_cons_succ]
          refine take_at (k := 16) (v := ?_) rfl (by kernel_rfl) (by kernel_rfl) (by kernel_rfl) (Or.inl ⟨by rfl, ?_⟩) (by assumption) (fun _ _ _ h => h) ?_
          rotate_left
          · (intro w hSw; (try dsimp only at hSw); go_simp) <;> with_reducible rfl
          try simp only [Act.put, List.setIfInBounds_toArray, List.set_cons_zero, List.set_cons_succ]
          refine take_at (k := 17) (v := ?_) rfl (by kernel_rfl) (by kernel_rfl) (by kernel_rfl) (Or.inl ⟨by rfl, ?_⟩) (by assumption) (fun _ _ _ h => h) ?_
          rotate_left
          · (intro w hSw; (try dsimp only at hSw); go_simp) <;> with_reducible rfl
          try simp only [Act.put, List.setIfInBounds_toArray, List.set_cons_zero, List.set_cons_succ]
          refine take_at (k := 18) (v := ?_) rfl (by kernel_rfl) (by kernel_rfl) (by kernel_rfl) (Or.inl ⟨by rfl, ?_⟩) (by assumption) (fun _ _ _ h => h) ?_
          rotate_left
          · (intro w hSw; (try dsimp only at hSw); go_simp) <;> with_reducible rfl
          try simp only [Act.put, List.setIfInBounds_toArray, List.set_cons_zero, List.set_cons_succ]
          refine take_at (k := 19) (v := ?_) rfl (by kernel_rfl) (by kernel_rfl) (by kernel_rfl) (Or.inl ⟨by rfl, ?_⟩) (by assumption) (fun _ _ _ h => h) ?_
          rotate_left
          · (intro w hSw; (try dsimp only at hSw); go_simp) <;> with_reducible rfl
          try simp only [Act.put, List.setIfInBounds_toArray, List.set_cons_zero, List.set_cons_succ]
          refine take_at (k := 20) (v := ?_) rfl (by kernel_rfl) (by kernel_rfl) (by kernel_rfl) (Or.inl ⟨by rfl, ?_⟩) (by assumption) (fun _ _ _ h => h) ?_
          rotate_left
          · (intro w hSw; (try dsimp only at hSw); go_simp) <;> with_reducible rfl
          try simp only [Act.put, List.setIfInBounds_toArray, List.set_cons_zero, List.set_cons_succ]
          refine take_at (k := 21) (v := ?_) rfl (by kernel_rfl) (by kernel_rfl) (by kernel_rfl) (Or.inl ⟨by rfl, ?_⟩) (by assumption) (fun _ _ _ h => h) ?_
          rotate_left
          · (intro w hSw; (try dsimp only at hSw); go_simp) <;> with_reducible rfl
          try simp only [Act.put, List.setIfInBounds_toArray, List.set_cons_zero, List.set_cons_succ]
          refine wpAnyH_ready (rs := [1, 15]) (by kernel_rfl) (by simp) ?_
          refine AllReadyH.cons (consL rfl) (fun K hK => ?_) ?_
          · skip
            go_simp
            refine hK.out _ _ (by first | exact HPP.out _ HZD.out.bel | exact HPP.out _ HB6.out | exact HPP.out _ HZ7.out.bel | exact HPP.out _ HB8.out | exact HPP.out _ HZ8.out.bel) (fun hHeld => ?_)
            clear hK K
            try simp only [Act.put, List.setIfInBounds_toArray, List.set_cons_zero, List.set_cons_succ]
            refine wpAnyH_ready (rs := [15]) (by kernel_rfl) (by simp) ?_
            refine AllReadyH.cons (consL rfl) (fun K hK => ?_) ?_
            · skip
              refine step_callP rfl 10 (.tmp 53) (.tmp 59) rfl en_lend _ rfl C.out ?_
              rintro e w6 ⟨role6, g6, c6, j6, rfl, hs6, hk6, her6, hch6, hbb6⟩
              refine ⟨_, rfl, ?_⟩
              have hz6 := HZD.out.lent hk6 (ext_of HZD.out.keeps.old her6) hch6 hbb6
              have HB6 := Lib.hid hz6.bel
              have hal := (Below.refl w6.heap.size w6).alloc (Nat.le_refl _) (.cells #[.bool l3, .slice (some ⟨g6, 0, none⟩) n3 c6, .slice a4 n4 c4] 56)
              have hz7 := hz6.same hal
              obtain ⟨-, -, u6, -, -, -⟩ := three_cells hz6.cell
              obtain ⟨-, -, u7, -, -, -⟩ := three_cells hz7.cell
              have HS6 := Lib.hid (hs6.keep (P := fun _ => False) (ChgR.of _ role6 hal) id (Ext.refl _))
              have HZ7 := Lib.hid hz7
              have HOW7 : Hid ((w6.alloc (.cells #[.bool l3, .slice (some ⟨g6, 0, none⟩) n3 c6, .slice a4 n4 c4] 56)).ownsRow (Gy + 1) 56 3 (.slice BB m cc) m us) := by
                have := hz7.row.1
                rwa [← HMM.out] at this
              have HB7 : Hid (Gy + 1 ≤ w6.heap.size) := hz6.keeps.old.1
              clear hs6 hk6 her6 hch6 hbb6 hz6 hz7 hal
              refine hK.out _ _ (by first | exact HPP.out _ HZD.out.bel | exact HPP.out _ HB6.out | exact HPP.out _ HZ7.out.bel | exact HPP.out _ HB8.out | exact HPP.out _ HZ8.out.bel) (fun hHeld => ?_)
              clear hK K
              try simp only [Act.put, List.setIfInBounds_toArray, List.set_cons_zero, List.set_cons_succ]
              refine take_at (k := 22) (v := ?_) rfl (by kernel_rfl) (by kernel_rfl) (by kernel_rfl) (Or.inl ⟨by rfl, ?_⟩) (by assumption) (fun _ _ _ h => h) ?_
              rotate_left
              · (intro w hSw; (try dsimp only at hSw); go_simp) <;> with_reducible rfl
              try simp only [Act.put, List.setIfInBounds_toArray, List.set_cons_zero, List.set_cons_succ]
              refine wpAnyH_ready (rs := [23]) (by kernel_rfl) (by simp) ?_
              refine AllReadyH.cons (consL rfl) (fun K hK => ?_) ?_
              · skip
                go_simp
                refine hK.out _ _ (by first | exact HPP.out _ HZD.out.bel | exact HPP.out _ HB6.out | exact HPP.out _ HZ7.out.bel | exact HPP.out _ HB8.out | exact HPP.out _ HZ8.out.bel) (fun hHeld => ?_)
                clear hK K
                try simp only [Act.put, List.setIfInBounds_toArray, List.set_cons_zero, List.set_cons_succ]
                refine wpAnyH_ready (rs := [24]) (by kernel_rfl) (by simp) ?_
                refine AllReadyH.cons (consL rfl) (fun K hK => ?_) ?_
                · skip
                  refine step_append_own_at rfl (.tmp 46) (.tmp 68) 54 rfl (Gy + 1) 56 i0 (.agg #[.bool false, .slice none 0 0, .slice none 0 0]) 3 56 Try.underlying54 hi hz0 hz1 hz2 rfl (by decide) (.slice BB m cc) m us rfl HOW7.out ⟨w6.heap.size, 0, none⟩ 1 1 [.bool l3, .slice (some ⟨g6, 0, none⟩) n3 c6, .slice a4 n4 c4] rfl rfl item_new (by intro u hu; simp at hu; rcases hu with rfl | rfl | rfl <;> rfl) (by have := HIK.out; have := HMI.out; unfold maxLen; omega) (by have := HIK.out; have := HMI.out; omega) (by have := HB7.out; simp; omega) ?_
                  intro v' w7 hown hg _ hat
                  obtain ⟨A7, c7, rfl⟩ := own_form hown
                  have HB8 : Hid (Below (Gy + 1) X4 w7) := HZ7.out.bel.grown hg (by have := HB7.out; simp; omega) (fun k hk => by have := (World.ownsRow.lt HOW7.out k hk).1; omega)
                  obtain ⟨hn3, hch⟩ := HZ7.out.child HI1.out HS4.out HS6.out
                  obtain ⟨hcz, role8, hz8⟩ := HZ7.out.grow hch (by rw [← HMM.out]; exact hown) hg hat
                  obtain ⟨-, -, x9, -, -, y9⟩ := three_cells hcz
                  have HZ8 := Lib.hid hz8
                  clear hown hg hat hn3 hch hcz hz8
                  refine hK.out _ _ (by first | exact HPP.out _ HZD.out.bel | exact HPP.out _ HB6.out | exact HPP.out _ HZ7.out.bel | exact HPP.out _ HB8.out | exact HPP.out _ HZ8.out.bel) (fun hHeld => ?_)
                  clear hK K
                  try simp only [Act.put, List.setIfInBounds_toArray, List.set_cons_zero, List.set_cons_succ]
                  refine take_at (k := 25) (v := ?_) rfl (by kernel_rfl) (by kernel_rfl) (by kernel_rfl) (Or.inl ⟨by rfl, ?_⟩) (by assumption) (fun _ _ _ h => h) ?_
                  rotate_left
                  · (intro w hSw; (try dsimp only at hSw); go_simp) <;> with_reducible rfl
                  try simp only [Act.put, List.setIfInBounds_toArray, List.set_cons_zero, List.set_cons_succ]
                  refine wpAnyH_ready (rs := [26]) (by kernel_rfl) (by simp) ?_
                  refine AllReadyH.cons (consL rfl) (fun K hK => ?_) ?_
                  · skip
                    go_simp
                    refine hK.out _ _ (by first | exact HPP.out _ HZD.out.bel | exact HPP.out _ HB6.out | exact HPP.out _ HZ7.out.bel | exact HPP.out _ HB8.out | exact HPP.out _ HZ8.out.bel) (fun hHeld => ?_)
                    clear hK K
                    try simp only [Act.put, List.setIfInBounds_toArray, List.set_cons_zero, List.set_cons_succ]
                    refine wpAnyH_done (by kernel_rfl) ?_ _
                    clear C u6 u7 f2 HS6 HZ7 HOW7 HPP HZD HI1 hi hz0 hz1 hz2 x9 y9
                    go_simp
                    go_wp2_with fail
                    refine ⟨⟨i2 + 1, k2 + 1, role8, .slice A7 (m + 1) c7, us ++ [.bool l3, .slice (some ⟨g6, 0, none⟩) n3 c6, .slice a4 n4 c4], HIK.out.1, by simp, by have := HK2.out; show _ = _; omega, ?_⟩, by simp [intOf]; have := HIK.out; omega⟩
                    have h := HZ8.out
                    rw [List.take_add_one, HXI.out]
                    exact h
                  exact AllReadyH.nil
                exact AllReadyH.nil
              exact AllReadyH.nil
            exact AllReadyH.nil
          refine AllReadyH.cons (consL rfl) (fun K hK => ?_) ?_
          · skip
            refine step_callP rfl 10 (.tmp 53) (.tmp 59) rfl en_lend _ rfl C.out ?_
            rintro e w6 ⟨role6, g6, c6, j6, rfl, hs6, hk6, her6, hch6, hbb6⟩
            refine ⟨_, rfl, ?_⟩
            have hz6 := HZD.out.lent hk6 (ext_of HZD.out.keeps.old her6) hch6 hbb6
            have HB6 := Lib.hid hz6.bel
            have hal := (Below.refl w6.heap.size w6).alloc (Nat.le_refl _) (.cells #[.bool l3, .slice (some ⟨g6, 0, none⟩) n3 c6, .slice a4 n4 c4] 56)
            have hz7 := hz6.same hal
            obtain ⟨-, -, u6, -, -, -⟩ := three_cells hz6.cell
            obtain ⟨-, -, u7, -, -, -⟩ := three_cells hz7.cell
            have HS6 := Lib.hid (hs6.keep (P := fun _ => False) (ChgR.of _ role6 hal) id (Ext.refl _))
            have HZ7 := Lib.hid hz7
            have HOW7 : Hid ((w6.alloc (.cells #[.bool l3, .slice (some ⟨g6, 0, none⟩) n3 c6, .slice a4 n4 c4] 56)).ownsRow (Gy + 1) 56 3 (.slice BB m cc) m us) := by
              have := hz7.row.1
              rwa [← HMM.out] at this
            have HB7 : Hid (Gy + 1 ≤ w6.heap.size) := hz6.keeps.old.1
            clear hs6 hk6 her6 hch6 hbb6 hz6 hz7 hal
            refine hK.out _ _ (by first | exact HPP.out _ HZD.out.bel | exact HPP.out _ HB6.out | exact HPP.out _ HZ7.out.bel | exact HPP.out _ HB8.out | exact HPP.out _ HZ8.out.bel) (fun hHeld => ?_)
            clear hK K
            try simp only [Act.put, List.setIfInBounds_toArray, List.set_cons_zero, List.set_cons_succ]
            refine take_at (k := 22) (v := ?_) rfl (by kernel_rfl) (by kernel_rfl) (by kernel_rfl) (Or.inl ⟨by rfl, ?_⟩) (by assumption) (fun _ _ _ h => h) ?_
            rotate_left
            · (intro w hSw; (try dsimp only at hSw); go_simp) <;> with_reducible rfl
            try simp only [Act.put, List.setIfInBounds_toArray, List.set_cons_zero, List.set_cons_succ]
            refine wpAnyH_ready (rs := [1, 23]) (by kernel_rfl) (by simp) ?_
            refine AllReadyH.cons (consL rfl) (fun K hK => ?_) ?_
            · skip
              go_simp
              refine hK.out _ _ (by first | exact HPP.out _ HZD.out.bel | exact HPP.out _ HB6.out | exact HPP.out _ HZ7.out.bel | exact HPP.out _ HB8.out | exact HPP.out _ HZ8.out.bel) (fun hHeld => ?_)
              clear hK K
              try simp only [Act.put, List.setIfInBounds_toArray, List.set_cons_zero, List.set_cons_succ]
              refine wpAnyH_ready (rs := [23]) (by kernel_rfl) (by simp) ?_
              refine AllReadyH.cons (consL rfl) (fun K hK => ?_) ?_
              · skip
                go_simp
                refine hK.out _ _ (by first | exact HPP.out _ HZD.out.bel | exact HPP.out _ HB6.out | exact HPP.out _ HZ7.out.bel | exact HPP.out _ HB8.out | exact HPP.out _ HZ8.out.bel) (fun hHeld => ?_)
                clear hK K
                try simp only [Act.put, List.setIfInBounds_toArray, List.set_cons_zero, List.set_cons_succ]
                refine wpAnyH_ready (rs := [24]) (by kernel_rfl) (by simp) ?_
                refine AllReadyH.cons (consL rfl) (fun K hK => ?_) ?_
                · skip
                  refine step_append_own_at rfl (.tmp 46) (.tmp 68) 54 rfl (Gy + 1) 56 i0 (.agg #[.bool false, .slice none 0 0, .slice none 0 0]) 3 56 Try.underlying54 hi hz0 hz1 hz2 rfl (by decide) (.slice BB m cc) m us rfl HOW7.out ⟨w6.heap.size, 0, none⟩ 1 1 [.bool l3, .slice (some ⟨g6, 0, none⟩) n3 c6, .slice a4 n4 c4] rfl rfl item_new (by intro u hu; simp at hu; rcases hu with rfl | rfl | rfl <;> rfl) (by have := HIK.out; have := HMI.out; unfold maxLen; omega) (by have := HIK.out; have := HMI.out; omega) (by have := HB7.out; simp; omega) ?_
                  intro v' w7 hown hg _ hat
                  obtain ⟨A7, c7, rfl⟩ := own_form hown
                  have HB8 : Hid (Below (Gy + 1) X4 w7) := HZ7.out.bel.grown hg (by have := HB7.out; simp; omega) (fun k hk => by have := (World.ownsRow.lt HOW7.out k hk).1; omega)
                  obtain ⟨hn3, hch⟩ := HZ7.out.child HI1.out HS4.out HS6.out
                  obtain ⟨hcz, role8, hz8⟩ := HZ7.out.grow hch (by rw [← HMM.out]; exact hown) hg hat
                  obtain ⟨-, -, x9, -, -, y9⟩ := three_cells hcz
                  have HZ8 := Lib.hid hz8
                  clear hown hg hat hn3 hch hcz hz8
                  refine hK.out _ _ (by first | exact HPP.out _ HZD.out.bel | exact HPP.out _ HB6.out | exact HPP.out _ HZ7.out.bel | exact HPP.out _ HB8.out | exact HPP.out _ HZ8.out.bel) (fun hHeld => ?_)
                  clear hK K
                  try simp only [Act.put, List.setIfInBounds_toArray, List.set_cons_zero, List.set_cons_succ]
                  refine take_at (k := 25) (v := ?_) rfl (by kernel_rfl) (by kernel_rfl) (by kernel_rfl) (Or.inl ⟨by rfl, ?_⟩) (by assumption) (fun _ _ _ h => h) ?_
                  rotate_left
                  · (intro w hSw; (try dsimp only at hSw); go_simp) <;> with_reducible rfl
                  try simp only [Act.put, List.setIfInBounds_toArray, List.set_cons_zero, List.set_cons_succ]
                  refine wpAnyH_ready (rs := [26]) (by kernel_rfl) (by simp) ?_
                  refine AllReadyH.cons (consL rfl) (fun K hK => ?_) ?_
                  · skip
                    go_simp
                    refine hK.out _ _ (by first | exact HPP.out _ HZD.out.bel | exact HPP.out _ HB6.out | exact HPP.out _ HZ7.out.bel | exact HPP.out _ HB8.out | exact HPP.out _ HZ8.out.bel) (fun hHeld => ?_)
                    clear hK K
                    try simp only [Act.put, List.setIfInBounds_toArray, List.set_cons_zero, List.set_cons_succ]
                    refine wpAnyH_done (by kernel_rfl) ?_ _
                    clear C u6 u7 f2 HS6 HZ7 HOW7 HPP HZD HI1 hi hz0 hz1 hz2 x9 y9
                    go_simp
                    go_wp2_with fail
                    refine ⟨⟨i2 + 1, k2 + 1, role8, .slice A7 (m + 1) c7, us ++ [.bool l3, .slice (some ⟨g6, 0, none⟩) n3 c6, .slice a4 n4 c4], HIK.out.1, by simp, by have := HK2.out; show _ = _; omega, ?_⟩, by simp [intOf]; have := HIK.out; omega⟩
                    have h := HZ8.out
                    rw [List.take_add_one, HXI.out]
                    exact h
                  exact AllReadyH.nil
                exact AllReadyH.nil
              exact AllReadyH.nil
            refine AllReadyH.cons (consL rfl) (fun K hK => ?_) ?_
            · skip
              go_simp
              refine hK.out _ _ (by first | exact HPP.out _ HZD.out.bel | exact HPP.out _ HB6.out | exact HPP.out _ HZ7.out.bel | exact HPP.out _ HB8.out | exact HPP.out _ HZ8.out.bel) (fun hHeld => ?_)
              clear hK K
              try simp only [Act.put, List.setIfInBounds_toArray, List.set_cons_zero, List.set_cons_succ]
              refine wpAnyH_ready (rs := [1]) (by kernel_rfl) (by simp) ?_
              refine AllReadyH.cons (consL rfl) (fun K hK => ?_) ?_
              · skip
                go_simp
                refine hK.out _ _ (by first | exact HPP.out _ HZD.out.bel | exact HPP.out _ HB6.out | exact HPP.out _ HZ7.out.bel | exact HPP.out _ HB8.out | exact HPP.out _ HZ8.out.bel) (fun hHeld => ?_)
                clear hK K
                try simp only [Act.put, List.setIfInBounds_toArray, List.set_cons_zero, List.set_cons_succ]
                refine wpAnyH_ready (rs := [24]) (by kernel_rfl) (by simp) ?_
                refine AllReadyH.cons (consL rfl) (fun K hK => ?_) ?_
                · skip
                  refine step_append_own_at rfl (.tmp 46) (.tmp 68) 54 rfl (Gy + 1) 56 i0 (.agg #[.bool false, .slice none 0 0, .slice none 0 0]) 3 56 Try.underlying54 hi hz0 hz1 hz2 rfl (by decide) (.slice BB m cc) m us rfl HOW7.out ⟨w6.heap.size, 0, none⟩ 1 1 [.bool l3, .slice (some ⟨g6, 0, none⟩) n3 c6, .slice a4 n4 c4] rfl rfl item_new (by intro u hu; simp at hu; rcases hu with rfl | rfl | rfl <;> rfl) (by have := HIK.out; have := HMI.out; unfold maxLen; omega) (by have := HIK.out; have := HMI.out; omega) (by have := HB7.out; simp; omega) ?_
                  intro v' w7 hown hg _ hat
                  obtain ⟨A7, c7, rfl⟩ := own_form hown
                  have HB8 : Hid (Below (Gy + 1) X4 w7) := HZ7.out.bel.grown hg (by have := HB7.out; simp; omega) (fun k hk => by have := (World.ownsRow.lt HOW7.out k hk).1; omega)
                  obtain ⟨hn3, hch⟩ := HZ7.out.child HI1.out HS4.out HS6.out
                  obtain ⟨hcz, role8, hz8⟩ := HZ7.out.grow hch (by rw [← HMM.out]; exact hown) hg hat
                  obtain ⟨-, -, x9, -, -, y9⟩ := three_cells hcz
                  have HZ8 := Lib.hid hz8
                  clear hown hg hat hn3 hch hcz hz8
                  refine hK.out _ _ (by first | exact HPP.out _ HZD.out.bel | exact HPP.out _ HB6.out | exact HPP.out _ HZ7.out.bel | exact HPP.out _ HB8.out | exact HPP.out _ HZ8.out.bel) (fun hHeld => ?_)
                  clear hK K
                  try simp only [Act.put, List.setIfInBounds_toArray, List.set_cons_zero, List.set_cons_succ]
                  refine take_at (k := 25) (v := ?_) rfl (by kernel_rfl) (by kernel_rfl) (by kernel_rfl) (Or.inl ⟨by rfl, ?_⟩) (by assumption) (fun _ _ _ h => h) ?_
                  rotate_left
                  · (intro w hSw; (try dsimp only at hSw); go_simp) <;> with_reducible rfl
                  try simp only [Act.put, List.setIfInBounds_toArray, List.set_cons_zero, List.set_cons_succ]
                  refine wpAnyH_ready (rs := [26]) (by kernel_rfl) (by simp) ?_
                  refine AllReadyH.cons (consL rfl) (fun K hK => ?_) ?_
                  · skip
                    go_simp
                    refine hK.out _ _ (by first | exact HPP.out _ HZD.out.bel | exact HPP.out _ HB6.out | exact HPP.out _ HZ7.out.bel | exact HPP.out _ HB8.out | exact HPP.out _ HZ8.out.bel) (fun hHeld => ?_)
                    clear hK K
                    try simp only [Act.put, List.setIfInBounds_toArray, List.set_cons_zero, List.set_cons_succ]
                    refine wpAnyH_done (by kernel_rfl) ?_ _
                    clear C u6 u7 f2 HS6 HZ7 HOW7 HPP HZD HI1 hi hz0 hz1 hz2 x9 y9
                    go_simp
                    go_wp2_with fail
                    refine ⟨⟨i2 + 1, k2 + 1, role8, .slice A7 (m + 1) c7, us ++ [.bool l3, .slice (some ⟨g6, 0, none⟩) n3 c6, .slice a4 n4 c4], HIK.out.1, by simp, by have := HK2.out; show _ = _; omega, ?_⟩, by simp [intOf]; have := HIK.out; omega⟩
                    have h := HZ8.out
                    rw [List.take_add_one, HXI.out]
                    exact h
                  exact AllReadyH.nil
                exact AllReadyH.nil
              exact AllReadyH.nil
            exact AllReadyH.nil
          exact AllReadyH.nil
        · obtain rfl : i2 = k1 := by omega
          have hyk : ys.take i2 = ys := List.take_of_length_le (by have := HKY.out.1; omega)
          rw [hyk] at hz f2
          have hlt : ¬ ((i2 : Int) < (i2 : Int)) := by omega
          have HB := hz.out.bel
          have CE := Lib.hid (encode_o _ _ wr hz.out.item (by have := HYB.out.2.2.2.1; omega))
          have HZ1 := Lib.hid hz.out
          have HK1 := Lib.hid hk2.out
          clear hz hk2 hbb hcy q0 q1 hi2 hK8 HZ0 hik hyk HB
          go_upto_region 13 with (fail)
          clear q2
          go_wp2_with fail
          (with_reducible refine CE.out.mono ?_)
          rintro e w5 ⟨hb5, b5, cb5, zs5, rfl, ho5, hl5⟩
          have hz5 := HZ1.out.same hb5
          have CK := Lib.hid (hz5.keeps.keep ho5.1 (HZ1.out.keeps.frees ho5) (by have := HYB.out.2.2.2.1; omega))
          have HZ5 := Lib.hid hz5
          clear hb5 ho5 hl5 hz5 CE HZ1 f0 f1 f2 hlt
          go_wp2_with fail
          (with_reducible refine CK.out.mono ?_)
          rintro e w6 ⟨rfl, role6, hk6, hex6, her6, hch6, hbb6⟩
          have HZ6 := Lib.hid (HZ5.out.lent hk6 hex6 hch6 hbb6)
          clear hk6 hex6 her6 hch6 hbb6 CK HZ5
          have CT := Lib.hid (FT.out w6 (HRA.out.below (by rw [HS4.out]; exact HZ6.out.bel)))
          go_upto_region 15 with (fail)
          go_wp2_with fail
          (with_reducible refine CT.out.mono ?_)
          rintro e w7 ⟨v7, rfl, ho7, hb7⟩
          have hz7 := HZ6.out.same hb7
          obtain ⟨A7, c7, rfl⟩ := ho7.1.form
          have CL := Lib.hid (hz7.keeps.lend ho7.1.rd ho7.1.1 (by have := HPL.out.1; omega) (by have := HK1.out; have := HKJ.out; have := HYB.out.2.2.1; have := HKY.out.1; omega))
          have HZ7 := Lib.hid hz7
          clear ho7 hb7 hz7 CT HZ6
          go_wp2_with fail
          (with_reducible refine CL.out.mono ?_)
          rintro e w8 ⟨role8, g8, c8, j8, rfl, h8, hk8, her8, hch8, hbb8⟩
          have HZ8 := Lib.hid (HZ7.out.lent hk8 (ext_of HZ7.out.keeps.old her8) hch8 hbb8)
          have CD := Lib.hid (decode_o w8 h8.1.rd h8.1.1 (by have := HPL.out.1; omega))
          clear h8 hk8 her8 hch8 hbb8 CL HZ7
          go_wp2_with fail
          (with_reducible refine CD.out.mono ?_)
          rintro e w9 ⟨hb9, o9, vx9, hR9, rfl, hI9, l9, v9, B9, m9, cap9, bs9, us9, rfl, ha9, hd9, hl9, hrow9, hkids9, hm9⟩
          obtain ⟨Av, cv, rfl⟩ := ha9.form
          have HZ9 := Lib.hid (HZ8.out.same hb9)
          have HA9 := Lib.hid (OwnB.of ha9 hd9)
          have HL9 := Lib.hid hl9
          have HMX : Hid (m9 ≤ maxLen) := by
            rcases hrow9.2 with ⟨e, h0⟩ | ⟨_, cap', _, _, _, _, h1, h2, _⟩
            · show m9 ≤ _; omega
            · show m9 ≤ _; omega
          obtain ⟨roleA, kA, xA, dA, hwA⟩ := wat_new (l := l9) (v := .slice Av bs9.length cv) HZ8.out.keeps hb9 hrow9 hkids9
          have hbA := (Below.refl w9.heap.size w9).alloc (Nat.le_refl _) (.cells #[.bool l9, .slice Av bs9.length cv, .slice B9 m9 cap9] 56)
          have HZA := Lib.hid (HZ9.out.lent kA xA (ChgR.of _ _ hbA) (hbA.mono HZ9.out.keeps.old.1))
          have hfr : ∀ i, (Value.slice Av bs9.length cv).ownBlock = some i → Gy + 1 ≤ i ∧ roleA i = none := fun i hi => by
            have h1 := HA9.out.2 i hi
            have h2 := HA9.out.1.lt i hi
            have h0 := HZ8.out.keeps.old
            refine ⟨Nat.le_trans h0.1 h1, ?_⟩
            by_cases e : roleA i = role8 i
            · rw [e]; exact h0.none h1
            · rcases dA i e with h3 | ⟨h3, h4⟩
              · omega
              · rcases hm9 with h5 | h5
                · omega
                · rw [h5] at hi; cases hi
          have CK := Lib.hid (HZA.out.keeps.keep (HA9.out.1.below hbA) hfr (by have := HL9.out; omega))
          have HNE : Hid (∀ j, 0 ≤ j → j < m9 → ∀ k, (Value.slice Av bs9.length cv).ownBlock = some k → (us9.getD (3 * j + 1) undef).ownBlock ≠ some k) := fun j _ hj k hk => by
            rcases hm9 with h5 | h5
            · omega
            · rw [h5] at hk; cases hk
          have HWA := Lib.hid hwA
          clear hb9 hR9 hI9 ha9 hd9 hl9 hrow9 hkids9 hm9 CD HZ8 HZ9 HA9 HL9 kA xA dA hbA hfr hwA
          go_upto_region 16 with (fail)
          generalize w9.alloc (.cells #[.bool l9, .slice Av bs9.length cv, .slice B9 m9 cap9] 56) = WA at *
          generalize w9.heap.size = gw at *
          obtain ⟨u, hu⟩ : ∃ u : Nat → Value, u = fun j => us9.getD (3 * j + 1) undef := ⟨_, rfl⟩
          have HNE' : Hid (∀ j, 0 ≤ j → j < m9 → ∀ k, (Value.slice Av bs9.length cv).ownBlock = some k → (u j).ownBlock ≠ some k) := by rw [hu]; exact HNE.out
          rw [← hu] at HWA
          clear HNE hu
          obtain ⟨-, f1, -, -, -, -⟩ := three_cells HWA.out.cell
          go_wp2_with fail
          (with_reducible refine CK.out.mono ?_)
          rintro e w10 ⟨rfl, roleB, hkB, hexB, herB, hchB, hbbB⟩
          have HZB := Lib.hid (HZA.out.lent hkB hexB hchB hbbB)
          have HWB := Lib.hid (HWA.out.kept (Nat.le_refl 0) HNE'.out hexB herB hchB)
          clear hkB hexB herB hchB hbbB CK HZA HWA HNE' f1
          go_upto_region 18 with (fail)
          go_loopw [16] (fun i W => ∃ (i3 : Nat) (roleC : Role), i3 ≤ m9 ∧ i = .int .i64 (i3 : Int) ∧ Hid (ZAt (Gy + 1) X4 l1 n1 by_ g5 c5 gz roleC (k2 + 1) W (.slice BB ys.length cc) us ys) ∧ Hid (WAt (Gy + 1) gw roleC W l9 (.slice Av bs9.length cv) B9 m9 cap9 u i3))
            (fun i _ => m9 - (intOf i).toNat)
          case atStart => exact ⟨0, roleB, Nat.zero_le _, rfl, HZB.out, HWB.out⟩
          case round =>
            obtain ⟨i3, roleC, hi3, rfl, hz, hw⟩ := hrel
            obtain ⟨-, -, g2, -, -, -⟩ := three_cells hw.out.cell
            by_cases hik : i3 < m9
            · have hi3' : (i3 : Int) < (m9 : Int) := by omega
              obtain ⟨b, rfl, hrb, hbg, hbl, hcs⟩ := hw.out.row (by omega)
              obtain ⟨-, s1, -⟩ := hcs i3 hik
              obtain ⟨bs3, ha3, hl3, hf3, hd3⟩ := hw.out.kids i3 (Nat.le_refl _) hik
              obtain ⟨A3, c3', ev⟩ := ha3.form
              have CK := Lib.hid (hz.out.keeps.keep ha3 hf3 (by omega))
              rw [ev] at CK s1
              have ei3 : IntKind.i64.wrap ((i3 : Int) + 1) = (i3 : Int) + 1 := IntWalk.i64_in _ (by have := HMX.out; unfold maxLen at this; omega)
              have HIK : Hid (i3 < m9) := hik
              have HHB : Hid (Gy + 1 ≤ b) := (hz.out.keeps.old.2 b _ hrb).1
              have EV := Lib.hid ev
              clear ha3 hl3 hf3 hd3 hcs ev hik hrb hbg hbl hi3
              go_upto_region 20 with (fail)
              go_wp2_with fail
              (with_reducible refine CK.out.mono ?_)
              rintro e w11 ⟨rfl, roleD, hkD, hexD, herD, hchD, hbbD⟩
              rw [← EV.out] at herD
              have HZD := Lib.hid (hz.out.lent hkD hexD hchD hbbD)
              have hwD := hw.out.kept (i' := i3 + 1) (x := u i3) (by omega) (fun j h1 h2 k hk => by
                obtain ⟨_, _, _, _, q4⟩ := hw.out.kids j (by omega) h2
                exact q4 i3 (Nat.le_refl _) (by omega) k hk) hexD herD hchD
              obtain ⟨b2, e2, hrb, hbg, hbl, hcs⟩ := hwD.row (by have := HIK.out; omega)
              injection e2 with e2
              injection e2 with e2
              subst e2
              obtain ⟨⟨t0, s0⟩, -, s2⟩ := hcs i3 HIK.out
              obtain ⟨hwE, hcE⟩ := hwD.turn (j0 := i3) HIK.out rfl (.bool true)
              have HWE := Lib.hid hwE
              have HZE := Lib.hid (HZD.out.off hcE ((Below.refl (Gy + 1) w11).setCell (p := ⟨b, i3 * 3, none⟩) HHB.out _))
              obtain ⟨-, -, g3, -, -, -⟩ := three_cells hwD.cell
              clear hkD hexD herD hchD hbbD hwD hrb hbg hbl hcs hwE hcE hz hw s1 CK g2
              go_upto_region 21 with (fail)
              go_wp2_with fail
              exact ⟨⟨i3 + 1, roleD, by have := HIK.out; omega, by simp, HZE.out, HWE.out⟩, by simp [intOf]; have := HIK.out; omega⟩
            · have hi3' : ¬ ((i3 : Int) < (m9 : Int)) := by omega
              go_upto_region 22 with (fail)
              have HZ0 := Lib.hid hz.out
              clear hz hw g2 hi3 hi3' hik
              have CT := Lib.hid (FT.out wr (HRA.out.below (by rw [HS4.out]; exact HZ0.out.bel)))
              have HSP : Hid ((splitS p).2.1.length ≤ 300 ∧ (splitS p).2.2.1.length ≤ 300) := by
                have hp := HPL.out.1
                unfold splitS
                cases hf : fstS p with
                | none => exact ⟨Nat.zero_le _, Nat.zero_le _⟩
                | some q =>
                  obtain ⟨l, u, r⟩ := q
                  have h1 := fstS_len2 hf
                  have h2 := (fstS_len hf).1
                  exact ⟨by show u.length ≤ 300; omega, by show r.length ≤ 300; omega⟩
              go_wp2_with fail
              (with_reducible refine CT.out.mono ?_)
              rintro e y1 ⟨v7, rfl, ho7, hb7⟩
              have hz7 := HZ0.out.same hb7
              obtain ⟨A7, c7, rfl⟩ := ho7.1.form
              have CL := Lib.hid (hz7.keeps.lend ho7.1.rd ho7.1.1 (by have := HPL.out.1; omega) (by have := HK1.out; have := HKJ.out; have := HYB.out.2.2.1; have := HKY.out.1; omega))
              have HZ7 := Lib.hid hz7
              clear ho7 hb7 hz7 CT HZ0
              go_wp2_with fail
              (with_reducible refine CL.out.mono ?_)
              rintro e y2 ⟨role8, g8, c8, j8, rfl, h8, hk8, her8, hch8, hbb8⟩
              have HZ8 := Lib.hid (HZ7.out.lent hk8 (ext_of HZ7.out.keeps.old her8) hch8 hbb8)
              have CD := Lib.hid (split_o y2 h8.1.rd h8.1.1 (by have := HPL.out.1; omega))
              clear h8 hk8 her8 hch8 hbb8 CL HZ7
              go_wp2_with fail
              (with_reducible refine CD.out.mono ?_)
              rintro e y3 ⟨hb9, vu, vr, rfl, hu9, hr9, hd9⟩
              have HZ9 := Lib.hid (HZ8.out.same hb9)
              have HFU := Lib.hid (HZ8.out.keeps.frees hu9)
              have HFR := Lib.hid (HZ8.out.keeps.frees hr9)
              have HU := Lib.hid hu9.1
              have HR := Lib.hid hr9.1
              have HD9 := Lib.hid hd9
              clear hb9 hu9 hr9 hd9 CD HZ8
              have CK := Lib.hid (HZ9.out.keeps.keep HU.out HFU.out (by have := HSP.out.1; omega))
              go_wp2_with fail
              (with_reducible refine CK.out.mono ?_)
              rintro e y4 ⟨rfl, role9, hk, hex, her, hch, hbb⟩
              have HZ10 := Lib.hid (HZ9.out.lent hk hex hch hbb)
              obtain ⟨hr2, hf2⟩ := free_still2 HR.out HFR.out HD9.out her hch
              have CK2 := Lib.hid (HZ10.out.keeps.keep hr2 hf2 (by have := HSP.out.2; omega))
              clear hk hex her hch hbb hr2 hf2 CK HU HR HFU HFR HD9 HZ9
              go_wp2_with fail
              (with_reducible refine CK2.out.mono ?_)
              rintro e y5 ⟨rfl, role10, hk, hex, her, hch, hbb⟩
              have HZ11 := Lib.hid (HZ10.out.lent hk hex hch hbb)
              clear hk hex her hch hbb CK2 HZ10 HSP
              go_upto_region 25 with (fail)
              have HEN : Hid ((envS p).2.1.length ≤ 300) := by
                have hp := HPL.out.1
                show _ ≤ _
                unfold envS
                (repeat' split) <;> simp <;> omega
              have CT := Lib.hid (FT.out y5 (HRA.out.below (by rw [HS4.out]; exact HZ11.out.bel)))
              go_wp2_with fail
              (with_reducible refine CT.out.mono ?_)
              rintro e y6 ⟨v7, rfl, ho7, hb7⟩
              have hz7 := HZ11.out.same hb7
              obtain ⟨A8, c8', rfl⟩ := ho7.1.form
              have CL := Lib.hid (hz7.keeps.lend ho7.1.rd ho7.1.1 (by have := HPL.out.1; omega) (by have := HK1.out; have := HKJ.out; have := HYB.out.2.2.1; have := HKY.out.1; omega))
              have HZ7 := Lib.hid hz7
              clear ho7 hb7 hz7 CT HZ11
              go_wp2_with fail
              (with_reducible refine CL.out.mono ?_)
              rintro e y7 ⟨role11, g9, c9, j9, rfl, h8, hk8, her8, hch8, hbb8⟩
              have HZ8 := Lib.hid (HZ7.out.lent hk8 (ext_of HZ7.out.keeps.old her8) hch8 hbb8)
              have CD := Lib.hid (envelope_o y7 h8.1.rd h8.1.1 (by have := HPL.out.1; omega))
              clear h8 hk8 her8 hch8 hbb8 CL HZ7
              go_wp2_with fail
              (with_reducible refine CD.out.mono ?_)
              rintro e y8 ⟨ve, rfl, he9, hb9⟩
              have HZ9 := Lib.hid (HZ8.out.same hb9)
              have CK := Lib.hid (HZ9.out.keeps.keep he9.1 (HZ8.out.keeps.frees he9) (by have := HEN.out; omega))
              clear hb9 he9 CD HZ8
              go_wp2_with fail
              (with_reducible refine CK.out.mono ?_)
              rintro e y9 ⟨rfl, role12, hk, hex, her, hch, hbb⟩
              have HZ10 := Lib.hid (HZ9.out.lent hk hex hch hbb)
              clear hk hex her hch hbb CK HZ9 HEN
              go_upto_region 27 with (fail)
              have hbig : Big 166020696663385964553 := by unfold Big; decide
              obtain ⟨sv, hsv⟩ : ∃ s, s = shortv 166020696663385964553 := ⟨_, rfl⟩
              have CO : Hid (Calls Try.prog 31 #[.agg #[.int .u64 9, .int .u64 9, .int .u64 0, .int .u64 0]] y9 (OfO 166020696663385964553 y9)) := w99 ▸ of_o hbig y9
              have HSH : Hid ((shortv 166020696663385964553).length ≤ 300) := len99 hbig
              unfold OfO at CO
              rw [← hsv] at CO HSH
              clear hbig hsv
              go_wp2_with fail
              (with_reducible refine CO.out.mono ?_)
              rintro e y10 ⟨vo, rfl, ho9, hb9⟩
              obtain ⟨Ao, co, rfl⟩ := ho9.1.form
              have hfd : ∀ w : World, (Instr.field 56 (.agg #[.bool false, .slice Ao sv.length co, .slice none 0 0]) 1).run Try.prog w = .ok (.slice Ao sv.length co) w := fun _ => by kernel_rfl
              have HZ9 := Lib.hid (HZ10.out.same hb9)
              have CK := Lib.hid (HZ9.out.keeps.keep ho9.1 (HZ10.out.keeps.frees ho9) (by have := HSH.out; omega))
              clear hb9 ho9 CO HZ10 HSH
              go_wp2_with fail
              clear hfd
              (with_reducible refine CK.out.mono ?_)
              rintro e y11 ⟨rfl, role13, hk, hex, her, hch, hbb⟩
              have HZ11 := Lib.hid (HZ9.out.lent hk hex hch hbb)
              clear hk hex her hch hbb CK HZ9
              go_upto_region 28 with (fail)
              have hbx : Below X4.heap.size X4 y11 := by rw [HS4.out]; exact HZ11.out.bel
              have CS := Lib.hid (same_c _ _ _ y11 _ _ (by have := HYB.out.2.2.2.2; omega) HZ11.out.item (HIY.out.keep hbx))
              obtain ⟨f0, f1, f2, -, -, -⟩ := three_cells HZ11.out.cell
              obtain ⟨q0, q1, q2, -, -, -⟩ := three_cells ((HZ11.out.bel.block Gy (by omega)).trans HCY.out)
              have HKF : Hid (k2 + 1 + 1 + 1 ≤ 1000 * (j + 1)) := by
                have := HK1.out; have := HKJ.out; have := HYB.out.2.2.1; have := HKY.out.1
                show _ ≤ _
                omega
              clear hbx
              go_wp2_with fail
              (with_reducible refine CS.out.mono ?_)
              rintro e y12 ⟨rfl, hbs⟩
              have HKE := Lib.hid (HZ11.out.keeps.below hbs)
              have HBE := Lib.hid (HZ11.out.bel.trans (hbs.mono HZ11.out.keeps.old.1))
              clear hbs CS HZ11 f0 f1 f2 q0 q1 q2
              go_wp2_with fail
              exact ⟨⟨j + 1, k2 + 1 + 1 + 1, role13, by omega, by simp, HKF.out, HKE.out, HBE.out⟩, by simp [intOf]; omega⟩
    · have hj1 : ¬ ((j : Int) < 3) := by omega
      have C1 := Lib.hid (hk.out.back (by have := hkj.out; omega))
      have HBB := Lib.hid hb.out
      clear hk hb hj3 hkj hj HK0 HB6 HPC HRY HDY HYB HKY HNY HIY HCY HRA HPL FT
      go_wp2_with fail
      (with_reducible refine C1.out.mono ?_)
      rintro e w1 ⟨rfl, hb1, hc1⟩
      have C2 := Lib.hid hc1
      have HB1 := Lib.hid (HBB.out.trans hb1)
      clear hb1 hc1 C1 HBB
      go_wp2_with fail
      (with_reducible refine C2.out.mono ?_)
      rintro e w2 ⟨rfl, hb2⟩
      have HB2 := Lib.hid (HB1.out.trans hb2)
      clear hb2 C2 HB1
      go_wp2_with fail
      (with_reducible refine (rwakes_c _).mono ?_)
      rintro e w5 ⟨rfl, hb5⟩
      have HB5 := Lib.hid (HBW.out.trans ((HB2.out.trans (hb5.mono (by have := HB2.out.size; rw [HS4.out] at this; exact this))).mono (by have := HWG.out; omega)))
      clear hb5 HB2
      go_wp2_with fail
      go_ret
      exact ⟨rfl, HB5.out⟩
end Go.Proofs.Ytgjiealcjaojaaa
