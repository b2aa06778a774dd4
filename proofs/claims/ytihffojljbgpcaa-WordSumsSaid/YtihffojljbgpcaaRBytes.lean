/- The contracts of package quarryref02's Bytes and Fill. -/
import Derived.Test.YtihffojljbgpcaaOwn
import Derived.Test.YtihffojljbgpcaaDig2
namespace Go.Proofs.Ytihffojljbgpcaa
open Go.RowKit

set_option maxRecDepth 100000 in
set_option maxHeartbeats 3200000 in
theorem rbytes_c {A : Option Addr} {c a : Nat} {xs : List Nat} (w : World) (h : Rd .u32 w A c xs) (hx : Can 4294967296 xs a) (hl : xs.length ≤ 16777216) :
    Calls Try.prog 81 #[.slice A xs.length c] w (RetR (fun w' v => ∃ bs, Byt w' v bs ∧ Can 256 bs.reverse a ∧ bs.length ≤ 4 * xs.length) w) := by
  obtain ⟨i0, hi, hz0, hz1, hz2⟩ := info_parts info8
  have HX := Lib.hid hx
  clear hx
  go_enter Try.func81, Try.ntmps81
  go_wp2_with fail
  go_loopw [3, 4, 5] (fun v i _ wr => ∃ (k : Nat) (bs : List Nat), k ≤ 4 * xs.length ∧ i = .int .i64 ((k : Int) - 1) ∧ bs.length + k ≤ 4 * xs.length ∧ Hid (Can 256 bs.reverse (a / 256 ^ k)) ∧ Acc wr w.heap.size v bs ∧ Below w.heap.size w wr)
    (fun _ i _ _ => (intOf i + 1).toNat)
  case atStart =>
    refine ⟨4 * xs.length, [], Nat.le_refl _, by go_num, by simp, ?_, Acc.nil _ _, Below.refl _ _⟩
    show Can _ _ _
    have := HX.out.lt
    rw [show (4294967296 : Nat) = 256 ^ 4 by decide, ← Nat.pow_mul] at this
    rw [Nat.div_eq_of_lt this]
    exact Can.nil
  case round =>
    obtain ⟨k, bs, hk, rfl, hbl, hcan, hacc, hbel⟩ := hrel
    have R1 := Lib.hid (h.below hbel)
    clear h
    rcases Nat.eq_zero_or_pos k with rfl | hk0
    · go_wp2_with fail
      go_ret
      have hc := hcan.out
      simp only [Nat.pow_zero, Nat.div_one] at hc
      have hd : Ds 256 bs := by have := hc.1.reverse; rwa [List.reverse_reverse] at this
      exact ⟨_, rfl, ⟨bs, hacc.byt hd, hc, by omega⟩, hbel⟩
    · obtain ⟨p, rfl⟩ : ∃ p, k = p + 1 := ⟨k - 1, by omega⟩
      rw [show (((p + 1 : Nat) : Int) - 1) = (p : Int) by omega]
      obtain ⟨b1, o1, rfl, hb1, hc1⟩ := R1.out.at_ (by omega)
      have cx := hc1 (p / 4) (by omega)
      obtain ⟨x, ex⟩ : ∃ x, x = xs.getD (p / 4) 0 := ⟨_, rfl⟩
      obtain ⟨q, eq⟩ : ∃ q, q = x / 2 ^ (8 * (p % 4)) := ⟨_, rfl⟩
      obtain ⟨b, eb⟩ : ∃ b, b = q % 256 := ⟨_, rfl⟩
      rw [← ex] at cx
      have hbyte : b = a / 256 ^ p % 256 := by rw [eb, eq, ex, byte_of_digit HX.out.1, HX.out.2.1]
      have vq : (x : Int) / 2 ^ (8 * (p % 4)) = (q : Int) := by rw [eq]; simp
      have vb : IntKind.u8.wrap (q : Int) = (b : Int) := by rw [IntKind.wrap_u8']; omega
      have hb256 : b < 256 := by omega
      have hnext : (bs ≠ [] ∨ b ≠ 0) → Can 256 (bs ++ [b]).reverse (a / 256 ^ p) := fun hne => by
        rw [List.reverse_append, div_pow_succ, ← hbyte]
        exact can_cons hcan.out hb256 (by
          rcases hne with h | h
          · left; simpa using h
          · exact .inr h)
      have hskip : bs = [] → b = 0 → Can 256 bs.reverse (a / 256 ^ p) := fun h1 h2 => by
        have h3 := hcan.out
        rw [h1] at h3 ⊢
        rw [div_pow_succ, ← hbyte, h2, ← h3.2.1]
        simp only [List.reverse_nil, dv]
        exact Can.nil
      have HN := Lib.hid hnext
      have HSk := Lib.hid hskip
      have H256 := Lib.hid hb256
      obtain ⟨A', c', rfl⟩ := hacc.form
      clear hc1 ex eq eb hbyte hnext hskip hb256
      by_cases hbs : bs = []
      · subst hbs
        by_cases hb0 : b = 0
        · subst hb0
          go_wp2_with fail
          go_roundw
          case rel => exact ⟨p, [], by omega, rfl, by simp at *; omega, HSk.out rfl rfl, hacc, hbel⟩
          case measure => simp [intOf] <;> omega
        · have hb1 : ((b : Int) != 0) = true := by simp; omega
          have HB0 := Lib.hid hb0
          clear hb0
          go_wp2_with (at_builtin; refine wpList_append_own _ rfl (.tmp 31) (.tmp 33) 27 rfl w.heap.size 5 i0 (.int .u8 0) 1 1 Try.underlying27 hi hz0 hz1 hz2 rfl (by decide) _ _ _ rfl (World.ownsRow.alloc hacc _) ⟨wr.heap.size, 0, none⟩ 1 1 [.int .u8 (b : Int)] rfl rfl one_cells (by intro u hu; simp at hu; subst hu; rfl) (by unfold maxLen; omega) (by omega) (by have := hbel.size; simp; omega) ?_)
          intro v' w1 hown hg _
          have hacc' : Acc w1 w.heap.size v' ([] ++ [b]) := by unfold Acc; rw [bv_append, List.length_append]; exact hown
          have hbel' : Below w.heap.size w w1 := (hbel.alloc hbel.size _).grown hg (by have := hbel.size; simp; omega) (Acc.own hacc)
          have HA := Lib.hid hacc'
          have HBl := Lib.hid hbel'
          clear hown hg hacc' hbel' hacc hbel
          go_wp2_with fail
          go_roundw
          case rel => exact ⟨p, [] ++ [b], by omega, rfl, by simp at *; omega, HN.out (.inr HB0.out), HA.out, HBl.out⟩
          case measure => simp [intOf] <;> omega
      · have hpos : 0 < bs.length := List.length_pos_iff.2 hbs
        have HBS := Lib.hid hbs
        clear hbs
        go_wp2_with (at_builtin; refine wpList_append_own _ rfl (.tmp 31) (.tmp 33) 27 rfl w.heap.size 5 i0 (.int .u8 0) 1 1 Try.underlying27 hi hz0 hz1 hz2 rfl (by decide) _ _ _ rfl (World.ownsRow.alloc hacc _) ⟨wr.heap.size, 0, none⟩ 1 1 [.int .u8 (b : Int)] rfl rfl one_cells (by intro u hu; simp at hu; subst hu; rfl) (by unfold maxLen; omega) (by omega) (by have := hbel.size; simp; omega) ?_)
        intro v' w1 hown hg _
        have hacc' : Acc w1 w.heap.size v' (bs ++ [b]) := by unfold Acc; rw [bv_append, List.length_append]; exact hown
        have hbel' : Below w.heap.size w w1 := (hbel.alloc hbel.size _).grown hg (by have := hbel.size; simp; omega) hacc.own
        have HA := Lib.hid hacc'
        have HBl := Lib.hid hbel'
        clear hown hg hacc' hbel' hacc hbel
        go_wp2_with fail
        go_roundw
        case rel => exact ⟨p, bs ++ [b], by omega, rfl, by simp at *; omega, HN.out (.inl HBS.out), HA.out, HBl.out⟩
        case measure => simp [intOf] <;> omega
theorem rbytes_n {u : Value} {a L : Nat} (w : World) (h : Num w u a L) (hL : L ≤ 16777216) :
    Calls Try.prog 81 #[u] w (RetR (fun w' v => ∃ bs, Byt w' v bs ∧ Can 256 bs.reverse a ∧ bs.length ≤ 4 * L) w) := by
  obtain ⟨A, c, xs, rfl, h1, h2, h3⟩ := h
  exact (rbytes_c w h1 h2 (by omega)).mono fun e w' ⟨v, he, ⟨bs, hv, hc, hl⟩, hb⟩ => ⟨v, he, ⟨bs, hv, hc, by omega⟩, hb⟩
end Go.Proofs.Ytihffojljbgpcaa
