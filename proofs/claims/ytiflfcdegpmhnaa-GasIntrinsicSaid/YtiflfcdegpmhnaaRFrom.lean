/- The contracts of package quarryref02's Of and From. -/
import Derived.Test.YtiflfcdegpmhnaaRAdd
import Derived.Test.YtiflfcdegpmhnaaDig
import Derived.BigRegion
import Derived.Test.YtiflfcdegpmhnaaRTrim
namespace Go.Proofs.Ytiflfcdegpmhnaa
open Go.RowKit

set_option maxRecDepth 100000 in
set_option maxHeartbeats 3200000 in
theorem rof_c (n : Nat) (hn : n < 18446744073709551616) (w : World) : Calls Try.prog 38 #[.int .u64 n] w (RetR (fun w' v => Num w' v n 2) w) := by
  obtain ⟨lo, elo⟩ : ∃ lo, lo = n % 4294967296 := ⟨_, rfl⟩
  obtain ⟨hi, ehi⟩ : ∃ hi, hi = n / 4294967296 := ⟨_, rfl⟩
  have vlo : IntKind.u32.wrap (n : Int) = (lo : Int) := by rw [IntKind.wrap_u32']; omega
  have hhi : (n : Int) / 4294967296 = (hi : Int) := by omega
  have vhi : IntKind.u32.wrap (hi : Int) = (hi : Int) := IntWalk.u32_in _ (by omega)
  have hd : Ds 4294967296 [lo, hi] := Ds.mk (by omega) (Ds.mk (by omega) Ds.nil)
  have hv : dv 4294967296 [lo, hi] = n := by simp only [dv]; omega
  have HD := Lib.hid hd
  have HV := Lib.hid hv
  clear elo ehi hn hd hv
  go_enter Try.func38, Try.ntmps38
  go_wp2_with fail
  have hrow := Row.new (k := .u32) w 98 [lo, hi]
  refine (rtrim_n _ hrow.rd0 rfl HD.out (show 2 ≤ 67108864 by omega)).mono ?_
  rintro e w' ⟨v, rfl, hv, rfl⟩
  rw [HV.out] at hv
  have HV2 := Lib.hid hv
  clear hv hrow
  go_wp2_with fail
  go_ret
  exact ⟨v, rfl, HV2.out, (Below.refl _ _).alloc (Nat.le_refl _) _⟩

set_option maxRecDepth 100000 in
set_option maxHeartbeats 3200000 in
theorem rfrom_c {A : Option Addr} {c : Nat} {bs : List Nat} (w : World) (h : Rd .u8 w A c bs) (hb : Ds 256 bs) (hl : bs.length ≤ 16777216) :
    Calls Try.prog 63 #[.slice A bs.length c] w (RetR (fun w' v => Num w' v (dv 256 bs.reverse) ((bs.length + 3) / 4)) w) := by
  have hmk := mk32 (((bs.length : Int) + 3) / 4) ((bs.length + 3) / 4) (by omega) (by omega)
  have hk0 := Lib.hid (Row.made (k := .u32) w 98 ((bs.length + 3) / 4))
  have hb0 : Hid (Below w.heap.size w (w.alloc (.cells (madeCells #[Value.int .u32 0] ((bs.length + 3) / 4)) 98))) := (Below.refl _ _).alloc (Nat.le_refl _) _
  have HB := Lib.hid hb
  clear hb
  go_enter Try.func63, Try.ntmps63
  go_wp2_with fail
  clear hmk
  go_loopw [4, 5] (fun i _ wr => ∃ (k : Nat) (zs : List Nat), k ≤ bs.length ∧ i = .int .i64 k ∧ zs.length = (bs.length + 3) / 4 ∧ Ds 4294967296 zs ∧ FromInv bs.reverse k zs ∧ Row .u32 wr w.heap.size 98 zs ∧ Below w.heap.size w wr)
    (fun i _ _ => bs.length - (intOf i).toNat)
  case atStart =>
    exact ⟨0, List.replicate ((bs.length + 3) / 4) 0, by omega, rfl, List.length_replicate, Ds.zeros (by omega) _, by simp [FromInv, dv_zeros, dv], hk0.out, hb0.out⟩
  case round =>
    obtain ⟨k, zs, hk, rfl, hlen, hds, hinv, hrow, hbel⟩ := hrel
    have HL := Lib.hid hlen
    have R1 := Lib.hid (h.below hbel)
    clear hlen h hk0 hb0
    by_cases hlt : k < bs.length
    · obtain ⟨b1, o1, rfl, hb1, hc1⟩ := R1.out.at_ (by omega)
      have cx := hc1 (bs.length - 1 - k) (by omega)
      obtain ⟨x, ex⟩ : ∃ x, x = bs.getD (bs.length - 1 - k) 0 := ⟨_, rfl⟩
      obtain ⟨z, ez⟩ : ∃ z, z = zs.getD (k / 4) 0 := ⟨_, rfl⟩
      rw [← ex] at cx
      have cz := hrow.cell (k / 4) (by rw [HL.out]; omega)
      have fz := hrow.frozen (k / 4)
      rw [← ez] at cz
      have bx : x < 256 := by rw [ex]; exact HB.out.get (by omega) _
      have bz : z < 2 ^ (8 * (k % 4)) := by rw [ez]; exact from_carry hinv HB.out.reverse hds (by rw [List.length_reverse]; exact hk)
      obtain ⟨hl1, hl2, hl3⟩ := from_lo bx (Nat.mod_lt k (by omega : 0 < 4))
      have hl3 := hl3 z bz
      have hst := from_step hinv (by rw [List.length_reverse]; exact hlt) (by rw [HL.out]; omega)
      rw [rev_get bs k hlt, ← ex, ← ez] at hst
      obtain ⟨W, eW⟩ : ∃ W, W = x * 2 ^ (8 * (k % 4)) := ⟨_, rfl⟩
      rw [← eW] at hl1 hl2 hl3 hst
      obtain ⟨t, et⟩ : ∃ t, t = z + W := ⟨_, rfl⟩
      have vor := or_join bz hl1 hl3
      rw [← et] at vor hst
      have vx : IntKind.u32.wrap (x : Int) = (x : Int) := IntWalk.u32_in _ (by omega)
      have vW : IntKind.u32.wrap ((x : Int) * 2 ^ (8 * (k % 4))) = (W : Int) := by
        have e : (x : Int) * 2 ^ (8 * (k % 4)) = ((x * 2 ^ (8 * (k % 4)) : Nat) : Int) := by simp
        rw [e, ← eW]; exact IntWalk.u32_in _ (by omega)
      have vW' : (x : Int) * 2 ^ (8 * (k % 4)) % 4294967296 = (W : Int) := by rw [← vW, IntKind.wrap_u32']
      have ht : t < 4294967296 := by omega
      have HT := Lib.hid ht
      have HS := Lib.hid hst
      clear hc1 ex ez bx bz hl1 hl2 hl3 hst eW et ht
      go_wp2_with fail
      go_region
      all_goals
        go_wp2_with fail
        go_roundw
        case rel =>
          refine ⟨k + 1, zs.set (k / 4) t, by omega, by go_num, by rw [List.length_set]; exact HL.out, hds.set _ _ HT.out, HS.out, ?_, ?_⟩
          · first | exact (hrow.set _ _).drew | trace_state
          · exact (hbel.setCell (Nat.le_refl _) _).drew
        case measure => simp [intOf] <;> omega
    · obtain rfl : k = bs.length := by omega
      go_wp2_with fail
      have he := hinv
      unfold FromInv at he
      rw [List.take_of_length_le (by rw [List.length_reverse]; exact Nat.le_refl _)] at he
      have hrd := hrow.rd0
      rw [HL.out] at hrd
      refine (rtrim_n _ hrd HL.out hds (by omega)).mono ?_
      rintro e w' ⟨v, rfl, hv, rfl⟩
      rw [he] at hv
      have HV := Lib.hid hv
      clear hv he hrd
      go_wp2_with fail
      go_ret
      exact ⟨v, rfl, HV.out, hbel⟩
theorem rfrom_n {v : Value} {bs : List Nat} (w : World) (h : Byt w v bs) (hl : bs.length ≤ 16777216) :
    Calls Try.prog 63 #[v] w (RetR (fun w' v => Num w' v (dv 256 bs.reverse) ((bs.length + 3) / 4)) w) := by
  obtain ⟨A, c, rfl, h1, h2⟩ := h
  exact rfrom_c w h1 h2 hl
end Go.Proofs.Ytiflfcdegpmhnaa
/- The contracts of package quarryref02's Bytes and Fill. -/
namespace Go.Proofs.Ytiflfcdegpmhnaa
open Go.RowKit

set_option maxRecDepth 100000 in
set_option maxHeartbeats 3200000 in
theorem rbytes_c {A : Option Addr} {c a : Nat} {xs : List Nat} (w : World) (h : Rd .u32 w A c xs) (hx : Can 4294967296 xs a) (hl : xs.length ≤ 16777216) :
    Calls Try.prog 69 #[.slice A xs.length c] w (RetR (fun w' v => ∃ bs, Byt w' v bs ∧ Can 256 bs.reverse a ∧ bs.length ≤ 4 * xs.length) w) := by
  obtain ⟨i0, hi, hz0, hz1, hz2⟩ := info_parts info8
  have HX := Lib.hid hx
  clear hx
  go_enter Try.func69, Try.ntmps69
  go_wp2_with fail
  go_loopw [3, 4, 5] (fun v i _ wr => ∃ (k : Nat) (bs : List Nat), k ≤ 4 * xs.length ∧ i = .int .i64 ((k : Int) - 1) ∧ bs.length + k ≤ 4 * xs.length ∧ Hid (Can 256 bs.reverse (a / 256 ^ k)) ∧ Acc wr w.heap.size v bs ∧ Below w.heap.size w wr)
    (fun _ i _ _ => (intOf i + 1).toNat)
  case atStart =>
    refine ⟨4 * xs.length, [], Nat.le_refl _, by go_num, by simp, ?_, Acc.nil _ _, Below.refl _ _⟩
    show Can _ _ _
    have := HX.out.lt
    rw [show (4294967296 : Nat) = 256 ^ 4 by decide, ← Nat.pow_mul] at this
    rw [Nat.div_eq_of_lt this]
    exact Can.nil
  case round =>
    obtain ⟨k, bs, hk, rfl, hbl, hcan, hacc, hbel⟩ := hrel
    have R1 := Lib.hid (h.below hbel)
    clear h
    rcases Nat.eq_zero_or_pos k with rfl | hk0
    · go_wp2_with fail
      go_ret
      have hc := hcan.out
      simp only [Nat.pow_zero, Nat.div_one] at hc
      have hd : Ds 256 bs := by have := hc.1.reverse; rwa [List.reverse_reverse] at this
      exact ⟨_, rfl, ⟨bs, hacc.byt hd, hc, by omega⟩, hbel⟩
    · obtain ⟨p, rfl⟩ : ∃ p, k = p + 1 := ⟨k - 1, by omega⟩
      rw [show (((p + 1 : Nat) : Int) - 1) = (p : Int) by omega]
      obtain ⟨b1, o1, rfl, hb1, hc1⟩ := R1.out.at_ (by omega)
      have cx := hc1 (p / 4) (by omega)
      obtain ⟨x, ex⟩ : ∃ x, x = xs.getD (p / 4) 0 := ⟨_, rfl⟩
      obtain ⟨q, eq⟩ : ∃ q, q = x / 2 ^ (8 * (p % 4)) := ⟨_, rfl⟩
      obtain ⟨b, eb⟩ : ∃ b, b = q % 256 := ⟨_, rfl⟩
      rw [← ex] at cx
      have hbyte : b = a / 256 ^ p % 256 := by rw [eb, eq, ex, byte_of_digit HX.out.1, HX.out.2.1]
      have vq : (x : Int) / 2 ^ (8 * (p % 4)) = (q : Int) := by rw [eq]; simp
      have vb : IntKind.u8.wrap (q : Int) = (b : Int) := by rw [IntKind.wrap_u8']; omega
      have hb256 : b < 256 := by omega
      have hnext : (bs ≠ [] ∨ b ≠ 0) → Can 256 (bs ++ [b]).reverse (a / 256 ^ p) := fun hne => by
        rw [List.reverse_append, div_pow_succ, ← hbyte]
        exact can_cons hcan.out hb256 (by
          rcases hne with h | h
          · left; simpa using h
          · exact .inr h)
      have hskip : bs = [] → b = 0 → Can 256 bs.reverse (a / 256 ^ p) := fun h1 h2 => by
        have h3 := hcan.out
        rw [h1] at h3 ⊢
        rw [div_pow_succ, ← hbyte, h2, ← h3.2.1]
        simp only [List.reverse_nil, dv]
        exact Can.nil
      have HN := Lib.hid hnext
      have HSk := Lib.hid hskip
      have H256 := Lib.hid hb256
      obtain ⟨A', c', rfl⟩ := hacc.form
      clear hc1 ex eq eb hbyte hnext hskip hb256
      by_cases hbs : bs = []
      · subst hbs
        by_cases hb0 : b = 0
        · subst hb0
          go_wp2_with fail
          go_roundw
          case rel => exact ⟨p, [], by omega, rfl, by simp at *; omega, HSk.out rfl rfl, hacc, hbel⟩
          case measure => simp [intOf] <;> omega
        · have hb1 : ((b : Int) != 0) = true := by simp; omega
          have HB0 := Lib.hid hb0
          clear hb0
          go_wp2_with (at_builtin; refine wpList_append_own _ rfl (.tmp 31) (.tmp 33) 54 rfl w.heap.size 5 i0 (.int .u8 0) 1 1 Try.underlying54 hi hz0 hz1 hz2 rfl (by decide) _ _ _ rfl (World.ownsRow.alloc hacc _) ⟨wr.heap.size, 0, none⟩ 1 1 [.int .u8 (b : Int)] rfl rfl one_cells (by intro u hu; simp at hu; subst hu; rfl) (by unfold maxLen; omega) (by omega) (by have := hbel.size; simp; omega) ?_)
          intro v' w1 hown hg _
          have hacc' : Acc w1 w.heap.size v' ([] ++ [b]) := by unfold Acc; rw [bv_append, List.length_append]; exact hown
          have hbel' : Below w.heap.size w w1 := (hbel.alloc hbel.size _).grown hg (by have := hbel.size; simp; omega) (Acc.own hacc)
          have HA := Lib.hid hacc'
          have HBl := Lib.hid hbel'
          clear hown hg hacc' hbel' hacc hbel
          go_wp2_with fail
          go_roundw
          case rel => exact ⟨p, [] ++ [b], by omega, rfl, by simp at *; omega, HN.out (.inr HB0.out), HA.out, HBl.out⟩
          case measure => simp [intOf] <;> omega
      · have hpos : 0 < bs.length := List.length_pos_iff.2 hbs
        have HBS := Lib.hid hbs
        clear hbs
        go_wp2_with (at_builtin; refine wpList_append_own _ rfl (.tmp 31) (.tmp 33) 54 rfl w.heap.size 5 i0 (.int .u8 0) 1 1 Try.underlying54 hi hz0 hz1 hz2 rfl (by decide) _ _ _ rfl (World.ownsRow.alloc hacc _) ⟨wr.heap.size, 0, none⟩ 1 1 [.int .u8 (b : Int)] rfl rfl one_cells (by intro u hu; simp at hu; subst hu; rfl) (by unfold maxLen; omega) (by omega) (by have := hbel.size; simp; omega) ?_)
        intro v' w1 hown hg _
        have hacc' : Acc w1 w.heap.size v' (bs ++ [b]) := by unfold Acc; rw [bv_append, List.length_append]; exact hown
        have hbel' : Below w.heap.size w w1 := (hbel.alloc hbel.size _).grown hg (by have := hbel.size; simp; omega) hacc.own
        have HA := Lib.hid hacc'
        have HBl := Lib.hid hbel'
        clear hown hg hacc' hbel' hacc hbel
        go_wp2_with fail
        go_roundw
        case rel => exact ⟨p, bs ++ [b], by omega, rfl, by simp at *; omega, HN.out (.inl HBS.out), HA.out, HBl.out⟩
        case measure => simp [intOf] <;> omega
theorem rbytes_n {u : Value} {a L : Nat} (w : World) (h : Num w u a L) (hL : L ≤ 16777216) :
    Calls Try.prog 69 #[u] w (RetR (fun w' v => ∃ bs, Byt w' v bs ∧ Can 256 bs.reverse a ∧ bs.length ≤ 4 * L) w) := by
  obtain ⟨A, c, xs, rfl, h1, h2, h3⟩ := h
  exact (rbytes_c w h1 h2 (by omega)).mono fun e w' ⟨v, he, ⟨bs, hv, hc, hl⟩, hb⟩ => ⟨v, he, ⟨bs, hv, hc, by omega⟩, hb⟩
end Go.Proofs.Ytiflfcdegpmhnaa
/- The contract of package quarryref02's Fill. -/
namespace Go.Proofs.Ytiflfcdegpmhnaa
open Go.RowKit

end Go.Proofs.Ytiflfcdegpmhnaa
