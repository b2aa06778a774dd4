/- Heads and texts appended. -/
import Derived.Test.YtgjiealcjaojaaaRlMeasure
import Derived.Laws.AppendOwnNone
namespace Go.Proofs.Ytgjiealcjaojaaa
open Go.RowKit

/-- A number's last k bytes, the highest first. -/
def lastB (n k : Nat) : List Nat := (List.range k).map fun i => n / 256 ^ (k - 1 - i) % 256
theorem lastB_len (n k : Nat) : (lastB n k).length = k := by simp [lastB]
theorem lastB_take {n k m : Nat} (h : m < k) : (lastB n k).take (m + 1) = (lastB n k).take m ++ [n / 256 ^ (k - 1 - m) % 256] := by
  rw [List.take_succ_eq_append_getElem (by rw [lastB_len]; exact h)]
  simp [lastB]
/-- The head of a payload of n bytes. -/
def hdB (base n : Nat) : List Nat := if n ≤ 55 then [base + n] else (base + 55 + lsz n) :: lastB n (lsz n)
theorem hdB_len (base : Nat) {n : Nat} (h : n ≤ 1099511627776) : (hdB base n).length ≤ 7 := by
  have := lsz_le h
  unfold hdB
  split
  · simp
  · simp only [List.length_cons, lastB_len]; omega
/-- What a call leaves that appends to a slice of the caller's. -/
structure Gz (w w' : World) (v v' : Value) : Prop where
  os : w'.os = w.os
  tape : w'.tape = w.tape
  output : w'.output = w.output
  size : w.heap.size ≤ w'.heap.size
  block : ∀ k, k < w.heap.size → some k ≠ v.ownBlock → w'.heap[k]? = w.heap[k]?
  own : v'.ownBlock = v.ownBlock ∨ ∃ g, v'.ownBlock = some g ∧ w.heap.size ≤ g
theorem Gz.refl (w : World) (v : Value) : Gz w w v v := ⟨rfl, rfl, rfl, Nat.le_refl _, fun _ _ _ => rfl, .inl rfl⟩
theorem Gz.trans {w1 w2 w3 : World} {v1 v2 v3 : Value} (h : Gz w1 w2 v1 v2) (k : Gz w2 w3 v2 v3) : Gz w1 w3 v1 v3 := by
  refine ⟨k.os.trans h.os, k.tape.trans h.tape, k.output.trans h.output, Nat.le_trans h.size k.size, fun b hb hv => (k.block b (Nat.lt_of_lt_of_le hb h.size) ?_).trans (h.block b hb hv), ?_⟩
  · rcases h.own with e | ⟨g, e, hg⟩
    · rw [e]; exact hv
    · rw [e]; intro e2; injection e2 with e2; omega
  · rcases k.own with e | ⟨g, e, hg⟩
    · rcases h.own with e2 | ⟨g, e2, hg⟩
      · exact .inl (e.trans e2)
      · exact .inr ⟨g, e.trans e2, hg⟩
    · exact .inr ⟨g, e, Nat.le_trans h.size hg⟩
theorem Gz.of {w w' : World} {v : Value} (h : Below w.heap.size w w') : Gz w w' v v := ⟨h.os, h.tape, h.output, h.size, fun k hk _ => h.block k hk, .inl rfl⟩
theorem Gz.mz {w w' : World} {v v' : Value} (h : Gz w w' v v') (P : Nat) : Mz P w w' v v' := ⟨h.os, h.tape, h.output, h.size, fun k hk _ hv => h.block k hk hv, h.own⟩
theorem Gz.grow {w w' : World} {v v' : Value} (h : w.grownBy w' v.ownBlock) (hat : v'.ownBlock = v.ownBlock ∨ v'.ownBlock = some w.heap.size) : Gz w w' v v' :=
  ⟨h.os, h.tape, h.output, h.size, h.block, hat.imp id fun e => ⟨_, e, Nat.le_refl _⟩⟩

/-- What appending leaves: the bytes, owned. -/
def AppR (B0 : Nat) (v : Value) (out : List Nat) (w : World) (e : Ending) (w' : World) : Prop := ∃ v', e = .returned v' ∧ Acc w' B0 v' out ∧ Gz w w' v v'

theorem Acc.below {w w' : World} {base : Nat} {v : Value} {bs : List Nat} (h : Acc w base v bs) (hb : Below w.heap.size w w') : Acc w' base v bs := by
  refine ⟨h.1, ?_⟩
  rcases h.2 with h1 | ⟨g, cap, cur, e, hg, hh, r1, r2, r3, r4⟩
  · exact .inl h1
  · exact .inr ⟨g, cap, cur, e, hg, (hb.block g (Array.getElem?_eq_some_iff.1 hh).1).trans hh, r1, r2, r3, r4⟩
theorem info_u8 : ∃ i, Try.prog.info? 5 = some i ∧ i.zero = some (.int .u8 0) ∧ i.size = 1 ∧ i.bytes = 1 := info_parts info8

set_option maxRecDepth 100000 in
set_option maxHeartbeats 6400000 in
theorem writeHead_c (B0 base n : Nat) (w : World) (v : Value) (out : List Nat) (h : Acc w B0 v out) (hB : B0 ≤ w.heap.size) (hb : base ≤ 192) (hn : n ≤ 1099511627776) (ho : out.length ≤ 4398046511104) :
    Calls Try.prog 84 #[v, .int .u8 base, .int .i64 n] w (AppR B0 v (out ++ hdB base n) w) := by
  obtain ⟨A, c, rfl⟩ := h.form
  obtain ⟨i0, hi, hz0, hz1, hz2⟩ := info_u8
  have HA := Lib.hid h
  obtain ⟨L, hL⟩ : ∃ L, L = out.length := ⟨_, rfl⟩
  have HL := Lib.hid hL
  rw [← hL] at ho ⊢
  have HO : Hid (L ≤ 4398046511104) := ho
  have HBB : Hid (B0 ≤ w.heap.size) := hB
  clear h hL ho hB
  by_cases h55 : n ≤ 55
  · have h' : (n : Int) ≤ 55 := by omega
    have e1 : IntKind.u8.wrap (n : Int) = (n : Int) := IntWalk.u8_in _ (by omega)
    have e2 : IntKind.u8.wrap ((base : Int) + (n : Int)) = (base : Int) + (n : Int) := IntWalk.u8_in _ (by omega)
    have HH : Hid (hdB base n = [base + n]) := if_pos h55
    have HOW : Hid ((w.alloc (.cells #[.int .u8 ((base : Int) + (n : Int))] 5)).ownsRow B0 5 1 (.slice A L c) L (bv out)) := by
      have := World.ownsRow.alloc HA.out (.cells #[.int .u8 ((base : Int) + (n : Int))] 5)
      rw [← HL.out] at this
      exact this
    clear h55 hn hb
    go_enter Try.func84, Try.ntmps84
    go_wp2_with (at_builtin; refine wpList_append_own_at _ rfl (.tmp 11) (.tmp 16) 22 rfl B0 5 i0 (.int .u8 0) 1 1 Try.underlying22 hi hz0 hz1 hz2 rfl (by decide) (.slice A L c) L _ rfl HOW.out ⟨w.heap.size, 0, none⟩ 1 1 [.int .u8 ((base : Int) + (n : Int))] rfl rfl one_new (by intro u hu; simp at hu; subst hu; rfl) (by have := HO.out; unfold maxLen; omega) (by have := HO.out; omega) (by have := HBB.out; simp; omega) ?_)
    intro v' w3 hown hg _ hat
    have hgz := (Gz.of (v := .slice A L c) ((Below.refl w.heap.size w).alloc (Nat.le_refl _) (.cells #[.int .u8 ((base : Int) + (n : Int))] 5))).trans (Gz.grow hg (by simpa using hat))
    have HQ : Hid (AppR B0 (.slice A L c) (out ++ hdB base n) w (.returned v') w3) := by
      refine ⟨v', rfl, ?_, hgz⟩
      rw [HH.out]
      unfold Acc
      have h := hown
      rw [HL.out] at h
      simpa [bv] using h
    clear hown hg hat hgz HOW
    go_wp2_with fail
    go_ret
    exact HQ.out
  · have h' : ¬ (n : Int) ≤ 55 := by omega
    have C := Lib.hid (lengthSize_c n hn w)
    have hk6 := lsz_le hn
    have HH : Hid (hdB base n = (base + 55 + lsz n) :: lastB n (lsz n)) := if_neg h55
    have hk1 : 1 ≤ lsz n := by
      have := (bitLen_is n (by unfold Lim; omega)).2.2 (by omega)
      unfold lsz; omega
    obtain ⟨k, hk⟩ : ∃ k, k = lsz n := ⟨_, rfl⟩
    rw [← hk] at C HH hk6 hk1
    have e0 : IntKind.u8.wrap ((base : Int) + 55) = (base : Int) + 55 := IntWalk.u8_in _ (by omega)
    have e1 : IntKind.u8.wrap (k : Int) = (k : Int) := IntWalk.u8_in _ (by omega)
    have e2 : IntKind.u8.wrap ((base : Int) + 55 + (k : Int)) = (base : Int) + 55 + (k : Int) := IntWalk.u8_in _ (by omega)
    have e3 : IntKind.i64.wrap ((k : Int) - 1) = (k : Int) - 1 := IntWalk.i64_in _ (by omega)
    have HOW : Hid ((w.alloc (.cells #[.int .u8 ((base : Int) + 55 + (k : Int))] 5)).ownsRow B0 5 1 (.slice A L c) L (bv out)) := by
      have := World.ownsRow.alloc HA.out (.cells #[.int .u8 ((base : Int) + 55 + (k : Int))] 5)
      rw [← HL.out] at this
      exact this
    have HN : Hid (n ≤ 1099511627776) := hn
    have HK : Hid (1 ≤ k ∧ k ≤ 6) := ⟨hk1, hk6⟩
    clear h55 hk hn hb hk1 hk6
    go_enter Try.func84, Try.ntmps84
    go_wp2_with fail
    (with_reducible refine C.out.mono ?_)
    rintro e w' ⟨rfl, rfl⟩
    clear C
    go_upto_region 5 with (at_builtin; refine wpList_append_own_at _ rfl (.tmp 20) (.tmp 26) 22 rfl B0 5 i0 (.int .u8 0) 1 1 Try.underlying22 hi hz0 hz1 hz2 rfl (by decide) (.slice A L c) L _ rfl HOW.out ⟨w'.heap.size, 0, none⟩ 1 1 [.int .u8 ((base : Int) + 55 + (k : Int))] rfl rfl one_new (by intro u hu; simp at hu; subst hu; rfl) (by have := HO.out; unfold maxLen; omega) (by have := HO.out; omega) (by have := HBB.out; simp; omega) ?_)
    intro v' w3 hown hg _ hat
    have hgz := (Gz.of (v := .slice A L c) ((Below.refl w'.heap.size w').alloc (Nat.le_refl _) (.cells #[.int .u8 ((base : Int) + 55 + (k : Int))] 5))).trans (Gz.grow hg (by simpa using hat))
    have hacc : Acc w3 B0 v' (out ++ [base + 55 + k]) := by
      unfold Acc
      have h := hown
      rw [HL.out] at h
      simpa [bv] using h
    have HAC := Lib.hid hacc
    have HGZ := Lib.hid hgz
    clear hown hg hat hgz HOW hacc
    go_upto_region 6 with (fail)
    go_loopw [0, 8] (fun b i wr => ∃ m : Nat, m ≤ k ∧ i = .int .i64 ((k : Int) - 1 - (m : Int)) ∧ Hid (Acc wr B0 b (out ++ [base + 55 + k] ++ (lastB n k).take m)) ∧ Hid (Gz w' wr (.slice A L c) b))
      (fun _ i _ => (intOf i + 1).toNat)
    case atStart => exact ⟨0, by omega, by simp, by show Acc _ _ _ _; simpa using HAC.out, HGZ.out⟩
    case round =>
      obtain ⟨m, hm, rfl, hacc, hgz⟩ := hrel
      obtain ⟨A2, c2, rfl⟩ := hacc.out.form
      by_cases hmk : m < k
      · obtain ⟨p, hp⟩ : ∃ p, p = k - 1 - m := ⟨_, rfl⟩
        rw [show (k : Int) - 1 - (m : Int) = (p : Int) by omega]
        obtain ⟨s8, hs8⟩ : ∃ s8, s8 = 8 * p := ⟨_, rfl⟩
        have f1 : (8 : Int) * (p : Int) = (s8 : Int) := by omega
        have f2 : IntKind.i64.wrap (s8 : Int) = (s8 : Int) := IntWalk.i64_in _ (by have := HK.out; omega)
        have f3 : (0 : Int) ≤ (p : Int) := by omega
        have f4 : (0 : Int) ≤ (s8 : Int) := by omega
        have f5 : s8 ≤ 40 := by have := HK.out; omega
        have hq : ∃ q, q = n / 256 ^ p % 256 := ⟨_, rfl⟩
        obtain ⟨q, hq⟩ := hq
        have f6 : IntKind.u8.wrap ((n : Int) / 2 ^ s8) = (q : Int) := by
          rw [show (n : Int) / 2 ^ s8 = ((n / 2 ^ s8 : Nat) : Int) by simp, IntKind.wrap_u8', hq, hs8, show (256 : Nat) = 2 ^ 8 by decide, ← Nat.pow_mul]
          omega
        have HNX := Lib.hid (lastB_take (n := n) hmk)
        have HMK : Hid (m < k) := hmk
        have HP := Lib.hid hp
        have HS8 := Lib.hid hs8
        have HQ := Lib.hid hq
        obtain ⟨L2, hL2⟩ : ∃ L2, L2 = (out ++ [base + 55 + k] ++ (lastB n k).take m).length := ⟨_, rfl⟩
        have HOW : Hid ((wr.alloc (.cells #[.int .u8 (q : Int)] 5)).ownsRow B0 5 1 (.slice A2 L2 c2) L2 (bv (out ++ [base + 55 + k] ++ (lastB n k).take m))) := by
          have := World.ownsRow.alloc hacc.out (.cells #[.int .u8 (q : Int)] 5)
          rw [← hL2] at this
          exact this
        have HL2 : Hid (L2 ≤ 4398046511112) := by
          show _ ≤ _
          rw [hL2]; simp only [List.length_append, List.length_singleton, List.length_take, lastB_len]; have := HO.out; have := HL.out; have := HK.out; omega
        have HL2E := Lib.hid hL2
        have f7 : IntKind.i64.wrap ((p : Int) - 1) = (p : Int) - 1 := IntWalk.i64_in _ (by have := HK.out; omega)
        rw [← hL2]
        rw [← hL2] at hgz hacc
        have HGR := Lib.hid hgz.out
        clear hmk hp hs8 hq hL2
        go_wp2_with (at_builtin; refine wpList_append_own_at _ rfl (.tmp 34) (.tmp 40) 22 rfl B0 5 i0 (.int .u8 0) 1 1 Try.underlying22 hi hz0 hz1 hz2 rfl (by decide) (.slice A2 L2 c2) L2 _ rfl HOW.out ⟨wr.heap.size, 0, none⟩ 1 1 [.int .u8 (q : Int)] rfl rfl one_new (by intro u hu; simp at hu; subst hu; rfl) (by have := HL2.out; unfold maxLen; omega) (by have := HL2.out; omega) (by have := HBB.out; have := hgz.out.size; simp; omega) ?_)
        intro v4 w4 hown hg _ hat
        have hgz2 := hgz.out.trans ((Gz.of (v := .slice A2 L2 c2) ((Below.refl wr.heap.size wr).alloc (Nat.le_refl _) (.cells #[.int .u8 (q : Int)] 5))).trans (Gz.grow hg (by simpa using hat)))
        have hacc2 : Acc w4 B0 v4 (out ++ [base + 55 + k] ++ (lastB n k).take (m + 1)) := by
          unfold Acc
          rw [HNX.out, ← HP.out, ← HQ.out, ← List.append_assoc]
          have h := hown
          rw [HL2E.out] at h
          simpa [bv, Nat.add_assoc] using h
        have N1 := Lib.hid hgz2
        have N2 := Lib.hid hacc2
        clear hown hg hat hgz2 hacc2 HOW hacc hgz HGR
        go_wp2_with fail
        exact ⟨⟨m + 1, HMK.out, by have := HP.out; have := HMK.out; simp; omega, N2.out, N1.out⟩, by simp [intOf]⟩
      · have hmk' : m = k := by omega
        subst hmk'
        have g0 : ¬ (0 : Int) ≤ (m : Int) - 1 - (m : Int) := by omega
        have g1 : (m : Int) - 1 - (m : Int) < 0 := by omega
        have HQ : Hid (∀ L3, L3 = (out ++ [base + 55 + m] ++ (lastB n m).take m).length → AppR B0 (.slice A L c) (out ++ hdB base n) w' (.returned (.slice A2 L3 c2)) wr) := by
          intro L3 hL3
          refine ⟨_, rfl, ?_, by rw [hL3]; exact hgz.out⟩
          have h := hacc.out
          rw [hL3, HH.out]
          rw [List.take_of_length_le (by rw [lastB_len]; omega)] at h ⊢
          simpa using h
        obtain ⟨L3, hL3⟩ : ∃ L3, L3 = (out ++ [base + 55 + m] ++ (lastB n m).take m).length := ⟨_, rfl⟩
        have HQ2 := Lib.hid (HQ.out L3 hL3)
        rw [← hL3]
        clear hacc hgz hL3 HQ
        go_wp2_with fail
        go_ret
        exact HQ2.out

theorem run_append_tx {P : Program} (t tx ty e e' : TypeId) (args : Array Value) (w : World) (ht : P.underlying t = some (.slice e)) (htx : P.underlying tx = some (.slice e')) :
    (Builtin.append_ #[t, tx] ty args).run P w = (Builtin.append_ #[t, t] ty args).run P w := by
  unfold Builtin.append_
  rcases h0 : args[0]? with _ | s
  · simp
  · rcases h1 : args[1]? with _ | x
    · simp
    · cases s <;> simp [run_underlying ht, run_underlying htx]
/-- append of a slice of another named type to a slice that the call owns. -/
theorem wpList_append_tx {P : Program} (w : World) {ops : Array Oper} {rest : List Oper} {o : Oper} {a : Act} {Q : Exit → Act → World → Prop} (hgd : o.guard = none) (s x : Operand) (t tx e' : TypeId)
    (ho : o.op = .call { callee := .builtin .append, args := #[s, x], argTypes := #[t, tx] }) (htx : P.underlying tx = some (.slice e'))
    (base : Nat) (e : TypeId) (i : TypeInfo) (z : Value) (size bytes : Nat) (ht : P.underlying t = some (.slice e)) (hi : P.info? e = some i) (hz : i.zero = some z)
    (hsize : i.size = size) (hby : i.bytes = bytes) (hzs : z.cells.size = size) (hsz : 0 < size)
    (v : Value) (n : Nat) (xs : List Value) (hs : a.eval s = v) (hown : w.ownsRow base e size v n xs)
    (ad : Addr) (m c : Nat) (news : List Value) (hx : a.eval x = .slice (some ad) m c) (hl : news.length = m * size) (hnews : ∀ j u, news[j]? = some u → w.cell? (ad.add j) = some u) (h1 : ∀ u ∈ news, u.oneCell' = true)
    (h63 : n + m ≤ maxLen) (hbytes : (n + m) * bytes ≤ 140737488355328) (hbase : base ≤ w.heap.size)
    (h : ∀ v' w', w'.ownsRow base e size v' (n + m) (xs ++ news) → w.grownBy w' v.ownBlock → (v'.ownBlock = v.ownBlock ∨ v'.ownBlock = some w.heap.size) → wpList P ops Q rest (a.put o.dst v') w') :
    wpList P ops Q (o :: rest) a w := by
  refine wpList_plain hgd fun K hK => ?_
  obtain ⟨v', w', hr, h2, h3, h4, h5⟩ := run_append_own_at (P := P) w base t o.type e i z size bytes ht hi hz hsize hby hzs hsz v n xs hown ad m c news hl hnews h1 h63 hbytes hbase
  unfold Oper.wp execOp
  simp only [ho, resolve, invoke, builtin, Sem.run_bind, Sem.run_pure, Result.andThen_ok, List.map_toArray, List.map_cons, List.map_nil, hs, hx, run_append_tx t tx _ e e' _ _ ht htx, hr]
  exact hK _ _ (h v' w' h2 h3 h5)
theorem wpList_append_tx_none {P : Program} {w : World} {ops : Array Oper} {rest : List Oper} {o : Oper} {a : Act} {Q : Exit → Act → World → Prop} (hgd : o.guard = none) (s x : Operand) (t tx e' : TypeId)
    (ho : o.op = .call { callee := .builtin .append, args := #[s, x], argTypes := #[t, tx] }) (htx : P.underlying tx = some (.slice e'))
    (base : Nat) (e : TypeId) (i : TypeInfo) (size : Nat) (ht : P.underlying t = some (.slice e)) (hi : P.info? e = some i)
    (v : Value) (n : Nat) (xs : List Value) (hs : a.eval s = v) (hown : w.ownsRow base e size v n xs) (hx : a.eval x = .slice none 0 0)
    (h : wpList P ops Q rest (a.put o.dst v) w) : wpList P ops Q (o :: rest) a w := by
  refine wpList_plain hgd fun K hK => ?_
  have hrun := run_append_owned_none (P := P) (w := w) base t o.type e i size ht hi v n xs hown
  unfold Oper.wp
  simp [execOp, ho, resolve, invoke, builtin, hs, hx, run_append_tx t tx _ e e' _ _ ht htx, hrun, Result.andThen]
  exact hK _ _ h

/-- The form of a text. -/
def formT (bs : List Nat) : List Nat := if bareB bs = true then bs else hdB 128 bs.length ++ bs

set_option maxRecDepth 100000 in
set_option maxHeartbeats 6400000 in
theorem writeText_c (B0 N0 : Nat) (w : World) (v : Value) (out : List Nat) (A : Option Addr) (c : Nat) (bs : List Nat) (h : Acc w B0 v out) (hB : B0 ≤ w.heap.size) (hA : Rd .u8 w A c bs) (hN : N0 ≤ B0) (hAb : 0 < bs.length → ∃ b o, A = some ⟨b, o, none⟩ ∧ b < N0) (hb : bs.length ≤ 1099511627776) (ho : out.length ≤ 2199023255552) :
    Calls Try.prog 83 #[v, .slice A bs.length c] w (AppR B0 v (out ++ formT bs) w) := by
  obtain ⟨i0, hi, hz0, hz1, hz2⟩ := info_u8
  have hown0 : ∀ k, v.ownBlock = some k → B0 ≤ k := fun k hk => h.own k hk
  -- the text, in a world that a head has been appended in
  have hkeep : ∀ (w' : World) (v' : Value), Gz w w' v v' → Rd .u8 w' A c bs := fun w' v' hg => by
    refine ⟨hA.le, hA.cap, fun h0 => ?_⟩
    obtain ⟨b, o, e, hbl, hc⟩ := hA.at_ h0
    obtain ⟨b2, o2, e2, hb2⟩ := hAb h0
    rw [e] at e2
    injection e2 with e2; injection e2 with e3 e4; subst e3
    exact ⟨b, o, e, Nat.lt_of_lt_of_le hbl hg.size, fun j hj => (World.cell?_of_block (w := w) (hg.block b hbl fun e5 => by have := hown0 b e5.symm; omega)).trans (hc j hj)⟩
  have HKEEP := Lib.hid hkeep
  have CB := Lib.hid (bare_c w hA)
  have ch : Calls Try.prog 84 #[v, .int .u8 128, .int .i64 bs.length] w (AppR B0 v (out ++ hdB 128 bs.length) w) := writeHead_c B0 128 bs.length w v out h hB (by omega) hb (by omega)
  have CH := Lib.hid ch
  have HA := Lib.hid h
  have HB : Hid (B0 ≤ w.heap.size) := hB
  have HLB : Hid (bs.length ≤ 1099511627776 ∧ out.length ≤ 2199023255552) := ⟨hb, ho⟩
  obtain ⟨L, hL⟩ : ∃ L, L = bs.length := ⟨_, rfl⟩
  have HL := Lib.hid hL
  rw [← hL] at CB CH ⊢
  have HF : Hid (formT bs = if bareB bs = true then bs else hdB 128 bs.length ++ bs) := by show _ = _; rfl
  -- the last append, to what stands then
  have hfin : ∀ (w' : World) (v' : Value) (out' : List Nat), Acc w' B0 v' out' → Gz w w' v v' → Hid (out'.length ≤ 2199023255560) → True := fun _ _ _ _ _ _ => trivial
  clear ch hfin hA hAb hkeep h hB hb ho hL hown0 hN
  rcases hbr : bareB bs with _ | _
  · have HF2 : Hid (formT bs = hdB 128 L ++ bs) := HF.out.trans ((if_neg (by rw [hbr]; simp)).trans (by rw [← HL.out]))
    rw [hbr] at CB
    obtain ⟨A0, c0, rfl⟩ := HA.out.form
    clear hbr HF
    go_enter Try.func83, Try.ntmps83
    go_wp2_with fail
    (with_reducible refine CB.out.mono ?_)
    rintro e w1 ⟨rfl, rfl⟩
    clear CB
    go_wp2_with fail
    (with_reducible refine CH.out.mono ?_)
    rintro e w2 ⟨v2, rfl, hacc, hgz⟩
    have HR := Lib.hid (HKEEP.out w2 v2 hgz)
    obtain ⟨A2, c2, rfl⟩ := hacc.form
    have HAC := Lib.hid hacc
    have HGZ := Lib.hid hgz
    obtain ⟨L2, hL2⟩ : ∃ L2, L2 = (out ++ hdB 128 L).length := ⟨_, rfl⟩
    have HL2 := Lib.hid hL2
    rw [← hL2] at hgz hacc ⊢
    clear CH hacc hL2
    have HOW : Hid (w2.ownsRow B0 5 1 (.slice A2 L2 c2) L2 (bv (out ++ hdB 128 L))) := by
      have := HAC.out; unfold Acc at this; rw [← HL2.out] at this; exact this
    rw [← HL2.out] at HGZ HAC
    clear hgz
    rcases A with _ | ad
    · have hb0 : bs = [] := List.eq_nil_of_length_eq_zero (by have := HR.out.le; have := HR.out.cap rfl; omega)
      have hc0 : c = 0 := HR.out.cap rfl
      have hL0 : L = 0 := by rw [HL.out, hb0]; rfl
      subst hL0 hc0
      have HQ : Hid (AppR B0 (.slice A0 out.length c0) (out ++ formT bs) w1 (.returned (.slice A2 L2 c2)) w2) := by
        refine ⟨_, rfl, ?_, HGZ.out⟩
        rw [HF2.out, hb0]
        have h := HAC.out
        simpa using h
      clear hb0 HGZ
      go_wp2_with (at_builtin; refine wpList_append_tx_none rfl (.tmp 12) (.tmp 13) 22 112 5 rfl Try.underlying112 B0 5 i0 1 Try.underlying22 hi (.slice A2 L2 c2) L2 _ rfl HOW.out rfl ?_)
      go_ret
      exact HQ.out
    · have HNW := Lib.hid HR.out.news
      have HLL : Hid (L2 + L ≤ 4398046511104) := by show _ ≤ _; rw [HL2.out]; simp only [List.length_append]; have := HLB.out; have := HL.out; have := hdB_len 128 (show L ≤ 1099511627776 by have := HLB.out; have := HL.out; omega); omega
      go_wp2_with (at_builtin; refine wpList_append_tx _ rfl (.tmp 12) (.tmp 13) 22 112 5 rfl Try.underlying112 B0 5 i0 (.int .u8 0) 1 1 Try.underlying22 hi hz0 hz1 hz2 rfl (by decide) (.slice A2 L2 c2) L2 _ rfl HOW.out ad L c (bv bs) rfl (by rw [bv_length, HL.out]; omega) HNW.out (by intro u hu; simp [bv] at hu; obtain ⟨x, _, rfl⟩ := hu; rfl) (by have := HLL.out; unfold maxLen; omega) (by have := HLL.out; omega) (by have := HB.out; have := HGZ.out.size; omega) ?_)
      intro v4 w4 hown hg hat
      have hgz2 := HGZ.out.trans (Gz.grow hg hat)
      have HQ : Hid (AppR B0 (.slice A0 out.length c0) (out ++ formT bs) w1 (.returned v4) w4) := by
        refine ⟨v4, rfl, ?_, hgz2⟩
        rw [HF2.out, HL.out]
        unfold Acc
        have h := hown
        rw [HL2.out, HL.out] at h
        simpa [bv, Nat.add_assoc] using h
      clear hown hg hat hgz2
      go_wp2_with fail
      go_ret
      exact HQ.out
  · have HF2 : Hid (formT bs = bs) := HF.out.trans (if_pos hbr)
    rw [hbr] at CB
    obtain ⟨A2, c2, rfl⟩ := HA.out.form
    obtain ⟨L2, hL2⟩ : ∃ L2, L2 = out.length := ⟨_, rfl⟩
    have HL2 := Lib.hid hL2
    rw [← hL2] at CH HA HKEEP ⊢
    have HR := Lib.hid (HKEEP.out w _ (Gz.refl _ _))
    have HAC := HA
    have HGZ := Lib.hid (Gz.refl w (.slice A2 L2 c2))
    have HOW : Hid (w.ownsRow B0 5 1 (.slice A2 L2 c2) L2 (bv out)) := by
      have := HA.out; unfold Acc at this; rw [← HL2.out] at this; exact this
    clear hbr HF CH hL2
    go_enter Try.func83, Try.ntmps83
    go_wp2_with fail
    (with_reducible refine CB.out.mono ?_)
    rintro e w1 ⟨rfl, rfl⟩
    clear CB
    rcases A with _ | ad
    · have hb0 : bs = [] := List.eq_nil_of_length_eq_zero (by have := HR.out.le; have := HR.out.cap rfl; omega)
      have hc0 : c = 0 := HR.out.cap rfl
      have hL0 : L = 0 := by rw [HL.out, hb0]; rfl
      subst hL0 hc0
      have HQ : Hid (AppR B0 (.slice A2 L2 c2) (out ++ formT bs) w1 (.returned (.slice A2 L2 c2)) w1) := by
        refine ⟨_, rfl, ?_, HGZ.out⟩
        rw [HF2.out, hb0]
        have h := HAC.out
        simpa using h
      clear hb0 HGZ
      go_wp2_with (at_builtin; refine wpList_append_tx_none rfl (.tmp 12) (.tmp 13) 22 112 5 rfl Try.underlying112 B0 5 i0 1 Try.underlying22 hi (.slice A2 L2 c2) L2 _ rfl HOW.out rfl ?_)
      go_ret
      exact HQ.out
    · have HNW := Lib.hid HR.out.news
      have HLL : Hid (L2 + L ≤ 4398046511104) := by show _ ≤ _; rw [HL2.out]; have := HLB.out; have := HL.out; omega
      go_wp2_with (at_builtin; refine wpList_append_tx _ rfl (.tmp 12) (.tmp 13) 22 112 5 rfl Try.underlying112 B0 5 i0 (.int .u8 0) 1 1 Try.underlying22 hi hz0 hz1 hz2 rfl (by decide) (.slice A2 L2 c2) L2 _ rfl HOW.out ad L c (bv bs) rfl (by rw [bv_length, HL.out]; omega) HNW.out (by intro u hu; simp [bv] at hu; obtain ⟨x, _, rfl⟩ := hu; rfl) (by have := HLL.out; unfold maxLen; omega) (by have := HLL.out; omega) (by have := HB.out; have := HGZ.out.size; omega) ?_)
      intro v4 w4 hown hg hat
      have hgz2 := HGZ.out.trans (Gz.grow hg hat)
      have HQ : Hid (AppR B0 (.slice A2 L2 c2) (out ++ formT bs) w1 (.returned v4) w4) := by
        refine ⟨v4, rfl, ?_, hgz2⟩
        rw [HF2.out]
        unfold Acc
        have h := hown
        rw [HL2.out, HL.out] at h
        simpa [bv, Nat.add_assoc] using h
      clear hown hg hat hgz2
      go_wp2_with fail
      go_ret
      exact HQ.out
end Go.Proofs.Ytgjiealcjaojaaa
