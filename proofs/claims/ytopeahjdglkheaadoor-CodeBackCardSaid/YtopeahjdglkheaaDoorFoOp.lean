/- Package fork: firstWith, Op. (Written by wip/genfoop.py.) -/
import Derived.Test.YtopeahjdglkheaaDoorFoBase
import Derived.Test.YtopeahjdglkheaaDoorFkOp
namespace Go.Proofs.YtopeahjdglkheaaDoor
open Go.RowKit

/-- The first fork that has an operation; 16: none has it. -/
def firstZ (op : Int) : Int := if opFirst op = 99 then 16 else opFirst op
theorem firstZ_le (f op : Int) (h1 : f ≤ 15) : decide (firstZ op ≤ f) = decide (opFirst op ≤ f) := by
  unfold firstZ
  split
  · rename_i h
    rw [h, decide_eq_false (by omega), decide_eq_false (by omega)]
  · rfl

set_option maxRecDepth 100000 in
set_option maxHeartbeats 12800000 in
theorem firstWith_c (op : Int) (w : World) : Calls Tryd.prog 57 #[.int .i64 op] w fun e w' => e = .returned (.int .i64 (firstZ op)) ∧ w' = w := by
  obtain ⟨z, hz⟩ : ∃ z, z = firstZ op := ⟨_, rfl⟩
  rw [← hz]
  have HZ := Lib.hid hz
  clear hz
  have HB : Hid (∀ a b w, Calls Tryd.prog 70 #[.int .i64 op, .int .i64 a, .int .i64 b] w fun e w' => e = .returned (.bool (decide (a ≤ op ∧ op ≤ b))) ∧ w' = w) := fun a b w => between_c op a b w
  go_enter Tryd.func57, Tryd.ntmps57
  go_wp2_with fail
  have C0 := HB.out 0 11
  by_cases h0 : 0 ≤ op ∧ op ≤ 11
  · simp only [decide_eq_true h0] at C0
    have C := Lib.hid C0
    have e : z = 0 := by rw [HZ.out]; unfold firstZ opFirst; (repeat' split) <;> omega
    clear HB C0 h0 HZ 
    (with_reducible refine (C.out _).mono ?_)
    rintro e w1 ⟨rfl, hw1⟩
    rw [hw1]
    clear C hw1 w1
    go_wp2_with fail
    go_ret
    exact ⟨by rw [e]; rfl, rfl⟩
  · simp only [decide_eq_false h0] at C0
    have C := Lib.hid C0
    have H0 := Lib.hid h0
    clear C0 h0
    (with_reducible refine (C.out _).mono ?_)
    rintro e w1 ⟨rfl, hw1⟩
    rw [hw1]
    clear C hw1 w1
    go_wp2_with fail
    have C1 := HB.out 16 26
    by_cases h1 : 16 ≤ op ∧ op ≤ 26
    · simp only [decide_eq_true h1] at C1
      have C := Lib.hid C1
      have e : z = 0 := by rw [HZ.out]; have g0 := H0.out; unfold firstZ opFirst; (repeat' split) <;> omega
      clear HB C1 h1 HZ H0
      (with_reducible refine (C.out _).mono ?_)
      rintro e w1 ⟨rfl, hw1⟩
      rw [hw1]
      clear C hw1 w1
      go_wp2_with fail
      go_ret
      exact ⟨by rw [e]; rfl, rfl⟩
    · simp only [decide_eq_false h1] at C1
      have C := Lib.hid C1
      have H1 := Lib.hid h1
      clear C1 h1
      (with_reducible refine (C.out _).mono ?_)
      rintro e w1 ⟨rfl, hw1⟩
      rw [hw1]
      clear C hw1 w1
      by_cases h2 : op = 32
      · have q2 : ((op : Int) == 32) = true := by simp [h2]
        have e : z = 0 := by rw [HZ.out]; have g0 := H0.out; have g1 := H1.out; unfold firstZ opFirst; (repeat' split) <;> omega
        clear HB h2 HZ H0 H1
        go_wp2_with fail
        go_ret
        exact ⟨by rw [e]; rfl, rfl⟩
      · have q2 : ((op : Int) == 32) = false := by simp [h2]
        have H2 := Lib.hid h2
        clear h2
        go_wp2_with fail
        have C3 := HB.out 48 60
        by_cases h3 : 48 ≤ op ∧ op ≤ 60
        · simp only [decide_eq_true h3] at C3
          have C := Lib.hid C3
          have e : z = 0 := by rw [HZ.out]; have g0 := H0.out; have g1 := H1.out; have g2 := H2.out; unfold firstZ opFirst; (repeat' split) <;> omega
          clear HB C3 h3 HZ H0 H1 H2
          (with_reducible refine (C.out _).mono ?_)
          rintro e w1 ⟨rfl, hw1⟩
          rw [hw1]
          clear C hw1 w1
          go_wp2_with fail
          go_ret
          exact ⟨by rw [e]; rfl, rfl⟩
        · simp only [decide_eq_false h3] at C3
          have C := Lib.hid C3
          have H3 := Lib.hid h3
          clear C3 h3
          (with_reducible refine (C.out _).mono ?_)
          rintro e w1 ⟨rfl, hw1⟩
          rw [hw1]
          clear C hw1 w1
          go_wp2_with fail
          have C4 := HB.out 64 69
          by_cases h4 : 64 ≤ op ∧ op ≤ 69
          · simp only [decide_eq_true h4] at C4
            have C := Lib.hid C4
            have e : z = 0 := by rw [HZ.out]; have g0 := H0.out; have g1 := H1.out; have g2 := H2.out; have g3 := H3.out; unfold firstZ opFirst; (repeat' split) <;> omega
            clear HB C4 h4 HZ H0 H1 H2 H3
            (with_reducible refine (C.out _).mono ?_)
            rintro e w1 ⟨rfl, hw1⟩
            rw [hw1]
            clear C hw1 w1
            go_wp2_with fail
            go_ret
            exact ⟨by rw [e]; rfl, rfl⟩
          · simp only [decide_eq_false h4] at C4
            have C := Lib.hid C4
            have H4 := Lib.hid h4
            clear C4 h4
            (with_reducible refine (C.out _).mono ?_)
            rintro e w1 ⟨rfl, hw1⟩
            rw [hw1]
            clear C hw1 w1
            go_wp2_with fail
            have C5 := HB.out 80 91
            by_cases h5 : 80 ≤ op ∧ op ≤ 91
            · simp only [decide_eq_true h5] at C5
              have C := Lib.hid C5
              have e : z = 0 := by rw [HZ.out]; have g0 := H0.out; have g1 := H1.out; have g2 := H2.out; have g3 := H3.out; have g4 := H4.out; unfold firstZ opFirst; (repeat' split) <;> omega
              clear HB C5 h5 HZ H0 H1 H2 H3 H4
              (with_reducible refine (C.out _).mono ?_)
              rintro e w1 ⟨rfl, hw1⟩
              rw [hw1]
              clear C hw1 w1
              go_wp2_with fail
              go_ret
              exact ⟨by rw [e]; rfl, rfl⟩
            · simp only [decide_eq_false h5] at C5
              have C := Lib.hid C5
              have H5 := Lib.hid h5
              clear C5 h5
              (with_reducible refine (C.out _).mono ?_)
              rintro e w1 ⟨rfl, hw1⟩
              rw [hw1]
              clear C hw1 w1
              go_wp2_with fail
              have C6 := HB.out 96 164
              by_cases h6 : 96 ≤ op ∧ op ≤ 164
              · simp only [decide_eq_true h6] at C6
                have C := Lib.hid C6
                have e : z = 0 := by rw [HZ.out]; have g0 := H0.out; have g1 := H1.out; have g2 := H2.out; have g3 := H3.out; have g4 := H4.out; have g5 := H5.out; unfold firstZ opFirst; (repeat' split) <;> omega
                clear HB C6 h6 HZ H0 H1 H2 H3 H4 H5
                (with_reducible refine (C.out _).mono ?_)
                rintro e w1 ⟨rfl, hw1⟩
                rw [hw1]
                clear C hw1 w1
                go_wp2_with fail
                go_ret
                exact ⟨by rw [e]; rfl, rfl⟩
              · simp only [decide_eq_false h6] at C6
                have C := Lib.hid C6
                have H6 := Lib.hid h6
                clear C6 h6
                (with_reducible refine (C.out _).mono ?_)
                rintro e w1 ⟨rfl, hw1⟩
                rw [hw1]
                clear C hw1 w1
                go_wp2_with fail
                have C7 := HB.out 240 243
                by_cases h7 : 240 ≤ op ∧ op ≤ 243
                · simp only [decide_eq_true h7] at C7
                  have C := Lib.hid C7
                  have e : z = 0 := by rw [HZ.out]; have g0 := H0.out; have g1 := H1.out; have g2 := H2.out; have g3 := H3.out; have g4 := H4.out; have g5 := H5.out; have g6 := H6.out; unfold firstZ opFirst; (repeat' split) <;> omega
                  clear HB C7 h7 HZ H0 H1 H2 H3 H4 H5 H6
                  (with_reducible refine (C.out _).mono ?_)
                  rintro e w1 ⟨rfl, hw1⟩
                  rw [hw1]
                  clear C hw1 w1
                  go_wp2_with fail
                  go_ret
                  exact ⟨by rw [e]; rfl, rfl⟩
                · simp only [decide_eq_false h7] at C7
                  have C := Lib.hid C7
                  have H7 := Lib.hid h7
                  clear C7 h7
                  (with_reducible refine (C.out _).mono ?_)
                  rintro e w1 ⟨rfl, hw1⟩
                  rw [hw1]
                  clear C hw1 w1
                  by_cases h8 : op = 255
                  · have q8 : ((op : Int) == 255) = true := by simp [h8]
                    have e : z = 0 := by rw [HZ.out]; have g0 := H0.out; have g1 := H1.out; have g2 := H2.out; have g3 := H3.out; have g4 := H4.out; have g5 := H5.out; have g6 := H6.out; have g7 := H7.out; unfold firstZ opFirst; (repeat' split) <;> omega
                    clear HB h8 HZ H0 H1 H2 H3 H4 H5 H6 H7
                    go_wp2_with fail
                    go_ret
                    exact ⟨by rw [e]; rfl, rfl⟩
                  · have q8 : ((op : Int) == 255) = false := by simp [h8]
                    have H8 := Lib.hid h8
                    clear h8
                    by_cases h9 : op = 244
                    · have q9 : ((op : Int) == 244) = true := by simp [h9]
                      have e : z = 1 := by rw [HZ.out]; have g0 := H0.out; have g1 := H1.out; have g2 := H2.out; have g3 := H3.out; have g4 := H4.out; have g5 := H5.out; have g6 := H6.out; have g7 := H7.out; have g8 := H8.out; unfold firstZ opFirst; (repeat' split) <;> omega
                      clear HB h9 HZ H0 H1 H2 H3 H4 H5 H6 H7 H8
                      go_wp2_with fail
                      go_ret
                      exact ⟨by rw [e]; rfl, rfl⟩
                    · have q9 : ((op : Int) == 244) = false := by simp [h9]
                      have H9 := Lib.hid h9
                      clear h9
                      by_cases h10 : op = 61
                      · have q10 : ((op : Int) == 61) = true := by simp [h10]
                        have e : z = 4 := by rw [HZ.out]; have g0 := H0.out; have g1 := H1.out; have g2 := H2.out; have g3 := H3.out; have g4 := H4.out; have g5 := H5.out; have g6 := H6.out; have g7 := H7.out; have g8 := H8.out; have g9 := H9.out; unfold firstZ opFirst; (repeat' split) <;> omega
                        clear HB h10 HZ H0 H1 H2 H3 H4 H5 H6 H7 H8 H9
                        go_wp2_with fail
                        go_ret
                        exact ⟨by rw [e]; rfl, rfl⟩
                      · have q10 : ((op : Int) == 61) = false := by simp [h10]
                        have H10 := Lib.hid h10
                        clear h10
                        by_cases h11 : op = 62
                        · have q11 : ((op : Int) == 62) = true := by simp [h11]
                          have e : z = 4 := by rw [HZ.out]; have g0 := H0.out; have g1 := H1.out; have g2 := H2.out; have g3 := H3.out; have g4 := H4.out; have g5 := H5.out; have g6 := H6.out; have g7 := H7.out; have g8 := H8.out; have g9 := H9.out; have g10 := H10.out; unfold firstZ opFirst; (repeat' split) <;> omega
                          clear HB h11 HZ H0 H1 H2 H3 H4 H5 H6 H7 H8 H9 H10
                          go_wp2_with fail
                          go_ret
                          exact ⟨by rw [e]; rfl, rfl⟩
                        · have q11 : ((op : Int) == 62) = false := by simp [h11]
                          have H11 := Lib.hid h11
                          clear h11
                          by_cases h12 : op = 250
                          · have q12 : ((op : Int) == 250) = true := by simp [h12]
                            have e : z = 4 := by rw [HZ.out]; have g0 := H0.out; have g1 := H1.out; have g2 := H2.out; have g3 := H3.out; have g4 := H4.out; have g5 := H5.out; have g6 := H6.out; have g7 := H7.out; have g8 := H8.out; have g9 := H9.out; have g10 := H10.out; have g11 := H11.out; unfold firstZ opFirst; (repeat' split) <;> omega
                            clear HB h12 HZ H0 H1 H2 H3 H4 H5 H6 H7 H8 H9 H10 H11
                            go_wp2_with fail
                            go_ret
                            exact ⟨by rw [e]; rfl, rfl⟩
                          · have q12 : ((op : Int) == 250) = false := by simp [h12]
                            have H12 := Lib.hid h12
                            clear h12
                            by_cases h13 : op = 253
                            · have q13 : ((op : Int) == 253) = true := by simp [h13]
                              have e : z = 4 := by rw [HZ.out]; have g0 := H0.out; have g1 := H1.out; have g2 := H2.out; have g3 := H3.out; have g4 := H4.out; have g5 := H5.out; have g6 := H6.out; have g7 := H7.out; have g8 := H8.out; have g9 := H9.out; have g10 := H10.out; have g11 := H11.out; have g12 := H12.out; unfold firstZ opFirst; (repeat' split) <;> omega
                              clear HB h13 HZ H0 H1 H2 H3 H4 H5 H6 H7 H8 H9 H10 H11 H12
                              go_wp2_with fail
                              go_ret
                              exact ⟨by rw [e]; rfl, rfl⟩
                            · have q13 : ((op : Int) == 253) = false := by simp [h13]
                              have H13 := Lib.hid h13
                              clear h13
                              go_wp2_with fail
                              have C14 := HB.out 27 29
                              by_cases h14 : 27 ≤ op ∧ op ≤ 29
                              · simp only [decide_eq_true h14] at C14
                                have C := Lib.hid C14
                                have e : z = 5 := by rw [HZ.out]; have g0 := H0.out; have g1 := H1.out; have g2 := H2.out; have g3 := H3.out; have g4 := H4.out; have g5 := H5.out; have g6 := H6.out; have g7 := H7.out; have g8 := H8.out; have g9 := H9.out; have g10 := H10.out; have g11 := H11.out; have g12 := H12.out; have g13 := H13.out; unfold firstZ opFirst; (repeat' split) <;> omega
                                clear HB C14 h14 HZ H0 H1 H2 H3 H4 H5 H6 H7 H8 H9 H10 H11 H12 H13
                                (with_reducible refine (C.out _).mono ?_)
                                rintro e w1 ⟨rfl, hw1⟩
                                rw [hw1]
                                clear C hw1 w1
                                go_wp2_with fail
                                go_ret
                                exact ⟨by rw [e]; rfl, rfl⟩
                              · simp only [decide_eq_false h14] at C14
                                have C := Lib.hid C14
                                have H14 := Lib.hid h14
                                clear C14 h14
                                (with_reducible refine (C.out _).mono ?_)
                                rintro e w1 ⟨rfl, hw1⟩
                                rw [hw1]
                                clear C hw1 w1
                                by_cases h15 : op = 63
                                · have q15 : ((op : Int) == 63) = true := by simp [h15]
                                  have e : z = 5 := by rw [HZ.out]; have g0 := H0.out; have g1 := H1.out; have g2 := H2.out; have g3 := H3.out; have g4 := H4.out; have g5 := H5.out; have g6 := H6.out; have g7 := H7.out; have g8 := H8.out; have g9 := H9.out; have g10 := H10.out; have g11 := H11.out; have g12 := H12.out; have g13 := H13.out; have g14 := H14.out; unfold firstZ opFirst; (repeat' split) <;> omega
                                  clear HB h15 HZ H0 H1 H2 H3 H4 H5 H6 H7 H8 H9 H10 H11 H12 H13 H14
                                  go_wp2_with fail
                                  go_ret
                                  exact ⟨by rw [e]; rfl, rfl⟩
                                · have q15 : ((op : Int) == 63) = false := by simp [h15]
                                  have H15 := Lib.hid h15
                                  clear h15
                                  by_cases h16 : op = 245
                                  · have q16 : ((op : Int) == 245) = true := by simp [h16]
                                    have e : z = 5 := by rw [HZ.out]; have g0 := H0.out; have g1 := H1.out; have g2 := H2.out; have g3 := H3.out; have g4 := H4.out; have g5 := H5.out; have g6 := H6.out; have g7 := H7.out; have g8 := H8.out; have g9 := H9.out; have g10 := H10.out; have g11 := H11.out; have g12 := H12.out; have g13 := H13.out; have g14 := H14.out; have g15 := H15.out; unfold firstZ opFirst; (repeat' split) <;> omega
                                    clear HB h16 HZ H0 H1 H2 H3 H4 H5 H6 H7 H8 H9 H10 H11 H12 H13 H14 H15
                                    go_wp2_with fail
                                    go_ret
                                    exact ⟨by rw [e]; rfl, rfl⟩
                                  · have q16 : ((op : Int) == 245) = false := by simp [h16]
                                    have H16 := Lib.hid h16
                                    clear h16
                                    by_cases h17 : op = 70
                                    · have q17 : ((op : Int) == 70) = true := by simp [h17]
                                      have e : z = 7 := by rw [HZ.out]; have g0 := H0.out; have g1 := H1.out; have g2 := H2.out; have g3 := H3.out; have g4 := H4.out; have g5 := H5.out; have g6 := H6.out; have g7 := H7.out; have g8 := H8.out; have g9 := H9.out; have g10 := H10.out; have g11 := H11.out; have g12 := H12.out; have g13 := H13.out; have g14 := H14.out; have g15 := H15.out; have g16 := H16.out; unfold firstZ opFirst; (repeat' split) <;> omega
                                      clear HB h17 HZ H0 H1 H2 H3 H4 H5 H6 H7 H8 H9 H10 H11 H12 H13 H14 H15 H16
                                      go_wp2_with fail
                                      go_ret
                                      exact ⟨by rw [e]; rfl, rfl⟩
                                    · have q17 : ((op : Int) == 70) = false := by simp [h17]
                                      have H17 := Lib.hid h17
                                      clear h17
                                      by_cases h18 : op = 71
                                      · have q18 : ((op : Int) == 71) = true := by simp [h18]
                                        have e : z = 7 := by rw [HZ.out]; have g0 := H0.out; have g1 := H1.out; have g2 := H2.out; have g3 := H3.out; have g4 := H4.out; have g5 := H5.out; have g6 := H6.out; have g7 := H7.out; have g8 := H8.out; have g9 := H9.out; have g10 := H10.out; have g11 := H11.out; have g12 := H12.out; have g13 := H13.out; have g14 := H14.out; have g15 := H15.out; have g16 := H16.out; have g17 := H17.out; unfold firstZ opFirst; (repeat' split) <;> omega
                                        clear HB h18 HZ H0 H1 H2 H3 H4 H5 H6 H7 H8 H9 H10 H11 H12 H13 H14 H15 H16 H17
                                        go_wp2_with fail
                                        go_ret
                                        exact ⟨by rw [e]; rfl, rfl⟩
                                      · have q18 : ((op : Int) == 71) = false := by simp [h18]
                                        have H18 := Lib.hid h18
                                        clear h18
                                        by_cases h19 : op = 72
                                        · have q19 : ((op : Int) == 72) = true := by simp [h19]
                                          have e : z = 10 := by rw [HZ.out]; have g0 := H0.out; have g1 := H1.out; have g2 := H2.out; have g3 := H3.out; have g4 := H4.out; have g5 := H5.out; have g6 := H6.out; have g7 := H7.out; have g8 := H8.out; have g9 := H9.out; have g10 := H10.out; have g11 := H11.out; have g12 := H12.out; have g13 := H13.out; have g14 := H14.out; have g15 := H15.out; have g16 := H16.out; have g17 := H17.out; have g18 := H18.out; unfold firstZ opFirst; (repeat' split) <;> omega
                                          clear HB h19 HZ H0 H1 H2 H3 H4 H5 H6 H7 H8 H9 H10 H11 H12 H13 H14 H15 H16 H17 H18
                                          go_wp2_with fail
                                          go_ret
                                          exact ⟨by rw [e]; rfl, rfl⟩
                                        · have q19 : ((op : Int) == 72) = false := by simp [h19]
                                          have H19 := Lib.hid h19
                                          clear h19
                                          by_cases h20 : op = 95
                                          · have q20 : ((op : Int) == 95) = true := by simp [h20]
                                            have e : z = 14 := by rw [HZ.out]; have g0 := H0.out; have g1 := H1.out; have g2 := H2.out; have g3 := H3.out; have g4 := H4.out; have g5 := H5.out; have g6 := H6.out; have g7 := H7.out; have g8 := H8.out; have g9 := H9.out; have g10 := H10.out; have g11 := H11.out; have g12 := H12.out; have g13 := H13.out; have g14 := H14.out; have g15 := H15.out; have g16 := H16.out; have g17 := H17.out; have g18 := H18.out; have g19 := H19.out; unfold firstZ opFirst; (repeat' split) <;> omega
                                            clear HB h20 HZ H0 H1 H2 H3 H4 H5 H6 H7 H8 H9 H10 H11 H12 H13 H14 H15 H16 H17 H18 H19
                                            go_wp2_with fail
                                            go_ret
                                            exact ⟨by rw [e]; rfl, rfl⟩
                                          · have q20 : ((op : Int) == 95) = false := by simp [h20]
                                            have H20 := Lib.hid h20
                                            clear h20
                                            by_cases h21 : op = 73
                                            · have q21 : ((op : Int) == 73) = true := by simp [h21]
                                              have e : z = 15 := by rw [HZ.out]; have g0 := H0.out; have g1 := H1.out; have g2 := H2.out; have g3 := H3.out; have g4 := H4.out; have g5 := H5.out; have g6 := H6.out; have g7 := H7.out; have g8 := H8.out; have g9 := H9.out; have g10 := H10.out; have g11 := H11.out; have g12 := H12.out; have g13 := H13.out; have g14 := H14.out; have g15 := H15.out; have g16 := H16.out; have g17 := H17.out; have g18 := H18.out; have g19 := H19.out; have g20 := H20.out; unfold firstZ opFirst; (repeat' split) <;> omega
                                              clear HB h21 HZ H0 H1 H2 H3 H4 H5 H6 H7 H8 H9 H10 H11 H12 H13 H14 H15 H16 H17 H18 H19 H20
                                              go_wp2_with fail
                                              go_ret
                                              exact ⟨by rw [e]; rfl, rfl⟩
                                            · have q21 : ((op : Int) == 73) = false := by simp [h21]
                                              have H21 := Lib.hid h21
                                              clear h21
                                              by_cases h22 : op = 74
                                              · have q22 : ((op : Int) == 74) = true := by simp [h22]
                                                have e : z = 15 := by rw [HZ.out]; have g0 := H0.out; have g1 := H1.out; have g2 := H2.out; have g3 := H3.out; have g4 := H4.out; have g5 := H5.out; have g6 := H6.out; have g7 := H7.out; have g8 := H8.out; have g9 := H9.out; have g10 := H10.out; have g11 := H11.out; have g12 := H12.out; have g13 := H13.out; have g14 := H14.out; have g15 := H15.out; have g16 := H16.out; have g17 := H17.out; have g18 := H18.out; have g19 := H19.out; have g20 := H20.out; have g21 := H21.out; unfold firstZ opFirst; (repeat' split) <;> omega
                                                clear HB h22 HZ H0 H1 H2 H3 H4 H5 H6 H7 H8 H9 H10 H11 H12 H13 H14 H15 H16 H17 H18 H19 H20 H21
                                                go_wp2_with fail
                                                go_ret
                                                exact ⟨by rw [e]; rfl, rfl⟩
                                              · have q22 : ((op : Int) == 74) = false := by simp [h22]
                                                have H22 := Lib.hid h22
                                                clear h22
                                                go_wp2_with fail
                                                have C23 := HB.out 92 94
                                                by_cases h23 : 92 ≤ op ∧ op ≤ 94
                                                · simp only [decide_eq_true h23] at C23
                                                  have C := Lib.hid C23
                                                  have e : z = 15 := by rw [HZ.out]; have g0 := H0.out; have g1 := H1.out; have g2 := H2.out; have g3 := H3.out; have g4 := H4.out; have g5 := H5.out; have g6 := H6.out; have g7 := H7.out; have g8 := H8.out; have g9 := H9.out; have g10 := H10.out; have g11 := H11.out; have g12 := H12.out; have g13 := H13.out; have g14 := H14.out; have g15 := H15.out; have g16 := H16.out; have g17 := H17.out; have g18 := H18.out; have g19 := H19.out; have g20 := H20.out; have g21 := H21.out; have g22 := H22.out; unfold firstZ opFirst; (repeat' split) <;> omega
                                                  clear HB C23 h23 HZ H0 H1 H2 H3 H4 H5 H6 H7 H8 H9 H10 H11 H12 H13 H14 H15 H16 H17 H18 H19 H20 H21 H22
                                                  (with_reducible refine (C.out _).mono ?_)
                                                  rintro e w1 ⟨rfl, hw1⟩
                                                  rw [hw1]
                                                  clear C hw1 w1
                                                  go_wp2_with fail
                                                  go_ret
                                                  exact ⟨by rw [e]; rfl, rfl⟩
                                                · simp only [decide_eq_false h23] at C23
                                                  have C := Lib.hid C23
                                                  have H23 := Lib.hid h23
                                                  clear C23 h23
                                                  (with_reducible refine (C.out _).mono ?_)
                                                  rintro e w1 ⟨rfl, hw1⟩
                                                  rw [hw1]
                                                  clear C hw1 w1
                                                  have e : z = 16 := by rw [HZ.out]; have g0 := H0.out; have g1 := H1.out; have g2 := H2.out; have g3 := H3.out; have g4 := H4.out; have g5 := H5.out; have g6 := H6.out; have g7 := H7.out; have g8 := H8.out; have g9 := H9.out; have g10 := H10.out; have g11 := H11.out; have g12 := H12.out; have g13 := H13.out; have g14 := H14.out; have g15 := H15.out; have g16 := H16.out; have g17 := H17.out; have g18 := H18.out; have g19 := H19.out; have g20 := H20.out; have g21 := H21.out; have g22 := H22.out; have g23 := H23.out; unfold firstZ opFirst; (repeat' split) <;> omega
                                                  clear HB HZ H0 H1 H2 H3 H4 H5 H6 H7 H8 H9 H10 H11 H12 H13 H14 H15 H16 H17 H18 H19 H20 H21 H22 H23
                                                  go_wp2_with fail
                                                  go_ret
                                                  exact ⟨by rw [e]; rfl, rfl⟩

set_option maxRecDepth 100000 in
set_option maxHeartbeats 6400000 in
theorem foop_c (f op : Int) (w : World) : Calls Tryd.prog 43 #[.int .i64 f, .int .i64 op] w fun e w' => e = .returned (.bool (opZ f op)) ∧ w' = w := by
  have CF : Hid (∀ w, Calls Tryd.prog 56 #[.int .i64 f] w fun e w' => e = .returned (.bool (decide (0 ≤ f ∧ f ≤ 15))) ∧ w' = w) := fun w => isFork_c f w
  by_cases h : 0 ≤ f ∧ f ≤ 15
  · have e : opZ f op = decide (firstZ op ≤ f) := by rw [firstZ_le f op h.2, opZ_of rfl h.1 h.2]
    rw [decide_eq_true h] at CF
    rw [e]
    have HC : Hid (∀ w, Calls Tryd.prog 57 #[.int .i64 op] w fun e w' => e = .returned (.int .i64 (firstZ op)) ∧ w' = w) := fun w => firstWith_c op w
    clear e h
    generalize firstZ op = z at HC ⊢
    go_enter Tryd.func43, Tryd.ntmps43
    go_wp2_with fail
    (with_reducible refine (CF.out _).mono ?_)
    rintro e w1 ⟨rfl, hw1⟩
    rw [hw1]
    clear CF hw1 w1
    go_wp2_with fail
    (with_reducible refine (HC.out _).mono ?_)
    rintro e w1 ⟨rfl, hw1⟩
    rw [hw1]
    clear HC hw1 w1
    go_wp2_with fail
    go_ret
    exact ⟨rfl, rfl⟩
  · rw [decide_eq_false h] at CF
    rw [opZ_none h]
    clear h
    go_enter Tryd.func43, Tryd.ntmps43
    go_wp2_with fail
    (with_reducible refine (CF.out _).mono ?_)
    rintro e w1 ⟨rfl, hw1⟩
    rw [hw1]
    clear CF hw1 w1
    go_wp2_with fail
    go_ret
    exact ⟨rfl, rfl⟩
end Go.Proofs.YtopeahjdglkheaaDoor
