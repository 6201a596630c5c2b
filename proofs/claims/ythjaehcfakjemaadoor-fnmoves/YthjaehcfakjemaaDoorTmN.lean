/- Terms: the fault of a term: the model. -/
import Derived.Test.YthjaehcfakjemaaDoorTmL
namespace Go.Proofs.YthjaehcfakjemaaDoor
open Go.RowKit

set_option maxHeartbeats 8000000 in
theorem l5Term_ok (a : Option Addr) (m ca : Nat) (xs : List T4) (t : T4) (w : World) (hA : RdTerm w a xs) (hm : xs.length = m) (hx : m ≤ maxLen) :
    Calls Tryd.prog 49 #[.slice a m ca, .agg #[.int .i64 t.o, .int .i64 t.a, .int .i64 t.b, .int .i64 t.n]] w fun e w' => e = .returned (.int .i64 (tmC xs t)) ∧ Below w.heap.size w w' := by
  unfold maxLen at hx
  cases h1 : btw t.o 1 7
  · skip
    have hr : tmC xs t = 5 := by
      unfold tmC tmForm tmRange tmSec ofSec
      rw [hm]
      simp [h1]
    rw [hr]
    clear hr
    obtain ⟨o, a, b, n⟩ := t
    simp only at *
    go_enter Tryd.func49, Tryd.ntmps49
    have VX := V.new w [.int .i64 o, .int .i64 a, .int .i64 b, .int .i64 n] 70
    obtain ⟨s_VX, f_VX, z_VX⟩ := VX.open
    go_wp2_with (first | (go_at_call 51; refine (l1In_ok _ _ _ _).mono ?_; rintro e wq ⟨rfl, rfl⟩) | (go_at_call 54; refine (l5Kids_ok _ _).mono ?_; rintro e wq ⟨rfl, rfl⟩) | fail)
    go_ret
    exact ⟨rfl, belowA _ _⟩
  · skip
    rcases kids_cases t.o with hk | hk | hk
    · skip
      cases ha : (t.a != 0)
      · skip
        cases hb : (t.b != 0)
        · skip
          cases hn : btw t.n 0 9999
          · skip
            have hr : tmC xs t = 3 := by
              unfold tmC tmForm tmRange tmSec ofSec
              rw [hm]
              simp [h1, hk, ha, hb, hn]
            rw [hr]
            clear hr
            obtain ⟨o, a, b, n⟩ := t
            simp only at *
            go_enter Tryd.func49, Tryd.ntmps49
            have VX := V.new w [.int .i64 o, .int .i64 a, .int .i64 b, .int .i64 n] 70
            obtain ⟨s_VX, f_VX, z_VX⟩ := VX.open
            go_wp2_with (first | (go_at_call 51; refine (l1In_ok _ _ _ _).mono ?_; rintro e wq ⟨rfl, rfl⟩) | (go_at_call 54; refine (l5Kids_ok _ _).mono ?_; rintro e wq ⟨rfl, rfl⟩) | fail)
            go_ret
            exact ⟨rfl, belowA _ _⟩
          · skip
            have h6 : (t.o == 6) = false := by unfold kids at hk; simp; intro h; simp [h] at hk
            have h7 : (t.o == 7) = false := by unfold kids at hk; simp; intro h; simp [h] at hk
            have hr : tmC xs t = 0 := by
              unfold tmC tmForm tmRange tmSec ofSec
              rw [hm]
              simp [h1, hk, ha, hb, hn, h6, h7]
            rw [hr]
            clear hr
            obtain ⟨o, a, b, n⟩ := t
            simp only at *
            go_enter Tryd.func49, Tryd.ntmps49
            have VX := V.new w [.int .i64 o, .int .i64 a, .int .i64 b, .int .i64 n] 70
            obtain ⟨s_VX, f_VX, z_VX⟩ := VX.open
            go_wp2_with (first | (go_at_call 51; refine (l1In_ok _ _ _ _).mono ?_; rintro e wq ⟨rfl, rfl⟩) | (go_at_call 54; refine (l5Kids_ok _ _).mono ?_; rintro e wq ⟨rfl, rfl⟩) | fail)
            go_ret
            exact ⟨rfl, belowA _ _⟩
        · skip
          have hr : tmC xs t = 1 := by
            unfold tmC tmForm tmRange tmSec ofSec
            rw [hm]
            simp [h1, hk, ha, hb]
          rw [hr]
          clear hr
          obtain ⟨o, a, b, n⟩ := t
          simp only at *
          go_enter Tryd.func49, Tryd.ntmps49
          have VX := V.new w [.int .i64 o, .int .i64 a, .int .i64 b, .int .i64 n] 70
          obtain ⟨s_VX, f_VX, z_VX⟩ := VX.open
          go_wp2_with (first | (go_at_call 51; refine (l1In_ok _ _ _ _).mono ?_; rintro e wq ⟨rfl, rfl⟩) | (go_at_call 54; refine (l5Kids_ok _ _).mono ?_; rintro e wq ⟨rfl, rfl⟩) | fail)
          go_ret
          exact ⟨rfl, belowA _ _⟩
      · skip
        have hr : tmC xs t = 1 := by
          unfold tmC tmForm tmRange tmSec ofSec
          rw [hm]
          simp [h1, hk, ha]
        rw [hr]
        clear hr
        obtain ⟨o, a, b, n⟩ := t
        simp only at *
        go_enter Tryd.func49, Tryd.ntmps49
        have VX := V.new w [.int .i64 o, .int .i64 a, .int .i64 b, .int .i64 n] 70
        obtain ⟨s_VX, f_VX, z_VX⟩ := VX.open
        go_wp2_with (first | (go_at_call 51; refine (l1In_ok _ _ _ _).mono ?_; rintro e wq ⟨rfl, rfl⟩) | (go_at_call 54; refine (l5Kids_ok _ _).mono ?_; rintro e wq ⟨rfl, rfl⟩) | fail)
        go_ret
        exact ⟨rfl, belowA _ _⟩
    · skip
      cases h0 : (t.n != 0)
      · skip
        cases hb : (t.b != 0)
        · skip
          cases hn : btw t.n 0 9999
          · skip
            have hr : tmC xs t = 3 := by
              unfold tmC tmForm tmRange tmSec ofSec
              rw [hm]
              simp [h1, hk, h0, hb, hn]
            rw [hr]
            clear hr
            obtain ⟨o, a, b, n⟩ := t
            simp only at *
            go_enter Tryd.func49, Tryd.ntmps49
            have VX := V.new w [.int .i64 o, .int .i64 a, .int .i64 b, .int .i64 n] 70
            obtain ⟨s_VX, f_VX, z_VX⟩ := VX.open
            go_wp2_with (first | (go_at_call 51; refine (l1In_ok _ _ _ _).mono ?_; rintro e wq ⟨rfl, rfl⟩) | (go_at_call 54; refine (l5Kids_ok _ _).mono ?_; rintro e wq ⟨rfl, rfl⟩) | fail)
            go_ret
            exact ⟨rfl, belowA _ _⟩
          · skip
            cases hba : btw t.a 0 ((m : Int) - 1)
            · skip
              have hr : tmC xs t = 3 := by
                unfold tmC tmForm tmRange tmSec ofSec
                rw [hm]
                simp [h1, hk, h0, hb, hn, hba]
              rw [hr]
              clear hr
              obtain ⟨o, a, b, n⟩ := t
              simp only at *
              go_enter Tryd.func49, Tryd.ntmps49
              have VX := V.new w [.int .i64 o, .int .i64 a, .int .i64 b, .int .i64 n] 70
              obtain ⟨s_VX, f_VX, z_VX⟩ := VX.open
              go_wp2_with (first | (go_at_call 51; refine (l1In_ok _ _ _ _).mono ?_; rintro e wq ⟨rfl, rfl⟩) | (go_at_call 54; refine (l5Kids_ok _ _).mono ?_; rintro e wq ⟨rfl, rfl⟩) | fail)
              go_ret
              exact ⟨rfl, belowA _ _⟩
            · skip
              have h6 : (t.o == 6) = true := by rcases kids_ways t.o with ⟨e, h⟩ | ⟨e, h⟩ | ⟨e, h⟩ | ⟨e, h⟩ | ⟨e, h⟩ | ⟨_, _, _, _, _, h⟩ <;> first | (rw [hk] at h; omega) | simp [e]
              cases hsa : ((tmAt xs t.a).o != 2)
              · skip
                have hr : tmC xs t = 0 := by
                  unfold tmC tmForm tmRange tmSec ofSec
                  rw [hm]
                  simp [h1, hk, h0, hb, hn, hba, h6, hsa]
                rw [hr]
                clear hr
                obtain ⟨o, a, b, n⟩ := t
                simp only at *
                have hR2 := hA
                rcases hR2 with hR2 | ⟨b2, o2, rfl, hcb⟩
                · simp [hR2] at hm; have := btw_iff.1 hba; omega
                have wa := btw_iff.1 hba
                obtain ⟨ja, rfl⟩ : ∃ j : Nat, a = (j : Int) := ⟨a.toNat, by omega⟩
                obtain ⟨xa, hxa⟩ : ∃ x, xs.getD ja zTerm = x := ⟨_, rfl⟩
                have ea : tmAt xs (ja : Int) = xa := hxa
                rw [ea] at hsa
                have hja : (ja : Int) < (m : Int) := by omega
                obtain ⟨qa, _, _, _⟩ := RdTerm.cells hcb ja (by omega) xa hxa
                clear hxa ea wa
                clear hcb
                go_enter Tryd.func49, Tryd.ntmps49
                have VX := V.new w [.int .i64 o, .int .i64 ja, .int .i64 b, .int .i64 n] 70
                obtain ⟨s_VX, f_VX, z_VX⟩ := VX.open
                have hlt0 := World.block_lt_of_cell? w _ qa
                have qa' := ((belowA w (.cells #[.int .i64 o, .int .i64 ja, .int .i64 b, .int .i64 n] 70)).cell (p := ⟨b2, o2 + ja * 4, none⟩) (World.block_lt_of_cell? w _ qa)).trans qa
                go_wp2_with (first | (go_at_call 51; refine (l1In_ok _ _ _ _).mono ?_; rintro e wq ⟨rfl, rfl⟩) | (go_at_call 54; refine (l5Kids_ok _ _).mono ?_; rintro e wq ⟨rfl, rfl⟩) | fail)
                go_ret
                exact ⟨rfl, belowA _ _⟩
              · skip
                have hr : tmC xs t = 1 := by
                  unfold tmC tmForm tmRange tmSec ofSec
                  rw [hm]
                  simp [h1, hk, h0, hb, hn, hba, h6, hsa]
                rw [hr]
                clear hr
                obtain ⟨o, a, b, n⟩ := t
                simp only at *
                have hR2 := hA
                rcases hR2 with hR2 | ⟨b2, o2, rfl, hcb⟩
                · simp [hR2] at hm; have := btw_iff.1 hba; omega
                have wa := btw_iff.1 hba
                obtain ⟨ja, rfl⟩ : ∃ j : Nat, a = (j : Int) := ⟨a.toNat, by omega⟩
                obtain ⟨xa, hxa⟩ : ∃ x, xs.getD ja zTerm = x := ⟨_, rfl⟩
                have ea : tmAt xs (ja : Int) = xa := hxa
                rw [ea] at hsa
                have hja : (ja : Int) < (m : Int) := by omega
                obtain ⟨qa, _, _, _⟩ := RdTerm.cells hcb ja (by omega) xa hxa
                clear hxa ea wa
                clear hcb
                go_enter Tryd.func49, Tryd.ntmps49
                have VX := V.new w [.int .i64 o, .int .i64 ja, .int .i64 b, .int .i64 n] 70
                obtain ⟨s_VX, f_VX, z_VX⟩ := VX.open
                have hlt0 := World.block_lt_of_cell? w _ qa
                have qa' := ((belowA w (.cells #[.int .i64 o, .int .i64 ja, .int .i64 b, .int .i64 n] 70)).cell (p := ⟨b2, o2 + ja * 4, none⟩) (World.block_lt_of_cell? w _ qa)).trans qa
                go_wp2_with (first | (go_at_call 51; refine (l1In_ok _ _ _ _).mono ?_; rintro e wq ⟨rfl, rfl⟩) | (go_at_call 54; refine (l5Kids_ok _ _).mono ?_; rintro e wq ⟨rfl, rfl⟩) | fail)
                go_ret
                exact ⟨rfl, belowA _ _⟩
        · skip
          have hr : tmC xs t = 1 := by
            unfold tmC tmForm tmRange tmSec ofSec
            rw [hm]
            simp [h1, hk, h0, hb]
          rw [hr]
          clear hr
          obtain ⟨o, a, b, n⟩ := t
          simp only at *
          go_enter Tryd.func49, Tryd.ntmps49
          have VX := V.new w [.int .i64 o, .int .i64 a, .int .i64 b, .int .i64 n] 70
          obtain ⟨s_VX, f_VX, z_VX⟩ := VX.open
          go_wp2_with (first | (go_at_call 51; refine (l1In_ok _ _ _ _).mono ?_; rintro e wq ⟨rfl, rfl⟩) | (go_at_call 54; refine (l5Kids_ok _ _).mono ?_; rintro e wq ⟨rfl, rfl⟩) | fail)
          go_ret
          exact ⟨rfl, belowA _ _⟩
      · skip
        have hr : tmC xs t = 1 := by
          unfold tmC tmForm tmRange tmSec ofSec
          rw [hm]
          simp [h1, hk, h0]
        rw [hr]
        clear hr
        obtain ⟨o, a, b, n⟩ := t
        simp only at *
        go_enter Tryd.func49, Tryd.ntmps49
        have VX := V.new w [.int .i64 o, .int .i64 a, .int .i64 b, .int .i64 n] 70
        obtain ⟨s_VX, f_VX, z_VX⟩ := VX.open
        go_wp2_with (first | (go_at_call 51; refine (l1In_ok _ _ _ _).mono ?_; rintro e wq ⟨rfl, rfl⟩) | (go_at_call 54; refine (l5Kids_ok _ _).mono ?_; rintro e wq ⟨rfl, rfl⟩) | fail)
        go_ret
        exact ⟨rfl, belowA _ _⟩
    · skip
      cases h0 : (t.n != 0)
      · skip
        cases hn : btw t.n 0 9999
        · skip
          have hr : tmC xs t = 3 := by
            unfold tmC tmForm tmRange tmSec ofSec
            rw [hm]
            simp [h1, hk, h0, hn]
          rw [hr]
          clear hr
          obtain ⟨o, a, b, n⟩ := t
          simp only at *
          go_enter Tryd.func49, Tryd.ntmps49
          have VX := V.new w [.int .i64 o, .int .i64 a, .int .i64 b, .int .i64 n] 70
          obtain ⟨s_VX, f_VX, z_VX⟩ := VX.open
          go_wp2_with (first | (go_at_call 51; refine (l1In_ok _ _ _ _).mono ?_; rintro e wq ⟨rfl, rfl⟩) | (go_at_call 54; refine (l5Kids_ok _ _).mono ?_; rintro e wq ⟨rfl, rfl⟩) | fail)
          go_ret
          exact ⟨rfl, belowA _ _⟩
        · skip
          cases hba : btw t.a 0 ((m : Int) - 1)
          · skip
            have hr : tmC xs t = 3 := by
              unfold tmC tmForm tmRange tmSec ofSec
              rw [hm]
              simp [h1, hk, h0, hn, hba]
            rw [hr]
            clear hr
            obtain ⟨o, a, b, n⟩ := t
            simp only at *
            go_enter Tryd.func49, Tryd.ntmps49
            have VX := V.new w [.int .i64 o, .int .i64 a, .int .i64 b, .int .i64 n] 70
            obtain ⟨s_VX, f_VX, z_VX⟩ := VX.open
            go_wp2_with (first | (go_at_call 51; refine (l1In_ok _ _ _ _).mono ?_; rintro e wq ⟨rfl, rfl⟩) | (go_at_call 54; refine (l5Kids_ok _ _).mono ?_; rintro e wq ⟨rfl, rfl⟩) | fail)
            go_ret
            exact ⟨rfl, belowA _ _⟩
          · skip
            cases hbb : btw t.b 0 ((m : Int) - 1)
            · skip
              have hr : tmC xs t = 3 := by
                unfold tmC tmForm tmRange tmSec ofSec
                rw [hm]
                simp [h1, hk, h0, hn, hba, hbb]
              rw [hr]
              clear hr
              obtain ⟨o, a, b, n⟩ := t
              simp only at *
              go_enter Tryd.func49, Tryd.ntmps49
              have VX := V.new w [.int .i64 o, .int .i64 a, .int .i64 b, .int .i64 n] 70
              obtain ⟨s_VX, f_VX, z_VX⟩ := VX.open
              go_wp2_with (first | (go_at_call 51; refine (l1In_ok _ _ _ _).mono ?_; rintro e wq ⟨rfl, rfl⟩) | (go_at_call 54; refine (l5Kids_ok _ _).mono ?_; rintro e wq ⟨rfl, rfl⟩) | fail)
              go_ret
              exact ⟨rfl, belowA _ _⟩
            · skip
              have h6 : (t.o == 6) = false := by unfold kids at hk; simp; intro h; simp [h] at hk
              cases h7 : (t.o == 7)
              · skip
                have hr : tmC xs t = 0 := by
                  unfold tmC tmForm tmRange tmSec ofSec
                  rw [hm]
                  simp [h1, hk, h0, hn, hba, hbb, h6, h7]
                rw [hr]
                clear hr
                obtain ⟨o, a, b, n⟩ := t
                simp only at *
                go_enter Tryd.func49, Tryd.ntmps49
                have VX := V.new w [.int .i64 o, .int .i64 a, .int .i64 b, .int .i64 n] 70
                obtain ⟨s_VX, f_VX, z_VX⟩ := VX.open
                go_wp2_with (first | (go_at_call 51; refine (l1In_ok _ _ _ _).mono ?_; rintro e wq ⟨rfl, rfl⟩) | (go_at_call 54; refine (l5Kids_ok _ _).mono ?_; rintro e wq ⟨rfl, rfl⟩) | fail)
                go_ret
                exact ⟨rfl, belowA _ _⟩
              · skip
                cases hsa : ((tmAt xs t.a).o != 2)
                · skip
                  cases hsb : ((tmAt xs t.b).o != 2)
                  · skip
                    cases hd : decide (t.b < t.a)
                    · skip
                      have hr : tmC xs t = 0 := by
                        unfold tmC tmForm tmRange tmSec ofSec
                        rw [hm]
                        simp [h1, hk, h0, hn, hba, hbb, h6, h7, hsa, hsb, hd]
                      rw [hr]
                      clear hr
                      obtain ⟨o, a, b, n⟩ := t
                      simp only at *
                      have hR2 := hA
                      rcases hR2 with hR2 | ⟨b2, o2, rfl, hcb⟩
                      · simp [hR2] at hm; have := btw_iff.1 hba; omega
                      have wa := btw_iff.1 hba
                      obtain ⟨ja, rfl⟩ : ∃ j : Nat, a = (j : Int) := ⟨a.toNat, by omega⟩
                      obtain ⟨xa, hxa⟩ : ∃ x, xs.getD ja zTerm = x := ⟨_, rfl⟩
                      have ea : tmAt xs (ja : Int) = xa := hxa
                      rw [ea] at hsa
                      have hja : (ja : Int) < (m : Int) := by omega
                      obtain ⟨qa, _, _, _⟩ := RdTerm.cells hcb ja (by omega) xa hxa
                      clear hxa ea wa
                      have wb := btw_iff.1 hbb
                      obtain ⟨jb, rfl⟩ : ∃ j : Nat, b = (j : Int) := ⟨b.toNat, by omega⟩
                      obtain ⟨xb, hxb⟩ : ∃ x, xs.getD jb zTerm = x := ⟨_, rfl⟩
                      have eb : tmAt xs (jb : Int) = xb := hxb
                      rw [eb] at hsb
                      have hjb : (jb : Int) < (m : Int) := by omega
                      obtain ⟨qb, _, _, _⟩ := RdTerm.cells hcb jb (by omega) xb hxb
                      clear hxb eb wb
                      clear hcb
                      have hd2 : ¬ ((jb : Int) < (ja : Int)) := by simpa using hd
                      have hd3 : decide (jb < ja) = false := by rw [decide_eq_false_iff_not]; omega
                      have hd4 : ¬ (jb < ja) := by omega
                      go_enter Tryd.func49, Tryd.ntmps49
                      have VX := V.new w [.int .i64 o, .int .i64 ja, .int .i64 jb, .int .i64 n] 70
                      obtain ⟨s_VX, f_VX, z_VX⟩ := VX.open
                      have hlt0 := World.block_lt_of_cell? w _ qa
                      have qa' := ((belowA w (.cells #[.int .i64 o, .int .i64 ja, .int .i64 jb, .int .i64 n] 70)).cell (p := ⟨b2, o2 + ja * 4, none⟩) (World.block_lt_of_cell? w _ qa)).trans qa
                      have qb' := ((belowA w (.cells #[.int .i64 o, .int .i64 ja, .int .i64 jb, .int .i64 n] 70)).cell (p := ⟨b2, o2 + jb * 4, none⟩) (World.block_lt_of_cell? w _ qb)).trans qb
                      go_wp2_with (first | (go_at_call 51; refine (l1In_ok _ _ _ _).mono ?_; rintro e wq ⟨rfl, rfl⟩) | (go_at_call 54; refine (l5Kids_ok _ _).mono ?_; rintro e wq ⟨rfl, rfl⟩) | fail)
                      go_ret
                      exact ⟨rfl, belowA _ _⟩
                    · skip
                      have hr : tmC xs t = 1 := by
                        unfold tmC tmForm tmRange tmSec ofSec
                        rw [hm]
                        simp [h1, hk, h0, hn, hba, hbb, h6, h7, hsa, hsb, hd]
                      rw [hr]
                      clear hr
                      obtain ⟨o, a, b, n⟩ := t
                      simp only at *
                      have hR2 := hA
                      rcases hR2 with hR2 | ⟨b2, o2, rfl, hcb⟩
                      · simp [hR2] at hm; have := btw_iff.1 hba; omega
                      have wa := btw_iff.1 hba
                      obtain ⟨ja, rfl⟩ : ∃ j : Nat, a = (j : Int) := ⟨a.toNat, by omega⟩
                      obtain ⟨xa, hxa⟩ : ∃ x, xs.getD ja zTerm = x := ⟨_, rfl⟩
                      have ea : tmAt xs (ja : Int) = xa := hxa
                      rw [ea] at hsa
                      have hja : (ja : Int) < (m : Int) := by omega
                      obtain ⟨qa, _, _, _⟩ := RdTerm.cells hcb ja (by omega) xa hxa
                      clear hxa ea wa
                      have wb := btw_iff.1 hbb
                      obtain ⟨jb, rfl⟩ : ∃ j : Nat, b = (j : Int) := ⟨b.toNat, by omega⟩
                      obtain ⟨xb, hxb⟩ : ∃ x, xs.getD jb zTerm = x := ⟨_, rfl⟩
                      have eb : tmAt xs (jb : Int) = xb := hxb
                      rw [eb] at hsb
                      have hjb : (jb : Int) < (m : Int) := by omega
                      obtain ⟨qb, _, _, _⟩ := RdTerm.cells hcb jb (by omega) xb hxb
                      clear hxb eb wb
                      clear hcb
                      have hd4 : jb < ja := by simpa using hd
                      go_enter Tryd.func49, Tryd.ntmps49
                      have VX := V.new w [.int .i64 o, .int .i64 ja, .int .i64 jb, .int .i64 n] 70
                      obtain ⟨s_VX, f_VX, z_VX⟩ := VX.open
                      have hlt0 := World.block_lt_of_cell? w _ qa
                      have qa' := ((belowA w (.cells #[.int .i64 o, .int .i64 ja, .int .i64 jb, .int .i64 n] 70)).cell (p := ⟨b2, o2 + ja * 4, none⟩) (World.block_lt_of_cell? w _ qa)).trans qa
                      have qb' := ((belowA w (.cells #[.int .i64 o, .int .i64 ja, .int .i64 jb, .int .i64 n] 70)).cell (p := ⟨b2, o2 + jb * 4, none⟩) (World.block_lt_of_cell? w _ qb)).trans qb
                      go_wp2_with (first | (go_at_call 51; refine (l1In_ok _ _ _ _).mono ?_; rintro e wq ⟨rfl, rfl⟩) | (go_at_call 54; refine (l5Kids_ok _ _).mono ?_; rintro e wq ⟨rfl, rfl⟩) | fail)
                      go_ret
                      exact ⟨rfl, belowA _ _⟩
                  · skip
                    have hr : tmC xs t = 1 := by
                      unfold tmC tmForm tmRange tmSec ofSec
                      rw [hm]
                      simp [h1, hk, h0, hn, hba, hbb, h6, h7, hsa, hsb]
                    rw [hr]
                    clear hr
                    obtain ⟨o, a, b, n⟩ := t
                    simp only at *
                    have hR2 := hA
                    rcases hR2 with hR2 | ⟨b2, o2, rfl, hcb⟩
                    · simp [hR2] at hm; have := btw_iff.1 hba; omega
                    have wa := btw_iff.1 hba
                    obtain ⟨ja, rfl⟩ : ∃ j : Nat, a = (j : Int) := ⟨a.toNat, by omega⟩
                    obtain ⟨xa, hxa⟩ : ∃ x, xs.getD ja zTerm = x := ⟨_, rfl⟩
                    have ea : tmAt xs (ja : Int) = xa := hxa
                    rw [ea] at hsa
                    have hja : (ja : Int) < (m : Int) := by omega
                    obtain ⟨qa, _, _, _⟩ := RdTerm.cells hcb ja (by omega) xa hxa
                    clear hxa ea wa
                    have wb := btw_iff.1 hbb
                    obtain ⟨jb, rfl⟩ : ∃ j : Nat, b = (j : Int) := ⟨b.toNat, by omega⟩
                    obtain ⟨xb, hxb⟩ : ∃ x, xs.getD jb zTerm = x := ⟨_, rfl⟩
                    have eb : tmAt xs (jb : Int) = xb := hxb
                    rw [eb] at hsb
                    have hjb : (jb : Int) < (m : Int) := by omega
                    obtain ⟨qb, _, _, _⟩ := RdTerm.cells hcb jb (by omega) xb hxb
                    clear hxb eb wb
                    clear hcb
                    go_enter Tryd.func49, Tryd.ntmps49
                    have VX := V.new w [.int .i64 o, .int .i64 ja, .int .i64 jb, .int .i64 n] 70
                    obtain ⟨s_VX, f_VX, z_VX⟩ := VX.open
                    have hlt0 := World.block_lt_of_cell? w _ qa
                    have qa' := ((belowA w (.cells #[.int .i64 o, .int .i64 ja, .int .i64 jb, .int .i64 n] 70)).cell (p := ⟨b2, o2 + ja * 4, none⟩) (World.block_lt_of_cell? w _ qa)).trans qa
                    have qb' := ((belowA w (.cells #[.int .i64 o, .int .i64 ja, .int .i64 jb, .int .i64 n] 70)).cell (p := ⟨b2, o2 + jb * 4, none⟩) (World.block_lt_of_cell? w _ qb)).trans qb
                    go_wp2_with (first | (go_at_call 51; refine (l1In_ok _ _ _ _).mono ?_; rintro e wq ⟨rfl, rfl⟩) | (go_at_call 54; refine (l5Kids_ok _ _).mono ?_; rintro e wq ⟨rfl, rfl⟩) | fail)
                    go_ret
                    exact ⟨rfl, belowA _ _⟩
                · skip
                  have hr : tmC xs t = 1 := by
                    unfold tmC tmForm tmRange tmSec ofSec
                    rw [hm]
                    simp [h1, hk, h0, hn, hba, hbb, h6, h7, hsa]
                  rw [hr]
                  clear hr
                  obtain ⟨o, a, b, n⟩ := t
                  simp only at *
                  have hR2 := hA
                  rcases hR2 with hR2 | ⟨b2, o2, rfl, hcb⟩
                  · simp [hR2] at hm; have := btw_iff.1 hba; omega
                  have wa := btw_iff.1 hba
                  obtain ⟨ja, rfl⟩ : ∃ j : Nat, a = (j : Int) := ⟨a.toNat, by omega⟩
                  obtain ⟨xa, hxa⟩ : ∃ x, xs.getD ja zTerm = x := ⟨_, rfl⟩
                  have ea : tmAt xs (ja : Int) = xa := hxa
                  rw [ea] at hsa
                  have hja : (ja : Int) < (m : Int) := by omega
                  obtain ⟨qa, _, _, _⟩ := RdTerm.cells hcb ja (by omega) xa hxa
                  clear hxa ea wa
                  clear hcb
                  go_enter Tryd.func49, Tryd.ntmps49
                  have VX := V.new w [.int .i64 o, .int .i64 ja, .int .i64 b, .int .i64 n] 70
                  obtain ⟨s_VX, f_VX, z_VX⟩ := VX.open
                  have hlt0 := World.block_lt_of_cell? w _ qa
                  have qa' := ((belowA w (.cells #[.int .i64 o, .int .i64 ja, .int .i64 b, .int .i64 n] 70)).cell (p := ⟨b2, o2 + ja * 4, none⟩) (World.block_lt_of_cell? w _ qa)).trans qa
                  go_wp2_with (first | (go_at_call 51; refine (l1In_ok _ _ _ _).mono ?_; rintro e wq ⟨rfl, rfl⟩) | (go_at_call 54; refine (l5Kids_ok _ _).mono ?_; rintro e wq ⟨rfl, rfl⟩) | fail)
                  go_ret
                  exact ⟨rfl, belowA _ _⟩
      · skip
        have hr : tmC xs t = 1 := by
          unfold tmC tmForm tmRange tmSec ofSec
          rw [hm]
          simp [h1, hk, h0]
        rw [hr]
        clear hr
        obtain ⟨o, a, b, n⟩ := t
        simp only at *
        go_enter Tryd.func49, Tryd.ntmps49
        have VX := V.new w [.int .i64 o, .int .i64 a, .int .i64 b, .int .i64 n] 70
        obtain ⟨s_VX, f_VX, z_VX⟩ := VX.open
        go_wp2_with (first | (go_at_call 51; refine (l1In_ok _ _ _ _).mono ?_; rintro e wq ⟨rfl, rfl⟩) | (go_at_call 54; refine (l5Kids_ok _ _).mono ?_; rintro e wq ⟨rfl, rfl⟩) | fail)
        go_ret
        exact ⟨rfl, belowA _ _⟩

end Go.Proofs.YthjaehcfakjemaaDoor
