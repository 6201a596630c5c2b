/- 'RulesResult' held against one another and marked; one rule put behind others at one operation; whether a number is in a list. -/
import Derived.Test.YtngkahchhioncaaDoorRuleH
import Derived.Test.YtngkahchhioncaaDoorIntH
import Derived.Test.YtngkahchhioncaaDoorVar
namespace Go.Proofs.YtngkahchhioncaaDoor
open Go.RowKit

set_option maxHeartbeats 1000000 in
theorem eqRulesResult_ok (k : Int) (a b : Option Addr) (n ca cb : Nat) (xs : List R11) (w : World) (ha : RdRule w a xs) (hb : RdRule w b xs) (hn : xs.length = n) (hx : n ≤ maxLen) :
    Calls Tryd.prog 42 #[.agg #[.int .i64 k, .slice a n ca], .agg #[.int .i64 k, .slice b n cb]] w fun e w' => e = .returned (.bool true) ∧ Below w.heap.size w w' := by
  go_enter Tryd.func42, Tryd.ntmps42
  have B := Below.refl w.heap.size w
  replace ha := ha.kept (belowA w (.cells #[.int .i64 k, .slice a n ca] 45))
  replace hb := hb.kept (belowA w (.cells #[.int .i64 k, .slice a n ca] 45))
  replace B := thenB B (belowA w (.cells #[.int .i64 k, .slice a n ca] 45))
  have VX := V.new w [.int .i64 k, .slice a n ca] 45
  replace VX := VX.kept (belowA (w.alloc (.cells #[.int .i64 k, .slice a n ca] 45)) (.cells #[.int .i64 k, .slice b n cb] 45))
  replace ha := ha.kept (belowA (w.alloc (.cells #[.int .i64 k, .slice a n ca] 45)) (.cells #[.int .i64 k, .slice b n cb] 45))
  replace hb := hb.kept (belowA (w.alloc (.cells #[.int .i64 k, .slice a n ca] 45)) (.cells #[.int .i64 k, .slice b n cb] 45))
  replace B := thenB B (belowA (w.alloc (.cells #[.int .i64 k, .slice a n ca] 45)) (.cells #[.int .i64 k, .slice b n cb] 45))
  have VY : V ((w.alloc (.cells #[.int .i64 k, .slice a n ca] 45)).alloc (.cells #[.int .i64 k, .slice b n cb] 45)) (w.heap.size + 1) [.int .i64 k, .slice b n cb] := V.newAt _ _ _ _ (by simp)
  obtain ⟨s_VX, f_VX, z_VX⟩ := VX.open
  obtain ⟨s_VY, f_VY, z_VY⟩ := VY.open
  have Bo := B
  go_wp2_with fail
  refine (eqRuleS_ok a b n ca cb xs _ ha hb hn hx).mono ?_
  rintro e w1 ⟨rfl, b1⟩
  clear s_VX f_VX z_VX s_VY f_VY z_VY
  have S1 := b1.size
  simp only [World.size_alloc] at S1
  replace VX := VX.kept b1
  replace VY := VY.kept b1
  replace ha := ha.kept b1
  replace hb := hb.kept b1
  replace B := thenB B b1
  clear b1
  obtain ⟨s_VX, f_VX, z_VX⟩ := VX.open
  obtain ⟨s_VY, f_VY, z_VY⟩ := VY.open
  have Bo := B
  go_wp2
  go_ret
  exact ⟨rfl, Bo⟩

set_option maxHeartbeats 1000000 in
theorem markRulesResult_ok (k : Int) (a : Option Addr) (n ca base : Nat) (xs : List R11) (q : Int) (w : World) (ha : OwnRule w base a ca xs) (hn : xs.length = n) (h0 : 0 ≤ q) (hx : q + 11 * (n : Int) ≤ 1099511627776) :
    Calls Tryd.prog 43 #[.agg #[.int .i64 k, .slice a n ca], .int .i64 q] w fun e w' => e = .returned (.int .i64 (q + 11 * (n : Int))) ∧ OwnRule w' base a ca (marksRule q n) ∧ w.grownBy w' (a.map Addr.block) := by
  have VX := V.new w [.int .i64 k, .slice a n ca] 45
  replace ha := ha.kept (belowA w (.cells #[.int .i64 k, .slice a n ca] 45))
  obtain ⟨s_VX, f_VX, z_VX⟩ := VX.open
  go_enter Tryd.func43, Tryd.ntmps43
  go_wp2_with fail
  refine (markRuleS_ok a n ca base xs q _ ha hn h0 hx).mono ?_
  rintro e w1 ⟨rfl, O, b1⟩
  go_wp2
  go_ret
  exact ⟨rfl, O, grownBy_trans (Below.grownBy (belowA w _) _) b1⟩

set_option maxHeartbeats 1000000 in
theorem heldRulesResult_ok (k : Int) (a : Option Addr) (n ca : Nat) (q : Int) (w : World) (ha : RdRule w a (marksRule q n)) (h0 : 0 ≤ q) (hx : q + 11 * (n : Int) ≤ 1099511627776) :
    Calls Tryd.prog 44 #[.agg #[.int .i64 k, .slice a n ca], .int .i64 q] w fun e w' => e = .returned (.int .i64 (q + 11 * (n : Int))) ∧ Below w.heap.size w w' := by
  have VX := V.new w [.int .i64 k, .slice a n ca] 45
  have B := belowA w (.cells #[.int .i64 k, .slice a n ca] 45)
  replace ha := ha.kept B
  obtain ⟨s_VX, f_VX, z_VX⟩ := VX.open
  have hneg : ¬ (q + 11 * (n : Int)) < 0 := by omega
  go_enter Tryd.func44, Tryd.ntmps44
  go_wp2_with fail
  refine (heldRuleS_ok a n ca q _ ha h0 hx).mono ?_
  rintro e w1 ⟨rfl, b1⟩
  go_wp2
  go_ret
  exact ⟨rfl, thenB B b1⟩

/-- One rule is put behind the rules of a row of one's own: at one operation. -/
theorem wp_putRule {o : Oper} {a : Act} {K : Act → World → Prop} {Q : Exit → Act → World → Prop} (w : World) (s x : Operand)
    (ho : o.op = .call { callee := .builtin .append, args := #[s, x], argTypes := #[24, 24] })
    (base : Nat) (c : Option Addr) (d : Nat) (xs : List R11) (n : Nat) (hn : xs.length = n) (hs : a.eval s = .slice c n d) (hown : OwnRule w base c d xs)
    (ad : Addr) (cc : Nat) (p : R11) (hx : a.eval x = .slice (some ad) 1 cc) (hp : ∀ j u, (rowRule p)[j]? = some u → w.cell? (ad.add j) = some u)
    (hlen : n ≤ 1000000) (hbase : base ≤ w.heap.size)
    (h : ∀ c' d' w', OwnRule w' base c' d' (xs ++ [p]) → w.grownBy w' (c.map Addr.block) → Hid (∃ g, c' = some ⟨g, 0, none⟩ ∧ ((∃ a, c = some a ∧ a.block = g) ∨ g = w.heap.size) ∧ g < w'.heap.size) → K (a.put o.dst (.slice c' (n + 1) d')) w') : o.wp Tryd.prog a w K Q := by
  subst hn
  obtain ⟨i, hi, hz, hsz, hby⟩ : ∃ i, Tryd.prog.info? 34 = some i ∧ i.zero = some (.agg #[.int .i64 0, .int .i64 0, .int .i64 0, .int .i64 0, .int .i64 0, .int .i64 0, .int .i64 0, .int .i64 0, .int .i64 0, .int .i64 0, .int .i64 0]) ∧ i.size = 11 ∧ i.bytes = 88 := by
    have h := Tryd.infoRule
    cases he : Tryd.prog.info? 34 with
    | none => rw [he] at h; cases h
    | some i =>
      rw [he] at h
      simp only [Option.map_some, Option.some.injEq, Prod.mk.injEq] at h
      exact ⟨i, rfl, h.1, h.2.1, h.2.2⟩
  refine wp_append_lies w s x 24 ho base 34 i _ 11 88 Tryd.underlying24 hi hz hsz hby (by rfl) (by decide) (.slice c xs.length d) xs.length (flatRule xs) hs hown ad 1 cc (rowRule p) hx rfl hp ?_ (by decide) (by unfold maxLen; omega) (by omega) hbase _ rfl ?_
  · intro u hu
    simp only [rowRule, List.mem_cons, List.not_mem_nil, or_false] at hu
    rcases hu with rfl | rfl | rfl | rfl | rfl | rfl | rfl | rfl | rfl | rfl | rfl <;> rfl
  · intro g cap w' h1 h2 h3 h4
    have e1 : (xs ++ [p]).length = xs.length + 1 := by simp
    have e2 : flatRule xs ++ rowRule p = flatRule (xs ++ [p]) := by rw [flatRule_app]; simp [flatRule]
    have h2' : w.grownBy w' (c.map Addr.block) := by cases c <;> exact h2
    refine h _ _ w' ?_ h2' (Hid.mk ⟨g, rfl, ?_, h4⟩)
    · unfold OwnRule; rw [e1, ← e2]; exact h1
    · rcases h3 with h3 | h3
      · left; cases c with
        | none => cases h3
        | some b => exact ⟨b, rfl, by simpa [Value.ownBlock] using h3⟩
      · exact .inr h3

/-- A number is in a list. -/
def inL (zs : List Int) (v : Int) : Bool := zs.any fun z => z == v

theorem inL_drop (zs : List Int) (v : Int) (k : Nat) (h : k < zs.length) {z : Int} (hz : zs.getD k 0 = z) : inL (zs.drop k) v = ((z == v) || inL (zs.drop (k + 1)) v) := by
  unfold inL
  rw [List.drop_eq_getElem_cons h, List.any_cons]
  have e : zs[k] = z := by rw [← hz]; simp [List.getD, h]
  rw [e]

theorem l1Has_ok (a : Option Addr) (n ca : Nat) (zs : List Int) (v : Int) (w : World) (ha : Rd .i64 w a zs) (hn : zs.length = n) (hx : n ≤ maxLen) :
    Calls Tryd.prog 69 #[.slice a n ca, .int .i64 v] w fun e w' => e = .returned (.bool (inL zs v)) ∧ Below w.heap.size w w' := by
  unfold maxLen at hx
  go_enter Tryd.func69, Tryd.ntmps69
  go_wp2
  go_loopw [5] (fun i wr => ∃ k : Nat, k ≤ n ∧ i = .int .i64 k ∧ inL (zs.drop k) v = inL zs v ∧ Below w.heap.size w wr) (fun i _ => n - (intOf i).toNat)
  case atStart => exact ⟨0, Nat.zero_le _, rfl, rfl, Below.refl _ _⟩
  case round =>
    obtain ⟨k, hk, rfl, hdr, B⟩ := hrel
    by_cases hlt : k < n
    · obtain ⟨z, hz⟩ : ∃ z, zs.getD k 0 = z := ⟨_, rfl⟩
      have hk1 : (k : Int) < (n : Int) := by omega
      have hs := inL_drop zs v k (by omega) hz
      rw [hdr] at hs
      replace ha := ha.kept B
      rcases ha with ha | ⟨b1, o1, rfl, hca⟩
      · simp [ha] at hn; omega
      have p0 := hca k (by omega)
      rw [hz] at p0
      clear hca hz hdr
      cases hg : (z == v)
      · rw [hg, Bool.false_or] at hs
        have HS := Hid.mk hs
        clear hs
        go_wp2
        go_roundw
        case rel => exact ⟨k + 1, by omega, by go_num, HS.out.symm, B⟩
        case measure => simp [intOf]; omega
      · rw [hg, Bool.true_or] at hs
        have HS := Hid.mk hs
        clear hs
        go_wp2
        go_ret
        exact ⟨ret_bool HS.out.symm, B⟩
    · have hkn : k = n := by omega
      subst hkn
      rw [List.drop_of_length_le (by omega)] at hdr
      have HS := Hid.mk hdr
      clear hdr
      go_wp2
      go_ret
      exact ⟨ret_bool HS.out, B⟩

/-- The place of a number in a list, or -1. -/
def atL : List Int → Int → Int → Int
  | [], _, _ => -1
  | z :: zs, v, k => if z == v then k else atL zs v (k + 1)

theorem atL_in (zs : List Int) (v k : Int) (h : 0 ≤ k) : decide (0 ≤ atL zs v k) = inL zs v := by
  induction zs generalizing k with
  | nil => rfl
  | cons z zs ih =>
    unfold atL inL
    rw [List.any_cons]
    cases hz : (z == v)
    · simp only [Bool.false_eq_true, if_false, Bool.false_or]; exact ih (k + 1) (by omega)
    · simp [h]

theorem atL_drop (zs : List Int) (v : Int) (k : Nat) (h : k < zs.length) {z : Int} (hz : zs.getD k 0 = z) : atL (zs.drop k) v k = if (z == v) = true then (k : Int) else atL (zs.drop (k + 1)) v ((k + 1 : Nat) : Int) := by
  rw [List.drop_eq_getElem_cons h, atL]
  have e : zs[k] = z := by rw [← hz]; simp [List.getD, h]
  rw [e]; rfl

theorem index_ok (a : Option Addr) (n ca : Nat) (zs : List Int) (v : Int) (w : World) (ha : Rd .i64 w a zs) (hn : zs.length = n) (hx : n ≤ maxLen) :
    Calls Tryd.prog 111 #[.slice a n ca, .int .i64 v] w fun e w' => e = .returned (.int .i64 (atL zs v 0)) ∧ Below w.heap.size w w' := by
  unfold maxLen at hx
  go_enter Tryd.func111, Tryd.ntmps111
  go_wp2
  go_loopw [8] (fun i wr => ∃ k : Nat, k ≤ n ∧ i = .int .i64 k ∧ atL (zs.drop k) v k = atL zs v 0 ∧ Below w.heap.size w wr) (fun i _ => n - (intOf i).toNat)
  case atStart => exact ⟨0, Nat.zero_le _, rfl, rfl, Below.refl _ _⟩
  case round =>
    obtain ⟨k, hk, rfl, hdr, B⟩ := hrel
    by_cases hlt : k < n
    · obtain ⟨z, hz⟩ : ∃ z, zs.getD k 0 = z := ⟨_, rfl⟩
      have hk1 : (k : Int) < (n : Int) := by omega
      have hs := atL_drop zs v k (by omega) hz
      rw [hdr] at hs
      replace ha := ha.kept B
      rcases ha with ha | ⟨b1, o1, rfl, hca⟩
      · simp [ha] at hn; omega
      have p0 := hca k (by omega)
      rw [hz] at p0
      clear hca hz hdr
      cases hg : (z == v)
      · have hg2 : (v == z) = false := by rw [Bool.beq_comm]; exact hg
        rw [hg, if_neg (by simp)] at hs
        have HS := Hid.mk hs
        clear hs
        go_wp2
        go_roundw
        case rel => exact ⟨k + 1, by omega, by go_num, HS.out.symm, B⟩
        case measure => simp [intOf]; omega
      · have hg2 : (v == z) = true := by rw [Bool.beq_comm]; exact hg
        rw [hg, if_pos rfl] at hs
        have HS := Hid.mk hs
        clear hs
        go_wp2
        go_ret
        exact ⟨ret_int HS.out.symm, B⟩
    · have hkn : k = n := by omega
      subst hkn
      rw [List.drop_of_length_le (by omega)] at hdr
      have HS := Hid.mk hdr
      clear hdr
      go_wp2
      go_ret
      exact ⟨ret_int HS.out, B⟩

theorem contains_ok (a : Option Addr) (n ca : Nat) (zs : List Int) (v : Int) (w : World) (ha : Rd .i64 w a zs) (hn : zs.length = n) (hx : n ≤ maxLen) :
    Calls Tryd.prog 67 #[.slice a n ca, .int .i64 v] w fun e w' => e = .returned (.bool (inL zs v)) ∧ Below w.heap.size w w' := by
  have CI := Hid.mk (index_ok a n ca zs v w ha hn hx)
  have hd := atL_in zs v 0 (Int.le_refl _)
  generalize atL zs v 0 = i at *
  rw [← hd]
  clear hd
  go_enter Tryd.func67, Tryd.ntmps67
  go_wp2_with fail
  refine CI.out.mono ?_
  rintro e w1 ⟨rfl, b1⟩
  go_wp2
  go_ret
  exact ⟨rfl, b1⟩

end Go.Proofs.YtngkahchhioncaaDoor
