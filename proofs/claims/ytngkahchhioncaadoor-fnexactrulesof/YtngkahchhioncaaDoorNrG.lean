/- Rows of selectors marked, and the marks held. -/
import Derived.Test.YtngkahchhioncaaDoorNrD
namespace Go.Proofs.YtngkahchhioncaaDoor
open Go.RowKit

theorem grownThen {w w1 : World} {row : Option Nat} (h : w.grownBy w1 row) {p : Addr} (hp : row = some p.block) (v : Value) : w.grownBy (w1.setCell p v) row :=
  grownBy_trans h ⟨rfl, rfl, rfl, by simp [World.setCell], fun k _ hk => Below.heap_setCell _ _ _ _ (fun e => hk (by rw [hp, e]))⟩

/-- A selector of marks. -/
def m9 (p : Int) : S9 := ⟨p, p + 1, p + 1 + 1, p + 1 + 1 + 1, p + 1 + 1 + 1 + 1, p + 1 + 1 + 1 + 1 + 1, p + 1 + 1 + 1 + 1 + 1 + 1, p + 1 + 1 + 1 + 1 + 1 + 1 + 1, p + 1 + 1 + 1 + 1 + 1 + 1 + 1 + 1⟩

/-- Selectors of marks. -/
def marksS (q : Int) (n : Nat) : List S9 := (List.range n).map fun (i : Nat) => m9 (q + 9 * (i : Int))

theorem marksS_len (q : Int) (n : Nat) : (marksS q n).length = n := by simp [marksS]

theorem marksS_at (q : Int) (n k : Nat) (h : k < n) : (marksS q n).getD k z9 = m9 (q + 9 * (k : Int)) := by
  simp [marksS, List.getD, h]

/-- A row of which the first 'k' are marked. -/
def fillM (q : Int) (k : Nat) (xs : List S9) : List S9 := marksS q k ++ xs.drop k

theorem fillM_zero (q : Int) (xs : List S9) : fillM q 0 xs = xs := by simp [fillM, marksS]

theorem fillM_all (q : Int) (xs : List S9) (n : Nat) (h : xs.length = n) : fillM q n xs = marksS q n := by simp [fillM, ← h]

theorem fillM_len (q : Int) (k : Nat) (xs : List S9) (n : Nat) (h : xs.length = n) (hk : k ≤ n) : (fillM q k xs).length = n := by
  simp [fillM, marksS_len]; omega

theorem fillM_set (q : Int) (k : Nat) (xs : List S9) (h : k < xs.length) : (fillM q k xs).set k (m9 (q + 9 * (k : Int))) = fillM q (k + 1) xs := by
  unfold fillM
  rw [List.set_append_right _ _ (by rw [marksS_len]; exact Nat.le_refl _), marksS_len, Nat.sub_self, drop_cons9 xs k h, List.set_cons_zero]
  simp [marksS, List.range_succ]

theorem fillM_at (q : Int) (k : Nat) (xs : List S9) : (fillM q k xs).getD k z9 = xs.getD k z9 := by
  unfold fillM
  simp only [List.getD]
  rw [List.getElem?_append_right (by rw [marksS_len]; exact Nat.le_refl _), marksS_len, Nat.sub_self, List.getElem?_drop, Nat.add_zero]

set_option maxRecDepth 20000 in
set_option maxHeartbeats 4000000 in
theorem markSelS_ok (a : Option Addr) (n ca base : Nat) (xs : List S9) (q : Int) (w : World) (ha : OwnL w base a ca xs) (hn : xs.length = n) (h0 : 0 ≤ q) (hx : q + 9 * (n : Int) ≤ 1099511627776) :
    Calls Tryd.prog 95 #[.slice a n ca, .int .i64 q] w fun e w' => e = .returned (.int .i64 (q + 9 * (n : Int))) ∧ OwnL w' base a ca (marksS q n) ∧ w.grownBy w' (a.map Addr.block) := by
  go_enter Tryd.func95, Tryd.ntmps95
  go_wp2
  go_loopw [1, 5] (fun p i wr => ∃ k : Nat, k ≤ n ∧ i = .int .i64 k ∧ p = .int .i64 (q + 9 * (k : Int)) ∧ OwnL wr base a ca (fillM q k xs) ∧ w.grownBy wr (a.map Addr.block)) (fun _ i _ => n - (intOf i).toNat)
  case atStart => exact ⟨0, Nat.zero_le _, rfl, by simp, by rw [fillM_zero]; exact ha, World.grownBy.refl _ _⟩
  case round =>
    clear ha
    obtain ⟨k, hk, rfl, rfl, O, B⟩ := hrel
    by_cases hlt : k < n
    · obtain ⟨p, hp⟩ : ∃ p, q + 9 * (k : Int) = p := ⟨_, rfl⟩
      have hp0 : 0 ≤ p := by omega
      have hp1 : p + 9 ≤ 1099511627776 := by omega
      have hl := fillM_len q k xs n hn hk
      have hset := fillM_set q k xs (by omega)
      rw [hp] at hset ⊢
      have hO := O
      unfold OwnL at hO
      rw [hl] at hO
      obtain ⟨g, cap, hv, hgb, hgl⟩ := World.ownsRow.form hO (by omega)
      simp only [Value.slice.injEq, true_and] at hv
      obtain ⟨rfl, rfl⟩ := hv
      obtain ⟨x, hx1⟩ : ∃ x, (fillM q k xs).getD k z9 = x := ⟨_, rfl⟩
      have HS : Hid (set9 (flat (fillM q k xs)) (k * 9) (m9 p) = flat (fillM q (k + 1) xs)) := Hid.mk (by rw [← hset]; exact set9_flat _ _ _ (by omega))
      have zF := fun o => hO.frozenAt o
      have cF : ∀ j, j < 9 → wr.cell? ⟨g, k * 9 + j, none⟩ = (rowV x)[j]? := fun j hj => by
        rw [hO.cellAt (k * 9 + j) (by omega), flat_at _ k j (by omega) hj, hx1]
      have hk1 : (k : Int) < (n : Int) := by omega
      have c0 : wr.cell? ⟨g, k * 9, none⟩ = some (.int .i64 x.a) := cF 0 (by decide)
      have c1 : wr.cell? ⟨g, k * 9 + 1, none⟩ = some (.int .i64 x.b) := cF 1 (by decide)
      have c2 : wr.cell? ⟨g, k * 9 + 2, none⟩ = some (.int .i64 x.c) := cF 2 (by decide)
      have c3 : wr.cell? ⟨g, k * 9 + 3, none⟩ = some (.int .i64 x.d) := cF 3 (by decide)
      have c4 : wr.cell? ⟨g, k * 9 + 4, none⟩ = some (.int .i64 x.e) := cF 4 (by decide)
      have c5 : wr.cell? ⟨g, k * 9 + 5, none⟩ = some (.int .i64 x.f) := cF 5 (by decide)
      have c6 : wr.cell? ⟨g, k * 9 + 6, none⟩ = some (.int .i64 x.g) := cF 6 (by decide)
      have c7 : wr.cell? ⟨g, k * 9 + 7, none⟩ = some (.int .i64 x.h) := cF 7 (by decide)
      have c8 : wr.cell? ⟨g, k * 9 + 8, none⟩ = some (.int .i64 x.r) := cF 8 (by decide)
      have HN := stored9 hO k (m9 p)
      rw [HS.out] at HN
      dsimp only [m9] at HN
      have hl1 := fillM_len q (k + 1) xs n hn (by omega)
      replace HN := Hid.mk HN
      replace hl1 := Hid.mk hl1
      replace B := Hid.mk B
      have HP := Hid.mk hp
      clear cF O hO hset hl hx1 HS hp
      go_wp2
      go_roundw
      case rel =>
        refine ⟨k + 1, by omega, by go_num, ?_, ?_, ?_⟩
        · have h := HP.out
          go_num
        · unfold OwnL
          rw [hl1.out]
          exact HN.out
        · replace B := B.out
          clear HN hl1 HP c0 c1 c2 c3 c4 c5 c6 c7 c8 zF
          simp only [Option.map_some] at B ⊢
          iterate 9 (with_reducible refine grownThen ?_ rfl _)
          exact B
      case measure => simp [intOf]; omega
    · have hkn : k = n := by omega
      subst hkn
      rw [fillM_all q xs k hn] at O
      go_wp2
      go_ret
      exact ⟨rfl, O, B⟩

set_option maxRecDepth 20000 in
set_option maxHeartbeats 4000000 in
theorem heldSelS_ok (a : Option Addr) (n ca : Nat) (q : Int) (w : World) (ha : RdL w a (marksS q n)) (h0 : 0 ≤ q) (hx : q + 9 * (n : Int) ≤ 1099511627776) :
    Calls Tryd.prog 96 #[.slice a n ca, .int .i64 q] w fun e w' => e = .returned (.int .i64 (q + 9 * (n : Int))) ∧ Below w.heap.size w w' := by
  go_enter Tryd.func96, Tryd.ntmps96
  go_wp2
  go_loopw [1, 5] (fun p i wr => ∃ k : Nat, k ≤ n ∧ i = .int .i64 k ∧ p = .int .i64 (q + 9 * (k : Int)) ∧ Below w.heap.size w wr) (fun _ i _ => n - (intOf i).toNat)
  case atStart => exact ⟨0, Nat.zero_le _, rfl, by simp, Below.refl _ _⟩
  case round =>
    obtain ⟨k, hk, rfl, rfl, B⟩ := hrel
    by_cases hlt : k < n
    · obtain ⟨p, hp⟩ : ∃ p, q + 9 * (k : Int) = p := ⟨_, rfl⟩
      have hp0 : 0 ≤ p := by omega
      have hp1 : p + 9 ≤ 1099511627776 := by omega
      have hm := marksS_at q n k hlt
      rw [hp] at hm ⊢
      replace ha := ha.kept B
      rcases ha with ha | ⟨b1, o1, rfl, hca⟩
      · have := marksS_len q n; simp [ha] at this; omega
      obtain ⟨p0, p1, p2, p3, p4, p5, p6, p7, p8⟩ := RdL.nine hca k (by rw [marksS_len]; omega) (m9 p) hm
      dsimp only [m9] at p0 p1 p2 p3 p4 p5 p6 p7 p8
      have hk1 : (k : Int) < (n : Int) := by omega
      have HP := Hid.mk hp
      clear hca hm hp
      go_wp2
      go_roundw
      case rel =>
        refine ⟨k + 1, by omega, by go_num, ?_, B⟩
        have h := HP.out
        go_num
      case measure => simp [intOf]; omega
    · have hkn : k = n := by omega
      subst hkn
      go_wp2
      go_ret
      exact ⟨rfl, B⟩

set_option maxHeartbeats 1000000 in
theorem eqSelsResult_ok (k : Int) (a b : Option Addr) (n ca cb : Nat) (xs : List S9) (w : World) (ha : RdL w a xs) (hb : RdL w b xs) (hn : xs.length = n) (hx : n ≤ maxLen) :
    Calls Tryd.prog 50 #[.agg #[.int .i64 k, .slice a n ca], .agg #[.int .i64 k, .slice b n cb]] w fun e w' => e = .returned (.bool true) ∧ Below w.heap.size w w' := by
  go_enter Tryd.func50, Tryd.ntmps50
  have B := Below.refl w.heap.size w
  replace ha := ha.kept (belowA w (.cells #[.int .i64 k, .slice a n ca] 81))
  replace hb := hb.kept (belowA w (.cells #[.int .i64 k, .slice a n ca] 81))
  replace B := thenB B (belowA w (.cells #[.int .i64 k, .slice a n ca] 81))
  have VX := V.new w [.int .i64 k, .slice a n ca] 81
  replace VX := VX.kept (belowA (w.alloc (.cells #[.int .i64 k, .slice a n ca] 81)) (.cells #[.int .i64 k, .slice b n cb] 81))
  replace ha := ha.kept (belowA (w.alloc (.cells #[.int .i64 k, .slice a n ca] 81)) (.cells #[.int .i64 k, .slice b n cb] 81))
  replace hb := hb.kept (belowA (w.alloc (.cells #[.int .i64 k, .slice a n ca] 81)) (.cells #[.int .i64 k, .slice b n cb] 81))
  replace B := thenB B (belowA (w.alloc (.cells #[.int .i64 k, .slice a n ca] 81)) (.cells #[.int .i64 k, .slice b n cb] 81))
  have VY : V ((w.alloc (.cells #[.int .i64 k, .slice a n ca] 81)).alloc (.cells #[.int .i64 k, .slice b n cb] 81)) (w.heap.size + 1) [.int .i64 k, .slice b n cb] := V.newAt _ _ _ _ (by simp)
  obtain ⟨s_VX, f_VX, z_VX⟩ := VX.open
  obtain ⟨s_VY, f_VY, z_VY⟩ := VY.open
  have Bo := B
  go_wp2_with fail
  refine (eqSelS_ok a b n ca cb xs _ ha hb hn hx).mono ?_
  rintro e w1 ⟨rfl, b1⟩
  clear s_VX f_VX z_VX s_VY f_VY z_VY
  have S1 := b1.size
  simp only [World.size_alloc] at S1
  replace VX := VX.kept b1
  replace VY := VY.kept b1
  replace ha := ha.kept b1
  replace hb := hb.kept b1
  replace B := thenB B b1
  clear b1
  obtain ⟨s_VX, f_VX, z_VX⟩ := VX.open
  obtain ⟨s_VY, f_VY, z_VY⟩ := VY.open
  have Bo := B
  go_wp2
  go_ret
  exact ⟨rfl, Bo⟩

set_option maxHeartbeats 1000000 in
theorem markSelsResult_ok (k : Int) (a : Option Addr) (n ca base : Nat) (xs : List S9) (q : Int) (w : World) (ha : OwnL w base a ca xs) (hn : xs.length = n) (h0 : 0 ≤ q) (hx : q + 9 * (n : Int) ≤ 1099511627776) :
    Calls Tryd.prog 51 #[.agg #[.int .i64 k, .slice a n ca], .int .i64 q] w fun e w' => e = .returned (.int .i64 (q + 9 * (n : Int))) ∧ OwnL w' base a ca (marksS q n) ∧ w.grownBy w' (a.map Addr.block) := by
  have VX := V.new w [.int .i64 k, .slice a n ca] 81
  replace ha := ha.kept (belowA w (.cells #[.int .i64 k, .slice a n ca] 81))
  obtain ⟨s_VX, f_VX, z_VX⟩ := VX.open
  go_enter Tryd.func51, Tryd.ntmps51
  go_wp2_with fail
  refine (markSelS_ok a n ca base xs q _ ha hn h0 hx).mono ?_
  rintro e w1 ⟨rfl, O, b1⟩
  go_wp2
  go_ret
  exact ⟨rfl, O, grownBy_trans (Below.grownBy (belowA w _) _) b1⟩

set_option maxHeartbeats 1000000 in
theorem heldSelsResult_ok (k : Int) (a : Option Addr) (n ca : Nat) (q : Int) (w : World) (ha : RdL w a (marksS q n)) (h0 : 0 ≤ q) (hx : q + 9 * (n : Int) ≤ 1099511627776) :
    Calls Tryd.prog 52 #[.agg #[.int .i64 k, .slice a n ca], .int .i64 q] w fun e w' => e = .returned (.int .i64 (q + 9 * (n : Int))) ∧ Below w.heap.size w w' := by
  have VX := V.new w [.int .i64 k, .slice a n ca] 81
  have B := belowA w (.cells #[.int .i64 k, .slice a n ca] 81)
  replace ha := ha.kept B
  obtain ⟨s_VX, f_VX, z_VX⟩ := VX.open
  have hneg : ¬ (q + 9 * (n : Int)) < 0 := by omega
  go_enter Tryd.func52, Tryd.ntmps52
  go_wp2_with fail
  refine (heldSelS_ok a n ca q _ ha h0 hx).mono ?_
  rintro e w1 ⟨rfl, b1⟩
  go_wp2
  go_ret
  exact ⟨rfl, thenB B b1⟩

end Go.Proofs.YtngkahchhioncaaDoor
