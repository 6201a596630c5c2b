/- Put together: TpA, TpB. -/
import Derived.Test.YthjaehcfakjemaaDoorFmi
import Derived.Test.YthjaehcfakjemaaDoorTmW
import Derived.Test.YthjaehcfakjemaaDoorTmQ
import Derived.Maps.OwnSet
import Derived.Test.YthjaehcfakjemaaDoorTmK
import Derived.Test.YthjaehcfakjemaaDoorApp
import Derived.Laws.AppendOwnNone

/- The parts of a term: the model. -/
namespace Go.Proofs.YthjaehcfakjemaaDoor
open Go.RowKit

theorem Tryd.infoBool : (Tryd.prog.info? 4).map (fun i => (i.zero, i.size, i.bytes)) = some (some (.bool false), 1, 1) := by kernel_rfl

/-- The marks as values. -/
def bvL (xs : List T4) (r k : Nat) : List Value := (List.range (r + 1)).map fun i => .bool (mks xs r k i)

theorem bvL_len (xs : List T4) (r k : Nat) : (bvL xs r k).length = r + 1 := by simp [bvL]

theorem bvL_at (xs : List T4) (r k j : Nat) (h : j < r + 1) : (bvL xs r k)[j]? = some (.bool (mks xs r k j)) := by simp [bvL, h]

theorem bvL_ext {xs : List T4} {r k : Nat} {vs : List Value} (hl : vs.length = r + 1) (h : ∀ j, j < r + 1 → vs[j]? = some (.bool (mks xs r k j))) : bvL xs r k = vs := by
  apply List.ext_getElem?
  intro j
  by_cases hj : j < r + 1
  · rw [bvL_at xs r k j hj, h j hj]
  · rw [List.getElem?_eq_none (by rw [bvL_len]; omega), List.getElem?_eq_none (by omega)]

theorem bv_zero (xs : List T4) (r : Nat) : bvL xs r 0 = (List.replicate (r + 1) (Value.bool false)).set r (.bool true) := by
  refine bvL_ext (by simp) (fun j hj => ?_)
  by_cases e : j = r
  · subst e; rw [List.getElem?_set_self (by simp)]; simp [mks]
  · rw [List.getElem?_set_ne (by omega)]
    simp [hj, mks, e]

theorem bv_no {xs : List T4} {r k : Nat} (h : mks xs r k (r - k) = false) : bvL xs r (k + 1) = bvL xs r k := by
  refine bvL_ext (bvL_len _ _ _) (fun j hj => ?_)
  rw [bvL_at xs r k j hj]; simp [mks, h]

theorem bv_0 {xs : List T4} {r k : Nat} (_h : mks xs r k (r - k) = true) {x : T4} (hx : xs.getD (r - k) zTerm = x) (hp : plc x = []) : bvL xs r (k + 1) = bvL xs r k := by
  refine bvL_ext (bvL_len _ _ _) (fun j hj => ?_)
  rw [bvL_at xs r k j hj, mks, hx, hp]; simp

theorem bv_1 {xs : List T4} {r k : Nat} (h : mks xs r k (r - k) = true) {x : T4} (hx : xs.getD (r - k) zTerm = x) {a : Nat} (hp : plc x = [(a : Int)]) : bvL xs r (k + 1) = (bvL xs r k).set a (.bool true) := by
  refine bvL_ext (by rw [List.length_set, bvL_len]) (fun j hj => ?_)
  rw [mks, hx, hp, h]
  by_cases e : a = j
  · subst e; rw [List.getElem?_set_self (by rw [bvL_len]; exact hj)]; simp
  · rw [List.getElem?_set_ne e, bvL_at xs r k j hj]
    have : ((a : Int) == (j : Int)) = false := by simp; omega
    simp [this]

theorem bv_2 {xs : List T4} {r k : Nat} (h : mks xs r k (r - k) = true) {x : T4} (hx : xs.getD (r - k) zTerm = x) {a b : Nat} (hp : plc x = [(a : Int), (b : Int)]) : bvL xs r (k + 1) = ((bvL xs r k).set a (.bool true)).set b (.bool true) := by
  refine bvL_ext (by rw [List.length_set, List.length_set, bvL_len]) (fun j hj => ?_)
  rw [mks, hx, hp, h]
  by_cases e2 : b = j
  · subst e2; rw [List.getElem?_set_self (by rw [List.length_set, bvL_len]; exact hj)]; simp
  · rw [List.getElem?_set_ne e2]
    have h2 : ((b : Int) == (j : Int)) = false := by simp; omega
    by_cases e : a = j
    · subst e; rw [List.getElem?_set_self (by rw [bvL_len]; exact hj)]; simp
    · rw [List.getElem?_set_ne e, bvL_at xs r k j hj]
      have : ((a : Int) == (j : Int)) = false := by simp; omega
      simp [this, h2]

theorem plc_0 {x : T4} (h : kids x.o = 0) : plc x = [] := by unfold plc; rw [h]; simp
theorem plc_1 {x : T4} (h : kids x.o = 1) : plc x = [x.a] := by unfold plc; rw [h]; simp
theorem plc_2 {x : T4} (h : kids x.o = 2) : plc x = [x.a, x.b] := by unfold plc; rw [h]; simp

theorem cell_far {w : World} {b x B y : Nat} (h : b ≠ B) (v : Value) : (w.setCell ⟨B, y, none⟩ v).cell? ⟨b, x, none⟩ = w.cell? ⟨b, x, none⟩ := by
  rw [World.cell?_setCell_other w _ _ _ (by simp)]
  all_goals simp [h]

/-- The parts among the first k places. -/
def prK (xs : List T4) (r k : Nat) : List Int := ((List.range k).filter fun i => mks xs r (r + 1) i).map fun i : Nat => (i : Int)

theorem prK_next (xs : List T4) (r k : Nat) : prK xs r (k + 1) = prK xs r k ++ (if mks xs r (r + 1) k = true then [(k : Int)] else []) := by
  unfold prK
  rw [List.range_succ, List.filter_append, List.map_append]
  cases h : mks xs r (r + 1) k <;> simp [h]

theorem prK_all (xs : List T4) (r : Nat) : prK xs r (r + 1) = prL xs r := by unfold prL prK; rfl

theorem prK_len (xs : List T4) (r k : Nat) : (prK xs r k).length ≤ k := by
  unfold prK
  rw [List.length_map]
  have := List.length_filter_le (fun i => mks xs r (r + 1) i) (List.range k)
  simpa using this

set_option maxRecDepth 20000 in
set_option maxHeartbeats 8000000 in
theorem l5Parts_ok (a : Option Addr) (n ca : Nat) (xs : List T4) (r : Nat) (w : World) (ha : RdTerm w a xs) (hn : xs.length = n) (hv : tfC xs = 0) (hr : r < n) (hlow : Hid (∀ b : Addr, a = some b → b.block < w.heap.size)) :
    Calls Tryd.prog 52 #[.slice a n ca, .int .i64 r] w fun e w' => ∃ c d k, e = .returned (.slice c k d) ∧ (prL xs r).length = k ∧ Own .i64 2 w' w.heap.size c d (prL xs r) ∧ Below w.heap.size w w' := by
  have hn4 : n ≤ 400 := by have := (tfC_zero hv).1; omega
  have HAh := Hid.mk (tfC_ahead hv)
  have HA := Hid.mk ha
  obtain ⟨Q, hQ⟩ : ∃ Q, w.heap.size = Q := ⟨_, rfl⟩
  have BQ := Hid.mk hQ
  rw [hQ] at hlow ⊢
  obtain ⟨i0, hi, hz0, hz1, hz2⟩ := info_parts Tryd.infoBool
  have hr1 : (r : Int) < (r : Int) + 1 := by omega
  have hr2 : (0 : Int) ≤ (r : Int) := by omega
  clear ha hv
  go_enter Tryd.func52, Tryd.ntmps52
  go_wp2_with (at_make; go_loud (refine wpList_make_full _ rfl _ _ 103 rfl Q 4 i0 (.bool false) 1 Tryd.underlying103 hi hz0 hz1 .i64 .i64 _ _ (r + 1) rfl rfl (by omega) (by omega) (by rw [hz2]; omega) (by unfold maxLen; omega) (by omega) ?_))
  intro w1 hown hgrow
  have hown0 : w1.ownsRow Q 4 1 (.slice (some ⟨Q, 0, none⟩) (r + 1) (r + 1)) (r + 1) (List.replicate (r + 1) (Value.bool false)) := by simpa [toList_madeCells_one] using hown
  have B1 : Below Q w w1 := (Below.refl Q w).grown hgrow (by omega) (by intro k hk; cases hk)
  have cz := hown0.cellAt r (by omega)
  rw [List.getElem?_eq_getElem (by simp)] at cz
  simp only [List.getElem_replicate] at cz
  have fz := hown0.frozenAt r
  have hown1 := (hown0.stored r (.bool true)).1
  rw [← bv_zero xs r] at hown1
  have B2 := B1.setCell (p := ⟨Q, r, none⟩) (Nat.le_refl _) (.bool true)
  replace hown1 := Hid.mk hown1
  replace B2 := Hid.mk B2
  clear hown hown0 hgrow B1 hi hz0 hz1 hz2
  go_wp2
  clear cz fz
  go_loopw [6] (fun i wr => ∃ k : Nat, k ≤ r + 1 ∧ i = .int .i64 ((r : Int) - (k : Int)) ∧ wr.ownsRow Q 4 1 (.slice (some ⟨Q, 0, none⟩) (r + 1) (r + 1)) (r + 1) (bvL xs r k) ∧ Below Q w wr) (fun i _ => (intOf i + 1).toNat)
  case atStart => exact ⟨0, by omega, by simp, hown1.out, B2.out⟩
  case round =>
    clear hown1 B2
    obtain ⟨k, hk, rfl, hown, B⟩ := hrel
    by_cases hlt : k < r + 1
    · have ei : (r : Int) - (k : Int) = ((r - k : Nat) : Int) := by omega
      rw [ei]
      have hi0 : (0 : Int) ≤ ((r - k : Nat) : Int) := by omega
      have hil : ((r - k : Nat) : Int) < (r : Int) + 1 := by omega
      have hin : ((r - k : Nat) : Int) < (n : Int) := by omega
      obtain ⟨x, hx1⟩ : ∃ x, xs.getD (r - k) zTerm = x := ⟨_, rfl⟩
      have hx2 := Hid.mk hx1
      have p9 := hown.cellAt (r - k) (by omega)
      rw [bvL_at xs r k (r - k) (by omega)] at p9
      rcases HA.out.kept (hQ ▸ B) with h0 | ⟨b1, o1, rfl, hca2⟩
      · rw [h0] at hn; simp at hn; omega
      obtain ⟨p0, p1, p2, p3⟩ := RdTerm.cells hca2 (r - k) (by omega) x hx1
      obtain ⟨hA1, hB1⟩ := HAh.out (r - k) (by omega)
      rw [hx1] at hA1 hB1
      clear hca2 hx1 ei
      cases hm : mks xs r k (r - k)
      · rw [hm] at p9
        have hnx := Hid.mk (bv_no hm)
        replace hown := Hid.mk hown
        clear hm hA1 hB1
        go_wp2
        go_roundw
        case rel => exact ⟨k + 1, by omega, congrArg (Value.int IntKind.i64) (by omega), by rw [hnx.out]; exact hown.out, B⟩
        case measure => first | (simp [intOf]; done) | (simp [intOf]; omega)
      · rw [hm] at p9
        rcases kids_cases x.o with hk2 | hk2 | hk2
        · skip
          have hpl := plc_0 hk2
          have hnx := bv_0 hm (x := x) hx2.out hpl
          have hown2 := hown
          rw [← hnx] at hown2
          replace hown2 := Hid.mk hown2
          have B2 := Hid.mk B
          clear hown hnx B hA1 hB1 hpl hm
          go_wp2_with (first | (go_at_call 54; refine (l5Kids_ok _ _).mono ?_; rintro e wq ⟨rfl, rfl⟩) | fail)
          go_roundw
          case rel => exact ⟨k + 1, by omega, congrArg (Value.int IntKind.i64) (by omega), hown2.out, B2.out⟩
          case measure => first | (simp [intOf]; done) | (simp [intOf]; omega)
        · skip
          have hpl := plc_1 hk2
          have hA2 := hA1 (by omega)
          obtain ⟨ja, hja⟩ : ∃ j : Nat, x.a = (j : Int) := ⟨x.a.toNat, by omega⟩
          have hjr : ja < r + 1 := by omega
          rw [hja] at hpl p1
          have hnx := bv_1 hm (x := x) hx2.out hpl
          have hown2 := hown
          have fz := hown.frozenAt ja
          have cz : ∃ v, wr.cell? ⟨Q, ja, none⟩ = some (.bool v) := ⟨_, by rw [hown.cellAt ja (by omega)]; exact bvL_at xs r k ja hjr⟩
          obtain ⟨va, cz⟩ := cz
          replace hown2 := (hown2.stored ja (.bool true)).1
          rw [← hnx] at hown2
          replace hown2 := Hid.mk hown2
          have B2 := Hid.mk (B.setCell (p := ⟨Q, ja, none⟩) (by simp only; omega) (.bool true))
          have hjl : (ja : Int) < (r : Int) + 1 := by omega
          have hbl := World.block_lt_of_cell? _ _ p0
          have hbq : b1 ≠ Q := by have := hlow.out _ rfl; simp only at this hbl; omega
          have q0 : (wr.setCell ⟨Q, ja, none⟩ (.bool true)).cell? ⟨b1, o1 + (r - k) * 4, none⟩ = some (.int .i64 x.o) := (cell_far hbq _).trans p0
          clear hown hnx B hA1 hB1 hpl hm
          go_wp2_with (first | (go_at_call 54; refine (l5Kids_ok _ _).mono ?_; rintro e wq ⟨rfl, rfl⟩) | fail)
          go_roundw
          case rel => exact ⟨k + 1, by omega, congrArg (Value.int IntKind.i64) (by omega), hown2.out, B2.out⟩
          case measure => first | (simp [intOf]; done) | (simp [intOf]; omega)
        · skip
          have hpl := plc_2 hk2
          have hA2 := hA1 (by omega)
          obtain ⟨ja, hja⟩ : ∃ j : Nat, x.a = (j : Int) := ⟨x.a.toNat, by omega⟩
          have hjr : ja < r + 1 := by omega
          have hB2 := hB1 (by omega)
          obtain ⟨jb, hjb⟩ : ∃ j : Nat, x.b = (j : Int) := ⟨x.b.toNat, by omega⟩
          have hjrb : jb < r + 1 := by omega
          rw [hja, hjb] at hpl
          rw [hja] at p1
          rw [hjb] at p2
          have hnx := bv_2 hm (x := x) hx2.out hpl
          have hown2 := hown
          have fz := hown.frozenAt ja
          have cz : ∃ v, wr.cell? ⟨Q, ja, none⟩ = some (.bool v) := ⟨_, by rw [hown.cellAt ja (by omega)]; exact bvL_at xs r k ja hjr⟩
          obtain ⟨va, cz⟩ := cz
          replace hown2 := (hown2.stored ja (.bool true)).1
          have fz2 := hown.frozenAt jb
          have cz2 : ∃ v, wr.cell? ⟨Q, jb, none⟩ = some (.bool v) := ⟨_, by rw [hown.cellAt jb (by omega)]; exact bvL_at xs r k jb hjrb⟩
          obtain ⟨vb, cz2⟩ := cz2
          replace hown2 := (hown2.stored jb (.bool true)).1
          have cz3 : ∃ v, (wr.setCell ⟨Q, ja, none⟩ (.bool true)).cell? ⟨Q, jb, none⟩ = some (.bool v) := by
            by_cases e : jb = ja
            · subst e; exact ⟨_, World.cell?_setCell_same wr _ _ cz⟩
            · rw [World.cell?_setCell_other wr _ _ _ (by simp)]
              · exact ⟨_, cz2⟩
              all_goals simp [e]
          obtain ⟨vc, cz3⟩ := cz3
          rw [← hnx] at hown2
          replace hown2 := Hid.mk hown2
          have B2 := Hid.mk ((B.setCell (p := ⟨Q, ja, none⟩) (by simp only; omega) (.bool true)).setCell (p := ⟨Q, jb, none⟩) (by simp only; omega) (.bool true))
          have hjl : (ja : Int) < (r : Int) + 1 := by omega
          have hbl := World.block_lt_of_cell? _ _ p0
          have hbq : b1 ≠ Q := by have := hlow.out _ rfl; simp only at this hbl; omega
          have q0 : (wr.setCell ⟨Q, ja, none⟩ (.bool true)).cell? ⟨b1, o1 + (r - k) * 4, none⟩ = some (.int .i64 x.o) := (cell_far hbq _).trans p0
          have q2 : (wr.setCell ⟨Q, ja, none⟩ (.bool true)).cell? ⟨b1, o1 + (r - k) * 4 + 2, none⟩ = some (.int .i64 (jb : Int)) := (cell_far hbq _).trans p2
          have fz3 : (wr.setCell ⟨Q, ja, none⟩ (.bool true)).frozen? ⟨Q, jb, none⟩ = false := by simpa [go_sem] using fz2
          have hjl2 : (jb : Int) < (r : Int) + 1 := by omega
          clear cz2 fz2
          clear hown hnx B hA1 hB1 hpl hm
          go_wp2_with (first | (go_at_call 54; refine (l5Kids_ok _ _).mono ?_; rintro e wq ⟨rfl, rfl⟩) | fail)
          go_roundw
          case rel => exact ⟨k + 1, by omega, congrArg (Value.int IntKind.i64) (by omega), hown2.out, B2.out⟩
          case measure => first | (simp [intOf]; done) | (simp [intOf]; omega)
    · obtain rfl : k = r + 1 := by omega
      have ei : (r : Int) - ((r + 1 : Nat) : Int) = -1 := by omega
      rw [ei]
      have OL := OwnI.lit wr [] [] rfl (Nat.zero_le _)
      have hsz := B.size
      replace OL := Hid.mk OL
      have hown2 := Hid.mk (World.ownsRow.kept hown (Below.grownBy (belowA wr (.cells #[] 2)) none) (.inr (by simp [Value.ownBlock])))
      have hqw := (hown.lt Q (by simp [Value.ownBlock])).2
      have B2 := Hid.mk (B.alloc (show Q ≤ wr.heap.size by omega) (.cells #[] 2))
      have hqr := Hid.mk hqw
      generalize hR : wr.heap.size = R at *
      clear hown B hsz hqw
      have hQR := Hid.mk (show Q < R from hqr.out)
      clear hqr
      go_wp2
      go_loopw [7, 8] (fun s i wr => ∃ (k j d : Nat) (c : Option Addr), k ≤ r + 1 ∧ i = .int .i64 k ∧ s = .slice c j d ∧ Hid ((prK xs r k).length = j) ∧ Own .i64 2 wr R c d (prK xs r k) ∧ wr.ownsRow Q 4 1 (.slice (some ⟨Q, 0, none⟩) (r + 1) (r + 1)) (r + 1) (bvL xs r (r + 1)) ∧ Below Q w wr ∧ R ≤ wr.heap.size) (fun _ i _ => r + 1 - (intOf i).toNat)
      case atStart => exact ⟨0, 0, 0, some ⟨R, 0, none⟩, Nat.zero_le _, rfl, rfl, Hid.mk rfl, OL.out, hown2.out, B2.out, by rw [World.size_alloc]; omega⟩
      case round =>
        clear OL hown2 B2 hR
        obtain ⟨k, j, d, c, hk, rfl, rfl, hj, O, hown, B, hRw⟩ := hrel
        by_cases hlt : k < r + 1
        · have hle : (k : Int) ≤ (r : Int) := by omega
          have hkl : (k : Int) < (r : Int) + 1 := by omega
          have p9 := hown.cellAt k (by omega)
          rw [bvL_at xs r (r + 1) k hlt] at p9
          have hnx := prK_next xs r k
          have hjk := prK_len xs r k
          cases hm : mks xs r (r + 1) k
          · rw [hm] at p9 hnx
            simp only [Bool.false_eq_true, if_false, List.append_nil] at hnx
            have HNX := Hid.mk hnx
            have HO := Hid.mk O
            have HW := Hid.mk hown
            clear hnx hm O hown
            go_wp2
            go_roundw
            case rel => exact ⟨k + 1, j, d, c, by omega, by go_num, rfl, Hid.mk (by rw [HNX.out]; exact hj.out), by rw [HNX.out]; exact HO.out, HW.out, B, hRw⟩
            case measure => first | (simp [intOf]; done) | (simp [intOf]; omega)
          · rw [hm] at p9 hnx
            simp only [if_true] at hnx
            have HNX := Hid.mk hnx
            have hj4 : j ≤ 400 := by have := hj.out; omega
            have O2 := O.kept (belowA wr (.cells #[.int .i64 k] 2))
            have B2 := B.alloc (show Q ≤ wr.heap.size by have := hQR.out; omega) (.cells #[.int .i64 k] 2)
            have W2 := World.ownsRow.kept hown (Below.grownBy (belowA wr (.cells #[.int .i64 k] 2)) none) (.inr (by simp [Value.ownBlock]))
            have TL : R ≤ (wr.alloc (.cells #[.int .i64 k] 2)).heap.size := by rw [World.size_alloc]; omega
            replace B2 := Hid.mk B2
            replace O2 := Hid.mk O2
            replace W2 := Hid.mk W2
            clear hnx hm O hown B
            go_wp2_with (at_builtin; go_loud (refine wpList_putI _ rfl _ _ rfl R c d (prK xs r k) j hj.out rfl O2.out _ 1 (k : Int) rfl (cell_one' _ _ _ 0 _ rfl) (by omega) TL ?_))
            intro c4 d4 w4 O4 hg4 hx4
            have B4 := Hid.mk (B2.out.grown hg4 (by have := hQR.out; omega) (fun q hq => by have hl := O2.out.lt; cases c with | none => cases hq | some b => simp at hq; subst hq; have := (hl b rfl).1; have := hQR.out; omega))
            have W4 := Hid.mk (World.ownsRow.kept W2.out hg4 (.inr (by simp only [Value.ownBlock]; intro e; have hl := O2.out.lt; cases c with | none => cases e | some b => simp at e; have := (hl b rfl).1; have := hQR.out; omega)))
            have S4 := Hid.mk (Nat.le_trans TL hg4.size)
            rw [← HNX.out] at O4
            replace O4 := Hid.mk O4
            have J4 : Hid ((prK xs r (k + 1)).length = j + 1) := Hid.mk (by rw [HNX.out, List.length_append, hj.out]; rfl)
            clear hg4 hx4 TL
            go_wp2
            go_roundw
            case rel => exact ⟨k + 1, j + 1, d4, c4, by omega, by go_num, rfl, J4, O4.out, W4.out, B4.out, S4.out⟩
            case measure => first | (simp [intOf]; done) | (simp [intOf]; omega)
        · obtain rfl : k = r + 1 := by omega
          have hgt : ¬ (((r + 1 : Nat) : Int) ≤ (r : Int)) := by omega
          rw [prK_all] at O hj
          have HO := Hid.mk (O.mono (base' := Q) (by have := hQR.out; omega))
          have hg2 : ¬ ((r : Int) + 1 ≤ (r : Int)) := by omega
          clear O hown
          go_wp2
          go_ret
          exact ⟨c, d, j, rfl, hj.out, HO.out, B⟩

end Go.Proofs.YthjaehcfakjemaaDoor

/- The parts of a term: the program takes them. -/
namespace Go.Proofs.YthjaehcfakjemaaDoor
open Go.RowKit

theorem wpList_putsI {ops : Array Oper} {rest : List Oper} {o : Oper} {a : Act} {Q : Exit → Act → World → Prop} (w : World) (hgd : o.guard = none) (s x : Operand)
    (ho : o.op = .call { callee := .builtin .append, args := #[s, x], argTypes := #[38, 38] })
    (base : Nat) (c : Option Addr) (d : Nat) (xs : List Int) (n : Nat) (hn : xs.length = n) (hs : a.eval s = .slice c n d) (hown : Own .i64 2 w base c d xs)
    (b off m cc : Nat) (ys : List Int) (hx : a.eval x = .slice (some ⟨b, off, none⟩) m cc) (hr : Rd .i64 w (some ⟨b, off, none⟩) ys) (hm : ys.length = m) (hm0 : 0 < m)
    (hlen : n + m ≤ 1000000) (hbase : base ≤ w.heap.size)
    (h : ∀ c' d' w', Own .i64 2 w' base c' d' (xs ++ ys) → w.grownBy w' (c.map Addr.block) → Hid (∃ g, c' = some ⟨g, 0, none⟩ ∧ ((∃ a, c = some a ∧ a.block = g) ∨ g = w.heap.size) ∧ g < w'.heap.size) → wpList Tryd.prog ops Q rest (a.put o.dst (.slice c' (n + m) d')) w') : wpList Tryd.prog ops Q (o :: rest) a w := by
  subst hn
  subst hm
  obtain ⟨i, hi, hz, hsz, hby⟩ : ∃ i, Tryd.prog.info? 2 = some i ∧ i.zero = some (.int .i64 0) ∧ i.size = 1 ∧ i.bytes = 8 := by
    have h := Tryd.infoI64
    cases he : Tryd.prog.info? 2 with
    | none => rw [he] at h; cases h
    | some i =>
      rw [he] at h
      simp only [Option.map_some, Option.some.injEq, Prod.mk.injEq] at h
      exact ⟨i, rfl, h.1, h.2.1, h.2.2⟩
  refine wpList_append_lies w hgd s x 38 ho base 2 i _ 1 8 Tryd.underlying38 hi hz hsz hby (by rfl) (by decide) (.slice c xs.length d) xs.length (xs.map (Value.int .i64)) hs hown ⟨b, off, none⟩ ys.length cc (ys.map (Value.int .i64)) hx (by simp) (fun j u hj => ?_) (ints_oneCell _ _) hm0 (by unfold maxLen; omega) (by omega) hbase _ rfl ?_
  · rcases hr with h0 | ⟨b', off', h0, hcell⟩
    · subst h0; simp at hj
    · simp only [Option.some.injEq, Addr.mk.injEq, and_true] at h0
      obtain ⟨rfl, rfl⟩ := h0
      have hj' : j < ys.length := by
        rcases Nat.lt_or_ge j ys.length with h | h
        · exact h
        · simp [List.getElem?_eq_none h] at hj
      rw [Addr.add_lit, hcell j hj']
      simp [hj'] at hj
      subst hj
      simp [List.getD, hj']
  · intro g cap w' h1 h2 h3 h4
    have e1 : (xs ++ ys).length = xs.length + ys.length := by simp
    have h2' : w.grownBy w' (c.map Addr.block) := by cases c <;> exact h2
    refine h _ _ w' ?_ h2' (Hid.mk ⟨g, rfl, ?_, h4⟩)
    · unfold Own; rw [e1, List.map_append]; exact h1
    · rcases h3 with h3 | h3
      · left; cases c with
        | none => cases h3
        | some b => exact ⟨b, rfl, by simpa [Value.ownBlock] using h3⟩
      · exact .inr h3

/-- Nothing is put behind the others. -/
theorem wpList_put0I {ops : Array Oper} {rest : List Oper} {o : Oper} {a : Act} {Q : Exit → Act → World → Prop} (w : World) (hgd : o.guard = none) (s x : Operand)
    (ho : o.op = .call { callee := .builtin .append, args := #[s, x], argTypes := #[38, 38] })
    (base : Nat) (c : Option Addr) (d : Nat) (xs : List Int) (n : Nat) (hn : xs.length = n) (hs : a.eval s = .slice c n d) (hown : Own .i64 2 w base c d xs) (hx : a.eval x = .slice none 0 0)
    (h : wpList Tryd.prog ops Q rest (a.put o.dst (.slice c n d)) w) : wpList Tryd.prog ops Q (o :: rest) a w := by
  subst hn
  obtain ⟨i, hi, _⟩ : ∃ i, Tryd.prog.info? 2 = some i ∧ True := by
    have h := Tryd.infoI64
    cases he : Tryd.prog.info? 2 with
    | none => rw [he] at h; cases h
    | some i => exact ⟨i, rfl, trivial⟩
  have hr2 := run_append_owned_none (P := Tryd.prog) w base 38 o.type 2 i 1 Tryd.underlying38 hi _ _ _ hown
  refine wpList_plain hgd fun K hK => ?_
  unfold Oper.wp execOp
  simp only [ho, resolve, invoke, builtin, Sem.run_bind, Sem.run_pure, Result.andThen_ok, List.map_toArray, List.map_cons, List.map_nil, hs, hx, hr2]
  exact hK _ _ h

theorem Sm.grownNew {X : Nat → Prop} {w0 w w' : World} {row : Option Nat} (h : Sm X w0 w) (hg : w.grownBy w' row) (hr : ∀ q, row = some q → w0.heap.size ≤ q) : Sm X w0 w' :=
  ⟨hg.os.trans h.os, hg.tape.trans h.tape, hg.output.trans h.output, Nat.le_trans h.size hg.size, fun k hk hx => (hg.block k (Nat.lt_of_lt_of_le hk h.size) (fun e => by have := hr k e.symm; omega)).trans (h.block k hk hx)⟩

/-- What a call of 'takeParts' leaves. -/
def TookAt (xs : List T4) (r : Nat) (T : List Int) (b : Nat) (w : World) (e : Ending) (w' : World) : Prop :=
  ∃ (c : Option Addr) (d k : Nat) (ps : List Int), e = .returned (.slice c k d) ∧ ps.length = k ∧ ((c = none ∧ d = 0 ∧ k = 0) ∨ (0 < k ∧ ∃ g, c = some ⟨g, 0, none⟩)) ∧ Own .i64 2 w' w.heap.size c d ps ∧ Took xs r T ps ∧ (∃ cnt', TM w' b (lftM xs (ps ++ T)) cnt') ∧ Sm (fun q => q = b) w w'

set_option maxRecDepth 20000 in
set_option maxHeartbeats 8000000 in
theorem takeParts_ok (xs : List T4) (n : Nat) (hn : xs.length = n) (hv : tfC xs = 0) (hok : ∀ t ∈ xs, okT t) (r : Nat) : ∀ (T : List Int) (a : Option Addr) (ca b cnt : Nat) (w : World), r < n → RdTerm w a xs → (∀ ad : Addr, a = some ad → ad.block ≠ b) → TM w b (lftM xs T) cnt →
    Calls Tryd.prog 61 #[.slice a n ca, .int .i64 r, .map (some b)] w (TookAt xs r T b w) := by
  induction r using Nat.strongRecOn with
  | _ r IH =>
    intro T a ca b cnt w hr ha hab hT
    have hn4 : n ≤ 400 := by have := (tfC_zero hv).1; omega
    have hNice := tfC_nice hv
    have HN := Hid.mk (names_of hNice.ahead)
    obtain ⟨x, hx1⟩ : ∃ x, xs.getD r zTerm = x := ⟨_, rfl⟩
    have hxm : x ∈ xs := by rw [← hx1]; exact getDTerm_mem (by omega)
    have ok : okT x := hok x hxm
    have hlk := lftM_in hNice.once (k := r) (by omega) T
    rw [hx1] at hlk
    have HCONS := Hid.mk (lftM_cons hNice.once (k := r) (by omega) T)
    rw [hx1] at HCONS
    have hop := op_right hv r (by omega) hx1
    have hrn : (r : Int) < (n : Int) := by omega
    have HA := Hid.mk ha
    have HX := Hid.mk hx1
    rcases ha with h0 | ⟨b1, o1, rfl, hca2⟩
    · rw [h0] at hn; simp at hn; omega
    obtain ⟨p0, p1, p2, p3⟩ := RdTerm.cells hca2 r (by omega) x hx1
    have hb1 : b1 ≠ b := hab _ rfl
    have hb1w := Hid.mk (World.block_lt_of_cell? _ _ p0)
    have hTl := hT.lt
    clear hca2 hx1 hxm
    by_cases hm : (r : Int) ∈ T
    · rw [if_pos hm] at hlk
      have HM := Hid.mk hm
      have hT1 := hT.kept (belowA w (.cells #[.int .i64 x.o, .int .i64 x.a, .int .i64 x.b, .int .i64 x.n] 70))
      have QL := hT1.look ok 0
      rw [hlk] at QL
      simp only [Option.isSome_none, Option.getD_none] at QL
      replace QL : (Instr.lookup 56 (.map (some b)) (.agg #[.int .i64 x.o, .int .i64 x.a, .int .i64 x.b, .int .i64 x.n]) true).run Tryd.prog (w.alloc (.cells #[.int .i64 x.o, .int .i64 x.a, .int .i64 x.b, .int .i64 x.n] 70)) = .ok (.tuple #[.int .i64 0, .bool false]) (w.alloc (.cells #[.int .i64 x.o, .int .i64 x.a, .int .i64 x.b, .int .i64 x.n] 70)) := QL
      replace hT1 := Hid.mk hT1
      clear hlk hm hT
      go_enter Tryd.func61, Tryd.ntmps61
      go_wp2
      go_ret
      exact ⟨none, 0, 0, [], rfl, rfl, .inl ⟨rfl, rfl, rfl⟩, own_none, Took.none HM.out, ⟨cnt, hT1.out⟩, Sm.below (belowA _ _)⟩
    · rw [if_neg hm] at hlk
      have HM := Hid.mk hm
      have hT1 := hT.kept (belowA w (.cells #[.int .i64 x.o, .int .i64 x.a, .int .i64 x.b, .int .i64 x.n] 70))
      have QL := hT1.look ok 0
      rw [hlk] at QL
      simp only [Option.isSome_some, Option.getD_some] at QL
      replace QL : (Instr.lookup 56 (.map (some b)) (.agg #[.int .i64 x.o, .int .i64 x.a, .int .i64 x.b, .int .i64 x.n]) true).run Tryd.prog (w.alloc (.cells #[.int .i64 x.o, .int .i64 x.a, .int .i64 x.b, .int .i64 x.n] 70)) = .ok (.tuple #[.int .i64 r, .bool true]) (w.alloc (.cells #[.int .i64 x.o, .int .i64 x.a, .int .i64 x.b, .int .i64 x.n] 70)) := QL
      have VX := V.new w [.int .i64 x.o, .int .i64 x.a, .int .i64 x.b, .int .i64 x.n] 70
      have hR := HA.out.kept (belowA w (.cells #[.int .i64 x.o, .int .i64 x.a, .int .i64 x.b, .int .i64 x.n] 70))
      have S := Sm.below (X := fun q => q = b) (belowA w (.cells #[.int .i64 x.o, .int .i64 x.a, .int .i64 x.b, .int .i64 x.n] 70))
      clear hlk hm hT
      go_enter Tryd.func61, Tryd.ntmps61
      go_wp2_with (at_delete; refine wpList_TMdrop _ rfl _ _ rfl b (lftM xs T) cnt hT1 x ok rfl rfl ?_)
      intro w2 cnt2 hT2 hturn
      have S2 := Sm.turn (X := fun q => q = b) hturn rfl
      replace S := S.trans S2
      replace VX := VX.sm S2 (by omega)
      replace hR := hR.sm S2 (fun ad had e => hab ad had e)
      have e2 : delM (lftM xs T) x = lftM xs ((r : Int) :: T) := HCONS.out
      rw [e2] at hT2
      have hsz2 := S.size
      have hvx := VX.1
      clear S2 hturn e2 QL hT1
      -- the first part
      have OP := (OwnI.lit w2 [(r : Int)] [.int .i64 r] rfl (by unfold maxLen; simp))
      have hOPl : w.heap.size ≤ w2.heap.size := by omega
      have b3 := belowA w2 (.cells #[.int .i64 r] 2)
      replace VX := VX.kept b3
      replace hR := hR.kept b3
      replace hT2 := hT2.kept b3
      replace S := S.trans (Sm.below b3)
      have hsz3 : (w2.alloc (.cells #[.int .i64 r] 2)).heap.size = w2.heap.size + 1 := World.size_alloc _ _
      clear b3 p0 p1 p2 p3
      obtain ⟨s_VX, f_VX, z_VX⟩ := VX.open
      go_wp2_with fail
      refine (placesIn_ok x hop _).mono ?_
      rintro e w4 ⟨cp, dp, rfl, OZ, b4⟩
      clear s_VX f_VX z_VX
      have hsz4 := b4.size
      have hOZ := OZ.lt
      replace OP := OP.kept b4
      replace hR := hR.kept b4
      replace hT2 := hT2.kept b4
      replace S := S.trans (Sm.below b4)
      have RZ := OZ.rd
      obtain ⟨l, hl⟩ : ∃ l, (plc x).length = l := ⟨_, rfl⟩
      have hpl := plc_len x
      rw [hl] at hpl ⊢
      have HL := Hid.mk hl
      have HPA := Hid.mk (HN.out r (by omega))
      rw [HX.out] at HPA
      have TK0 := Hid.mk (Taking.start (xs := xs) HM.out)
      have hZb : Hid (∀ ad : Addr, cp = some ad → w2.heap.size + 1 ≤ ad.block ∧ ad.block < w4.heap.size) := Hid.mk (fun ad had => by have := hOZ ad had; rw [hsz3] at this; exact this)
      have hTlw : b < w2.heap.size := by omega
      replace OP := Hid.mk (OP.mono hOPl)
      replace hT2 := Hid.mk hT2
      replace hR := Hid.mk hR
      replace S := Hid.mk S
      replace RZ := Hid.mk RZ
      have hs4 : w2.heap.size + 1 ≤ w4.heap.size := by omega
      have hs0 : w.heap.size ≤ w2.heap.size := hOPl
      generalize hQ : w2.heap.size = Q2 at *
      have hQ4 := Hid.mk hs4
      clear VX OZ hOZ b4 hsz3 hsz4 hvx hsz2 hOPl hl hQ hs4
      go_wp2
      go_loopw [10, 32] (fun p i wr => ∃ (j m d : Nat) (c : Option Addr) (ps : List Int) (ct : Nat), j ≤ l ∧ i = .int .i64 j ∧ p = .slice c m d ∧ Hid (ps.length = m ∧ 0 < m) ∧ Own .i64 2 wr w.heap.size c d ps ∧ Hid (Taking xs r T ps j) ∧ TM wr b (lftM xs (ps ++ T)) ct ∧ Rd .i64 wr cp (plc x) ∧ RdTerm wr (some ⟨b1, o1, none⟩) xs ∧ Sm (fun q => q = b) w wr ∧ Hid (w4.heap.size ≤ wr.heap.size) ∧ Hid (∀ ad : Addr, c = some ad → ad.block ≠ b ∧ (ad.block = Q2 ∨ w4.heap.size ≤ ad.block))) (fun _ i _ => l - (intOf i).toNat)
      case atStart => exact ⟨0, 1, 1, some ⟨Q2, 0, none⟩, [(r : Int)], cnt2, Nat.zero_le _, rfl, rfl, Hid.mk ⟨rfl, by decide⟩, OP.out, TK0, hT2.out, RZ.out, hR.out, S.out, Hid.mk (Nat.le_refl _), Hid.mk (fun ad had => by simp only [Option.some.injEq] at had; subst had; exact ⟨by simp only; omega, .inl rfl⟩)⟩
      case round =>
        clear OP TK0 hT2 RZ hR S
        obtain ⟨j, m, d, c, ps, ct, hj, rfl, rfl, hpm, O, TK, hT, RZ, hR, S, hsw, hoff⟩ := hrel
        by_cases hjl : j < l
        · obtain ⟨z, hz⟩ : ∃ z, (plc x).getD j 0 = z := ⟨_, rfl⟩
          have hj1 : (j : Int) < (l : Int) := by omega
          have hzk := HPA.out z (by rw [← hz]; exact igetD_mem (by rw [HL.out]; exact hjl))
          obtain ⟨u, rfl⟩ : ∃ u : Nat, z = (u : Int) := ⟨z.toNat, by omega⟩
          have hTl := hT.lt
          have hOl := Hid.mk O.lt
          have hZk := Hid.mk hz
          have hRl : b1 < wr.heap.size := by
            rcases hR with h0 | ⟨bb, oo, ee, hcc⟩
            · rw [h0] at hn; simp at hn; omega
            · simp only [Option.some.injEq, Addr.mk.injEq, and_true] at ee
              obtain ⟨rfl, rfl⟩ := ee
              have := World.block_lt_of_cell? _ _ (RdTerm.cells hcc r (by omega) x HX.out).1
              exact this
          have CT := Hid.mk (fun wx h1 h3 => IH u (by omega) (ps ++ T) (some ⟨b1, o1, none⟩) ca b ct wx (by omega) h1 (fun ad had => hab ad had) h3)
          rcases RZ with h0 | ⟨b3, o3, rfl, hcz⟩
          · have := HL.out; rw [h0] at this; simp at this; omega
          have pz := hcz j (by rw [HL.out]; exact hjl)
          rw [hz] at pz
          have RZ2 : Hid (Rd .i64 wr (some ⟨b3, o3, none⟩) (plc x)) := Hid.mk (.inr ⟨b3, o3, rfl, hcz⟩)
          clear hcz hz
          go_wp2_with fail
          refine (CT.out _ hR hT).mono ?_
          rintro e w5 ⟨c5, d5, k5, ps5, rfl, hk5, hw5, O5, TQ, ⟨ct5, hT5⟩, S5⟩
          have hb3 := (hZb.out _ rfl)
          simp only at hb3
          have RZ5 := RZ2.out.sm S5 (fun ad had e => by simp only [Option.some.injEq] at had; subst had; simp only at e; omega)
          have R5 := hR.sm S5 (fun ad had e => hab ad had e)
          have OO5 := O.sm S5 (fun ad had e => (hoff.out ad had).1 e)
          have S6 := S.trans S5
          have hsz5 := S5.size
          have TN := TK.out.next (by rw [HX.out, HL.out]; exact hjl) (by rw [HX.out]; exact hZk.out) TQ
          have hlen := TN.len HN.out (by omega)
          rw [List.length_append, hpm.out.1, hk5] at hlen
          have hTe : lftM xs (ps5 ++ (ps ++ T)) = lftM xs ((ps ++ ps5) ++ T) := lftM_same (fun q => by simp only [List.mem_append]; exact ⟨fun h => h.elim (fun h => .inl (.inr h)) (fun h => h.elim (fun h => .inl (.inl h)) .inr), fun h => h.elim (fun h => h.elim (fun h => .inr (.inl h)) .inl) (fun h => .inr (.inr h))⟩)
          rw [hTe] at hT5
          have hO5l := Hid.mk O5.lt
          replace TN := Hid.mk TN
          replace hoff := hoff
          clear hTe TQ S5 S hR RZ2 hT O pz TK
          rcases hw5 with ⟨rfl, rfl, rfl⟩ | ⟨hk0, g5, rfl⟩
          · obtain rfl : ps5 = [] := List.eq_nil_of_length_eq_zero hk5
            rw [List.append_nil] at TN hT5
            replace hT5 := Hid.mk hT5
            replace R5 := Hid.mk R5
            replace RZ5 := Hid.mk RZ5
            replace S6 := Hid.mk S6
            have OO6 := Hid.mk OO5
            have hsw5 : Hid (w4.heap.size ≤ w5.heap.size) := Hid.mk (by have := hsw.out; omega)
            go_wp2_with (at_builtin; go_loud (refine wpList_put0I _ rfl _ _ rfl w.heap.size c d ps m hpm.out.1 rfl OO6.out rfl ?_))
            clear OO5
            go_wp2
            go_roundw
            case rel => exact ⟨j + 1, m, d, c, ps, ct5, by omega, by go_num, rfl, hpm, OO6.out, TN, hT5.out, RZ5.out, R5.out, S6.out, hsw5, hoff⟩
            case measure => first | (simp [intOf]; done) | (simp [intOf]; omega)
          · have hRD := O5.rd
            have hgb := hO5l.out _ rfl
            simp only at hgb
            have TL : w.heap.size ≤ w5.heap.size := by have := S6.size; omega
            have hsw5 : w4.heap.size ≤ w5.heap.size := by have := hsw.out; omega
            replace hsw5 := Hid.mk hsw5
            have hsz6 := S6.size
            go_wp2_with (at_builtin; go_loud (refine wpList_putsI _ rfl _ _ rfl w.heap.size c d ps m hpm.out.1 rfl OO5 g5 0 k5 d5 ps5 rfl hRD hk5 hk0 (by omega) TL ?_))
            intro c6 d6 w6 O6 hg6 hx6
            have hcb : ∀ q : Nat, c.map Addr.block = some q → q ≠ b ∧ (q = Q2 ∨ w4.heap.size ≤ q) ∧ w.heap.size ≤ q := fun q hq => by
              cases hc : c with
              | none => rw [hc] at hq; cases hq
              | some ad =>
                rw [hc] at hq; simp at hq; subst hq
                have h1 := hoff.out ad hc
                have h2 := (hOl.out ad hc).1
                exact ⟨h1.1, h1.2, h2⟩
            have hT6 := Hid.mk (hT5.grown hg6 (fun e => (hcb b e.symm).1 rfl))
            have R6 := Hid.mk (R5.sm (X := fun q => c.map Addr.block = some q) (Sm.grown hg6 (fun k hk => hk)) (fun ad had e => by simp only [Option.some.injEq] at had; subst had; have := (hcb _ e).2.2; have := hb1w.out; simp only at *; omega))
            have RZ6 := Hid.mk (RZ5.sm (X := fun q => c.map Addr.block = some q) (Sm.grown hg6 (fun k hk => hk)) (fun ad had e => by simp only [Option.some.injEq] at had; subst had; have := (hcb _ e).2.1; have := hb3; simp only at *; omega))
            have S7 := Hid.mk (Sm.grownNew S6 hg6 (fun q hq => (hcb q hq).2.2))
            have hoff6 : Hid (∀ ad : Addr, c6 = some ad → ad.block ≠ b ∧ (ad.block = Q2 ∨ w4.heap.size ≤ ad.block)) := Hid.mk (fun ad had => by
              obtain ⟨g', rfl, h1, _⟩ := hx6.out
              simp only [Option.some.injEq] at had
              subst had
              rcases h1 with ⟨a', ha', he⟩ | h1
              · have := hoff.out a' ha'; rw [he] at this; exact this
              · have := hsw5.out; simp only; omega)
            have hpm6 : Hid ((ps ++ ps5).length = m + k5 ∧ 0 < m + k5) := Hid.mk ⟨by rw [List.length_append, hpm.out.1, hk5], by omega⟩
            have hsw6 := Hid.mk (Nat.le_trans hsw5.out hg6.size)
            replace O6 := Hid.mk O6
            clear hg6 hx6 hT5 R5 RZ5 S6 OO5 O5 hRD TL hcb
            go_wp2
            go_roundw
            case rel => exact ⟨j + 1, m + k5, d6, c6, ps ++ ps5, ct5, by omega, by go_num, rfl, hpm6, O6.out, TN, hT6.out, RZ6.out, R6.out, S7.out, hsw6, hoff6⟩
            case measure => first | (simp [intOf]; done) | (simp [intOf]; omega)
        · obtain rfl : j = l := by omega
          have TD := Hid.mk (TK.out.done (by rw [HX.out, HL.out]; exact Nat.le_refl _))
          have HO := Hid.mk O
          have HT := Hid.mk hT
          have HS := Hid.mk S
          have HC : Hid (∃ g, c = some ⟨g, 0, none⟩) := Hid.mk (own_some O (by have := hpm.out; omega))
          clear O hT S TK RZ hR
          go_wp2
          go_ret
          exact ⟨c, d, m, ps, rfl, hpm.out.1, .inr ⟨hpm.out.2, HC.out⟩, HO.out, TD.out, ⟨ct, HT.out⟩, HS.out⟩

end Go.Proofs.YthjaehcfakjemaaDoor
