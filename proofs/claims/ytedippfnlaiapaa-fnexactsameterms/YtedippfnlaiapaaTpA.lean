/- The parts of a term: the model. -/
import Derived.Test.YtedippfnlaiapaaTmZ
import Derived.Test.YtedippfnlaiapaaTmW
import Derived.Test.YtedippfnlaiapaaTmQ
import Derived.Maps.OwnSet
namespace Go.Proofs.Ytedippfnlaiapaa
open Go.RowKit

theorem Try.infoBool : (Try.prog.info? 4).map (fun i => (i.zero, i.size, i.bytes)) = some (some (.bool false), 1, 1) := by kernel_rfl

/-- The marks as values. -/
def bvL (xs : List T4) (r k : Nat) : List Value := (List.range (r + 1)).map fun i => .bool (mks xs r k i)

theorem bvL_len (xs : List T4) (r k : Nat) : (bvL xs r k).length = r + 1 := by simp [bvL]

theorem bvL_at (xs : List T4) (r k j : Nat) (h : j < r + 1) : (bvL xs r k)[j]? = some (.bool (mks xs r k j)) := by simp [bvL, h]

theorem bvL_ext {xs : List T4} {r k : Nat} {vs : List Value} (hl : vs.length = r + 1) (h : ∀ j, j < r + 1 → vs[j]? = some (.bool (mks xs r k j))) : bvL xs r k = vs := by
  apply List.ext_getElem?
  intro j
  by_cases hj : j < r + 1
  · rw [bvL_at xs r k j hj, h j hj]
  · rw [List.getElem?_eq_none (by rw [bvL_len]; omega), List.getElem?_eq_none (by omega)]

theorem bv_zero (xs : List T4) (r : Nat) : bvL xs r 0 = (List.replicate (r + 1) (Value.bool false)).set r (.bool true) := by
  refine bvL_ext (by simp) (fun j hj => ?_)
  by_cases e : j = r
  · subst e; rw [List.getElem?_set_self (by simp)]; simp [mks]
  · rw [List.getElem?_set_ne (by omega)]
    simp [hj, mks, e]

theorem bv_no {xs : List T4} {r k : Nat} (h : mks xs r k (r - k) = false) : bvL xs r (k + 1) = bvL xs r k := by
  refine bvL_ext (bvL_len _ _ _) (fun j hj => ?_)
  rw [bvL_at xs r k j hj]; simp [mks, h]

theorem bv_0 {xs : List T4} {r k : Nat} (_h : mks xs r k (r - k) = true) {x : T4} (hx : xs.getD (r - k) zTerm = x) (hp : plc x = []) : bvL xs r (k + 1) = bvL xs r k := by
  refine bvL_ext (bvL_len _ _ _) (fun j hj => ?_)
  rw [bvL_at xs r k j hj, mks, hx, hp]; simp

theorem bv_1 {xs : List T4} {r k : Nat} (h : mks xs r k (r - k) = true) {x : T4} (hx : xs.getD (r - k) zTerm = x) {a : Nat} (hp : plc x = [(a : Int)]) : bvL xs r (k + 1) = (bvL xs r k).set a (.bool true) := by
  refine bvL_ext (by rw [List.length_set, bvL_len]) (fun j hj => ?_)
  rw [mks, hx, hp, h]
  by_cases e : a = j
  · subst e; rw [List.getElem?_set_self (by rw [bvL_len]; exact hj)]; simp
  · rw [List.getElem?_set_ne e, bvL_at xs r k j hj]
    have : ((a : Int) == (j : Int)) = false := by simp; omega
    simp [this]

theorem bv_2 {xs : List T4} {r k : Nat} (h : mks xs r k (r - k) = true) {x : T4} (hx : xs.getD (r - k) zTerm = x) {a b : Nat} (hp : plc x = [(a : Int), (b : Int)]) : bvL xs r (k + 1) = ((bvL xs r k).set a (.bool true)).set b (.bool true) := by
  refine bvL_ext (by rw [List.length_set, List.length_set, bvL_len]) (fun j hj => ?_)
  rw [mks, hx, hp, h]
  by_cases e2 : b = j
  · subst e2; rw [List.getElem?_set_self (by rw [List.length_set, bvL_len]; exact hj)]; simp
  · rw [List.getElem?_set_ne e2]
    have h2 : ((b : Int) == (j : Int)) = false := by simp; omega
    by_cases e : a = j
    · subst e; rw [List.getElem?_set_self (by rw [bvL_len]; exact hj)]; simp
    · rw [List.getElem?_set_ne e, bvL_at xs r k j hj]
      have : ((a : Int) == (j : Int)) = false := by simp; omega
      simp [this, h2]

theorem plc_0 {x : T4} (h : kids x.o = 0) : plc x = [] := by unfold plc; rw [h]; simp
theorem plc_1 {x : T4} (h : kids x.o = 1) : plc x = [x.a] := by unfold plc; rw [h]; simp
theorem plc_2 {x : T4} (h : kids x.o = 2) : plc x = [x.a, x.b] := by unfold plc; rw [h]; simp

theorem cell_far {w : World} {b x B y : Nat} (h : b ≠ B) (v : Value) : (w.setCell ⟨B, y, none⟩ v).cell? ⟨b, x, none⟩ = w.cell? ⟨b, x, none⟩ := by
  rw [World.cell?_setCell_other w _ _ _ (by simp)]
  all_goals simp [h]

/-- The parts among the first k places. -/
def prK (xs : List T4) (r k : Nat) : List Int := ((List.range k).filter fun i => mks xs r (r + 1) i).map fun i : Nat => (i : Int)

theorem prK_next (xs : List T4) (r k : Nat) : prK xs r (k + 1) = prK xs r k ++ (if mks xs r (r + 1) k = true then [(k : Int)] else []) := by
  unfold prK
  rw [List.range_succ, List.filter_append, List.map_append]
  cases h : mks xs r (r + 1) k <;> simp [h]

theorem prK_all (xs : List T4) (r : Nat) : prK xs r (r + 1) = prL xs r := by unfold prL prK; rfl

theorem prK_len (xs : List T4) (r k : Nat) : (prK xs r k).length ≤ k := by
  unfold prK
  rw [List.length_map]
  have := List.length_filter_le (fun i => mks xs r (r + 1) i) (List.range k)
  simpa using this

set_option maxRecDepth 20000 in
set_option maxHeartbeats 8000000 in
theorem l5Parts_ok (a : Option Addr) (n ca : Nat) (xs : List T4) (r : Nat) (w : World) (ha : RdTerm w a xs) (hn : xs.length = n) (hv : tfC xs = 0) (hr : r < n) (hlow : Hid (∀ b : Addr, a = some b → b.block < w.heap.size)) :
    Calls Try.prog 73 #[.slice a n ca, .int .i64 r] w fun e w' => ∃ c d k, e = .returned (.slice c k d) ∧ (prL xs r).length = k ∧ Own .i64 2 w' w.heap.size c d (prL xs r) ∧ Below w.heap.size w w' := by
  have hn4 : n ≤ 400 := by have := (tfC_zero hv).1; omega
  have HAh := Hid.mk (tfC_ahead hv)
  have HA := Hid.mk ha
  obtain ⟨Q, hQ⟩ : ∃ Q, w.heap.size = Q := ⟨_, rfl⟩
  have BQ := Hid.mk hQ
  rw [hQ] at hlow ⊢
  obtain ⟨i0, hi, hz0, hz1, hz2⟩ := info_parts Try.infoBool
  have hr1 : (r : Int) < (r : Int) + 1 := by omega
  have hr2 : (0 : Int) ≤ (r : Int) := by omega
  clear ha hv
  go_enter Try.func73, Try.ntmps73
  go_wp2_with (at_make; go_loud (refine wpList_make_full _ rfl _ _ 104 rfl Q 4 i0 (.bool false) 1 Try.underlying104 hi hz0 hz1 .i64 .i64 _ _ (r + 1) rfl rfl (by omega) (by omega) (by rw [hz2]; omega) (by unfold maxLen; omega) (by omega) ?_))
  intro w1 hown hgrow
  have hown0 : w1.ownsRow Q 4 1 (.slice (some ⟨Q, 0, none⟩) (r + 1) (r + 1)) (r + 1) (List.replicate (r + 1) (Value.bool false)) := by simpa [toList_madeCells_one] using hown
  have B1 : Below Q w w1 := (Below.refl Q w).grown hgrow (by omega) (by intro k hk; cases hk)
  have cz := hown0.cellAt r (by omega)
  rw [List.getElem?_eq_getElem (by simp)] at cz
  simp only [List.getElem_replicate] at cz
  have fz := hown0.frozenAt r
  have hown1 := (hown0.stored r (.bool true)).1
  rw [← bv_zero xs r] at hown1
  have B2 := B1.setCell (p := ⟨Q, r, none⟩) (Nat.le_refl _) (.bool true)
  replace hown1 := Hid.mk hown1
  replace B2 := Hid.mk B2
  clear hown hown0 hgrow B1 hi hz0 hz1 hz2
  go_wp2
  clear cz fz
  go_loopw [6] (fun i wr => ∃ k : Nat, k ≤ r + 1 ∧ i = .int .i64 ((r : Int) - (k : Int)) ∧ wr.ownsRow Q 4 1 (.slice (some ⟨Q, 0, none⟩) (r + 1) (r + 1)) (r + 1) (bvL xs r k) ∧ Below Q w wr) (fun i _ => (intOf i + 1).toNat)
  case atStart => exact ⟨0, by omega, by simp, hown1.out, B2.out⟩
  case round =>
    clear hown1 B2
    obtain ⟨k, hk, rfl, hown, B⟩ := hrel
    by_cases hlt : k < r + 1
    · have ei : (r : Int) - (k : Int) = ((r - k : Nat) : Int) := by omega
      rw [ei]
      have hi0 : (0 : Int) ≤ ((r - k : Nat) : Int) := by omega
      have hil : ((r - k : Nat) : Int) < (r : Int) + 1 := by omega
      have hin : ((r - k : Nat) : Int) < (n : Int) := by omega
      obtain ⟨x, hx1⟩ : ∃ x, xs.getD (r - k) zTerm = x := ⟨_, rfl⟩
      have hx2 := Hid.mk hx1
      have p9 := hown.cellAt (r - k) (by omega)
      rw [bvL_at xs r k (r - k) (by omega)] at p9
      rcases HA.out.kept (hQ ▸ B) with h0 | ⟨b1, o1, rfl, hca2⟩
      · rw [h0] at hn; simp at hn; omega
      obtain ⟨p0, p1, p2, p3⟩ := RdTerm.cells hca2 (r - k) (by omega) x hx1
      obtain ⟨hA1, hB1⟩ := HAh.out (r - k) (by omega)
      rw [hx1] at hA1 hB1
      clear hca2 hx1 ei
      cases hm : mks xs r k (r - k)
      · rw [hm] at p9
        have hnx := Hid.mk (bv_no hm)
        replace hown := Hid.mk hown
        clear hm hA1 hB1
        go_wp2
        go_roundw
        case rel => exact ⟨k + 1, by omega, congrArg (Value.int IntKind.i64) (by omega), by rw [hnx.out]; exact hown.out, B⟩
        case measure => first | (simp [intOf]; done) | (simp [intOf]; omega)
      · rw [hm] at p9
        rcases kids_cases x.o with hk2 | hk2 | hk2
        · skip
          have hpl := plc_0 hk2
          have hnx := bv_0 hm (x := x) hx2.out hpl
          have hown2 := hown
          rw [← hnx] at hown2
          replace hown2 := Hid.mk hown2
          have B2 := Hid.mk B
          clear hown hnx B hA1 hB1 hpl hm
          go_wp2_with (first | (go_at_call 52; refine (l5Kids_ok _ _).mono ?_; rintro e wq ⟨rfl, rfl⟩) | fail)
          go_roundw
          case rel => exact ⟨k + 1, by omega, congrArg (Value.int IntKind.i64) (by omega), hown2.out, B2.out⟩
          case measure => first | (simp [intOf]; done) | (simp [intOf]; omega)
        · skip
          have hpl := plc_1 hk2
          have hA2 := hA1 (by omega)
          obtain ⟨ja, hja⟩ : ∃ j : Nat, x.a = (j : Int) := ⟨x.a.toNat, by omega⟩
          have hjr : ja < r + 1 := by omega
          rw [hja] at hpl p1
          have hnx := bv_1 hm (x := x) hx2.out hpl
          have hown2 := hown
          have fz := hown.frozenAt ja
          have cz : ∃ v, wr.cell? ⟨Q, ja, none⟩ = some (.bool v) := ⟨_, by rw [hown.cellAt ja (by omega)]; exact bvL_at xs r k ja hjr⟩
          obtain ⟨va, cz⟩ := cz
          replace hown2 := (hown2.stored ja (.bool true)).1
          rw [← hnx] at hown2
          replace hown2 := Hid.mk hown2
          have B2 := Hid.mk (B.setCell (p := ⟨Q, ja, none⟩) (by simp only; omega) (.bool true))
          have hjl : (ja : Int) < (r : Int) + 1 := by omega
          have hbl := World.block_lt_of_cell? _ _ p0
          have hbq : b1 ≠ Q := by have := hlow.out _ rfl; simp only at this hbl; omega
          have q0 : (wr.setCell ⟨Q, ja, none⟩ (.bool true)).cell? ⟨b1, o1 + (r - k) * 4, none⟩ = some (.int .i64 x.o) := (cell_far hbq _).trans p0
          clear hown hnx B hA1 hB1 hpl hm
          go_wp2_with (first | (go_at_call 52; refine (l5Kids_ok _ _).mono ?_; rintro e wq ⟨rfl, rfl⟩) | fail)
          go_roundw
          case rel => exact ⟨k + 1, by omega, congrArg (Value.int IntKind.i64) (by omega), hown2.out, B2.out⟩
          case measure => first | (simp [intOf]; done) | (simp [intOf]; omega)
        · skip
          have hpl := plc_2 hk2
          have hA2 := hA1 (by omega)
          obtain ⟨ja, hja⟩ : ∃ j : Nat, x.a = (j : Int) := ⟨x.a.toNat, by omega⟩
          have hjr : ja < r + 1 := by omega
          have hB2 := hB1 (by omega)
          obtain ⟨jb, hjb⟩ : ∃ j : Nat, x.b = (j : Int) := ⟨x.b.toNat, by omega⟩
          have hjrb : jb < r + 1 := by omega
          rw [hja, hjb] at hpl
          rw [hja] at p1
          rw [hjb] at p2
          have hnx := bv_2 hm (x := x) hx2.out hpl
          have hown2 := hown
          have fz := hown.frozenAt ja
          have cz : ∃ v, wr.cell? ⟨Q, ja, none⟩ = some (.bool v) := ⟨_, by rw [hown.cellAt ja (by omega)]; exact bvL_at xs r k ja hjr⟩
          obtain ⟨va, cz⟩ := cz
          replace hown2 := (hown2.stored ja (.bool true)).1
          have fz2 := hown.frozenAt jb
          have cz2 : ∃ v, wr.cell? ⟨Q, jb, none⟩ = some (.bool v) := ⟨_, by rw [hown.cellAt jb (by omega)]; exact bvL_at xs r k jb hjrb⟩
          obtain ⟨vb, cz2⟩ := cz2
          replace hown2 := (hown2.stored jb (.bool true)).1
          have cz3 : ∃ v, (wr.setCell ⟨Q, ja, none⟩ (.bool true)).cell? ⟨Q, jb, none⟩ = some (.bool v) := by
            by_cases e : jb = ja
            · subst e; exact ⟨_, World.cell?_setCell_same wr _ _ cz⟩
            · rw [World.cell?_setCell_other wr _ _ _ (by simp)]
              · exact ⟨_, cz2⟩
              all_goals simp [e]
          obtain ⟨vc, cz3⟩ := cz3
          rw [← hnx] at hown2
          replace hown2 := Hid.mk hown2
          have B2 := Hid.mk ((B.setCell (p := ⟨Q, ja, none⟩) (by simp only; omega) (.bool true)).setCell (p := ⟨Q, jb, none⟩) (by simp only; omega) (.bool true))
          have hjl : (ja : Int) < (r : Int) + 1 := by omega
          have hbl := World.block_lt_of_cell? _ _ p0
          have hbq : b1 ≠ Q := by have := hlow.out _ rfl; simp only at this hbl; omega
          have q0 : (wr.setCell ⟨Q, ja, none⟩ (.bool true)).cell? ⟨b1, o1 + (r - k) * 4, none⟩ = some (.int .i64 x.o) := (cell_far hbq _).trans p0
          have q2 : (wr.setCell ⟨Q, ja, none⟩ (.bool true)).cell? ⟨b1, o1 + (r - k) * 4 + 2, none⟩ = some (.int .i64 (jb : Int)) := (cell_far hbq _).trans p2
          have fz3 : (wr.setCell ⟨Q, ja, none⟩ (.bool true)).frozen? ⟨Q, jb, none⟩ = false := by simpa [go_sem] using fz2
          have hjl2 : (jb : Int) < (r : Int) + 1 := by omega
          clear cz2 fz2
          clear hown hnx B hA1 hB1 hpl hm
          go_wp2_with (first | (go_at_call 52; refine (l5Kids_ok _ _).mono ?_; rintro e wq ⟨rfl, rfl⟩) | fail)
          go_roundw
          case rel => exact ⟨k + 1, by omega, congrArg (Value.int IntKind.i64) (by omega), hown2.out, B2.out⟩
          case measure => first | (simp [intOf]; done) | (simp [intOf]; omega)
    · obtain rfl : k = r + 1 := by omega
      have ei : (r : Int) - ((r + 1 : Nat) : Int) = -1 := by omega
      rw [ei]
      have OL := OwnI.lit wr [] [] rfl (Nat.zero_le _)
      have hsz := B.size
      replace OL := Hid.mk OL
      have hown2 := Hid.mk (World.ownsRow.kept hown (Below.grownBy (belowA wr (.cells #[] 2)) none) (.inr (by simp [Value.ownBlock])))
      have hqw := (hown.lt Q (by simp [Value.ownBlock])).2
      have B2 := Hid.mk (B.alloc (show Q ≤ wr.heap.size by omega) (.cells #[] 2))
      have hqr := Hid.mk hqw
      generalize hR : wr.heap.size = R at *
      clear hown B hsz hqw
      have hQR := Hid.mk (show Q < R from hqr.out)
      clear hqr
      go_wp2
      go_loopw [7, 8] (fun s i wr => ∃ (k j d : Nat) (c : Option Addr), k ≤ r + 1 ∧ i = .int .i64 k ∧ s = .slice c j d ∧ Hid ((prK xs r k).length = j) ∧ Own .i64 2 wr R c d (prK xs r k) ∧ wr.ownsRow Q 4 1 (.slice (some ⟨Q, 0, none⟩) (r + 1) (r + 1)) (r + 1) (bvL xs r (r + 1)) ∧ Below Q w wr ∧ R ≤ wr.heap.size) (fun _ i _ => r + 1 - (intOf i).toNat)
      case atStart => exact ⟨0, 0, 0, some ⟨R, 0, none⟩, Nat.zero_le _, rfl, rfl, Hid.mk rfl, OL.out, hown2.out, B2.out, by rw [World.size_alloc]; omega⟩
      case round =>
        clear OL hown2 B2 hR
        obtain ⟨k, j, d, c, hk, rfl, rfl, hj, O, hown, B, hRw⟩ := hrel
        by_cases hlt : k < r + 1
        · have hle : (k : Int) ≤ (r : Int) := by omega
          have hkl : (k : Int) < (r : Int) + 1 := by omega
          have p9 := hown.cellAt k (by omega)
          rw [bvL_at xs r (r + 1) k hlt] at p9
          have hnx := prK_next xs r k
          have hjk := prK_len xs r k
          cases hm : mks xs r (r + 1) k
          · rw [hm] at p9 hnx
            simp only [Bool.false_eq_true, if_false, List.append_nil] at hnx
            have HNX := Hid.mk hnx
            have HO := Hid.mk O
            have HW := Hid.mk hown
            clear hnx hm O hown
            go_wp2
            go_roundw
            case rel => exact ⟨k + 1, j, d, c, by omega, by go_num, rfl, Hid.mk (by rw [HNX.out]; exact hj.out), by rw [HNX.out]; exact HO.out, HW.out, B, hRw⟩
            case measure => first | (simp [intOf]; done) | (simp [intOf]; omega)
          · rw [hm] at p9 hnx
            simp only [if_true] at hnx
            have HNX := Hid.mk hnx
            have hj4 : j ≤ 400 := by have := hj.out; omega
            have O2 := O.kept (belowA wr (.cells #[.int .i64 k] 2))
            have B2 := B.alloc (show Q ≤ wr.heap.size by have := hQR.out; omega) (.cells #[.int .i64 k] 2)
            have W2 := World.ownsRow.kept hown (Below.grownBy (belowA wr (.cells #[.int .i64 k] 2)) none) (.inr (by simp [Value.ownBlock]))
            have TL : R ≤ (wr.alloc (.cells #[.int .i64 k] 2)).heap.size := by rw [World.size_alloc]; omega
            replace B2 := Hid.mk B2
            replace O2 := Hid.mk O2
            replace W2 := Hid.mk W2
            clear hnx hm O hown B
            go_wp2_with (at_builtin; go_loud (refine wpList_putI _ rfl _ _ rfl R c d (prK xs r k) j hj.out rfl O2.out _ 1 (k : Int) rfl (cell_one' _ _ _ 0 _ rfl) (by omega) TL ?_))
            intro c4 d4 w4 O4 hg4 hx4
            have B4 := Hid.mk (B2.out.grown hg4 (by have := hQR.out; omega) (fun q hq => by have hl := O2.out.lt; cases c with | none => cases hq | some b => simp at hq; subst hq; have := (hl b rfl).1; have := hQR.out; omega))
            have W4 := Hid.mk (World.ownsRow.kept W2.out hg4 (.inr (by simp only [Value.ownBlock]; intro e; have hl := O2.out.lt; cases c with | none => cases e | some b => simp at e; have := (hl b rfl).1; have := hQR.out; omega)))
            have S4 := Hid.mk (Nat.le_trans TL hg4.size)
            rw [← HNX.out] at O4
            replace O4 := Hid.mk O4
            have J4 : Hid ((prK xs r (k + 1)).length = j + 1) := Hid.mk (by rw [HNX.out, List.length_append, hj.out]; rfl)
            clear hg4 hx4 TL
            go_wp2
            go_roundw
            case rel => exact ⟨k + 1, j + 1, d4, c4, by omega, by go_num, rfl, J4, O4.out, W4.out, B4.out, S4.out⟩
            case measure => first | (simp [intOf]; done) | (simp [intOf]; omega)
        · obtain rfl : k = r + 1 := by omega
          have hgt : ¬ (((r + 1 : Nat) : Int) ≤ (r : Int)) := by omega
          rw [prK_all] at O hj
          have HO := Hid.mk (O.mono (base' := Q) (by have := hQR.out; omega))
          have hg2 : ¬ ((r : Int) + 1 ≤ (r : Int)) := by omega
          clear O hown
          go_wp2
          go_ret
          exact ⟨c, d, j, rfl, hj.out, HO.out, B⟩

end Go.Proofs.Ytedippfnlaiapaa
