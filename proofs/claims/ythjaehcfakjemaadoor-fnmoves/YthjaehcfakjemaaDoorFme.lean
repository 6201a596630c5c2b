/- Put together: IntH, TermH. -/
import Derived.Test.YthjaehcfakjemaaDoorIntA
import Derived.Test.YthjaehcfakjemaaDoorFill
import Derived.Test.YthjaehcfakjemaaDoorTermA
import Derived.Deep.RegionHeld3

/- The laws' own helpers over whole numbers, by contract. -/
namespace Go.Proofs.YthjaehcfakjemaaDoor
open Go.RowKit

/-- What 'mark' lays: the numbers from q on, each brought to a byte. -/
def imarks (q : Int) (n : Nat) : List Int := (List.range n).map fun (i : Nat) => q + (i : Int)

theorem length_imarks (q : Int) (n : Nat) : (imarks q n).length = n := by simp [imarks]

theorem imarks_at (q : Int) (n k : Nat) (h : k < n) : (imarks q n).getD k 0 = q + (k : Int) := by simp [imarks, List.getD, h]

/-- A row of which the first 'k' bear their imarks. -/
def imarkFill (q : Int) (xs : List Int) (k : Nat) : List Int := imarks q k ++ xs.drop k

theorem imarkFill_zero (q : Int) (xs : List Int) : imarkFill q xs 0 = xs := by simp [imarkFill, imarks]

theorem imarkFill_all (q : Int) (xs : List Int) (n : Nat) (h : xs.length = n) : imarkFill q xs n = imarks q n := by simp [imarkFill, ← h]

theorem length_imarkFill (q : Int) (xs : List Int) (k n : Nat) (h : xs.length = n) (hk : k ≤ n) : (imarkFill q xs k).length = n := by simp [imarkFill, length_imarks]; omega

theorem imarkFill_set (q : Int) (xs : List Int) (k n : Nat) (h : xs.length = n) (hk : k < n) : (imarkFill q xs k).set k (q + (k : Int)) = imarkFill q xs (k + 1) := by
  unfold imarkFill
  rw [List.set_append_right _ _ (by rw [length_imarks]; exact Nat.le_refl _), length_imarks, Nat.sub_self, List.drop_eq_getElem_cons (by omega : k < xs.length), List.set_cons_zero]
  simp [imarks, List.range_succ]

end Go.Proofs.YthjaehcfakjemaaDoor

/- The laws' own helpers over 'Term', by contract (written by gentype.py). -/
namespace Go.Proofs.YthjaehcfakjemaaDoor
open Go.RowKit

theorem grownThenTerm {w w1 : World} {row : Option Nat} (h : w.grownBy w1 row) {p : Addr} (hp : row = some p.block) (v : Value) : w.grownBy (w1.setCell p v) row :=
  grownBy_trans h ⟨rfl, rfl, rfl, by simp [World.setCell], fun k _ hk => Below.heap_setCell _ _ _ _ (fun e => hk (by rw [hp, e]))⟩

set_option maxHeartbeats 2000000 in
theorem toTerm_ok (x : T4) (w : World) :
    Calls Tryd.prog 38 #[.agg #[.int .i64 x.o, .int .i64 x.a, .int .i64 x.b, .int .i64 x.n]] w fun e w' => e = .returned (.agg #[.int .i64 x.o, .int .i64 x.a, .int .i64 x.b, .int .i64 x.n]) ∧ Below w.heap.size w w' := by
  go_enter Tryd.func38, Tryd.ntmps38
  have B := Below.refl w.heap.size w
  go_wp2
  refine bodyPost_ret (v := .agg #[.int .i64 x.o, .int .i64 x.a, .int .i64 x.b, .int .i64 x.n]) (by simp [results, Tryd.results38, go_sem]) rfl ⟨rfl, ?_⟩
  repeat' first | with_reducible exact B | with_reducible refine Below.setCell ?_ ?_ _ | with_reducible refine Below.alloc ?_ ?_ _ | (simp; try omega)

set_option maxHeartbeats 2000000 in
theorem eqTerm_ok (x : T4) (w : World) :
    Calls Tryd.prog 39 #[.agg #[.int .i64 x.o, .int .i64 x.a, .int .i64 x.b, .int .i64 x.n], .agg #[.int .i64 x.o, .int .i64 x.a, .int .i64 x.b, .int .i64 x.n]] w fun e w' => e = .returned (.bool true) ∧ Below w.heap.size w w' := by
  go_enter Tryd.func39, Tryd.ntmps39
  have B := Below.refl w.heap.size w
  go_wp2
  go_ret
  exact ⟨rfl, belowA2 _ _ _⟩

set_option maxHeartbeats 400000 in
theorem szTermS_in (a : Option Addr) (n ca : Nat) (left : Int) (w : World) (h : (n : Int) ≤ left) (hl : left ≤ 1048576) :
    Calls Tryd.prog 14 #[.slice a n ca, .int .i64 left] w fun e w' => e = .returned (.int .i64 (left - (n : Int))) ∧ w' = w := by
  have h0 : 0 ≤ left - (n : Int) := by omega
  go_enter Tryd.func14, Tryd.ntmps14
  go_wp2
  go_ret
  exact ⟨rfl, rfl⟩

set_option maxHeartbeats 400000 in
theorem szTermS_out (a : Option Addr) (n ca : Nat) (left : Int) (w : World) (h : left < (n : Int)) (h0 : 0 ≤ left) (hl : left ≤ 1048576) (hx : n ≤ maxLen) :
    Calls Tryd.prog 14 #[.slice a n ca, .int .i64 left] w fun e w' => e = .returned (.int .i64 (-1)) ∧ w' = w := by
  unfold maxLen at hx
  have h1 : left - (n : Int) < 0 := by omega
  go_enter Tryd.func14, Tryd.ntmps14
  go_wp2
  go_ret
  exact ⟨rfl, rfl⟩

set_option maxHeartbeats 1000000 in
theorem eqTermS_ok (a b : Option Addr) (n ca cb : Nat) (xs : List T4) (w : World) (ha : RdTerm w a xs) (hb : RdTerm w b xs) (hn : xs.length = n) (hx : n ≤ maxLen) :
    Calls Tryd.prog 18 #[.slice a n ca, .slice b n cb] w fun e w' => e = .returned (.bool true) ∧ Below w.heap.size w w' := by
  unfold maxLen at hx
  go_enter Tryd.func18, Tryd.ntmps18
  go_wp2
  go_loopw [5] (fun i wr => ∃ k : Nat, k ≤ n ∧ i = .int .i64 k ∧ Below w.heap.size w wr) (fun i _ => n - (intOf i).toNat)
  case atStart => exact ⟨0, Nat.zero_le _, rfl, Below.refl _ _⟩
  case round =>
    obtain ⟨k, hk, rfl, hbel⟩ := hrel
    by_cases hlt : k < n
    · replace ha := ha.kept hbel
      replace hb := hb.kept hbel
      rcases ha with ha | ⟨b1, o1, rfl, hca⟩
      · simp [ha] at hn; omega
      rcases hb with hb | ⟨b2, o2, rfl, hcb⟩
      · simp [hb] at hn; omega
      obtain ⟨x, hx1⟩ : ∃ x, xs.getD k zTerm = x := ⟨_, rfl⟩
      have HA := RdTerm.cells hca k (by omega) x hx1
      have HB := RdTerm.cells hcb k (by omega) x hx1
      have hk1 : (k : Int) < (n : Int) := by omega
      clear hca hcb
      obtain ⟨p0, p1, p2, p3⟩ := HA
      obtain ⟨q0, q1, q2, q3⟩ := HB
      clear hx1
      replace hbel := Hid.mk hbel
      have K : ∀ w' : World, Below wr.heap.size wr w' → (w'.cell? ⟨b1, o1 + k * 4, none⟩ = some (.int .i64 x.o) ∧ w'.cell? ⟨b1, o1 + k * 4 + 1, none⟩ = some (.int .i64 x.a) ∧ w'.cell? ⟨b1, o1 + k * 4 + 2, none⟩ = some (.int .i64 x.b) ∧ w'.cell? ⟨b1, o1 + k * 4 + 3, none⟩ = some (.int .i64 x.n) ∧ w'.cell? ⟨b2, o2 + k * 4, none⟩ = some (.int .i64 x.o) ∧ w'.cell? ⟨b2, o2 + k * 4 + 1, none⟩ = some (.int .i64 x.a) ∧ w'.cell? ⟨b2, o2 + k * 4 + 2, none⟩ = some (.int .i64 x.b) ∧ w'.cell? ⟨b2, o2 + k * 4 + 3, none⟩ = some (.int .i64 x.n)) := fun w' h => ⟨(h.cell (p := ⟨b1, o1 + k * 4, none⟩) (World.block_lt_of_cell? (a := ⟨b1, o1 + k * 4, none⟩) wr p0)).trans p0, (h.cell (p := ⟨b1, o1 + k * 4 + 1, none⟩) (World.block_lt_of_cell? (a := ⟨b1, o1 + k * 4 + 1, none⟩) wr p1)).trans p1, (h.cell (p := ⟨b1, o1 + k * 4 + 2, none⟩) (World.block_lt_of_cell? (a := ⟨b1, o1 + k * 4 + 2, none⟩) wr p2)).trans p2, (h.cell (p := ⟨b1, o1 + k * 4 + 3, none⟩) (World.block_lt_of_cell? (a := ⟨b1, o1 + k * 4 + 3, none⟩) wr p3)).trans p3, (h.cell (p := ⟨b2, o2 + k * 4, none⟩) (World.block_lt_of_cell? (a := ⟨b2, o2 + k * 4, none⟩) wr q0)).trans q0, (h.cell (p := ⟨b2, o2 + k * 4 + 1, none⟩) (World.block_lt_of_cell? (a := ⟨b2, o2 + k * 4 + 1, none⟩) wr q1)).trans q1, (h.cell (p := ⟨b2, o2 + k * 4 + 2, none⟩) (World.block_lt_of_cell? (a := ⟨b2, o2 + k * 4 + 2, none⟩) wr q2)).trans q2, (h.cell (p := ⟨b2, o2 + k * 4 + 3, none⟩) (World.block_lt_of_cell? (a := ⟨b2, o2 + k * 4 + 3, none⟩) wr q3)).trans q3⟩
      have K := Hid.mk K
      go_wp2
      refine wp_region_held_drew (S := (fun w' => w'.cell? ⟨b1, o1 + k * 4, none⟩ = some (.int .i64 x.o) ∧ w'.cell? ⟨b1, o1 + k * 4 + 1, none⟩ = some (.int .i64 x.a) ∧ w'.cell? ⟨b1, o1 + k * 4 + 2, none⟩ = some (.int .i64 x.b) ∧ w'.cell? ⟨b1, o1 + k * 4 + 3, none⟩ = some (.int .i64 x.n) ∧ w'.cell? ⟨b2, o2 + k * 4, none⟩ = some (.int .i64 x.o) ∧ w'.cell? ⟨b2, o2 + k * 4 + 1, none⟩ = some (.int .i64 x.a) ∧ w'.cell? ⟨b2, o2 + k * 4 + 2, none⟩ = some (.int .i64 x.b) ∧ w'.cell? ⟨b2, o2 + k * 4 + 3, none⟩ = some (.int .i64 x.n))) (by kernel_rfl) (K.out _ (Below.refl _ _).drew) (fun hHeld => ?_)
      refine wpAnyH_take (i := 0) (oi := _) (v := ?veu1) rfl (by kernel_rfl) (by kernel_rfl) (by kernel_rfl) (fun _ _ _ h => h) (Or.inl ⟨by rfl, ?hyeu1⟩) hHeld ?resteu1
      case hyeu1 => (intro w hSw; (try dsimp only at hSw); go_simp; first | done | with_reducible rfl)
      try simp only [Act.put, List.getElem_toArray, List.getElem_cons_zero, List.setIfInBounds_toArray, List.set_cons_zero, List.set_cons_succ]
      refine wpAnyH_take (i := 1) (oi := _) (v := ?veu2) rfl (by kernel_rfl) (by kernel_rfl) (by kernel_rfl) (fun _ _ _ h => h) (Or.inl ⟨by rfl, ?hyeu2⟩) hHeld ?resteu2
      case hyeu2 => (intro w hSw; (try dsimp only at hSw); go_simp; first | done | with_reducible rfl)
      try simp only [Act.put, List.getElem_toArray, List.getElem_cons_zero, List.getElem_cons_succ, List.setIfInBounds_toArray, List.set_cons_zero, List.set_cons_succ]
      refine wpAnyH_take (i := 2) (oi := _) (v := ?veu3) rfl (by kernel_rfl) (by kernel_rfl) (by kernel_rfl) (fun _ _ _ h => h) (Or.inl ⟨by rfl, ?hyeu3⟩) hHeld ?resteu3
      case hyeu3 => (intro w hSw; (try dsimp only at hSw); go_simp; first | done | with_reducible rfl)
      try simp only [Act.put, List.getElem_toArray, List.getElem_cons_zero, List.getElem_cons_succ, List.setIfInBounds_toArray, List.set_cons_zero, List.set_cons_succ]
      refine wpAnyH_take (i := 3) (oi := _) (v := ?veu4) rfl (by kernel_rfl) (by kernel_rfl) (by kernel_rfl) (fun _ _ _ h => h) (Or.inl ⟨by rfl, ?hyeu4⟩) hHeld ?resteu4
      case hyeu4 => (intro w hSw; (try dsimp only at hSw); go_simp; first | done | with_reducible rfl)
      try simp only [Act.put, List.getElem_toArray, List.getElem_cons_zero, List.getElem_cons_succ, List.setIfInBounds_toArray, List.set_cons_zero, List.set_cons_succ]
      refine wpAnyH_take (i := 4) (oi := _) (v := ?veu5) rfl (by kernel_rfl) (by kernel_rfl) (by kernel_rfl) (fun _ _ _ h => h) (Or.inl ⟨by rfl, ?hyeu5⟩) hHeld ?resteu5
      case hyeu5 => (intro w hSw; (try dsimp only at hSw); go_simp; first | done | with_reducible rfl)
      try simp only [Act.put, List.getElem_toArray, List.getElem_cons_zero, List.getElem_cons_succ, List.setIfInBounds_toArray, List.set_cons_zero, List.set_cons_succ]
      refine wpAnyH_take (i := 5) (oi := _) (v := ?veu6) rfl (by kernel_rfl) (by kernel_rfl) (by kernel_rfl) (fun _ _ _ h => h) (Or.inl ⟨by rfl, ?hyeu6⟩) hHeld ?resteu6
      case hyeu6 => (intro w hSw; (try dsimp only at hSw); go_simp; first | done | with_reducible rfl)
      try simp only [Act.put, List.getElem_toArray, List.getElem_cons_zero, List.getElem_cons_succ, List.setIfInBounds_toArray, List.set_cons_zero, List.set_cons_succ]
      refine wpAnyH_take (i := 6) (oi := _) (v := ?veu7) rfl (by kernel_rfl) (by kernel_rfl) (by kernel_rfl) (fun _ _ _ h => h) (Or.inl ⟨by rfl, ?hyeu7⟩) hHeld ?resteu7
      case hyeu7 => (intro w hSw; (try dsimp only at hSw); go_simp; first | done | with_reducible rfl)
      try simp only [Act.put, List.getElem_toArray, List.getElem_cons_zero, List.getElem_cons_succ, List.setIfInBounds_toArray, List.set_cons_zero, List.set_cons_succ]
      refine wpAnyH_take (i := 7) (oi := _) (v := ?veu8) rfl (by kernel_rfl) (by kernel_rfl) (by kernel_rfl) (fun _ _ _ h => h) (Or.inl ⟨by rfl, ?hyeu8⟩) hHeld ?resteu8
      case hyeu8 => (intro w hSw; (try dsimp only at hSw); go_simp; first | done | with_reducible rfl)
      try simp only [Act.put, List.getElem_toArray, List.getElem_cons_zero, List.getElem_cons_succ, List.setIfInBounds_toArray, List.set_cons_zero, List.set_cons_succ]
      refine wpAnyH_ready (rs := [8]) (by kernel_rfl) (by simp) ?_
      refine AllReadyH.cons (o := _) rfl (fun K0 hK0 => ?_) AllReadyH.nil
      go_simp
      go_at_call 39
      refine (eqTerm_ok x _).mono ?_
      rintro e wev9 ⟨rfl, bev9⟩
      refine hK0.out _ _ (K.out _ (thenB (Below.refl _ _).drew bev9)) (fun hHeld => ?_)
      clear hK0 K0
      try simp only [Act.put, List.getElem_toArray, List.getElem_cons_zero, List.getElem_cons_succ, List.setIfInBounds_toArray, List.set_cons_zero, List.set_cons_succ]
      refine wpAnyH_take (i := 9) (oi := _) (v := ?veu10) rfl (by kernel_rfl) (by kernel_rfl) (by kernel_rfl) (fun _ _ _ h => h) (Or.inl ⟨by rfl, ?hyeu10⟩) hHeld ?resteu10
      case hyeu10 => (intro w hSw; (try dsimp only at hSw); go_simp; first | done | with_reducible rfl)
      try simp only [Act.put, List.getElem_toArray, List.getElem_cons_zero, List.getElem_cons_succ, List.setIfInBounds_toArray, List.set_cons_zero, List.set_cons_succ]
      refine wpAnyH_done (by kernel_rfl) ?_ _
      have BX := thenB hbel.out (thenB (Below.refl _ _).drew bev9)
      go_wp2
      go_roundw
      case rel => exact ⟨k + 1, by omega, by go_num, BX⟩
      case measure => simp [intOf]; omega
    · have hkn : k = n := by omega
      subst hkn
      go_wp2
      go_ret
      exact ⟨rfl, hbel⟩

set_option maxHeartbeats 1000000 in
theorem toTermS_ok (a : Option Addr) (n ca : Nat) (xs : List T4) (w : World) (ha : RdTerm w a xs) (hn : xs.length = n) (hx : n ≤ 1048576) :
    Calls Tryd.prog 16 #[.slice a n ca] w fun e w' => e = .returned (.slice (some ⟨w.heap.size, 0, none⟩) n n) ∧ OwnTerm w' w.heap.size (some ⟨w.heap.size, 0, none⟩) n xs ∧ Below w.heap.size w w' := by
  obtain ⟨i0, hi, hz0, hz1, hz2⟩ := info_parts Tryd.infoTerm
  go_enter Tryd.func16, Tryd.ntmps16
  go_wp2_with (at_make; refine wpList_make_full _ rfl _ _ 24 rfl w.heap.size 70 i0 (.agg #[.int .i64 0, .int .i64 0, .int .i64 0, .int .i64 0]) 4 Tryd.underlying24 hi hz0 hz1 .i64 .i64 _ _ n rfl rfl rfl rfl (by rw [hz2]; omega) (by unfold maxLen; omega) (Nat.le_refl _) ?_)
  intro w1 hown hgrow
  have hown0 : w1.ownsRow w.heap.size 70 4 (.slice (some ⟨w.heap.size, 0, none⟩) n n) n (flatTerm (fillTerm xs 0 n)) := by
    rw [fillTerm_zero, zerosTerm, ← madeTerm]
    exact hown
  have hbel : Below w.heap.size w w1 := (Below.refl _ _).grown hgrow (Nat.le_refl _) (by intro k hk; cases hk)
  clear hown hgrow
  go_wp2
  go_loopw [4] (fun i wr => ∃ k : Nat, k ≤ n ∧ i = .int .i64 k ∧ wr.ownsRow w.heap.size 70 4 (.slice (some ⟨w.heap.size, 0, none⟩) n n) n (flatTerm (fillTerm xs k n)) ∧ Below w.heap.size w wr) (fun i _ => n - (intOf i).toNat)
  case atStart => exact ⟨0, Nat.zero_le _, rfl, hown0, hbel⟩
  case round =>
    obtain ⟨k, hk, rfl, hown, hb⟩ := hrel
    by_cases hlt : k < n
    · replace ha := ha.kept hb
      rcases ha with ha | ⟨b1, o1, rfl, hca⟩
      · simp [ha] at hn; omega
      obtain ⟨x, hx1⟩ : ∃ x, xs.getD k zTerm = x := ⟨_, rfl⟩
      obtain ⟨p0, p1, p2, p3⟩ := RdTerm.cells hca k (by omega) x hx1
      have hk1 : (k : Int) < (n : Int) := by omega
      have hfl : (fillTerm xs k n).length = n := fillTerm_len xs k n hn hk
      have hf0 := fillTerm_at xs k n hn hlt
      have hfs := fillTerm_set xs k n hn hlt
      rw [hx1] at hfs
      have HB := Hid.mk hb
      have HO := Hid.mk hown
      have HS : Hid (setTerm (flatTerm (fillTerm xs k n)) (k * 4) x = flatTerm (fillTerm xs (k + 1) n)) := Hid.mk (by rw [← hfs]; exact setTerm_flat _ _ _ (by omega))
      clear hca hown hb hx1 hfs
      go_wp2_with fail
      refine (toTerm_ok x _).mono ?_
      rintro e w2 ⟨rfl, b2⟩
      have hown2 : w2.ownsRow w.heap.size 70 4 (.slice (some ⟨w.heap.size, 0, none⟩) n n) n (flatTerm (fillTerm xs k n)) := World.ownsRow.kept HO.out (Below.grownBy b2 none) (.inr (by simp [Value.ownBlock]))
      have B2 := Hid.mk (HB.out.trans (b2.mono HB.out.size))
      have zF := fun o => hown2.frozenAt o
      have cF : ∀ j, j < 4 → w2.cell? ⟨w.heap.size, k * 4 + j, none⟩ = some (.int .i64 0) := fun j hj => by
        rw [hown2.cellAt (k * 4 + j) (by omega), flatTerm_at _ k j (by omega) hj, hf0]
        match j, hj with
        | 0, _ => rfl
        | 1, _ => rfl
        | 2, _ => rfl
        | 3, _ => rfl
      have c0 := cF 0 (by decide)
      have c1 := cF 1 (by decide)
      have c2 := cF 2 (by decide)
      have c3 := cF 3 (by decide)
      simp only [Nat.add_zero] at c0
      have HN := Hid.mk (HS.out ▸ storedTerm hown2 k x)
      clear cF hown2 b2 hf0 hfl p0 p1 p2 p3
      go_wp2
      go_roundw
      case rel => exact ⟨k + 1, by omega, by go_num, HN.out, ((((B2.out.setCell (Nat.le_refl _) _).setCell (Nat.le_refl _) _).setCell (Nat.le_refl _) _).setCell (Nat.le_refl _) _)⟩
      case measure => simp [intOf]; omega
    · have hkn : k = n := by omega
      subst hkn
      rw [fillTerm_all xs k hn] at hown
      have HO := Hid.mk hown
      clear hown
      go_wp2
      go_ret
      exact ⟨rfl, by unfold OwnTerm; rw [hn]; exact HO.out, hb⟩

end Go.Proofs.YthjaehcfakjemaaDoor
