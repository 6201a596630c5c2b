/- The laws' own helpers over 'Term', by contract (written by gentype.py). -/
import Derived.Test.YthkmoabkeblbjaaTermA
import Derived.Test.YthkmoabkeblbjaaIntH
import Derived.Deep.RegionHeld3
namespace Go.Proofs.Ythkmoabkeblbjaa
open Go.RowKit

theorem grownThenTerm {w w1 : World} {row : Option Nat} (h : w.grownBy w1 row) {p : Addr} (hp : row = some p.block) (v : Value) : w.grownBy (w1.setCell p v) row :=
  grownBy_trans h ⟨rfl, rfl, rfl, by simp [World.setCell], fun k _ hk => Below.heap_setCell _ _ _ _ (fun e => hk (by rw [hp, e]))⟩

set_option maxHeartbeats 2000000 in
theorem toTerm_ok (x : T4) (w : World) :
    Calls Try.prog 96 #[.agg #[.int .i64 x.o, .int .i64 x.a, .int .i64 x.b, .int .i64 x.n]] w fun e w' => e = .returned (.agg #[.int .i64 x.o, .int .i64 x.a, .int .i64 x.b, .int .i64 x.n]) ∧ Below w.heap.size w w' := by
  go_enter Try.func96, Try.ntmps96
  have B := Below.refl w.heap.size w
  go_wp2
  refine bodyPost_ret (v := .agg #[.int .i64 x.o, .int .i64 x.a, .int .i64 x.b, .int .i64 x.n]) (by simp [results, Try.results96, go_sem]) rfl ⟨rfl, ?_⟩
  repeat' first | with_reducible exact B | with_reducible refine Below.setCell ?_ ?_ _ | with_reducible refine Below.alloc ?_ ?_ _ | (simp; try omega)

set_option maxHeartbeats 2000000 in
theorem eqTerm_ok (x : T4) (w : World) :
    Calls Try.prog 98 #[.agg #[.int .i64 x.o, .int .i64 x.a, .int .i64 x.b, .int .i64 x.n], .agg #[.int .i64 x.o, .int .i64 x.a, .int .i64 x.b, .int .i64 x.n]] w fun e w' => e = .returned (.bool true) ∧ Below w.heap.size w w' := by
  go_enter Try.func98, Try.ntmps98
  have B := Below.refl w.heap.size w
  go_wp2
  go_ret
  exact ⟨rfl, belowA2 _ _ _⟩

set_option maxHeartbeats 400000 in
theorem szTermS_in (a : Option Addr) (n ca : Nat) (left : Int) (w : World) (h : (n : Int) ≤ left) (hl : left ≤ 1048576) :
    Calls Try.prog 33 #[.slice a n ca, .int .i64 left] w fun e w' => e = .returned (.int .i64 (left - (n : Int))) ∧ w' = w := by
  have h0 : 0 ≤ left - (n : Int) := by omega
  go_enter Try.func33, Try.ntmps33
  go_wp2
  go_ret
  exact ⟨rfl, rfl⟩

set_option maxHeartbeats 400000 in
theorem szTermS_out (a : Option Addr) (n ca : Nat) (left : Int) (w : World) (h : left < (n : Int)) (h0 : 0 ≤ left) (hl : left ≤ 1048576) (hx : n ≤ maxLen) :
    Calls Try.prog 33 #[.slice a n ca, .int .i64 left] w fun e w' => e = .returned (.int .i64 (-1)) ∧ w' = w := by
  unfold maxLen at hx
  have h1 : left - (n : Int) < 0 := by omega
  go_enter Try.func33, Try.ntmps33
  go_wp2
  go_ret
  exact ⟨rfl, rfl⟩

set_option maxHeartbeats 1000000 in
theorem eqTermS_ok (a b : Option Addr) (n ca cb : Nat) (xs : List T4) (w : World) (ha : RdTerm w a xs) (hb : RdTerm w b xs) (hn : xs.length = n) (hx : n ≤ maxLen) :
    Calls Try.prog 36 #[.slice a n ca, .slice b n cb] w fun e w' => e = .returned (.bool true) ∧ Below w.heap.size w w' := by
  unfold maxLen at hx
  go_enter Try.func36, Try.ntmps36
  go_wp2
  go_loopw [5] (fun i wr => ∃ k : Nat, k ≤ n ∧ i = .int .i64 k ∧ Below w.heap.size w wr) (fun i _ => n - (intOf i).toNat)
  case atStart => exact ⟨0, Nat.zero_le _, rfl, Below.refl _ _⟩
  case round =>
    obtain ⟨k, hk, rfl, hbel⟩ := hrel
    by_cases hlt : k < n
    · replace ha := ha.kept hbel
      replace hb := hb.kept hbel
      rcases ha with ha | ⟨b1, o1, rfl, hca⟩
      · simp [ha] at hn; omega
      rcases hb with hb | ⟨b2, o2, rfl, hcb⟩
      · simp [hb] at hn; omega
      obtain ⟨x, hx1⟩ : ∃ x, xs.getD k zTerm = x := ⟨_, rfl⟩
      have HA := RdTerm.cells hca k (by omega) x hx1
      have HB := RdTerm.cells hcb k (by omega) x hx1
      have hk1 : (k : Int) < (n : Int) := by omega
      clear hca hcb
      obtain ⟨p0, p1, p2, p3⟩ := HA
      obtain ⟨q0, q1, q2, q3⟩ := HB
      clear hx1
      replace hbel := Hid.mk hbel
      have K : ∀ w' : World, Below wr.heap.size wr w' → (w'.cell? ⟨b1, o1 + k * 4, none⟩ = some (.int .i64 x.o) ∧ w'.cell? ⟨b1, o1 + k * 4 + 1, none⟩ = some (.int .i64 x.a) ∧ w'.cell? ⟨b1, o1 + k * 4 + 2, none⟩ = some (.int .i64 x.b) ∧ w'.cell? ⟨b1, o1 + k * 4 + 3, none⟩ = some (.int .i64 x.n) ∧ w'.cell? ⟨b2, o2 + k * 4, none⟩ = some (.int .i64 x.o) ∧ w'.cell? ⟨b2, o2 + k * 4 + 1, none⟩ = some (.int .i64 x.a) ∧ w'.cell? ⟨b2, o2 + k * 4 + 2, none⟩ = some (.int .i64 x.b) ∧ w'.cell? ⟨b2, o2 + k * 4 + 3, none⟩ = some (.int .i64 x.n)) := fun w' h => ⟨(h.cell (p := ⟨b1, o1 + k * 4, none⟩) (World.block_lt_of_cell? (a := ⟨b1, o1 + k * 4, none⟩) wr p0)).trans p0, (h.cell (p := ⟨b1, o1 + k * 4 + 1, none⟩) (World.block_lt_of_cell? (a := ⟨b1, o1 + k * 4 + 1, none⟩) wr p1)).trans p1, (h.cell (p := ⟨b1, o1 + k * 4 + 2, none⟩) (World.block_lt_of_cell? (a := ⟨b1, o1 + k * 4 + 2, none⟩) wr p2)).trans p2, (h.cell (p := ⟨b1, o1 + k * 4 + 3, none⟩) (World.block_lt_of_cell? (a := ⟨b1, o1 + k * 4 + 3, none⟩) wr p3)).trans p3, (h.cell (p := ⟨b2, o2 + k * 4, none⟩) (World.block_lt_of_cell? (a := ⟨b2, o2 + k * 4, none⟩) wr q0)).trans q0, (h.cell (p := ⟨b2, o2 + k * 4 + 1, none⟩) (World.block_lt_of_cell? (a := ⟨b2, o2 + k * 4 + 1, none⟩) wr q1)).trans q1, (h.cell (p := ⟨b2, o2 + k * 4 + 2, none⟩) (World.block_lt_of_cell? (a := ⟨b2, o2 + k * 4 + 2, none⟩) wr q2)).trans q2, (h.cell (p := ⟨b2, o2 + k * 4 + 3, none⟩) (World.block_lt_of_cell? (a := ⟨b2, o2 + k * 4 + 3, none⟩) wr q3)).trans q3⟩
      have K := Hid.mk K
      go_wp2
      refine wp_region_held_drew (S := (fun w' => w'.cell? ⟨b1, o1 + k * 4, none⟩ = some (.int .i64 x.o) ∧ w'.cell? ⟨b1, o1 + k * 4 + 1, none⟩ = some (.int .i64 x.a) ∧ w'.cell? ⟨b1, o1 + k * 4 + 2, none⟩ = some (.int .i64 x.b) ∧ w'.cell? ⟨b1, o1 + k * 4 + 3, none⟩ = some (.int .i64 x.n) ∧ w'.cell? ⟨b2, o2 + k * 4, none⟩ = some (.int .i64 x.o) ∧ w'.cell? ⟨b2, o2 + k * 4 + 1, none⟩ = some (.int .i64 x.a) ∧ w'.cell? ⟨b2, o2 + k * 4 + 2, none⟩ = some (.int .i64 x.b) ∧ w'.cell? ⟨b2, o2 + k * 4 + 3, none⟩ = some (.int .i64 x.n))) (by kernel_rfl) (K.out _ (Below.refl _ _).drew) (fun hHeld => ?_)
      refine wpAnyH_take (i := 0) (oi := _) (v := ?veu1) rfl (by kernel_rfl) (by kernel_rfl) (by kernel_rfl) (fun _ _ _ h => h) (Or.inl ⟨by rfl, ?hyeu1⟩) hHeld ?resteu1
      case hyeu1 => (intro w hSw; (try dsimp only at hSw); go_simp; first | done | with_reducible rfl)
      try simp only [Act.put, List.getElem_toArray, List.getElem_cons_zero, List.setIfInBounds_toArray, List.set_cons_zero, List.set_cons_succ]
      refine wpAnyH_take (i := 1) (oi := _) (v := ?veu2) rfl (by kernel_rfl) (by kernel_rfl) (by kernel_rfl) (fun _ _ _ h => h) (Or.inl ⟨by rfl, ?hyeu2⟩) hHeld ?resteu2
      case hyeu2 => (intro w hSw; (try dsimp only at hSw); go_simp; first | done | with_reducible rfl)
      try simp only [Act.put, List.getElem_toArray, List.getElem_cons_zero, List.getElem_cons_succ, List.setIfInBounds_toArray, List.set_cons_zero, List.set_cons_succ]
      refine wpAnyH_take (i := 2) (oi := _) (v := ?veu3) rfl (by kernel_rfl) (by kernel_rfl) (by kernel_rfl) (fun _ _ _ h => h) (Or.inl ⟨by rfl, ?hyeu3⟩) hHeld ?resteu3
      case hyeu3 => (intro w hSw; (try dsimp only at hSw); go_simp; first | done | with_reducible rfl)
      try simp only [Act.put, List.getElem_toArray, List.getElem_cons_zero, List.getElem_cons_succ, List.setIfInBounds_toArray, List.set_cons_zero, List.set_cons_succ]
      refine wpAnyH_take (i := 3) (oi := _) (v := ?veu4) rfl (by kernel_rfl) (by kernel_rfl) (by kernel_rfl) (fun _ _ _ h => h) (Or.inl ⟨by rfl, ?hyeu4⟩) hHeld ?resteu4
      case hyeu4 => (intro w hSw; (try dsimp only at hSw); go_simp; first | done | with_reducible rfl)
      try simp only [Act.put, List.getElem_toArray, List.getElem_cons_zero, List.getElem_cons_succ, List.setIfInBounds_toArray, List.set_cons_zero, List.set_cons_succ]
      refine wpAnyH_take (i := 4) (oi := _) (v := ?veu5) rfl (by kernel_rfl) (by kernel_rfl) (by kernel_rfl) (fun _ _ _ h => h) (Or.inl ⟨by rfl, ?hyeu5⟩) hHeld ?resteu5
      case hyeu5 => (intro w hSw; (try dsimp only at hSw); go_simp; first | done | with_reducible rfl)
      try simp only [Act.put, List.getElem_toArray, List.getElem_cons_zero, List.getElem_cons_succ, List.setIfInBounds_toArray, List.set_cons_zero, List.set_cons_succ]
      refine wpAnyH_take (i := 5) (oi := _) (v := ?veu6) rfl (by kernel_rfl) (by kernel_rfl) (by kernel_rfl) (fun _ _ _ h => h) (Or.inl ⟨by rfl, ?hyeu6⟩) hHeld ?resteu6
      case hyeu6 => (intro w hSw; (try dsimp only at hSw); go_simp; first | done | with_reducible rfl)
      try simp only [Act.put, List.getElem_toArray, List.getElem_cons_zero, List.getElem_cons_succ, List.setIfInBounds_toArray, List.set_cons_zero, List.set_cons_succ]
      refine wpAnyH_take (i := 6) (oi := _) (v := ?veu7) rfl (by kernel_rfl) (by kernel_rfl) (by kernel_rfl) (fun _ _ _ h => h) (Or.inl ⟨by rfl, ?hyeu7⟩) hHeld ?resteu7
      case hyeu7 => (intro w hSw; (try dsimp only at hSw); go_simp; first | done | with_reducible rfl)
      try simp only [Act.put, List.getElem_toArray, List.getElem_cons_zero, List.getElem_cons_succ, List.setIfInBounds_toArray, List.set_cons_zero, List.set_cons_succ]
      refine wpAnyH_take (i := 7) (oi := _) (v := ?veu8) rfl (by kernel_rfl) (by kernel_rfl) (by kernel_rfl) (fun _ _ _ h => h) (Or.inl ⟨by rfl, ?hyeu8⟩) hHeld ?resteu8
      case hyeu8 => (intro w hSw; (try dsimp only at hSw); go_simp; first | done | with_reducible rfl)
      try simp only [Act.put, List.getElem_toArray, List.getElem_cons_zero, List.getElem_cons_succ, List.setIfInBounds_toArray, List.set_cons_zero, List.set_cons_succ]
      refine wpAnyH_ready (rs := [8]) (by kernel_rfl) (by simp) ?_
      refine AllReadyH.cons (o := _) rfl (fun K0 hK0 => ?_) AllReadyH.nil
      go_simp
      go_at_call 98
      refine (eqTerm_ok x _).mono ?_
      rintro e wev9 ⟨rfl, bev9⟩
      refine hK0.out _ _ (K.out _ (thenB (Below.refl _ _).drew bev9)) (fun hHeld => ?_)
      clear hK0 K0
      try simp only [Act.put, List.getElem_toArray, List.getElem_cons_zero, List.getElem_cons_succ, List.setIfInBounds_toArray, List.set_cons_zero, List.set_cons_succ]
      refine wpAnyH_take (i := 9) (oi := _) (v := ?veu10) rfl (by kernel_rfl) (by kernel_rfl) (by kernel_rfl) (fun _ _ _ h => h) (Or.inl ⟨by rfl, ?hyeu10⟩) hHeld ?resteu10
      case hyeu10 => (intro w hSw; (try dsimp only at hSw); go_simp; first | done | with_reducible rfl)
      try simp only [Act.put, List.getElem_toArray, List.getElem_cons_zero, List.getElem_cons_succ, List.setIfInBounds_toArray, List.set_cons_zero, List.set_cons_succ]
      refine wpAnyH_done (by kernel_rfl) ?_ _
      have BX := thenB hbel.out (thenB (Below.refl _ _).drew bev9)
      go_wp2
      go_roundw
      case rel => exact ⟨k + 1, by omega, by go_num, BX⟩
      case measure => simp [intOf]; omega
    · have hkn : k = n := by omega
      subst hkn
      go_wp2
      go_ret
      exact ⟨rfl, hbel⟩

set_option maxHeartbeats 1000000 in
theorem toTermS_ok (a : Option Addr) (n ca : Nat) (xs : List T4) (w : World) (ha : RdTerm w a xs) (hn : xs.length = n) (hx : n ≤ 1048576) :
    Calls Try.prog 34 #[.slice a n ca] w fun e w' => e = .returned (.slice (some ⟨w.heap.size, 0, none⟩) n n) ∧ OwnTerm w' w.heap.size (some ⟨w.heap.size, 0, none⟩) n xs ∧ Below w.heap.size w w' := by
  obtain ⟨i0, hi, hz0, hz1, hz2⟩ := info_parts Try.infoTerm
  go_enter Try.func34, Try.ntmps34
  go_wp2_with (at_make; refine wpList_make_full _ rfl _ _ 24 rfl w.heap.size 36 i0 (.agg #[.int .i64 0, .int .i64 0, .int .i64 0, .int .i64 0]) 4 Try.underlying24 hi hz0 hz1 .i64 .i64 _ _ n rfl rfl rfl rfl (by rw [hz2]; omega) (by unfold maxLen; omega) (Nat.le_refl _) ?_)
  intro w1 hown hgrow
  have hown0 : w1.ownsRow w.heap.size 36 4 (.slice (some ⟨w.heap.size, 0, none⟩) n n) n (flatTerm (fillTerm xs 0 n)) := by
    rw [fillTerm_zero, zerosTerm, ← madeTerm]
    exact hown
  have hbel : Below w.heap.size w w1 := (Below.refl _ _).grown hgrow (Nat.le_refl _) (by intro k hk; cases hk)
  clear hown hgrow
  go_wp2
  go_loopw [4] (fun i wr => ∃ k : Nat, k ≤ n ∧ i = .int .i64 k ∧ wr.ownsRow w.heap.size 36 4 (.slice (some ⟨w.heap.size, 0, none⟩) n n) n (flatTerm (fillTerm xs k n)) ∧ Below w.heap.size w wr) (fun i _ => n - (intOf i).toNat)
  case atStart => exact ⟨0, Nat.zero_le _, rfl, hown0, hbel⟩
  case round =>
    obtain ⟨k, hk, rfl, hown, hb⟩ := hrel
    by_cases hlt : k < n
    · replace ha := ha.kept hb
      rcases ha with ha | ⟨b1, o1, rfl, hca⟩
      · simp [ha] at hn; omega
      obtain ⟨x, hx1⟩ : ∃ x, xs.getD k zTerm = x := ⟨_, rfl⟩
      obtain ⟨p0, p1, p2, p3⟩ := RdTerm.cells hca k (by omega) x hx1
      have hk1 : (k : Int) < (n : Int) := by omega
      have hfl : (fillTerm xs k n).length = n := fillTerm_len xs k n hn hk
      have hf0 := fillTerm_at xs k n hn hlt
      have hfs := fillTerm_set xs k n hn hlt
      rw [hx1] at hfs
      have HB := Hid.mk hb
      have HO := Hid.mk hown
      have HS : Hid (setTerm (flatTerm (fillTerm xs k n)) (k * 4) x = flatTerm (fillTerm xs (k + 1) n)) := Hid.mk (by rw [← hfs]; exact setTerm_flat _ _ _ (by omega))
      clear hca hown hb hx1 hfs
      go_wp2_with fail
      refine (toTerm_ok x _).mono ?_
      rintro e w2 ⟨rfl, b2⟩
      have hown2 : w2.ownsRow w.heap.size 36 4 (.slice (some ⟨w.heap.size, 0, none⟩) n n) n (flatTerm (fillTerm xs k n)) := World.ownsRow.kept HO.out (Below.grownBy b2 none) (.inr (by simp [Value.ownBlock]))
      have B2 := Hid.mk (HB.out.trans (b2.mono HB.out.size))
      have zF := fun o => hown2.frozenAt o
      have cF : ∀ j, j < 4 → w2.cell? ⟨w.heap.size, k * 4 + j, none⟩ = some (.int .i64 0) := fun j hj => by
        rw [hown2.cellAt (k * 4 + j) (by omega), flatTerm_at _ k j (by omega) hj, hf0]
        match j, hj with
        | 0, _ => rfl
        | 1, _ => rfl
        | 2, _ => rfl
        | 3, _ => rfl
      have c0 := cF 0 (by decide)
      have c1 := cF 1 (by decide)
      have c2 := cF 2 (by decide)
      have c3 := cF 3 (by decide)
      simp only [Nat.add_zero] at c0
      have HN := Hid.mk (HS.out ▸ storedTerm hown2 k x)
      clear cF hown2 b2 hf0 hfl p0 p1 p2 p3
      go_wp2
      go_roundw
      case rel => exact ⟨k + 1, by omega, by go_num, HN.out, ((((B2.out.setCell (Nat.le_refl _) _).setCell (Nat.le_refl _) _).setCell (Nat.le_refl _) _).setCell (Nat.le_refl _) _)⟩
      case measure => simp [intOf]; omega
    · have hkn : k = n := by omega
      subst hkn
      rw [fillTerm_all xs k hn] at hown
      have HO := Hid.mk hown
      clear hown
      go_wp2
      go_ret
      exact ⟨rfl, by unfold OwnTerm; rw [hn]; exact HO.out, hb⟩

set_option maxRecDepth 20000 in
set_option maxHeartbeats 4000000 in
theorem markTermS_ok (a : Option Addr) (n ca base : Nat) (xs : List T4) (q : Int) (w : World) (ha : OwnTerm w base a ca xs) (hn : xs.length = n) (h0 : 0 ≤ q) (hx : q + 4 * (n : Int) ≤ 1099511627776) :
    Calls Try.prog 37 #[.slice a n ca, .int .i64 q] w fun e w' => e = .returned (.int .i64 (q + 4 * (n : Int))) ∧ OwnTerm w' base a ca (marksTerm q n) ∧ w.grownBy w' (a.map Addr.block) := by
  go_enter Try.func37, Try.ntmps37
  go_wp2
  go_loopw [1, 5] (fun p i wr => ∃ k : Nat, k ≤ n ∧ i = .int .i64 k ∧ p = .int .i64 (q + 4 * (k : Int)) ∧ OwnTerm wr base a ca (mfillTerm q k xs) ∧ w.grownBy wr (a.map Addr.block)) (fun _ i _ => n - (intOf i).toNat)
  case atStart => exact ⟨0, Nat.zero_le _, rfl, by simp, by rw [mfillTerm_zero]; exact ha, World.grownBy.refl _ _⟩
  case round =>
    clear ha
    obtain ⟨k, hk, rfl, rfl, O, B⟩ := hrel
    by_cases hlt : k < n
    · obtain ⟨p, hp⟩ : ∃ p, q + 4 * (k : Int) = p := ⟨_, rfl⟩
      have hp0 : 0 ≤ p := by omega
      have hp1 : p + 4 ≤ 1099511627776 := by omega
      have hl := mfillTerm_len q k xs n hn hk
      have hset := mfillTerm_set q k xs (by omega)
      rw [hp] at hset ⊢
      have hO := O
      unfold OwnTerm at hO
      rw [hl] at hO
      obtain ⟨g, cap, hv, hgb, hgl⟩ := World.ownsRow.form hO (by omega)
      simp only [Value.slice.injEq, true_and] at hv
      obtain ⟨rfl, rfl⟩ := hv
      obtain ⟨x, hx1⟩ : ∃ x, (mfillTerm q k xs).getD k zTerm = x := ⟨_, rfl⟩
      have HS : Hid (setTerm (flatTerm (mfillTerm q k xs)) (k * 4) (mTerm p) = flatTerm (mfillTerm q (k + 1) xs)) := Hid.mk (by rw [← hset]; exact setTerm_flat _ _ _ (by omega))
      have zF := fun o => hO.frozenAt o
      have cF : ∀ j, j < 4 → wr.cell? ⟨g, k * 4 + j, none⟩ = (rowTerm x)[j]? := fun j hj => by
        rw [hO.cellAt (k * 4 + j) (by omega), flatTerm_at _ k j (by omega) hj, hx1]
      have hk1 : (k : Int) < (n : Int) := by omega
      have c0 : wr.cell? ⟨g, k * 4, none⟩ = some (.int .i64 x.o) := cF 0 (by decide)
      have c1 : wr.cell? ⟨g, k * 4 + 1, none⟩ = some (.int .i64 x.a) := cF 1 (by decide)
      have c2 : wr.cell? ⟨g, k * 4 + 2, none⟩ = some (.int .i64 x.b) := cF 2 (by decide)
      have c3 : wr.cell? ⟨g, k * 4 + 3, none⟩ = some (.int .i64 x.n) := cF 3 (by decide)
      have HN := storedTerm hO k (mTerm p)
      rw [HS.out] at HN
      dsimp only [mTerm] at HN
      have hl1 := mfillTerm_len q (k + 1) xs n hn (by omega)
      replace HN := Hid.mk HN
      replace hl1 := Hid.mk hl1
      replace B := Hid.mk B
      have HP := Hid.mk hp
      clear cF O hO hset hl hx1 HS hp
      go_wp2
      go_roundw
      case rel =>
        refine ⟨k + 1, by omega, by go_num, ?_, ?_, ?_⟩
        · have h := HP.out
          go_num
        · unfold OwnTerm
          rw [hl1.out]
          exact HN.out
        · replace B := B.out
          clear HN hl1 HP c0 c1 c2 c3 zF
          simp only [Option.map_some] at B ⊢
          iterate 4 (with_reducible refine grownThenTerm ?_ rfl _)
          exact B
      case measure => simp [intOf]; omega
    · have hkn : k = n := by omega
      subst hkn
      rw [mfillTerm_all q xs k hn] at O
      go_wp2
      go_ret
      exact ⟨rfl, O, B⟩

set_option maxRecDepth 20000 in
set_option maxHeartbeats 4000000 in
theorem heldTermS_ok (a : Option Addr) (n ca : Nat) (q : Int) (w : World) (ha : RdTerm w a (marksTerm q n)) (h0 : 0 ≤ q) (hx : q + 4 * (n : Int) ≤ 1099511627776) :
    Calls Try.prog 99 #[.slice a n ca, .int .i64 q] w fun e w' => e = .returned (.int .i64 (q + 4 * (n : Int))) ∧ Below w.heap.size w w' := by
  go_enter Try.func99, Try.ntmps99
  go_wp2
  go_loopw [1, 5] (fun p i wr => ∃ k : Nat, k ≤ n ∧ i = .int .i64 k ∧ p = .int .i64 (q + 4 * (k : Int)) ∧ Below w.heap.size w wr) (fun _ i _ => n - (intOf i).toNat)
  case atStart => exact ⟨0, Nat.zero_le _, rfl, by simp, Below.refl _ _⟩
  case round =>
    obtain ⟨k, hk, rfl, rfl, B⟩ := hrel
    by_cases hlt : k < n
    · obtain ⟨p, hp⟩ : ∃ p, q + 4 * (k : Int) = p := ⟨_, rfl⟩
      have hp0 : 0 ≤ p := by omega
      have hp1 : p + 4 ≤ 1099511627776 := by omega
      have hm := marksTerm_at q n k hlt
      rw [hp] at hm ⊢
      replace ha := ha.kept B
      rcases ha with ha | ⟨b1, o1, rfl, hca⟩
      · have := marksTerm_len q n; simp [ha] at this; omega
      obtain ⟨p0, p1, p2, p3⟩ := RdTerm.cells hca k (by rw [marksTerm_len]; omega) (mTerm p) hm
      dsimp only [mTerm] at p0 p1 p2 p3
      have hk1 : (k : Int) < (n : Int) := by omega
      have HP := Hid.mk hp
      clear hca hm hp
      go_wp2
      go_roundw
      case rel =>
        refine ⟨k + 1, by omega, by go_num, ?_, B⟩
        have h := HP.out
        go_num
      case measure => simp [intOf]; omega
    · have hkn : k = n := by omega
      subst hkn
      go_wp2
      go_ret
      exact ⟨rfl, B⟩

end Go.Proofs.Ythkmoabkeblbjaa
