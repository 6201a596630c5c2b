/- PartsOf: both sides. -/
import Derived.Test.YtfldgeokigcokaaGreatTpA
import Derived.Test.YtfldgeokigcokaaGreatTpB
import Derived.Test.YtfldgeokigcokaaGreatTmT
namespace Go.Proofs.YtfldgeokigcokaaGreat
open Go.RowKit

theorem Own.apart1 {w : World} {base : Nat} {a : Option Addr} {cap : Nat} {zs : List Int} {B : Nat} (h : Own .i64 2 w base a cap zs) (hB : ∀ b : Addr, a = some b → b.block ≠ B) (o : Nat) (vs : List Value) : Own .i64 2 (w.setCells B o vs) base a cap zs :=
  h.sm (X := fun k => k = B) (Sm.cells (X := fun k => k = B) (B := B) rfl o vs) (fun b hb e => hB b hb e)

/-- What PartsOf answers beside its code. -/
@[irreducible] def paL (xs : List T4) (q : Int) : List Int := if akC xs q = 0 then prL xs q.toNat else []

theorem pa_ways (xs : List T4) (q : Int) : (akC xs q ≠ 0 ∧ paL xs q = []) ∨ (akC xs q = 0 ∧ paL xs q = prL xs q.toNat) := by
  unfold paL
  by_cases h : akC xs q = 0
  · exact .inr ⟨h, by rw [if_pos h]⟩
  · exact .inl ⟨h, by rw [if_neg h]⟩

theorem pa_ways2 (xs : List T4) (q : Int) : (tfC xs ≠ 0 ∧ akC xs q = tfC xs ∧ paL xs q = []) ∨ (tfC xs = 0 ∧ btw q 0 ((xs.length : Int) - 1) = false ∧ akC xs q = 3 ∧ paL xs q = []) ∨ (tfC xs = 0 ∧ btw q 0 ((xs.length : Int) - 1) = true ∧ akC xs q = 0 ∧ paL xs q = prL xs q.toNat) := by
  have h1 := pa_ways xs q
  rcases ak_ways xs q with ⟨h2, h3⟩ | ⟨h2, h4, h3⟩ | ⟨h2, h4, h3⟩
  · rcases h1 with ⟨_, h⟩ | ⟨h, _⟩
    · exact .inl ⟨h2, h3, h⟩
    · omega
  · rcases h1 with ⟨_, h⟩ | ⟨h, _⟩
    · exact .inr (.inl ⟨h2, h4, h3, h⟩)
    · omega
  · rcases h1 with ⟨h, _⟩ | ⟨_, h⟩
    · omega
    · exact .inr (.inr ⟨h2, h4, h3, h⟩)

set_option maxRecDepth 20000 in
set_option maxHeartbeats 4000000 in
theorem partsOf_ok (base p g : Nat) (c : Option Addr) (d : Nat) (xs : List T4) (n r : Nat) (w : World) (H : Bk w base p g c d xs) (hn : xs.length = n) (hv : tfC xs = 0) (hok : ∀ t ∈ xs, okT t) (hr : r < n) :
    Calls Tryz.prog 70 #[.pointer (some ⟨p, 0, none⟩), .int .i64 r] w fun e w' => ∃ g4 d4 k4, e = .returned (.slice (some ⟨g4, 0, none⟩) k4 d4) ∧ (prL xs r).length = k4 ∧ Own .i64 2 w' w.heap.size (some ⟨g4, 0, none⟩) d4 (prL xs r) ∧ Below w.heap.size w w' := by
  have VP := H.v
  rw [hn] at VP
  have K : ∀ w' : World, Below w.heap.size w w' → (w'.cell? ⟨p, 0, none⟩ = some (.slice c n d) ∧ w'.cell? ⟨p, 1, none⟩ = some (.map (some g))) := fun w' h => ⟨(VP.kept h).2.1 0 (by simp), (VP.kept h).2.1 1 (by simp)⟩
  have K := Hid.mk K
  have hTc : TM w g (lftM xs []) n := (hn ▸ H.m).eq (fun t _ => by rw [lftM_nil]; rfl)
  have HRd := Hid.mk H.o.rd
  have HOl := Hid.mk H.o.lt
  go_enter Tryz.func70, Tryz.ntmps70
  obtain ⟨s_VP, f_VP, z_VP⟩ := VP.open
  go_wp2_with fail
  clear s_VP f_VP z_VP
  refine wp_region_held_drew (S := (fun w' => w'.cell? ⟨p, 0, none⟩ = some (.slice c n d) ∧ w'.cell? ⟨p, 1, none⟩ = some (.map (some g)))) (by kernel_rfl) (K.out _ (Below.refl _ _).drew) (fun hHeld => ?_)
  refine wpAnyH_take (i := 0) (oi := _) (v := ?vpo0) rfl (by kernel_rfl) (by kernel_rfl) (by kernel_rfl) (fun _ _ _ h => h) (Or.inl ⟨by rfl, ?hypo0⟩) hHeld ?restpo0
  case hypo0 => (intro w hSw; (try dsimp only at hSw); go_simp; first | done | with_reducible rfl)
  try simp only [Act.put, List.getElem_toArray, List.getElem_cons_zero, List.setIfInBounds_toArray, List.set_cons_zero, List.set_cons_succ]
  refine wpAnyH_take (i := 1) (oi := _) (v := ?vpo1) rfl (by kernel_rfl) (by kernel_rfl) (by kernel_rfl) (fun _ _ _ h => h) (Or.inl ⟨by rfl, ?hypo1⟩) hHeld ?restpo1
  case hypo1 => (intro w hSw; (try dsimp only at hSw); go_simp; first | done | with_reducible rfl)
  try simp only [Act.put, List.getElem_toArray, List.getElem_cons_zero, List.getElem_cons_succ, List.setIfInBounds_toArray, List.set_cons_zero, List.set_cons_succ]
  refine wpAnyH_take (i := 2) (oi := _) (v := ?vpo2) rfl (by kernel_rfl) (by kernel_rfl) (by kernel_rfl) (fun _ _ _ h => h) (Or.inl ⟨by rfl, ?hypo2⟩) hHeld ?restpo2
  case hypo2 => (intro w hSw; (try dsimp only at hSw); go_simp; first | done | with_reducible rfl)
  try simp only [Act.put, List.getElem_toArray, List.getElem_cons_zero, List.getElem_cons_succ, List.setIfInBounds_toArray, List.set_cons_zero, List.set_cons_succ]
  refine wpAnyH_take (i := 3) (oi := _) (v := ?vpo3) rfl (by kernel_rfl) (by kernel_rfl) (by kernel_rfl) (fun _ _ _ h => h) (Or.inl ⟨by rfl, ?hypo3⟩) hHeld ?restpo3
  case hypo3 => (intro w hSw; (try dsimp only at hSw); go_simp; first | done | with_reducible rfl)
  try simp only [Act.put, List.getElem_toArray, List.getElem_cons_zero, List.getElem_cons_succ, List.setIfInBounds_toArray, List.set_cons_zero, List.set_cons_succ]
  refine wpAnyH_take (i := 4) (oi := _) (v := ?vpo4) rfl (by kernel_rfl) (by kernel_rfl) (by kernel_rfl) (fun _ _ _ h => h) (Or.inl ⟨by rfl, ?hypo4⟩) hHeld ?restpo4
  case hypo4 => (intro w hSw; (try dsimp only at hSw); go_simp; first | done | with_reducible rfl)
  try simp only [Act.put, List.getElem_toArray, List.getElem_cons_zero, List.getElem_cons_succ, List.setIfInBounds_toArray, List.set_cons_zero, List.set_cons_succ]
  refine wpAnyH_take (i := 5) (oi := _) (v := ?vpo5) rfl (by kernel_rfl) (by kernel_rfl) (by kernel_rfl) (fun _ _ _ h => h) (Or.inl ⟨by rfl, ?hypo5⟩) hHeld ?restpo5
  case hypo5 => (intro w hSw; (try dsimp only at hSw); go_simp; first | done | with_reducible rfl)
  try simp only [Act.put, List.getElem_toArray, List.getElem_cons_zero, List.getElem_cons_succ, List.setIfInBounds_toArray, List.set_cons_zero, List.set_cons_succ]
  refine wpAnyH_take (i := 6) (oi := _) (v := ?vpo6) rfl (by kernel_rfl) (by kernel_rfl) (by kernel_rfl) (fun _ _ _ h => h) (Or.inl ⟨by rfl, ?hypo6⟩) hHeld ?restpo6
  case hypo6 => (intro w hSw; (try dsimp only at hSw); go_simp; first | done | with_reducible rfl)
  try simp only [Act.put, List.getElem_toArray, List.getElem_cons_zero, List.getElem_cons_succ, List.setIfInBounds_toArray, List.set_cons_zero, List.set_cons_succ]
  refine wpAnyH_take (i := 7) (oi := _) (v := ?vpo7) rfl (by kernel_rfl) (by kernel_rfl) (by kernel_rfl) (fun _ _ _ h => h) (Or.inl ⟨by rfl, ?hypo7⟩) hHeld ?restpo7
  case hypo7 => (intro w hSw; (try dsimp only at hSw); go_simp; first | done | with_reducible rfl)
  try simp only [Act.put, List.getElem_toArray, List.getElem_cons_zero, List.getElem_cons_succ, List.setIfInBounds_toArray, List.set_cons_zero, List.set_cons_succ]
  refine wpAnyH_take (i := 8) (oi := _) (v := ?vpo8) rfl (by kernel_rfl) (by kernel_rfl) (by kernel_rfl) (fun _ _ _ h => h) (Or.inl ⟨by rfl, ?hypo8⟩) hHeld ?restpo8
  case hypo8 => (intro w hSw; (try dsimp only at hSw); go_simp; first | done | with_reducible rfl)
  try simp only [Act.put, List.getElem_toArray, List.getElem_cons_zero, List.getElem_cons_succ, List.setIfInBounds_toArray, List.set_cons_zero, List.set_cons_succ]
  refine wpAnyH_ready (rs := [9]) (by kernel_rfl) (by simp) ?_
  refine AllReadyH.cons (o := _) rfl (fun K0 hK0 => ?_) AllReadyH.nil
  go_simp
  have hTd := hTc.kept (Below.refl w.heap.size w).drew
  go_at_call 79
  refine (clone_ok g (lftM xs []) n _ hTd).mono ?_
  rintro e w3 ⟨rfl, tmc, b3⟩
  have acc := thenB (Below.refl w.heap.size w).drew b3
  refine hK0.out _ _ (K.out _ acc) (fun hHeld => ?_)
  clear hK0 K0 hTd
  try simp only [Act.put, List.getElem_toArray, List.getElem_cons_zero, List.getElem_cons_succ, List.setIfInBounds_toArray, List.set_cons_zero, List.set_cons_succ]
  refine wpAnyH_ready (rs := [10]) (by kernel_rfl) (by simp) ?_
  refine AllReadyH.cons (o := _) rfl (fun K0 hK0 => ?_) AllReadyH.nil
  go_simp
  have hsz3 := acc.size
  have hlt3 := tmc.lt
  go_at_call 78
  refine (takeParts_ok xs n hn hv hok r [] c d _ n _ hr (HRd.out.kept acc) (fun ad had e => by have h1 := (HOl.out ad had).2; simp [go_sem] at e; omega) tmc).mono ?_
  rintro e w4 ⟨c4, d4, k4, ps, rfl, hk4, hw4, O4, TK, -, S4⟩
  have B4 : Below w.heap.size w w4 := S4.below' acc (by omega) (fun k hk => by rw [hk]; simp [go_sem])
  refine hK0.out _ _ (K.out _ B4) (fun hHeld => ?_)
  clear hK0 K0 tmc b3 S4
  try simp only [Act.put, List.getElem_toArray, List.getElem_cons_zero, List.getElem_cons_succ, List.setIfInBounds_toArray, List.set_cons_zero, List.set_cons_succ]
  refine wpAnyH_take (i := 11) (oi := _) (v := ?vpo11) rfl (by kernel_rfl) (by kernel_rfl) (by kernel_rfl) (fun _ _ _ h => h) (Or.inl ⟨by rfl, ?hypo11⟩) hHeld ?restpo11
  case hypo11 => (intro w hSw; (try dsimp only at hSw); go_simp; first | done | with_reducible rfl)
  try simp only [Act.put, List.getElem_toArray, List.getElem_cons_zero, List.getElem_cons_succ, List.setIfInBounds_toArray, List.set_cons_zero, List.set_cons_succ]
  refine wpAnyH_done (by kernel_rfl) ?_ _
  clear hHeld K
  have HALL := Hid.mk (TK.all (names_of (tfC_ahead hv)) (by omega))
  have hklen := TK.len (names_of (tfC_ahead hv)) (by omega)
  have htop := TK.top
  rw [hk4] at hklen
  have hn4 : n ≤ 400 := by have := (tfC_zero hv).1; omega
  rcases hw4 with ⟨_, _, h0⟩ | ⟨hk0, g4, rfl⟩
  · rw [h0] at hk4
    rw [List.eq_nil_of_length_eq_zero hk4] at htop
    simp at htop
  have hO4 := (O4.lt _ rfl)
  simp only at hO4
  replace O4 := O4.mono (base' := w.heap.size) (by omega)
  have hg4 : w.heap.size ≤ g4 := by omega
  clear htop TK
  go_wp2_with fail
  refine (sort_ok w.heap.size g4 d4 ps k4 _ O4 hk4 (by omega)).mono ?_
  rintro e w5 ⟨rfl, O5, S5⟩
  rw [HALL.out] at O5
  have hlen : (prL xs r).length = k4 := by rw [← HALL.out, srt_len, hk4]
  have B5 : Below w.heap.size w w5 := S5.below' B4 (by have := B4.size; omega) (fun k hk => by rw [hk]; exact hg4)
  replace O5 := Hid.mk O5
  replace hlen := Hid.mk hlen
  go_wp2
  go_ret
  exact ⟨g4, d4, k4, rfl, hlen.out, O5.out, B5⟩

end Go.Proofs.YtfldgeokigcokaaGreat
