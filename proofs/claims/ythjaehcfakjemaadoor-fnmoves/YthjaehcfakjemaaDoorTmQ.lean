/- The fault of a table: the model, and the program. -/
import Derived.Test.YthjaehcfakjemaaDoorTmO
import Derived.Test.YthjaehcfakjemaaDoorTmN
namespace Go.Proofs.YthjaehcfakjemaaDoor
open Go.RowKit

/-- The place of a term in a table; -1, if it is not there. -/
@[irreducible] def fdT (xs : List T4) (t : T4) : Int := if t ∈ xs then (tmIdx xs t : Nat) else -1

theorem fdT_in {xs : List T4} {t : T4} (h : t ∈ xs) : fdT xs t = (tmIdx xs t : Nat) := by unfold fdT; rw [if_pos h]

theorem fdT_out {xs : List T4} {t : T4} (h : t ∉ xs) : fdT xs t = -1 := by unfold fdT; rw [if_neg h]

theorem tmIdx_le (xs : List T4) (t : T4) : tmIdx xs t ≤ xs.length := List.findIdx_le_length

theorem fdT_here {xs : List T4} {t : T4} {k : Nat} (h : k ≤ tmIdx xs t) (hk : k < xs.length) (he : xs.getD k zTerm = t) : fdT xs t = (k : Nat) := by
  have hm : t ∈ xs := he ▸ getDTerm_mem hk
  rw [fdT_in hm]
  rcases Nat.lt_or_ge k (tmIdx xs t) with h1 | h1
  · exact absurd he (tmIdx_not h1 hk)
  · congr 1; omega

theorem tmIdx_next {xs : List T4} {t : T4} {k : Nat} (h : k ≤ tmIdx xs t) (hk : k < xs.length) (he : xs.getD k zTerm ≠ t) : k + 1 ≤ tmIdx xs t := by
  rcases Nat.lt_or_ge k (tmIdx xs t) with h1 | h1
  · omega
  · have e : tmIdx xs t = k := by omega
    have hl : tmIdx xs t < xs.length := by omega
    have hm : t ∈ xs := by
      by_cases hm : t ∈ xs
      · exact hm
      · have := tmIdx_out hm; omega
    have := tmIdx_at hm
    rw [e] at this
    exact absurd this he

set_option maxHeartbeats 2000000 in
theorem l5Find_ok (a : Option Addr) (n ca : Nat) (xs : List T4) (t : T4) (w : World) (ha : RdTerm w a xs) (hn : xs.length = n) (hx : n ≤ maxLen) :
    Calls Tryd.prog 50 #[.slice a n ca, .agg #[.int .i64 t.o, .int .i64 t.a, .int .i64 t.b, .int .i64 t.n]] w fun e w' => e = .returned (.int .i64 (fdT xs t)) ∧ Below w.heap.size w w' := by
  unfold maxLen at hx
  have HA := Hid.mk ha
  have VX0 := V.new w [.int .i64 t.o, .int .i64 t.a, .int .i64 t.b, .int .i64 t.n] 70
  replace VX0 := Hid.mk VX0
  obtain ⟨F, hF⟩ : ∃ F, fdT xs t = F := ⟨_, rfl⟩
  rw [hF]
  replace hF := Hid.mk hF
  clear ha
  go_enter Tryd.func50, Tryd.ntmps50
  go_wp2
  go_loopw [5] (fun i wr => ∃ k : Nat, k ≤ n ∧ i = .int .i64 k ∧ k ≤ tmIdx xs t ∧ V wr w.heap.size [.int .i64 t.o, .int .i64 t.a, .int .i64 t.b, .int .i64 t.n] ∧ Below w.heap.size w wr) (fun i _ => n - (intOf i).toNat)
  case atStart => exact ⟨0, Nat.zero_le _, rfl, Nat.zero_le _, VX0.out, belowA _ _⟩
  case round =>
    clear VX0
    obtain ⟨k, hk, rfl, hix, VX, B⟩ := hrel
    by_cases hlt : k < n
    · obtain ⟨x, hx1⟩ : ∃ x, xs.getD k zTerm = x := ⟨_, rfl⟩
      have hk1 : (k : Int) < (n : Int) := by omega
      have q1 := eqTm0 x t
      rcases HA.out.kept B with h0 | ⟨b1, o1, rfl, hca⟩
      · rw [h0] at hn; simp at hn; omega
      obtain ⟨p0, p1, p2, p3⟩ := RdTerm.cells hca k (by omega) x hx1
      clear hca
      cases hg : teq x t
      · have hne := teq_no.1 hg
        have hnx := tmIdx_next hix (by omega) (by rw [hx1]; exact hne)
        rw [hg] at q1
        have VX1 := Hid.mk VX
        obtain ⟨s_VX, f_VX, z_VX⟩ := VX.open
        clear hg hne hx1 hix
        replace hnx := Hid.mk hnx
        go_wp2
        go_quiet (fail)
        go_wp2
        go_roundw
        case rel => exact ⟨k + 1, by omega, by go_num, hnx.out, VX1.out.kept (belowN (Below.refl _ _) _), belowN B _⟩
        case measure => simp [intOf]; omega
      · have he := teq_iff.1 hg
        have hh := Hid.mk (fdT_here hix (by omega) (by rw [hx1]; exact he))
        rw [hg] at q1
        obtain ⟨s_VX, f_VX, z_VX⟩ := VX.open
        clear hg he hx1 hix
        go_wp2
        go_quiet (fail)
        go_wp2
        go_ret
        exact ⟨ret_int (hh.out.symm.trans hF.out), belowN B _⟩
    · have hkn : k = n := by omega
      subst hkn
      have hm : t ∉ xs := fun hm => by have := tmIdx_lt hm; omega
      have HF := Hid.mk ((fdT_out hm).symm.trans hF.out)
      clear hm hix
      go_wp2
      go_ret
      exact ⟨ret_int HF.out, B⟩

theorem RdTerm.take {w : World} {a : Option Addr} {xs : List T4} (h : RdTerm w a xs) (k : Nat) : RdTerm w a (xs.take k) := by
  rcases h with h | ⟨b, off, rfl, hc⟩
  · left; rw [h]; simp
  · refine .inr ⟨b, off, rfl, fun i j hi hj => ?_⟩
    rw [List.length_take] at hi
    rw [hc i j (by omega) hj]
    congr 2
    simp only [List.getD]
    rw [List.getElem?_take_of_lt (by omega)]

set_option maxRecDepth 20000 in
set_option maxHeartbeats 8000000 in
theorem specTermsFault_ok (a : Option Addr) (n ca : Nat) (xs : List T4) (w : World) (ha : RdTerm w a xs) (hn : xs.length = n) (hx : n ≤ maxLen) (hca : n ≤ ca) :
    Calls Tryd.prog 26 #[.slice a n ca] w fun e w' => e = .returned (.int .i64 (tfC xs)) ∧ Below w.heap.size w w' := by
  unfold maxLen at hx
  by_cases h2 : 400 < n
  · have d2 : decide ((400 : Int) < n) = true := by simp; omega
    have hr := tfC_great (xs := xs) (by omega)
    rw [hr]
    clear hr h2
    go_enter Tryd.func26, Tryd.ntmps26
    go_wp2
    go_ret
    exact ⟨rfl, Below.refl _ _⟩
  have d2 : decide ((400 : Int) < n) = false := by simp; omega
  have hr := tfC_small (xs := xs) (by omega)
  rw [hr]
  clear hr
  obtain ⟨F, hF⟩ : ∃ F, tfF [] xs = F := ⟨_, rfl⟩
  have h0 : Hid (tfK xs 0 = F) := Hid.mk (by rw [tfK_zero, hF])
  rw [hF]
  clear hF
  have HA := Hid.mk ha
  clear ha
  go_enter Tryd.func26, Tryd.ntmps26
  go_wp2
  clear d2
  go_loopw [3] (fun i wr => ∃ k : Nat, k ≤ n ∧ i = .int .i64 k ∧ Hid (tfK xs k = F) ∧ Below w.heap.size w wr) (fun i _ => n - (intOf i).toNat)
  case atStart => exact ⟨0, Nat.zero_le _, rfl, h0, Below.refl _ _⟩
  case round =>
   clear h0
   obtain ⟨k, hk, rfl, hdr, B⟩ := hrel
   by_cases hlt : k < n
   · obtain ⟨x, hx1⟩ : ∃ x, xs.getD k zTerm = x := ⟨_, rfl⟩
     have hk1 : (k : Int) < (n : Int) := by omega
     have hs := tfK_step xs k (by omega) hx1
     rw [hdr.out] at hs
     have hl : (xs.take k).length = k := by rw [List.length_take]; omega
     have HR := Hid.mk ((HA.out.kept B).take k)
     rcases HA.out.kept B with h0 | ⟨b1, o1, rfl, hcc⟩
     · rw [h0] at hn; simp at hn; omega
     obtain ⟨p0, p1, p2, p3⟩ := RdTerm.cells hcc k (by omega) x hx1
     have hlt1 := World.block_lt_of_cell? _ _ p0
     have CT := Hid.mk (fun w1 h => l5Term_ok (some ⟨b1, o1, none⟩) k ca (xs.take k) x w1 h hl (by unfold maxLen; omega))
     have CFI := Hid.mk (fun w1 h => l5Find_ok (some ⟨b1, o1, none⟩) k ca (xs.take k) x w1 h hl (by unfold maxLen; omega))
     have HX := Hid.mk hx1
     have hkc : (k : Int) ≤ (ca : Int) := by omega
     have hkc2 : k ≤ ca := by omega
     clear hcc hx1 hl
     by_cases h1 : tmC (xs.take k) x = 0
     rotate_left
     · have h2 : (tmC (xs.take k) x != 0) = true := by simp [h1]
       rw [if_neg h1] at hs
       have HS := Hid.mk hs
       clear hs h1 CFI
       generalize tmC (xs.take k) x = kk at *
       have Bo := B
       have K : ∀ w' : World, Below wr.heap.size wr w' → (w'.cell? ⟨b1, o1 + k * 4, none⟩ = some (.int .i64 x.o) ∧ w'.cell? ⟨b1, o1 + k * 4 + 1, none⟩ = some (.int .i64 x.a) ∧ w'.cell? ⟨b1, o1 + k * 4 + 2, none⟩ = some (.int .i64 x.b) ∧ w'.cell? ⟨b1, o1 + k * 4 + 3, none⟩ = some (.int .i64 x.n)) := fun w' h => ⟨((bcell h).1 _ _ hlt1).trans p0, ((bcell h).1 _ _ hlt1).trans p1, ((bcell h).1 _ _ hlt1).trans p2, ((bcell h).1 _ _ hlt1).trans p3⟩
       have K := Hid.mk K
       clear p0 p1 p2 p3
       go_wp2_with fail
       refine wp_region_held_drew (S := (fun w' => w'.cell? ⟨b1, o1 + k * 4, none⟩ = some (.int .i64 x.o) ∧ w'.cell? ⟨b1, o1 + k * 4 + 1, none⟩ = some (.int .i64 x.a) ∧ w'.cell? ⟨b1, o1 + k * 4 + 2, none⟩ = some (.int .i64 x.b) ∧ w'.cell? ⟨b1, o1 + k * 4 + 3, none⟩ = some (.int .i64 x.n))) (by kernel_rfl) (K.out _ (Below.refl _ _).drew) (fun hHeld => ?_)
       refine wpAnyH_take (i := 0) (oi := _) (v := ?vz1u1) rfl (by kernel_rfl) (by kernel_rfl) (by kernel_rfl) (fun _ _ _ h => h) (Or.inl ⟨by rfl, ?hyz1u1⟩) hHeld ?restz1u1
       case hyz1u1 => (intro w hSw; (try dsimp only at hSw); go_simp; first | done | with_reducible rfl)
       try simp only [Act.put, List.getElem_toArray, List.getElem_cons_zero, List.setIfInBounds_toArray, List.set_cons_zero, List.set_cons_succ]
       refine wpAnyH_take (i := 1) (oi := _) (v := ?vz1u2) rfl (by kernel_rfl) (by kernel_rfl) (by kernel_rfl) (fun _ _ _ h => h) (Or.inl ⟨by rfl, ?hyz1u2⟩) hHeld ?restz1u2
       case hyz1u2 => (intro w hSw; (try dsimp only at hSw); go_simp; first | done | with_reducible rfl)
       try simp only [Act.put, List.getElem_toArray, List.getElem_cons_zero, List.getElem_cons_succ, List.setIfInBounds_toArray, List.set_cons_zero, List.set_cons_succ]
       refine wpAnyH_take (i := 2) (oi := _) (v := ?vz1u3) rfl (by kernel_rfl) (by kernel_rfl) (by kernel_rfl) (fun _ _ _ h => h) (Or.inl ⟨by rfl, ?hyz1u3⟩) hHeld ?restz1u3
       case hyz1u3 => (intro w hSw; (try dsimp only at hSw); go_simp; first | done | with_reducible rfl)
       try simp only [Act.put, List.getElem_toArray, List.getElem_cons_zero, List.getElem_cons_succ, List.setIfInBounds_toArray, List.set_cons_zero, List.set_cons_succ]
       refine wpAnyH_take (i := 3) (oi := _) (v := ?vz1u4) rfl (by kernel_rfl) (by kernel_rfl) (by kernel_rfl) (fun _ _ _ h => h) (Or.inl ⟨by rfl, ?hyz1u4⟩) hHeld ?restz1u4
       case hyz1u4 => (intro w hSw; (try dsimp only at hSw); go_simp; first | done | with_reducible rfl)
       try simp only [Act.put, List.getElem_toArray, List.getElem_cons_zero, List.getElem_cons_succ, List.setIfInBounds_toArray, List.set_cons_zero, List.set_cons_succ]
       refine wpAnyH_take (i := 4) (oi := _) (v := ?vz1u5) rfl (by kernel_rfl) (by kernel_rfl) (by kernel_rfl) (fun _ _ _ h => h) (Or.inl ⟨by rfl, ?hyz1u5⟩) hHeld ?restz1u5
       case hyz1u5 => (intro w hSw; (try dsimp only at hSw); go_simp; first | done | with_reducible rfl)
       try simp only [Act.put, List.getElem_toArray, List.getElem_cons_zero, List.getElem_cons_succ, List.setIfInBounds_toArray, List.set_cons_zero, List.set_cons_succ]
       refine wpAnyH_take (i := 5) (oi := _) (v := ?vz1u6) rfl (by kernel_rfl) (by kernel_rfl) (by kernel_rfl) (fun _ _ _ h => h) (Or.inl ⟨by rfl, ?hyz1u6⟩) hHeld ?restz1u6
       case hyz1u6 => (intro w hSw; (try dsimp only at hSw); go_simp; first | done | with_reducible rfl)
       try simp only [Act.put, List.getElem_toArray, List.getElem_cons_zero, List.getElem_cons_succ, List.setIfInBounds_toArray, List.set_cons_zero, List.set_cons_succ]
       refine wpAnyH_take (i := 6) (oi := _) (v := ?vz1u7) rfl (by kernel_rfl) (by kernel_rfl) (by kernel_rfl) (fun _ _ _ h => h) (Or.inl ⟨by rfl, ?hyz1u7⟩) hHeld ?restz1u7
       case hyz1u7 => (intro w hSw; (try dsimp only at hSw); go_simp; first | done | with_reducible rfl)
       try simp only [Act.put, List.getElem_toArray, List.getElem_cons_zero, List.getElem_cons_succ, List.setIfInBounds_toArray, List.set_cons_zero, List.set_cons_succ]
       refine wpAnyH_ready (rs := [7]) (by kernel_rfl) (by simp) ?_
       refine AllReadyH.cons (o := _) rfl (fun K0 hK0 => ?_) AllReadyH.nil
       go_simp
       go_at_call 49
       refine (CT.out _ (HR.out.kept (Below.refl _ _).drew)).mono ?_
       rintro e wz1v8 ⟨rfl, bz1v8⟩
       refine hK0.out _ _ (K.out _ (thenB (Below.refl _ _).drew bz1v8)) (fun hHeld => ?_)
       clear hK0 K0
       try simp only [Act.put, List.getElem_toArray, List.getElem_cons_zero, List.getElem_cons_succ, List.setIfInBounds_toArray, List.set_cons_zero, List.set_cons_succ]
       refine wpAnyH_take (i := 8) (oi := _) (v := ?vz1u9) rfl (by kernel_rfl) (by kernel_rfl) (by kernel_rfl) (fun _ _ _ h => h) (Or.inl ⟨by rfl, ?hyz1u9⟩) hHeld ?restz1u9
       case hyz1u9 => (intro w hSw; (try dsimp only at hSw); go_simp; first | done | with_reducible rfl)
       try simp only [Act.put, List.getElem_toArray, List.getElem_cons_zero, List.getElem_cons_succ, List.setIfInBounds_toArray, List.set_cons_zero, List.set_cons_succ]
       refine wpAnyH_done (by kernel_rfl) ?_ _
       clear K hHeld
       replace B := thenB B (thenB (Below.refl _ _).drew bz1v8)
       have Sz1 := ((thenB (Below.refl _ _).drew bz1v8)).size
       clear bz1v8
       have Bo := B
       go_wp2
       go_ret
       exact ⟨ret_int HS.out.symm, Bo⟩
     · rw [if_pos h1] at hs
       rw [h1] at CT
       clear h1
       have P0 := Hid.mk p0
       have P1 := Hid.mk p1
       have P2 := Hid.mk p2
       have P3 := Hid.mk p3
       by_cases hm : x ∈ xs.take k
       · skip
         rw [if_pos hm] at hs
         have hf := fdT_in hm
         rw [hf] at CFI
         have HS := Hid.mk hs
         clear hs hm hf
         generalize tmIdx (xs.take k) x = ix at *
         have Bo := B
         have HB0 := Hid.mk B
         have K : ∀ w' : World, Below wr.heap.size wr w' → (w'.cell? ⟨b1, o1 + k * 4, none⟩ = some (.int .i64 x.o) ∧ w'.cell? ⟨b1, o1 + k * 4 + 1, none⟩ = some (.int .i64 x.a) ∧ w'.cell? ⟨b1, o1 + k * 4 + 2, none⟩ = some (.int .i64 x.b) ∧ w'.cell? ⟨b1, o1 + k * 4 + 3, none⟩ = some (.int .i64 x.n)) := fun w' h => ⟨((bcell h).1 _ _ hlt1).trans p0, ((bcell h).1 _ _ hlt1).trans p1, ((bcell h).1 _ _ hlt1).trans p2, ((bcell h).1 _ _ hlt1).trans p3⟩
         have K := Hid.mk K
         clear p0 p1 p2 p3
         go_wp2_with fail
         refine wp_region_held_drew (S := (fun w' => w'.cell? ⟨b1, o1 + k * 4, none⟩ = some (.int .i64 x.o) ∧ w'.cell? ⟨b1, o1 + k * 4 + 1, none⟩ = some (.int .i64 x.a) ∧ w'.cell? ⟨b1, o1 + k * 4 + 2, none⟩ = some (.int .i64 x.b) ∧ w'.cell? ⟨b1, o1 + k * 4 + 3, none⟩ = some (.int .i64 x.n))) (by kernel_rfl) (K.out _ (Below.refl _ _).drew) (fun hHeld => ?_)
         refine wpAnyH_take (i := 0) (oi := _) (v := ?vz21u1) rfl (by kernel_rfl) (by kernel_rfl) (by kernel_rfl) (fun _ _ _ h => h) (Or.inl ⟨by rfl, ?hyz21u1⟩) hHeld ?restz21u1
         case hyz21u1 => (intro w hSw; (try dsimp only at hSw); go_simp; first | done | with_reducible rfl)
         try simp only [Act.put, List.getElem_toArray, List.getElem_cons_zero, List.setIfInBounds_toArray, List.set_cons_zero, List.set_cons_succ]
         refine wpAnyH_take (i := 1) (oi := _) (v := ?vz21u2) rfl (by kernel_rfl) (by kernel_rfl) (by kernel_rfl) (fun _ _ _ h => h) (Or.inl ⟨by rfl, ?hyz21u2⟩) hHeld ?restz21u2
         case hyz21u2 => (intro w hSw; (try dsimp only at hSw); go_simp; first | done | with_reducible rfl)
         try simp only [Act.put, List.getElem_toArray, List.getElem_cons_zero, List.getElem_cons_succ, List.setIfInBounds_toArray, List.set_cons_zero, List.set_cons_succ]
         refine wpAnyH_take (i := 2) (oi := _) (v := ?vz21u3) rfl (by kernel_rfl) (by kernel_rfl) (by kernel_rfl) (fun _ _ _ h => h) (Or.inl ⟨by rfl, ?hyz21u3⟩) hHeld ?restz21u3
         case hyz21u3 => (intro w hSw; (try dsimp only at hSw); go_simp; first | done | with_reducible rfl)
         try simp only [Act.put, List.getElem_toArray, List.getElem_cons_zero, List.getElem_cons_succ, List.setIfInBounds_toArray, List.set_cons_zero, List.set_cons_succ]
         refine wpAnyH_take (i := 3) (oi := _) (v := ?vz21u4) rfl (by kernel_rfl) (by kernel_rfl) (by kernel_rfl) (fun _ _ _ h => h) (Or.inl ⟨by rfl, ?hyz21u4⟩) hHeld ?restz21u4
         case hyz21u4 => (intro w hSw; (try dsimp only at hSw); go_simp; first | done | with_reducible rfl)
         try simp only [Act.put, List.getElem_toArray, List.getElem_cons_zero, List.getElem_cons_succ, List.setIfInBounds_toArray, List.set_cons_zero, List.set_cons_succ]
         refine wpAnyH_take (i := 4) (oi := _) (v := ?vz21u5) rfl (by kernel_rfl) (by kernel_rfl) (by kernel_rfl) (fun _ _ _ h => h) (Or.inl ⟨by rfl, ?hyz21u5⟩) hHeld ?restz21u5
         case hyz21u5 => (intro w hSw; (try dsimp only at hSw); go_simp; first | done | with_reducible rfl)
         try simp only [Act.put, List.getElem_toArray, List.getElem_cons_zero, List.getElem_cons_succ, List.setIfInBounds_toArray, List.set_cons_zero, List.set_cons_succ]
         refine wpAnyH_take (i := 5) (oi := _) (v := ?vz21u6) rfl (by kernel_rfl) (by kernel_rfl) (by kernel_rfl) (fun _ _ _ h => h) (Or.inl ⟨by rfl, ?hyz21u6⟩) hHeld ?restz21u6
         case hyz21u6 => (intro w hSw; (try dsimp only at hSw); go_simp; first | done | with_reducible rfl)
         try simp only [Act.put, List.getElem_toArray, List.getElem_cons_zero, List.getElem_cons_succ, List.setIfInBounds_toArray, List.set_cons_zero, List.set_cons_succ]
         refine wpAnyH_take (i := 6) (oi := _) (v := ?vz21u7) rfl (by kernel_rfl) (by kernel_rfl) (by kernel_rfl) (fun _ _ _ h => h) (Or.inl ⟨by rfl, ?hyz21u7⟩) hHeld ?restz21u7
         case hyz21u7 => (intro w hSw; (try dsimp only at hSw); go_simp; first | done | with_reducible rfl)
         try simp only [Act.put, List.getElem_toArray, List.getElem_cons_zero, List.getElem_cons_succ, List.setIfInBounds_toArray, List.set_cons_zero, List.set_cons_succ]
         refine wpAnyH_ready (rs := [7]) (by kernel_rfl) (by simp) ?_
         refine AllReadyH.cons (o := _) rfl (fun K0 hK0 => ?_) AllReadyH.nil
         go_simp
         go_at_call 49
         refine (CT.out _ (HR.out.kept (Below.refl _ _).drew)).mono ?_
         rintro e wz21v8 ⟨rfl, bz21v8⟩
         refine hK0.out _ _ (K.out _ (thenB (Below.refl _ _).drew bz21v8)) (fun hHeld => ?_)
         clear hK0 K0
         try simp only [Act.put, List.getElem_toArray, List.getElem_cons_zero, List.getElem_cons_succ, List.setIfInBounds_toArray, List.set_cons_zero, List.set_cons_succ]
         refine wpAnyH_take (i := 8) (oi := _) (v := ?vz21u9) rfl (by kernel_rfl) (by kernel_rfl) (by kernel_rfl) (fun _ _ _ h => h) (Or.inl ⟨by rfl, ?hyz21u9⟩) hHeld ?restz21u9
         case hyz21u9 => (intro w hSw; (try dsimp only at hSw); go_simp; first | done | with_reducible rfl)
         try simp only [Act.put, List.getElem_toArray, List.getElem_cons_zero, List.getElem_cons_succ, List.setIfInBounds_toArray, List.set_cons_zero, List.set_cons_succ]
         refine wpAnyH_done (by kernel_rfl) ?_ _
         clear K hHeld
         replace B := thenB B (thenB (Below.refl _ _).drew bz21v8)
         have Sz21 := ((thenB (Below.refl _ _).drew bz21v8)).size
         clear bz21v8
         have Bo := B
         clear hlt1
         have HR2 := Hid.mk (HA.out.kept B)
         rcases HA.out.kept B with h0 | ⟨b2, o2, e2, hcb⟩
         · rw [h0] at hn; simp at hn; omega
         simp only [Option.some.injEq, Addr.mk.injEq, and_true] at e2
         obtain ⟨rfl, rfl⟩ := e2
         obtain ⟨r0, r1, r2, r3⟩ := RdTerm.cells hcb k (by omega) x HX.out
         clear hcb
         have hlt1 := World.block_lt_of_cell? _ _ r0
         have K : ∀ w' : World, Below wz21v8.heap.size wz21v8 w' → (w'.cell? ⟨b1, o1 + k * 4, none⟩ = some (.int .i64 x.o) ∧ w'.cell? ⟨b1, o1 + k * 4 + 1, none⟩ = some (.int .i64 x.a) ∧ w'.cell? ⟨b1, o1 + k * 4 + 2, none⟩ = some (.int .i64 x.b) ∧ w'.cell? ⟨b1, o1 + k * 4 + 3, none⟩ = some (.int .i64 x.n)) := fun w' h => ⟨((bcell h).1 _ _ hlt1).trans r0, ((bcell h).1 _ _ hlt1).trans r1, ((bcell h).1 _ _ hlt1).trans r2, ((bcell h).1 _ _ hlt1).trans r3⟩
         have K := Hid.mk K
         clear r0 r1 r2 r3
         go_wp2_with fail
         refine wp_region_held_drew (S := (fun w' => w'.cell? ⟨b1, o1 + k * 4, none⟩ = some (.int .i64 x.o) ∧ w'.cell? ⟨b1, o1 + k * 4 + 1, none⟩ = some (.int .i64 x.a) ∧ w'.cell? ⟨b1, o1 + k * 4 + 2, none⟩ = some (.int .i64 x.b) ∧ w'.cell? ⟨b1, o1 + k * 4 + 3, none⟩ = some (.int .i64 x.n))) (by kernel_rfl) (K.out _ (Below.refl _ _).drew) (fun hHeld => ?_)
         refine wpAnyH_take (i := 0) (oi := _) (v := ?vz22u1) rfl (by kernel_rfl) (by kernel_rfl) (by kernel_rfl) (fun _ _ _ h => h) (Or.inl ⟨by rfl, ?hyz22u1⟩) hHeld ?restz22u1
         case hyz22u1 => (intro w hSw; (try dsimp only at hSw); go_simp; first | done | with_reducible rfl)
         try simp only [Act.put, List.getElem_toArray, List.getElem_cons_zero, List.setIfInBounds_toArray, List.set_cons_zero, List.set_cons_succ]
         refine wpAnyH_take (i := 1) (oi := _) (v := ?vz22u2) rfl (by kernel_rfl) (by kernel_rfl) (by kernel_rfl) (fun _ _ _ h => h) (Or.inl ⟨by rfl, ?hyz22u2⟩) hHeld ?restz22u2
         case hyz22u2 => (intro w hSw; (try dsimp only at hSw); go_simp; first | done | with_reducible rfl)
         try simp only [Act.put, List.getElem_toArray, List.getElem_cons_zero, List.getElem_cons_succ, List.setIfInBounds_toArray, List.set_cons_zero, List.set_cons_succ]
         refine wpAnyH_take (i := 2) (oi := _) (v := ?vz22u3) rfl (by kernel_rfl) (by kernel_rfl) (by kernel_rfl) (fun _ _ _ h => h) (Or.inl ⟨by rfl, ?hyz22u3⟩) hHeld ?restz22u3
         case hyz22u3 => (intro w hSw; (try dsimp only at hSw); go_simp; first | done | with_reducible rfl)
         try simp only [Act.put, List.getElem_toArray, List.getElem_cons_zero, List.getElem_cons_succ, List.setIfInBounds_toArray, List.set_cons_zero, List.set_cons_succ]
         refine wpAnyH_take (i := 3) (oi := _) (v := ?vz22u4) rfl (by kernel_rfl) (by kernel_rfl) (by kernel_rfl) (fun _ _ _ h => h) (Or.inl ⟨by rfl, ?hyz22u4⟩) hHeld ?restz22u4
         case hyz22u4 => (intro w hSw; (try dsimp only at hSw); go_simp; first | done | with_reducible rfl)
         try simp only [Act.put, List.getElem_toArray, List.getElem_cons_zero, List.getElem_cons_succ, List.setIfInBounds_toArray, List.set_cons_zero, List.set_cons_succ]
         refine wpAnyH_take (i := 4) (oi := _) (v := ?vz22u5) rfl (by kernel_rfl) (by kernel_rfl) (by kernel_rfl) (fun _ _ _ h => h) (Or.inl ⟨by rfl, ?hyz22u5⟩) hHeld ?restz22u5
         case hyz22u5 => (intro w hSw; (try dsimp only at hSw); go_simp; first | done | with_reducible rfl)
         try simp only [Act.put, List.getElem_toArray, List.getElem_cons_zero, List.getElem_cons_succ, List.setIfInBounds_toArray, List.set_cons_zero, List.set_cons_succ]
         refine wpAnyH_take (i := 5) (oi := _) (v := ?vz22u6) rfl (by kernel_rfl) (by kernel_rfl) (by kernel_rfl) (fun _ _ _ h => h) (Or.inl ⟨by rfl, ?hyz22u6⟩) hHeld ?restz22u6
         case hyz22u6 => (intro w hSw; (try dsimp only at hSw); go_simp; first | done | with_reducible rfl)
         try simp only [Act.put, List.getElem_toArray, List.getElem_cons_zero, List.getElem_cons_succ, List.setIfInBounds_toArray, List.set_cons_zero, List.set_cons_succ]
         refine wpAnyH_take (i := 6) (oi := _) (v := ?vz22u7) rfl (by kernel_rfl) (by kernel_rfl) (by kernel_rfl) (fun _ _ _ h => h) (Or.inl ⟨by rfl, ?hyz22u7⟩) hHeld ?restz22u7
         case hyz22u7 => (intro w hSw; (try dsimp only at hSw); go_simp; first | done | with_reducible rfl)
         try simp only [Act.put, List.getElem_toArray, List.getElem_cons_zero, List.getElem_cons_succ, List.setIfInBounds_toArray, List.set_cons_zero, List.set_cons_succ]
         refine wpAnyH_ready (rs := [7]) (by kernel_rfl) (by simp) ?_
         refine AllReadyH.cons (o := _) rfl (fun K0 hK0 => ?_) AllReadyH.nil
         go_simp
         go_at_call 50
         refine (CFI.out _ (HR2.out.take k |>.kept (Below.refl _ _).drew)).mono ?_
         rintro e wz22v8 ⟨rfl, bz22v8⟩
         refine hK0.out _ _ (K.out _ (thenB (Below.refl _ _).drew bz22v8)) (fun hHeld => ?_)
         clear hK0 K0
         try simp only [Act.put, List.getElem_toArray, List.getElem_cons_zero, List.getElem_cons_succ, List.setIfInBounds_toArray, List.set_cons_zero, List.set_cons_succ]
         refine wpAnyH_take (i := 8) (oi := _) (v := ?vz22u9) rfl (by kernel_rfl) (by kernel_rfl) (by kernel_rfl) (fun _ _ _ h => h) (Or.inl ⟨by rfl, ?hyz22u9⟩) hHeld ?restz22u9
         case hyz22u9 => (intro w hSw; (try dsimp only at hSw); go_simp; first | done | with_reducible rfl)
         try simp only [Act.put, List.getElem_toArray, List.getElem_cons_zero, List.getElem_cons_succ, List.setIfInBounds_toArray, List.set_cons_zero, List.set_cons_succ]
         refine wpAnyH_done (by kernel_rfl) ?_ _
         clear K hHeld
         replace B := thenB B (thenB (Below.refl _ _).drew bz22v8)
         have Sz22 := ((thenB (Below.refl _ _).drew bz22v8)).size
         clear bz22v8
         have Bo := B
         go_wp2
         go_ret
         exact ⟨ret_int HS.out.symm, Bo⟩
       · skip
         rw [if_neg hm] at hs
         have hf := fdT_out hm
         rw [hf] at CFI
         have HS := Hid.mk hs
         clear hs hm hf
         have Bo := B
         have HB0 := Hid.mk B
         have K : ∀ w' : World, Below wr.heap.size wr w' → (w'.cell? ⟨b1, o1 + k * 4, none⟩ = some (.int .i64 x.o) ∧ w'.cell? ⟨b1, o1 + k * 4 + 1, none⟩ = some (.int .i64 x.a) ∧ w'.cell? ⟨b1, o1 + k * 4 + 2, none⟩ = some (.int .i64 x.b) ∧ w'.cell? ⟨b1, o1 + k * 4 + 3, none⟩ = some (.int .i64 x.n)) := fun w' h => ⟨((bcell h).1 _ _ hlt1).trans p0, ((bcell h).1 _ _ hlt1).trans p1, ((bcell h).1 _ _ hlt1).trans p2, ((bcell h).1 _ _ hlt1).trans p3⟩
         have K := Hid.mk K
         clear p0 p1 p2 p3
         go_wp2_with fail
         refine wp_region_held_drew (S := (fun w' => w'.cell? ⟨b1, o1 + k * 4, none⟩ = some (.int .i64 x.o) ∧ w'.cell? ⟨b1, o1 + k * 4 + 1, none⟩ = some (.int .i64 x.a) ∧ w'.cell? ⟨b1, o1 + k * 4 + 2, none⟩ = some (.int .i64 x.b) ∧ w'.cell? ⟨b1, o1 + k * 4 + 3, none⟩ = some (.int .i64 x.n))) (by kernel_rfl) (K.out _ (Below.refl _ _).drew) (fun hHeld => ?_)
         refine wpAnyH_take (i := 0) (oi := _) (v := ?vz41u1) rfl (by kernel_rfl) (by kernel_rfl) (by kernel_rfl) (fun _ _ _ h => h) (Or.inl ⟨by rfl, ?hyz41u1⟩) hHeld ?restz41u1
         case hyz41u1 => (intro w hSw; (try dsimp only at hSw); go_simp; first | done | with_reducible rfl)
         try simp only [Act.put, List.getElem_toArray, List.getElem_cons_zero, List.setIfInBounds_toArray, List.set_cons_zero, List.set_cons_succ]
         refine wpAnyH_take (i := 1) (oi := _) (v := ?vz41u2) rfl (by kernel_rfl) (by kernel_rfl) (by kernel_rfl) (fun _ _ _ h => h) (Or.inl ⟨by rfl, ?hyz41u2⟩) hHeld ?restz41u2
         case hyz41u2 => (intro w hSw; (try dsimp only at hSw); go_simp; first | done | with_reducible rfl)
         try simp only [Act.put, List.getElem_toArray, List.getElem_cons_zero, List.getElem_cons_succ, List.setIfInBounds_toArray, List.set_cons_zero, List.set_cons_succ]
         refine wpAnyH_take (i := 2) (oi := _) (v := ?vz41u3) rfl (by kernel_rfl) (by kernel_rfl) (by kernel_rfl) (fun _ _ _ h => h) (Or.inl ⟨by rfl, ?hyz41u3⟩) hHeld ?restz41u3
         case hyz41u3 => (intro w hSw; (try dsimp only at hSw); go_simp; first | done | with_reducible rfl)
         try simp only [Act.put, List.getElem_toArray, List.getElem_cons_zero, List.getElem_cons_succ, List.setIfInBounds_toArray, List.set_cons_zero, List.set_cons_succ]
         refine wpAnyH_take (i := 3) (oi := _) (v := ?vz41u4) rfl (by kernel_rfl) (by kernel_rfl) (by kernel_rfl) (fun _ _ _ h => h) (Or.inl ⟨by rfl, ?hyz41u4⟩) hHeld ?restz41u4
         case hyz41u4 => (intro w hSw; (try dsimp only at hSw); go_simp; first | done | with_reducible rfl)
         try simp only [Act.put, List.getElem_toArray, List.getElem_cons_zero, List.getElem_cons_succ, List.setIfInBounds_toArray, List.set_cons_zero, List.set_cons_succ]
         refine wpAnyH_take (i := 4) (oi := _) (v := ?vz41u5) rfl (by kernel_rfl) (by kernel_rfl) (by kernel_rfl) (fun _ _ _ h => h) (Or.inl ⟨by rfl, ?hyz41u5⟩) hHeld ?restz41u5
         case hyz41u5 => (intro w hSw; (try dsimp only at hSw); go_simp; first | done | with_reducible rfl)
         try simp only [Act.put, List.getElem_toArray, List.getElem_cons_zero, List.getElem_cons_succ, List.setIfInBounds_toArray, List.set_cons_zero, List.set_cons_succ]
         refine wpAnyH_take (i := 5) (oi := _) (v := ?vz41u6) rfl (by kernel_rfl) (by kernel_rfl) (by kernel_rfl) (fun _ _ _ h => h) (Or.inl ⟨by rfl, ?hyz41u6⟩) hHeld ?restz41u6
         case hyz41u6 => (intro w hSw; (try dsimp only at hSw); go_simp; first | done | with_reducible rfl)
         try simp only [Act.put, List.getElem_toArray, List.getElem_cons_zero, List.getElem_cons_succ, List.setIfInBounds_toArray, List.set_cons_zero, List.set_cons_succ]
         refine wpAnyH_take (i := 6) (oi := _) (v := ?vz41u7) rfl (by kernel_rfl) (by kernel_rfl) (by kernel_rfl) (fun _ _ _ h => h) (Or.inl ⟨by rfl, ?hyz41u7⟩) hHeld ?restz41u7
         case hyz41u7 => (intro w hSw; (try dsimp only at hSw); go_simp; first | done | with_reducible rfl)
         try simp only [Act.put, List.getElem_toArray, List.getElem_cons_zero, List.getElem_cons_succ, List.setIfInBounds_toArray, List.set_cons_zero, List.set_cons_succ]
         refine wpAnyH_ready (rs := [7]) (by kernel_rfl) (by simp) ?_
         refine AllReadyH.cons (o := _) rfl (fun K0 hK0 => ?_) AllReadyH.nil
         go_simp
         go_at_call 49
         refine (CT.out _ (HR.out.kept (Below.refl _ _).drew)).mono ?_
         rintro e wz41v8 ⟨rfl, bz41v8⟩
         refine hK0.out _ _ (K.out _ (thenB (Below.refl _ _).drew bz41v8)) (fun hHeld => ?_)
         clear hK0 K0
         try simp only [Act.put, List.getElem_toArray, List.getElem_cons_zero, List.getElem_cons_succ, List.setIfInBounds_toArray, List.set_cons_zero, List.set_cons_succ]
         refine wpAnyH_take (i := 8) (oi := _) (v := ?vz41u9) rfl (by kernel_rfl) (by kernel_rfl) (by kernel_rfl) (fun _ _ _ h => h) (Or.inl ⟨by rfl, ?hyz41u9⟩) hHeld ?restz41u9
         case hyz41u9 => (intro w hSw; (try dsimp only at hSw); go_simp; first | done | with_reducible rfl)
         try simp only [Act.put, List.getElem_toArray, List.getElem_cons_zero, List.getElem_cons_succ, List.setIfInBounds_toArray, List.set_cons_zero, List.set_cons_succ]
         refine wpAnyH_done (by kernel_rfl) ?_ _
         clear K hHeld
         replace B := thenB B (thenB (Below.refl _ _).drew bz41v8)
         have Sz41 := ((thenB (Below.refl _ _).drew bz41v8)).size
         clear bz41v8
         have Bo := B
         clear hlt1
         have HR2 := Hid.mk (HA.out.kept B)
         rcases HA.out.kept B with h0 | ⟨b2, o2, e2, hcb⟩
         · rw [h0] at hn; simp at hn; omega
         simp only [Option.some.injEq, Addr.mk.injEq, and_true] at e2
         obtain ⟨rfl, rfl⟩ := e2
         obtain ⟨r0, r1, r2, r3⟩ := RdTerm.cells hcb k (by omega) x HX.out
         clear hcb
         have hlt1 := World.block_lt_of_cell? _ _ r0
         have K : ∀ w' : World, Below wz41v8.heap.size wz41v8 w' → (w'.cell? ⟨b1, o1 + k * 4, none⟩ = some (.int .i64 x.o) ∧ w'.cell? ⟨b1, o1 + k * 4 + 1, none⟩ = some (.int .i64 x.a) ∧ w'.cell? ⟨b1, o1 + k * 4 + 2, none⟩ = some (.int .i64 x.b) ∧ w'.cell? ⟨b1, o1 + k * 4 + 3, none⟩ = some (.int .i64 x.n)) := fun w' h => ⟨((bcell h).1 _ _ hlt1).trans r0, ((bcell h).1 _ _ hlt1).trans r1, ((bcell h).1 _ _ hlt1).trans r2, ((bcell h).1 _ _ hlt1).trans r3⟩
         have K := Hid.mk K
         clear r0 r1 r2 r3
         go_wp2_with fail
         refine wp_region_held_drew (S := (fun w' => w'.cell? ⟨b1, o1 + k * 4, none⟩ = some (.int .i64 x.o) ∧ w'.cell? ⟨b1, o1 + k * 4 + 1, none⟩ = some (.int .i64 x.a) ∧ w'.cell? ⟨b1, o1 + k * 4 + 2, none⟩ = some (.int .i64 x.b) ∧ w'.cell? ⟨b1, o1 + k * 4 + 3, none⟩ = some (.int .i64 x.n))) (by kernel_rfl) (K.out _ (Below.refl _ _).drew) (fun hHeld => ?_)
         refine wpAnyH_take (i := 0) (oi := _) (v := ?vz42u1) rfl (by kernel_rfl) (by kernel_rfl) (by kernel_rfl) (fun _ _ _ h => h) (Or.inl ⟨by rfl, ?hyz42u1⟩) hHeld ?restz42u1
         case hyz42u1 => (intro w hSw; (try dsimp only at hSw); go_simp; first | done | with_reducible rfl)
         try simp only [Act.put, List.getElem_toArray, List.getElem_cons_zero, List.setIfInBounds_toArray, List.set_cons_zero, List.set_cons_succ]
         refine wpAnyH_take (i := 1) (oi := _) (v := ?vz42u2) rfl (by kernel_rfl) (by kernel_rfl) (by kernel_rfl) (fun _ _ _ h => h) (Or.inl ⟨by rfl, ?hyz42u2⟩) hHeld ?restz42u2
         case hyz42u2 => (intro w hSw; (try dsimp only at hSw); go_simp; first | done | with_reducible rfl)
         try simp only [Act.put, List.getElem_toArray, List.getElem_cons_zero, List.getElem_cons_succ, List.setIfInBounds_toArray, List.set_cons_zero, List.set_cons_succ]
         refine wpAnyH_take (i := 2) (oi := _) (v := ?vz42u3) rfl (by kernel_rfl) (by kernel_rfl) (by kernel_rfl) (fun _ _ _ h => h) (Or.inl ⟨by rfl, ?hyz42u3⟩) hHeld ?restz42u3
         case hyz42u3 => (intro w hSw; (try dsimp only at hSw); go_simp; first | done | with_reducible rfl)
         try simp only [Act.put, List.getElem_toArray, List.getElem_cons_zero, List.getElem_cons_succ, List.setIfInBounds_toArray, List.set_cons_zero, List.set_cons_succ]
         refine wpAnyH_take (i := 3) (oi := _) (v := ?vz42u4) rfl (by kernel_rfl) (by kernel_rfl) (by kernel_rfl) (fun _ _ _ h => h) (Or.inl ⟨by rfl, ?hyz42u4⟩) hHeld ?restz42u4
         case hyz42u4 => (intro w hSw; (try dsimp only at hSw); go_simp; first | done | with_reducible rfl)
         try simp only [Act.put, List.getElem_toArray, List.getElem_cons_zero, List.getElem_cons_succ, List.setIfInBounds_toArray, List.set_cons_zero, List.set_cons_succ]
         refine wpAnyH_take (i := 4) (oi := _) (v := ?vz42u5) rfl (by kernel_rfl) (by kernel_rfl) (by kernel_rfl) (fun _ _ _ h => h) (Or.inl ⟨by rfl, ?hyz42u5⟩) hHeld ?restz42u5
         case hyz42u5 => (intro w hSw; (try dsimp only at hSw); go_simp; first | done | with_reducible rfl)
         try simp only [Act.put, List.getElem_toArray, List.getElem_cons_zero, List.getElem_cons_succ, List.setIfInBounds_toArray, List.set_cons_zero, List.set_cons_succ]
         refine wpAnyH_take (i := 5) (oi := _) (v := ?vz42u6) rfl (by kernel_rfl) (by kernel_rfl) (by kernel_rfl) (fun _ _ _ h => h) (Or.inl ⟨by rfl, ?hyz42u6⟩) hHeld ?restz42u6
         case hyz42u6 => (intro w hSw; (try dsimp only at hSw); go_simp; first | done | with_reducible rfl)
         try simp only [Act.put, List.getElem_toArray, List.getElem_cons_zero, List.getElem_cons_succ, List.setIfInBounds_toArray, List.set_cons_zero, List.set_cons_succ]
         refine wpAnyH_take (i := 6) (oi := _) (v := ?vz42u7) rfl (by kernel_rfl) (by kernel_rfl) (by kernel_rfl) (fun _ _ _ h => h) (Or.inl ⟨by rfl, ?hyz42u7⟩) hHeld ?restz42u7
         case hyz42u7 => (intro w hSw; (try dsimp only at hSw); go_simp; first | done | with_reducible rfl)
         try simp only [Act.put, List.getElem_toArray, List.getElem_cons_zero, List.getElem_cons_succ, List.setIfInBounds_toArray, List.set_cons_zero, List.set_cons_succ]
         refine wpAnyH_ready (rs := [7]) (by kernel_rfl) (by simp) ?_
         refine AllReadyH.cons (o := _) rfl (fun K0 hK0 => ?_) AllReadyH.nil
         go_simp
         go_at_call 50
         refine (CFI.out _ (HR2.out.take k |>.kept (Below.refl _ _).drew)).mono ?_
         rintro e wz42v8 ⟨rfl, bz42v8⟩
         refine hK0.out _ _ (K.out _ (thenB (Below.refl _ _).drew bz42v8)) (fun hHeld => ?_)
         clear hK0 K0
         try simp only [Act.put, List.getElem_toArray, List.getElem_cons_zero, List.getElem_cons_succ, List.setIfInBounds_toArray, List.set_cons_zero, List.set_cons_succ]
         refine wpAnyH_take (i := 8) (oi := _) (v := ?vz42u9) rfl (by kernel_rfl) (by kernel_rfl) (by kernel_rfl) (fun _ _ _ h => h) (Or.inl ⟨by rfl, ?hyz42u9⟩) hHeld ?restz42u9
         case hyz42u9 => (intro w hSw; (try dsimp only at hSw); go_simp; first | done | with_reducible rfl)
         try simp only [Act.put, List.getElem_toArray, List.getElem_cons_zero, List.getElem_cons_succ, List.setIfInBounds_toArray, List.set_cons_zero, List.set_cons_succ]
         refine wpAnyH_done (by kernel_rfl) ?_ _
         clear K hHeld
         replace B := thenB B (thenB (Below.refl _ _).drew bz42v8)
         have Sz42 := ((thenB (Below.refl _ _).drew bz42v8)).size
         clear bz42v8
         have Bo := B
         go_wp2
         go_roundw
         case rel => exact ⟨k + 1, by omega, by go_num, Hid.mk HS.out.symm, Bo⟩
         case measure => simp [intOf]; omega
   · have hkn : k = n := by omega
     subst hkn
     have hdr2 := hdr.out
     rw [tfK_end xs k (by omega)] at hdr2
     have HZ := Hid.mk hdr2
     clear hdr2 hdr
     go_wp2
     go_ret
     exact ⟨ret_int HZ.out, B⟩

set_option maxHeartbeats 1000000 in
theorem implTermsFault_ok (a : Option Addr) (n ca : Nat) (xs : List T4) (w : World) (ha : RdTerm w a xs) (hn : xs.length = n) (hx : n ≤ maxLen) (hok : ∀ t ∈ xs, okT t) :
    Calls Tryd.prog 9 #[.slice a n ca] w fun e w' => e = .returned (.int .i64 (tfC xs)) ∧ Below w.heap.size w w' := by
  have CB := Hid.mk (bookOf_ok a n ca xs w ha hn hx hok)
  generalize hF : tfC xs = F at *
  clear ha hok
  go_enter Tryd.func9, Tryd.ntmps9
  go_wp2_with fail
  refine CB.out.mono ?_
  rintro e w1 ⟨v, k, rfl, rfl, b1, -⟩
  go_wp2
  go_ret
  exact ⟨rfl, b1⟩

end Go.Proofs.YthjaehcfakjemaaDoor
