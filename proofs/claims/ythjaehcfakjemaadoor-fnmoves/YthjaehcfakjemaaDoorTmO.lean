/- A book of a table: the program. -/
import Derived.Test.YthjaehcfakjemaaDoorTmJ
import Derived.Test.YthjaehcfakjemaaDoorTmM
namespace Go.Proofs.YthjaehcfakjemaaDoor
open Go.RowKit

theorem makeMap_hint (z : Int) (w : World) : (Instr.makeMap 56 (some (.int .i64 z))).run Tryd.prog w = .ok (.map (some w.heap.size)) (w.alloc (.map #[] 0)) := by
  simp [Instr.makeMap, run_underlying Tryd.underlying56, asInt, go_sem, Result.andThen]

theorem build_book (n : Nat) (w : World) : (Instr.build 58 #[(1, .map (some n))]).run Tryd.prog w = .ok (.agg #[.slice none 0 0, .map (some n)]) w := run_build w 58 _ _ (by kernel_rfl)

/-- What comes of making a book of a table. -/
def BookOf (xs : List T4) (w : World) (v : Value) (w' : World) : Prop :=
  (tfC xs ≠ 0 ∧ v = .pointer none) ∨ (tfC xs = 0 ∧ ∃ (c : Option Addr) (d : Nat), v = .pointer (some ⟨w.heap.size + 1, 0, none⟩) ∧ Bk w' w.heap.size (w.heap.size + 1) w.heap.size c d xs)

theorem tfC_small {xs : List T4} (h : xs.length ≤ 400) : tfC xs = tfF [] xs := by unfold tfC; rw [if_pos h]

theorem tfC_great {xs : List T4} (h : 400 < xs.length) : tfC xs = 2 := by unfold tfC; rw [if_neg (by omega)]

set_option maxRecDepth 20000 in
set_option maxHeartbeats 8000000 in
theorem bookOf_ok (a : Option Addr) (n ca : Nat) (xs : List T4) (w : World) (ha : RdTerm w a xs) (hn : xs.length = n) (hx : n ≤ maxLen) (hok : ∀ t ∈ xs, okT t) :
    Calls Tryd.prog 22 #[.slice a n ca] w fun e w' => ∃ (v : Value) (k : Int), e = .returned (.tuple #[v, .int .i64 k]) ∧ tfC xs = k ∧ Below w.heap.size w w' ∧ BookOf xs w v w' := by
  unfold maxLen at hx
  unfold BookOf
  have hmm := makeMap_hint
  have hmb := build_book
  by_cases h2 : 400 < n
  · have d2 : decide ((400 : Int) < n) = true := by simp; omega
    have hr := tfC_great (xs := xs) (by omega)
    have HR := Hid.mk hr
    clear hr h2
    go_enter Tryd.func22, Tryd.ntmps22
    go_wp2
    refine bodyPost_ret (v := .tuple #[.pointer none, .int .i64 2]) (by simp [results, Tryd.results22, go_sem]) rfl ⟨_, _, rfl, HR.out, Below.refl _ _, .inl ⟨by rw [HR.out]; decide, rfl⟩⟩
  have d2 : decide ((400 : Int) < n) = false := by simp; omega
  have hr := tfC_small (xs := xs) (by omega)
  rw [hr]
  clear hr
  obtain ⟨F, hF⟩ : ∃ F, tfF [] xs = F := ⟨_, rfl⟩
  have h0 : Hid (tfK xs 0 = F) := Hid.mk (by rw [tfK_zero, hF])
  rw [hF]
  have HF := Hid.mk hF
  clear hF
  have HA := Hid.mk ha
  have HN := Hid.mk hn
  have HOK := Hid.mk hok
  have VP0 : V ((w.alloc (.map #[] 0)).alloc (.cells #[.slice none 0 0, .map (some w.heap.size)] 58)) (w.heap.size + 1) [.slice none 0 0, .map (some w.heap.size)] := V.newAt _ _ _ _ (by simp)
  have HB0 : Bk ((w.alloc (.map #[] 0)).alloc (.cells #[.slice none 0 0, .map (some w.heap.size)] 58)) w.heap.size (w.heap.size + 1) w.heap.size none 0 (xs.take 0) :=
    ⟨by simpa using VP0, OwnTerm.none, by rw [List.take_zero, tmM_nil]; exact (TM.new w).kept (belowA _ _), by omega, by omega, by omega, by simp, by simp⟩
  replace HB0 := Hid.mk HB0
  clear VP0 ha hok
  go_enter Tryd.func22, Tryd.ntmps22
  go_wp2
  clear d2 hmm hmb
  go_loopw [20] (fun i wr => ∃ (k : Nat) (c : Option Addr) (d : Nat), k ≤ n ∧ i = .int .i64 k ∧ Hid (tfK xs k = F) ∧ Bk wr w.heap.size (w.heap.size + 1) w.heap.size c d (xs.take k) ∧ Below w.heap.size w wr) (fun i _ => n - (intOf i).toNat)
  case atStart => exact ⟨0, none, 0, Nat.zero_le _, rfl, h0, HB0.out, belowA2 _ _ _⟩
  case round =>
    clear h0 HB0
    obtain ⟨k, c, d, hk, rfl, hdr, H, B⟩ := hrel
    by_cases hlt : k < n
    · obtain ⟨x, hx1⟩ : ∃ x, xs.getD k zTerm = x := ⟨_, rfl⟩
      have hk1 : (k : Int) < (n : Int) := by omega
      have hs := tfK_step xs k (by omega) hx1
      rw [hdr.out] at hs
      have hx0 : okT x := by rw [← hx1]; exact HOK.out _ (getDTerm_mem (by omega))
      have hl : (xs.take k).length = k := by rw [List.length_take]; omega
      have ht2 : xs.take k ++ [x] = xs.take (k + 1) := by rw [takeTerm xs k (by omega), hx1]
      have CF := Hid.mk (fun w1 h => termFault_ok c k d (xs.take k) x w1 h hl (by unfold maxLen; omega))
      rcases HA.out.kept B with h0 | ⟨b1, o1, rfl, hca⟩
      · rw [h0] at hn; simp at hn; omega
      obtain ⟨p0, p1, p2, p3⟩ := RdTerm.cells hca k (by omega) x hx1
      have VP := H.v
      rw [hl] at VP
      replace hx0 := Hid.mk hx0
      replace ht2 := Hid.mk ht2
      clear hca hx1
      by_cases h1 : tmC (xs.take k) x = 0
      rotate_left
      · have h2 : (tmC (xs.take k) x != 0) = true := by simp [h1]
        rw [if_neg h1] at hs
        have HS := Hid.mk hs
        have H1 := Hid.mk h1
        clear hs h1
        generalize tmC (xs.take k) x = kk at *
        replace VP := VP.kept (belowA wr (.cells #[.int .i64 x.o, .int .i64 x.a, .int .i64 x.b, .int .i64 x.n] 70))
        replace H := H.kept (belowA wr (.cells #[.int .i64 x.o, .int .i64 x.a, .int .i64 x.b, .int .i64 x.n] 70))
        replace B := thenB B (belowA wr (.cells #[.int .i64 x.o, .int .i64 x.a, .int .i64 x.b, .int .i64 x.n] 70))
        have VX := V.new wr [.int .i64 x.o, .int .i64 x.a, .int .i64 x.b, .int .i64 x.n] 70
        obtain ⟨s_VP, f_VP, z_VP⟩ := VP.open
        obtain ⟨s_VX, f_VX, z_VX⟩ := VX.open
        have Bo := B
        clear s_VP f_VP z_VP s_VX f_VX z_VX
        have K : ∀ w' : World, Below (wr.alloc (.cells #[.int .i64 x.o, .int .i64 x.a, .int .i64 x.b, .int .i64 x.n] 70)).heap.size (wr.alloc (.cells #[.int .i64 x.o, .int .i64 x.a, .int .i64 x.b, .int .i64 x.n] 70)) w' → (w'.cell? ⟨wr.heap.size, 0, none⟩ = some (.int .i64 x.o) ∧ w'.cell? ⟨wr.heap.size, 1, none⟩ = some (.int .i64 x.a) ∧ w'.cell? ⟨wr.heap.size, 2, none⟩ = some (.int .i64 x.b) ∧ w'.cell? ⟨wr.heap.size, 3, none⟩ = some (.int .i64 x.n) ∧ w'.cell? ⟨w.heap.size + 1, 0, none⟩ = some (.slice c k d) ∧ w'.cell? ⟨w.heap.size + 1, 1, none⟩ = some (.map (some w.heap.size))) := fun w' h => ⟨(VX.kept h).2.1 0 (by simp), (VX.kept h).2.1 1 (by simp), (VX.kept h).2.1 2 (by simp), (VX.kept h).2.1 3 (by simp), (VP.kept h).2.1 0 (by simp), (VP.kept h).2.1 1 (by simp)⟩
        have K := Hid.mk K
        go_wp2_with fail
        refine wp_region_held_drew (S := (fun w' => w'.cell? ⟨wr.heap.size, 0, none⟩ = some (.int .i64 x.o) ∧ w'.cell? ⟨wr.heap.size, 1, none⟩ = some (.int .i64 x.a) ∧ w'.cell? ⟨wr.heap.size, 2, none⟩ = some (.int .i64 x.b) ∧ w'.cell? ⟨wr.heap.size, 3, none⟩ = some (.int .i64 x.n) ∧ w'.cell? ⟨w.heap.size + 1, 0, none⟩ = some (.slice c k d) ∧ w'.cell? ⟨w.heap.size + 1, 1, none⟩ = some (.map (some w.heap.size)))) (by kernel_rfl) (K.out _ (Below.refl _ _).drew) (fun hHeld => ?_)
        refine wpAnyH_take (i := 0) (oi := _) (v := ?vz1u1) rfl (by kernel_rfl) (by kernel_rfl) (by kernel_rfl) (fun _ _ _ h => h) (Or.inl ⟨by rfl, ?hyz1u1⟩) hHeld ?restz1u1
        case hyz1u1 => (intro w hSw; (try dsimp only at hSw); go_simp; first | done | with_reducible rfl)
        try simp only [Act.put, List.getElem_toArray, List.getElem_cons_zero, List.setIfInBounds_toArray, List.set_cons_zero, List.set_cons_succ]
        refine wpAnyH_take (i := 1) (oi := _) (v := ?vz1u2) rfl (by kernel_rfl) (by kernel_rfl) (by kernel_rfl) (fun _ _ _ h => h) (Or.inl ⟨by rfl, ?hyz1u2⟩) hHeld ?restz1u2
        case hyz1u2 => (intro w hSw; (try dsimp only at hSw); go_simp; first | done | with_reducible rfl)
        try simp only [Act.put, List.getElem_toArray, List.getElem_cons_zero, List.getElem_cons_succ, List.setIfInBounds_toArray, List.set_cons_zero, List.set_cons_succ]
        refine wpAnyH_take (i := 2) (oi := _) (v := ?vz1u3) rfl (by kernel_rfl) (by kernel_rfl) (by kernel_rfl) (fun _ _ _ h => h) (Or.inl ⟨by rfl, ?hyz1u3⟩) hHeld ?restz1u3
        case hyz1u3 => (intro w hSw; (try dsimp only at hSw); go_simp; first | done | with_reducible rfl)
        try simp only [Act.put, List.getElem_toArray, List.getElem_cons_zero, List.getElem_cons_succ, List.setIfInBounds_toArray, List.set_cons_zero, List.set_cons_succ]
        refine wpAnyH_take (i := 3) (oi := _) (v := ?vz1u4) rfl (by kernel_rfl) (by kernel_rfl) (by kernel_rfl) (fun _ _ _ h => h) (Or.inl ⟨by rfl, ?hyz1u4⟩) hHeld ?restz1u4
        case hyz1u4 => (intro w hSw; (try dsimp only at hSw); go_simp; first | done | with_reducible rfl)
        try simp only [Act.put, List.getElem_toArray, List.getElem_cons_zero, List.getElem_cons_succ, List.setIfInBounds_toArray, List.set_cons_zero, List.set_cons_succ]
        refine wpAnyH_take (i := 4) (oi := _) (v := ?vz1u5) rfl (by kernel_rfl) (by kernel_rfl) (by kernel_rfl) (fun _ _ _ h => h) (Or.inl ⟨by rfl, ?hyz1u5⟩) hHeld ?restz1u5
        case hyz1u5 => (intro w hSw; (try dsimp only at hSw); go_simp; first | done | with_reducible rfl)
        try simp only [Act.put, List.getElem_toArray, List.getElem_cons_zero, List.getElem_cons_succ, List.setIfInBounds_toArray, List.set_cons_zero, List.set_cons_succ]
        refine wpAnyH_ready (rs := [5]) (by kernel_rfl) (by simp) ?_
        refine AllReadyH.cons (o := _) rfl (fun K0 hK0 => ?_) AllReadyH.nil
        go_simp
        go_at_call 44
        refine (CF.out _ (H.o.rd.kept (Below.refl _ _).drew)).mono ?_
        rintro e wz1v6 ⟨rfl, bz1v6⟩
        refine hK0.out _ _ (K.out _ (thenB (Below.refl _ _).drew bz1v6)) (fun hHeld => ?_)
        clear hK0 K0
        try simp only [Act.put, List.getElem_toArray, List.getElem_cons_zero, List.getElem_cons_succ, List.setIfInBounds_toArray, List.set_cons_zero, List.set_cons_succ]
        refine wpAnyH_take (i := 6) (oi := _) (v := ?vz1u7) rfl (by kernel_rfl) (by kernel_rfl) (by kernel_rfl) (fun _ _ _ h => h) (Or.inl ⟨by rfl, ?hyz1u7⟩) hHeld ?restz1u7
        case hyz1u7 => (intro w hSw; (try dsimp only at hSw); go_simp; first | done | with_reducible rfl)
        try simp only [Act.put, List.getElem_toArray, List.getElem_cons_zero, List.getElem_cons_succ, List.setIfInBounds_toArray, List.set_cons_zero, List.set_cons_succ]
        refine wpAnyH_done (by kernel_rfl) ?_ _
        clear K hHeld
        replace VP := VP.kept (thenB (Below.refl _ _).drew bz1v6)
        replace VX := VX.kept (thenB (Below.refl _ _).drew bz1v6)
        replace H := H.kept (thenB (Below.refl _ _).drew bz1v6)
        replace B := thenB B (thenB (Below.refl _ _).drew bz1v6)
        have Sz1 := ((thenB (Below.refl _ _).drew bz1v6)).size
        simp only [World.size_alloc] at Sz1
        clear bz1v6
        obtain ⟨s_VP, f_VP, z_VP⟩ := VP.open
        obtain ⟨s_VX, f_VX, z_VX⟩ := VX.open
        have Bo := B
        go_wp2
        refine bodyPost_ret (v := .tuple #[.pointer none, .int .i64 kk]) (by simp [results, Tryd.results22, go_sem]) rfl ⟨_, _, rfl, HS.out, Bo, .inl ⟨by rw [HS.out]; exact H1.out, rfl⟩⟩
      · rw [if_pos h1] at hs
        rw [h1] at CF
        clear h1
        by_cases hm : x ∈ xs.take k
        · skip
          rw [if_pos hm] at hs
          have HM : tmM (xs.take k) x = some ((tmIdx (xs.take k) x : Nat) : Int) := by unfold tmM; rw [if_pos hm]
          have HS := Hid.mk hs
          clear hs hm
          generalize tmIdx (xs.take k) x = ix at *
          replace VP := VP.kept (belowA wr (.cells #[.int .i64 x.o, .int .i64 x.a, .int .i64 x.b, .int .i64 x.n] 70))
          replace H := H.kept (belowA wr (.cells #[.int .i64 x.o, .int .i64 x.a, .int .i64 x.b, .int .i64 x.n] 70))
          replace B := thenB B (belowA wr (.cells #[.int .i64 x.o, .int .i64 x.a, .int .i64 x.b, .int .i64 x.n] 70))
          have VX := V.new wr [.int .i64 x.o, .int .i64 x.a, .int .i64 x.b, .int .i64 x.n] 70
          obtain ⟨s_VP, f_VP, z_VP⟩ := VP.open
          obtain ⟨s_VX, f_VX, z_VX⟩ := VX.open
          have Bo := B
          clear s_VP f_VP z_VP s_VX f_VX z_VX
          have K : ∀ w' : World, Below (wr.alloc (.cells #[.int .i64 x.o, .int .i64 x.a, .int .i64 x.b, .int .i64 x.n] 70)).heap.size (wr.alloc (.cells #[.int .i64 x.o, .int .i64 x.a, .int .i64 x.b, .int .i64 x.n] 70)) w' → (w'.cell? ⟨wr.heap.size, 0, none⟩ = some (.int .i64 x.o) ∧ w'.cell? ⟨wr.heap.size, 1, none⟩ = some (.int .i64 x.a) ∧ w'.cell? ⟨wr.heap.size, 2, none⟩ = some (.int .i64 x.b) ∧ w'.cell? ⟨wr.heap.size, 3, none⟩ = some (.int .i64 x.n) ∧ w'.cell? ⟨w.heap.size + 1, 0, none⟩ = some (.slice c k d) ∧ w'.cell? ⟨w.heap.size + 1, 1, none⟩ = some (.map (some w.heap.size))) := fun w' h => ⟨(VX.kept h).2.1 0 (by simp), (VX.kept h).2.1 1 (by simp), (VX.kept h).2.1 2 (by simp), (VX.kept h).2.1 3 (by simp), (VP.kept h).2.1 0 (by simp), (VP.kept h).2.1 1 (by simp)⟩
          have K := Hid.mk K
          go_wp2_with fail
          refine wp_region_held_drew (S := (fun w' => w'.cell? ⟨wr.heap.size, 0, none⟩ = some (.int .i64 x.o) ∧ w'.cell? ⟨wr.heap.size, 1, none⟩ = some (.int .i64 x.a) ∧ w'.cell? ⟨wr.heap.size, 2, none⟩ = some (.int .i64 x.b) ∧ w'.cell? ⟨wr.heap.size, 3, none⟩ = some (.int .i64 x.n) ∧ w'.cell? ⟨w.heap.size + 1, 0, none⟩ = some (.slice c k d) ∧ w'.cell? ⟨w.heap.size + 1, 1, none⟩ = some (.map (some w.heap.size)))) (by kernel_rfl) (K.out _ (Below.refl _ _).drew) (fun hHeld => ?_)
          refine wpAnyH_take (i := 0) (oi := _) (v := ?vz21u1) rfl (by kernel_rfl) (by kernel_rfl) (by kernel_rfl) (fun _ _ _ h => h) (Or.inl ⟨by rfl, ?hyz21u1⟩) hHeld ?restz21u1
          case hyz21u1 => (intro w hSw; (try dsimp only at hSw); go_simp; first | done | with_reducible rfl)
          try simp only [Act.put, List.getElem_toArray, List.getElem_cons_zero, List.setIfInBounds_toArray, List.set_cons_zero, List.set_cons_succ]
          refine wpAnyH_take (i := 1) (oi := _) (v := ?vz21u2) rfl (by kernel_rfl) (by kernel_rfl) (by kernel_rfl) (fun _ _ _ h => h) (Or.inl ⟨by rfl, ?hyz21u2⟩) hHeld ?restz21u2
          case hyz21u2 => (intro w hSw; (try dsimp only at hSw); go_simp; first | done | with_reducible rfl)
          try simp only [Act.put, List.getElem_toArray, List.getElem_cons_zero, List.getElem_cons_succ, List.setIfInBounds_toArray, List.set_cons_zero, List.set_cons_succ]
          refine wpAnyH_take (i := 2) (oi := _) (v := ?vz21u3) rfl (by kernel_rfl) (by kernel_rfl) (by kernel_rfl) (fun _ _ _ h => h) (Or.inl ⟨by rfl, ?hyz21u3⟩) hHeld ?restz21u3
          case hyz21u3 => (intro w hSw; (try dsimp only at hSw); go_simp; first | done | with_reducible rfl)
          try simp only [Act.put, List.getElem_toArray, List.getElem_cons_zero, List.getElem_cons_succ, List.setIfInBounds_toArray, List.set_cons_zero, List.set_cons_succ]
          refine wpAnyH_take (i := 3) (oi := _) (v := ?vz21u4) rfl (by kernel_rfl) (by kernel_rfl) (by kernel_rfl) (fun _ _ _ h => h) (Or.inl ⟨by rfl, ?hyz21u4⟩) hHeld ?restz21u4
          case hyz21u4 => (intro w hSw; (try dsimp only at hSw); go_simp; first | done | with_reducible rfl)
          try simp only [Act.put, List.getElem_toArray, List.getElem_cons_zero, List.getElem_cons_succ, List.setIfInBounds_toArray, List.set_cons_zero, List.set_cons_succ]
          refine wpAnyH_take (i := 4) (oi := _) (v := ?vz21u5) rfl (by kernel_rfl) (by kernel_rfl) (by kernel_rfl) (fun _ _ _ h => h) (Or.inl ⟨by rfl, ?hyz21u5⟩) hHeld ?restz21u5
          case hyz21u5 => (intro w hSw; (try dsimp only at hSw); go_simp; first | done | with_reducible rfl)
          try simp only [Act.put, List.getElem_toArray, List.getElem_cons_zero, List.getElem_cons_succ, List.setIfInBounds_toArray, List.set_cons_zero, List.set_cons_succ]
          refine wpAnyH_ready (rs := [5]) (by kernel_rfl) (by simp) ?_
          refine AllReadyH.cons (o := _) rfl (fun K0 hK0 => ?_) AllReadyH.nil
          go_simp
          go_at_call 44
          refine (CF.out _ (H.o.rd.kept (Below.refl _ _).drew)).mono ?_
          rintro e wz21v6 ⟨rfl, bz21v6⟩
          refine hK0.out _ _ (K.out _ (thenB (Below.refl _ _).drew bz21v6)) (fun hHeld => ?_)
          clear hK0 K0
          try simp only [Act.put, List.getElem_toArray, List.getElem_cons_zero, List.getElem_cons_succ, List.setIfInBounds_toArray, List.set_cons_zero, List.set_cons_succ]
          refine wpAnyH_take (i := 6) (oi := _) (v := ?vz21u7) rfl (by kernel_rfl) (by kernel_rfl) (by kernel_rfl) (fun _ _ _ h => h) (Or.inl ⟨by rfl, ?hyz21u7⟩) hHeld ?restz21u7
          case hyz21u7 => (intro w hSw; (try dsimp only at hSw); go_simp; first | done | with_reducible rfl)
          try simp only [Act.put, List.getElem_toArray, List.getElem_cons_zero, List.getElem_cons_succ, List.setIfInBounds_toArray, List.set_cons_zero, List.set_cons_succ]
          refine wpAnyH_done (by kernel_rfl) ?_ _
          clear K hHeld
          replace VP := VP.kept (thenB (Below.refl _ _).drew bz21v6)
          replace VX := VX.kept (thenB (Below.refl _ _).drew bz21v6)
          replace H := H.kept (thenB (Below.refl _ _).drew bz21v6)
          replace B := thenB B (thenB (Below.refl _ _).drew bz21v6)
          have Sz21 := ((thenB (Below.refl _ _).drew bz21v6)).size
          simp only [World.size_alloc] at Sz21
          clear bz21v6
          obtain ⟨s_VP, f_VP, z_VP⟩ := VP.open
          obtain ⟨s_VX, f_VX, z_VX⟩ := VX.open
          have Bo := B
          have QL := fun dd => H.m.look hx0.out dd
          rw [HM] at QL
          simp only [Option.isSome_some, Option.getD_some] at QL
          go_wp2_with fail
          go_quiet (fail)
          clear s_VP f_VP z_VP s_VX f_VX z_VX
          have bq := belowN (Below.refl (wz21v6).heap.size (wz21v6)) nq
          replace VP := VP.kept bq
          replace VX := VX.kept bq
          replace H := H.kept bq
          replace B := thenB B bq
          clear bq
          generalize World.drewN wz21v6 nq = wn21 at *
          obtain ⟨s_VP, f_VP, z_VP⟩ := VP.open
          obtain ⟨s_VX, f_VX, z_VX⟩ := VX.open
          have Bo := B
          clear QL
          go_wp2
          refine bodyPost_ret (v := .tuple #[.pointer none, .int .i64 7]) (by simp [results, Tryd.results22, go_sem]) rfl ⟨_, _, rfl, HS.out, Bo, .inl ⟨by rw [HS.out]; decide, rfl⟩⟩
        · skip
          rw [if_neg hm] at hs
          have HM : tmM (xs.take k) x = none := by unfold tmM; rw [if_neg hm]
          have HS := Hid.mk hs
          have CA := Hid.mk (fun w1 h => add_ok w.heap.size (w.heap.size + 1) w.heap.size c d (xs.take k) x w1 h hx0.out hm (by rw [List.length_take]; omega))
          rw [hl, ht2.out] at CA
          clear hs hm
          replace VP := VP.kept (belowA wr (.cells #[.int .i64 x.o, .int .i64 x.a, .int .i64 x.b, .int .i64 x.n] 70))
          replace H := H.kept (belowA wr (.cells #[.int .i64 x.o, .int .i64 x.a, .int .i64 x.b, .int .i64 x.n] 70))
          replace B := thenB B (belowA wr (.cells #[.int .i64 x.o, .int .i64 x.a, .int .i64 x.b, .int .i64 x.n] 70))
          have VX := V.new wr [.int .i64 x.o, .int .i64 x.a, .int .i64 x.b, .int .i64 x.n] 70
          obtain ⟨s_VP, f_VP, z_VP⟩ := VP.open
          obtain ⟨s_VX, f_VX, z_VX⟩ := VX.open
          have Bo := B
          clear s_VP f_VP z_VP s_VX f_VX z_VX
          have K : ∀ w' : World, Below (wr.alloc (.cells #[.int .i64 x.o, .int .i64 x.a, .int .i64 x.b, .int .i64 x.n] 70)).heap.size (wr.alloc (.cells #[.int .i64 x.o, .int .i64 x.a, .int .i64 x.b, .int .i64 x.n] 70)) w' → (w'.cell? ⟨wr.heap.size, 0, none⟩ = some (.int .i64 x.o) ∧ w'.cell? ⟨wr.heap.size, 1, none⟩ = some (.int .i64 x.a) ∧ w'.cell? ⟨wr.heap.size, 2, none⟩ = some (.int .i64 x.b) ∧ w'.cell? ⟨wr.heap.size, 3, none⟩ = some (.int .i64 x.n) ∧ w'.cell? ⟨w.heap.size + 1, 0, none⟩ = some (.slice c k d) ∧ w'.cell? ⟨w.heap.size + 1, 1, none⟩ = some (.map (some w.heap.size))) := fun w' h => ⟨(VX.kept h).2.1 0 (by simp), (VX.kept h).2.1 1 (by simp), (VX.kept h).2.1 2 (by simp), (VX.kept h).2.1 3 (by simp), (VP.kept h).2.1 0 (by simp), (VP.kept h).2.1 1 (by simp)⟩
          have K := Hid.mk K
          go_wp2_with fail
          refine wp_region_held_drew (S := (fun w' => w'.cell? ⟨wr.heap.size, 0, none⟩ = some (.int .i64 x.o) ∧ w'.cell? ⟨wr.heap.size, 1, none⟩ = some (.int .i64 x.a) ∧ w'.cell? ⟨wr.heap.size, 2, none⟩ = some (.int .i64 x.b) ∧ w'.cell? ⟨wr.heap.size, 3, none⟩ = some (.int .i64 x.n) ∧ w'.cell? ⟨w.heap.size + 1, 0, none⟩ = some (.slice c k d) ∧ w'.cell? ⟨w.heap.size + 1, 1, none⟩ = some (.map (some w.heap.size)))) (by kernel_rfl) (K.out _ (Below.refl _ _).drew) (fun hHeld => ?_)
          refine wpAnyH_take (i := 0) (oi := _) (v := ?vz41u1) rfl (by kernel_rfl) (by kernel_rfl) (by kernel_rfl) (fun _ _ _ h => h) (Or.inl ⟨by rfl, ?hyz41u1⟩) hHeld ?restz41u1
          case hyz41u1 => (intro w hSw; (try dsimp only at hSw); go_simp; first | done | with_reducible rfl)
          try simp only [Act.put, List.getElem_toArray, List.getElem_cons_zero, List.setIfInBounds_toArray, List.set_cons_zero, List.set_cons_succ]
          refine wpAnyH_take (i := 1) (oi := _) (v := ?vz41u2) rfl (by kernel_rfl) (by kernel_rfl) (by kernel_rfl) (fun _ _ _ h => h) (Or.inl ⟨by rfl, ?hyz41u2⟩) hHeld ?restz41u2
          case hyz41u2 => (intro w hSw; (try dsimp only at hSw); go_simp; first | done | with_reducible rfl)
          try simp only [Act.put, List.getElem_toArray, List.getElem_cons_zero, List.getElem_cons_succ, List.setIfInBounds_toArray, List.set_cons_zero, List.set_cons_succ]
          refine wpAnyH_take (i := 2) (oi := _) (v := ?vz41u3) rfl (by kernel_rfl) (by kernel_rfl) (by kernel_rfl) (fun _ _ _ h => h) (Or.inl ⟨by rfl, ?hyz41u3⟩) hHeld ?restz41u3
          case hyz41u3 => (intro w hSw; (try dsimp only at hSw); go_simp; first | done | with_reducible rfl)
          try simp only [Act.put, List.getElem_toArray, List.getElem_cons_zero, List.getElem_cons_succ, List.setIfInBounds_toArray, List.set_cons_zero, List.set_cons_succ]
          refine wpAnyH_take (i := 3) (oi := _) (v := ?vz41u4) rfl (by kernel_rfl) (by kernel_rfl) (by kernel_rfl) (fun _ _ _ h => h) (Or.inl ⟨by rfl, ?hyz41u4⟩) hHeld ?restz41u4
          case hyz41u4 => (intro w hSw; (try dsimp only at hSw); go_simp; first | done | with_reducible rfl)
          try simp only [Act.put, List.getElem_toArray, List.getElem_cons_zero, List.getElem_cons_succ, List.setIfInBounds_toArray, List.set_cons_zero, List.set_cons_succ]
          refine wpAnyH_take (i := 4) (oi := _) (v := ?vz41u5) rfl (by kernel_rfl) (by kernel_rfl) (by kernel_rfl) (fun _ _ _ h => h) (Or.inl ⟨by rfl, ?hyz41u5⟩) hHeld ?restz41u5
          case hyz41u5 => (intro w hSw; (try dsimp only at hSw); go_simp; first | done | with_reducible rfl)
          try simp only [Act.put, List.getElem_toArray, List.getElem_cons_zero, List.getElem_cons_succ, List.setIfInBounds_toArray, List.set_cons_zero, List.set_cons_succ]
          refine wpAnyH_ready (rs := [5]) (by kernel_rfl) (by simp) ?_
          refine AllReadyH.cons (o := _) rfl (fun K0 hK0 => ?_) AllReadyH.nil
          go_simp
          go_at_call 44
          refine (CF.out _ (H.o.rd.kept (Below.refl _ _).drew)).mono ?_
          rintro e wz41v6 ⟨rfl, bz41v6⟩
          refine hK0.out _ _ (K.out _ (thenB (Below.refl _ _).drew bz41v6)) (fun hHeld => ?_)
          clear hK0 K0
          try simp only [Act.put, List.getElem_toArray, List.getElem_cons_zero, List.getElem_cons_succ, List.setIfInBounds_toArray, List.set_cons_zero, List.set_cons_succ]
          refine wpAnyH_take (i := 6) (oi := _) (v := ?vz41u7) rfl (by kernel_rfl) (by kernel_rfl) (by kernel_rfl) (fun _ _ _ h => h) (Or.inl ⟨by rfl, ?hyz41u7⟩) hHeld ?restz41u7
          case hyz41u7 => (intro w hSw; (try dsimp only at hSw); go_simp; first | done | with_reducible rfl)
          try simp only [Act.put, List.getElem_toArray, List.getElem_cons_zero, List.getElem_cons_succ, List.setIfInBounds_toArray, List.set_cons_zero, List.set_cons_succ]
          refine wpAnyH_done (by kernel_rfl) ?_ _
          clear K hHeld
          replace VP := VP.kept (thenB (Below.refl _ _).drew bz41v6)
          replace VX := VX.kept (thenB (Below.refl _ _).drew bz41v6)
          replace H := H.kept (thenB (Below.refl _ _).drew bz41v6)
          replace B := thenB B (thenB (Below.refl _ _).drew bz41v6)
          have Sz41 := ((thenB (Below.refl _ _).drew bz41v6)).size
          simp only [World.size_alloc] at Sz41
          clear bz41v6
          obtain ⟨s_VP, f_VP, z_VP⟩ := VP.open
          obtain ⟨s_VX, f_VX, z_VX⟩ := VX.open
          have Bo := B
          have QL := fun dd => H.m.look hx0.out dd
          rw [HM] at QL
          simp only [Option.isSome_none, Option.getD_none] at QL
          go_wp2_with fail
          go_quiet (fail)
          clear s_VP f_VP z_VP s_VX f_VX z_VX
          have bq := belowN (Below.refl (wz41v6).heap.size (wz41v6)) nq
          replace VP := VP.kept bq
          replace VX := VX.kept bq
          replace H := H.kept bq
          replace B := thenB B bq
          clear bq
          generalize World.drewN wz41v6 nq = wn41 at *
          obtain ⟨s_VP, f_VP, z_VP⟩ := VP.open
          obtain ⟨s_VX, f_VX, z_VX⟩ := VX.open
          have Bo := B
          clear QL
          have hlt9 := H.lt
          replace hlt9 := Hid.mk hlt9
          have hsz9 := Hid.mk B.size
          go_wp2_with fail
          refine (CA.out _ H).mono ?_
          rintro e w9 ⟨c9, d9, rfl, H9, S9, _⟩
          clear s_VP f_VP z_VP s_VX f_VX z_VX
          have B9 := S9.below' B hsz9.out (fun j hj => (hlt9.out j hj).1)
          have H9' := Hid.mk H9
          have B9' := Hid.mk B9
          clear S9 B9 H9 B H VP VX
          try clear Bo
          clear hlt9
          go_wp2
          go_roundw
          case rel => exact ⟨k + 1, c9, d9, by omega, by go_num, Hid.mk HS.out.symm, H9'.out, B9'.out⟩
          case measure => simp [intOf]; omega
    · have hkn : k = n := by omega
      subst hkn
      have hdr2 := hdr.out
      rw [tfK_end xs k (by omega)] at hdr2
      have HZ := Hid.mk hdr2
      clear hdr2
      rw [List.take_of_length_le (by omega)] at H
      have HH := Hid.mk H
      clear H
      go_wp2
      refine bodyPost_ret (v := .tuple #[.pointer (some ⟨w.heap.size + 1, 0, none⟩), .int .i64 0]) (by simp [results, Tryd.results22, go_sem]) rfl ⟨_, _, rfl, HZ.out.symm, B, .inr ⟨HZ.out.symm, c, d, rfl, HH.out⟩⟩

end Go.Proofs.YthjaehcfakjemaaDoor
