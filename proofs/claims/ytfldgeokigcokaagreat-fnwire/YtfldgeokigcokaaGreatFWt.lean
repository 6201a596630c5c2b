/- Put together: TmO, TmQ, TmV, TmW. -/
import Derived.Test.YtfldgeokigcokaaGreatFWu
import Derived.Test.YtfldgeokigcokaaGreatTmM
import Derived.Test.YtfldgeokigcokaaGreatTmN
import Derived.Test.YtfldgeokigcokaaGreatFWo
import Derived.Test.YtfldgeokigcokaaGreatMinM

/- A book of a table: the program. -/
namespace Go.Proofs.YtfldgeokigcokaaGreat
open Go.RowKit

theorem makeMap_hint (z : Int) (w : World) : (Instr.makeMap 60 (some (.int .i64 z))).run Tryz.prog w = .ok (.map (some w.heap.size)) (w.alloc (.map #[] 0)) := by
  simp [Instr.makeMap, run_underlying Tryz.underlying60, asInt, go_sem, Result.andThen]

theorem build_book (n : Nat) (w : World) : (Instr.build 82 #[(1, .map (some n))]).run Tryz.prog w = .ok (.agg #[.slice none 0 0, .map (some n)]) w := run_build w 82 _ _ (by kernel_rfl)

/-- What comes of making a book of a table. -/
def BookOf (xs : List T4) (w : World) (v : Value) (w' : World) : Prop :=
  (tfC xs ≠ 0 ∧ v = .pointer none) ∨ (tfC xs = 0 ∧ ∃ (c : Option Addr) (d : Nat), v = .pointer (some ⟨w.heap.size + 1, 0, none⟩) ∧ Bk w' w.heap.size (w.heap.size + 1) w.heap.size c d xs)

theorem tfC_small {xs : List T4} (h : xs.length ≤ 400) : tfC xs = tfF [] xs := by unfold tfC; rw [if_pos h]

theorem tfC_great {xs : List T4} (h : 400 < xs.length) : tfC xs = 2 := by unfold tfC; rw [if_neg (by omega)]

set_option maxRecDepth 20000 in
set_option maxHeartbeats 8000000 in
theorem bookOf_ok (a : Option Addr) (n ca : Nat) (xs : List T4) (w : World) (ha : RdTerm w a xs) (hn : xs.length = n) (hx : n ≤ maxLen) (hok : ∀ t ∈ xs, okT t) :
    Calls Tryz.prog 39 #[.slice a n ca] w fun e w' => ∃ (v : Value) (k : Int), e = .returned (.tuple #[v, .int .i64 k]) ∧ tfC xs = k ∧ Below w.heap.size w w' ∧ BookOf xs w v w' := by
  unfold maxLen at hx
  unfold BookOf
  have hmm := makeMap_hint
  have hmb := build_book
  by_cases h2 : 400 < n
  · have d2 : decide ((400 : Int) < n) = true := by simp; omega
    have hr := tfC_great (xs := xs) (by omega)
    have HR := Hid.mk hr
    clear hr h2
    go_enter Tryz.func39, Tryz.ntmps39
    go_wp2
    refine bodyPost_ret (v := .tuple #[.pointer none, .int .i64 2]) (by simp [results, Tryz.results39, go_sem]) rfl ⟨_, _, rfl, HR.out, Below.refl _ _, .inl ⟨by rw [HR.out]; decide, rfl⟩⟩
  have d2 : decide ((400 : Int) < n) = false := by simp; omega
  have hr := tfC_small (xs := xs) (by omega)
  rw [hr]
  clear hr
  obtain ⟨F, hF⟩ : ∃ F, tfF [] xs = F := ⟨_, rfl⟩
  have h0 : Hid (tfK xs 0 = F) := Hid.mk (by rw [tfK_zero, hF])
  rw [hF]
  have HF := Hid.mk hF
  clear hF
  have HA := Hid.mk ha
  have HN := Hid.mk hn
  have HOK := Hid.mk hok
  have VP0 : V ((w.alloc (.map #[] 0)).alloc (.cells #[.slice none 0 0, .map (some w.heap.size)] 82)) (w.heap.size + 1) [.slice none 0 0, .map (some w.heap.size)] := V.newAt _ _ _ _ (by simp)
  have HB0 : Bk ((w.alloc (.map #[] 0)).alloc (.cells #[.slice none 0 0, .map (some w.heap.size)] 82)) w.heap.size (w.heap.size + 1) w.heap.size none 0 (xs.take 0) :=
    ⟨by simpa using VP0, OwnTerm.none, by rw [List.take_zero, tmM_nil]; exact (TM.new w).kept (belowA _ _), by omega, by omega, by omega, by simp, by simp⟩
  replace HB0 := Hid.mk HB0
  clear VP0 ha hok
  go_enter Tryz.func39, Tryz.ntmps39
  go_wp2
  clear d2 hmm hmb
  go_loopw [20] (fun i wr => ∃ (k : Nat) (c : Option Addr) (d : Nat), k ≤ n ∧ i = .int .i64 k ∧ Hid (tfK xs k = F) ∧ Bk wr w.heap.size (w.heap.size + 1) w.heap.size c d (xs.take k) ∧ Below w.heap.size w wr) (fun i _ => n - (intOf i).toNat)
  case atStart => exact ⟨0, none, 0, Nat.zero_le _, rfl, h0, HB0.out, belowA2 _ _ _⟩
  case round =>
    clear h0 HB0
    obtain ⟨k, c, d, hk, rfl, hdr, H, B⟩ := hrel
    by_cases hlt : k < n
    · obtain ⟨x, hx1⟩ : ∃ x, xs.getD k zTerm = x := ⟨_, rfl⟩
      have hk1 : (k : Int) < (n : Int) := by omega
      have hs := tfK_step xs k (by omega) hx1
      rw [hdr.out] at hs
      have hx0 : okT x := by rw [← hx1]; exact HOK.out _ (getDTerm_mem (by omega))
      have hl : (xs.take k).length = k := by rw [List.length_take]; omega
      have ht2 : xs.take k ++ [x] = xs.take (k + 1) := by rw [takeTerm xs k (by omega), hx1]
      have CF := Hid.mk (fun w1 h => termFault_ok c k d (xs.take k) x w1 h hl (by unfold maxLen; omega))
      rcases HA.out.kept B with h0 | ⟨b1, o1, rfl, hca⟩
      · rw [h0] at hn; simp at hn; omega
      obtain ⟨p0, p1, p2, p3⟩ := RdTerm.cells hca k (by omega) x hx1
      have VP := H.v
      rw [hl] at VP
      replace hx0 := Hid.mk hx0
      replace ht2 := Hid.mk ht2
      clear hca hx1
      by_cases h1 : tmC (xs.take k) x = 0
      rotate_left
      · have h2 : (tmC (xs.take k) x != 0) = true := by simp [h1]
        rw [if_neg h1] at hs
        have HS := Hid.mk hs
        have H1 := Hid.mk h1
        clear hs h1
        generalize tmC (xs.take k) x = kk at *
        replace VP := VP.kept (belowA wr (.cells #[.int .i64 x.o, .int .i64 x.a, .int .i64 x.b, .int .i64 x.n] 70))
        replace H := H.kept (belowA wr (.cells #[.int .i64 x.o, .int .i64 x.a, .int .i64 x.b, .int .i64 x.n] 70))
        replace B := thenB B (belowA wr (.cells #[.int .i64 x.o, .int .i64 x.a, .int .i64 x.b, .int .i64 x.n] 70))
        have VX := V.new wr [.int .i64 x.o, .int .i64 x.a, .int .i64 x.b, .int .i64 x.n] 70
        obtain ⟨s_VP, f_VP, z_VP⟩ := VP.open
        obtain ⟨s_VX, f_VX, z_VX⟩ := VX.open
        have Bo := B
        clear s_VP f_VP z_VP s_VX f_VX z_VX
        have K : ∀ w' : World, Below (wr.alloc (.cells #[.int .i64 x.o, .int .i64 x.a, .int .i64 x.b, .int .i64 x.n] 70)).heap.size (wr.alloc (.cells #[.int .i64 x.o, .int .i64 x.a, .int .i64 x.b, .int .i64 x.n] 70)) w' → (w'.cell? ⟨wr.heap.size, 0, none⟩ = some (.int .i64 x.o) ∧ w'.cell? ⟨wr.heap.size, 1, none⟩ = some (.int .i64 x.a) ∧ w'.cell? ⟨wr.heap.size, 2, none⟩ = some (.int .i64 x.b) ∧ w'.cell? ⟨wr.heap.size, 3, none⟩ = some (.int .i64 x.n) ∧ w'.cell? ⟨w.heap.size + 1, 0, none⟩ = some (.slice c k d) ∧ w'.cell? ⟨w.heap.size + 1, 1, none⟩ = some (.map (some w.heap.size))) := fun w' h => ⟨(VX.kept h).2.1 0 (by simp), (VX.kept h).2.1 1 (by simp), (VX.kept h).2.1 2 (by simp), (VX.kept h).2.1 3 (by simp), (VP.kept h).2.1 0 (by simp), (VP.kept h).2.1 1 (by simp)⟩
        have K := Hid.mk K
        go_wp2_with fail
        refine wp_region_held_drew (S := (fun w' => w'.cell? ⟨wr.heap.size, 0, none⟩ = some (.int .i64 x.o) ∧ w'.cell? ⟨wr.heap.size, 1, none⟩ = some (.int .i64 x.a) ∧ w'.cell? ⟨wr.heap.size, 2, none⟩ = some (.int .i64 x.b) ∧ w'.cell? ⟨wr.heap.size, 3, none⟩ = some (.int .i64 x.n) ∧ w'.cell? ⟨w.heap.size + 1, 0, none⟩ = some (.slice c k d) ∧ w'.cell? ⟨w.heap.size + 1, 1, none⟩ = some (.map (some w.heap.size)))) (by kernel_rfl) (K.out _ (Below.refl _ _).drew) (fun hHeld => ?_)
        refine wpAnyH_take (i := 0) (oi := _) (v := ?vz1u1) rfl (by kernel_rfl) (by kernel_rfl) (by kernel_rfl) (fun _ _ _ h => h) (Or.inl ⟨by rfl, ?hyz1u1⟩) hHeld ?restz1u1
        case hyz1u1 => (intro w hSw; (try dsimp only at hSw); go_simp; first | done | with_reducible rfl)
        try simp only [Act.put, List.getElem_toArray, List.getElem_cons_zero, List.setIfInBounds_toArray, List.set_cons_zero, List.set_cons_succ]
        refine wpAnyH_take (i := 1) (oi := _) (v := ?vz1u2) rfl (by kernel_rfl) (by kernel_rfl) (by kernel_rfl) (fun _ _ _ h => h) (Or.inl ⟨by rfl, ?hyz1u2⟩) hHeld ?restz1u2
        case hyz1u2 => (intro w hSw; (try dsimp only at hSw); go_simp; first | done | with_reducible rfl)
        try simp only [Act.put, List.getElem_toArray, List.getElem_cons_zero, List.getElem_cons_succ, List.setIfInBounds_toArray, List.set_cons_zero, List.set_cons_succ]
        refine wpAnyH_take (i := 2) (oi := _) (v := ?vz1u3) rfl (by kernel_rfl) (by kernel_rfl) (by kernel_rfl) (fun _ _ _ h => h) (Or.inl ⟨by rfl, ?hyz1u3⟩) hHeld ?restz1u3
        case hyz1u3 => (intro w hSw; (try dsimp only at hSw); go_simp; first | done | with_reducible rfl)
        try simp only [Act.put, List.getElem_toArray, List.getElem_cons_zero, List.getElem_cons_succ, List.setIfInBounds_toArray, List.set_cons_zero, List.set_cons_succ]
        refine wpAnyH_take (i := 3) (oi := _) (v := ?vz1u4) rfl (by kernel_rfl) (by kernel_rfl) (by kernel_rfl) (fun _ _ _ h => h) (Or.inl ⟨by rfl, ?hyz1u4⟩) hHeld ?restz1u4
        case hyz1u4 => (intro w hSw; (try dsimp only at hSw); go_simp; first | done | with_reducible rfl)
        try simp only [Act.put, List.getElem_toArray, List.getElem_cons_zero, List.getElem_cons_succ, List.setIfInBounds_toArray, List.set_cons_zero, List.set_cons_succ]
        refine wpAnyH_take (i := 4) (oi := _) (v := ?vz1u5) rfl (by kernel_rfl) (by kernel_rfl) (by kernel_rfl) (fun _ _ _ h => h) (Or.inl ⟨by rfl, ?hyz1u5⟩) hHeld ?restz1u5
        case hyz1u5 => (intro w hSw; (try dsimp only at hSw); go_simp; first | done | with_reducible rfl)
        try simp only [Act.put, List.getElem_toArray, List.getElem_cons_zero, List.getElem_cons_succ, List.setIfInBounds_toArray, List.set_cons_zero, List.set_cons_succ]
        refine wpAnyH_ready (rs := [5]) (by kernel_rfl) (by simp) ?_
        refine AllReadyH.cons (o := _) rfl (fun K0 hK0 => ?_) AllReadyH.nil
        go_simp
        go_at_call 64
        refine (CF.out _ (H.o.rd.kept (Below.refl _ _).drew)).mono ?_
        rintro e wz1v6 ⟨rfl, bz1v6⟩
        refine hK0.out _ _ (K.out _ (thenB (Below.refl _ _).drew bz1v6)) (fun hHeld => ?_)
        clear hK0 K0
        try simp only [Act.put, List.getElem_toArray, List.getElem_cons_zero, List.getElem_cons_succ, List.setIfInBounds_toArray, List.set_cons_zero, List.set_cons_succ]
        refine wpAnyH_take (i := 6) (oi := _) (v := ?vz1u7) rfl (by kernel_rfl) (by kernel_rfl) (by kernel_rfl) (fun _ _ _ h => h) (Or.inl ⟨by rfl, ?hyz1u7⟩) hHeld ?restz1u7
        case hyz1u7 => (intro w hSw; (try dsimp only at hSw); go_simp; first | done | with_reducible rfl)
        try simp only [Act.put, List.getElem_toArray, List.getElem_cons_zero, List.getElem_cons_succ, List.setIfInBounds_toArray, List.set_cons_zero, List.set_cons_succ]
        refine wpAnyH_done (by kernel_rfl) ?_ _
        clear K hHeld
        replace VP := VP.kept (thenB (Below.refl _ _).drew bz1v6)
        replace VX := VX.kept (thenB (Below.refl _ _).drew bz1v6)
        replace H := H.kept (thenB (Below.refl _ _).drew bz1v6)
        replace B := thenB B (thenB (Below.refl _ _).drew bz1v6)
        have Sz1 := ((thenB (Below.refl _ _).drew bz1v6)).size
        simp only [World.size_alloc] at Sz1
        clear bz1v6
        obtain ⟨s_VP, f_VP, z_VP⟩ := VP.open
        obtain ⟨s_VX, f_VX, z_VX⟩ := VX.open
        have Bo := B
        go_wp2
        refine bodyPost_ret (v := .tuple #[.pointer none, .int .i64 kk]) (by simp [results, Tryz.results39, go_sem]) rfl ⟨_, _, rfl, HS.out, Bo, .inl ⟨by rw [HS.out]; exact H1.out, rfl⟩⟩
      · rw [if_pos h1] at hs
        rw [h1] at CF
        clear h1
        by_cases hm : x ∈ xs.take k
        · skip
          rw [if_pos hm] at hs
          have HM : tmM (xs.take k) x = some ((tmIdx (xs.take k) x : Nat) : Int) := by unfold tmM; rw [if_pos hm]
          have HS := Hid.mk hs
          clear hs hm
          generalize tmIdx (xs.take k) x = ix at *
          replace VP := VP.kept (belowA wr (.cells #[.int .i64 x.o, .int .i64 x.a, .int .i64 x.b, .int .i64 x.n] 70))
          replace H := H.kept (belowA wr (.cells #[.int .i64 x.o, .int .i64 x.a, .int .i64 x.b, .int .i64 x.n] 70))
          replace B := thenB B (belowA wr (.cells #[.int .i64 x.o, .int .i64 x.a, .int .i64 x.b, .int .i64 x.n] 70))
          have VX := V.new wr [.int .i64 x.o, .int .i64 x.a, .int .i64 x.b, .int .i64 x.n] 70
          obtain ⟨s_VP, f_VP, z_VP⟩ := VP.open
          obtain ⟨s_VX, f_VX, z_VX⟩ := VX.open
          have Bo := B
          clear s_VP f_VP z_VP s_VX f_VX z_VX
          have K : ∀ w' : World, Below (wr.alloc (.cells #[.int .i64 x.o, .int .i64 x.a, .int .i64 x.b, .int .i64 x.n] 70)).heap.size (wr.alloc (.cells #[.int .i64 x.o, .int .i64 x.a, .int .i64 x.b, .int .i64 x.n] 70)) w' → (w'.cell? ⟨wr.heap.size, 0, none⟩ = some (.int .i64 x.o) ∧ w'.cell? ⟨wr.heap.size, 1, none⟩ = some (.int .i64 x.a) ∧ w'.cell? ⟨wr.heap.size, 2, none⟩ = some (.int .i64 x.b) ∧ w'.cell? ⟨wr.heap.size, 3, none⟩ = some (.int .i64 x.n) ∧ w'.cell? ⟨w.heap.size + 1, 0, none⟩ = some (.slice c k d) ∧ w'.cell? ⟨w.heap.size + 1, 1, none⟩ = some (.map (some w.heap.size))) := fun w' h => ⟨(VX.kept h).2.1 0 (by simp), (VX.kept h).2.1 1 (by simp), (VX.kept h).2.1 2 (by simp), (VX.kept h).2.1 3 (by simp), (VP.kept h).2.1 0 (by simp), (VP.kept h).2.1 1 (by simp)⟩
          have K := Hid.mk K
          go_wp2_with fail
          refine wp_region_held_drew (S := (fun w' => w'.cell? ⟨wr.heap.size, 0, none⟩ = some (.int .i64 x.o) ∧ w'.cell? ⟨wr.heap.size, 1, none⟩ = some (.int .i64 x.a) ∧ w'.cell? ⟨wr.heap.size, 2, none⟩ = some (.int .i64 x.b) ∧ w'.cell? ⟨wr.heap.size, 3, none⟩ = some (.int .i64 x.n) ∧ w'.cell? ⟨w.heap.size + 1, 0, none⟩ = some (.slice c k d) ∧ w'.cell? ⟨w.heap.size + 1, 1, none⟩ = some (.map (some w.heap.size)))) (by kernel_rfl) (K.out _ (Below.refl _ _).drew) (fun hHeld => ?_)
          refine wpAnyH_take (i := 0) (oi := _) (v := ?vz21u1) rfl (by kernel_rfl) (by kernel_rfl) (by kernel_rfl) (fun _ _ _ h => h) (Or.inl ⟨by rfl, ?hyz21u1⟩) hHeld ?restz21u1
          case hyz21u1 => (intro w hSw; (try dsimp only at hSw); go_simp; first | done | with_reducible rfl)
          try simp only [Act.put, List.getElem_toArray, List.getElem_cons_zero, List.setIfInBounds_toArray, List.set_cons_zero, List.set_cons_succ]
          refine wpAnyH_take (i := 1) (oi := _) (v := ?vz21u2) rfl (by kernel_rfl) (by kernel_rfl) (by kernel_rfl) (fun _ _ _ h => h) (Or.inl ⟨by rfl, ?hyz21u2⟩) hHeld ?restz21u2
          case hyz21u2 => (intro w hSw; (try dsimp only at hSw); go_simp; first | done | with_reducible rfl)
          try simp only [Act.put, List.getElem_toArray, List.getElem_cons_zero, List.getElem_cons_succ, List.setIfInBounds_toArray, List.set_cons_zero, List.set_cons_succ]
          refine wpAnyH_take (i := 2) (oi := _) (v := ?vz21u3) rfl (by kernel_rfl) (by kernel_rfl) (by kernel_rfl) (fun _ _ _ h => h) (Or.inl ⟨by rfl, ?hyz21u3⟩) hHeld ?restz21u3
          case hyz21u3 => (intro w hSw; (try dsimp only at hSw); go_simp; first | done | with_reducible rfl)
          try simp only [Act.put, List.getElem_toArray, List.getElem_cons_zero, List.getElem_cons_succ, List.setIfInBounds_toArray, List.set_cons_zero, List.set_cons_succ]
          refine wpAnyH_take (i := 3) (oi := _) (v := ?vz21u4) rfl (by kernel_rfl) (by kernel_rfl) (by kernel_rfl) (fun _ _ _ h => h) (Or.inl ⟨by rfl, ?hyz21u4⟩) hHeld ?restz21u4
          case hyz21u4 => (intro w hSw; (try dsimp only at hSw); go_simp; first | done | with_reducible rfl)
          try simp only [Act.put, List.getElem_toArray, List.getElem_cons_zero, List.getElem_cons_succ, List.setIfInBounds_toArray, List.set_cons_zero, List.set_cons_succ]
          refine wpAnyH_take (i := 4) (oi := _) (v := ?vz21u5) rfl (by kernel_rfl) (by kernel_rfl) (by kernel_rfl) (fun _ _ _ h => h) (Or.inl ⟨by rfl, ?hyz21u5⟩) hHeld ?restz21u5
          case hyz21u5 => (intro w hSw; (try dsimp only at hSw); go_simp; first | done | with_reducible rfl)
          try simp only [Act.put, List.getElem_toArray, List.getElem_cons_zero, List.getElem_cons_succ, List.setIfInBounds_toArray, List.set_cons_zero, List.set_cons_succ]
          refine wpAnyH_ready (rs := [5]) (by kernel_rfl) (by simp) ?_
          refine AllReadyH.cons (o := _) rfl (fun K0 hK0 => ?_) AllReadyH.nil
          go_simp
          go_at_call 64
          refine (CF.out _ (H.o.rd.kept (Below.refl _ _).drew)).mono ?_
          rintro e wz21v6 ⟨rfl, bz21v6⟩
          refine hK0.out _ _ (K.out _ (thenB (Below.refl _ _).drew bz21v6)) (fun hHeld => ?_)
          clear hK0 K0
          try simp only [Act.put, List.getElem_toArray, List.getElem_cons_zero, List.getElem_cons_succ, List.setIfInBounds_toArray, List.set_cons_zero, List.set_cons_succ]
          refine wpAnyH_take (i := 6) (oi := _) (v := ?vz21u7) rfl (by kernel_rfl) (by kernel_rfl) (by kernel_rfl) (fun _ _ _ h => h) (Or.inl ⟨by rfl, ?hyz21u7⟩) hHeld ?restz21u7
          case hyz21u7 => (intro w hSw; (try dsimp only at hSw); go_simp; first | done | with_reducible rfl)
          try simp only [Act.put, List.getElem_toArray, List.getElem_cons_zero, List.getElem_cons_succ, List.setIfInBounds_toArray, List.set_cons_zero, List.set_cons_succ]
          refine wpAnyH_done (by kernel_rfl) ?_ _
          clear K hHeld
          replace VP := VP.kept (thenB (Below.refl _ _).drew bz21v6)
          replace VX := VX.kept (thenB (Below.refl _ _).drew bz21v6)
          replace H := H.kept (thenB (Below.refl _ _).drew bz21v6)
          replace B := thenB B (thenB (Below.refl _ _).drew bz21v6)
          have Sz21 := ((thenB (Below.refl _ _).drew bz21v6)).size
          simp only [World.size_alloc] at Sz21
          clear bz21v6
          obtain ⟨s_VP, f_VP, z_VP⟩ := VP.open
          obtain ⟨s_VX, f_VX, z_VX⟩ := VX.open
          have Bo := B
          have QL := fun dd => H.m.look hx0.out dd
          rw [HM] at QL
          simp only [Option.isSome_some, Option.getD_some] at QL
          go_wp2_with fail
          go_quiet (fail)
          clear s_VP f_VP z_VP s_VX f_VX z_VX
          have bq := belowN (Below.refl (wz21v6).heap.size (wz21v6)) nq
          replace VP := VP.kept bq
          replace VX := VX.kept bq
          replace H := H.kept bq
          replace B := thenB B bq
          clear bq
          generalize World.drewN wz21v6 nq = wn21 at *
          obtain ⟨s_VP, f_VP, z_VP⟩ := VP.open
          obtain ⟨s_VX, f_VX, z_VX⟩ := VX.open
          have Bo := B
          clear QL
          go_wp2
          refine bodyPost_ret (v := .tuple #[.pointer none, .int .i64 7]) (by simp [results, Tryz.results39, go_sem]) rfl ⟨_, _, rfl, HS.out, Bo, .inl ⟨by rw [HS.out]; decide, rfl⟩⟩
        · skip
          rw [if_neg hm] at hs
          have HM : tmM (xs.take k) x = none := by unfold tmM; rw [if_neg hm]
          have HS := Hid.mk hs
          have CA := Hid.mk (fun w1 h => add_ok w.heap.size (w.heap.size + 1) w.heap.size c d (xs.take k) x w1 h hx0.out hm (by rw [List.length_take]; omega))
          rw [hl, ht2.out] at CA
          clear hs hm
          replace VP := VP.kept (belowA wr (.cells #[.int .i64 x.o, .int .i64 x.a, .int .i64 x.b, .int .i64 x.n] 70))
          replace H := H.kept (belowA wr (.cells #[.int .i64 x.o, .int .i64 x.a, .int .i64 x.b, .int .i64 x.n] 70))
          replace B := thenB B (belowA wr (.cells #[.int .i64 x.o, .int .i64 x.a, .int .i64 x.b, .int .i64 x.n] 70))
          have VX := V.new wr [.int .i64 x.o, .int .i64 x.a, .int .i64 x.b, .int .i64 x.n] 70
          obtain ⟨s_VP, f_VP, z_VP⟩ := VP.open
          obtain ⟨s_VX, f_VX, z_VX⟩ := VX.open
          have Bo := B
          clear s_VP f_VP z_VP s_VX f_VX z_VX
          have K : ∀ w' : World, Below (wr.alloc (.cells #[.int .i64 x.o, .int .i64 x.a, .int .i64 x.b, .int .i64 x.n] 70)).heap.size (wr.alloc (.cells #[.int .i64 x.o, .int .i64 x.a, .int .i64 x.b, .int .i64 x.n] 70)) w' → (w'.cell? ⟨wr.heap.size, 0, none⟩ = some (.int .i64 x.o) ∧ w'.cell? ⟨wr.heap.size, 1, none⟩ = some (.int .i64 x.a) ∧ w'.cell? ⟨wr.heap.size, 2, none⟩ = some (.int .i64 x.b) ∧ w'.cell? ⟨wr.heap.size, 3, none⟩ = some (.int .i64 x.n) ∧ w'.cell? ⟨w.heap.size + 1, 0, none⟩ = some (.slice c k d) ∧ w'.cell? ⟨w.heap.size + 1, 1, none⟩ = some (.map (some w.heap.size))) := fun w' h => ⟨(VX.kept h).2.1 0 (by simp), (VX.kept h).2.1 1 (by simp), (VX.kept h).2.1 2 (by simp), (VX.kept h).2.1 3 (by simp), (VP.kept h).2.1 0 (by simp), (VP.kept h).2.1 1 (by simp)⟩
          have K := Hid.mk K
          go_wp2_with fail
          refine wp_region_held_drew (S := (fun w' => w'.cell? ⟨wr.heap.size, 0, none⟩ = some (.int .i64 x.o) ∧ w'.cell? ⟨wr.heap.size, 1, none⟩ = some (.int .i64 x.a) ∧ w'.cell? ⟨wr.heap.size, 2, none⟩ = some (.int .i64 x.b) ∧ w'.cell? ⟨wr.heap.size, 3, none⟩ = some (.int .i64 x.n) ∧ w'.cell? ⟨w.heap.size + 1, 0, none⟩ = some (.slice c k d) ∧ w'.cell? ⟨w.heap.size + 1, 1, none⟩ = some (.map (some w.heap.size)))) (by kernel_rfl) (K.out _ (Below.refl _ _).drew) (fun hHeld => ?_)
          refine wpAnyH_take (i := 0) (oi := _) (v := ?vz41u1) rfl (by kernel_rfl) (by kernel_rfl) (by kernel_rfl) (fun _ _ _ h => h) (Or.inl ⟨by rfl, ?hyz41u1⟩) hHeld ?restz41u1
          case hyz41u1 => (intro w hSw; (try dsimp only at hSw); go_simp; first | done | with_reducible rfl)
          try simp only [Act.put, List.getElem_toArray, List.getElem_cons_zero, List.setIfInBounds_toArray, List.set_cons_zero, List.set_cons_succ]
          refine wpAnyH_take (i := 1) (oi := _) (v := ?vz41u2) rfl (by kernel_rfl) (by kernel_rfl) (by kernel_rfl) (fun _ _ _ h => h) (Or.inl ⟨by rfl, ?hyz41u2⟩) hHeld ?restz41u2
          case hyz41u2 => (intro w hSw; (try dsimp only at hSw); go_simp; first | done | with_reducible rfl)
          try simp only [Act.put, List.getElem_toArray, List.getElem_cons_zero, List.getElem_cons_succ, List.setIfInBounds_toArray, List.set_cons_zero, List.set_cons_succ]
          refine wpAnyH_take (i := 2) (oi := _) (v := ?vz41u3) rfl (by kernel_rfl) (by kernel_rfl) (by kernel_rfl) (fun _ _ _ h => h) (Or.inl ⟨by rfl, ?hyz41u3⟩) hHeld ?restz41u3
          case hyz41u3 => (intro w hSw; (try dsimp only at hSw); go_simp; first | done | with_reducible rfl)
          try simp only [Act.put, List.getElem_toArray, List.getElem_cons_zero, List.getElem_cons_succ, List.setIfInBounds_toArray, List.set_cons_zero, List.set_cons_succ]
          refine wpAnyH_take (i := 3) (oi := _) (v := ?vz41u4) rfl (by kernel_rfl) (by kernel_rfl) (by kernel_rfl) (fun _ _ _ h => h) (Or.inl ⟨by rfl, ?hyz41u4⟩) hHeld ?restz41u4
          case hyz41u4 => (intro w hSw; (try dsimp only at hSw); go_simp; first | done | with_reducible rfl)
          try simp only [Act.put, List.getElem_toArray, List.getElem_cons_zero, List.getElem_cons_succ, List.setIfInBounds_toArray, List.set_cons_zero, List.set_cons_succ]
          refine wpAnyH_take (i := 4) (oi := _) (v := ?vz41u5) rfl (by kernel_rfl) (by kernel_rfl) (by kernel_rfl) (fun _ _ _ h => h) (Or.inl ⟨by rfl, ?hyz41u5⟩) hHeld ?restz41u5
          case hyz41u5 => (intro w hSw; (try dsimp only at hSw); go_simp; first | done | with_reducible rfl)
          try simp only [Act.put, List.getElem_toArray, List.getElem_cons_zero, List.getElem_cons_succ, List.setIfInBounds_toArray, List.set_cons_zero, List.set_cons_succ]
          refine wpAnyH_ready (rs := [5]) (by kernel_rfl) (by simp) ?_
          refine AllReadyH.cons (o := _) rfl (fun K0 hK0 => ?_) AllReadyH.nil
          go_simp
          go_at_call 64
          refine (CF.out _ (H.o.rd.kept (Below.refl _ _).drew)).mono ?_
          rintro e wz41v6 ⟨rfl, bz41v6⟩
          refine hK0.out _ _ (K.out _ (thenB (Below.refl _ _).drew bz41v6)) (fun hHeld => ?_)
          clear hK0 K0
          try simp only [Act.put, List.getElem_toArray, List.getElem_cons_zero, List.getElem_cons_succ, List.setIfInBounds_toArray, List.set_cons_zero, List.set_cons_succ]
          refine wpAnyH_take (i := 6) (oi := _) (v := ?vz41u7) rfl (by kernel_rfl) (by kernel_rfl) (by kernel_rfl) (fun _ _ _ h => h) (Or.inl ⟨by rfl, ?hyz41u7⟩) hHeld ?restz41u7
          case hyz41u7 => (intro w hSw; (try dsimp only at hSw); go_simp; first | done | with_reducible rfl)
          try simp only [Act.put, List.getElem_toArray, List.getElem_cons_zero, List.getElem_cons_succ, List.setIfInBounds_toArray, List.set_cons_zero, List.set_cons_succ]
          refine wpAnyH_done (by kernel_rfl) ?_ _
          clear K hHeld
          replace VP := VP.kept (thenB (Below.refl _ _).drew bz41v6)
          replace VX := VX.kept (thenB (Below.refl _ _).drew bz41v6)
          replace H := H.kept (thenB (Below.refl _ _).drew bz41v6)
          replace B := thenB B (thenB (Below.refl _ _).drew bz41v6)
          have Sz41 := ((thenB (Below.refl _ _).drew bz41v6)).size
          simp only [World.size_alloc] at Sz41
          clear bz41v6
          obtain ⟨s_VP, f_VP, z_VP⟩ := VP.open
          obtain ⟨s_VX, f_VX, z_VX⟩ := VX.open
          have Bo := B
          have QL := fun dd => H.m.look hx0.out dd
          rw [HM] at QL
          simp only [Option.isSome_none, Option.getD_none] at QL
          go_wp2_with fail
          go_quiet (fail)
          clear s_VP f_VP z_VP s_VX f_VX z_VX
          have bq := belowN (Below.refl (wz41v6).heap.size (wz41v6)) nq
          replace VP := VP.kept bq
          replace VX := VX.kept bq
          replace H := H.kept bq
          replace B := thenB B bq
          clear bq
          generalize World.drewN wz41v6 nq = wn41 at *
          obtain ⟨s_VP, f_VP, z_VP⟩ := VP.open
          obtain ⟨s_VX, f_VX, z_VX⟩ := VX.open
          have Bo := B
          clear QL
          have hlt9 := H.lt
          replace hlt9 := Hid.mk hlt9
          have hsz9 := Hid.mk B.size
          go_wp2_with fail
          refine (CA.out _ H).mono ?_
          rintro e w9 ⟨c9, d9, rfl, H9, S9, _⟩
          clear s_VP f_VP z_VP s_VX f_VX z_VX
          have B9 := S9.below' B hsz9.out (fun j hj => (hlt9.out j hj).1)
          have H9' := Hid.mk H9
          have B9' := Hid.mk B9
          clear S9 B9 H9 B H VP VX
          try clear Bo
          clear hlt9
          go_wp2
          go_roundw
          case rel => exact ⟨k + 1, c9, d9, by omega, by go_num, Hid.mk HS.out.symm, H9'.out, B9'.out⟩
          case measure => simp [intOf]; omega
    · have hkn : k = n := by omega
      subst hkn
      have hdr2 := hdr.out
      rw [tfK_end xs k (by omega)] at hdr2
      have HZ := Hid.mk hdr2
      clear hdr2
      rw [List.take_of_length_le (by omega)] at H
      have HH := Hid.mk H
      clear H
      go_wp2
      refine bodyPost_ret (v := .tuple #[.pointer (some ⟨w.heap.size + 1, 0, none⟩), .int .i64 0]) (by simp [results, Tryz.results39, go_sem]) rfl ⟨_, _, rfl, HZ.out.symm, B, .inr ⟨HZ.out.symm, c, d, rfl, HH.out⟩⟩

end Go.Proofs.YtfldgeokigcokaaGreat

/- The fault of a table: the model, and the program. -/
namespace Go.Proofs.YtfldgeokigcokaaGreat
open Go.RowKit

/-- The place of a term in a table; -1, if it is not there. -/
@[irreducible] def fdT (xs : List T4) (t : T4) : Int := if t ∈ xs then (tmIdx xs t : Nat) else -1

theorem fdT_in {xs : List T4} {t : T4} (h : t ∈ xs) : fdT xs t = (tmIdx xs t : Nat) := by unfold fdT; rw [if_pos h]

theorem fdT_out {xs : List T4} {t : T4} (h : t ∉ xs) : fdT xs t = -1 := by unfold fdT; rw [if_neg h]

theorem fdT_here {xs : List T4} {t : T4} {k : Nat} (h : k ≤ tmIdx xs t) (hk : k < xs.length) (he : xs.getD k zTerm = t) : fdT xs t = (k : Nat) := by
  have hm : t ∈ xs := he ▸ getDTerm_mem hk
  rw [fdT_in hm]
  rcases Nat.lt_or_ge k (tmIdx xs t) with h1 | h1
  · exact absurd he (tmIdx_not h1 hk)
  · congr 1; omega

theorem tmIdx_next {xs : List T4} {t : T4} {k : Nat} (h : k ≤ tmIdx xs t) (hk : k < xs.length) (he : xs.getD k zTerm ≠ t) : k + 1 ≤ tmIdx xs t := by
  rcases Nat.lt_or_ge k (tmIdx xs t) with h1 | h1
  · omega
  · have e : tmIdx xs t = k := by omega
    have hl : tmIdx xs t < xs.length := by omega
    have hm : t ∈ xs := by
      by_cases hm : t ∈ xs
      · exact hm
      · have := tmIdx_out hm; omega
    have := tmIdx_at hm
    rw [e] at this
    exact absurd this he

set_option maxHeartbeats 2000000 in
theorem l5Find_ok (a : Option Addr) (n ca : Nat) (xs : List T4) (t : T4) (w : World) (ha : RdTerm w a xs) (hn : xs.length = n) (hx : n ≤ maxLen) :
    Calls Tryz.prog 49 #[.slice a n ca, .agg #[.int .i64 t.o, .int .i64 t.a, .int .i64 t.b, .int .i64 t.n]] w fun e w' => e = .returned (.int .i64 (fdT xs t)) ∧ Below w.heap.size w w' := by
  unfold maxLen at hx
  have HA := Hid.mk ha
  have VX0 := V.new w [.int .i64 t.o, .int .i64 t.a, .int .i64 t.b, .int .i64 t.n] 70
  replace VX0 := Hid.mk VX0
  obtain ⟨F, hF⟩ : ∃ F, fdT xs t = F := ⟨_, rfl⟩
  rw [hF]
  replace hF := Hid.mk hF
  clear ha
  go_enter Tryz.func49, Tryz.ntmps49
  go_wp2
  go_loopw [5] (fun i wr => ∃ k : Nat, k ≤ n ∧ i = .int .i64 k ∧ k ≤ tmIdx xs t ∧ V wr w.heap.size [.int .i64 t.o, .int .i64 t.a, .int .i64 t.b, .int .i64 t.n] ∧ Below w.heap.size w wr) (fun i _ => n - (intOf i).toNat)
  case atStart => exact ⟨0, Nat.zero_le _, rfl, Nat.zero_le _, VX0.out, belowA _ _⟩
  case round =>
    clear VX0
    obtain ⟨k, hk, rfl, hix, VX, B⟩ := hrel
    by_cases hlt : k < n
    · obtain ⟨x, hx1⟩ : ∃ x, xs.getD k zTerm = x := ⟨_, rfl⟩
      have hk1 : (k : Int) < (n : Int) := by omega
      have q1 := eqTm0 x t
      rcases HA.out.kept B with h0 | ⟨b1, o1, rfl, hca⟩
      · rw [h0] at hn; simp at hn; omega
      obtain ⟨p0, p1, p2, p3⟩ := RdTerm.cells hca k (by omega) x hx1
      clear hca
      cases hg : teq x t
      · have hne := teq_no.1 hg
        have hnx := tmIdx_next hix (by omega) (by rw [hx1]; exact hne)
        rw [hg] at q1
        have VX1 := Hid.mk VX
        obtain ⟨s_VX, f_VX, z_VX⟩ := VX.open
        clear hg hne hx1 hix
        replace hnx := Hid.mk hnx
        go_wp2
        go_quiet (fail)
        go_wp2
        go_roundw
        case rel => exact ⟨k + 1, by omega, by go_num, hnx.out, VX1.out.kept (belowN (Below.refl _ _) _), belowN B _⟩
        case measure => simp [intOf]; omega
      · have he := teq_iff.1 hg
        have hh := Hid.mk (fdT_here hix (by omega) (by rw [hx1]; exact he))
        rw [hg] at q1
        obtain ⟨s_VX, f_VX, z_VX⟩ := VX.open
        clear hg he hx1 hix
        go_wp2
        go_quiet (fail)
        go_wp2
        go_ret
        exact ⟨ret_int (hh.out.symm.trans hF.out), belowN B _⟩
    · have hkn : k = n := by omega
      subst hkn
      have hm : t ∉ xs := fun hm => by have := tmIdx_lt hm; omega
      have HF := Hid.mk ((fdT_out hm).symm.trans hF.out)
      clear hm hix
      go_wp2
      go_ret
      exact ⟨ret_int HF.out, B⟩

theorem RdTerm.take {w : World} {a : Option Addr} {xs : List T4} (h : RdTerm w a xs) (k : Nat) : RdTerm w a (xs.take k) := by
  rcases h with h | ⟨b, off, rfl, hc⟩
  · left; rw [h]; simp
  · refine .inr ⟨b, off, rfl, fun i j hi hj => ?_⟩
    rw [List.length_take] at hi
    rw [hc i j (by omega) hj]
    congr 2
    simp only [List.getD]
    rw [List.getElem?_take_of_lt (by omega)]

set_option maxRecDepth 20000 in
set_option maxHeartbeats 8000000 in
theorem specTermsFault_ok (a : Option Addr) (n ca : Nat) (xs : List T4) (w : World) (ha : RdTerm w a xs) (hn : xs.length = n) (hx : n ≤ maxLen) (hca : n ≤ ca) :
    Calls Tryz.prog 23 #[.slice a n ca] w fun e w' => e = .returned (.int .i64 (tfC xs)) ∧ Below w.heap.size w w' := by
  unfold maxLen at hx
  by_cases h2 : 400 < n
  · have d2 : decide ((400 : Int) < n) = true := by simp; omega
    have hr := tfC_great (xs := xs) (by omega)
    rw [hr]
    clear hr h2
    go_enter Tryz.func23, Tryz.ntmps23
    go_wp2
    go_ret
    exact ⟨rfl, Below.refl _ _⟩
  have d2 : decide ((400 : Int) < n) = false := by simp; omega
  have hr := tfC_small (xs := xs) (by omega)
  rw [hr]
  clear hr
  obtain ⟨F, hF⟩ : ∃ F, tfF [] xs = F := ⟨_, rfl⟩
  have h0 : Hid (tfK xs 0 = F) := Hid.mk (by rw [tfK_zero, hF])
  rw [hF]
  clear hF
  have HA := Hid.mk ha
  clear ha
  go_enter Tryz.func23, Tryz.ntmps23
  go_wp2
  clear d2
  go_loopw [3] (fun i wr => ∃ k : Nat, k ≤ n ∧ i = .int .i64 k ∧ Hid (tfK xs k = F) ∧ Below w.heap.size w wr) (fun i _ => n - (intOf i).toNat)
  case atStart => exact ⟨0, Nat.zero_le _, rfl, h0, Below.refl _ _⟩
  case round =>
   clear h0
   obtain ⟨k, hk, rfl, hdr, B⟩ := hrel
   by_cases hlt : k < n
   · obtain ⟨x, hx1⟩ : ∃ x, xs.getD k zTerm = x := ⟨_, rfl⟩
     have hk1 : (k : Int) < (n : Int) := by omega
     have hs := tfK_step xs k (by omega) hx1
     rw [hdr.out] at hs
     have hl : (xs.take k).length = k := by rw [List.length_take]; omega
     have HR := Hid.mk ((HA.out.kept B).take k)
     rcases HA.out.kept B with h0 | ⟨b1, o1, rfl, hcc⟩
     · rw [h0] at hn; simp at hn; omega
     obtain ⟨p0, p1, p2, p3⟩ := RdTerm.cells hcc k (by omega) x hx1
     have hlt1 := World.block_lt_of_cell? _ _ p0
     have CT := Hid.mk (fun w1 h => l5Term_ok (some ⟨b1, o1, none⟩) k ca (xs.take k) x w1 h hl (by unfold maxLen; omega))
     have CFI := Hid.mk (fun w1 h => l5Find_ok (some ⟨b1, o1, none⟩) k ca (xs.take k) x w1 h hl (by unfold maxLen; omega))
     have HX := Hid.mk hx1
     have hkc : (k : Int) ≤ (ca : Int) := by omega
     have hkc2 : k ≤ ca := by omega
     clear hcc hx1 hl
     by_cases h1 : tmC (xs.take k) x = 0
     rotate_left
     · have h2 : (tmC (xs.take k) x != 0) = true := by simp [h1]
       rw [if_neg h1] at hs
       have HS := Hid.mk hs
       clear hs h1 CFI
       generalize tmC (xs.take k) x = kk at *
       have Bo := B
       have K : ∀ w' : World, Below wr.heap.size wr w' → (w'.cell? ⟨b1, o1 + k * 4, none⟩ = some (.int .i64 x.o) ∧ w'.cell? ⟨b1, o1 + k * 4 + 1, none⟩ = some (.int .i64 x.a) ∧ w'.cell? ⟨b1, o1 + k * 4 + 2, none⟩ = some (.int .i64 x.b) ∧ w'.cell? ⟨b1, o1 + k * 4 + 3, none⟩ = some (.int .i64 x.n)) := fun w' h => ⟨((bcell h).1 _ _ hlt1).trans p0, ((bcell h).1 _ _ hlt1).trans p1, ((bcell h).1 _ _ hlt1).trans p2, ((bcell h).1 _ _ hlt1).trans p3⟩
       have K := Hid.mk K
       clear p0 p1 p2 p3
       go_wp2_with fail
       refine wp_region_held_drew (S := (fun w' => w'.cell? ⟨b1, o1 + k * 4, none⟩ = some (.int .i64 x.o) ∧ w'.cell? ⟨b1, o1 + k * 4 + 1, none⟩ = some (.int .i64 x.a) ∧ w'.cell? ⟨b1, o1 + k * 4 + 2, none⟩ = some (.int .i64 x.b) ∧ w'.cell? ⟨b1, o1 + k * 4 + 3, none⟩ = some (.int .i64 x.n))) (by kernel_rfl) (K.out _ (Below.refl _ _).drew) (fun hHeld => ?_)
       refine wpAnyH_take (i := 0) (oi := _) (v := ?vz1u1) rfl (by kernel_rfl) (by kernel_rfl) (by kernel_rfl) (fun _ _ _ h => h) (Or.inl ⟨by rfl, ?hyz1u1⟩) hHeld ?restz1u1
       case hyz1u1 => (intro w hSw; (try dsimp only at hSw); go_simp; first | done | with_reducible rfl)
       try simp only [Act.put, List.getElem_toArray, List.getElem_cons_zero, List.setIfInBounds_toArray, List.set_cons_zero, List.set_cons_succ]
       refine wpAnyH_take (i := 1) (oi := _) (v := ?vz1u2) rfl (by kernel_rfl) (by kernel_rfl) (by kernel_rfl) (fun _ _ _ h => h) (Or.inl ⟨by rfl, ?hyz1u2⟩) hHeld ?restz1u2
       case hyz1u2 => (intro w hSw; (try dsimp only at hSw); go_simp; first | done | with_reducible rfl)
       try simp only [Act.put, List.getElem_toArray, List.getElem_cons_zero, List.getElem_cons_succ, List.setIfInBounds_toArray, List.set_cons_zero, List.set_cons_succ]
       refine wpAnyH_take (i := 2) (oi := _) (v := ?vz1u3) rfl (by kernel_rfl) (by kernel_rfl) (by kernel_rfl) (fun _ _ _ h => h) (Or.inl ⟨by rfl, ?hyz1u3⟩) hHeld ?restz1u3
       case hyz1u3 => (intro w hSw; (try dsimp only at hSw); go_simp; first | done | with_reducible rfl)
       try simp only [Act.put, List.getElem_toArray, List.getElem_cons_zero, List.getElem_cons_succ, List.setIfInBounds_toArray, List.set_cons_zero, List.set_cons_succ]
       refine wpAnyH_take (i := 3) (oi := _) (v := ?vz1u4) rfl (by kernel_rfl) (by kernel_rfl) (by kernel_rfl) (fun _ _ _ h => h) (Or.inl ⟨by rfl, ?hyz1u4⟩) hHeld ?restz1u4
       case hyz1u4 => (intro w hSw; (try dsimp only at hSw); go_simp; first | done | with_reducible rfl)
       try simp only [Act.put, List.getElem_toArray, List.getElem_cons_zero, List.getElem_cons_succ, List.setIfInBounds_toArray, List.set_cons_zero, List.set_cons_succ]
       refine wpAnyH_take (i := 4) (oi := _) (v := ?vz1u5) rfl (by kernel_rfl) (by kernel_rfl) (by kernel_rfl) (fun _ _ _ h => h) (Or.inl ⟨by rfl, ?hyz1u5⟩) hHeld ?restz1u5
       case hyz1u5 => (intro w hSw; (try dsimp only at hSw); go_simp; first | done | with_reducible rfl)
       try simp only [Act.put, List.getElem_toArray, List.getElem_cons_zero, List.getElem_cons_succ, List.setIfInBounds_toArray, List.set_cons_zero, List.set_cons_succ]
       refine wpAnyH_take (i := 5) (oi := _) (v := ?vz1u6) rfl (by kernel_rfl) (by kernel_rfl) (by kernel_rfl) (fun _ _ _ h => h) (Or.inl ⟨by rfl, ?hyz1u6⟩) hHeld ?restz1u6
       case hyz1u6 => (intro w hSw; (try dsimp only at hSw); go_simp; first | done | with_reducible rfl)
       try simp only [Act.put, List.getElem_toArray, List.getElem_cons_zero, List.getElem_cons_succ, List.setIfInBounds_toArray, List.set_cons_zero, List.set_cons_succ]
       refine wpAnyH_take (i := 6) (oi := _) (v := ?vz1u7) rfl (by kernel_rfl) (by kernel_rfl) (by kernel_rfl) (fun _ _ _ h => h) (Or.inl ⟨by rfl, ?hyz1u7⟩) hHeld ?restz1u7
       case hyz1u7 => (intro w hSw; (try dsimp only at hSw); go_simp; first | done | with_reducible rfl)
       try simp only [Act.put, List.getElem_toArray, List.getElem_cons_zero, List.getElem_cons_succ, List.setIfInBounds_toArray, List.set_cons_zero, List.set_cons_succ]
       refine wpAnyH_ready (rs := [7]) (by kernel_rfl) (by simp) ?_
       refine AllReadyH.cons (o := _) rfl (fun K0 hK0 => ?_) AllReadyH.nil
       go_simp
       go_at_call 48
       refine (CT.out _ (HR.out.kept (Below.refl _ _).drew)).mono ?_
       rintro e wz1v8 ⟨rfl, bz1v8⟩
       refine hK0.out _ _ (K.out _ (thenB (Below.refl _ _).drew bz1v8)) (fun hHeld => ?_)
       clear hK0 K0
       try simp only [Act.put, List.getElem_toArray, List.getElem_cons_zero, List.getElem_cons_succ, List.setIfInBounds_toArray, List.set_cons_zero, List.set_cons_succ]
       refine wpAnyH_take (i := 8) (oi := _) (v := ?vz1u9) rfl (by kernel_rfl) (by kernel_rfl) (by kernel_rfl) (fun _ _ _ h => h) (Or.inl ⟨by rfl, ?hyz1u9⟩) hHeld ?restz1u9
       case hyz1u9 => (intro w hSw; (try dsimp only at hSw); go_simp; first | done | with_reducible rfl)
       try simp only [Act.put, List.getElem_toArray, List.getElem_cons_zero, List.getElem_cons_succ, List.setIfInBounds_toArray, List.set_cons_zero, List.set_cons_succ]
       refine wpAnyH_done (by kernel_rfl) ?_ _
       clear K hHeld
       replace B := thenB B (thenB (Below.refl _ _).drew bz1v8)
       have Sz1 := ((thenB (Below.refl _ _).drew bz1v8)).size
       clear bz1v8
       have Bo := B
       go_wp2
       go_ret
       exact ⟨ret_int HS.out.symm, Bo⟩
     · rw [if_pos h1] at hs
       rw [h1] at CT
       clear h1
       have P0 := Hid.mk p0
       have P1 := Hid.mk p1
       have P2 := Hid.mk p2
       have P3 := Hid.mk p3
       by_cases hm : x ∈ xs.take k
       · skip
         rw [if_pos hm] at hs
         have hf := fdT_in hm
         rw [hf] at CFI
         have HS := Hid.mk hs
         clear hs hm hf
         generalize tmIdx (xs.take k) x = ix at *
         have Bo := B
         have HB0 := Hid.mk B
         have K : ∀ w' : World, Below wr.heap.size wr w' → (w'.cell? ⟨b1, o1 + k * 4, none⟩ = some (.int .i64 x.o) ∧ w'.cell? ⟨b1, o1 + k * 4 + 1, none⟩ = some (.int .i64 x.a) ∧ w'.cell? ⟨b1, o1 + k * 4 + 2, none⟩ = some (.int .i64 x.b) ∧ w'.cell? ⟨b1, o1 + k * 4 + 3, none⟩ = some (.int .i64 x.n)) := fun w' h => ⟨((bcell h).1 _ _ hlt1).trans p0, ((bcell h).1 _ _ hlt1).trans p1, ((bcell h).1 _ _ hlt1).trans p2, ((bcell h).1 _ _ hlt1).trans p3⟩
         have K := Hid.mk K
         clear p0 p1 p2 p3
         go_wp2_with fail
         refine wp_region_held_drew (S := (fun w' => w'.cell? ⟨b1, o1 + k * 4, none⟩ = some (.int .i64 x.o) ∧ w'.cell? ⟨b1, o1 + k * 4 + 1, none⟩ = some (.int .i64 x.a) ∧ w'.cell? ⟨b1, o1 + k * 4 + 2, none⟩ = some (.int .i64 x.b) ∧ w'.cell? ⟨b1, o1 + k * 4 + 3, none⟩ = some (.int .i64 x.n))) (by kernel_rfl) (K.out _ (Below.refl _ _).drew) (fun hHeld => ?_)
         refine wpAnyH_take (i := 0) (oi := _) (v := ?vz21u1) rfl (by kernel_rfl) (by kernel_rfl) (by kernel_rfl) (fun _ _ _ h => h) (Or.inl ⟨by rfl, ?hyz21u1⟩) hHeld ?restz21u1
         case hyz21u1 => (intro w hSw; (try dsimp only at hSw); go_simp; first | done | with_reducible rfl)
         try simp only [Act.put, List.getElem_toArray, List.getElem_cons_zero, List.setIfInBounds_toArray, List.set_cons_zero, List.set_cons_succ]
         refine wpAnyH_take (i := 1) (oi := _) (v := ?vz21u2) rfl (by kernel_rfl) (by kernel_rfl) (by kernel_rfl) (fun _ _ _ h => h) (Or.inl ⟨by rfl, ?hyz21u2⟩) hHeld ?restz21u2
         case hyz21u2 => (intro w hSw; (try dsimp only at hSw); go_simp; first | done | with_reducible rfl)
         try simp only [Act.put, List.getElem_toArray, List.getElem_cons_zero, List.getElem_cons_succ, List.setIfInBounds_toArray, List.set_cons_zero, List.set_cons_succ]
         refine wpAnyH_take (i := 2) (oi := _) (v := ?vz21u3) rfl (by kernel_rfl) (by kernel_rfl) (by kernel_rfl) (fun _ _ _ h => h) (Or.inl ⟨by rfl, ?hyz21u3⟩) hHeld ?restz21u3
         case hyz21u3 => (intro w hSw; (try dsimp only at hSw); go_simp; first | done | with_reducible rfl)
         try simp only [Act.put, List.getElem_toArray, List.getElem_cons_zero, List.getElem_cons_succ, List.setIfInBounds_toArray, List.set_cons_zero, List.set_cons_succ]
         refine wpAnyH_take (i := 3) (oi := _) (v := ?vz21u4) rfl (by kernel_rfl) (by kernel_rfl) (by kernel_rfl) (fun _ _ _ h => h) (Or.inl ⟨by rfl, ?hyz21u4⟩) hHeld ?restz21u4
         case hyz21u4 => (intro w hSw; (try dsimp only at hSw); go_simp; first | done | with_reducible rfl)
         try simp only [Act.put, List.getElem_toArray, List.getElem_cons_zero, List.getElem_cons_succ, List.setIfInBounds_toArray, List.set_cons_zero, List.set_cons_succ]
         refine wpAnyH_take (i := 4) (oi := _) (v := ?vz21u5) rfl (by kernel_rfl) (by kernel_rfl) (by kernel_rfl) (fun _ _ _ h => h) (Or.inl ⟨by rfl, ?hyz21u5⟩) hHeld ?restz21u5
         case hyz21u5 => (intro w hSw; (try dsimp only at hSw); go_simp; first | done | with_reducible rfl)
         try simp only [Act.put, List.getElem_toArray, List.getElem_cons_zero, List.getElem_cons_succ, List.setIfInBounds_toArray, List.set_cons_zero, List.set_cons_succ]
         refine wpAnyH_take (i := 5) (oi := _) (v := ?vz21u6) rfl (by kernel_rfl) (by kernel_rfl) (by kernel_rfl) (fun _ _ _ h => h) (Or.inl ⟨by rfl, ?hyz21u6⟩) hHeld ?restz21u6
         case hyz21u6 => (intro w hSw; (try dsimp only at hSw); go_simp; first | done | with_reducible rfl)
         try simp only [Act.put, List.getElem_toArray, List.getElem_cons_zero, List.getElem_cons_succ, List.setIfInBounds_toArray, List.set_cons_zero, List.set_cons_succ]
         refine wpAnyH_take (i := 6) (oi := _) (v := ?vz21u7) rfl (by kernel_rfl) (by kernel_rfl) (by kernel_rfl) (fun _ _ _ h => h) (Or.inl ⟨by rfl, ?hyz21u7⟩) hHeld ?restz21u7
         case hyz21u7 => (intro w hSw; (try dsimp only at hSw); go_simp; first | done | with_reducible rfl)
         try simp only [Act.put, List.getElem_toArray, List.getElem_cons_zero, List.getElem_cons_succ, List.setIfInBounds_toArray, List.set_cons_zero, List.set_cons_succ]
         refine wpAnyH_ready (rs := [7]) (by kernel_rfl) (by simp) ?_
         refine AllReadyH.cons (o := _) rfl (fun K0 hK0 => ?_) AllReadyH.nil
         go_simp
         go_at_call 48
         refine (CT.out _ (HR.out.kept (Below.refl _ _).drew)).mono ?_
         rintro e wz21v8 ⟨rfl, bz21v8⟩
         refine hK0.out _ _ (K.out _ (thenB (Below.refl _ _).drew bz21v8)) (fun hHeld => ?_)
         clear hK0 K0
         try simp only [Act.put, List.getElem_toArray, List.getElem_cons_zero, List.getElem_cons_succ, List.setIfInBounds_toArray, List.set_cons_zero, List.set_cons_succ]
         refine wpAnyH_take (i := 8) (oi := _) (v := ?vz21u9) rfl (by kernel_rfl) (by kernel_rfl) (by kernel_rfl) (fun _ _ _ h => h) (Or.inl ⟨by rfl, ?hyz21u9⟩) hHeld ?restz21u9
         case hyz21u9 => (intro w hSw; (try dsimp only at hSw); go_simp; first | done | with_reducible rfl)
         try simp only [Act.put, List.getElem_toArray, List.getElem_cons_zero, List.getElem_cons_succ, List.setIfInBounds_toArray, List.set_cons_zero, List.set_cons_succ]
         refine wpAnyH_done (by kernel_rfl) ?_ _
         clear K hHeld
         replace B := thenB B (thenB (Below.refl _ _).drew bz21v8)
         have Sz21 := ((thenB (Below.refl _ _).drew bz21v8)).size
         clear bz21v8
         have Bo := B
         clear hlt1
         have HR2 := Hid.mk (HA.out.kept B)
         rcases HA.out.kept B with h0 | ⟨b2, o2, e2, hcb⟩
         · rw [h0] at hn; simp at hn; omega
         simp only [Option.some.injEq, Addr.mk.injEq, and_true] at e2
         obtain ⟨rfl, rfl⟩ := e2
         obtain ⟨r0, r1, r2, r3⟩ := RdTerm.cells hcb k (by omega) x HX.out
         clear hcb
         have hlt1 := World.block_lt_of_cell? _ _ r0
         have K : ∀ w' : World, Below wz21v8.heap.size wz21v8 w' → (w'.cell? ⟨b1, o1 + k * 4, none⟩ = some (.int .i64 x.o) ∧ w'.cell? ⟨b1, o1 + k * 4 + 1, none⟩ = some (.int .i64 x.a) ∧ w'.cell? ⟨b1, o1 + k * 4 + 2, none⟩ = some (.int .i64 x.b) ∧ w'.cell? ⟨b1, o1 + k * 4 + 3, none⟩ = some (.int .i64 x.n)) := fun w' h => ⟨((bcell h).1 _ _ hlt1).trans r0, ((bcell h).1 _ _ hlt1).trans r1, ((bcell h).1 _ _ hlt1).trans r2, ((bcell h).1 _ _ hlt1).trans r3⟩
         have K := Hid.mk K
         clear r0 r1 r2 r3
         go_wp2_with fail
         refine wp_region_held_drew (S := (fun w' => w'.cell? ⟨b1, o1 + k * 4, none⟩ = some (.int .i64 x.o) ∧ w'.cell? ⟨b1, o1 + k * 4 + 1, none⟩ = some (.int .i64 x.a) ∧ w'.cell? ⟨b1, o1 + k * 4 + 2, none⟩ = some (.int .i64 x.b) ∧ w'.cell? ⟨b1, o1 + k * 4 + 3, none⟩ = some (.int .i64 x.n))) (by kernel_rfl) (K.out _ (Below.refl _ _).drew) (fun hHeld => ?_)
         refine wpAnyH_take (i := 0) (oi := _) (v := ?vz22u1) rfl (by kernel_rfl) (by kernel_rfl) (by kernel_rfl) (fun _ _ _ h => h) (Or.inl ⟨by rfl, ?hyz22u1⟩) hHeld ?restz22u1
         case hyz22u1 => (intro w hSw; (try dsimp only at hSw); go_simp; first | done | with_reducible rfl)
         try simp only [Act.put, List.getElem_toArray, List.getElem_cons_zero, List.setIfInBounds_toArray, List.set_cons_zero, List.set_cons_succ]
         refine wpAnyH_take (i := 1) (oi := _) (v := ?vz22u2) rfl (by kernel_rfl) (by kernel_rfl) (by kernel_rfl) (fun _ _ _ h => h) (Or.inl ⟨by rfl, ?hyz22u2⟩) hHeld ?restz22u2
         case hyz22u2 => (intro w hSw; (try dsimp only at hSw); go_simp; first | done | with_reducible rfl)
         try simp only [Act.put, List.getElem_toArray, List.getElem_cons_zero, List.getElem_cons_succ, List.setIfInBounds_toArray, List.set_cons_zero, List.set_cons_succ]
         refine wpAnyH_take (i := 2) (oi := _) (v := ?vz22u3) rfl (by kernel_rfl) (by kernel_rfl) (by kernel_rfl) (fun _ _ _ h => h) (Or.inl ⟨by rfl, ?hyz22u3⟩) hHeld ?restz22u3
         case hyz22u3 => (intro w hSw; (try dsimp only at hSw); go_simp; first | done | with_reducible rfl)
         try simp only [Act.put, List.getElem_toArray, List.getElem_cons_zero, List.getElem_cons_succ, List.setIfInBounds_toArray, List.set_cons_zero, List.set_cons_succ]
         refine wpAnyH_take (i := 3) (oi := _) (v := ?vz22u4) rfl (by kernel_rfl) (by kernel_rfl) (by kernel_rfl) (fun _ _ _ h => h) (Or.inl ⟨by rfl, ?hyz22u4⟩) hHeld ?restz22u4
         case hyz22u4 => (intro w hSw; (try dsimp only at hSw); go_simp; first | done | with_reducible rfl)
         try simp only [Act.put, List.getElem_toArray, List.getElem_cons_zero, List.getElem_cons_succ, List.setIfInBounds_toArray, List.set_cons_zero, List.set_cons_succ]
         refine wpAnyH_take (i := 4) (oi := _) (v := ?vz22u5) rfl (by kernel_rfl) (by kernel_rfl) (by kernel_rfl) (fun _ _ _ h => h) (Or.inl ⟨by rfl, ?hyz22u5⟩) hHeld ?restz22u5
         case hyz22u5 => (intro w hSw; (try dsimp only at hSw); go_simp; first | done | with_reducible rfl)
         try simp only [Act.put, List.getElem_toArray, List.getElem_cons_zero, List.getElem_cons_succ, List.setIfInBounds_toArray, List.set_cons_zero, List.set_cons_succ]
         refine wpAnyH_take (i := 5) (oi := _) (v := ?vz22u6) rfl (by kernel_rfl) (by kernel_rfl) (by kernel_rfl) (fun _ _ _ h => h) (Or.inl ⟨by rfl, ?hyz22u6⟩) hHeld ?restz22u6
         case hyz22u6 => (intro w hSw; (try dsimp only at hSw); go_simp; first | done | with_reducible rfl)
         try simp only [Act.put, List.getElem_toArray, List.getElem_cons_zero, List.getElem_cons_succ, List.setIfInBounds_toArray, List.set_cons_zero, List.set_cons_succ]
         refine wpAnyH_take (i := 6) (oi := _) (v := ?vz22u7) rfl (by kernel_rfl) (by kernel_rfl) (by kernel_rfl) (fun _ _ _ h => h) (Or.inl ⟨by rfl, ?hyz22u7⟩) hHeld ?restz22u7
         case hyz22u7 => (intro w hSw; (try dsimp only at hSw); go_simp; first | done | with_reducible rfl)
         try simp only [Act.put, List.getElem_toArray, List.getElem_cons_zero, List.getElem_cons_succ, List.setIfInBounds_toArray, List.set_cons_zero, List.set_cons_succ]
         refine wpAnyH_ready (rs := [7]) (by kernel_rfl) (by simp) ?_
         refine AllReadyH.cons (o := _) rfl (fun K0 hK0 => ?_) AllReadyH.nil
         go_simp
         go_at_call 49
         refine (CFI.out _ (HR2.out.take k |>.kept (Below.refl _ _).drew)).mono ?_
         rintro e wz22v8 ⟨rfl, bz22v8⟩
         refine hK0.out _ _ (K.out _ (thenB (Below.refl _ _).drew bz22v8)) (fun hHeld => ?_)
         clear hK0 K0
         try simp only [Act.put, List.getElem_toArray, List.getElem_cons_zero, List.getElem_cons_succ, List.setIfInBounds_toArray, List.set_cons_zero, List.set_cons_succ]
         refine wpAnyH_take (i := 8) (oi := _) (v := ?vz22u9) rfl (by kernel_rfl) (by kernel_rfl) (by kernel_rfl) (fun _ _ _ h => h) (Or.inl ⟨by rfl, ?hyz22u9⟩) hHeld ?restz22u9
         case hyz22u9 => (intro w hSw; (try dsimp only at hSw); go_simp; first | done | with_reducible rfl)
         try simp only [Act.put, List.getElem_toArray, List.getElem_cons_zero, List.getElem_cons_succ, List.setIfInBounds_toArray, List.set_cons_zero, List.set_cons_succ]
         refine wpAnyH_done (by kernel_rfl) ?_ _
         clear K hHeld
         replace B := thenB B (thenB (Below.refl _ _).drew bz22v8)
         have Sz22 := ((thenB (Below.refl _ _).drew bz22v8)).size
         clear bz22v8
         have Bo := B
         go_wp2
         go_ret
         exact ⟨ret_int HS.out.symm, Bo⟩
       · skip
         rw [if_neg hm] at hs
         have hf := fdT_out hm
         rw [hf] at CFI
         have HS := Hid.mk hs
         clear hs hm hf
         have Bo := B
         have HB0 := Hid.mk B
         have K : ∀ w' : World, Below wr.heap.size wr w' → (w'.cell? ⟨b1, o1 + k * 4, none⟩ = some (.int .i64 x.o) ∧ w'.cell? ⟨b1, o1 + k * 4 + 1, none⟩ = some (.int .i64 x.a) ∧ w'.cell? ⟨b1, o1 + k * 4 + 2, none⟩ = some (.int .i64 x.b) ∧ w'.cell? ⟨b1, o1 + k * 4 + 3, none⟩ = some (.int .i64 x.n)) := fun w' h => ⟨((bcell h).1 _ _ hlt1).trans p0, ((bcell h).1 _ _ hlt1).trans p1, ((bcell h).1 _ _ hlt1).trans p2, ((bcell h).1 _ _ hlt1).trans p3⟩
         have K := Hid.mk K
         clear p0 p1 p2 p3
         go_wp2_with fail
         refine wp_region_held_drew (S := (fun w' => w'.cell? ⟨b1, o1 + k * 4, none⟩ = some (.int .i64 x.o) ∧ w'.cell? ⟨b1, o1 + k * 4 + 1, none⟩ = some (.int .i64 x.a) ∧ w'.cell? ⟨b1, o1 + k * 4 + 2, none⟩ = some (.int .i64 x.b) ∧ w'.cell? ⟨b1, o1 + k * 4 + 3, none⟩ = some (.int .i64 x.n))) (by kernel_rfl) (K.out _ (Below.refl _ _).drew) (fun hHeld => ?_)
         refine wpAnyH_take (i := 0) (oi := _) (v := ?vz41u1) rfl (by kernel_rfl) (by kernel_rfl) (by kernel_rfl) (fun _ _ _ h => h) (Or.inl ⟨by rfl, ?hyz41u1⟩) hHeld ?restz41u1
         case hyz41u1 => (intro w hSw; (try dsimp only at hSw); go_simp; first | done | with_reducible rfl)
         try simp only [Act.put, List.getElem_toArray, List.getElem_cons_zero, List.setIfInBounds_toArray, List.set_cons_zero, List.set_cons_succ]
         refine wpAnyH_take (i := 1) (oi := _) (v := ?vz41u2) rfl (by kernel_rfl) (by kernel_rfl) (by kernel_rfl) (fun _ _ _ h => h) (Or.inl ⟨by rfl, ?hyz41u2⟩) hHeld ?restz41u2
         case hyz41u2 => (intro w hSw; (try dsimp only at hSw); go_simp; first | done | with_reducible rfl)
         try simp only [Act.put, List.getElem_toArray, List.getElem_cons_zero, List.getElem_cons_succ, List.setIfInBounds_toArray, List.set_cons_zero, List.set_cons_succ]
         refine wpAnyH_take (i := 2) (oi := _) (v := ?vz41u3) rfl (by kernel_rfl) (by kernel_rfl) (by kernel_rfl) (fun _ _ _ h => h) (Or.inl ⟨by rfl, ?hyz41u3⟩) hHeld ?restz41u3
         case hyz41u3 => (intro w hSw; (try dsimp only at hSw); go_simp; first | done | with_reducible rfl)
         try simp only [Act.put, List.getElem_toArray, List.getElem_cons_zero, List.getElem_cons_succ, List.setIfInBounds_toArray, List.set_cons_zero, List.set_cons_succ]
         refine wpAnyH_take (i := 3) (oi := _) (v := ?vz41u4) rfl (by kernel_rfl) (by kernel_rfl) (by kernel_rfl) (fun _ _ _ h => h) (Or.inl ⟨by rfl, ?hyz41u4⟩) hHeld ?restz41u4
         case hyz41u4 => (intro w hSw; (try dsimp only at hSw); go_simp; first | done | with_reducible rfl)
         try simp only [Act.put, List.getElem_toArray, List.getElem_cons_zero, List.getElem_cons_succ, List.setIfInBounds_toArray, List.set_cons_zero, List.set_cons_succ]
         refine wpAnyH_take (i := 4) (oi := _) (v := ?vz41u5) rfl (by kernel_rfl) (by kernel_rfl) (by kernel_rfl) (fun _ _ _ h => h) (Or.inl ⟨by rfl, ?hyz41u5⟩) hHeld ?restz41u5
         case hyz41u5 => (intro w hSw; (try dsimp only at hSw); go_simp; first | done | with_reducible rfl)
         try simp only [Act.put, List.getElem_toArray, List.getElem_cons_zero, List.getElem_cons_succ, List.setIfInBounds_toArray, List.set_cons_zero, List.set_cons_succ]
         refine wpAnyH_take (i := 5) (oi := _) (v := ?vz41u6) rfl (by kernel_rfl) (by kernel_rfl) (by kernel_rfl) (fun _ _ _ h => h) (Or.inl ⟨by rfl, ?hyz41u6⟩) hHeld ?restz41u6
         case hyz41u6 => (intro w hSw; (try dsimp only at hSw); go_simp; first | done | with_reducible rfl)
         try simp only [Act.put, List.getElem_toArray, List.getElem_cons_zero, List.getElem_cons_succ, List.setIfInBounds_toArray, List.set_cons_zero, List.set_cons_succ]
         refine wpAnyH_take (i := 6) (oi := _) (v := ?vz41u7) rfl (by kernel_rfl) (by kernel_rfl) (by kernel_rfl) (fun _ _ _ h => h) (Or.inl ⟨by rfl, ?hyz41u7⟩) hHeld ?restz41u7
         case hyz41u7 => (intro w hSw; (try dsimp only at hSw); go_simp; first | done | with_reducible rfl)
         try simp only [Act.put, List.getElem_toArray, List.getElem_cons_zero, List.getElem_cons_succ, List.setIfInBounds_toArray, List.set_cons_zero, List.set_cons_succ]
         refine wpAnyH_ready (rs := [7]) (by kernel_rfl) (by simp) ?_
         refine AllReadyH.cons (o := _) rfl (fun K0 hK0 => ?_) AllReadyH.nil
         go_simp
         go_at_call 48
         refine (CT.out _ (HR.out.kept (Below.refl _ _).drew)).mono ?_
         rintro e wz41v8 ⟨rfl, bz41v8⟩
         refine hK0.out _ _ (K.out _ (thenB (Below.refl _ _).drew bz41v8)) (fun hHeld => ?_)
         clear hK0 K0
         try simp only [Act.put, List.getElem_toArray, List.getElem_cons_zero, List.getElem_cons_succ, List.setIfInBounds_toArray, List.set_cons_zero, List.set_cons_succ]
         refine wpAnyH_take (i := 8) (oi := _) (v := ?vz41u9) rfl (by kernel_rfl) (by kernel_rfl) (by kernel_rfl) (fun _ _ _ h => h) (Or.inl ⟨by rfl, ?hyz41u9⟩) hHeld ?restz41u9
         case hyz41u9 => (intro w hSw; (try dsimp only at hSw); go_simp; first | done | with_reducible rfl)
         try simp only [Act.put, List.getElem_toArray, List.getElem_cons_zero, List.getElem_cons_succ, List.setIfInBounds_toArray, List.set_cons_zero, List.set_cons_succ]
         refine wpAnyH_done (by kernel_rfl) ?_ _
         clear K hHeld
         replace B := thenB B (thenB (Below.refl _ _).drew bz41v8)
         have Sz41 := ((thenB (Below.refl _ _).drew bz41v8)).size
         clear bz41v8
         have Bo := B
         clear hlt1
         have HR2 := Hid.mk (HA.out.kept B)
         rcases HA.out.kept B with h0 | ⟨b2, o2, e2, hcb⟩
         · rw [h0] at hn; simp at hn; omega
         simp only [Option.some.injEq, Addr.mk.injEq, and_true] at e2
         obtain ⟨rfl, rfl⟩ := e2
         obtain ⟨r0, r1, r2, r3⟩ := RdTerm.cells hcb k (by omega) x HX.out
         clear hcb
         have hlt1 := World.block_lt_of_cell? _ _ r0
         have K : ∀ w' : World, Below wz41v8.heap.size wz41v8 w' → (w'.cell? ⟨b1, o1 + k * 4, none⟩ = some (.int .i64 x.o) ∧ w'.cell? ⟨b1, o1 + k * 4 + 1, none⟩ = some (.int .i64 x.a) ∧ w'.cell? ⟨b1, o1 + k * 4 + 2, none⟩ = some (.int .i64 x.b) ∧ w'.cell? ⟨b1, o1 + k * 4 + 3, none⟩ = some (.int .i64 x.n)) := fun w' h => ⟨((bcell h).1 _ _ hlt1).trans r0, ((bcell h).1 _ _ hlt1).trans r1, ((bcell h).1 _ _ hlt1).trans r2, ((bcell h).1 _ _ hlt1).trans r3⟩
         have K := Hid.mk K
         clear r0 r1 r2 r3
         go_wp2_with fail
         refine wp_region_held_drew (S := (fun w' => w'.cell? ⟨b1, o1 + k * 4, none⟩ = some (.int .i64 x.o) ∧ w'.cell? ⟨b1, o1 + k * 4 + 1, none⟩ = some (.int .i64 x.a) ∧ w'.cell? ⟨b1, o1 + k * 4 + 2, none⟩ = some (.int .i64 x.b) ∧ w'.cell? ⟨b1, o1 + k * 4 + 3, none⟩ = some (.int .i64 x.n))) (by kernel_rfl) (K.out _ (Below.refl _ _).drew) (fun hHeld => ?_)
         refine wpAnyH_take (i := 0) (oi := _) (v := ?vz42u1) rfl (by kernel_rfl) (by kernel_rfl) (by kernel_rfl) (fun _ _ _ h => h) (Or.inl ⟨by rfl, ?hyz42u1⟩) hHeld ?restz42u1
         case hyz42u1 => (intro w hSw; (try dsimp only at hSw); go_simp; first | done | with_reducible rfl)
         try simp only [Act.put, List.getElem_toArray, List.getElem_cons_zero, List.setIfInBounds_toArray, List.set_cons_zero, List.set_cons_succ]
         refine wpAnyH_take (i := 1) (oi := _) (v := ?vz42u2) rfl (by kernel_rfl) (by kernel_rfl) (by kernel_rfl) (fun _ _ _ h => h) (Or.inl ⟨by rfl, ?hyz42u2⟩) hHeld ?restz42u2
         case hyz42u2 => (intro w hSw; (try dsimp only at hSw); go_simp; first | done | with_reducible rfl)
         try simp only [Act.put, List.getElem_toArray, List.getElem_cons_zero, List.getElem_cons_succ, List.setIfInBounds_toArray, List.set_cons_zero, List.set_cons_succ]
         refine wpAnyH_take (i := 2) (oi := _) (v := ?vz42u3) rfl (by kernel_rfl) (by kernel_rfl) (by kernel_rfl) (fun _ _ _ h => h) (Or.inl ⟨by rfl, ?hyz42u3⟩) hHeld ?restz42u3
         case hyz42u3 => (intro w hSw; (try dsimp only at hSw); go_simp; first | done | with_reducible rfl)
         try simp only [Act.put, List.getElem_toArray, List.getElem_cons_zero, List.getElem_cons_succ, List.setIfInBounds_toArray, List.set_cons_zero, List.set_cons_succ]
         refine wpAnyH_take (i := 3) (oi := _) (v := ?vz42u4) rfl (by kernel_rfl) (by kernel_rfl) (by kernel_rfl) (fun _ _ _ h => h) (Or.inl ⟨by rfl, ?hyz42u4⟩) hHeld ?restz42u4
         case hyz42u4 => (intro w hSw; (try dsimp only at hSw); go_simp; first | done | with_reducible rfl)
         try simp only [Act.put, List.getElem_toArray, List.getElem_cons_zero, List.getElem_cons_succ, List.setIfInBounds_toArray, List.set_cons_zero, List.set_cons_succ]
         refine wpAnyH_take (i := 4) (oi := _) (v := ?vz42u5) rfl (by kernel_rfl) (by kernel_rfl) (by kernel_rfl) (fun _ _ _ h => h) (Or.inl ⟨by rfl, ?hyz42u5⟩) hHeld ?restz42u5
         case hyz42u5 => (intro w hSw; (try dsimp only at hSw); go_simp; first | done | with_reducible rfl)
         try simp only [Act.put, List.getElem_toArray, List.getElem_cons_zero, List.getElem_cons_succ, List.setIfInBounds_toArray, List.set_cons_zero, List.set_cons_succ]
         refine wpAnyH_take (i := 5) (oi := _) (v := ?vz42u6) rfl (by kernel_rfl) (by kernel_rfl) (by kernel_rfl) (fun _ _ _ h => h) (Or.inl ⟨by rfl, ?hyz42u6⟩) hHeld ?restz42u6
         case hyz42u6 => (intro w hSw; (try dsimp only at hSw); go_simp; first | done | with_reducible rfl)
         try simp only [Act.put, List.getElem_toArray, List.getElem_cons_zero, List.getElem_cons_succ, List.setIfInBounds_toArray, List.set_cons_zero, List.set_cons_succ]
         refine wpAnyH_take (i := 6) (oi := _) (v := ?vz42u7) rfl (by kernel_rfl) (by kernel_rfl) (by kernel_rfl) (fun _ _ _ h => h) (Or.inl ⟨by rfl, ?hyz42u7⟩) hHeld ?restz42u7
         case hyz42u7 => (intro w hSw; (try dsimp only at hSw); go_simp; first | done | with_reducible rfl)
         try simp only [Act.put, List.getElem_toArray, List.getElem_cons_zero, List.getElem_cons_succ, List.setIfInBounds_toArray, List.set_cons_zero, List.set_cons_succ]
         refine wpAnyH_ready (rs := [7]) (by kernel_rfl) (by simp) ?_
         refine AllReadyH.cons (o := _) rfl (fun K0 hK0 => ?_) AllReadyH.nil
         go_simp
         go_at_call 49
         refine (CFI.out _ (HR2.out.take k |>.kept (Below.refl _ _).drew)).mono ?_
         rintro e wz42v8 ⟨rfl, bz42v8⟩
         refine hK0.out _ _ (K.out _ (thenB (Below.refl _ _).drew bz42v8)) (fun hHeld => ?_)
         clear hK0 K0
         try simp only [Act.put, List.getElem_toArray, List.getElem_cons_zero, List.getElem_cons_succ, List.setIfInBounds_toArray, List.set_cons_zero, List.set_cons_succ]
         refine wpAnyH_take (i := 8) (oi := _) (v := ?vz42u9) rfl (by kernel_rfl) (by kernel_rfl) (by kernel_rfl) (fun _ _ _ h => h) (Or.inl ⟨by rfl, ?hyz42u9⟩) hHeld ?restz42u9
         case hyz42u9 => (intro w hSw; (try dsimp only at hSw); go_simp; first | done | with_reducible rfl)
         try simp only [Act.put, List.getElem_toArray, List.getElem_cons_zero, List.getElem_cons_succ, List.setIfInBounds_toArray, List.set_cons_zero, List.set_cons_succ]
         refine wpAnyH_done (by kernel_rfl) ?_ _
         clear K hHeld
         replace B := thenB B (thenB (Below.refl _ _).drew bz42v8)
         have Sz42 := ((thenB (Below.refl _ _).drew bz42v8)).size
         clear bz42v8
         have Bo := B
         go_wp2
         go_roundw
         case rel => exact ⟨k + 1, by omega, by go_num, Hid.mk HS.out.symm, Bo⟩
         case measure => simp [intOf]; omega
   · have hkn : k = n := by omega
     subst hkn
     have hdr2 := hdr.out
     rw [tfK_end xs k (by omega)] at hdr2
     have HZ := Hid.mk hdr2
     clear hdr2 hdr
     go_wp2
     go_ret
     exact ⟨ret_int HZ.out, B⟩

set_option maxHeartbeats 1000000 in
theorem implTermsFault_ok (a : Option Addr) (n ca : Nat) (xs : List T4) (w : World) (ha : RdTerm w a xs) (hn : xs.length = n) (hx : n ≤ maxLen) (hok : ∀ t ∈ xs, okT t) :
    Calls Tryz.prog 18 #[.slice a n ca] w fun e w' => e = .returned (.int .i64 (tfC xs)) ∧ Below w.heap.size w w' := by
  have CB := Hid.mk (bookOf_ok a n ca xs w ha hn hx hok)
  generalize hF : tfC xs = F at *
  clear ha hok
  go_enter Tryz.func18, Tryz.ntmps18
  go_wp2_with fail
  refine CB.out.mono ?_
  rintro e w1 ⟨v, k, rfl, rfl, b1, -⟩
  go_wp2
  go_ret
  exact ⟨rfl, b1⟩

end Go.Proofs.YtfldgeokigcokaaGreat

/- Sizes: the model. -/
namespace Go.Proofs.YtfldgeokigcokaaGreat
open Go.RowKit

theorem own_some {k : IntKind} {e : TypeId} {w : World} {base : Nat} {a : Option Addr} {cap : Nat} {zs : List Int} (h : Own k e w base a cap zs) (h0 : 0 < zs.length) : ∃ g, a = some ⟨g, 0, none⟩ := by
  rcases h.2 with ⟨_, h1⟩ | ⟨g, cap', cur, hv, _⟩
  · omega
  · simp only [Value.slice.injEq, true_and] at hv; exact ⟨g, hv.1⟩

set_option maxRecDepth 20000 in
set_option maxHeartbeats 8000000 in
theorem l5Sizes_ok (a : Option Addr) (n ca : Nat) (xs : List T4) (w : World) (ha : RdTerm w a xs) (hn : xs.length = n) (hv : tfC xs = 0) :
    Calls Tryz.prog 25 #[.slice a n ca] w fun e w' => ∃ c d, e = .returned (.slice c n d) ∧ Own .i64 2 w' w.heap.size c d (szL xs n) ∧ Below w.heap.size w w' := by
  have hn4 : n ≤ 400 := by have := (tfC_zero hv).1; omega
  have HAh := Hid.mk (tfC_ahead hv)
  have HA := Hid.mk ha
  have OL := Hid.mk (OwnI.lit w [] [] rfl (Nat.zero_le _))
  clear ha hv
  go_enter Tryz.func25, Tryz.ntmps25
  go_wp2
  go_loopw [3, 4] (fun s i wr => ∃ (k : Nat) (c : Option Addr) (d : Nat), k ≤ n ∧ i = .int .i64 k ∧ s = .slice c k d ∧ Own .i64 2 wr w.heap.size c d (szL xs k) ∧ Below w.heap.size w wr) (fun _ i _ => n - (intOf i).toNat)
  case atStart => exact ⟨0, some ⟨w.heap.size, 0, none⟩, 0, Nat.zero_le _, rfl, rfl, OL.out, belowA _ _⟩
  case round =>
    clear OL
    obtain ⟨k, c, d, hk, rfl, rfl, O, B⟩ := hrel
    by_cases hlt : k < n
    · obtain ⟨x, hx1⟩ : ∃ x, xs.getD k zTerm = x := ⟨_, rfl⟩
      have hk1 : (k : Int) < (n : Int) := by omega
      have hs := sz_step k (by omega) HAh.out hx1
      obtain ⟨hA1, hB1⟩ := HAh.out k (by omega)
      rw [hx1] at hA1 hB1
      have hO := szL_len xs k
      rcases HA.out.kept B with h0 | ⟨b1, o1, rfl, hca⟩
      · rw [h0] at hn; simp at hn; omega
      obtain ⟨p0, p1, p2, p3⟩ := RdTerm.cells hca k (by omega) x hx1
      clear hca hx1
      rcases kids_cases x.o with hk2 | hk2 | hk2
      · skip
        rw [hk2] at hs
        simp only [Int.lt_irrefl, if_false, show ¬ ((1 : Int) < 0) by decide, Int.add_zero] at hs
        obtain ⟨v, hv⟩ : ∃ v, (den xs k).sz = v := ⟨_, rfl⟩
        have hvb := (den xs k).sz_in
        have HNX := Hid.mk (szL_next xs k)
        rw [hv] at hs hvb HNX
        have HS := Hid.mk hs
        have HO := Hid.mk hO
        have OLT := Hid.mk O.lt
        have CM := Hid.mk (l3Min_ok 1000000 (1))
        rw [← hs] at CM
        clear hs hv  hA1 hB1
        have O2 := O.kept (belowA wr (.cells #[.int .i64 v] 2))
        have B2 := thenB B (belowA wr (.cells #[.int .i64 v] 2))
        have TL := B2.size
        replace B2 := Hid.mk B2
        replace O2 := Hid.mk O2
        go_wp2_with (first | (go_at_call 51; refine (l5Kids_ok _ _).mono ?_; rintro e wq ⟨rfl, rfl⟩) | (go_at_call 55; refine (CM.out _).mono ?_; rintro e wq ⟨rfl, rfl⟩) | (at_builtin; go_loud (refine wpList_putI _ rfl _ _ rfl w.heap.size c d (szL xs k) k HO.out rfl O2.out _ 1 v rfl (cell_one' _ _ _ 0 _ rfl) (by omega) TL ?_)) | fail)
        intro c4 d4 w4 O4 hg4 hx4
        have B4 := Hid.mk (belowG (c := c) B2.out hg4 TL (fun b hb => (O2.out.lt b hb).1))
        rw [← HNX.out] at O4
        replace O4 := Hid.mk O4
        clear hg4 hx4 TL
        go_wp2
        go_roundw
        case rel => exact ⟨k + 1, c4, d4, by omega, by go_num, rfl, O4.out, B4.out⟩
        case measure => simp [intOf]; omega
      · skip
        obtain ⟨ja, hja⟩ : ∃ j : Nat, x.a = (j : Int) := ⟨x.a.toNat, by have := hA1 (by omega); omega⟩
        have hjk : ja < k := by have := hA1 (by omega); omega
        have hza := szL_at xs k ja hjk
        rw [hk2] at hs
        rw [hja, Int.toNat_natCast] at hs
        simp only [show (0 : Int) < 1 by decide, if_true, Int.lt_irrefl, if_false, Int.add_zero] at hs
        obtain ⟨v, hv⟩ : ∃ v, (den xs k).sz = v := ⟨_, rfl⟩
        have hvb := (den xs k).sz_in
        obtain ⟨sa, hsa⟩ : ∃ v, (den xs ja).sz = v := ⟨_, rfl⟩
        have hsb1 := (den xs ja).sz_in
        rw [hsa] at hs hza hsb1
        have HNX := Hid.mk (szL_next xs k)
        rw [hv] at hs hvb HNX
        obtain ⟨g, hg, _⟩ : ∃ g, c = some ⟨g, 0, none⟩ ∧ True := ⟨_, (own_some O (by rw [hO]; omega)).choose_spec, trivial⟩
        subst hg
        have ra := O.rd
        rcases ra with ra | ⟨b3, o3, e3, ra⟩
        · rw [ra] at hO; simp at hO; omega
        simp only [Option.some.injEq, Addr.mk.injEq, and_true] at e3
        obtain ⟨rfl, rfl⟩ := e3
        have r0 := ra ja (by rw [hO]; omega)
        rw [hza, Nat.zero_add] at r0
        have HS := Hid.mk hs
        have HO := Hid.mk hO
        have OLT := Hid.mk O.lt
        have CM := Hid.mk (l3Min_ok 1000000 (1 + sa))
        rw [← hs] at CM
        have hjl : (ja : Int) < (k : Int) := by omega
        rw [hja] at p1
        have w1 : 1 + sa ≤ 9223372036854775807 := by omega
        have w2 : -9223372036854775808 ≤ 1 + sa := by omega
        clear hs hv hza hsa hA1 hB1
        clear ra
        have O2 := O.kept (belowA wr (.cells #[.int .i64 v] 2))
        have B2 := thenB B (belowA wr (.cells #[.int .i64 v] 2))
        have TL := B2.size
        replace B2 := Hid.mk B2
        replace O2 := Hid.mk O2
        go_wp2_with (first | (go_at_call 51; refine (l5Kids_ok _ _).mono ?_; rintro e wq ⟨rfl, rfl⟩) | (go_at_call 55; refine (CM.out _).mono ?_; rintro e wq ⟨rfl, rfl⟩) | (at_builtin; go_loud (refine wpList_putI _ rfl _ _ rfl w.heap.size (some ⟨g, 0, none⟩) d (szL xs k) k HO.out rfl O2.out _ 1 v rfl (cell_one' _ _ _ 0 _ rfl) (by omega) TL ?_)) | fail)
        intro c4 d4 w4 O4 hg4 hx4
        have B4 := Hid.mk (belowG (c := (some ⟨g, 0, none⟩)) B2.out hg4 TL (fun b hb => (O2.out.lt b hb).1))
        rw [← HNX.out] at O4
        replace O4 := Hid.mk O4
        clear hg4 hx4 TL
        go_wp2
        go_roundw
        case rel => exact ⟨k + 1, c4, d4, by omega, by go_num, rfl, O4.out, B4.out⟩
        case measure => simp [intOf]; omega
      · skip
        obtain ⟨ja, hja⟩ : ∃ j : Nat, x.a = (j : Int) := ⟨x.a.toNat, by have := hA1 (by omega); omega⟩
        have hjk : ja < k := by have := hA1 (by omega); omega
        have hza := szL_at xs k ja hjk
        obtain ⟨jb, hjb⟩ : ∃ j : Nat, x.b = (j : Int) := ⟨x.b.toNat, by have := hB1 (by omega); omega⟩
        have hjkb : jb < k := by have := hB1 (by omega); omega
        have hzb := szL_at xs k jb hjkb
        rw [hk2] at hs
        rw [hja, Int.toNat_natCast] at hs
        rw [hjb, Int.toNat_natCast] at hs
        simp only [show (0 : Int) < 2 by decide, show (1 : Int) < 2 by decide, if_true] at hs
        obtain ⟨v, hv⟩ : ∃ v, (den xs k).sz = v := ⟨_, rfl⟩
        have hvb := (den xs k).sz_in
        obtain ⟨sa, hsa⟩ : ∃ v, (den xs ja).sz = v := ⟨_, rfl⟩
        have hsb1 := (den xs ja).sz_in
        rw [hsa] at hs hza hsb1
        obtain ⟨sb, hsb⟩ : ∃ v, (den xs jb).sz = v := ⟨_, rfl⟩
        have hsb2 := (den xs jb).sz_in
        rw [hsb] at hs hzb hsb2
        have HNX := Hid.mk (szL_next xs k)
        rw [hv] at hs hvb HNX
        obtain ⟨g, hg, _⟩ : ∃ g, c = some ⟨g, 0, none⟩ ∧ True := ⟨_, (own_some O (by rw [hO]; omega)).choose_spec, trivial⟩
        subst hg
        have ra := O.rd
        rcases ra with ra | ⟨b3, o3, e3, ra⟩
        · rw [ra] at hO; simp at hO; omega
        simp only [Option.some.injEq, Addr.mk.injEq, and_true] at e3
        obtain ⟨rfl, rfl⟩ := e3
        have r0 := ra ja (by rw [hO]; omega)
        rw [hza, Nat.zero_add] at r0
        have r1 := ra jb (by rw [hO]; omega)
        rw [hzb, Nat.zero_add] at r1
        have HS := Hid.mk hs
        have HO := Hid.mk hO
        have OLT := Hid.mk O.lt
        have CM := Hid.mk (l3Min_ok 1000000 (1 + sa + sb))
        rw [← hs] at CM
        have hjl : (ja : Int) < (k : Int) := by omega
        rw [hja] at p1
        have hjl2 : (jb : Int) < (k : Int) := by omega
        rw [hjb] at p2
        have w1 : 1 + sa ≤ 9223372036854775807 := by omega
        have w2 : -9223372036854775808 ≤ 1 + sa := by omega
        have w3 : 1 + sa + sb ≤ 9223372036854775807 := by omega
        have w4 : -9223372036854775808 ≤ 1 + sa + sb := by omega
        clear hs hv hza hsa hzb hsb hA1 hB1
        clear ra
        have O2 := O.kept (belowA wr (.cells #[.int .i64 v] 2))
        have B2 := thenB B (belowA wr (.cells #[.int .i64 v] 2))
        have TL := B2.size
        replace B2 := Hid.mk B2
        replace O2 := Hid.mk O2
        go_wp2_with (first | (go_at_call 51; refine (l5Kids_ok _ _).mono ?_; rintro e wq ⟨rfl, rfl⟩) | (go_at_call 55; refine (CM.out _).mono ?_; rintro e wq ⟨rfl, rfl⟩) | (at_builtin; go_loud (refine wpList_putI _ rfl _ _ rfl w.heap.size (some ⟨g, 0, none⟩) d (szL xs k) k HO.out rfl O2.out _ 1 v rfl (cell_one' _ _ _ 0 _ rfl) (by omega) TL ?_)) | fail)
        intro c4 d4 w4 O4 hg4 hx4
        have B4 := Hid.mk (belowG (c := (some ⟨g, 0, none⟩)) B2.out hg4 TL (fun b hb => (O2.out.lt b hb).1))
        rw [← HNX.out] at O4
        replace O4 := Hid.mk O4
        clear hg4 hx4 TL
        go_wp2
        go_roundw
        case rel => exact ⟨k + 1, c4, d4, by omega, by go_num, rfl, O4.out, B4.out⟩
        case measure => simp [intOf]; omega
    · have hkn : k = n := by omega
      subst hkn
      have HO := Hid.mk O
      clear O
      go_wp2
      go_ret
      exact ⟨c, d, rfl, HO.out, B⟩

end Go.Proofs.YtfldgeokigcokaaGreat

/- SizeOf of the model; the fault of a place (SizeOf of the program: RkA). -/
namespace Go.Proofs.YtfldgeokigcokaaGreat
open Go.RowKit

set_option maxHeartbeats 1000000 in
theorem l5At_ok (a : Option Addr) (n ca : Nat) (q : Int) (w : World) (hx : n ≤ maxLen) :
    Calls Tryz.prog 59 #[.slice a n ca, .int .i64 q] w fun e w' => e = .returned (.bool (btw q 0 ((n : Int) - 1))) ∧ w' = w := by
  unfold maxLen at hx
  have CI := Hid.mk (l1In_ok q 0 ((n : Int) - 1))
  go_enter Tryz.func59, Tryz.ntmps59
  go_wp2_with fail
  refine (CI.out _).mono ?_
  rintro e wq ⟨rfl, rfl⟩
  go_wp2
  go_ret
  exact ⟨rfl, rfl⟩

set_option maxHeartbeats 1000000 in
theorem l5Asked_ok (a : Option Addr) (n ca : Nat) (xs : List T4) (q : Int) (w : World) (ha : RdTerm w a xs) (hn : xs.length = n) (hx : n ≤ maxLen) (hca : n ≤ ca) :
    Calls Tryz.prog 29 #[.slice a n ca, .int .i64 q] w fun e w' => e = .returned (.int .i64 (akC xs q)) ∧ Below w.heap.size w w' := by
  have CT := Hid.mk (specTermsFault_ok a n ca xs w ha hn hx hca)
  have CA := Hid.mk (fun w => l5At_ok a n ca q w hx)
  have HW := ak_ways xs q
  rw [hn] at HW
  clear ha
  rcases HW with ⟨h1, hr⟩ | ⟨h1, h2, hr⟩ | ⟨h1, h2, hr⟩
  · rw [hr]
    have h3 : (tfC xs != 0) = true := by simp [h1]
    clear hr h1
    generalize tfC xs = kk at *
    go_enter Tryz.func29, Tryz.ntmps29
    go_wp2_with fail
    refine CT.out.mono ?_
    rintro e w1 ⟨rfl, b1⟩
    go_wp2
    go_ret
    exact ⟨rfl, b1⟩
  all_goals
    rw [hr]
    rw [h1] at CT
    rw [h2] at CA
    clear hr h1 h2
    go_enter Tryz.func29, Tryz.ntmps29
    go_wp2_with fail
    refine CT.out.mono ?_
    rintro e w1 ⟨rfl, b1⟩
    go_wp2_with fail
    refine (CA.out _).mono ?_
    rintro e w1 ⟨rfl, rfl⟩
    go_wp2
    go_ret
    exact ⟨rfl, b1⟩

theorem plsOk_one (m : Nat) (q : Int) : plsOk m [q] = btw q 0 ((m : Int) - 1) := by unfold plsOk; simp

set_option maxHeartbeats 1000000 in
theorem placeFault_ok (a : Option Addr) (n ca : Nat) (xs : List T4) (q : Int) (w : World) (ha : RdTerm w a xs) (hn : xs.length = n) (hx : n ≤ maxLen) (hok : ∀ t ∈ xs, okT t) :
    Calls Tryz.prog 32 #[.slice a n ca, .int .i64 q] w fun e w' => e = .returned (.int .i64 (akC xs q)) ∧ Below w.heap.size w w' := by
  have CT := Hid.mk (implTermsFault_ok a n ca xs w ha hn hx hok)
  have CA := Hid.mk (fun w c d h => arePlaces_ok a n ca c 1 d [q] w h rfl hx (by unfold maxLen; omega))
  rw [plsOk_one] at CA
  have HW := ak_ways xs q
  rw [hn] at HW
  clear ha
  rcases HW with ⟨h1, hr⟩ | ⟨h1, h2, hr⟩ | ⟨h1, h2, hr⟩
  · rw [hr]
    have h3 : (tfC xs != 0) = true := by simp [h1]
    clear hr h1
    generalize tfC xs = kk at *
    go_enter Tryz.func32, Tryz.ntmps32
    go_wp2_with fail
    refine CT.out.mono ?_
    rintro e w1 ⟨rfl, b1⟩
    go_wp2
    go_ret
    exact ⟨rfl, b1⟩
  all_goals
    rw [hr]
    rw [h1] at CT
    rw [h2] at CA
    clear hr h1 h2
    go_enter Tryz.func32, Tryz.ntmps32
    go_wp2_with fail
    refine CT.out.mono ?_
    rintro e w1 ⟨rfl, b1⟩
    have hR := (OwnI.lit w1 [q] [.int .i64 q] rfl (by unfold maxLen; simp)).rd
    have b2 := thenB b1 (belowA w1 (.cells #[.int .i64 q] 2))
    go_wp2_with fail
    refine (CA.out _ _ _ hR).mono ?_
    rintro e wq ⟨rfl, rfl⟩
    go_wp2
    go_ret
    exact ⟨rfl, b2⟩

end Go.Proofs.YtfldgeokigcokaaGreat
