/- The first rule: the model. -/
import Derived.Test.YtngkahchhioncaaDoorPolF
import Derived.Test.YtngkahchhioncaaDoorSelZ
import Derived.Test.YtngkahchhioncaaDoorFill
namespace Go.Proofs.YtngkahchhioncaaDoor
open Go.RowKit

/-- The fault of a policy and a packet. -/
@[irreducible] def asC (xs : List R11) (f t r l u v : Int) (m : Nat) : Int := if pyC xs = 0 then pfC f t r l u v m else pyC xs

theorem as_ways (xs : List R11) (f t r l u v : Int) (m : Nat) : ((pyC xs != 0) = true ∧ asC xs f t r l u v m = pyC xs ∧ pyC xs ≠ 0) ∨ (pyC xs = 0 ∧ asC xs f t r l u v m = pfC f t r l u v m) := by
  unfold asC
  by_cases h : pyC xs = 0
  · exact .inr ⟨h, by rw [if_pos h]⟩
  · exact .inl ⟨by simp [h], by rw [if_neg h], h⟩

/-- What 'FirstRule' answers. -/
@[irreducible] def frC (xs : List R11) (f t r l u v : Int) (m : Nat) : Int := if asC xs f t r l u v m = 0 then (if fstK xs f t r u v < xs.length then 0 else 4) else asC xs f t r l u v m
@[irreducible] def frA (xs : List R11) (f t r l u v : Int) (m : Nat) : Int := if asC xs f t r l u v m = 0 ∧ fstK xs f t r u v < xs.length then fstK xs f t r u v else 0
@[irreducible] def frR (xs : List R11) (f t r l u v : Int) (m : Nat) : R11 := if asC xs f t r l u v m = 0 ∧ fstK xs f t r u v < xs.length then xs.getD (fstK xs f t r u v) zRule else zRule
/-- What 'ActionFor' answers beside its code. -/
@[irreducible] def afV (xs : List R11) (f t r l u v : Int) (m : Nat) : Int := if asC xs f t r l u v m = 0 then (if fstK xs f t r u v < xs.length then (xs.getD (fstK xs f t r u v) zRule).p else 1) else 0

theorem fr_ways (xs : List R11) (f t r l u v : Int) (m : Nat) :
    ((asC xs f t r l u v m != 0) = true ∧ asC xs f t r l u v m ≠ 0 ∧ frC xs f t r l u v m = asC xs f t r l u v m ∧ frA xs f t r l u v m = 0 ∧ frR xs f t r l u v m = zRule ∧ afV xs f t r l u v m = 0) ∨
    (asC xs f t r l u v m = 0 ∧ ¬ fstK xs f t r u v < xs.length ∧ frC xs f t r l u v m = 4 ∧ frA xs f t r l u v m = 0 ∧ frR xs f t r l u v m = zRule ∧ afV xs f t r l u v m = 1) ∨
    (asC xs f t r l u v m = 0 ∧ fstK xs f t r u v < xs.length ∧ frC xs f t r l u v m = 0 ∧ frA xs f t r l u v m = fstK xs f t r u v ∧ frR xs f t r l u v m = xs.getD (fstK xs f t r u v) zRule ∧ afV xs f t r l u v m = (xs.getD (fstK xs f t r u v) zRule).p) := by
  unfold frC frA frR afV
  by_cases h : asC xs f t r l u v m = 0
  · by_cases h2 : fstK xs f t r u v < xs.length
    · exact .inr (.inr ⟨h, h2, by rw [if_pos h, if_pos h2], by rw [if_pos ⟨h, h2⟩], by rw [if_pos ⟨h, h2⟩], by rw [if_pos h, if_pos h2]⟩)
    · exact .inr (.inl ⟨h, h2, by rw [if_pos h, if_neg h2], by rw [if_neg (fun q => h2 q.2)], by rw [if_neg (fun q => h2 q.2)], by rw [if_pos h, if_neg h2]⟩)
  · exact .inl ⟨by simp [h], h, by rw [if_neg h], by rw [if_neg (fun q => h q.1)], by rw [if_neg (fun q => h q.1)], by rw [if_neg h]⟩

set_option maxHeartbeats 2000000 in
theorem l4Asked_ok (a : Option Addr) (n ca : Nat) (xs : List R11) (f t r l u v : Int) (s : Option Addr) (m cs : Nat) (w : World) (ha : RdRule w a xs) (hn : xs.length = n) (hx : n ≤ maxLen) :
    Calls Tryd.prog 55 #[.slice a n ca, .agg #[.int .i64 f, .int .i64 t, .int .i64 r, .int .i64 l, .int .i64 u, .int .i64 v, .slice s m cs]] w fun e w' => e = .returned (.int .i64 (asC xs f t r l u v m)) ∧ Below w.heap.size w w' := by
  have CP := Hid.mk (fun w h => specPolicyFault_ok a n ca xs w h hn hx)
  have CQ := Hid.mk (fun w => specPacketFault_ok f t r l u v s m cs w)
  have VP := V.new w [.int .i64 f, .int .i64 t, .int .i64 r, .int .i64 l, .int .i64 u, .int .i64 v, .slice s m cs] 26
  have B := belowA w (.cells #[.int .i64 f, .int .i64 t, .int .i64 r, .int .i64 l, .int .i64 u, .int .i64 v, .slice s m cs] 26)
  replace ha := ha.kept B
  rcases as_ways xs f t r l u v m with ⟨h1, hr, _⟩ | ⟨h1, hr⟩
  · rw [hr]
    clear hr
    obtain ⟨s_VP, f_VP, z_VP⟩ := VP.open
    go_enter Tryd.func55, Tryd.ntmps55
    go_wp2_with fail
    refine (CP.out _ ha).mono ?_
    rintro e w1 ⟨rfl, b1⟩
    replace B := thenB B b1
    go_wp2
    go_ret
    exact ⟨rfl, B⟩
  · rw [hr]
    clear hr
    rw [h1] at CP
    obtain ⟨s_VP, f_VP, z_VP⟩ := VP.open
    go_enter Tryd.func55, Tryd.ntmps55
    go_wp2_with fail
    refine (CP.out _ ha).mono ?_
    rintro e w1 ⟨rfl, b1⟩
    clear s_VP f_VP z_VP
    replace B := thenB B b1
    replace VP := VP.kept b1
    clear b1
    obtain ⟨s_VP, f_VP, z_VP⟩ := VP.open
    go_wp2_with fail
    refine (CQ.out _).mono ?_
    rintro e w2 ⟨rfl, b2⟩
    replace B := thenB B b2
    go_wp2
    go_ret
    exact ⟨rfl, B⟩

set_option maxRecDepth 20000 in
set_option maxHeartbeats 4000000 in
theorem l4First_ok (a : Option Addr) (n ca : Nat) (xs : List R11) (f t r l u v : Int) (s : Option Addr) (m cs : Nat) (w : World) (ha : RdRule w a xs) (hn : xs.length = n) (hx : n ≤ maxLen) :
    Calls Tryd.prog 56 #[.slice a n ca, .agg #[.int .i64 f, .int .i64 t, .int .i64 r, .int .i64 l, .int .i64 u, .int .i64 v, .slice s m cs]] w fun e w' => e = .returned (.int .i64 (if fstK xs f t r u v < xs.length then (fstK xs f t r u v : Int) else -1)) ∧ Below w.heap.size w w' := by
  unfold maxLen at hx
  obtain ⟨iV, hV⟩ : ∃ iV : Int, (if fstK xs f t r u v < xs.length then (fstK xs f t r u v : Int) else -1) = iV := ⟨_, rfl⟩
  rw [hV]
  replace hV := Hid.mk hV
  go_enter Tryd.func56, Tryd.ntmps56
  have VP := Hid.mk (V.new w [.int .i64 f, .int .i64 t, .int .i64 r, .int .i64 l, .int .i64 u, .int .i64 v, .slice s m cs] 26)
  have B := Hid.mk (belowA w (.cells #[.int .i64 f, .int .i64 t, .int .i64 r, .int .i64 l, .int .i64 u, .int .i64 v, .slice s m cs] 26))
  go_wp2
  go_loopw [5] (fun i wr => ∃ k : Nat, k ≤ n ∧ k ≤ fstK xs f t r u v ∧ i = .int .i64 k ∧ V wr w.heap.size [.int .i64 f, .int .i64 t, .int .i64 r, .int .i64 l, .int .i64 u, .int .i64 v, .slice s m cs] ∧ Below w.heap.size w wr) (fun i _ => n - (intOf i).toNat)
  case atStart => exact ⟨0, Nat.zero_le _, Nat.zero_le _, rfl, VP.out, B.out⟩
  case round =>
    clear VP B
    obtain ⟨k, hk, hkf, rfl, VP, B⟩ := hrel
    by_cases hlt : k < n
    · obtain ⟨x, hx1⟩ : ∃ x, xs.getD k zRule = x := ⟨_, rfl⟩
      have hk1 : (k : Int) < (n : Int) := by omega
      have hst := fst_step hkf (by omega) hx1
      have CH := Hid.mk (fun w => l3Holds_ok x.s f t r l u v s m cs w)
      replace ha := ha.kept B
      rcases ha with ha | ⟨b1, o1, rfl, hca⟩
      · simp [ha] at hn; omega
      have HQ := RdRule.cells hca k (by omega) x hx1
      clear hca hx1
      obtain ⟨p0, p1, p2, p3, p4, p5, p6, p7, p8, p9, p10⟩ := HQ
      clear p9 p10
      have hb1 := World.block_lt_of_cell? (a := ⟨b1, o1 + k * 11, none⟩) _ p0
      simp only at hb1
      generalize inP x.s f t r u v = c at *
      replace hst := Hid.mk hst
      obtain ⟨s_VP, f_VP, z_VP⟩ := VP.open
      have Bo := B
      clear s_VP f_VP z_VP
      have K : ∀ w' : World, Below wr.heap.size wr w' → (w'.cell? ⟨w.heap.size, 0, none⟩ = some (.int .i64 f) ∧ w'.cell? ⟨w.heap.size, 1, none⟩ = some (.int .i64 t) ∧ w'.cell? ⟨w.heap.size, 2, none⟩ = some (.int .i64 r) ∧ w'.cell? ⟨w.heap.size, 3, none⟩ = some (.int .i64 l) ∧ w'.cell? ⟨w.heap.size, 4, none⟩ = some (.int .i64 u) ∧ w'.cell? ⟨w.heap.size, 5, none⟩ = some (.int .i64 v) ∧ w'.cell? ⟨w.heap.size, 6, none⟩ = some (.slice s m cs) ∧ w'.cell? ⟨b1, o1 + k * 11, none⟩ = some (.int .i64 x.s.a) ∧ w'.cell? ⟨b1, o1 + k * 11 + 1, none⟩ = some (.int .i64 x.s.b) ∧ w'.cell? ⟨b1, o1 + k * 11 + 2, none⟩ = some (.int .i64 x.s.c) ∧ w'.cell? ⟨b1, o1 + k * 11 + 3, none⟩ = some (.int .i64 x.s.d) ∧ w'.cell? ⟨b1, o1 + k * 11 + 4, none⟩ = some (.int .i64 x.s.e) ∧ w'.cell? ⟨b1, o1 + k * 11 + 5, none⟩ = some (.int .i64 x.s.f) ∧ w'.cell? ⟨b1, o1 + k * 11 + 6, none⟩ = some (.int .i64 x.s.g) ∧ w'.cell? ⟨b1, o1 + k * 11 + 7, none⟩ = some (.int .i64 x.s.h) ∧ w'.cell? ⟨b1, o1 + k * 11 + 8, none⟩ = some (.int .i64 x.s.r)) := fun w' h => ⟨(VP.kept h).2.1 0 (by simp), (VP.kept h).2.1 1 (by simp), (VP.kept h).2.1 2 (by simp), (VP.kept h).2.1 3 (by simp), (VP.kept h).2.1 4 (by simp), (VP.kept h).2.1 5 (by simp), (VP.kept h).2.1 6 (by simp), ((bcell h).1 _ _ hb1).trans p0, ((bcell h).1 _ _ hb1).trans p1, ((bcell h).1 _ _ hb1).trans p2, ((bcell h).1 _ _ hb1).trans p3, ((bcell h).1 _ _ hb1).trans p4, ((bcell h).1 _ _ hb1).trans p5, ((bcell h).1 _ _ hb1).trans p6, ((bcell h).1 _ _ hb1).trans p7, ((bcell h).1 _ _ hb1).trans p8⟩
      have K := Hid.mk K
      clear p0 p1 p2 p3 p4 p5 p6 p7 p8
      go_wp2_with fail
      refine wp_region_held_drew (S := (fun w' => w'.cell? ⟨w.heap.size, 0, none⟩ = some (.int .i64 f) ∧ w'.cell? ⟨w.heap.size, 1, none⟩ = some (.int .i64 t) ∧ w'.cell? ⟨w.heap.size, 2, none⟩ = some (.int .i64 r) ∧ w'.cell? ⟨w.heap.size, 3, none⟩ = some (.int .i64 l) ∧ w'.cell? ⟨w.heap.size, 4, none⟩ = some (.int .i64 u) ∧ w'.cell? ⟨w.heap.size, 5, none⟩ = some (.int .i64 v) ∧ w'.cell? ⟨w.heap.size, 6, none⟩ = some (.slice s m cs) ∧ w'.cell? ⟨b1, o1 + k * 11, none⟩ = some (.int .i64 x.s.a) ∧ w'.cell? ⟨b1, o1 + k * 11 + 1, none⟩ = some (.int .i64 x.s.b) ∧ w'.cell? ⟨b1, o1 + k * 11 + 2, none⟩ = some (.int .i64 x.s.c) ∧ w'.cell? ⟨b1, o1 + k * 11 + 3, none⟩ = some (.int .i64 x.s.d) ∧ w'.cell? ⟨b1, o1 + k * 11 + 4, none⟩ = some (.int .i64 x.s.e) ∧ w'.cell? ⟨b1, o1 + k * 11 + 5, none⟩ = some (.int .i64 x.s.f) ∧ w'.cell? ⟨b1, o1 + k * 11 + 6, none⟩ = some (.int .i64 x.s.g) ∧ w'.cell? ⟨b1, o1 + k * 11 + 7, none⟩ = some (.int .i64 x.s.h) ∧ w'.cell? ⟨b1, o1 + k * 11 + 8, none⟩ = some (.int .i64 x.s.r))) (by kernel_rfl) (K.out _ (Below.refl _ _).drew) (fun hHeld => ?_)
      refine wpAnyH_take (i := 0) (oi := _) (v := ?vz1u1) rfl (by kernel_rfl) (by kernel_rfl) (by kernel_rfl) (fun _ _ _ h => h) (Or.inl ⟨by rfl, ?hyz1u1⟩) hHeld ?restz1u1
      case hyz1u1 => (intro w hSw; (try dsimp only at hSw); go_simp; first | done | with_reducible rfl)
      try simp only [Act.put, List.getElem_toArray, List.getElem_cons_zero, List.setIfInBounds_toArray, List.set_cons_zero, List.set_cons_succ]
      refine wpAnyH_take (i := 1) (oi := _) (v := ?vz1u2) rfl (by kernel_rfl) (by kernel_rfl) (by kernel_rfl) (fun _ _ _ h => h) (Or.inl ⟨by rfl, ?hyz1u2⟩) hHeld ?restz1u2
      case hyz1u2 => (intro w hSw; (try dsimp only at hSw); go_simp; first | done | with_reducible rfl)
      try simp only [Act.put, List.getElem_toArray, List.getElem_cons_zero, List.getElem_cons_succ, List.setIfInBounds_toArray, List.set_cons_zero, List.set_cons_succ]
      refine wpAnyH_take (i := 2) (oi := _) (v := ?vz1u3) rfl (by kernel_rfl) (by kernel_rfl) (by kernel_rfl) (fun _ _ _ h => h) (Or.inl ⟨by rfl, ?hyz1u3⟩) hHeld ?restz1u3
      case hyz1u3 => (intro w hSw; (try dsimp only at hSw); go_simp; first | done | with_reducible rfl)
      try simp only [Act.put, List.getElem_toArray, List.getElem_cons_zero, List.getElem_cons_succ, List.setIfInBounds_toArray, List.set_cons_zero, List.set_cons_succ]
      refine wpAnyH_take (i := 3) (oi := _) (v := ?vz1u4) rfl (by kernel_rfl) (by kernel_rfl) (by kernel_rfl) (fun _ _ _ h => h) (Or.inl ⟨by rfl, ?hyz1u4⟩) hHeld ?restz1u4
      case hyz1u4 => (intro w hSw; (try dsimp only at hSw); go_simp; first | done | with_reducible rfl)
      try simp only [Act.put, List.getElem_toArray, List.getElem_cons_zero, List.getElem_cons_succ, List.setIfInBounds_toArray, List.set_cons_zero, List.set_cons_succ]
      refine wpAnyH_take (i := 4) (oi := _) (v := ?vz1u5) rfl (by kernel_rfl) (by kernel_rfl) (by kernel_rfl) (fun _ _ _ h => h) (Or.inl ⟨by rfl, ?hyz1u5⟩) hHeld ?restz1u5
      case hyz1u5 => (intro w hSw; (try dsimp only at hSw); go_simp; first | done | with_reducible rfl)
      try simp only [Act.put, List.getElem_toArray, List.getElem_cons_zero, List.getElem_cons_succ, List.setIfInBounds_toArray, List.set_cons_zero, List.set_cons_succ]
      refine wpAnyH_take (i := 5) (oi := _) (v := ?vz1u6) rfl (by kernel_rfl) (by kernel_rfl) (by kernel_rfl) (fun _ _ _ h => h) (Or.inl ⟨by rfl, ?hyz1u6⟩) hHeld ?restz1u6
      case hyz1u6 => (intro w hSw; (try dsimp only at hSw); go_simp; first | done | with_reducible rfl)
      try simp only [Act.put, List.getElem_toArray, List.getElem_cons_zero, List.getElem_cons_succ, List.setIfInBounds_toArray, List.set_cons_zero, List.set_cons_succ]
      refine wpAnyH_ready (rs := [6]) (by kernel_rfl) (by simp) ?_
      refine AllReadyH.cons (o := _) rfl (fun K0 hK0 => ?_) AllReadyH.nil
      go_simp
      go_at_call 103
      refine (CH.out _).mono ?_
      rintro e wz1v7 ⟨rfl, bz1v7⟩
      refine hK0.out _ _ (K.out _ (thenB (Below.refl _ _).drew bz1v7)) (fun hHeld => ?_)
      clear hK0 K0
      try simp only [Act.put, List.getElem_toArray, List.getElem_cons_zero, List.getElem_cons_succ, List.setIfInBounds_toArray, List.set_cons_zero, List.set_cons_succ]
      refine wpAnyH_done (by kernel_rfl) ?_ _
      clear K hHeld
      replace VP := VP.kept (thenB (Below.refl _ _).drew bz1v7)
      replace B := thenB B (thenB (Below.refl _ _).drew bz1v7)
      have Sz1 := ((thenB (Below.refl _ _).drew bz1v7)).size
      clear bz1v7
      obtain ⟨s_VP, f_VP, z_VP⟩ := VP.open
      have Bo := B
      clear s_VP f_VP z_VP
      replace VP := Hid.mk VP
      replace B := Hid.mk B
      clear Bo
      cases c
      · have hn1 := hst.out.2 rfl
        replace hn1 := Hid.mk hn1
        go_wp2
        go_roundw
        case rel => exact ⟨k + 1, by omega, hn1.out, by go_num, VP.out, B.out⟩
        case measure => simp [intOf]; omega
      · have hn1 := hst.out.1 rfl
        replace hn1 := Hid.mk hn1
        go_wp2
        go_ret
        exact ⟨ret_int (by rw [← hV.out, hn1.out, if_pos (by omega)]), B.out⟩
    · have hz := fstK_le xs f t r u v
      have hkn : ¬ fstK xs f t r u v < xs.length := by omega
      replace hkn := Hid.mk hkn
      clear hz hkf
      go_wp2
      go_ret
      exact ⟨ret_int (by rw [← hV.out, if_neg hkn.out]), B⟩

theorem build_rr0 (k : Int) (w : World) : (Instr.build 36 #[(0, .int .i64 k)]).run Tryd.prog w = .ok (.agg #[.int .i64 k, .int .i64 0, .int .i64 0, .int .i64 0, .int .i64 0, .int .i64 0, .int .i64 0, .int .i64 0, .int .i64 0, .int .i64 0, .int .i64 0, .int .i64 0, .int .i64 0]) w := run_build w 36 _ _ (by kernel_rfl)

theorem build_rr1 (k : Int) (x : R11) (w : World) : (Instr.build 36 #[(1, .int .i64 k), (2, .agg #[.int .i64 x.s.a, .int .i64 x.s.b, .int .i64 x.s.c, .int .i64 x.s.d, .int .i64 x.s.e, .int .i64 x.s.f, .int .i64 x.s.g, .int .i64 x.s.h, .int .i64 x.s.r, .int .i64 x.p, .int .i64 x.q])]).run Tryd.prog w = .ok (.agg #[.int .i64 0, .int .i64 k, .int .i64 x.s.a, .int .i64 x.s.b, .int .i64 x.s.c, .int .i64 x.s.d, .int .i64 x.s.e, .int .i64 x.s.f, .int .i64 x.s.g, .int .i64 x.s.h, .int .i64 x.s.r, .int .i64 x.p, .int .i64 x.q]) w := run_build w 36 _ _ (by kernel_rfl)

theorem build_ir0 (k : Int) (w : World) : (Instr.build 39 #[(0, .int .i64 k)]).run Tryd.prog w = .ok (.agg #[.int .i64 k, .int .i64 0]) w := run_build w 39 _ _ (by kernel_rfl)

theorem build_ir1 (k : Int) (w : World) : (Instr.build 39 #[(1, .int .i64 k)]).run Tryd.prog w = .ok (.agg #[.int .i64 0, .int .i64 k]) w := run_build w 39 _ _ (by kernel_rfl)


set_option maxRecDepth 20000 in
set_option maxHeartbeats 4000000 in
theorem specFirstRule_ok (a : Option Addr) (n ca : Nat) (xs : List R11) (f t r l u v : Int) (s : Option Addr) (m cs : Nat) (w : World) (ha : RdRule w a xs) (hn : xs.length = n) (hx : n ≤ maxLen) :
    Calls Tryd.prog 17 #[.slice a n ca, .agg #[.int .i64 f, .int .i64 t, .int .i64 r, .int .i64 l, .int .i64 u, .int .i64 v, .slice s m cs]] w fun e w' => e = .returned (.agg #[.int .i64 (frC xs f t r l u v m), .int .i64 (frA xs f t r l u v m), .int .i64 (frR xs f t r l u v m).s.a, .int .i64 (frR xs f t r l u v m).s.b, .int .i64 (frR xs f t r l u v m).s.c, .int .i64 (frR xs f t r l u v m).s.d, .int .i64 (frR xs f t r l u v m).s.e, .int .i64 (frR xs f t r l u v m).s.f, .int .i64 (frR xs f t r l u v m).s.g, .int .i64 (frR xs f t r l u v m).s.h, .int .i64 (frR xs f t r l u v m).s.r, .int .i64 (frR xs f t r l u v m).p, .int .i64 (frR xs f t r l u v m).q]) ∧ Below w.heap.size w w' := by
  have CA := Hid.mk (fun w h => l4Asked_ok a n ca xs f t r l u v s m cs w h hn hx)
  have CF := Hid.mk (fun w h => l4First_ok a n ca xs f t r l u v s m cs w h hn hx)
  have q0 := build_rr0
  have q1 := build_rr1
  have q2 := build_ir0
  have q3 := build_ir1
  rcases fr_ways xs f t r l u v m with ⟨h1, _, e1, e2, e3, e4⟩ | ⟨h1, h2, e1, e2, e3, e4⟩ | ⟨h1, h2, e1, e2, e3, e4⟩
  · rw [e1, e2, e3]
    clear e1 e2 e3 e4
    go_enter Tryd.func17, Tryd.ntmps17
    have B := Below.refl w.heap.size w
    generalize asC xs f t r l u v m = kk at *
    replace ha := ha.kept (belowA w (.cells #[.int .i64 f, .int .i64 t, .int .i64 r, .int .i64 l, .int .i64 u, .int .i64 v, .slice s m cs] 26))
    replace B := thenB B (belowA w (.cells #[.int .i64 f, .int .i64 t, .int .i64 r, .int .i64 l, .int .i64 u, .int .i64 v, .slice s m cs] 26))
    have VP := V.new w [.int .i64 f, .int .i64 t, .int .i64 r, .int .i64 l, .int .i64 u, .int .i64 v, .slice s m cs] 26
    replace VP := VP.kept (belowA (w.alloc (.cells #[.int .i64 f, .int .i64 t, .int .i64 r, .int .i64 l, .int .i64 u, .int .i64 v, .slice s m cs] 26)) (.cells #[.int .i64 0, .int .i64 0, .int .i64 0, .int .i64 0, .int .i64 0, .int .i64 0, .int .i64 0, .int .i64 0, .int .i64 0, .int .i64 0, .int .i64 0, .int .i64 0, .int .i64 0] 36))
    replace ha := ha.kept (belowA (w.alloc (.cells #[.int .i64 f, .int .i64 t, .int .i64 r, .int .i64 l, .int .i64 u, .int .i64 v, .slice s m cs] 26)) (.cells #[.int .i64 0, .int .i64 0, .int .i64 0, .int .i64 0, .int .i64 0, .int .i64 0, .int .i64 0, .int .i64 0, .int .i64 0, .int .i64 0, .int .i64 0, .int .i64 0, .int .i64 0] 36))
    replace B := thenB B (belowA (w.alloc (.cells #[.int .i64 f, .int .i64 t, .int .i64 r, .int .i64 l, .int .i64 u, .int .i64 v, .slice s m cs] 26)) (.cells #[.int .i64 0, .int .i64 0, .int .i64 0, .int .i64 0, .int .i64 0, .int .i64 0, .int .i64 0, .int .i64 0, .int .i64 0, .int .i64 0, .int .i64 0, .int .i64 0, .int .i64 0] 36))
    have VR : V ((w.alloc (.cells #[.int .i64 f, .int .i64 t, .int .i64 r, .int .i64 l, .int .i64 u, .int .i64 v, .slice s m cs] 26)).alloc (.cells #[.int .i64 0, .int .i64 0, .int .i64 0, .int .i64 0, .int .i64 0, .int .i64 0, .int .i64 0, .int .i64 0, .int .i64 0, .int .i64 0, .int .i64 0, .int .i64 0, .int .i64 0] 36)) (w.heap.size + 1) [.int .i64 0, .int .i64 0, .int .i64 0, .int .i64 0, .int .i64 0, .int .i64 0, .int .i64 0, .int .i64 0, .int .i64 0, .int .i64 0, .int .i64 0, .int .i64 0, .int .i64 0] := V.newAt _ _ _ _ (by simp)
    obtain ⟨s_VP, f_VP, z_VP⟩ := VP.open
    obtain ⟨s_VR, f_VR, z_VR⟩ := VR.open
    go_wp2_with fail
    refine (CA.out _ ha).mono ?_
    rintro e w1 ⟨rfl, b1⟩
    clear s_VP f_VP z_VP s_VR f_VR z_VR
    have S1 := b1.size
    simp only [World.size_alloc] at S1
    replace VP := VP.kept b1
    replace VR := VR.kept b1
    replace ha := ha.kept b1
    replace B := thenB B b1
    clear b1
    obtain ⟨s_VP, f_VP, z_VP⟩ := VP.open
    obtain ⟨s_VR, f_VR, z_VR⟩ := VR.open
    have Bo := B
    clear s_VP f_VP z_VP s_VR f_VR z_VR
    have VF := Hid.mk (VR.filled [.int .i64 kk, .int .i64 0, .int .i64 0, .int .i64 0, .int .i64 0, .int .i64 0, .int .i64 0, .int .i64 0, .int .i64 0, .int .i64 0, .int .i64 0, .int .i64 0, .int .i64 0] rfl)
    have BR := belowCells B (show w.heap.size ≤ w.heap.size + 1 by simp) 0 [.int .i64 kk, .int .i64 0, .int .i64 0, .int .i64 0, .int .i64 0, .int .i64 0, .int .i64 0, .int .i64 0, .int .i64 0, .int .i64 0, .int .i64 0, .int .i64 0, .int .i64 0]
    have HT := Hid.mk VR.there
    replace BR := Hid.mk BR
    obtain ⟨s_VP, f_VP, z_VP⟩ := VP.open
    obtain ⟨s_VR, f_VR, z_VR⟩ := VR.open
    go_wp2_with (refine wpList_store_mid rfl 36 _ _ rfl (w.heap.size + 1) 0 #[.int .i64 kk, .int .i64 0, .int .i64 0, .int .i64 0, .int .i64 0, .int .i64 0, .int .i64 0, .int .i64 0, .int .i64 0, .int .i64 0, .int .i64 0, .int .i64 0, .int .i64 0] rfl rfl HT.out (by kernel_rfl) (by kernel_rfl) ?_)
    refine bodyPost_ret (v := .agg #[.int .i64 kk, .int .i64 0, .int .i64 0, .int .i64 0, .int .i64 0, .int .i64 0, .int .i64 0, .int .i64 0, .int .i64 0, .int .i64 0, .int .i64 0, .int .i64 0, .int .i64 0]) (results_row Tryd.results17 _ _ (w.heap.size + 1) [.int .i64 kk, .int .i64 0, .int .i64 0, .int .i64 0, .int .i64 0, .int .i64 0, .int .i64 0, .int .i64 0, .int .i64 0, .int .i64 0, .int .i64 0, .int .i64 0, .int .i64 0] _ rfl VF.out Tryd.underlying36 rfl (by kernel_rfl)) rfl ⟨rfl, BR.out⟩
  · rw [e1, e2, e3]
    rw [if_neg h2] at CF
    rw [h1] at CA
    clear e1 e2 e3 e4
    go_enter Tryd.func17, Tryd.ntmps17
    have B := Below.refl w.heap.size w
    replace ha := ha.kept (belowA w (.cells #[.int .i64 f, .int .i64 t, .int .i64 r, .int .i64 l, .int .i64 u, .int .i64 v, .slice s m cs] 26))
    replace B := thenB B (belowA w (.cells #[.int .i64 f, .int .i64 t, .int .i64 r, .int .i64 l, .int .i64 u, .int .i64 v, .slice s m cs] 26))
    have VP := V.new w [.int .i64 f, .int .i64 t, .int .i64 r, .int .i64 l, .int .i64 u, .int .i64 v, .slice s m cs] 26
    replace VP := VP.kept (belowA (w.alloc (.cells #[.int .i64 f, .int .i64 t, .int .i64 r, .int .i64 l, .int .i64 u, .int .i64 v, .slice s m cs] 26)) (.cells #[.int .i64 0, .int .i64 0, .int .i64 0, .int .i64 0, .int .i64 0, .int .i64 0, .int .i64 0, .int .i64 0, .int .i64 0, .int .i64 0, .int .i64 0, .int .i64 0, .int .i64 0] 36))
    replace ha := ha.kept (belowA (w.alloc (.cells #[.int .i64 f, .int .i64 t, .int .i64 r, .int .i64 l, .int .i64 u, .int .i64 v, .slice s m cs] 26)) (.cells #[.int .i64 0, .int .i64 0, .int .i64 0, .int .i64 0, .int .i64 0, .int .i64 0, .int .i64 0, .int .i64 0, .int .i64 0, .int .i64 0, .int .i64 0, .int .i64 0, .int .i64 0] 36))
    replace B := thenB B (belowA (w.alloc (.cells #[.int .i64 f, .int .i64 t, .int .i64 r, .int .i64 l, .int .i64 u, .int .i64 v, .slice s m cs] 26)) (.cells #[.int .i64 0, .int .i64 0, .int .i64 0, .int .i64 0, .int .i64 0, .int .i64 0, .int .i64 0, .int .i64 0, .int .i64 0, .int .i64 0, .int .i64 0, .int .i64 0, .int .i64 0] 36))
    have VR : V ((w.alloc (.cells #[.int .i64 f, .int .i64 t, .int .i64 r, .int .i64 l, .int .i64 u, .int .i64 v, .slice s m cs] 26)).alloc (.cells #[.int .i64 0, .int .i64 0, .int .i64 0, .int .i64 0, .int .i64 0, .int .i64 0, .int .i64 0, .int .i64 0, .int .i64 0, .int .i64 0, .int .i64 0, .int .i64 0, .int .i64 0] 36)) (w.heap.size + 1) [.int .i64 0, .int .i64 0, .int .i64 0, .int .i64 0, .int .i64 0, .int .i64 0, .int .i64 0, .int .i64 0, .int .i64 0, .int .i64 0, .int .i64 0, .int .i64 0, .int .i64 0] := V.newAt _ _ _ _ (by simp)
    obtain ⟨s_VP, f_VP, z_VP⟩ := VP.open
    obtain ⟨s_VR, f_VR, z_VR⟩ := VR.open
    go_wp2_with fail
    refine (CA.out _ ha).mono ?_
    rintro e w11 ⟨rfl, b11⟩
    clear s_VP f_VP z_VP s_VR f_VR z_VR
    have S11 := b11.size
    simp only [World.size_alloc] at S11
    replace VP := VP.kept b11
    replace VR := VR.kept b11
    replace ha := ha.kept b11
    replace B := thenB B b11
    clear b11
    obtain ⟨s_VP, f_VP, z_VP⟩ := VP.open
    obtain ⟨s_VR, f_VR, z_VR⟩ := VR.open
    have Bo := B
    go_wp2_with fail
    refine (CF.out _ ha).mono ?_
    rintro e w12 ⟨rfl, b12⟩
    clear s_VP f_VP z_VP s_VR f_VR z_VR
    have S12 := b12.size
    replace VP := VP.kept b12
    replace VR := VR.kept b12
    replace ha := ha.kept b12
    replace B := thenB B b12
    clear b12
    obtain ⟨s_VP, f_VP, z_VP⟩ := VP.open
    obtain ⟨s_VR, f_VR, z_VR⟩ := VR.open
    have Bo := B
    clear s_VP f_VP z_VP s_VR f_VR z_VR
    have VF := Hid.mk (VR.filled [.int .i64 4, .int .i64 0, .int .i64 0, .int .i64 0, .int .i64 0, .int .i64 0, .int .i64 0, .int .i64 0, .int .i64 0, .int .i64 0, .int .i64 0, .int .i64 0, .int .i64 0] rfl)
    have BR := belowCells B (show w.heap.size ≤ w.heap.size + 1 by simp) 0 [.int .i64 4, .int .i64 0, .int .i64 0, .int .i64 0, .int .i64 0, .int .i64 0, .int .i64 0, .int .i64 0, .int .i64 0, .int .i64 0, .int .i64 0, .int .i64 0, .int .i64 0]
    have HT := Hid.mk VR.there
    replace BR := Hid.mk BR
    obtain ⟨s_VP, f_VP, z_VP⟩ := VP.open
    obtain ⟨s_VR, f_VR, z_VR⟩ := VR.open
    go_wp2_with (refine wpList_store_mid rfl 36 _ _ rfl (w.heap.size + 1) 0 #[.int .i64 4, .int .i64 0, .int .i64 0, .int .i64 0, .int .i64 0, .int .i64 0, .int .i64 0, .int .i64 0, .int .i64 0, .int .i64 0, .int .i64 0, .int .i64 0, .int .i64 0] rfl rfl HT.out (by kernel_rfl) (by kernel_rfl) ?_)
    refine bodyPost_ret (v := .agg #[.int .i64 4, .int .i64 0, .int .i64 0, .int .i64 0, .int .i64 0, .int .i64 0, .int .i64 0, .int .i64 0, .int .i64 0, .int .i64 0, .int .i64 0, .int .i64 0, .int .i64 0]) (results_row Tryd.results17 _ _ (w.heap.size + 1) [.int .i64 4, .int .i64 0, .int .i64 0, .int .i64 0, .int .i64 0, .int .i64 0, .int .i64 0, .int .i64 0, .int .i64 0, .int .i64 0, .int .i64 0, .int .i64 0, .int .i64 0] _ rfl VF.out Tryd.underlying36 rfl (by kernel_rfl)) rfl ⟨rfl, BR.out⟩
  · rw [e1, e2, e3]
    obtain ⟨K, hK⟩ : ∃ K, fstK xs f t r u v = K := ⟨_, rfl⟩
    rw [hK] at h2 CF ⊢
    obtain ⟨x, hx1⟩ : ∃ x, xs.getD K zRule = x := ⟨_, rfl⟩
    rw [hx1]
    rw [if_pos h2] at CF
    rw [h1] at CA
    clear e1 e2 e3 e4
    go_enter Tryd.func17, Tryd.ntmps17
    have B := Below.refl w.heap.size w
    replace ha := ha.kept (belowA w (.cells #[.int .i64 f, .int .i64 t, .int .i64 r, .int .i64 l, .int .i64 u, .int .i64 v, .slice s m cs] 26))
    replace B := thenB B (belowA w (.cells #[.int .i64 f, .int .i64 t, .int .i64 r, .int .i64 l, .int .i64 u, .int .i64 v, .slice s m cs] 26))
    have VP := V.new w [.int .i64 f, .int .i64 t, .int .i64 r, .int .i64 l, .int .i64 u, .int .i64 v, .slice s m cs] 26
    replace VP := VP.kept (belowA (w.alloc (.cells #[.int .i64 f, .int .i64 t, .int .i64 r, .int .i64 l, .int .i64 u, .int .i64 v, .slice s m cs] 26)) (.cells #[.int .i64 0, .int .i64 0, .int .i64 0, .int .i64 0, .int .i64 0, .int .i64 0, .int .i64 0, .int .i64 0, .int .i64 0, .int .i64 0, .int .i64 0, .int .i64 0, .int .i64 0] 36))
    replace ha := ha.kept (belowA (w.alloc (.cells #[.int .i64 f, .int .i64 t, .int .i64 r, .int .i64 l, .int .i64 u, .int .i64 v, .slice s m cs] 26)) (.cells #[.int .i64 0, .int .i64 0, .int .i64 0, .int .i64 0, .int .i64 0, .int .i64 0, .int .i64 0, .int .i64 0, .int .i64 0, .int .i64 0, .int .i64 0, .int .i64 0, .int .i64 0] 36))
    replace B := thenB B (belowA (w.alloc (.cells #[.int .i64 f, .int .i64 t, .int .i64 r, .int .i64 l, .int .i64 u, .int .i64 v, .slice s m cs] 26)) (.cells #[.int .i64 0, .int .i64 0, .int .i64 0, .int .i64 0, .int .i64 0, .int .i64 0, .int .i64 0, .int .i64 0, .int .i64 0, .int .i64 0, .int .i64 0, .int .i64 0, .int .i64 0] 36))
    have VR : V ((w.alloc (.cells #[.int .i64 f, .int .i64 t, .int .i64 r, .int .i64 l, .int .i64 u, .int .i64 v, .slice s m cs] 26)).alloc (.cells #[.int .i64 0, .int .i64 0, .int .i64 0, .int .i64 0, .int .i64 0, .int .i64 0, .int .i64 0, .int .i64 0, .int .i64 0, .int .i64 0, .int .i64 0, .int .i64 0, .int .i64 0] 36)) (w.heap.size + 1) [.int .i64 0, .int .i64 0, .int .i64 0, .int .i64 0, .int .i64 0, .int .i64 0, .int .i64 0, .int .i64 0, .int .i64 0, .int .i64 0, .int .i64 0, .int .i64 0, .int .i64 0] := V.newAt _ _ _ _ (by simp)
    obtain ⟨s_VP, f_VP, z_VP⟩ := VP.open
    obtain ⟨s_VR, f_VR, z_VR⟩ := VR.open
    go_wp2_with fail
    refine (CA.out _ ha).mono ?_
    rintro e w21 ⟨rfl, b21⟩
    clear s_VP f_VP z_VP s_VR f_VR z_VR
    have S21 := b21.size
    simp only [World.size_alloc] at S21
    replace VP := VP.kept b21
    replace VR := VR.kept b21
    replace ha := ha.kept b21
    replace B := thenB B b21
    clear b21
    obtain ⟨s_VP, f_VP, z_VP⟩ := VP.open
    obtain ⟨s_VR, f_VR, z_VR⟩ := VR.open
    have Bo := B
    go_wp2_with fail
    refine (CF.out _ ha).mono ?_
    rintro e w22 ⟨rfl, b22⟩
    clear s_VP f_VP z_VP s_VR f_VR z_VR
    have S22 := b22.size
    replace VP := VP.kept b22
    replace VR := VR.kept b22
    replace ha := ha.kept b22
    replace B := thenB B b22
    clear b22
    obtain ⟨s_VP, f_VP, z_VP⟩ := VP.open
    obtain ⟨s_VR, f_VR, z_VR⟩ := VR.open
    have Bo := B
    rcases ha with ha | ⟨b1, o1, rfl, hca⟩
    · simp [ha] at h2
    have HQ := RdRule.cells hca K h2 x hx1
    have hk1 : (K : Int) < (n : Int) := by omega
    clear hca hx1 h2
    obtain ⟨p0, p1, p2, p3, p4, p5, p6, p7, p8, p9, p10⟩ := HQ
    have hk0 : ¬ (K : Int) < 0 := by omega
    clear s_VP f_VP z_VP s_VR f_VR z_VR
    have VF := Hid.mk (VR.filled [.int .i64 0, .int .i64 K, .int .i64 x.s.a, .int .i64 x.s.b, .int .i64 x.s.c, .int .i64 x.s.d, .int .i64 x.s.e, .int .i64 x.s.f, .int .i64 x.s.g, .int .i64 x.s.h, .int .i64 x.s.r, .int .i64 x.p, .int .i64 x.q] rfl)
    have BR := belowCells B (show w.heap.size ≤ w.heap.size + 1 by simp) 0 [.int .i64 0, .int .i64 K, .int .i64 x.s.a, .int .i64 x.s.b, .int .i64 x.s.c, .int .i64 x.s.d, .int .i64 x.s.e, .int .i64 x.s.f, .int .i64 x.s.g, .int .i64 x.s.h, .int .i64 x.s.r, .int .i64 x.p, .int .i64 x.q]
    have HT := Hid.mk VR.there
    replace BR := Hid.mk BR
    obtain ⟨s_VP, f_VP, z_VP⟩ := VP.open
    obtain ⟨s_VR, f_VR, z_VR⟩ := VR.open
    go_wp2_with (refine wpList_store_mid rfl 36 _ _ rfl (w.heap.size + 1) 0 #[.int .i64 0, .int .i64 K, .int .i64 x.s.a, .int .i64 x.s.b, .int .i64 x.s.c, .int .i64 x.s.d, .int .i64 x.s.e, .int .i64 x.s.f, .int .i64 x.s.g, .int .i64 x.s.h, .int .i64 x.s.r, .int .i64 x.p, .int .i64 x.q] rfl rfl HT.out (by kernel_rfl) (by kernel_rfl) ?_)
    refine bodyPost_ret (v := .agg #[.int .i64 0, .int .i64 K, .int .i64 x.s.a, .int .i64 x.s.b, .int .i64 x.s.c, .int .i64 x.s.d, .int .i64 x.s.e, .int .i64 x.s.f, .int .i64 x.s.g, .int .i64 x.s.h, .int .i64 x.s.r, .int .i64 x.p, .int .i64 x.q]) (results_row Tryd.results17 _ _ (w.heap.size + 1) [.int .i64 0, .int .i64 K, .int .i64 x.s.a, .int .i64 x.s.b, .int .i64 x.s.c, .int .i64 x.s.d, .int .i64 x.s.e, .int .i64 x.s.f, .int .i64 x.s.g, .int .i64 x.s.h, .int .i64 x.s.r, .int .i64 x.p, .int .i64 x.q] _ rfl VF.out Tryd.underlying36 rfl (by kernel_rfl)) rfl ⟨rfl, BR.out⟩

set_option maxRecDepth 20000 in
set_option maxHeartbeats 4000000 in
theorem specActionFor_ok (a : Option Addr) (n ca : Nat) (xs : List R11) (f t r l u v : Int) (s : Option Addr) (m cs : Nat) (w : World) (ha : RdRule w a xs) (hn : xs.length = n) (hx : n ≤ maxLen) :
    Calls Tryd.prog 35 #[.slice a n ca, .agg #[.int .i64 f, .int .i64 t, .int .i64 r, .int .i64 l, .int .i64 u, .int .i64 v, .slice s m cs]] w fun e w' => e = .returned (.agg #[.int .i64 (asC xs f t r l u v m), .int .i64 (afV xs f t r l u v m)]) ∧ Below w.heap.size w w' := by
  have CA := Hid.mk (fun w h => l4Asked_ok a n ca xs f t r l u v s m cs w h hn hx)
  have CF := Hid.mk (fun w h => l4First_ok a n ca xs f t r l u v s m cs w h hn hx)
  have q0 := build_rr0
  have q1 := build_rr1
  have q2 := build_ir0
  have q3 := build_ir1
  rcases fr_ways xs f t r l u v m with ⟨h1, _, e1, e2, e3, e4⟩ | ⟨h1, h2, e1, e2, e3, e4⟩ | ⟨h1, h2, e1, e2, e3, e4⟩
  · rw [e4]
    clear e1 e2 e3 e4
    go_enter Tryd.func35, Tryd.ntmps35
    have B := Below.refl w.heap.size w
    generalize asC xs f t r l u v m = kk at *
    replace ha := ha.kept (belowA w (.cells #[.int .i64 f, .int .i64 t, .int .i64 r, .int .i64 l, .int .i64 u, .int .i64 v, .slice s m cs] 26))
    replace B := thenB B (belowA w (.cells #[.int .i64 f, .int .i64 t, .int .i64 r, .int .i64 l, .int .i64 u, .int .i64 v, .slice s m cs] 26))
    have VP := V.new w [.int .i64 f, .int .i64 t, .int .i64 r, .int .i64 l, .int .i64 u, .int .i64 v, .slice s m cs] 26
    replace VP := VP.kept (belowA (w.alloc (.cells #[.int .i64 f, .int .i64 t, .int .i64 r, .int .i64 l, .int .i64 u, .int .i64 v, .slice s m cs] 26)) (.cells #[.int .i64 0, .int .i64 0] 39))
    replace ha := ha.kept (belowA (w.alloc (.cells #[.int .i64 f, .int .i64 t, .int .i64 r, .int .i64 l, .int .i64 u, .int .i64 v, .slice s m cs] 26)) (.cells #[.int .i64 0, .int .i64 0] 39))
    replace B := thenB B (belowA (w.alloc (.cells #[.int .i64 f, .int .i64 t, .int .i64 r, .int .i64 l, .int .i64 u, .int .i64 v, .slice s m cs] 26)) (.cells #[.int .i64 0, .int .i64 0] 39))
    have VR : V ((w.alloc (.cells #[.int .i64 f, .int .i64 t, .int .i64 r, .int .i64 l, .int .i64 u, .int .i64 v, .slice s m cs] 26)).alloc (.cells #[.int .i64 0, .int .i64 0] 39)) (w.heap.size + 1) [.int .i64 0, .int .i64 0] := V.newAt _ _ _ _ (by simp)
    obtain ⟨s_VP, f_VP, z_VP⟩ := VP.open
    obtain ⟨s_VR, f_VR, z_VR⟩ := VR.open
    go_wp2_with fail
    refine (CA.out _ ha).mono ?_
    rintro e w1 ⟨rfl, b1⟩
    clear s_VP f_VP z_VP s_VR f_VR z_VR
    have S1 := b1.size
    simp only [World.size_alloc] at S1
    replace VP := VP.kept b1
    replace VR := VR.kept b1
    replace ha := ha.kept b1
    replace B := thenB B b1
    clear b1
    obtain ⟨s_VP, f_VP, z_VP⟩ := VP.open
    obtain ⟨s_VR, f_VR, z_VR⟩ := VR.open
    have Bo := B
    clear s_VP f_VP z_VP s_VR f_VR z_VR
    have VF := Hid.mk (VR.filled [.int .i64 kk, .int .i64 0] rfl)
    have BR := belowCells B (show w.heap.size ≤ w.heap.size + 1 by simp) 0 [.int .i64 kk, .int .i64 0]
    have HT := Hid.mk VR.there
    replace BR := Hid.mk BR
    obtain ⟨s_VP, f_VP, z_VP⟩ := VP.open
    obtain ⟨s_VR, f_VR, z_VR⟩ := VR.open
    go_wp2_with (refine wpList_store_mid rfl 39 _ _ rfl (w.heap.size + 1) 0 #[.int .i64 kk, .int .i64 0] rfl rfl HT.out (by kernel_rfl) (by kernel_rfl) ?_)
    refine bodyPost_ret (v := .agg #[.int .i64 kk, .int .i64 0]) (results_row Tryd.results35 _ _ (w.heap.size + 1) [.int .i64 kk, .int .i64 0] _ rfl VF.out Tryd.underlying39 rfl (by kernel_rfl)) rfl ⟨rfl, BR.out⟩
  · rw [e4]
    rw [if_neg h2] at CF
    rw [h1] at CA
    rw [h1]
    clear e1 e2 e3 e4
    go_enter Tryd.func35, Tryd.ntmps35
    have B := Below.refl w.heap.size w
    replace ha := ha.kept (belowA w (.cells #[.int .i64 f, .int .i64 t, .int .i64 r, .int .i64 l, .int .i64 u, .int .i64 v, .slice s m cs] 26))
    replace B := thenB B (belowA w (.cells #[.int .i64 f, .int .i64 t, .int .i64 r, .int .i64 l, .int .i64 u, .int .i64 v, .slice s m cs] 26))
    have VP := V.new w [.int .i64 f, .int .i64 t, .int .i64 r, .int .i64 l, .int .i64 u, .int .i64 v, .slice s m cs] 26
    replace VP := VP.kept (belowA (w.alloc (.cells #[.int .i64 f, .int .i64 t, .int .i64 r, .int .i64 l, .int .i64 u, .int .i64 v, .slice s m cs] 26)) (.cells #[.int .i64 0, .int .i64 0] 39))
    replace ha := ha.kept (belowA (w.alloc (.cells #[.int .i64 f, .int .i64 t, .int .i64 r, .int .i64 l, .int .i64 u, .int .i64 v, .slice s m cs] 26)) (.cells #[.int .i64 0, .int .i64 0] 39))
    replace B := thenB B (belowA (w.alloc (.cells #[.int .i64 f, .int .i64 t, .int .i64 r, .int .i64 l, .int .i64 u, .int .i64 v, .slice s m cs] 26)) (.cells #[.int .i64 0, .int .i64 0] 39))
    have VR : V ((w.alloc (.cells #[.int .i64 f, .int .i64 t, .int .i64 r, .int .i64 l, .int .i64 u, .int .i64 v, .slice s m cs] 26)).alloc (.cells #[.int .i64 0, .int .i64 0] 39)) (w.heap.size + 1) [.int .i64 0, .int .i64 0] := V.newAt _ _ _ _ (by simp)
    obtain ⟨s_VP, f_VP, z_VP⟩ := VP.open
    obtain ⟨s_VR, f_VR, z_VR⟩ := VR.open
    go_wp2_with fail
    refine (CA.out _ ha).mono ?_
    rintro e w11 ⟨rfl, b11⟩
    clear s_VP f_VP z_VP s_VR f_VR z_VR
    have S11 := b11.size
    simp only [World.size_alloc] at S11
    replace VP := VP.kept b11
    replace VR := VR.kept b11
    replace ha := ha.kept b11
    replace B := thenB B b11
    clear b11
    obtain ⟨s_VP, f_VP, z_VP⟩ := VP.open
    obtain ⟨s_VR, f_VR, z_VR⟩ := VR.open
    have Bo := B
    go_wp2_with fail
    refine (CF.out _ ha).mono ?_
    rintro e w12 ⟨rfl, b12⟩
    clear s_VP f_VP z_VP s_VR f_VR z_VR
    have S12 := b12.size
    replace VP := VP.kept b12
    replace VR := VR.kept b12
    replace ha := ha.kept b12
    replace B := thenB B b12
    clear b12
    obtain ⟨s_VP, f_VP, z_VP⟩ := VP.open
    obtain ⟨s_VR, f_VR, z_VR⟩ := VR.open
    have Bo := B
    clear s_VP f_VP z_VP s_VR f_VR z_VR
    have VF := Hid.mk (VR.filled [.int .i64 0, .int .i64 1] rfl)
    have BR := belowCells B (show w.heap.size ≤ w.heap.size + 1 by simp) 0 [.int .i64 0, .int .i64 1]
    have HT := Hid.mk VR.there
    replace BR := Hid.mk BR
    obtain ⟨s_VP, f_VP, z_VP⟩ := VP.open
    obtain ⟨s_VR, f_VR, z_VR⟩ := VR.open
    go_wp2_with (refine wpList_store_mid rfl 39 _ _ rfl (w.heap.size + 1) 0 #[.int .i64 0, .int .i64 1] rfl rfl HT.out (by kernel_rfl) (by kernel_rfl) ?_)
    refine bodyPost_ret (v := .agg #[.int .i64 0, .int .i64 1]) (results_row Tryd.results35 _ _ (w.heap.size + 1) [.int .i64 0, .int .i64 1] _ rfl VF.out Tryd.underlying39 rfl (by kernel_rfl)) rfl ⟨rfl, BR.out⟩
  · rw [e4]
    obtain ⟨K, hK⟩ : ∃ K, fstK xs f t r u v = K := ⟨_, rfl⟩
    rw [hK] at h2 CF ⊢
    obtain ⟨x, hx1⟩ : ∃ x, xs.getD K zRule = x := ⟨_, rfl⟩
    rw [hx1]
    rw [if_pos h2] at CF
    rw [h1] at CA
    rw [h1]
    clear e1 e2 e3 e4
    go_enter Tryd.func35, Tryd.ntmps35
    have B := Below.refl w.heap.size w
    replace ha := ha.kept (belowA w (.cells #[.int .i64 f, .int .i64 t, .int .i64 r, .int .i64 l, .int .i64 u, .int .i64 v, .slice s m cs] 26))
    replace B := thenB B (belowA w (.cells #[.int .i64 f, .int .i64 t, .int .i64 r, .int .i64 l, .int .i64 u, .int .i64 v, .slice s m cs] 26))
    have VP := V.new w [.int .i64 f, .int .i64 t, .int .i64 r, .int .i64 l, .int .i64 u, .int .i64 v, .slice s m cs] 26
    replace VP := VP.kept (belowA (w.alloc (.cells #[.int .i64 f, .int .i64 t, .int .i64 r, .int .i64 l, .int .i64 u, .int .i64 v, .slice s m cs] 26)) (.cells #[.int .i64 0, .int .i64 0] 39))
    replace ha := ha.kept (belowA (w.alloc (.cells #[.int .i64 f, .int .i64 t, .int .i64 r, .int .i64 l, .int .i64 u, .int .i64 v, .slice s m cs] 26)) (.cells #[.int .i64 0, .int .i64 0] 39))
    replace B := thenB B (belowA (w.alloc (.cells #[.int .i64 f, .int .i64 t, .int .i64 r, .int .i64 l, .int .i64 u, .int .i64 v, .slice s m cs] 26)) (.cells #[.int .i64 0, .int .i64 0] 39))
    have VR : V ((w.alloc (.cells #[.int .i64 f, .int .i64 t, .int .i64 r, .int .i64 l, .int .i64 u, .int .i64 v, .slice s m cs] 26)).alloc (.cells #[.int .i64 0, .int .i64 0] 39)) (w.heap.size + 1) [.int .i64 0, .int .i64 0] := V.newAt _ _ _ _ (by simp)
    obtain ⟨s_VP, f_VP, z_VP⟩ := VP.open
    obtain ⟨s_VR, f_VR, z_VR⟩ := VR.open
    go_wp2_with fail
    refine (CA.out _ ha).mono ?_
    rintro e w21 ⟨rfl, b21⟩
    clear s_VP f_VP z_VP s_VR f_VR z_VR
    have S21 := b21.size
    simp only [World.size_alloc] at S21
    replace VP := VP.kept b21
    replace VR := VR.kept b21
    replace ha := ha.kept b21
    replace B := thenB B b21
    clear b21
    obtain ⟨s_VP, f_VP, z_VP⟩ := VP.open
    obtain ⟨s_VR, f_VR, z_VR⟩ := VR.open
    have Bo := B
    go_wp2_with fail
    refine (CF.out _ ha).mono ?_
    rintro e w22 ⟨rfl, b22⟩
    clear s_VP f_VP z_VP s_VR f_VR z_VR
    have S22 := b22.size
    replace VP := VP.kept b22
    replace VR := VR.kept b22
    replace ha := ha.kept b22
    replace B := thenB B b22
    clear b22
    obtain ⟨s_VP, f_VP, z_VP⟩ := VP.open
    obtain ⟨s_VR, f_VR, z_VR⟩ := VR.open
    have Bo := B
    rcases ha with ha | ⟨b1, o1, rfl, hca⟩
    · simp [ha] at h2
    have HQ := RdRule.cells hca K h2 x hx1
    have hk1 : (K : Int) < (n : Int) := by omega
    clear hca hx1 h2
    obtain ⟨p0, p1, p2, p3, p4, p5, p6, p7, p8, p9, p10⟩ := HQ
    have hk0 : ¬ (K : Int) < 0 := by omega
    clear s_VP f_VP z_VP s_VR f_VR z_VR
    have VF := Hid.mk (VR.filled [.int .i64 0, .int .i64 x.p] rfl)
    have BR := belowCells B (show w.heap.size ≤ w.heap.size + 1 by simp) 0 [.int .i64 0, .int .i64 x.p]
    have HT := Hid.mk VR.there
    replace BR := Hid.mk BR
    obtain ⟨s_VP, f_VP, z_VP⟩ := VP.open
    obtain ⟨s_VR, f_VR, z_VR⟩ := VR.open
    go_wp2_with (refine wpList_store_mid rfl 39 _ _ rfl (w.heap.size + 1) 0 #[.int .i64 0, .int .i64 x.p] rfl rfl HT.out (by kernel_rfl) (by kernel_rfl) ?_)
    refine bodyPost_ret (v := .agg #[.int .i64 0, .int .i64 x.p]) (results_row Tryd.results35 _ _ (w.heap.size + 1) [.int .i64 0, .int .i64 x.p] _ rfl VF.out Tryd.underlying39 rfl (by kernel_rfl)) rfl ⟨rfl, BR.out⟩

end Go.Proofs.YtngkahchhioncaaDoor
