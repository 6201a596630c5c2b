/- The law 'FnFirst': its walk. -/
import Derived.Test.YtngkahchhioncaaDoorPolH
import Derived.Test.YtngkahchhioncaaDoorDPol3
import Derived.Deep.DeepCutAuto
namespace Go.Proofs.YtngkahchhioncaaDoor
open Go.RowKit

theorem first_ways (xs : List R11) (f t r l u v : Int) (g0 : Nat) :
    (∃ c : Int, asC xs f t r l u v g0 = c ∧ afV xs f t r l u v g0 = 0 ∧ (c == 0) = false ∧ (c == 4) = false ∧ frV xs f t r l u v g0 = .agg #[.int .i64 c, .int .i64 0, .int .i64 0, .int .i64 0, .int .i64 0, .int .i64 0, .int .i64 0, .int .i64 0, .int .i64 0, .int .i64 0, .int .i64 0, .int .i64 0, .int .i64 0]) ∨
    (asC xs f t r l u v g0 = 0 ∧ afV xs f t r l u v g0 = 1 ∧ frV xs f t r l u v g0 = .agg #[.int .i64 4, .int .i64 0, .int .i64 0, .int .i64 0, .int .i64 0, .int .i64 0, .int .i64 0, .int .i64 0, .int .i64 0, .int .i64 0, .int .i64 0, .int .i64 0, .int .i64 0] ∧ (∀ i, i < xs.length → hoP (xs.getD i zRule).s f t r l u v g0 = false)) ∨
    (∃ (k : Nat) (x : R11), asC xs f t r l u v g0 = 0 ∧ afV xs f t r l u v g0 = x.p ∧ frV xs f t r l u v g0 = .agg #[.int .i64 0, .int .i64 k, .int .i64 x.s.a, .int .i64 x.s.b, .int .i64 x.s.c, .int .i64 x.s.d, .int .i64 x.s.e, .int .i64 x.s.f, .int .i64 x.s.g, .int .i64 x.s.h, .int .i64 x.s.r, .int .i64 x.p, .int .i64 x.q] ∧ 1 ≤ x.p ∧ (∀ i, i < xs.length → i < k → hoP (xs.getD i zRule).s f t r l u v g0 = false) ∧ hoP (xs.getD k zRule).s f t r l u v g0 = true) := by
  have hin : asC xs f t r l u v g0 = 0 → pyC xs = 0 ∧ ∀ i, i < xs.length → hoP (xs.getD i zRule).s f t r l u v g0 = inP (xs.getD i zRule).s f t r u v := by
    intro h
    rcases as_ways xs f t r l u v g0 with ⟨_, h2, h3⟩ | ⟨h2, h3⟩
    · rw [h2] at h; exact absurd h h3
    · rw [h3] at h
      exact ⟨h2, fun i hi => hoP_in (ru_zero ((pyC_zero h2).2 _ (getDRule_mem hi))).1 h⟩
  rw [frV_is]
  have hc := as_codes xs f t r l u v g0
  rcases fr_ways xs f t r l u v g0 with ⟨_, h1, e1, e2, e3, e4⟩ | ⟨h1, h2, e1, e2, e3, e4⟩ | ⟨h1, h2, e1, e2, e3, e4⟩
  · refine .inl ⟨_, rfl, e4, by simpa using h1, by simp; omega, ?_⟩
    rw [e1, e2, e3]; rfl
  · refine .inr (.inl ⟨h1, e4, by rw [e1, e2, e3]; rfl, fun i hi => ?_⟩)
    rw [(hin h1).2 i hi]
    have := fstK_le xs f t r u v
    exact fst_not (by omega)
  · refine .inr (.inr ⟨fstK xs f t r u v, xs.getD (fstK xs f t r u v) zRule, h1, e4, by rw [e1, e2, e3], ?_, ?_, ?_⟩)
    · exact (ru_zero ((pyC_zero (hin h1).1).2 _ (getDRule_mem h2))).2.1
    · intro i hi hk
      rw [(hin h1).2 i hi]; exact fst_not hk
    · rw [(hin h1).2 _ h2]; exact fst_has h2

theorem ret_true {a : Bool} (h : a = true) : Ending.returned (.bool a) = .returned (.bool true) := by rw [h]

set_option maxRecDepth 20000 in
set_option maxHeartbeats 8000000 in
theorem xF1_walk (a : Option Addr) (n ca : Nat) (zs : List Int) (w : World) (ha : Rd .u8 w a zs) (hb : Bytes zs) (hn : zs.length = n) :
    Calls Tryd.prog 3 #[.slice a n ca] w fun e w' => e = .returned (.bool true) ∧ Below w.heap.size w w' := by
  by_cases hbig : 1048576 < n
  · have h1 : (1048576 : Int) < (n : Int) := by omega
    go_enter Tryd.func3, Tryd.ntmps3
    go_wp2_with (first | (go_at_call 13; go_in) | fail)
    go_ret
    exact ⟨rfl, Below.refl _ _⟩
  have h1 : ¬ (1048576 : Int) < (n : Int) := by omega
  have CD := Hid.mk (drawFirstRule_ok a n ca zs w ha hb hn (by omega))
  clear ha hb hn hbig
  go_enter Tryd.func3, Tryd.ntmps3
  go_wp2_with (first | (go_at_call 13; go_in) | fail)
  refine CD.out.mono ?_
  rintro e wA ⟨c, d, m, xs, f, t, r, l, u, v, s, g0, g1, rfl, hm, hlen, hc, RX, B0⟩
  have CF := Hid.mk (fun w h => implFirstRule_ok (some ⟨c, 0, none⟩) m d xs f t r l u v s g0 g1 w h hlen (by unfold maxLen; omega))
  have CA := Hid.mk (fun w h => implActionFor_ok (some ⟨c, 0, none⟩) m d xs f t r l u v s g0 g1 w h hlen (by unfold maxLen; omega))
  have CS := Hid.mk (fun w h => (frV_is xs f t r l u v g0).symm ▸ specFirstRule_ok (some ⟨c, 0, none⟩) m d xs f t r l u v s g0 g1 w h hlen (by unfold maxLen; omega))
  have CH := Hid.mk (fun (x : S9) w => implHolds_ok x f t r l u v s g0 g1 w)
  replace CD := B0
  have HB0 := Hid.mk B0
  have HR := Hid.mk RX
  clear B0 CD hc
  have B := Below.refl wA.heap.size wA
  rcases first_ways xs f t r l u v g0 with ⟨cc, e1, e2, h3, h4, e3⟩ | ⟨e1, e2, e3, hno⟩ | ⟨K, x, e1, e2, e3, hp, hlo, hhi⟩
  · have qf : ∀ w : World, (Instr.field 36 (.agg #[.int .i64 cc, .int .i64 0, .int .i64 0, .int .i64 0, .int .i64 0, .int .i64 0, .int .i64 0, .int .i64 0, .int .i64 0, .int .i64 0, .int .i64 0, .int .i64 0, .int .i64 0]) 0).run Tryd.prog w = .ok (.int .i64 cc) w := fun w => by kernel_rfl
    have h3' : (cc != 0) = true := by rw [bne, h3]; rfl
    have h4' : (cc != 4) = true := by rw [bne, h4]; rfl
    rw [e3] at CF CS
    rw [e1, e2] at CA
    clear e1 e2 e3
    replace B := thenB B (belowA wA (.cells #[.int .i64 f, .int .i64 t, .int .i64 r, .int .i64 l, .int .i64 u, .int .i64 v, .slice s g0 g1] 26))
    have VP := V.new wA [.int .i64 f, .int .i64 t, .int .i64 r, .int .i64 l, .int .i64 u, .int .i64 v, .slice s g0 g1] 26
    obtain ⟨s_VP, f_VP, z_VP⟩ := VP.open
    have Bo := B
    go_wp2_with fail
    refine (CF.out _ (HR.out.kept B)).mono ?_
    rintro e w1 ⟨rfl, b1⟩
    clear s_VP f_VP z_VP
    have S1 := b1.size
    simp only [World.size_alloc] at S1
    replace VP := VP.kept b1
    replace B := thenB B b1
    clear b1
    obtain ⟨s_VP, f_VP, z_VP⟩ := VP.open
    have Bo := B
    replace VP := VP.kept (belowA w1 (.cells #[.int .i64 cc, .int .i64 0, .int .i64 0, .int .i64 0, .int .i64 0, .int .i64 0, .int .i64 0, .int .i64 0, .int .i64 0, .int .i64 0, .int .i64 0, .int .i64 0, .int .i64 0] 36))
    replace B := thenB B (belowA w1 (.cells #[.int .i64 cc, .int .i64 0, .int .i64 0, .int .i64 0, .int .i64 0, .int .i64 0, .int .i64 0, .int .i64 0, .int .i64 0, .int .i64 0, .int .i64 0, .int .i64 0, .int .i64 0] 36))
    have VR := V.new w1 [.int .i64 cc, .int .i64 0, .int .i64 0, .int .i64 0, .int .i64 0, .int .i64 0, .int .i64 0, .int .i64 0, .int .i64 0, .int .i64 0, .int .i64 0, .int .i64 0, .int .i64 0] 36
    clear s_VP f_VP z_VP
    obtain ⟨s_VP, f_VP, z_VP⟩ := VP.open
    obtain ⟨s_VR, f_VR, z_VR⟩ := VR.open
    replace Bo := B
    go_wp2_with fail
    refine (CA.out _ (HR.out.kept B)).mono ?_
    rintro e w2 ⟨rfl, b2⟩
    clear s_VP f_VP z_VP s_VR f_VR z_VR
    have S2 := b2.size
    simp only [World.size_alloc] at S2
    replace VP := VP.kept b2
    replace VR := VR.kept b2
    replace B := thenB B b2
    clear b2
    obtain ⟨s_VP, f_VP, z_VP⟩ := VP.open
    obtain ⟨s_VR, f_VR, z_VR⟩ := VR.open
    have Bo := B
    replace VP := VP.kept (belowA w2 (.cells #[.int .i64 cc, .int .i64 0] 39))
    replace VR := VR.kept (belowA w2 (.cells #[.int .i64 cc, .int .i64 0] 39))
    replace B := thenB B (belowA w2 (.cells #[.int .i64 cc, .int .i64 0] 39))
    have VA := V.new w2 [.int .i64 cc, .int .i64 0] 39
    clear s_VP f_VP z_VP s_VR f_VR z_VR
    obtain ⟨s_VP, f_VP, z_VP⟩ := VP.open
    obtain ⟨s_VR, f_VR, z_VR⟩ := VR.open
    obtain ⟨s_VA, f_VA, z_VA⟩ := VA.open
    replace Bo := B
    go_upto_region 7 with fail
    clear s_VP f_VP z_VP s_VR f_VR z_VR s_VA f_VA z_VA
    have K : ∀ w' : World, Below (w2.alloc (.cells #[.int .i64 cc, .int .i64 0] 39)).heap.size (w2.alloc (.cells #[.int .i64 cc, .int .i64 0] 39)) w' → (w'.cell? ⟨wA.heap.size, 0, none⟩ = some (.int .i64 f) ∧ w'.cell? ⟨wA.heap.size, 1, none⟩ = some (.int .i64 t) ∧ w'.cell? ⟨wA.heap.size, 2, none⟩ = some (.int .i64 r) ∧ w'.cell? ⟨wA.heap.size, 3, none⟩ = some (.int .i64 l) ∧ w'.cell? ⟨wA.heap.size, 4, none⟩ = some (.int .i64 u) ∧ w'.cell? ⟨wA.heap.size, 5, none⟩ = some (.int .i64 v) ∧ w'.cell? ⟨wA.heap.size, 6, none⟩ = some (.slice s g0 g1) ∧ w'.cell? ⟨w1.heap.size, 0, none⟩ = some (.int .i64 cc) ∧ w'.cell? ⟨w1.heap.size, 1, none⟩ = some (.int .i64 0) ∧ w'.cell? ⟨w1.heap.size, 2, none⟩ = some (.int .i64 0) ∧ w'.cell? ⟨w1.heap.size, 3, none⟩ = some (.int .i64 0) ∧ w'.cell? ⟨w1.heap.size, 4, none⟩ = some (.int .i64 0) ∧ w'.cell? ⟨w1.heap.size, 5, none⟩ = some (.int .i64 0) ∧ w'.cell? ⟨w1.heap.size, 6, none⟩ = some (.int .i64 0) ∧ w'.cell? ⟨w1.heap.size, 7, none⟩ = some (.int .i64 0) ∧ w'.cell? ⟨w1.heap.size, 8, none⟩ = some (.int .i64 0) ∧ w'.cell? ⟨w1.heap.size, 9, none⟩ = some (.int .i64 0) ∧ w'.cell? ⟨w1.heap.size, 10, none⟩ = some (.int .i64 0) ∧ w'.cell? ⟨w1.heap.size, 11, none⟩ = some (.int .i64 0) ∧ w'.cell? ⟨w1.heap.size, 12, none⟩ = some (.int .i64 0) ∧ w'.cell? ⟨w2.heap.size, 0, none⟩ = some (.int .i64 cc) ∧ w'.cell? ⟨w2.heap.size, 1, none⟩ = some (.int .i64 0)) := fun w' h => ⟨(VP.kept h).2.1 0 (by simp), (VP.kept h).2.1 1 (by simp), (VP.kept h).2.1 2 (by simp), (VP.kept h).2.1 3 (by simp), (VP.kept h).2.1 4 (by simp), (VP.kept h).2.1 5 (by simp), (VP.kept h).2.1 6 (by simp), (VR.kept h).2.1 0 (by simp), (VR.kept h).2.1 1 (by simp), (VR.kept h).2.1 2 (by simp), (VR.kept h).2.1 3 (by simp), (VR.kept h).2.1 4 (by simp), (VR.kept h).2.1 5 (by simp), (VR.kept h).2.1 6 (by simp), (VR.kept h).2.1 7 (by simp), (VR.kept h).2.1 8 (by simp), (VR.kept h).2.1 9 (by simp), (VR.kept h).2.1 10 (by simp), (VR.kept h).2.1 11 (by simp), (VR.kept h).2.1 12 (by simp), (VA.kept h).2.1 0 (by simp), (VA.kept h).2.1 1 (by simp)⟩
    have K := Hid.mk K
    refine wp_region_held_drew (S := (fun w' => w'.cell? ⟨wA.heap.size, 0, none⟩ = some (.int .i64 f) ∧ w'.cell? ⟨wA.heap.size, 1, none⟩ = some (.int .i64 t) ∧ w'.cell? ⟨wA.heap.size, 2, none⟩ = some (.int .i64 r) ∧ w'.cell? ⟨wA.heap.size, 3, none⟩ = some (.int .i64 l) ∧ w'.cell? ⟨wA.heap.size, 4, none⟩ = some (.int .i64 u) ∧ w'.cell? ⟨wA.heap.size, 5, none⟩ = some (.int .i64 v) ∧ w'.cell? ⟨wA.heap.size, 6, none⟩ = some (.slice s g0 g1) ∧ w'.cell? ⟨w1.heap.size, 0, none⟩ = some (.int .i64 cc) ∧ w'.cell? ⟨w1.heap.size, 1, none⟩ = some (.int .i64 0) ∧ w'.cell? ⟨w1.heap.size, 2, none⟩ = some (.int .i64 0) ∧ w'.cell? ⟨w1.heap.size, 3, none⟩ = some (.int .i64 0) ∧ w'.cell? ⟨w1.heap.size, 4, none⟩ = some (.int .i64 0) ∧ w'.cell? ⟨w1.heap.size, 5, none⟩ = some (.int .i64 0) ∧ w'.cell? ⟨w1.heap.size, 6, none⟩ = some (.int .i64 0) ∧ w'.cell? ⟨w1.heap.size, 7, none⟩ = some (.int .i64 0) ∧ w'.cell? ⟨w1.heap.size, 8, none⟩ = some (.int .i64 0) ∧ w'.cell? ⟨w1.heap.size, 9, none⟩ = some (.int .i64 0) ∧ w'.cell? ⟨w1.heap.size, 10, none⟩ = some (.int .i64 0) ∧ w'.cell? ⟨w1.heap.size, 11, none⟩ = some (.int .i64 0) ∧ w'.cell? ⟨w1.heap.size, 12, none⟩ = some (.int .i64 0) ∧ w'.cell? ⟨w2.heap.size, 0, none⟩ = some (.int .i64 cc) ∧ w'.cell? ⟨w2.heap.size, 1, none⟩ = some (.int .i64 0))) (by kernel_rfl) (K.out _ (Below.refl _ _).drew) (fun hHeld => ?_)
    refine wpAnyH_take (i := 0) (oi := _) (v := ?vz1u1) rfl (by kernel_rfl) (by kernel_rfl) (by kernel_rfl) (fun _ _ _ h => h) (Or.inl ⟨by rfl, ?hyz1u1⟩) hHeld ?restz1u1
    case hyz1u1 => (intro w hSw; (try dsimp only at hSw); go_simp; first | done | with_reducible rfl)
    try simp only [Act.put, List.getElem_toArray, List.getElem_cons_zero, List.setIfInBounds_toArray, List.set_cons_zero, List.set_cons_succ]
    refine wpAnyH_take (i := 1) (oi := _) (v := ?vz1u2) rfl (by kernel_rfl) (by kernel_rfl) (by kernel_rfl) (fun _ _ _ h => h) (Or.inl ⟨by rfl, ?hyz1u2⟩) hHeld ?restz1u2
    case hyz1u2 => (intro w hSw; (try dsimp only at hSw); go_simp; first | done | with_reducible rfl)
    try simp only [Act.put, List.getElem_toArray, List.getElem_cons_zero, List.getElem_cons_succ, List.setIfInBounds_toArray, List.set_cons_zero, List.set_cons_succ]
    refine wpAnyH_take (i := 4) (oi := _) (v := ?vz1u3) rfl (by kernel_rfl) (by kernel_rfl) (by kernel_rfl) (fun _ _ _ h => h) (Or.inl ⟨by rfl, ?hyz1u3⟩) hHeld ?restz1u3
    case hyz1u3 => (intro w hSw; (try dsimp only at hSw); go_simp; first | done | with_reducible rfl)
    try simp only [Act.put, List.getElem_toArray, List.getElem_cons_zero, List.getElem_cons_succ, List.setIfInBounds_toArray, List.set_cons_zero, List.set_cons_succ]
    refine wpAnyH_take (i := 5) (oi := _) (v := ?vz1u4) rfl (by kernel_rfl) (by kernel_rfl) (by kernel_rfl) (fun _ _ _ h => h) (Or.inl ⟨by rfl, ?hyz1u4⟩) hHeld ?restz1u4
    case hyz1u4 => (intro w hSw; (try dsimp only at hSw); go_simp; first | done | with_reducible rfl)
    try simp only [Act.put, List.getElem_toArray, List.getElem_cons_zero, List.getElem_cons_succ, List.setIfInBounds_toArray, List.set_cons_zero, List.set_cons_succ]
    refine wpAnyH_ready (rs := [2]) (by kernel_rfl) (by simp) ?_
    refine AllReadyH.cons (o := _) rfl (fun K0 hK0 => ?_) AllReadyH.nil
    go_simp
    go_at_call 17
    refine (CS.out _ ((HR.out.kept B).kept (Below.refl _ _).drew)).mono ?_
    rintro e wz1v5 ⟨rfl, bz1v5⟩
    refine hK0.out _ _ (K.out _ (thenB (Below.refl _ _).drew bz1v5)) (fun hHeld => ?_)
    clear hK0 K0
    try simp only [Act.put, List.getElem_toArray, List.getElem_cons_zero, List.getElem_cons_succ, List.setIfInBounds_toArray, List.set_cons_zero, List.set_cons_succ]
    refine wpAnyH_take (i := 3) (oi := _) (v := ?vz1u6) rfl (by kernel_rfl) (by kernel_rfl) (by kernel_rfl) (fun _ _ _ h => h) (Or.inl ⟨by rfl, ?hyz1u6⟩) hHeld ?restz1u6
    case hyz1u6 => (intro w hSw; (try dsimp only at hSw); go_simp; first | done | with_reducible rfl)
    try simp only [Act.put, List.getElem_toArray, List.getElem_cons_zero, List.getElem_cons_succ, List.setIfInBounds_toArray, List.set_cons_zero, List.set_cons_succ]
    refine wpAnyH_take (i := 6) (oi := _) (v := ?vz1u7) rfl (by kernel_rfl) (by kernel_rfl) (by kernel_rfl) (fun _ _ _ h => h) (Or.inl ⟨by rfl, ?hyz1u7⟩) hHeld ?restz1u7
    case hyz1u7 => (intro w hSw; (try dsimp only at hSw); go_simp; first | done | with_reducible rfl)
    try simp only [Act.put, List.getElem_toArray, List.getElem_cons_zero, List.getElem_cons_succ, List.setIfInBounds_toArray, List.set_cons_zero, List.set_cons_succ]
    refine wpAnyH_take (i := 7) (oi := _) (v := ?vz1u8) rfl (by kernel_rfl) (by kernel_rfl) (by kernel_rfl) (fun _ _ _ h => h) (Or.inl ⟨by rfl, ?hyz1u8⟩) hHeld ?restz1u8
    case hyz1u8 => (intro w hSw; (try dsimp only at hSw); go_simp; first | done | with_reducible rfl)
    try simp only [Act.put, List.getElem_toArray, List.getElem_cons_zero, List.getElem_cons_succ, List.setIfInBounds_toArray, List.set_cons_zero, List.set_cons_succ]
    refine wpAnyH_take (i := 8) (oi := _) (v := ?vz1u9) rfl (by kernel_rfl) (by kernel_rfl) (by kernel_rfl) (fun _ _ _ h => h) (Or.inl ⟨by rfl, ?hyz1u9⟩) hHeld ?restz1u9
    case hyz1u9 => (intro w hSw; (try dsimp only at hSw); go_simp; first | done | with_reducible rfl)
    try simp only [Act.put, List.getElem_toArray, List.getElem_cons_zero, List.getElem_cons_succ, List.setIfInBounds_toArray, List.set_cons_zero, List.set_cons_succ]
    refine wpAnyH_take (i := 9) (oi := _) (v := ?vz1u10) rfl (by kernel_rfl) (by kernel_rfl) (by kernel_rfl) (fun _ _ _ h => h) (Or.inl ⟨by rfl, ?hyz1u10⟩) hHeld ?restz1u10
    case hyz1u10 => (intro w hSw; (try dsimp only at hSw); go_simp; first | done | with_reducible rfl)
    try simp only [Act.put, List.getElem_toArray, List.getElem_cons_zero, List.getElem_cons_succ, List.setIfInBounds_toArray, List.set_cons_zero, List.set_cons_succ]
    refine wpAnyH_take (i := 10) (oi := _) (v := ?vz1u11) rfl (by kernel_rfl) (by kernel_rfl) (by kernel_rfl) (fun _ _ _ h => h) (Or.inl ⟨by rfl, ?hyz1u11⟩) hHeld ?restz1u11
    case hyz1u11 => (intro w hSw; (try dsimp only at hSw); go_simp; first | done | with_reducible rfl)
    try simp only [Act.put, List.getElem_toArray, List.getElem_cons_zero, List.getElem_cons_succ, List.setIfInBounds_toArray, List.set_cons_zero, List.set_cons_succ]
    refine wpAnyH_take (i := 11) (oi := _) (v := ?vz1u12) rfl (by kernel_rfl) (by kernel_rfl) (by kernel_rfl) (fun _ _ _ h => h) (Or.inl ⟨by rfl, ?hyz1u12⟩) hHeld ?restz1u12
    case hyz1u12 => (intro w hSw; (try dsimp only at hSw); go_simp; first | done | with_reducible rfl)
    try simp only [Act.put, List.getElem_toArray, List.getElem_cons_zero, List.getElem_cons_succ, List.setIfInBounds_toArray, List.set_cons_zero, List.set_cons_succ]
    refine wpAnyH_take (i := 12) (oi := _) (v := ?vz1u13) rfl (by kernel_rfl) (by kernel_rfl) (by kernel_rfl) (fun _ _ _ h => h) (Or.inl ⟨by rfl, ?hyz1u13⟩) hHeld ?restz1u13
    case hyz1u13 => (intro w hSw; (try dsimp only at hSw); go_simp; first | done | with_reducible rfl)
    try simp only [Act.put, List.getElem_toArray, List.getElem_cons_zero, List.getElem_cons_succ, List.setIfInBounds_toArray, List.set_cons_zero, List.set_cons_succ]
    refine wpAnyH_take (i := 13) (oi := _) (v := ?vz1u14) rfl (by kernel_rfl) (by kernel_rfl) (by kernel_rfl) (fun _ _ _ h => h) (Or.inl ⟨by rfl, ?hyz1u14⟩) hHeld ?restz1u14
    case hyz1u14 => (intro w hSw; (try dsimp only at hSw); go_simp; first | done | with_reducible rfl)
    try simp only [Act.put, List.getElem_toArray, List.getElem_cons_zero, List.getElem_cons_succ, List.setIfInBounds_toArray, List.set_cons_zero, List.set_cons_succ]
    refine wpAnyH_take (i := 14) (oi := _) (v := ?vz1u15) rfl (by kernel_rfl) (by kernel_rfl) (by kernel_rfl) (fun _ _ _ h => h) (Or.inl ⟨by rfl, ?hyz1u15⟩) hHeld ?restz1u15
    case hyz1u15 => (intro w hSw; (try dsimp only at hSw); go_simp; first | done | with_reducible rfl)
    try simp only [Act.put, List.getElem_toArray, List.getElem_cons_zero, List.getElem_cons_succ, List.setIfInBounds_toArray, List.set_cons_zero, List.set_cons_succ]
    refine wpAnyH_done (by kernel_rfl) ?_ _
    clear K hHeld
    replace VP := VP.kept (thenB (Below.refl _ _).drew bz1v5)
    replace VR := VR.kept (thenB (Below.refl _ _).drew bz1v5)
    replace VA := VA.kept (thenB (Below.refl _ _).drew bz1v5)
    replace B := thenB B (thenB (Below.refl _ _).drew bz1v5)
    have Sz1 := ((thenB (Below.refl _ _).drew bz1v5)).size
    simp only [World.size_alloc] at Sz1
    clear bz1v5
    obtain ⟨s_VP, f_VP, z_VP⟩ := VP.open
    obtain ⟨s_VR, f_VR, z_VR⟩ := VR.open
    obtain ⟨s_VA, f_VA, z_VA⟩ := VA.open
    have Bo := B
    go_wp2
    go_ret
    exact ⟨rfl, HB0.out.trans (B.mono HB0.out.size)⟩
  · replace hno := Hid.mk hno
    rw [e3] at CF CS
    rw [e1, e2] at CA
    clear e1 e2 e3
    replace B := thenB B (belowA wA (.cells #[.int .i64 f, .int .i64 t, .int .i64 r, .int .i64 l, .int .i64 u, .int .i64 v, .slice s g0 g1] 26))
    have VP := V.new wA [.int .i64 f, .int .i64 t, .int .i64 r, .int .i64 l, .int .i64 u, .int .i64 v, .slice s g0 g1] 26
    obtain ⟨s_VP, f_VP, z_VP⟩ := VP.open
    have Bo := B
    go_wp2_with fail
    refine (CF.out _ (HR.out.kept B)).mono ?_
    rintro e w11 ⟨rfl, b11⟩
    clear s_VP f_VP z_VP
    have S11 := b11.size
    simp only [World.size_alloc] at S11
    replace VP := VP.kept b11
    replace B := thenB B b11
    clear b11
    obtain ⟨s_VP, f_VP, z_VP⟩ := VP.open
    have Bo := B
    replace VP := VP.kept (belowA w11 (.cells #[.int .i64 4, .int .i64 0, .int .i64 0, .int .i64 0, .int .i64 0, .int .i64 0, .int .i64 0, .int .i64 0, .int .i64 0, .int .i64 0, .int .i64 0, .int .i64 0, .int .i64 0] 36))
    replace B := thenB B (belowA w11 (.cells #[.int .i64 4, .int .i64 0, .int .i64 0, .int .i64 0, .int .i64 0, .int .i64 0, .int .i64 0, .int .i64 0, .int .i64 0, .int .i64 0, .int .i64 0, .int .i64 0, .int .i64 0] 36))
    have VR := V.new w11 [.int .i64 4, .int .i64 0, .int .i64 0, .int .i64 0, .int .i64 0, .int .i64 0, .int .i64 0, .int .i64 0, .int .i64 0, .int .i64 0, .int .i64 0, .int .i64 0, .int .i64 0] 36
    clear s_VP f_VP z_VP
    obtain ⟨s_VP, f_VP, z_VP⟩ := VP.open
    obtain ⟨s_VR, f_VR, z_VR⟩ := VR.open
    replace Bo := B
    go_wp2_with fail
    refine (CA.out _ (HR.out.kept B)).mono ?_
    rintro e w12 ⟨rfl, b12⟩
    clear s_VP f_VP z_VP s_VR f_VR z_VR
    have S12 := b12.size
    simp only [World.size_alloc] at S12
    replace VP := VP.kept b12
    replace VR := VR.kept b12
    replace B := thenB B b12
    clear b12
    obtain ⟨s_VP, f_VP, z_VP⟩ := VP.open
    obtain ⟨s_VR, f_VR, z_VR⟩ := VR.open
    have Bo := B
    replace VP := VP.kept (belowA w12 (.cells #[.int .i64 0, .int .i64 1] 39))
    replace VR := VR.kept (belowA w12 (.cells #[.int .i64 0, .int .i64 1] 39))
    replace B := thenB B (belowA w12 (.cells #[.int .i64 0, .int .i64 1] 39))
    have VA := V.new w12 [.int .i64 0, .int .i64 1] 39
    clear s_VP f_VP z_VP s_VR f_VR z_VR
    obtain ⟨s_VP, f_VP, z_VP⟩ := VP.open
    obtain ⟨s_VR, f_VR, z_VR⟩ := VR.open
    obtain ⟨s_VA, f_VA, z_VA⟩ := VA.open
    replace Bo := B
    clear s_VP f_VP z_VP s_VR f_VR z_VR s_VA f_VA z_VA
    have HBl := Hid.mk B
    clear B Bo
    generalize hvr : w11.heap.size = br at *
    generalize hva : w12.heap.size = ba at *
    obtain ⟨s_VP, f_VP, z_VP⟩ := VP.open
    obtain ⟨s_VR, f_VR, z_VR⟩ := VR.open
    obtain ⟨s_VA, f_VA, z_VA⟩ := VA.open
    go_wp2
    go_loopw [7] (fun i wr => ∃ k : Nat, k ≤ m ∧ i = .int .i64 k ∧ V wr wA.heap.size [.int .i64 f, .int .i64 t, .int .i64 r, .int .i64 l, .int .i64 u, .int .i64 v, .slice s g0 g1] ∧ V wr br [.int .i64 4, .int .i64 0, .int .i64 0, .int .i64 0, .int .i64 0, .int .i64 0, .int .i64 0, .int .i64 0, .int .i64 0, .int .i64 0, .int .i64 0, .int .i64 0, .int .i64 0] ∧ V wr ba [.int .i64 0, .int .i64 1] ∧ Below wA.heap.size wA wr) (fun i _ => m - (intOf i).toNat)
    case atStart => exact ⟨0, Nat.zero_le _, rfl, VP, VR, VA, HBl.out⟩
    case round =>
      clear s_VP f_VP z_VP s_VR f_VR z_VR s_VA f_VA z_VA
      clear VP VR VA HBl
      obtain ⟨k, hk, rfl, VP, VR, VA, B⟩ := hrel
      by_cases hlt : k < m
      · obtain ⟨y, hy1⟩ : ∃ y, xs.getD k zRule = y := ⟨_, rfl⟩
        have hk1 : (k : Int) < (m : Int) := by omega
        rcases HR.out.kept B with h0 | ⟨b1, o1, hb1e, hca⟩
        · rw [h0] at hlen; simp at hlen; omega
        simp only [Option.some.injEq, Addr.mk.injEq, and_true] at hb1e
        obtain ⟨rfl, rfl⟩ := hb1e
        obtain ⟨p0, p1, p2, p3, p4, p5, p6, p7, p8, p9, p10⟩ := RdRule.cells hca k (by omega) y hy1
        clear p9 p10 hca
        simp only [Nat.zero_add] at p0 p1 p2 p3 p4 p5 p6 p7 p8
        have hb1 := World.block_lt_of_cell? (a := ⟨c, k * 11, none⟩) _ p0
        simp only at hb1
        have CHy := Hid.mk (CH.out y.s)
        have hh := hno.out k (by omega)
        rw [hy1] at hh
        rw [hh] at CHy
        clear hh hy1
        obtain ⟨s_VP, f_VP, z_VP⟩ := VP.open
        obtain ⟨s_VR, f_VR, z_VR⟩ := VR.open
        obtain ⟨s_VA, f_VA, z_VA⟩ := VA.open
        have Bo := B
        clear s_VP f_VP z_VP s_VR f_VR z_VR s_VA f_VA z_VA
        have K : ∀ w' : World, Below wr.heap.size wr w' → (w'.cell? ⟨wA.heap.size, 0, none⟩ = some (.int .i64 f) ∧ w'.cell? ⟨wA.heap.size, 1, none⟩ = some (.int .i64 t) ∧ w'.cell? ⟨wA.heap.size, 2, none⟩ = some (.int .i64 r) ∧ w'.cell? ⟨wA.heap.size, 3, none⟩ = some (.int .i64 l) ∧ w'.cell? ⟨wA.heap.size, 4, none⟩ = some (.int .i64 u) ∧ w'.cell? ⟨wA.heap.size, 5, none⟩ = some (.int .i64 v) ∧ w'.cell? ⟨wA.heap.size, 6, none⟩ = some (.slice s g0 g1) ∧ w'.cell? ⟨c, k * 11, none⟩ = some (.int .i64 y.s.a) ∧ w'.cell? ⟨c, k * 11 + 1, none⟩ = some (.int .i64 y.s.b) ∧ w'.cell? ⟨c, k * 11 + 2, none⟩ = some (.int .i64 y.s.c) ∧ w'.cell? ⟨c, k * 11 + 3, none⟩ = some (.int .i64 y.s.d) ∧ w'.cell? ⟨c, k * 11 + 4, none⟩ = some (.int .i64 y.s.e) ∧ w'.cell? ⟨c, k * 11 + 5, none⟩ = some (.int .i64 y.s.f) ∧ w'.cell? ⟨c, k * 11 + 6, none⟩ = some (.int .i64 y.s.g) ∧ w'.cell? ⟨c, k * 11 + 7, none⟩ = some (.int .i64 y.s.h) ∧ w'.cell? ⟨c, k * 11 + 8, none⟩ = some (.int .i64 y.s.r)) := fun w' h => ⟨(VP.kept h).2.1 0 (by simp), (VP.kept h).2.1 1 (by simp), (VP.kept h).2.1 2 (by simp), (VP.kept h).2.1 3 (by simp), (VP.kept h).2.1 4 (by simp), (VP.kept h).2.1 5 (by simp), (VP.kept h).2.1 6 (by simp), ((bcell h).1 _ _ hb1).trans p0, ((bcell h).1 _ _ hb1).trans p1, ((bcell h).1 _ _ hb1).trans p2, ((bcell h).1 _ _ hb1).trans p3, ((bcell h).1 _ _ hb1).trans p4, ((bcell h).1 _ _ hb1).trans p5, ((bcell h).1 _ _ hb1).trans p6, ((bcell h).1 _ _ hb1).trans p7, ((bcell h).1 _ _ hb1).trans p8⟩
        have K := Hid.mk K
        clear p0 p1 p2 p3 p4 p5 p6 p7 p8
        go_wp2_with fail
        refine wp_region_held_drew (S := (fun w' => w'.cell? ⟨wA.heap.size, 0, none⟩ = some (.int .i64 f) ∧ w'.cell? ⟨wA.heap.size, 1, none⟩ = some (.int .i64 t) ∧ w'.cell? ⟨wA.heap.size, 2, none⟩ = some (.int .i64 r) ∧ w'.cell? ⟨wA.heap.size, 3, none⟩ = some (.int .i64 l) ∧ w'.cell? ⟨wA.heap.size, 4, none⟩ = some (.int .i64 u) ∧ w'.cell? ⟨wA.heap.size, 5, none⟩ = some (.int .i64 v) ∧ w'.cell? ⟨wA.heap.size, 6, none⟩ = some (.slice s g0 g1) ∧ w'.cell? ⟨c, k * 11, none⟩ = some (.int .i64 y.s.a) ∧ w'.cell? ⟨c, k * 11 + 1, none⟩ = some (.int .i64 y.s.b) ∧ w'.cell? ⟨c, k * 11 + 2, none⟩ = some (.int .i64 y.s.c) ∧ w'.cell? ⟨c, k * 11 + 3, none⟩ = some (.int .i64 y.s.d) ∧ w'.cell? ⟨c, k * 11 + 4, none⟩ = some (.int .i64 y.s.e) ∧ w'.cell? ⟨c, k * 11 + 5, none⟩ = some (.int .i64 y.s.f) ∧ w'.cell? ⟨c, k * 11 + 6, none⟩ = some (.int .i64 y.s.g) ∧ w'.cell? ⟨c, k * 11 + 7, none⟩ = some (.int .i64 y.s.h) ∧ w'.cell? ⟨c, k * 11 + 8, none⟩ = some (.int .i64 y.s.r))) (by kernel_rfl) (K.out _ (Below.refl _ _).drew) (fun hHeld => ?_)
        refine wpAnyH_take (i := 0) (oi := _) (v := ?vz63u1) rfl (by kernel_rfl) (by kernel_rfl) (by kernel_rfl) (fun _ _ _ h => h) (Or.inl ⟨by rfl, ?hyz63u1⟩) hHeld ?restz63u1
        case hyz63u1 => (intro w hSw; (try dsimp only at hSw); go_simp; first | done | with_reducible rfl)
        try simp only [Act.put, List.getElem_toArray, List.getElem_cons_zero, List.setIfInBounds_toArray, List.set_cons_zero, List.set_cons_succ]
        refine wpAnyH_take (i := 1) (oi := _) (v := ?vz63u2) rfl (by kernel_rfl) (by kernel_rfl) (by kernel_rfl) (fun _ _ _ h => h) (Or.inl ⟨by rfl, ?hyz63u2⟩) hHeld ?restz63u2
        case hyz63u2 => (intro w hSw; (try dsimp only at hSw); go_simp; first | done | with_reducible rfl)
        try simp only [Act.put, List.getElem_toArray, List.getElem_cons_zero, List.getElem_cons_succ, List.setIfInBounds_toArray, List.set_cons_zero, List.set_cons_succ]
        refine wpAnyH_take (i := 2) (oi := _) (v := ?vz63u3) rfl (by kernel_rfl) (by kernel_rfl) (by kernel_rfl) (fun _ _ _ h => h) (Or.inl ⟨by rfl, ?hyz63u3⟩) hHeld ?restz63u3
        case hyz63u3 => (intro w hSw; (try dsimp only at hSw); go_simp; first | done | with_reducible rfl)
        try simp only [Act.put, List.getElem_toArray, List.getElem_cons_zero, List.getElem_cons_succ, List.setIfInBounds_toArray, List.set_cons_zero, List.set_cons_succ]
        refine wpAnyH_take (i := 3) (oi := _) (v := ?vz63u4) rfl (by kernel_rfl) (by kernel_rfl) (by kernel_rfl) (fun _ _ _ h => h) (Or.inl ⟨by rfl, ?hyz63u4⟩) hHeld ?restz63u4
        case hyz63u4 => (intro w hSw; (try dsimp only at hSw); go_simp; first | done | with_reducible rfl)
        try simp only [Act.put, List.getElem_toArray, List.getElem_cons_zero, List.getElem_cons_succ, List.setIfInBounds_toArray, List.set_cons_zero, List.set_cons_succ]
        refine wpAnyH_take (i := 4) (oi := _) (v := ?vz63u5) rfl (by kernel_rfl) (by kernel_rfl) (by kernel_rfl) (fun _ _ _ h => h) (Or.inl ⟨by rfl, ?hyz63u5⟩) hHeld ?restz63u5
        case hyz63u5 => (intro w hSw; (try dsimp only at hSw); go_simp; first | done | with_reducible rfl)
        try simp only [Act.put, List.getElem_toArray, List.getElem_cons_zero, List.getElem_cons_succ, List.setIfInBounds_toArray, List.set_cons_zero, List.set_cons_succ]
        refine wpAnyH_take (i := 5) (oi := _) (v := ?vz63u6) rfl (by kernel_rfl) (by kernel_rfl) (by kernel_rfl) (fun _ _ _ h => h) (Or.inl ⟨by rfl, ?hyz63u6⟩) hHeld ?restz63u6
        case hyz63u6 => (intro w hSw; (try dsimp only at hSw); go_simp; first | done | with_reducible rfl)
        try simp only [Act.put, List.getElem_toArray, List.getElem_cons_zero, List.getElem_cons_succ, List.setIfInBounds_toArray, List.set_cons_zero, List.set_cons_succ]
        refine wpAnyH_ready (rs := [6]) (by kernel_rfl) (by simp) ?_
        refine AllReadyH.cons (o := _) rfl (fun K0 hK0 => ?_) AllReadyH.nil
        go_simp
        go_at_call 18
        refine (CHy.out _).mono ?_
        rintro e wz63v7 ⟨rfl, bz63v7⟩
        refine hK0.out _ _ (K.out _ (thenB (Below.refl _ _).drew bz63v7)) (fun hHeld => ?_)
        clear hK0 K0
        try simp only [Act.put, List.getElem_toArray, List.getElem_cons_zero, List.getElem_cons_succ, List.setIfInBounds_toArray, List.set_cons_zero, List.set_cons_succ]
        refine wpAnyH_take (i := 7) (oi := _) (v := ?vz63u8) rfl (by kernel_rfl) (by kernel_rfl) (by kernel_rfl) (fun _ _ _ h => h) (Or.inl ⟨by rfl, ?hyz63u8⟩) hHeld ?restz63u8
        case hyz63u8 => (intro w hSw; (try dsimp only at hSw); go_simp; first | done | with_reducible rfl)
        try simp only [Act.put, List.getElem_toArray, List.getElem_cons_zero, List.getElem_cons_succ, List.setIfInBounds_toArray, List.set_cons_zero, List.set_cons_succ]
        refine wpAnyH_done (by kernel_rfl) ?_ _
        clear K hHeld
        replace VP := VP.kept (thenB (Below.refl _ _).drew bz63v7)
        replace VR := VR.kept (thenB (Below.refl _ _).drew bz63v7)
        replace VA := VA.kept (thenB (Below.refl _ _).drew bz63v7)
        replace B := thenB B (thenB (Below.refl _ _).drew bz63v7)
        have Sz63 := ((thenB (Below.refl _ _).drew bz63v7)).size
        clear bz63v7
        obtain ⟨s_VP, f_VP, z_VP⟩ := VP.open
        obtain ⟨s_VR, f_VR, z_VR⟩ := VR.open
        obtain ⟨s_VA, f_VA, z_VA⟩ := VA.open
        have Bo := B
        go_wp2
        go_roundw
        case rel => exact ⟨k + 1, by omega, by go_num, VP, VR, VA, B⟩
        case measure => simp [intOf]; omega
      · obtain rfl : k = m := by omega
        obtain ⟨s_VP, f_VP, z_VP⟩ := VP.open
        obtain ⟨s_VR, f_VR, z_VR⟩ := VR.open
        obtain ⟨s_VA, f_VA, z_VA⟩ := VA.open
        have HF := Hid.mk (HB0.out.trans (B.mono HB0.out.size))
        go_wp2
        go_ret
        exact ⟨rfl, HF.out⟩
  · replace hlo := Hid.mk hlo
    replace hhi := Hid.mk hhi
    have qself : (x.p == x.p) = true := by simp
    rw [e3] at CF CS
    rw [e1, e2] at CA
    clear e1 e2 e3
    replace B := thenB B (belowA wA (.cells #[.int .i64 f, .int .i64 t, .int .i64 r, .int .i64 l, .int .i64 u, .int .i64 v, .slice s g0 g1] 26))
    have VP := V.new wA [.int .i64 f, .int .i64 t, .int .i64 r, .int .i64 l, .int .i64 u, .int .i64 v, .slice s g0 g1] 26
    obtain ⟨s_VP, f_VP, z_VP⟩ := VP.open
    have Bo := B
    go_wp2_with fail
    refine (CF.out _ (HR.out.kept B)).mono ?_
    rintro e w21 ⟨rfl, b21⟩
    clear s_VP f_VP z_VP
    have S21 := b21.size
    simp only [World.size_alloc] at S21
    replace VP := VP.kept b21
    replace B := thenB B b21
    clear b21
    obtain ⟨s_VP, f_VP, z_VP⟩ := VP.open
    have Bo := B
    replace VP := VP.kept (belowA w21 (.cells #[.int .i64 0, .int .i64 K, .int .i64 x.s.a, .int .i64 x.s.b, .int .i64 x.s.c, .int .i64 x.s.d, .int .i64 x.s.e, .int .i64 x.s.f, .int .i64 x.s.g, .int .i64 x.s.h, .int .i64 x.s.r, .int .i64 x.p, .int .i64 x.q] 36))
    replace B := thenB B (belowA w21 (.cells #[.int .i64 0, .int .i64 K, .int .i64 x.s.a, .int .i64 x.s.b, .int .i64 x.s.c, .int .i64 x.s.d, .int .i64 x.s.e, .int .i64 x.s.f, .int .i64 x.s.g, .int .i64 x.s.h, .int .i64 x.s.r, .int .i64 x.p, .int .i64 x.q] 36))
    have VR := V.new w21 [.int .i64 0, .int .i64 K, .int .i64 x.s.a, .int .i64 x.s.b, .int .i64 x.s.c, .int .i64 x.s.d, .int .i64 x.s.e, .int .i64 x.s.f, .int .i64 x.s.g, .int .i64 x.s.h, .int .i64 x.s.r, .int .i64 x.p, .int .i64 x.q] 36
    clear s_VP f_VP z_VP
    obtain ⟨s_VP, f_VP, z_VP⟩ := VP.open
    obtain ⟨s_VR, f_VR, z_VR⟩ := VR.open
    replace Bo := B
    go_wp2_with fail
    refine (CA.out _ (HR.out.kept B)).mono ?_
    rintro e w22 ⟨rfl, b22⟩
    clear s_VP f_VP z_VP s_VR f_VR z_VR
    have S22 := b22.size
    simp only [World.size_alloc] at S22
    replace VP := VP.kept b22
    replace VR := VR.kept b22
    replace B := thenB B b22
    clear b22
    obtain ⟨s_VP, f_VP, z_VP⟩ := VP.open
    obtain ⟨s_VR, f_VR, z_VR⟩ := VR.open
    have Bo := B
    replace VP := VP.kept (belowA w22 (.cells #[.int .i64 0, .int .i64 x.p] 39))
    replace VR := VR.kept (belowA w22 (.cells #[.int .i64 0, .int .i64 x.p] 39))
    replace B := thenB B (belowA w22 (.cells #[.int .i64 0, .int .i64 x.p] 39))
    have VA := V.new w22 [.int .i64 0, .int .i64 x.p] 39
    clear s_VP f_VP z_VP s_VR f_VR z_VR
    obtain ⟨s_VP, f_VP, z_VP⟩ := VP.open
    obtain ⟨s_VR, f_VR, z_VR⟩ := VR.open
    obtain ⟨s_VA, f_VA, z_VA⟩ := VA.open
    replace Bo := B
    clear s_VP f_VP z_VP s_VR f_VR z_VR s_VA f_VA z_VA
    have HBl := Hid.mk B
    clear B Bo
    generalize hvr : w21.heap.size = br at *
    generalize hva : w22.heap.size = ba at *
    obtain ⟨s_VP, f_VP, z_VP⟩ := VP.open
    obtain ⟨s_VR, f_VR, z_VR⟩ := VR.open
    obtain ⟨s_VA, f_VA, z_VA⟩ := VA.open
    go_wp2
    go_loopw [7] (fun i wr => ∃ k : Nat, k ≤ m ∧ i = .int .i64 k ∧ V wr wA.heap.size [.int .i64 f, .int .i64 t, .int .i64 r, .int .i64 l, .int .i64 u, .int .i64 v, .slice s g0 g1] ∧ V wr br [.int .i64 0, .int .i64 K, .int .i64 x.s.a, .int .i64 x.s.b, .int .i64 x.s.c, .int .i64 x.s.d, .int .i64 x.s.e, .int .i64 x.s.f, .int .i64 x.s.g, .int .i64 x.s.h, .int .i64 x.s.r, .int .i64 x.p, .int .i64 x.q] ∧ V wr ba [.int .i64 0, .int .i64 x.p] ∧ Below wA.heap.size wA wr) (fun i _ => m - (intOf i).toNat)
    case atStart => exact ⟨0, Nat.zero_le _, rfl, VP, VR, VA, HBl.out⟩
    case round =>
      clear s_VP f_VP z_VP s_VR f_VR z_VR s_VA f_VA z_VA
      clear VP VR VA HBl
      obtain ⟨k, hk, rfl, VP, VR, VA, B⟩ := hrel
      by_cases hlt : k < m
      · obtain ⟨y, hy1⟩ : ∃ y, xs.getD k zRule = y := ⟨_, rfl⟩
        have hk1 : (k : Int) < (m : Int) := by omega
        rcases HR.out.kept B with h0 | ⟨b1, o1, hb1e, hca⟩
        · rw [h0] at hlen; simp at hlen; omega
        simp only [Option.some.injEq, Addr.mk.injEq, and_true] at hb1e
        obtain ⟨rfl, rfl⟩ := hb1e
        obtain ⟨p0, p1, p2, p3, p4, p5, p6, p7, p8, p9, p10⟩ := RdRule.cells hca k (by omega) y hy1
        clear p9 p10 hca
        simp only [Nat.zero_add] at p0 p1 p2 p3 p4 p5 p6 p7 p8
        have hb1 := World.block_lt_of_cell? (a := ⟨c, k * 11, none⟩) _ p0
        simp only at hb1
        have CHy := Hid.mk (CH.out y.s)
        obtain ⟨b, hbd⟩ : ∃ b, hoP y.s f t r l u v g0 = b := ⟨_, rfl⟩
        rw [hbd] at CHy
        have hway : ((k : Int) < (K : Int) ∧ ((k : Int) == (K : Int)) = false ∧ b = false) ∨ ((k : Int) = (K : Int) ∧ b = true) ∨ (¬ (k : Int) < (K : Int) ∧ ((k : Int) == (K : Int)) = false) := by
          rcases Nat.lt_trichotomy k K with h | h | h
          · refine .inl ⟨by omega, by simp; omega, ?_⟩
            rw [← hbd, ← hy1]; exact hlo.out k (by omega) h
          · refine .inr (.inl ⟨by omega, ?_⟩)
            rw [← hbd, ← hy1, h]; exact hhi.out
          · exact .inr (.inr ⟨by omega, by simp; omega⟩)
        replace hway := Hid.mk hway
        clear hbd hy1
        obtain ⟨s_VP, f_VP, z_VP⟩ := VP.open
        obtain ⟨s_VR, f_VR, z_VR⟩ := VR.open
        obtain ⟨s_VA, f_VA, z_VA⟩ := VA.open
        have Bo := B
        clear s_VP f_VP z_VP s_VR f_VR z_VR s_VA f_VA z_VA
        have K : ∀ w' : World, Below wr.heap.size wr w' → (w'.cell? ⟨wA.heap.size, 0, none⟩ = some (.int .i64 f) ∧ w'.cell? ⟨wA.heap.size, 1, none⟩ = some (.int .i64 t) ∧ w'.cell? ⟨wA.heap.size, 2, none⟩ = some (.int .i64 r) ∧ w'.cell? ⟨wA.heap.size, 3, none⟩ = some (.int .i64 l) ∧ w'.cell? ⟨wA.heap.size, 4, none⟩ = some (.int .i64 u) ∧ w'.cell? ⟨wA.heap.size, 5, none⟩ = some (.int .i64 v) ∧ w'.cell? ⟨wA.heap.size, 6, none⟩ = some (.slice s g0 g1) ∧ w'.cell? ⟨c, k * 11, none⟩ = some (.int .i64 y.s.a) ∧ w'.cell? ⟨c, k * 11 + 1, none⟩ = some (.int .i64 y.s.b) ∧ w'.cell? ⟨c, k * 11 + 2, none⟩ = some (.int .i64 y.s.c) ∧ w'.cell? ⟨c, k * 11 + 3, none⟩ = some (.int .i64 y.s.d) ∧ w'.cell? ⟨c, k * 11 + 4, none⟩ = some (.int .i64 y.s.e) ∧ w'.cell? ⟨c, k * 11 + 5, none⟩ = some (.int .i64 y.s.f) ∧ w'.cell? ⟨c, k * 11 + 6, none⟩ = some (.int .i64 y.s.g) ∧ w'.cell? ⟨c, k * 11 + 7, none⟩ = some (.int .i64 y.s.h) ∧ w'.cell? ⟨c, k * 11 + 8, none⟩ = some (.int .i64 y.s.r)) := fun w' h => ⟨(VP.kept h).2.1 0 (by simp), (VP.kept h).2.1 1 (by simp), (VP.kept h).2.1 2 (by simp), (VP.kept h).2.1 3 (by simp), (VP.kept h).2.1 4 (by simp), (VP.kept h).2.1 5 (by simp), (VP.kept h).2.1 6 (by simp), ((bcell h).1 _ _ hb1).trans p0, ((bcell h).1 _ _ hb1).trans p1, ((bcell h).1 _ _ hb1).trans p2, ((bcell h).1 _ _ hb1).trans p3, ((bcell h).1 _ _ hb1).trans p4, ((bcell h).1 _ _ hb1).trans p5, ((bcell h).1 _ _ hb1).trans p6, ((bcell h).1 _ _ hb1).trans p7, ((bcell h).1 _ _ hb1).trans p8⟩
        have K := Hid.mk K
        clear p0 p1 p2 p3 p4 p5 p6 p7 p8
        go_wp2_with fail
        refine wp_region_held_drew (S := (fun w' => w'.cell? ⟨wA.heap.size, 0, none⟩ = some (.int .i64 f) ∧ w'.cell? ⟨wA.heap.size, 1, none⟩ = some (.int .i64 t) ∧ w'.cell? ⟨wA.heap.size, 2, none⟩ = some (.int .i64 r) ∧ w'.cell? ⟨wA.heap.size, 3, none⟩ = some (.int .i64 l) ∧ w'.cell? ⟨wA.heap.size, 4, none⟩ = some (.int .i64 u) ∧ w'.cell? ⟨wA.heap.size, 5, none⟩ = some (.int .i64 v) ∧ w'.cell? ⟨wA.heap.size, 6, none⟩ = some (.slice s g0 g1) ∧ w'.cell? ⟨c, k * 11, none⟩ = some (.int .i64 y.s.a) ∧ w'.cell? ⟨c, k * 11 + 1, none⟩ = some (.int .i64 y.s.b) ∧ w'.cell? ⟨c, k * 11 + 2, none⟩ = some (.int .i64 y.s.c) ∧ w'.cell? ⟨c, k * 11 + 3, none⟩ = some (.int .i64 y.s.d) ∧ w'.cell? ⟨c, k * 11 + 4, none⟩ = some (.int .i64 y.s.e) ∧ w'.cell? ⟨c, k * 11 + 5, none⟩ = some (.int .i64 y.s.f) ∧ w'.cell? ⟨c, k * 11 + 6, none⟩ = some (.int .i64 y.s.g) ∧ w'.cell? ⟨c, k * 11 + 7, none⟩ = some (.int .i64 y.s.h) ∧ w'.cell? ⟨c, k * 11 + 8, none⟩ = some (.int .i64 y.s.r))) (by kernel_rfl) (K.out _ (Below.refl _ _).drew) (fun hHeld => ?_)
        refine wpAnyH_take (i := 0) (oi := _) (v := ?vz73u1) rfl (by kernel_rfl) (by kernel_rfl) (by kernel_rfl) (fun _ _ _ h => h) (Or.inl ⟨by rfl, ?hyz73u1⟩) hHeld ?restz73u1
        case hyz73u1 => (intro w hSw; (try dsimp only at hSw); go_simp; first | done | with_reducible rfl)
        try simp only [Act.put, List.getElem_toArray, List.getElem_cons_zero, List.setIfInBounds_toArray, List.set_cons_zero, List.set_cons_succ]
        refine wpAnyH_take (i := 1) (oi := _) (v := ?vz73u2) rfl (by kernel_rfl) (by kernel_rfl) (by kernel_rfl) (fun _ _ _ h => h) (Or.inl ⟨by rfl, ?hyz73u2⟩) hHeld ?restz73u2
        case hyz73u2 => (intro w hSw; (try dsimp only at hSw); go_simp; first | done | with_reducible rfl)
        try simp only [Act.put, List.getElem_toArray, List.getElem_cons_zero, List.getElem_cons_succ, List.setIfInBounds_toArray, List.set_cons_zero, List.set_cons_succ]
        refine wpAnyH_take (i := 2) (oi := _) (v := ?vz73u3) rfl (by kernel_rfl) (by kernel_rfl) (by kernel_rfl) (fun _ _ _ h => h) (Or.inl ⟨by rfl, ?hyz73u3⟩) hHeld ?restz73u3
        case hyz73u3 => (intro w hSw; (try dsimp only at hSw); go_simp; first | done | with_reducible rfl)
        try simp only [Act.put, List.getElem_toArray, List.getElem_cons_zero, List.getElem_cons_succ, List.setIfInBounds_toArray, List.set_cons_zero, List.set_cons_succ]
        refine wpAnyH_take (i := 3) (oi := _) (v := ?vz73u4) rfl (by kernel_rfl) (by kernel_rfl) (by kernel_rfl) (fun _ _ _ h => h) (Or.inl ⟨by rfl, ?hyz73u4⟩) hHeld ?restz73u4
        case hyz73u4 => (intro w hSw; (try dsimp only at hSw); go_simp; first | done | with_reducible rfl)
        try simp only [Act.put, List.getElem_toArray, List.getElem_cons_zero, List.getElem_cons_succ, List.setIfInBounds_toArray, List.set_cons_zero, List.set_cons_succ]
        refine wpAnyH_take (i := 4) (oi := _) (v := ?vz73u5) rfl (by kernel_rfl) (by kernel_rfl) (by kernel_rfl) (fun _ _ _ h => h) (Or.inl ⟨by rfl, ?hyz73u5⟩) hHeld ?restz73u5
        case hyz73u5 => (intro w hSw; (try dsimp only at hSw); go_simp; first | done | with_reducible rfl)
        try simp only [Act.put, List.getElem_toArray, List.getElem_cons_zero, List.getElem_cons_succ, List.setIfInBounds_toArray, List.set_cons_zero, List.set_cons_succ]
        refine wpAnyH_take (i := 5) (oi := _) (v := ?vz73u6) rfl (by kernel_rfl) (by kernel_rfl) (by kernel_rfl) (fun _ _ _ h => h) (Or.inl ⟨by rfl, ?hyz73u6⟩) hHeld ?restz73u6
        case hyz73u6 => (intro w hSw; (try dsimp only at hSw); go_simp; first | done | with_reducible rfl)
        try simp only [Act.put, List.getElem_toArray, List.getElem_cons_zero, List.getElem_cons_succ, List.setIfInBounds_toArray, List.set_cons_zero, List.set_cons_succ]
        refine wpAnyH_ready (rs := [6]) (by kernel_rfl) (by simp) ?_
        refine AllReadyH.cons (o := _) rfl (fun K0 hK0 => ?_) AllReadyH.nil
        go_simp
        go_at_call 18
        refine (CHy.out _).mono ?_
        rintro e wz73v7 ⟨rfl, bz73v7⟩
        refine hK0.out _ _ (K.out _ (thenB (Below.refl _ _).drew bz73v7)) (fun hHeld => ?_)
        clear hK0 K0
        try simp only [Act.put, List.getElem_toArray, List.getElem_cons_zero, List.getElem_cons_succ, List.setIfInBounds_toArray, List.set_cons_zero, List.set_cons_succ]
        refine wpAnyH_take (i := 7) (oi := _) (v := ?vz73u8) rfl (by kernel_rfl) (by kernel_rfl) (by kernel_rfl) (fun _ _ _ h => h) (Or.inl ⟨by rfl, ?hyz73u8⟩) hHeld ?restz73u8
        case hyz73u8 => (intro w hSw; (try dsimp only at hSw); go_simp; first | done | with_reducible rfl)
        try simp only [Act.put, List.getElem_toArray, List.getElem_cons_zero, List.getElem_cons_succ, List.setIfInBounds_toArray, List.set_cons_zero, List.set_cons_succ]
        refine wpAnyH_done (by kernel_rfl) ?_ _
        clear K hHeld
        replace VP := VP.kept (thenB (Below.refl _ _).drew bz73v7)
        replace VR := VR.kept (thenB (Below.refl _ _).drew bz73v7)
        replace VA := VA.kept (thenB (Below.refl _ _).drew bz73v7)
        replace B := thenB B (thenB (Below.refl _ _).drew bz73v7)
        have Sz73 := ((thenB (Below.refl _ _).drew bz73v7)).size
        clear bz73v7
        obtain ⟨s_VP, f_VP, z_VP⟩ := VP.open
        obtain ⟨s_VR, f_VR, z_VR⟩ := VR.open
        obtain ⟨s_VA, f_VA, z_VA⟩ := VA.open
        have Bo := B
        rcases hway.out with ⟨i1, i2, rfl⟩ | ⟨i1, rfl⟩ | ⟨i1, i2⟩
        · skip
          clear hway
          go_wp2
          go_roundw
          case rel => exact ⟨k + 1, by omega, by go_num, VP, VR, VA, B⟩
          case measure => simp [intOf]; omega
        · skip
          clear hway
          go_wp2
          go_roundw
          case rel => exact ⟨k + 1, by omega, by go_num, VP, VR, VA, B⟩
          case measure => simp [intOf]; omega
        · skip
          clear hway
          cases b
          all_goals
            go_wp2
            go_roundw
            case rel => exact ⟨k + 1, by omega, by go_num, VP, VR, VA, B⟩
            case measure => simp [intOf]; omega
      · obtain rfl : k = m := by omega
        obtain ⟨s_VP, f_VP, z_VP⟩ := VP.open
        obtain ⟨s_VR, f_VR, z_VR⟩ := VR.open
        obtain ⟨s_VA, f_VA, z_VA⟩ := VA.open
        have HF := Hid.mk (HB0.out.trans (B.mono HB0.out.size))
        go_wp2
        go_ret
        exact ⟨rfl, HF.out⟩

end Go.Proofs.YtngkahchhioncaaDoor
