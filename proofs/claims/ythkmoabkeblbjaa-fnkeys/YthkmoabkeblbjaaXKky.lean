/- The law FnKeys: its walk. -/
import Derived.Test.YthkmoabkeblbjaaNf
import Derived.Test.YthkmoabkeblbjaaKzJ
import Derived.Test.YthkmoabkeblbjaaNe
import Derived.Test.YthkmoabkeblbjaaNo
import Derived.Test.YthkmoabkeblbjaaNu
namespace Go.Proofs.Ythkmoabkeblbjaa
open Go.RowKit

theorem extractY0 (u v x y z t r : Value) (w : World) : (Instr.extract (.tuple #[u, v, x, y, z, t, r]) 0).run Try.prog w = .ok u w := by kernel_rfl
theorem extractY1 (u v x y z t r : Value) (w : World) : (Instr.extract (.tuple #[u, v, x, y, z, t, r]) 1).run Try.prog w = .ok v w := by kernel_rfl
theorem extractY2 (u v x y z t r : Value) (w : World) : (Instr.extract (.tuple #[u, v, x, y, z, t, r]) 2).run Try.prog w = .ok x w := by kernel_rfl
theorem extractY3 (u v x y z t r : Value) (w : World) : (Instr.extract (.tuple #[u, v, x, y, z, t, r]) 3).run Try.prog w = .ok y w := by kernel_rfl
theorem extractY4 (u v x y z t r : Value) (w : World) : (Instr.extract (.tuple #[u, v, x, y, z, t, r]) 4).run Try.prog w = .ok z w := by kernel_rfl
theorem extractY5 (u v x y z t r : Value) (w : World) : (Instr.extract (.tuple #[u, v, x, y, z, t, r]) 5).run Try.prog w = .ok t w := by kernel_rfl
theorem extractY6 (u v x y z t r : Value) (w : World) : (Instr.extract (.tuple #[u, v, x, y, z, t, r]) 6).run Try.prog w = .ok r w := by kernel_rfl

theorem eqKy0 (a b c e : Int) (w : World) : (Op.equalIn 10000 28 (.agg #[.int .i64 a, .int .i64 b, .int .i64 c, .int .i64 e]) (.agg #[.int .i64 a, .int .i64 b, .int .i64 c, .int .i64 e])).run Try.prog w = .ok true w := by
  have u3 := Try.underlying2
  have a3 := Try.isAgg2
  have z3 := Try.sizeOf2
  have hS : Try.prog.underlying 28 = some (.struct (Try.prog.fieldsOf 28)) := by kernel_rfl
  rw [run_equalIn_agg w 9999 28 _ _ hS (by kernel_rfl)]
  simp only [Program.fieldsOf, Try.underlying28]
  go_simp

theorem opL_len9 (xs : List T4) (kn : List Int) : (opL xs kn).length ≤ 400 := by
  rcases kn_ways xs kn with ⟨_, h, _⟩ | ⟨h1, h, _⟩
  · rw [h]; exact Nat.zero_le _
  · obtain ⟨hv, _, hpl, hri⟩ := knC_zero h1
    have h4 := (openL_open (tfC_ahead hv) hri hpl).way.len
    have h5 := (tfC_zero hv).1
    rw [h]; omega

/-- What is known: the nonces, rising. -/
def kyN (ni nr : Int) : List Int := if ni < nr then [ni, nr] else [ni]

theorem kyN_rising (ni nr : Int) : Rising (kyN ni nr) := by
  unfold kyN
  split
  · rename_i h
    simpa [Rising] using h
  · simp [Rising]

theorem kyN_len (ni nr : Int) : (kyN ni nr).length ≤ 2 := by
  unfold kyN
  split <;> simp

theorem put_pt {xs : List T4} (t : T4) (h : tfC xs = 0) : ptT xs t = put xs t := by
  rcases pt_ways xs t with ⟨h1, _⟩ | ⟨_, e⟩
  · exact absurd h h1
  · exact e

/-- All that the law asks of the numbers. -/
theorem keys_law {xs : List T4} {ni nr ow hf s1 s2 : Int} (h3 : (mkR xs ni nr ow hf s1 s2).c = 0) : (0 ≤ ni ∧ ni < xs.length) ∧ (0 ≤ nr ∧ nr < xs.length) ∧ (0 ≤ ow ∧ ow < xs.length) ∧ (0 ≤ hf ∧ hf < xs.length) ∧ tfC (mkR xs ni nr ow hf s1 s2).l = 0 ∧ (mkR xs ni nr ow hf s1 s2).k.s ≠ (mkR xs ni nr ow hf s1 s2).k.d ∧ (mkR xs ni nr ow hf s1 s2).k.o ≠ (mkR xs ni nr ow hf s1 s2).k.b ∧
    ((ptT (mkR xs ni nr ow hf s1 s2).l ⟨6, ow, 0, 0⟩).c = 0 → tfC (ptT (mkR xs ni nr ow hf s1 s2).l ⟨6, ow, 0, 0⟩).l = 0 ∧
      mkR (ptT (mkR xs ni nr ow hf s1 s2).l ⟨6, ow, 0, 0⟩).l ni nr (tmAt xs hf).a (ptT (mkR xs ni nr ow hf s1 s2).l ⟨6, ow, 0, 0⟩).k s1 s2 = ⟨0, (mkR xs ni nr ow hf s1 s2).k, (ptT (mkR xs ni nr ow hf s1 s2).l ⟨6, ow, 0, 0⟩).l⟩ ∧
      knC (ptT (mkR xs ni nr ow hf s1 s2).l ⟨6, ow, 0, 0⟩).l (kyN ni nr) = 0 ∧
      (scB (ptT (mkR xs ni nr ow hf s1 s2).l ⟨6, ow, 0, 0⟩).l (kyN ni nr) (mkR xs ni nr ow hf s1 s2).k.o = true ∨ dvB (ptT (mkR xs ni nr ow hf s1 s2).l ⟨6, ow, 0, 0⟩).l (kyN ni nr) (mkR xs ni nr ow hf s1 s2).k.s = true ∨ inL (opL (ptT (mkR xs ni nr ow hf s1 s2).l ⟨6, ow, 0, 0⟩).l (kyN ni nr)) (mkR xs ni nr ow hf s1 s2).k.o = true)) := by
  obtain ⟨q1, _, _, _, _, q6, q7, k1, k2, k3, k4⟩ := mkk_made h3
  have hp := aq_places q1
  obtain ⟨_, n1, n2⟩ := keys_apart h3
  refine ⟨hp _ (by simp), hp _ (by simp), hp _ (by simp), hp _ (by simp), q6, n1, n2, fun hc => ?_⟩
  rw [put_pt _ q6] at hc ⊢
  have hs := keys_same h3 hc
  obtain ⟨p1, p2, _, _, _⟩ := put_right q6 hc
  have p2' : Ext (mkR xs ni nr ow hf s1 s2).l (put (mkR xs ni nr ow hf s1 s2).l ⟨6, ow, 0, 0⟩).l := p2
  have hl := (q7.trans p2').len
  have hkn : knC (put (mkR xs ni nr ow hf s1 s2).l ⟨6, ow, 0, 0⟩).l (kyN ni nr) = 0 := knC_ok p1 (fun z hz => by
    have a1 := hp ni (by simp)
    have a2 := hp nr (by simp)
    unfold kyN at hz
    split at hz
    · simp only [List.mem_cons, List.not_mem_nil, or_false] at hz
      rcases hz with rfl | rfl <;> omega
    · simp only [List.mem_cons, List.not_mem_nil, or_false] at hz
      subst hz; omega) (kyN_rising ni nr)
  exact ⟨p1, hs, hkn, keys_closed p1 hkn (k3.more p2')⟩

set_option maxRecDepth 20000 in
set_option maxHeartbeats 16000000 in
theorem xKky_walk (a : Option Addr) (n ca : Nat) (zs : List Int) (w : World) (ha : Rd .u8 w a zs) (hb : Bytes zs) (hn : zs.length = n) :
    Calls Try.prog 3 #[.slice a n ca] w fun e w' => e = .returned (.bool true) ∧ Below w.heap.size w w' := by
  by_cases hbig : 1048576 < n
  · have h1 : (1048576 : Int) < (n : Int) := by omega
    go_enter Try.func3, Try.ntmps3
    go_wp2_with (first | (go_at_call 13; go_in) | fail)
    go_ret
    exact ⟨rfl, Below.refl _ _⟩
  have h1 : ¬ (1048576 : Int) < (n : Int) := by omega
  have CD := Hid.mk (drawMakeKeys_ok a n ca zs w ha hb hn (by omega))
  clear ha hb hn hbig
  go_enter Try.func3, Try.ntmps3
  go_wp2_with (first | (go_at_call 13; go_in) | fail)
  refine CD.out.mono ?_
  rintro e wA ⟨c, d, m, xs, ni, nr, ow, hf, s1, s2, rfl, ⟨hlen, hm, hcap, hnc, hok⟩, _, RX, B0⟩
  have e0 := extractY0
  have e1 := extractY1
  have e2 := extractY2
  have e3 := extractY3
  have e4 := extractY4
  have e5 := extractY5
  have e6 := extractY6
  have CI := Hid.mk (fun w h => implMakeKeys_ok c m d xs ni nr ow hf s1 s2 w h hlen (by omega) hok)
  have CS := Hid.mk (fun w h => specMakeKeys_ok c m d xs ni nr ow hf s1 s2 w h hlen (by omega) hcap hnc)
  have HB0 := Hid.mk B0
  have HR := Hid.mk RX
  have HLEN := Hid.mk hlen
  have HK := fun h => keys_law (xs := xs) (ni := ni) (nr := nr) (ow := ow) (hf := hf) (s1 := s1) (s2 := s2) h
  clear B0 CD RX hcap hnc hok
  have B := Below.refl wA.heap.size wA
  obtain ⟨P, hP⟩ : ∃ P, mkR xs ni nr ow hf s1 s2 = P := ⟨_, rfl⟩
  rw [hP] at CI CS HK
  clear hP
  obtain ⟨kc, ⟨ks, kd, ko, kb⟩, ls⟩ := P
  simp only at CI CS HK
  obtain ⟨kl, hkl⟩ : ∃ kl, ls.length = kl := ⟨_, rfl⟩
  rw [hkl] at CI CS
  by_cases h3 : kc = 0
  rotate_left
  · have qf : ∀ (c : Option Addr) (d : Nat) (w : World), (Instr.field 30 (.agg #[.int .i64 kc, .int .i64 ks, .int .i64 kd, .int .i64 ko, .int .i64 kb, .slice c kl d]) 0).run Try.prog w = .ok (.int .i64 kc) w := fun c d w => by kernel_rfl
    have h3' : (kc != 0) = true := by simp [h3]
    have h4' : (kc == kc) = true := by simp
    clear h3 hkl HK hlen
    go_wp2_with fail
    refine (CI.out _ (HR.out.kept B)).mono ?_
    rintro e w1 ⟨c1, d1, rfl, O1, b1⟩
    have S1 := b1.size
    replace B := thenB B b1
    clear b1
    have Bo := B
    replace O1 := O1.kept (belowA w1 (.cells #[.int .i64 kc, .int .i64 ks, .int .i64 kd, .int .i64 ko, .int .i64 kb, .slice c1 kl d1] 30))
    replace B := thenB B (belowA w1 (.cells #[.int .i64 kc, .int .i64 ks, .int .i64 kd, .int .i64 ko, .int .i64 kb, .slice c1 kl d1] 30))
    have VR := V.new w1 [.int .i64 kc, .int .i64 ks, .int .i64 kd, .int .i64 ko, .int .i64 kb, .slice c1 kl d1] 30
    obtain ⟨s_VR, f_VR, z_VR⟩ := VR.open
    have Bo := B
    go_upto_region 6 with fail
    clear s_VR f_VR z_VR
    have K : ∀ w' : World, Below (w1.alloc (.cells #[.int .i64 kc, .int .i64 ks, .int .i64 kd, .int .i64 ko, .int .i64 kb, .slice c1 kl d1] 30)).heap.size (w1.alloc (.cells #[.int .i64 kc, .int .i64 ks, .int .i64 kd, .int .i64 ko, .int .i64 kb, .slice c1 kl d1] 30)) w' → (w'.cell? ⟨w1.heap.size, 0, none⟩ = some (.int .i64 kc) ∧ w'.cell? ⟨w1.heap.size, 1, none⟩ = some (.int .i64 ks) ∧ w'.cell? ⟨w1.heap.size, 2, none⟩ = some (.int .i64 kd) ∧ w'.cell? ⟨w1.heap.size, 3, none⟩ = some (.int .i64 ko) ∧ w'.cell? ⟨w1.heap.size, 4, none⟩ = some (.int .i64 kb) ∧ w'.cell? ⟨w1.heap.size, 5, none⟩ = some (.slice c1 kl d1)) := fun w' h => ⟨(VR.kept h).2.1 0 (by simp), (VR.kept h).2.1 1 (by simp), (VR.kept h).2.1 2 (by simp), (VR.kept h).2.1 3 (by simp), (VR.kept h).2.1 4 (by simp), (VR.kept h).2.1 5 (by simp)⟩
    have K := Hid.mk K
    refine wp_region_held_drew (S := (fun w' => w'.cell? ⟨w1.heap.size, 0, none⟩ = some (.int .i64 kc) ∧ w'.cell? ⟨w1.heap.size, 1, none⟩ = some (.int .i64 ks) ∧ w'.cell? ⟨w1.heap.size, 2, none⟩ = some (.int .i64 kd) ∧ w'.cell? ⟨w1.heap.size, 3, none⟩ = some (.int .i64 ko) ∧ w'.cell? ⟨w1.heap.size, 4, none⟩ = some (.int .i64 kb) ∧ w'.cell? ⟨w1.heap.size, 5, none⟩ = some (.slice c1 kl d1))) (by kernel_rfl) (K.out _ (Below.refl _ _).drew) (fun hHeld => ?_)
    refine wpAnyH_take (i := 0) (oi := _) (v := ?vz1u1) rfl (by kernel_rfl) (by kernel_rfl) (by kernel_rfl) (fun _ _ _ h => h) (Or.inl ⟨by kernel_rfl, ?hyz1u1⟩) hHeld ?restz1u1
    case hyz1u1 => (intro w hSw; (try dsimp only at hSw); go_simp; first | done | with_reducible rfl)
    try simp only [Act.put, List.getElem_toArray, List.getElem_cons_zero, List.setIfInBounds_toArray, List.set_cons_zero, List.set_cons_succ]
    refine wpAnyH_take (i := 1) (oi := _) (v := ?vz1u2) rfl (by kernel_rfl) (by kernel_rfl) (by kernel_rfl) (fun _ _ _ h => h) (Or.inl ⟨by kernel_rfl, ?hyz1u2⟩) hHeld ?restz1u2
    case hyz1u2 => (intro w hSw; (try dsimp only at hSw); go_simp; first | done | with_reducible rfl)
    try simp only [Act.put, List.getElem_toArray, List.getElem_cons_zero, List.getElem_cons_succ, List.setIfInBounds_toArray, List.set_cons_zero, List.set_cons_succ]
    refine wpAnyH_take (i := 2) (oi := _) (v := ?vz1u3) rfl (by kernel_rfl) (by kernel_rfl) (by kernel_rfl) (fun _ _ _ h => h) (Or.inl ⟨by kernel_rfl, ?hyz1u3⟩) hHeld ?restz1u3
    case hyz1u3 => (intro w hSw; (try dsimp only at hSw); go_simp; first | done | with_reducible rfl)
    try simp only [Act.put, List.getElem_toArray, List.getElem_cons_zero, List.getElem_cons_succ, List.setIfInBounds_toArray, List.set_cons_zero, List.set_cons_succ]
    refine wpAnyH_take (i := 3) (oi := _) (v := ?vz1u4) rfl (by kernel_rfl) (by kernel_rfl) (by kernel_rfl) (fun _ _ _ h => h) (Or.inl ⟨by kernel_rfl, ?hyz1u4⟩) hHeld ?restz1u4
    case hyz1u4 => (intro w hSw; (try dsimp only at hSw); go_simp; first | done | with_reducible rfl)
    try simp only [Act.put, List.getElem_toArray, List.getElem_cons_zero, List.getElem_cons_succ, List.setIfInBounds_toArray, List.set_cons_zero, List.set_cons_succ]
    refine wpAnyH_take (i := 4) (oi := _) (v := ?vz1u5) rfl (by kernel_rfl) (by kernel_rfl) (by kernel_rfl) (fun _ _ _ h => h) (Or.inl ⟨by kernel_rfl, ?hyz1u5⟩) hHeld ?restz1u5
    case hyz1u5 => (intro w hSw; (try dsimp only at hSw); go_simp; first | done | with_reducible rfl)
    try simp only [Act.put, List.getElem_toArray, List.getElem_cons_zero, List.getElem_cons_succ, List.setIfInBounds_toArray, List.set_cons_zero, List.set_cons_succ]
    refine wpAnyH_take (i := 5) (oi := _) (v := ?vz1u6) rfl (by kernel_rfl) (by kernel_rfl) (by kernel_rfl) (fun _ _ _ h => h) (Or.inl ⟨by kernel_rfl, ?hyz1u6⟩) hHeld ?restz1u6
    case hyz1u6 => (intro w hSw; (try dsimp only at hSw); go_simp; first | done | with_reducible rfl)
    try simp only [Act.put, List.getElem_toArray, List.getElem_cons_zero, List.getElem_cons_succ, List.setIfInBounds_toArray, List.set_cons_zero, List.set_cons_succ]
    refine wpAnyH_take (i := 6) (oi := _) (v := ?vz1u7) rfl (by kernel_rfl) (by kernel_rfl) (by kernel_rfl) (fun _ _ _ h => h) (Or.inl ⟨by kernel_rfl, ?hyz1u7⟩) hHeld ?restz1u7
    case hyz1u7 => (intro w hSw; (try dsimp only at hSw); go_simp; first | done | with_reducible rfl)
    try simp only [Act.put, List.getElem_toArray, List.getElem_cons_zero, List.getElem_cons_succ, List.setIfInBounds_toArray, List.set_cons_zero, List.set_cons_succ]
    refine wpAnyH_take (i := 9) (oi := _) (v := ?vz1u8) rfl (by kernel_rfl) (by kernel_rfl) (by kernel_rfl) (fun _ _ _ h => h) (Or.inl ⟨by kernel_rfl, ?hyz1u8⟩) hHeld ?restz1u8
    case hyz1u8 => (intro w hSw; (try dsimp only at hSw); go_simp; first | done | with_reducible rfl)
    try simp only [Act.put, List.getElem_toArray, List.getElem_cons_zero, List.getElem_cons_succ, List.setIfInBounds_toArray, List.set_cons_zero, List.set_cons_succ]
    refine wpAnyH_take (i := 10) (oi := _) (v := ?vz1u9) rfl (by kernel_rfl) (by kernel_rfl) (by kernel_rfl) (fun _ _ _ h => h) (Or.inl ⟨by kernel_rfl, ?hyz1u9⟩) hHeld ?restz1u9
    case hyz1u9 => (intro w hSw; (try dsimp only at hSw); go_simp; first | done | with_reducible rfl)
    try simp only [Act.put, List.getElem_toArray, List.getElem_cons_zero, List.getElem_cons_succ, List.setIfInBounds_toArray, List.set_cons_zero, List.set_cons_succ]
    refine wpAnyH_ready (rs := [7]) (by kernel_rfl) (by simp) ?_
    refine AllReadyH.cons (o := _) rfl (fun K0 hK0 => ?_) AllReadyH.nil
    go_simp
    go_at_call 16
    refine (CS.out _ ((HR.out.kept B).kept (Below.refl _ _).drew)).mono ?_
    rintro e wz1v10 ⟨c2, d2, rfl, _, bz1v10⟩
    refine hK0.out _ _ (K.out _ (thenB (Below.refl _ _).drew bz1v10)) (fun hHeld => ?_)
    clear hK0 K0
    try simp only [Act.put, List.getElem_toArray, List.getElem_cons_zero, List.getElem_cons_succ, List.setIfInBounds_toArray, List.set_cons_zero, List.set_cons_succ]
    refine wpAnyH_take (i := 8) (oi := _) (v := ?vz1u11) rfl (by kernel_rfl) (by kernel_rfl) (by kernel_rfl) (fun _ _ _ h => h) (Or.inl ⟨by kernel_rfl, ?hyz1u11⟩) hHeld ?restz1u11
    case hyz1u11 => (intro w hSw; (try dsimp only at hSw); go_simp; first | done | with_reducible rfl)
    try simp only [Act.put, List.getElem_toArray, List.getElem_cons_zero, List.getElem_cons_succ, List.setIfInBounds_toArray, List.set_cons_zero, List.set_cons_succ]
    refine wpAnyH_take (i := 11) (oi := _) (v := ?vz1u12) rfl (by kernel_rfl) (by kernel_rfl) (by kernel_rfl) (fun _ _ _ h => h) (Or.inl ⟨by kernel_rfl, ?hyz1u12⟩) hHeld ?restz1u12
    case hyz1u12 => (intro w hSw; (try dsimp only at hSw); go_simp; first | done | with_reducible rfl)
    try simp only [Act.put, List.getElem_toArray, List.getElem_cons_zero, List.getElem_cons_succ, List.setIfInBounds_toArray, List.set_cons_zero, List.set_cons_succ]
    refine wpAnyH_take (i := 12) (oi := _) (v := ?vz1u13) rfl (by kernel_rfl) (by kernel_rfl) (by kernel_rfl) (fun _ _ _ h => h) (Or.inl ⟨by kernel_rfl, ?hyz1u13⟩) hHeld ?restz1u13
    case hyz1u13 => (intro w hSw; (try dsimp only at hSw); go_simp; first | done | with_reducible rfl)
    try simp only [Act.put, List.getElem_toArray, List.getElem_cons_zero, List.getElem_cons_succ, List.setIfInBounds_toArray, List.set_cons_zero, List.set_cons_succ]
    refine wpAnyH_done (by kernel_rfl) ?_ _
    clear K hHeld
    have bacc : Below (w1.alloc (.cells #[.int .i64 kc, .int .i64 ks, .int .i64 kd, .int .i64 ko, .int .i64 kb, .slice c1 kl d1] 30)).heap.size (w1.alloc (.cells #[.int .i64 kc, .int .i64 ks, .int .i64 kd, .int .i64 ko, .int .i64 kb, .slice c1 kl d1] 30)) wz1v10 := (thenB (Below.refl _ _).drew bz1v10)
    replace VR := VR.kept bacc
    replace O1 := O1.kept bacc
    replace B := thenB B bacc
    have Sz1 := (bacc).size
    clear bacc
    simp only [World.size_alloc] at Sz1
    clear bz1v10
    obtain ⟨s_VR, f_VR, z_VR⟩ := VR.open
    have Bo := B
    go_wp2
    go_ret
    exact ⟨rfl, HB0.out.trans (B.mono HB0.out.size)⟩
  · subst h3
    obtain ⟨pn, pr, po, ph, hz, hsd, hob, HK2⟩ := HK rfl
    clear HK CS
    have hl4 := (tfC_zero hz).1
    have hro := right_ok hz
    have q6 := build_t2
    have how : okT ⟨6, ow, 0, 0⟩ := ⟨(okI_of (x := 6) (by decide) (by decide)), okI_of (by simp only; omega) (by simp only; omega), (okI_of (x := 0) (by decide) (by decide)), (okI_of (x := 0) (by decide) (by decide))⟩
    have CP := Hid.mk (fun c d w h => implPutTerm_ok c kl d ls ⟨6, ow, 0, 0⟩ w h hkl (by omega) hro how)
    have SP := Hid.mk (fun c d w h hd hc => specPutTerm_ok c kl d ls ⟨6, ow, 0, 0⟩ w h hkl (by omega) hd hc)
    have CTF := Hid.mk (fun c d w h => implTermsFault_ok c kl d ls w h hkl (by unfold maxLen; omega) hro)
    rw [hz] at CTF
    clear how
    generalize ptT ls ⟨6, ow, 0, 0⟩ = Q at *
    obtain ⟨pc, pk, l2⟩ := Q
    simp only at CP SP HK2
    obtain ⟨k2, hk2⟩ : ∃ k2, l2.length = k2 := ⟨_, rfl⟩
    rw [hk2] at CP SP
    have HKL := Hid.mk hkl
    by_cases hpc : pc = 0
    rotate_left
    · have qf : ∀ (c : Option Addr) (d : Nat) (w : World), (Instr.field 33 (.agg #[.int .i64 pc, .int .i64 pk, .slice c k2 d]) 0).run Try.prog w = .ok (.int .i64 pc) w := fun c d w => by kernel_rfl
      have h3' : (pc != 0) = true := by simp [hpc]
      have h4' : (pc == pc) = true := by simp
      clear hpc hk2 HK2 hz hsd hob hro hlen hkl CTF
      go_wp2_with fail
      refine (CI.out _ (HR.out.kept B)).mono ?_
      rintro e w31 ⟨c1, d1, rfl, O1, b31⟩
      have S31 := b31.size
      replace B := thenB B b31
      clear b31
      have Bo := B
      replace O1 := O1.kept (belowA w31 (.cells #[.int .i64 0, .int .i64 ks, .int .i64 kd, .int .i64 ko, .int .i64 kb, .slice c1 kl d1] 30))
      replace B := thenB B (belowA w31 (.cells #[.int .i64 0, .int .i64 ks, .int .i64 kd, .int .i64 ko, .int .i64 kb, .slice c1 kl d1] 30))
      have VR := V.new w31 [.int .i64 0, .int .i64 ks, .int .i64 kd, .int .i64 ko, .int .i64 kb, .slice c1 kl d1] 30
      obtain ⟨s_VR, f_VR, z_VR⟩ := VR.open
      have Bo := B
      go_wp2_with fail
      refine (CP.out _ _ _ O1.rd).mono ?_
      rintro e w32 ⟨c2, d2, rfl, O2, b32⟩
      clear s_VR f_VR z_VR
      have S32 := b32.size
      simp only [World.size_alloc] at S32
      replace VR := VR.kept b32
      replace O1 := O1.kept b32
      replace B := thenB B b32
      clear b32
      obtain ⟨s_VR, f_VR, z_VR⟩ := VR.open
      have Bo := B
      replace VR := VR.kept (belowA w32 (.cells #[.int .i64 pc, .int .i64 pk, .slice c2 k2 d2] 33))
      replace O1 := O1.kept (belowA w32 (.cells #[.int .i64 pc, .int .i64 pk, .slice c2 k2 d2] 33))
      replace O2 := O2.kept (belowA w32 (.cells #[.int .i64 pc, .int .i64 pk, .slice c2 k2 d2] 33))
      replace B := thenB B (belowA w32 (.cells #[.int .i64 pc, .int .i64 pk, .slice c2 k2 d2] 33))
      have VH := V.new w32 [.int .i64 pc, .int .i64 pk, .slice c2 k2 d2] 33
      clear s_VR f_VR z_VR
      obtain ⟨s_VR, f_VR, z_VR⟩ := VR.open
      obtain ⟨s_VH, f_VH, z_VH⟩ := VH.open
      replace Bo := B
      have hcp := O1.cap
      rw [HKL.out] at hcp
      have hnc := ownTerm_nocap O1
      have HOR := Hid.mk O1.rd
      go_upto_region 9 with fail
      clear s_VR f_VR z_VR s_VH f_VH z_VH
      have K : ∀ w' : World, Below (w32.alloc (.cells #[.int .i64 pc, .int .i64 pk, .slice c2 k2 d2] 33)).heap.size (w32.alloc (.cells #[.int .i64 pc, .int .i64 pk, .slice c2 k2 d2] 33)) w' → (w'.cell? ⟨w31.heap.size, 0, none⟩ = some (.int .i64 0) ∧ w'.cell? ⟨w31.heap.size, 1, none⟩ = some (.int .i64 ks) ∧ w'.cell? ⟨w31.heap.size, 2, none⟩ = some (.int .i64 kd) ∧ w'.cell? ⟨w31.heap.size, 3, none⟩ = some (.int .i64 ko) ∧ w'.cell? ⟨w31.heap.size, 4, none⟩ = some (.int .i64 kb) ∧ w'.cell? ⟨w31.heap.size, 5, none⟩ = some (.slice c1 kl d1) ∧ w'.cell? ⟨w32.heap.size, 0, none⟩ = some (.int .i64 pc) ∧ w'.cell? ⟨w32.heap.size, 1, none⟩ = some (.int .i64 pk) ∧ w'.cell? ⟨w32.heap.size, 2, none⟩ = some (.slice c2 k2 d2)) := fun w' h => ⟨(VR.kept h).2.1 0 (by simp), (VR.kept h).2.1 1 (by simp), (VR.kept h).2.1 2 (by simp), (VR.kept h).2.1 3 (by simp), (VR.kept h).2.1 4 (by simp), (VR.kept h).2.1 5 (by simp), (VH.kept h).2.1 0 (by simp), (VH.kept h).2.1 1 (by simp), (VH.kept h).2.1 2 (by simp)⟩
      have K := Hid.mk K
      refine wp_region_held_drew (S := (fun w' => w'.cell? ⟨w31.heap.size, 0, none⟩ = some (.int .i64 0) ∧ w'.cell? ⟨w31.heap.size, 1, none⟩ = some (.int .i64 ks) ∧ w'.cell? ⟨w31.heap.size, 2, none⟩ = some (.int .i64 kd) ∧ w'.cell? ⟨w31.heap.size, 3, none⟩ = some (.int .i64 ko) ∧ w'.cell? ⟨w31.heap.size, 4, none⟩ = some (.int .i64 kb) ∧ w'.cell? ⟨w31.heap.size, 5, none⟩ = some (.slice c1 kl d1) ∧ w'.cell? ⟨w32.heap.size, 0, none⟩ = some (.int .i64 pc) ∧ w'.cell? ⟨w32.heap.size, 1, none⟩ = some (.int .i64 pk) ∧ w'.cell? ⟨w32.heap.size, 2, none⟩ = some (.slice c2 k2 d2))) (by kernel_rfl) (K.out _ (Below.refl _ _).drew) (fun hHeld => ?_)
      refine wpAnyH_take (i := 0) (oi := _) (v := ?vz31u1) rfl (by kernel_rfl) (by kernel_rfl) (by kernel_rfl) (fun _ _ _ h => h) (Or.inl ⟨by kernel_rfl, ?hyz31u1⟩) hHeld ?restz31u1
      case hyz31u1 => (intro w hSw; (try dsimp only at hSw); go_simp; first | done | with_reducible rfl)
      try simp only [Act.put, List.getElem_toArray, List.getElem_cons_zero, List.setIfInBounds_toArray, List.set_cons_zero, List.set_cons_succ]
      refine wpAnyH_take (i := 1) (oi := _) (v := ?vz31u2) rfl (by kernel_rfl) (by kernel_rfl) (by kernel_rfl) (fun _ _ _ h => h) (Or.inl ⟨by kernel_rfl, ?hyz31u2⟩) hHeld ?restz31u2
      case hyz31u2 => (intro w hSw; (try dsimp only at hSw); go_simp; first | done | with_reducible rfl)
      try simp only [Act.put, List.getElem_toArray, List.getElem_cons_zero, List.getElem_cons_succ, List.setIfInBounds_toArray, List.set_cons_zero, List.set_cons_succ]
      refine wpAnyH_take (i := 2) (oi := _) (v := ?vz31u3) rfl (by kernel_rfl) (by kernel_rfl) (by kernel_rfl) (fun _ _ _ h => h) (Or.inl ⟨by kernel_rfl, ?hyz31u3⟩) hHeld ?restz31u3
      case hyz31u3 => (intro w hSw; (try dsimp only at hSw); go_simp; first | done | with_reducible rfl)
      try simp only [Act.put, List.getElem_toArray, List.getElem_cons_zero, List.getElem_cons_succ, List.setIfInBounds_toArray, List.set_cons_zero, List.set_cons_succ]
      refine wpAnyH_take (i := 3) (oi := _) (v := ?vz31u4) rfl (by kernel_rfl) (by kernel_rfl) (by kernel_rfl) (fun _ _ _ h => h) (Or.inl ⟨by kernel_rfl, ?hyz31u4⟩) hHeld ?restz31u4
      case hyz31u4 => (intro w hSw; (try dsimp only at hSw); go_simp; first | done | with_reducible rfl)
      try simp only [Act.put, List.getElem_toArray, List.getElem_cons_zero, List.getElem_cons_succ, List.setIfInBounds_toArray, List.set_cons_zero, List.set_cons_succ]
      refine wpAnyH_take (i := 6) (oi := _) (v := ?vz31u5) rfl (by kernel_rfl) (by kernel_rfl) (by kernel_rfl) (fun _ _ _ h => h) (Or.inl ⟨by kernel_rfl, ?hyz31u5⟩) hHeld ?restz31u5
      case hyz31u5 => (intro w hSw; (try dsimp only at hSw); go_simp; first | done | with_reducible rfl)
      try simp only [Act.put, List.getElem_toArray, List.getElem_cons_zero, List.getElem_cons_succ, List.setIfInBounds_toArray, List.set_cons_zero, List.set_cons_succ]
      refine wpAnyH_take (i := 7) (oi := _) (v := ?vz31u6) rfl (by kernel_rfl) (by kernel_rfl) (by kernel_rfl) (fun _ _ _ h => h) (Or.inl ⟨by kernel_rfl, ?hyz31u6⟩) hHeld ?restz31u6
      case hyz31u6 => (intro w hSw; (try dsimp only at hSw); go_simp; first | done | with_reducible rfl)
      try simp only [Act.put, List.getElem_toArray, List.getElem_cons_zero, List.getElem_cons_succ, List.setIfInBounds_toArray, List.set_cons_zero, List.set_cons_succ]
      refine wpAnyH_ready (rs := [4]) (by kernel_rfl) (by simp) ?_
      refine AllReadyH.cons (o := _) rfl (fun K0 hK0 => ?_) AllReadyH.nil
      go_simp
      go_at_call 18
      refine (SP.out _ _ _ (HOR.out.kept (Below.refl _ _).drew) hcp hnc).mono ?_
      rintro e wz31v7 ⟨c5, d5, rfl, _, bz31v7⟩
      refine hK0.out _ _ (K.out _ (thenB (Below.refl _ _).drew bz31v7)) (fun hHeld => ?_)
      clear hK0 K0
      try simp only [Act.put, List.getElem_toArray, List.getElem_cons_zero, List.getElem_cons_succ, List.setIfInBounds_toArray, List.set_cons_zero, List.set_cons_succ]
      refine wpAnyH_take (i := 5) (oi := _) (v := ?vz31u8) rfl (by kernel_rfl) (by kernel_rfl) (by kernel_rfl) (fun _ _ _ h => h) (Or.inl ⟨by kernel_rfl, ?hyz31u8⟩) hHeld ?restz31u8
      case hyz31u8 => (intro w hSw; (try dsimp only at hSw); go_simp; first | done | with_reducible rfl)
      try simp only [Act.put, List.getElem_toArray, List.getElem_cons_zero, List.getElem_cons_succ, List.setIfInBounds_toArray, List.set_cons_zero, List.set_cons_succ]
      refine wpAnyH_take (i := 8) (oi := _) (v := ?vz31u9) rfl (by kernel_rfl) (by kernel_rfl) (by kernel_rfl) (fun _ _ _ h => h) (Or.inl ⟨by kernel_rfl, ?hyz31u9⟩) hHeld ?restz31u9
      case hyz31u9 => (intro w hSw; (try dsimp only at hSw); go_simp; first | done | with_reducible rfl)
      try simp only [Act.put, List.getElem_toArray, List.getElem_cons_zero, List.getElem_cons_succ, List.setIfInBounds_toArray, List.set_cons_zero, List.set_cons_succ]
      refine wpAnyH_take (i := 9) (oi := _) (v := ?vz31u10) rfl (by kernel_rfl) (by kernel_rfl) (by kernel_rfl) (fun _ _ _ h => h) (Or.inl ⟨by kernel_rfl, ?hyz31u10⟩) hHeld ?restz31u10
      case hyz31u10 => (intro w hSw; (try dsimp only at hSw); go_simp; first | done | with_reducible rfl)
      try simp only [Act.put, List.getElem_toArray, List.getElem_cons_zero, List.getElem_cons_succ, List.setIfInBounds_toArray, List.set_cons_zero, List.set_cons_succ]
      refine wpAnyH_done (by kernel_rfl) ?_ _
      clear K hHeld
      have bacc : Below (w32.alloc (.cells #[.int .i64 pc, .int .i64 pk, .slice c2 k2 d2] 33)).heap.size (w32.alloc (.cells #[.int .i64 pc, .int .i64 pk, .slice c2 k2 d2] 33)) wz31v7 := (thenB (Below.refl _ _).drew bz31v7)
      replace VR := VR.kept bacc
      replace VH := VH.kept bacc
      replace O1 := O1.kept bacc
      replace O2 := O2.kept bacc
      replace B := thenB B bacc
      have Sz31 := (bacc).size
      clear bacc
      simp only [World.size_alloc] at Sz31
      clear bz31v7
      obtain ⟨s_VR, f_VR, z_VR⟩ := VR.open
      obtain ⟨s_VH, f_VH, z_VH⟩ := VH.open
      have Bo := B
      go_wp2
      go_ret
      exact ⟨rfl, HB0.out.trans (B.mono HB0.out.size)⟩
    · subst hpc
      obtain ⟨hz2, hsame, hkn, hcl⟩ := HK2 rfl
      clear HK2 SP
      have hl42 := (tfC_zero hz2).1
      have hro2 := right_ok hz2
      obtain ⟨hn9, rfl⟩ : ∃ j : Nat, hf = (j : Int) := ⟨hf.toNat, by omega⟩
      obtain ⟨y, hyv⟩ : ∃ y, xs.getD hn9 zTerm = y := ⟨_, rfl⟩
      have tq : tmAt xs (hn9 : Int) = y := by unfold tmAt; rw [Int.toNat_natCast]; exact hyv
      rw [tq] at hsame
      have hhm : hn9 < m := by omega
      have hhm1 : (hn9 : Int) < (m : Int) := by omega
      have CO := Hid.mk (fun c d w h => implMakeKeys_ok c k2 d l2 ni nr y.a pk s1 s2 w h hk2 (by omega) hro2)
      rw [hsame] at CO
      simp only at CO
      rw [hk2] at CO
      obtain ⟨kn, hknd⟩ : ∃ q, kyN ni nr = q := ⟨_, rfl⟩
      have hk3l := kyN_len ni nr
      rw [hknd] at hkn hcl hk3l
      obtain ⟨k3, hk3⟩ : ∃ q, kn.length = q := ⟨_, rfl⟩
      have CDV := Hid.mk (fun c d g e3 q w h h2 => implDerives_ok c k2 d l2 (some ⟨g, 0, none⟩) k3 e3 kn q w h hk2 (by unfold maxLen; omega) hro2 h2 hk3 (by unfold maxLen; omega))
      have CSC := Hid.mk (fun c d g e3 q w h h2 => implIsSecret_ok c k2 d l2 (some ⟨g, 0, none⟩) k3 e3 kn q w h hk2 (by unfold maxLen; omega) hro2 h2 hk3 (by unfold maxLen; omega))
      have COP := Hid.mk (fun c d g e3 w h h2 => implOpenAll_ok c k2 d l2 (some ⟨g, 0, none⟩) k3 e3 kn w h hk2 (by unfold maxLen; omega) hro2 h2 hk3 (by unfold maxLen; omega))
      rw [hkn] at COP
      have hopl := opL_len9 l2 kn
      have CHS := Hid.mk (fun c k d w h (hk : (opL l2 kn).length = k) => lwHas_ok c k d (opL l2 kn) ko w h hk (by unfold maxLen; omega))
      have qf : ∀ (c : Option Addr) (k d : Nat) (w : World), (Instr.field 42 (.agg #[.int .i64 0, .slice c k d]) 1).run Try.prog w = .ok (.slice c k d) w := fun c k d w => by kernel_rfl
      have qK := eqKy0
      have hsd2 : (ks != kd) = true := by simp [hsd]
      have hob2 : (ko != kb) = true := by simp [hob]
      have hkk : ((k2 : Int) == (k2 : Int)) = true := by simp
      obtain ⟨b1, hb1⟩ : ∃ b, dvB l2 kn ow = b := ⟨_, rfl⟩
      obtain ⟨b2, hb2⟩ : ∃ b, dvB l2 kn y.a = b := ⟨_, rfl⟩
      obtain ⟨b3, hb3⟩ : ∃ b, scB l2 kn ko = b := ⟨_, rfl⟩
      obtain ⟨b4, hb4⟩ : ∃ b, dvB l2 kn ks = b := ⟨_, rfl⟩
      rw [hb3, hb4] at hcl
      have CD1 := Hid.mk (fun c d g e3 w h h2 => CDV.out c d g e3 ow w h h2)
      have CD2 := Hid.mk (fun c d g e3 w h h2 => CDV.out c d g e3 y.a w h h2)
      have CD4 := Hid.mk (fun c d g e3 w h h2 => CDV.out c d g e3 ks w h h2)
      have CS3 := Hid.mk (fun c d g e3 w h h2 => CSC.out c d g e3 ko w h h2)
      rw [hb1] at CD1
      rw [hb2] at CD2
      rw [hb4] at CD4
      rw [hb3] at CS3
      have HKN := Hid.mk hknd
      have HK3 := Hid.mk hk3
      have HYV := Hid.mk hyv
      obtain ⟨yo, ya, yb, yn⟩ := y
      simp only at CD2 CO
      clear hz2 hsame hkn hl42 hro2 tq hyv hknd hk3 hb1 hb2 hb3 hb4 CDV CSC hz hsd hob hro hlen hkl hk2 pn pr po ph hl4 hopl
      go_wp2_with fail
      refine (CI.out _ (HR.out.kept B)).mono ?_
      rintro e w61 ⟨c1, d1, rfl, O1, b61⟩
      have S61 := b61.size
      replace B := thenB B b61
      clear b61
      have Bo := B
      replace O1 := O1.kept (belowA w61 (.cells #[.int .i64 0, .int .i64 ks, .int .i64 kd, .int .i64 ko, .int .i64 kb, .slice c1 kl d1] 30))
      replace B := thenB B (belowA w61 (.cells #[.int .i64 0, .int .i64 ks, .int .i64 kd, .int .i64 ko, .int .i64 kb, .slice c1 kl d1] 30))
      have VR := V.new w61 [.int .i64 0, .int .i64 ks, .int .i64 kd, .int .i64 ko, .int .i64 kb, .slice c1 kl d1] 30
      obtain ⟨s_VR, f_VR, z_VR⟩ := VR.open
      have Bo := B
      go_wp2_with fail
      refine (CP.out _ _ _ O1.rd).mono ?_
      rintro e w62 ⟨c2, d2, rfl, O2, b62⟩
      clear s_VR f_VR z_VR
      have S62 := b62.size
      simp only [World.size_alloc] at S62
      replace VR := VR.kept b62
      replace O1 := O1.kept b62
      replace B := thenB B b62
      clear b62
      obtain ⟨s_VR, f_VR, z_VR⟩ := VR.open
      have Bo := B
      replace VR := VR.kept (belowA w62 (.cells #[.int .i64 0, .int .i64 pk, .slice c2 k2 d2] 33))
      replace O1 := O1.kept (belowA w62 (.cells #[.int .i64 0, .int .i64 pk, .slice c2 k2 d2] 33))
      replace O2 := O2.kept (belowA w62 (.cells #[.int .i64 0, .int .i64 pk, .slice c2 k2 d2] 33))
      replace B := thenB B (belowA w62 (.cells #[.int .i64 0, .int .i64 pk, .slice c2 k2 d2] 33))
      have VH := V.new w62 [.int .i64 0, .int .i64 pk, .slice c2 k2 d2] 33
      clear s_VR f_VR z_VR
      obtain ⟨s_VR, f_VR, z_VR⟩ := VR.open
      obtain ⟨s_VH, f_VH, z_VH⟩ := VH.open
      replace Bo := B
      have HRB := Hid.mk (HR.out.kept B)
      rcases HRB.out with h9 | ⟨b2', o2, rfl, hca⟩
      · have := HLEN.out; rw [h9] at this; simp at this; omega
      obtain ⟨_, py, _, _⟩ := RdTerm.cells hca hn9 (by rw [HLEN.out]; exact hhm) _ HYV.out
      simp only at py
      clear hca HRB
      have hbY := World.block_lt_of_cell? _ _ py
      have HL1 := Hid.mk O1.rd
      have HL2 := Hid.mk O2.rd
      clear O1 O2
      go_upto_region 10 with fail
      clear s_VR f_VR z_VR s_VH f_VH z_VH
      have K : ∀ w' : World, Below (w62.alloc (.cells #[.int .i64 0, .int .i64 pk, .slice c2 k2 d2] 33)).heap.size (w62.alloc (.cells #[.int .i64 0, .int .i64 pk, .slice c2 k2 d2] 33)) w' → (w'.cell? ⟨w62.heap.size, 0, none⟩ = some (.int .i64 0) ∧ w'.cell? ⟨w62.heap.size, 1, none⟩ = some (.int .i64 pk) ∧ w'.cell? ⟨w62.heap.size, 2, none⟩ = some (.slice c2 k2 d2) ∧ w'.cell? ⟨b2', o2 + hn9 * 4 + 1, none⟩ = some (.int .i64 ya)) := fun w' h => ⟨(VH.kept h).2.1 0 (by simp), (VH.kept h).2.1 1 (by simp), (VH.kept h).2.1 2 (by simp), ((bcell h).1 _ _ hbY).trans py⟩
      have K := Hid.mk K
      have HPY := Hid.mk py
      have HBY := Hid.mk hbY
      have HVR := Hid.mk VR
      have HVH := Hid.mk VH
      have HB := Hid.mk B
      clear py hbY Bo
      go_cut [12] (fun p wx => ∃ (P : Nat) (c6 : Option Addr) (d6 : Nat), p = .pointer (some ⟨P, 0, none⟩) ∧ V wx P [.int .i64 0, .int .i64 ks, .int .i64 kd, .int .i64 ko, .int .i64 kb, .slice c6 k2 d6] ∧ Below (w62.alloc (.cells #[.int .i64 0, .int .i64 pk, .slice c2 k2 d2] 33)).heap.size (w62.alloc (.cells #[.int .i64 0, .int .i64 pk, .slice c2 k2 d2] 33)) wx)
      case first =>
        clear VR VH B
        refine wp_region_held_drew (S := (fun w' => w'.cell? ⟨w62.heap.size, 0, none⟩ = some (.int .i64 0) ∧ w'.cell? ⟨w62.heap.size, 1, none⟩ = some (.int .i64 pk) ∧ w'.cell? ⟨w62.heap.size, 2, none⟩ = some (.slice c2 k2 d2) ∧ w'.cell? ⟨b2', o2 + hn9 * 4 + 1, none⟩ = some (.int .i64 ya))) (by kernel_rfl) (K.out _ (Below.refl _ _).drew) (fun hHeld => ?_)
        have bd : Below (w62.alloc (.cells #[.int .i64 0, .int .i64 pk, .slice c2 k2 d2] 33)).heap.size (w62.alloc (.cells #[.int .i64 0, .int .i64 pk, .slice c2 k2 d2] 33)) (w62.alloc (.cells #[.int .i64 0, .int .i64 pk, .slice c2 k2 d2] 33)).drew := (Below.refl _ _).drew
        generalize (w62.alloc (.cells #[.int .i64 0, .int .i64 pk, .slice c2 k2 d2] 33)).drew = wd at *
        refine wpAnyH_take (i := 0) (oi := _) (v := ?vky10_0) rfl (by kernel_rfl) (by kernel_rfl) (by kernel_rfl) (fun _ _ _ h => h) (Or.inl ⟨by rfl, ?hyky10_0⟩) hHeld ?restky10_0
        case hyky10_0 => (intro w hSw; (try dsimp only at hSw); go_simp; first | done | with_reducible rfl)
        try simp only [Act.put, List.getElem_toArray, List.getElem_cons_zero, List.setIfInBounds_toArray, List.set_cons_zero, List.set_cons_succ]
        refine wpAnyH_take (i := 1) (oi := _) (v := ?vky10_1) rfl (by kernel_rfl) (by kernel_rfl) (by kernel_rfl) (fun _ _ _ h => h) (Or.inl ⟨by rfl, ?hyky10_1⟩) hHeld ?restky10_1
        case hyky10_1 => (intro w hSw; (try dsimp only at hSw); go_simp; first | done | with_reducible rfl)
        try simp only [Act.put, List.getElem_toArray, List.getElem_cons_zero, List.getElem_cons_succ, List.setIfInBounds_toArray, List.set_cons_zero, List.set_cons_succ]
        refine wpAnyH_take (i := 2) (oi := _) (v := ?vky10_2) rfl (by kernel_rfl) (by kernel_rfl) (by kernel_rfl) (fun _ _ _ h => h) (Or.inl ⟨by rfl, ?hyky10_2⟩) hHeld ?restky10_2
        case hyky10_2 => (intro w hSw; (try dsimp only at hSw); go_simp; first | done | with_reducible rfl)
        try simp only [Act.put, List.getElem_toArray, List.getElem_cons_zero, List.getElem_cons_succ, List.setIfInBounds_toArray, List.set_cons_zero, List.set_cons_succ]
        refine wpAnyH_take (i := 3) (oi := _) (v := ?vky10_3) rfl (by kernel_rfl) (by kernel_rfl) (by kernel_rfl) (fun _ _ _ h => h) (Or.inl ⟨by rfl, ?hyky10_3⟩) hHeld ?restky10_3
        case hyky10_3 => (intro w hSw; (try dsimp only at hSw); go_simp; first | done | with_reducible rfl)
        try simp only [Act.put, List.getElem_toArray, List.getElem_cons_zero, List.getElem_cons_succ, List.setIfInBounds_toArray, List.set_cons_zero, List.set_cons_succ]
        refine wpAnyH_take (i := 4) (oi := _) (v := ?vky10_4) rfl (by kernel_rfl) (by kernel_rfl) (by kernel_rfl) (fun _ _ _ h => h) (Or.inl ⟨by rfl, ?hyky10_4⟩) hHeld ?restky10_4
        case hyky10_4 => (intro w hSw; (try dsimp only at hSw); go_simp; first | done | with_reducible rfl)
        try simp only [Act.put, List.getElem_toArray, List.getElem_cons_zero, List.getElem_cons_succ, List.setIfInBounds_toArray, List.set_cons_zero, List.set_cons_succ]
        refine wpAnyH_take (i := 5) (oi := _) (v := ?vky10_5) rfl (by kernel_rfl) (by kernel_rfl) (by kernel_rfl) (fun _ _ _ h => h) (Or.inl ⟨by rfl, ?hyky10_5⟩) hHeld ?restky10_5
        case hyky10_5 => (intro w hSw; (try dsimp only at hSw); go_simp; first | done | with_reducible rfl)
        try simp only [Act.put, List.getElem_toArray, List.getElem_cons_zero, List.getElem_cons_succ, List.setIfInBounds_toArray, List.set_cons_zero, List.set_cons_succ]
        refine wpAnyH_take (i := 6) (oi := _) (v := ?vky10_6) rfl (by kernel_rfl) (by kernel_rfl) (by kernel_rfl) (fun _ _ _ h => h) (Or.inl ⟨by rfl, ?hyky10_6⟩) hHeld ?restky10_6
        case hyky10_6 => (intro w hSw; (try dsimp only at hSw); go_simp; first | done | with_reducible rfl)
        try simp only [Act.put, List.getElem_toArray, List.getElem_cons_zero, List.getElem_cons_succ, List.setIfInBounds_toArray, List.set_cons_zero, List.set_cons_succ]
        refine wpAnyH_take (i := 7) (oi := _) (v := ?vky10_7) rfl (by kernel_rfl) (by kernel_rfl) (by kernel_rfl) (fun _ _ _ h => h) (Or.inl ⟨by rfl, ?hyky10_7⟩) hHeld ?restky10_7
        case hyky10_7 => (intro w hSw; (try dsimp only at hSw); go_simp; first | done | with_reducible rfl)
        try simp only [Act.put, List.getElem_toArray, List.getElem_cons_zero, List.getElem_cons_succ, List.setIfInBounds_toArray, List.set_cons_zero, List.set_cons_succ]
        refine wpAnyH_take (i := 8) (oi := _) (v := ?vky10_8) rfl (by kernel_rfl) (by kernel_rfl) (by kernel_rfl) (fun _ _ _ h => h) (Or.inl ⟨by rfl, ?hyky10_8⟩) hHeld ?restky10_8
        case hyky10_8 => (intro w hSw; (try dsimp only at hSw); go_simp; first | done | with_reducible rfl)
        try simp only [Act.put, List.getElem_toArray, List.getElem_cons_zero, List.getElem_cons_succ, List.setIfInBounds_toArray, List.set_cons_zero, List.set_cons_succ]
        refine wpAnyH_take (i := 9) (oi := _) (v := ?vky10_9) rfl (by kernel_rfl) (by kernel_rfl) (by kernel_rfl) (fun _ _ _ h => h) (Or.inl ⟨by rfl, ?hyky10_9⟩) hHeld ?restky10_9
        case hyky10_9 => (intro w hSw; (try dsimp only at hSw); go_simp; first | done | with_reducible rfl)
        try simp only [Act.put, List.getElem_toArray, List.getElem_cons_zero, List.getElem_cons_succ, List.setIfInBounds_toArray, List.set_cons_zero, List.set_cons_succ]
        refine wpAnyH_take (i := 10) (oi := _) (v := ?vky10_10) rfl (by kernel_rfl) (by kernel_rfl) (by kernel_rfl) (fun _ _ _ h => h) (Or.inl ⟨by rfl, ?hyky10_10⟩) hHeld ?restky10_10
        case hyky10_10 => (intro w hSw; (try dsimp only at hSw); go_simp; first | done | with_reducible rfl)
        try simp only [Act.put, List.getElem_toArray, List.getElem_cons_zero, List.getElem_cons_succ, List.setIfInBounds_toArray, List.set_cons_zero, List.set_cons_succ]
        refine wpAnyH_take (i := 11) (oi := _) (v := ?vky10_11) rfl (by kernel_rfl) (by kernel_rfl) (by kernel_rfl) (fun _ _ _ h => h) (Or.inl ⟨by rfl, ?hyky10_11⟩) hHeld ?restky10_11
        case hyky10_11 => (intro w hSw; (try dsimp only at hSw); go_simp; first | done | with_reducible rfl)
        try simp only [Act.put, List.getElem_toArray, List.getElem_cons_zero, List.getElem_cons_succ, List.setIfInBounds_toArray, List.set_cons_zero, List.set_cons_succ]
        refine wpAnyH_take (i := 12) (oi := _) (v := ?vky10_12) rfl (by kernel_rfl) (by kernel_rfl) (by kernel_rfl) (fun _ _ _ h => h) (Or.inl ⟨by rfl, ?hyky10_12⟩) hHeld ?restky10_12
        case hyky10_12 => (intro w hSw; (try dsimp only at hSw); go_simp; first | done | with_reducible rfl)
        try simp only [Act.put, List.getElem_toArray, List.getElem_cons_zero, List.getElem_cons_succ, List.setIfInBounds_toArray, List.set_cons_zero, List.set_cons_succ]
        refine wpAnyH_ready (rs := [13, 14]) (by kernel_rfl) (by simp) ?_
        refine AllReadyH.cons (o := _) rfl (fun K0 hK0 => ?_) (AllReadyH.cons (o := _) rfl (fun K0 hK0 => ?_) AllReadyH.nil)
        · skip
          go_simp
          go_at_call 15
          refine (CO.out _ _ _ (HL2.out.kept bd)).mono ?_
          rintro e wn ⟨c6, d6, rfl, _, bn⟩
          refine hK0.out _ _ (K.out _ (thenB bd bn)) (fun hHeld => ?_)
          clear hK0 K0
          try simp only [Act.put, List.getElem_toArray, List.getElem_cons_zero, List.getElem_cons_succ, List.setIfInBounds_toArray, List.set_cons_zero, List.set_cons_succ]
          refine wpAnyH_ready (rs := [14]) (by kernel_rfl) (by simp) ?_
          refine AllReadyH.cons (o := _) rfl (fun K0 hK0 => ?_) AllReadyH.nil
          go_simp
          refine hK0.out _ _ (K.out _ (thenB (thenB bd bn) (belowA wn (.cells #[.int .i64 0, .int .i64 0, .int .i64 0, .int .i64 0, .int .i64 0, .slice none 0 0] 30)))) (fun hHeld => ?_)
          clear hK0 K0
          try simp only [Act.put, List.getElem_toArray, List.getElem_cons_zero, List.getElem_cons_succ, List.setIfInBounds_toArray, List.set_cons_zero, List.set_cons_succ]
          have VN : V (wn.alloc (.cells #[.int .i64 0, .int .i64 0, .int .i64 0, .int .i64 0, .int .i64 0, .slice none 0 0] 30)) wn.heap.size [.int .i64 0, .int .i64 0, .int .i64 0, .int .i64 0, .int .i64 0, .slice none 0 0] := V.new _ _ _
          have bq := belowA wn (.cells #[.int .i64 0, .int .i64 0, .int .i64 0, .int .i64 0, .int .i64 0, .slice none 0 0] 30)
          generalize wn.alloc (.cells #[.int .i64 0, .int .i64 0, .int .i64 0, .int .i64 0, .int .i64 0, .slice none 0 0] 30) = wq at *
          refine wpAnyH_ready (rs := [15]) (by kernel_rfl) (by simp) ?_
          refine AllReadyH.cons (o := _) rfl (fun K0 hK0 => ?_) AllReadyH.nil
          rw [if_pos (by rfl)]
          have hT := VN.there
          have VF := VN.filled [.int .i64 0, .int .i64 ks, .int .i64 kd, .int .i64 ko, .int .i64 kb, .slice c6 k2 d6] rfl
          have hle := ((thenB bd bn)).size
          have bF := belowCells ((thenB (thenB bd bn) bq)) hle 0 [.int .i64 0, .int .i64 ks, .int .i64 kd, .int .i64 ko, .int .i64 kb, .slice c6 k2 d6]
          refine wp_store_mid _ _ _ rfl (wn.heap.size) 0 #[.int .i64 0, .int .i64 ks, .int .i64 kd, .int .i64 ko, .int .i64 kb, .slice c6 k2 d6] rfl rfl hT (by kernel_rfl) (by kernel_rfl) ?_
          refine hK0.out _ _ (K.out _ bF) (fun hHeld => ?_)
          clear hK0 K0
          refine wpAnyH_done (by kernel_rfl) ?_ _
          go_wp2_with fail
          go_meet
          exact ⟨wn.heap.size, c6, d6, rfl, VF, bF⟩
        · skip
          go_simp
          refine hK0.out _ _ (K.out _ (thenB bd (belowA wd (.cells #[.int .i64 0, .int .i64 0, .int .i64 0, .int .i64 0, .int .i64 0, .slice none 0 0] 30)))) (fun hHeld => ?_)
          clear hK0 K0
          try simp only [Act.put, List.getElem_toArray, List.getElem_cons_zero, List.getElem_cons_succ, List.setIfInBounds_toArray, List.set_cons_zero, List.set_cons_succ]
          have VN : V (wd.alloc (.cells #[.int .i64 0, .int .i64 0, .int .i64 0, .int .i64 0, .int .i64 0, .slice none 0 0] 30)) wd.heap.size [.int .i64 0, .int .i64 0, .int .i64 0, .int .i64 0, .int .i64 0, .slice none 0 0] := V.new _ _ _
          have bq := belowA wd (.cells #[.int .i64 0, .int .i64 0, .int .i64 0, .int .i64 0, .int .i64 0, .slice none 0 0] 30)
          generalize wd.alloc (.cells #[.int .i64 0, .int .i64 0, .int .i64 0, .int .i64 0, .int .i64 0, .slice none 0 0] 30) = wq at *
          refine wpAnyH_ready (rs := [13]) (by kernel_rfl) (by simp) ?_
          refine AllReadyH.cons (o := _) rfl (fun K0 hK0 => ?_) AllReadyH.nil
          go_simp
          go_at_call 15
          refine (CO.out _ _ _ (HL2.out.kept (thenB bd bq))).mono ?_
          rintro e wn ⟨c6, d6, rfl, _, bn⟩
          replace VN := VN.kept bn
          refine hK0.out _ _ (K.out _ (thenB (thenB bd bq) bn)) (fun hHeld => ?_)
          clear hK0 K0
          try simp only [Act.put, List.getElem_toArray, List.getElem_cons_zero, List.getElem_cons_succ, List.setIfInBounds_toArray, List.set_cons_zero, List.set_cons_succ]
          refine wpAnyH_ready (rs := [15]) (by kernel_rfl) (by simp) ?_
          refine AllReadyH.cons (o := _) rfl (fun K0 hK0 => ?_) AllReadyH.nil
          rw [if_pos (by rfl)]
          have hT := VN.there
          have VF := VN.filled [.int .i64 0, .int .i64 ks, .int .i64 kd, .int .i64 ko, .int .i64 kb, .slice c6 k2 d6] rfl
          have hle := (bd).size
          have bF := belowCells ((thenB (thenB bd bq) bn)) hle 0 [.int .i64 0, .int .i64 ks, .int .i64 kd, .int .i64 ko, .int .i64 kb, .slice c6 k2 d6]
          refine wp_store_mid _ _ _ rfl (wd.heap.size) 0 #[.int .i64 0, .int .i64 ks, .int .i64 kd, .int .i64 ko, .int .i64 kb, .slice c6 k2 d6] rfl rfl hT (by kernel_rfl) (by kernel_rfl) ?_
          refine hK0.out _ _ (K.out _ bF) (fun hHeld => ?_)
          clear hK0 K0
          refine wpAnyH_done (by kernel_rfl) ?_ _
          go_wp2_with fail
          go_meet
          exact ⟨wd.heap.size, c6, d6, rfl, VF, bF⟩
      clear VR VH B K
      obtain ⟨P, c6, d6, rfl, VO, BQ⟩ := hcut
      have VR := HVR.out.kept BQ
      have VH := HVH.out.kept BQ
      have B := thenB HB.out BQ
      have HL1c := Hid.mk (HL1.out.kept BQ)
      have HL2c := Hid.mk (HL2.out.kept BQ)
      have HPYc := Hid.mk (((bcell BQ).1 _ _ HBY.out).trans HPY.out)
      have HBYc := Hid.mk (Nat.lt_of_lt_of_le HBY.out BQ.size)
      clear HVR HVH HB HL1 HL2 HPY HBY BQ CO
      have HVR := Hid.mk VR
      have HVH := Hid.mk VH
      have HVO := Hid.mk VO
      have HB := Hid.mk B
      clear VR VH VO B
      have bL := belowA wc (.cells #[.int .i64 ni] 2)
      have OL := OwnI.lit wc [ni] [.int .i64 ni] rfl (by unfold maxLen; simp)
      go_upto_if 85 with fail
      go_cut [13] (fun s wx => ∃ (gk e3 : Nat), s = .slice (some ⟨gk, 0, none⟩) k3 e3 ∧ Rd .i64 wx (some ⟨gk, 0, none⟩) kn ∧ Below wc.heap.size wc wx)
      case first =>
        by_cases hlt : ni < nr
        · have ek : kn = [ni, nr] := by rw [← HKN.out]; unfold kyN; rw [if_pos hlt]
          subst ek
          obtain rfl : k3 = 2 := HK3.out.symm
          have hgt : (nr > ni) := hlt
          have bL2 := belowA (wc.alloc (.cells #[.int .i64 ni] 2)) (.cells #[.int .i64 nr] 2)
          have OL2 := Hid.mk (OL.kept bL2)
          have BL := Hid.mk (thenB bL bL2)
          have TL : wc.heap.size ≤ ((wc.alloc (.cells #[.int .i64 ni] 2)).alloc (.cells #[.int .i64 nr] 2)).heap.size := by simp; omega
          have VL : V ((wc.alloc (.cells #[.int .i64 ni] 2)).alloc (.cells #[.int .i64 nr] 2)) (wc.heap.size + 1) [.int .i64 nr] := V.newAt _ _ _ _ (by simp)
          have RL : World.cell? ((wc.alloc (.cells #[.int .i64 ni] 2)).alloc (.cells #[.int .i64 nr] 2)) ⟨wc.heap.size + 1, 0, none⟩ = some (.int .i64 nr) := VL.2.1 0 (by simp)
          clear OL bL bL2 VL
          go_wp2_with (at_builtin; go_loud (refine wpList_putI _ rfl _ _ rfl wc.heap.size _ 1 [ni] 1 rfl rfl OL2.out ⟨wc.heap.size + 1, 0, none⟩ 1 nr rfl RL (by omega) TL ?_))
          intro c8 d8 w8 O8 hg8 hx8
          obtain ⟨g8, rfl, _, _⟩ := hx8.out
          have hgw := (OL2.out.lt _ rfl).1
          simp only at hgw
          have B8 := Hid.mk ((Sm.grown (X := fun j => j = wc.heap.size) hg8 (fun j e => by simp at e; omega)).below' BL.out TL (fun j e => by omega))
          have R8 := Hid.mk O8.rd
          clear O8 hg8 hx8 OL2 BL TL RL
          go_wp2_with fail
          go_meet
          exact ⟨g8, d8, rfl, R8.out, B8.out⟩
        · have ek : kn = [ni] := by rw [← HKN.out]; unfold kyN; rw [if_neg hlt]
          subst ek
          obtain rfl : k3 = 1 := HK3.out.symm
          have hgt : ¬ (nr > ni) := hlt
          have R8 := Hid.mk OL.rd
          have B8 := Hid.mk bL
          clear OL bL
          go_wp2_with fail
          go_meet
          exact ⟨_, _, rfl, R8.out, B8.out⟩
      clear OL bL
      obtain ⟨gk, e3', rfl, RK, BK⟩ := hcut
      have VR := HVR.out.kept BK
      have VH := HVH.out.kept BK
      have VO := HVO.out.kept BK
      have B := thenB HB.out BK
      have HL1d := Hid.mk (HL1c.out.kept BK)
      have HL2d := Hid.mk (HL2c.out.kept BK)
      have py := ((bcell BK).1 _ _ HBYc.out).trans HPYc.out
      have hbY := Nat.lt_of_lt_of_le HBYc.out BK.size
      have HRK := Hid.mk RK
      clear HVR HVH HVO HB HL1c HL2c HPYc HBYc BK RK
      obtain ⟨s_VR, f_VR, z_VR⟩ := VR.open
      obtain ⟨s_VH, f_VH, z_VH⟩ := VH.open
      obtain ⟨s_VO, f_VO, z_VO⟩ := VO.open
      go_upto_region 14 with fail
      clear s_VR f_VR z_VR s_VH f_VH z_VH s_VO f_VO z_VO
      have HVR := Hid.mk VR
      have HVH := Hid.mk VH
      have HVO := Hid.mk VO
      have HB := Hid.mk B
      clear VR VH VO B
      go_cut [14] (fun s wx => s = .bool (!b1 && !b2) ∧ Below wc.heap.size wc wx)
      case first =>
        have VH := HVH.out
        have B := Below.refl wc.heap.size wc
        cases b1
        · skip
          have K : ∀ w' : World, Below wc.heap.size wc w' → (w'.cell? ⟨w62.heap.size, 0, none⟩ = some (.int .i64 0) ∧ w'.cell? ⟨w62.heap.size, 1, none⟩ = some (.int .i64 pk) ∧ w'.cell? ⟨w62.heap.size, 2, none⟩ = some (.slice c2 k2 d2) ∧ w'.cell? ⟨b2', o2 + hn9 * 4 + 1, none⟩ = some (.int .i64 ya)) := fun w' h => ⟨(VH.kept h).2.1 0 (by simp), (VH.kept h).2.1 1 (by simp), (VH.kept h).2.1 2 (by simp), ((bcell h).1 _ _ hbY).trans py⟩
          have K := Hid.mk K
          clear py
          refine wp_region_held_drew (S := (fun w' => w'.cell? ⟨w62.heap.size, 0, none⟩ = some (.int .i64 0) ∧ w'.cell? ⟨w62.heap.size, 1, none⟩ = some (.int .i64 pk) ∧ w'.cell? ⟨w62.heap.size, 2, none⟩ = some (.slice c2 k2 d2) ∧ w'.cell? ⟨b2', o2 + hn9 * 4 + 1, none⟩ = some (.int .i64 ya))) (by kernel_rfl) (K.out _ (Below.refl _ _).drew) (fun hHeld => ?_)
          refine wpAnyH_take (i := 0) (oi := _) (v := ?vz301u1) rfl (by kernel_rfl) (by kernel_rfl) (by kernel_rfl) (fun _ _ _ h => h) (Or.inl ⟨by kernel_rfl, ?hyz301u1⟩) hHeld ?restz301u1
          case hyz301u1 => (intro w hSw; (try dsimp only at hSw); go_simp; first | done | with_reducible rfl)
          try simp only [Act.put, List.getElem_toArray, List.getElem_cons_zero, List.setIfInBounds_toArray, List.set_cons_zero, List.set_cons_succ]
          refine wpAnyH_take (i := 1) (oi := _) (v := ?vz301u2) rfl (by kernel_rfl) (by kernel_rfl) (by kernel_rfl) (fun _ _ _ h => h) (Or.inl ⟨by kernel_rfl, ?hyz301u2⟩) hHeld ?restz301u2
          case hyz301u2 => (intro w hSw; (try dsimp only at hSw); go_simp; first | done | with_reducible rfl)
          try simp only [Act.put, List.getElem_toArray, List.getElem_cons_zero, List.getElem_cons_succ, List.setIfInBounds_toArray, List.set_cons_zero, List.set_cons_succ]
          refine wpAnyH_take (i := 2) (oi := _) (v := ?vz301u3) rfl (by kernel_rfl) (by kernel_rfl) (by kernel_rfl) (fun _ _ _ h => h) (Or.inl ⟨by kernel_rfl, ?hyz301u3⟩) hHeld ?restz301u3
          case hyz301u3 => (intro w hSw; (try dsimp only at hSw); go_simp; first | done | with_reducible rfl)
          try simp only [Act.put, List.getElem_toArray, List.getElem_cons_zero, List.getElem_cons_succ, List.setIfInBounds_toArray, List.set_cons_zero, List.set_cons_succ]
          refine wpAnyH_take (i := 3) (oi := _) (v := ?vz301u4) rfl (by kernel_rfl) (by kernel_rfl) (by kernel_rfl) (fun _ _ _ h => h) (Or.inl ⟨by kernel_rfl, ?hyz301u4⟩) hHeld ?restz301u4
          case hyz301u4 => (intro w hSw; (try dsimp only at hSw); go_simp; first | done | with_reducible rfl)
          try simp only [Act.put, List.getElem_toArray, List.getElem_cons_zero, List.getElem_cons_succ, List.setIfInBounds_toArray, List.set_cons_zero, List.set_cons_succ]
          refine wpAnyH_ready (rs := [4]) (by kernel_rfl) (by simp) ?_
          refine AllReadyH.cons (o := _) rfl (fun K0 hK0 => ?_) AllReadyH.nil
          go_simp
          go_at_call 19
          refine (CD1.out _ _ _ _ _ (HL2d.out.kept (Below.refl _ _).drew) (HRK.out.kept (Below.refl _ _).drew)).mono ?_
          rintro e wz301v5 ⟨rfl, bz301v5⟩
          refine hK0.out _ _ (K.out _ (thenB (Below.refl _ _).drew bz301v5)) (fun hHeld => ?_)
          clear hK0 K0
          try simp only [Act.put, List.getElem_toArray, List.getElem_cons_zero, List.getElem_cons_succ, List.setIfInBounds_toArray, List.set_cons_zero, List.set_cons_succ]
          refine wpAnyH_take (i := 5) (oi := _) (v := ?vz301u6) rfl (by kernel_rfl) (by kernel_rfl) (by kernel_rfl) (fun _ _ _ h => h) (Or.inl ⟨by kernel_rfl, ?hyz301u6⟩) hHeld ?restz301u6
          case hyz301u6 => (intro w hSw; (try dsimp only at hSw); go_simp; first | done | with_reducible rfl)
          try simp only [Act.put, List.getElem_toArray, List.getElem_cons_zero, List.getElem_cons_succ, List.setIfInBounds_toArray, List.set_cons_zero, List.set_cons_succ]
          refine wpAnyH_take (i := 6) (oi := _) (v := ?vz301u7) rfl (by kernel_rfl) (by kernel_rfl) (by kernel_rfl) (fun _ _ _ h => h) (Or.inl ⟨by kernel_rfl, ?hyz301u7⟩) hHeld ?restz301u7
          case hyz301u7 => (intro w hSw; (try dsimp only at hSw); go_simp; first | done | with_reducible rfl)
          try simp only [Act.put, List.getElem_toArray, List.getElem_cons_zero, List.getElem_cons_succ, List.setIfInBounds_toArray, List.set_cons_zero, List.set_cons_succ]
          refine wpAnyH_take (i := 7) (oi := _) (v := ?vz301u8) rfl (by kernel_rfl) (by kernel_rfl) (by kernel_rfl) (fun _ _ _ h => h) (Or.inl ⟨by kernel_rfl, ?hyz301u8⟩) hHeld ?restz301u8
          case hyz301u8 => (intro w hSw; (try dsimp only at hSw); go_simp; first | done | with_reducible rfl)
          try simp only [Act.put, List.getElem_toArray, List.getElem_cons_zero, List.getElem_cons_succ, List.setIfInBounds_toArray, List.set_cons_zero, List.set_cons_succ]
          refine wpAnyH_take (i := 8) (oi := _) (v := ?vz301u9) rfl (by kernel_rfl) (by kernel_rfl) (by kernel_rfl) (fun _ _ _ h => h) (Or.inl ⟨by kernel_rfl, ?hyz301u9⟩) hHeld ?restz301u9
          case hyz301u9 => (intro w hSw; (try dsimp only at hSw); go_simp; first | done | with_reducible rfl)
          try simp only [Act.put, List.getElem_toArray, List.getElem_cons_zero, List.getElem_cons_succ, List.setIfInBounds_toArray, List.set_cons_zero, List.set_cons_succ]
          refine wpAnyH_take (i := 9) (oi := _) (v := ?vz301u10) rfl (by kernel_rfl) (by kernel_rfl) (by kernel_rfl) (fun _ _ _ h => h) (Or.inl ⟨by kernel_rfl, ?hyz301u10⟩) hHeld ?restz301u10
          case hyz301u10 => (intro w hSw; (try dsimp only at hSw); go_simp; first | done | with_reducible rfl)
          try simp only [Act.put, List.getElem_toArray, List.getElem_cons_zero, List.getElem_cons_succ, List.setIfInBounds_toArray, List.set_cons_zero, List.set_cons_succ]
          refine wpAnyH_take (i := 10) (oi := _) (v := ?vz301u11) rfl (by kernel_rfl) (by kernel_rfl) (by kernel_rfl) (fun _ _ _ h => h) (Or.inl ⟨by kernel_rfl, ?hyz301u11⟩) hHeld ?restz301u11
          case hyz301u11 => (intro w hSw; (try dsimp only at hSw); go_simp; first | done | with_reducible rfl)
          try simp only [Act.put, List.getElem_toArray, List.getElem_cons_zero, List.getElem_cons_succ, List.setIfInBounds_toArray, List.set_cons_zero, List.set_cons_succ]
          refine wpAnyH_take (i := 11) (oi := _) (v := ?vz301u12) rfl (by kernel_rfl) (by kernel_rfl) (by kernel_rfl) (fun _ _ _ h => h) (Or.inl ⟨by kernel_rfl, ?hyz301u12⟩) hHeld ?restz301u12
          case hyz301u12 => (intro w hSw; (try dsimp only at hSw); go_simp; first | done | with_reducible rfl)
          try simp only [Act.put, List.getElem_toArray, List.getElem_cons_zero, List.getElem_cons_succ, List.setIfInBounds_toArray, List.set_cons_zero, List.set_cons_succ]
          refine wpAnyH_take (i := 12) (oi := _) (v := ?vz301u13) rfl (by kernel_rfl) (by kernel_rfl) (by kernel_rfl) (fun _ _ _ h => h) (Or.inl ⟨by kernel_rfl, ?hyz301u13⟩) hHeld ?restz301u13
          case hyz301u13 => (intro w hSw; (try dsimp only at hSw); go_simp; first | done | with_reducible rfl)
          try simp only [Act.put, List.getElem_toArray, List.getElem_cons_zero, List.getElem_cons_succ, List.setIfInBounds_toArray, List.set_cons_zero, List.set_cons_succ]
          refine wpAnyH_take (i := 13) (oi := _) (v := ?vz301u14) rfl (by kernel_rfl) (by kernel_rfl) (by kernel_rfl) (fun _ _ _ h => h) (Or.inl ⟨by kernel_rfl, ?hyz301u14⟩) hHeld ?restz301u14
          case hyz301u14 => (intro w hSw; (try dsimp only at hSw); go_simp; first | done | with_reducible rfl)
          try simp only [Act.put, List.getElem_toArray, List.getElem_cons_zero, List.getElem_cons_succ, List.setIfInBounds_toArray, List.set_cons_zero, List.set_cons_succ]
          refine wpAnyH_take (i := 14) (oi := _) (v := ?vz301u15) rfl (by kernel_rfl) (by kernel_rfl) (by kernel_rfl) (fun _ _ _ h => h) (Or.inl ⟨by kernel_rfl, ?hyz301u15⟩) hHeld ?restz301u15
          case hyz301u15 => (intro w hSw; (try dsimp only at hSw); go_simp; first | done | with_reducible rfl)
          try simp only [Act.put, List.getElem_toArray, List.getElem_cons_zero, List.getElem_cons_succ, List.setIfInBounds_toArray, List.set_cons_zero, List.set_cons_succ]
          refine wpAnyH_ready (rs := [15]) (by kernel_rfl) (by simp) ?_
          refine AllReadyH.cons (o := _) rfl (fun K0 hK0 => ?_) AllReadyH.nil
          go_simp
          go_at_call 19
          refine (CD2.out _ _ _ _ _ (HL2d.out.kept (thenB (Below.refl _ _).drew bz301v5)) (HRK.out.kept (thenB (Below.refl _ _).drew bz301v5))).mono ?_
          rintro e wz301v16 ⟨rfl, bz301v16⟩
          refine hK0.out _ _ (K.out _ (thenB (thenB (Below.refl _ _).drew bz301v5) bz301v16)) (fun hHeld => ?_)
          clear hK0 K0
          try simp only [Act.put, List.getElem_toArray, List.getElem_cons_zero, List.getElem_cons_succ, List.setIfInBounds_toArray, List.set_cons_zero, List.set_cons_succ]
          refine wpAnyH_take (i := 16) (oi := _) (v := ?vz301u17) rfl (by kernel_rfl) (by kernel_rfl) (by kernel_rfl) (fun _ _ _ h => h) (Or.inl ⟨by kernel_rfl, ?hyz301u17⟩) hHeld ?restz301u17
          case hyz301u17 => (intro w hSw; (try dsimp only at hSw); go_simp; first | done | with_reducible rfl)
          try simp only [Act.put, List.getElem_toArray, List.getElem_cons_zero, List.getElem_cons_succ, List.setIfInBounds_toArray, List.set_cons_zero, List.set_cons_succ]
          refine wpAnyH_take (i := 17) (oi := _) (v := ?vz301u18) rfl (by kernel_rfl) (by kernel_rfl) (by kernel_rfl) (fun _ _ _ h => h) (Or.inl ⟨by kernel_rfl, ?hyz301u18⟩) hHeld ?restz301u18
          case hyz301u18 => (intro w hSw; (try dsimp only at hSw); go_simp; first | done | with_reducible rfl)
          try simp only [Act.put, List.getElem_toArray, List.getElem_cons_zero, List.getElem_cons_succ, List.setIfInBounds_toArray, List.set_cons_zero, List.set_cons_succ]
          refine wpAnyH_take (i := 18) (oi := _) (v := ?vz301u19) rfl (by kernel_rfl) (by kernel_rfl) (by kernel_rfl) (fun _ _ _ h => h) (Or.inl ⟨by kernel_rfl, ?hyz301u19⟩) hHeld ?restz301u19
          case hyz301u19 => (intro w hSw; (try dsimp only at hSw); go_simp; first | done | with_reducible rfl)
          try simp only [Act.put, List.getElem_toArray, List.getElem_cons_zero, List.getElem_cons_succ, List.setIfInBounds_toArray, List.set_cons_zero, List.set_cons_succ]
          refine wpAnyH_done (by kernel_rfl) ?_ _
          clear K hHeld
          replace VH := VH.kept (thenB (thenB (Below.refl _ _).drew bz301v5) bz301v16)
          replace B := thenB B (thenB (thenB (Below.refl _ _).drew bz301v5) bz301v16)
          have Sz301 := ((thenB (thenB (Below.refl _ _).drew bz301v5) bz301v16)).size
          clear bz301v5 bz301v16
          obtain ⟨s_VH, f_VH, z_VH⟩ := VH.open
          have Bo := B
          go_wp2_with fail
          go_meet
          exact ⟨rfl, B⟩
        · skip
          have K : ∀ w' : World, Below wc.heap.size wc w' → (w'.cell? ⟨w62.heap.size, 0, none⟩ = some (.int .i64 0) ∧ w'.cell? ⟨w62.heap.size, 1, none⟩ = some (.int .i64 pk) ∧ w'.cell? ⟨w62.heap.size, 2, none⟩ = some (.slice c2 k2 d2) ∧ w'.cell? ⟨b2', o2 + hn9 * 4 + 1, none⟩ = some (.int .i64 ya)) := fun w' h => ⟨(VH.kept h).2.1 0 (by simp), (VH.kept h).2.1 1 (by simp), (VH.kept h).2.1 2 (by simp), ((bcell h).1 _ _ hbY).trans py⟩
          have K := Hid.mk K
          clear py
          refine wp_region_held_drew (S := (fun w' => w'.cell? ⟨w62.heap.size, 0, none⟩ = some (.int .i64 0) ∧ w'.cell? ⟨w62.heap.size, 1, none⟩ = some (.int .i64 pk) ∧ w'.cell? ⟨w62.heap.size, 2, none⟩ = some (.slice c2 k2 d2) ∧ w'.cell? ⟨b2', o2 + hn9 * 4 + 1, none⟩ = some (.int .i64 ya))) (by kernel_rfl) (K.out _ (Below.refl _ _).drew) (fun hHeld => ?_)
          refine wpAnyH_take (i := 0) (oi := _) (v := ?vz311u1) rfl (by kernel_rfl) (by kernel_rfl) (by kernel_rfl) (fun _ _ _ h => h) (Or.inl ⟨by kernel_rfl, ?hyz311u1⟩) hHeld ?restz311u1
          case hyz311u1 => (intro w hSw; (try dsimp only at hSw); go_simp; first | done | with_reducible rfl)
          try simp only [Act.put, List.getElem_toArray, List.getElem_cons_zero, List.setIfInBounds_toArray, List.set_cons_zero, List.set_cons_succ]
          refine wpAnyH_take (i := 1) (oi := _) (v := ?vz311u2) rfl (by kernel_rfl) (by kernel_rfl) (by kernel_rfl) (fun _ _ _ h => h) (Or.inl ⟨by kernel_rfl, ?hyz311u2⟩) hHeld ?restz311u2
          case hyz311u2 => (intro w hSw; (try dsimp only at hSw); go_simp; first | done | with_reducible rfl)
          try simp only [Act.put, List.getElem_toArray, List.getElem_cons_zero, List.getElem_cons_succ, List.setIfInBounds_toArray, List.set_cons_zero, List.set_cons_succ]
          refine wpAnyH_take (i := 2) (oi := _) (v := ?vz311u3) rfl (by kernel_rfl) (by kernel_rfl) (by kernel_rfl) (fun _ _ _ h => h) (Or.inl ⟨by kernel_rfl, ?hyz311u3⟩) hHeld ?restz311u3
          case hyz311u3 => (intro w hSw; (try dsimp only at hSw); go_simp; first | done | with_reducible rfl)
          try simp only [Act.put, List.getElem_toArray, List.getElem_cons_zero, List.getElem_cons_succ, List.setIfInBounds_toArray, List.set_cons_zero, List.set_cons_succ]
          refine wpAnyH_take (i := 3) (oi := _) (v := ?vz311u4) rfl (by kernel_rfl) (by kernel_rfl) (by kernel_rfl) (fun _ _ _ h => h) (Or.inl ⟨by kernel_rfl, ?hyz311u4⟩) hHeld ?restz311u4
          case hyz311u4 => (intro w hSw; (try dsimp only at hSw); go_simp; first | done | with_reducible rfl)
          try simp only [Act.put, List.getElem_toArray, List.getElem_cons_zero, List.getElem_cons_succ, List.setIfInBounds_toArray, List.set_cons_zero, List.set_cons_succ]
          refine wpAnyH_ready (rs := [4]) (by kernel_rfl) (by simp) ?_
          refine AllReadyH.cons (o := _) rfl (fun K0 hK0 => ?_) AllReadyH.nil
          go_simp
          go_at_call 19
          refine (CD1.out _ _ _ _ _ (HL2d.out.kept (Below.refl _ _).drew) (HRK.out.kept (Below.refl _ _).drew)).mono ?_
          rintro e wz311v5 ⟨rfl, bz311v5⟩
          refine hK0.out _ _ (K.out _ (thenB (Below.refl _ _).drew bz311v5)) (fun hHeld => ?_)
          clear hK0 K0
          try simp only [Act.put, List.getElem_toArray, List.getElem_cons_zero, List.getElem_cons_succ, List.setIfInBounds_toArray, List.set_cons_zero, List.set_cons_succ]
          refine wpAnyH_take (i := 5) (oi := _) (v := ?vz311u6) rfl (by kernel_rfl) (by kernel_rfl) (by kernel_rfl) (fun _ _ _ h => h) (Or.inl ⟨by kernel_rfl, ?hyz311u6⟩) hHeld ?restz311u6
          case hyz311u6 => (intro w hSw; (try dsimp only at hSw); go_simp; first | done | with_reducible rfl)
          try simp only [Act.put, List.getElem_toArray, List.getElem_cons_zero, List.getElem_cons_succ, List.setIfInBounds_toArray, List.set_cons_zero, List.set_cons_succ]
          refine wpAnyH_take (i := 6) (oi := _) (v := ?vz311u7) rfl (by kernel_rfl) (by kernel_rfl) (by kernel_rfl) (fun _ _ _ h => h) (Or.inl ⟨by kernel_rfl, ?hyz311u7⟩) hHeld ?restz311u7
          case hyz311u7 => (intro w hSw; (try dsimp only at hSw); go_simp; first | done | with_reducible rfl)
          try simp only [Act.put, List.getElem_toArray, List.getElem_cons_zero, List.getElem_cons_succ, List.setIfInBounds_toArray, List.set_cons_zero, List.set_cons_succ]
          refine wpAnyH_take (i := 7) (oi := _) (v := undef) rfl (by kernel_rfl) (by kernel_rfl) (by kernel_rfl) (fun _ _ _ h => h) (Or.inr ⟨by rfl, rfl⟩) hHeld ?_
          try simp only [Act.put, List.getElem_toArray, List.getElem_cons_zero, List.getElem_cons_succ, List.setIfInBounds_toArray, List.set_cons_zero, List.set_cons_succ]
          refine wpAnyH_take (i := 8) (oi := _) (v := undef) rfl (by kernel_rfl) (by kernel_rfl) (by kernel_rfl) (fun _ _ _ h => h) (Or.inr ⟨by rfl, rfl⟩) hHeld ?_
          try simp only [Act.put, List.getElem_toArray, List.getElem_cons_zero, List.getElem_cons_succ, List.setIfInBounds_toArray, List.set_cons_zero, List.set_cons_succ]
          refine wpAnyH_take (i := 9) (oi := _) (v := undef) rfl (by kernel_rfl) (by kernel_rfl) (by kernel_rfl) (fun _ _ _ h => h) (Or.inr ⟨by rfl, rfl⟩) hHeld ?_
          try simp only [Act.put, List.getElem_toArray, List.getElem_cons_zero, List.getElem_cons_succ, List.setIfInBounds_toArray, List.set_cons_zero, List.set_cons_succ]
          refine wpAnyH_take (i := 10) (oi := _) (v := undef) rfl (by kernel_rfl) (by kernel_rfl) (by kernel_rfl) (fun _ _ _ h => h) (Or.inr ⟨by rfl, rfl⟩) hHeld ?_
          try simp only [Act.put, List.getElem_toArray, List.getElem_cons_zero, List.getElem_cons_succ, List.setIfInBounds_toArray, List.set_cons_zero, List.set_cons_succ]
          refine wpAnyH_take (i := 11) (oi := _) (v := undef) rfl (by kernel_rfl) (by kernel_rfl) (by kernel_rfl) (fun _ _ _ h => h) (Or.inr ⟨by rfl, rfl⟩) hHeld ?_
          try simp only [Act.put, List.getElem_toArray, List.getElem_cons_zero, List.getElem_cons_succ, List.setIfInBounds_toArray, List.set_cons_zero, List.set_cons_succ]
          refine wpAnyH_take (i := 12) (oi := _) (v := undef) rfl (by kernel_rfl) (by kernel_rfl) (by kernel_rfl) (fun _ _ _ h => h) (Or.inr ⟨by rfl, rfl⟩) hHeld ?_
          try simp only [Act.put, List.getElem_toArray, List.getElem_cons_zero, List.getElem_cons_succ, List.setIfInBounds_toArray, List.set_cons_zero, List.set_cons_succ]
          refine wpAnyH_take (i := 13) (oi := _) (v := undef) rfl (by kernel_rfl) (by kernel_rfl) (by kernel_rfl) (fun _ _ _ h => h) (Or.inr ⟨by rfl, rfl⟩) hHeld ?_
          try simp only [Act.put, List.getElem_toArray, List.getElem_cons_zero, List.getElem_cons_succ, List.setIfInBounds_toArray, List.set_cons_zero, List.set_cons_succ]
          refine wpAnyH_take (i := 14) (oi := _) (v := undef) rfl (by kernel_rfl) (by kernel_rfl) (by kernel_rfl) (fun _ _ _ h => h) (Or.inr ⟨by rfl, rfl⟩) hHeld ?_
          try simp only [Act.put, List.getElem_toArray, List.getElem_cons_zero, List.getElem_cons_succ, List.setIfInBounds_toArray, List.set_cons_zero, List.set_cons_succ]
          refine wpAnyH_take (i := 15) (oi := _) (v := undef) rfl (by kernel_rfl) (by kernel_rfl) (by kernel_rfl) (fun _ _ _ h => h) (Or.inr ⟨by rfl, rfl⟩) hHeld ?_
          try simp only [Act.put, List.getElem_toArray, List.getElem_cons_zero, List.getElem_cons_succ, List.setIfInBounds_toArray, List.set_cons_zero, List.set_cons_succ]
          refine wpAnyH_take (i := 16) (oi := _) (v := undef) rfl (by kernel_rfl) (by kernel_rfl) (by kernel_rfl) (fun _ _ _ h => h) (Or.inr ⟨by rfl, rfl⟩) hHeld ?_
          try simp only [Act.put, List.getElem_toArray, List.getElem_cons_zero, List.getElem_cons_succ, List.setIfInBounds_toArray, List.set_cons_zero, List.set_cons_succ]
          refine wpAnyH_take (i := 17) (oi := _) (v := ?vz311u8) rfl (by kernel_rfl) (by kernel_rfl) (by kernel_rfl) (fun _ _ _ h => h) (Or.inl ⟨by kernel_rfl, ?hyz311u8⟩) hHeld ?restz311u8
          case hyz311u8 => (intro w hSw; (try dsimp only at hSw); go_simp; first | done | with_reducible rfl)
          try simp only [Act.put, List.getElem_toArray, List.getElem_cons_zero, List.getElem_cons_succ, List.setIfInBounds_toArray, List.set_cons_zero, List.set_cons_succ]
          refine wpAnyH_take (i := 18) (oi := _) (v := ?vz311u9) rfl (by kernel_rfl) (by kernel_rfl) (by kernel_rfl) (fun _ _ _ h => h) (Or.inl ⟨by kernel_rfl, ?hyz311u9⟩) hHeld ?restz311u9
          case hyz311u9 => (intro w hSw; (try dsimp only at hSw); go_simp; first | done | with_reducible rfl)
          try simp only [Act.put, List.getElem_toArray, List.getElem_cons_zero, List.getElem_cons_succ, List.setIfInBounds_toArray, List.set_cons_zero, List.set_cons_succ]
          refine wpAnyH_done (by kernel_rfl) ?_ _
          clear K hHeld
          replace VH := VH.kept (thenB (Below.refl _ _).drew bz311v5)
          replace B := thenB B (thenB (Below.refl _ _).drew bz311v5)
          have Sz311 := ((thenB (Below.refl _ _).drew bz311v5)).size
          clear bz311v5
          obtain ⟨s_VH, f_VH, z_VH⟩ := VH.open
          have Bo := B
          go_wp2_with fail
          go_meet
          exact ⟨rfl, B⟩
      clear py hbY
      obtain ⟨rfl, BS⟩ := hcut
      have VR := HVR.out.kept BS
      have VH := HVH.out.kept BS
      have VO := HVO.out.kept BS
      have B := thenB HB.out BS
      have HL1e := Hid.mk (HL1d.out.kept BS)
      have HL2e := Hid.mk (HL2d.out.kept BS)
      have HRKe := Hid.mk (HRK.out.kept BS)
      clear HVR HVH HVO HB HL1d HL2d HRK BS
      generalize (!b1 && !b2) = sf at *
      obtain ⟨s_VR, f_VR, z_VR⟩ := VR.open
      obtain ⟨s_VH, f_VH, z_VH⟩ := VH.open
      obtain ⟨s_VO, f_VO, z_VO⟩ := VO.open
      go_upto_region 15 with fail
      clear s_VR f_VR z_VR s_VH f_VH z_VH s_VO f_VO z_VO
      simp only [List.append_eq, List.cons_append, List.nil_append]
      cases sf
      · skip
        have K : ∀ w' : World, Below wc.heap.size wc w' → (w'.cell? ⟨w61.heap.size, 0, none⟩ = some (.int .i64 0) ∧ w'.cell? ⟨w61.heap.size, 1, none⟩ = some (.int .i64 ks) ∧ w'.cell? ⟨w61.heap.size, 2, none⟩ = some (.int .i64 kd) ∧ w'.cell? ⟨w61.heap.size, 3, none⟩ = some (.int .i64 ko) ∧ w'.cell? ⟨w61.heap.size, 4, none⟩ = some (.int .i64 kb) ∧ w'.cell? ⟨w61.heap.size, 5, none⟩ = some (.slice c1 kl d1) ∧ w'.cell? ⟨w62.heap.size, 0, none⟩ = some (.int .i64 0) ∧ w'.cell? ⟨w62.heap.size, 1, none⟩ = some (.int .i64 pk) ∧ w'.cell? ⟨w62.heap.size, 2, none⟩ = some (.slice c2 k2 d2) ∧ w'.cell? ⟨P, 0, none⟩ = some (.int .i64 0) ∧ w'.cell? ⟨P, 1, none⟩ = some (.int .i64 ks) ∧ w'.cell? ⟨P, 2, none⟩ = some (.int .i64 kd) ∧ w'.cell? ⟨P, 3, none⟩ = some (.int .i64 ko) ∧ w'.cell? ⟨P, 4, none⟩ = some (.int .i64 kb) ∧ w'.cell? ⟨P, 5, none⟩ = some (.slice c6 k2 d6)) := fun w' h => ⟨(VR.kept h).2.1 0 (by simp), (VR.kept h).2.1 1 (by simp), (VR.kept h).2.1 2 (by simp), (VR.kept h).2.1 3 (by simp), (VR.kept h).2.1 4 (by simp), (VR.kept h).2.1 5 (by simp), (VH.kept h).2.1 0 (by simp), (VH.kept h).2.1 1 (by simp), (VH.kept h).2.1 2 (by simp), (VO.kept h).2.1 0 (by simp), (VO.kept h).2.1 1 (by simp), (VO.kept h).2.1 2 (by simp), (VO.kept h).2.1 3 (by simp), (VO.kept h).2.1 4 (by simp), (VO.kept h).2.1 5 (by simp)⟩
        have K := Hid.mk K
        refine wp_region_held_drew (S := (fun w' => w'.cell? ⟨w61.heap.size, 0, none⟩ = some (.int .i64 0) ∧ w'.cell? ⟨w61.heap.size, 1, none⟩ = some (.int .i64 ks) ∧ w'.cell? ⟨w61.heap.size, 2, none⟩ = some (.int .i64 kd) ∧ w'.cell? ⟨w61.heap.size, 3, none⟩ = some (.int .i64 ko) ∧ w'.cell? ⟨w61.heap.size, 4, none⟩ = some (.int .i64 kb) ∧ w'.cell? ⟨w61.heap.size, 5, none⟩ = some (.slice c1 kl d1) ∧ w'.cell? ⟨w62.heap.size, 0, none⟩ = some (.int .i64 0) ∧ w'.cell? ⟨w62.heap.size, 1, none⟩ = some (.int .i64 pk) ∧ w'.cell? ⟨w62.heap.size, 2, none⟩ = some (.slice c2 k2 d2) ∧ w'.cell? ⟨P, 0, none⟩ = some (.int .i64 0) ∧ w'.cell? ⟨P, 1, none⟩ = some (.int .i64 ks) ∧ w'.cell? ⟨P, 2, none⟩ = some (.int .i64 kd) ∧ w'.cell? ⟨P, 3, none⟩ = some (.int .i64 ko) ∧ w'.cell? ⟨P, 4, none⟩ = some (.int .i64 kb) ∧ w'.cell? ⟨P, 5, none⟩ = some (.slice c6 k2 d6))) (by kernel_rfl) (K.out _ (Below.refl _ _).drew) (fun hHeld => ?_)
        refine wpAnyH_take (i := 0) (oi := _) (v := ?vz401u1) rfl (by kernel_rfl) (by kernel_rfl) (by kernel_rfl) (fun _ _ _ h => h) (Or.inl ⟨by kernel_rfl, ?hyz401u1⟩) hHeld ?restz401u1
        case hyz401u1 => (intro w hSw; (try dsimp only at hSw); go_simp; first | done | with_reducible rfl)
        try simp only [Act.put, List.getElem_toArray, List.getElem_cons_zero, List.setIfInBounds_toArray, List.set_cons_zero, List.set_cons_succ]
        refine wpAnyH_take (i := 1) (oi := _) (v := ?vz401u2) rfl (by kernel_rfl) (by kernel_rfl) (by kernel_rfl) (fun _ _ _ h => h) (Or.inl ⟨by kernel_rfl, ?hyz401u2⟩) hHeld ?restz401u2
        case hyz401u2 => (intro w hSw; (try dsimp only at hSw); go_simp; first | done | with_reducible rfl)
        try simp only [Act.put, List.getElem_toArray, List.getElem_cons_zero, List.getElem_cons_succ, List.setIfInBounds_toArray, List.set_cons_zero, List.set_cons_succ]
        refine wpAnyH_ready (rs := [2]) (by kernel_rfl) (by simp) ?_
        refine AllReadyH.cons (o := _) rfl (fun K0 hK0 => ?_) AllReadyH.nil
        go_simp
        go_at_call 20
        refine (CTF.out _ _ _ (HL1e.out.kept (Below.refl _ _).drew)).mono ?_
        rintro e wz401v3 ⟨rfl, bz401v3⟩
        refine hK0.out _ _ (K.out _ (thenB (Below.refl _ _).drew bz401v3)) (fun hHeld => ?_)
        clear hK0 K0
        try simp only [Act.put, List.getElem_toArray, List.getElem_cons_zero, List.getElem_cons_succ, List.setIfInBounds_toArray, List.set_cons_zero, List.set_cons_succ]
        refine wpAnyH_take (i := 3) (oi := _) (v := ?vz401u4) rfl (by kernel_rfl) (by kernel_rfl) (by kernel_rfl) (fun _ _ _ h => h) (Or.inl ⟨by kernel_rfl, ?hyz401u4⟩) hHeld ?restz401u4
        case hyz401u4 => (intro w hSw; (try dsimp only at hSw); go_simp; first | done | with_reducible rfl)
        try simp only [Act.put, List.getElem_toArray, List.getElem_cons_zero, List.getElem_cons_succ, List.setIfInBounds_toArray, List.set_cons_zero, List.set_cons_succ]
        refine wpAnyH_take (i := 4) (oi := _) (v := ?vz401u5) rfl (by kernel_rfl) (by kernel_rfl) (by kernel_rfl) (fun _ _ _ h => h) (Or.inl ⟨by kernel_rfl, ?hyz401u5⟩) hHeld ?restz401u5
        case hyz401u5 => (intro w hSw; (try dsimp only at hSw); go_simp; first | done | with_reducible rfl)
        try simp only [Act.put, List.getElem_toArray, List.getElem_cons_zero, List.getElem_cons_succ, List.setIfInBounds_toArray, List.set_cons_zero, List.set_cons_succ]
        refine wpAnyH_take (i := 5) (oi := _) (v := ?vz401u6) rfl (by kernel_rfl) (by kernel_rfl) (by kernel_rfl) (fun _ _ _ h => h) (Or.inl ⟨by kernel_rfl, ?hyz401u6⟩) hHeld ?restz401u6
        case hyz401u6 => (intro w hSw; (try dsimp only at hSw); go_simp; first | done | with_reducible rfl)
        try simp only [Act.put, List.getElem_toArray, List.getElem_cons_zero, List.getElem_cons_succ, List.setIfInBounds_toArray, List.set_cons_zero, List.set_cons_succ]
        refine wpAnyH_take (i := 6) (oi := _) (v := ?vz401u7) rfl (by kernel_rfl) (by kernel_rfl) (by kernel_rfl) (fun _ _ _ h => h) (Or.inl ⟨by kernel_rfl, ?hyz401u7⟩) hHeld ?restz401u7
        case hyz401u7 => (intro w hSw; (try dsimp only at hSw); go_simp; first | done | with_reducible rfl)
        try simp only [Act.put, List.getElem_toArray, List.getElem_cons_zero, List.getElem_cons_succ, List.setIfInBounds_toArray, List.set_cons_zero, List.set_cons_succ]
        refine wpAnyH_take (i := 7) (oi := _) (v := ?vz401u8) rfl (by kernel_rfl) (by kernel_rfl) (by kernel_rfl) (fun _ _ _ h => h) (Or.inl ⟨by kernel_rfl, ?hyz401u8⟩) hHeld ?restz401u8
        case hyz401u8 => (intro w hSw; (try dsimp only at hSw); go_simp; first | done | with_reducible rfl)
        try simp only [Act.put, List.getElem_toArray, List.getElem_cons_zero, List.getElem_cons_succ, List.setIfInBounds_toArray, List.set_cons_zero, List.set_cons_succ]
        refine wpAnyH_take (i := 8) (oi := _) (v := ?vz401u9) rfl (by kernel_rfl) (by kernel_rfl) (by kernel_rfl) (fun _ _ _ h => h) (Or.inl ⟨by kernel_rfl, ?hyz401u9⟩) hHeld ?restz401u9
        case hyz401u9 => (intro w hSw; (try dsimp only at hSw); go_simp; first | done | with_reducible rfl)
        try simp only [Act.put, List.getElem_toArray, List.getElem_cons_zero, List.getElem_cons_succ, List.setIfInBounds_toArray, List.set_cons_zero, List.set_cons_succ]
        refine wpAnyH_take (i := 9) (oi := _) (v := ?vz401u10) rfl (by kernel_rfl) (by kernel_rfl) (by kernel_rfl) (fun _ _ _ h => h) (Or.inl ⟨by kernel_rfl, ?hyz401u10⟩) hHeld ?restz401u10
        case hyz401u10 => (intro w hSw; (try dsimp only at hSw); go_simp; first | done | with_reducible rfl)
        try simp only [Act.put, List.getElem_toArray, List.getElem_cons_zero, List.getElem_cons_succ, List.setIfInBounds_toArray, List.set_cons_zero, List.set_cons_succ]
        refine wpAnyH_take (i := 10) (oi := _) (v := ?vz401u11) rfl (by kernel_rfl) (by kernel_rfl) (by kernel_rfl) (fun _ _ _ h => h) (Or.inl ⟨by kernel_rfl, ?hyz401u11⟩) hHeld ?restz401u11
        case hyz401u11 => (intro w hSw; (try dsimp only at hSw); go_simp; first | done | with_reducible rfl)
        try simp only [Act.put, List.getElem_toArray, List.getElem_cons_zero, List.getElem_cons_succ, List.setIfInBounds_toArray, List.set_cons_zero, List.set_cons_succ]
        refine wpAnyH_take (i := 11) (oi := _) (v := ?vz401u12) rfl (by kernel_rfl) (by kernel_rfl) (by kernel_rfl) (fun _ _ _ h => h) (Or.inl ⟨by kernel_rfl, ?hyz401u12⟩) hHeld ?restz401u12
        case hyz401u12 => (intro w hSw; (try dsimp only at hSw); go_simp; first | done | with_reducible rfl)
        try simp only [Act.put, List.getElem_toArray, List.getElem_cons_zero, List.getElem_cons_succ, List.setIfInBounds_toArray, List.set_cons_zero, List.set_cons_succ]
        refine wpAnyH_take (i := 12) (oi := _) (v := ?vz401u13) rfl (by kernel_rfl) (by kernel_rfl) (by kernel_rfl) (fun _ _ _ h => h) (Or.inl ⟨by kernel_rfl, ?hyz401u13⟩) hHeld ?restz401u13
        case hyz401u13 => (intro w hSw; (try dsimp only at hSw); go_simp; first | done | with_reducible rfl)
        try simp only [Act.put, List.getElem_toArray, List.getElem_cons_zero, List.getElem_cons_succ, List.setIfInBounds_toArray, List.set_cons_zero, List.set_cons_succ]
        refine wpAnyH_take (i := 13) (oi := _) (v := ?vz401u14) rfl (by kernel_rfl) (by kernel_rfl) (by kernel_rfl) (fun _ _ _ h => h) (Or.inl ⟨by kernel_rfl, ?hyz401u14⟩) hHeld ?restz401u14
        case hyz401u14 => (intro w hSw; (try dsimp only at hSw); go_simp; first | done | with_reducible rfl)
        try simp only [Act.put, List.getElem_toArray, List.getElem_cons_zero, List.getElem_cons_succ, List.setIfInBounds_toArray, List.set_cons_zero, List.set_cons_succ]
        refine wpAnyH_take (i := 14) (oi := _) (v := ?vz401u15) rfl (by kernel_rfl) (by kernel_rfl) (by kernel_rfl) (fun _ _ _ h => h) (Or.inl ⟨by kernel_rfl, ?hyz401u15⟩) hHeld ?restz401u15
        case hyz401u15 => (intro w hSw; (try dsimp only at hSw); go_simp; first | done | with_reducible rfl)
        try simp only [Act.put, List.getElem_toArray, List.getElem_cons_zero, List.getElem_cons_succ, List.setIfInBounds_toArray, List.set_cons_zero, List.set_cons_succ]
        refine wpAnyH_take (i := 15) (oi := _) (v := ?vz401u16) rfl (by kernel_rfl) (by kernel_rfl) (by kernel_rfl) (fun _ _ _ h => h) (Or.inl ⟨by kernel_rfl, ?hyz401u16⟩) hHeld ?restz401u16
        case hyz401u16 => (intro w hSw; (try dsimp only at hSw); go_simp; first | done | with_reducible rfl)
        try simp only [Act.put, List.getElem_toArray, List.getElem_cons_zero, List.getElem_cons_succ, List.setIfInBounds_toArray, List.set_cons_zero, List.set_cons_succ]
        refine wpAnyH_take (i := 16) (oi := _) (v := ?vz401u17) rfl (by kernel_rfl) (by kernel_rfl) (by kernel_rfl) (fun _ _ _ h => h) (Or.inl ⟨by kernel_rfl, ?hyz401u17⟩) hHeld ?restz401u17
        case hyz401u17 => (intro w hSw; (try dsimp only at hSw); go_simp; first | done | with_reducible rfl)
        try simp only [Act.put, List.getElem_toArray, List.getElem_cons_zero, List.getElem_cons_succ, List.setIfInBounds_toArray, List.set_cons_zero, List.set_cons_succ]
        refine wpAnyH_take (i := 17) (oi := _) (v := ?vz401u18) rfl (by kernel_rfl) (by kernel_rfl) (by kernel_rfl) (fun _ _ _ h => h) (Or.inl ⟨by kernel_rfl, ?hyz401u18⟩) hHeld ?restz401u18
        case hyz401u18 => (intro w hSw; (try dsimp only at hSw); go_simp; first | done | with_reducible rfl)
        try simp only [Act.put, List.getElem_toArray, List.getElem_cons_zero, List.getElem_cons_succ, List.setIfInBounds_toArray, List.set_cons_zero, List.set_cons_succ]
        refine wpAnyH_take (i := 18) (oi := _) (v := ?vz401u19) rfl (by kernel_rfl) (by kernel_rfl) (by kernel_rfl) (fun _ _ _ h => h) (Or.inl ⟨by kernel_rfl, ?hyz401u19⟩) hHeld ?restz401u19
        case hyz401u19 => (intro w hSw; (try dsimp only at hSw); go_simp; first | done | with_reducible rfl)
        try simp only [Act.put, List.getElem_toArray, List.getElem_cons_zero, List.getElem_cons_succ, List.setIfInBounds_toArray, List.set_cons_zero, List.set_cons_succ]
        refine wpAnyH_take (i := 19) (oi := _) (v := ?vz401u20) rfl (by kernel_rfl) (by kernel_rfl) (by kernel_rfl) (fun _ _ _ h => h) (Or.inl ⟨by kernel_rfl, ?hyz401u20⟩) hHeld ?restz401u20
        case hyz401u20 => (intro w hSw; (try dsimp only at hSw); go_simp; first | done | with_reducible rfl)
        try simp only [Act.put, List.getElem_toArray, List.getElem_cons_zero, List.getElem_cons_succ, List.setIfInBounds_toArray, List.set_cons_zero, List.set_cons_succ]
        refine wpAnyH_take (i := 20) (oi := _) (v := ?vz401u21) rfl (by kernel_rfl) (by kernel_rfl) (by kernel_rfl) (fun _ _ _ h => h) (Or.inl ⟨by kernel_rfl, ?hyz401u21⟩) hHeld ?restz401u21
        case hyz401u21 => (intro w hSw; (try dsimp only at hSw); go_simp; first | done | with_reducible rfl)
        try simp only [Act.put, List.getElem_toArray, List.getElem_cons_zero, List.getElem_cons_succ, List.setIfInBounds_toArray, List.set_cons_zero, List.set_cons_succ]
        refine wpAnyH_take (i := 21) (oi := _) (v := ?vz401u22) rfl (by kernel_rfl) (by kernel_rfl) (by kernel_rfl) (fun _ _ _ h => h) (Or.inl ⟨by kernel_rfl, ?hyz401u22⟩) hHeld ?restz401u22
        case hyz401u22 => (intro w hSw; (try dsimp only at hSw); go_simp; first | done | with_reducible rfl)
        try simp only [Act.put, List.getElem_toArray, List.getElem_cons_zero, List.getElem_cons_succ, List.setIfInBounds_toArray, List.set_cons_zero, List.set_cons_succ]
        refine wpAnyH_take (i := 22) (oi := _) (v := ?vz401u23) rfl (by kernel_rfl) (by kernel_rfl) (by kernel_rfl) (fun _ _ _ h => h) (Or.inl ⟨by kernel_rfl, ?hyz401u23⟩) hHeld ?restz401u23
        case hyz401u23 => (intro w hSw; (try dsimp only at hSw); go_simp; first | done | with_reducible rfl)
        try simp only [Act.put, List.getElem_toArray, List.getElem_cons_zero, List.getElem_cons_succ, List.setIfInBounds_toArray, List.set_cons_zero, List.set_cons_succ]
        refine wpAnyH_take (i := 23) (oi := _) (v := ?vz401u24) rfl (by kernel_rfl) (by kernel_rfl) (by kernel_rfl) (fun _ _ _ h => h) (Or.inl ⟨by kernel_rfl, ?hyz401u24⟩) hHeld ?restz401u24
        case hyz401u24 => (intro w hSw; (try dsimp only at hSw); go_simp; first | done | with_reducible rfl)
        try simp only [Act.put, List.getElem_toArray, List.getElem_cons_zero, List.getElem_cons_succ, List.setIfInBounds_toArray, List.set_cons_zero, List.set_cons_succ]
        refine wpAnyH_take (i := 24) (oi := _) (v := ?vz401u25) rfl (by kernel_rfl) (by kernel_rfl) (by kernel_rfl) (fun _ _ _ h => h) (Or.inl ⟨by kernel_rfl, ?hyz401u25⟩) hHeld ?restz401u25
        case hyz401u25 => (intro w hSw; (try dsimp only at hSw); go_simp; first | done | with_reducible rfl)
        try simp only [Act.put, List.getElem_toArray, List.getElem_cons_zero, List.getElem_cons_succ, List.setIfInBounds_toArray, List.set_cons_zero, List.set_cons_succ]
        refine wpAnyH_take (i := 25) (oi := _) (v := ?vz401u26) rfl (by kernel_rfl) (by kernel_rfl) (by kernel_rfl) (fun _ _ _ h => h) (Or.inl ⟨by kernel_rfl, ?hyz401u26⟩) hHeld ?restz401u26
        case hyz401u26 => (intro w hSw; (try dsimp only at hSw); go_simp; first | done | with_reducible rfl)
        try simp only [Act.put, List.getElem_toArray, List.getElem_cons_zero, List.getElem_cons_succ, List.setIfInBounds_toArray, List.set_cons_zero, List.set_cons_succ]
        refine wpAnyH_take (i := 26) (oi := _) (v := ?vz401u27) rfl (by kernel_rfl) (by kernel_rfl) (by kernel_rfl) (fun _ _ _ h => h) (Or.inl ⟨by kernel_rfl, ?hyz401u27⟩) hHeld ?restz401u27
        case hyz401u27 => (intro w hSw; (try dsimp only at hSw); go_simp; first | done | with_reducible rfl)
        try simp only [Act.put, List.getElem_toArray, List.getElem_cons_zero, List.getElem_cons_succ, List.setIfInBounds_toArray, List.set_cons_zero, List.set_cons_succ]
        refine wpAnyH_take (i := 27) (oi := _) (v := ?vz401u28) rfl (by kernel_rfl) (by kernel_rfl) (by kernel_rfl) (fun _ _ _ h => h) (Or.inl ⟨by kernel_rfl, ?hyz401u28⟩) hHeld ?restz401u28
        case hyz401u28 => (intro w hSw; (try dsimp only at hSw); go_simp; first | done | with_reducible rfl)
        try simp only [Act.put, List.getElem_toArray, List.getElem_cons_zero, List.getElem_cons_succ, List.setIfInBounds_toArray, List.set_cons_zero, List.set_cons_succ]
        refine wpAnyH_take (i := 28) (oi := _) (v := ?vz401u29) rfl (by kernel_rfl) (by kernel_rfl) (by kernel_rfl) (fun _ _ _ h => h) (Or.inl ⟨by kernel_rfl, ?hyz401u29⟩) hHeld ?restz401u29
        case hyz401u29 => (intro w hSw; (try dsimp only at hSw); go_simp; first | done | with_reducible rfl)
        try simp only [Act.put, List.getElem_toArray, List.getElem_cons_zero, List.getElem_cons_succ, List.setIfInBounds_toArray, List.set_cons_zero, List.set_cons_succ]
        refine wpAnyH_take (i := 29) (oi := _) (v := ?vz401u30) rfl (by kernel_rfl) (by kernel_rfl) (by kernel_rfl) (fun _ _ _ h => h) (Or.inl ⟨by kernel_rfl, ?hyz401u30⟩) hHeld ?restz401u30
        case hyz401u30 => (intro w hSw; (try dsimp only at hSw); go_simp; first | done | with_reducible rfl)
        try simp only [Act.put, List.getElem_toArray, List.getElem_cons_zero, List.getElem_cons_succ, List.setIfInBounds_toArray, List.set_cons_zero, List.set_cons_succ]
        refine wpAnyH_take (i := 30) (oi := _) (v := ?vz401u31) rfl (by kernel_rfl) (by kernel_rfl) (by kernel_rfl) (fun _ _ _ h => h) (Or.inl ⟨by kernel_rfl, ?hyz401u31⟩) hHeld ?restz401u31
        case hyz401u31 => (intro w hSw; (try dsimp only at hSw); go_simp; first | done | with_reducible rfl)
        try simp only [Act.put, List.getElem_toArray, List.getElem_cons_zero, List.getElem_cons_succ, List.setIfInBounds_toArray, List.set_cons_zero, List.set_cons_succ]
        refine wpAnyH_take (i := 31) (oi := _) (v := ?vz401u32) rfl (by kernel_rfl) (by kernel_rfl) (by kernel_rfl) (fun _ _ _ h => h) (Or.inl ⟨by kernel_rfl, ?hyz401u32⟩) hHeld ?restz401u32
        case hyz401u32 => (intro w hSw; (try dsimp only at hSw); go_simp; first | done | with_reducible rfl)
        try simp only [Act.put, List.getElem_toArray, List.getElem_cons_zero, List.getElem_cons_succ, List.setIfInBounds_toArray, List.set_cons_zero, List.set_cons_succ]
        refine wpAnyH_take (i := 32) (oi := _) (v := ?vz401u33) rfl (by kernel_rfl) (by kernel_rfl) (by kernel_rfl) (fun _ _ _ h => h) (Or.inl ⟨by kernel_rfl, ?hyz401u33⟩) hHeld ?restz401u33
        case hyz401u33 => (intro w hSw; (try dsimp only at hSw); go_simp; first | done | with_reducible rfl)
        try simp only [Act.put, List.getElem_toArray, List.getElem_cons_zero, List.getElem_cons_succ, List.setIfInBounds_toArray, List.set_cons_zero, List.set_cons_succ]
        refine wpAnyH_take (i := 33) (oi := _) (v := ?vz401u34) rfl (by kernel_rfl) (by kernel_rfl) (by kernel_rfl) (fun _ _ _ h => h) (Or.inl ⟨by kernel_rfl, ?hyz401u34⟩) hHeld ?restz401u34
        case hyz401u34 => (intro w hSw; (try dsimp only at hSw); go_simp; first | done | with_reducible rfl)
        try simp only [Act.put, List.getElem_toArray, List.getElem_cons_zero, List.getElem_cons_succ, List.setIfInBounds_toArray, List.set_cons_zero, List.set_cons_succ]
        refine wpAnyH_take (i := 34) (oi := _) (v := ?vz401u35) rfl (by kernel_rfl) (by kernel_rfl) (by kernel_rfl) (fun _ _ _ h => h) (Or.inl ⟨by kernel_rfl, ?hyz401u35⟩) hHeld ?restz401u35
        case hyz401u35 => (intro w hSw; (try dsimp only at hSw); go_simp; first | done | with_reducible rfl)
        try simp only [Act.put, List.getElem_toArray, List.getElem_cons_zero, List.getElem_cons_succ, List.setIfInBounds_toArray, List.set_cons_zero, List.set_cons_succ]
        refine wpAnyH_take (i := 35) (oi := _) (v := ?vz401u36) rfl (by kernel_rfl) (by kernel_rfl) (by kernel_rfl) (fun _ _ _ h => h) (Or.inl ⟨by kernel_rfl, ?hyz401u36⟩) hHeld ?restz401u36
        case hyz401u36 => (intro w hSw; (try dsimp only at hSw); go_simp; first | done | with_reducible rfl)
        try simp only [Act.put, List.getElem_toArray, List.getElem_cons_zero, List.getElem_cons_succ, List.setIfInBounds_toArray, List.set_cons_zero, List.set_cons_succ]
        refine wpAnyH_take (i := 36) (oi := _) (v := ?vz401u37) rfl (by kernel_rfl) (by kernel_rfl) (by kernel_rfl) (fun _ _ _ h => h) (Or.inl ⟨by kernel_rfl, ?hyz401u37⟩) hHeld ?restz401u37
        case hyz401u37 => (intro w hSw; (try dsimp only at hSw); go_simp; first | done | with_reducible rfl)
        try simp only [Act.put, List.getElem_toArray, List.getElem_cons_zero, List.getElem_cons_succ, List.setIfInBounds_toArray, List.set_cons_zero, List.set_cons_succ]
        refine wpAnyH_take (i := 37) (oi := _) (v := ?vz401u38) rfl (by kernel_rfl) (by kernel_rfl) (by kernel_rfl) (fun _ _ _ h => h) (Or.inl ⟨by kernel_rfl, ?hyz401u38⟩) hHeld ?restz401u38
        case hyz401u38 => (intro w hSw; (try dsimp only at hSw); go_simp; first | done | with_reducible rfl)
        try simp only [Act.put, List.getElem_toArray, List.getElem_cons_zero, List.getElem_cons_succ, List.setIfInBounds_toArray, List.set_cons_zero, List.set_cons_succ]
        refine wpAnyH_take (i := 38) (oi := _) (v := ?vz401u39) rfl (by kernel_rfl) (by kernel_rfl) (by kernel_rfl) (fun _ _ _ h => h) (Or.inl ⟨by kernel_rfl, ?hyz401u39⟩) hHeld ?restz401u39
        case hyz401u39 => (intro w hSw; (try dsimp only at hSw); go_simp; first | done | with_reducible rfl)
        try simp only [Act.put, List.getElem_toArray, List.getElem_cons_zero, List.getElem_cons_succ, List.setIfInBounds_toArray, List.set_cons_zero, List.set_cons_succ]
        refine wpAnyH_take (i := 39) (oi := _) (v := ?vz401u40) rfl (by kernel_rfl) (by kernel_rfl) (by kernel_rfl) (fun _ _ _ h => h) (Or.inl ⟨by kernel_rfl, ?hyz401u40⟩) hHeld ?restz401u40
        case hyz401u40 => (intro w hSw; (try dsimp only at hSw); go_simp; first | done | with_reducible rfl)
        try simp only [Act.put, List.getElem_toArray, List.getElem_cons_zero, List.getElem_cons_succ, List.setIfInBounds_toArray, List.set_cons_zero, List.set_cons_succ]
        refine wpAnyH_take (i := 40) (oi := _) (v := ?vz401u41) rfl (by kernel_rfl) (by kernel_rfl) (by kernel_rfl) (fun _ _ _ h => h) (Or.inl ⟨by kernel_rfl, ?hyz401u41⟩) hHeld ?restz401u41
        case hyz401u41 => (intro w hSw; (try dsimp only at hSw); go_simp; first | done | with_reducible rfl)
        try simp only [Act.put, List.getElem_toArray, List.getElem_cons_zero, List.getElem_cons_succ, List.setIfInBounds_toArray, List.set_cons_zero, List.set_cons_succ]
        refine wpAnyH_take (i := 41) (oi := _) (v := ?vz401u42) rfl (by kernel_rfl) (by kernel_rfl) (by kernel_rfl) (fun _ _ _ h => h) (Or.inl ⟨by kernel_rfl, ?hyz401u42⟩) hHeld ?restz401u42
        case hyz401u42 => (intro w hSw; (try dsimp only at hSw); go_simp; first | done | with_reducible rfl)
        try simp only [Act.put, List.getElem_toArray, List.getElem_cons_zero, List.getElem_cons_succ, List.setIfInBounds_toArray, List.set_cons_zero, List.set_cons_succ]
        refine wpAnyH_take (i := 42) (oi := _) (v := ?vz401u43) rfl (by kernel_rfl) (by kernel_rfl) (by kernel_rfl) (fun _ _ _ h => h) (Or.inl ⟨by kernel_rfl, ?hyz401u43⟩) hHeld ?restz401u43
        case hyz401u43 => (intro w hSw; (try dsimp only at hSw); go_simp; first | done | with_reducible rfl)
        try simp only [Act.put, List.getElem_toArray, List.getElem_cons_zero, List.getElem_cons_succ, List.setIfInBounds_toArray, List.set_cons_zero, List.set_cons_succ]
        refine wpAnyH_take (i := 43) (oi := _) (v := ?vz401u44) rfl (by kernel_rfl) (by kernel_rfl) (by kernel_rfl) (fun _ _ _ h => h) (Or.inl ⟨by kernel_rfl, ?hyz401u44⟩) hHeld ?restz401u44
        case hyz401u44 => (intro w hSw; (try dsimp only at hSw); go_simp; first | done | with_reducible rfl)
        try simp only [Act.put, List.getElem_toArray, List.getElem_cons_zero, List.getElem_cons_succ, List.setIfInBounds_toArray, List.set_cons_zero, List.set_cons_succ]
        refine wpAnyH_take (i := 44) (oi := _) (v := ?vz401u45) rfl (by kernel_rfl) (by kernel_rfl) (by kernel_rfl) (fun _ _ _ h => h) (Or.inl ⟨by kernel_rfl, ?hyz401u45⟩) hHeld ?restz401u45
        case hyz401u45 => (intro w hSw; (try dsimp only at hSw); go_simp; first | done | with_reducible rfl)
        try simp only [Act.put, List.getElem_toArray, List.getElem_cons_zero, List.getElem_cons_succ, List.setIfInBounds_toArray, List.set_cons_zero, List.set_cons_succ]
        refine wpAnyH_take (i := 45) (oi := _) (v := ?vz401u46) rfl (by kernel_rfl) (by kernel_rfl) (by kernel_rfl) (fun _ _ _ h => h) (Or.inl ⟨by kernel_rfl, ?hyz401u46⟩) hHeld ?restz401u46
        case hyz401u46 => (intro w hSw; (try dsimp only at hSw); go_simp; first | done | with_reducible rfl)
        try simp only [Act.put, List.getElem_toArray, List.getElem_cons_zero, List.getElem_cons_succ, List.setIfInBounds_toArray, List.set_cons_zero, List.set_cons_succ]
        refine wpAnyH_take (i := 46) (oi := _) (v := ?vz401u47) rfl (by kernel_rfl) (by kernel_rfl) (by kernel_rfl) (fun _ _ _ h => h) (Or.inl ⟨by kernel_rfl, ?hyz401u47⟩) hHeld ?restz401u47
        case hyz401u47 => (intro w hSw; (try dsimp only at hSw); go_simp; first | done | with_reducible rfl)
        try simp only [Act.put, List.getElem_toArray, List.getElem_cons_zero, List.getElem_cons_succ, List.setIfInBounds_toArray, List.set_cons_zero, List.set_cons_succ]
        refine wpAnyH_take (i := 47) (oi := _) (v := undef) rfl (by kernel_rfl) (by kernel_rfl) (by kernel_rfl) (fun _ _ _ h => h) (Or.inr ⟨by rfl, rfl⟩) hHeld ?_
        try simp only [Act.put, List.getElem_toArray, List.getElem_cons_zero, List.getElem_cons_succ, List.setIfInBounds_toArray, List.set_cons_zero, List.set_cons_succ]
        refine wpAnyH_take (i := 48) (oi := _) (v := undef) rfl (by kernel_rfl) (by kernel_rfl) (by kernel_rfl) (fun _ _ _ h => h) (Or.inr ⟨by rfl, rfl⟩) hHeld ?_
        try simp only [Act.put, List.getElem_toArray, List.getElem_cons_zero, List.getElem_cons_succ, List.setIfInBounds_toArray, List.set_cons_zero, List.set_cons_succ]
        refine wpAnyH_take (i := 49) (oi := _) (v := undef) rfl (by kernel_rfl) (by kernel_rfl) (by kernel_rfl) (fun _ _ _ h => h) (Or.inr ⟨by rfl, rfl⟩) hHeld ?_
        try simp only [Act.put, List.getElem_toArray, List.getElem_cons_zero, List.getElem_cons_succ, List.setIfInBounds_toArray, List.set_cons_zero, List.set_cons_succ]
        refine wpAnyH_take (i := 50) (oi := _) (v := undef) rfl (by kernel_rfl) (by kernel_rfl) (by kernel_rfl) (fun _ _ _ h => h) (Or.inr ⟨by rfl, rfl⟩) hHeld ?_
        try simp only [Act.put, List.getElem_toArray, List.getElem_cons_zero, List.getElem_cons_succ, List.setIfInBounds_toArray, List.set_cons_zero, List.set_cons_succ]
        refine wpAnyH_take (i := 51) (oi := _) (v := undef) rfl (by kernel_rfl) (by kernel_rfl) (by kernel_rfl) (fun _ _ _ h => h) (Or.inr ⟨by rfl, rfl⟩) hHeld ?_
        try simp only [Act.put, List.getElem_toArray, List.getElem_cons_zero, List.getElem_cons_succ, List.setIfInBounds_toArray, List.set_cons_zero, List.set_cons_succ]
        refine wpAnyH_take (i := 52) (oi := _) (v := undef) rfl (by kernel_rfl) (by kernel_rfl) (by kernel_rfl) (fun _ _ _ h => h) (Or.inr ⟨by rfl, rfl⟩) hHeld ?_
        try simp only [Act.put, List.getElem_toArray, List.getElem_cons_zero, List.getElem_cons_succ, List.setIfInBounds_toArray, List.set_cons_zero, List.set_cons_succ]
        refine wpAnyH_take (i := 53) (oi := _) (v := undef) rfl (by kernel_rfl) (by kernel_rfl) (by kernel_rfl) (fun _ _ _ h => h) (Or.inr ⟨by rfl, rfl⟩) hHeld ?_
        try simp only [Act.put, List.getElem_toArray, List.getElem_cons_zero, List.getElem_cons_succ, List.setIfInBounds_toArray, List.set_cons_zero, List.set_cons_succ]
        refine wpAnyH_take (i := 54) (oi := _) (v := ?vz401u48) rfl (by kernel_rfl) (by kernel_rfl) (by kernel_rfl) (fun _ _ _ h => h) (Or.inl ⟨by kernel_rfl, ?hyz401u48⟩) hHeld ?restz401u48
        case hyz401u48 => (intro w hSw; (try dsimp only at hSw); go_simp; first | done | with_reducible rfl)
        try simp only [Act.put, List.getElem_toArray, List.getElem_cons_zero, List.getElem_cons_succ, List.setIfInBounds_toArray, List.set_cons_zero, List.set_cons_succ]
        refine wpAnyH_take (i := 55) (oi := _) (v := ?vz401u49) rfl (by kernel_rfl) (by kernel_rfl) (by kernel_rfl) (fun _ _ _ h => h) (Or.inl ⟨by kernel_rfl, ?hyz401u49⟩) hHeld ?restz401u49
        case hyz401u49 => (intro w hSw; (try dsimp only at hSw); go_simp; first | done | with_reducible rfl)
        try simp only [Act.put, List.getElem_toArray, List.getElem_cons_zero, List.getElem_cons_succ, List.setIfInBounds_toArray, List.set_cons_zero, List.set_cons_succ]
        refine wpAnyH_take (i := 56) (oi := _) (v := undef) rfl (by kernel_rfl) (by kernel_rfl) (by kernel_rfl) (fun _ _ _ h => h) (Or.inr ⟨by rfl, rfl⟩) hHeld ?_
        try simp only [Act.put, List.getElem_toArray, List.getElem_cons_zero, List.getElem_cons_succ, List.setIfInBounds_toArray, List.set_cons_zero, List.set_cons_succ]
        refine wpAnyH_take (i := 57) (oi := _) (v := undef) rfl (by kernel_rfl) (by kernel_rfl) (by kernel_rfl) (fun _ _ _ h => h) (Or.inr ⟨by rfl, rfl⟩) hHeld ?_
        try simp only [Act.put, List.getElem_toArray, List.getElem_cons_zero, List.getElem_cons_succ, List.setIfInBounds_toArray, List.set_cons_zero, List.set_cons_succ]
        refine wpAnyH_take (i := 58) (oi := _) (v := undef) rfl (by kernel_rfl) (by kernel_rfl) (by kernel_rfl) (fun _ _ _ h => h) (Or.inr ⟨by rfl, rfl⟩) hHeld ?_
        try simp only [Act.put, List.getElem_toArray, List.getElem_cons_zero, List.getElem_cons_succ, List.setIfInBounds_toArray, List.set_cons_zero, List.set_cons_succ]
        refine wpAnyH_take (i := 59) (oi := _) (v := undef) rfl (by kernel_rfl) (by kernel_rfl) (by kernel_rfl) (fun _ _ _ h => h) (Or.inr ⟨by rfl, rfl⟩) hHeld ?_
        try simp only [Act.put, List.getElem_toArray, List.getElem_cons_zero, List.getElem_cons_succ, List.setIfInBounds_toArray, List.set_cons_zero, List.set_cons_succ]
        refine wpAnyH_take (i := 60) (oi := _) (v := undef) rfl (by kernel_rfl) (by kernel_rfl) (by kernel_rfl) (fun _ _ _ h => h) (Or.inr ⟨by rfl, rfl⟩) hHeld ?_
        try simp only [Act.put, List.getElem_toArray, List.getElem_cons_zero, List.getElem_cons_succ, List.setIfInBounds_toArray, List.set_cons_zero, List.set_cons_succ]
        refine wpAnyH_take (i := 61) (oi := _) (v := undef) rfl (by kernel_rfl) (by kernel_rfl) (by kernel_rfl) (fun _ _ _ h => h) (Or.inr ⟨by rfl, rfl⟩) hHeld ?_
        try simp only [Act.put, List.getElem_toArray, List.getElem_cons_zero, List.getElem_cons_succ, List.setIfInBounds_toArray, List.set_cons_zero, List.set_cons_succ]
        refine wpAnyH_take (i := 62) (oi := _) (v := undef) rfl (by kernel_rfl) (by kernel_rfl) (by kernel_rfl) (fun _ _ _ h => h) (Or.inr ⟨by rfl, rfl⟩) hHeld ?_
        try simp only [Act.put, List.getElem_toArray, List.getElem_cons_zero, List.getElem_cons_succ, List.setIfInBounds_toArray, List.set_cons_zero, List.set_cons_succ]
        refine wpAnyH_take (i := 63) (oi := _) (v := ?vz401u50) rfl (by kernel_rfl) (by kernel_rfl) (by kernel_rfl) (fun _ _ _ h => h) (Or.inl ⟨by kernel_rfl, ?hyz401u50⟩) hHeld ?restz401u50
        case hyz401u50 => (intro w hSw; (try dsimp only at hSw); go_simp; first | done | with_reducible rfl)
        try simp only [Act.put, List.getElem_toArray, List.getElem_cons_zero, List.getElem_cons_succ, List.setIfInBounds_toArray, List.set_cons_zero, List.set_cons_succ]
        refine wpAnyH_take (i := 64) (oi := _) (v := ?vz401u51) rfl (by kernel_rfl) (by kernel_rfl) (by kernel_rfl) (fun _ _ _ h => h) (Or.inl ⟨by kernel_rfl, ?hyz401u51⟩) hHeld ?restz401u51
        case hyz401u51 => (intro w hSw; (try dsimp only at hSw); go_simp; first | done | with_reducible rfl)
        try simp only [Act.put, List.getElem_toArray, List.getElem_cons_zero, List.getElem_cons_succ, List.setIfInBounds_toArray, List.set_cons_zero, List.set_cons_succ]
        refine wpAnyH_take (i := 65) (oi := _) (v := undef) rfl (by kernel_rfl) (by kernel_rfl) (by kernel_rfl) (fun _ _ _ h => h) (Or.inr ⟨by rfl, rfl⟩) hHeld ?_
        try simp only [Act.put, List.getElem_toArray, List.getElem_cons_zero, List.getElem_cons_succ, List.setIfInBounds_toArray, List.set_cons_zero, List.set_cons_succ]
        refine wpAnyH_take (i := 66) (oi := _) (v := undef) rfl (by kernel_rfl) (by kernel_rfl) (by kernel_rfl) (fun _ _ _ h => h) (Or.inr ⟨by rfl, rfl⟩) hHeld ?_
        try simp only [Act.put, List.getElem_toArray, List.getElem_cons_zero, List.getElem_cons_succ, List.setIfInBounds_toArray, List.set_cons_zero, List.set_cons_succ]
        refine wpAnyH_take (i := 67) (oi := _) (v := undef) rfl (by kernel_rfl) (by kernel_rfl) (by kernel_rfl) (fun _ _ _ h => h) (Or.inr ⟨by rfl, rfl⟩) hHeld ?_
        try simp only [Act.put, List.getElem_toArray, List.getElem_cons_zero, List.getElem_cons_succ, List.setIfInBounds_toArray, List.set_cons_zero, List.set_cons_succ]
        refine wpAnyH_take (i := 68) (oi := _) (v := undef) rfl (by kernel_rfl) (by kernel_rfl) (by kernel_rfl) (fun _ _ _ h => h) (Or.inr ⟨by rfl, rfl⟩) hHeld ?_
        try simp only [Act.put, List.getElem_toArray, List.getElem_cons_zero, List.getElem_cons_succ, List.setIfInBounds_toArray, List.set_cons_zero, List.set_cons_succ]
        refine wpAnyH_take (i := 69) (oi := _) (v := undef) rfl (by kernel_rfl) (by kernel_rfl) (by kernel_rfl) (fun _ _ _ h => h) (Or.inr ⟨by rfl, rfl⟩) hHeld ?_
        try simp only [Act.put, List.getElem_toArray, List.getElem_cons_zero, List.getElem_cons_succ, List.setIfInBounds_toArray, List.set_cons_zero, List.set_cons_succ]
        refine wpAnyH_take (i := 70) (oi := _) (v := undef) rfl (by kernel_rfl) (by kernel_rfl) (by kernel_rfl) (fun _ _ _ h => h) (Or.inr ⟨by rfl, rfl⟩) hHeld ?_
        try simp only [Act.put, List.getElem_toArray, List.getElem_cons_zero, List.getElem_cons_succ, List.setIfInBounds_toArray, List.set_cons_zero, List.set_cons_succ]
        refine wpAnyH_take (i := 71) (oi := _) (v := undef) rfl (by kernel_rfl) (by kernel_rfl) (by kernel_rfl) (fun _ _ _ h => h) (Or.inr ⟨by rfl, rfl⟩) hHeld ?_
        try simp only [Act.put, List.getElem_toArray, List.getElem_cons_zero, List.getElem_cons_succ, List.setIfInBounds_toArray, List.set_cons_zero, List.set_cons_succ]
        refine wpAnyH_take (i := 72) (oi := _) (v := undef) rfl (by kernel_rfl) (by kernel_rfl) (by kernel_rfl) (fun _ _ _ h => h) (Or.inr ⟨by rfl, rfl⟩) hHeld ?_
        try simp only [Act.put, List.getElem_toArray, List.getElem_cons_zero, List.getElem_cons_succ, List.setIfInBounds_toArray, List.set_cons_zero, List.set_cons_succ]
        refine wpAnyH_take (i := 73) (oi := _) (v := undef) rfl (by kernel_rfl) (by kernel_rfl) (by kernel_rfl) (fun _ _ _ h => h) (Or.inr ⟨by rfl, rfl⟩) hHeld ?_
        try simp only [Act.put, List.getElem_toArray, List.getElem_cons_zero, List.getElem_cons_succ, List.setIfInBounds_toArray, List.set_cons_zero, List.set_cons_succ]
        refine wpAnyH_take (i := 74) (oi := _) (v := ?vz401u52) rfl (by kernel_rfl) (by kernel_rfl) (by kernel_rfl) (fun _ _ _ h => h) (Or.inl ⟨by kernel_rfl, ?hyz401u52⟩) hHeld ?restz401u52
        case hyz401u52 => (intro w hSw; (try dsimp only at hSw); go_simp; first | done | with_reducible rfl)
        try simp only [Act.put, List.getElem_toArray, List.getElem_cons_zero, List.getElem_cons_succ, List.setIfInBounds_toArray, List.set_cons_zero, List.set_cons_succ]
        refine wpAnyH_take (i := 75) (oi := _) (v := ?vz401u53) rfl (by kernel_rfl) (by kernel_rfl) (by kernel_rfl) (fun _ _ _ h => h) (Or.inl ⟨by kernel_rfl, ?hyz401u53⟩) hHeld ?restz401u53
        case hyz401u53 => (intro w hSw; (try dsimp only at hSw); go_simp; first | done | with_reducible rfl)
        try simp only [Act.put, List.getElem_toArray, List.getElem_cons_zero, List.getElem_cons_succ, List.setIfInBounds_toArray, List.set_cons_zero, List.set_cons_succ]
        refine wpAnyH_take (i := 76) (oi := _) (v := ?vz401u54) rfl (by kernel_rfl) (by kernel_rfl) (by kernel_rfl) (fun _ _ _ h => h) (Or.inl ⟨by kernel_rfl, ?hyz401u54⟩) hHeld ?restz401u54
        case hyz401u54 => (intro w hSw; (try dsimp only at hSw); go_simp; first | done | with_reducible rfl)
        try simp only [Act.put, List.getElem_toArray, List.getElem_cons_zero, List.getElem_cons_succ, List.setIfInBounds_toArray, List.set_cons_zero, List.set_cons_succ]
        refine wpAnyH_done (by kernel_rfl) ?_ _
        clear K hHeld
        have bacc : Below wc.heap.size wc wz401v3 := (thenB (Below.refl _ _).drew bz401v3)
        replace VR := VR.kept bacc
        replace VH := VH.kept bacc
        replace VO := VO.kept bacc
        replace B := thenB B bacc
        have Sz401 := (bacc).size
        clear bacc
        clear bz401v3
        obtain ⟨s_VR, f_VR, z_VR⟩ := VR.open
        obtain ⟨s_VH, f_VH, z_VH⟩ := VH.open
        obtain ⟨s_VO, f_VO, z_VO⟩ := VO.open
        have Bo := B
        go_wp2
        go_ret
        exact ⟨rfl, HB0.out.trans (B.mono HB0.out.size)⟩
      · cases b3
        rotate_left
        · skip
          have K : ∀ w' : World, Below wc.heap.size wc w' → (w'.cell? ⟨w61.heap.size, 0, none⟩ = some (.int .i64 0) ∧ w'.cell? ⟨w61.heap.size, 1, none⟩ = some (.int .i64 ks) ∧ w'.cell? ⟨w61.heap.size, 2, none⟩ = some (.int .i64 kd) ∧ w'.cell? ⟨w61.heap.size, 3, none⟩ = some (.int .i64 ko) ∧ w'.cell? ⟨w61.heap.size, 4, none⟩ = some (.int .i64 kb) ∧ w'.cell? ⟨w61.heap.size, 5, none⟩ = some (.slice c1 kl d1) ∧ w'.cell? ⟨w62.heap.size, 0, none⟩ = some (.int .i64 0) ∧ w'.cell? ⟨w62.heap.size, 1, none⟩ = some (.int .i64 pk) ∧ w'.cell? ⟨w62.heap.size, 2, none⟩ = some (.slice c2 k2 d2) ∧ w'.cell? ⟨P, 0, none⟩ = some (.int .i64 0) ∧ w'.cell? ⟨P, 1, none⟩ = some (.int .i64 ks) ∧ w'.cell? ⟨P, 2, none⟩ = some (.int .i64 kd) ∧ w'.cell? ⟨P, 3, none⟩ = some (.int .i64 ko) ∧ w'.cell? ⟨P, 4, none⟩ = some (.int .i64 kb) ∧ w'.cell? ⟨P, 5, none⟩ = some (.slice c6 k2 d6)) := fun w' h => ⟨(VR.kept h).2.1 0 (by simp), (VR.kept h).2.1 1 (by simp), (VR.kept h).2.1 2 (by simp), (VR.kept h).2.1 3 (by simp), (VR.kept h).2.1 4 (by simp), (VR.kept h).2.1 5 (by simp), (VH.kept h).2.1 0 (by simp), (VH.kept h).2.1 1 (by simp), (VH.kept h).2.1 2 (by simp), (VO.kept h).2.1 0 (by simp), (VO.kept h).2.1 1 (by simp), (VO.kept h).2.1 2 (by simp), (VO.kept h).2.1 3 (by simp), (VO.kept h).2.1 4 (by simp), (VO.kept h).2.1 5 (by simp)⟩
          have K := Hid.mk K
          refine wp_region_held_drew (S := (fun w' => w'.cell? ⟨w61.heap.size, 0, none⟩ = some (.int .i64 0) ∧ w'.cell? ⟨w61.heap.size, 1, none⟩ = some (.int .i64 ks) ∧ w'.cell? ⟨w61.heap.size, 2, none⟩ = some (.int .i64 kd) ∧ w'.cell? ⟨w61.heap.size, 3, none⟩ = some (.int .i64 ko) ∧ w'.cell? ⟨w61.heap.size, 4, none⟩ = some (.int .i64 kb) ∧ w'.cell? ⟨w61.heap.size, 5, none⟩ = some (.slice c1 kl d1) ∧ w'.cell? ⟨w62.heap.size, 0, none⟩ = some (.int .i64 0) ∧ w'.cell? ⟨w62.heap.size, 1, none⟩ = some (.int .i64 pk) ∧ w'.cell? ⟨w62.heap.size, 2, none⟩ = some (.slice c2 k2 d2) ∧ w'.cell? ⟨P, 0, none⟩ = some (.int .i64 0) ∧ w'.cell? ⟨P, 1, none⟩ = some (.int .i64 ks) ∧ w'.cell? ⟨P, 2, none⟩ = some (.int .i64 kd) ∧ w'.cell? ⟨P, 3, none⟩ = some (.int .i64 ko) ∧ w'.cell? ⟨P, 4, none⟩ = some (.int .i64 kb) ∧ w'.cell? ⟨P, 5, none⟩ = some (.slice c6 k2 d6))) (by kernel_rfl) (K.out _ (Below.refl _ _).drew) (fun hHeld => ?_)
          refine wpAnyH_take (i := 0) (oi := _) (v := ?vz421u1) rfl (by kernel_rfl) (by kernel_rfl) (by kernel_rfl) (fun _ _ _ h => h) (Or.inl ⟨by kernel_rfl, ?hyz421u1⟩) hHeld ?restz421u1
          case hyz421u1 => (intro w hSw; (try dsimp only at hSw); go_simp; first | done | with_reducible rfl)
          try simp only [Act.put, List.getElem_toArray, List.getElem_cons_zero, List.setIfInBounds_toArray, List.set_cons_zero, List.set_cons_succ]
          refine wpAnyH_take (i := 1) (oi := _) (v := ?vz421u2) rfl (by kernel_rfl) (by kernel_rfl) (by kernel_rfl) (fun _ _ _ h => h) (Or.inl ⟨by kernel_rfl, ?hyz421u2⟩) hHeld ?restz421u2
          case hyz421u2 => (intro w hSw; (try dsimp only at hSw); go_simp; first | done | with_reducible rfl)
          try simp only [Act.put, List.getElem_toArray, List.getElem_cons_zero, List.getElem_cons_succ, List.setIfInBounds_toArray, List.set_cons_zero, List.set_cons_succ]
          refine wpAnyH_ready (rs := [2]) (by kernel_rfl) (by simp) ?_
          refine AllReadyH.cons (o := _) rfl (fun K0 hK0 => ?_) AllReadyH.nil
          go_simp
          go_at_call 20
          refine (CTF.out _ _ _ (HL1e.out.kept (Below.refl _ _).drew)).mono ?_
          rintro e wz421v3 ⟨rfl, bz421v3⟩
          refine hK0.out _ _ (K.out _ (thenB (Below.refl _ _).drew bz421v3)) (fun hHeld => ?_)
          clear hK0 K0
          try simp only [Act.put, List.getElem_toArray, List.getElem_cons_zero, List.getElem_cons_succ, List.setIfInBounds_toArray, List.set_cons_zero, List.set_cons_succ]
          refine wpAnyH_take (i := 3) (oi := _) (v := ?vz421u4) rfl (by kernel_rfl) (by kernel_rfl) (by kernel_rfl) (fun _ _ _ h => h) (Or.inl ⟨by kernel_rfl, ?hyz421u4⟩) hHeld ?restz421u4
          case hyz421u4 => (intro w hSw; (try dsimp only at hSw); go_simp; first | done | with_reducible rfl)
          try simp only [Act.put, List.getElem_toArray, List.getElem_cons_zero, List.getElem_cons_succ, List.setIfInBounds_toArray, List.set_cons_zero, List.set_cons_succ]
          refine wpAnyH_take (i := 4) (oi := _) (v := ?vz421u5) rfl (by kernel_rfl) (by kernel_rfl) (by kernel_rfl) (fun _ _ _ h => h) (Or.inl ⟨by kernel_rfl, ?hyz421u5⟩) hHeld ?restz421u5
          case hyz421u5 => (intro w hSw; (try dsimp only at hSw); go_simp; first | done | with_reducible rfl)
          try simp only [Act.put, List.getElem_toArray, List.getElem_cons_zero, List.getElem_cons_succ, List.setIfInBounds_toArray, List.set_cons_zero, List.set_cons_succ]
          refine wpAnyH_take (i := 5) (oi := _) (v := ?vz421u6) rfl (by kernel_rfl) (by kernel_rfl) (by kernel_rfl) (fun _ _ _ h => h) (Or.inl ⟨by kernel_rfl, ?hyz421u6⟩) hHeld ?restz421u6
          case hyz421u6 => (intro w hSw; (try dsimp only at hSw); go_simp; first | done | with_reducible rfl)
          try simp only [Act.put, List.getElem_toArray, List.getElem_cons_zero, List.getElem_cons_succ, List.setIfInBounds_toArray, List.set_cons_zero, List.set_cons_succ]
          refine wpAnyH_take (i := 6) (oi := _) (v := ?vz421u7) rfl (by kernel_rfl) (by kernel_rfl) (by kernel_rfl) (fun _ _ _ h => h) (Or.inl ⟨by kernel_rfl, ?hyz421u7⟩) hHeld ?restz421u7
          case hyz421u7 => (intro w hSw; (try dsimp only at hSw); go_simp; first | done | with_reducible rfl)
          try simp only [Act.put, List.getElem_toArray, List.getElem_cons_zero, List.getElem_cons_succ, List.setIfInBounds_toArray, List.set_cons_zero, List.set_cons_succ]
          refine wpAnyH_take (i := 7) (oi := _) (v := ?vz421u8) rfl (by kernel_rfl) (by kernel_rfl) (by kernel_rfl) (fun _ _ _ h => h) (Or.inl ⟨by kernel_rfl, ?hyz421u8⟩) hHeld ?restz421u8
          case hyz421u8 => (intro w hSw; (try dsimp only at hSw); go_simp; first | done | with_reducible rfl)
          try simp only [Act.put, List.getElem_toArray, List.getElem_cons_zero, List.getElem_cons_succ, List.setIfInBounds_toArray, List.set_cons_zero, List.set_cons_succ]
          refine wpAnyH_take (i := 8) (oi := _) (v := ?vz421u9) rfl (by kernel_rfl) (by kernel_rfl) (by kernel_rfl) (fun _ _ _ h => h) (Or.inl ⟨by kernel_rfl, ?hyz421u9⟩) hHeld ?restz421u9
          case hyz421u9 => (intro w hSw; (try dsimp only at hSw); go_simp; first | done | with_reducible rfl)
          try simp only [Act.put, List.getElem_toArray, List.getElem_cons_zero, List.getElem_cons_succ, List.setIfInBounds_toArray, List.set_cons_zero, List.set_cons_succ]
          refine wpAnyH_take (i := 9) (oi := _) (v := ?vz421u10) rfl (by kernel_rfl) (by kernel_rfl) (by kernel_rfl) (fun _ _ _ h => h) (Or.inl ⟨by kernel_rfl, ?hyz421u10⟩) hHeld ?restz421u10
          case hyz421u10 => (intro w hSw; (try dsimp only at hSw); go_simp; first | done | with_reducible rfl)
          try simp only [Act.put, List.getElem_toArray, List.getElem_cons_zero, List.getElem_cons_succ, List.setIfInBounds_toArray, List.set_cons_zero, List.set_cons_succ]
          refine wpAnyH_take (i := 10) (oi := _) (v := ?vz421u11) rfl (by kernel_rfl) (by kernel_rfl) (by kernel_rfl) (fun _ _ _ h => h) (Or.inl ⟨by kernel_rfl, ?hyz421u11⟩) hHeld ?restz421u11
          case hyz421u11 => (intro w hSw; (try dsimp only at hSw); go_simp; first | done | with_reducible rfl)
          try simp only [Act.put, List.getElem_toArray, List.getElem_cons_zero, List.getElem_cons_succ, List.setIfInBounds_toArray, List.set_cons_zero, List.set_cons_succ]
          refine wpAnyH_take (i := 11) (oi := _) (v := ?vz421u12) rfl (by kernel_rfl) (by kernel_rfl) (by kernel_rfl) (fun _ _ _ h => h) (Or.inl ⟨by kernel_rfl, ?hyz421u12⟩) hHeld ?restz421u12
          case hyz421u12 => (intro w hSw; (try dsimp only at hSw); go_simp; first | done | with_reducible rfl)
          try simp only [Act.put, List.getElem_toArray, List.getElem_cons_zero, List.getElem_cons_succ, List.setIfInBounds_toArray, List.set_cons_zero, List.set_cons_succ]
          refine wpAnyH_take (i := 12) (oi := _) (v := ?vz421u13) rfl (by kernel_rfl) (by kernel_rfl) (by kernel_rfl) (fun _ _ _ h => h) (Or.inl ⟨by kernel_rfl, ?hyz421u13⟩) hHeld ?restz421u13
          case hyz421u13 => (intro w hSw; (try dsimp only at hSw); go_simp; first | done | with_reducible rfl)
          try simp only [Act.put, List.getElem_toArray, List.getElem_cons_zero, List.getElem_cons_succ, List.setIfInBounds_toArray, List.set_cons_zero, List.set_cons_succ]
          refine wpAnyH_take (i := 13) (oi := _) (v := ?vz421u14) rfl (by kernel_rfl) (by kernel_rfl) (by kernel_rfl) (fun _ _ _ h => h) (Or.inl ⟨by kernel_rfl, ?hyz421u14⟩) hHeld ?restz421u14
          case hyz421u14 => (intro w hSw; (try dsimp only at hSw); go_simp; first | done | with_reducible rfl)
          try simp only [Act.put, List.getElem_toArray, List.getElem_cons_zero, List.getElem_cons_succ, List.setIfInBounds_toArray, List.set_cons_zero, List.set_cons_succ]
          refine wpAnyH_take (i := 14) (oi := _) (v := ?vz421u15) rfl (by kernel_rfl) (by kernel_rfl) (by kernel_rfl) (fun _ _ _ h => h) (Or.inl ⟨by kernel_rfl, ?hyz421u15⟩) hHeld ?restz421u15
          case hyz421u15 => (intro w hSw; (try dsimp only at hSw); go_simp; first | done | with_reducible rfl)
          try simp only [Act.put, List.getElem_toArray, List.getElem_cons_zero, List.getElem_cons_succ, List.setIfInBounds_toArray, List.set_cons_zero, List.set_cons_succ]
          refine wpAnyH_take (i := 15) (oi := _) (v := ?vz421u16) rfl (by kernel_rfl) (by kernel_rfl) (by kernel_rfl) (fun _ _ _ h => h) (Or.inl ⟨by kernel_rfl, ?hyz421u16⟩) hHeld ?restz421u16
          case hyz421u16 => (intro w hSw; (try dsimp only at hSw); go_simp; first | done | with_reducible rfl)
          try simp only [Act.put, List.getElem_toArray, List.getElem_cons_zero, List.getElem_cons_succ, List.setIfInBounds_toArray, List.set_cons_zero, List.set_cons_succ]
          refine wpAnyH_take (i := 16) (oi := _) (v := ?vz421u17) rfl (by kernel_rfl) (by kernel_rfl) (by kernel_rfl) (fun _ _ _ h => h) (Or.inl ⟨by kernel_rfl, ?hyz421u17⟩) hHeld ?restz421u17
          case hyz421u17 => (intro w hSw; (try dsimp only at hSw); go_simp; first | done | with_reducible rfl)
          try simp only [Act.put, List.getElem_toArray, List.getElem_cons_zero, List.getElem_cons_succ, List.setIfInBounds_toArray, List.set_cons_zero, List.set_cons_succ]
          refine wpAnyH_take (i := 17) (oi := _) (v := ?vz421u18) rfl (by kernel_rfl) (by kernel_rfl) (by kernel_rfl) (fun _ _ _ h => h) (Or.inl ⟨by kernel_rfl, ?hyz421u18⟩) hHeld ?restz421u18
          case hyz421u18 => (intro w hSw; (try dsimp only at hSw); go_simp; first | done | with_reducible rfl)
          try simp only [Act.put, List.getElem_toArray, List.getElem_cons_zero, List.getElem_cons_succ, List.setIfInBounds_toArray, List.set_cons_zero, List.set_cons_succ]
          refine wpAnyH_take (i := 18) (oi := _) (v := ?vz421u19) rfl (by kernel_rfl) (by kernel_rfl) (by kernel_rfl) (fun _ _ _ h => h) (Or.inl ⟨by kernel_rfl, ?hyz421u19⟩) hHeld ?restz421u19
          case hyz421u19 => (intro w hSw; (try dsimp only at hSw); go_simp; first | done | with_reducible rfl)
          try simp only [Act.put, List.getElem_toArray, List.getElem_cons_zero, List.getElem_cons_succ, List.setIfInBounds_toArray, List.set_cons_zero, List.set_cons_succ]
          refine wpAnyH_take (i := 19) (oi := _) (v := ?vz421u20) rfl (by kernel_rfl) (by kernel_rfl) (by kernel_rfl) (fun _ _ _ h => h) (Or.inl ⟨by kernel_rfl, ?hyz421u20⟩) hHeld ?restz421u20
          case hyz421u20 => (intro w hSw; (try dsimp only at hSw); go_simp; first | done | with_reducible rfl)
          try simp only [Act.put, List.getElem_toArray, List.getElem_cons_zero, List.getElem_cons_succ, List.setIfInBounds_toArray, List.set_cons_zero, List.set_cons_succ]
          refine wpAnyH_take (i := 20) (oi := _) (v := ?vz421u21) rfl (by kernel_rfl) (by kernel_rfl) (by kernel_rfl) (fun _ _ _ h => h) (Or.inl ⟨by kernel_rfl, ?hyz421u21⟩) hHeld ?restz421u21
          case hyz421u21 => (intro w hSw; (try dsimp only at hSw); go_simp; first | done | with_reducible rfl)
          try simp only [Act.put, List.getElem_toArray, List.getElem_cons_zero, List.getElem_cons_succ, List.setIfInBounds_toArray, List.set_cons_zero, List.set_cons_succ]
          refine wpAnyH_take (i := 21) (oi := _) (v := ?vz421u22) rfl (by kernel_rfl) (by kernel_rfl) (by kernel_rfl) (fun _ _ _ h => h) (Or.inl ⟨by kernel_rfl, ?hyz421u22⟩) hHeld ?restz421u22
          case hyz421u22 => (intro w hSw; (try dsimp only at hSw); go_simp; first | done | with_reducible rfl)
          try simp only [Act.put, List.getElem_toArray, List.getElem_cons_zero, List.getElem_cons_succ, List.setIfInBounds_toArray, List.set_cons_zero, List.set_cons_succ]
          refine wpAnyH_take (i := 22) (oi := _) (v := ?vz421u23) rfl (by kernel_rfl) (by kernel_rfl) (by kernel_rfl) (fun _ _ _ h => h) (Or.inl ⟨by kernel_rfl, ?hyz421u23⟩) hHeld ?restz421u23
          case hyz421u23 => (intro w hSw; (try dsimp only at hSw); go_simp; first | done | with_reducible rfl)
          try simp only [Act.put, List.getElem_toArray, List.getElem_cons_zero, List.getElem_cons_succ, List.setIfInBounds_toArray, List.set_cons_zero, List.set_cons_succ]
          refine wpAnyH_take (i := 23) (oi := _) (v := ?vz421u24) rfl (by kernel_rfl) (by kernel_rfl) (by kernel_rfl) (fun _ _ _ h => h) (Or.inl ⟨by kernel_rfl, ?hyz421u24⟩) hHeld ?restz421u24
          case hyz421u24 => (intro w hSw; (try dsimp only at hSw); go_simp; first | done | with_reducible rfl)
          try simp only [Act.put, List.getElem_toArray, List.getElem_cons_zero, List.getElem_cons_succ, List.setIfInBounds_toArray, List.set_cons_zero, List.set_cons_succ]
          refine wpAnyH_take (i := 24) (oi := _) (v := ?vz421u25) rfl (by kernel_rfl) (by kernel_rfl) (by kernel_rfl) (fun _ _ _ h => h) (Or.inl ⟨by kernel_rfl, ?hyz421u25⟩) hHeld ?restz421u25
          case hyz421u25 => (intro w hSw; (try dsimp only at hSw); go_simp; first | done | with_reducible rfl)
          try simp only [Act.put, List.getElem_toArray, List.getElem_cons_zero, List.getElem_cons_succ, List.setIfInBounds_toArray, List.set_cons_zero, List.set_cons_succ]
          refine wpAnyH_take (i := 25) (oi := _) (v := ?vz421u26) rfl (by kernel_rfl) (by kernel_rfl) (by kernel_rfl) (fun _ _ _ h => h) (Or.inl ⟨by kernel_rfl, ?hyz421u26⟩) hHeld ?restz421u26
          case hyz421u26 => (intro w hSw; (try dsimp only at hSw); go_simp; first | done | with_reducible rfl)
          try simp only [Act.put, List.getElem_toArray, List.getElem_cons_zero, List.getElem_cons_succ, List.setIfInBounds_toArray, List.set_cons_zero, List.set_cons_succ]
          refine wpAnyH_take (i := 26) (oi := _) (v := ?vz421u27) rfl (by kernel_rfl) (by kernel_rfl) (by kernel_rfl) (fun _ _ _ h => h) (Or.inl ⟨by kernel_rfl, ?hyz421u27⟩) hHeld ?restz421u27
          case hyz421u27 => (intro w hSw; (try dsimp only at hSw); go_simp; first | done | with_reducible rfl)
          try simp only [Act.put, List.getElem_toArray, List.getElem_cons_zero, List.getElem_cons_succ, List.setIfInBounds_toArray, List.set_cons_zero, List.set_cons_succ]
          refine wpAnyH_take (i := 27) (oi := _) (v := ?vz421u28) rfl (by kernel_rfl) (by kernel_rfl) (by kernel_rfl) (fun _ _ _ h => h) (Or.inl ⟨by kernel_rfl, ?hyz421u28⟩) hHeld ?restz421u28
          case hyz421u28 => (intro w hSw; (try dsimp only at hSw); go_simp; first | done | with_reducible rfl)
          try simp only [Act.put, List.getElem_toArray, List.getElem_cons_zero, List.getElem_cons_succ, List.setIfInBounds_toArray, List.set_cons_zero, List.set_cons_succ]
          refine wpAnyH_take (i := 28) (oi := _) (v := ?vz421u29) rfl (by kernel_rfl) (by kernel_rfl) (by kernel_rfl) (fun _ _ _ h => h) (Or.inl ⟨by kernel_rfl, ?hyz421u29⟩) hHeld ?restz421u29
          case hyz421u29 => (intro w hSw; (try dsimp only at hSw); go_simp; first | done | with_reducible rfl)
          try simp only [Act.put, List.getElem_toArray, List.getElem_cons_zero, List.getElem_cons_succ, List.setIfInBounds_toArray, List.set_cons_zero, List.set_cons_succ]
          refine wpAnyH_take (i := 29) (oi := _) (v := ?vz421u30) rfl (by kernel_rfl) (by kernel_rfl) (by kernel_rfl) (fun _ _ _ h => h) (Or.inl ⟨by kernel_rfl, ?hyz421u30⟩) hHeld ?restz421u30
          case hyz421u30 => (intro w hSw; (try dsimp only at hSw); go_simp; first | done | with_reducible rfl)
          try simp only [Act.put, List.getElem_toArray, List.getElem_cons_zero, List.getElem_cons_succ, List.setIfInBounds_toArray, List.set_cons_zero, List.set_cons_succ]
          refine wpAnyH_take (i := 30) (oi := _) (v := ?vz421u31) rfl (by kernel_rfl) (by kernel_rfl) (by kernel_rfl) (fun _ _ _ h => h) (Or.inl ⟨by kernel_rfl, ?hyz421u31⟩) hHeld ?restz421u31
          case hyz421u31 => (intro w hSw; (try dsimp only at hSw); go_simp; first | done | with_reducible rfl)
          try simp only [Act.put, List.getElem_toArray, List.getElem_cons_zero, List.getElem_cons_succ, List.setIfInBounds_toArray, List.set_cons_zero, List.set_cons_succ]
          refine wpAnyH_take (i := 31) (oi := _) (v := ?vz421u32) rfl (by kernel_rfl) (by kernel_rfl) (by kernel_rfl) (fun _ _ _ h => h) (Or.inl ⟨by kernel_rfl, ?hyz421u32⟩) hHeld ?restz421u32
          case hyz421u32 => (intro w hSw; (try dsimp only at hSw); go_simp; first | done | with_reducible rfl)
          try simp only [Act.put, List.getElem_toArray, List.getElem_cons_zero, List.getElem_cons_succ, List.setIfInBounds_toArray, List.set_cons_zero, List.set_cons_succ]
          refine wpAnyH_take (i := 32) (oi := _) (v := ?vz421u33) rfl (by kernel_rfl) (by kernel_rfl) (by kernel_rfl) (fun _ _ _ h => h) (Or.inl ⟨by kernel_rfl, ?hyz421u33⟩) hHeld ?restz421u33
          case hyz421u33 => (intro w hSw; (try dsimp only at hSw); go_simp; first | done | with_reducible rfl)
          try simp only [Act.put, List.getElem_toArray, List.getElem_cons_zero, List.getElem_cons_succ, List.setIfInBounds_toArray, List.set_cons_zero, List.set_cons_succ]
          refine wpAnyH_take (i := 33) (oi := _) (v := ?vz421u34) rfl (by kernel_rfl) (by kernel_rfl) (by kernel_rfl) (fun _ _ _ h => h) (Or.inl ⟨by kernel_rfl, ?hyz421u34⟩) hHeld ?restz421u34
          case hyz421u34 => (intro w hSw; (try dsimp only at hSw); go_simp; first | done | with_reducible rfl)
          try simp only [Act.put, List.getElem_toArray, List.getElem_cons_zero, List.getElem_cons_succ, List.setIfInBounds_toArray, List.set_cons_zero, List.set_cons_succ]
          refine wpAnyH_take (i := 34) (oi := _) (v := ?vz421u35) rfl (by kernel_rfl) (by kernel_rfl) (by kernel_rfl) (fun _ _ _ h => h) (Or.inl ⟨by kernel_rfl, ?hyz421u35⟩) hHeld ?restz421u35
          case hyz421u35 => (intro w hSw; (try dsimp only at hSw); go_simp; first | done | with_reducible rfl)
          try simp only [Act.put, List.getElem_toArray, List.getElem_cons_zero, List.getElem_cons_succ, List.setIfInBounds_toArray, List.set_cons_zero, List.set_cons_succ]
          refine wpAnyH_take (i := 35) (oi := _) (v := ?vz421u36) rfl (by kernel_rfl) (by kernel_rfl) (by kernel_rfl) (fun _ _ _ h => h) (Or.inl ⟨by kernel_rfl, ?hyz421u36⟩) hHeld ?restz421u36
          case hyz421u36 => (intro w hSw; (try dsimp only at hSw); go_simp; first | done | with_reducible rfl)
          try simp only [Act.put, List.getElem_toArray, List.getElem_cons_zero, List.getElem_cons_succ, List.setIfInBounds_toArray, List.set_cons_zero, List.set_cons_succ]
          refine wpAnyH_take (i := 36) (oi := _) (v := ?vz421u37) rfl (by kernel_rfl) (by kernel_rfl) (by kernel_rfl) (fun _ _ _ h => h) (Or.inl ⟨by kernel_rfl, ?hyz421u37⟩) hHeld ?restz421u37
          case hyz421u37 => (intro w hSw; (try dsimp only at hSw); go_simp; first | done | with_reducible rfl)
          try simp only [Act.put, List.getElem_toArray, List.getElem_cons_zero, List.getElem_cons_succ, List.setIfInBounds_toArray, List.set_cons_zero, List.set_cons_succ]
          refine wpAnyH_take (i := 37) (oi := _) (v := ?vz421u38) rfl (by kernel_rfl) (by kernel_rfl) (by kernel_rfl) (fun _ _ _ h => h) (Or.inl ⟨by kernel_rfl, ?hyz421u38⟩) hHeld ?restz421u38
          case hyz421u38 => (intro w hSw; (try dsimp only at hSw); go_simp; first | done | with_reducible rfl)
          try simp only [Act.put, List.getElem_toArray, List.getElem_cons_zero, List.getElem_cons_succ, List.setIfInBounds_toArray, List.set_cons_zero, List.set_cons_succ]
          refine wpAnyH_take (i := 38) (oi := _) (v := ?vz421u39) rfl (by kernel_rfl) (by kernel_rfl) (by kernel_rfl) (fun _ _ _ h => h) (Or.inl ⟨by kernel_rfl, ?hyz421u39⟩) hHeld ?restz421u39
          case hyz421u39 => (intro w hSw; (try dsimp only at hSw); go_simp; first | done | with_reducible rfl)
          try simp only [Act.put, List.getElem_toArray, List.getElem_cons_zero, List.getElem_cons_succ, List.setIfInBounds_toArray, List.set_cons_zero, List.set_cons_succ]
          refine wpAnyH_take (i := 39) (oi := _) (v := ?vz421u40) rfl (by kernel_rfl) (by kernel_rfl) (by kernel_rfl) (fun _ _ _ h => h) (Or.inl ⟨by kernel_rfl, ?hyz421u40⟩) hHeld ?restz421u40
          case hyz421u40 => (intro w hSw; (try dsimp only at hSw); go_simp; first | done | with_reducible rfl)
          try simp only [Act.put, List.getElem_toArray, List.getElem_cons_zero, List.getElem_cons_succ, List.setIfInBounds_toArray, List.set_cons_zero, List.set_cons_succ]
          refine wpAnyH_take (i := 40) (oi := _) (v := ?vz421u41) rfl (by kernel_rfl) (by kernel_rfl) (by kernel_rfl) (fun _ _ _ h => h) (Or.inl ⟨by kernel_rfl, ?hyz421u41⟩) hHeld ?restz421u41
          case hyz421u41 => (intro w hSw; (try dsimp only at hSw); go_simp; first | done | with_reducible rfl)
          try simp only [Act.put, List.getElem_toArray, List.getElem_cons_zero, List.getElem_cons_succ, List.setIfInBounds_toArray, List.set_cons_zero, List.set_cons_succ]
          refine wpAnyH_take (i := 41) (oi := _) (v := ?vz421u42) rfl (by kernel_rfl) (by kernel_rfl) (by kernel_rfl) (fun _ _ _ h => h) (Or.inl ⟨by kernel_rfl, ?hyz421u42⟩) hHeld ?restz421u42
          case hyz421u42 => (intro w hSw; (try dsimp only at hSw); go_simp; first | done | with_reducible rfl)
          try simp only [Act.put, List.getElem_toArray, List.getElem_cons_zero, List.getElem_cons_succ, List.setIfInBounds_toArray, List.set_cons_zero, List.set_cons_succ]
          refine wpAnyH_take (i := 42) (oi := _) (v := ?vz421u43) rfl (by kernel_rfl) (by kernel_rfl) (by kernel_rfl) (fun _ _ _ h => h) (Or.inl ⟨by kernel_rfl, ?hyz421u43⟩) hHeld ?restz421u43
          case hyz421u43 => (intro w hSw; (try dsimp only at hSw); go_simp; first | done | with_reducible rfl)
          try simp only [Act.put, List.getElem_toArray, List.getElem_cons_zero, List.getElem_cons_succ, List.setIfInBounds_toArray, List.set_cons_zero, List.set_cons_succ]
          refine wpAnyH_take (i := 43) (oi := _) (v := ?vz421u44) rfl (by kernel_rfl) (by kernel_rfl) (by kernel_rfl) (fun _ _ _ h => h) (Or.inl ⟨by kernel_rfl, ?hyz421u44⟩) hHeld ?restz421u44
          case hyz421u44 => (intro w hSw; (try dsimp only at hSw); go_simp; first | done | with_reducible rfl)
          try simp only [Act.put, List.getElem_toArray, List.getElem_cons_zero, List.getElem_cons_succ, List.setIfInBounds_toArray, List.set_cons_zero, List.set_cons_succ]
          refine wpAnyH_take (i := 44) (oi := _) (v := ?vz421u45) rfl (by kernel_rfl) (by kernel_rfl) (by kernel_rfl) (fun _ _ _ h => h) (Or.inl ⟨by kernel_rfl, ?hyz421u45⟩) hHeld ?restz421u45
          case hyz421u45 => (intro w hSw; (try dsimp only at hSw); go_simp; first | done | with_reducible rfl)
          try simp only [Act.put, List.getElem_toArray, List.getElem_cons_zero, List.getElem_cons_succ, List.setIfInBounds_toArray, List.set_cons_zero, List.set_cons_succ]
          refine wpAnyH_take (i := 45) (oi := _) (v := ?vz421u46) rfl (by kernel_rfl) (by kernel_rfl) (by kernel_rfl) (fun _ _ _ h => h) (Or.inl ⟨by kernel_rfl, ?hyz421u46⟩) hHeld ?restz421u46
          case hyz421u46 => (intro w hSw; (try dsimp only at hSw); go_simp; first | done | with_reducible rfl)
          try simp only [Act.put, List.getElem_toArray, List.getElem_cons_zero, List.getElem_cons_succ, List.setIfInBounds_toArray, List.set_cons_zero, List.set_cons_succ]
          refine wpAnyH_take (i := 46) (oi := _) (v := ?vz421u47) rfl (by kernel_rfl) (by kernel_rfl) (by kernel_rfl) (fun _ _ _ h => h) (Or.inl ⟨by kernel_rfl, ?hyz421u47⟩) hHeld ?restz421u47
          case hyz421u47 => (intro w hSw; (try dsimp only at hSw); go_simp; first | done | with_reducible rfl)
          try simp only [Act.put, List.getElem_toArray, List.getElem_cons_zero, List.getElem_cons_succ, List.setIfInBounds_toArray, List.set_cons_zero, List.set_cons_succ]
          refine wpAnyH_take (i := 47) (oi := _) (v := ?vz421u48) rfl (by kernel_rfl) (by kernel_rfl) (by kernel_rfl) (fun _ _ _ h => h) (Or.inl ⟨by kernel_rfl, ?hyz421u48⟩) hHeld ?restz421u48
          case hyz421u48 => (intro w hSw; (try dsimp only at hSw); go_simp; first | done | with_reducible rfl)
          try simp only [Act.put, List.getElem_toArray, List.getElem_cons_zero, List.getElem_cons_succ, List.setIfInBounds_toArray, List.set_cons_zero, List.set_cons_succ]
          refine wpAnyH_take (i := 48) (oi := _) (v := ?vz421u49) rfl (by kernel_rfl) (by kernel_rfl) (by kernel_rfl) (fun _ _ _ h => h) (Or.inl ⟨by kernel_rfl, ?hyz421u49⟩) hHeld ?restz421u49
          case hyz421u49 => (intro w hSw; (try dsimp only at hSw); go_simp; first | done | with_reducible rfl)
          try simp only [Act.put, List.getElem_toArray, List.getElem_cons_zero, List.getElem_cons_succ, List.setIfInBounds_toArray, List.set_cons_zero, List.set_cons_succ]
          refine wpAnyH_take (i := 49) (oi := _) (v := ?vz421u50) rfl (by kernel_rfl) (by kernel_rfl) (by kernel_rfl) (fun _ _ _ h => h) (Or.inl ⟨by kernel_rfl, ?hyz421u50⟩) hHeld ?restz421u50
          case hyz421u50 => (intro w hSw; (try dsimp only at hSw); go_simp; first | done | with_reducible rfl)
          try simp only [Act.put, List.getElem_toArray, List.getElem_cons_zero, List.getElem_cons_succ, List.setIfInBounds_toArray, List.set_cons_zero, List.set_cons_succ]
          refine wpAnyH_take (i := 50) (oi := _) (v := ?vz421u51) rfl (by kernel_rfl) (by kernel_rfl) (by kernel_rfl) (fun _ _ _ h => h) (Or.inl ⟨by kernel_rfl, ?hyz421u51⟩) hHeld ?restz421u51
          case hyz421u51 => (intro w hSw; (try dsimp only at hSw); go_simp; first | done | with_reducible rfl)
          try simp only [Act.put, List.getElem_toArray, List.getElem_cons_zero, List.getElem_cons_succ, List.setIfInBounds_toArray, List.set_cons_zero, List.set_cons_succ]
          refine wpAnyH_take (i := 51) (oi := _) (v := ?vz421u52) rfl (by kernel_rfl) (by kernel_rfl) (by kernel_rfl) (fun _ _ _ h => h) (Or.inl ⟨by kernel_rfl, ?hyz421u52⟩) hHeld ?restz421u52
          case hyz421u52 => (intro w hSw; (try dsimp only at hSw); go_simp; first | done | with_reducible rfl)
          try simp only [Act.put, List.getElem_toArray, List.getElem_cons_zero, List.getElem_cons_succ, List.setIfInBounds_toArray, List.set_cons_zero, List.set_cons_succ]
          refine wpAnyH_take (i := 52) (oi := _) (v := ?vz421u53) rfl (by kernel_rfl) (by kernel_rfl) (by kernel_rfl) (fun _ _ _ h => h) (Or.inl ⟨by kernel_rfl, ?hyz421u53⟩) hHeld ?restz421u53
          case hyz421u53 => (intro w hSw; (try dsimp only at hSw); go_simp; first | done | with_reducible rfl)
          try simp only [Act.put, List.getElem_toArray, List.getElem_cons_zero, List.getElem_cons_succ, List.setIfInBounds_toArray, List.set_cons_zero, List.set_cons_succ]
          refine wpAnyH_ready (rs := [53]) (by kernel_rfl) (by simp) ?_
          refine AllReadyH.cons (o := _) rfl (fun K0 hK0 => ?_) AllReadyH.nil
          go_simp
          go_at_call 21
          refine (CS3.out _ _ _ _ _ (HL2e.out.kept (thenB (Below.refl _ _).drew bz421v3)) (HRKe.out.kept (thenB (Below.refl _ _).drew bz421v3))).mono ?_
          rintro e wz421v54 ⟨rfl, bz421v54⟩
          refine hK0.out _ _ (K.out _ (thenB (thenB (Below.refl _ _).drew bz421v3) bz421v54)) (fun hHeld => ?_)
          clear hK0 K0
          try simp only [Act.put, List.getElem_toArray, List.getElem_cons_zero, List.getElem_cons_succ, List.setIfInBounds_toArray, List.set_cons_zero, List.set_cons_succ]
          refine wpAnyH_take (i := 54) (oi := _) (v := ?vz421u55) rfl (by kernel_rfl) (by kernel_rfl) (by kernel_rfl) (fun _ _ _ h => h) (Or.inl ⟨by kernel_rfl, ?hyz421u55⟩) hHeld ?restz421u55
          case hyz421u55 => (intro w hSw; (try dsimp only at hSw); go_simp; first | done | with_reducible rfl)
          try simp only [Act.put, List.getElem_toArray, List.getElem_cons_zero, List.getElem_cons_succ, List.setIfInBounds_toArray, List.set_cons_zero, List.set_cons_succ]
          refine wpAnyH_take (i := 55) (oi := _) (v := ?vz421u56) rfl (by kernel_rfl) (by kernel_rfl) (by kernel_rfl) (fun _ _ _ h => h) (Or.inl ⟨by kernel_rfl, ?hyz421u56⟩) hHeld ?restz421u56
          case hyz421u56 => (intro w hSw; (try dsimp only at hSw); go_simp; first | done | with_reducible rfl)
          try simp only [Act.put, List.getElem_toArray, List.getElem_cons_zero, List.getElem_cons_succ, List.setIfInBounds_toArray, List.set_cons_zero, List.set_cons_succ]
          refine wpAnyH_take (i := 56) (oi := _) (v := undef) rfl (by kernel_rfl) (by kernel_rfl) (by kernel_rfl) (fun _ _ _ h => h) (Or.inr ⟨by rfl, rfl⟩) hHeld ?_
          try simp only [Act.put, List.getElem_toArray, List.getElem_cons_zero, List.getElem_cons_succ, List.setIfInBounds_toArray, List.set_cons_zero, List.set_cons_succ]
          refine wpAnyH_take (i := 57) (oi := _) (v := undef) rfl (by kernel_rfl) (by kernel_rfl) (by kernel_rfl) (fun _ _ _ h => h) (Or.inr ⟨by rfl, rfl⟩) hHeld ?_
          try simp only [Act.put, List.getElem_toArray, List.getElem_cons_zero, List.getElem_cons_succ, List.setIfInBounds_toArray, List.set_cons_zero, List.set_cons_succ]
          refine wpAnyH_take (i := 58) (oi := _) (v := undef) rfl (by kernel_rfl) (by kernel_rfl) (by kernel_rfl) (fun _ _ _ h => h) (Or.inr ⟨by rfl, rfl⟩) hHeld ?_
          try simp only [Act.put, List.getElem_toArray, List.getElem_cons_zero, List.getElem_cons_succ, List.setIfInBounds_toArray, List.set_cons_zero, List.set_cons_succ]
          refine wpAnyH_take (i := 59) (oi := _) (v := undef) rfl (by kernel_rfl) (by kernel_rfl) (by kernel_rfl) (fun _ _ _ h => h) (Or.inr ⟨by rfl, rfl⟩) hHeld ?_
          try simp only [Act.put, List.getElem_toArray, List.getElem_cons_zero, List.getElem_cons_succ, List.setIfInBounds_toArray, List.set_cons_zero, List.set_cons_succ]
          refine wpAnyH_take (i := 60) (oi := _) (v := undef) rfl (by kernel_rfl) (by kernel_rfl) (by kernel_rfl) (fun _ _ _ h => h) (Or.inr ⟨by rfl, rfl⟩) hHeld ?_
          try simp only [Act.put, List.getElem_toArray, List.getElem_cons_zero, List.getElem_cons_succ, List.setIfInBounds_toArray, List.set_cons_zero, List.set_cons_succ]
          refine wpAnyH_take (i := 61) (oi := _) (v := undef) rfl (by kernel_rfl) (by kernel_rfl) (by kernel_rfl) (fun _ _ _ h => h) (Or.inr ⟨by rfl, rfl⟩) hHeld ?_
          try simp only [Act.put, List.getElem_toArray, List.getElem_cons_zero, List.getElem_cons_succ, List.setIfInBounds_toArray, List.set_cons_zero, List.set_cons_succ]
          refine wpAnyH_take (i := 62) (oi := _) (v := undef) rfl (by kernel_rfl) (by kernel_rfl) (by kernel_rfl) (fun _ _ _ h => h) (Or.inr ⟨by rfl, rfl⟩) hHeld ?_
          try simp only [Act.put, List.getElem_toArray, List.getElem_cons_zero, List.getElem_cons_succ, List.setIfInBounds_toArray, List.set_cons_zero, List.set_cons_succ]
          refine wpAnyH_take (i := 63) (oi := _) (v := ?vz421u57) rfl (by kernel_rfl) (by kernel_rfl) (by kernel_rfl) (fun _ _ _ h => h) (Or.inl ⟨by kernel_rfl, ?hyz421u57⟩) hHeld ?restz421u57
          case hyz421u57 => (intro w hSw; (try dsimp only at hSw); go_simp; first | done | with_reducible rfl)
          try simp only [Act.put, List.getElem_toArray, List.getElem_cons_zero, List.getElem_cons_succ, List.setIfInBounds_toArray, List.set_cons_zero, List.set_cons_succ]
          refine wpAnyH_take (i := 64) (oi := _) (v := ?vz421u58) rfl (by kernel_rfl) (by kernel_rfl) (by kernel_rfl) (fun _ _ _ h => h) (Or.inl ⟨by kernel_rfl, ?hyz421u58⟩) hHeld ?restz421u58
          case hyz421u58 => (intro w hSw; (try dsimp only at hSw); go_simp; first | done | with_reducible rfl)
          try simp only [Act.put, List.getElem_toArray, List.getElem_cons_zero, List.getElem_cons_succ, List.setIfInBounds_toArray, List.set_cons_zero, List.set_cons_succ]
          refine wpAnyH_take (i := 65) (oi := _) (v := undef) rfl (by kernel_rfl) (by kernel_rfl) (by kernel_rfl) (fun _ _ _ h => h) (Or.inr ⟨by rfl, rfl⟩) hHeld ?_
          try simp only [Act.put, List.getElem_toArray, List.getElem_cons_zero, List.getElem_cons_succ, List.setIfInBounds_toArray, List.set_cons_zero, List.set_cons_succ]
          refine wpAnyH_take (i := 66) (oi := _) (v := undef) rfl (by kernel_rfl) (by kernel_rfl) (by kernel_rfl) (fun _ _ _ h => h) (Or.inr ⟨by rfl, rfl⟩) hHeld ?_
          try simp only [Act.put, List.getElem_toArray, List.getElem_cons_zero, List.getElem_cons_succ, List.setIfInBounds_toArray, List.set_cons_zero, List.set_cons_succ]
          refine wpAnyH_take (i := 67) (oi := _) (v := undef) rfl (by kernel_rfl) (by kernel_rfl) (by kernel_rfl) (fun _ _ _ h => h) (Or.inr ⟨by rfl, rfl⟩) hHeld ?_
          try simp only [Act.put, List.getElem_toArray, List.getElem_cons_zero, List.getElem_cons_succ, List.setIfInBounds_toArray, List.set_cons_zero, List.set_cons_succ]
          refine wpAnyH_take (i := 68) (oi := _) (v := undef) rfl (by kernel_rfl) (by kernel_rfl) (by kernel_rfl) (fun _ _ _ h => h) (Or.inr ⟨by rfl, rfl⟩) hHeld ?_
          try simp only [Act.put, List.getElem_toArray, List.getElem_cons_zero, List.getElem_cons_succ, List.setIfInBounds_toArray, List.set_cons_zero, List.set_cons_succ]
          refine wpAnyH_take (i := 69) (oi := _) (v := undef) rfl (by kernel_rfl) (by kernel_rfl) (by kernel_rfl) (fun _ _ _ h => h) (Or.inr ⟨by rfl, rfl⟩) hHeld ?_
          try simp only [Act.put, List.getElem_toArray, List.getElem_cons_zero, List.getElem_cons_succ, List.setIfInBounds_toArray, List.set_cons_zero, List.set_cons_succ]
          refine wpAnyH_take (i := 70) (oi := _) (v := undef) rfl (by kernel_rfl) (by kernel_rfl) (by kernel_rfl) (fun _ _ _ h => h) (Or.inr ⟨by rfl, rfl⟩) hHeld ?_
          try simp only [Act.put, List.getElem_toArray, List.getElem_cons_zero, List.getElem_cons_succ, List.setIfInBounds_toArray, List.set_cons_zero, List.set_cons_succ]
          refine wpAnyH_take (i := 71) (oi := _) (v := undef) rfl (by kernel_rfl) (by kernel_rfl) (by kernel_rfl) (fun _ _ _ h => h) (Or.inr ⟨by rfl, rfl⟩) hHeld ?_
          try simp only [Act.put, List.getElem_toArray, List.getElem_cons_zero, List.getElem_cons_succ, List.setIfInBounds_toArray, List.set_cons_zero, List.set_cons_succ]
          refine wpAnyH_take (i := 72) (oi := _) (v := undef) rfl (by kernel_rfl) (by kernel_rfl) (by kernel_rfl) (fun _ _ _ h => h) (Or.inr ⟨by rfl, rfl⟩) hHeld ?_
          try simp only [Act.put, List.getElem_toArray, List.getElem_cons_zero, List.getElem_cons_succ, List.setIfInBounds_toArray, List.set_cons_zero, List.set_cons_succ]
          refine wpAnyH_take (i := 73) (oi := _) (v := undef) rfl (by kernel_rfl) (by kernel_rfl) (by kernel_rfl) (fun _ _ _ h => h) (Or.inr ⟨by rfl, rfl⟩) hHeld ?_
          try simp only [Act.put, List.getElem_toArray, List.getElem_cons_zero, List.getElem_cons_succ, List.setIfInBounds_toArray, List.set_cons_zero, List.set_cons_succ]
          refine wpAnyH_take (i := 74) (oi := _) (v := ?vz421u59) rfl (by kernel_rfl) (by kernel_rfl) (by kernel_rfl) (fun _ _ _ h => h) (Or.inl ⟨by kernel_rfl, ?hyz421u59⟩) hHeld ?restz421u59
          case hyz421u59 => (intro w hSw; (try dsimp only at hSw); go_simp; first | done | with_reducible rfl)
          try simp only [Act.put, List.getElem_toArray, List.getElem_cons_zero, List.getElem_cons_succ, List.setIfInBounds_toArray, List.set_cons_zero, List.set_cons_succ]
          refine wpAnyH_take (i := 75) (oi := _) (v := ?vz421u60) rfl (by kernel_rfl) (by kernel_rfl) (by kernel_rfl) (fun _ _ _ h => h) (Or.inl ⟨by kernel_rfl, ?hyz421u60⟩) hHeld ?restz421u60
          case hyz421u60 => (intro w hSw; (try dsimp only at hSw); go_simp; first | done | with_reducible rfl)
          try simp only [Act.put, List.getElem_toArray, List.getElem_cons_zero, List.getElem_cons_succ, List.setIfInBounds_toArray, List.set_cons_zero, List.set_cons_succ]
          refine wpAnyH_take (i := 76) (oi := _) (v := ?vz421u61) rfl (by kernel_rfl) (by kernel_rfl) (by kernel_rfl) (fun _ _ _ h => h) (Or.inl ⟨by kernel_rfl, ?hyz421u61⟩) hHeld ?restz421u61
          case hyz421u61 => (intro w hSw; (try dsimp only at hSw); go_simp; first | done | with_reducible rfl)
          try simp only [Act.put, List.getElem_toArray, List.getElem_cons_zero, List.getElem_cons_succ, List.setIfInBounds_toArray, List.set_cons_zero, List.set_cons_succ]
          refine wpAnyH_done (by kernel_rfl) ?_ _
          clear K hHeld
          have bacc : Below wc.heap.size wc wz421v54 := (thenB (thenB (Below.refl _ _).drew bz421v3) bz421v54)
          replace VR := VR.kept bacc
          replace VH := VH.kept bacc
          replace VO := VO.kept bacc
          replace B := thenB B bacc
          have Sz421 := (bacc).size
          clear bacc
          clear bz421v3 bz421v54
          obtain ⟨s_VR, f_VR, z_VR⟩ := VR.open
          obtain ⟨s_VH, f_VH, z_VH⟩ := VH.open
          obtain ⟨s_VO, f_VO, z_VO⟩ := VO.open
          have Bo := B
          go_wp2
          go_ret
          exact ⟨rfl, HB0.out.trans (B.mono HB0.out.size)⟩
        · cases b4
          rotate_left
          · skip
            have K : ∀ w' : World, Below wc.heap.size wc w' → (w'.cell? ⟨w61.heap.size, 0, none⟩ = some (.int .i64 0) ∧ w'.cell? ⟨w61.heap.size, 1, none⟩ = some (.int .i64 ks) ∧ w'.cell? ⟨w61.heap.size, 2, none⟩ = some (.int .i64 kd) ∧ w'.cell? ⟨w61.heap.size, 3, none⟩ = some (.int .i64 ko) ∧ w'.cell? ⟨w61.heap.size, 4, none⟩ = some (.int .i64 kb) ∧ w'.cell? ⟨w61.heap.size, 5, none⟩ = some (.slice c1 kl d1) ∧ w'.cell? ⟨w62.heap.size, 0, none⟩ = some (.int .i64 0) ∧ w'.cell? ⟨w62.heap.size, 1, none⟩ = some (.int .i64 pk) ∧ w'.cell? ⟨w62.heap.size, 2, none⟩ = some (.slice c2 k2 d2) ∧ w'.cell? ⟨P, 0, none⟩ = some (.int .i64 0) ∧ w'.cell? ⟨P, 1, none⟩ = some (.int .i64 ks) ∧ w'.cell? ⟨P, 2, none⟩ = some (.int .i64 kd) ∧ w'.cell? ⟨P, 3, none⟩ = some (.int .i64 ko) ∧ w'.cell? ⟨P, 4, none⟩ = some (.int .i64 kb) ∧ w'.cell? ⟨P, 5, none⟩ = some (.slice c6 k2 d6)) := fun w' h => ⟨(VR.kept h).2.1 0 (by simp), (VR.kept h).2.1 1 (by simp), (VR.kept h).2.1 2 (by simp), (VR.kept h).2.1 3 (by simp), (VR.kept h).2.1 4 (by simp), (VR.kept h).2.1 5 (by simp), (VH.kept h).2.1 0 (by simp), (VH.kept h).2.1 1 (by simp), (VH.kept h).2.1 2 (by simp), (VO.kept h).2.1 0 (by simp), (VO.kept h).2.1 1 (by simp), (VO.kept h).2.1 2 (by simp), (VO.kept h).2.1 3 (by simp), (VO.kept h).2.1 4 (by simp), (VO.kept h).2.1 5 (by simp)⟩
            have K := Hid.mk K
            refine wp_region_held_drew (S := (fun w' => w'.cell? ⟨w61.heap.size, 0, none⟩ = some (.int .i64 0) ∧ w'.cell? ⟨w61.heap.size, 1, none⟩ = some (.int .i64 ks) ∧ w'.cell? ⟨w61.heap.size, 2, none⟩ = some (.int .i64 kd) ∧ w'.cell? ⟨w61.heap.size, 3, none⟩ = some (.int .i64 ko) ∧ w'.cell? ⟨w61.heap.size, 4, none⟩ = some (.int .i64 kb) ∧ w'.cell? ⟨w61.heap.size, 5, none⟩ = some (.slice c1 kl d1) ∧ w'.cell? ⟨w62.heap.size, 0, none⟩ = some (.int .i64 0) ∧ w'.cell? ⟨w62.heap.size, 1, none⟩ = some (.int .i64 pk) ∧ w'.cell? ⟨w62.heap.size, 2, none⟩ = some (.slice c2 k2 d2) ∧ w'.cell? ⟨P, 0, none⟩ = some (.int .i64 0) ∧ w'.cell? ⟨P, 1, none⟩ = some (.int .i64 ks) ∧ w'.cell? ⟨P, 2, none⟩ = some (.int .i64 kd) ∧ w'.cell? ⟨P, 3, none⟩ = some (.int .i64 ko) ∧ w'.cell? ⟨P, 4, none⟩ = some (.int .i64 kb) ∧ w'.cell? ⟨P, 5, none⟩ = some (.slice c6 k2 d6))) (by kernel_rfl) (K.out _ (Below.refl _ _).drew) (fun hHeld => ?_)
            refine wpAnyH_take (i := 0) (oi := _) (v := ?vz441u1) rfl (by kernel_rfl) (by kernel_rfl) (by kernel_rfl) (fun _ _ _ h => h) (Or.inl ⟨by kernel_rfl, ?hyz441u1⟩) hHeld ?restz441u1
            case hyz441u1 => (intro w hSw; (try dsimp only at hSw); go_simp; first | done | with_reducible rfl)
            try simp only [Act.put, List.getElem_toArray, List.getElem_cons_zero, List.setIfInBounds_toArray, List.set_cons_zero, List.set_cons_succ]
            refine wpAnyH_take (i := 1) (oi := _) (v := ?vz441u2) rfl (by kernel_rfl) (by kernel_rfl) (by kernel_rfl) (fun _ _ _ h => h) (Or.inl ⟨by kernel_rfl, ?hyz441u2⟩) hHeld ?restz441u2
            case hyz441u2 => (intro w hSw; (try dsimp only at hSw); go_simp; first | done | with_reducible rfl)
            try simp only [Act.put, List.getElem_toArray, List.getElem_cons_zero, List.getElem_cons_succ, List.setIfInBounds_toArray, List.set_cons_zero, List.set_cons_succ]
            refine wpAnyH_ready (rs := [2]) (by kernel_rfl) (by simp) ?_
            refine AllReadyH.cons (o := _) rfl (fun K0 hK0 => ?_) AllReadyH.nil
            go_simp
            go_at_call 20
            refine (CTF.out _ _ _ (HL1e.out.kept (Below.refl _ _).drew)).mono ?_
            rintro e wz441v3 ⟨rfl, bz441v3⟩
            refine hK0.out _ _ (K.out _ (thenB (Below.refl _ _).drew bz441v3)) (fun hHeld => ?_)
            clear hK0 K0
            try simp only [Act.put, List.getElem_toArray, List.getElem_cons_zero, List.getElem_cons_succ, List.setIfInBounds_toArray, List.set_cons_zero, List.set_cons_succ]
            refine wpAnyH_take (i := 3) (oi := _) (v := ?vz441u4) rfl (by kernel_rfl) (by kernel_rfl) (by kernel_rfl) (fun _ _ _ h => h) (Or.inl ⟨by kernel_rfl, ?hyz441u4⟩) hHeld ?restz441u4
            case hyz441u4 => (intro w hSw; (try dsimp only at hSw); go_simp; first | done | with_reducible rfl)
            try simp only [Act.put, List.getElem_toArray, List.getElem_cons_zero, List.getElem_cons_succ, List.setIfInBounds_toArray, List.set_cons_zero, List.set_cons_succ]
            refine wpAnyH_take (i := 4) (oi := _) (v := ?vz441u5) rfl (by kernel_rfl) (by kernel_rfl) (by kernel_rfl) (fun _ _ _ h => h) (Or.inl ⟨by kernel_rfl, ?hyz441u5⟩) hHeld ?restz441u5
            case hyz441u5 => (intro w hSw; (try dsimp only at hSw); go_simp; first | done | with_reducible rfl)
            try simp only [Act.put, List.getElem_toArray, List.getElem_cons_zero, List.getElem_cons_succ, List.setIfInBounds_toArray, List.set_cons_zero, List.set_cons_succ]
            refine wpAnyH_take (i := 5) (oi := _) (v := ?vz441u6) rfl (by kernel_rfl) (by kernel_rfl) (by kernel_rfl) (fun _ _ _ h => h) (Or.inl ⟨by kernel_rfl, ?hyz441u6⟩) hHeld ?restz441u6
            case hyz441u6 => (intro w hSw; (try dsimp only at hSw); go_simp; first | done | with_reducible rfl)
            try simp only [Act.put, List.getElem_toArray, List.getElem_cons_zero, List.getElem_cons_succ, List.setIfInBounds_toArray, List.set_cons_zero, List.set_cons_succ]
            refine wpAnyH_take (i := 6) (oi := _) (v := ?vz441u7) rfl (by kernel_rfl) (by kernel_rfl) (by kernel_rfl) (fun _ _ _ h => h) (Or.inl ⟨by kernel_rfl, ?hyz441u7⟩) hHeld ?restz441u7
            case hyz441u7 => (intro w hSw; (try dsimp only at hSw); go_simp; first | done | with_reducible rfl)
            try simp only [Act.put, List.getElem_toArray, List.getElem_cons_zero, List.getElem_cons_succ, List.setIfInBounds_toArray, List.set_cons_zero, List.set_cons_succ]
            refine wpAnyH_take (i := 7) (oi := _) (v := ?vz441u8) rfl (by kernel_rfl) (by kernel_rfl) (by kernel_rfl) (fun _ _ _ h => h) (Or.inl ⟨by kernel_rfl, ?hyz441u8⟩) hHeld ?restz441u8
            case hyz441u8 => (intro w hSw; (try dsimp only at hSw); go_simp; first | done | with_reducible rfl)
            try simp only [Act.put, List.getElem_toArray, List.getElem_cons_zero, List.getElem_cons_succ, List.setIfInBounds_toArray, List.set_cons_zero, List.set_cons_succ]
            refine wpAnyH_take (i := 8) (oi := _) (v := ?vz441u9) rfl (by kernel_rfl) (by kernel_rfl) (by kernel_rfl) (fun _ _ _ h => h) (Or.inl ⟨by kernel_rfl, ?hyz441u9⟩) hHeld ?restz441u9
            case hyz441u9 => (intro w hSw; (try dsimp only at hSw); go_simp; first | done | with_reducible rfl)
            try simp only [Act.put, List.getElem_toArray, List.getElem_cons_zero, List.getElem_cons_succ, List.setIfInBounds_toArray, List.set_cons_zero, List.set_cons_succ]
            refine wpAnyH_take (i := 9) (oi := _) (v := ?vz441u10) rfl (by kernel_rfl) (by kernel_rfl) (by kernel_rfl) (fun _ _ _ h => h) (Or.inl ⟨by kernel_rfl, ?hyz441u10⟩) hHeld ?restz441u10
            case hyz441u10 => (intro w hSw; (try dsimp only at hSw); go_simp; first | done | with_reducible rfl)
            try simp only [Act.put, List.getElem_toArray, List.getElem_cons_zero, List.getElem_cons_succ, List.setIfInBounds_toArray, List.set_cons_zero, List.set_cons_succ]
            refine wpAnyH_take (i := 10) (oi := _) (v := ?vz441u11) rfl (by kernel_rfl) (by kernel_rfl) (by kernel_rfl) (fun _ _ _ h => h) (Or.inl ⟨by kernel_rfl, ?hyz441u11⟩) hHeld ?restz441u11
            case hyz441u11 => (intro w hSw; (try dsimp only at hSw); go_simp; first | done | with_reducible rfl)
            try simp only [Act.put, List.getElem_toArray, List.getElem_cons_zero, List.getElem_cons_succ, List.setIfInBounds_toArray, List.set_cons_zero, List.set_cons_succ]
            refine wpAnyH_take (i := 11) (oi := _) (v := ?vz441u12) rfl (by kernel_rfl) (by kernel_rfl) (by kernel_rfl) (fun _ _ _ h => h) (Or.inl ⟨by kernel_rfl, ?hyz441u12⟩) hHeld ?restz441u12
            case hyz441u12 => (intro w hSw; (try dsimp only at hSw); go_simp; first | done | with_reducible rfl)
            try simp only [Act.put, List.getElem_toArray, List.getElem_cons_zero, List.getElem_cons_succ, List.setIfInBounds_toArray, List.set_cons_zero, List.set_cons_succ]
            refine wpAnyH_take (i := 12) (oi := _) (v := ?vz441u13) rfl (by kernel_rfl) (by kernel_rfl) (by kernel_rfl) (fun _ _ _ h => h) (Or.inl ⟨by kernel_rfl, ?hyz441u13⟩) hHeld ?restz441u13
            case hyz441u13 => (intro w hSw; (try dsimp only at hSw); go_simp; first | done | with_reducible rfl)
            try simp only [Act.put, List.getElem_toArray, List.getElem_cons_zero, List.getElem_cons_succ, List.setIfInBounds_toArray, List.set_cons_zero, List.set_cons_succ]
            refine wpAnyH_take (i := 13) (oi := _) (v := ?vz441u14) rfl (by kernel_rfl) (by kernel_rfl) (by kernel_rfl) (fun _ _ _ h => h) (Or.inl ⟨by kernel_rfl, ?hyz441u14⟩) hHeld ?restz441u14
            case hyz441u14 => (intro w hSw; (try dsimp only at hSw); go_simp; first | done | with_reducible rfl)
            try simp only [Act.put, List.getElem_toArray, List.getElem_cons_zero, List.getElem_cons_succ, List.setIfInBounds_toArray, List.set_cons_zero, List.set_cons_succ]
            refine wpAnyH_take (i := 14) (oi := _) (v := ?vz441u15) rfl (by kernel_rfl) (by kernel_rfl) (by kernel_rfl) (fun _ _ _ h => h) (Or.inl ⟨by kernel_rfl, ?hyz441u15⟩) hHeld ?restz441u15
            case hyz441u15 => (intro w hSw; (try dsimp only at hSw); go_simp; first | done | with_reducible rfl)
            try simp only [Act.put, List.getElem_toArray, List.getElem_cons_zero, List.getElem_cons_succ, List.setIfInBounds_toArray, List.set_cons_zero, List.set_cons_succ]
            refine wpAnyH_take (i := 15) (oi := _) (v := ?vz441u16) rfl (by kernel_rfl) (by kernel_rfl) (by kernel_rfl) (fun _ _ _ h => h) (Or.inl ⟨by kernel_rfl, ?hyz441u16⟩) hHeld ?restz441u16
            case hyz441u16 => (intro w hSw; (try dsimp only at hSw); go_simp; first | done | with_reducible rfl)
            try simp only [Act.put, List.getElem_toArray, List.getElem_cons_zero, List.getElem_cons_succ, List.setIfInBounds_toArray, List.set_cons_zero, List.set_cons_succ]
            refine wpAnyH_take (i := 16) (oi := _) (v := ?vz441u17) rfl (by kernel_rfl) (by kernel_rfl) (by kernel_rfl) (fun _ _ _ h => h) (Or.inl ⟨by kernel_rfl, ?hyz441u17⟩) hHeld ?restz441u17
            case hyz441u17 => (intro w hSw; (try dsimp only at hSw); go_simp; first | done | with_reducible rfl)
            try simp only [Act.put, List.getElem_toArray, List.getElem_cons_zero, List.getElem_cons_succ, List.setIfInBounds_toArray, List.set_cons_zero, List.set_cons_succ]
            refine wpAnyH_take (i := 17) (oi := _) (v := ?vz441u18) rfl (by kernel_rfl) (by kernel_rfl) (by kernel_rfl) (fun _ _ _ h => h) (Or.inl ⟨by kernel_rfl, ?hyz441u18⟩) hHeld ?restz441u18
            case hyz441u18 => (intro w hSw; (try dsimp only at hSw); go_simp; first | done | with_reducible rfl)
            try simp only [Act.put, List.getElem_toArray, List.getElem_cons_zero, List.getElem_cons_succ, List.setIfInBounds_toArray, List.set_cons_zero, List.set_cons_succ]
            refine wpAnyH_take (i := 18) (oi := _) (v := ?vz441u19) rfl (by kernel_rfl) (by kernel_rfl) (by kernel_rfl) (fun _ _ _ h => h) (Or.inl ⟨by kernel_rfl, ?hyz441u19⟩) hHeld ?restz441u19
            case hyz441u19 => (intro w hSw; (try dsimp only at hSw); go_simp; first | done | with_reducible rfl)
            try simp only [Act.put, List.getElem_toArray, List.getElem_cons_zero, List.getElem_cons_succ, List.setIfInBounds_toArray, List.set_cons_zero, List.set_cons_succ]
            refine wpAnyH_take (i := 19) (oi := _) (v := ?vz441u20) rfl (by kernel_rfl) (by kernel_rfl) (by kernel_rfl) (fun _ _ _ h => h) (Or.inl ⟨by kernel_rfl, ?hyz441u20⟩) hHeld ?restz441u20
            case hyz441u20 => (intro w hSw; (try dsimp only at hSw); go_simp; first | done | with_reducible rfl)
            try simp only [Act.put, List.getElem_toArray, List.getElem_cons_zero, List.getElem_cons_succ, List.setIfInBounds_toArray, List.set_cons_zero, List.set_cons_succ]
            refine wpAnyH_take (i := 20) (oi := _) (v := ?vz441u21) rfl (by kernel_rfl) (by kernel_rfl) (by kernel_rfl) (fun _ _ _ h => h) (Or.inl ⟨by kernel_rfl, ?hyz441u21⟩) hHeld ?restz441u21
            case hyz441u21 => (intro w hSw; (try dsimp only at hSw); go_simp; first | done | with_reducible rfl)
            try simp only [Act.put, List.getElem_toArray, List.getElem_cons_zero, List.getElem_cons_succ, List.setIfInBounds_toArray, List.set_cons_zero, List.set_cons_succ]
            refine wpAnyH_take (i := 21) (oi := _) (v := ?vz441u22) rfl (by kernel_rfl) (by kernel_rfl) (by kernel_rfl) (fun _ _ _ h => h) (Or.inl ⟨by kernel_rfl, ?hyz441u22⟩) hHeld ?restz441u22
            case hyz441u22 => (intro w hSw; (try dsimp only at hSw); go_simp; first | done | with_reducible rfl)
            try simp only [Act.put, List.getElem_toArray, List.getElem_cons_zero, List.getElem_cons_succ, List.setIfInBounds_toArray, List.set_cons_zero, List.set_cons_succ]
            refine wpAnyH_take (i := 22) (oi := _) (v := ?vz441u23) rfl (by kernel_rfl) (by kernel_rfl) (by kernel_rfl) (fun _ _ _ h => h) (Or.inl ⟨by kernel_rfl, ?hyz441u23⟩) hHeld ?restz441u23
            case hyz441u23 => (intro w hSw; (try dsimp only at hSw); go_simp; first | done | with_reducible rfl)
            try simp only [Act.put, List.getElem_toArray, List.getElem_cons_zero, List.getElem_cons_succ, List.setIfInBounds_toArray, List.set_cons_zero, List.set_cons_succ]
            refine wpAnyH_take (i := 23) (oi := _) (v := ?vz441u24) rfl (by kernel_rfl) (by kernel_rfl) (by kernel_rfl) (fun _ _ _ h => h) (Or.inl ⟨by kernel_rfl, ?hyz441u24⟩) hHeld ?restz441u24
            case hyz441u24 => (intro w hSw; (try dsimp only at hSw); go_simp; first | done | with_reducible rfl)
            try simp only [Act.put, List.getElem_toArray, List.getElem_cons_zero, List.getElem_cons_succ, List.setIfInBounds_toArray, List.set_cons_zero, List.set_cons_succ]
            refine wpAnyH_take (i := 24) (oi := _) (v := ?vz441u25) rfl (by kernel_rfl) (by kernel_rfl) (by kernel_rfl) (fun _ _ _ h => h) (Or.inl ⟨by kernel_rfl, ?hyz441u25⟩) hHeld ?restz441u25
            case hyz441u25 => (intro w hSw; (try dsimp only at hSw); go_simp; first | done | with_reducible rfl)
            try simp only [Act.put, List.getElem_toArray, List.getElem_cons_zero, List.getElem_cons_succ, List.setIfInBounds_toArray, List.set_cons_zero, List.set_cons_succ]
            refine wpAnyH_take (i := 25) (oi := _) (v := ?vz441u26) rfl (by kernel_rfl) (by kernel_rfl) (by kernel_rfl) (fun _ _ _ h => h) (Or.inl ⟨by kernel_rfl, ?hyz441u26⟩) hHeld ?restz441u26
            case hyz441u26 => (intro w hSw; (try dsimp only at hSw); go_simp; first | done | with_reducible rfl)
            try simp only [Act.put, List.getElem_toArray, List.getElem_cons_zero, List.getElem_cons_succ, List.setIfInBounds_toArray, List.set_cons_zero, List.set_cons_succ]
            refine wpAnyH_take (i := 26) (oi := _) (v := ?vz441u27) rfl (by kernel_rfl) (by kernel_rfl) (by kernel_rfl) (fun _ _ _ h => h) (Or.inl ⟨by kernel_rfl, ?hyz441u27⟩) hHeld ?restz441u27
            case hyz441u27 => (intro w hSw; (try dsimp only at hSw); go_simp; first | done | with_reducible rfl)
            try simp only [Act.put, List.getElem_toArray, List.getElem_cons_zero, List.getElem_cons_succ, List.setIfInBounds_toArray, List.set_cons_zero, List.set_cons_succ]
            refine wpAnyH_take (i := 27) (oi := _) (v := ?vz441u28) rfl (by kernel_rfl) (by kernel_rfl) (by kernel_rfl) (fun _ _ _ h => h) (Or.inl ⟨by kernel_rfl, ?hyz441u28⟩) hHeld ?restz441u28
            case hyz441u28 => (intro w hSw; (try dsimp only at hSw); go_simp; first | done | with_reducible rfl)
            try simp only [Act.put, List.getElem_toArray, List.getElem_cons_zero, List.getElem_cons_succ, List.setIfInBounds_toArray, List.set_cons_zero, List.set_cons_succ]
            refine wpAnyH_take (i := 28) (oi := _) (v := ?vz441u29) rfl (by kernel_rfl) (by kernel_rfl) (by kernel_rfl) (fun _ _ _ h => h) (Or.inl ⟨by kernel_rfl, ?hyz441u29⟩) hHeld ?restz441u29
            case hyz441u29 => (intro w hSw; (try dsimp only at hSw); go_simp; first | done | with_reducible rfl)
            try simp only [Act.put, List.getElem_toArray, List.getElem_cons_zero, List.getElem_cons_succ, List.setIfInBounds_toArray, List.set_cons_zero, List.set_cons_succ]
            refine wpAnyH_take (i := 29) (oi := _) (v := ?vz441u30) rfl (by kernel_rfl) (by kernel_rfl) (by kernel_rfl) (fun _ _ _ h => h) (Or.inl ⟨by kernel_rfl, ?hyz441u30⟩) hHeld ?restz441u30
            case hyz441u30 => (intro w hSw; (try dsimp only at hSw); go_simp; first | done | with_reducible rfl)
            try simp only [Act.put, List.getElem_toArray, List.getElem_cons_zero, List.getElem_cons_succ, List.setIfInBounds_toArray, List.set_cons_zero, List.set_cons_succ]
            refine wpAnyH_take (i := 30) (oi := _) (v := ?vz441u31) rfl (by kernel_rfl) (by kernel_rfl) (by kernel_rfl) (fun _ _ _ h => h) (Or.inl ⟨by kernel_rfl, ?hyz441u31⟩) hHeld ?restz441u31
            case hyz441u31 => (intro w hSw; (try dsimp only at hSw); go_simp; first | done | with_reducible rfl)
            try simp only [Act.put, List.getElem_toArray, List.getElem_cons_zero, List.getElem_cons_succ, List.setIfInBounds_toArray, List.set_cons_zero, List.set_cons_succ]
            refine wpAnyH_take (i := 31) (oi := _) (v := ?vz441u32) rfl (by kernel_rfl) (by kernel_rfl) (by kernel_rfl) (fun _ _ _ h => h) (Or.inl ⟨by kernel_rfl, ?hyz441u32⟩) hHeld ?restz441u32
            case hyz441u32 => (intro w hSw; (try dsimp only at hSw); go_simp; first | done | with_reducible rfl)
            try simp only [Act.put, List.getElem_toArray, List.getElem_cons_zero, List.getElem_cons_succ, List.setIfInBounds_toArray, List.set_cons_zero, List.set_cons_succ]
            refine wpAnyH_take (i := 32) (oi := _) (v := ?vz441u33) rfl (by kernel_rfl) (by kernel_rfl) (by kernel_rfl) (fun _ _ _ h => h) (Or.inl ⟨by kernel_rfl, ?hyz441u33⟩) hHeld ?restz441u33
            case hyz441u33 => (intro w hSw; (try dsimp only at hSw); go_simp; first | done | with_reducible rfl)
            try simp only [Act.put, List.getElem_toArray, List.getElem_cons_zero, List.getElem_cons_succ, List.setIfInBounds_toArray, List.set_cons_zero, List.set_cons_succ]
            refine wpAnyH_take (i := 33) (oi := _) (v := ?vz441u34) rfl (by kernel_rfl) (by kernel_rfl) (by kernel_rfl) (fun _ _ _ h => h) (Or.inl ⟨by kernel_rfl, ?hyz441u34⟩) hHeld ?restz441u34
            case hyz441u34 => (intro w hSw; (try dsimp only at hSw); go_simp; first | done | with_reducible rfl)
            try simp only [Act.put, List.getElem_toArray, List.getElem_cons_zero, List.getElem_cons_succ, List.setIfInBounds_toArray, List.set_cons_zero, List.set_cons_succ]
            refine wpAnyH_take (i := 34) (oi := _) (v := ?vz441u35) rfl (by kernel_rfl) (by kernel_rfl) (by kernel_rfl) (fun _ _ _ h => h) (Or.inl ⟨by kernel_rfl, ?hyz441u35⟩) hHeld ?restz441u35
            case hyz441u35 => (intro w hSw; (try dsimp only at hSw); go_simp; first | done | with_reducible rfl)
            try simp only [Act.put, List.getElem_toArray, List.getElem_cons_zero, List.getElem_cons_succ, List.setIfInBounds_toArray, List.set_cons_zero, List.set_cons_succ]
            refine wpAnyH_take (i := 35) (oi := _) (v := ?vz441u36) rfl (by kernel_rfl) (by kernel_rfl) (by kernel_rfl) (fun _ _ _ h => h) (Or.inl ⟨by kernel_rfl, ?hyz441u36⟩) hHeld ?restz441u36
            case hyz441u36 => (intro w hSw; (try dsimp only at hSw); go_simp; first | done | with_reducible rfl)
            try simp only [Act.put, List.getElem_toArray, List.getElem_cons_zero, List.getElem_cons_succ, List.setIfInBounds_toArray, List.set_cons_zero, List.set_cons_succ]
            refine wpAnyH_take (i := 36) (oi := _) (v := ?vz441u37) rfl (by kernel_rfl) (by kernel_rfl) (by kernel_rfl) (fun _ _ _ h => h) (Or.inl ⟨by kernel_rfl, ?hyz441u37⟩) hHeld ?restz441u37
            case hyz441u37 => (intro w hSw; (try dsimp only at hSw); go_simp; first | done | with_reducible rfl)
            try simp only [Act.put, List.getElem_toArray, List.getElem_cons_zero, List.getElem_cons_succ, List.setIfInBounds_toArray, List.set_cons_zero, List.set_cons_succ]
            refine wpAnyH_take (i := 37) (oi := _) (v := ?vz441u38) rfl (by kernel_rfl) (by kernel_rfl) (by kernel_rfl) (fun _ _ _ h => h) (Or.inl ⟨by kernel_rfl, ?hyz441u38⟩) hHeld ?restz441u38
            case hyz441u38 => (intro w hSw; (try dsimp only at hSw); go_simp; first | done | with_reducible rfl)
            try simp only [Act.put, List.getElem_toArray, List.getElem_cons_zero, List.getElem_cons_succ, List.setIfInBounds_toArray, List.set_cons_zero, List.set_cons_succ]
            refine wpAnyH_take (i := 38) (oi := _) (v := ?vz441u39) rfl (by kernel_rfl) (by kernel_rfl) (by kernel_rfl) (fun _ _ _ h => h) (Or.inl ⟨by kernel_rfl, ?hyz441u39⟩) hHeld ?restz441u39
            case hyz441u39 => (intro w hSw; (try dsimp only at hSw); go_simp; first | done | with_reducible rfl)
            try simp only [Act.put, List.getElem_toArray, List.getElem_cons_zero, List.getElem_cons_succ, List.setIfInBounds_toArray, List.set_cons_zero, List.set_cons_succ]
            refine wpAnyH_take (i := 39) (oi := _) (v := ?vz441u40) rfl (by kernel_rfl) (by kernel_rfl) (by kernel_rfl) (fun _ _ _ h => h) (Or.inl ⟨by kernel_rfl, ?hyz441u40⟩) hHeld ?restz441u40
            case hyz441u40 => (intro w hSw; (try dsimp only at hSw); go_simp; first | done | with_reducible rfl)
            try simp only [Act.put, List.getElem_toArray, List.getElem_cons_zero, List.getElem_cons_succ, List.setIfInBounds_toArray, List.set_cons_zero, List.set_cons_succ]
            refine wpAnyH_take (i := 40) (oi := _) (v := ?vz441u41) rfl (by kernel_rfl) (by kernel_rfl) (by kernel_rfl) (fun _ _ _ h => h) (Or.inl ⟨by kernel_rfl, ?hyz441u41⟩) hHeld ?restz441u41
            case hyz441u41 => (intro w hSw; (try dsimp only at hSw); go_simp; first | done | with_reducible rfl)
            try simp only [Act.put, List.getElem_toArray, List.getElem_cons_zero, List.getElem_cons_succ, List.setIfInBounds_toArray, List.set_cons_zero, List.set_cons_succ]
            refine wpAnyH_take (i := 41) (oi := _) (v := ?vz441u42) rfl (by kernel_rfl) (by kernel_rfl) (by kernel_rfl) (fun _ _ _ h => h) (Or.inl ⟨by kernel_rfl, ?hyz441u42⟩) hHeld ?restz441u42
            case hyz441u42 => (intro w hSw; (try dsimp only at hSw); go_simp; first | done | with_reducible rfl)
            try simp only [Act.put, List.getElem_toArray, List.getElem_cons_zero, List.getElem_cons_succ, List.setIfInBounds_toArray, List.set_cons_zero, List.set_cons_succ]
            refine wpAnyH_take (i := 42) (oi := _) (v := ?vz441u43) rfl (by kernel_rfl) (by kernel_rfl) (by kernel_rfl) (fun _ _ _ h => h) (Or.inl ⟨by kernel_rfl, ?hyz441u43⟩) hHeld ?restz441u43
            case hyz441u43 => (intro w hSw; (try dsimp only at hSw); go_simp; first | done | with_reducible rfl)
            try simp only [Act.put, List.getElem_toArray, List.getElem_cons_zero, List.getElem_cons_succ, List.setIfInBounds_toArray, List.set_cons_zero, List.set_cons_succ]
            refine wpAnyH_take (i := 43) (oi := _) (v := ?vz441u44) rfl (by kernel_rfl) (by kernel_rfl) (by kernel_rfl) (fun _ _ _ h => h) (Or.inl ⟨by kernel_rfl, ?hyz441u44⟩) hHeld ?restz441u44
            case hyz441u44 => (intro w hSw; (try dsimp only at hSw); go_simp; first | done | with_reducible rfl)
            try simp only [Act.put, List.getElem_toArray, List.getElem_cons_zero, List.getElem_cons_succ, List.setIfInBounds_toArray, List.set_cons_zero, List.set_cons_succ]
            refine wpAnyH_take (i := 44) (oi := _) (v := ?vz441u45) rfl (by kernel_rfl) (by kernel_rfl) (by kernel_rfl) (fun _ _ _ h => h) (Or.inl ⟨by kernel_rfl, ?hyz441u45⟩) hHeld ?restz441u45
            case hyz441u45 => (intro w hSw; (try dsimp only at hSw); go_simp; first | done | with_reducible rfl)
            try simp only [Act.put, List.getElem_toArray, List.getElem_cons_zero, List.getElem_cons_succ, List.setIfInBounds_toArray, List.set_cons_zero, List.set_cons_succ]
            refine wpAnyH_take (i := 45) (oi := _) (v := ?vz441u46) rfl (by kernel_rfl) (by kernel_rfl) (by kernel_rfl) (fun _ _ _ h => h) (Or.inl ⟨by kernel_rfl, ?hyz441u46⟩) hHeld ?restz441u46
            case hyz441u46 => (intro w hSw; (try dsimp only at hSw); go_simp; first | done | with_reducible rfl)
            try simp only [Act.put, List.getElem_toArray, List.getElem_cons_zero, List.getElem_cons_succ, List.setIfInBounds_toArray, List.set_cons_zero, List.set_cons_succ]
            refine wpAnyH_take (i := 46) (oi := _) (v := ?vz441u47) rfl (by kernel_rfl) (by kernel_rfl) (by kernel_rfl) (fun _ _ _ h => h) (Or.inl ⟨by kernel_rfl, ?hyz441u47⟩) hHeld ?restz441u47
            case hyz441u47 => (intro w hSw; (try dsimp only at hSw); go_simp; first | done | with_reducible rfl)
            try simp only [Act.put, List.getElem_toArray, List.getElem_cons_zero, List.getElem_cons_succ, List.setIfInBounds_toArray, List.set_cons_zero, List.set_cons_succ]
            refine wpAnyH_take (i := 47) (oi := _) (v := ?vz441u48) rfl (by kernel_rfl) (by kernel_rfl) (by kernel_rfl) (fun _ _ _ h => h) (Or.inl ⟨by kernel_rfl, ?hyz441u48⟩) hHeld ?restz441u48
            case hyz441u48 => (intro w hSw; (try dsimp only at hSw); go_simp; first | done | with_reducible rfl)
            try simp only [Act.put, List.getElem_toArray, List.getElem_cons_zero, List.getElem_cons_succ, List.setIfInBounds_toArray, List.set_cons_zero, List.set_cons_succ]
            refine wpAnyH_take (i := 48) (oi := _) (v := ?vz441u49) rfl (by kernel_rfl) (by kernel_rfl) (by kernel_rfl) (fun _ _ _ h => h) (Or.inl ⟨by kernel_rfl, ?hyz441u49⟩) hHeld ?restz441u49
            case hyz441u49 => (intro w hSw; (try dsimp only at hSw); go_simp; first | done | with_reducible rfl)
            try simp only [Act.put, List.getElem_toArray, List.getElem_cons_zero, List.getElem_cons_succ, List.setIfInBounds_toArray, List.set_cons_zero, List.set_cons_succ]
            refine wpAnyH_take (i := 49) (oi := _) (v := ?vz441u50) rfl (by kernel_rfl) (by kernel_rfl) (by kernel_rfl) (fun _ _ _ h => h) (Or.inl ⟨by kernel_rfl, ?hyz441u50⟩) hHeld ?restz441u50
            case hyz441u50 => (intro w hSw; (try dsimp only at hSw); go_simp; first | done | with_reducible rfl)
            try simp only [Act.put, List.getElem_toArray, List.getElem_cons_zero, List.getElem_cons_succ, List.setIfInBounds_toArray, List.set_cons_zero, List.set_cons_succ]
            refine wpAnyH_take (i := 50) (oi := _) (v := ?vz441u51) rfl (by kernel_rfl) (by kernel_rfl) (by kernel_rfl) (fun _ _ _ h => h) (Or.inl ⟨by kernel_rfl, ?hyz441u51⟩) hHeld ?restz441u51
            case hyz441u51 => (intro w hSw; (try dsimp only at hSw); go_simp; first | done | with_reducible rfl)
            try simp only [Act.put, List.getElem_toArray, List.getElem_cons_zero, List.getElem_cons_succ, List.setIfInBounds_toArray, List.set_cons_zero, List.set_cons_succ]
            refine wpAnyH_take (i := 51) (oi := _) (v := ?vz441u52) rfl (by kernel_rfl) (by kernel_rfl) (by kernel_rfl) (fun _ _ _ h => h) (Or.inl ⟨by kernel_rfl, ?hyz441u52⟩) hHeld ?restz441u52
            case hyz441u52 => (intro w hSw; (try dsimp only at hSw); go_simp; first | done | with_reducible rfl)
            try simp only [Act.put, List.getElem_toArray, List.getElem_cons_zero, List.getElem_cons_succ, List.setIfInBounds_toArray, List.set_cons_zero, List.set_cons_succ]
            refine wpAnyH_take (i := 52) (oi := _) (v := ?vz441u53) rfl (by kernel_rfl) (by kernel_rfl) (by kernel_rfl) (fun _ _ _ h => h) (Or.inl ⟨by kernel_rfl, ?hyz441u53⟩) hHeld ?restz441u53
            case hyz441u53 => (intro w hSw; (try dsimp only at hSw); go_simp; first | done | with_reducible rfl)
            try simp only [Act.put, List.getElem_toArray, List.getElem_cons_zero, List.getElem_cons_succ, List.setIfInBounds_toArray, List.set_cons_zero, List.set_cons_succ]
            refine wpAnyH_ready (rs := [53]) (by kernel_rfl) (by simp) ?_
            refine AllReadyH.cons (o := _) rfl (fun K0 hK0 => ?_) AllReadyH.nil
            go_simp
            go_at_call 21
            refine (CS3.out _ _ _ _ _ (HL2e.out.kept (thenB (Below.refl _ _).drew bz441v3)) (HRKe.out.kept (thenB (Below.refl _ _).drew bz441v3))).mono ?_
            rintro e wz441v54 ⟨rfl, bz441v54⟩
            refine hK0.out _ _ (K.out _ (thenB (thenB (Below.refl _ _).drew bz441v3) bz441v54)) (fun hHeld => ?_)
            clear hK0 K0
            try simp only [Act.put, List.getElem_toArray, List.getElem_cons_zero, List.getElem_cons_succ, List.setIfInBounds_toArray, List.set_cons_zero, List.set_cons_succ]
            refine wpAnyH_take (i := 54) (oi := _) (v := ?vz441u55) rfl (by kernel_rfl) (by kernel_rfl) (by kernel_rfl) (fun _ _ _ h => h) (Or.inl ⟨by kernel_rfl, ?hyz441u55⟩) hHeld ?restz441u55
            case hyz441u55 => (intro w hSw; (try dsimp only at hSw); go_simp; first | done | with_reducible rfl)
            try simp only [Act.put, List.getElem_toArray, List.getElem_cons_zero, List.getElem_cons_succ, List.setIfInBounds_toArray, List.set_cons_zero, List.set_cons_succ]
            refine wpAnyH_take (i := 55) (oi := _) (v := ?vz441u56) rfl (by kernel_rfl) (by kernel_rfl) (by kernel_rfl) (fun _ _ _ h => h) (Or.inl ⟨by kernel_rfl, ?hyz441u56⟩) hHeld ?restz441u56
            case hyz441u56 => (intro w hSw; (try dsimp only at hSw); go_simp; first | done | with_reducible rfl)
            try simp only [Act.put, List.getElem_toArray, List.getElem_cons_zero, List.getElem_cons_succ, List.setIfInBounds_toArray, List.set_cons_zero, List.set_cons_succ]
            refine wpAnyH_take (i := 56) (oi := _) (v := ?vz441u57) rfl (by kernel_rfl) (by kernel_rfl) (by kernel_rfl) (fun _ _ _ h => h) (Or.inl ⟨by kernel_rfl, ?hyz441u57⟩) hHeld ?restz441u57
            case hyz441u57 => (intro w hSw; (try dsimp only at hSw); go_simp; first | done | with_reducible rfl)
            try simp only [Act.put, List.getElem_toArray, List.getElem_cons_zero, List.getElem_cons_succ, List.setIfInBounds_toArray, List.set_cons_zero, List.set_cons_succ]
            refine wpAnyH_take (i := 57) (oi := _) (v := ?vz441u58) rfl (by kernel_rfl) (by kernel_rfl) (by kernel_rfl) (fun _ _ _ h => h) (Or.inl ⟨by kernel_rfl, ?hyz441u58⟩) hHeld ?restz441u58
            case hyz441u58 => (intro w hSw; (try dsimp only at hSw); go_simp; first | done | with_reducible rfl)
            try simp only [Act.put, List.getElem_toArray, List.getElem_cons_zero, List.getElem_cons_succ, List.setIfInBounds_toArray, List.set_cons_zero, List.set_cons_succ]
            refine wpAnyH_take (i := 58) (oi := _) (v := ?vz441u59) rfl (by kernel_rfl) (by kernel_rfl) (by kernel_rfl) (fun _ _ _ h => h) (Or.inl ⟨by kernel_rfl, ?hyz441u59⟩) hHeld ?restz441u59
            case hyz441u59 => (intro w hSw; (try dsimp only at hSw); go_simp; first | done | with_reducible rfl)
            try simp only [Act.put, List.getElem_toArray, List.getElem_cons_zero, List.getElem_cons_succ, List.setIfInBounds_toArray, List.set_cons_zero, List.set_cons_succ]
            refine wpAnyH_take (i := 59) (oi := _) (v := ?vz441u60) rfl (by kernel_rfl) (by kernel_rfl) (by kernel_rfl) (fun _ _ _ h => h) (Or.inl ⟨by kernel_rfl, ?hyz441u60⟩) hHeld ?restz441u60
            case hyz441u60 => (intro w hSw; (try dsimp only at hSw); go_simp; first | done | with_reducible rfl)
            try simp only [Act.put, List.getElem_toArray, List.getElem_cons_zero, List.getElem_cons_succ, List.setIfInBounds_toArray, List.set_cons_zero, List.set_cons_succ]
            refine wpAnyH_take (i := 60) (oi := _) (v := ?vz441u61) rfl (by kernel_rfl) (by kernel_rfl) (by kernel_rfl) (fun _ _ _ h => h) (Or.inl ⟨by kernel_rfl, ?hyz441u61⟩) hHeld ?restz441u61
            case hyz441u61 => (intro w hSw; (try dsimp only at hSw); go_simp; first | done | with_reducible rfl)
            try simp only [Act.put, List.getElem_toArray, List.getElem_cons_zero, List.getElem_cons_succ, List.setIfInBounds_toArray, List.set_cons_zero, List.set_cons_succ]
            refine wpAnyH_take (i := 61) (oi := _) (v := ?vz441u62) rfl (by kernel_rfl) (by kernel_rfl) (by kernel_rfl) (fun _ _ _ h => h) (Or.inl ⟨by kernel_rfl, ?hyz441u62⟩) hHeld ?restz441u62
            case hyz441u62 => (intro w hSw; (try dsimp only at hSw); go_simp; first | done | with_reducible rfl)
            try simp only [Act.put, List.getElem_toArray, List.getElem_cons_zero, List.getElem_cons_succ, List.setIfInBounds_toArray, List.set_cons_zero, List.set_cons_succ]
            refine wpAnyH_ready (rs := [62]) (by kernel_rfl) (by simp) ?_
            refine AllReadyH.cons (o := _) rfl (fun K0 hK0 => ?_) AllReadyH.nil
            go_simp
            go_at_call 19
            refine (CD4.out _ _ _ _ _ (HL2e.out.kept (thenB (thenB (Below.refl _ _).drew bz441v3) bz441v54)) (HRKe.out.kept (thenB (thenB (Below.refl _ _).drew bz441v3) bz441v54))).mono ?_
            rintro e wz441v63 ⟨rfl, bz441v63⟩
            refine hK0.out _ _ (K.out _ (thenB (thenB (thenB (Below.refl _ _).drew bz441v3) bz441v54) bz441v63)) (fun hHeld => ?_)
            clear hK0 K0
            try simp only [Act.put, List.getElem_toArray, List.getElem_cons_zero, List.getElem_cons_succ, List.setIfInBounds_toArray, List.set_cons_zero, List.set_cons_succ]
            refine wpAnyH_take (i := 63) (oi := _) (v := ?vz441u64) rfl (by kernel_rfl) (by kernel_rfl) (by kernel_rfl) (fun _ _ _ h => h) (Or.inl ⟨by kernel_rfl, ?hyz441u64⟩) hHeld ?restz441u64
            case hyz441u64 => (intro w hSw; (try dsimp only at hSw); go_simp; first | done | with_reducible rfl)
            try simp only [Act.put, List.getElem_toArray, List.getElem_cons_zero, List.getElem_cons_succ, List.setIfInBounds_toArray, List.set_cons_zero, List.set_cons_succ]
            refine wpAnyH_take (i := 64) (oi := _) (v := ?vz441u65) rfl (by kernel_rfl) (by kernel_rfl) (by kernel_rfl) (fun _ _ _ h => h) (Or.inl ⟨by kernel_rfl, ?hyz441u65⟩) hHeld ?restz441u65
            case hyz441u65 => (intro w hSw; (try dsimp only at hSw); go_simp; first | done | with_reducible rfl)
            try simp only [Act.put, List.getElem_toArray, List.getElem_cons_zero, List.getElem_cons_succ, List.setIfInBounds_toArray, List.set_cons_zero, List.set_cons_succ]
            refine wpAnyH_take (i := 65) (oi := _) (v := undef) rfl (by kernel_rfl) (by kernel_rfl) (by kernel_rfl) (fun _ _ _ h => h) (Or.inr ⟨by rfl, rfl⟩) hHeld ?_
            try simp only [Act.put, List.getElem_toArray, List.getElem_cons_zero, List.getElem_cons_succ, List.setIfInBounds_toArray, List.set_cons_zero, List.set_cons_succ]
            refine wpAnyH_take (i := 66) (oi := _) (v := undef) rfl (by kernel_rfl) (by kernel_rfl) (by kernel_rfl) (fun _ _ _ h => h) (Or.inr ⟨by rfl, rfl⟩) hHeld ?_
            try simp only [Act.put, List.getElem_toArray, List.getElem_cons_zero, List.getElem_cons_succ, List.setIfInBounds_toArray, List.set_cons_zero, List.set_cons_succ]
            refine wpAnyH_take (i := 67) (oi := _) (v := undef) rfl (by kernel_rfl) (by kernel_rfl) (by kernel_rfl) (fun _ _ _ h => h) (Or.inr ⟨by rfl, rfl⟩) hHeld ?_
            try simp only [Act.put, List.getElem_toArray, List.getElem_cons_zero, List.getElem_cons_succ, List.setIfInBounds_toArray, List.set_cons_zero, List.set_cons_succ]
            refine wpAnyH_take (i := 68) (oi := _) (v := undef) rfl (by kernel_rfl) (by kernel_rfl) (by kernel_rfl) (fun _ _ _ h => h) (Or.inr ⟨by rfl, rfl⟩) hHeld ?_
            try simp only [Act.put, List.getElem_toArray, List.getElem_cons_zero, List.getElem_cons_succ, List.setIfInBounds_toArray, List.set_cons_zero, List.set_cons_succ]
            refine wpAnyH_take (i := 69) (oi := _) (v := undef) rfl (by kernel_rfl) (by kernel_rfl) (by kernel_rfl) (fun _ _ _ h => h) (Or.inr ⟨by rfl, rfl⟩) hHeld ?_
            try simp only [Act.put, List.getElem_toArray, List.getElem_cons_zero, List.getElem_cons_succ, List.setIfInBounds_toArray, List.set_cons_zero, List.set_cons_succ]
            refine wpAnyH_take (i := 70) (oi := _) (v := undef) rfl (by kernel_rfl) (by kernel_rfl) (by kernel_rfl) (fun _ _ _ h => h) (Or.inr ⟨by rfl, rfl⟩) hHeld ?_
            try simp only [Act.put, List.getElem_toArray, List.getElem_cons_zero, List.getElem_cons_succ, List.setIfInBounds_toArray, List.set_cons_zero, List.set_cons_succ]
            refine wpAnyH_take (i := 71) (oi := _) (v := undef) rfl (by kernel_rfl) (by kernel_rfl) (by kernel_rfl) (fun _ _ _ h => h) (Or.inr ⟨by rfl, rfl⟩) hHeld ?_
            try simp only [Act.put, List.getElem_toArray, List.getElem_cons_zero, List.getElem_cons_succ, List.setIfInBounds_toArray, List.set_cons_zero, List.set_cons_succ]
            refine wpAnyH_take (i := 72) (oi := _) (v := undef) rfl (by kernel_rfl) (by kernel_rfl) (by kernel_rfl) (fun _ _ _ h => h) (Or.inr ⟨by rfl, rfl⟩) hHeld ?_
            try simp only [Act.put, List.getElem_toArray, List.getElem_cons_zero, List.getElem_cons_succ, List.setIfInBounds_toArray, List.set_cons_zero, List.set_cons_succ]
            refine wpAnyH_take (i := 73) (oi := _) (v := undef) rfl (by kernel_rfl) (by kernel_rfl) (by kernel_rfl) (fun _ _ _ h => h) (Or.inr ⟨by rfl, rfl⟩) hHeld ?_
            try simp only [Act.put, List.getElem_toArray, List.getElem_cons_zero, List.getElem_cons_succ, List.setIfInBounds_toArray, List.set_cons_zero, List.set_cons_succ]
            refine wpAnyH_take (i := 74) (oi := _) (v := ?vz441u66) rfl (by kernel_rfl) (by kernel_rfl) (by kernel_rfl) (fun _ _ _ h => h) (Or.inl ⟨by kernel_rfl, ?hyz441u66⟩) hHeld ?restz441u66
            case hyz441u66 => (intro w hSw; (try dsimp only at hSw); go_simp; first | done | with_reducible rfl)
            try simp only [Act.put, List.getElem_toArray, List.getElem_cons_zero, List.getElem_cons_succ, List.setIfInBounds_toArray, List.set_cons_zero, List.set_cons_succ]
            refine wpAnyH_take (i := 75) (oi := _) (v := ?vz441u67) rfl (by kernel_rfl) (by kernel_rfl) (by kernel_rfl) (fun _ _ _ h => h) (Or.inl ⟨by kernel_rfl, ?hyz441u67⟩) hHeld ?restz441u67
            case hyz441u67 => (intro w hSw; (try dsimp only at hSw); go_simp; first | done | with_reducible rfl)
            try simp only [Act.put, List.getElem_toArray, List.getElem_cons_zero, List.getElem_cons_succ, List.setIfInBounds_toArray, List.set_cons_zero, List.set_cons_succ]
            refine wpAnyH_take (i := 76) (oi := _) (v := ?vz441u68) rfl (by kernel_rfl) (by kernel_rfl) (by kernel_rfl) (fun _ _ _ h => h) (Or.inl ⟨by kernel_rfl, ?hyz441u68⟩) hHeld ?restz441u68
            case hyz441u68 => (intro w hSw; (try dsimp only at hSw); go_simp; first | done | with_reducible rfl)
            try simp only [Act.put, List.getElem_toArray, List.getElem_cons_zero, List.getElem_cons_succ, List.setIfInBounds_toArray, List.set_cons_zero, List.set_cons_succ]
            refine wpAnyH_done (by kernel_rfl) ?_ _
            clear K hHeld
            have bacc : Below wc.heap.size wc wz441v63 := (thenB (thenB (thenB (Below.refl _ _).drew bz441v3) bz441v54) bz441v63)
            replace VR := VR.kept bacc
            replace VH := VH.kept bacc
            replace VO := VO.kept bacc
            replace B := thenB B bacc
            have Sz441 := (bacc).size
            clear bacc
            clear bz441v3 bz441v54 bz441v63
            obtain ⟨s_VR, f_VR, z_VR⟩ := VR.open
            obtain ⟨s_VH, f_VH, z_VH⟩ := VH.open
            obtain ⟨s_VO, f_VO, z_VO⟩ := VO.open
            have Bo := B
            go_wp2
            go_ret
            exact ⟨rfl, HB0.out.trans (B.mono HB0.out.size)⟩
          · have hin : inL (opL l2 kn) ko = true := by rcases hcl with h | h | h; cases h; cases h; exact h
            rw [hin] at CHS
            have K : ∀ w' : World, Below wc.heap.size wc w' → (w'.cell? ⟨w61.heap.size, 0, none⟩ = some (.int .i64 0) ∧ w'.cell? ⟨w61.heap.size, 1, none⟩ = some (.int .i64 ks) ∧ w'.cell? ⟨w61.heap.size, 2, none⟩ = some (.int .i64 kd) ∧ w'.cell? ⟨w61.heap.size, 3, none⟩ = some (.int .i64 ko) ∧ w'.cell? ⟨w61.heap.size, 4, none⟩ = some (.int .i64 kb) ∧ w'.cell? ⟨w61.heap.size, 5, none⟩ = some (.slice c1 kl d1) ∧ w'.cell? ⟨w62.heap.size, 0, none⟩ = some (.int .i64 0) ∧ w'.cell? ⟨w62.heap.size, 1, none⟩ = some (.int .i64 pk) ∧ w'.cell? ⟨w62.heap.size, 2, none⟩ = some (.slice c2 k2 d2) ∧ w'.cell? ⟨P, 0, none⟩ = some (.int .i64 0) ∧ w'.cell? ⟨P, 1, none⟩ = some (.int .i64 ks) ∧ w'.cell? ⟨P, 2, none⟩ = some (.int .i64 kd) ∧ w'.cell? ⟨P, 3, none⟩ = some (.int .i64 ko) ∧ w'.cell? ⟨P, 4, none⟩ = some (.int .i64 kb) ∧ w'.cell? ⟨P, 5, none⟩ = some (.slice c6 k2 d6)) := fun w' h => ⟨(VR.kept h).2.1 0 (by simp), (VR.kept h).2.1 1 (by simp), (VR.kept h).2.1 2 (by simp), (VR.kept h).2.1 3 (by simp), (VR.kept h).2.1 4 (by simp), (VR.kept h).2.1 5 (by simp), (VH.kept h).2.1 0 (by simp), (VH.kept h).2.1 1 (by simp), (VH.kept h).2.1 2 (by simp), (VO.kept h).2.1 0 (by simp), (VO.kept h).2.1 1 (by simp), (VO.kept h).2.1 2 (by simp), (VO.kept h).2.1 3 (by simp), (VO.kept h).2.1 4 (by simp), (VO.kept h).2.1 5 (by simp)⟩
            have K := Hid.mk K
            refine wp_region_held_drew (S := (fun w' => w'.cell? ⟨w61.heap.size, 0, none⟩ = some (.int .i64 0) ∧ w'.cell? ⟨w61.heap.size, 1, none⟩ = some (.int .i64 ks) ∧ w'.cell? ⟨w61.heap.size, 2, none⟩ = some (.int .i64 kd) ∧ w'.cell? ⟨w61.heap.size, 3, none⟩ = some (.int .i64 ko) ∧ w'.cell? ⟨w61.heap.size, 4, none⟩ = some (.int .i64 kb) ∧ w'.cell? ⟨w61.heap.size, 5, none⟩ = some (.slice c1 kl d1) ∧ w'.cell? ⟨w62.heap.size, 0, none⟩ = some (.int .i64 0) ∧ w'.cell? ⟨w62.heap.size, 1, none⟩ = some (.int .i64 pk) ∧ w'.cell? ⟨w62.heap.size, 2, none⟩ = some (.slice c2 k2 d2) ∧ w'.cell? ⟨P, 0, none⟩ = some (.int .i64 0) ∧ w'.cell? ⟨P, 1, none⟩ = some (.int .i64 ks) ∧ w'.cell? ⟨P, 2, none⟩ = some (.int .i64 kd) ∧ w'.cell? ⟨P, 3, none⟩ = some (.int .i64 ko) ∧ w'.cell? ⟨P, 4, none⟩ = some (.int .i64 kb) ∧ w'.cell? ⟨P, 5, none⟩ = some (.slice c6 k2 d6))) (by kernel_rfl) (K.out _ (Below.refl _ _).drew) (fun hHeld => ?_)
            refine wpAnyH_take (i := 0) (oi := _) (v := ?vz461u1) rfl (by kernel_rfl) (by kernel_rfl) (by kernel_rfl) (fun _ _ _ h => h) (Or.inl ⟨by kernel_rfl, ?hyz461u1⟩) hHeld ?restz461u1
            case hyz461u1 => (intro w hSw; (try dsimp only at hSw); go_simp; first | done | with_reducible rfl)
            try simp only [Act.put, List.getElem_toArray, List.getElem_cons_zero, List.setIfInBounds_toArray, List.set_cons_zero, List.set_cons_succ]
            refine wpAnyH_take (i := 1) (oi := _) (v := ?vz461u2) rfl (by kernel_rfl) (by kernel_rfl) (by kernel_rfl) (fun _ _ _ h => h) (Or.inl ⟨by kernel_rfl, ?hyz461u2⟩) hHeld ?restz461u2
            case hyz461u2 => (intro w hSw; (try dsimp only at hSw); go_simp; first | done | with_reducible rfl)
            try simp only [Act.put, List.getElem_toArray, List.getElem_cons_zero, List.getElem_cons_succ, List.setIfInBounds_toArray, List.set_cons_zero, List.set_cons_succ]
            refine wpAnyH_ready (rs := [2]) (by kernel_rfl) (by simp) ?_
            refine AllReadyH.cons (o := _) rfl (fun K0 hK0 => ?_) AllReadyH.nil
            go_simp
            go_at_call 20
            refine (CTF.out _ _ _ (HL1e.out.kept (Below.refl _ _).drew)).mono ?_
            rintro e wz461v3 ⟨rfl, bz461v3⟩
            refine hK0.out _ _ (K.out _ (thenB (Below.refl _ _).drew bz461v3)) (fun hHeld => ?_)
            clear hK0 K0
            try simp only [Act.put, List.getElem_toArray, List.getElem_cons_zero, List.getElem_cons_succ, List.setIfInBounds_toArray, List.set_cons_zero, List.set_cons_succ]
            refine wpAnyH_take (i := 3) (oi := _) (v := ?vz461u4) rfl (by kernel_rfl) (by kernel_rfl) (by kernel_rfl) (fun _ _ _ h => h) (Or.inl ⟨by kernel_rfl, ?hyz461u4⟩) hHeld ?restz461u4
            case hyz461u4 => (intro w hSw; (try dsimp only at hSw); go_simp; first | done | with_reducible rfl)
            try simp only [Act.put, List.getElem_toArray, List.getElem_cons_zero, List.getElem_cons_succ, List.setIfInBounds_toArray, List.set_cons_zero, List.set_cons_succ]
            refine wpAnyH_take (i := 4) (oi := _) (v := ?vz461u5) rfl (by kernel_rfl) (by kernel_rfl) (by kernel_rfl) (fun _ _ _ h => h) (Or.inl ⟨by kernel_rfl, ?hyz461u5⟩) hHeld ?restz461u5
            case hyz461u5 => (intro w hSw; (try dsimp only at hSw); go_simp; first | done | with_reducible rfl)
            try simp only [Act.put, List.getElem_toArray, List.getElem_cons_zero, List.getElem_cons_succ, List.setIfInBounds_toArray, List.set_cons_zero, List.set_cons_succ]
            refine wpAnyH_take (i := 5) (oi := _) (v := ?vz461u6) rfl (by kernel_rfl) (by kernel_rfl) (by kernel_rfl) (fun _ _ _ h => h) (Or.inl ⟨by kernel_rfl, ?hyz461u6⟩) hHeld ?restz461u6
            case hyz461u6 => (intro w hSw; (try dsimp only at hSw); go_simp; first | done | with_reducible rfl)
            try simp only [Act.put, List.getElem_toArray, List.getElem_cons_zero, List.getElem_cons_succ, List.setIfInBounds_toArray, List.set_cons_zero, List.set_cons_succ]
            refine wpAnyH_take (i := 6) (oi := _) (v := ?vz461u7) rfl (by kernel_rfl) (by kernel_rfl) (by kernel_rfl) (fun _ _ _ h => h) (Or.inl ⟨by kernel_rfl, ?hyz461u7⟩) hHeld ?restz461u7
            case hyz461u7 => (intro w hSw; (try dsimp only at hSw); go_simp; first | done | with_reducible rfl)
            try simp only [Act.put, List.getElem_toArray, List.getElem_cons_zero, List.getElem_cons_succ, List.setIfInBounds_toArray, List.set_cons_zero, List.set_cons_succ]
            refine wpAnyH_take (i := 7) (oi := _) (v := ?vz461u8) rfl (by kernel_rfl) (by kernel_rfl) (by kernel_rfl) (fun _ _ _ h => h) (Or.inl ⟨by kernel_rfl, ?hyz461u8⟩) hHeld ?restz461u8
            case hyz461u8 => (intro w hSw; (try dsimp only at hSw); go_simp; first | done | with_reducible rfl)
            try simp only [Act.put, List.getElem_toArray, List.getElem_cons_zero, List.getElem_cons_succ, List.setIfInBounds_toArray, List.set_cons_zero, List.set_cons_succ]
            refine wpAnyH_take (i := 8) (oi := _) (v := ?vz461u9) rfl (by kernel_rfl) (by kernel_rfl) (by kernel_rfl) (fun _ _ _ h => h) (Or.inl ⟨by kernel_rfl, ?hyz461u9⟩) hHeld ?restz461u9
            case hyz461u9 => (intro w hSw; (try dsimp only at hSw); go_simp; first | done | with_reducible rfl)
            try simp only [Act.put, List.getElem_toArray, List.getElem_cons_zero, List.getElem_cons_succ, List.setIfInBounds_toArray, List.set_cons_zero, List.set_cons_succ]
            refine wpAnyH_take (i := 9) (oi := _) (v := ?vz461u10) rfl (by kernel_rfl) (by kernel_rfl) (by kernel_rfl) (fun _ _ _ h => h) (Or.inl ⟨by kernel_rfl, ?hyz461u10⟩) hHeld ?restz461u10
            case hyz461u10 => (intro w hSw; (try dsimp only at hSw); go_simp; first | done | with_reducible rfl)
            try simp only [Act.put, List.getElem_toArray, List.getElem_cons_zero, List.getElem_cons_succ, List.setIfInBounds_toArray, List.set_cons_zero, List.set_cons_succ]
            refine wpAnyH_take (i := 10) (oi := _) (v := ?vz461u11) rfl (by kernel_rfl) (by kernel_rfl) (by kernel_rfl) (fun _ _ _ h => h) (Or.inl ⟨by kernel_rfl, ?hyz461u11⟩) hHeld ?restz461u11
            case hyz461u11 => (intro w hSw; (try dsimp only at hSw); go_simp; first | done | with_reducible rfl)
            try simp only [Act.put, List.getElem_toArray, List.getElem_cons_zero, List.getElem_cons_succ, List.setIfInBounds_toArray, List.set_cons_zero, List.set_cons_succ]
            refine wpAnyH_take (i := 11) (oi := _) (v := ?vz461u12) rfl (by kernel_rfl) (by kernel_rfl) (by kernel_rfl) (fun _ _ _ h => h) (Or.inl ⟨by kernel_rfl, ?hyz461u12⟩) hHeld ?restz461u12
            case hyz461u12 => (intro w hSw; (try dsimp only at hSw); go_simp; first | done | with_reducible rfl)
            try simp only [Act.put, List.getElem_toArray, List.getElem_cons_zero, List.getElem_cons_succ, List.setIfInBounds_toArray, List.set_cons_zero, List.set_cons_succ]
            refine wpAnyH_take (i := 12) (oi := _) (v := ?vz461u13) rfl (by kernel_rfl) (by kernel_rfl) (by kernel_rfl) (fun _ _ _ h => h) (Or.inl ⟨by kernel_rfl, ?hyz461u13⟩) hHeld ?restz461u13
            case hyz461u13 => (intro w hSw; (try dsimp only at hSw); go_simp; first | done | with_reducible rfl)
            try simp only [Act.put, List.getElem_toArray, List.getElem_cons_zero, List.getElem_cons_succ, List.setIfInBounds_toArray, List.set_cons_zero, List.set_cons_succ]
            refine wpAnyH_take (i := 13) (oi := _) (v := ?vz461u14) rfl (by kernel_rfl) (by kernel_rfl) (by kernel_rfl) (fun _ _ _ h => h) (Or.inl ⟨by kernel_rfl, ?hyz461u14⟩) hHeld ?restz461u14
            case hyz461u14 => (intro w hSw; (try dsimp only at hSw); go_simp; first | done | with_reducible rfl)
            try simp only [Act.put, List.getElem_toArray, List.getElem_cons_zero, List.getElem_cons_succ, List.setIfInBounds_toArray, List.set_cons_zero, List.set_cons_succ]
            refine wpAnyH_take (i := 14) (oi := _) (v := ?vz461u15) rfl (by kernel_rfl) (by kernel_rfl) (by kernel_rfl) (fun _ _ _ h => h) (Or.inl ⟨by kernel_rfl, ?hyz461u15⟩) hHeld ?restz461u15
            case hyz461u15 => (intro w hSw; (try dsimp only at hSw); go_simp; first | done | with_reducible rfl)
            try simp only [Act.put, List.getElem_toArray, List.getElem_cons_zero, List.getElem_cons_succ, List.setIfInBounds_toArray, List.set_cons_zero, List.set_cons_succ]
            refine wpAnyH_take (i := 15) (oi := _) (v := ?vz461u16) rfl (by kernel_rfl) (by kernel_rfl) (by kernel_rfl) (fun _ _ _ h => h) (Or.inl ⟨by kernel_rfl, ?hyz461u16⟩) hHeld ?restz461u16
            case hyz461u16 => (intro w hSw; (try dsimp only at hSw); go_simp; first | done | with_reducible rfl)
            try simp only [Act.put, List.getElem_toArray, List.getElem_cons_zero, List.getElem_cons_succ, List.setIfInBounds_toArray, List.set_cons_zero, List.set_cons_succ]
            refine wpAnyH_take (i := 16) (oi := _) (v := ?vz461u17) rfl (by kernel_rfl) (by kernel_rfl) (by kernel_rfl) (fun _ _ _ h => h) (Or.inl ⟨by kernel_rfl, ?hyz461u17⟩) hHeld ?restz461u17
            case hyz461u17 => (intro w hSw; (try dsimp only at hSw); go_simp; first | done | with_reducible rfl)
            try simp only [Act.put, List.getElem_toArray, List.getElem_cons_zero, List.getElem_cons_succ, List.setIfInBounds_toArray, List.set_cons_zero, List.set_cons_succ]
            refine wpAnyH_take (i := 17) (oi := _) (v := ?vz461u18) rfl (by kernel_rfl) (by kernel_rfl) (by kernel_rfl) (fun _ _ _ h => h) (Or.inl ⟨by kernel_rfl, ?hyz461u18⟩) hHeld ?restz461u18
            case hyz461u18 => (intro w hSw; (try dsimp only at hSw); go_simp; first | done | with_reducible rfl)
            try simp only [Act.put, List.getElem_toArray, List.getElem_cons_zero, List.getElem_cons_succ, List.setIfInBounds_toArray, List.set_cons_zero, List.set_cons_succ]
            refine wpAnyH_take (i := 18) (oi := _) (v := ?vz461u19) rfl (by kernel_rfl) (by kernel_rfl) (by kernel_rfl) (fun _ _ _ h => h) (Or.inl ⟨by kernel_rfl, ?hyz461u19⟩) hHeld ?restz461u19
            case hyz461u19 => (intro w hSw; (try dsimp only at hSw); go_simp; first | done | with_reducible rfl)
            try simp only [Act.put, List.getElem_toArray, List.getElem_cons_zero, List.getElem_cons_succ, List.setIfInBounds_toArray, List.set_cons_zero, List.set_cons_succ]
            refine wpAnyH_take (i := 19) (oi := _) (v := ?vz461u20) rfl (by kernel_rfl) (by kernel_rfl) (by kernel_rfl) (fun _ _ _ h => h) (Or.inl ⟨by kernel_rfl, ?hyz461u20⟩) hHeld ?restz461u20
            case hyz461u20 => (intro w hSw; (try dsimp only at hSw); go_simp; first | done | with_reducible rfl)
            try simp only [Act.put, List.getElem_toArray, List.getElem_cons_zero, List.getElem_cons_succ, List.setIfInBounds_toArray, List.set_cons_zero, List.set_cons_succ]
            refine wpAnyH_take (i := 20) (oi := _) (v := ?vz461u21) rfl (by kernel_rfl) (by kernel_rfl) (by kernel_rfl) (fun _ _ _ h => h) (Or.inl ⟨by kernel_rfl, ?hyz461u21⟩) hHeld ?restz461u21
            case hyz461u21 => (intro w hSw; (try dsimp only at hSw); go_simp; first | done | with_reducible rfl)
            try simp only [Act.put, List.getElem_toArray, List.getElem_cons_zero, List.getElem_cons_succ, List.setIfInBounds_toArray, List.set_cons_zero, List.set_cons_succ]
            refine wpAnyH_take (i := 21) (oi := _) (v := ?vz461u22) rfl (by kernel_rfl) (by kernel_rfl) (by kernel_rfl) (fun _ _ _ h => h) (Or.inl ⟨by kernel_rfl, ?hyz461u22⟩) hHeld ?restz461u22
            case hyz461u22 => (intro w hSw; (try dsimp only at hSw); go_simp; first | done | with_reducible rfl)
            try simp only [Act.put, List.getElem_toArray, List.getElem_cons_zero, List.getElem_cons_succ, List.setIfInBounds_toArray, List.set_cons_zero, List.set_cons_succ]
            refine wpAnyH_take (i := 22) (oi := _) (v := ?vz461u23) rfl (by kernel_rfl) (by kernel_rfl) (by kernel_rfl) (fun _ _ _ h => h) (Or.inl ⟨by kernel_rfl, ?hyz461u23⟩) hHeld ?restz461u23
            case hyz461u23 => (intro w hSw; (try dsimp only at hSw); go_simp; first | done | with_reducible rfl)
            try simp only [Act.put, List.getElem_toArray, List.getElem_cons_zero, List.getElem_cons_succ, List.setIfInBounds_toArray, List.set_cons_zero, List.set_cons_succ]
            refine wpAnyH_take (i := 23) (oi := _) (v := ?vz461u24) rfl (by kernel_rfl) (by kernel_rfl) (by kernel_rfl) (fun _ _ _ h => h) (Or.inl ⟨by kernel_rfl, ?hyz461u24⟩) hHeld ?restz461u24
            case hyz461u24 => (intro w hSw; (try dsimp only at hSw); go_simp; first | done | with_reducible rfl)
            try simp only [Act.put, List.getElem_toArray, List.getElem_cons_zero, List.getElem_cons_succ, List.setIfInBounds_toArray, List.set_cons_zero, List.set_cons_succ]
            refine wpAnyH_take (i := 24) (oi := _) (v := ?vz461u25) rfl (by kernel_rfl) (by kernel_rfl) (by kernel_rfl) (fun _ _ _ h => h) (Or.inl ⟨by kernel_rfl, ?hyz461u25⟩) hHeld ?restz461u25
            case hyz461u25 => (intro w hSw; (try dsimp only at hSw); go_simp; first | done | with_reducible rfl)
            try simp only [Act.put, List.getElem_toArray, List.getElem_cons_zero, List.getElem_cons_succ, List.setIfInBounds_toArray, List.set_cons_zero, List.set_cons_succ]
            refine wpAnyH_take (i := 25) (oi := _) (v := ?vz461u26) rfl (by kernel_rfl) (by kernel_rfl) (by kernel_rfl) (fun _ _ _ h => h) (Or.inl ⟨by kernel_rfl, ?hyz461u26⟩) hHeld ?restz461u26
            case hyz461u26 => (intro w hSw; (try dsimp only at hSw); go_simp; first | done | with_reducible rfl)
            try simp only [Act.put, List.getElem_toArray, List.getElem_cons_zero, List.getElem_cons_succ, List.setIfInBounds_toArray, List.set_cons_zero, List.set_cons_succ]
            refine wpAnyH_take (i := 26) (oi := _) (v := ?vz461u27) rfl (by kernel_rfl) (by kernel_rfl) (by kernel_rfl) (fun _ _ _ h => h) (Or.inl ⟨by kernel_rfl, ?hyz461u27⟩) hHeld ?restz461u27
            case hyz461u27 => (intro w hSw; (try dsimp only at hSw); go_simp; first | done | with_reducible rfl)
            try simp only [Act.put, List.getElem_toArray, List.getElem_cons_zero, List.getElem_cons_succ, List.setIfInBounds_toArray, List.set_cons_zero, List.set_cons_succ]
            refine wpAnyH_take (i := 27) (oi := _) (v := ?vz461u28) rfl (by kernel_rfl) (by kernel_rfl) (by kernel_rfl) (fun _ _ _ h => h) (Or.inl ⟨by kernel_rfl, ?hyz461u28⟩) hHeld ?restz461u28
            case hyz461u28 => (intro w hSw; (try dsimp only at hSw); go_simp; first | done | with_reducible rfl)
            try simp only [Act.put, List.getElem_toArray, List.getElem_cons_zero, List.getElem_cons_succ, List.setIfInBounds_toArray, List.set_cons_zero, List.set_cons_succ]
            refine wpAnyH_take (i := 28) (oi := _) (v := ?vz461u29) rfl (by kernel_rfl) (by kernel_rfl) (by kernel_rfl) (fun _ _ _ h => h) (Or.inl ⟨by kernel_rfl, ?hyz461u29⟩) hHeld ?restz461u29
            case hyz461u29 => (intro w hSw; (try dsimp only at hSw); go_simp; first | done | with_reducible rfl)
            try simp only [Act.put, List.getElem_toArray, List.getElem_cons_zero, List.getElem_cons_succ, List.setIfInBounds_toArray, List.set_cons_zero, List.set_cons_succ]
            refine wpAnyH_take (i := 29) (oi := _) (v := ?vz461u30) rfl (by kernel_rfl) (by kernel_rfl) (by kernel_rfl) (fun _ _ _ h => h) (Or.inl ⟨by kernel_rfl, ?hyz461u30⟩) hHeld ?restz461u30
            case hyz461u30 => (intro w hSw; (try dsimp only at hSw); go_simp; first | done | with_reducible rfl)
            try simp only [Act.put, List.getElem_toArray, List.getElem_cons_zero, List.getElem_cons_succ, List.setIfInBounds_toArray, List.set_cons_zero, List.set_cons_succ]
            refine wpAnyH_take (i := 30) (oi := _) (v := ?vz461u31) rfl (by kernel_rfl) (by kernel_rfl) (by kernel_rfl) (fun _ _ _ h => h) (Or.inl ⟨by kernel_rfl, ?hyz461u31⟩) hHeld ?restz461u31
            case hyz461u31 => (intro w hSw; (try dsimp only at hSw); go_simp; first | done | with_reducible rfl)
            try simp only [Act.put, List.getElem_toArray, List.getElem_cons_zero, List.getElem_cons_succ, List.setIfInBounds_toArray, List.set_cons_zero, List.set_cons_succ]
            refine wpAnyH_take (i := 31) (oi := _) (v := ?vz461u32) rfl (by kernel_rfl) (by kernel_rfl) (by kernel_rfl) (fun _ _ _ h => h) (Or.inl ⟨by kernel_rfl, ?hyz461u32⟩) hHeld ?restz461u32
            case hyz461u32 => (intro w hSw; (try dsimp only at hSw); go_simp; first | done | with_reducible rfl)
            try simp only [Act.put, List.getElem_toArray, List.getElem_cons_zero, List.getElem_cons_succ, List.setIfInBounds_toArray, List.set_cons_zero, List.set_cons_succ]
            refine wpAnyH_take (i := 32) (oi := _) (v := ?vz461u33) rfl (by kernel_rfl) (by kernel_rfl) (by kernel_rfl) (fun _ _ _ h => h) (Or.inl ⟨by kernel_rfl, ?hyz461u33⟩) hHeld ?restz461u33
            case hyz461u33 => (intro w hSw; (try dsimp only at hSw); go_simp; first | done | with_reducible rfl)
            try simp only [Act.put, List.getElem_toArray, List.getElem_cons_zero, List.getElem_cons_succ, List.setIfInBounds_toArray, List.set_cons_zero, List.set_cons_succ]
            refine wpAnyH_take (i := 33) (oi := _) (v := ?vz461u34) rfl (by kernel_rfl) (by kernel_rfl) (by kernel_rfl) (fun _ _ _ h => h) (Or.inl ⟨by kernel_rfl, ?hyz461u34⟩) hHeld ?restz461u34
            case hyz461u34 => (intro w hSw; (try dsimp only at hSw); go_simp; first | done | with_reducible rfl)
            try simp only [Act.put, List.getElem_toArray, List.getElem_cons_zero, List.getElem_cons_succ, List.setIfInBounds_toArray, List.set_cons_zero, List.set_cons_succ]
            refine wpAnyH_take (i := 34) (oi := _) (v := ?vz461u35) rfl (by kernel_rfl) (by kernel_rfl) (by kernel_rfl) (fun _ _ _ h => h) (Or.inl ⟨by kernel_rfl, ?hyz461u35⟩) hHeld ?restz461u35
            case hyz461u35 => (intro w hSw; (try dsimp only at hSw); go_simp; first | done | with_reducible rfl)
            try simp only [Act.put, List.getElem_toArray, List.getElem_cons_zero, List.getElem_cons_succ, List.setIfInBounds_toArray, List.set_cons_zero, List.set_cons_succ]
            refine wpAnyH_take (i := 35) (oi := _) (v := ?vz461u36) rfl (by kernel_rfl) (by kernel_rfl) (by kernel_rfl) (fun _ _ _ h => h) (Or.inl ⟨by kernel_rfl, ?hyz461u36⟩) hHeld ?restz461u36
            case hyz461u36 => (intro w hSw; (try dsimp only at hSw); go_simp; first | done | with_reducible rfl)
            try simp only [Act.put, List.getElem_toArray, List.getElem_cons_zero, List.getElem_cons_succ, List.setIfInBounds_toArray, List.set_cons_zero, List.set_cons_succ]
            refine wpAnyH_take (i := 36) (oi := _) (v := ?vz461u37) rfl (by kernel_rfl) (by kernel_rfl) (by kernel_rfl) (fun _ _ _ h => h) (Or.inl ⟨by kernel_rfl, ?hyz461u37⟩) hHeld ?restz461u37
            case hyz461u37 => (intro w hSw; (try dsimp only at hSw); go_simp; first | done | with_reducible rfl)
            try simp only [Act.put, List.getElem_toArray, List.getElem_cons_zero, List.getElem_cons_succ, List.setIfInBounds_toArray, List.set_cons_zero, List.set_cons_succ]
            refine wpAnyH_take (i := 37) (oi := _) (v := ?vz461u38) rfl (by kernel_rfl) (by kernel_rfl) (by kernel_rfl) (fun _ _ _ h => h) (Or.inl ⟨by kernel_rfl, ?hyz461u38⟩) hHeld ?restz461u38
            case hyz461u38 => (intro w hSw; (try dsimp only at hSw); go_simp; first | done | with_reducible rfl)
            try simp only [Act.put, List.getElem_toArray, List.getElem_cons_zero, List.getElem_cons_succ, List.setIfInBounds_toArray, List.set_cons_zero, List.set_cons_succ]
            refine wpAnyH_take (i := 38) (oi := _) (v := ?vz461u39) rfl (by kernel_rfl) (by kernel_rfl) (by kernel_rfl) (fun _ _ _ h => h) (Or.inl ⟨by kernel_rfl, ?hyz461u39⟩) hHeld ?restz461u39
            case hyz461u39 => (intro w hSw; (try dsimp only at hSw); go_simp; first | done | with_reducible rfl)
            try simp only [Act.put, List.getElem_toArray, List.getElem_cons_zero, List.getElem_cons_succ, List.setIfInBounds_toArray, List.set_cons_zero, List.set_cons_succ]
            refine wpAnyH_take (i := 39) (oi := _) (v := ?vz461u40) rfl (by kernel_rfl) (by kernel_rfl) (by kernel_rfl) (fun _ _ _ h => h) (Or.inl ⟨by kernel_rfl, ?hyz461u40⟩) hHeld ?restz461u40
            case hyz461u40 => (intro w hSw; (try dsimp only at hSw); go_simp; first | done | with_reducible rfl)
            try simp only [Act.put, List.getElem_toArray, List.getElem_cons_zero, List.getElem_cons_succ, List.setIfInBounds_toArray, List.set_cons_zero, List.set_cons_succ]
            refine wpAnyH_take (i := 40) (oi := _) (v := ?vz461u41) rfl (by kernel_rfl) (by kernel_rfl) (by kernel_rfl) (fun _ _ _ h => h) (Or.inl ⟨by kernel_rfl, ?hyz461u41⟩) hHeld ?restz461u41
            case hyz461u41 => (intro w hSw; (try dsimp only at hSw); go_simp; first | done | with_reducible rfl)
            try simp only [Act.put, List.getElem_toArray, List.getElem_cons_zero, List.getElem_cons_succ, List.setIfInBounds_toArray, List.set_cons_zero, List.set_cons_succ]
            refine wpAnyH_take (i := 41) (oi := _) (v := ?vz461u42) rfl (by kernel_rfl) (by kernel_rfl) (by kernel_rfl) (fun _ _ _ h => h) (Or.inl ⟨by kernel_rfl, ?hyz461u42⟩) hHeld ?restz461u42
            case hyz461u42 => (intro w hSw; (try dsimp only at hSw); go_simp; first | done | with_reducible rfl)
            try simp only [Act.put, List.getElem_toArray, List.getElem_cons_zero, List.getElem_cons_succ, List.setIfInBounds_toArray, List.set_cons_zero, List.set_cons_succ]
            refine wpAnyH_take (i := 42) (oi := _) (v := ?vz461u43) rfl (by kernel_rfl) (by kernel_rfl) (by kernel_rfl) (fun _ _ _ h => h) (Or.inl ⟨by kernel_rfl, ?hyz461u43⟩) hHeld ?restz461u43
            case hyz461u43 => (intro w hSw; (try dsimp only at hSw); go_simp; first | done | with_reducible rfl)
            try simp only [Act.put, List.getElem_toArray, List.getElem_cons_zero, List.getElem_cons_succ, List.setIfInBounds_toArray, List.set_cons_zero, List.set_cons_succ]
            refine wpAnyH_take (i := 43) (oi := _) (v := ?vz461u44) rfl (by kernel_rfl) (by kernel_rfl) (by kernel_rfl) (fun _ _ _ h => h) (Or.inl ⟨by kernel_rfl, ?hyz461u44⟩) hHeld ?restz461u44
            case hyz461u44 => (intro w hSw; (try dsimp only at hSw); go_simp; first | done | with_reducible rfl)
            try simp only [Act.put, List.getElem_toArray, List.getElem_cons_zero, List.getElem_cons_succ, List.setIfInBounds_toArray, List.set_cons_zero, List.set_cons_succ]
            refine wpAnyH_take (i := 44) (oi := _) (v := ?vz461u45) rfl (by kernel_rfl) (by kernel_rfl) (by kernel_rfl) (fun _ _ _ h => h) (Or.inl ⟨by kernel_rfl, ?hyz461u45⟩) hHeld ?restz461u45
            case hyz461u45 => (intro w hSw; (try dsimp only at hSw); go_simp; first | done | with_reducible rfl)
            try simp only [Act.put, List.getElem_toArray, List.getElem_cons_zero, List.getElem_cons_succ, List.setIfInBounds_toArray, List.set_cons_zero, List.set_cons_succ]
            refine wpAnyH_take (i := 45) (oi := _) (v := ?vz461u46) rfl (by kernel_rfl) (by kernel_rfl) (by kernel_rfl) (fun _ _ _ h => h) (Or.inl ⟨by kernel_rfl, ?hyz461u46⟩) hHeld ?restz461u46
            case hyz461u46 => (intro w hSw; (try dsimp only at hSw); go_simp; first | done | with_reducible rfl)
            try simp only [Act.put, List.getElem_toArray, List.getElem_cons_zero, List.getElem_cons_succ, List.setIfInBounds_toArray, List.set_cons_zero, List.set_cons_succ]
            refine wpAnyH_take (i := 46) (oi := _) (v := ?vz461u47) rfl (by kernel_rfl) (by kernel_rfl) (by kernel_rfl) (fun _ _ _ h => h) (Or.inl ⟨by kernel_rfl, ?hyz461u47⟩) hHeld ?restz461u47
            case hyz461u47 => (intro w hSw; (try dsimp only at hSw); go_simp; first | done | with_reducible rfl)
            try simp only [Act.put, List.getElem_toArray, List.getElem_cons_zero, List.getElem_cons_succ, List.setIfInBounds_toArray, List.set_cons_zero, List.set_cons_succ]
            refine wpAnyH_take (i := 47) (oi := _) (v := ?vz461u48) rfl (by kernel_rfl) (by kernel_rfl) (by kernel_rfl) (fun _ _ _ h => h) (Or.inl ⟨by kernel_rfl, ?hyz461u48⟩) hHeld ?restz461u48
            case hyz461u48 => (intro w hSw; (try dsimp only at hSw); go_simp; first | done | with_reducible rfl)
            try simp only [Act.put, List.getElem_toArray, List.getElem_cons_zero, List.getElem_cons_succ, List.setIfInBounds_toArray, List.set_cons_zero, List.set_cons_succ]
            refine wpAnyH_take (i := 48) (oi := _) (v := ?vz461u49) rfl (by kernel_rfl) (by kernel_rfl) (by kernel_rfl) (fun _ _ _ h => h) (Or.inl ⟨by kernel_rfl, ?hyz461u49⟩) hHeld ?restz461u49
            case hyz461u49 => (intro w hSw; (try dsimp only at hSw); go_simp; first | done | with_reducible rfl)
            try simp only [Act.put, List.getElem_toArray, List.getElem_cons_zero, List.getElem_cons_succ, List.setIfInBounds_toArray, List.set_cons_zero, List.set_cons_succ]
            refine wpAnyH_take (i := 49) (oi := _) (v := ?vz461u50) rfl (by kernel_rfl) (by kernel_rfl) (by kernel_rfl) (fun _ _ _ h => h) (Or.inl ⟨by kernel_rfl, ?hyz461u50⟩) hHeld ?restz461u50
            case hyz461u50 => (intro w hSw; (try dsimp only at hSw); go_simp; first | done | with_reducible rfl)
            try simp only [Act.put, List.getElem_toArray, List.getElem_cons_zero, List.getElem_cons_succ, List.setIfInBounds_toArray, List.set_cons_zero, List.set_cons_succ]
            refine wpAnyH_take (i := 50) (oi := _) (v := ?vz461u51) rfl (by kernel_rfl) (by kernel_rfl) (by kernel_rfl) (fun _ _ _ h => h) (Or.inl ⟨by kernel_rfl, ?hyz461u51⟩) hHeld ?restz461u51
            case hyz461u51 => (intro w hSw; (try dsimp only at hSw); go_simp; first | done | with_reducible rfl)
            try simp only [Act.put, List.getElem_toArray, List.getElem_cons_zero, List.getElem_cons_succ, List.setIfInBounds_toArray, List.set_cons_zero, List.set_cons_succ]
            refine wpAnyH_take (i := 51) (oi := _) (v := ?vz461u52) rfl (by kernel_rfl) (by kernel_rfl) (by kernel_rfl) (fun _ _ _ h => h) (Or.inl ⟨by kernel_rfl, ?hyz461u52⟩) hHeld ?restz461u52
            case hyz461u52 => (intro w hSw; (try dsimp only at hSw); go_simp; first | done | with_reducible rfl)
            try simp only [Act.put, List.getElem_toArray, List.getElem_cons_zero, List.getElem_cons_succ, List.setIfInBounds_toArray, List.set_cons_zero, List.set_cons_succ]
            refine wpAnyH_take (i := 52) (oi := _) (v := ?vz461u53) rfl (by kernel_rfl) (by kernel_rfl) (by kernel_rfl) (fun _ _ _ h => h) (Or.inl ⟨by kernel_rfl, ?hyz461u53⟩) hHeld ?restz461u53
            case hyz461u53 => (intro w hSw; (try dsimp only at hSw); go_simp; first | done | with_reducible rfl)
            try simp only [Act.put, List.getElem_toArray, List.getElem_cons_zero, List.getElem_cons_succ, List.setIfInBounds_toArray, List.set_cons_zero, List.set_cons_succ]
            refine wpAnyH_ready (rs := [53]) (by kernel_rfl) (by simp) ?_
            refine AllReadyH.cons (o := _) rfl (fun K0 hK0 => ?_) AllReadyH.nil
            go_simp
            go_at_call 21
            refine (CS3.out _ _ _ _ _ (HL2e.out.kept (thenB (Below.refl _ _).drew bz461v3)) (HRKe.out.kept (thenB (Below.refl _ _).drew bz461v3))).mono ?_
            rintro e wz461v54 ⟨rfl, bz461v54⟩
            refine hK0.out _ _ (K.out _ (thenB (thenB (Below.refl _ _).drew bz461v3) bz461v54)) (fun hHeld => ?_)
            clear hK0 K0
            try simp only [Act.put, List.getElem_toArray, List.getElem_cons_zero, List.getElem_cons_succ, List.setIfInBounds_toArray, List.set_cons_zero, List.set_cons_succ]
            refine wpAnyH_take (i := 54) (oi := _) (v := ?vz461u55) rfl (by kernel_rfl) (by kernel_rfl) (by kernel_rfl) (fun _ _ _ h => h) (Or.inl ⟨by kernel_rfl, ?hyz461u55⟩) hHeld ?restz461u55
            case hyz461u55 => (intro w hSw; (try dsimp only at hSw); go_simp; first | done | with_reducible rfl)
            try simp only [Act.put, List.getElem_toArray, List.getElem_cons_zero, List.getElem_cons_succ, List.setIfInBounds_toArray, List.set_cons_zero, List.set_cons_succ]
            refine wpAnyH_take (i := 55) (oi := _) (v := ?vz461u56) rfl (by kernel_rfl) (by kernel_rfl) (by kernel_rfl) (fun _ _ _ h => h) (Or.inl ⟨by kernel_rfl, ?hyz461u56⟩) hHeld ?restz461u56
            case hyz461u56 => (intro w hSw; (try dsimp only at hSw); go_simp; first | done | with_reducible rfl)
            try simp only [Act.put, List.getElem_toArray, List.getElem_cons_zero, List.getElem_cons_succ, List.setIfInBounds_toArray, List.set_cons_zero, List.set_cons_succ]
            refine wpAnyH_take (i := 56) (oi := _) (v := ?vz461u57) rfl (by kernel_rfl) (by kernel_rfl) (by kernel_rfl) (fun _ _ _ h => h) (Or.inl ⟨by kernel_rfl, ?hyz461u57⟩) hHeld ?restz461u57
            case hyz461u57 => (intro w hSw; (try dsimp only at hSw); go_simp; first | done | with_reducible rfl)
            try simp only [Act.put, List.getElem_toArray, List.getElem_cons_zero, List.getElem_cons_succ, List.setIfInBounds_toArray, List.set_cons_zero, List.set_cons_succ]
            refine wpAnyH_take (i := 57) (oi := _) (v := ?vz461u58) rfl (by kernel_rfl) (by kernel_rfl) (by kernel_rfl) (fun _ _ _ h => h) (Or.inl ⟨by kernel_rfl, ?hyz461u58⟩) hHeld ?restz461u58
            case hyz461u58 => (intro w hSw; (try dsimp only at hSw); go_simp; first | done | with_reducible rfl)
            try simp only [Act.put, List.getElem_toArray, List.getElem_cons_zero, List.getElem_cons_succ, List.setIfInBounds_toArray, List.set_cons_zero, List.set_cons_succ]
            refine wpAnyH_take (i := 58) (oi := _) (v := ?vz461u59) rfl (by kernel_rfl) (by kernel_rfl) (by kernel_rfl) (fun _ _ _ h => h) (Or.inl ⟨by kernel_rfl, ?hyz461u59⟩) hHeld ?restz461u59
            case hyz461u59 => (intro w hSw; (try dsimp only at hSw); go_simp; first | done | with_reducible rfl)
            try simp only [Act.put, List.getElem_toArray, List.getElem_cons_zero, List.getElem_cons_succ, List.setIfInBounds_toArray, List.set_cons_zero, List.set_cons_succ]
            refine wpAnyH_take (i := 59) (oi := _) (v := ?vz461u60) rfl (by kernel_rfl) (by kernel_rfl) (by kernel_rfl) (fun _ _ _ h => h) (Or.inl ⟨by kernel_rfl, ?hyz461u60⟩) hHeld ?restz461u60
            case hyz461u60 => (intro w hSw; (try dsimp only at hSw); go_simp; first | done | with_reducible rfl)
            try simp only [Act.put, List.getElem_toArray, List.getElem_cons_zero, List.getElem_cons_succ, List.setIfInBounds_toArray, List.set_cons_zero, List.set_cons_succ]
            refine wpAnyH_take (i := 60) (oi := _) (v := ?vz461u61) rfl (by kernel_rfl) (by kernel_rfl) (by kernel_rfl) (fun _ _ _ h => h) (Or.inl ⟨by kernel_rfl, ?hyz461u61⟩) hHeld ?restz461u61
            case hyz461u61 => (intro w hSw; (try dsimp only at hSw); go_simp; first | done | with_reducible rfl)
            try simp only [Act.put, List.getElem_toArray, List.getElem_cons_zero, List.getElem_cons_succ, List.setIfInBounds_toArray, List.set_cons_zero, List.set_cons_succ]
            refine wpAnyH_take (i := 61) (oi := _) (v := ?vz461u62) rfl (by kernel_rfl) (by kernel_rfl) (by kernel_rfl) (fun _ _ _ h => h) (Or.inl ⟨by kernel_rfl, ?hyz461u62⟩) hHeld ?restz461u62
            case hyz461u62 => (intro w hSw; (try dsimp only at hSw); go_simp; first | done | with_reducible rfl)
            try simp only [Act.put, List.getElem_toArray, List.getElem_cons_zero, List.getElem_cons_succ, List.setIfInBounds_toArray, List.set_cons_zero, List.set_cons_succ]
            refine wpAnyH_ready (rs := [62]) (by kernel_rfl) (by simp) ?_
            refine AllReadyH.cons (o := _) rfl (fun K0 hK0 => ?_) AllReadyH.nil
            go_simp
            go_at_call 19
            refine (CD4.out _ _ _ _ _ (HL2e.out.kept (thenB (thenB (Below.refl _ _).drew bz461v3) bz461v54)) (HRKe.out.kept (thenB (thenB (Below.refl _ _).drew bz461v3) bz461v54))).mono ?_
            rintro e wz461v63 ⟨rfl, bz461v63⟩
            refine hK0.out _ _ (K.out _ (thenB (thenB (thenB (Below.refl _ _).drew bz461v3) bz461v54) bz461v63)) (fun hHeld => ?_)
            clear hK0 K0
            try simp only [Act.put, List.getElem_toArray, List.getElem_cons_zero, List.getElem_cons_succ, List.setIfInBounds_toArray, List.set_cons_zero, List.set_cons_succ]
            refine wpAnyH_take (i := 63) (oi := _) (v := ?vz461u64) rfl (by kernel_rfl) (by kernel_rfl) (by kernel_rfl) (fun _ _ _ h => h) (Or.inl ⟨by kernel_rfl, ?hyz461u64⟩) hHeld ?restz461u64
            case hyz461u64 => (intro w hSw; (try dsimp only at hSw); go_simp; first | done | with_reducible rfl)
            try simp only [Act.put, List.getElem_toArray, List.getElem_cons_zero, List.getElem_cons_succ, List.setIfInBounds_toArray, List.set_cons_zero, List.set_cons_succ]
            refine wpAnyH_take (i := 64) (oi := _) (v := ?vz461u65) rfl (by kernel_rfl) (by kernel_rfl) (by kernel_rfl) (fun _ _ _ h => h) (Or.inl ⟨by kernel_rfl, ?hyz461u65⟩) hHeld ?restz461u65
            case hyz461u65 => (intro w hSw; (try dsimp only at hSw); go_simp; first | done | with_reducible rfl)
            try simp only [Act.put, List.getElem_toArray, List.getElem_cons_zero, List.getElem_cons_succ, List.setIfInBounds_toArray, List.set_cons_zero, List.set_cons_succ]
            refine wpAnyH_take (i := 65) (oi := _) (v := ?vz461u66) rfl (by kernel_rfl) (by kernel_rfl) (by kernel_rfl) (fun _ _ _ h => h) (Or.inl ⟨by kernel_rfl, ?hyz461u66⟩) hHeld ?restz461u66
            case hyz461u66 => (intro w hSw; (try dsimp only at hSw); go_simp; first | done | with_reducible rfl)
            try simp only [Act.put, List.getElem_toArray, List.getElem_cons_zero, List.getElem_cons_succ, List.setIfInBounds_toArray, List.set_cons_zero, List.set_cons_succ]
            refine wpAnyH_take (i := 66) (oi := _) (v := ?vz461u67) rfl (by kernel_rfl) (by kernel_rfl) (by kernel_rfl) (fun _ _ _ h => h) (Or.inl ⟨by kernel_rfl, ?hyz461u67⟩) hHeld ?restz461u67
            case hyz461u67 => (intro w hSw; (try dsimp only at hSw); go_simp; first | done | with_reducible rfl)
            try simp only [Act.put, List.getElem_toArray, List.getElem_cons_zero, List.getElem_cons_succ, List.setIfInBounds_toArray, List.set_cons_zero, List.set_cons_succ]
            refine wpAnyH_take (i := 67) (oi := _) (v := ?vz461u68) rfl (by kernel_rfl) (by kernel_rfl) (by kernel_rfl) (fun _ _ _ h => h) (Or.inl ⟨by kernel_rfl, ?hyz461u68⟩) hHeld ?restz461u68
            case hyz461u68 => (intro w hSw; (try dsimp only at hSw); go_simp; first | done | with_reducible rfl)
            try simp only [Act.put, List.getElem_toArray, List.getElem_cons_zero, List.getElem_cons_succ, List.setIfInBounds_toArray, List.set_cons_zero, List.set_cons_succ]
            refine wpAnyH_take (i := 70) (oi := _) (v := ?vz461u69) rfl (by kernel_rfl) (by kernel_rfl) (by kernel_rfl) (fun _ _ _ h => h) (Or.inl ⟨by kernel_rfl, ?hyz461u69⟩) hHeld ?restz461u69
            case hyz461u69 => (intro w hSw; (try dsimp only at hSw); go_simp; first | done | with_reducible rfl)
            try simp only [Act.put, List.getElem_toArray, List.getElem_cons_zero, List.getElem_cons_succ, List.setIfInBounds_toArray, List.set_cons_zero, List.set_cons_succ]
            refine wpAnyH_take (i := 71) (oi := _) (v := ?vz461u70) rfl (by kernel_rfl) (by kernel_rfl) (by kernel_rfl) (fun _ _ _ h => h) (Or.inl ⟨by kernel_rfl, ?hyz461u70⟩) hHeld ?restz461u70
            case hyz461u70 => (intro w hSw; (try dsimp only at hSw); go_simp; first | done | with_reducible rfl)
            try simp only [Act.put, List.getElem_toArray, List.getElem_cons_zero, List.getElem_cons_succ, List.setIfInBounds_toArray, List.set_cons_zero, List.set_cons_succ]
            refine wpAnyH_take (i := 72) (oi := _) (v := ?vz461u71) rfl (by kernel_rfl) (by kernel_rfl) (by kernel_rfl) (fun _ _ _ h => h) (Or.inl ⟨by kernel_rfl, ?hyz461u71⟩) hHeld ?restz461u71
            case hyz461u71 => (intro w hSw; (try dsimp only at hSw); go_simp; first | done | with_reducible rfl)
            try simp only [Act.put, List.getElem_toArray, List.getElem_cons_zero, List.getElem_cons_succ, List.setIfInBounds_toArray, List.set_cons_zero, List.set_cons_succ]
            refine wpAnyH_ready (rs := [68]) (by kernel_rfl) (by simp) ?_
            refine AllReadyH.cons (o := _) rfl (fun K0 hK0 => ?_) AllReadyH.nil
            go_simp
            go_at_call 23
            refine (COP.out _ _ _ _ _ (HL2e.out.kept (thenB (thenB (thenB (Below.refl _ _).drew bz461v3) bz461v54) bz461v63)) (HRKe.out.kept (thenB (thenB (thenB (Below.refl _ _).drew bz461v3) bz461v54) bz461v63))).mono ?_
            rintro e wz461v72 ⟨c7, d7, k7, rfl, hk7, O7, bz461v72⟩
            refine hK0.out _ _ (K.out _ (thenB (thenB (thenB (thenB (Below.refl _ _).drew bz461v3) bz461v54) bz461v63) bz461v72)) (fun hHeld => ?_)
            clear hK0 K0
            try simp only [Act.put, List.getElem_toArray, List.getElem_cons_zero, List.getElem_cons_succ, List.setIfInBounds_toArray, List.set_cons_zero, List.set_cons_succ]
            refine wpAnyH_take (i := 69) (oi := _) (v := ?vz461u73) rfl (by kernel_rfl) (by kernel_rfl) (by kernel_rfl) (fun _ _ _ h => h) (Or.inl ⟨by kernel_rfl, ?hyz461u73⟩) hHeld ?restz461u73
            case hyz461u73 => (intro w hSw; (try dsimp only at hSw); go_simp; first | done | with_reducible rfl)
            try simp only [Act.put, List.getElem_toArray, List.getElem_cons_zero, List.getElem_cons_succ, List.setIfInBounds_toArray, List.set_cons_zero, List.set_cons_succ]
            refine wpAnyH_ready (rs := [73]) (by kernel_rfl) (by simp) ?_
            refine AllReadyH.cons (o := _) rfl (fun K0 hK0 => ?_) AllReadyH.nil
            go_simp
            go_at_call 22
            refine (CHS.out _ _ _ _ O7.rd hk7).mono ?_
            rintro e wz461v74 ⟨rfl, bz461v74⟩
            refine hK0.out _ _ (K.out _ (thenB (thenB (thenB (thenB (thenB (Below.refl _ _).drew bz461v3) bz461v54) bz461v63) bz461v72) bz461v74)) (fun hHeld => ?_)
            clear hK0 K0
            try simp only [Act.put, List.getElem_toArray, List.getElem_cons_zero, List.getElem_cons_succ, List.setIfInBounds_toArray, List.set_cons_zero, List.set_cons_succ]
            refine wpAnyH_take (i := 74) (oi := _) (v := ?vz461u75) rfl (by kernel_rfl) (by kernel_rfl) (by kernel_rfl) (fun _ _ _ h => h) (Or.inl ⟨by kernel_rfl, ?hyz461u75⟩) hHeld ?restz461u75
            case hyz461u75 => (intro w hSw; (try dsimp only at hSw); go_simp; first | done | with_reducible rfl)
            try simp only [Act.put, List.getElem_toArray, List.getElem_cons_zero, List.getElem_cons_succ, List.setIfInBounds_toArray, List.set_cons_zero, List.set_cons_succ]
            refine wpAnyH_take (i := 75) (oi := _) (v := ?vz461u76) rfl (by kernel_rfl) (by kernel_rfl) (by kernel_rfl) (fun _ _ _ h => h) (Or.inl ⟨by kernel_rfl, ?hyz461u76⟩) hHeld ?restz461u76
            case hyz461u76 => (intro w hSw; (try dsimp only at hSw); go_simp; first | done | with_reducible rfl)
            try simp only [Act.put, List.getElem_toArray, List.getElem_cons_zero, List.getElem_cons_succ, List.setIfInBounds_toArray, List.set_cons_zero, List.set_cons_succ]
            refine wpAnyH_take (i := 76) (oi := _) (v := ?vz461u77) rfl (by kernel_rfl) (by kernel_rfl) (by kernel_rfl) (fun _ _ _ h => h) (Or.inl ⟨by kernel_rfl, ?hyz461u77⟩) hHeld ?restz461u77
            case hyz461u77 => (intro w hSw; (try dsimp only at hSw); go_simp; first | done | with_reducible rfl)
            try simp only [Act.put, List.getElem_toArray, List.getElem_cons_zero, List.getElem_cons_succ, List.setIfInBounds_toArray, List.set_cons_zero, List.set_cons_succ]
            refine wpAnyH_done (by kernel_rfl) ?_ _
            clear K hHeld
            have bacc : Below wc.heap.size wc wz461v74 := (thenB (thenB (thenB (thenB (thenB (Below.refl _ _).drew bz461v3) bz461v54) bz461v63) bz461v72) bz461v74)
            replace VR := VR.kept bacc
            replace VH := VH.kept bacc
            replace VO := VO.kept bacc
            replace B := thenB B bacc
            have Sz461 := (bacc).size
            clear bacc
            clear bz461v3 bz461v54 bz461v63 bz461v72 bz461v74
            obtain ⟨s_VR, f_VR, z_VR⟩ := VR.open
            obtain ⟨s_VH, f_VH, z_VH⟩ := VH.open
            obtain ⟨s_VO, f_VO, z_VO⟩ := VO.open
            have Bo := B
            go_wp2
            go_ret
            exact ⟨rfl, HB0.out.trans (B.mono HB0.out.size)⟩

end Go.Proofs.Ythkmoabkeblbjaa
