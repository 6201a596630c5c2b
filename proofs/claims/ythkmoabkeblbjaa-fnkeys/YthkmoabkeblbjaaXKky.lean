/- The law FnKeys: its walk. -/
import Derived.Test.YthkmoabkeblbjaaNf
import Derived.Test.YthkmoabkeblbjaaKzJ
import Derived.Test.YthkmoabkeblbjaaNe
import Derived.Test.YthkmoabkeblbjaaNo
import Derived.Test.YthkmoabkeblbjaaNu
namespace Go.Proofs.Ythkmoabkeblbjaa
open Go.RowKit

theorem extractY0 (u v x y z t r : Value) (w : World) : (Instr.extract (.tuple #[u, v, x, y, z, t, r]) 0).run Try.prog w = .ok u w := by kernel_rfl
theorem extractY1 (u v x y z t r : Value) (w : World) : (Instr.extract (.tuple #[u, v, x, y, z, t, r]) 1).run Try.prog w = .ok v w := by kernel_rfl
theorem extractY2 (u v x y z t r : Value) (w : World) : (Instr.extract (.tuple #[u, v, x, y, z, t, r]) 2).run Try.prog w = .ok x w := by kernel_rfl
theorem extractY3 (u v x y z t r : Value) (w : World) : (Instr.extract (.tuple #[u, v, x, y, z, t, r]) 3).run Try.prog w = .ok y w := by kernel_rfl
theorem extractY4 (u v x y z t r : Value) (w : World) : (Instr.extract (.tuple #[u, v, x, y, z, t, r]) 4).run Try.prog w = .ok z w := by kernel_rfl
theorem extractY5 (u v x y z t r : Value) (w : World) : (Instr.extract (.tuple #[u, v, x, y, z, t, r]) 5).run Try.prog w = .ok t w := by kernel_rfl
theorem extractY6 (u v x y z t r : Value) (w : World) : (Instr.extract (.tuple #[u, v, x, y, z, t, r]) 6).run Try.prog w = .ok r w := by kernel_rfl

theorem eqKy0 (a b c e : Int) (w : World) : (Op.equalIn 10000 28 (.agg #[.int .i64 a, .int .i64 b, .int .i64 c, .int .i64 e]) (.agg #[.int .i64 a, .int .i64 b, .int .i64 c, .int .i64 e])).run Try.prog w = .ok true w := by
  have u3 := Try.underlying2
  have a3 := Try.isAgg2
  have z3 := Try.sizeOf2
  have hS : Try.prog.underlying 28 = some (.struct (Try.prog.fieldsOf 28)) := by kernel_rfl
  rw [run_equalIn_agg w 9999 28 _ _ hS (by kernel_rfl)]
  simp only [Program.fieldsOf, Try.underlying28]
  go_simp

theorem opL_len9 (xs : List T4) (kn : List Int) : (opL xs kn).length ≤ 400 := by
  rcases kn_ways xs kn with ⟨_, h, _⟩ | ⟨h1, h, _⟩
  · rw [h]; exact Nat.zero_le _
  · obtain ⟨hv, _, hpl, hri⟩ := knC_zero h1
    have h4 := (openL_open (tfC_ahead hv) hri hpl).way.len
    have h5 := (tfC_zero hv).1
    rw [h]; omega

/-- What is known: the nonces, rising. -/
def kyN (ni nr : Int) : List Int := if ni < nr then [ni, nr] else [ni]

theorem kyN_rising (ni nr : Int) : Rising (kyN ni nr) := by
  unfold kyN
  split
  · rename_i h
    simpa [Rising] using h
  · simp [Rising]

theorem kyN_len (ni nr : Int) : (kyN ni nr).length ≤ 2 := by
  unfold kyN
  split <;> simp

theorem put_pt {xs : List T4} (t : T4) (h : tfC xs = 0) : ptT xs t = put xs t := by
  rcases pt_ways xs t with ⟨h1, _⟩ | ⟨_, e⟩
  · exact absurd h h1
  · exact e

/-- All that the law asks of the numbers. -/
theorem keys_law {xs : List T4} {ni nr ow hf s1 s2 : Int} (h3 : (mkR xs ni nr ow hf s1 s2).c = 0) : (0 ≤ ni ∧ ni < xs.length) ∧ (0 ≤ nr ∧ nr < xs.length) ∧ (0 ≤ ow ∧ ow < xs.length) ∧ (0 ≤ hf ∧ hf < xs.length) ∧ tfC (mkR xs ni nr ow hf s1 s2).l = 0 ∧ (mkR xs ni nr ow hf s1 s2).k.s ≠ (mkR xs ni nr ow hf s1 s2).k.d ∧ (mkR xs ni nr ow hf s1 s2).k.o ≠ (mkR xs ni nr ow hf s1 s2).k.b ∧
    ((ptT (mkR xs ni nr ow hf s1 s2).l ⟨6, ow, 0, 0⟩).c = 0 → tfC (ptT (mkR xs ni nr ow hf s1 s2).l ⟨6, ow, 0, 0⟩).l = 0 ∧
      mkR (ptT (mkR xs ni nr ow hf s1 s2).l ⟨6, ow, 0, 0⟩).l ni nr (tmAt xs hf).a (ptT (mkR xs ni nr ow hf s1 s2).l ⟨6, ow, 0, 0⟩).k s1 s2 = ⟨0, (mkR xs ni nr ow hf s1 s2).k, (ptT (mkR xs ni nr ow hf s1 s2).l ⟨6, ow, 0, 0⟩).l⟩ ∧
      knC (ptT (mkR xs ni nr ow hf s1 s2).l ⟨6, ow, 0, 0⟩).l (kyN ni nr) = 0 ∧
      (scB (ptT (mkR xs ni nr ow hf s1 s2).l ⟨6, ow, 0, 0⟩).l (kyN ni nr) (mkR xs ni nr ow hf s1 s2).k.o = true ∨ dvB (ptT (mkR xs ni nr ow hf s1 s2).l ⟨6, ow, 0, 0⟩).l (kyN ni nr) (mkR xs ni nr ow hf s1 s2).k.s = true ∨ inL (opL (ptT (mkR xs ni nr ow hf s1 s2).l ⟨6, ow, 0, 0⟩).l (kyN ni nr)) (mkR xs ni nr ow hf s1 s2).k.o = true)) := by
  obtain ⟨q1, _, _, _, _, q6, q7, k1, k2, k3, k4⟩ := mkk_made h3
  have hp := aq_places q1
  obtain ⟨_, n1, n2⟩ := keys_apart h3
  refine ⟨hp _ (by simp), hp _ (by simp), hp _ (by simp), hp _ (by simp), q6, n1, n2, fun hc => ?_⟩
  rw [put_pt _ q6] at hc ⊢
  have hs := keys_same h3 hc
  obtain ⟨p1, p2, _, _, _⟩ := put_right q6 hc
  have p2' : Ext (mkR xs ni nr ow hf s1 s2).l (put (mkR xs ni nr ow hf s1 s2).l ⟨6, ow, 0, 0⟩).l := p2
  have hl := (q7.trans p2').len
  have hkn : knC (put (mkR xs ni nr ow hf s1 s2).l ⟨6, ow, 0, 0⟩).l (kyN ni nr) = 0 := knC_ok p1 (fun z hz => by
    have a1 := hp ni (by simp)
    have a2 := hp nr (by simp)
    unfold kyN at hz
    split at hz
    · simp only [List.mem_cons, List.not_mem_nil, or_false] at hz
      rcases hz with rfl | rfl <;> omega
    · simp only [List.mem_cons, List.not_mem_nil, or_false] at hz
      subst hz; omega) (kyN_rising ni nr)
  exact ⟨p1, hs, hkn, keys_closed p1 hkn (k3.more p2')⟩

set_option maxRecDepth 20000 in
set_option maxHeartbeats 16000000 in
theorem xKky_walk (a : Option Addr) (n ca : Nat) (zs : List Int) (w : World) (ha : Rd .u8 w a zs) (hb : Bytes zs) (hn : zs.length = n) :
    Calls Try.prog 3 #[.slice a n ca] w fun e w' => e = .returned (.bool true) ∧ Below w.heap.size w w' := by
  by_cases hbig : 1048576 < n
  · have h1 : (1048576 : Int) < (n : Int) := by omega
    go_enter Try.func3, Try.ntmps3
    go_wp2_with (first | (go_at_call 13; go_in) | fail)
    go_ret
    exact ⟨rfl, Below.refl _ _⟩
  have h1 : ¬ (1048576 : Int) < (n : Int) := by omega
  have CD := Hid.mk (drawMakeKeys_ok a n ca zs w ha hb hn (by omega))
  clear ha hb hn hbig
  go_enter Try.func3, Try.ntmps3
  go_wp2_with (first | (go_at_call 13; go_in) | fail)
  refine CD.out.mono ?_
  rintro e wA ⟨c, d, m, xs, ni, nr, ow, hf, s1, s2, rfl, ⟨hlen, hm, hcap, hnc, hok⟩, _, RX, B0⟩
  have e0 := extractY0
  have e1 := extractY1
  have e2 := extractY2
  have e3 := extractY3
  have e4 := extractY4
  have e5 := extractY5
  have e6 := extractY6
  have CI := Hid.mk (fun w h => implMakeKeys_ok c m d xs ni nr ow hf s1 s2 w h hlen (by omega) hok)
  have CS := Hid.mk (fun w h => specMakeKeys_ok c m d xs ni nr ow hf s1 s2 w h hlen (by omega) hcap hnc)
  have HB0 := Hid.mk B0
  have HR := Hid.mk RX
  have HLEN := Hid.mk hlen
  have HK := fun h => keys_law (xs := xs) (ni := ni) (nr := nr) (ow := ow) (hf := hf) (s1 := s1) (s2 := s2) h
  clear B0 CD RX hcap hnc hok
  have B := Below.refl wA.heap.size wA
  obtain ⟨P, hP⟩ : ∃ P, mkR xs ni nr ow hf s1 s2 = P := ⟨_, rfl⟩
  rw [hP] at CI CS HK
  clear hP
  obtain ⟨kc, ⟨ks, kd, ko, kb⟩, ls⟩ := P
  simp only at CI CS HK
  obtain ⟨kl, hkl⟩ : ∃ kl, ls.length = kl := ⟨_, rfl⟩
  rw [hkl] at CI CS
  by_cases h3 : kc = 0
  rotate_left
  · have qf : ∀ (c : Option Addr) (d : Nat) (w : World), (Instr.field 30 (.agg #[.int .i64 kc, .int .i64 ks, .int .i64 kd, .int .i64 ko, .int .i64 kb, .slice c kl d]) 0).run Try.prog w = .ok (.int .i64 kc) w := fun c d w => by kernel_rfl
    have h3' : (kc != 0) = true := by simp [h3]
    have h4' : (kc == kc) = true := by simp
    clear h3 hkl HK hlen
    go_wp2_with fail
    refine (CI.out _ (HR.out.kept B)).mono ?_
    rintro e w1 ⟨c1, d1, rfl, O1, b1⟩
    have S1 := b1.size
    replace B := thenB B b1
    clear b1
    have Bo := B
    replace O1 := O1.kept (belowA w1 (.cells #[.int .i64 kc, .int .i64 ks, .int .i64 kd, .int .i64 ko, .int .i64 kb, .slice c1 kl d1] 30))
    replace B := thenB B (belowA w1 (.cells #[.int .i64 kc, .int .i64 ks, .int .i64 kd, .int .i64 ko, .int .i64 kb, .slice c1 kl d1] 30))
    have VR := V.new w1 [.int .i64 kc, .int .i64 ks, .int .i64 kd, .int .i64 ko, .int .i64 kb, .slice c1 kl d1] 30
    obtain ⟨s_VR, f_VR, z_VR⟩ := VR.open
    have Bo := B
    go_upto_region 6 with fail
    clear s_VR f_VR z_VR
    have K : ∀ w' : World, Below (w1.alloc (.cells #[.int .i64 kc, .int .i64 ks, .int .i64 kd, .int .i64 ko, .int .i64 kb, .slice c1 kl d1] 30)).heap.size (w1.alloc (.cells #[.int .i64 kc, .int .i64 ks, .int .i64 kd, .int .i64 ko, .int .i64 kb, .slice c1 kl d1] 30)) w' → (w'.cell? ⟨w1.heap.size, 0, none⟩ = some (.int .i64 kc) ∧ w'.cell? ⟨w1.heap.size, 1, none⟩ = some (.int .i64 ks) ∧ w'.cell? ⟨w1.heap.size, 2, none⟩ = some (.int .i64 kd) ∧ w'.cell? ⟨w1.heap.size, 3, none⟩ = some (.int .i64 ko) ∧ w'.cell? ⟨w1.heap.size, 4, none⟩ = some (.int .i64 kb) ∧ w'.cell? ⟨w1.heap.size, 5, none⟩ = some (.slice c1 kl d1)) := fun w' h => ⟨(VR.kept h).2.1 0 (by simp), (VR.kept h).2.1 1 (by simp), (VR.kept h).2.1 2 (by simp), (VR.kept h).2.1 3 (by simp), (VR.kept h).2.1 4 (by simp), (VR.kept h).2.1 5 (by simp)⟩
    have K := Hid.mk K
    refine wp_region_held_drew (S := (fun w' => w'.cell? ⟨w1.heap.size, 0, none⟩ = some (.int .i64 kc) ∧ w'.cell? ⟨w1.heap.size, 1, none⟩ = some (.int .i64 ks) ∧ w'.cell? ⟨w1.heap.size, 2, none⟩ = some (.int .i64 kd) ∧ w'.cell? ⟨w1.heap.size, 3, none⟩ = some (.int .i64 ko) ∧ w'.cell? ⟨w1.heap.size, 4, none⟩ = some (.int .i64 kb) ∧ w'.cell? ⟨w1.heap.size, 5, none⟩ = some (.slice c1 kl d1))) (by kernel_rfl) (K.out _ (Below.refl _ _).drew) (fun hHeld => ?_)
    refine wpAnyH_take (i := 0) (oi := _) (v := ?vz1u1) rfl (by kernel_rfl) (by kernel_rfl) (by kernel_rfl) (fun _ _ _ h => h) (Or.inl ⟨by kernel_rfl, ?hyz1u1⟩) hHeld ?restz1u1
    case hyz1u1 => (intro w hSw; (try dsimp only at hSw); go_simp; first | done | with_reducible rfl)
    try simp only [Act.put, List.getElem_toArray, List.getElem_cons_zero, List.setIfInBounds_toArray, List.set_cons_zero, List.set_cons_succ]
    refine wpAnyH_take (i := 1) (oi := _) (v := ?vz1u2) rfl (by kernel_rfl) (by kernel_rfl) (by kernel_rfl) (fun _ _ _ h => h) (Or.inl ⟨by kernel_rfl, ?hyz1u2⟩) hHeld ?restz1u2
    case hyz1u2 => (intro w hSw; (try dsimp only at hSw); go_simp; first | done | with_reducible rfl)
    try simp only [Act.put, List.getElem_toArray, List.getElem_cons_zero, List.getElem_cons_succ, List.setIfInBounds_toArray, List.set_cons_zero, List.set_cons_succ]
    refine wpAnyH_take (i := 2) (oi := _) (v := ?vz1u3) rfl (by kernel_rfl) (by kernel_rfl) (by kernel_rfl) (fun _ _ _ h => h) (Or.inl ⟨by kernel_rfl, ?hyz1u3⟩) hHeld ?restz1u3
    case hyz1u3 => (intro w hSw; (try dsimp only at hSw); go_simp; first | done | with_reducible rfl)
    try simp only [Act.put, List.getElem_toArray, List.getElem_cons_zero, List.getElem_cons_succ, List.setIfInBounds_toArray, List.set_cons_zero, List.set_cons_succ]
    refine wpAnyH_take (i := 3) (oi := _) (v := ?vz1u4) rfl (by kernel_rfl) (by kernel_rfl) (by kernel_rfl) (fun _ _ _ h => h) (Or.inl ⟨by kernel_rfl, ?hyz1u4⟩) hHeld ?restz1u4
    case hyz1u4 => (intro w hSw; (try dsimp only at hSw); go_simp; first | done | with_reducible rfl)
    try simp only [Act.put, List.getElem_toArray, List.getElem_cons_zero, List.getElem_cons_succ, List.setIfInBounds_toArray, List.set_cons_zero, List.set_cons_succ]
    refine wpAnyH_take (i := 4) (oi := _) (v := ?vz1u5) rfl (by kernel_rfl) (by kernel_rfl) (by kernel_rfl) (fun _ _ _ h => h) (Or.inl ⟨by kernel_rfl, ?hyz1u5⟩) hHeld ?restz1u5
    case hyz1u5 => (intro w hSw; (try dsimp only at hSw); go_simp; first | done | with_reducible rfl)
    try simp only [Act.put, List.getElem_toArray, List.getElem_cons_zero, List.getElem_cons_succ, List.setIfInBounds_toArray, List.set_cons_zero, List.set_cons_succ]
    refine wpAnyH_take (i := 5) (oi := _) (v := ?vz1u6) rfl (by kernel_rfl) (by kernel_rfl) (by kernel_rfl) (fun _ _ _ h => h) (Or.inl ⟨by kernel_rfl, ?hyz1u6⟩) hHeld ?restz1u6
    case hyz1u6 => (intro w hSw; (try dsimp only at hSw); go_simp; first | done | with_reducible rfl)
    try simp only [Act.put, List.getElem_toArray, List.getElem_cons_zero, List.getElem_cons_succ, List.setIfInBounds_toArray, List.set_cons_zero, List.set_cons_succ]
    refine wpAnyH_take (i := 6) (oi := _) (v := ?vz1u7) rfl (by kernel_rfl) (by kernel_rfl) (by kernel_rfl) (fun _ _ _ h => h) (Or.inl ⟨by kernel_rfl, ?hyz1u7⟩) hHeld ?restz1u7
    case hyz1u7 => (intro w hSw; (try dsimp only at hSw); go_simp; first | done | with_reducible rfl)
    try simp only [Act.put, List.getElem_toArray, List.getElem_cons_zero, List.getElem_cons_succ, List.setIfInBounds_toArray, List.set_cons_zero, List.set_cons_succ]
    refine wpAnyH_take (i := 9) (oi := _) (v := ?vz1u8) rfl (by kernel_rfl) (by kernel_rfl) (by kernel_rfl) (fun _ _ _ h => h) (Or.inl ⟨by kernel_rfl, ?hyz1u8⟩) hHeld ?restz1u8
    case hyz1u8 => (intro w hSw; (try dsimp only at hSw); go_simp; first | done | with_reducible rfl)
    try simp only [Act.put, List.getElem_toArray, List.getElem_cons_zero, List.getElem_cons_succ, List.setIfInBounds_toArray, List.set_cons_zero, List.set_cons_succ]
    refine wpAnyH_take (i := 10) (oi := _) (v := ?vz1u9) rfl (by kernel_rfl) (by kernel_rfl) (by kernel_rfl) (fun _ _ _ h => h) (Or.inl ⟨by kernel_rfl, ?hyz1u9⟩) hHeld ?restz1u9
    case hyz1u9 => (intro w hSw; (try dsimp only at hSw); go_simp; first | done | with_reducible rfl)
    try simp only [Act.put, List.getElem_toArray, List.getElem_cons_zero, List.getElem_cons_succ, List.setIfInBounds_toArray, List.set_cons_zero, List.set_cons_succ]
    refine wpAnyH_ready (rs := [7]) (by kernel_rfl) (by simp) ?_
    refine AllReadyH.cons (o := _) rfl (fun K0 hK0 => ?_) AllReadyH.nil
    go_simp
    go_at_call 16
    refine (CS.out _ ((HR.out.kept B).kept (Below.refl _ _).drew)).mono ?_
    rintro e wz1v10 ⟨c2, d2, rfl, _, bz1v10⟩
    refine hK0.out _ _ (K.out _ (thenB (Below.refl _ _).drew bz1v10)) (fun hHeld => ?_)
    clear hK0 K0
    try simp only [Act.put, List.getElem_toArray, List.getElem_cons_zero, List.getElem_cons_succ, List.setIfInBounds_toArray, List.set_cons_zero, List.set_cons_succ]
    refine wpAnyH_take (i := 8) (oi := _) (v := ?vz1u11) rfl (by kernel_rfl) (by kernel_rfl) (by kernel_rfl) (fun _ _ _ h => h) (Or.inl ⟨by kernel_rfl, ?hyz1u11⟩) hHeld ?restz1u11
    case hyz1u11 => (intro w hSw; (try dsimp only at hSw); go_simp; first | done | with_reducible rfl)
    try simp only [Act.put, List.getElem_toArray, List.getElem_cons_zero, List.getElem_cons_succ, List.setIfInBounds_toArray, List.set_cons_zero, List.set_cons_succ]
    refine wpAnyH_take (i := 11) (oi := _) (v := ?vz1u12) rfl (by kernel_rfl) (by kernel_rfl) (by kernel_rfl) (fun _ _ _ h => h) (Or.inl ⟨by kernel_rfl, ?hyz1u12⟩) hHeld ?restz1u12
    case hyz1u12 => (intro w hSw; (try dsimp only at hSw); go_simp; first | done | with_reducible rfl)
    try simp only [Act.put, List.getElem_toArray, List.getElem_cons_zero, List.getElem_cons_succ, List.setIfInBounds_toArray, List.set_cons_zero, List.set_cons_succ]
    refine wpAnyH_take (i := 12) (oi := _) (v := ?vz1u13) rfl (by kernel_rfl) (by kernel_rfl) (by kernel_rfl) (fun _ _ _ h => h) (Or.inl ⟨by kernel_rfl, ?hyz1u13⟩) hHeld ?restz1u13
    case hyz1u13 => (intro w hSw; (try dsimp only at hSw); go_simp; first | done | with_reducible rfl)
    try simp only [Act.put, List.getElem_toArray, List.getElem_cons_zero, List.getElem_cons_succ, List.setIfInBounds_toArray, List.set_cons_zero, List.set_cons_succ]
    refine wpAnyH_done (by kernel_rfl) ?_ _
    clear K hHeld
    have bacc : Below (w1.alloc (.cells #[.int .i64 kc, .int .i64 ks, .int .i64 kd, .int .i64 ko, .int .i64 kb, .slice c1 kl d1] 30)).heap.size (w1.alloc (.cells #[.int .i64 kc, .int .i64 ks, .int .i64 kd, .int .i64 ko, .int .i64 kb, .slice c1 kl d1] 30)) wz1v10 := (thenB (Below.refl _ _).drew bz1v10)
    replace VR := VR.kept bacc
    replace O1 := O1.kept bacc
    replace B := thenB B bacc
    have Sz1 := (bacc).size
    clear bacc
    simp only [World.size_alloc] at Sz1
    clear bz1v10
    obtain ⟨s_VR, f_VR, z_VR⟩ := VR.open
    have Bo := B
    go_wp2
    go_ret
    exact ⟨rfl, HB0.out.trans (B.mono HB0.out.size)⟩
  · subst h3
    obtain ⟨pn, pr, po, ph, hz, hsd, hob, HK2⟩ := HK rfl
    clear HK CS
    have hl4 := (tfC_zero hz).1
    have hro := right_ok hz
    have q6 := build_t2
    have how : okT ⟨6, ow, 0, 0⟩ := ⟨(okI_of (x := 6) (by decide) (by decide)), okI_of (by simp only; omega) (by simp only; omega), (okI_of (x := 0) (by decide) (by decide)), (okI_of (x := 0) (by decide) (by decide))⟩
    have CP := Hid.mk (fun c d w h => implPutTerm_ok c kl d ls ⟨6, ow, 0, 0⟩ w h hkl (by omega) hro how)
    have SP := Hid.mk (fun c d w h hd hc => specPutTerm_ok c kl d ls ⟨6, ow, 0, 0⟩ w h hkl (by omega) hd hc)
    have CTF := Hid.mk (fun c d w h => implTermsFault_ok c kl d ls w h hkl (by unfold maxLen; omega) hro)
    rw [hz] at CTF
    clear how
    generalize ptT ls ⟨6, ow, 0, 0⟩ = Q at *
    obtain ⟨pc, pk, l2⟩ := Q
    simp only at CP SP HK2
    obtain ⟨k2, hk2⟩ : ∃ k2, l2.length = k2 := ⟨_, rfl⟩
    rw [hk2] at CP SP
    have HKL := Hid.mk hkl
    by_cases hpc : pc = 0
    rotate_left
    · have qf : ∀ (c : Option Addr) (d : Nat) (w : World), (Instr.field 33 (.agg #[.int .i64 pc, .int .i64 pk, .slice c k2 d]) 0).run Try.prog w = .ok (.int .i64 pc) w := fun c d w => by kernel_rfl
      have h3' : (pc != 0) = true := by simp [hpc]
      have h4' : (pc == pc) = true := by simp
      clear hpc hk2 HK2 hz hsd hob hro hlen hkl CTF
      go_wp2_with fail
      refine (CI.out _ (HR.out.kept B)).mono ?_
      rintro e w31 ⟨c1, d1, rfl, O1, b31⟩
      have S31 := b31.size
      replace B := thenB B b31
      clear b31
      have Bo := B
      replace O1 := O1.kept (belowA w31 (.cells #[.int .i64 0, .int .i64 ks, .int .i64 kd, .int .i64 ko, .int .i64 kb, .slice c1 kl d1] 30))
      replace B := thenB B (belowA w31 (.cells #[.int .i64 0, .int .i64 ks, .int .i64 kd, .int .i64 ko, .int .i64 kb, .slice c1 kl d1] 30))
      have VR := V.new w31 [.int .i64 0, .int .i64 ks, .int .i64 kd, .int .i64 ko, .int .i64 kb, .slice c1 kl d1] 30
      obtain ⟨s_VR, f_VR, z_VR⟩ := VR.open
      have Bo := B
      go_wp2_with fail
      refine (CP.out _ _ _ O1.rd).mono ?_
      rintro e w32 ⟨c2, d2, rfl, O2, b32⟩
      clear s_VR f_VR z_VR
      have S32 := b32.size
      simp only [World.size_alloc] at S32
      replace VR := VR.kept b32
      replace O1 := O1.kept b32
      replace B := thenB B b32
      clear b32
      obtain ⟨s_VR, f_VR, z_VR⟩ := VR.open
      have Bo := B
      replace VR := VR.kept (belowA w32 (.cells #[.int .i64 pc, .int .i64 pk, .slice c2 k2 d2] 33))
      replace O1 := O1.kept (belowA w32 (.cells #[.int .i64 pc, .int .i64 pk, .slice c2 k2 d2] 33))
      replace O2 := O2.kept (belowA w32 (.cells #[.int .i64 pc, .int .i64 pk, .slice c2 k2 d2] 33))
      replace B := thenB B (belowA w32 (.cells #[.int .i64 pc, .int .i64 pk, .slice c2 k2 d2] 33))
      have VH := V.new w32 [.int .i64 pc, .int .i64 pk, .slice c2 k2 d2] 33
      clear s_VR f_VR z_VR
      obtain ⟨s_VR, f_VR, z_VR⟩ := VR.open
      obtain ⟨s_VH, f_VH, z_VH⟩ := VH.open
      replace Bo := B
      have hcp := O1.cap
      rw [HKL.out] at hcp
      have hnc := ownTerm_nocap O1
      have HOR := Hid.mk O1.rd
      go_upto_region 9 with fail
      clear s_VR f_VR z_VR s_VH f_VH z_VH
      have K : ∀ w' : World, Below (w32.alloc (.cells #[.int .i64 pc, .int .i64 pk, .slice c2 k2 d2] 33)).heap.size (w32.alloc (.cells #[.int .i64 pc, .int .i64 pk, .slice c2 k2 d2] 33)) w' → (w'.cell? ⟨w31.heap.size, 0, none⟩ = some (.int .i64 0) ∧ w'.cell? ⟨w31.heap.size, 1, none⟩ = some (.int .i64 ks) ∧ w'.cell? ⟨w31.heap.size, 2, none⟩ = some (.int .i64 kd) ∧ w'.cell? ⟨w31.heap.size, 3, none⟩ = some (.int .i64 ko) ∧ w'.cell? ⟨w31.heap.size, 4, none⟩ = some (.int .i64 kb) ∧ w'.cell? ⟨w31.heap.size, 5, none⟩ = some (.slice c1 kl d1) ∧ w'.cell? ⟨w32.heap.size, 0, none⟩ = some (.int .i64 pc) ∧ w'.cell? ⟨w32.heap.size, 1, none⟩ = some (.int .i64 pk) ∧ w'.cell? ⟨w32.heap.size, 2, none⟩ = some (.slice c2 k2 d2)) := fun w' h => ⟨(VR.kept h).2.1 0 (by simp), (VR.kept h).2.1 1 (by simp), (VR.kept h).2.1 2 (by simp), (VR.kept h).2.1 3 (by simp), (VR.kept h).2.1 4 (by simp), (VR.kept h).2.1 5 (by simp), (VH.kept h).2.1 0 (by simp), (VH.kept h).2.1 1 (by simp), (VH.kept h).2.1 2 (by simp)⟩
      have K := Hid.mk K
      refine wp_region_held_drew (S := (fun w' => w'.cell? ⟨w31.heap.size, 0, none⟩ = some (.int .i64 0) ∧ w'.cell? ⟨w31.heap.size, 1, none⟩ = some (.int .i64 ks) ∧ w'.cell? ⟨w31.heap.size, 2, none⟩ = some (.int .i64 kd) ∧ w'.cell? ⟨w31.heap.size, 3, none⟩ = some (.int .i64 ko) ∧ w'.cell? ⟨w31.heap.size, 4, none⟩ = some (.int .i64 kb) ∧ w'.cell? ⟨w31.heap.size, 5, none⟩ = some (.slice c1 kl d1) ∧ w'.cell? ⟨w32.heap.size, 0, none⟩ = some (.int .i64 pc) ∧ w'.cell? ⟨w32.heap.size, 1, none⟩ = some (.int .i64 pk) ∧ w'.cell? ⟨w32.heap.size, 2, none⟩ = some (.slice c2 k2 d2))) (by kernel_rfl) (K.out _ (Below.refl _ _).drew) (fun hHeld => ?_)
      refine wpAnyH_take (i := 0) (oi := _) (v := ?vz31u1) rfl (by kernel_rfl) (by kernel_rfl) (by kernel_rfl) (fun _ _ _ h => h) (Or.inl ⟨by kernel_rfl, ?hyz31u1⟩) hHeld ?restz31u1
      case hyz31u1 => (intro w hSw; (try dsimp only at hSw); go_simp; first | done | with_reducible rfl)
      try simp only [Act.put, List.getElem_toArray, List.getElem_cons_zero, List.setIfInBounds_toArray, List.set_cons_zero, List.set_cons_succ]
      refine wpAnyH_take (i := 1) (oi := _) (v := ?vz31u2) rfl (by kernel_rfl) (by kernel_rfl) (by kernel_rfl) (fun _ _ _ h => h) (Or.inl ⟨by kernel_rfl, ?hyz31u2⟩) hHeld ?restz31u2
      case hyz31u2 => (intro w hSw; (try dsimp only at hSw); go_simp; first | done | with_reducible rfl)
      try simp only [Act.put, List.getElem_toArray, List.getElem_cons_zero, List.getElem_cons_succ, List.setIfInBounds_toArray, List.set_cons_zero, List.set_cons_succ]
      refine wpAnyH_take (i := 2) (oi := _) (v := ?vz31u3) rfl (by kernel_rfl) (by kernel_rfl) (by kernel_rfl) (fun _ _ _ h => h) (Or.inl ⟨by kernel_rfl, ?hyz31u3⟩) hHeld ?restz31u3
      case hyz31u3 => (intro w hSw; (try dsimp only at hSw); go_simp; first | done | with_reducible rfl)
      try simp only [Act.put, List.getElem_toArray, List.getElem_cons_zero, List.getElem_cons_succ, List.setIfInBounds_toArray, List.set_cons_zero, List.set_cons_succ]
      refine wpAnyH_take (i := 3) (oi := _) (v := ?vz31u4) rfl (by kernel_rfl) (by kernel_rfl) (by kernel_rfl) (fun _ _ _ h => h) (Or.inl ⟨by kernel_rfl, ?hyz31u4⟩) hHeld ?restz31u4
      case hyz31u4 => (intro w hSw; (try dsimp only at hSw); go_simp; first | done | with_reducible rfl)
      try simp only [Act.put, List.getElem_toArray, List.getElem_cons_zero, List.getElem_cons_succ, List.setIfInBounds_toArray, List.set_cons_zero, List.set_cons_succ]
      refine wpAnyH_take (i := 6) (oi := _) (v := ?vz31u5) rfl (by kernel_rfl) (by kernel_rfl) (by kernel_rfl) (fun _ _ _ h => h) (Or.inl ⟨by kernel_rfl, ?hyz31u5⟩) hHeld ?restz31u5
      case hyz31u5 => (intro w hSw; (try dsimp only at hSw); go_simp; first | done | with_reducible rfl)
      try simp only [Act.put, List.getElem_toArray, List.getElem_cons_zero, List.getElem_cons_succ, List.setIfInBounds_toArray, List.set_cons_zero, List.set_cons_succ]
      refine wpAnyH_take (i := 7) (oi := _) (v := ?vz31u6) rfl (by kernel_rfl) (by kernel_rfl) (by kernel_rfl) (fun _ _ _ h => h) (Or.inl ⟨by kernel_rfl, ?hyz31u6⟩) hHeld ?restz31u6
      case hyz31u6 => (intro w hSw; (try dsimp only at hSw); go_simp; first | done | with_reducible rfl)
      try simp only [Act.put, List.getElem_toArray, List.getElem_cons_zero, List.getElem_cons_succ, List.setIfInBounds_toArray, List.set_cons_zero, List.set_cons_succ]
      refine wpAnyH_ready (rs := [4]) (by kernel_rfl) (by simp) ?_
      refine AllReadyH.cons (o := _) rfl (fun K0 hK0 => ?_) AllReadyH.nil
      go_simp
      go_at_call 18
      refine (SP.out _ _ _ (HOR.out.kept (Below.refl _ _).drew) hcp hnc).mono ?_
      rintro e wz31v7 ⟨c5, d5, rfl, _, bz31v7⟩
      refine hK0.out _ _ (K.out _ (thenB (Below.refl _ _).drew bz31v7)) (fun hHeld => ?_)
      clear hK0 K0
      try simp only [Act.put, List.getElem_toArray, List.getElem_cons_zero, List.getElem_cons_succ, List.setIfInBounds_toArray, List.set_cons_zero, List.set_cons_succ]
      refine wpAnyH_take (i := 5) (oi := _) (v := ?vz31u8) rfl (by kernel_rfl) (by kernel_rfl) (by kernel_rfl) (fun _ _ _ h => h) (Or.inl ⟨by kernel_rfl, ?hyz31u8⟩) hHeld ?restz31u8
      case hyz31u8 => (intro w hSw; (try dsimp only at hSw); go_simp; first | done | with_reducible rfl)
      try simp only [Act.put, List.getElem_toArray, List.getElem_cons_zero, List.getElem_cons_succ, List.setIfInBounds_toArray, List.set_cons_zero, List.set_cons_succ]
      refine wpAnyH_take (i := 8) (oi := _) (v := ?vz31u9) rfl (by kernel_rfl) (by kernel_rfl) (by kernel_rfl) (fun _ _ _ h => h) (Or.inl ⟨by kernel_rfl, ?hyz31u9⟩) hHeld ?restz31u9
      case hyz31u9 => (intro w hSw; (try dsimp only at hSw); go_simp; first | done | with_reducible rfl)
      try simp only [Act.put, List.getElem_toArray, List.getElem_cons_zero, List.getElem_cons_succ, List.setIfInBounds_toArray, List.set_cons_zero, List.set_cons_succ]
      refine wpAnyH_take (i := 9) (oi := _) (v := ?vz31u10) rfl (by kernel_rfl) (by kernel_rfl) (by kernel_rfl) (fun _ _ _ h => h) (Or.inl ⟨by kernel_rfl, ?hyz31u10⟩) hHeld ?restz31u10
      case hyz31u10 => (intro w hSw; (try dsimp only at hSw); go_simp; first | done | with_reducible rfl)
      try simp only [Act.put, List.getElem_toArray, List.getElem_cons_zero, List.getElem_cons_succ, List.setIfInBounds_toArray, List.set_cons_zero, List.set_cons_succ]
      refine wpAnyH_done (by kernel_rfl) ?_ _
      clear K hHeld
      have bacc : Below (w32.alloc (.cells #[.int .i64 pc, .int .i64 pk, .slice c2 k2 d2] 33)).heap.size (w32.alloc (.cells #[.int .i64 pc, .int .i64 pk, .slice c2 k2 d2] 33)) wz31v7 := (thenB (Below.refl _ _).drew bz31v7)
      replace VR := VR.kept bacc
      replace VH := VH.kept bacc
      replace O1 := O1.kept bacc
      replace O2 := O2.kept bacc
      replace B := thenB B bacc
      have Sz31 := (bacc).size
      clear bacc
      simp only [World.size_alloc] at Sz31
      clear bz31v7
      obtain ⟨s_VR, f_VR, z_VR⟩ := VR.open
      obtain ⟨s_VH, f_VH, z_VH⟩ := VH.open
      have Bo := B
      go_wp2
      go_ret
      exact ⟨rfl, HB0.out.trans (B.mono HB0.out.size)⟩
    · subst hpc
      obtain ⟨hz2, hsame, hkn, hcl⟩ := HK2 rfl
      clear HK2 SP
      have hl42 := (tfC_zero hz2).1
      have hro2 := right_ok hz2
      obtain ⟨hn9, rfl⟩ : ∃ j : Nat, hf = (j : Int) := ⟨hf.toNat, by omega⟩
      obtain ⟨y, hyv⟩ : ∃ y, xs.getD hn9 zTerm = y := ⟨_, rfl⟩
      have tq : tmAt xs (hn9 : Int) = y := by unfold tmAt; rw [Int.toNat_natCast]; exact hyv
      rw [tq] at hsame
      have hhm : hn9 < m := by omega
      have hhm1 : (hn9 : Int) < (m : Int) := by omega
      have CO := Hid.mk (fun c d w h => implMakeKeys_ok c k2 d l2 ni nr y.a pk s1 s2 w h hk2 (by omega) hro2)
      rw [hsame] at CO
      simp only at CO
      rw [hk2] at CO
      obtain ⟨kn, hknd⟩ : ∃ q, kyN ni nr = q := ⟨_, rfl⟩
      have hk3l := kyN_len ni nr
      rw [hknd] at hkn hcl hk3l
      obtain ⟨k3, hk3⟩ : ∃ q, kn.length = q := ⟨_, rfl⟩
      have CDV := Hid.mk (fun c d g e3 q w h h2 => implDerives_ok c k2 d l2 (some ⟨g, 0, none⟩) k3 e3 kn q w h hk2 (by unfold maxLen; omega) hro2 h2 hk3 (by unfold maxLen; omega))
      have CSC := Hid.mk (fun c d g e3 q w h h2 => implIsSecret_ok c k2 d l2 (some ⟨g, 0, none⟩) k3 e3 kn q w h hk2 (by unfold maxLen; omega) hro2 h2 hk3 (by unfold maxLen; omega))
      have COP := Hid.mk (fun c d g e3 w h h2 => implOpenAll_ok c k2 d l2 (some ⟨g, 0, none⟩) k3 e3 kn w h hk2 (by unfold maxLen; omega) hro2 h2 hk3 (by unfold maxLen; omega))
      rw [hkn] at COP
      have hopl := opL_len9 l2 kn
      have CHS := Hid.mk (fun c k d w h (hk : (opL l2 kn).length = k) => lwHas_ok c k d (opL l2 kn) ko w h hk (by unfold maxLen; omega))
      have qf : ∀ (c : Option Addr) (k d : Nat) (w : World), (Instr.field 42 (.agg #[.int .i64 0, .slice c k d]) 1).run Try.prog w = .ok (.slice c k d) w := fun c k d w => by kernel_rfl
      have qK := eqKy0
      have hsd2 : (ks != kd) = true := by simp [hsd]
      have hob2 : (ko != kb) = true := by simp [hob]
      have hkk : ((k2 : Int) == (k2 : Int)) = true := by simp
      obtain ⟨b1, hb1⟩ : ∃ b, dvB l2 kn ow = b := ⟨_, rfl⟩
      obtain ⟨b2, hb2⟩ : ∃ b, dvB l2 kn y.a = b := ⟨_, rfl⟩
      obtain ⟨b3, hb3⟩ : ∃ b, scB l2 kn ko = b := ⟨_, rfl⟩
      obtain ⟨b4, hb4⟩ : ∃ b, dvB l2 kn ks = b := ⟨_, rfl⟩
      rw [hb3, hb4] at hcl
      have CD1 := Hid.mk (fun c d g e3 w h h2 => CDV.out c d g e3 ow w h h2)
      have CD2 := Hid.mk (fun c d g e3 w h h2 => CDV.out c d g e3 y.a w h h2)
      have CD4 := Hid.mk (fun c d g e3 w h h2 => CDV.out c d g e3 ks w h h2)
      have CS3 := Hid.mk (fun c d g e3 w h h2 => CSC.out c d g e3 ko w h h2)
      rw [hb1] at CD1
      rw [hb2] at CD2
      rw [hb4] at CD4
      rw [hb3] at CS3
      have HKN := Hid.mk hknd
      have HK3 := Hid.mk hk3
      have HYV := Hid.mk hyv
      obtain ⟨yo, ya, yb, yn⟩ := y
      simp only at CD2 CO
      clear hz2 hsame hkn hl42 hro2 tq hyv hknd hk3 hb1 hb2 hb3 hb4 CDV CSC hz hsd hob hro hlen hkl hk2 pn pr po ph hl4 hopl
      go_wp2_with fail
      refine (CI.out _ (HR.out.kept B)).mono ?_
      rintro e w61 ⟨c1, d1, rfl, O1, b61⟩
      have S61 := b61.size
      replace B := thenB B b61
      clear b61
      have Bo := B
      replace O1 := O1.kept (belowA w61 (.cells #[.int .i64 0, .int .i64 ks, .int .i64 kd, .int .i64 ko, .int .i64 kb, .slice c1 kl d1] 30))
      replace B := thenB B (belowA w61 (.cells #[.int .i64 0, .int .i64 ks, .int .i64 kd, .int .i64 ko, .int .i64 kb, .slice c1 kl d1] 30))
      have VR := V.new w61 [.int .i64 0, .int .i64 ks, .int .i64 kd, .int .i64 ko, .int .i64 kb, .slice c1 kl d1] 30
      obtain ⟨s_VR, f_VR, z_VR⟩ := VR.open
      have Bo := B
      go_wp2_with fail
      refine (CP.out _ _ _ O1.rd).mono ?_
      rintro e w62 ⟨c2, d2, rfl, O2, b62⟩
      clear s_VR f_VR z_VR
      have S62 := b62.size
      simp only [World.size_alloc] at S62
      replace VR := VR.kept b62
      replace O1 := O1.kept b62
      replace B := thenB B b62
      clear b62
      obtain ⟨s_VR, f_VR, z_VR⟩ := VR.open
      have Bo := B
      replace VR := VR.kept (belowA w62 (.cells #[.int .i64 0, .int .i64 pk, .slice c2 k2 d2] 33))
      replace O1 := O1.kept (belowA w62 (.cells #[.int .i64 0, .int .i64 pk, .slice c2 k2 d2] 33))
      replace O2 := O2.kept (belowA w62 (.cells #[.int .i64 0, .int .i64 pk, .slice c2 k2 d2] 33))
      replace B := thenB B (belowA w62 (.cells #[.int .i64 0, .int .i64 pk, .slice c2 k2 d2] 33))
      have VH := V.new w62 [.int .i64 0, .int .i64 pk, .slice c2 k2 d2] 33
      clear s_VR f_VR z_VR
      obtain ⟨s_VR, f_VR, z_VR⟩ := VR.open
      obtain ⟨s_VH, f_VH, z_VH⟩ := VH.open
      replace Bo := B
      have HRB := Hid.mk (HR.out.kept B)
      rcases HRB.out with h9 | ⟨b2', o2, rfl, hca⟩
      · have := HLEN.out; rw [h9] at this; simp at this; omega
      obtain ⟨_, py, _, _⟩ := RdTerm.cells hca hn9 (by rw [HLEN.out]; exact hhm) _ HYV.out
      simp only at py
      clear hca HRB
      have hbY := World.block_lt_of_cell? _ _ py
      have HL1 := Hid.mk O1.rd
      have HL2 := Hid.mk O2.rd
      clear O1 O2
      go_upto_region 10 with fail
      clear s_VR f_VR z_VR s_VH f_VH z_VH
      have K : ∀ w' : World, Below (w62.alloc (.cells #[.int .i64 0, .int .i64 pk, .slice c2 k2 d2] 33)).heap.size (w62.alloc (.cells #[.int .i64 0, .int .i64 pk, .slice c2 k2 d2] 33)) w' → (w'.cell? ⟨w62.heap.size, 0, none⟩ = some (.int .i64 0) ∧ w'.cell? ⟨w62.heap.size, 1, none⟩ = some (.int .i64 pk) ∧ w'.cell? ⟨w62.heap.size, 2, none⟩ = some (.slice c2 k2 d2) ∧ w'.cell? ⟨b2', o2 + hn9 * 4 + 1, none⟩ = some (.int .i64 ya)) := fun w' h => ⟨(VH.kept h).2.1 0 (by simp), (VH.kept h).2.1 1 (by simp), (VH.kept h).2.1 2 (by simp), ((bcell h).1 _ _ hbY).trans py⟩
      have K := Hid.mk K
      have HPY := Hid.mk py
      have HBY := Hid.mk hbY
      have HVR := Hid.mk VR
      have HVH := Hid.mk VH
      have HB := Hid.mk B
      clear py hbY Bo
      go_cut [12] (fun p wx => ∃ (P : Nat) (c6 : Option Addr) (d6 : Nat), p = .pointer (some ⟨P, 0, none⟩) ∧ V wx P [.int .i64 0, .int .i64 ks, .int .i64 kd, .int .i64 ko, .int .i64 kb, .slice c6 k2 d6] ∧ Below (w62.alloc (.cells #[.int .i64 0, .int .i64 pk, .slice c2 k2 d2] 33)).heap.size (w62.alloc (.cells #[.int .i64 0, .int .i64 pk, .slice c2 k2 d2] 33)) wx)
      case first =>
        clear VR VH B
        refine wp_region_held_drew (S := (fun w' => w'.cell? ⟨w62.heap.size, 0, none⟩ = some (.int .i64 0) ∧ w'.cell? ⟨w62.heap.size, 1, none⟩ = some (.int .i64 pk) ∧ w'.cell? ⟨w62.heap.size, 2, none⟩ = some (.slice c2 k2 d2) ∧ w'.cell? ⟨b2', o2 + hn9 * 4 + 1, none⟩ = some (.int .i64 ya))) (by kernel_rfl) (K.out _ (Below.refl _ _).drew) (fun hHeld => ?_)
        have bd : Below (w62.alloc (.cells #[.int .i64 0, .int .i64 pk, .slice c2 k2 d2] 33)).heap.size (w62.alloc (.cells #[.int .i64 0, .int .i64 pk, .slice c2 k2 d2] 33)) (w62.alloc (.cells #[.int .i64 0, .int .i64 pk, .slice c2 k2 d2] 33)).drew := (Below.refl _ _).drew
        generalize (w62.alloc (.cells #[.int .i64 0, .int .i64 pk, .slice c2 k2 d2] 33)).drew = wd at *
        refine wpAnyH_take (i := 0) (oi := _) (v := ?vky10_0) rfl (by kernel_rfl) (by kernel_rfl) (by kernel_rfl) (fun _ _ _ h => h) (Or.inl ⟨by rfl, ?hyky10_0⟩) hHeld ?restky10_0
        case hyky10_0 => (intro w hSw; (try dsimp only at hSw); go_simp; first | done | with_reducible rfl)
        try simp only [Act.put, List.getElem_toArray, List.getElem_cons_zero, List.setIfInBounds_toArray, List.set_cons_zero, List.set_cons_succ]
        refine wpAnyH_take (i := 1) (oi := _) (v := ?vky10_1) rfl (by kernel_rfl) (by kernel_rfl) (by kernel_rfl) (fun _ _ _ h => h) (Or.inl ⟨by rfl, ?hyky10_1⟩) hHeld ?restky10_1
        case hyky10_1 => (intro w hSw; (try dsimp only at hSw); go_simp; first | done | with_reducible rfl)
        try simp only [Act.put, List.getElem_toArray, List.getElem_cons_zero, List.getElem_cons_succ, List.setIfInBounds_toArray, List.set_cons_zero, List.set_cons_succ]
        refine wpAnyH_take (i := 2) (oi := _) (v := ?vky10_2) rfl (by kernel_rfl) (by kernel_rfl) (by kernel_rfl) (fun _ _ _ h => h) (Or.inl ⟨by rfl, ?hyky10_2⟩) hHeld ?restky10_2
        case hyky10_2 => (intro w hSw; (try dsimp only at hSw); go_simp; first | done | with_reducible rfl)
        try simp only [Act.put, List.getElem_toArray, List.getElem_cons_zero, List.getElem_cons_succ, List.setIfInBounds_toArray, List.set_cons_zero, List.set_cons_succ]
        refine wpAnyH_take (i := 3) (oi := _) (v := ?vky10_3) rfl (by kernel_rfl) (by kernel_rfl) (by kernel_rfl) (fun _ _ _ h => h) (Or.inl ⟨by rfl, ?hyky10_3⟩) hHeld ?restky10_3
        case hyky10_3 => (intro w hSw; (try dsimp only at hSw); go_simp; first | done | with_reducible rfl)
        try simp only [Act.put, List.getElem_toArray, List.getElem_cons_zero, List.getElem_cons_succ, List.setIfInBounds_toArray, List.set_cons_zero, List.set_cons_succ]
        refine wpAnyH_take (i := 4) (oi := _) (v := ?vky10_4) rfl (by kernel_rfl) (by kernel_rfl) (by kernel_rfl) (fun _ _ _ h => h) (Or.inl ⟨by rfl, ?hyky10_4⟩) hHeld ?restky10_4
        case hyky10_4 => (intro w hSw; (try dsimp only at hSw); go_simp; first | done | with_reducible rfl)
        try simp only [Act.put, List.getElem_toArray, List.getElem_cons_zero, List.getElem_cons_succ, List.setIfInBounds_toArray, List.set_cons_zero, List.set_cons_succ]
        refine wpAnyH_take (i := 5) (oi := _) (v := ?vky10_5) rfl (by kernel_rfl) (by kernel_rfl) (by kernel_rfl) (fun _ _ _ h => h) (Or.inl ⟨by rfl, ?hyky10_5⟩) hHeld ?restky10_5
        case hyky10_5 => (intro w hSw; (try dsimp only at hSw); go_simp; first | done | with_reducible rfl)
        try simp only [Act.put, List.getElem_toArray, List.getElem_cons_zero, List.getElem_cons_succ, List.setIfInBounds_toArray, List.set_cons_zero, List.set_cons_succ]
        refine wpAnyH_take (i := 6) (oi := _) (v := ?vky10_6) rfl (by kernel_rfl) (by kernel_rfl) (by kernel_rfl) (fun _ _ _ h => h) (Or.inl ⟨by rfl, ?hyky10_6⟩) hHeld ?restky10_6
        case hyky10_6 => (intro w hSw; (try dsimp only at hSw); go_simp; first | done | with_reducible rfl)
        try simp only [Act.put, List.getElem_toArray, List.getElem_cons_zero, List.getElem_cons_succ, List.setIfInBounds_toArray, List.set_cons_zero, List.set_cons_succ]
        refine wpAnyH_take (i := 7) (oi := _) (v := ?vky10_7) rfl (by kernel_rfl) (by kernel_rfl) (by kernel_rfl) (fun _ _ _ h => h) (Or.inl ⟨by rfl, ?hyky10_7⟩) hHeld ?restky10_7
        case hyky10_7 => (intro w hSw; (try dsimp only at hSw); go_simp; first | done | with_reducible rfl)
        try simp only [Act.put, List.getElem_toArray, List.getElem_cons_zero, List.getElem_cons_succ, List.setIfInBounds_toArray, List.set_cons_zero, List.set_cons_succ]
        refine wpAnyH_take (i := 8) (oi := _) (v := ?vky10_8) rfl (by kernel_rfl) (by kernel_rfl) (by kernel_rfl) (fun _ _ _ h => h) (Or.inl ⟨by rfl, ?hyky10_8⟩) hHeld ?restky10_8
        case hyky10_8 => (intro w hSw; (try dsimp only at hSw); go_simp; first | done | with_reducible rfl)
        try simp only [Act.put, List.getElem_toArray, List.getElem_cons_zero, List.getElem_cons_succ, List.setIfInBounds_toArray, List.set_cons_zero, List.set_cons_succ]
        refine wpAnyH_take (i := 9) (oi := _) (v := ?vky10_9) rfl (by kernel_rfl) (by kernel_rfl) (by kernel_rfl) (fun _ _ _ h => h) (Or.inl ⟨by rfl, ?hyky10_9⟩) hHeld ?restky10_9
        case hyky10_9 => (intro w hSw; (try dsimp only at hSw); go_simp; first | done | with_reducible rfl)
        try simp only [Act.put, List.getElem_toArray, List.getElem_cons_zero, List.getElem_cons_succ, List.setIfInBounds_toArray, List.set_cons_zero, List.set_cons_succ]
        refine wpAnyH_take (i := 10) (oi := _) (v := ?vky10_10) rfl (by kernel_rfl) (by kernel_rfl) (by kernel_rfl) (fun _ _ _ h => h) (Or.inl ⟨by rfl, ?hyky10_10⟩) hHeld ?restky10_10
        case hyky10_10 => (intro w hSw; (try dsimp only at hSw); go_simp; first | done | with_reducible rfl)
        try simp only [Act.put, List.getElem_toArray, List.getElem_cons_zero, List.getElem_cons_succ, List.setIfInBounds_toArray, List.set_cons_zero, List.set_cons_succ]
        refine wpAnyH_take (i := 11) (oi := _) (v := ?vky10_11) rfl (by kernel_rfl) (by kernel_rfl) (by kernel_rfl) (fun _ _ _ h => h) (Or.inl ⟨by rfl, ?hyky10_11⟩) hHeld ?restky10_11
        case hyky10_11 => (intro w hSw; (try dsimp only at hSw); go_simp; first | done | with_reducible rfl)
        try simp only [Act.put, List.getElem_toArray, List.getElem_cons_zero, List.getElem_cons_succ, List.setIfInBounds_toArray, List.set_cons_zero, List.set_cons_succ]
        refine wpAnyH_take (i := 12) (oi := _) (v := ?vky10_12) rfl (by kernel_rfl) (by kernel_rfl) (by kernel_rfl) (fun _ _ _ h => h) (Or.inl ⟨by rfl, ?hyky10_12⟩) hHeld ?restky10_12
        case hyky10_12 => (intro w hSw; (try dsimp only at hSw); go_simp; first | done | with_reducible rfl)
        try simp only [Act.put, List.getElem_toArray, List.getElem_cons_zero, List.getElem_cons_succ, List.setIfInBounds_toArray, List.set_cons_zero, List.set_cons_succ]
        refine wpAnyH_ready (rs := [13, 14]) (by kernel_rfl) (by simp) ?_
        refine AllReadyH.cons (o := _) rfl (fun K0 hK0 => ?_) (AllReadyH.cons (o := _) rfl (fun K0 hK0 => ?_) AllReadyH.nil)
        · skip
          go_simp
          go_at_call 15
          refine (CO.out _ _ _ (HL2.out.kept bd)).mono ?_
          rintro e wn ⟨c6, d6, rfl, _, bn⟩
          refine hK0.out _ _ (K.out _ (thenB bd bn)) (fun hHeld => ?_)
          clear hK0 K0
          try simp only [Act.put, List.getElem_toArray, List.getElem_cons_zero, List.getElem_cons_succ, List.setIfInBounds_toArray, List.set_cons_zero, List.set_cons_succ]
          refine wpAnyH_ready (rs := [14]) (by kernel_rfl) (by simp) ?_
          refine AllReadyH.cons (o := _) rfl (fun K0 hK0 => ?_) AllReadyH.nil
          go_simp
          refine hK0.out _ _ (K.out _ (thenB (thenB bd bn) (belowA wn (.cells #[.int .i64 0, .int .i64 0, .int .i64 0, .int .i64 0, .int .i64 0, .slice none 0 0] 30)))) (fun hHeld => ?_)
          clear hK0 K0
          try simp only [Act.put, List.getElem_toArray, List.getElem_cons_zero, List.getElem_cons_succ, List.setIfInBounds_toArray, List.set_cons_zero, List.set_cons_succ]
          have VN : V (wn.alloc (.cells #[.int .i64 0, .int .i64 0, .int .i64 0, .int .i64 0, .int .i64 0, .slice none 0 0] 30)) wn.heap.size [.int .i64 0, .int .i64 0, .int .i64 0, .int .i64 0, .int .i64 0, .slice none 0 0] := V.new _ _ _
          have bq := belowA wn (.cells #[.int .i64 0, .int .i64 0, .int .i64 0, .int .i64 0, .int .i64 0, .slice none 0 0] 30)
          generalize wn.alloc (.cells #[.int .i64 0, .int .i64 0, .int .i64 0, .int .i64 0, .int .i64 0, .slice none 0 0] 30) = wq at *
          refine wpAnyH_ready (rs := [15]) (by kernel_rfl) (by simp) ?_
          refine AllReadyH.cons (o := _) rfl (fun K0 hK0 => ?_) AllReadyH.nil
          rw [if_pos (by rfl)]
          have hT := VN.there
          have VF := VN.filled [.int .i64 0, .int .i64 ks, .int .i64 kd, .int .i64 ko, .int .i64 kb, .slice c6 k2 d6] rfl
          have hle := ((thenB bd bn)).size
          have bF := belowCells ((thenB (thenB bd bn) bq)) hle 0 [.int .i64 0, .int .i64 ks, .int .i64 kd, .int .i64 ko, .int .i64 kb, .slice c6 k2 d6]
          refine wp_store_mid _ _ _ rfl (wn.heap.size) 0 #[.int .i64 0, .int .i64 ks, .int .i64 kd, .int .i64 ko, .int .i64 kb, .slice c6 k2 d6] rfl rfl hT (by kernel_rfl) (by kernel_rfl) ?_
          refine hK0.out _ _ (K.out _ bF) (fun hHeld => ?_)
          clear hK0 K0
          refine wpAnyH_done (by kernel_rfl) ?_ _
          go_wp2_with fail
          go_meet
          exact ⟨wn.heap.size, c6, d6, rfl, VF, bF⟩
        · skip
          go_simp
          refine hK0.out _ _ (K.out _ (thenB bd (belowA wd (.cells #[.int .i64 0, .int .i64 0, .int .i64 0, .int .i64 0, .int .i64 0, .slice none 0 0] 30)))) (fun hHeld => ?_)
          clear hK0 K0
          try simp only [Act.put, List.getElem_toArray, List.getElem_cons_zero, List.getElem_cons_succ, List.setIfInBounds_toArray, List.set_cons_zero, List.set_cons_succ]
          have VN : V (wd.alloc (.cells #[.int .i64 0, .int .i64 0, .int .i64 0, .int .i64 0, .int .i64 0, .slice none 0 0] 30)) wd.heap.size [.int .i64 0, .int .i64 0, .int .i64 0, .int .i64 0, .int .i64 0, .slice none 0 0] := V.new _ _ _
          have bq := belowA wd (.cells #[.int .i64 0, .int .i64 0, .int .i64 0, .int .i64 0, .int .i64 0, .slice none 0 0] 30)
          generalize wd.alloc (.cells #[.int .i64 0, .int .i64 0, .int .i64 0, .int .i64 0, .int .i64 0, .slice none 0 0] 30) = wq at *
          refine wpAnyH_ready (rs := [13]) (by kernel_rfl) (by simp) ?_
          refine AllReadyH.cons (o := _) rfl (fun K0 hK0 => ?_) AllReadyH.nil
          go_simp
          go_at_call 15
          refine (CO.out _ _ _ (HL2.out.kept (thenB bd bq))).mono ?_
          rintro e wn ⟨c6, d6, rfl, _, bn⟩
          replace VN := VN.kept bn
          refine hK0.out _ _ (K.out _ (thenB (thenB bd bq) bn)) (fun hHeld => ?_)
          clear hK0 K0
          try simp only [Act.put, List.getElem_toArray, List.getElem_cons_zero, List.getElem_cons_succ, List.setIfInBounds_toArray, List.set_cons_zero, List.set_cons_succ]
          refine wpAnyH_ready (rs := [15]) (by kernel_rfl) (by simp) ?_
          refine AllReadyH.cons (o := _) rfl (fun K0 hK0 => ?_) AllReadyH.nil
          rw [if_pos (by rfl)]
          have hT := VN.there
          have VF := VN.filled [.int .i64 0, .int .i64 ks, .int .i64 kd, .int .i64 ko, .int .i64 kb, .slice c6 k2 d6] rfl
          have hle := (bd).size
          have bF := belowCells ((thenB (thenB bd bq) bn)) hle 0 [.int .i64 0, .int .i64 ks, .int .i64 kd, .int .i64 ko, .int .i64 kb, .slice c6 k2 d6]
          refine wp_store_mid _ _ _ rfl (wd.heap.size) 0 #[.int .i64 0, .int .i64 ks, .int .i64 kd, .int .i64 ko, .int .i64 kb, .slice c6 k2 d6] rfl rfl hT (by kernel_rfl) (by kernel_rfl) ?_
          refine hK0.out _ _ (K.out _ bF) (fun hHeld => ?_)
          clear hK0 K0
          refine wpAnyH_done (by kernel_rfl) ?_ _
          go_wp2_with fail
          go_meet
          exact ⟨wd.heap.size, c6, d6, rfl, VF, bF⟩
      clear VR VH B K
      obtain ⟨P, c6, d6, rfl, VO, BQ⟩ := hcut
      have VR := HVR.out.kept BQ
      have VH := HVH.out.kept BQ
      have B := thenB HB.out BQ
      have HL1c := Hid.mk (HL1.out.kept BQ)
      have HL2c := Hid.mk (HL2.out.kept BQ)
      have HPYc := Hid.mk (((bcell BQ).1 _ _ HBY.out).trans HPY.out)
      have HBYc := Hid.mk (Nat.lt_of_lt_of_le HBY.out BQ.size)
      clear HVR HVH HB HL1 HL2 HPY HBY BQ CO
      have HVR := Hid.mk VR
      have HVH := Hid.mk VH
      have HVO := Hid.mk VO
      have HB := Hid.mk B
      clear VR VH VO B
      have bL := belowA wc (.cells #[.int .i64 ni] 2)
      have OL := OwnI.lit wc [ni] [.int .i64 ni] rfl (by unfold maxLen; simp)
      go_upto_if 85 with fail
      go_cut [13] (fun s wx => ∃ (gk e3 : Nat), s = .slice (some ⟨gk, 0, none⟩) k3 e3 ∧ Rd .i64 wx (some ⟨gk, 0, none⟩) kn ∧ Below wc.heap.size wc wx)
      case first =>
        by_cases hlt : ni < nr
        · have ek : kn = [ni, nr] := by rw [← HKN.out]; unfold kyN; rw [if_pos hlt]
          subst ek
          obtain rfl : k3 = 2 := HK3.out.symm
          have hgt : (nr > ni) := hlt
          have bL2 := belowA (wc.alloc (.cells #[.int .i64 ni] 2)) (.cells #[.int .i64 nr] 2)
          have OL2 := Hid.mk (OL.kept bL2)
          have BL := Hid.mk (thenB bL bL2)
          have TL : wc.heap.size ≤ ((wc.alloc (.cells #[.int .i64 ni] 2)).alloc (.cells #[.int .i64 nr] 2)).heap.size := by simp; omega
          have VL : V ((wc.alloc (.cells #[.int .i64 ni] 2)).alloc (.cells #[.int .i64 nr] 2)) (wc.heap.size + 1) [.int .i64 nr] := V.newAt _ _ _ _ (by simp)
          have RL : World.cell? ((wc.alloc (.cells #[.int .i64 ni] 2)).alloc (.cells #[.int .i64 nr] 2)) ⟨wc.heap.size + 1, 0, none⟩ = some (.int .i64 nr) := VL.2.1 0 (by simp)
          clear OL bL bL2 VL
          go_wp2_with (at_builtin; go_loud (refine wpList_putI _ rfl _ _ rfl wc.heap.size _ 1 [ni] 1 rfl rfl OL2.out ⟨wc.heap.size + 1, 0, none⟩ 1 nr rfl RL (by omega) TL ?_))
          intro c8 d8 w8 O8 hg8 hx8
          obtain ⟨g8, rfl, _, _⟩ := hx8.out
          have hgw := (OL2.out.lt _ rfl).1
          simp only at hgw
          have B8 := Hid.mk ((Sm.grown (X := fun j => j = wc.heap.size) hg8 (fun j e => by simp at e; omega)).below' BL.out TL (fun j e => by omega))
          have R8 := Hid.mk O8.rd
          clear O8 hg8 hx8 OL2 BL TL RL
          go_wp2_with fail
          go_meet
          exact ⟨g8, d8, rfl, R8.out, B8.out⟩
        · have ek : kn = [ni] := by rw [← HKN.out]; unfold kyN; rw [if_neg hlt]
          subst ek
          obtain rfl : k3 = 1 := HK3.out.symm
          have hgt : ¬ (nr > ni) := hlt
          have R8 := Hid.mk OL.rd
          have B8 := Hid.mk bL
          clear OL bL
          go_wp2_with fail
          go_meet
          exact ⟨_, _, rfl, R8.out, B8.out⟩
      clear OL bL
      obtain ⟨gk, e3', rfl, RK, BK⟩ := hcut
      have VR := HVR.out.kept BK
      have VH := HVH.out.kept BK
      have VO := HVO.out.kept BK
      have B := thenB HB.out BK
      have HL1d := Hid.mk (HL1c.out.kept BK)
      have HL2d := Hid.mk (HL2c.out.kept BK)
      have py := ((bcell BK).1 _ _ HBYc.out).trans HPYc.out
      have hbY := Nat.lt_of_lt_of_le HBYc.out BK.size
      have HRK := Hid.mk RK
      clear HVR HVH HVO HB HL1c HL2c HPYc HBYc BK RK
      obtain ⟨s_VR, f_VR, z_VR⟩ := VR.open
      obtain ⟨s_VH, f_VH, z_VH⟩ := VH.open
      obtain ⟨s_VO, f_VO, z_VO⟩ := VO.open
      go_upto_region 14 with fail
      clear s_VR f_VR z_VR s_VH f_VH z_VH s_VO f_VO z_VO
      have HVR := Hid.mk VR
      have HVH := Hid.mk VH
      have HVO := Hid.mk VO
      have HB := Hid.mk B
      clear VR VH VO B
      go_cut [14] (fun s wx => s = .bool (!b1 && !b2) ∧ Below wc.heap.size wc wx)
      case first =>
        have VH := HVH.out
        have B := Below.refl wc.heap.size wc
        cases b1
        · skip
          as_aux_lemma =>
            have K : ∀ w' : World, Below wc.heap.size wc w' → (w'.cell? ⟨w62.heap.size, 0, none⟩ = some (.int .i64 0) ∧ w'.cell? ⟨w62.heap.size, 1, none⟩ = some (.int .i64 pk) ∧ w'.cell? ⟨w62.heap.size, 2, none⟩ = some (.slice c2 k2 d2) ∧ w'.cell? ⟨b2', o2 + hn9 * 4 + 1, none⟩ = some (.int .i64 ya)) := fun w' h => ⟨(VH.kept h).2.1 0 (by simp), (VH.kept h).2.1 1 (by simp), (VH.kept h).2.1 2 (by simp), ((bcell h).1 _ _ hbY).trans py⟩
            have K := Hid.mk K
            clear py
            refine wp_region_held_drew (S := (fun w' => w'.cell? ⟨w62.heap.size, 0, none⟩ = some (.int .i64 0) ∧ w'.cell? ⟨w62.heap.size, 1, none⟩ = some (.int .i64 pk) ∧ w'.cell? ⟨w62.heap.size, 2, none⟩ = some (.slice c2 k2 d2) ∧ w'.cell? ⟨b2', o2 + hn9 * 4 + 1, none⟩ = some (.int .i64 ya))) (by kernel_rfl) (K.out _ (Below.refl _ _).drew) (fun hHeld => ?_)
            refine wpAnyH_take (i := 0) (oi := _) (v := ?vz301u1) rfl (by kernel_rfl) (by kernel_rfl) (by kernel_rfl) (fun _ _ _ h => h) (Or.inl ⟨by kernel_rfl, ?hyz301u1⟩) hHeld ?restz301u1
            case hyz301u1 => (intro w hSw; (try dsimp only at hSw); go_simp; first | done | with_reducible rfl)
            try simp only [Act.put, List.getElem_toArray, List.getElem_cons_zero, List.setIfInBounds_toArray, List.set_cons_zero, List.set_cons_succ]
            refine wpAnyH_take (i := 1) (oi := _) (v := ?vz301u2) rfl (by kernel_rfl) (by kernel_rfl) (by kernel_rfl) (fun _ _ _ h => h) (Or.inl ⟨by kernel_rfl, ?hyz301u2⟩) hHeld ?restz301u2
            case hyz301u2 => (intro w hSw; (try dsimp only at hSw); go_simp; first | done | with_reducible rfl)
            try simp only [Act.put, List.getElem_toArray, List.getElem_cons_zero, List.getElem_cons_succ, List.setIfInBounds_toArray, List.set_cons_zero, List.set_cons_succ]
            refine wpAnyH_take (i := 2) (oi := _) (v := ?vz301u3) rfl (by kernel_rfl) (by kernel_rfl) (by kernel_rfl) (fun _ _ _ h => h) (Or.inl ⟨by kernel_rfl, ?hyz301u3⟩) hHeld ?restz301u3
            case hyz301u3 => (intro w hSw; (try dsimp only at hSw); go_simp; first | done | with_reducible rfl)
            try simp only [Act.put, List.getElem_toArray, List.getElem_cons_zero, List.getElem_cons_succ, List.setIfInBounds_toArray, List.set_cons_zero, List.set_cons_succ]
            refine wpAnyH_take (i := 3) (oi := _) (v := ?vz301u4) rfl (by kernel_rfl) (by kernel_rfl) (by kernel_rfl) (fun _ _ _ h => h) (Or.inl ⟨by kernel_rfl, ?hyz301u4⟩) hHeld ?restz301u4
            case hyz301u4 => (intro w hSw; (try dsimp only at hSw); go_simp; first | done | with_reducible rfl)
            try simp only [Act.put, List.getElem_toArray, List.getElem_cons_zero, List.getElem_cons_succ, List.setIfInBounds_toArray, List.set_cons_zero, List.set_cons_succ]
            refine wpAnyH_ready (rs := [4]) (by kernel_rfl) (by simp) ?_
            refine AllReadyH.cons (o := _) rfl (fun K0 hK0 => ?_) AllReadyH.nil
            go_simp
            go_at_call 19
            refine (CD1.out _ _ _ _ _ (HL2d.out.kept (Below.refl _ _).drew) (HRK.out.kept (Below.refl _ _).drew)).mono ?_
            rintro e wz301v5 ⟨rfl, bz301v5⟩
            refine hK0.out _ _ (K.out _ (thenB (Below.refl _ _).drew bz301v5)) (fun hHeld => ?_)
            clear hK0 K0
            try simp only [Act.put, List.getElem_toArray, List.getElem_cons_zero, List.getElem_cons_succ, List.setIfInBounds_toArray, List.set_cons_zero, List.set_cons_succ]
            refine wpAnyH_take (i := 5) (oi := _) (v := ?vz301u6) rfl (by kernel_rfl) (by kernel_rfl) (by kernel_rfl) (fun _ _ _ h => h) (Or.inl ⟨by kernel_rfl, ?hyz301u6⟩) hHeld ?restz301u6
            case hyz301u6 => (intro w hSw; (try dsimp only at hSw); go_simp; first | done | with_reducible rfl)
            try simp only [Act.put, List.getElem_toArray, List.getElem_cons_zero, List.getElem_cons_succ, List.setIfInBounds_toArray, List.set_cons_zero, List.set_cons_succ]
            refine wpAnyH_take (i := 6) (oi := _) (v := ?vz301u7) rfl (by kernel_rfl) (by kernel_rfl) (by kernel_rfl) (fun _ _ _ h => h) (Or.inl ⟨by kernel_rfl, ?hyz301u7⟩) hHeld ?restz301u7
            case hyz301u7 => (intro w hSw; (try dsimp only at hSw); go_simp; first | done | with_reducible rfl)
            try simp only [Act.put, List.getElem_toArray, List.getElem_cons_zero, List.getElem_cons_succ, List.setIfInBounds_toArray, List.set_cons_zero, List.set_cons_succ]
            refine wpAnyH_take (i := 7) (oi := _) (v := ?vz301u8) rfl (by kernel_rfl) (by kernel_rfl) (by kernel_rfl) (fun _ _ _ h => h) (Or.inl ⟨by kernel_rfl, ?hyz301u8⟩) hHeld ?restz301u8
            case hyz301u8 => (intro w hSw; (try dsimp only at hSw); go_simp; first | done | with_reducible rfl)
            try simp only [Act.put, List.getElem_toArray, List.getElem_cons_zero, List.getElem_cons_succ, List.setIfInBounds_toArray, List.set_cons_zero, List.set_cons_succ]
            refine wpAnyH_take (i := 8) (oi := _) (v := ?vz301u9) rfl (by kernel_rfl) (by kernel_rfl) (by kernel_rfl) (fun _ _ _ h => h) (Or.inl ⟨by kernel_rfl, ?hyz301u9⟩) hHeld ?restz301u9
            case hyz301u9 => (intro w hSw; (try dsimp only at hSw); go_simp; first | done | with_reducible rfl)
            try simp only [Act.put, List.getElem_toArray, List.getElem_cons_zero, List.getElem_cons_succ, List.setIfInBounds_toArray, List.set_cons_zero, List.set_cons_succ]
            refine wpAnyH_take (i := 9) (oi := _) (v := ?vz301u10) rfl (by kernel_rfl) (by kernel_rfl) (by kernel_rfl) (fun _ _ _ h => h) (Or.inl ⟨by kernel_rfl, ?hyz301u10⟩) hHeld ?restz301u10
            case hyz301u10 => (intro w hSw; (try dsimp only at hSw); go_simp; first | done | with_reducible rfl)
            try simp only [Act.put, List.getElem_toArray, List.getElem_cons_zero, List.getElem_cons_succ, List.setIfInBounds_toArray, List.set_cons_zero, List.set_cons_succ]
            refine wpAnyH_take (i := 10) (oi := _) (v := ?vz301u11) rfl (by kernel_rfl) (by kernel_rfl) (by kernel_rfl) (fun _ _ _ h => h) (Or.inl ⟨by kernel_rfl, ?hyz301u11⟩) hHeld ?restz301u11
            case hyz301u11 => (intro w hSw; (try dsimp only at hSw); go_simp; first | done | with_reducible rfl)
            try simp only [Act.put, List.getElem_toArray, List.getElem_cons_zero, List.getElem_cons_succ, List.setIfInBounds_toArray, List.set_cons_zero, List.set_cons_succ]
            refine wpAnyH_take (i := 11) (oi := _) (v := ?vz301u12) rfl (by kernel_rfl) (by kernel_rfl) (by kernel_rfl) (fun _ _ _ h => h) (Or.inl ⟨by kernel_rfl, ?hyz301u12⟩) hHeld ?restz301u12
            case hyz301u12 => (intro w hSw; (try dsimp only at hSw); go_simp; first | done | with_reducible rfl)
            try simp only [Act.put, List.getElem_toArray, List.getElem_cons_zero, List.getElem_cons_succ, List.setIfInBounds_toArray, List.set_cons_zero, List.set_cons_succ]
            refine wpAnyH_take (i := 12) (oi := _) (v := ?vz301u13) rfl (by kernel_rfl) (by kernel_rfl) (by kernel_rfl) (fun _ _ _ h => h) (Or.inl ⟨by kernel_rfl, ?hyz301u13⟩) hHeld ?restz301u13
            case hyz301u13 => (intro w hSw; (try dsimp only at hSw); go_simp; first | done | with_reducible rfl)
            try simp only [Act.put, List.getElem_toArray, List.getElem_cons_zero, List.getElem_cons_succ, List.setIfInBounds_toArray, List.set_cons_zero, List.set_cons_succ]
            refine wpAnyH_take (i := 13) (oi := _) (v := ?vz301u14) rfl (by kernel_rfl) (by kernel_rfl) (by kernel_rfl) (fun _ _ _ h => h) (Or.inl ⟨by kernel_rfl, ?hyz301u14⟩) hHeld ?restz301u14
            case hyz301u14 => (intro w hSw; (try dsimp only at hSw); go_simp; first | done | with_reducible rfl)
            try simp only [Act.put, List.getElem_toArray, List.getElem_cons_zero, List.getElem_cons_succ, List.setIfInBounds_toArray, List.set_cons_zero, List.set_cons_succ]
            refine wpAnyH_take (i := 14) (oi := _) (v := ?vz301u15) rfl (by kernel_rfl) (by kernel_rfl) (by kernel_rfl) (fun _ _ _ h => h) (Or.inl ⟨by kernel_rfl, ?hyz301u15⟩) hHeld ?restz301u15
            case hyz301u15 => (intro w hSw; (try dsimp only at hSw); go_simp; first | done | with_reducible rfl)
            try simp only [Act.put, List.getElem_toArray, List.getElem_cons_zero, List.getElem_cons_succ, List.setIfInBounds_toArray, List.set_cons_zero, List.set_cons_succ]
            refine wpAnyH_ready (rs := [15]) (by kernel_rfl) (by simp) ?_
            refine AllReadyH.cons (o := _) rfl (fun K0 hK0 => ?_) AllReadyH.nil
            go_simp
            go_at_call 19
            refine (CD2.out _ _ _ _ _ (HL2d.out.kept (thenB (Below.refl _ _).drew bz301v5)) (HRK.out.kept (thenB (Below.refl _ _).drew bz301v5))).mono ?_
            rintro e wz301v16 ⟨rfl, bz301v16⟩
            refine hK0.out _ _ (K.out _ (thenB (thenB (Below.refl _ _).drew bz301v5) bz301v16)) (fun hHeld => ?_)
            clear hK0 K0
            try simp only [Act.put, List.getElem_toArray, List.getElem_cons_zero, List.getElem_cons_succ, List.setIfInBounds_toArray, List.set_cons_zero, List.set_cons_succ]
            refine wpAnyH_take (i := 16) (oi := _) (v := ?vz301u17) rfl (by kernel_rfl) (by kernel_rfl) (by kernel_rfl) (fun _ _ _ h => h) (Or.inl ⟨by kernel_rfl, ?hyz301u17⟩) hHeld ?restz301u17
            case hyz301u17 => (intro w hSw; (try dsimp only at hSw); go_simp; first | done | with_reducible rfl)
            try simp only [Act.put, List.getElem_toArray, List.getElem_cons_zero, List.getElem_cons_succ, List.setIfInBounds_toArray, List.set_cons_zero, List.set_cons_succ]
            refine wpAnyH_take (i := 17) (oi := _) (v := ?vz301u18) rfl (by kernel_rfl) (by kernel_rfl) (by kernel_rfl) (fun _ _ _ h => h) (Or.inl ⟨by kernel_rfl, ?hyz301u18⟩) hHeld ?restz301u18
            case hyz301u18 => (intro w hSw; (try dsimp only at hSw); go_simp; first | done | with_reducible rfl)
            try simp only [Act.put, List.getElem_toArray, List.getElem_cons_zero, List.getElem_cons_succ, List.setIfInBounds_toArray, List.set_cons_zero, List.set_cons_succ]
            refine wpAnyH_take (i := 18) (oi := _) (v := ?vz301u19) rfl (by kernel_rfl) (by kernel_rfl) (by kernel_rfl) (fun _ _ _ h => h) (Or.inl ⟨by kernel_rfl, ?hyz301u19⟩) hHeld ?restz301u19
            case hyz301u19 => (intro w hSw; (try dsimp only at hSw); go_simp; first | done | with_reducible rfl)
            try simp only [Act.put, List.getElem_toArray, List.getElem_cons_zero, List.getElem_cons_succ, List.setIfInBounds_toArray, List.set_cons_zero, List.set_cons_succ]
            refine wpAnyH_done (by kernel_rfl) ?_ _
            clear K hHeld
            replace VH := VH.kept (thenB (thenB (Below.refl _ _).drew bz301v5) bz301v16)
            replace B := thenB B (thenB (thenB (Below.refl _ _).drew bz301v5) bz301v16)
            have Sz301 := ((thenB (thenB (Below.refl _ _).drew bz301v5) bz301v16)).size
            clear bz301v5 bz301v16
            obtain ⟨s_VH, f_VH, z_VH⟩ := VH.open
            have Bo := B
            go_wp2_with fail
            go_meet
            exact ⟨rfl, B⟩
        · skip
          as_aux_lemma =>
            have K : ∀ w' : World, Below wc.heap.size wc w' → (w'.cell? ⟨w62.heap.size, 0, none⟩ = some (.int .i64 0) ∧ w'.cell? ⟨w62.heap.size, 1, none⟩ = some (.int .i64 pk) ∧ w'.cell? ⟨w62.heap.size, 2, none⟩ = some (.slice c2 k2 d2) ∧ w'.cell? ⟨b2', o2 + hn9 * 4 + 1, none⟩ = some (.int .i64 ya)) := fun w' h => ⟨(VH.kept h).2.1 0 (by simp), (VH.kept h).2.1 1 (by simp), (VH.kept h).2.1 2 (by simp), ((bcell h).1 _ _ hbY).trans py⟩
            have K := Hid.mk K
            clear py
            refine wp_region_held_drew (S := (fun w' => w'.cell? ⟨w62.heap.size, 0, none⟩ = some (.int .i64 0) ∧ w'.cell? ⟨w62.heap.size, 1, none⟩ = some (.int .i64 pk) ∧ w'.cell? ⟨w62.heap.size, 2, none⟩ = some (.slice c2 k2 d2) ∧ w'.cell? ⟨b2', o2 + hn9 * 4 + 1, none⟩ = some (.int .i64 ya))) (by kernel_rfl) (K.out _ (Below.refl _ _).drew) (fun hHeld => ?_)
            refine wpAnyH_take (i := 0) (oi := _) (v := ?vz311u1) rfl (by kernel_rfl) (by kernel_rfl) (by kernel_rfl) (fun _ _ _ h => h) (Or.inl ⟨by kernel_rfl, ?hyz311u1⟩) hHeld ?restz311u1
            case hyz311u1 => (intro w hSw; (try dsimp only at hSw); go_simp; first | done | with_reducible rfl)
            try simp only [Act.put, List.getElem_toArray, List.getElem_cons_zero, List.setIfInBounds_toArray, List.set_cons_zero, List.set_cons_succ]
            refine wpAnyH_take (i := 1) (oi := _) (v := ?vz311u2) rfl (by kernel_rfl) (by kernel_rfl) (by kernel_rfl) (fun _ _ _ h => h) (Or.inl ⟨by kernel_rfl, ?hyz311u2⟩) hHeld ?restz311u2
            case hyz311u2 => (intro w hSw; (try dsimp only at hSw); go_simp; first | done | with_reducible rfl)
            try simp only [Act.put, List.getElem_toArray, List.getElem_cons_zero, List.getElem_cons_succ, List.setIfInBounds_toArray, List.set_cons_zero, List.set_cons_succ]
            refine wpAnyH_take (i := 2) (oi := _) (v := ?vz311u3) rfl (by kernel_rfl) (by kernel_rfl) (by kernel_rfl) (fun _ _ _ h => h) (Or.inl ⟨by kernel_rfl, ?hyz311u3⟩) hHeld ?restz311u3
            case hyz311u3 => (intro w hSw; (try dsimp only at hSw); go_simp; first | done | with_reducible rfl)
            try simp only [Act.put, List.getElem_toArray, List.getElem_cons_zero, List.getElem_cons_succ, List.setIfInBounds_toArray, List.set_cons_zero, List.set_cons_succ]
            refine wpAnyH_take (i := 3) (oi := _) (v := ?vz311u4) rfl (by kernel_rfl) (by kernel_rfl) (by kernel_rfl) (fun _ _ _ h => h) (Or.inl ⟨by kernel_rfl, ?hyz311u4⟩) hHeld ?restz311u4
            case hyz311u4 => (intro w hSw; (try dsimp only at hSw); go_simp; first | done | with_reducible rfl)
            try simp only [Act.put, List.getElem_toArray, List.getElem_cons_zero, List.getElem_cons_succ, List.setIfInBounds_toArray, List.set_cons_zero, List.set_cons_succ]
            refine wpAnyH_ready (rs := [4]) (by kernel_rfl) (by simp) ?_
            refine AllReadyH.cons (o := _) rfl (fun K0 hK0 => ?_) AllReadyH.nil
            go_simp
            go_at_call 19
            refine (CD1.out _ _ _ _ _ (HL2d.out.kept (Below.refl _ _).drew) (HRK.out.kept (Below.refl _ _).drew)).mono ?_
            rintro e wz311v5 ⟨rfl, bz311v5⟩
            refine hK0.out _ _ (K.out _ (thenB (Below.refl _ _).drew bz311v5)) (fun hHeld => ?_)
            clear hK0 K0
            try simp only [Act.put, List.getElem_toArray, List.getElem_cons_zero, List.getElem_cons_succ, List.setIfInBounds_toArray, List.set_cons_zero, List.set_cons_succ]
            refine wpAnyH_take (i := 5) (oi := _) (v := ?vz311u6) rfl (by kernel_rfl) (by kernel_rfl) (by kernel_rfl) (fun _ _ _ h => h) (Or.inl ⟨by kernel_rfl, ?hyz311u6⟩) hHeld ?restz311u6
            case hyz311u6 => (intro w hSw; (try dsimp only at hSw); go_simp; first | done | with_reducible rfl)
            try simp only [Act.put, List.getElem_toArray, List.getElem_cons_zero, List.getElem_cons_succ, List.setIfInBounds_toArray, List.set_cons_zero, List.set_cons_succ]
            refine wpAnyH_take (i := 6) (oi := _) (v := ?vz311u7) rfl (by kernel_rfl) (by kernel_rfl) (by kernel_rfl) (fun _ _ _ h => h) (Or.inl ⟨by kernel_rfl, ?hyz311u7⟩) hHeld ?restz311u7
            case hyz311u7 => (intro w hSw; (try dsimp only at hSw); go_simp; first | done | with_reducible rfl)
            try simp only [Act.put, List.getElem_toArray, List.getElem_cons_zero, List.getElem_cons_succ, List.setIfInBounds_toArray, List.set_cons_zero, List.set_cons_succ]
            refine wpAnyH_take (i := 7) (oi := _) (v := undef) rfl (by kernel_rfl) (by kernel_rfl) (by kernel_rfl) (fun _ _ _ h => h) (Or.inr ⟨by rfl, rfl⟩) hHeld ?_
            try simp only [Act.put, List.getElem_toArray, List.getElem_cons_zero, List.getElem_cons_succ, List.setIfInBounds_toArray, List.set_cons_zero, List.set_cons_succ]
            refine wpAnyH_take (i := 8) (oi := _) (v := undef) rfl (by kernel_rfl) (by kernel_rfl) (by kernel_rfl) (fun _ _ _ h => h) (Or.inr ⟨by rfl, rfl⟩) hHeld ?_
            try simp only [Act.put, List.getElem_toArray, List.getElem_cons_zero, List.getElem_cons_succ, List.setIfInBounds_toArray, List.set_cons_zero, List.set_cons_succ]
            refine wpAnyH_take (i := 9) (oi := _) (v := undef) rfl (by kernel_rfl) (by kernel_rfl) (by kernel_rfl) (fun _ _ _ h => h) (Or.inr ⟨by rfl, rfl⟩) hHeld ?_
            try simp only [Act.put, List.getElem_toArray, List.getElem_cons_zero, List.getElem_cons_succ, List.setIfInBounds_toArray, List.set_cons_zero, List.set_cons_succ]
            refine wpAnyH_take (i := 10) (oi := _) (v := undef) rfl (by kernel_rfl) (by kernel_rfl) (by kernel_rfl) (fun _ _ _ h => h) (Or.inr ⟨by rfl, rfl⟩) hHeld ?_
            try simp only [Act.put, List.getElem_toArray, List.getElem_cons_zero, List.getElem_cons_succ, List.setIfInBounds_toArray, List.set_cons_zero, List.set_cons_succ]
            refine wpAnyH_take (i := 11) (oi := _) (v := undef) rfl (by kernel_rfl) (by kernel_rfl) (by kernel_rfl) (fun _ _ _ h => h) (Or.inr ⟨by rfl, rfl⟩) hHeld ?_
            try simp only [Act.put, List.getElem_toArray, List.getElem_cons_zero, List.getElem_cons_succ, List.setIfInBounds_toArray, List.set_cons_zero, List.set_cons_succ]
            refine wpAnyH_take (i := 12) (oi := _) (v := undef) rfl (by kernel_rfl) (by kernel_rfl) (by kernel_rfl) (fun _ _ _ h => h) (Or.inr ⟨by rfl, rfl⟩) hHeld ?_
            try simp only [Act.put, List.getElem_toArray, List.getElem_cons_zero, List.getElem_cons_succ, List.setIfInBounds_toArray, List.set_cons_zero, List.set_cons_succ]
            refine wpAnyH_take (i := 13) (oi := _) (v := undef) rfl (by kernel_rfl) (by kernel_rfl) (by kernel_rfl) (fun _ _ _ h => h) (Or.inr ⟨by rfl, rfl⟩) hHeld ?_
            try simp only [Act.put, List.getElem_toArray, List.getElem_cons_zero, List.getElem_cons_succ, List.setIfInBounds_toArray, List.set_cons_zero, List.set_cons_succ]
            refine wpAnyH_take (i := 14) (oi := _) (v := undef) rfl (by kernel_rfl) (by kernel_rfl) (by kernel_rfl) (fun _ _ _ h => h) (Or.inr ⟨by rfl, rfl⟩) hHeld ?_
            try simp only [Act.put, List.getElem_toArray, List.getElem_cons_zero, List.getElem_cons_succ, List.setIfInBounds_toArray, List.set_cons_zero, List.set_cons_succ]
            refine wpAnyH_take (i := 15) (oi := _) (v := undef) rfl (by kernel_rfl) (by kernel_rfl) (by kernel_rfl) (fun _ _ _ h => h) (Or.inr ⟨by rfl, rfl⟩) hHeld ?_
            try simp only [Act.put, List.getElem_toArray, List.getElem_cons_zero, List.getElem_cons_succ, List.setIfInBounds_toArray, List.set_cons_zero, List.set_cons_succ]
            refine wpAnyH_take (i := 16) (oi := _) (v := undef) rfl (by kernel_rfl) (by kernel_rfl) (by kernel_rfl) (fun _ _ _ h => h) (Or.inr ⟨by rfl, rfl⟩) hHeld ?_
            try simp only [Act.put, List.getElem_toArray, List.getElem_cons_zero, List.getElem_cons_succ, List.setIfInBounds_toArray, List.set_cons_zero, List.set_cons_succ]
            refine wpAnyH_take (i := 17) (oi := _) (v := ?vz311u8) rfl (by kernel_rfl) (by kernel_rfl) (by kernel_rfl) (fun _ _ _ h => h) (Or.inl ⟨by kernel_rfl, ?hyz311u8⟩) hHeld ?restz311u8
            case hyz311u8 => (intro w hSw; (try dsimp only at hSw); go_simp; first | done | with_reducible rfl)
            try simp only [Act.put, List.getElem_toArray, List.getElem_cons_zero, List.getElem_cons_succ, List.setIfInBounds_toArray, List.set_cons_zero, List.set_cons_succ]
            refine wpAnyH_take (i := 18) (oi := _) (v := ?vz311u9) rfl (by kernel_rfl) (by kernel_rfl) (by kernel_rfl) (fun _ _ _ h => h) (Or.inl ⟨by kernel_rfl, ?hyz311u9⟩) hHeld ?restz311u9
            case hyz311u9 => (intro w hSw; (try dsimp only at hSw); go_simp; first | done | with_reducible rfl)
            try simp only [Act.put, List.getElem_toArray, List.getElem_cons_zero, List.getElem_cons_succ, List.setIfInBounds_toArray, List.set_cons_zero, List.set_cons_succ]
            refine wpAnyH_done (by kernel_rfl) ?_ _
            clear K hHeld
            replace VH := VH.kept (thenB (Below.refl _ _).drew bz311v5)
            replace B := thenB B (thenB (Below.refl _ _).drew bz311v5)
            have Sz311 := ((thenB (Below.refl _ _).drew bz311v5)).size
            clear bz311v5
            obtain ⟨s_VH, f_VH, z_VH⟩ := VH.open
            have Bo := B
            go_wp2_with fail
            go_meet
            exact ⟨rfl, B⟩
      clear py hbY
      obtain ⟨rfl, BS⟩ := hcut
      have VR := HVR.out.kept BS
      have VH := HVH.out.kept BS
      have VO := HVO.out.kept BS
      have B := thenB HB.out BS
      have HL1e := Hid.mk (HL1d.out.kept BS)
      have HL2e := Hid.mk (HL2d.out.kept BS)
      have HRKe := Hid.mk (HRK.out.kept BS)
      clear HVR HVH HVO HB HL1d HL2d HRK BS
      generalize (!b1 && !b2) = sf at *
      obtain ⟨s_VR, f_VR, z_VR⟩ := VR.open
      obtain ⟨s_VH, f_VH, z_VH⟩ := VH.open
      obtain ⟨s_VO, f_VO, z_VO⟩ := VO.open
      go_upto_region 15 with fail
      clear s_VR f_VR z_VR s_VH f_VH z_VH s_VO f_VO z_VO
      simp only [List.append_eq, List.cons_append, List.nil_append]
      have K : ∀ w' : World, Below wc.heap.size wc w' → (w'.cell? ⟨w61.heap.size, 0, none⟩ = some (.int .i64 0) ∧ w'.cell? ⟨w61.heap.size, 1, none⟩ = some (.int .i64 ks) ∧ w'.cell? ⟨w61.heap.size, 2, none⟩ = some (.int .i64 kd) ∧ w'.cell? ⟨w61.heap.size, 3, none⟩ = some (.int .i64 ko) ∧ w'.cell? ⟨w61.heap.size, 4, none⟩ = some (.int .i64 kb) ∧ w'.cell? ⟨w61.heap.size, 5, none⟩ = some (.slice c1 kl d1) ∧ w'.cell? ⟨w62.heap.size, 0, none⟩ = some (.int .i64 0) ∧ w'.cell? ⟨w62.heap.size, 1, none⟩ = some (.int .i64 pk) ∧ w'.cell? ⟨w62.heap.size, 2, none⟩ = some (.slice c2 k2 d2) ∧ w'.cell? ⟨P, 0, none⟩ = some (.int .i64 0) ∧ w'.cell? ⟨P, 1, none⟩ = some (.int .i64 ks) ∧ w'.cell? ⟨P, 2, none⟩ = some (.int .i64 kd) ∧ w'.cell? ⟨P, 3, none⟩ = some (.int .i64 ko) ∧ w'.cell? ⟨P, 4, none⟩ = some (.int .i64 kb) ∧ w'.cell? ⟨P, 5, none⟩ = some (.slice c6 k2 d6)) := fun w' h => ⟨(VR.kept h).2.1 0 (by simp), (VR.kept h).2.1 1 (by simp), (VR.kept h).2.1 2 (by simp), (VR.kept h).2.1 3 (by simp), (VR.kept h).2.1 4 (by simp), (VR.kept h).2.1 5 (by simp), (VH.kept h).2.1 0 (by simp), (VH.kept h).2.1 1 (by simp), (VH.kept h).2.1 2 (by simp), (VO.kept h).2.1 0 (by simp), (VO.kept h).2.1 1 (by simp), (VO.kept h).2.1 2 (by simp), (VO.kept h).2.1 3 (by simp), (VO.kept h).2.1 4 (by simp), (VO.kept h).2.1 5 (by simp)⟩
      have K := Hid.mk K
      have HBf := Hid.mk B
      clear B VR VH VO
      refine wp_region_held_drew (S := (fun w' => w'.cell? ⟨w61.heap.size, 0, none⟩ = some (.int .i64 0) ∧ w'.cell? ⟨w61.heap.size, 1, none⟩ = some (.int .i64 ks) ∧ w'.cell? ⟨w61.heap.size, 2, none⟩ = some (.int .i64 kd) ∧ w'.cell? ⟨w61.heap.size, 3, none⟩ = some (.int .i64 ko) ∧ w'.cell? ⟨w61.heap.size, 4, none⟩ = some (.int .i64 kb) ∧ w'.cell? ⟨w61.heap.size, 5, none⟩ = some (.slice c1 kl d1) ∧ w'.cell? ⟨w62.heap.size, 0, none⟩ = some (.int .i64 0) ∧ w'.cell? ⟨w62.heap.size, 1, none⟩ = some (.int .i64 pk) ∧ w'.cell? ⟨w62.heap.size, 2, none⟩ = some (.slice c2 k2 d2) ∧ w'.cell? ⟨P, 0, none⟩ = some (.int .i64 0) ∧ w'.cell? ⟨P, 1, none⟩ = some (.int .i64 ks) ∧ w'.cell? ⟨P, 2, none⟩ = some (.int .i64 kd) ∧ w'.cell? ⟨P, 3, none⟩ = some (.int .i64 ko) ∧ w'.cell? ⟨P, 4, none⟩ = some (.int .i64 kb) ∧ w'.cell? ⟨P, 5, none⟩ = some (.slice c6 k2 d6))) (by kernel_rfl) (K.out _ (Below.refl _ _).drew) (fun hHeld => ?_)
      refine wpAnyH_take (i := 0) (oi := _) (v := ?vkyPu1) rfl (by kernel_rfl) (by kernel_rfl) (by kernel_rfl) (fun _ _ _ h => h) (Or.inl ⟨by kernel_rfl, ?hykyPu1⟩) hHeld ?restkyPu1
      case hykyPu1 => (intro w hSw; (try dsimp only at hSw); go_simp; first | done | with_reducible rfl)
      try simp only [Act.put, List.getElem_toArray, List.getElem_cons_zero, List.setIfInBounds_toArray, List.set_cons_zero, List.set_cons_succ]
      refine wpAnyH_take (i := 1) (oi := _) (v := ?vkyPu2) rfl (by kernel_rfl) (by kernel_rfl) (by kernel_rfl) (fun _ _ _ h => h) (Or.inl ⟨by kernel_rfl, ?hykyPu2⟩) hHeld ?restkyPu2
      case hykyPu2 => (intro w hSw; (try dsimp only at hSw); go_simp; first | done | with_reducible rfl)
      try simp only [Act.put, List.getElem_toArray, List.getElem_cons_zero, List.getElem_cons_succ, List.setIfInBounds_toArray, List.set_cons_zero, List.set_cons_succ]
      refine wpAnyH_ready (rs := [2]) (by kernel_rfl) (by simp) ?_
      refine AllReadyH.cons (o := _) rfl (fun K0 hK0 => ?_) AllReadyH.nil
      go_simp
      go_at_call 20
      refine (CTF.out _ _ _ (HL1e.out.kept (Below.refl _ _).drew)).mono ?_
      rintro e wkyPv3 ⟨rfl, bkyPv3⟩
      refine hK0.out _ _ (K.out _ (thenB (Below.refl _ _).drew bkyPv3)) (fun hHeld => ?_)
      clear hK0 K0
      try simp only [Act.put, List.getElem_toArray, List.getElem_cons_zero, List.getElem_cons_succ, List.setIfInBounds_toArray, List.set_cons_zero, List.set_cons_succ]
      refine wpAnyH_take (i := 3) (oi := _) (v := ?vkyPu4) rfl (by kernel_rfl) (by kernel_rfl) (by kernel_rfl) (fun _ _ _ h => h) (Or.inl ⟨by kernel_rfl, ?hykyPu4⟩) hHeld ?restkyPu4
      case hykyPu4 => (intro w hSw; (try dsimp only at hSw); go_simp; first | done | with_reducible rfl)
      try simp only [Act.put, List.getElem_toArray, List.getElem_cons_zero, List.getElem_cons_succ, List.setIfInBounds_toArray, List.set_cons_zero, List.set_cons_succ]
      refine wpAnyH_take (i := 4) (oi := _) (v := ?vkyPu5) rfl (by kernel_rfl) (by kernel_rfl) (by kernel_rfl) (fun _ _ _ h => h) (Or.inl ⟨by kernel_rfl, ?hykyPu5⟩) hHeld ?restkyPu5
      case hykyPu5 => (intro w hSw; (try dsimp only at hSw); go_simp; first | done | with_reducible rfl)
      try simp only [Act.put, List.getElem_toArray, List.getElem_cons_zero, List.getElem_cons_succ, List.setIfInBounds_toArray, List.set_cons_zero, List.set_cons_succ]
      refine wpAnyH_take (i := 5) (oi := _) (v := ?vkyPu6) rfl (by kernel_rfl) (by kernel_rfl) (by kernel_rfl) (fun _ _ _ h => h) (Or.inl ⟨by kernel_rfl, ?hykyPu6⟩) hHeld ?restkyPu6
      case hykyPu6 => (intro w hSw; (try dsimp only at hSw); go_simp; first | done | with_reducible rfl)
      try simp only [Act.put, List.getElem_toArray, List.getElem_cons_zero, List.getElem_cons_succ, List.setIfInBounds_toArray, List.set_cons_zero, List.set_cons_succ]
      refine wpAnyH_take (i := 6) (oi := _) (v := ?vkyPu7) rfl (by kernel_rfl) (by kernel_rfl) (by kernel_rfl) (fun _ _ _ h => h) (Or.inl ⟨by kernel_rfl, ?hykyPu7⟩) hHeld ?restkyPu7
      case hykyPu7 => (intro w hSw; (try dsimp only at hSw); go_simp; first | done | with_reducible rfl)
      try simp only [Act.put, List.getElem_toArray, List.getElem_cons_zero, List.getElem_cons_succ, List.setIfInBounds_toArray, List.set_cons_zero, List.set_cons_succ]
      refine wpAnyH_take (i := 7) (oi := _) (v := ?vkyPu8) rfl (by kernel_rfl) (by kernel_rfl) (by kernel_rfl) (fun _ _ _ h => h) (Or.inl ⟨by kernel_rfl, ?hykyPu8⟩) hHeld ?restkyPu8
      case hykyPu8 => (intro w hSw; (try dsimp only at hSw); go_simp; first | done | with_reducible rfl)
      try simp only [Act.put, List.getElem_toArray, List.getElem_cons_zero, List.getElem_cons_succ, List.setIfInBounds_toArray, List.set_cons_zero, List.set_cons_succ]
      refine wpAnyH_take (i := 8) (oi := _) (v := ?vkyPu9) rfl (by kernel_rfl) (by kernel_rfl) (by kernel_rfl) (fun _ _ _ h => h) (Or.inl ⟨by kernel_rfl, ?hykyPu9⟩) hHeld ?restkyPu9
      case hykyPu9 => (intro w hSw; (try dsimp only at hSw); go_simp; first | done | with_reducible rfl)
      try simp only [Act.put, List.getElem_toArray, List.getElem_cons_zero, List.getElem_cons_succ, List.setIfInBounds_toArray, List.set_cons_zero, List.set_cons_succ]
      refine wpAnyH_take (i := 9) (oi := _) (v := ?vkyPu10) rfl (by kernel_rfl) (by kernel_rfl) (by kernel_rfl) (fun _ _ _ h => h) (Or.inl ⟨by kernel_rfl, ?hykyPu10⟩) hHeld ?restkyPu10
      case hykyPu10 => (intro w hSw; (try dsimp only at hSw); go_simp; first | done | with_reducible rfl)
      try simp only [Act.put, List.getElem_toArray, List.getElem_cons_zero, List.getElem_cons_succ, List.setIfInBounds_toArray, List.set_cons_zero, List.set_cons_succ]
      refine wpAnyH_take (i := 10) (oi := _) (v := ?vkyPu11) rfl (by kernel_rfl) (by kernel_rfl) (by kernel_rfl) (fun _ _ _ h => h) (Or.inl ⟨by kernel_rfl, ?hykyPu11⟩) hHeld ?restkyPu11
      case hykyPu11 => (intro w hSw; (try dsimp only at hSw); go_simp; first | done | with_reducible rfl)
      try simp only [Act.put, List.getElem_toArray, List.getElem_cons_zero, List.getElem_cons_succ, List.setIfInBounds_toArray, List.set_cons_zero, List.set_cons_succ]
      refine wpAnyH_take (i := 11) (oi := _) (v := ?vkyPu12) rfl (by kernel_rfl) (by kernel_rfl) (by kernel_rfl) (fun _ _ _ h => h) (Or.inl ⟨by kernel_rfl, ?hykyPu12⟩) hHeld ?restkyPu12
      case hykyPu12 => (intro w hSw; (try dsimp only at hSw); go_simp; first | done | with_reducible rfl)
      try simp only [Act.put, List.getElem_toArray, List.getElem_cons_zero, List.getElem_cons_succ, List.setIfInBounds_toArray, List.set_cons_zero, List.set_cons_succ]
      refine wpAnyH_take (i := 12) (oi := _) (v := ?vkyPu13) rfl (by kernel_rfl) (by kernel_rfl) (by kernel_rfl) (fun _ _ _ h => h) (Or.inl ⟨by kernel_rfl, ?hykyPu13⟩) hHeld ?restkyPu13
      case hykyPu13 => (intro w hSw; (try dsimp only at hSw); go_simp; first | done | with_reducible rfl)
      try simp only [Act.put, List.getElem_toArray, List.getElem_cons_zero, List.getElem_cons_succ, List.setIfInBounds_toArray, List.set_cons_zero, List.set_cons_succ]
      refine wpAnyH_take (i := 13) (oi := _) (v := ?vkyPu14) rfl (by kernel_rfl) (by kernel_rfl) (by kernel_rfl) (fun _ _ _ h => h) (Or.inl ⟨by kernel_rfl, ?hykyPu14⟩) hHeld ?restkyPu14
      case hykyPu14 => (intro w hSw; (try dsimp only at hSw); go_simp; first | done | with_reducible rfl)
      try simp only [Act.put, List.getElem_toArray, List.getElem_cons_zero, List.getElem_cons_succ, List.setIfInBounds_toArray, List.set_cons_zero, List.set_cons_succ]
      refine wpAnyH_take (i := 14) (oi := _) (v := ?vkyPu15) rfl (by kernel_rfl) (by kernel_rfl) (by kernel_rfl) (fun _ _ _ h => h) (Or.inl ⟨by kernel_rfl, ?hykyPu15⟩) hHeld ?restkyPu15
      case hykyPu15 => (intro w hSw; (try dsimp only at hSw); go_simp; first | done | with_reducible rfl)
      try simp only [Act.put, List.getElem_toArray, List.getElem_cons_zero, List.getElem_cons_succ, List.setIfInBounds_toArray, List.set_cons_zero, List.set_cons_succ]
      refine wpAnyH_take (i := 15) (oi := _) (v := ?vkyPu16) rfl (by kernel_rfl) (by kernel_rfl) (by kernel_rfl) (fun _ _ _ h => h) (Or.inl ⟨by kernel_rfl, ?hykyPu16⟩) hHeld ?restkyPu16
      case hykyPu16 => (intro w hSw; (try dsimp only at hSw); go_simp; first | done | with_reducible rfl)
      try simp only [Act.put, List.getElem_toArray, List.getElem_cons_zero, List.getElem_cons_succ, List.setIfInBounds_toArray, List.set_cons_zero, List.set_cons_succ]
      refine wpAnyH_take (i := 16) (oi := _) (v := ?vkyPu17) rfl (by kernel_rfl) (by kernel_rfl) (by kernel_rfl) (fun _ _ _ h => h) (Or.inl ⟨by kernel_rfl, ?hykyPu17⟩) hHeld ?restkyPu17
      case hykyPu17 => (intro w hSw; (try dsimp only at hSw); go_simp; first | done | with_reducible rfl)
      try simp only [Act.put, List.getElem_toArray, List.getElem_cons_zero, List.getElem_cons_succ, List.setIfInBounds_toArray, List.set_cons_zero, List.set_cons_succ]
      refine wpAnyH_take (i := 17) (oi := _) (v := ?vkyPu18) rfl (by kernel_rfl) (by kernel_rfl) (by kernel_rfl) (fun _ _ _ h => h) (Or.inl ⟨by kernel_rfl, ?hykyPu18⟩) hHeld ?restkyPu18
      case hykyPu18 => (intro w hSw; (try dsimp only at hSw); go_simp; first | done | with_reducible rfl)
      try simp only [Act.put, List.getElem_toArray, List.getElem_cons_zero, List.getElem_cons_succ, List.setIfInBounds_toArray, List.set_cons_zero, List.set_cons_succ]
      refine wpAnyH_take (i := 18) (oi := _) (v := ?vkyPu19) rfl (by kernel_rfl) (by kernel_rfl) (by kernel_rfl) (fun _ _ _ h => h) (Or.inl ⟨by kernel_rfl, ?hykyPu19⟩) hHeld ?restkyPu19
      case hykyPu19 => (intro w hSw; (try dsimp only at hSw); go_simp; first | done | with_reducible rfl)
      try simp only [Act.put, List.getElem_toArray, List.getElem_cons_zero, List.getElem_cons_succ, List.setIfInBounds_toArray, List.set_cons_zero, List.set_cons_succ]
      refine wpAnyH_take (i := 19) (oi := _) (v := ?vkyPu20) rfl (by kernel_rfl) (by kernel_rfl) (by kernel_rfl) (fun _ _ _ h => h) (Or.inl ⟨by kernel_rfl, ?hykyPu20⟩) hHeld ?restkyPu20
      case hykyPu20 => (intro w hSw; (try dsimp only at hSw); go_simp; first | done | with_reducible rfl)
      try simp only [Act.put, List.getElem_toArray, List.getElem_cons_zero, List.getElem_cons_succ, List.setIfInBounds_toArray, List.set_cons_zero, List.set_cons_succ]
      refine wpAnyH_take (i := 20) (oi := _) (v := ?vkyPu21) rfl (by kernel_rfl) (by kernel_rfl) (by kernel_rfl) (fun _ _ _ h => h) (Or.inl ⟨by kernel_rfl, ?hykyPu21⟩) hHeld ?restkyPu21
      case hykyPu21 => (intro w hSw; (try dsimp only at hSw); go_simp; first | done | with_reducible rfl)
      try simp only [Act.put, List.getElem_toArray, List.getElem_cons_zero, List.getElem_cons_succ, List.setIfInBounds_toArray, List.set_cons_zero, List.set_cons_succ]
      refine wpAnyH_take (i := 21) (oi := _) (v := ?vkyPu22) rfl (by kernel_rfl) (by kernel_rfl) (by kernel_rfl) (fun _ _ _ h => h) (Or.inl ⟨by kernel_rfl, ?hykyPu22⟩) hHeld ?restkyPu22
      case hykyPu22 => (intro w hSw; (try dsimp only at hSw); go_simp; first | done | with_reducible rfl)
      try simp only [Act.put, List.getElem_toArray, List.getElem_cons_zero, List.getElem_cons_succ, List.setIfInBounds_toArray, List.set_cons_zero, List.set_cons_succ]
      refine wpAnyH_take (i := 22) (oi := _) (v := ?vkyPu23) rfl (by kernel_rfl) (by kernel_rfl) (by kernel_rfl) (fun _ _ _ h => h) (Or.inl ⟨by kernel_rfl, ?hykyPu23⟩) hHeld ?restkyPu23
      case hykyPu23 => (intro w hSw; (try dsimp only at hSw); go_simp; first | done | with_reducible rfl)
      try simp only [Act.put, List.getElem_toArray, List.getElem_cons_zero, List.getElem_cons_succ, List.setIfInBounds_toArray, List.set_cons_zero, List.set_cons_succ]
      refine wpAnyH_take (i := 23) (oi := _) (v := ?vkyPu24) rfl (by kernel_rfl) (by kernel_rfl) (by kernel_rfl) (fun _ _ _ h => h) (Or.inl ⟨by kernel_rfl, ?hykyPu24⟩) hHeld ?restkyPu24
      case hykyPu24 => (intro w hSw; (try dsimp only at hSw); go_simp; first | done | with_reducible rfl)
      try simp only [Act.put, List.getElem_toArray, List.getElem_cons_zero, List.getElem_cons_succ, List.setIfInBounds_toArray, List.set_cons_zero, List.set_cons_succ]
      refine wpAnyH_take (i := 24) (oi := _) (v := ?vkyPu25) rfl (by kernel_rfl) (by kernel_rfl) (by kernel_rfl) (fun _ _ _ h => h) (Or.inl ⟨by kernel_rfl, ?hykyPu25⟩) hHeld ?restkyPu25
      case hykyPu25 => (intro w hSw; (try dsimp only at hSw); go_simp; first | done | with_reducible rfl)
      try simp only [Act.put, List.getElem_toArray, List.getElem_cons_zero, List.getElem_cons_succ, List.setIfInBounds_toArray, List.set_cons_zero, List.set_cons_succ]
      refine wpAnyH_take (i := 25) (oi := _) (v := ?vkyPu26) rfl (by kernel_rfl) (by kernel_rfl) (by kernel_rfl) (fun _ _ _ h => h) (Or.inl ⟨by kernel_rfl, ?hykyPu26⟩) hHeld ?restkyPu26
      case hykyPu26 => (intro w hSw; (try dsimp only at hSw); go_simp; first | done | with_reducible rfl)
      try simp only [Act.put, List.getElem_toArray, List.getElem_cons_zero, List.getElem_cons_succ, List.setIfInBounds_toArray, List.set_cons_zero, List.set_cons_succ]
      refine wpAnyH_take (i := 26) (oi := _) (v := ?vkyPu27) rfl (by kernel_rfl) (by kernel_rfl) (by kernel_rfl) (fun _ _ _ h => h) (Or.inl ⟨by kernel_rfl, ?hykyPu27⟩) hHeld ?restkyPu27
      case hykyPu27 => (intro w hSw; (try dsimp only at hSw); go_simp; first | done | with_reducible rfl)
      try simp only [Act.put, List.getElem_toArray, List.getElem_cons_zero, List.getElem_cons_succ, List.setIfInBounds_toArray, List.set_cons_zero, List.set_cons_succ]
      refine wpAnyH_take (i := 27) (oi := _) (v := ?vkyPu28) rfl (by kernel_rfl) (by kernel_rfl) (by kernel_rfl) (fun _ _ _ h => h) (Or.inl ⟨by kernel_rfl, ?hykyPu28⟩) hHeld ?restkyPu28
      case hykyPu28 => (intro w hSw; (try dsimp only at hSw); go_simp; first | done | with_reducible rfl)
      try simp only [Act.put, List.getElem_toArray, List.getElem_cons_zero, List.getElem_cons_succ, List.setIfInBounds_toArray, List.set_cons_zero, List.set_cons_succ]
      refine wpAnyH_take (i := 28) (oi := _) (v := ?vkyPu29) rfl (by kernel_rfl) (by kernel_rfl) (by kernel_rfl) (fun _ _ _ h => h) (Or.inl ⟨by kernel_rfl, ?hykyPu29⟩) hHeld ?restkyPu29
      case hykyPu29 => (intro w hSw; (try dsimp only at hSw); go_simp; first | done | with_reducible rfl)
      try simp only [Act.put, List.getElem_toArray, List.getElem_cons_zero, List.getElem_cons_succ, List.setIfInBounds_toArray, List.set_cons_zero, List.set_cons_succ]
      refine wpAnyH_take (i := 29) (oi := _) (v := ?vkyPu30) rfl (by kernel_rfl) (by kernel_rfl) (by kernel_rfl) (fun _ _ _ h => h) (Or.inl ⟨by kernel_rfl, ?hykyPu30⟩) hHeld ?restkyPu30
      case hykyPu30 => (intro w hSw; (try dsimp only at hSw); go_simp; first | done | with_reducible rfl)
      try simp only [Act.put, List.getElem_toArray, List.getElem_cons_zero, List.getElem_cons_succ, List.setIfInBounds_toArray, List.set_cons_zero, List.set_cons_succ]
      refine wpAnyH_take (i := 30) (oi := _) (v := ?vkyPu31) rfl (by kernel_rfl) (by kernel_rfl) (by kernel_rfl) (fun _ _ _ h => h) (Or.inl ⟨by kernel_rfl, ?hykyPu31⟩) hHeld ?restkyPu31
      case hykyPu31 => (intro w hSw; (try dsimp only at hSw); go_simp; first | done | with_reducible rfl)
      try simp only [Act.put, List.getElem_toArray, List.getElem_cons_zero, List.getElem_cons_succ, List.setIfInBounds_toArray, List.set_cons_zero, List.set_cons_succ]
      refine wpAnyH_take (i := 31) (oi := _) (v := ?vkyPu32) rfl (by kernel_rfl) (by kernel_rfl) (by kernel_rfl) (fun _ _ _ h => h) (Or.inl ⟨by kernel_rfl, ?hykyPu32⟩) hHeld ?restkyPu32
      case hykyPu32 => (intro w hSw; (try dsimp only at hSw); go_simp; first | done | with_reducible rfl)
      try simp only [Act.put, List.getElem_toArray, List.getElem_cons_zero, List.getElem_cons_succ, List.setIfInBounds_toArray, List.set_cons_zero, List.set_cons_succ]
      refine wpAnyH_take (i := 32) (oi := _) (v := ?vkyPu33) rfl (by kernel_rfl) (by kernel_rfl) (by kernel_rfl) (fun _ _ _ h => h) (Or.inl ⟨by kernel_rfl, ?hykyPu33⟩) hHeld ?restkyPu33
      case hykyPu33 => (intro w hSw; (try dsimp only at hSw); go_simp; first | done | with_reducible rfl)
      try simp only [Act.put, List.getElem_toArray, List.getElem_cons_zero, List.getElem_cons_succ, List.setIfInBounds_toArray, List.set_cons_zero, List.set_cons_succ]
      refine wpAnyH_take (i := 33) (oi := _) (v := ?vkyPu34) rfl (by kernel_rfl) (by kernel_rfl) (by kernel_rfl) (fun _ _ _ h => h) (Or.inl ⟨by kernel_rfl, ?hykyPu34⟩) hHeld ?restkyPu34
      case hykyPu34 => (intro w hSw; (try dsimp only at hSw); go_simp; first | done | with_reducible rfl)
      try simp only [Act.put, List.getElem_toArray, List.getElem_cons_zero, List.getElem_cons_succ, List.setIfInBounds_toArray, List.set_cons_zero, List.set_cons_succ]
      refine wpAnyH_take (i := 34) (oi := _) (v := ?vkyPu35) rfl (by kernel_rfl) (by kernel_rfl) (by kernel_rfl) (fun _ _ _ h => h) (Or.inl ⟨by kernel_rfl, ?hykyPu35⟩) hHeld ?restkyPu35
      case hykyPu35 => (intro w hSw; (try dsimp only at hSw); go_simp; first | done | with_reducible rfl)
      try simp only [Act.put, List.getElem_toArray, List.getElem_cons_zero, List.getElem_cons_succ, List.setIfInBounds_toArray, List.set_cons_zero, List.set_cons_succ]
      refine wpAnyH_take (i := 35) (oi := _) (v := ?vkyPu36) rfl (by kernel_rfl) (by kernel_rfl) (by kernel_rfl) (fun _ _ _ h => h) (Or.inl ⟨by kernel_rfl, ?hykyPu36⟩) hHeld ?restkyPu36
      case hykyPu36 => (intro w hSw; (try dsimp only at hSw); go_simp; first | done | with_reducible rfl)
      try simp only [Act.put, List.getElem_toArray, List.getElem_cons_zero, List.getElem_cons_succ, List.setIfInBounds_toArray, List.set_cons_zero, List.set_cons_succ]
      refine wpAnyH_take (i := 36) (oi := _) (v := ?vkyPu37) rfl (by kernel_rfl) (by kernel_rfl) (by kernel_rfl) (fun _ _ _ h => h) (Or.inl ⟨by kernel_rfl, ?hykyPu37⟩) hHeld ?restkyPu37
      case hykyPu37 => (intro w hSw; (try dsimp only at hSw); go_simp; first | done | with_reducible rfl)
      try simp only [Act.put, List.getElem_toArray, List.getElem_cons_zero, List.getElem_cons_succ, List.setIfInBounds_toArray, List.set_cons_zero, List.set_cons_succ]
      refine wpAnyH_take (i := 37) (oi := _) (v := ?vkyPu38) rfl (by kernel_rfl) (by kernel_rfl) (by kernel_rfl) (fun _ _ _ h => h) (Or.inl ⟨by kernel_rfl, ?hykyPu38⟩) hHeld ?restkyPu38
      case hykyPu38 => (intro w hSw; (try dsimp only at hSw); go_simp; first | done | with_reducible rfl)
      try simp only [Act.put, List.getElem_toArray, List.getElem_cons_zero, List.getElem_cons_succ, List.setIfInBounds_toArray, List.set_cons_zero, List.set_cons_succ]
      refine wpAnyH_take (i := 38) (oi := _) (v := ?vkyPu39) rfl (by kernel_rfl) (by kernel_rfl) (by kernel_rfl) (fun _ _ _ h => h) (Or.inl ⟨by kernel_rfl, ?hykyPu39⟩) hHeld ?restkyPu39
      case hykyPu39 => (intro w hSw; (try dsimp only at hSw); go_simp; first | done | with_reducible rfl)
      try simp only [Act.put, List.getElem_toArray, List.getElem_cons_zero, List.getElem_cons_succ, List.setIfInBounds_toArray, List.set_cons_zero, List.set_cons_succ]
      refine wpAnyH_take (i := 39) (oi := _) (v := ?vkyPu40) rfl (by kernel_rfl) (by kernel_rfl) (by kernel_rfl) (fun _ _ _ h => h) (Or.inl ⟨by kernel_rfl, ?hykyPu40⟩) hHeld ?restkyPu40
      case hykyPu40 => (intro w hSw; (try dsimp only at hSw); go_simp; first | done | with_reducible rfl)
      try simp only [Act.put, List.getElem_toArray, List.getElem_cons_zero, List.getElem_cons_succ, List.setIfInBounds_toArray, List.set_cons_zero, List.set_cons_succ]
      refine wpAnyH_take (i := 40) (oi := _) (v := ?vkyPu41) rfl (by kernel_rfl) (by kernel_rfl) (by kernel_rfl) (fun _ _ _ h => h) (Or.inl ⟨by kernel_rfl, ?hykyPu41⟩) hHeld ?restkyPu41
      case hykyPu41 => (intro w hSw; (try dsimp only at hSw); go_simp; first | done | with_reducible rfl)
      try simp only [Act.put, List.getElem_toArray, List.getElem_cons_zero, List.getElem_cons_succ, List.setIfInBounds_toArray, List.set_cons_zero, List.set_cons_succ]
      refine wpAnyH_take (i := 41) (oi := _) (v := ?vkyPu42) rfl (by kernel_rfl) (by kernel_rfl) (by kernel_rfl) (fun _ _ _ h => h) (Or.inl ⟨by kernel_rfl, ?hykyPu42⟩) hHeld ?restkyPu42
      case hykyPu42 => (intro w hSw; (try dsimp only at hSw); go_simp; first | done | with_reducible rfl)
      try simp only [Act.put, List.getElem_toArray, List.getElem_cons_zero, List.getElem_cons_succ, List.setIfInBounds_toArray, List.set_cons_zero, List.set_cons_succ]
      refine wpAnyH_take (i := 42) (oi := _) (v := ?vkyPu43) rfl (by kernel_rfl) (by kernel_rfl) (by kernel_rfl) (fun _ _ _ h => h) (Or.inl ⟨by kernel_rfl, ?hykyPu43⟩) hHeld ?restkyPu43
      case hykyPu43 => (intro w hSw; (try dsimp only at hSw); go_simp; first | done | with_reducible rfl)
      try simp only [Act.put, List.getElem_toArray, List.getElem_cons_zero, List.getElem_cons_succ, List.setIfInBounds_toArray, List.set_cons_zero, List.set_cons_succ]
      refine wpAnyH_take (i := 43) (oi := _) (v := ?vkyPu44) rfl (by kernel_rfl) (by kernel_rfl) (by kernel_rfl) (fun _ _ _ h => h) (Or.inl ⟨by kernel_rfl, ?hykyPu44⟩) hHeld ?restkyPu44
      case hykyPu44 => (intro w hSw; (try dsimp only at hSw); go_simp; first | done | with_reducible rfl)
      try simp only [Act.put, List.getElem_toArray, List.getElem_cons_zero, List.getElem_cons_succ, List.setIfInBounds_toArray, List.set_cons_zero, List.set_cons_succ]
      refine wpAnyH_take (i := 44) (oi := _) (v := ?vkyPu45) rfl (by kernel_rfl) (by kernel_rfl) (by kernel_rfl) (fun _ _ _ h => h) (Or.inl ⟨by kernel_rfl, ?hykyPu45⟩) hHeld ?restkyPu45
      case hykyPu45 => (intro w hSw; (try dsimp only at hSw); go_simp; first | done | with_reducible rfl)
      try simp only [Act.put, List.getElem_toArray, List.getElem_cons_zero, List.getElem_cons_succ, List.setIfInBounds_toArray, List.set_cons_zero, List.set_cons_succ]
      refine wpAnyH_take (i := 45) (oi := _) (v := ?vkyPu46) rfl (by kernel_rfl) (by kernel_rfl) (by kernel_rfl) (fun _ _ _ h => h) (Or.inl ⟨by kernel_rfl, ?hykyPu46⟩) hHeld ?restkyPu46
      case hykyPu46 => (intro w hSw; (try dsimp only at hSw); go_simp; first | done | with_reducible rfl)
      try simp only [Act.put, List.getElem_toArray, List.getElem_cons_zero, List.getElem_cons_succ, List.setIfInBounds_toArray, List.set_cons_zero, List.set_cons_succ]
      refine wpAnyH_take (i := 46) (oi := _) (v := ?vkyPu47) rfl (by kernel_rfl) (by kernel_rfl) (by kernel_rfl) (fun _ _ _ h => h) (Or.inl ⟨by kernel_rfl, ?hykyPu47⟩) hHeld ?restkyPu47
      case hykyPu47 => (intro w hSw; (try dsimp only at hSw); go_simp; first | done | with_reducible rfl)
      try simp only [Act.put, List.getElem_toArray, List.getElem_cons_zero, List.getElem_cons_succ, List.setIfInBounds_toArray, List.set_cons_zero, List.set_cons_succ]
      cases sf
      · skip
        as_aux_lemma =>
          refine wpAnyH_take (i := 47) (oi := _) (v := undef) rfl (by kernel_rfl) (by kernel_rfl) (by kernel_rfl) (fun _ _ _ h => h) (Or.inr ⟨by rfl, rfl⟩) hHeld ?_
          try simp only [Act.put, List.getElem_toArray, List.getElem_cons_zero, List.getElem_cons_succ, List.setIfInBounds_toArray, List.set_cons_zero, List.set_cons_succ]
          refine wpAnyH_take (i := 48) (oi := _) (v := undef) rfl (by kernel_rfl) (by kernel_rfl) (by kernel_rfl) (fun _ _ _ h => h) (Or.inr ⟨by rfl, rfl⟩) hHeld ?_
          try simp only [Act.put, List.getElem_toArray, List.getElem_cons_zero, List.getElem_cons_succ, List.setIfInBounds_toArray, List.set_cons_zero, List.set_cons_succ]
          refine wpAnyH_take (i := 49) (oi := _) (v := undef) rfl (by kernel_rfl) (by kernel_rfl) (by kernel_rfl) (fun _ _ _ h => h) (Or.inr ⟨by rfl, rfl⟩) hHeld ?_
          try simp only [Act.put, List.getElem_toArray, List.getElem_cons_zero, List.getElem_cons_succ, List.setIfInBounds_toArray, List.set_cons_zero, List.set_cons_succ]
          refine wpAnyH_take (i := 50) (oi := _) (v := undef) rfl (by kernel_rfl) (by kernel_rfl) (by kernel_rfl) (fun _ _ _ h => h) (Or.inr ⟨by rfl, rfl⟩) hHeld ?_
          try simp only [Act.put, List.getElem_toArray, List.getElem_cons_zero, List.getElem_cons_succ, List.setIfInBounds_toArray, List.set_cons_zero, List.set_cons_succ]
          refine wpAnyH_take (i := 51) (oi := _) (v := undef) rfl (by kernel_rfl) (by kernel_rfl) (by kernel_rfl) (fun _ _ _ h => h) (Or.inr ⟨by rfl, rfl⟩) hHeld ?_
          try simp only [Act.put, List.getElem_toArray, List.getElem_cons_zero, List.getElem_cons_succ, List.setIfInBounds_toArray, List.set_cons_zero, List.set_cons_succ]
          refine wpAnyH_take (i := 52) (oi := _) (v := undef) rfl (by kernel_rfl) (by kernel_rfl) (by kernel_rfl) (fun _ _ _ h => h) (Or.inr ⟨by rfl, rfl⟩) hHeld ?_
          try simp only [Act.put, List.getElem_toArray, List.getElem_cons_zero, List.getElem_cons_succ, List.setIfInBounds_toArray, List.set_cons_zero, List.set_cons_succ]
          refine wpAnyH_take (i := 53) (oi := _) (v := undef) rfl (by kernel_rfl) (by kernel_rfl) (by kernel_rfl) (fun _ _ _ h => h) (Or.inr ⟨by rfl, rfl⟩) hHeld ?_
          try simp only [Act.put, List.getElem_toArray, List.getElem_cons_zero, List.getElem_cons_succ, List.setIfInBounds_toArray, List.set_cons_zero, List.set_cons_succ]
          refine wpAnyH_take (i := 54) (oi := _) (v := ?vkyAu1) rfl (by kernel_rfl) (by kernel_rfl) (by kernel_rfl) (fun _ _ _ h => h) (Or.inl ⟨by kernel_rfl, ?hykyAu1⟩) hHeld ?restkyAu1
          case hykyAu1 => (intro w hSw; (try dsimp only at hSw); go_simp; first | done | with_reducible rfl)
          try simp only [Act.put, List.getElem_toArray, List.getElem_cons_zero, List.getElem_cons_succ, List.setIfInBounds_toArray, List.set_cons_zero, List.set_cons_succ]
          refine wpAnyH_take (i := 55) (oi := _) (v := ?vkyAu2) rfl (by kernel_rfl) (by kernel_rfl) (by kernel_rfl) (fun _ _ _ h => h) (Or.inl ⟨by kernel_rfl, ?hykyAu2⟩) hHeld ?restkyAu2
          case hykyAu2 => (intro w hSw; (try dsimp only at hSw); go_simp; first | done | with_reducible rfl)
          try simp only [Act.put, List.getElem_toArray, List.getElem_cons_zero, List.getElem_cons_succ, List.setIfInBounds_toArray, List.set_cons_zero, List.set_cons_succ]
          refine wpAnyH_take (i := 56) (oi := _) (v := undef) rfl (by kernel_rfl) (by kernel_rfl) (by kernel_rfl) (fun _ _ _ h => h) (Or.inr ⟨by rfl, rfl⟩) hHeld ?_
          try simp only [Act.put, List.getElem_toArray, List.getElem_cons_zero, List.getElem_cons_succ, List.setIfInBounds_toArray, List.set_cons_zero, List.set_cons_succ]
          refine wpAnyH_take (i := 57) (oi := _) (v := undef) rfl (by kernel_rfl) (by kernel_rfl) (by kernel_rfl) (fun _ _ _ h => h) (Or.inr ⟨by rfl, rfl⟩) hHeld ?_
          try simp only [Act.put, List.getElem_toArray, List.getElem_cons_zero, List.getElem_cons_succ, List.setIfInBounds_toArray, List.set_cons_zero, List.set_cons_succ]
          refine wpAnyH_take (i := 58) (oi := _) (v := undef) rfl (by kernel_rfl) (by kernel_rfl) (by kernel_rfl) (fun _ _ _ h => h) (Or.inr ⟨by rfl, rfl⟩) hHeld ?_
          try simp only [Act.put, List.getElem_toArray, List.getElem_cons_zero, List.getElem_cons_succ, List.setIfInBounds_toArray, List.set_cons_zero, List.set_cons_succ]
          refine wpAnyH_take (i := 59) (oi := _) (v := undef) rfl (by kernel_rfl) (by kernel_rfl) (by kernel_rfl) (fun _ _ _ h => h) (Or.inr ⟨by rfl, rfl⟩) hHeld ?_
          try simp only [Act.put, List.getElem_toArray, List.getElem_cons_zero, List.getElem_cons_succ, List.setIfInBounds_toArray, List.set_cons_zero, List.set_cons_succ]
          refine wpAnyH_take (i := 60) (oi := _) (v := undef) rfl (by kernel_rfl) (by kernel_rfl) (by kernel_rfl) (fun _ _ _ h => h) (Or.inr ⟨by rfl, rfl⟩) hHeld ?_
          try simp only [Act.put, List.getElem_toArray, List.getElem_cons_zero, List.getElem_cons_succ, List.setIfInBounds_toArray, List.set_cons_zero, List.set_cons_succ]
          refine wpAnyH_take (i := 61) (oi := _) (v := undef) rfl (by kernel_rfl) (by kernel_rfl) (by kernel_rfl) (fun _ _ _ h => h) (Or.inr ⟨by rfl, rfl⟩) hHeld ?_
          try simp only [Act.put, List.getElem_toArray, List.getElem_cons_zero, List.getElem_cons_succ, List.setIfInBounds_toArray, List.set_cons_zero, List.set_cons_succ]
          refine wpAnyH_take (i := 62) (oi := _) (v := undef) rfl (by kernel_rfl) (by kernel_rfl) (by kernel_rfl) (fun _ _ _ h => h) (Or.inr ⟨by rfl, rfl⟩) hHeld ?_
          try simp only [Act.put, List.getElem_toArray, List.getElem_cons_zero, List.getElem_cons_succ, List.setIfInBounds_toArray, List.set_cons_zero, List.set_cons_succ]
          refine wpAnyH_take (i := 63) (oi := _) (v := ?vkyAu3) rfl (by kernel_rfl) (by kernel_rfl) (by kernel_rfl) (fun _ _ _ h => h) (Or.inl ⟨by kernel_rfl, ?hykyAu3⟩) hHeld ?restkyAu3
          case hykyAu3 => (intro w hSw; (try dsimp only at hSw); go_simp; first | done | with_reducible rfl)
          try simp only [Act.put, List.getElem_toArray, List.getElem_cons_zero, List.getElem_cons_succ, List.setIfInBounds_toArray, List.set_cons_zero, List.set_cons_succ]
          refine wpAnyH_take (i := 64) (oi := _) (v := ?vkyAu4) rfl (by kernel_rfl) (by kernel_rfl) (by kernel_rfl) (fun _ _ _ h => h) (Or.inl ⟨by kernel_rfl, ?hykyAu4⟩) hHeld ?restkyAu4
          case hykyAu4 => (intro w hSw; (try dsimp only at hSw); go_simp; first | done | with_reducible rfl)
          try simp only [Act.put, List.getElem_toArray, List.getElem_cons_zero, List.getElem_cons_succ, List.setIfInBounds_toArray, List.set_cons_zero, List.set_cons_succ]
          refine wpAnyH_take (i := 65) (oi := _) (v := undef) rfl (by kernel_rfl) (by kernel_rfl) (by kernel_rfl) (fun _ _ _ h => h) (Or.inr ⟨by rfl, rfl⟩) hHeld ?_
          try simp only [Act.put, List.getElem_toArray, List.getElem_cons_zero, List.getElem_cons_succ, List.setIfInBounds_toArray, List.set_cons_zero, List.set_cons_succ]
          refine wpAnyH_take (i := 66) (oi := _) (v := undef) rfl (by kernel_rfl) (by kernel_rfl) (by kernel_rfl) (fun _ _ _ h => h) (Or.inr ⟨by rfl, rfl⟩) hHeld ?_
          try simp only [Act.put, List.getElem_toArray, List.getElem_cons_zero, List.getElem_cons_succ, List.setIfInBounds_toArray, List.set_cons_zero, List.set_cons_succ]
          refine wpAnyH_take (i := 67) (oi := _) (v := undef) rfl (by kernel_rfl) (by kernel_rfl) (by kernel_rfl) (fun _ _ _ h => h) (Or.inr ⟨by rfl, rfl⟩) hHeld ?_
          try simp only [Act.put, List.getElem_toArray, List.getElem_cons_zero, List.getElem_cons_succ, List.setIfInBounds_toArray, List.set_cons_zero, List.set_cons_succ]
          refine wpAnyH_take (i := 68) (oi := _) (v := undef) rfl (by kernel_rfl) (by kernel_rfl) (by kernel_rfl) (fun _ _ _ h => h) (Or.inr ⟨by rfl, rfl⟩) hHeld ?_
          try simp only [Act.put, List.getElem_toArray, List.getElem_cons_zero, List.getElem_cons_succ, List.setIfInBounds_toArray, List.set_cons_zero, List.set_cons_succ]
          refine wpAnyH_take (i := 69) (oi := _) (v := undef) rfl (by kernel_rfl) (by kernel_rfl) (by kernel_rfl) (fun _ _ _ h => h) (Or.inr ⟨by rfl, rfl⟩) hHeld ?_
          try simp only [Act.put, List.getElem_toArray, List.getElem_cons_zero, List.getElem_cons_succ, List.setIfInBounds_toArray, List.set_cons_zero, List.set_cons_succ]
          refine wpAnyH_take (i := 70) (oi := _) (v := undef) rfl (by kernel_rfl) (by kernel_rfl) (by kernel_rfl) (fun _ _ _ h => h) (Or.inr ⟨by rfl, rfl⟩) hHeld ?_
          try simp only [Act.put, List.getElem_toArray, List.getElem_cons_zero, List.getElem_cons_succ, List.setIfInBounds_toArray, List.set_cons_zero, List.set_cons_succ]
          refine wpAnyH_take (i := 71) (oi := _) (v := undef) rfl (by kernel_rfl) (by kernel_rfl) (by kernel_rfl) (fun _ _ _ h => h) (Or.inr ⟨by rfl, rfl⟩) hHeld ?_
          try simp only [Act.put, List.getElem_toArray, List.getElem_cons_zero, List.getElem_cons_succ, List.setIfInBounds_toArray, List.set_cons_zero, List.set_cons_succ]
          refine wpAnyH_take (i := 72) (oi := _) (v := undef) rfl (by kernel_rfl) (by kernel_rfl) (by kernel_rfl) (fun _ _ _ h => h) (Or.inr ⟨by rfl, rfl⟩) hHeld ?_
          try simp only [Act.put, List.getElem_toArray, List.getElem_cons_zero, List.getElem_cons_succ, List.setIfInBounds_toArray, List.set_cons_zero, List.set_cons_succ]
          refine wpAnyH_take (i := 73) (oi := _) (v := undef) rfl (by kernel_rfl) (by kernel_rfl) (by kernel_rfl) (fun _ _ _ h => h) (Or.inr ⟨by rfl, rfl⟩) hHeld ?_
          try simp only [Act.put, List.getElem_toArray, List.getElem_cons_zero, List.getElem_cons_succ, List.setIfInBounds_toArray, List.set_cons_zero, List.set_cons_succ]
          refine wpAnyH_take (i := 74) (oi := _) (v := ?vkyAu5) rfl (by kernel_rfl) (by kernel_rfl) (by kernel_rfl) (fun _ _ _ h => h) (Or.inl ⟨by kernel_rfl, ?hykyAu5⟩) hHeld ?restkyAu5
          case hykyAu5 => (intro w hSw; (try dsimp only at hSw); go_simp; first | done | with_reducible rfl)
          try simp only [Act.put, List.getElem_toArray, List.getElem_cons_zero, List.getElem_cons_succ, List.setIfInBounds_toArray, List.set_cons_zero, List.set_cons_succ]
          refine wpAnyH_take (i := 75) (oi := _) (v := ?vkyAu6) rfl (by kernel_rfl) (by kernel_rfl) (by kernel_rfl) (fun _ _ _ h => h) (Or.inl ⟨by kernel_rfl, ?hykyAu6⟩) hHeld ?restkyAu6
          case hykyAu6 => (intro w hSw; (try dsimp only at hSw); go_simp; first | done | with_reducible rfl)
          try simp only [Act.put, List.getElem_toArray, List.getElem_cons_zero, List.getElem_cons_succ, List.setIfInBounds_toArray, List.set_cons_zero, List.set_cons_succ]
          refine wpAnyH_take (i := 76) (oi := _) (v := ?vkyAu7) rfl (by kernel_rfl) (by kernel_rfl) (by kernel_rfl) (fun _ _ _ h => h) (Or.inl ⟨by kernel_rfl, ?hykyAu7⟩) hHeld ?restkyAu7
          case hykyAu7 => (intro w hSw; (try dsimp only at hSw); go_simp; first | done | with_reducible rfl)
          try simp only [Act.put, List.getElem_toArray, List.getElem_cons_zero, List.getElem_cons_succ, List.setIfInBounds_toArray, List.set_cons_zero, List.set_cons_succ]
          refine wpAnyH_done (by kernel_rfl) ?_ _
          go_wp2
          go_ret
          exact ⟨rfl, HB0.out.trans ((thenB HBf.out (thenB (Below.refl _ _).drew bkyPv3)).mono HB0.out.size)⟩
      · cases b3
        rotate_left
        · skip
          as_aux_lemma =>
            refine wpAnyH_take (i := 47) (oi := _) (v := ?vkyBu1) rfl (by kernel_rfl) (by kernel_rfl) (by kernel_rfl) (fun _ _ _ h => h) (Or.inl ⟨by kernel_rfl, ?hykyBu1⟩) hHeld ?restkyBu1
            case hykyBu1 => (intro w hSw; (try dsimp only at hSw); go_simp; first | done | with_reducible rfl)
            try simp only [Act.put, List.getElem_toArray, List.getElem_cons_zero, List.getElem_cons_succ, List.setIfInBounds_toArray, List.set_cons_zero, List.set_cons_succ]
            refine wpAnyH_take (i := 48) (oi := _) (v := ?vkyBu2) rfl (by kernel_rfl) (by kernel_rfl) (by kernel_rfl) (fun _ _ _ h => h) (Or.inl ⟨by kernel_rfl, ?hykyBu2⟩) hHeld ?restkyBu2
            case hykyBu2 => (intro w hSw; (try dsimp only at hSw); go_simp; first | done | with_reducible rfl)
            try simp only [Act.put, List.getElem_toArray, List.getElem_cons_zero, List.getElem_cons_succ, List.setIfInBounds_toArray, List.set_cons_zero, List.set_cons_succ]
            refine wpAnyH_take (i := 49) (oi := _) (v := ?vkyBu3) rfl (by kernel_rfl) (by kernel_rfl) (by kernel_rfl) (fun _ _ _ h => h) (Or.inl ⟨by kernel_rfl, ?hykyBu3⟩) hHeld ?restkyBu3
            case hykyBu3 => (intro w hSw; (try dsimp only at hSw); go_simp; first | done | with_reducible rfl)
            try simp only [Act.put, List.getElem_toArray, List.getElem_cons_zero, List.getElem_cons_succ, List.setIfInBounds_toArray, List.set_cons_zero, List.set_cons_succ]
            refine wpAnyH_take (i := 50) (oi := _) (v := ?vkyBu4) rfl (by kernel_rfl) (by kernel_rfl) (by kernel_rfl) (fun _ _ _ h => h) (Or.inl ⟨by kernel_rfl, ?hykyBu4⟩) hHeld ?restkyBu4
            case hykyBu4 => (intro w hSw; (try dsimp only at hSw); go_simp; first | done | with_reducible rfl)
            try simp only [Act.put, List.getElem_toArray, List.getElem_cons_zero, List.getElem_cons_succ, List.setIfInBounds_toArray, List.set_cons_zero, List.set_cons_succ]
            refine wpAnyH_take (i := 51) (oi := _) (v := ?vkyBu5) rfl (by kernel_rfl) (by kernel_rfl) (by kernel_rfl) (fun _ _ _ h => h) (Or.inl ⟨by kernel_rfl, ?hykyBu5⟩) hHeld ?restkyBu5
            case hykyBu5 => (intro w hSw; (try dsimp only at hSw); go_simp; first | done | with_reducible rfl)
            try simp only [Act.put, List.getElem_toArray, List.getElem_cons_zero, List.getElem_cons_succ, List.setIfInBounds_toArray, List.set_cons_zero, List.set_cons_succ]
            refine wpAnyH_take (i := 52) (oi := _) (v := ?vkyBu6) rfl (by kernel_rfl) (by kernel_rfl) (by kernel_rfl) (fun _ _ _ h => h) (Or.inl ⟨by kernel_rfl, ?hykyBu6⟩) hHeld ?restkyBu6
            case hykyBu6 => (intro w hSw; (try dsimp only at hSw); go_simp; first | done | with_reducible rfl)
            try simp only [Act.put, List.getElem_toArray, List.getElem_cons_zero, List.getElem_cons_succ, List.setIfInBounds_toArray, List.set_cons_zero, List.set_cons_succ]
            refine wpAnyH_ready (rs := [53]) (by kernel_rfl) (by simp) ?_
            refine AllReadyH.cons (o := _) rfl (fun K0 hK0 => ?_) AllReadyH.nil
            go_simp
            go_at_call 21
            refine (CS3.out _ _ _ _ _ (HL2e.out.kept (thenB (Below.refl _ _).drew bkyPv3)) (HRKe.out.kept (thenB (Below.refl _ _).drew bkyPv3))).mono ?_
            rintro e wkyBv7 ⟨rfl, bkyBv7⟩
            refine hK0.out _ _ (K.out _ (thenB (thenB (Below.refl _ _).drew bkyPv3) bkyBv7)) (fun hHeld => ?_)
            clear hK0 K0
            try simp only [Act.put, List.getElem_toArray, List.getElem_cons_zero, List.getElem_cons_succ, List.setIfInBounds_toArray, List.set_cons_zero, List.set_cons_succ]
            refine wpAnyH_take (i := 54) (oi := _) (v := ?vkyBu8) rfl (by kernel_rfl) (by kernel_rfl) (by kernel_rfl) (fun _ _ _ h => h) (Or.inl ⟨by kernel_rfl, ?hykyBu8⟩) hHeld ?restkyBu8
            case hykyBu8 => (intro w hSw; (try dsimp only at hSw); go_simp; first | done | with_reducible rfl)
            try simp only [Act.put, List.getElem_toArray, List.getElem_cons_zero, List.getElem_cons_succ, List.setIfInBounds_toArray, List.set_cons_zero, List.set_cons_succ]
            refine wpAnyH_take (i := 55) (oi := _) (v := ?vkyBu9) rfl (by kernel_rfl) (by kernel_rfl) (by kernel_rfl) (fun _ _ _ h => h) (Or.inl ⟨by kernel_rfl, ?hykyBu9⟩) hHeld ?restkyBu9
            case hykyBu9 => (intro w hSw; (try dsimp only at hSw); go_simp; first | done | with_reducible rfl)
            try simp only [Act.put, List.getElem_toArray, List.getElem_cons_zero, List.getElem_cons_succ, List.setIfInBounds_toArray, List.set_cons_zero, List.set_cons_succ]
            refine wpAnyH_take (i := 56) (oi := _) (v := undef) rfl (by kernel_rfl) (by kernel_rfl) (by kernel_rfl) (fun _ _ _ h => h) (Or.inr ⟨by rfl, rfl⟩) hHeld ?_
            try simp only [Act.put, List.getElem_toArray, List.getElem_cons_zero, List.getElem_cons_succ, List.setIfInBounds_toArray, List.set_cons_zero, List.set_cons_succ]
            refine wpAnyH_take (i := 57) (oi := _) (v := undef) rfl (by kernel_rfl) (by kernel_rfl) (by kernel_rfl) (fun _ _ _ h => h) (Or.inr ⟨by rfl, rfl⟩) hHeld ?_
            try simp only [Act.put, List.getElem_toArray, List.getElem_cons_zero, List.getElem_cons_succ, List.setIfInBounds_toArray, List.set_cons_zero, List.set_cons_succ]
            refine wpAnyH_take (i := 58) (oi := _) (v := undef) rfl (by kernel_rfl) (by kernel_rfl) (by kernel_rfl) (fun _ _ _ h => h) (Or.inr ⟨by rfl, rfl⟩) hHeld ?_
            try simp only [Act.put, List.getElem_toArray, List.getElem_cons_zero, List.getElem_cons_succ, List.setIfInBounds_toArray, List.set_cons_zero, List.set_cons_succ]
            refine wpAnyH_take (i := 59) (oi := _) (v := undef) rfl (by kernel_rfl) (by kernel_rfl) (by kernel_rfl) (fun _ _ _ h => h) (Or.inr ⟨by rfl, rfl⟩) hHeld ?_
            try simp only [Act.put, List.getElem_toArray, List.getElem_cons_zero, List.getElem_cons_succ, List.setIfInBounds_toArray, List.set_cons_zero, List.set_cons_succ]
            refine wpAnyH_take (i := 60) (oi := _) (v := undef) rfl (by kernel_rfl) (by kernel_rfl) (by kernel_rfl) (fun _ _ _ h => h) (Or.inr ⟨by rfl, rfl⟩) hHeld ?_
            try simp only [Act.put, List.getElem_toArray, List.getElem_cons_zero, List.getElem_cons_succ, List.setIfInBounds_toArray, List.set_cons_zero, List.set_cons_succ]
            refine wpAnyH_take (i := 61) (oi := _) (v := undef) rfl (by kernel_rfl) (by kernel_rfl) (by kernel_rfl) (fun _ _ _ h => h) (Or.inr ⟨by rfl, rfl⟩) hHeld ?_
            try simp only [Act.put, List.getElem_toArray, List.getElem_cons_zero, List.getElem_cons_succ, List.setIfInBounds_toArray, List.set_cons_zero, List.set_cons_succ]
            refine wpAnyH_take (i := 62) (oi := _) (v := undef) rfl (by kernel_rfl) (by kernel_rfl) (by kernel_rfl) (fun _ _ _ h => h) (Or.inr ⟨by rfl, rfl⟩) hHeld ?_
            try simp only [Act.put, List.getElem_toArray, List.getElem_cons_zero, List.getElem_cons_succ, List.setIfInBounds_toArray, List.set_cons_zero, List.set_cons_succ]
            refine wpAnyH_take (i := 63) (oi := _) (v := ?vkyBu10) rfl (by kernel_rfl) (by kernel_rfl) (by kernel_rfl) (fun _ _ _ h => h) (Or.inl ⟨by kernel_rfl, ?hykyBu10⟩) hHeld ?restkyBu10
            case hykyBu10 => (intro w hSw; (try dsimp only at hSw); go_simp; first | done | with_reducible rfl)
            try simp only [Act.put, List.getElem_toArray, List.getElem_cons_zero, List.getElem_cons_succ, List.setIfInBounds_toArray, List.set_cons_zero, List.set_cons_succ]
            refine wpAnyH_take (i := 64) (oi := _) (v := ?vkyBu11) rfl (by kernel_rfl) (by kernel_rfl) (by kernel_rfl) (fun _ _ _ h => h) (Or.inl ⟨by kernel_rfl, ?hykyBu11⟩) hHeld ?restkyBu11
            case hykyBu11 => (intro w hSw; (try dsimp only at hSw); go_simp; first | done | with_reducible rfl)
            try simp only [Act.put, List.getElem_toArray, List.getElem_cons_zero, List.getElem_cons_succ, List.setIfInBounds_toArray, List.set_cons_zero, List.set_cons_succ]
            refine wpAnyH_take (i := 65) (oi := _) (v := undef) rfl (by kernel_rfl) (by kernel_rfl) (by kernel_rfl) (fun _ _ _ h => h) (Or.inr ⟨by rfl, rfl⟩) hHeld ?_
            try simp only [Act.put, List.getElem_toArray, List.getElem_cons_zero, List.getElem_cons_succ, List.setIfInBounds_toArray, List.set_cons_zero, List.set_cons_succ]
            refine wpAnyH_take (i := 66) (oi := _) (v := undef) rfl (by kernel_rfl) (by kernel_rfl) (by kernel_rfl) (fun _ _ _ h => h) (Or.inr ⟨by rfl, rfl⟩) hHeld ?_
            try simp only [Act.put, List.getElem_toArray, List.getElem_cons_zero, List.getElem_cons_succ, List.setIfInBounds_toArray, List.set_cons_zero, List.set_cons_succ]
            refine wpAnyH_take (i := 67) (oi := _) (v := undef) rfl (by kernel_rfl) (by kernel_rfl) (by kernel_rfl) (fun _ _ _ h => h) (Or.inr ⟨by rfl, rfl⟩) hHeld ?_
            try simp only [Act.put, List.getElem_toArray, List.getElem_cons_zero, List.getElem_cons_succ, List.setIfInBounds_toArray, List.set_cons_zero, List.set_cons_succ]
            refine wpAnyH_take (i := 68) (oi := _) (v := undef) rfl (by kernel_rfl) (by kernel_rfl) (by kernel_rfl) (fun _ _ _ h => h) (Or.inr ⟨by rfl, rfl⟩) hHeld ?_
            try simp only [Act.put, List.getElem_toArray, List.getElem_cons_zero, List.getElem_cons_succ, List.setIfInBounds_toArray, List.set_cons_zero, List.set_cons_succ]
            refine wpAnyH_take (i := 69) (oi := _) (v := undef) rfl (by kernel_rfl) (by kernel_rfl) (by kernel_rfl) (fun _ _ _ h => h) (Or.inr ⟨by rfl, rfl⟩) hHeld ?_
            try simp only [Act.put, List.getElem_toArray, List.getElem_cons_zero, List.getElem_cons_succ, List.setIfInBounds_toArray, List.set_cons_zero, List.set_cons_succ]
            refine wpAnyH_take (i := 70) (oi := _) (v := undef) rfl (by kernel_rfl) (by kernel_rfl) (by kernel_rfl) (fun _ _ _ h => h) (Or.inr ⟨by rfl, rfl⟩) hHeld ?_
            try simp only [Act.put, List.getElem_toArray, List.getElem_cons_zero, List.getElem_cons_succ, List.setIfInBounds_toArray, List.set_cons_zero, List.set_cons_succ]
            refine wpAnyH_take (i := 71) (oi := _) (v := undef) rfl (by kernel_rfl) (by kernel_rfl) (by kernel_rfl) (fun _ _ _ h => h) (Or.inr ⟨by rfl, rfl⟩) hHeld ?_
            try simp only [Act.put, List.getElem_toArray, List.getElem_cons_zero, List.getElem_cons_succ, List.setIfInBounds_toArray, List.set_cons_zero, List.set_cons_succ]
            refine wpAnyH_take (i := 72) (oi := _) (v := undef) rfl (by kernel_rfl) (by kernel_rfl) (by kernel_rfl) (fun _ _ _ h => h) (Or.inr ⟨by rfl, rfl⟩) hHeld ?_
            try simp only [Act.put, List.getElem_toArray, List.getElem_cons_zero, List.getElem_cons_succ, List.setIfInBounds_toArray, List.set_cons_zero, List.set_cons_succ]
            refine wpAnyH_take (i := 73) (oi := _) (v := undef) rfl (by kernel_rfl) (by kernel_rfl) (by kernel_rfl) (fun _ _ _ h => h) (Or.inr ⟨by rfl, rfl⟩) hHeld ?_
            try simp only [Act.put, List.getElem_toArray, List.getElem_cons_zero, List.getElem_cons_succ, List.setIfInBounds_toArray, List.set_cons_zero, List.set_cons_succ]
            refine wpAnyH_take (i := 74) (oi := _) (v := ?vkyBu12) rfl (by kernel_rfl) (by kernel_rfl) (by kernel_rfl) (fun _ _ _ h => h) (Or.inl ⟨by kernel_rfl, ?hykyBu12⟩) hHeld ?restkyBu12
            case hykyBu12 => (intro w hSw; (try dsimp only at hSw); go_simp; first | done | with_reducible rfl)
            try simp only [Act.put, List.getElem_toArray, List.getElem_cons_zero, List.getElem_cons_succ, List.setIfInBounds_toArray, List.set_cons_zero, List.set_cons_succ]
            refine wpAnyH_take (i := 75) (oi := _) (v := ?vkyBu13) rfl (by kernel_rfl) (by kernel_rfl) (by kernel_rfl) (fun _ _ _ h => h) (Or.inl ⟨by kernel_rfl, ?hykyBu13⟩) hHeld ?restkyBu13
            case hykyBu13 => (intro w hSw; (try dsimp only at hSw); go_simp; first | done | with_reducible rfl)
            try simp only [Act.put, List.getElem_toArray, List.getElem_cons_zero, List.getElem_cons_succ, List.setIfInBounds_toArray, List.set_cons_zero, List.set_cons_succ]
            refine wpAnyH_take (i := 76) (oi := _) (v := ?vkyBu14) rfl (by kernel_rfl) (by kernel_rfl) (by kernel_rfl) (fun _ _ _ h => h) (Or.inl ⟨by kernel_rfl, ?hykyBu14⟩) hHeld ?restkyBu14
            case hykyBu14 => (intro w hSw; (try dsimp only at hSw); go_simp; first | done | with_reducible rfl)
            try simp only [Act.put, List.getElem_toArray, List.getElem_cons_zero, List.getElem_cons_succ, List.setIfInBounds_toArray, List.set_cons_zero, List.set_cons_succ]
            refine wpAnyH_done (by kernel_rfl) ?_ _
            go_wp2
            go_ret
            exact ⟨rfl, HB0.out.trans ((thenB HBf.out (thenB (thenB (Below.refl _ _).drew bkyPv3) bkyBv7)).mono HB0.out.size)⟩
        · cases b4
          rotate_left
          · skip
            as_aux_lemma =>
              refine wpAnyH_take (i := 47) (oi := _) (v := ?vkyCu1) rfl (by kernel_rfl) (by kernel_rfl) (by kernel_rfl) (fun _ _ _ h => h) (Or.inl ⟨by kernel_rfl, ?hykyCu1⟩) hHeld ?restkyCu1
              case hykyCu1 => (intro w hSw; (try dsimp only at hSw); go_simp; first | done | with_reducible rfl)
              try simp only [Act.put, List.getElem_toArray, List.getElem_cons_zero, List.getElem_cons_succ, List.setIfInBounds_toArray, List.set_cons_zero, List.set_cons_succ]
              refine wpAnyH_take (i := 48) (oi := _) (v := ?vkyCu2) rfl (by kernel_rfl) (by kernel_rfl) (by kernel_rfl) (fun _ _ _ h => h) (Or.inl ⟨by kernel_rfl, ?hykyCu2⟩) hHeld ?restkyCu2
              case hykyCu2 => (intro w hSw; (try dsimp only at hSw); go_simp; first | done | with_reducible rfl)
              try simp only [Act.put, List.getElem_toArray, List.getElem_cons_zero, List.getElem_cons_succ, List.setIfInBounds_toArray, List.set_cons_zero, List.set_cons_succ]
              refine wpAnyH_take (i := 49) (oi := _) (v := ?vkyCu3) rfl (by kernel_rfl) (by kernel_rfl) (by kernel_rfl) (fun _ _ _ h => h) (Or.inl ⟨by kernel_rfl, ?hykyCu3⟩) hHeld ?restkyCu3
              case hykyCu3 => (intro w hSw; (try dsimp only at hSw); go_simp; first | done | with_reducible rfl)
              try simp only [Act.put, List.getElem_toArray, List.getElem_cons_zero, List.getElem_cons_succ, List.setIfInBounds_toArray, List.set_cons_zero, List.set_cons_succ]
              refine wpAnyH_take (i := 50) (oi := _) (v := ?vkyCu4) rfl (by kernel_rfl) (by kernel_rfl) (by kernel_rfl) (fun _ _ _ h => h) (Or.inl ⟨by kernel_rfl, ?hykyCu4⟩) hHeld ?restkyCu4
              case hykyCu4 => (intro w hSw; (try dsimp only at hSw); go_simp; first | done | with_reducible rfl)
              try simp only [Act.put, List.getElem_toArray, List.getElem_cons_zero, List.getElem_cons_succ, List.setIfInBounds_toArray, List.set_cons_zero, List.set_cons_succ]
              refine wpAnyH_take (i := 51) (oi := _) (v := ?vkyCu5) rfl (by kernel_rfl) (by kernel_rfl) (by kernel_rfl) (fun _ _ _ h => h) (Or.inl ⟨by kernel_rfl, ?hykyCu5⟩) hHeld ?restkyCu5
              case hykyCu5 => (intro w hSw; (try dsimp only at hSw); go_simp; first | done | with_reducible rfl)
              try simp only [Act.put, List.getElem_toArray, List.getElem_cons_zero, List.getElem_cons_succ, List.setIfInBounds_toArray, List.set_cons_zero, List.set_cons_succ]
              refine wpAnyH_take (i := 52) (oi := _) (v := ?vkyCu6) rfl (by kernel_rfl) (by kernel_rfl) (by kernel_rfl) (fun _ _ _ h => h) (Or.inl ⟨by kernel_rfl, ?hykyCu6⟩) hHeld ?restkyCu6
              case hykyCu6 => (intro w hSw; (try dsimp only at hSw); go_simp; first | done | with_reducible rfl)
              try simp only [Act.put, List.getElem_toArray, List.getElem_cons_zero, List.getElem_cons_succ, List.setIfInBounds_toArray, List.set_cons_zero, List.set_cons_succ]
              refine wpAnyH_ready (rs := [53]) (by kernel_rfl) (by simp) ?_
              refine AllReadyH.cons (o := _) rfl (fun K0 hK0 => ?_) AllReadyH.nil
              go_simp
              go_at_call 21
              refine (CS3.out _ _ _ _ _ (HL2e.out.kept (thenB (Below.refl _ _).drew bkyPv3)) (HRKe.out.kept (thenB (Below.refl _ _).drew bkyPv3))).mono ?_
              rintro e wkyCv7 ⟨rfl, bkyCv7⟩
              refine hK0.out _ _ (K.out _ (thenB (thenB (Below.refl _ _).drew bkyPv3) bkyCv7)) (fun hHeld => ?_)
              clear hK0 K0
              try simp only [Act.put, List.getElem_toArray, List.getElem_cons_zero, List.getElem_cons_succ, List.setIfInBounds_toArray, List.set_cons_zero, List.set_cons_succ]
              refine wpAnyH_take (i := 54) (oi := _) (v := ?vkyCu8) rfl (by kernel_rfl) (by kernel_rfl) (by kernel_rfl) (fun _ _ _ h => h) (Or.inl ⟨by kernel_rfl, ?hykyCu8⟩) hHeld ?restkyCu8
              case hykyCu8 => (intro w hSw; (try dsimp only at hSw); go_simp; first | done | with_reducible rfl)
              try simp only [Act.put, List.getElem_toArray, List.getElem_cons_zero, List.getElem_cons_succ, List.setIfInBounds_toArray, List.set_cons_zero, List.set_cons_succ]
              refine wpAnyH_take (i := 55) (oi := _) (v := ?vkyCu9) rfl (by kernel_rfl) (by kernel_rfl) (by kernel_rfl) (fun _ _ _ h => h) (Or.inl ⟨by kernel_rfl, ?hykyCu9⟩) hHeld ?restkyCu9
              case hykyCu9 => (intro w hSw; (try dsimp only at hSw); go_simp; first | done | with_reducible rfl)
              try simp only [Act.put, List.getElem_toArray, List.getElem_cons_zero, List.getElem_cons_succ, List.setIfInBounds_toArray, List.set_cons_zero, List.set_cons_succ]
              refine wpAnyH_take (i := 56) (oi := _) (v := ?vkyCu10) rfl (by kernel_rfl) (by kernel_rfl) (by kernel_rfl) (fun _ _ _ h => h) (Or.inl ⟨by kernel_rfl, ?hykyCu10⟩) hHeld ?restkyCu10
              case hykyCu10 => (intro w hSw; (try dsimp only at hSw); go_simp; first | done | with_reducible rfl)
              try simp only [Act.put, List.getElem_toArray, List.getElem_cons_zero, List.getElem_cons_succ, List.setIfInBounds_toArray, List.set_cons_zero, List.set_cons_succ]
              refine wpAnyH_take (i := 57) (oi := _) (v := ?vkyCu11) rfl (by kernel_rfl) (by kernel_rfl) (by kernel_rfl) (fun _ _ _ h => h) (Or.inl ⟨by kernel_rfl, ?hykyCu11⟩) hHeld ?restkyCu11
              case hykyCu11 => (intro w hSw; (try dsimp only at hSw); go_simp; first | done | with_reducible rfl)
              try simp only [Act.put, List.getElem_toArray, List.getElem_cons_zero, List.getElem_cons_succ, List.setIfInBounds_toArray, List.set_cons_zero, List.set_cons_succ]
              refine wpAnyH_take (i := 58) (oi := _) (v := ?vkyCu12) rfl (by kernel_rfl) (by kernel_rfl) (by kernel_rfl) (fun _ _ _ h => h) (Or.inl ⟨by kernel_rfl, ?hykyCu12⟩) hHeld ?restkyCu12
              case hykyCu12 => (intro w hSw; (try dsimp only at hSw); go_simp; first | done | with_reducible rfl)
              try simp only [Act.put, List.getElem_toArray, List.getElem_cons_zero, List.getElem_cons_succ, List.setIfInBounds_toArray, List.set_cons_zero, List.set_cons_succ]
              refine wpAnyH_take (i := 59) (oi := _) (v := ?vkyCu13) rfl (by kernel_rfl) (by kernel_rfl) (by kernel_rfl) (fun _ _ _ h => h) (Or.inl ⟨by kernel_rfl, ?hykyCu13⟩) hHeld ?restkyCu13
              case hykyCu13 => (intro w hSw; (try dsimp only at hSw); go_simp; first | done | with_reducible rfl)
              try simp only [Act.put, List.getElem_toArray, List.getElem_cons_zero, List.getElem_cons_succ, List.setIfInBounds_toArray, List.set_cons_zero, List.set_cons_succ]
              refine wpAnyH_take (i := 60) (oi := _) (v := ?vkyCu14) rfl (by kernel_rfl) (by kernel_rfl) (by kernel_rfl) (fun _ _ _ h => h) (Or.inl ⟨by kernel_rfl, ?hykyCu14⟩) hHeld ?restkyCu14
              case hykyCu14 => (intro w hSw; (try dsimp only at hSw); go_simp; first | done | with_reducible rfl)
              try simp only [Act.put, List.getElem_toArray, List.getElem_cons_zero, List.getElem_cons_succ, List.setIfInBounds_toArray, List.set_cons_zero, List.set_cons_succ]
              refine wpAnyH_take (i := 61) (oi := _) (v := ?vkyCu15) rfl (by kernel_rfl) (by kernel_rfl) (by kernel_rfl) (fun _ _ _ h => h) (Or.inl ⟨by kernel_rfl, ?hykyCu15⟩) hHeld ?restkyCu15
              case hykyCu15 => (intro w hSw; (try dsimp only at hSw); go_simp; first | done | with_reducible rfl)
              try simp only [Act.put, List.getElem_toArray, List.getElem_cons_zero, List.getElem_cons_succ, List.setIfInBounds_toArray, List.set_cons_zero, List.set_cons_succ]
              refine wpAnyH_ready (rs := [62]) (by kernel_rfl) (by simp) ?_
              refine AllReadyH.cons (o := _) rfl (fun K0 hK0 => ?_) AllReadyH.nil
              go_simp
              go_at_call 19
              refine (CD4.out _ _ _ _ _ (HL2e.out.kept (thenB (thenB (Below.refl _ _).drew bkyPv3) bkyCv7)) (HRKe.out.kept (thenB (thenB (Below.refl _ _).drew bkyPv3) bkyCv7))).mono ?_
              rintro e wkyCv16 ⟨rfl, bkyCv16⟩
              refine hK0.out _ _ (K.out _ (thenB (thenB (thenB (Below.refl _ _).drew bkyPv3) bkyCv7) bkyCv16)) (fun hHeld => ?_)
              clear hK0 K0
              try simp only [Act.put, List.getElem_toArray, List.getElem_cons_zero, List.getElem_cons_succ, List.setIfInBounds_toArray, List.set_cons_zero, List.set_cons_succ]
              refine wpAnyH_take (i := 63) (oi := _) (v := ?vkyCu17) rfl (by kernel_rfl) (by kernel_rfl) (by kernel_rfl) (fun _ _ _ h => h) (Or.inl ⟨by kernel_rfl, ?hykyCu17⟩) hHeld ?restkyCu17
              case hykyCu17 => (intro w hSw; (try dsimp only at hSw); go_simp; first | done | with_reducible rfl)
              try simp only [Act.put, List.getElem_toArray, List.getElem_cons_zero, List.getElem_cons_succ, List.setIfInBounds_toArray, List.set_cons_zero, List.set_cons_succ]
              refine wpAnyH_take (i := 64) (oi := _) (v := ?vkyCu18) rfl (by kernel_rfl) (by kernel_rfl) (by kernel_rfl) (fun _ _ _ h => h) (Or.inl ⟨by kernel_rfl, ?hykyCu18⟩) hHeld ?restkyCu18
              case hykyCu18 => (intro w hSw; (try dsimp only at hSw); go_simp; first | done | with_reducible rfl)
              try simp only [Act.put, List.getElem_toArray, List.getElem_cons_zero, List.getElem_cons_succ, List.setIfInBounds_toArray, List.set_cons_zero, List.set_cons_succ]
              refine wpAnyH_take (i := 65) (oi := _) (v := undef) rfl (by kernel_rfl) (by kernel_rfl) (by kernel_rfl) (fun _ _ _ h => h) (Or.inr ⟨by rfl, rfl⟩) hHeld ?_
              try simp only [Act.put, List.getElem_toArray, List.getElem_cons_zero, List.getElem_cons_succ, List.setIfInBounds_toArray, List.set_cons_zero, List.set_cons_succ]
              refine wpAnyH_take (i := 66) (oi := _) (v := undef) rfl (by kernel_rfl) (by kernel_rfl) (by kernel_rfl) (fun _ _ _ h => h) (Or.inr ⟨by rfl, rfl⟩) hHeld ?_
              try simp only [Act.put, List.getElem_toArray, List.getElem_cons_zero, List.getElem_cons_succ, List.setIfInBounds_toArray, List.set_cons_zero, List.set_cons_succ]
              refine wpAnyH_take (i := 67) (oi := _) (v := undef) rfl (by kernel_rfl) (by kernel_rfl) (by kernel_rfl) (fun _ _ _ h => h) (Or.inr ⟨by rfl, rfl⟩) hHeld ?_
              try simp only [Act.put, List.getElem_toArray, List.getElem_cons_zero, List.getElem_cons_succ, List.setIfInBounds_toArray, List.set_cons_zero, List.set_cons_succ]
              refine wpAnyH_take (i := 68) (oi := _) (v := undef) rfl (by kernel_rfl) (by kernel_rfl) (by kernel_rfl) (fun _ _ _ h => h) (Or.inr ⟨by rfl, rfl⟩) hHeld ?_
              try simp only [Act.put, List.getElem_toArray, List.getElem_cons_zero, List.getElem_cons_succ, List.setIfInBounds_toArray, List.set_cons_zero, List.set_cons_succ]
              refine wpAnyH_take (i := 69) (oi := _) (v := undef) rfl (by kernel_rfl) (by kernel_rfl) (by kernel_rfl) (fun _ _ _ h => h) (Or.inr ⟨by rfl, rfl⟩) hHeld ?_
              try simp only [Act.put, List.getElem_toArray, List.getElem_cons_zero, List.getElem_cons_succ, List.setIfInBounds_toArray, List.set_cons_zero, List.set_cons_succ]
              refine wpAnyH_take (i := 70) (oi := _) (v := undef) rfl (by kernel_rfl) (by kernel_rfl) (by kernel_rfl) (fun _ _ _ h => h) (Or.inr ⟨by rfl, rfl⟩) hHeld ?_
              try simp only [Act.put, List.getElem_toArray, List.getElem_cons_zero, List.getElem_cons_succ, List.setIfInBounds_toArray, List.set_cons_zero, List.set_cons_succ]
              refine wpAnyH_take (i := 71) (oi := _) (v := undef) rfl (by kernel_rfl) (by kernel_rfl) (by kernel_rfl) (fun _ _ _ h => h) (Or.inr ⟨by rfl, rfl⟩) hHeld ?_
              try simp only [Act.put, List.getElem_toArray, List.getElem_cons_zero, List.getElem_cons_succ, List.setIfInBounds_toArray, List.set_cons_zero, List.set_cons_succ]
              refine wpAnyH_take (i := 72) (oi := _) (v := undef) rfl (by kernel_rfl) (by kernel_rfl) (by kernel_rfl) (fun _ _ _ h => h) (Or.inr ⟨by rfl, rfl⟩) hHeld ?_
              try simp only [Act.put, List.getElem_toArray, List.getElem_cons_zero, List.getElem_cons_succ, List.setIfInBounds_toArray, List.set_cons_zero, List.set_cons_succ]
              refine wpAnyH_take (i := 73) (oi := _) (v := undef) rfl (by kernel_rfl) (by kernel_rfl) (by kernel_rfl) (fun _ _ _ h => h) (Or.inr ⟨by rfl, rfl⟩) hHeld ?_
              try simp only [Act.put, List.getElem_toArray, List.getElem_cons_zero, List.getElem_cons_succ, List.setIfInBounds_toArray, List.set_cons_zero, List.set_cons_succ]
              refine wpAnyH_take (i := 74) (oi := _) (v := ?vkyCu19) rfl (by kernel_rfl) (by kernel_rfl) (by kernel_rfl) (fun _ _ _ h => h) (Or.inl ⟨by kernel_rfl, ?hykyCu19⟩) hHeld ?restkyCu19
              case hykyCu19 => (intro w hSw; (try dsimp only at hSw); go_simp; first | done | with_reducible rfl)
              try simp only [Act.put, List.getElem_toArray, List.getElem_cons_zero, List.getElem_cons_succ, List.setIfInBounds_toArray, List.set_cons_zero, List.set_cons_succ]
              refine wpAnyH_take (i := 75) (oi := _) (v := ?vkyCu20) rfl (by kernel_rfl) (by kernel_rfl) (by kernel_rfl) (fun _ _ _ h => h) (Or.inl ⟨by kernel_rfl, ?hykyCu20⟩) hHeld ?restkyCu20
              case hykyCu20 => (intro w hSw; (try dsimp only at hSw); go_simp; first | done | with_reducible rfl)
              try simp only [Act.put, List.getElem_toArray, List.getElem_cons_zero, List.getElem_cons_succ, List.setIfInBounds_toArray, List.set_cons_zero, List.set_cons_succ]
              refine wpAnyH_take (i := 76) (oi := _) (v := ?vkyCu21) rfl (by kernel_rfl) (by kernel_rfl) (by kernel_rfl) (fun _ _ _ h => h) (Or.inl ⟨by kernel_rfl, ?hykyCu21⟩) hHeld ?restkyCu21
              case hykyCu21 => (intro w hSw; (try dsimp only at hSw); go_simp; first | done | with_reducible rfl)
              try simp only [Act.put, List.getElem_toArray, List.getElem_cons_zero, List.getElem_cons_succ, List.setIfInBounds_toArray, List.set_cons_zero, List.set_cons_succ]
              refine wpAnyH_done (by kernel_rfl) ?_ _
              go_wp2
              go_ret
              exact ⟨rfl, HB0.out.trans ((thenB HBf.out (thenB (thenB (thenB (Below.refl _ _).drew bkyPv3) bkyCv7) bkyCv16)).mono HB0.out.size)⟩
          · have hin : inL (opL l2 kn) ko = true := by rcases hcl with h | h | h; cases h; cases h; exact h
            rw [hin] at CHS
            as_aux_lemma =>
              refine wpAnyH_take (i := 47) (oi := _) (v := ?vkyDu1) rfl (by kernel_rfl) (by kernel_rfl) (by kernel_rfl) (fun _ _ _ h => h) (Or.inl ⟨by kernel_rfl, ?hykyDu1⟩) hHeld ?restkyDu1
              case hykyDu1 => (intro w hSw; (try dsimp only at hSw); go_simp; first | done | with_reducible rfl)
              try simp only [Act.put, List.getElem_toArray, List.getElem_cons_zero, List.getElem_cons_succ, List.setIfInBounds_toArray, List.set_cons_zero, List.set_cons_succ]
              refine wpAnyH_take (i := 48) (oi := _) (v := ?vkyDu2) rfl (by kernel_rfl) (by kernel_rfl) (by kernel_rfl) (fun _ _ _ h => h) (Or.inl ⟨by kernel_rfl, ?hykyDu2⟩) hHeld ?restkyDu2
              case hykyDu2 => (intro w hSw; (try dsimp only at hSw); go_simp; first | done | with_reducible rfl)
              try simp only [Act.put, List.getElem_toArray, List.getElem_cons_zero, List.getElem_cons_succ, List.setIfInBounds_toArray, List.set_cons_zero, List.set_cons_succ]
              refine wpAnyH_take (i := 49) (oi := _) (v := ?vkyDu3) rfl (by kernel_rfl) (by kernel_rfl) (by kernel_rfl) (fun _ _ _ h => h) (Or.inl ⟨by kernel_rfl, ?hykyDu3⟩) hHeld ?restkyDu3
              case hykyDu3 => (intro w hSw; (try dsimp only at hSw); go_simp; first | done | with_reducible rfl)
              try simp only [Act.put, List.getElem_toArray, List.getElem_cons_zero, List.getElem_cons_succ, List.setIfInBounds_toArray, List.set_cons_zero, List.set_cons_succ]
              refine wpAnyH_take (i := 50) (oi := _) (v := ?vkyDu4) rfl (by kernel_rfl) (by kernel_rfl) (by kernel_rfl) (fun _ _ _ h => h) (Or.inl ⟨by kernel_rfl, ?hykyDu4⟩) hHeld ?restkyDu4
              case hykyDu4 => (intro w hSw; (try dsimp only at hSw); go_simp; first | done | with_reducible rfl)
              try simp only [Act.put, List.getElem_toArray, List.getElem_cons_zero, List.getElem_cons_succ, List.setIfInBounds_toArray, List.set_cons_zero, List.set_cons_succ]
              refine wpAnyH_take (i := 51) (oi := _) (v := ?vkyDu5) rfl (by kernel_rfl) (by kernel_rfl) (by kernel_rfl) (fun _ _ _ h => h) (Or.inl ⟨by kernel_rfl, ?hykyDu5⟩) hHeld ?restkyDu5
              case hykyDu5 => (intro w hSw; (try dsimp only at hSw); go_simp; first | done | with_reducible rfl)
              try simp only [Act.put, List.getElem_toArray, List.getElem_cons_zero, List.getElem_cons_succ, List.setIfInBounds_toArray, List.set_cons_zero, List.set_cons_succ]
              refine wpAnyH_take (i := 52) (oi := _) (v := ?vkyDu6) rfl (by kernel_rfl) (by kernel_rfl) (by kernel_rfl) (fun _ _ _ h => h) (Or.inl ⟨by kernel_rfl, ?hykyDu6⟩) hHeld ?restkyDu6
              case hykyDu6 => (intro w hSw; (try dsimp only at hSw); go_simp; first | done | with_reducible rfl)
              try simp only [Act.put, List.getElem_toArray, List.getElem_cons_zero, List.getElem_cons_succ, List.setIfInBounds_toArray, List.set_cons_zero, List.set_cons_succ]
              refine wpAnyH_ready (rs := [53]) (by kernel_rfl) (by simp) ?_
              refine AllReadyH.cons (o := _) rfl (fun K0 hK0 => ?_) AllReadyH.nil
              go_simp
              go_at_call 21
              refine (CS3.out _ _ _ _ _ (HL2e.out.kept (thenB (Below.refl _ _).drew bkyPv3)) (HRKe.out.kept (thenB (Below.refl _ _).drew bkyPv3))).mono ?_
              rintro e wkyDv7 ⟨rfl, bkyDv7⟩
              refine hK0.out _ _ (K.out _ (thenB (thenB (Below.refl _ _).drew bkyPv3) bkyDv7)) (fun hHeld => ?_)
              clear hK0 K0
              try simp only [Act.put, List.getElem_toArray, List.getElem_cons_zero, List.getElem_cons_succ, List.setIfInBounds_toArray, List.set_cons_zero, List.set_cons_succ]
              refine wpAnyH_take (i := 54) (oi := _) (v := ?vkyDu8) rfl (by kernel_rfl) (by kernel_rfl) (by kernel_rfl) (fun _ _ _ h => h) (Or.inl ⟨by kernel_rfl, ?hykyDu8⟩) hHeld ?restkyDu8
              case hykyDu8 => (intro w hSw; (try dsimp only at hSw); go_simp; first | done | with_reducible rfl)
              try simp only [Act.put, List.getElem_toArray, List.getElem_cons_zero, List.getElem_cons_succ, List.setIfInBounds_toArray, List.set_cons_zero, List.set_cons_succ]
              refine wpAnyH_take (i := 55) (oi := _) (v := ?vkyDu9) rfl (by kernel_rfl) (by kernel_rfl) (by kernel_rfl) (fun _ _ _ h => h) (Or.inl ⟨by kernel_rfl, ?hykyDu9⟩) hHeld ?restkyDu9
              case hykyDu9 => (intro w hSw; (try dsimp only at hSw); go_simp; first | done | with_reducible rfl)
              try simp only [Act.put, List.getElem_toArray, List.getElem_cons_zero, List.getElem_cons_succ, List.setIfInBounds_toArray, List.set_cons_zero, List.set_cons_succ]
              refine wpAnyH_take (i := 56) (oi := _) (v := ?vkyDu10) rfl (by kernel_rfl) (by kernel_rfl) (by kernel_rfl) (fun _ _ _ h => h) (Or.inl ⟨by kernel_rfl, ?hykyDu10⟩) hHeld ?restkyDu10
              case hykyDu10 => (intro w hSw; (try dsimp only at hSw); go_simp; first | done | with_reducible rfl)
              try simp only [Act.put, List.getElem_toArray, List.getElem_cons_zero, List.getElem_cons_succ, List.setIfInBounds_toArray, List.set_cons_zero, List.set_cons_succ]
              refine wpAnyH_take (i := 57) (oi := _) (v := ?vkyDu11) rfl (by kernel_rfl) (by kernel_rfl) (by kernel_rfl) (fun _ _ _ h => h) (Or.inl ⟨by kernel_rfl, ?hykyDu11⟩) hHeld ?restkyDu11
              case hykyDu11 => (intro w hSw; (try dsimp only at hSw); go_simp; first | done | with_reducible rfl)
              try simp only [Act.put, List.getElem_toArray, List.getElem_cons_zero, List.getElem_cons_succ, List.setIfInBounds_toArray, List.set_cons_zero, List.set_cons_succ]
              refine wpAnyH_take (i := 58) (oi := _) (v := ?vkyDu12) rfl (by kernel_rfl) (by kernel_rfl) (by kernel_rfl) (fun _ _ _ h => h) (Or.inl ⟨by kernel_rfl, ?hykyDu12⟩) hHeld ?restkyDu12
              case hykyDu12 => (intro w hSw; (try dsimp only at hSw); go_simp; first | done | with_reducible rfl)
              try simp only [Act.put, List.getElem_toArray, List.getElem_cons_zero, List.getElem_cons_succ, List.setIfInBounds_toArray, List.set_cons_zero, List.set_cons_succ]
              refine wpAnyH_take (i := 59) (oi := _) (v := ?vkyDu13) rfl (by kernel_rfl) (by kernel_rfl) (by kernel_rfl) (fun _ _ _ h => h) (Or.inl ⟨by kernel_rfl, ?hykyDu13⟩) hHeld ?restkyDu13
              case hykyDu13 => (intro w hSw; (try dsimp only at hSw); go_simp; first | done | with_reducible rfl)
              try simp only [Act.put, List.getElem_toArray, List.getElem_cons_zero, List.getElem_cons_succ, List.setIfInBounds_toArray, List.set_cons_zero, List.set_cons_succ]
              refine wpAnyH_take (i := 60) (oi := _) (v := ?vkyDu14) rfl (by kernel_rfl) (by kernel_rfl) (by kernel_rfl) (fun _ _ _ h => h) (Or.inl ⟨by kernel_rfl, ?hykyDu14⟩) hHeld ?restkyDu14
              case hykyDu14 => (intro w hSw; (try dsimp only at hSw); go_simp; first | done | with_reducible rfl)
              try simp only [Act.put, List.getElem_toArray, List.getElem_cons_zero, List.getElem_cons_succ, List.setIfInBounds_toArray, List.set_cons_zero, List.set_cons_succ]
              refine wpAnyH_take (i := 61) (oi := _) (v := ?vkyDu15) rfl (by kernel_rfl) (by kernel_rfl) (by kernel_rfl) (fun _ _ _ h => h) (Or.inl ⟨by kernel_rfl, ?hykyDu15⟩) hHeld ?restkyDu15
              case hykyDu15 => (intro w hSw; (try dsimp only at hSw); go_simp; first | done | with_reducible rfl)
              try simp only [Act.put, List.getElem_toArray, List.getElem_cons_zero, List.getElem_cons_succ, List.setIfInBounds_toArray, List.set_cons_zero, List.set_cons_succ]
              refine wpAnyH_ready (rs := [62]) (by kernel_rfl) (by simp) ?_
              refine AllReadyH.cons (o := _) rfl (fun K0 hK0 => ?_) AllReadyH.nil
              go_simp
              go_at_call 19
              refine (CD4.out _ _ _ _ _ (HL2e.out.kept (thenB (thenB (Below.refl _ _).drew bkyPv3) bkyDv7)) (HRKe.out.kept (thenB (thenB (Below.refl _ _).drew bkyPv3) bkyDv7))).mono ?_
              rintro e wkyDv16 ⟨rfl, bkyDv16⟩
              refine hK0.out _ _ (K.out _ (thenB (thenB (thenB (Below.refl _ _).drew bkyPv3) bkyDv7) bkyDv16)) (fun hHeld => ?_)
              clear hK0 K0
              try simp only [Act.put, List.getElem_toArray, List.getElem_cons_zero, List.getElem_cons_succ, List.setIfInBounds_toArray, List.set_cons_zero, List.set_cons_succ]
              refine wpAnyH_take (i := 63) (oi := _) (v := ?vkyDu17) rfl (by kernel_rfl) (by kernel_rfl) (by kernel_rfl) (fun _ _ _ h => h) (Or.inl ⟨by kernel_rfl, ?hykyDu17⟩) hHeld ?restkyDu17
              case hykyDu17 => (intro w hSw; (try dsimp only at hSw); go_simp; first | done | with_reducible rfl)
              try simp only [Act.put, List.getElem_toArray, List.getElem_cons_zero, List.getElem_cons_succ, List.setIfInBounds_toArray, List.set_cons_zero, List.set_cons_succ]
              refine wpAnyH_take (i := 64) (oi := _) (v := ?vkyDu18) rfl (by kernel_rfl) (by kernel_rfl) (by kernel_rfl) (fun _ _ _ h => h) (Or.inl ⟨by kernel_rfl, ?hykyDu18⟩) hHeld ?restkyDu18
              case hykyDu18 => (intro w hSw; (try dsimp only at hSw); go_simp; first | done | with_reducible rfl)
              try simp only [Act.put, List.getElem_toArray, List.getElem_cons_zero, List.getElem_cons_succ, List.setIfInBounds_toArray, List.set_cons_zero, List.set_cons_succ]
              refine wpAnyH_take (i := 65) (oi := _) (v := ?vkyDu19) rfl (by kernel_rfl) (by kernel_rfl) (by kernel_rfl) (fun _ _ _ h => h) (Or.inl ⟨by kernel_rfl, ?hykyDu19⟩) hHeld ?restkyDu19
              case hykyDu19 => (intro w hSw; (try dsimp only at hSw); go_simp; first | done | with_reducible rfl)
              try simp only [Act.put, List.getElem_toArray, List.getElem_cons_zero, List.getElem_cons_succ, List.setIfInBounds_toArray, List.set_cons_zero, List.set_cons_succ]
              refine wpAnyH_take (i := 66) (oi := _) (v := ?vkyDu20) rfl (by kernel_rfl) (by kernel_rfl) (by kernel_rfl) (fun _ _ _ h => h) (Or.inl ⟨by kernel_rfl, ?hykyDu20⟩) hHeld ?restkyDu20
              case hykyDu20 => (intro w hSw; (try dsimp only at hSw); go_simp; first | done | with_reducible rfl)
              try simp only [Act.put, List.getElem_toArray, List.getElem_cons_zero, List.getElem_cons_succ, List.setIfInBounds_toArray, List.set_cons_zero, List.set_cons_succ]
              refine wpAnyH_take (i := 67) (oi := _) (v := ?vkyDu21) rfl (by kernel_rfl) (by kernel_rfl) (by kernel_rfl) (fun _ _ _ h => h) (Or.inl ⟨by kernel_rfl, ?hykyDu21⟩) hHeld ?restkyDu21
              case hykyDu21 => (intro w hSw; (try dsimp only at hSw); go_simp; first | done | with_reducible rfl)
              try simp only [Act.put, List.getElem_toArray, List.getElem_cons_zero, List.getElem_cons_succ, List.setIfInBounds_toArray, List.set_cons_zero, List.set_cons_succ]
              refine wpAnyH_take (i := 70) (oi := _) (v := ?vkyDu22) rfl (by kernel_rfl) (by kernel_rfl) (by kernel_rfl) (fun _ _ _ h => h) (Or.inl ⟨by kernel_rfl, ?hykyDu22⟩) hHeld ?restkyDu22
              case hykyDu22 => (intro w hSw; (try dsimp only at hSw); go_simp; first | done | with_reducible rfl)
              try simp only [Act.put, List.getElem_toArray, List.getElem_cons_zero, List.getElem_cons_succ, List.setIfInBounds_toArray, List.set_cons_zero, List.set_cons_succ]
              refine wpAnyH_take (i := 71) (oi := _) (v := ?vkyDu23) rfl (by kernel_rfl) (by kernel_rfl) (by kernel_rfl) (fun _ _ _ h => h) (Or.inl ⟨by kernel_rfl, ?hykyDu23⟩) hHeld ?restkyDu23
              case hykyDu23 => (intro w hSw; (try dsimp only at hSw); go_simp; first | done | with_reducible rfl)
              try simp only [Act.put, List.getElem_toArray, List.getElem_cons_zero, List.getElem_cons_succ, List.setIfInBounds_toArray, List.set_cons_zero, List.set_cons_succ]
              refine wpAnyH_take (i := 72) (oi := _) (v := ?vkyDu24) rfl (by kernel_rfl) (by kernel_rfl) (by kernel_rfl) (fun _ _ _ h => h) (Or.inl ⟨by kernel_rfl, ?hykyDu24⟩) hHeld ?restkyDu24
              case hykyDu24 => (intro w hSw; (try dsimp only at hSw); go_simp; first | done | with_reducible rfl)
              try simp only [Act.put, List.getElem_toArray, List.getElem_cons_zero, List.getElem_cons_succ, List.setIfInBounds_toArray, List.set_cons_zero, List.set_cons_succ]
              refine wpAnyH_ready (rs := [68]) (by kernel_rfl) (by simp) ?_
              refine AllReadyH.cons (o := _) rfl (fun K0 hK0 => ?_) AllReadyH.nil
              go_simp
              go_at_call 23
              refine (COP.out _ _ _ _ _ (HL2e.out.kept (thenB (thenB (thenB (Below.refl _ _).drew bkyPv3) bkyDv7) bkyDv16)) (HRKe.out.kept (thenB (thenB (thenB (Below.refl _ _).drew bkyPv3) bkyDv7) bkyDv16))).mono ?_
              rintro e wkyDv25 ⟨c7, d7, k7, rfl, hk7, O7, bkyDv25⟩
              refine hK0.out _ _ (K.out _ (thenB (thenB (thenB (thenB (Below.refl _ _).drew bkyPv3) bkyDv7) bkyDv16) bkyDv25)) (fun hHeld => ?_)
              clear hK0 K0
              try simp only [Act.put, List.getElem_toArray, List.getElem_cons_zero, List.getElem_cons_succ, List.setIfInBounds_toArray, List.set_cons_zero, List.set_cons_succ]
              refine wpAnyH_take (i := 69) (oi := _) (v := ?vkyDu26) rfl (by kernel_rfl) (by kernel_rfl) (by kernel_rfl) (fun _ _ _ h => h) (Or.inl ⟨by kernel_rfl, ?hykyDu26⟩) hHeld ?restkyDu26
              case hykyDu26 => (intro w hSw; (try dsimp only at hSw); go_simp; first | done | with_reducible rfl)
              try simp only [Act.put, List.getElem_toArray, List.getElem_cons_zero, List.getElem_cons_succ, List.setIfInBounds_toArray, List.set_cons_zero, List.set_cons_succ]
              refine wpAnyH_ready (rs := [73]) (by kernel_rfl) (by simp) ?_
              refine AllReadyH.cons (o := _) rfl (fun K0 hK0 => ?_) AllReadyH.nil
              go_simp
              go_at_call 22
              refine (CHS.out _ _ _ _ O7.rd hk7).mono ?_
              rintro e wkyDv27 ⟨rfl, bkyDv27⟩
              refine hK0.out _ _ (K.out _ (thenB (thenB (thenB (thenB (thenB (Below.refl _ _).drew bkyPv3) bkyDv7) bkyDv16) bkyDv25) bkyDv27)) (fun hHeld => ?_)
              clear hK0 K0
              try simp only [Act.put, List.getElem_toArray, List.getElem_cons_zero, List.getElem_cons_succ, List.setIfInBounds_toArray, List.set_cons_zero, List.set_cons_succ]
              refine wpAnyH_take (i := 74) (oi := _) (v := ?vkyDu28) rfl (by kernel_rfl) (by kernel_rfl) (by kernel_rfl) (fun _ _ _ h => h) (Or.inl ⟨by kernel_rfl, ?hykyDu28⟩) hHeld ?restkyDu28
              case hykyDu28 => (intro w hSw; (try dsimp only at hSw); go_simp; first | done | with_reducible rfl)
              try simp only [Act.put, List.getElem_toArray, List.getElem_cons_zero, List.getElem_cons_succ, List.setIfInBounds_toArray, List.set_cons_zero, List.set_cons_succ]
              refine wpAnyH_take (i := 75) (oi := _) (v := ?vkyDu29) rfl (by kernel_rfl) (by kernel_rfl) (by kernel_rfl) (fun _ _ _ h => h) (Or.inl ⟨by kernel_rfl, ?hykyDu29⟩) hHeld ?restkyDu29
              case hykyDu29 => (intro w hSw; (try dsimp only at hSw); go_simp; first | done | with_reducible rfl)
              try simp only [Act.put, List.getElem_toArray, List.getElem_cons_zero, List.getElem_cons_succ, List.setIfInBounds_toArray, List.set_cons_zero, List.set_cons_succ]
              refine wpAnyH_take (i := 76) (oi := _) (v := ?vkyDu30) rfl (by kernel_rfl) (by kernel_rfl) (by kernel_rfl) (fun _ _ _ h => h) (Or.inl ⟨by kernel_rfl, ?hykyDu30⟩) hHeld ?restkyDu30
              case hykyDu30 => (intro w hSw; (try dsimp only at hSw); go_simp; first | done | with_reducible rfl)
              try simp only [Act.put, List.getElem_toArray, List.getElem_cons_zero, List.getElem_cons_succ, List.setIfInBounds_toArray, List.set_cons_zero, List.set_cons_succ]
              refine wpAnyH_done (by kernel_rfl) ?_ _
              go_wp2
              go_ret
              exact ⟨rfl, HB0.out.trans ((thenB HBf.out (thenB (thenB (thenB (thenB (thenB (Below.refl _ _).drew bkyPv3) bkyDv7) bkyDv16) bkyDv25) bkyDv27)).mono HB0.out.size)⟩

end Go.Proofs.Ythkmoabkeblbjaa
