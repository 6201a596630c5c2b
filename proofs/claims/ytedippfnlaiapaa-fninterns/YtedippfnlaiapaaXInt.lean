/- The law on a term put twice. -/
import Derived.Test.YtedippfnlaiapaaDrQ
import Derived.Test.YtedippfnlaiapaaTpD
import Derived.Test.YtedippfnlaiapaaTmT
import Derived.Test.YtedippfnlaiapaaTmQ
import Derived.Test.YtedippfnlaiapaaFill
import Derived.Deep.DeepCutAuto
namespace Go.Proofs.Ytedippfnlaiapaa
open Go.RowKit

theorem extractI0 (u v : Value) (w : World) : (Instr.extract (.tuple #[u, v]) 0).run Try.prog w = .ok u w := by kernel_rfl

theorem extractI1 (u v : Value) (w : World) : (Instr.extract (.tuple #[u, v]) 1).run Try.prog w = .ok v w := by kernel_rfl

theorem teq_self (t : T4) : teq t t = true := teq_iff.2 rfl

theorem interns_ways {xs : List T4} {t : T4} (hok : ∀ x ∈ xs, okT x) (ht : okT t) : (∃ (kc kk : Int) (ls : List T4), ptT xs t = ⟨kc, kk, ls⟩ ∧ kc ≠ 0) ∨
    (∃ (k kl : Nat) (ls : List T4), ptT xs t = ⟨0, k, ls⟩ ∧ ls.length = kl ∧ tfC ls = 0 ∧ xs.length ≤ kl ∧ (∀ i, i < xs.length → ls.getD i zTerm = xs.getD i zTerm) ∧ k < kl ∧ ls.getD k zTerm = t ∧ ptT ls t = ⟨0, k, ls⟩ ∧ kl ≤ 400 ∧ ∀ y ∈ ls, okT y) := by
  by_cases hc : (ptT xs t).c = 0
  · right
    rcases pt_ways xs t with ⟨h1, h2⟩ | ⟨h1, h2⟩
    · rw [h2] at hc; exact absurd hc h1
    · rw [h2] at hc
      obtain ⟨p1, ⟨ys, p2⟩, p3, p4, p5⟩ := put_right h1 hc
      have p6 := put_again h1 hc
      have p7 := put_len (t := t) (tfC_zero h1).1
      have p8 := (put_more hok ht).2
      have p9 : ptT (put xs t).l t = put (put xs t).l t := by
        rcases pt_ways (put xs t).l t with ⟨h3, _⟩ | ⟨_, h3⟩
        · exact absurd p1 h3
        · exact h3
      rw [p6] at p9
      rw [h2]
      generalize put xs t = P at *
      obtain ⟨c, k, l⟩ := P
      simp only at *
      obtain ⟨j, rfl⟩ := Int.eq_ofNat_of_zero_le p3
      subst hc
      refine ⟨j, l.length, l, rfl, rfl, p1, ?_, ?_, by omega, ?_, p9, p7, p8⟩
      · rw [p2, List.length_append]; omega
      · intro i hi; rw [p2]; exact getD_app _ _ _ hi
      · rw [Int.toNat_natCast] at p5; exact p5
  · left
    obtain ⟨P, hP⟩ : ∃ P, ptT xs t = P := ⟨_, rfl⟩
    rw [hP] at hc ⊢
    obtain ⟨c, k, l⟩ := P
    exact ⟨c, k, l, rfl, hc⟩

set_option maxRecDepth 20000 in
set_option maxHeartbeats 8000000 in
theorem xInt_walk (a : Option Addr) (n ca : Nat) (zs : List Int) (w : World) (ha : Rd .u8 w a zs) (hb : Bytes zs) (hn : zs.length = n) :
    Calls Try.prog 3 #[.slice a n ca] w fun e w' => e = .returned (.bool true) ∧ Below w.heap.size w w' := by
  by_cases hbig : 1048576 < n
  · have h1 : (1048576 : Int) < (n : Int) := by omega
    go_enter Try.func3, Try.ntmps3
    go_wp2_with (first | (go_at_call 13; go_in) | fail)
    go_ret
    exact ⟨rfl, Below.refl _ _⟩
  have h1 : ¬ (1048576 : Int) < (n : Int) := by omega
  have CD := Hid.mk (drawPutTerm_ok a n ca zs w ha hb hn (by omega))
  clear ha hb hn hbig
  go_enter Try.func3, Try.ntmps3
  go_wp2_with (first | (go_at_call 13; go_in) | fail)
  refine CD.out.mono ?_
  rintro e wA ⟨c, d, m, xs, t, rfl, hlen, hm, hcap, hnc, hok, hto, RX, B0⟩
  have e0 := extractI0
  have e1 := extractI1
  have CI := Hid.mk (fun w h => implPutTerm_ok c m d xs t w h hlen (by omega) hok hto)
  have CS := Hid.mk (fun w h => specPutTerm_ok c m d xs t w h hlen (by omega) hcap hnc)
  have HB0 := Hid.mk B0
  have HR := Hid.mk RX
  have hlen' := Hid.mk hlen
  have hways := interns_ways hok hto
  clear B0 CD RX hcap hnc
  have B := Below.refl wA.heap.size wA
  rcases hways with ⟨kc, kk, ls, ePT, h3⟩ | ⟨J, kl, ls, ePT, hkl, hz, hlm, hsame, hKl, hKt, ePT2, hk4, hokl⟩
  · rw [ePT] at CI CS
    clear ePT
    simp only at CI CS
    obtain ⟨kl, hkl⟩ : ∃ kl, ls.length = kl := ⟨_, rfl⟩
    rw [hkl] at CI CS
    replace hkl := Hid.mk hkl
    have qf : ∀ (c : Option Addr) (d : Nat) (w : World), (Instr.field 30 (.agg #[.int .i64 kc, .int .i64 kk, .slice c kl d]) 0).run Try.prog w = .ok (.int .i64 kc) w := fun c d w => by kernel_rfl
    have h3' : (kc != 0) = true := by simp [h3]
    have h4' : (kc == kc) = true := by simp
    clear h3 hok hto hlen
    replace B := thenB B (belowA wA (.cells #[.int .i64 t.o, .int .i64 t.a, .int .i64 t.b, .int .i64 t.n] 26))
    have VP := V.new wA [.int .i64 t.o, .int .i64 t.a, .int .i64 t.b, .int .i64 t.n] 26
    obtain ⟨s_VP, f_VP, z_VP⟩ := VP.open
    have Bo := B
    go_wp2_with fail
    refine (CI.out _ (HR.out.kept B)).mono ?_
    rintro e w1 ⟨c1, d1, rfl, O1, b1⟩
    clear s_VP f_VP z_VP
    have S1 := b1.size
    simp only [World.size_alloc] at S1
    replace VP := VP.kept b1
    replace B := thenB B b1
    clear b1
    obtain ⟨s_VP, f_VP, z_VP⟩ := VP.open
    have Bo := B
    replace VP := VP.kept (belowA w1 (.cells #[.int .i64 kc, .int .i64 kk, .slice c1 kl d1] 30))
    replace O1 := O1.kept (belowA w1 (.cells #[.int .i64 kc, .int .i64 kk, .slice c1 kl d1] 30))
    replace B := thenB B (belowA w1 (.cells #[.int .i64 kc, .int .i64 kk, .slice c1 kl d1] 30))
    have VR := V.new w1 [.int .i64 kc, .int .i64 kk, .slice c1 kl d1] 30
    clear s_VP f_VP z_VP
    obtain ⟨s_VP, f_VP, z_VP⟩ := VP.open
    obtain ⟨s_VR, f_VR, z_VR⟩ := VR.open
    replace Bo := B
    go_upto_region 6 with fail
    clear s_VP f_VP z_VP s_VR f_VR z_VR
    have K : ∀ w' : World, Below (w1.alloc (.cells #[.int .i64 kc, .int .i64 kk, .slice c1 kl d1] 30)).heap.size (w1.alloc (.cells #[.int .i64 kc, .int .i64 kk, .slice c1 kl d1] 30)) w' → (w'.cell? ⟨wA.heap.size, 0, none⟩ = some (.int .i64 t.o) ∧ w'.cell? ⟨wA.heap.size, 1, none⟩ = some (.int .i64 t.a) ∧ w'.cell? ⟨wA.heap.size, 2, none⟩ = some (.int .i64 t.b) ∧ w'.cell? ⟨wA.heap.size, 3, none⟩ = some (.int .i64 t.n) ∧ w'.cell? ⟨w1.heap.size, 0, none⟩ = some (.int .i64 kc) ∧ w'.cell? ⟨w1.heap.size, 1, none⟩ = some (.int .i64 kk) ∧ w'.cell? ⟨w1.heap.size, 2, none⟩ = some (.slice c1 kl d1)) := fun w' h => ⟨(VP.kept h).2.1 0 (by simp), (VP.kept h).2.1 1 (by simp), (VP.kept h).2.1 2 (by simp), (VP.kept h).2.1 3 (by simp), (VR.kept h).2.1 0 (by simp), (VR.kept h).2.1 1 (by simp), (VR.kept h).2.1 2 (by simp)⟩
    have K := Hid.mk K
    refine wp_region_held_drew (S := (fun w' => w'.cell? ⟨wA.heap.size, 0, none⟩ = some (.int .i64 t.o) ∧ w'.cell? ⟨wA.heap.size, 1, none⟩ = some (.int .i64 t.a) ∧ w'.cell? ⟨wA.heap.size, 2, none⟩ = some (.int .i64 t.b) ∧ w'.cell? ⟨wA.heap.size, 3, none⟩ = some (.int .i64 t.n) ∧ w'.cell? ⟨w1.heap.size, 0, none⟩ = some (.int .i64 kc) ∧ w'.cell? ⟨w1.heap.size, 1, none⟩ = some (.int .i64 kk) ∧ w'.cell? ⟨w1.heap.size, 2, none⟩ = some (.slice c1 kl d1))) (by kernel_rfl) (K.out _ (Below.refl _ _).drew) (fun hHeld => ?_)
    refine wpAnyH_take (i := 0) (oi := _) (v := ?vz1u1) rfl (by kernel_rfl) (by kernel_rfl) (by kernel_rfl) (fun _ _ _ h => h) (Or.inl ⟨by rfl, ?hyz1u1⟩) hHeld ?restz1u1
    case hyz1u1 => (intro w hSw; (try dsimp only at hSw); go_simp; first | done | with_reducible rfl)
    try simp only [Act.put, List.getElem_toArray, List.getElem_cons_zero, List.setIfInBounds_toArray, List.set_cons_zero, List.set_cons_succ]
    refine wpAnyH_take (i := 1) (oi := _) (v := ?vz1u2) rfl (by kernel_rfl) (by kernel_rfl) (by kernel_rfl) (fun _ _ _ h => h) (Or.inl ⟨by rfl, ?hyz1u2⟩) hHeld ?restz1u2
    case hyz1u2 => (intro w hSw; (try dsimp only at hSw); go_simp; first | done | with_reducible rfl)
    try simp only [Act.put, List.getElem_toArray, List.getElem_cons_zero, List.getElem_cons_succ, List.setIfInBounds_toArray, List.set_cons_zero, List.set_cons_succ]
    refine wpAnyH_take (i := 4) (oi := _) (v := ?vz1u3) rfl (by kernel_rfl) (by kernel_rfl) (by kernel_rfl) (fun _ _ _ h => h) (Or.inl ⟨by rfl, ?hyz1u3⟩) hHeld ?restz1u3
    case hyz1u3 => (intro w hSw; (try dsimp only at hSw); go_simp; first | done | with_reducible rfl)
    try simp only [Act.put, List.getElem_toArray, List.getElem_cons_zero, List.getElem_cons_succ, List.setIfInBounds_toArray, List.set_cons_zero, List.set_cons_succ]
    refine wpAnyH_take (i := 5) (oi := _) (v := ?vz1u4) rfl (by kernel_rfl) (by kernel_rfl) (by kernel_rfl) (fun _ _ _ h => h) (Or.inl ⟨by rfl, ?hyz1u4⟩) hHeld ?restz1u4
    case hyz1u4 => (intro w hSw; (try dsimp only at hSw); go_simp; first | done | with_reducible rfl)
    try simp only [Act.put, List.getElem_toArray, List.getElem_cons_zero, List.getElem_cons_succ, List.setIfInBounds_toArray, List.set_cons_zero, List.set_cons_succ]
    refine wpAnyH_ready (rs := [2]) (by kernel_rfl) (by simp) ?_
    refine AllReadyH.cons (o := _) rfl (fun K0 hK0 => ?_) AllReadyH.nil
    go_simp
    go_at_call 16
    refine (CS.out _ ((HR.out.kept B).kept (Below.refl _ _).drew)).mono ?_
    rintro e wz1v5 ⟨c2, d2, rfl, _, bz1v5⟩
    refine hK0.out _ _ (K.out _ (thenB (Below.refl _ _).drew bz1v5)) (fun hHeld => ?_)
    clear hK0 K0
    try simp only [Act.put, List.getElem_toArray, List.getElem_cons_zero, List.getElem_cons_succ, List.setIfInBounds_toArray, List.set_cons_zero, List.set_cons_succ]
    refine wpAnyH_take (i := 3) (oi := _) (v := ?vz1u6) rfl (by kernel_rfl) (by kernel_rfl) (by kernel_rfl) (fun _ _ _ h => h) (Or.inl ⟨by rfl, ?hyz1u6⟩) hHeld ?restz1u6
    case hyz1u6 => (intro w hSw; (try dsimp only at hSw); go_simp; first | done | with_reducible rfl)
    try simp only [Act.put, List.getElem_toArray, List.getElem_cons_zero, List.getElem_cons_succ, List.setIfInBounds_toArray, List.set_cons_zero, List.set_cons_succ]
    refine wpAnyH_take (i := 6) (oi := _) (v := ?vz1u7) rfl (by kernel_rfl) (by kernel_rfl) (by kernel_rfl) (fun _ _ _ h => h) (Or.inl ⟨by rfl, ?hyz1u7⟩) hHeld ?restz1u7
    case hyz1u7 => (intro w hSw; (try dsimp only at hSw); go_simp; first | done | with_reducible rfl)
    try simp only [Act.put, List.getElem_toArray, List.getElem_cons_zero, List.getElem_cons_succ, List.setIfInBounds_toArray, List.set_cons_zero, List.set_cons_succ]
    refine wpAnyH_take (i := 7) (oi := _) (v := ?vz1u8) rfl (by kernel_rfl) (by kernel_rfl) (by kernel_rfl) (fun _ _ _ h => h) (Or.inl ⟨by rfl, ?hyz1u8⟩) hHeld ?restz1u8
    case hyz1u8 => (intro w hSw; (try dsimp only at hSw); go_simp; first | done | with_reducible rfl)
    try simp only [Act.put, List.getElem_toArray, List.getElem_cons_zero, List.getElem_cons_succ, List.setIfInBounds_toArray, List.set_cons_zero, List.set_cons_succ]
    refine wpAnyH_done (by kernel_rfl) ?_ _
    clear K hHeld
    replace VP := VP.kept (thenB (Below.refl _ _).drew bz1v5)
    replace VR := VR.kept (thenB (Below.refl _ _).drew bz1v5)
    replace O1 := O1.kept (thenB (Below.refl _ _).drew bz1v5)
    replace B := thenB B (thenB (Below.refl _ _).drew bz1v5)
    have Sz1 := ((thenB (Below.refl _ _).drew bz1v5)).size
    simp only [World.size_alloc] at Sz1
    clear bz1v5
    obtain ⟨s_VP, f_VP, z_VP⟩ := VP.open
    obtain ⟨s_VR, f_VR, z_VR⟩ := VR.open
    have Bo := B
    go_wp2
    go_ret
    exact ⟨rfl, HB0.out.trans (B.mono HB0.out.size)⟩
  · rw [ePT] at CI
    clear ePT CS
    have CI2 := Hid.mk (fun c d w h => implPutTerm_ok c kl d ls t w h hkl (by omega) hokl hto)
    rw [ePT2] at CI2
    simp only at CI CI2
    rw [hkl] at CI CI2
    have CT := Hid.mk (fun c d w h => implTermsFault_ok c kl d ls w h hkl (by unfold maxLen; omega) hokl)
    rw [hz] at CT
    have hkl' := Hid.mk hkl
    have hsame' := Hid.mk hsame
    have hKt' := Hid.mk hKt
    have q1 := eqTm0 t t
    rw [teq_self] at q1
    have qK : ((J : Int) != (J : Int)) = false := by simp
    have qk : ((kl : Int) != (kl : Int)) = false := by simp
    have qm : ¬ ((kl : Int) < (m : Int)) := by omega
    have qm2 : decide ((kl : Int) < (m : Int)) = false := by simp; omega
    have qz : ¬ ((kl : Int) ≤ (J : Int)) := by omega
    have qz2 : decide ((kl : Int) ≤ (J : Int)) = false := by simp; omega
    have qm4 : ¬ (kl < m) := by omega
    have qm5 : decide (kl < m) = false := by simp; omega
    have qz4 : ¬ (kl ≤ J) := by omega
    have qz5 : decide (kl ≤ J) = false := by simp; omega
    have hm400 : m ≤ 400 := by omega
    clear hok hto hlen ePT2 hz hlm hsame hKt hokl hkl
    replace B := thenB B (belowA wA (.cells #[.int .i64 t.o, .int .i64 t.a, .int .i64 t.b, .int .i64 t.n] 26))
    have VP := V.new wA [.int .i64 t.o, .int .i64 t.a, .int .i64 t.b, .int .i64 t.n] 26
    obtain ⟨s_VP, f_VP, z_VP⟩ := VP.open
    have Bo := B
    go_wp2_with fail
    refine (CI.out _ (HR.out.kept B)).mono ?_
    rintro e w51 ⟨c1, d1, rfl, O1, b51⟩
    clear s_VP f_VP z_VP
    have S51 := b51.size
    simp only [World.size_alloc] at S51
    replace VP := VP.kept b51
    replace B := thenB B b51
    clear b51
    obtain ⟨s_VP, f_VP, z_VP⟩ := VP.open
    have Bo := B
    replace VP := VP.kept (belowA w51 (.cells #[.int .i64 0, .int .i64 J, .slice c1 kl d1] 30))
    replace O1 := O1.kept (belowA w51 (.cells #[.int .i64 0, .int .i64 J, .slice c1 kl d1] 30))
    replace B := thenB B (belowA w51 (.cells #[.int .i64 0, .int .i64 J, .slice c1 kl d1] 30))
    have VR := V.new w51 [.int .i64 0, .int .i64 J, .slice c1 kl d1] 30
    clear s_VP f_VP z_VP
    obtain ⟨s_VP, f_VP, z_VP⟩ := VP.open
    obtain ⟨s_VR, f_VR, z_VR⟩ := VR.open
    replace Bo := B
    have HO := Hid.mk O1
    go_wp2_with fail
    refine (CI2.out c1 d1 _ O1.rd).mono ?_
    rintro e w52 ⟨c2, d2, rfl, O2, b52⟩
    clear s_VP f_VP z_VP s_VR f_VR z_VR
    have S52 := b52.size
    simp only [World.size_alloc] at S52
    replace VP := VP.kept b52
    replace VR := VR.kept b52
    replace O1 := O1.kept b52
    replace B := thenB B b52
    clear b52
    obtain ⟨s_VP, f_VP, z_VP⟩ := VP.open
    obtain ⟨s_VR, f_VR, z_VR⟩ := VR.open
    have Bo := B
    clear O2 HO
    replace VP := VP.kept (belowA w52 (.cells #[.int .i64 0, .int .i64 J, .slice c2 kl d2] 30))
    replace VR := VR.kept (belowA w52 (.cells #[.int .i64 0, .int .i64 J, .slice c2 kl d2] 30))
    replace O1 := O1.kept (belowA w52 (.cells #[.int .i64 0, .int .i64 J, .slice c2 kl d2] 30))
    replace B := thenB B (belowA w52 (.cells #[.int .i64 0, .int .i64 J, .slice c2 kl d2] 30))
    have VA := V.new w52 [.int .i64 0, .int .i64 J, .slice c2 kl d2] 30
    clear s_VP f_VP z_VP s_VR f_VR z_VR
    obtain ⟨s_VP, f_VP, z_VP⟩ := VP.open
    obtain ⟨s_VR, f_VR, z_VR⟩ := VR.open
    obtain ⟨s_VA, f_VA, z_VA⟩ := VA.open
    replace Bo := B
    have R1 := O1.rd
    have R1' := Hid.mk R1
    clear O1
    have R2 := R1
    rcases R1 with h0 | ⟨b1, o1, rfl, hca⟩
    · have := hkl'.out; rw [h0] at this; simp at this; omega
    obtain ⟨p0, p1, p2, p3⟩ := RdTerm.cells hca J (by rw [hkl'.out]; exact hKl) t hKt'.out
    clear hca
    have hb1 := World.block_lt_of_cell? _ _ p0
    clear s_VP f_VP z_VP s_VR f_VR z_VR s_VA f_VA z_VA
    have K : ∀ w' : World, Below (w52.alloc (.cells #[.int .i64 0, .int .i64 J, .slice c2 kl d2] 30)).heap.size (w52.alloc (.cells #[.int .i64 0, .int .i64 J, .slice c2 kl d2] 30)) w' → (w'.cell? ⟨wA.heap.size, 0, none⟩ = some (.int .i64 t.o) ∧ w'.cell? ⟨wA.heap.size, 1, none⟩ = some (.int .i64 t.a) ∧ w'.cell? ⟨wA.heap.size, 2, none⟩ = some (.int .i64 t.b) ∧ w'.cell? ⟨wA.heap.size, 3, none⟩ = some (.int .i64 t.n) ∧ w'.cell? ⟨w51.heap.size, 0, none⟩ = some (.int .i64 0) ∧ w'.cell? ⟨w51.heap.size, 1, none⟩ = some (.int .i64 J) ∧ w'.cell? ⟨w51.heap.size, 2, none⟩ = some (.slice (some ⟨b1, o1, none⟩) kl d1) ∧ w'.cell? ⟨w52.heap.size, 0, none⟩ = some (.int .i64 0) ∧ w'.cell? ⟨w52.heap.size, 1, none⟩ = some (.int .i64 J) ∧ w'.cell? ⟨w52.heap.size, 2, none⟩ = some (.slice c2 kl d2) ∧ w'.cell? ⟨b1, o1 + J * 4, none⟩ = some (.int .i64 t.o) ∧ w'.cell? ⟨b1, o1 + J * 4 + 1, none⟩ = some (.int .i64 t.a) ∧ w'.cell? ⟨b1, o1 + J * 4 + 2, none⟩ = some (.int .i64 t.b) ∧ w'.cell? ⟨b1, o1 + J * 4 + 3, none⟩ = some (.int .i64 t.n)) := fun w' h => ⟨(VP.kept h).2.1 0 (by simp), (VP.kept h).2.1 1 (by simp), (VP.kept h).2.1 2 (by simp), (VP.kept h).2.1 3 (by simp), (VR.kept h).2.1 0 (by simp), (VR.kept h).2.1 1 (by simp), (VR.kept h).2.1 2 (by simp), (VA.kept h).2.1 0 (by simp), (VA.kept h).2.1 1 (by simp), (VA.kept h).2.1 2 (by simp), ((bcell h).1 _ _ hb1).trans p0, ((bcell h).1 _ _ hb1).trans p1, ((bcell h).1 _ _ hb1).trans p2, ((bcell h).1 _ _ hb1).trans p3⟩
    have K := Hid.mk K
    clear p0 p1 p2 p3
    go_upto_region 8 with fail
    refine wp_region_held_drew (S := (fun w' => w'.cell? ⟨wA.heap.size, 0, none⟩ = some (.int .i64 t.o) ∧ w'.cell? ⟨wA.heap.size, 1, none⟩ = some (.int .i64 t.a) ∧ w'.cell? ⟨wA.heap.size, 2, none⟩ = some (.int .i64 t.b) ∧ w'.cell? ⟨wA.heap.size, 3, none⟩ = some (.int .i64 t.n) ∧ w'.cell? ⟨w51.heap.size, 0, none⟩ = some (.int .i64 0) ∧ w'.cell? ⟨w51.heap.size, 1, none⟩ = some (.int .i64 J) ∧ w'.cell? ⟨w51.heap.size, 2, none⟩ = some (.slice (some ⟨b1, o1, none⟩) kl d1) ∧ w'.cell? ⟨w52.heap.size, 0, none⟩ = some (.int .i64 0) ∧ w'.cell? ⟨w52.heap.size, 1, none⟩ = some (.int .i64 J) ∧ w'.cell? ⟨w52.heap.size, 2, none⟩ = some (.slice c2 kl d2) ∧ w'.cell? ⟨b1, o1 + J * 4, none⟩ = some (.int .i64 t.o) ∧ w'.cell? ⟨b1, o1 + J * 4 + 1, none⟩ = some (.int .i64 t.a) ∧ w'.cell? ⟨b1, o1 + J * 4 + 2, none⟩ = some (.int .i64 t.b) ∧ w'.cell? ⟨b1, o1 + J * 4 + 3, none⟩ = some (.int .i64 t.n))) (by kernel_rfl) (K.out _ (Below.refl _ _).drew) (fun hHeld => ?_)
    refine wpAnyH_take (i := 0) (oi := _) (v := ?vz51u1) rfl (by kernel_rfl) (by kernel_rfl) (by kernel_rfl) (fun _ _ _ h => h) (Or.inl ⟨by rfl, ?hyz51u1⟩) hHeld ?restz51u1
    case hyz51u1 => (intro w hSw; (try dsimp only at hSw); go_simp; first | done | with_reducible rfl)
    try simp only [Act.put, List.getElem_toArray, List.getElem_cons_zero, List.setIfInBounds_toArray, List.set_cons_zero, List.set_cons_succ]
    refine wpAnyH_take (i := 1) (oi := _) (v := ?vz51u2) rfl (by kernel_rfl) (by kernel_rfl) (by kernel_rfl) (fun _ _ _ h => h) (Or.inl ⟨by rfl, ?hyz51u2⟩) hHeld ?restz51u2
    case hyz51u2 => (intro w hSw; (try dsimp only at hSw); go_simp; first | done | with_reducible rfl)
    try simp only [Act.put, List.getElem_toArray, List.getElem_cons_zero, List.getElem_cons_succ, List.setIfInBounds_toArray, List.set_cons_zero, List.set_cons_succ]
    refine wpAnyH_ready (rs := [2]) (by kernel_rfl) (by simp) ?_
    refine AllReadyH.cons (o := _) rfl (fun K0 hK0 => ?_) AllReadyH.nil
    go_simp
    go_at_call 17
    refine (CT.out _ _ _ (R1'.out.kept (Below.refl _ _).drew)).mono ?_
    rintro e wz51v3 ⟨rfl, bz51v3⟩
    refine hK0.out _ _ (K.out _ (thenB (Below.refl _ _).drew bz51v3)) (fun hHeld => ?_)
    clear hK0 K0
    try simp only [Act.put, List.getElem_toArray, List.getElem_cons_zero, List.getElem_cons_succ, List.setIfInBounds_toArray, List.set_cons_zero, List.set_cons_succ]
    refine wpAnyH_take (i := 3) (oi := _) (v := ?vz51u4) rfl (by kernel_rfl) (by kernel_rfl) (by kernel_rfl) (fun _ _ _ h => h) (Or.inl ⟨by rfl, ?hyz51u4⟩) hHeld ?restz51u4
    case hyz51u4 => (intro w hSw; (try dsimp only at hSw); go_simp; first | done | with_reducible rfl)
    try simp only [Act.put, List.getElem_toArray, List.getElem_cons_zero, List.getElem_cons_succ, List.setIfInBounds_toArray, List.set_cons_zero, List.set_cons_succ]
    refine wpAnyH_take (i := 4) (oi := _) (v := ?vz51u5) rfl (by kernel_rfl) (by kernel_rfl) (by kernel_rfl) (fun _ _ _ h => h) (Or.inl ⟨by rfl, ?hyz51u5⟩) hHeld ?restz51u5
    case hyz51u5 => (intro w hSw; (try dsimp only at hSw); go_simp; first | done | with_reducible rfl)
    try simp only [Act.put, List.getElem_toArray, List.getElem_cons_zero, List.getElem_cons_succ, List.setIfInBounds_toArray, List.set_cons_zero, List.set_cons_succ]
    refine wpAnyH_take (i := 5) (oi := _) (v := ?vz51u6) rfl (by kernel_rfl) (by kernel_rfl) (by kernel_rfl) (fun _ _ _ h => h) (Or.inl ⟨by rfl, ?hyz51u6⟩) hHeld ?restz51u6
    case hyz51u6 => (intro w hSw; (try dsimp only at hSw); go_simp; first | done | with_reducible rfl)
    try simp only [Act.put, List.getElem_toArray, List.getElem_cons_zero, List.getElem_cons_succ, List.setIfInBounds_toArray, List.set_cons_zero, List.set_cons_succ]
    refine wpAnyH_take (i := 6) (oi := _) (v := ?vz51u7) rfl (by kernel_rfl) (by kernel_rfl) (by kernel_rfl) (fun _ _ _ h => h) (Or.inl ⟨by rfl, ?hyz51u7⟩) hHeld ?restz51u7
    case hyz51u7 => (intro w hSw; (try dsimp only at hSw); go_simp; first | done | with_reducible rfl)
    try simp only [Act.put, List.getElem_toArray, List.getElem_cons_zero, List.getElem_cons_succ, List.setIfInBounds_toArray, List.set_cons_zero, List.set_cons_succ]
    refine wpAnyH_take (i := 7) (oi := _) (v := ?vz51u8) rfl (by kernel_rfl) (by kernel_rfl) (by kernel_rfl) (fun _ _ _ h => h) (Or.inl ⟨by rfl, ?hyz51u8⟩) hHeld ?restz51u8
    case hyz51u8 => (intro w hSw; (try dsimp only at hSw); go_simp; first | done | with_reducible rfl)
    try simp only [Act.put, List.getElem_toArray, List.getElem_cons_zero, List.getElem_cons_succ, List.setIfInBounds_toArray, List.set_cons_zero, List.set_cons_succ]
    refine wpAnyH_take (i := 8) (oi := _) (v := ?vz51u9) rfl (by kernel_rfl) (by kernel_rfl) (by kernel_rfl) (fun _ _ _ h => h) (Or.inl ⟨by rfl, ?hyz51u9⟩) hHeld ?restz51u9
    case hyz51u9 => (intro w hSw; (try dsimp only at hSw); go_simp; first | done | with_reducible rfl)
    try simp only [Act.put, List.getElem_toArray, List.getElem_cons_zero, List.getElem_cons_succ, List.setIfInBounds_toArray, List.set_cons_zero, List.set_cons_succ]
    refine wpAnyH_take (i := 9) (oi := _) (v := ?vz51u10) rfl (by kernel_rfl) (by kernel_rfl) (by kernel_rfl) (fun _ _ _ h => h) (Or.inl ⟨by rfl, ?hyz51u10⟩) hHeld ?restz51u10
    case hyz51u10 => (intro w hSw; (try dsimp only at hSw); go_simp; first | done | with_reducible rfl)
    try simp only [Act.put, List.getElem_toArray, List.getElem_cons_zero, List.getElem_cons_succ, List.setIfInBounds_toArray, List.set_cons_zero, List.set_cons_succ]
    refine wpAnyH_take (i := 10) (oi := _) (v := ?vz51u11) rfl (by kernel_rfl) (by kernel_rfl) (by kernel_rfl) (fun _ _ _ h => h) (Or.inl ⟨by rfl, ?hyz51u11⟩) hHeld ?restz51u11
    case hyz51u11 => (intro w hSw; (try dsimp only at hSw); go_simp; first | done | with_reducible rfl)
    try simp only [Act.put, List.getElem_toArray, List.getElem_cons_zero, List.getElem_cons_succ, List.setIfInBounds_toArray, List.set_cons_zero, List.set_cons_succ]
    refine wpAnyH_take (i := 11) (oi := _) (v := ?vz51u12) rfl (by kernel_rfl) (by kernel_rfl) (by kernel_rfl) (fun _ _ _ h => h) (Or.inl ⟨by rfl, ?hyz51u12⟩) hHeld ?restz51u12
    case hyz51u12 => (intro w hSw; (try dsimp only at hSw); go_simp; first | done | with_reducible rfl)
    try simp only [Act.put, List.getElem_toArray, List.getElem_cons_zero, List.getElem_cons_succ, List.setIfInBounds_toArray, List.set_cons_zero, List.set_cons_succ]
    refine wpAnyH_take (i := 12) (oi := _) (v := ?vz51u13) rfl (by kernel_rfl) (by kernel_rfl) (by kernel_rfl) (fun _ _ _ h => h) (Or.inl ⟨by rfl, ?hyz51u13⟩) hHeld ?restz51u13
    case hyz51u13 => (intro w hSw; (try dsimp only at hSw); go_simp; first | done | with_reducible rfl)
    try simp only [Act.put, List.getElem_toArray, List.getElem_cons_zero, List.getElem_cons_succ, List.setIfInBounds_toArray, List.set_cons_zero, List.set_cons_succ]
    refine wpAnyH_take (i := 13) (oi := _) (v := ?vz51u14) rfl (by kernel_rfl) (by kernel_rfl) (by kernel_rfl) (fun _ _ _ h => h) (Or.inl ⟨by rfl, ?hyz51u14⟩) hHeld ?restz51u14
    case hyz51u14 => (intro w hSw; (try dsimp only at hSw); go_simp; first | done | with_reducible rfl)
    try simp only [Act.put, List.getElem_toArray, List.getElem_cons_zero, List.getElem_cons_succ, List.setIfInBounds_toArray, List.set_cons_zero, List.set_cons_succ]
    refine wpAnyH_take (i := 14) (oi := _) (v := ?vz51u15) rfl (by kernel_rfl) (by kernel_rfl) (by kernel_rfl) (fun _ _ _ h => h) (Or.inl ⟨by rfl, ?hyz51u15⟩) hHeld ?restz51u15
    case hyz51u15 => (intro w hSw; (try dsimp only at hSw); go_simp; first | done | with_reducible rfl)
    try simp only [Act.put, List.getElem_toArray, List.getElem_cons_zero, List.getElem_cons_succ, List.setIfInBounds_toArray, List.set_cons_zero, List.set_cons_succ]
    refine wpAnyH_take (i := 15) (oi := _) (v := ?vz51u16) rfl (by kernel_rfl) (by kernel_rfl) (by kernel_rfl) (fun _ _ _ h => h) (Or.inl ⟨by rfl, ?hyz51u16⟩) hHeld ?restz51u16
    case hyz51u16 => (intro w hSw; (try dsimp only at hSw); go_simp; first | done | with_reducible rfl)
    try simp only [Act.put, List.getElem_toArray, List.getElem_cons_zero, List.getElem_cons_succ, List.setIfInBounds_toArray, List.set_cons_zero, List.set_cons_succ]
    refine wpAnyH_take (i := 16) (oi := _) (v := ?vz51u17) rfl (by kernel_rfl) (by kernel_rfl) (by kernel_rfl) (fun _ _ _ h => h) (Or.inl ⟨by rfl, ?hyz51u17⟩) hHeld ?restz51u17
    case hyz51u17 => (intro w hSw; (try dsimp only at hSw); go_simp; first | done | with_reducible rfl)
    try simp only [Act.put, List.getElem_toArray, List.getElem_cons_zero, List.getElem_cons_succ, List.setIfInBounds_toArray, List.set_cons_zero, List.set_cons_succ]
    refine wpAnyH_take (i := 17) (oi := _) (v := ?vz51u18) rfl (by kernel_rfl) (by kernel_rfl) (by kernel_rfl) (fun _ _ _ h => h) (Or.inl ⟨by rfl, ?hyz51u18⟩) hHeld ?restz51u18
    case hyz51u18 => (intro w hSw; (try dsimp only at hSw); go_simp; first | done | with_reducible rfl)
    try simp only [Act.put, List.getElem_toArray, List.getElem_cons_zero, List.getElem_cons_succ, List.setIfInBounds_toArray, List.set_cons_zero, List.set_cons_succ]
    refine wpAnyH_take (i := 18) (oi := _) (v := ?vz51u19) rfl (by kernel_rfl) (by kernel_rfl) (by kernel_rfl) (fun _ _ _ h => h) (Or.inl ⟨by rfl, ?hyz51u19⟩) hHeld ?restz51u19
    case hyz51u19 => (intro w hSw; (try dsimp only at hSw); go_simp; first | done | with_reducible rfl)
    try simp only [Act.put, List.getElem_toArray, List.getElem_cons_zero, List.getElem_cons_succ, List.setIfInBounds_toArray, List.set_cons_zero, List.set_cons_succ]
    refine wpAnyH_take (i := 19) (oi := _) (v := ?vz51u20) rfl (by kernel_rfl) (by kernel_rfl) (by kernel_rfl) (fun _ _ _ h => h) (Or.inl ⟨by rfl, ?hyz51u20⟩) hHeld ?restz51u20
    case hyz51u20 => (intro w hSw; (try dsimp only at hSw); go_simp; first | done | with_reducible rfl)
    try simp only [Act.put, List.getElem_toArray, List.getElem_cons_zero, List.getElem_cons_succ, List.setIfInBounds_toArray, List.set_cons_zero, List.set_cons_succ]
    refine wpAnyH_take (i := 20) (oi := _) (v := ?vz51u21) rfl (by kernel_rfl) (by kernel_rfl) (by kernel_rfl) (fun _ _ _ h => h) (Or.inl ⟨by rfl, ?hyz51u21⟩) hHeld ?restz51u21
    case hyz51u21 => (intro w hSw; (try dsimp only at hSw); go_simp; first | done | with_reducible rfl)
    try simp only [Act.put, List.getElem_toArray, List.getElem_cons_zero, List.getElem_cons_succ, List.setIfInBounds_toArray, List.set_cons_zero, List.set_cons_succ]
    refine wpAnyH_take (i := 21) (oi := _) (v := ?vz51u22) rfl (by kernel_rfl) (by kernel_rfl) (by kernel_rfl) (fun _ _ _ h => h) (Or.inl ⟨by rfl, ?hyz51u22⟩) hHeld ?restz51u22
    case hyz51u22 => (intro w hSw; (try dsimp only at hSw); go_simp; first | done | with_reducible rfl)
    try simp only [Act.put, List.getElem_toArray, List.getElem_cons_zero, List.getElem_cons_succ, List.setIfInBounds_toArray, List.set_cons_zero, List.set_cons_succ]
    refine wpAnyH_take (i := 22) (oi := _) (v := ?vz51u23) rfl (by kernel_rfl) (by kernel_rfl) (by kernel_rfl) (fun _ _ _ h => h) (Or.inl ⟨by rfl, ?hyz51u23⟩) hHeld ?restz51u23
    case hyz51u23 => (intro w hSw; (try dsimp only at hSw); go_simp; first | done | with_reducible rfl)
    try simp only [Act.put, List.getElem_toArray, List.getElem_cons_zero, List.getElem_cons_succ, List.setIfInBounds_toArray, List.set_cons_zero, List.set_cons_succ]
    refine wpAnyH_take (i := 23) (oi := _) (v := ?vz51u24) rfl (by kernel_rfl) (by kernel_rfl) (by kernel_rfl) (fun _ _ _ h => h) (Or.inl ⟨by rfl, ?hyz51u24⟩) hHeld ?restz51u24
    case hyz51u24 => (intro w hSw; (try dsimp only at hSw); go_simp; first | done | with_reducible rfl)
    try simp only [Act.put, List.getElem_toArray, List.getElem_cons_zero, List.getElem_cons_succ, List.setIfInBounds_toArray, List.set_cons_zero, List.set_cons_succ]
    refine wpAnyH_take (i := 24) (oi := _) (v := ?vz51u25) rfl (by kernel_rfl) (by kernel_rfl) (by kernel_rfl) (fun _ _ _ h => h) (Or.inl ⟨by rfl, ?hyz51u25⟩) hHeld ?restz51u25
    case hyz51u25 => (intro w hSw; (try dsimp only at hSw); go_simp; first | done | with_reducible rfl)
    try simp only [Act.put, List.getElem_toArray, List.getElem_cons_zero, List.getElem_cons_succ, List.setIfInBounds_toArray, List.set_cons_zero, List.set_cons_succ]
    refine wpAnyH_take (i := 25) (oi := _) (v := ?vz51u26) rfl (by kernel_rfl) (by kernel_rfl) (by kernel_rfl) (fun _ _ _ h => h) (Or.inl ⟨by rfl, ?hyz51u26⟩) hHeld ?restz51u26
    case hyz51u26 => (intro w hSw; (try dsimp only at hSw); go_simp; first | done | with_reducible rfl)
    try simp only [Act.put, List.getElem_toArray, List.getElem_cons_zero, List.getElem_cons_succ, List.setIfInBounds_toArray, List.set_cons_zero, List.set_cons_succ]
    refine wpAnyH_take (i := 26) (oi := _) (v := ?vz51u27) rfl (by kernel_rfl) (by kernel_rfl) (by kernel_rfl) (fun _ _ _ h => h) (Or.inl ⟨by rfl, ?hyz51u27⟩) hHeld ?restz51u27
    case hyz51u27 => (intro w hSw; (try dsimp only at hSw); go_simp; first | done | with_reducible rfl)
    try simp only [Act.put, List.getElem_toArray, List.getElem_cons_zero, List.getElem_cons_succ, List.setIfInBounds_toArray, List.set_cons_zero, List.set_cons_succ]
    refine wpAnyH_take (i := 27) (oi := _) (v := ?vz51u28) rfl (by kernel_rfl) (by kernel_rfl) (by kernel_rfl) (fun _ _ _ h => h) (Or.inl ⟨by rfl, ?hyz51u28⟩) hHeld ?restz51u28
    case hyz51u28 => (intro w hSw; (try dsimp only at hSw); go_simp; first | done | with_reducible rfl)
    try simp only [Act.put, List.getElem_toArray, List.getElem_cons_zero, List.getElem_cons_succ, List.setIfInBounds_toArray, List.set_cons_zero, List.set_cons_succ]
    refine wpAnyH_take (i := 28) (oi := _) (v := ?vz51u29) rfl (by kernel_rfl) (by kernel_rfl) (by kernel_rfl) (fun _ _ _ h => h) (Or.inl ⟨by rfl, ?hyz51u29⟩) hHeld ?restz51u29
    case hyz51u29 => (intro w hSw; (try dsimp only at hSw); go_simp; first | done | with_reducible rfl)
    try simp only [Act.put, List.getElem_toArray, List.getElem_cons_zero, List.getElem_cons_succ, List.setIfInBounds_toArray, List.set_cons_zero, List.set_cons_succ]
    refine wpAnyH_take (i := 29) (oi := _) (v := ?vz51u30) rfl (by kernel_rfl) (by kernel_rfl) (by kernel_rfl) (fun _ _ _ h => h) (Or.inl ⟨by rfl, ?hyz51u30⟩) hHeld ?restz51u30
    case hyz51u30 => (intro w hSw; (try dsimp only at hSw); go_simp; first | done | with_reducible rfl)
    try simp only [Act.put, List.getElem_toArray, List.getElem_cons_zero, List.getElem_cons_succ, List.setIfInBounds_toArray, List.set_cons_zero, List.set_cons_succ]
    refine wpAnyH_take (i := 30) (oi := _) (v := ?vz51u31) rfl (by kernel_rfl) (by kernel_rfl) (by kernel_rfl) (fun _ _ _ h => h) (Or.inl ⟨by rfl, ?hyz51u31⟩) hHeld ?restz51u31
    case hyz51u31 => (intro w hSw; (try dsimp only at hSw); go_simp; first | done | with_reducible rfl)
    try simp only [Act.put, List.getElem_toArray, List.getElem_cons_zero, List.getElem_cons_succ, List.setIfInBounds_toArray, List.set_cons_zero, List.set_cons_succ]
    refine wpAnyH_take (i := 31) (oi := _) (v := ?vz51u32) rfl (by kernel_rfl) (by kernel_rfl) (by kernel_rfl) (fun _ _ _ h => h) (Or.inl ⟨by rfl, ?hyz51u32⟩) hHeld ?restz51u32
    case hyz51u32 => (intro w hSw; (try dsimp only at hSw); go_simp; first | done | with_reducible rfl)
    try simp only [Act.put, List.getElem_toArray, List.getElem_cons_zero, List.getElem_cons_succ, List.setIfInBounds_toArray, List.set_cons_zero, List.set_cons_succ]
    refine wpAnyH_take (i := 32) (oi := _) (v := ?vz51u33) rfl (by kernel_rfl) (by kernel_rfl) (by kernel_rfl) (fun _ _ _ h => h) (Or.inl ⟨by rfl, ?hyz51u33⟩) hHeld ?restz51u33
    case hyz51u33 => (intro w hSw; (try dsimp only at hSw); go_simp; first | done | with_reducible rfl)
    try simp only [Act.put, List.getElem_toArray, List.getElem_cons_zero, List.getElem_cons_succ, List.setIfInBounds_toArray, List.set_cons_zero, List.set_cons_succ]
    refine wpAnyH_take (i := 33) (oi := _) (v := ?vz51u34) rfl (by kernel_rfl) (by kernel_rfl) (by kernel_rfl) (fun _ _ _ h => h) (Or.inl ⟨by rfl, ?hyz51u34⟩) hHeld ?restz51u34
    case hyz51u34 => (intro w hSw; (try dsimp only at hSw); go_simp; first | done | with_reducible rfl)
    try simp only [Act.put, List.getElem_toArray, List.getElem_cons_zero, List.getElem_cons_succ, List.setIfInBounds_toArray, List.set_cons_zero, List.set_cons_succ]
    refine wpAnyH_take (i := 34) (oi := _) (v := ?vz51u35) rfl (by kernel_rfl) (by kernel_rfl) (by kernel_rfl) (fun _ _ _ h => h) (Or.inl ⟨by rfl, ?hyz51u35⟩) hHeld ?restz51u35
    case hyz51u35 => (intro w hSw; (try dsimp only at hSw); go_simp; first | done | with_reducible rfl)
    try simp only [Act.put, List.getElem_toArray, List.getElem_cons_zero, List.getElem_cons_succ, List.setIfInBounds_toArray, List.set_cons_zero, List.set_cons_succ]
    refine wpAnyH_take (i := 35) (oi := _) (v := ?vz51u36) rfl (by kernel_rfl) (by kernel_rfl) (by kernel_rfl) (fun _ _ _ h => h) (Or.inl ⟨by rfl, ?hyz51u36⟩) hHeld ?restz51u36
    case hyz51u36 => (intro w hSw; (try dsimp only at hSw); go_simp; first | done | with_reducible rfl)
    try simp only [Act.put, List.getElem_toArray, List.getElem_cons_zero, List.getElem_cons_succ, List.setIfInBounds_toArray, List.set_cons_zero, List.set_cons_succ]
    refine wpAnyH_take (i := 36) (oi := _) (v := ?vz51u37) rfl (by kernel_rfl) (by kernel_rfl) (by kernel_rfl) (fun _ _ _ h => h) (Or.inl ⟨by rfl, ?hyz51u37⟩) hHeld ?restz51u37
    case hyz51u37 => (intro w hSw; (try dsimp only at hSw); go_simp; first | done | with_reducible rfl)
    try simp only [Act.put, List.getElem_toArray, List.getElem_cons_zero, List.getElem_cons_succ, List.setIfInBounds_toArray, List.set_cons_zero, List.set_cons_succ]
    refine wpAnyH_take (i := 37) (oi := _) (v := ?vz51u38) rfl (by kernel_rfl) (by kernel_rfl) (by kernel_rfl) (fun _ _ _ h => h) (Or.inl ⟨by rfl, ?hyz51u38⟩) hHeld ?restz51u38
    case hyz51u38 => (intro w hSw; (try dsimp only at hSw); go_simp; first | done | with_reducible rfl)
    try simp only [Act.put, List.getElem_toArray, List.getElem_cons_zero, List.getElem_cons_succ, List.setIfInBounds_toArray, List.set_cons_zero, List.set_cons_succ]
    refine wpAnyH_take (i := 38) (oi := _) (v := ?vz51u39) rfl (by kernel_rfl) (by kernel_rfl) (by kernel_rfl) (fun _ _ _ h => h) (Or.inl ⟨by rfl, ?hyz51u39⟩) hHeld ?restz51u39
    case hyz51u39 => (intro w hSw; (try dsimp only at hSw); go_simp; first | done | with_reducible rfl)
    try simp only [Act.put, List.getElem_toArray, List.getElem_cons_zero, List.getElem_cons_succ, List.setIfInBounds_toArray, List.set_cons_zero, List.set_cons_succ]
    refine wpAnyH_take (i := 39) (oi := _) (v := ?vz51u40) rfl (by kernel_rfl) (by kernel_rfl) (by kernel_rfl) (fun _ _ _ h => h) (Or.inl ⟨by rfl, ?hyz51u40⟩) hHeld ?restz51u40
    case hyz51u40 => (intro w hSw; (try dsimp only at hSw); go_simp; first | done | with_reducible rfl)
    try simp only [Act.put, List.getElem_toArray, List.getElem_cons_zero, List.getElem_cons_succ, List.setIfInBounds_toArray, List.set_cons_zero, List.set_cons_succ]
    refine wpAnyH_take (i := 40) (oi := _) (v := ?vz51u41) rfl (by kernel_rfl) (by kernel_rfl) (by kernel_rfl) (fun _ _ _ h => h) (Or.inl ⟨by rfl, ?hyz51u41⟩) hHeld ?restz51u41
    case hyz51u41 => (intro w hSw; (try dsimp only at hSw); go_simp; first | done | with_reducible rfl)
    try simp only [Act.put, List.getElem_toArray, List.getElem_cons_zero, List.getElem_cons_succ, List.setIfInBounds_toArray, List.set_cons_zero, List.set_cons_succ]
    refine wpAnyH_take (i := 41) (oi := _) (v := ?vz51u42) rfl (by kernel_rfl) (by kernel_rfl) (by kernel_rfl) (fun _ _ _ h => h) (Or.inl ⟨by rfl, ?hyz51u42⟩) hHeld ?restz51u42
    case hyz51u42 => (intro w hSw; (try dsimp only at hSw); go_simp; first | done | with_reducible rfl)
    try simp only [Act.put, List.getElem_toArray, List.getElem_cons_zero, List.getElem_cons_succ, List.setIfInBounds_toArray, List.set_cons_zero, List.set_cons_succ]
    refine wpAnyH_take (i := 42) (oi := _) (v := ?vz51u43) rfl (by kernel_rfl) (by kernel_rfl) (by kernel_rfl) (fun _ _ _ h => h) (Or.inl ⟨by rfl, ?hyz51u43⟩) hHeld ?restz51u43
    case hyz51u43 => (intro w hSw; (try dsimp only at hSw); go_simp; first | done | with_reducible rfl)
    try simp only [Act.put, List.getElem_toArray, List.getElem_cons_zero, List.getElem_cons_succ, List.setIfInBounds_toArray, List.set_cons_zero, List.set_cons_succ]
    refine wpAnyH_take (i := 43) (oi := _) (v := ?vz51u44) rfl (by kernel_rfl) (by kernel_rfl) (by kernel_rfl) (fun _ _ _ h => h) (Or.inl ⟨by rfl, ?hyz51u44⟩) hHeld ?restz51u44
    case hyz51u44 => (intro w hSw; (try dsimp only at hSw); go_simp; first | done | with_reducible rfl)
    try simp only [Act.put, List.getElem_toArray, List.getElem_cons_zero, List.getElem_cons_succ, List.setIfInBounds_toArray, List.set_cons_zero, List.set_cons_succ]
    refine wpAnyH_take (i := 44) (oi := _) (v := ?vz51u45) rfl (by kernel_rfl) (by kernel_rfl) (by kernel_rfl) (fun _ _ _ h => h) (Or.inl ⟨by rfl, ?hyz51u45⟩) hHeld ?restz51u45
    case hyz51u45 => (intro w hSw; (try dsimp only at hSw); go_simp; first | done | with_reducible rfl)
    try simp only [Act.put, List.getElem_toArray, List.getElem_cons_zero, List.getElem_cons_succ, List.setIfInBounds_toArray, List.set_cons_zero, List.set_cons_succ]
    refine wpAnyH_take (i := 45) (oi := _) (v := ?vz51u46) rfl (by kernel_rfl) (by kernel_rfl) (by kernel_rfl) (fun _ _ _ h => h) (Or.inl ⟨by rfl, ?hyz51u46⟩) hHeld ?restz51u46
    case hyz51u46 => (intro w hSw; (try dsimp only at hSw); go_simp; first | done | with_reducible rfl)
    try simp only [Act.put, List.getElem_toArray, List.getElem_cons_zero, List.getElem_cons_succ, List.setIfInBounds_toArray, List.set_cons_zero, List.set_cons_succ]
    refine wpAnyH_take (i := 46) (oi := _) (v := ?vz51u47) rfl (by kernel_rfl) (by kernel_rfl) (by kernel_rfl) (fun _ _ _ h => h) (Or.inl ⟨by rfl, ?hyz51u47⟩) hHeld ?restz51u47
    case hyz51u47 => (intro w hSw; (try dsimp only at hSw); go_simp; first | done | with_reducible rfl)
    try simp only [Act.put, List.getElem_toArray, List.getElem_cons_zero, List.getElem_cons_succ, List.setIfInBounds_toArray, List.set_cons_zero, List.set_cons_succ]
    refine wpAnyH_take (i := 47) (oi := _) (v := ?vz51u48) rfl (by kernel_rfl) (by kernel_rfl) (by kernel_rfl) (fun _ _ _ h => h) (Or.inl ⟨by rfl, ?hyz51u48⟩) hHeld ?restz51u48
    case hyz51u48 => (intro w hSw; (try dsimp only at hSw); go_simp; first | done | with_reducible rfl)
    try simp only [Act.put, List.getElem_toArray, List.getElem_cons_zero, List.getElem_cons_succ, List.setIfInBounds_toArray, List.set_cons_zero, List.set_cons_succ]
    refine wpAnyH_take (i := 48) (oi := _) (v := ?vz51u49) rfl (by kernel_rfl) (by kernel_rfl) (by kernel_rfl) (fun _ _ _ h => h) (Or.inl ⟨by rfl, ?hyz51u49⟩) hHeld ?restz51u49
    case hyz51u49 => (intro w hSw; (try dsimp only at hSw); go_simp; first | done | with_reducible rfl)
    try simp only [Act.put, List.getElem_toArray, List.getElem_cons_zero, List.getElem_cons_succ, List.setIfInBounds_toArray, List.set_cons_zero, List.set_cons_succ]
    refine wpAnyH_take (i := 49) (oi := _) (v := ?vz51u50) rfl (by kernel_rfl) (by kernel_rfl) (by kernel_rfl) (fun _ _ _ h => h) (Or.inl ⟨by rfl, ?hyz51u50⟩) hHeld ?restz51u50
    case hyz51u50 => (intro w hSw; (try dsimp only at hSw); go_simp; first | done | with_reducible rfl)
    try simp only [Act.put, List.getElem_toArray, List.getElem_cons_zero, List.getElem_cons_succ, List.setIfInBounds_toArray, List.set_cons_zero, List.set_cons_succ]
    refine wpAnyH_take (i := 50) (oi := _) (v := ?vz51u51) rfl (by kernel_rfl) (by kernel_rfl) (by kernel_rfl) (fun _ _ _ h => h) (Or.inl ⟨by rfl, ?hyz51u51⟩) hHeld ?restz51u51
    case hyz51u51 => (intro w hSw; (try dsimp only at hSw); go_simp; first | done | with_reducible rfl)
    try simp only [Act.put, List.getElem_toArray, List.getElem_cons_zero, List.getElem_cons_succ, List.setIfInBounds_toArray, List.set_cons_zero, List.set_cons_succ]
    refine wpAnyH_done (by kernel_rfl) ?_ _
    clear K hHeld
    replace VP := VP.kept (thenB (Below.refl _ _).drew bz51v3)
    replace VR := VR.kept (thenB (Below.refl _ _).drew bz51v3)
    replace VA := VA.kept (thenB (Below.refl _ _).drew bz51v3)
    replace R2 := R2.kept (thenB (Below.refl _ _).drew bz51v3)
    replace B := thenB B (thenB (Below.refl _ _).drew bz51v3)
    have Sz51 := ((thenB (Below.refl _ _).drew bz51v3)).size
    clear bz51v3
    obtain ⟨s_VP, f_VP, z_VP⟩ := VP.open
    obtain ⟨s_VR, f_VR, z_VR⟩ := VR.open
    obtain ⟨s_VA, f_VA, z_VA⟩ := VA.open
    have Bo := B
    clear s_VP f_VP z_VP s_VR f_VR z_VR s_VA f_VA z_VA
    replace R2 := Hid.mk R2
    have HBl := Hid.mk B
    clear B Bo VA
    generalize hvr : w51.heap.size = br at *
    obtain ⟨s_VP, f_VP, z_VP⟩ := VP.open
    obtain ⟨s_VR, f_VR, z_VR⟩ := VR.open
    skip
    go_wp2
    go_loopw [7] (fun i wr => ∃ k : Nat, k ≤ m ∧ i = .int .i64 k ∧ V wr wA.heap.size [.int .i64 t.o, .int .i64 t.a, .int .i64 t.b, .int .i64 t.n] ∧ V wr br [.int .i64 0, .int .i64 J, .slice (some ⟨b1, o1, none⟩) kl d1] ∧ Below wA.heap.size wA wr ∧ RdTerm wr (some ⟨b1, o1, none⟩) ls) (fun i _ => m - (intOf i).toNat)
    case atStart => exact ⟨0, Nat.zero_le _, rfl, VP, VR, HBl.out, R2.out⟩
    case round =>
      clear VP VR HBl R2 R1'
      obtain ⟨k, hk, rfl, VP, VR, B, R1⟩ := hrel
      by_cases hlt : k < m
      · obtain ⟨y, hy⟩ : ∃ y, xs.getD k zTerm = y := ⟨_, rfl⟩
        have hk1 : (k : Int) < (m : Int) := by omega
        have hk2 : k < kl := by omega
        have hy2 : ls.getD k zTerm = y := by rw [← hy]; exact hsame'.out k (by rw [hlen'.out]; exact hlt)
        have q1 := eqTm0 y y
        rw [teq_self] at q1
        have HR1 := Hid.mk R1
        rcases R1 with h0 | ⟨b3, o3, e3, hca⟩
        · have := hkl'.out; rw [h0] at this; simp at this; omega
        simp only [Option.some.injEq, Addr.mk.injEq, and_true] at e3
        obtain ⟨rfl, rfl⟩ := e3
        obtain ⟨p0, p1, p2, p3⟩ := RdTerm.cells hca k (by rw [hkl'.out]; exact hk2) y hy2
        clear hca hy2
        rcases HR.out.kept B with h0 | ⟨b2, o2, rfl, hcb⟩
        · have := hlen'.out; rw [h0] at this; simp at this; omega
        obtain ⟨r0, r1, r2, r3⟩ := RdTerm.cells hcb k (by rw [hlen'.out]; exact hlt) y hy
        clear hcb hy
        have VP1 := Hid.mk VP
        have VR1 := Hid.mk VR
        have HB := Hid.mk B
        obtain ⟨s_VR, f_VR, z_VR⟩ := VR.open
        clear VP
        go_wp2
        go_quiet (fail)
        go_wp2
        go_roundw
        case rel => exact ⟨k + 1, by omega, by go_num, VP1.out.kept (belowN (Below.refl _ _) _), VR1.out.kept (belowN (Below.refl _ _) _), belowN HB.out _, HR1.out.kept (belowN (Below.refl _ _) _)⟩
        case measure => simp [intOf]; omega
      · obtain rfl : k = m := by omega
        have HF := Hid.mk (HB0.out.trans (B.mono HB0.out.size))
        go_wp2
        go_ret
        exact ⟨rfl, HF.out⟩

end Go.Proofs.Ytedippfnlaiapaa
