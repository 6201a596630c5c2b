/- Put together: RfB, RfC, XFr. -/
import Derived.Test.YtfldgeokigcokaaFFc
import Derived.Test.YtfldgeokigcokaaFFb
import Derived.Test.YtfldgeokigcokaaFFh
import Derived.Deep.RegionHeld3

/- readFrame: where there are bytes. -/
namespace Go.Proofs.Ytfldgeokigcokaa
open Go.RowKit

/-- What 'readFrame' leaves. -/
def FrameOf (ds : List Int) (w : World) : Ending → World → Prop := fun e w' => Below w.heap.size w w' ∧ ((fdB ds = false ∧ e = stop 5) ∨ (fdB ds = true ∧ ∃ c d, e = .returned (.agg #[.int .i64 0, .int .i64 (ds.getD 1 0), .int .i64 (takeN ds 2 4), .int .i64 (takeN ds 6 4), .int .i64 (takeN ds 10 4), .slice c (ds.drop 16).length d]) ∧ Own .u8 5 w' w.heap.size c d (ds.drop 16)))

theorem build_rdr0 (x : Option Addr) (m d : Nat) (w : World) : (Instr.build 104 #[(0, .slice x m d)]).run Try.prog w = .ok (.agg #[.slice x m d, .pointer none]) w := run_build w 104 _ _ (by kernel_rfl)

theorem build_fr4 (a b c d : Int) (w : World) : (Instr.build 26 #[(1, .int .i64 a), (2, .int .i64 b), (3, .int .i64 c), (4, .int .i64 d)]).run Try.prog w = .ok (.agg #[.int .i64 0, .int .i64 a, .int .i64 b, .int .i64 c, .int .i64 d, .slice none 0 0]) w := run_build w 26 _ _ (by kernel_rfl)

set_option maxRecDepth 20000 in
set_option maxHeartbeats 16000000 in
theorem readFrame_some (bx ox m d : Nat) (ds : List Int) (w : World) (hr : Rd .u8 w (some ⟨bx, ox, none⟩) ds) (hb : Bytes ds) (hm : ds.length = m) (hm4 : m ≤ 1048576) (hd : m ≤ d) (hbx : bx < w.heap.size) :
    Calls Try.prog 46 #[.slice (some ⟨bx, ox, none⟩) m d] w (FrameOf ds w) := by
  have q1 := build_rdr0
  have q2 := build_fr4
  unfold FrameOf
  have HB := Hid.mk hb
  have HM := Hid.mk hm
  obtain ⟨KI, hKI⟩ : ∃ x, ds.getD 1 0 = x := ⟨_, rfl⟩
  obtain ⟨AA, hAA⟩ : ∃ x, takeN ds 2 4 = x := ⟨_, rfl⟩
  obtain ⟨CC, hCC⟩ : ∃ x, takeN ds 6 4 = x := ⟨_, rfl⟩
  obtain ⟨NN, hNN⟩ : ∃ x, takeN ds 10 4 = x := ⟨_, rfl⟩
  have HKI := Hid.mk hKI
  have HAA := Hid.mk hAA
  have HCC := Hid.mk hCC
  have HNN := Hid.mk hNN
  clear hb hm hKI hAA hCC hNN
  go_enter Try.func46, Try.ntmps46
  have S := Sm.refl (fun k => w.heap.size ≤ k) w
  replace hr := hr.kept (belowA w (.cells #[.int .i64 0, .int .i64 0, .int .i64 0, .int .i64 0, .int .i64 0, .slice none 0 0] 26))
  replace S := S.trans (Sm.below (belowA w (.cells #[.int .i64 0, .int .i64 0, .int .i64 0, .int .i64 0, .int .i64 0, .slice none 0 0] 26)))
  have VR := V.new w [.int .i64 0, .int .i64 0, .int .i64 0, .int .i64 0, .int .i64 0, .slice none 0 0] 26
  replace VR := VR.kept (belowA (w.alloc (.cells #[.int .i64 0, .int .i64 0, .int .i64 0, .int .i64 0, .int .i64 0, .slice none 0 0] 26)) (.cells #[.slice (some ⟨bx, ox, none⟩) m d, .pointer none] 104))
  replace hr := hr.kept (belowA (w.alloc (.cells #[.int .i64 0, .int .i64 0, .int .i64 0, .int .i64 0, .int .i64 0, .slice none 0 0] 26)) (.cells #[.slice (some ⟨bx, ox, none⟩) m d, .pointer none] 104))
  replace S := S.trans (Sm.below (belowA (w.alloc (.cells #[.int .i64 0, .int .i64 0, .int .i64 0, .int .i64 0, .int .i64 0, .slice none 0 0] 26)) (.cells #[.slice (some ⟨bx, ox, none⟩) m d, .pointer none] 104)))
  have VP : V ((w.alloc (.cells #[.int .i64 0, .int .i64 0, .int .i64 0, .int .i64 0, .int .i64 0, .slice none 0 0] 26)).alloc (.cells #[.slice (some ⟨bx, ox, none⟩) m d, .pointer none] 104)) (w.heap.size + 1) [.slice (some ⟨bx, ox, none⟩) m d, .pointer none] := V.newAt _ _ _ _ (by simp)
  have hbp : bx ≠ w.heap.size + 1 := by omega
  have R : RdAt ((w.alloc (.cells #[.int .i64 0, .int .i64 0, .int .i64 0, .int .i64 0, .int .i64 0, .slice none 0 0] 26)).alloc (.cells #[.slice (some ⟨bx, ox, none⟩) m d, .pointer none] 104)) (w.heap.size + 1) (.pointer none) bx ds 0 := ⟨_, d, ⟨by rw [Nat.sub_zero, HM.out]; exact VP, by simpa using hr, by simp, by rw [Nat.sub_zero, HM.out]; exact hd, by rw [Nat.sub_zero, HM.out]; exact hm4, fun b h => by simp only [Option.some.injEq] at h; subst h; rfl, fun h => by cases h⟩, by simp⟩
  skip
  have VPo := VP
  by_cases hl0 : 1 ≤ ds.length
  case neg =>
    have CN := numAt_no (w.heap.size + 1) (.pointer none) bx ds 0 1 _ R HB.out (by omega) (by decide)
    rw [show ((1 : Nat) : Int) = 1 from rfl] at CN
    replace CN := Hid.mk CN
    obtain ⟨s_VR, f_VR, z_VR⟩ := VR.open
    go_wp2_with fail
    refine CN.out.mono ?_
    rintro e wz ⟨rfl, bz⟩
    clear s_VR f_VR z_VR
    exact ⟨rfl, (S.trans (Sm.below bz)).below' (Below.refl _ _) (Nat.le_refl _) (fun k hk => hk), .inl ⟨fd_short (by omega), rfl⟩⟩
  have CN := numAt_ok (w.heap.size + 1) (.pointer none) bx ds 0 1 _ R HB.out hl0 (by decide) (by decide) (.inr hbp)
  rw [show ((1 : Nat) : Int) = 1 from rfl, show 0 + 1 = 1 from rfl, takeN_byte] at CN
  replace CN := Hid.mk CN
  obtain ⟨s_VR, f_VR, z_VR⟩ := VR.open
  go_wp2_with fail
  refine CN.out.mono ?_
  rintro e w1 ⟨rfl, Sx, Rx⟩
  clear s_VR f_VR z_VR
  have hs1 := Sx.size
  simp only [World.size_alloc] at hs1
  replace VR := VR.sm Sx (by omega)
  replace hr := hr.sm Sx (fun b hb' e => by simp only [Option.some.injEq] at hb'; subst hb'; exact hbp e)
  replace S := S.trans (Sx.wider (fun k e => by rw [e]; omega))
  clear R Sx CN
  have R := Rx
  clear Rx
  obtain ⟨s_VR, f_VR, z_VR⟩ := VR.open
  clear VP VPo
  clear s_VR f_VR z_VR
  by_cases hl1 : 2 ≤ ds.length
  case neg =>
    have CN := numAt_no (w.heap.size + 1) (.pointer none) bx ds 1 1 _ R HB.out (by omega) (by decide)
    rw [show ((1 : Nat) : Int) = 1 from rfl] at CN
    replace CN := Hid.mk CN
    obtain ⟨s_VR, f_VR, z_VR⟩ := VR.open
    go_wp2_with fail
    refine CN.out.mono ?_
    rintro e wz ⟨rfl, bz⟩
    clear s_VR f_VR z_VR
    exact ⟨rfl, (S.trans (Sm.below bz)).below' (Below.refl _ _) (Nat.le_refl _) (fun k hk => hk), .inl ⟨fd_short (by omega), rfl⟩⟩
  have CN := numAt_ok (w.heap.size + 1) (.pointer none) bx ds 1 1 _ R HB.out hl1 (by decide) (by decide) (.inr hbp)
  rw [show ((1 : Nat) : Int) = 1 from rfl, show 1 + 1 = 2 from rfl, takeN_byte] at CN
  rw [HKI.out] at CN
  replace CN := Hid.mk CN
  obtain ⟨s_VR, f_VR, z_VR⟩ := VR.open
  go_wp2_with fail
  refine CN.out.mono ?_
  rintro e w2 ⟨rfl, Sx, Rx⟩
  clear s_VR f_VR z_VR
  have hs2 := Sx.size
  replace VR := VR.sm Sx (by omega)
  replace hr := hr.sm Sx (fun b hb' e => by simp only [Option.some.injEq] at hb'; subst hb'; exact hbp e)
  replace S := S.trans (Sx.wider (fun k e => by rw [e]; omega))
  clear R Sx CN
  have R := Rx
  clear Rx
  obtain ⟨s_VR, f_VR, z_VR⟩ := VR.open
  clear s_VR f_VR z_VR
  by_cases hl2 : 6 ≤ ds.length
  case neg =>
    have CN := numAt_no (w.heap.size + 1) (.pointer none) bx ds 2 4 _ R HB.out (by omega) (by decide)
    rw [show ((4 : Nat) : Int) = 4 from rfl] at CN
    replace CN := Hid.mk CN
    obtain ⟨s_VR, f_VR, z_VR⟩ := VR.open
    go_wp2_with fail
    refine CN.out.mono ?_
    rintro e wz ⟨rfl, bz⟩
    clear s_VR f_VR z_VR
    exact ⟨rfl, (S.trans (Sm.below bz)).below' (Below.refl _ _) (Nat.le_refl _) (fun k hk => hk), .inl ⟨fd_short (by omega), rfl⟩⟩
  have CN := numAt_ok (w.heap.size + 1) (.pointer none) bx ds 2 4 _ R HB.out hl2 (by decide) (by decide) (.inr hbp)
  rw [show ((4 : Nat) : Int) = 4 from rfl, show 2 + 4 = 6 from rfl] at CN
  rw [HAA.out] at CN
  replace CN := Hid.mk CN
  obtain ⟨s_VR, f_VR, z_VR⟩ := VR.open
  go_wp2_with fail
  refine CN.out.mono ?_
  rintro e w3 ⟨rfl, Sx, Rx⟩
  clear s_VR f_VR z_VR
  have hs3 := Sx.size
  replace VR := VR.sm Sx (by omega)
  replace hr := hr.sm Sx (fun b hb' e => by simp only [Option.some.injEq] at hb'; subst hb'; exact hbp e)
  replace S := S.trans (Sx.wider (fun k e => by rw [e]; omega))
  clear R Sx CN
  have R := Rx
  clear Rx
  obtain ⟨s_VR, f_VR, z_VR⟩ := VR.open
  clear s_VR f_VR z_VR
  by_cases hl6 : 10 ≤ ds.length
  case neg =>
    have CN := numAt_no (w.heap.size + 1) (.pointer none) bx ds 6 4 _ R HB.out (by omega) (by decide)
    rw [show ((4 : Nat) : Int) = 4 from rfl] at CN
    replace CN := Hid.mk CN
    obtain ⟨s_VR, f_VR, z_VR⟩ := VR.open
    go_wp2_with fail
    refine CN.out.mono ?_
    rintro e wz ⟨rfl, bz⟩
    clear s_VR f_VR z_VR
    exact ⟨rfl, (S.trans (Sm.below bz)).below' (Below.refl _ _) (Nat.le_refl _) (fun k hk => hk), .inl ⟨fd_short (by omega), rfl⟩⟩
  have CN := numAt_ok (w.heap.size + 1) (.pointer none) bx ds 6 4 _ R HB.out hl6 (by decide) (by decide) (.inr hbp)
  rw [show ((4 : Nat) : Int) = 4 from rfl, show 6 + 4 = 10 from rfl] at CN
  rw [HCC.out] at CN
  replace CN := Hid.mk CN
  obtain ⟨s_VR, f_VR, z_VR⟩ := VR.open
  go_wp2_with fail
  refine CN.out.mono ?_
  rintro e w4 ⟨rfl, Sx, Rx⟩
  clear s_VR f_VR z_VR
  have hs4 := Sx.size
  replace VR := VR.sm Sx (by omega)
  replace hr := hr.sm Sx (fun b hb' e => by simp only [Option.some.injEq] at hb'; subst hb'; exact hbp e)
  replace S := S.trans (Sx.wider (fun k e => by rw [e]; omega))
  clear R Sx CN
  have R := Rx
  clear Rx
  obtain ⟨s_VR, f_VR, z_VR⟩ := VR.open
  clear s_VR f_VR z_VR
  by_cases hl10 : 14 ≤ ds.length
  case neg =>
    have CN := numAt_no (w.heap.size + 1) (.pointer none) bx ds 10 4 _ R HB.out (by omega) (by decide)
    rw [show ((4 : Nat) : Int) = 4 from rfl] at CN
    replace CN := Hid.mk CN
    obtain ⟨s_VR, f_VR, z_VR⟩ := VR.open
    go_wp2_with fail
    refine CN.out.mono ?_
    rintro e wz ⟨rfl, bz⟩
    clear s_VR f_VR z_VR
    exact ⟨rfl, (S.trans (Sm.below bz)).below' (Below.refl _ _) (Nat.le_refl _) (fun k hk => hk), .inl ⟨fd_short (by omega), rfl⟩⟩
  have CN := numAt_ok (w.heap.size + 1) (.pointer none) bx ds 10 4 _ R HB.out hl10 (by decide) (by decide) (.inr hbp)
  rw [show ((4 : Nat) : Int) = 4 from rfl, show 10 + 4 = 14 from rfl] at CN
  rw [HNN.out] at CN
  replace CN := Hid.mk CN
  obtain ⟨s_VR, f_VR, z_VR⟩ := VR.open
  go_wp2_with fail
  refine CN.out.mono ?_
  rintro e w5 ⟨rfl, Sx, Rx⟩
  clear s_VR f_VR z_VR
  have hs5 := Sx.size
  replace VR := VR.sm Sx (by omega)
  replace hr := hr.sm Sx (fun b hb' e => by simp only [Option.some.injEq] at hb'; subst hb'; exact hbp e)
  replace S := S.trans (Sx.wider (fun k e => by rw [e]; omega))
  clear R Sx CN
  have R := Rx
  clear Rx
  obtain ⟨s_VR, f_VR, z_VR⟩ := VR.open
  replace VR := VR.kept (belowA w5 (.cells #[.int .i64 0, .int .i64 KI, .int .i64 AA, .int .i64 CC, .int .i64 NN, .slice none 0 0] 26))
  replace hr := hr.kept (belowA w5 (.cells #[.int .i64 0, .int .i64 KI, .int .i64 AA, .int .i64 CC, .int .i64 NN, .slice none 0 0] 26))
  replace R := R.kept (belowA w5 (.cells #[.int .i64 0, .int .i64 KI, .int .i64 AA, .int .i64 CC, .int .i64 NN, .slice none 0 0] 26))
  replace S := S.trans (Sm.below (belowA w5 (.cells #[.int .i64 0, .int .i64 KI, .int .i64 AA, .int .i64 CC, .int .i64 NN, .slice none 0 0] 26)))
  have VF := V.new w5 [.int .i64 0, .int .i64 KI, .int .i64 AA, .int .i64 CC, .int .i64 NN, .slice none 0 0] 26
  clear s_VR f_VR z_VR
  have hFB : w.heap.size + 1 < w5.heap.size := by omega
  obtain ⟨s_VR, f_VR, z_VR⟩ := VR.open
  obtain ⟨s_VF, f_VF, z_VF⟩ := VF.open
  clear s_VR f_VR z_VR s_VF f_VF z_VF
  by_cases hl14 : 16 ≤ ds.length
  case neg =>
    have CN := numAt_no (w.heap.size + 1) (.pointer none) bx ds 14 2 _ R HB.out (by omega) (by decide)
    rw [show ((2 : Nat) : Int) = 2 from rfl] at CN
    replace CN := Hid.mk CN
    obtain ⟨s_VR, f_VR, z_VR⟩ := VR.open
    obtain ⟨s_VF, f_VF, z_VF⟩ := VF.open
    go_wp2_with fail
    refine CN.out.mono ?_
    rintro e wz ⟨rfl, bz⟩
    clear s_VR f_VR z_VR s_VF f_VF z_VF
    exact ⟨rfl, (S.trans (Sm.below bz)).below' (Below.refl _ _) (Nat.le_refl _) (fun k hk => hk), .inl ⟨fd_short (by omega), rfl⟩⟩
  have CN := numAt_ok (w.heap.size + 1) (.pointer none) bx ds 14 2 _ R HB.out hl14 (by decide) (by decide) (.inr hbp)
  rw [show ((2 : Nat) : Int) = 2 from rfl, show 14 + 2 = 16 from rfl] at CN
  replace CN := Hid.mk CN
  obtain ⟨s_VR, f_VR, z_VR⟩ := VR.open
  obtain ⟨s_VF, f_VF, z_VF⟩ := VF.open
  go_wp2_with fail
  refine CN.out.mono ?_
  rintro e w6 ⟨rfl, Sx, Rx⟩
  clear s_VR f_VR z_VR s_VF f_VF z_VF
  have hs6 := Sx.size
  simp only [World.size_alloc] at hs6
  replace VR := VR.sm Sx (by omega)
  replace VF := VF.sm Sx (by omega)
  replace hr := hr.sm Sx (fun b hb' e => by simp only [Option.some.injEq] at hb'; subst hb'; exact hbp e)
  replace S := S.trans (Sx.wider (fun k e => by rw [e]; omega))
  clear R Sx CN
  have R := Rx
  clear Rx
  obtain ⟨s_VR, f_VR, z_VR⟩ := VR.open
  obtain ⟨s_VF, f_VF, z_VF⟩ := VF.open
  clear s_VR f_VR z_VR s_VF f_VF z_VF
  obtain ⟨x5, d5, R5, hx5⟩ := R
  have hz5 : x5 = none → d5 = 0 := fun h => absurd h hx5
  obtain ⟨l5, hl5⟩ : ∃ l, ds.length - 16 = l := ⟨_, rfl⟩
  have hlm5 : l5 ≤ 1048576 := by have := HM.out; omega
  rw [hl5] at R5
  have HL5 := Hid.mk R5.len
  have CE := fun w h => implEncodeFrame_ok KI AA CC NN x5 l5 d5 (ds.drop 16) w h R5.len (by unfold maxLen; omega) hz5
  obtain ⟨EC, hEC⟩ : ∃ c, frmC KI AA CC NN (ds.drop 16) = c := ⟨_, rfl⟩
  obtain ⟨EB, hEB⟩ : ∃ c, frmB KI AA CC NN (ds.drop 16) = c := ⟨_, rfl⟩
  rw [hEC, hEB] at CE
  have HAG : Hid (EB = ds ↔ fdB ds = true) := Hid.mk (by have h := fr_again HB.out (by omega); rw [HKI.out, HAA.out, HCC.out, HNN.out, hEB] at h; exact h)
  have HBE : Hid (Bytes EB) := Hid.mk (by rw [← hEB]; exact frmB_bytes (fun z hz => HB.out z (List.mem_of_mem_drop hz)))
  obtain ⟨el, hel⟩ : ∃ l, EB.length = l := ⟨_, rfl⟩
  rw [hel] at CE
  have HEL := Hid.mk hel
  replace CE := Hid.mk CE
  clear hEC hEB hel hl5 hx5 hz5
  have K : ∀ w' : World, Below w6.heap.size w6 w' → (w'.cell? ⟨w.heap.size + 1, 0, none⟩ = some (.slice x5 l5 d5) ∧ w'.cell? ⟨w5.heap.size, 1, none⟩ = some (.int .i64 KI) ∧ w'.cell? ⟨w5.heap.size, 2, none⟩ = some (.int .i64 AA) ∧ w'.cell? ⟨w5.heap.size, 3, none⟩ = some (.int .i64 CC) ∧ w'.cell? ⟨w5.heap.size, 4, none⟩ = some (.int .i64 NN)) := fun w' h => ⟨(R5.v.kept h).2.1 0 (by simp), (VF.kept h).2.1 1 (by simp), (VF.kept h).2.1 2 (by simp), (VF.kept h).2.1 3 (by simp), (VF.kept h).2.1 4 (by simp)⟩
  have K := Hid.mk K
  have RR := Hid.mk R5
  have SS := Hid.mk S
  have VFF := Hid.mk VF
  have VRR := Hid.mk VR
  have HHR := Hid.mk hr
  clear R5 S VF VR hr
  obtain ⟨s_VF, f_VF, z_VF⟩ := VFF.out.open
  go_upto_region 5 with fail
  clear s_VF f_VF z_VF
  go_cut [5] (fun p wx => ∃ (PI : Nat) (c6 : Option Addr) (d6 : Nat), p = .pointer (some ⟨PI, 0, none⟩) ∧ V wx PI [.int .i64 EC, .slice c6 el d6] ∧ Hid (Own .u8 5 wx w6.heap.size c6 d6 EB) ∧ Hid (Below w6.heap.size w6 wx))
  case first =>
    refine wp_region_held_drew (S := (fun w' => w'.cell? ⟨w.heap.size + 1, 0, none⟩ = some (.slice x5 l5 d5) ∧ w'.cell? ⟨w5.heap.size, 1, none⟩ = some (.int .i64 KI) ∧ w'.cell? ⟨w5.heap.size, 2, none⟩ = some (.int .i64 AA) ∧ w'.cell? ⟨w5.heap.size, 3, none⟩ = some (.int .i64 CC) ∧ w'.cell? ⟨w5.heap.size, 4, none⟩ = some (.int .i64 NN))) (by kernel_rfl) (K.out _ (Below.refl _ _).drew) (fun hHeld => ?_)
    have bd : Below w6.heap.size w6 w6.drew := (Below.refl _ _).drew
    have HRD := Hid.mk (RR.out.rd.kept bd)
    generalize w6.drew = wd at *
    refine wpAnyH_take (i := 0) (oi := _) (v := ?vrf1) rfl (by kernel_rfl) (by kernel_rfl) (by kernel_rfl) (fun _ _ _ h => h) (Or.inl ⟨by kernel_rfl, ?hyrf1⟩) hHeld ?restrf1
    case hyrf1 => (intro w hSw; (try dsimp only at hSw); go_simp; first | done | with_reducible rfl)
    try simp only [Act.put, List.getElem_toArray, List.getElem_cons_zero, List.setIfInBounds_toArray, List.set_cons_zero, List.set_cons_succ]
    refine wpAnyH_take (i := 1) (oi := _) (v := ?vrf2) rfl (by kernel_rfl) (by kernel_rfl) (by kernel_rfl) (fun _ _ _ h => h) (Or.inl ⟨by kernel_rfl, ?hyrf2⟩) hHeld ?restrf2
    case hyrf2 => (intro w hSw; (try dsimp only at hSw); go_simp; first | done | with_reducible rfl)
    try simp only [Act.put, List.getElem_toArray, List.getElem_cons_zero, List.getElem_cons_succ, List.setIfInBounds_toArray, List.set_cons_zero, List.set_cons_succ]
    refine wpAnyH_take (i := 2) (oi := _) (v := ?vrf3) rfl (by kernel_rfl) (by kernel_rfl) (by kernel_rfl) (fun _ _ _ h => h) (Or.inl ⟨by kernel_rfl, ?hyrf3⟩) hHeld ?restrf3
    case hyrf3 => (intro w hSw; (try dsimp only at hSw); go_simp; first | done | with_reducible rfl)
    try simp only [Act.put, List.getElem_toArray, List.getElem_cons_zero, List.getElem_cons_succ, List.setIfInBounds_toArray, List.set_cons_zero, List.set_cons_succ]
    refine wpAnyH_take (i := 3) (oi := _) (v := ?vrf4) rfl (by kernel_rfl) (by kernel_rfl) (by kernel_rfl) (fun _ _ _ h => h) (Or.inl ⟨by kernel_rfl, ?hyrf4⟩) hHeld ?restrf4
    case hyrf4 => (intro w hSw; (try dsimp only at hSw); go_simp; first | done | with_reducible rfl)
    try simp only [Act.put, List.getElem_toArray, List.getElem_cons_zero, List.getElem_cons_succ, List.setIfInBounds_toArray, List.set_cons_zero, List.set_cons_succ]
    refine wpAnyH_take (i := 4) (oi := _) (v := ?vrf5) rfl (by kernel_rfl) (by kernel_rfl) (by kernel_rfl) (fun _ _ _ h => h) (Or.inl ⟨by kernel_rfl, ?hyrf5⟩) hHeld ?restrf5
    case hyrf5 => (intro w hSw; (try dsimp only at hSw); go_simp; first | done | with_reducible rfl)
    try simp only [Act.put, List.getElem_toArray, List.getElem_cons_zero, List.getElem_cons_succ, List.setIfInBounds_toArray, List.set_cons_zero, List.set_cons_succ]
    refine wpAnyH_take (i := 5) (oi := _) (v := ?vrf6) rfl (by kernel_rfl) (by kernel_rfl) (by kernel_rfl) (fun _ _ _ h => h) (Or.inl ⟨by kernel_rfl, ?hyrf6⟩) hHeld ?restrf6
    case hyrf6 => (intro w hSw; (try dsimp only at hSw); go_simp; first | done | with_reducible rfl)
    try simp only [Act.put, List.getElem_toArray, List.getElem_cons_zero, List.getElem_cons_succ, List.setIfInBounds_toArray, List.set_cons_zero, List.set_cons_succ]
    refine wpAnyH_take (i := 6) (oi := _) (v := ?vrf7) rfl (by kernel_rfl) (by kernel_rfl) (by kernel_rfl) (fun _ _ _ h => h) (Or.inl ⟨by kernel_rfl, ?hyrf7⟩) hHeld ?restrf7
    case hyrf7 => (intro w hSw; (try dsimp only at hSw); go_simp; first | done | with_reducible rfl)
    try simp only [Act.put, List.getElem_toArray, List.getElem_cons_zero, List.getElem_cons_succ, List.setIfInBounds_toArray, List.set_cons_zero, List.set_cons_succ]
    refine wpAnyH_take (i := 7) (oi := _) (v := ?vrf8) rfl (by kernel_rfl) (by kernel_rfl) (by kernel_rfl) (fun _ _ _ h => h) (Or.inl ⟨by kernel_rfl, ?hyrf8⟩) hHeld ?restrf8
    case hyrf8 => (intro w hSw; (try dsimp only at hSw); go_simp; first | done | with_reducible rfl)
    try simp only [Act.put, List.getElem_toArray, List.getElem_cons_zero, List.getElem_cons_succ, List.setIfInBounds_toArray, List.set_cons_zero, List.set_cons_succ]
    refine wpAnyH_take (i := 8) (oi := _) (v := ?vrf9) rfl (by kernel_rfl) (by kernel_rfl) (by kernel_rfl) (fun _ _ _ h => h) (Or.inl ⟨by kernel_rfl, ?hyrf9⟩) hHeld ?restrf9
    case hyrf9 => (intro w hSw; (try dsimp only at hSw); go_simp; first | done | with_reducible rfl)
    try simp only [Act.put, List.getElem_toArray, List.getElem_cons_zero, List.getElem_cons_succ, List.setIfInBounds_toArray, List.set_cons_zero, List.set_cons_succ]
    refine wpAnyH_take (i := 9) (oi := _) (v := ?vrf10) rfl (by kernel_rfl) (by kernel_rfl) (by kernel_rfl) (fun _ _ _ h => h) (Or.inl ⟨by kernel_rfl, ?hyrf10⟩) hHeld ?restrf10
    case hyrf10 => (intro w hSw; (try dsimp only at hSw); go_simp; first | done | with_reducible rfl)
    try simp only [Act.put, List.getElem_toArray, List.getElem_cons_zero, List.getElem_cons_succ, List.setIfInBounds_toArray, List.set_cons_zero, List.set_cons_succ]
    refine wpAnyH_take (i := 10) (oi := _) (v := ?vrf11) rfl (by kernel_rfl) (by kernel_rfl) (by kernel_rfl) (fun _ _ _ h => h) (Or.inl ⟨by kernel_rfl, ?hyrf11⟩) hHeld ?restrf11
    case hyrf11 => (intro w hSw; (try dsimp only at hSw); go_simp; first | done | with_reducible rfl)
    try simp only [Act.put, List.getElem_toArray, List.getElem_cons_zero, List.getElem_cons_succ, List.setIfInBounds_toArray, List.set_cons_zero, List.set_cons_succ]
    refine wpAnyH_take (i := 11) (oi := _) (v := ?vrf12) rfl (by kernel_rfl) (by kernel_rfl) (by kernel_rfl) (fun _ _ _ h => h) (Or.inl ⟨by kernel_rfl, ?hyrf12⟩) hHeld ?restrf12
    case hyrf12 => (intro w hSw; (try dsimp only at hSw); go_simp; first | done | with_reducible rfl)
    try simp only [Act.put, List.getElem_toArray, List.getElem_cons_zero, List.getElem_cons_succ, List.setIfInBounds_toArray, List.set_cons_zero, List.set_cons_succ]
    refine wpAnyH_ready (rs := [12, 13]) (by kernel_rfl) (by simp) ?_
    refine AllReadyH.cons (o := _) rfl (fun K0 hK0 => ?_) (AllReadyH.cons (o := _) rfl (fun K0 hK0 => ?_) AllReadyH.nil)
    · skip
      go_simp
      go_at_call 13
      refine (CE.out _ HRD.out).mono ?_
      rintro e wE ⟨c6, d6, rfl, O6, bE⟩
      have aE := thenB bd bE
      refine hK0.out _ _ (K.out _ aE) (fun hHeld => ?_)
      clear hK0 K0
      try simp only [Act.put, List.getElem_toArray, List.getElem_cons_zero, List.getElem_cons_succ, List.setIfInBounds_toArray, List.set_cons_zero, List.set_cons_succ]
      refine wpAnyH_ready (rs := [13]) (by kernel_rfl) (by simp) ?_
      refine AllReadyH.cons (o := _) rfl (fun K0 hK0 => ?_) AllReadyH.nil
      go_simp
      have b7 := belowA wE (.cells #[.int .i64 0, .slice none 0 0] 29)
      have a7 := thenB aE b7
      have VN : V (wE.alloc (.cells #[.int .i64 0, .slice none 0 0] 29)) wE.heap.size [.int .i64 0, .slice none 0 0] := V.new _ _ _
      refine hK0.out _ _ (K.out _ a7) (fun hHeld => ?_)
      clear hK0 K0
      try simp only [Act.put, List.getElem_toArray, List.getElem_cons_zero, List.getElem_cons_succ, List.setIfInBounds_toArray, List.set_cons_zero, List.set_cons_succ]
      have hlt6 := O6.lt
      have O6' := (O6.kept b7).mono bd.size
      clear O6
      have O6 := O6'
      obtain ⟨PI, hPE⟩ : ∃ PI, wE.heap.size = PI := ⟨_, rfl⟩
      have hPI := Hid.mk (show w6.heap.size ≤ PI by rw [← hPE]; exact aE.size)
      have hO6 : ∀ b : Addr, c6 = some b → b.block ≠ PI := fun b hb' => by have := (hlt6 b hb').2; omega
      generalize wE.alloc (.cells #[.int .i64 0, .slice none 0 0] 29) = wn at *
      rw [hPE] at VN ⊢
      clear hPE hlt6
      refine wpAnyH_ready (rs := [14]) (by kernel_rfl) (by simp) ?_
      refine AllReadyH.cons (o := _) rfl (fun K0 hK0 => ?_) AllReadyH.nil
      rw [if_pos (by rfl)]
      have hT := VN.there
      have VFn := VN.filled [.int .i64 EC, .slice c6 el d6] rfl
      have hle := hPI.out
      have bF := belowCells a7 hle 0 [.int .i64 EC, .slice c6 el d6]
      have OF := O6.apart8 (B := PI) hO6 0 [.int .i64 EC, .slice c6 el d6]
      refine wp_store_mid _ _ _ rfl PI 0 #[.int .i64 EC, .slice c6 el d6] rfl rfl hT (by kernel_rfl) (by kernel_rfl) ?_
      refine hK0.out _ _ (K.out _ bF) (fun hHeld => ?_)
      clear hK0 K0
      refine wpAnyH_done (by kernel_rfl) ?_ _
      go_wp2_with fail
      go_meet
      exact ⟨PI, c6, d6, rfl, VFn, Hid.mk OF, Hid.mk bF⟩
    · skip
      go_simp
      have b7 := belowA wd (.cells #[.int .i64 0, .slice none 0 0] 29)
      have a7 := thenB bd b7
      have VN0 : V (wd.alloc (.cells #[.int .i64 0, .slice none 0 0] 29)) wd.heap.size [.int .i64 0, .slice none 0 0] := V.new _ _ _
      have HR7 := Hid.mk (HRD.out.kept b7)
      have hzz : (wd.alloc (.cells #[.int .i64 0, .slice none 0 0] 29)).heap.size = wd.heap.size + 1 := World.size_alloc _ _
      have hZ := Hid.mk hzz
      clear hzz
      refine hK0.out _ _ (K.out _ a7) (fun hHeld => ?_)
      clear hK0 K0
      try simp only [Act.put, List.getElem_toArray, List.getElem_cons_zero, List.getElem_cons_succ, List.setIfInBounds_toArray, List.set_cons_zero, List.set_cons_succ]
      obtain ⟨PI, hPE⟩ : ∃ PI, wd.heap.size = PI := ⟨_, rfl⟩
      have hPI := Hid.mk (show w6.heap.size ≤ PI by rw [← hPE]; exact bd.size)
      rw [hPE] at hZ
      generalize wd.alloc (.cells #[.int .i64 0, .slice none 0 0] 29) = wa at *
      rw [hPE] at VN0 ⊢
      clear hPE
      refine wpAnyH_ready (rs := [12]) (by kernel_rfl) (by simp) ?_
      refine AllReadyH.cons (o := _) rfl (fun K0 hK0 => ?_) AllReadyH.nil
      go_simp
      go_at_call 13
      refine (CE.out _ HR7.out).mono ?_
      rintro e wE ⟨c6, d6, rfl, O6, bE⟩
      have aE := thenB a7 bE
      have VN := VN0.kept bE
      refine hK0.out _ _ (K.out _ aE) (fun hHeld => ?_)
      clear hK0 K0
      try simp only [Act.put, List.getElem_toArray, List.getElem_cons_zero, List.getElem_cons_succ, List.setIfInBounds_toArray, List.set_cons_zero, List.set_cons_succ]
      have hO6 : ∀ b : Addr, c6 = some b → b.block ≠ PI := fun b hb' => by have := (O6.lt b hb').1; have := hZ.out; omega
      have O6' := O6.mono a7.size
      clear O6
      have O6 := O6'
      refine wpAnyH_ready (rs := [14]) (by kernel_rfl) (by simp) ?_
      refine AllReadyH.cons (o := _) rfl (fun K0 hK0 => ?_) AllReadyH.nil
      rw [if_pos (by rfl)]
      have hT := VN.there
      have VFn := VN.filled [.int .i64 EC, .slice c6 el d6] rfl
      have hle := hPI.out
      have bF := belowCells aE hle 0 [.int .i64 EC, .slice c6 el d6]
      have OF := O6.apart8 (B := PI) hO6 0 [.int .i64 EC, .slice c6 el d6]
      refine wp_store_mid _ _ _ rfl PI 0 #[.int .i64 EC, .slice c6 el d6] rfl rfl hT (by kernel_rfl) (by kernel_rfl) ?_
      refine hK0.out _ _ (K.out _ bF) (fun hHeld => ?_)
      clear hK0 K0
      refine wpAnyH_done (by kernel_rfl) ?_ _
      go_wp2_with fail
      go_meet
      exact ⟨PI, c6, d6, rfl, VFn, Hid.mk OF, Hid.mk bF⟩
  case rest =>
    obtain ⟨PI, c6, d6, rfl, VI, O6, B6⟩ := hcut
    clear K CE
    have hb6 := B6.out
    have R := RR.out.kept hb6
    have S := SS.out.trans (Sm.below hb6)
    have VF := VFF.out.kept hb6
    have VR := VRR.out.kept hb6
    have hr := HHR.out.kept hb6
    have hs6 := hb6.size
    have hFBc : Hid (w5.heap.size < wc.heap.size ∧ w.heap.size < wc.heap.size) := Hid.mk ⟨VF.1, VR.1⟩
    clear RR SS VFF VRR HHR hb6
    have hns : NoSpot (some (⟨bx, ox, none⟩ : Addr)) := fun y hy => by simp only [Option.some.injEq] at hy; subst hy; rfl
    have CQ := equal_ok c6 (some ⟨bx, ox, none⟩) el m d6 d EB ds wc O6.out.rd hr O6.out.noSpot hns HEL.out HM.out
    obtain ⟨s_VI, f_VI, z_VI⟩ := VI.open
    cases hf : fdB ds with
    | false =>
      have hqb : eqB EB ds = false := by
        cases hqb : eqB EB ds with
        | false => rfl
        | true => have := HAG.out.1 ((eqB_iff HBE.out HB.out).1 hqb); rw [hf] at this; cases this
      rw [hqb] at CQ
      replace CQ := Hid.mk CQ
      have HF := Hid.mk hf
      clear hqb hf
      go_wp2_with fail
      refine CQ.out.mono ?_
      rintro e wc ⟨rfl, rfl⟩
      go_wp2_with (go_at_call 76; refine (require_no 5 _).mono ?_; rintro e wc ⟨rfl, rfl⟩)
      exact ⟨rfl, S.below' (Below.refl _ _) (Nat.le_refl _) (fun k hk => hk), .inl ⟨HF.out, rfl⟩⟩
    | true =>
      have hqb : eqB EB ds = true := (eqB_iff HBE.out HB.out).2 (HAG.out.2 hf)
      rw [hqb] at CQ
      replace CQ := Hid.mk CQ
      have HF := Hid.mk hf
      clear hqb hf
      go_wp2_with fail
      refine CQ.out.mono ?_
      rintro e wc ⟨rfl, rfl⟩
      clear s_VI f_VI z_VI
      have CC2 := Hid.mk (clone_any x5 l5 d5 (ds.drop 16) wc R.rd HL5.out (by omega))
      have VQ := R.v
      obtain ⟨s_VQ, f_VQ, z_VQ⟩ := VQ.open
      obtain ⟨s_VF, f_VF, z_VF⟩ := VF.open
      go_wp2_with (first | (go_at_call 76; refine (require_ok 5 _).mono ?_; rintro e wc ⟨rfl, rfl⟩) | fail)
      refine CC2.out.mono ?_
      rintro e w8 ⟨c8, d8, rfl, O8, b8⟩
      clear s_VQ f_VQ z_VQ s_VF f_VF z_VF VQ CC2
      have hs8 := b8.size
      replace VF := VF.kept b8
      replace VR := VR.kept b8
      replace S := S.trans (Sm.below b8)
      have OL8 := O8.lt
      clear b8 R hr VI
      have hF8 : Hid (∀ b : Addr, c8 = some b → b.block ≠ w5.heap.size ∧ b.block ≠ w.heap.size) := Hid.mk (fun b hb' => by have h1 := (OL8 b hb').1; have h2 := hFBc.out; omega)
      clear OL8
      have VF8 := VF
      obtain ⟨s_VF, f_VF, z_VF⟩ := VF8.open
      replace VF := VF.set (i := 5) (by simp) (.slice c8 l5 d8)
      simp only [List.set_cons_zero, List.set_cons_succ] at VF
      replace VR := VR.other (p := ⟨w5.heap.size, 5, none⟩) (by simp only; omega) (.slice c8 l5 d8)
      replace S := S.newCell (p := ⟨w5.heap.size, 5, none⟩) (by simp only; omega) (.slice c8 l5 d8)
      have O8' : Own .u8 5 (w8.setCell ⟨w5.heap.size, 5, none⟩ (.slice c8 l5 d8)) wc.heap.size c8 d8 (ds.drop 16) := O8.sm (X := fun k => k = w5.heap.size) (Sm.cell (X := fun k => k = w5.heap.size) (p := ⟨w5.heap.size, 5, none⟩) rfl _) (fun b hb' e => (hF8.out b hb').1 e)
      clear O8
      go_upto_region 8 with fail
      clear s_VF f_VF z_VF VF8
      have VFo := VF
      have HVF := Hid.mk (VR.filled [.int .i64 0, .int .i64 KI, .int .i64 AA, .int .i64 CC, .int .i64 NN, .slice c8 l5 d8] rfl)
      have HT := Hid.mk VR.there
      have SR := Hid.mk (Sm.newCells S (Nat.le_refl w.heap.size) 0 [.int .i64 0, .int .i64 KI, .int .i64 AA, .int .i64 CC, .int .i64 NN, .slice c8 l5 d8])
      have HO := Hid.mk ((O8'.mono (show w.heap.size ≤ wc.heap.size by have := hFBc.out; omega)).apart8 (B := w.heap.size) (fun b hb' => (hF8.out b hb').2) 0 [.int .i64 0, .int .i64 KI, .int .i64 AA, .int .i64 CC, .int .i64 NN, .slice c8 l5 d8])
      obtain ⟨s_VF, f_VF, z_VF⟩ := VFo.open
      obtain ⟨s_VR, f_VR, z_VR⟩ := VR.open
      clear S O8'
      go_wp2_with (refine wpList_store_mid rfl 26 _ _ rfl (w.heap.size) 0 #[.int .i64 0, .int .i64 KI, .int .i64 AA, .int .i64 CC, .int .i64 NN, .slice c8 l5 d8] rfl rfl HT.out (by kernel_rfl) (by kernel_rfl) ?_)
      refine bodyPost_ret (v := .agg #[.int .i64 0, .int .i64 KI, .int .i64 AA, .int .i64 CC, .int .i64 NN, .slice c8 l5 d8]) (results_row Try.results46 _ _ (w.heap.size) [.int .i64 0, .int .i64 KI, .int .i64 AA, .int .i64 CC, .int .i64 NN, .slice c8 l5 d8] _ rfl HVF.out Try.underlying26 rfl (by kernel_rfl)) rfl ⟨SR.out.below' (Below.refl _ _) (Nat.le_refl _) (fun k hk => hk), .inr ⟨HF.out, c8, d8, by rw [HKI.out, HAA.out, HCC.out, HNN.out, HL5.out], HO.out⟩⟩

end Go.Proofs.Ytfldgeokigcokaa

/- DecodeFrame of the program. -/
namespace Go.Proofs.Ytfldgeokigcokaa
open Go.RowKit

theorem build_rdr00 (x : Option Addr) (m d : Nat) (w : World) : (Instr.build 104 #[(0, .slice x m d)]).run Try.prog w = .ok (.agg #[.slice x m d, .pointer none]) w := run_build w 104 _ _ (by kernel_rfl)

set_option maxRecDepth 20000 in
set_option maxHeartbeats 4000000 in
theorem readFrame_nil (bx : Nat) (x : Option Addr) (m d : Nat) (w : World) (hbx : ∀ b : Addr, x = some b → b.block = bx) (hm : ([] : List Int).length = m) (hm4 : m ≤ 1048576) (hd : m ≤ d) :
    Calls Try.prog 46 #[.slice x m d] w (FrameOf [] w) := by
  have q1 := build_rdr00
  unfold FrameOf
  have HM := Hid.mk hm
  have HBX := Hid.mk hbx
  clear hm hbx
  go_enter Try.func46, Try.ntmps46
  have B := Below.refl w.heap.size w
  replace B := thenB B (belowA w (.cells #[.int .i64 0, .int .i64 0, .int .i64 0, .int .i64 0, .int .i64 0, .slice none 0 0] 26))
  have VR := V.new w [.int .i64 0, .int .i64 0, .int .i64 0, .int .i64 0, .int .i64 0, .slice none 0 0] 26
  obtain ⟨s_VR, f_VR, z_VR⟩ := VR.open
  have Bo := B
  replace VR := VR.kept (belowA (w.alloc (.cells #[.int .i64 0, .int .i64 0, .int .i64 0, .int .i64 0, .int .i64 0, .slice none 0 0] 26)) (.cells #[.slice x m d, .pointer none] 104))
  replace B := thenB B (belowA (w.alloc (.cells #[.int .i64 0, .int .i64 0, .int .i64 0, .int .i64 0, .int .i64 0, .slice none 0 0] 26)) (.cells #[.slice x m d, .pointer none] 104))
  have VP : V ((w.alloc (.cells #[.int .i64 0, .int .i64 0, .int .i64 0, .int .i64 0, .int .i64 0, .slice none 0 0] 26)).alloc (.cells #[.slice x m d, .pointer none] 104)) (w.heap.size + 1) [.slice x m d, .pointer none] := V.newAt _ _ _ _ (by simp)
  have R : Rdr ((w.alloc (.cells #[.int .i64 0, .int .i64 0, .int .i64 0, .int .i64 0, .int .i64 0, .slice none 0 0] 26)).alloc (.cells #[.slice x m d, .pointer none] 104)) (w.heap.size + 1) (.pointer none) bx x m d [] := ⟨VP, .inl rfl, HM.out, hd, hm4, HBX.out, fun _ => rfl⟩
  have CN := number_no (w.heap.size + 1) (.pointer none) bx x m d [] 1 _ R (fun z hz => by simp at hz) (by have := HM.out; simp at this; omega)
  rw [show ((1 : Nat) : Int) = 1 from rfl] at CN
  replace CN := Hid.mk CN
  clear R
  clear s_VR f_VR z_VR
  obtain ⟨s_VR, f_VR, z_VR⟩ := VR.open
  obtain ⟨s_VP, f_VP, z_VP⟩ := VP.open
  have Bo := B
  go_wp2_with fail
  refine CN.out.mono ?_
  rintro e wz ⟨rfl, bz⟩
  clear s_VR f_VR z_VR s_VP f_VP z_VP
  exact ⟨rfl, thenB B bz, .inl ⟨fd_short (by simp), rfl⟩⟩

theorem readFrame_ok (x : Option Addr) (m d : Nat) (ds : List Int) (w : World) (hr : Rd .u8 w x ds) (hb : Bytes ds) (hm : ds.length = m) (hm4 : m ≤ 1048576) (hd : m ≤ d) :
    Calls Try.prog 46 #[.slice x m d] w (FrameOf ds w) := by
  rcases hr with rfl | ⟨b, o, rfl, hc⟩
  · cases x with
    | none => exact readFrame_nil 0 none m d w (fun b h => by cases h) hm hm4 hd
    | some ad => exact readFrame_nil ad.block (some ad) m d w (fun b h => by simp only [Option.some.injEq] at h; rw [h]) hm hm4 hd
  · by_cases he : ds = []
    · subst he
      exact readFrame_nil b (some ⟨b, o, none⟩) m d w (fun b h => by simp only [Option.some.injEq] at h; rw [← h]) hm hm4 hd
    · exact readFrame_some b o m d ds w (.inr ⟨b, o, rfl, hc⟩) hb hm hm4 hd (World.block_lt_of_cell? (a := ⟨b, o + 0, none⟩) w (hc 0 (List.length_pos_iff.2 he)))

set_option maxRecDepth 20000 in
set_option maxHeartbeats 4000000 in
theorem decFrame1_ok (D : Nat) (x : Option Addr) (m d : Nat) (ds : List Int) (w : World) (VD : V w D [.slice x m d]) (hr : Rd .u8 w x ds) (hb : Bytes ds) (hm : ds.length = m) (hm4 : m ≤ 1048576) (hd : m ≤ d) :
    Calls Try.prog 45 #[.pointer (some ⟨D, 0, none⟩)] w (FrameOf ds w) := by
  have CT := Hid.mk (fun w h => readFrame_ok x m d ds w h hb hm hm4 hd)
  unfold FrameOf at CT ⊢
  clear hb hm
  generalize ds.getD 1 0 = KI at *
  generalize takeN ds 2 4 = AA at *
  generalize takeN ds 6 4 = CC at *
  generalize takeN ds 10 4 = NN at *
  generalize (ds.drop 16).length = l5 at *
  go_enter Try.func45, Try.ntmps45
  have B := Below.refl w.heap.size w
  replace VD := VD.kept (belowA w (.cells #[.int .i64 0, .int .i64 0, .int .i64 0, .int .i64 0, .int .i64 0, .slice none 0 0] 26))
  replace hr := hr.kept (belowA w (.cells #[.int .i64 0, .int .i64 0, .int .i64 0, .int .i64 0, .int .i64 0, .slice none 0 0] 26))
  replace B := thenB B (belowA w (.cells #[.int .i64 0, .int .i64 0, .int .i64 0, .int .i64 0, .int .i64 0, .slice none 0 0] 26))
  have VR := V.new w [.int .i64 0, .int .i64 0, .int .i64 0, .int .i64 0, .int .i64 0, .slice none 0 0] 26
  obtain ⟨s_VD, f_VD, z_VD⟩ := VD.open
  obtain ⟨s_VR, f_VR, z_VR⟩ := VR.open
  have Bo := B
  have hcz := VR.1
  go_wp2_with fail
  refine (CT.out _ hr).mono ?_
  rintro e w2 ⟨b2, ⟨hw, rfl⟩ | ⟨hw, c, dd, rfl, O⟩⟩
  clear s_VD f_VD z_VD s_VR f_VR z_VR
  · exact ⟨rfl, thenB B b2, .inl ⟨hw, rfl⟩⟩
  have S2 := b2.size
  simp only [World.size_alloc] at S2
  replace VD := VD.kept b2
  replace VR := VR.kept b2
  replace hr := hr.kept b2
  replace B := thenB B b2
  clear b2
  have HF := Hid.mk hw
  have OL := Hid.mk (fun b hb => (O.lt b hb).1)
  clear hw
  obtain ⟨s_VD, f_VD, z_VD⟩ := VD.open
  obtain ⟨s_VR, f_VR, z_VR⟩ := VR.open
  have Bo := B
  clear s_VD f_VD z_VD s_VR f_VR z_VR
  have VF := Hid.mk (VR.filled [.int .i64 0, .int .i64 KI, .int .i64 AA, .int .i64 CC, .int .i64 NN, .slice c l5 dd] rfl)
  have HT := Hid.mk VR.there
  have BR := belowCells B (show w.heap.size ≤ w.heap.size by (first | omega | (simp; done) | (simp; omega))) 0 [.int .i64 0, .int .i64 KI, .int .i64 AA, .int .i64 CC, .int .i64 NN, .slice c l5 dd]
  replace BR := Hid.mk BR
  have HO := Hid.mk ((O.mono (show w.heap.size ≤ _ by first | omega | (simp; done) | (simp; omega))).apart8 (B := w.heap.size) (by intro b hb; have := OL.out b hb; first | omega | (simp at this; omega)) 0 [.int .i64 0, .int .i64 KI, .int .i64 AA, .int .i64 CC, .int .i64 NN, .slice c l5 dd])
  obtain ⟨s_VD, f_VD, z_VD⟩ := VD.open
  obtain ⟨s_VR, f_VR, z_VR⟩ := VR.open
  go_wp2_with (refine wpList_store_mid rfl 26 _ _ rfl (w.heap.size) 0 #[.int .i64 0, .int .i64 KI, .int .i64 AA, .int .i64 CC, .int .i64 NN, .slice c l5 dd] rfl rfl HT.out (by kernel_rfl) (by kernel_rfl) ?_)
  refine bodyPost_ret (v := .agg #[.int .i64 0, .int .i64 KI, .int .i64 AA, .int .i64 CC, .int .i64 NN, .slice c l5 dd]) (results_row Try.results45 _ _ (w.heap.size) [.int .i64 0, .int .i64 KI, .int .i64 AA, .int .i64 CC, .int .i64 NN, .slice c l5 dd] _ rfl VF.out Try.underlying26 rfl (by kernel_rfl)) rfl ⟨BR.out, .inr ⟨HF.out, c, dd, rfl, HO.out⟩⟩

/-- What is told of a frame's bytes, or the code. -/
def FrameTold (ds : List Int) (w : World) : Ending → World → Prop := fun e w' => Below w.heap.size w w' ∧ ((fdB ds = false ∧ e = .returned (.tuple #[.agg #[.int .i64 0, .int .i64 0, .int .i64 0, .int .i64 0, .int .i64 0, .slice none 0 0], .int .i64 5])) ∨ (fdB ds = true ∧ ∃ (c : Option Addr) (dd : Nat),
    e = .returned (.tuple #[.agg #[.int .i64 0, .int .i64 (ds.getD 1 0), .int .i64 (takeN ds 2 4), .int .i64 (takeN ds 6 4), .int .i64 (takeN ds 10 4), .slice c (ds.drop 16).length dd], .int .i64 0]) ∧ Own .u8 5 w' w.heap.size c dd (ds.drop 16)))

theorem rofFrame_ok (D : Nat) (x : Option Addr) (m d : Nat) (ds : List Int) (w : World) (VD : V w D [.slice x m d]) (hr : Rd .u8 w x ds) (hb : Bytes ds) (hm : ds.length = m) (hm4 : m ≤ 1048576) (hd : m ≤ d) :
    Calls Try.prog 44 #[.func (.func 45) #[] #[.pointer (some ⟨D, 0, none⟩)]] w (FrameTold ds w) := by
  have b1 := belowA2 w (.cells #[.int .i64 0, .int .i64 0, .int .i64 0, .int .i64 0, .int .i64 0, .slice none 0 0] 26) (.cells #[.int .i64 0] 2)
  have hsz : ((w.alloc (.cells #[.int .i64 0, .int .i64 0, .int .i64 0, .int .i64 0, .int .i64 0, .slice none 0 0] 26)).alloc (.cells #[.int .i64 0] 2)).heap.size = w.heap.size + 2 := by simp
  have C := decFrame1_ok D x m d ds _ (VD.kept b1) (hr.kept b1) hb hm hm4 hd
  unfold FrameOf at C
  rw [hsz] at C
  cases hw : fdB ds with
  | false =>
    refine (rofNo_FrameResult D 5 w (Hid.mk (C.mono ?_))).mono ?_
    · rintro e w' ⟨b, ⟨_, rfl⟩ | ⟨h, _⟩⟩
      · exact ⟨rfl, b⟩
      · rw [hw] at h; cases h
    · rintro e w' ⟨rfl, b⟩
      exact ⟨b, .inl ⟨hw, rfl⟩⟩
  | true =>
    refine (rofYes_FrameResult D 0 (ds.getD 1 0) (takeN ds 2 4) (takeN ds 6 4) (takeN ds 10 4) (ds.drop 16).length (ds.drop 16) w (Hid.mk (C.mono ?_))).mono ?_
    · rintro e w' ⟨b, ⟨h, _⟩ | ⟨_, c, dd, rfl, O⟩⟩
      · rw [hw] at h; cases h
      · exact ⟨c, dd, rfl, O, b⟩
    · rintro e w' ⟨c, dd, rfl, O, b⟩
      exact ⟨b, .inr ⟨hw, c, dd, rfl, O⟩⟩

set_option maxRecDepth 20000 in
set_option maxHeartbeats 8000000 in
theorem implDecodeFrame_ok (b : Option Addr) (m cb : Nat) (ds : List Int) (w : World) (hr : Rd .u8 w b ds) (hb : Bytes ds) (hm : ds.length = m) (hm1 : m ≤ 1048576) (hcb : m ≤ cb) :
    Calls Try.prog 11 #[.slice b m cb] w fun e w' => ∃ c d, e = .returned (.agg #[.int .i64 (frC ds), .int .i64 (frV ds (ds.getD 1 0)), .int .i64 (frV ds (takeN ds 2 4)), .int .i64 (frV ds (takeN ds 6 4)), .int .i64 (frV ds (takeN ds 10 4)), .slice c (frL ds).length d]) ∧ Own .u8 5 w' w.heap.size c d (frL ds) ∧ Below w.heap.size w w' := by
  have q1 := build_fr5
  have hmf : ∀ (fn : Fn) (first cap : Array Value) (w : World), (Instr.makeFunc fn first cap).run Try.prog w = .ok (.func fn first cap) w := fun _ _ _ _ => rfl
  have HB := Hid.mk hb
  have HM := Hid.mk hm
  clear hb hm
  cases hf : fdB ds with
  | false =>
    obtain ⟨e1, e2, e3⟩ := fr_no hf
    rw [e1, e2, e2, e2, e2, e3]
    have HW := Hid.mk hf
    clear e1 e2 e3 hf
    go_enter Try.func11, Try.ntmps11
    have B := Below.refl w.heap.size w
    replace hr := hr.kept (belowA w (.cells #[.slice b m cb] 22))
    replace B := thenB B (belowA w (.cells #[.slice b m cb] 22))
    have VD := V.new w [.slice b m cb] 22
    replace VD := VD.kept (belowA (w.alloc (.cells #[.slice b m cb] 22)) (.cells #[.int .i64 0, .int .i64 0, .int .i64 0, .int .i64 0, .int .i64 0, .slice none 0 0] 26))
    replace hr := hr.kept (belowA (w.alloc (.cells #[.slice b m cb] 22)) (.cells #[.int .i64 0, .int .i64 0, .int .i64 0, .int .i64 0, .int .i64 0, .slice none 0 0] 26))
    replace B := thenB B (belowA (w.alloc (.cells #[.slice b m cb] 22)) (.cells #[.int .i64 0, .int .i64 0, .int .i64 0, .int .i64 0, .int .i64 0, .slice none 0 0] 26))
    have VR : V ((w.alloc (.cells #[.slice b m cb] 22)).alloc (.cells #[.int .i64 0, .int .i64 0, .int .i64 0, .int .i64 0, .int .i64 0, .slice none 0 0] 26)) (w.heap.size + 1) [.int .i64 0, .int .i64 0, .int .i64 0, .int .i64 0, .int .i64 0, .slice none 0 0] := V.newAt _ _ _ _ (by simp)
    obtain ⟨s_VD, f_VD, z_VD⟩ := VD.open
    obtain ⟨s_VR, f_VR, z_VR⟩ := VR.open
    have Bo := B
    have CR := Hid.mk (rofFrame_ok w.heap.size b m cb ds ((w.alloc (.cells #[.slice b m cb] 22)).alloc (.cells #[.int .i64 0, .int .i64 0, .int .i64 0, .int .i64 0, .int .i64 0, .slice none 0 0] 26)) VD hr HB.out HM.out hm1 hcb)
    unfold FrameTold at CR
    go_wp2_with fail
    refine (CR.out).mono ?_
    rintro e w22 ⟨b22, ⟨_, rfl⟩ | ⟨hw, _⟩⟩
    clear s_VD f_VD z_VD s_VR f_VR z_VR
    case inr => rw [HW.out] at hw; cases hw
    have S22 := b22.size
    replace VD := VD.kept b22
    replace VR := VR.kept b22
    replace hr := hr.kept b22
    replace B := thenB B b22
    clear b22 CR
    replace VD := VD.kept (belowA w22 (.cells #[.int .i64 0, .int .i64 0, .int .i64 0, .int .i64 0, .int .i64 0, .slice none 0 0] 26))
    replace VR := VR.kept (belowA w22 (.cells #[.int .i64 0, .int .i64 0, .int .i64 0, .int .i64 0, .int .i64 0, .slice none 0 0] 26))
    replace hr := hr.kept (belowA w22 (.cells #[.int .i64 0, .int .i64 0, .int .i64 0, .int .i64 0, .int .i64 0, .slice none 0 0] 26))
    replace B := thenB B (belowA w22 (.cells #[.int .i64 0, .int .i64 0, .int .i64 0, .int .i64 0, .int .i64 0, .slice none 0 0] 26))
    have VB := V.new w22 [.int .i64 0, .int .i64 0, .int .i64 0, .int .i64 0, .int .i64 0, .slice none 0 0] 26
    obtain ⟨s_VD, f_VD, z_VD⟩ := VD.open
    obtain ⟨s_VR, f_VR, z_VR⟩ := VR.open
    obtain ⟨s_VB, f_VB, z_VB⟩ := VB.open
    have Bo := B
    clear s_VD f_VD z_VD s_VR f_VR z_VR s_VB f_VB z_VB
    have VF := Hid.mk (VR.filled [.int .i64 5, .int .i64 0, .int .i64 0, .int .i64 0, .int .i64 0, .slice none 0 0] rfl)
    have HT := Hid.mk VR.there
    have BR := belowCells B (show w.heap.size ≤ w.heap.size + 1 by (first | omega | (simp; done) | (simp; omega))) 0 [.int .i64 5, .int .i64 0, .int .i64 0, .int .i64 0, .int .i64 0, .slice none 0 0]
    replace BR := Hid.mk BR
    obtain ⟨s_VD, f_VD, z_VD⟩ := VD.open
    obtain ⟨s_VR, f_VR, z_VR⟩ := VR.open
    obtain ⟨s_VB, f_VB, z_VB⟩ := VB.open
    go_wp2_with (refine wpList_store_mid rfl 26 _ _ rfl (w.heap.size + 1) 0 #[.int .i64 5, .int .i64 0, .int .i64 0, .int .i64 0, .int .i64 0, .slice none 0 0] rfl rfl HT.out (by kernel_rfl) (by kernel_rfl) ?_)
    refine bodyPost_ret (v := .agg #[.int .i64 5, .int .i64 0, .int .i64 0, .int .i64 0, .int .i64 0, .slice none 0 0]) (results_row Try.results11 _ _ (w.heap.size + 1) [.int .i64 5, .int .i64 0, .int .i64 0, .int .i64 0, .int .i64 0, .slice none 0 0] _ rfl VF.out Try.underlying26 rfl (by kernel_rfl)) rfl ⟨none, 0, rfl, World.ownsRow_nil _ _ _ _, BR.out⟩
  | true =>
    obtain ⟨e1, e2, e3⟩ := fr_yes hf
    rw [e1, e2, e2, e2, e2, e3]
    have HW := Hid.mk hf
    clear e1 e2 e3 hf
    obtain ⟨KI, hKI⟩ : ∃ x, ds.getD 1 0 = x := ⟨_, rfl⟩
    obtain ⟨AA, hAA⟩ : ∃ x, takeN ds 2 4 = x := ⟨_, rfl⟩
    obtain ⟨CC, hCC⟩ : ∃ x, takeN ds 6 4 = x := ⟨_, rfl⟩
    obtain ⟨NN, hNN⟩ : ∃ x, takeN ds 10 4 = x := ⟨_, rfl⟩
    obtain ⟨l5, hL5⟩ : ∃ x, (ds.drop 16).length = x := ⟨_, rfl⟩
    rw [hKI, hAA, hCC, hNN, hL5]
    have HKI := Hid.mk hKI
    have HAA := Hid.mk hAA
    have HCC := Hid.mk hCC
    have HNN := Hid.mk hNN
    have HL5 := Hid.mk hL5
    clear hKI hAA hCC hNN hL5
    go_enter Try.func11, Try.ntmps11
    have B := Below.refl w.heap.size w
    replace hr := hr.kept (belowA w (.cells #[.slice b m cb] 22))
    replace B := thenB B (belowA w (.cells #[.slice b m cb] 22))
    have VD := V.new w [.slice b m cb] 22
    replace VD := VD.kept (belowA (w.alloc (.cells #[.slice b m cb] 22)) (.cells #[.int .i64 0, .int .i64 0, .int .i64 0, .int .i64 0, .int .i64 0, .slice none 0 0] 26))
    replace hr := hr.kept (belowA (w.alloc (.cells #[.slice b m cb] 22)) (.cells #[.int .i64 0, .int .i64 0, .int .i64 0, .int .i64 0, .int .i64 0, .slice none 0 0] 26))
    replace B := thenB B (belowA (w.alloc (.cells #[.slice b m cb] 22)) (.cells #[.int .i64 0, .int .i64 0, .int .i64 0, .int .i64 0, .int .i64 0, .slice none 0 0] 26))
    have VR : V ((w.alloc (.cells #[.slice b m cb] 22)).alloc (.cells #[.int .i64 0, .int .i64 0, .int .i64 0, .int .i64 0, .int .i64 0, .slice none 0 0] 26)) (w.heap.size + 1) [.int .i64 0, .int .i64 0, .int .i64 0, .int .i64 0, .int .i64 0, .slice none 0 0] := V.newAt _ _ _ _ (by simp)
    obtain ⟨s_VD, f_VD, z_VD⟩ := VD.open
    obtain ⟨s_VR, f_VR, z_VR⟩ := VR.open
    have Bo := B
    have CR := Hid.mk (rofFrame_ok w.heap.size b m cb ds ((w.alloc (.cells #[.slice b m cb] 22)).alloc (.cells #[.int .i64 0, .int .i64 0, .int .i64 0, .int .i64 0, .int .i64 0, .slice none 0 0] 26)) VD hr HB.out HM.out hm1 hcb)
    unfold FrameTold at CR
    rw [HKI.out, HAA.out, HCC.out, HNN.out, HL5.out] at CR
    go_wp2_with fail
    refine (CR.out).mono ?_
    rintro e w42 ⟨b42, ⟨hw, rfl⟩ | ⟨_, c, dd, rfl, O⟩⟩
    clear s_VD f_VD z_VD s_VR f_VR z_VR
    · rw [HW.out] at hw; cases hw
    have S42 := b42.size
    replace VD := VD.kept b42
    replace VR := VR.kept b42
    replace hr := hr.kept b42
    replace B := thenB B b42
    clear b42 CR
    have OL := Hid.mk (fun b hb => (O.lt b hb).1)
    have O4 := O.kept (belowA w42 (.cells #[.int .i64 0, .int .i64 KI, .int .i64 AA, .int .i64 CC, .int .i64 NN, .slice c l5 dd] 26))
    clear O
    have O := O4
    clear O4 hr
    replace VD := VD.kept (belowA w42 (.cells #[.int .i64 0, .int .i64 KI, .int .i64 AA, .int .i64 CC, .int .i64 NN, .slice c l5 dd] 26))
    replace VR := VR.kept (belowA w42 (.cells #[.int .i64 0, .int .i64 KI, .int .i64 AA, .int .i64 CC, .int .i64 NN, .slice c l5 dd] 26))
    replace B := thenB B (belowA w42 (.cells #[.int .i64 0, .int .i64 KI, .int .i64 AA, .int .i64 CC, .int .i64 NN, .slice c l5 dd] 26))
    have VB := V.new w42 [.int .i64 0, .int .i64 KI, .int .i64 AA, .int .i64 CC, .int .i64 NN, .slice c l5 dd] 26
    obtain ⟨s_VD, f_VD, z_VD⟩ := VD.open
    obtain ⟨s_VR, f_VR, z_VR⟩ := VR.open
    obtain ⟨s_VB, f_VB, z_VB⟩ := VB.open
    have Bo := B
    clear s_VD f_VD z_VD s_VR f_VR z_VR s_VB f_VB z_VB
    have VF := Hid.mk (VR.filled [.int .i64 0, .int .i64 KI, .int .i64 AA, .int .i64 CC, .int .i64 NN, .slice c l5 dd] rfl)
    have HT := Hid.mk VR.there
    have BR := belowCells B (show w.heap.size ≤ w.heap.size + 1 by (first | omega | (simp; done) | (simp; omega))) 0 [.int .i64 0, .int .i64 KI, .int .i64 AA, .int .i64 CC, .int .i64 NN, .slice c l5 dd]
    replace BR := Hid.mk BR
    have HO := Hid.mk ((O.mono (show w.heap.size ≤ _ by first | omega | (simp; done) | (simp; omega))).apart8 (B := w.heap.size + 1) (by intro b hb; have := OL.out b hb; first | omega | (simp at this; omega)) 0 [.int .i64 0, .int .i64 KI, .int .i64 AA, .int .i64 CC, .int .i64 NN, .slice c l5 dd])
    obtain ⟨s_VD, f_VD, z_VD⟩ := VD.open
    obtain ⟨s_VR, f_VR, z_VR⟩ := VR.open
    obtain ⟨s_VB, f_VB, z_VB⟩ := VB.open
    go_wp2_with (refine wpList_store_mid rfl 26 _ _ rfl (w.heap.size + 1) 0 #[.int .i64 0, .int .i64 KI, .int .i64 AA, .int .i64 CC, .int .i64 NN, .slice c l5 dd] rfl rfl HT.out (by kernel_rfl) (by kernel_rfl) ?_)
    refine bodyPost_ret (v := .agg #[.int .i64 0, .int .i64 KI, .int .i64 AA, .int .i64 CC, .int .i64 NN, .slice c l5 dd]) (results_row Try.results11 _ _ (w.heap.size + 1) [.int .i64 0, .int .i64 KI, .int .i64 AA, .int .i64 CC, .int .i64 NN, .slice c l5 dd] _ rfl VF.out Try.underlying26 rfl (by kernel_rfl)) rfl ⟨c, dd, rfl, HO.out, BR.out⟩

end Go.Proofs.Ytfldgeokigcokaa

/- the law FnFrames. -/
namespace Go.Proofs.Ytfldgeokigcokaa
open Go.RowKit

theorem field_b0F (k v : Value) (w : World) : (Instr.field 29 (.agg #[k, v]) 0).run Try.prog w = .ok k w := by kernel_rfl
theorem field_f0F (a b c d e f : Value) (w : World) : (Instr.field 26 (.agg #[a, b, c, d, e, f]) 0).run Try.prog w = .ok a w := by kernel_rfl

theorem fr_len (k a b n : Int) (zs : List Int) : (frmB k a b n zs).length ≤ 316 := by
  rcases fr_ways k a b n zs with ⟨_, _, h⟩ | ⟨_, _, _, h⟩ | ⟨_, _, _, _, h⟩ | ⟨_, _, _, _, _, h⟩ | ⟨_, _, _, _, _, _, h⟩ | ⟨_, _, _, _, h1, _, h⟩ <;> rw [h]
  · exact Nat.zero_le _
  · exact Nat.zero_le _
  · exact Nat.zero_le _
  · exact Nat.zero_le _
  · exact Nat.zero_le _
  · rw [frmP_len]; omega

set_option maxRecDepth 20000 in
set_option maxHeartbeats 8000000 in
theorem xFr_walk (a : Option Addr) (n ca : Nat) (xs : List Int) (w : World) (hR : Rd .u8 w a xs) (hB : Bytes xs) (hn : xs.length = n) :
    Calls Try.prog 3 #[.slice a n ca] w fun e w' => e = .returned (.bool true) ∧ Below w.heap.size w w' := by
  by_cases hbig : (n : Int) ≤ 1048576
  · go_enter Try.func3, Try.ntmps3
    go_wp2_with (first | (go_at_call 9; go_in) | fail)
    refine (drawDecodeFrame_ok a n ca xs _ hR hB hn (by omega)).mono ?_
    rintro e w1 ⟨g, d, m, ys, rfl, hm, hm4, hmd, hyb, R, B⟩
    have RA := hR.kept B
    clear hR
    have CI := fun w h => implDecodeFrame_ok (some ⟨g, 0, none⟩) m d ys w h hyb hm (by omega) hmd
    have CS := fun w h => specDecodeFrame_any (some ⟨g, 0, none⟩) m d ys w h hyb hm (by omega) hmd
    have CV := fun w h => convert_any (c := some ⟨g, 0, none⟩) (n := m) (d := d) (ns := ys) (w := w) h (fun x hx => by simp only [Option.some.injEq] at hx; subst hx; rfl) hm
    cases hf : fdB ys with
    | false =>
      have hq := field_f0F
      obtain ⟨e1, e2, e3⟩ := fr_no hf
      simp only [e1, e2, e3, List.length_nil] at CI CS
      replace CI := Hid.mk CI
      replace CS := Hid.mk CS
      clear e1 e2 e3 hf CV
      have Bo := B
      go_wp2_with fail
      refine (CI.out _ R).mono ?_
      rintro e w2 ⟨c2, d2, rfl, O2, b2⟩
      have S2 := b2.size
      replace R := R.kept b2
      replace RA := RA.kept b2
      replace B := thenB B b2
      clear b2
      have Bo := B
      clear O2
      replace R := R.kept (belowA w2 (.cells #[.int .i64 5, .int .i64 0, .int .i64 0, .int .i64 0, .int .i64 0, .slice c2 0 d2] 26))
      replace RA := RA.kept (belowA w2 (.cells #[.int .i64 5, .int .i64 0, .int .i64 0, .int .i64 0, .int .i64 0, .slice c2 0 d2] 26))
      replace B := thenB B (belowA w2 (.cells #[.int .i64 5, .int .i64 0, .int .i64 0, .int .i64 0, .int .i64 0, .slice c2 0 d2] 26))
      have VD := V.new w2 [.int .i64 5, .int .i64 0, .int .i64 0, .int .i64 0, .int .i64 0, .slice c2 0 d2] 26
      have K : ∀ w' : World, Below (w2.alloc (.cells #[.int .i64 5, .int .i64 0, .int .i64 0, .int .i64 0, .int .i64 0, .slice c2 0 d2] 26)).heap.size (w2.alloc (.cells #[.int .i64 5, .int .i64 0, .int .i64 0, .int .i64 0, .int .i64 0, .slice c2 0 d2] 26)) w' → (w'.cell? ⟨w2.heap.size, 0, none⟩ = some (.int .i64 5)) := fun w' h => (VD.kept h).2.1 0 (by simp)
      have K := Hid.mk K
      obtain ⟨s_VD, f_VD, z_VD⟩ := VD.open
      go_wp2_with fail
      clear s_VD f_VD z_VD
      refine wp_region_held_drew (S := (fun w' => w'.cell? ⟨w2.heap.size, 0, none⟩ = some (.int .i64 5))) (by kernel_rfl) (K.out _ (Below.refl _ _).drew) (fun hHeld => ?_)
      refine wpAnyH_take (i := 0) (oi := _) (v := ?vrnu1) rfl (by kernel_rfl) (by kernel_rfl) (by kernel_rfl) (fun _ _ _ h => h) (Or.inl ⟨by kernel_rfl, ?hyrnu1⟩) hHeld ?restrnu1
      case hyrnu1 => (intro w hSw; (try dsimp only at hSw); go_simp; first | done | with_reducible rfl)
      try simp only [Act.put, List.getElem_toArray, List.getElem_cons_zero, List.setIfInBounds_toArray, List.set_cons_zero, List.set_cons_succ]
      refine wpAnyH_take (i := 1) (oi := _) (v := ?vrnu2) rfl (by kernel_rfl) (by kernel_rfl) (by kernel_rfl) (fun _ _ _ h => h) (Or.inl ⟨by kernel_rfl, ?hyrnu2⟩) hHeld ?restrnu2
      case hyrnu2 => (intro w hSw; (try dsimp only at hSw); go_simp; first | done | with_reducible rfl)
      try simp only [Act.put, List.getElem_toArray, List.getElem_cons_zero, List.getElem_cons_succ, List.setIfInBounds_toArray, List.set_cons_zero, List.set_cons_succ]
      refine wpAnyH_take (i := 2) (oi := _) (v := ?vrnu3) rfl (by kernel_rfl) (by kernel_rfl) (by kernel_rfl) (fun _ _ _ h => h) (Or.inl ⟨by kernel_rfl, ?hyrnu3⟩) hHeld ?restrnu3
      case hyrnu3 => (intro w hSw; (try dsimp only at hSw); go_simp; first | done | with_reducible rfl)
      try simp only [Act.put, List.getElem_toArray, List.getElem_cons_zero, List.getElem_cons_succ, List.setIfInBounds_toArray, List.set_cons_zero, List.set_cons_succ]
      refine wpAnyH_take (i := 3) (oi := _) (v := ?vrnu4) rfl (by kernel_rfl) (by kernel_rfl) (by kernel_rfl) (fun _ _ _ h => h) (Or.inl ⟨by kernel_rfl, ?hyrnu4⟩) hHeld ?restrnu4
      case hyrnu4 => (intro w hSw; (try dsimp only at hSw); go_simp; first | done | with_reducible rfl)
      try simp only [Act.put, List.getElem_toArray, List.getElem_cons_zero, List.getElem_cons_succ, List.setIfInBounds_toArray, List.set_cons_zero, List.set_cons_succ]
      refine wpAnyH_take (i := 4) (oi := _) (v := ?vrnu5) rfl (by kernel_rfl) (by kernel_rfl) (by kernel_rfl) (fun _ _ _ h => h) (Or.inl ⟨by kernel_rfl, ?hyrnu5⟩) hHeld ?restrnu5
      case hyrnu5 => (intro w hSw; (try dsimp only at hSw); go_simp; first | done | with_reducible rfl)
      try simp only [Act.put, List.getElem_toArray, List.getElem_cons_zero, List.getElem_cons_succ, List.setIfInBounds_toArray, List.set_cons_zero, List.set_cons_succ]
      refine wpAnyH_take (i := 7) (oi := _) (v := ?vrnu6) rfl (by kernel_rfl) (by kernel_rfl) (by kernel_rfl) (fun _ _ _ h => h) (Or.inl ⟨by kernel_rfl, ?hyrnu6⟩) hHeld ?restrnu6
      case hyrnu6 => (intro w hSw; (try dsimp only at hSw); go_simp; first | done | with_reducible rfl)
      try simp only [Act.put, List.getElem_toArray, List.getElem_cons_zero, List.getElem_cons_succ, List.setIfInBounds_toArray, List.set_cons_zero, List.set_cons_succ]
      refine wpAnyH_take (i := 8) (oi := _) (v := ?vrnu7) rfl (by kernel_rfl) (by kernel_rfl) (by kernel_rfl) (fun _ _ _ h => h) (Or.inl ⟨by kernel_rfl, ?hyrnu7⟩) hHeld ?restrnu7
      case hyrnu7 => (intro w hSw; (try dsimp only at hSw); go_simp; first | done | with_reducible rfl)
      try simp only [Act.put, List.getElem_toArray, List.getElem_cons_zero, List.getElem_cons_succ, List.setIfInBounds_toArray, List.set_cons_zero, List.set_cons_succ]
      refine wpAnyH_ready (rs := [5]) (by kernel_rfl) (by simp) ?_
      refine AllReadyH.cons (o := _) rfl (fun K0 hK0 => ?_) AllReadyH.nil
      go_simp
      go_at_call 12
      refine (CS.out _ (R.kept (Below.refl _ _).drew)).mono ?_
      rintro e wrnv8 ⟨c3, d3, rfl, O3, brnv8⟩
      refine hK0.out _ _ (K.out _ (thenB (Below.refl _ _).drew brnv8)) (fun hHeld => ?_)
      clear hK0 K0
      try simp only [Act.put, List.getElem_toArray, List.getElem_cons_zero, List.getElem_cons_succ, List.setIfInBounds_toArray, List.set_cons_zero, List.set_cons_succ]
      refine wpAnyH_take (i := 6) (oi := _) (v := ?vrnu9) rfl (by kernel_rfl) (by kernel_rfl) (by kernel_rfl) (fun _ _ _ h => h) (Or.inl ⟨by kernel_rfl, ?hyrnu9⟩) hHeld ?restrnu9
      case hyrnu9 => (intro w hSw; (try dsimp only at hSw); go_simp; first | done | with_reducible rfl)
      try simp only [Act.put, List.getElem_toArray, List.getElem_cons_zero, List.getElem_cons_succ, List.setIfInBounds_toArray, List.set_cons_zero, List.set_cons_succ]
      refine wpAnyH_take (i := 9) (oi := _) (v := ?vrnu10) rfl (by kernel_rfl) (by kernel_rfl) (by kernel_rfl) (fun _ _ _ h => h) (Or.inl ⟨by kernel_rfl, ?hyrnu10⟩) hHeld ?restrnu10
      case hyrnu10 => (intro w hSw; (try dsimp only at hSw); go_simp; first | done | with_reducible rfl)
      try simp only [Act.put, List.getElem_toArray, List.getElem_cons_zero, List.getElem_cons_succ, List.setIfInBounds_toArray, List.set_cons_zero, List.set_cons_succ]
      refine wpAnyH_take (i := 10) (oi := _) (v := ?vrnu11) rfl (by kernel_rfl) (by kernel_rfl) (by kernel_rfl) (fun _ _ _ h => h) (Or.inl ⟨by kernel_rfl, ?hyrnu11⟩) hHeld ?restrnu11
      case hyrnu11 => (intro w hSw; (try dsimp only at hSw); go_simp; first | done | with_reducible rfl)
      try simp only [Act.put, List.getElem_toArray, List.getElem_cons_zero, List.getElem_cons_succ, List.setIfInBounds_toArray, List.set_cons_zero, List.set_cons_succ]
      refine wpAnyH_take (i := 11) (oi := _) (v := ?vrnu12) rfl (by kernel_rfl) (by kernel_rfl) (by kernel_rfl) (fun _ _ _ h => h) (Or.inl ⟨by kernel_rfl, ?hyrnu12⟩) hHeld ?restrnu12
      case hyrnu12 => (intro w hSw; (try dsimp only at hSw); go_simp; first | done | with_reducible rfl)
      try simp only [Act.put, List.getElem_toArray, List.getElem_cons_zero, List.getElem_cons_succ, List.setIfInBounds_toArray, List.set_cons_zero, List.set_cons_succ]
      refine wpAnyH_take (i := 12) (oi := _) (v := ?vrnu13) rfl (by kernel_rfl) (by kernel_rfl) (by kernel_rfl) (fun _ _ _ h => h) (Or.inl ⟨by kernel_rfl, ?hyrnu13⟩) hHeld ?restrnu13
      case hyrnu13 => (intro w hSw; (try dsimp only at hSw); go_simp; first | done | with_reducible rfl)
      try simp only [Act.put, List.getElem_toArray, List.getElem_cons_zero, List.getElem_cons_succ, List.setIfInBounds_toArray, List.set_cons_zero, List.set_cons_succ]
      refine wpAnyH_take (i := 13) (oi := _) (v := ?vrnu14) rfl (by kernel_rfl) (by kernel_rfl) (by kernel_rfl) (fun _ _ _ h => h) (Or.inl ⟨by kernel_rfl, ?hyrnu14⟩) hHeld ?restrnu14
      case hyrnu14 => (intro w hSw; (try dsimp only at hSw); go_simp; first | done | with_reducible rfl)
      try simp only [Act.put, List.getElem_toArray, List.getElem_cons_zero, List.getElem_cons_succ, List.setIfInBounds_toArray, List.set_cons_zero, List.set_cons_succ]
      refine wpAnyH_take (i := 14) (oi := _) (v := ?vrnu15) rfl (by kernel_rfl) (by kernel_rfl) (by kernel_rfl) (fun _ _ _ h => h) (Or.inl ⟨by kernel_rfl, ?hyrnu15⟩) hHeld ?restrnu15
      case hyrnu15 => (intro w hSw; (try dsimp only at hSw); go_simp; first | done | with_reducible rfl)
      try simp only [Act.put, List.getElem_toArray, List.getElem_cons_zero, List.getElem_cons_succ, List.setIfInBounds_toArray, List.set_cons_zero, List.set_cons_succ]
      refine wpAnyH_take (i := 15) (oi := _) (v := ?vrnu16) rfl (by kernel_rfl) (by kernel_rfl) (by kernel_rfl) (fun _ _ _ h => h) (Or.inl ⟨by kernel_rfl, ?hyrnu16⟩) hHeld ?restrnu16
      case hyrnu16 => (intro w hSw; (try dsimp only at hSw); go_simp; first | done | with_reducible rfl)
      try simp only [Act.put, List.getElem_toArray, List.getElem_cons_zero, List.getElem_cons_succ, List.setIfInBounds_toArray, List.set_cons_zero, List.set_cons_succ]
      refine wpAnyH_take (i := 16) (oi := _) (v := undef) rfl (by kernel_rfl) (by kernel_rfl) (by kernel_rfl) (fun _ _ _ h => h) (Or.inr ⟨by rfl, rfl⟩) hHeld ?_
      try simp only [Act.put, List.getElem_toArray, List.getElem_cons_zero, List.getElem_cons_succ, List.setIfInBounds_toArray, List.set_cons_zero, List.set_cons_succ]
      refine wpAnyH_take (i := 17) (oi := _) (v := undef) rfl (by kernel_rfl) (by kernel_rfl) (by kernel_rfl) (fun _ _ _ h => h) (Or.inr ⟨by rfl, rfl⟩) hHeld ?_
      try simp only [Act.put, List.getElem_toArray, List.getElem_cons_zero, List.getElem_cons_succ, List.setIfInBounds_toArray, List.set_cons_zero, List.set_cons_succ]
      refine wpAnyH_take (i := 18) (oi := _) (v := undef) rfl (by kernel_rfl) (by kernel_rfl) (by kernel_rfl) (fun _ _ _ h => h) (Or.inr ⟨by rfl, rfl⟩) hHeld ?_
      try simp only [Act.put, List.getElem_toArray, List.getElem_cons_zero, List.getElem_cons_succ, List.setIfInBounds_toArray, List.set_cons_zero, List.set_cons_succ]
      refine wpAnyH_take (i := 19) (oi := _) (v := undef) rfl (by kernel_rfl) (by kernel_rfl) (by kernel_rfl) (fun _ _ _ h => h) (Or.inr ⟨by rfl, rfl⟩) hHeld ?_
      try simp only [Act.put, List.getElem_toArray, List.getElem_cons_zero, List.getElem_cons_succ, List.setIfInBounds_toArray, List.set_cons_zero, List.set_cons_succ]
      refine wpAnyH_take (i := 20) (oi := _) (v := undef) rfl (by kernel_rfl) (by kernel_rfl) (by kernel_rfl) (fun _ _ _ h => h) (Or.inr ⟨by rfl, rfl⟩) hHeld ?_
      try simp only [Act.put, List.getElem_toArray, List.getElem_cons_zero, List.getElem_cons_succ, List.setIfInBounds_toArray, List.set_cons_zero, List.set_cons_succ]
      refine wpAnyH_take (i := 21) (oi := _) (v := undef) rfl (by kernel_rfl) (by kernel_rfl) (by kernel_rfl) (fun _ _ _ h => h) (Or.inr ⟨by rfl, rfl⟩) hHeld ?_
      try simp only [Act.put, List.getElem_toArray, List.getElem_cons_zero, List.getElem_cons_succ, List.setIfInBounds_toArray, List.set_cons_zero, List.set_cons_succ]
      refine wpAnyH_take (i := 22) (oi := _) (v := undef) rfl (by kernel_rfl) (by kernel_rfl) (by kernel_rfl) (fun _ _ _ h => h) (Or.inr ⟨by rfl, rfl⟩) hHeld ?_
      try simp only [Act.put, List.getElem_toArray, List.getElem_cons_zero, List.getElem_cons_succ, List.setIfInBounds_toArray, List.set_cons_zero, List.set_cons_succ]
      refine wpAnyH_take (i := 23) (oi := _) (v := undef) rfl (by kernel_rfl) (by kernel_rfl) (by kernel_rfl) (fun _ _ _ h => h) (Or.inr ⟨by rfl, rfl⟩) hHeld ?_
      try simp only [Act.put, List.getElem_toArray, List.getElem_cons_zero, List.getElem_cons_succ, List.setIfInBounds_toArray, List.set_cons_zero, List.set_cons_succ]
      refine wpAnyH_take (i := 24) (oi := _) (v := undef) rfl (by kernel_rfl) (by kernel_rfl) (by kernel_rfl) (fun _ _ _ h => h) (Or.inr ⟨by rfl, rfl⟩) hHeld ?_
      try simp only [Act.put, List.getElem_toArray, List.getElem_cons_zero, List.getElem_cons_succ, List.setIfInBounds_toArray, List.set_cons_zero, List.set_cons_succ]
      refine wpAnyH_take (i := 25) (oi := _) (v := undef) rfl (by kernel_rfl) (by kernel_rfl) (by kernel_rfl) (fun _ _ _ h => h) (Or.inr ⟨by rfl, rfl⟩) hHeld ?_
      try simp only [Act.put, List.getElem_toArray, List.getElem_cons_zero, List.getElem_cons_succ, List.setIfInBounds_toArray, List.set_cons_zero, List.set_cons_succ]
      refine wpAnyH_take (i := 26) (oi := _) (v := undef) rfl (by kernel_rfl) (by kernel_rfl) (by kernel_rfl) (fun _ _ _ h => h) (Or.inr ⟨by rfl, rfl⟩) hHeld ?_
      try simp only [Act.put, List.getElem_toArray, List.getElem_cons_zero, List.getElem_cons_succ, List.setIfInBounds_toArray, List.set_cons_zero, List.set_cons_succ]
      refine wpAnyH_take (i := 27) (oi := _) (v := undef) rfl (by kernel_rfl) (by kernel_rfl) (by kernel_rfl) (fun _ _ _ h => h) (Or.inr ⟨by rfl, rfl⟩) hHeld ?_
      try simp only [Act.put, List.getElem_toArray, List.getElem_cons_zero, List.getElem_cons_succ, List.setIfInBounds_toArray, List.set_cons_zero, List.set_cons_succ]
      refine wpAnyH_take (i := 28) (oi := _) (v := undef) rfl (by kernel_rfl) (by kernel_rfl) (by kernel_rfl) (fun _ _ _ h => h) (Or.inr ⟨by rfl, rfl⟩) hHeld ?_
      try simp only [Act.put, List.getElem_toArray, List.getElem_cons_zero, List.getElem_cons_succ, List.setIfInBounds_toArray, List.set_cons_zero, List.set_cons_succ]
      refine wpAnyH_take (i := 29) (oi := _) (v := undef) rfl (by kernel_rfl) (by kernel_rfl) (by kernel_rfl) (fun _ _ _ h => h) (Or.inr ⟨by rfl, rfl⟩) hHeld ?_
      try simp only [Act.put, List.getElem_toArray, List.getElem_cons_zero, List.getElem_cons_succ, List.setIfInBounds_toArray, List.set_cons_zero, List.set_cons_succ]
      refine wpAnyH_take (i := 30) (oi := _) (v := undef) rfl (by kernel_rfl) (by kernel_rfl) (by kernel_rfl) (fun _ _ _ h => h) (Or.inr ⟨by rfl, rfl⟩) hHeld ?_
      try simp only [Act.put, List.getElem_toArray, List.getElem_cons_zero, List.getElem_cons_succ, List.setIfInBounds_toArray, List.set_cons_zero, List.set_cons_succ]
      refine wpAnyH_take (i := 31) (oi := _) (v := undef) rfl (by kernel_rfl) (by kernel_rfl) (by kernel_rfl) (fun _ _ _ h => h) (Or.inr ⟨by rfl, rfl⟩) hHeld ?_
      try simp only [Act.put, List.getElem_toArray, List.getElem_cons_zero, List.getElem_cons_succ, List.setIfInBounds_toArray, List.set_cons_zero, List.set_cons_succ]
      refine wpAnyH_take (i := 32) (oi := _) (v := ?vrnu17) rfl (by kernel_rfl) (by kernel_rfl) (by kernel_rfl) (fun _ _ _ h => h) (Or.inl ⟨by kernel_rfl, ?hyrnu17⟩) hHeld ?restrnu17
      case hyrnu17 => (intro w hSw; (try dsimp only at hSw); go_simp; first | done | with_reducible rfl)
      try simp only [Act.put, List.getElem_toArray, List.getElem_cons_zero, List.getElem_cons_succ, List.setIfInBounds_toArray, List.set_cons_zero, List.set_cons_succ]
      refine wpAnyH_take (i := 33) (oi := _) (v := ?vrnu18) rfl (by kernel_rfl) (by kernel_rfl) (by kernel_rfl) (fun _ _ _ h => h) (Or.inl ⟨by kernel_rfl, ?hyrnu18⟩) hHeld ?restrnu18
      case hyrnu18 => (intro w hSw; (try dsimp only at hSw); go_simp; first | done | with_reducible rfl)
      try simp only [Act.put, List.getElem_toArray, List.getElem_cons_zero, List.getElem_cons_succ, List.setIfInBounds_toArray, List.set_cons_zero, List.set_cons_succ]
      refine wpAnyH_done (by kernel_rfl) ?_ _
      have bacc : Below (w2.alloc (.cells #[.int .i64 5, .int .i64 0, .int .i64 0, .int .i64 0, .int .i64 0, .slice c2 0 d2] 26)).heap.size (w2.alloc (.cells #[.int .i64 5, .int .i64 0, .int .i64 0, .int .i64 0, .int .i64 0, .slice c2 0 d2] 26)) _ := (thenB (Below.refl _ _).drew brnv8)
      replace VD := VD.kept bacc
      replace R := R.kept bacc
      replace RA := RA.kept bacc
      replace B := thenB B bacc
      clear bacc K
      clear O3 VD R CI CS
      go_wp2_with fail
      refine (drawEncodeFrame_ok a n ca xs _ RA hB hn (by omega)).mono ?_
      rintro e w20 ⟨k, x, y, u, c20, d20, m20, bs, rfl, hbl, hb301, hcap20, hbb, O20, b20⟩
      replace B := thenB B b20
      clear b20 RA
      have CF := fun w h => implEncodeFrame_ok k x y u c20 m20 d20 bs w h hbl (by unfold maxLen; omega) O20.nocap
      have CT := fun w h => specEncodeFrame_ok k x y u c20 m20 d20 bs w h hbl (by unfold maxLen; omega) O20.nocap
      have HBL := Hid.mk hbl
      have R20 := O20.rd
      have HNS := Hid.mk O20.noSpot
      have hPb := Hid.mk (frmB_bytes (kind := k) (a := x) (b := y) (n := u) hbb)
      have hfl := Hid.mk (fr_len k x y u bs)
      by_cases hk : frmC k x y u bs = 0
      · skip
        obtain ⟨f1, f2, f3, f4, f5, f6⟩ := fr_there hk
        have hBP : frmB k x y u bs = frmP k x y u bs := by unfold frmB; rw [if_pos hk]
        rw [hBP] at hPb hfl
        rw [hBP, hk] at CF
        obtain ⟨g1, g2, g3⟩ := fr_yes f1
        obtain ⟨N, hN⟩ : ∃ N, (frmP k x y u bs).length = N := ⟨_, rfl⟩
        rw [hN] at CF hfl
        have CD := fun c d w h hc => implDecodeFrame_ok c N d (frmP k x y u bs) w h hPb.out hN (by have := hfl.out; omega) hc
        simp only [g1, g2, g3, f2, f3, f4, f5, f6] at CD
        rw [hbl] at CD
        have HN := Hid.mk hN
        generalize frmP k x y u bs = P at *
        replace CF := Hid.mk CF
        replace CD := Hid.mk CD
        clear f1 f2 f3 f4 f5 f6 hBP hk g1 g2 g3 hN CT hbl
        have Bo := B
        go_wp2_with fail
        refine (CF.out _ R20).mono ?_
        rintro e w21 ⟨c21, d21, rfl, O21, b21⟩
        have S21 := b21.size
        replace R20 := R20.kept b21
        replace B := thenB B b21
        clear b21
        have Bo := B
        have hc21 := O21.cap
        rw [HN.out] at hc21
        replace R20 := R20.kept (belowA w21 (.cells #[.int .i64 0, .slice c21 N d21] 29))
        replace O21 := O21.kept (belowA w21 (.cells #[.int .i64 0, .slice c21 N d21] 29))
        replace B := thenB B (belowA w21 (.cells #[.int .i64 0, .slice c21 N d21] 29))
        have VE := V.new w21 [.int .i64 0, .slice c21 N d21] 29
        obtain ⟨s_VE, f_VE, z_VE⟩ := VE.open
        have Bo := B
        go_wp2_with fail
        refine (CD.out c21 d21 _ O21.rd hc21).mono ?_
        rintro e w22 ⟨c22, d22, rfl, O22, b22⟩
        clear s_VE f_VE z_VE
        have S22 := b22.size
        simp only [World.size_alloc] at S22
        replace VE := VE.kept b22
        replace R20 := R20.kept b22
        replace O21 := O21.kept b22
        replace B := thenB B b22
        clear b22
        obtain ⟨s_VE, f_VE, z_VE⟩ := VE.open
        have Bo := B
        clear O21
        replace VE := VE.kept (belowA w22 (.cells #[.int .i64 0, .int .i64 k, .int .i64 x, .int .i64 y, .int .i64 u, .slice c22 m20 d22] 26))
        replace R20 := R20.kept (belowA w22 (.cells #[.int .i64 0, .int .i64 k, .int .i64 x, .int .i64 y, .int .i64 u, .slice c22 m20 d22] 26))
        replace O22 := O22.kept (belowA w22 (.cells #[.int .i64 0, .int .i64 k, .int .i64 x, .int .i64 y, .int .i64 u, .slice c22 m20 d22] 26))
        replace B := thenB B (belowA w22 (.cells #[.int .i64 0, .int .i64 k, .int .i64 x, .int .i64 y, .int .i64 u, .slice c22 m20 d22] 26))
        have VX := V.new w22 [.int .i64 0, .int .i64 k, .int .i64 x, .int .i64 y, .int .i64 u, .slice c22 m20 d22] 26
        clear s_VE f_VE z_VE
        have hv1 := convert_any (d := d22) O22.rd O22.noSpot HBL.out
        have hv2 := convert_any (d := d20) R20 HNS.out HBL.out
        clear O22 R20
        obtain ⟨s_VE, f_VE, z_VE⟩ := VE.open
        obtain ⟨s_VX, f_VX, z_VX⟩ := VX.open
        have Bo := B
        go_wp2
        go_ret
        exact ⟨rfl, Bo⟩
      · skip
        have hk1 : (frmC k x y u bs != 0) = true := by simp [hk]
        generalize frmB k x y u bs = Y at *
        obtain ⟨N, hN⟩ : ∃ N, Y.length = N := ⟨_, rfl⟩
        rw [hN] at CF CT
        generalize frmC k x y u bs = kk at *
        clear hN hk hbl
        replace CF := Hid.mk CF
        replace CT := Hid.mk CT
        have hfd := field_b0F (.int .i64 kk)
        have Bo := B
        go_wp2_with fail
        refine (CF.out _ R20).mono ?_
        rintro e w21 ⟨c21, d21, rfl, O21, b21⟩
        have S21 := b21.size
        replace R20 := R20.kept b21
        replace B := thenB B b21
        clear b21
        have Bo := B
        clear O21
        replace R20 := R20.kept (belowA w21 (.cells #[.int .i64 kk, .slice c21 N d21] 29))
        replace B := thenB B (belowA w21 (.cells #[.int .i64 kk, .slice c21 N d21] 29))
        have VE := V.new w21 [.int .i64 kk, .slice c21 N d21] 29
        obtain ⟨s_VE, f_VE, z_VE⟩ := VE.open
        have Bo := B
        clear s_VE f_VE z_VE
        have K : ∀ w' : World, Below ((w21.alloc (.cells #[.int .i64 kk, .slice c21 N d21] 29))).heap.size (w21.alloc (.cells #[.int .i64 kk, .slice c21 N d21] 29)) w' → w'.cell? ⟨w21.heap.size, 0, none⟩ = some (.int .i64 kk) := fun w' h => (VE.kept h).2.1 0 (by simp)
        have K := Hid.mk K
        obtain ⟨s_VE, f_VE, z_VE⟩ := VE.open
        go_wp2_with fail
        go_region_held3 (fun w' => w'.cell? ⟨w21.heap.size, 0, none⟩ = some (.int .i64 kk)) (first | exact K.out _ (thenB (Below.refl _ _).drew b3) | exact K.out _ (Below.refl _ _).drew) ((go_at_call 15; refine (CT.out _ (R20.kept (Below.refl _ _).drew)).mono ?_; rintro e w3 ⟨c3, d3, rfl, O3, b3⟩))
        have B3 := thenB B (thenB (Below.refl _ _).drew b3)
        go_wp2
        go_ret
        exact ⟨rfl, B3⟩
    | true =>
      have hag := (fr_again hyb (fd_iff.1 hf).1.1).2 hf
      obtain ⟨e1, e2, e3⟩ := fr_yes hf
      simp only [e1, e2, e3] at CI
      clear CS
      obtain ⟨l5, hl5⟩ : ∃ l, (ys.drop 16).length = l := ⟨_, rfl⟩
      have hl5m : l5 ≤ 400 := by rw [← hl5, List.length_drop]; omega
      rw [hl5] at CI
      have CE := fun c d w h hc => implEncodeFrame_ok (ys.getD 1 0) (takeN ys 2 4) (takeN ys 6 4) (takeN ys 10 4) c l5 d (ys.drop 16) w h hl5 (by unfold maxLen; omega) hc
      simp only [hag] at CE
      rw [hm] at CE
      generalize frmC (ys.getD 1 0) (takeN ys 2 4) (takeN ys 6 4) (takeN ys 10 4) (ys.drop 16) = kc at *
      generalize ys.getD 1 0 = KI at *
      generalize takeN ys 2 4 = AA at *
      generalize takeN ys 6 4 = CC at *
      generalize takeN ys 10 4 = NN at *
      generalize ys.drop 16 = ds at *
      have HM := Hid.mk hm
      replace CI := Hid.mk CI
      replace CE := Hid.mk CE
      clear hag e1 e2 e3 hf hl5 hm
      replace CV := Hid.mk CV
      have hq := field_b1F
      have Bo := B
      go_wp2_with fail
      refine (CI.out _ R).mono ?_
      rintro e w2 ⟨c2, d2, rfl, O2, b2⟩
      have S2 := b2.size
      replace R := R.kept b2
      replace RA := RA.kept b2
      replace B := thenB B b2
      clear b2
      have Bo := B
      replace R := R.kept (belowA w2 (.cells #[.int .i64 0, .int .i64 KI, .int .i64 AA, .int .i64 CC, .int .i64 NN, .slice c2 l5 d2] 26))
      replace RA := RA.kept (belowA w2 (.cells #[.int .i64 0, .int .i64 KI, .int .i64 AA, .int .i64 CC, .int .i64 NN, .slice c2 l5 d2] 26))
      replace O2 := O2.kept (belowA w2 (.cells #[.int .i64 0, .int .i64 KI, .int .i64 AA, .int .i64 CC, .int .i64 NN, .slice c2 l5 d2] 26))
      replace B := thenB B (belowA w2 (.cells #[.int .i64 0, .int .i64 KI, .int .i64 AA, .int .i64 CC, .int .i64 NN, .slice c2 l5 d2] 26))
      have VD := V.new w2 [.int .i64 0, .int .i64 KI, .int .i64 AA, .int .i64 CC, .int .i64 NN, .slice c2 l5 d2] 26
      have K : ∀ w' : World, Below (w2.alloc (.cells #[.int .i64 0, .int .i64 KI, .int .i64 AA, .int .i64 CC, .int .i64 NN, .slice c2 l5 d2] 26)).heap.size (w2.alloc (.cells #[.int .i64 0, .int .i64 KI, .int .i64 AA, .int .i64 CC, .int .i64 NN, .slice c2 l5 d2] 26)) w' → (w'.cell? ⟨w2.heap.size, 0, none⟩ = some (.int .i64 0) ∧ w'.cell? ⟨w2.heap.size, 1, none⟩ = some (.int .i64 KI) ∧ w'.cell? ⟨w2.heap.size, 2, none⟩ = some (.int .i64 AA) ∧ w'.cell? ⟨w2.heap.size, 3, none⟩ = some (.int .i64 CC) ∧ w'.cell? ⟨w2.heap.size, 4, none⟩ = some (.int .i64 NN) ∧ w'.cell? ⟨w2.heap.size, 5, none⟩ = some (.slice c2 l5 d2) ∧ (convert 22 9 (.slice (some ⟨g, 0, none⟩) m d)).run Try.prog w' = .ok (.string (strOfNums ys)) w') := fun w' h => ⟨(VD.kept h).2.1 0 (by simp), (VD.kept h).2.1 1 (by simp), (VD.kept h).2.1 2 (by simp), (VD.kept h).2.1 3 (by simp), (VD.kept h).2.1 4 (by simp), (VD.kept h).2.1 5 (by simp), CV.out _ (R.kept h)⟩
      have K := Hid.mk K
      obtain ⟨s_VD, f_VD, z_VD⟩ := VD.open
      go_wp2_with fail
      clear s_VD f_VD z_VD
      refine wp_region_held_drew (S := (fun w' => w'.cell? ⟨w2.heap.size, 0, none⟩ = some (.int .i64 0) ∧ w'.cell? ⟨w2.heap.size, 1, none⟩ = some (.int .i64 KI) ∧ w'.cell? ⟨w2.heap.size, 2, none⟩ = some (.int .i64 AA) ∧ w'.cell? ⟨w2.heap.size, 3, none⟩ = some (.int .i64 CC) ∧ w'.cell? ⟨w2.heap.size, 4, none⟩ = some (.int .i64 NN) ∧ w'.cell? ⟨w2.heap.size, 5, none⟩ = some (.slice c2 l5 d2) ∧ (convert 22 9 (.slice (some ⟨g, 0, none⟩) m d)).run Try.prog w' = .ok (.string (strOfNums ys)) w')) (by kernel_rfl) (K.out _ (Below.refl _ _).drew) (fun hHeld => ?_)
      refine wpAnyH_take (i := 0) (oi := _) (v := ?vryu1) rfl (by kernel_rfl) (by kernel_rfl) (by kernel_rfl) (fun _ _ _ h => h) (Or.inl ⟨by kernel_rfl, ?hyryu1⟩) hHeld ?restryu1
      case hyryu1 => (intro w hSw; (try dsimp only at hSw); go_simp; first | done | with_reducible rfl)
      try simp only [Act.put, List.getElem_toArray, List.getElem_cons_zero, List.setIfInBounds_toArray, List.set_cons_zero, List.set_cons_succ]
      refine wpAnyH_take (i := 1) (oi := _) (v := ?vryu2) rfl (by kernel_rfl) (by kernel_rfl) (by kernel_rfl) (fun _ _ _ h => h) (Or.inl ⟨by kernel_rfl, ?hyryu2⟩) hHeld ?restryu2
      case hyryu2 => (intro w hSw; (try dsimp only at hSw); go_simp; first | done | with_reducible rfl)
      try simp only [Act.put, List.getElem_toArray, List.getElem_cons_zero, List.getElem_cons_succ, List.setIfInBounds_toArray, List.set_cons_zero, List.set_cons_succ]
      refine wpAnyH_take (i := 2) (oi := _) (v := ?vryu3) rfl (by kernel_rfl) (by kernel_rfl) (by kernel_rfl) (fun _ _ _ h => h) (Or.inl ⟨by kernel_rfl, ?hyryu3⟩) hHeld ?restryu3
      case hyryu3 => (intro w hSw; (try dsimp only at hSw); go_simp; first | done | with_reducible rfl)
      try simp only [Act.put, List.getElem_toArray, List.getElem_cons_zero, List.getElem_cons_succ, List.setIfInBounds_toArray, List.set_cons_zero, List.set_cons_succ]
      refine wpAnyH_take (i := 3) (oi := _) (v := ?vryu4) rfl (by kernel_rfl) (by kernel_rfl) (by kernel_rfl) (fun _ _ _ h => h) (Or.inl ⟨by kernel_rfl, ?hyryu4⟩) hHeld ?restryu4
      case hyryu4 => (intro w hSw; (try dsimp only at hSw); go_simp; first | done | with_reducible rfl)
      try simp only [Act.put, List.getElem_toArray, List.getElem_cons_zero, List.getElem_cons_succ, List.setIfInBounds_toArray, List.set_cons_zero, List.set_cons_succ]
      refine wpAnyH_take (i := 4) (oi := _) (v := undef) rfl (by kernel_rfl) (by kernel_rfl) (by kernel_rfl) (fun _ _ _ h => h) (Or.inr ⟨by rfl, rfl⟩) hHeld ?_
      try simp only [Act.put, List.getElem_toArray, List.getElem_cons_zero, List.getElem_cons_succ, List.setIfInBounds_toArray, List.set_cons_zero, List.set_cons_succ]
      refine wpAnyH_take (i := 5) (oi := _) (v := undef) rfl (by kernel_rfl) (by kernel_rfl) (by kernel_rfl) (fun _ _ _ h => h) (Or.inr ⟨by rfl, rfl⟩) hHeld ?_
      try simp only [Act.put, List.getElem_toArray, List.getElem_cons_zero, List.getElem_cons_succ, List.setIfInBounds_toArray, List.set_cons_zero, List.set_cons_succ]
      refine wpAnyH_take (i := 6) (oi := _) (v := undef) rfl (by kernel_rfl) (by kernel_rfl) (by kernel_rfl) (fun _ _ _ h => h) (Or.inr ⟨by rfl, rfl⟩) hHeld ?_
      try simp only [Act.put, List.getElem_toArray, List.getElem_cons_zero, List.getElem_cons_succ, List.setIfInBounds_toArray, List.set_cons_zero, List.set_cons_succ]
      refine wpAnyH_take (i := 7) (oi := _) (v := undef) rfl (by kernel_rfl) (by kernel_rfl) (by kernel_rfl) (fun _ _ _ h => h) (Or.inr ⟨by rfl, rfl⟩) hHeld ?_
      try simp only [Act.put, List.getElem_toArray, List.getElem_cons_zero, List.getElem_cons_succ, List.setIfInBounds_toArray, List.set_cons_zero, List.set_cons_succ]
      refine wpAnyH_take (i := 8) (oi := _) (v := undef) rfl (by kernel_rfl) (by kernel_rfl) (by kernel_rfl) (fun _ _ _ h => h) (Or.inr ⟨by rfl, rfl⟩) hHeld ?_
      try simp only [Act.put, List.getElem_toArray, List.getElem_cons_zero, List.getElem_cons_succ, List.setIfInBounds_toArray, List.set_cons_zero, List.set_cons_succ]
      refine wpAnyH_take (i := 9) (oi := _) (v := undef) rfl (by kernel_rfl) (by kernel_rfl) (by kernel_rfl) (fun _ _ _ h => h) (Or.inr ⟨by rfl, rfl⟩) hHeld ?_
      try simp only [Act.put, List.getElem_toArray, List.getElem_cons_zero, List.getElem_cons_succ, List.setIfInBounds_toArray, List.set_cons_zero, List.set_cons_succ]
      refine wpAnyH_take (i := 10) (oi := _) (v := ?vryu5) rfl (by kernel_rfl) (by kernel_rfl) (by kernel_rfl) (fun _ _ _ h => h) (Or.inl ⟨by kernel_rfl, ?hyryu5⟩) hHeld ?restryu5
      case hyryu5 => (intro w hSw; (try dsimp only at hSw); go_simp; first | done | with_reducible rfl)
      try simp only [Act.put, List.getElem_toArray, List.getElem_cons_zero, List.getElem_cons_succ, List.setIfInBounds_toArray, List.set_cons_zero, List.set_cons_succ]
      refine wpAnyH_take (i := 11) (oi := _) (v := ?vryu6) rfl (by kernel_rfl) (by kernel_rfl) (by kernel_rfl) (fun _ _ _ h => h) (Or.inl ⟨by kernel_rfl, ?hyryu6⟩) hHeld ?restryu6
      case hyryu6 => (intro w hSw; (try dsimp only at hSw); go_simp; first | done | with_reducible rfl)
      try simp only [Act.put, List.getElem_toArray, List.getElem_cons_zero, List.getElem_cons_succ, List.setIfInBounds_toArray, List.set_cons_zero, List.set_cons_succ]
      refine wpAnyH_take (i := 12) (oi := _) (v := ?vryu7) rfl (by kernel_rfl) (by kernel_rfl) (by kernel_rfl) (fun _ _ _ h => h) (Or.inl ⟨by kernel_rfl, ?hyryu7⟩) hHeld ?restryu7
      case hyryu7 => (intro w hSw; (try dsimp only at hSw); go_simp; first | done | with_reducible rfl)
      try simp only [Act.put, List.getElem_toArray, List.getElem_cons_zero, List.getElem_cons_succ, List.setIfInBounds_toArray, List.set_cons_zero, List.set_cons_succ]
      refine wpAnyH_take (i := 13) (oi := _) (v := ?vryu8) rfl (by kernel_rfl) (by kernel_rfl) (by kernel_rfl) (fun _ _ _ h => h) (Or.inl ⟨by kernel_rfl, ?hyryu8⟩) hHeld ?restryu8
      case hyryu8 => (intro w hSw; (try dsimp only at hSw); go_simp; first | done | with_reducible rfl)
      try simp only [Act.put, List.getElem_toArray, List.getElem_cons_zero, List.getElem_cons_succ, List.setIfInBounds_toArray, List.set_cons_zero, List.set_cons_succ]
      refine wpAnyH_take (i := 14) (oi := _) (v := ?vryu9) rfl (by kernel_rfl) (by kernel_rfl) (by kernel_rfl) (fun _ _ _ h => h) (Or.inl ⟨by kernel_rfl, ?hyryu9⟩) hHeld ?restryu9
      case hyryu9 => (intro w hSw; (try dsimp only at hSw); go_simp; first | done | with_reducible rfl)
      try simp only [Act.put, List.getElem_toArray, List.getElem_cons_zero, List.getElem_cons_succ, List.setIfInBounds_toArray, List.set_cons_zero, List.set_cons_succ]
      refine wpAnyH_take (i := 15) (oi := _) (v := ?vryu10) rfl (by kernel_rfl) (by kernel_rfl) (by kernel_rfl) (fun _ _ _ h => h) (Or.inl ⟨by kernel_rfl, ?hyryu10⟩) hHeld ?restryu10
      case hyryu10 => (intro w hSw; (try dsimp only at hSw); go_simp; first | done | with_reducible rfl)
      try simp only [Act.put, List.getElem_toArray, List.getElem_cons_zero, List.getElem_cons_succ, List.setIfInBounds_toArray, List.set_cons_zero, List.set_cons_succ]
      refine wpAnyH_take (i := 16) (oi := _) (v := ?vryu11) rfl (by kernel_rfl) (by kernel_rfl) (by kernel_rfl) (fun _ _ _ h => h) (Or.inl ⟨by kernel_rfl, ?hyryu11⟩) hHeld ?restryu11
      case hyryu11 => (intro w hSw; (try dsimp only at hSw); go_simp; first | done | with_reducible rfl)
      try simp only [Act.put, List.getElem_toArray, List.getElem_cons_zero, List.getElem_cons_succ, List.setIfInBounds_toArray, List.set_cons_zero, List.set_cons_succ]
      refine wpAnyH_take (i := 17) (oi := _) (v := ?vryu12) rfl (by kernel_rfl) (by kernel_rfl) (by kernel_rfl) (fun _ _ _ h => h) (Or.inl ⟨by kernel_rfl, ?hyryu12⟩) hHeld ?restryu12
      case hyryu12 => (intro w hSw; (try dsimp only at hSw); go_simp; first | done | with_reducible rfl)
      try simp only [Act.put, List.getElem_toArray, List.getElem_cons_zero, List.getElem_cons_succ, List.setIfInBounds_toArray, List.set_cons_zero, List.set_cons_succ]
      refine wpAnyH_take (i := 18) (oi := _) (v := ?vryu13) rfl (by kernel_rfl) (by kernel_rfl) (by kernel_rfl) (fun _ _ _ h => h) (Or.inl ⟨by kernel_rfl, ?hyryu13⟩) hHeld ?restryu13
      case hyryu13 => (intro w hSw; (try dsimp only at hSw); go_simp; first | done | with_reducible rfl)
      try simp only [Act.put, List.getElem_toArray, List.getElem_cons_zero, List.getElem_cons_succ, List.setIfInBounds_toArray, List.set_cons_zero, List.set_cons_succ]
      refine wpAnyH_take (i := 19) (oi := _) (v := ?vryu14) rfl (by kernel_rfl) (by kernel_rfl) (by kernel_rfl) (fun _ _ _ h => h) (Or.inl ⟨by kernel_rfl, ?hyryu14⟩) hHeld ?restryu14
      case hyryu14 => (intro w hSw; (try dsimp only at hSw); go_simp; first | done | with_reducible rfl)
      try simp only [Act.put, List.getElem_toArray, List.getElem_cons_zero, List.getElem_cons_succ, List.setIfInBounds_toArray, List.set_cons_zero, List.set_cons_succ]
      refine wpAnyH_take (i := 20) (oi := _) (v := ?vryu15) rfl (by kernel_rfl) (by kernel_rfl) (by kernel_rfl) (fun _ _ _ h => h) (Or.inl ⟨by kernel_rfl, ?hyryu15⟩) hHeld ?restryu15
      case hyryu15 => (intro w hSw; (try dsimp only at hSw); go_simp; first | done | with_reducible rfl)
      try simp only [Act.put, List.getElem_toArray, List.getElem_cons_zero, List.getElem_cons_succ, List.setIfInBounds_toArray, List.set_cons_zero, List.set_cons_succ]
      refine wpAnyH_take (i := 21) (oi := _) (v := ?vryu16) rfl (by kernel_rfl) (by kernel_rfl) (by kernel_rfl) (fun _ _ _ h => h) (Or.inl ⟨by kernel_rfl, ?hyryu16⟩) hHeld ?restryu16
      case hyryu16 => (intro w hSw; (try dsimp only at hSw); go_simp; first | done | with_reducible rfl)
      try simp only [Act.put, List.getElem_toArray, List.getElem_cons_zero, List.getElem_cons_succ, List.setIfInBounds_toArray, List.set_cons_zero, List.set_cons_succ]
      refine wpAnyH_take (i := 22) (oi := _) (v := ?vryu17) rfl (by kernel_rfl) (by kernel_rfl) (by kernel_rfl) (fun _ _ _ h => h) (Or.inl ⟨by kernel_rfl, ?hyryu17⟩) hHeld ?restryu17
      case hyryu17 => (intro w hSw; (try dsimp only at hSw); go_simp; first | done | with_reducible rfl)
      try simp only [Act.put, List.getElem_toArray, List.getElem_cons_zero, List.getElem_cons_succ, List.setIfInBounds_toArray, List.set_cons_zero, List.set_cons_succ]
      refine wpAnyH_take (i := 23) (oi := _) (v := ?vryu18) rfl (by kernel_rfl) (by kernel_rfl) (by kernel_rfl) (fun _ _ _ h => h) (Or.inl ⟨by kernel_rfl, ?hyryu18⟩) hHeld ?restryu18
      case hyryu18 => (intro w hSw; (try dsimp only at hSw); go_simp; first | done | with_reducible rfl)
      try simp only [Act.put, List.getElem_toArray, List.getElem_cons_zero, List.getElem_cons_succ, List.setIfInBounds_toArray, List.set_cons_zero, List.set_cons_succ]
      refine wpAnyH_take (i := 24) (oi := _) (v := ?vryu19) rfl (by kernel_rfl) (by kernel_rfl) (by kernel_rfl) (fun _ _ _ h => h) (Or.inl ⟨by kernel_rfl, ?hyryu19⟩) hHeld ?restryu19
      case hyryu19 => (intro w hSw; (try dsimp only at hSw); go_simp; first | done | with_reducible rfl)
      try simp only [Act.put, List.getElem_toArray, List.getElem_cons_zero, List.getElem_cons_succ, List.setIfInBounds_toArray, List.set_cons_zero, List.set_cons_succ]
      refine wpAnyH_take (i := 25) (oi := _) (v := ?vryu20) rfl (by kernel_rfl) (by kernel_rfl) (by kernel_rfl) (fun _ _ _ h => h) (Or.inl ⟨by kernel_rfl, ?hyryu20⟩) hHeld ?restryu20
      case hyryu20 => (intro w hSw; (try dsimp only at hSw); go_simp; first | done | with_reducible rfl)
      try simp only [Act.put, List.getElem_toArray, List.getElem_cons_zero, List.getElem_cons_succ, List.setIfInBounds_toArray, List.set_cons_zero, List.set_cons_succ]
      refine wpAnyH_take (i := 29) (oi := _) (v := ?vryu21) rfl (by kernel_rfl) (by kernel_rfl) (by kernel_rfl) (fun _ _ _ h => h) (Or.inl ⟨by kernel_rfl, ?hyryu21⟩) hHeld ?restryu21
      case hyryu21 => (intro w hSw; (try dsimp only at hSw); go_simp; first | done | with_reducible rfl)
      try simp only [Act.put, List.getElem_toArray, List.getElem_cons_zero, List.getElem_cons_succ, List.setIfInBounds_toArray, List.set_cons_zero, List.set_cons_succ]
      refine wpAnyH_take (i := 30) (oi := _) (v := ?vryu22) rfl (by kernel_rfl) (by kernel_rfl) (by kernel_rfl) (fun _ _ _ h => h) (Or.inl ⟨by kernel_rfl, ?hyryu22⟩) hHeld ?restryu22
      case hyryu22 => (intro w hSw; (try dsimp only at hSw); go_simp; first | done | with_reducible rfl)
      try simp only [Act.put, List.getElem_toArray, List.getElem_cons_zero, List.getElem_cons_succ, List.setIfInBounds_toArray, List.set_cons_zero, List.set_cons_succ]
      refine wpAnyH_ready (rs := [26]) (by kernel_rfl) (by simp) ?_
      refine AllReadyH.cons (o := _) rfl (fun K0 hK0 => ?_) AllReadyH.nil
      go_simp
      go_at_call 13
      refine (CE.out c2 d2 _ (O2.rd.kept (Below.refl _ _).drew) O2.nocap).mono ?_
      rintro e wryv23 ⟨c6, d6, rfl, O6, bryv23⟩
      refine hK0.out _ _ (K.out _ (thenB (Below.refl _ _).drew bryv23)) (fun hHeld => ?_)
      clear hK0 K0
      try simp only [Act.put, List.getElem_toArray, List.getElem_cons_zero, List.getElem_cons_succ, List.setIfInBounds_toArray, List.set_cons_zero, List.set_cons_succ]
      refine wpAnyH_take (i := 27) (oi := _) (v := ?vryu24) rfl (by kernel_rfl) (by kernel_rfl) (by kernel_rfl) (fun _ _ _ h => h) (Or.inl ⟨by kernel_rfl, ?hyryu24⟩) hHeld ?restryu24
      case hyryu24 => (intro w hSw; (try dsimp only at hSw); go_simp; first | done | with_reducible rfl)
      try simp only [Act.put, List.getElem_toArray, List.getElem_cons_zero, List.getElem_cons_succ, List.setIfInBounds_toArray, List.set_cons_zero, List.set_cons_succ]
      have hv := convert_any (d := d6) O6.rd O6.noSpot HM.out
      refine wpAnyH_ready (rs := [28]) (by kernel_rfl) (by simp) ?_
      refine AllReadyH.cons (o := _) rfl (fun K0 hK0 => ?_) AllReadyH.nil
      go_simp
      refine hK0.out _ _ (hHeld) (fun hHeld => ?_)
      clear hK0 K0
      try simp only [Act.put, List.getElem_toArray, List.getElem_cons_zero, List.getElem_cons_succ, List.setIfInBounds_toArray, List.set_cons_zero, List.set_cons_succ]
      refine wpAnyH_take (i := 31) (oi := _) (v := ?vryu25) rfl (by kernel_rfl) (by kernel_rfl) (by kernel_rfl) (fun _ _ _ h => h) (Or.inl ⟨by kernel_rfl, ?hyryu25⟩) hHeld ?restryu25
      case hyryu25 => (intro w hSw; (try dsimp only at hSw); go_simp; first | done | with_reducible rfl)
      try simp only [Act.put, List.getElem_toArray, List.getElem_cons_zero, List.getElem_cons_succ, List.setIfInBounds_toArray, List.set_cons_zero, List.set_cons_succ]
      refine wpAnyH_take (i := 32) (oi := _) (v := ?vryu26) rfl (by kernel_rfl) (by kernel_rfl) (by kernel_rfl) (fun _ _ _ h => h) (Or.inl ⟨by kernel_rfl, ?hyryu26⟩) hHeld ?restryu26
      case hyryu26 => (intro w hSw; (try dsimp only at hSw); go_simp; first | done | with_reducible rfl)
      try simp only [Act.put, List.getElem_toArray, List.getElem_cons_zero, List.getElem_cons_succ, List.setIfInBounds_toArray, List.set_cons_zero, List.set_cons_succ]
      refine wpAnyH_take (i := 33) (oi := _) (v := ?vryu27) rfl (by kernel_rfl) (by kernel_rfl) (by kernel_rfl) (fun _ _ _ h => h) (Or.inl ⟨by kernel_rfl, ?hyryu27⟩) hHeld ?restryu27
      case hyryu27 => (intro w hSw; (try dsimp only at hSw); go_simp; first | done | with_reducible rfl)
      try simp only [Act.put, List.getElem_toArray, List.getElem_cons_zero, List.getElem_cons_succ, List.setIfInBounds_toArray, List.set_cons_zero, List.set_cons_succ]
      refine wpAnyH_done (by kernel_rfl) ?_ _
      have bacc : Below (w2.alloc (.cells #[.int .i64 0, .int .i64 KI, .int .i64 AA, .int .i64 CC, .int .i64 NN, .slice c2 l5 d2] 26)).heap.size (w2.alloc (.cells #[.int .i64 0, .int .i64 KI, .int .i64 AA, .int .i64 CC, .int .i64 NN, .slice c2 l5 d2] 26)) _ := (thenB (Below.refl _ _).drew bryv23)
      replace VD := VD.kept bacc
      replace R := R.kept bacc
      replace RA := RA.kept bacc
      replace O2 := O2.kept bacc
      replace B := thenB B bacc
      clear bacc K
      clear O6 O2 VD R CI CE hv
      go_wp2_with fail
      refine (drawEncodeFrame_ok a n ca xs _ RA hB hn (by omega)).mono ?_
      rintro e w20 ⟨k, x, y, u, c20, d20, m20, bs, rfl, hbl, hb301, hcap20, hbb, O20, b20⟩
      replace B := thenB B b20
      clear b20 RA
      have CF := fun w h => implEncodeFrame_ok k x y u c20 m20 d20 bs w h hbl (by unfold maxLen; omega) O20.nocap
      have CT := fun w h => specEncodeFrame_ok k x y u c20 m20 d20 bs w h hbl (by unfold maxLen; omega) O20.nocap
      have HBL := Hid.mk hbl
      have R20 := O20.rd
      have HNS := Hid.mk O20.noSpot
      have hPb := Hid.mk (frmB_bytes (kind := k) (a := x) (b := y) (n := u) hbb)
      have hfl := Hid.mk (fr_len k x y u bs)
      by_cases hk : frmC k x y u bs = 0
      · skip
        obtain ⟨f1, f2, f3, f4, f5, f6⟩ := fr_there hk
        have hBP : frmB k x y u bs = frmP k x y u bs := by unfold frmB; rw [if_pos hk]
        rw [hBP] at hPb hfl
        rw [hBP, hk] at CF
        obtain ⟨g1, g2, g3⟩ := fr_yes f1
        obtain ⟨N, hN⟩ : ∃ N, (frmP k x y u bs).length = N := ⟨_, rfl⟩
        rw [hN] at CF hfl
        have CD := fun c d w h hc => implDecodeFrame_ok c N d (frmP k x y u bs) w h hPb.out hN (by have := hfl.out; omega) hc
        simp only [g1, g2, g3, f2, f3, f4, f5, f6] at CD
        rw [hbl] at CD
        have HN := Hid.mk hN
        generalize frmP k x y u bs = P at *
        replace CF := Hid.mk CF
        replace CD := Hid.mk CD
        clear f1 f2 f3 f4 f5 f6 hBP hk g1 g2 g3 hN CT hbl
        have Bo := B
        go_wp2_with fail
        refine (CF.out _ R20).mono ?_
        rintro e w21 ⟨c21, d21, rfl, O21, b21⟩
        have S21 := b21.size
        replace R20 := R20.kept b21
        replace B := thenB B b21
        clear b21
        have Bo := B
        have hc21 := O21.cap
        rw [HN.out] at hc21
        replace R20 := R20.kept (belowA w21 (.cells #[.int .i64 0, .slice c21 N d21] 29))
        replace O21 := O21.kept (belowA w21 (.cells #[.int .i64 0, .slice c21 N d21] 29))
        replace B := thenB B (belowA w21 (.cells #[.int .i64 0, .slice c21 N d21] 29))
        have VE := V.new w21 [.int .i64 0, .slice c21 N d21] 29
        obtain ⟨s_VE, f_VE, z_VE⟩ := VE.open
        have Bo := B
        go_wp2_with fail
        refine (CD.out c21 d21 _ O21.rd hc21).mono ?_
        rintro e w22 ⟨c22, d22, rfl, O22, b22⟩
        clear s_VE f_VE z_VE
        have S22 := b22.size
        simp only [World.size_alloc] at S22
        replace VE := VE.kept b22
        replace R20 := R20.kept b22
        replace O21 := O21.kept b22
        replace B := thenB B b22
        clear b22
        obtain ⟨s_VE, f_VE, z_VE⟩ := VE.open
        have Bo := B
        clear O21
        replace VE := VE.kept (belowA w22 (.cells #[.int .i64 0, .int .i64 k, .int .i64 x, .int .i64 y, .int .i64 u, .slice c22 m20 d22] 26))
        replace R20 := R20.kept (belowA w22 (.cells #[.int .i64 0, .int .i64 k, .int .i64 x, .int .i64 y, .int .i64 u, .slice c22 m20 d22] 26))
        replace O22 := O22.kept (belowA w22 (.cells #[.int .i64 0, .int .i64 k, .int .i64 x, .int .i64 y, .int .i64 u, .slice c22 m20 d22] 26))
        replace B := thenB B (belowA w22 (.cells #[.int .i64 0, .int .i64 k, .int .i64 x, .int .i64 y, .int .i64 u, .slice c22 m20 d22] 26))
        have VX := V.new w22 [.int .i64 0, .int .i64 k, .int .i64 x, .int .i64 y, .int .i64 u, .slice c22 m20 d22] 26
        clear s_VE f_VE z_VE
        have hv1 := convert_any (d := d22) O22.rd O22.noSpot HBL.out
        have hv2 := convert_any (d := d20) R20 HNS.out HBL.out
        clear O22 R20
        obtain ⟨s_VE, f_VE, z_VE⟩ := VE.open
        obtain ⟨s_VX, f_VX, z_VX⟩ := VX.open
        have Bo := B
        go_wp2
        go_ret
        exact ⟨rfl, Bo⟩
      · skip
        have hk1 : (frmC k x y u bs != 0) = true := by simp [hk]
        generalize frmB k x y u bs = Y at *
        obtain ⟨N, hN⟩ : ∃ N, Y.length = N := ⟨_, rfl⟩
        rw [hN] at CF CT
        generalize frmC k x y u bs = kk at *
        clear hN hk hbl
        replace CF := Hid.mk CF
        replace CT := Hid.mk CT
        have hfd := field_b0F (.int .i64 kk)
        have Bo := B
        go_wp2_with fail
        refine (CF.out _ R20).mono ?_
        rintro e w21 ⟨c21, d21, rfl, O21, b21⟩
        have S21 := b21.size
        replace R20 := R20.kept b21
        replace B := thenB B b21
        clear b21
        have Bo := B
        clear O21
        replace R20 := R20.kept (belowA w21 (.cells #[.int .i64 kk, .slice c21 N d21] 29))
        replace B := thenB B (belowA w21 (.cells #[.int .i64 kk, .slice c21 N d21] 29))
        have VE := V.new w21 [.int .i64 kk, .slice c21 N d21] 29
        obtain ⟨s_VE, f_VE, z_VE⟩ := VE.open
        have Bo := B
        clear s_VE f_VE z_VE
        have K : ∀ w' : World, Below ((w21.alloc (.cells #[.int .i64 kk, .slice c21 N d21] 29))).heap.size (w21.alloc (.cells #[.int .i64 kk, .slice c21 N d21] 29)) w' → w'.cell? ⟨w21.heap.size, 0, none⟩ = some (.int .i64 kk) := fun w' h => (VE.kept h).2.1 0 (by simp)
        have K := Hid.mk K
        obtain ⟨s_VE, f_VE, z_VE⟩ := VE.open
        go_wp2_with fail
        go_region_held3 (fun w' => w'.cell? ⟨w21.heap.size, 0, none⟩ = some (.int .i64 kk)) (first | exact K.out _ (thenB (Below.refl _ _).drew b3) | exact K.out _ (Below.refl _ _).drew) ((go_at_call 15; refine (CT.out _ (R20.kept (Below.refl _ _).drew)).mono ?_; rintro e w3 ⟨c3, d3, rfl, O3, b3⟩))
        have B3 := thenB B (thenB (Below.refl _ _).drew b3)
        go_wp2
        go_ret
        exact ⟨rfl, B3⟩
  · go_enter Try.func3, Try.ntmps3
    go_wp2_with (first | (go_at_call 9; go_in) | fail)
    go_ret
    exact ⟨rfl, Below.refl _ _⟩

end Go.Proofs.Ytfldgeokigcokaa
