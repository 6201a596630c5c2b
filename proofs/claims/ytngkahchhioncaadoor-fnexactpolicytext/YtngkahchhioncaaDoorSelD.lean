/- What two arrays of ranges have in common: the walk of a loop of four rounds. -/
import Derived.Test.YtngkahchhioncaaDoorSelC
import Derived.Test.YtngkahchhioncaaDoorVar
import Derived.BigRegion
namespace Go.Proofs.YtngkahchhioncaaDoor
open Go.RowKit

theorem if_max (a b : Int) : (if a < b then b else a) = max a b := by split <;> omega
theorem if_min (a b : Int) : (if b < a then b else a) = min a b := by split <;> omega

set_option maxHeartbeats 4000000 in
theorem commonSpans_ok (a0 a1 a2 a3 a4 a5 a6 a7 b0 b1 b2 b3 b4 b5 b6 b7 : Int) (w : World) :
    Calls Tryd.prog 108 #[.agg #[.int .i64 a0, .int .i64 a1, .int .i64 a2, .int .i64 a3, .int .i64 a4, .int .i64 a5, .int .i64 a6, .int .i64 a7], .agg #[.int .i64 b0, .int .i64 b1, .int .i64 b2, .int .i64 b3, .int .i64 b4, .int .i64 b5, .int .i64 b6, .int .i64 b7]] w fun e w' => e = .returned (.agg #[.int .i64 (max a0 b0), .int .i64 (min a1 b1), .int .i64 (max a2 b2), .int .i64 (min a3 b3), .int .i64 (max a4 b4), .int .i64 (min a5 b5), .int .i64 (max a6 b6), .int .i64 (min a7 b7)]) ∧ Below w.heap.size w w' := by
  obtain ⟨m0, hm0⟩ : ∃ m, max a0 b0 = m := ⟨_, rfl⟩
  obtain ⟨m1, hm1⟩ : ∃ m, min a1 b1 = m := ⟨_, rfl⟩
  obtain ⟨m2, hm2⟩ : ∃ m, max a2 b2 = m := ⟨_, rfl⟩
  obtain ⟨m3, hm3⟩ : ∃ m, min a3 b3 = m := ⟨_, rfl⟩
  obtain ⟨m4, hm4⟩ : ∃ m, max a4 b4 = m := ⟨_, rfl⟩
  obtain ⟨m5, hm5⟩ : ∃ m, min a5 b5 = m := ⟨_, rfl⟩
  obtain ⟨m6, hm6⟩ : ∃ m, max a6 b6 = m := ⟨_, rfl⟩
  obtain ⟨m7, hm7⟩ : ∃ m, min a7 b7 = m := ⟨_, rfl⟩
  rw [hm0, hm1, hm2, hm3, hm4, hm5, hm6, hm7]
  have q0 : (if a0 < b0 then b0 else a0) = m0 := by rw [if_max, hm0]
  have q1 : (if b1 < a1 then b1 else a1) = m1 := by rw [if_min, hm1]
  have q2 : (if a2 < b2 then b2 else a2) = m2 := by rw [if_max, hm2]
  have q3 : (if b3 < a3 then b3 else a3) = m3 := by rw [if_min, hm3]
  have q4 : (if a4 < b4 then b4 else a4) = m4 := by rw [if_max, hm4]
  have q5 : (if b5 < a5 then b5 else a5) = m5 := by rw [if_min, hm5]
  have q6 : (if a6 < b6 then b6 else a6) = m6 := by rw [if_max, hm6]
  have q7 : (if b7 < a7 then b7 else a7) = m7 := by rw [if_min, hm7]
  clear hm0 hm1 hm2 hm3 hm4 hm5 hm6 hm7
  go_enter Tryd.func108, Tryd.ntmps108
  go_wp2
  go_loopw [7] (fun i wr => V wr (w.heap.size) [.int .i64 a0, .int .i64 a1, .int .i64 a2, .int .i64 a3, .int .i64 a4, .int .i64 a5, .int .i64 a6, .int .i64 a7] ∧ V wr (w.heap.size + 1) [.int .i64 b0, .int .i64 b1, .int .i64 b2, .int .i64 b3, .int .i64 b4, .int .i64 b5, .int .i64 b6, .int .i64 b7] ∧ V wr (w.heap.size + 1 + 1) [.int .i64 0, .int .i64 0, .int .i64 0, .int .i64 0, .int .i64 0, .int .i64 0, .int .i64 0, .int .i64 0] ∧ Below w.heap.size w wr ∧ (
    (i = .int .i64 0 ∧ V wr (w.heap.size + 1 + 1 + 1) [.int .i64 0, .int .i64 0, .int .i64 0, .int .i64 0, .int .i64 0, .int .i64 0, .int .i64 0, .int .i64 0]) ∨ (i = .int .i64 1 ∧ V wr (w.heap.size + 1 + 1 + 1) [.int .i64 m0, .int .i64 m1, .int .i64 0, .int .i64 0, .int .i64 0, .int .i64 0, .int .i64 0, .int .i64 0]) ∨ (i = .int .i64 2 ∧ V wr (w.heap.size + 1 + 1 + 1) [.int .i64 m0, .int .i64 m1, .int .i64 m2, .int .i64 m3, .int .i64 0, .int .i64 0, .int .i64 0, .int .i64 0]) ∨ (i = .int .i64 3 ∧ V wr (w.heap.size + 1 + 1 + 1) [.int .i64 m0, .int .i64 m1, .int .i64 m2, .int .i64 m3, .int .i64 m4, .int .i64 m5, .int .i64 0, .int .i64 0]) ∨ (i = .int .i64 4 ∧ V wr (w.heap.size + 1 + 1 + 1) [.int .i64 m0, .int .i64 m1, .int .i64 m2, .int .i64 m3, .int .i64 m4, .int .i64 m5, .int .i64 m6, .int .i64 m7]))) (fun i _ => 4 - (intOf i).toNat)
  case atStart =>
    refine ⟨?_, ?_, ?_, ?_, .inl ⟨rfl, ?_⟩⟩
    · exact (((V.new w [.int .i64 a0, .int .i64 a1, .int .i64 a2, .int .i64 a3, .int .i64 a4, .int .i64 a5, .int .i64 a6, .int .i64 a7] 92).kept (belowA _ _)).kept (belowA _ _)).kept (belowA _ _)
    · exact ((V.newAt _ _ _ _ (by simp)).kept (belowA _ _)).kept (belowA _ _)
    · exact (V.newAt _ _ _ _ (by simp)).kept (belowA _ _)
    · repeat' (first | exact Below.refl _ _ | refine Below.alloc ?_ (by (try simp); (try omega)) _ | refine Below.setCell ?_ (by (try simp); (try omega)) _ | refine Below.drew ?_)
    · exact V.newAt _ _ _ _ (by simp)
  case round =>
    obtain ⟨VA, VB, VR, B, hrel⟩ := hrel
    rcases hrel with ⟨rfl, VC⟩ | ⟨rfl, VC⟩ | ⟨rfl, VC⟩ | ⟨rfl, VC⟩ | ⟨rfl, VC⟩
    · obtain ⟨_, fA, _⟩ := VA.open
      obtain ⟨_, fB, _⟩ := VB.open
      obtain ⟨_, fC, zC⟩ := VC.open
      have gA0 := fA 0 (by simp)
      have gA1 := fA 1 (by simp)
      have gB0 := fB 0 (by simp)
      have gB1 := fB 1 (by simp)
      have gC0 := fC 0 (by simp)
      have gC1 := fC 1 (by simp)
      simp at gA0 gA1 gB0 gB1 gC0 gC1
      clear fA fB fC
      replace VA := Hid.mk (((VA.other (p := ⟨w.heap.size + 1 + 1 + 1, 0, none⟩) (by (try simp); (try omega)) (.int .i64 m0)).other (p := ⟨w.heap.size + 1 + 1 + 1, 1, none⟩) (by (try simp); (try omega)) (.int .i64 m1)).kept ((Below.refl _ _).drew.drew))
      replace VB := Hid.mk (((VB.other (p := ⟨w.heap.size + 1 + 1 + 1, 0, none⟩) (by (try simp); (try omega)) (.int .i64 m0)).other (p := ⟨w.heap.size + 1 + 1 + 1, 1, none⟩) (by (try simp); (try omega)) (.int .i64 m1)).kept ((Below.refl _ _).drew.drew))
      replace VR := Hid.mk (((VR.other (p := ⟨w.heap.size + 1 + 1 + 1, 0, none⟩) (by (try simp); (try omega)) (.int .i64 m0)).other (p := ⟨w.heap.size + 1 + 1 + 1, 1, none⟩) (by (try simp); (try omega)) (.int .i64 m1)).kept ((Below.refl _ _).drew.drew))
      replace VC := (((VC.set (i := 0) (by simp) (.int .i64 m0)).set (i := 1) (by simp) (.int .i64 m1)).kept ((Below.refl _ _).drew.drew))
      simp only [List.set_cons_zero, List.set_cons_succ] at VC
      replace VC := Hid.mk VC
      replace B := Hid.mk (((B.setCell (p := ⟨w.heap.size + 1 + 1 + 1, 0, none⟩) (by (try simp); (try omega)) (.int .i64 m0)).setCell (p := ⟨w.heap.size + 1 + 1 + 1, 1, none⟩) (by (try simp); (try omega)) (.int .i64 m1)).drew.drew)
      go_wp2
      go_region
      go_wp2
      go_region
      go_wp2
      go_roundw
      case rel => exact ⟨VA.out, VB.out, VR.out, B.out, .inr (.inl ⟨rfl, VC.out⟩)⟩
      case measure => simp [intOf]
    · obtain ⟨_, fA, _⟩ := VA.open
      obtain ⟨_, fB, _⟩ := VB.open
      obtain ⟨_, fC, zC⟩ := VC.open
      have gA0 := fA 2 (by simp)
      have gA1 := fA 3 (by simp)
      have gB0 := fB 2 (by simp)
      have gB1 := fB 3 (by simp)
      have gC0 := fC 2 (by simp)
      have gC1 := fC 3 (by simp)
      simp at gA0 gA1 gB0 gB1 gC0 gC1
      clear fA fB fC
      replace VA := Hid.mk (((VA.other (p := ⟨w.heap.size + 1 + 1 + 1, 2, none⟩) (by (try simp); (try omega)) (.int .i64 m2)).other (p := ⟨w.heap.size + 1 + 1 + 1, 3, none⟩) (by (try simp); (try omega)) (.int .i64 m3)).kept ((Below.refl _ _).drew.drew))
      replace VB := Hid.mk (((VB.other (p := ⟨w.heap.size + 1 + 1 + 1, 2, none⟩) (by (try simp); (try omega)) (.int .i64 m2)).other (p := ⟨w.heap.size + 1 + 1 + 1, 3, none⟩) (by (try simp); (try omega)) (.int .i64 m3)).kept ((Below.refl _ _).drew.drew))
      replace VR := Hid.mk (((VR.other (p := ⟨w.heap.size + 1 + 1 + 1, 2, none⟩) (by (try simp); (try omega)) (.int .i64 m2)).other (p := ⟨w.heap.size + 1 + 1 + 1, 3, none⟩) (by (try simp); (try omega)) (.int .i64 m3)).kept ((Below.refl _ _).drew.drew))
      replace VC := (((VC.set (i := 2) (by simp) (.int .i64 m2)).set (i := 3) (by simp) (.int .i64 m3)).kept ((Below.refl _ _).drew.drew))
      simp only [List.set_cons_zero, List.set_cons_succ] at VC
      replace VC := Hid.mk VC
      replace B := Hid.mk (((B.setCell (p := ⟨w.heap.size + 1 + 1 + 1, 2, none⟩) (by (try simp); (try omega)) (.int .i64 m2)).setCell (p := ⟨w.heap.size + 1 + 1 + 1, 3, none⟩) (by (try simp); (try omega)) (.int .i64 m3)).drew.drew)
      go_wp2
      go_region
      go_wp2
      go_region
      go_wp2
      go_roundw
      case rel => exact ⟨VA.out, VB.out, VR.out, B.out, .inr (.inr (.inl ⟨rfl, VC.out⟩))⟩
      case measure => simp [intOf]
    · obtain ⟨_, fA, _⟩ := VA.open
      obtain ⟨_, fB, _⟩ := VB.open
      obtain ⟨_, fC, zC⟩ := VC.open
      have gA0 := fA 4 (by simp)
      have gA1 := fA 5 (by simp)
      have gB0 := fB 4 (by simp)
      have gB1 := fB 5 (by simp)
      have gC0 := fC 4 (by simp)
      have gC1 := fC 5 (by simp)
      simp at gA0 gA1 gB0 gB1 gC0 gC1
      clear fA fB fC
      replace VA := Hid.mk (((VA.other (p := ⟨w.heap.size + 1 + 1 + 1, 4, none⟩) (by (try simp); (try omega)) (.int .i64 m4)).other (p := ⟨w.heap.size + 1 + 1 + 1, 5, none⟩) (by (try simp); (try omega)) (.int .i64 m5)).kept ((Below.refl _ _).drew.drew))
      replace VB := Hid.mk (((VB.other (p := ⟨w.heap.size + 1 + 1 + 1, 4, none⟩) (by (try simp); (try omega)) (.int .i64 m4)).other (p := ⟨w.heap.size + 1 + 1 + 1, 5, none⟩) (by (try simp); (try omega)) (.int .i64 m5)).kept ((Below.refl _ _).drew.drew))
      replace VR := Hid.mk (((VR.other (p := ⟨w.heap.size + 1 + 1 + 1, 4, none⟩) (by (try simp); (try omega)) (.int .i64 m4)).other (p := ⟨w.heap.size + 1 + 1 + 1, 5, none⟩) (by (try simp); (try omega)) (.int .i64 m5)).kept ((Below.refl _ _).drew.drew))
      replace VC := (((VC.set (i := 4) (by simp) (.int .i64 m4)).set (i := 5) (by simp) (.int .i64 m5)).kept ((Below.refl _ _).drew.drew))
      simp only [List.set_cons_zero, List.set_cons_succ] at VC
      replace VC := Hid.mk VC
      replace B := Hid.mk (((B.setCell (p := ⟨w.heap.size + 1 + 1 + 1, 4, none⟩) (by (try simp); (try omega)) (.int .i64 m4)).setCell (p := ⟨w.heap.size + 1 + 1 + 1, 5, none⟩) (by (try simp); (try omega)) (.int .i64 m5)).drew.drew)
      go_wp2
      go_region
      go_wp2
      go_region
      go_wp2
      go_roundw
      case rel => exact ⟨VA.out, VB.out, VR.out, B.out, .inr (.inr (.inr (.inl ⟨rfl, VC.out⟩)))⟩
      case measure => simp [intOf]
    · obtain ⟨_, fA, _⟩ := VA.open
      obtain ⟨_, fB, _⟩ := VB.open
      obtain ⟨_, fC, zC⟩ := VC.open
      have gA0 := fA 6 (by simp)
      have gA1 := fA 7 (by simp)
      have gB0 := fB 6 (by simp)
      have gB1 := fB 7 (by simp)
      have gC0 := fC 6 (by simp)
      have gC1 := fC 7 (by simp)
      simp at gA0 gA1 gB0 gB1 gC0 gC1
      clear fA fB fC
      replace VA := Hid.mk (((VA.other (p := ⟨w.heap.size + 1 + 1 + 1, 6, none⟩) (by (try simp); (try omega)) (.int .i64 m6)).other (p := ⟨w.heap.size + 1 + 1 + 1, 7, none⟩) (by (try simp); (try omega)) (.int .i64 m7)).kept ((Below.refl _ _).drew.drew))
      replace VB := Hid.mk (((VB.other (p := ⟨w.heap.size + 1 + 1 + 1, 6, none⟩) (by (try simp); (try omega)) (.int .i64 m6)).other (p := ⟨w.heap.size + 1 + 1 + 1, 7, none⟩) (by (try simp); (try omega)) (.int .i64 m7)).kept ((Below.refl _ _).drew.drew))
      replace VR := Hid.mk (((VR.other (p := ⟨w.heap.size + 1 + 1 + 1, 6, none⟩) (by (try simp); (try omega)) (.int .i64 m6)).other (p := ⟨w.heap.size + 1 + 1 + 1, 7, none⟩) (by (try simp); (try omega)) (.int .i64 m7)).kept ((Below.refl _ _).drew.drew))
      replace VC := (((VC.set (i := 6) (by simp) (.int .i64 m6)).set (i := 7) (by simp) (.int .i64 m7)).kept ((Below.refl _ _).drew.drew))
      simp only [List.set_cons_zero, List.set_cons_succ] at VC
      replace VC := Hid.mk VC
      replace B := Hid.mk (((B.setCell (p := ⟨w.heap.size + 1 + 1 + 1, 6, none⟩) (by (try simp); (try omega)) (.int .i64 m6)).setCell (p := ⟨w.heap.size + 1 + 1 + 1, 7, none⟩) (by (try simp); (try omega)) (.int .i64 m7)).drew.drew)
      go_wp2
      go_region
      go_wp2
      go_region
      go_wp2
      go_roundw
      case rel => exact ⟨VA.out, VB.out, VR.out, B.out, .inr (.inr (.inr (.inr (⟨rfl, VC.out⟩))))⟩
      case measure => simp [intOf]
    · obtain ⟨_, fR, zR⟩ := VR.open
      obtain ⟨_, fC, zC⟩ := VC.open
      have gC0 := fC 0 (by simp)
      have gR0 := fR 0 (by simp)
      have gC1 := fC 1 (by simp)
      have gR1 := fR 1 (by simp)
      have gC2 := fC 2 (by simp)
      have gR2 := fR 2 (by simp)
      have gC3 := fC 3 (by simp)
      have gR3 := fR 3 (by simp)
      have gC4 := fC 4 (by simp)
      have gR4 := fR 4 (by simp)
      have gC5 := fC 5 (by simp)
      have gR5 := fR 5 (by simp)
      have gC6 := fC 6 (by simp)
      have gR6 := fR 6 (by simp)
      have gC7 := fC 7 (by simp)
      have gR7 := fR 7 (by simp)
      simp at gC0 gR0 gC1 gR1 gC2 gR2 gC3 gR3 gC4 gR4 gC5 gR5 gC6 gR6 gC7 gR7
      clear fR fC q0 q1 q2 q3 q4 q5 q6 q7 VA VB
      replace B := Hid.mk B
      replace VR := Hid.mk VR
      replace VC := Hid.mk VC
      go_wp2
      refine bodyPost_ret (v := .agg #[.int .i64 m0, .int .i64 m1, .int .i64 m2, .int .i64 m3, .int .i64 m4, .int .i64 m5, .int .i64 m6, .int .i64 m7]) (by simp [results, Tryd.results108, go_sem, gR0, gR1, gR2, gR3, gR4, gR5, gR6, gR7]) rfl ⟨rfl, ?_⟩
      exact (((((((B.out.setCell (by simp; omega) _).setCell (by simp; omega) _).setCell (by simp; omega) _).setCell (by simp; omega) _).setCell (by simp; omega) _).setCell (by simp; omega) _).setCell (by simp; omega) _).setCell (by simp; omega) _

end Go.Proofs.YtngkahchhioncaaDoor
