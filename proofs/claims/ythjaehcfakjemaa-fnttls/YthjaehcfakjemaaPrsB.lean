/- 'ParsePacket' of the program: the head. -/
import Derived.Test.YthjaehcfakjemaaPrA
import Derived.Test.YthjaehcfakjemaaPrsF
import Derived.Test.YthjaehcfakjemaaFoldI
namespace Go.Proofs.Ythjaehcfakjemaa
open Go.RowKit

theorem Rd.sub {k : IntKind} {w : World} {b o : Nat} {zs : List Int} (h : Rd k w (some ⟨b, o, none⟩) zs) (p m : Nat) : Rd k w (some ⟨b, o + p, none⟩) ((zs.drop p).take m) := by
  rcases h with h | ⟨b', o', h, hc⟩
  · subst h; exact .inl (by simp)
  · simp only [Option.some.injEq, Addr.mk.injEq, and_true] at h
    obtain ⟨rfl, rfl⟩ := h
    refine .inr ⟨b, o + p, rfl, fun i hi => ?_⟩
    simp at hi
    have := hc (p + i) (by omega)
    rw [Nat.add_assoc, this]
    simp [List.getD, List.getElem?_drop, show i < m by omega]

theorem Rd.take {k : IntKind} {w : World} {a : Option Addr} {zs : List Int} (h : Rd k w a zs) (m : Nat) : Rd k w a (zs.take m) := by
  rcases h with h | ⟨b, o, rfl, hc⟩
  · subst h; exact .inl (by simp)
  · refine .inr ⟨b, o, rfl, fun i hi => ?_⟩
    simp at hi
    rw [hc i (by omega)]
    simp [List.getD, show i < m by omega]

set_option maxHeartbeats 2000000 in
theorem isHead_ok (a : Option Addr) (n ca : Nat) (zs : List Int) (w : World) (ha : Rd .u8 w a zs) (hb : Bytes zs) (hn : zs.length = n) (hx : n ≤ 1048576) (hca : n ≤ ca) :
    Calls Try.prog 47 #[.slice a n ca] w fun e w' => e = .returned (.bool (hdB zs)) ∧ Below w.heap.size w w' := by
  unfold hdB
  by_cases h1 : lowB zs = true
  · have g1 : (20 : Int) ≤ (n : Int) := by unfold lowB at h1; simp at h1; omega
    by_cases h2 : topB zs = true
    · have g2 : (n : Int) ≤ 224 := by unfold topB at h2; simp at h2; omega
      rcases ha with ha | ⟨b1, o1, rfl, hc⟩
      · simp [ha] at hn; omega
      have R := Hid.mk (show Rd .u8 w (some ⟨b1, o1, none⟩) zs from .inr ⟨b1, o1, rfl, hc⟩)
      have c0 := hc 0 (by omega)
      have c1 := hc 1 (by omega)
      have e3 := Hid.mk (show verB zs = (zs.getD 0 0 == 69) by unfold verB; rfl)
      have e4 := Hid.mk (show nulB zs = (zs.getD 1 0 == 0) by unfold nulB; rfl)
      have e5 := Hid.mk (show eqB ((zs.drop 4).take 4) [0, 0, 64, 0] = mrkB zs by unfold mrkB; rfl)
      have e6 := Hid.mk (show (takeN zs 2 2 == (n : Int)) = lenB zs by unfold lenB; rw [hn])
      rw [h1, h2]
      simp only [Nat.add_zero] at c0
      clear hc h1 h2
      rw [e3.out, e4.out]
      clear e3 e4
      generalize zs.getD 0 0 = v0 at *
      generalize zs.getD 1 0 = v1 at *
      have k4 : ¬ ca = 4 := by omega
      have k8 : (8 : Int) ≤ (ca : Int) := by omega
      have hl4 : ((zs.drop 4).take 4).length = 4 := by simp; omega
      have hl4 := Hid.mk hl4
      by_cases h3 : v0 = 69
      · subst h3
        by_cases h4 : v1 = 0
        · subst h4
          cases h5 : mrkB zs
          · have e5 := e5.out.trans h5
            go_enter Try.func47, Try.ntmps47
            go_wp2_with (go_at_call 33; refine (equal_ok (some ⟨b1, o1 + 4, none⟩) _ 4 4 _ _ ((zs.drop 4).take 4) [0, 0, 64, 0] _ ((R.out.sub 4 4).kept (belowA _ _)) (Rd.lit w 5 [0, 0, 64, 0]) (by intro x hx; simp at hx; subst hx; rfl) (by intro x hx; simp at hx; subst hx; rfl) hl4.out rfl).mono ?_; rintro e w1 ⟨rfl, rfl⟩)
            go_ret
            exact ⟨by simp, belowA _ _⟩
          · have e5 := e5.out.trans h5
            have e6 := e6.out
            go_enter Try.func47, Try.ntmps47
            go_wp2_with (first | (go_at_call 33; refine (equal_ok (some ⟨b1, o1 + 4, none⟩) _ 4 4 _ _ ((zs.drop 4).take 4) [0, 0, 64, 0] _ ((R.out.sub 4 4).kept (belowA _ _)) (Rd.lit w 5 [0, 0, 64, 0]) (by intro x hx; simp at hx; subst hx; rfl) (by intro x hx; simp at hx; subst hx; rfl) hl4.out rfl).mono ?_; rintro e w1 ⟨rfl, rfl⟩) | (go_at_call 48; refine (readNumber_ok (some ⟨b1, o1, none⟩) n ca 2 2 zs _ (R.out.kept (belowA _ _)) hb hn hx hca (by decide) (by decide) (by omega)).mono ?_; rintro e w2 ⟨rfl, b2⟩))
            go_ret
            exact ⟨by simp, thenB (belowA _ _) b2⟩
        · have f4 : (v1 == 0) = false := by simp [h4]
          go_enter Try.func47, Try.ntmps47
          go_wp2
          go_ret
          exact ⟨by simp [h4], Below.refl _ _⟩
      · have f3 : (v0 == 69) = false := by simp [h3]
        go_enter Try.func47, Try.ntmps47
        go_wp2
        go_ret
        exact ⟨by simp [h3], Below.refl _ _⟩
    · have g2 : (224 : Int) < (n : Int) := by unfold topB at h2; simp at h2; omega
      simp only [Bool.not_eq_true] at h2
      rw [h1, h2]
      clear h1 h2
      go_enter Try.func47, Try.ntmps47
      go_wp2
      go_ret
      exact ⟨by simp, Below.refl _ _⟩
  · have g1 : (n : Int) < 20 := by unfold lowB at h1; simp at h1; omega
    simp only [Bool.not_eq_true] at h1
    rw [h1]
    clear h1
    go_enter Try.func47, Try.ntmps47
    go_wp2
    go_ret
    exact ⟨by simp, Below.refl _ _⟩

end Go.Proofs.Ythjaehcfakjemaa
