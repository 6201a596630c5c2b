/- A packet held by one of a list: both sides. -/
import Derived.Test.YtmbkbbephmblmaaSelN
import Derived.Test.YtmbkbbephmblmaaSelY
import Derived.Test.YtmbkbbephmblmaaSelZ
namespace Go.Proofs.Ytmbkbbephmblmaa
open Go.RowKit

/-- One of a list holds the packet. -/
@[irreducible] def anyP (xs : List S9) (f t r u v : Int) : Bool := xs.any fun x => inP x f t r u v

/-- A list without a fault holds a packet without one. -/
@[irreducible] def haP (xs : List S9) (f t r l u v : Int) (m : Nat) : Bool := (ssC xs == 0) && ((pfC f t r l u v m == 0) && anyP xs f t r u v)

theorem any_drop (g : S9 → Bool) (xs : List S9) (k : Nat) (h : k < xs.length) : (xs.drop k).any g = (g (xs.getD k z9) || (xs.drop (k + 1)).any g) := by
  rw [List.drop_eq_getElem_cons h, show xs.getD k z9 = xs[k] by simp [List.getD, h]]
  rfl

theorem haP_any {xs : List S9} {f t r l u v : Int} {m : Nat} (h : ssC xs = 0) : (xs.any fun x => hoP x f t r l u v m) = haP xs f t r l u v m := by
  unfold haP anyP
  rw [h]
  have h2 := (ssC_zero h).2
  clear h
  induction xs with
  | nil => simp
  | cons y xs ih =>
    have hy := h2 y (by simp)
    have e : hoP y f t r l u v m = ((pfC f t r l u v m == 0) && inP y f t r u v) := by unfold hoP; rw [hy]; rfl
    rw [List.any_cons, List.any_cons, ih fun x hx => h2 x (by simp [hx]), e]
    cases (pfC f t r l u v m == 0) <;> simp

theorem haP_no {xs : List S9} {f t r l u v : Int} {m : Nat} (h : ssC xs ≠ 0) : haP xs f t r l u v m = false := by
  unfold haP
  have : (ssC xs == 0) = false := by simp [h]
  rw [this]; rfl

set_option maxHeartbeats 2000000 in
theorem implHoldsAny_ok (a : Option Addr) (n ca : Nat) (xs : List S9) (f t r l u v : Int) (s : Option Addr) (m cs : Nat) (w : World) (ha : RdL w a xs) (hn : xs.length = n) (hx : n ≤ maxLen) :
    Calls Try.prog 27 #[.slice a n ca, .agg #[.int .i64 f, .int .i64 t, .int .i64 r, .int .i64 l, .int .i64 u, .int .i64 v, .slice s m cs]] w fun e w' => e = .returned (.bool (haP xs f t r l u v m)) ∧ Below w.heap.size w w' := by
  have CS := Hid.mk (fun w h => implSelsFault_ok a n ca xs w h hn hx)
  unfold maxLen at hx
  by_cases h1 : ssC xs = 0
  · rw [← haP_any h1]
    rw [h1] at CS
    clear h1
    have VP := V.new w [.int .i64 f, .int .i64 t, .int .i64 r, .int .i64 l, .int .i64 u, .int .i64 v, .slice s m cs] 35
    have B := belowA w (.cells #[.int .i64 f, .int .i64 t, .int .i64 r, .int .i64 l, .int .i64 u, .int .i64 v, .slice s m cs] 35)
    replace ha := ha.kept B
    go_enter Try.func27, Try.ntmps27
    go_wp2_with fail
    refine (CS.out _ ha).mono ?_
    rintro e w1 ⟨rfl, b1⟩
    replace VP := VP.kept b1
    replace ha := ha.kept b1
    replace B := thenB B b1
    clear b1
    go_wp2
    go_loopw [12] (fun i wr => ∃ k : Nat, k ≤ n ∧ i = .int .i64 k ∧ ((xs.drop k).any fun x => hoP x f t r l u v m) = (xs.any fun x => hoP x f t r l u v m) ∧ V wr w.heap.size [.int .i64 f, .int .i64 t, .int .i64 r, .int .i64 l, .int .i64 u, .int .i64 v, .slice s m cs] ∧ RdL wr a xs ∧ Below w.heap.size w wr) (fun i _ => n - (intOf i).toNat)
    case atStart => exact ⟨0, Nat.zero_le _, rfl, rfl, VP, ha, B⟩
    case round =>
      clear VP ha B
      obtain ⟨k, hk, rfl, hdr, VP, ha, B⟩ := hrel
      by_cases hlt : k < n
      · have HA := Hid.mk ha
        rcases ha with ha | ⟨b1, o1, rfl, hca⟩
        · simp [ha] at hn; omega
        obtain ⟨x, hx1⟩ : ∃ x, xs.getD k z9 = x := ⟨_, rfl⟩
        obtain ⟨p0, p1, p2, p3, p4, p5, p6, p7, p8⟩ := RdL.nine hca k (by omega) x hx1
        have hk1 : (k : Int) < (n : Int) := by omega
        have hs := any_drop (fun x => hoP x f t r l u v m) xs k (by omega)
        rw [hx1, hdr] at hs
        clear hca hx1 hdr
        have CX := Hid.mk (fun w => implHolds_ok x f t r l u v s m cs w)
        replace VP := VP.kept (belowA wr (.cells #[.int .i64 x.a, .int .i64 x.b, .int .i64 x.c, .int .i64 x.d, .int .i64 x.e, .int .i64 x.f, .int .i64 x.g, .int .i64 x.h, .int .i64 x.r] 27))
        replace B := B.alloc B.size (.cells #[.int .i64 x.a, .int .i64 x.b, .int .i64 x.c, .int .i64 x.d, .int .i64 x.e, .int .i64 x.f, .int .i64 x.g, .int .i64 x.h, .int .i64 x.r] 27)
        replace HA := Hid.mk (HA.out.kept (belowA wr (.cells #[.int .i64 x.a, .int .i64 x.b, .int .i64 x.c, .int .i64 x.d, .int .i64 x.e, .int .i64 x.f, .int .i64 x.g, .int .i64 x.h, .int .i64 x.r] 27)))
        obtain ⟨s_VP, f_VP, z_VP⟩ := VP.open
        have HS := Hid.mk hs
        clear hs
        cases hg : hoP x f t r l u v m
        all_goals
          rw [hg] at CX HS
          clear hg
          go_wp2_with fail
          refine (CX.out _).mono ?_
          rintro e w2 ⟨rfl, b2⟩
          replace VP := Hid.mk (VP.kept b2)
          replace B := Hid.mk (B.trans (b2.mono B.size))
          replace HA := Hid.mk (HA.out.kept b2)
          clear b2 s_VP f_VP z_VP p0 p1 p2 p3 p4 p5 p6 p7 p8
        · rw [Bool.false_or] at HS
          go_wp2
          go_roundw
          case rel => exact ⟨k + 1, by omega, by go_num, HS.out.symm, VP.out, HA.out, B.out⟩
          case measure => simp [intOf]; omega
        · go_wp2
          go_ret
          exact ⟨ret_bool HS.out.symm, B.out⟩
      · have hkn : k = n := by omega
        subst hkn
        rw [List.drop_of_length_le (by omega)] at hdr
        have HS := Hid.mk hdr
        clear hdr
        go_wp2
        go_ret
        exact ⟨ret_bool HS.out, B⟩
  · rw [haP_no h1]
    have h2 : (ssC xs != 0) = true := by simp [h1]
    clear h1
    replace ha := ha.kept (belowA w (.cells #[.int .i64 f, .int .i64 t, .int .i64 r, .int .i64 l, .int .i64 u, .int .i64 v, .slice s m cs] 35))
    go_enter Try.func27, Try.ntmps27
    go_wp2_with fail
    refine (CS.out _ ha).mono ?_
    rintro e w1 ⟨rfl, b1⟩
    go_wp2
    go_ret
    exact ⟨rfl, thenB (belowA w _) b1⟩

end Go.Proofs.Ytmbkbbephmblmaa
