/- Put together: IntA, PolF, PolB, PolC, PolH. -/
import Derived.Test.YtngkahchhioncaaDoorNewC
import Derived.Test.YtngkahchhioncaaDoorHeld
import Derived.Deep.AppendLies
import Derived.Test.YtngkahchhioncaaDoorPolA
import Derived.Test.YtngkahchhioncaaDoorSelG
import Derived.Test.YtngkahchhioncaaDoorSelZ
import Derived.Test.YtngkahchhioncaaDoorFill
import Derived.Test.YtngkahchhioncaaDoorSelX
import Derived.Test.YtngkahchhioncaaDoorPolG

/- Rows of whole numbers: one is put behind the others. -/
namespace Go.Proofs.YtngkahchhioncaaDoor
open Go.RowKit

theorem Tryd.infoI64 : (Tryd.prog.info? 2).map (fun i => (i.zero, i.size, i.bytes)) = some (some (.int .i64 0), 1, 8) := by kernel_rfl

theorem OwnI.lit (w : World) (zs : List Int) (vs : List Value) (hv : vs = zs.map (Value.int .i64)) (hm : zs.length ≤ maxLen) : Own .i64 2 (w.alloc (.cells vs.toArray 2)) w.heap.size (some ⟨w.heap.size, 0, none⟩) zs.length zs := by
  subst hv
  have h := World.ownsRow_lit (base := w.heap.size) (e := 2) (size := 1) w (zs.map (Value.int .i64)).toArray zs.length (Nat.le_refl _) hm (by simp)
  simpa [Own] using h

theorem wpList_putI {ops : Array Oper} {rest : List Oper} {o : Oper} {a : Act} {Q : Exit → Act → World → Prop} (w : World) (hgd : o.guard = none) (s x : Operand)
    (ho : o.op = .call { callee := .builtin .append, args := #[s, x], argTypes := #[48, 48] })
    (base : Nat) (c : Option Addr) (d : Nat) (xs : List Int) (n : Nat) (hn : xs.length = n) (hs : a.eval s = .slice c n d) (hown : Own .i64 2 w base c d xs)
    (ad : Addr) (cc : Nat) (p : Int) (hx : a.eval x = .slice (some ad) 1 cc) (hp : w.cell? (ad.add 0) = some (.int .i64 p))
    (hlen : n ≤ 1000000) (hbase : base ≤ w.heap.size)
    (h : ∀ c' d' w', Own .i64 2 w' base c' d' (xs ++ [p]) → w.grownBy w' (c.map Addr.block) → Hid (∃ g, c' = some ⟨g, 0, none⟩ ∧ ((∃ a, c = some a ∧ a.block = g) ∨ g = w.heap.size) ∧ g < w'.heap.size) → wpList Tryd.prog ops Q rest (a.put o.dst (.slice c' (n + 1) d')) w') : wpList Tryd.prog ops Q (o :: rest) a w := by
  subst hn
  obtain ⟨i, hi, hz, hsz, hby⟩ : ∃ i, Tryd.prog.info? 2 = some i ∧ i.zero = some (.int .i64 0) ∧ i.size = 1 ∧ i.bytes = 8 := by
    have h := Tryd.infoI64
    cases he : Tryd.prog.info? 2 with
    | none => rw [he] at h; cases h
    | some i =>
      rw [he] at h
      simp only [Option.map_some, Option.some.injEq, Prod.mk.injEq] at h
      exact ⟨i, rfl, h.1, h.2.1, h.2.2⟩
  refine wpList_append_lies w hgd s x 48 ho base 2 i _ 1 8 Tryd.underlying48 hi hz hsz hby (by rfl) (by decide) (.slice c xs.length d) xs.length (xs.map (Value.int .i64)) hs hown ad 1 cc [.int .i64 p] hx rfl (fun j u hj => ?_) ?_ (by decide) (by unfold maxLen; omega) (by omega) hbase _ rfl ?_
  · match j, hj with
    | 0, hj => simp only [List.getElem?_cons_zero, Option.some.injEq] at hj; rw [← hj]; exact hp
  · intro u hu
    simp only [List.mem_cons, List.not_mem_nil, or_false] at hu
    subst hu; rfl
  · intro g cap w' h1 h2 h3 h4
    have e1 : (xs ++ [p]).length = xs.length + 1 := by simp
    have h2' : w.grownBy w' (c.map Addr.block) := by cases c <;> exact h2
    refine h _ _ w' ?_ h2' (Hid.mk ⟨g, rfl, ?_, h4⟩)
    · unfold Own; rw [e1, List.map_append]; exact h1
    · rcases h3 with h3 | h3
      · left; cases c with
        | none => cases h3
        | some b => exact ⟨b, rfl, by simpa [Value.ownBlock] using h3⟩
      · exact .inr h3

end Go.Proofs.YtngkahchhioncaaDoor

/- The fault of a policy: the model. -/
namespace Go.Proofs.YtngkahchhioncaaDoor
open Go.RowKit

set_option maxRecDepth 20000 in
set_option maxHeartbeats 4000000 in
theorem specPolicyFault_ok (a : Option Addr) (n ca : Nat) (xs : List R11) (w : World) (ha : RdRule w a xs) (hn : xs.length = n) (hx : n ≤ maxLen) :
    Calls Tryd.prog 28 #[.slice a n ca] w fun e w' => e = .returned (.int .i64 (pyC xs)) ∧ Below w.heap.size w w' := by
  unfold maxLen at hx
  by_cases h2 : 20 < n
  · have hr : pyC xs = 2 := by unfold pyC; rw [if_neg (by omega)]
    have d2 : decide ((20 : Int) < n) = true := by simp; omega
    rw [hr]
    clear hr h2
    go_enter Tryd.func28, Tryd.ntmps28
    go_wp2
    go_ret
    exact ⟨rfl, Below.refl _ _⟩
  have hr : pyC xs = pyF xs := by unfold pyC; rw [if_pos (by omega)]
  have d2 : decide ((20 : Int) < n) = false := by simp; omega
  rw [hr]
  clear hr h2
  go_enter Tryd.func28, Tryd.ntmps28
  go_wp2
  clear d2
  go_loopw [3] (fun i wr => ∃ k : Nat, k ≤ n ∧ i = .int .i64 k ∧ pyF (xs.drop k) = pyF xs ∧ Below w.heap.size w wr) (fun i _ => n - (intOf i).toNat)
  case atStart => exact ⟨0, Nat.zero_le _, rfl, rfl, Below.refl _ _⟩
  case round =>
    obtain ⟨k, hk, rfl, hdr, hbel⟩ := hrel
    by_cases hlt : k < n
    · obtain ⟨x, hx1⟩ : ∃ x, xs.getD k zRule = x := ⟨_, rfl⟩
      have hk1 : (k : Int) < (n : Int) := by omega
      have hs := pyF_drop xs k (by omega)
      rw [hx1, hdr] at hs
      have CX := Hid.mk (fun w => specSelFault_ok x.s w)
      replace ha := ha.kept hbel
      rcases ha with ha | ⟨b1, o1, rfl, hca⟩
      · simp [ha] at hn; omega
      have HQ := RdRule.cells hca k (by omega) x hx1
      clear hca hx1 hdr
      obtain ⟨p0, p1, p2, p3, p4, p5, p6, p7, p8, p9, p10⟩ := HQ
      have B := hbel
      rcases ru_ways x with ⟨h1, hr, h2⟩ | ⟨h1, h2, hr⟩ | ⟨h1, h2, h3, h4, hr⟩ | ⟨h1, h2, h3, h4, hr⟩ | ⟨h1, h2, h3, h4, hr⟩ | ⟨h1, h2, h3, h4, hr⟩
      · skip
        rw [if_neg (by rw [hr]; omega)] at hs
        rw [hr] at hs
        have HS := Hid.mk hs
        clear hs hr hbel
        replace B := thenB B (belowA wr (.cells #[.int .i64 x.s.a, .int .i64 x.s.b, .int .i64 x.s.c, .int .i64 x.s.d, .int .i64 x.s.e, .int .i64 x.s.f, .int .i64 x.s.g, .int .i64 x.s.h, .int .i64 x.s.r, .int .i64 x.p, .int .i64 x.q] 34))
        have VR := V.new wr [.int .i64 x.s.a, .int .i64 x.s.b, .int .i64 x.s.c, .int .i64 x.s.d, .int .i64 x.s.e, .int .i64 x.s.f, .int .i64 x.s.g, .int .i64 x.s.h, .int .i64 x.s.r, .int .i64 x.p, .int .i64 x.q] 34
        obtain ⟨s_VR, f_VR, z_VR⟩ := VR.open
        have Bo := B
        go_wp2_with fail
        refine (CX.out _).mono ?_
        rintro e w1 ⟨rfl, b1⟩
        clear s_VR f_VR z_VR
        have S1 := b1.size
        simp only [World.size_alloc] at S1
        replace VR := VR.kept b1
        replace B := thenB B b1
        clear b1
        obtain ⟨s_VR, f_VR, z_VR⟩ := VR.open
        have Bo := B
        have BX := Hid.mk Bo
        clear p0 p1 p2 p3 p4 p5 p6 p7 p8 p9 p10 Bo
        go_wp2
        go_ret
        exact ⟨ret_int HS.out.symm, BX.out⟩
      · skip
        rw [if_neg (by rw [hr]; omega)] at hs
        rw [hr] at hs
        have HS := Hid.mk hs
        clear hs hr hbel
        rw [h1] at CX
        replace B := thenB B (belowA wr (.cells #[.int .i64 x.s.a, .int .i64 x.s.b, .int .i64 x.s.c, .int .i64 x.s.d, .int .i64 x.s.e, .int .i64 x.s.f, .int .i64 x.s.g, .int .i64 x.s.h, .int .i64 x.s.r, .int .i64 x.p, .int .i64 x.q] 34))
        have VR := V.new wr [.int .i64 x.s.a, .int .i64 x.s.b, .int .i64 x.s.c, .int .i64 x.s.d, .int .i64 x.s.e, .int .i64 x.s.f, .int .i64 x.s.g, .int .i64 x.s.h, .int .i64 x.s.r, .int .i64 x.p, .int .i64 x.q] 34
        obtain ⟨s_VR, f_VR, z_VR⟩ := VR.open
        have Bo := B
        go_wp2_with fail
        refine (CX.out _).mono ?_
        rintro e w11 ⟨rfl, b11⟩
        clear s_VR f_VR z_VR
        have S11 := b11.size
        simp only [World.size_alloc] at S11
        replace VR := VR.kept b11
        replace B := thenB B b11
        clear b11
        obtain ⟨s_VR, f_VR, z_VR⟩ := VR.open
        have Bo := B
        have BX := Hid.mk Bo
        clear p0 p1 p2 p3 p4 p5 p6 p7 p8 p9 p10 Bo
        go_wp2_with (first | (go_at_call 73; refine (l1In_ok _ _ _ _).mono ?_; rintro e wq ⟨rfl, rfl⟩) | fail)
        go_ret
        exact ⟨ret_int HS.out.symm, BX.out⟩
      · skip
        rw [if_neg (by rw [hr]; omega)] at hs
        rw [hr] at hs
        have HS := Hid.mk hs
        clear hs hr hbel
        have h5 : (x.p != 3) = false := by simp at h3 ⊢; exact h3
        rw [h1] at CX
        replace B := thenB B (belowA wr (.cells #[.int .i64 x.s.a, .int .i64 x.s.b, .int .i64 x.s.c, .int .i64 x.s.d, .int .i64 x.s.e, .int .i64 x.s.f, .int .i64 x.s.g, .int .i64 x.s.h, .int .i64 x.s.r, .int .i64 x.p, .int .i64 x.q] 34))
        have VR := V.new wr [.int .i64 x.s.a, .int .i64 x.s.b, .int .i64 x.s.c, .int .i64 x.s.d, .int .i64 x.s.e, .int .i64 x.s.f, .int .i64 x.s.g, .int .i64 x.s.h, .int .i64 x.s.r, .int .i64 x.p, .int .i64 x.q] 34
        obtain ⟨s_VR, f_VR, z_VR⟩ := VR.open
        have Bo := B
        go_wp2_with fail
        refine (CX.out _).mono ?_
        rintro e w21 ⟨rfl, b21⟩
        clear s_VR f_VR z_VR
        have S21 := b21.size
        simp only [World.size_alloc] at S21
        replace VR := VR.kept b21
        replace B := thenB B b21
        clear b21
        obtain ⟨s_VR, f_VR, z_VR⟩ := VR.open
        have Bo := B
        have BX := Hid.mk Bo
        clear p0 p1 p2 p3 p4 p5 p6 p7 p8 p9 p10 Bo
        go_wp2_with (first | (go_at_call 73; refine (l1In_ok _ _ _ _).mono ?_; rintro e wq ⟨rfl, rfl⟩) | fail)
        go_ret
        exact ⟨ret_int HS.out.symm, BX.out⟩
      · skip
        rw [if_pos hr] at hs
        have HS := Hid.mk hs
        clear hs hr hbel
        have h5 : (x.p != 3) = false := by simp at h3 ⊢; exact h3
        rw [h1] at CX
        replace B := thenB B (belowA wr (.cells #[.int .i64 x.s.a, .int .i64 x.s.b, .int .i64 x.s.c, .int .i64 x.s.d, .int .i64 x.s.e, .int .i64 x.s.f, .int .i64 x.s.g, .int .i64 x.s.h, .int .i64 x.s.r, .int .i64 x.p, .int .i64 x.q] 34))
        have VR := V.new wr [.int .i64 x.s.a, .int .i64 x.s.b, .int .i64 x.s.c, .int .i64 x.s.d, .int .i64 x.s.e, .int .i64 x.s.f, .int .i64 x.s.g, .int .i64 x.s.h, .int .i64 x.s.r, .int .i64 x.p, .int .i64 x.q] 34
        obtain ⟨s_VR, f_VR, z_VR⟩ := VR.open
        have Bo := B
        go_wp2_with fail
        refine (CX.out _).mono ?_
        rintro e w31 ⟨rfl, b31⟩
        clear s_VR f_VR z_VR
        have S31 := b31.size
        simp only [World.size_alloc] at S31
        replace VR := VR.kept b31
        replace B := thenB B b31
        clear b31
        obtain ⟨s_VR, f_VR, z_VR⟩ := VR.open
        have Bo := B
        have BX := Hid.mk Bo
        clear p0 p1 p2 p3 p4 p5 p6 p7 p8 p9 p10 Bo
        go_wp2_with (first | (go_at_call 73; refine (l1In_ok _ _ _ _).mono ?_; rintro e wq ⟨rfl, rfl⟩) | fail)
        go_roundw
        case rel => exact ⟨k + 1, by omega, by go_num, HS.out.symm, BX.out⟩
        case measure => simp [intOf]; omega
      · skip
        rw [if_neg (by rw [hr]; omega)] at hs
        rw [hr] at hs
        have HS := Hid.mk hs
        clear hs hr hbel
        have h5 : (x.p != 3) = true := by simp at h3 ⊢; exact h3
        rw [h1] at CX
        replace B := thenB B (belowA wr (.cells #[.int .i64 x.s.a, .int .i64 x.s.b, .int .i64 x.s.c, .int .i64 x.s.d, .int .i64 x.s.e, .int .i64 x.s.f, .int .i64 x.s.g, .int .i64 x.s.h, .int .i64 x.s.r, .int .i64 x.p, .int .i64 x.q] 34))
        have VR := V.new wr [.int .i64 x.s.a, .int .i64 x.s.b, .int .i64 x.s.c, .int .i64 x.s.d, .int .i64 x.s.e, .int .i64 x.s.f, .int .i64 x.s.g, .int .i64 x.s.h, .int .i64 x.s.r, .int .i64 x.p, .int .i64 x.q] 34
        obtain ⟨s_VR, f_VR, z_VR⟩ := VR.open
        have Bo := B
        go_wp2_with fail
        refine (CX.out _).mono ?_
        rintro e w41 ⟨rfl, b41⟩
        clear s_VR f_VR z_VR
        have S41 := b41.size
        simp only [World.size_alloc] at S41
        replace VR := VR.kept b41
        replace B := thenB B b41
        clear b41
        obtain ⟨s_VR, f_VR, z_VR⟩ := VR.open
        have Bo := B
        have BX := Hid.mk Bo
        clear p0 p1 p2 p3 p4 p5 p6 p7 p8 p9 p10 Bo
        go_wp2_with (first | (go_at_call 73; refine (l1In_ok _ _ _ _).mono ?_; rintro e wq ⟨rfl, rfl⟩) | fail)
        go_ret
        exact ⟨ret_int HS.out.symm, BX.out⟩
      · skip
        rw [if_pos hr] at hs
        have HS := Hid.mk hs
        clear hs hr hbel
        have h5 : (x.p != 3) = true := by simp at h3 ⊢; exact h3
        rw [h1] at CX
        replace B := thenB B (belowA wr (.cells #[.int .i64 x.s.a, .int .i64 x.s.b, .int .i64 x.s.c, .int .i64 x.s.d, .int .i64 x.s.e, .int .i64 x.s.f, .int .i64 x.s.g, .int .i64 x.s.h, .int .i64 x.s.r, .int .i64 x.p, .int .i64 x.q] 34))
        have VR := V.new wr [.int .i64 x.s.a, .int .i64 x.s.b, .int .i64 x.s.c, .int .i64 x.s.d, .int .i64 x.s.e, .int .i64 x.s.f, .int .i64 x.s.g, .int .i64 x.s.h, .int .i64 x.s.r, .int .i64 x.p, .int .i64 x.q] 34
        obtain ⟨s_VR, f_VR, z_VR⟩ := VR.open
        have Bo := B
        go_wp2_with fail
        refine (CX.out _).mono ?_
        rintro e w51 ⟨rfl, b51⟩
        clear s_VR f_VR z_VR
        have S51 := b51.size
        simp only [World.size_alloc] at S51
        replace VR := VR.kept b51
        replace B := thenB B b51
        clear b51
        obtain ⟨s_VR, f_VR, z_VR⟩ := VR.open
        have Bo := B
        have BX := Hid.mk Bo
        clear p0 p1 p2 p3 p4 p5 p6 p7 p8 p9 p10 Bo
        go_wp2_with (first | (go_at_call 73; refine (l1In_ok _ _ _ _).mono ?_; rintro e wq ⟨rfl, rfl⟩) | fail)
        go_roundw
        case rel => exact ⟨k + 1, by omega, by go_num, HS.out.symm, BX.out⟩
        case measure => simp [intOf]; omega
    · have hkn : k = n := by omega
      subst hkn
      rw [List.drop_of_length_le (by omega)] at hdr
      have HS := Hid.mk hdr
      clear hdr
      go_wp2
      go_ret
      exact ⟨ret_int HS.out, hbel⟩

end Go.Proofs.YtngkahchhioncaaDoor

/- The first rule: the model. -/
namespace Go.Proofs.YtngkahchhioncaaDoor
open Go.RowKit

/-- The fault of a policy and a packet. -/
@[irreducible] def asC (xs : List R11) (f t r l u v : Int) (m : Nat) : Int := if pyC xs = 0 then pfC f t r l u v m else pyC xs

theorem as_ways (xs : List R11) (f t r l u v : Int) (m : Nat) : ((pyC xs != 0) = true ∧ asC xs f t r l u v m = pyC xs ∧ pyC xs ≠ 0) ∨ (pyC xs = 0 ∧ asC xs f t r l u v m = pfC f t r l u v m) := by
  unfold asC
  by_cases h : pyC xs = 0
  · exact .inr ⟨h, by rw [if_pos h]⟩
  · exact .inl ⟨by simp [h], by rw [if_neg h], h⟩

/-- What 'FirstRule' answers. -/
@[irreducible] def frC (xs : List R11) (f t r l u v : Int) (m : Nat) : Int := if asC xs f t r l u v m = 0 then (if fstK xs f t r u v < xs.length then 0 else 4) else asC xs f t r l u v m
@[irreducible] def frA (xs : List R11) (f t r l u v : Int) (m : Nat) : Int := if asC xs f t r l u v m = 0 ∧ fstK xs f t r u v < xs.length then fstK xs f t r u v else 0
@[irreducible] def frR (xs : List R11) (f t r l u v : Int) (m : Nat) : R11 := if asC xs f t r l u v m = 0 ∧ fstK xs f t r u v < xs.length then xs.getD (fstK xs f t r u v) zRule else zRule
/-- What 'ActionFor' answers beside its code. -/
@[irreducible] def afV (xs : List R11) (f t r l u v : Int) (m : Nat) : Int := if asC xs f t r l u v m = 0 then (if fstK xs f t r u v < xs.length then (xs.getD (fstK xs f t r u v) zRule).p else 1) else 0

theorem fr_ways (xs : List R11) (f t r l u v : Int) (m : Nat) :
    ((asC xs f t r l u v m != 0) = true ∧ asC xs f t r l u v m ≠ 0 ∧ frC xs f t r l u v m = asC xs f t r l u v m ∧ frA xs f t r l u v m = 0 ∧ frR xs f t r l u v m = zRule ∧ afV xs f t r l u v m = 0) ∨
    (asC xs f t r l u v m = 0 ∧ ¬ fstK xs f t r u v < xs.length ∧ frC xs f t r l u v m = 4 ∧ frA xs f t r l u v m = 0 ∧ frR xs f t r l u v m = zRule ∧ afV xs f t r l u v m = 1) ∨
    (asC xs f t r l u v m = 0 ∧ fstK xs f t r u v < xs.length ∧ frC xs f t r l u v m = 0 ∧ frA xs f t r l u v m = fstK xs f t r u v ∧ frR xs f t r l u v m = xs.getD (fstK xs f t r u v) zRule ∧ afV xs f t r l u v m = (xs.getD (fstK xs f t r u v) zRule).p) := by
  unfold frC frA frR afV
  by_cases h : asC xs f t r l u v m = 0
  · by_cases h2 : fstK xs f t r u v < xs.length
    · exact .inr (.inr ⟨h, h2, by rw [if_pos h, if_pos h2], by rw [if_pos ⟨h, h2⟩], by rw [if_pos ⟨h, h2⟩], by rw [if_pos h, if_pos h2]⟩)
    · exact .inr (.inl ⟨h, h2, by rw [if_pos h, if_neg h2], by rw [if_neg (fun q => h2 q.2)], by rw [if_neg (fun q => h2 q.2)], by rw [if_pos h, if_neg h2]⟩)
  · exact .inl ⟨by simp [h], h, by rw [if_neg h], by rw [if_neg (fun q => h q.1)], by rw [if_neg (fun q => h q.1)], by rw [if_neg h]⟩

set_option maxHeartbeats 2000000 in
theorem l4Asked_ok (a : Option Addr) (n ca : Nat) (xs : List R11) (f t r l u v : Int) (s : Option Addr) (m cs : Nat) (w : World) (ha : RdRule w a xs) (hn : xs.length = n) (hx : n ≤ maxLen) :
    Calls Tryd.prog 55 #[.slice a n ca, .agg #[.int .i64 f, .int .i64 t, .int .i64 r, .int .i64 l, .int .i64 u, .int .i64 v, .slice s m cs]] w fun e w' => e = .returned (.int .i64 (asC xs f t r l u v m)) ∧ Below w.heap.size w w' := by
  have CP := Hid.mk (fun w h => specPolicyFault_ok a n ca xs w h hn hx)
  have CQ := Hid.mk (fun w => specPacketFault_ok f t r l u v s m cs w)
  have VP := V.new w [.int .i64 f, .int .i64 t, .int .i64 r, .int .i64 l, .int .i64 u, .int .i64 v, .slice s m cs] 26
  have B := belowA w (.cells #[.int .i64 f, .int .i64 t, .int .i64 r, .int .i64 l, .int .i64 u, .int .i64 v, .slice s m cs] 26)
  replace ha := ha.kept B
  rcases as_ways xs f t r l u v m with ⟨h1, hr, _⟩ | ⟨h1, hr⟩
  · rw [hr]
    clear hr
    obtain ⟨s_VP, f_VP, z_VP⟩ := VP.open
    go_enter Tryd.func55, Tryd.ntmps55
    go_wp2_with fail
    refine (CP.out _ ha).mono ?_
    rintro e w1 ⟨rfl, b1⟩
    replace B := thenB B b1
    go_wp2
    go_ret
    exact ⟨rfl, B⟩
  · rw [hr]
    clear hr
    rw [h1] at CP
    obtain ⟨s_VP, f_VP, z_VP⟩ := VP.open
    go_enter Tryd.func55, Tryd.ntmps55
    go_wp2_with fail
    refine (CP.out _ ha).mono ?_
    rintro e w1 ⟨rfl, b1⟩
    clear s_VP f_VP z_VP
    replace B := thenB B b1
    replace VP := VP.kept b1
    clear b1
    obtain ⟨s_VP, f_VP, z_VP⟩ := VP.open
    go_wp2_with fail
    refine (CQ.out _).mono ?_
    rintro e w2 ⟨rfl, b2⟩
    replace B := thenB B b2
    go_wp2
    go_ret
    exact ⟨rfl, B⟩

set_option maxRecDepth 20000 in
set_option maxHeartbeats 4000000 in
theorem l4First_ok (a : Option Addr) (n ca : Nat) (xs : List R11) (f t r l u v : Int) (s : Option Addr) (m cs : Nat) (w : World) (ha : RdRule w a xs) (hn : xs.length = n) (hx : n ≤ maxLen) :
    Calls Tryd.prog 56 #[.slice a n ca, .agg #[.int .i64 f, .int .i64 t, .int .i64 r, .int .i64 l, .int .i64 u, .int .i64 v, .slice s m cs]] w fun e w' => e = .returned (.int .i64 (if fstK xs f t r u v < xs.length then (fstK xs f t r u v : Int) else -1)) ∧ Below w.heap.size w w' := by
  unfold maxLen at hx
  obtain ⟨iV, hV⟩ : ∃ iV : Int, (if fstK xs f t r u v < xs.length then (fstK xs f t r u v : Int) else -1) = iV := ⟨_, rfl⟩
  rw [hV]
  replace hV := Hid.mk hV
  go_enter Tryd.func56, Tryd.ntmps56
  have VP := Hid.mk (V.new w [.int .i64 f, .int .i64 t, .int .i64 r, .int .i64 l, .int .i64 u, .int .i64 v, .slice s m cs] 26)
  have B := Hid.mk (belowA w (.cells #[.int .i64 f, .int .i64 t, .int .i64 r, .int .i64 l, .int .i64 u, .int .i64 v, .slice s m cs] 26))
  go_wp2
  go_loopw [5] (fun i wr => ∃ k : Nat, k ≤ n ∧ k ≤ fstK xs f t r u v ∧ i = .int .i64 k ∧ V wr w.heap.size [.int .i64 f, .int .i64 t, .int .i64 r, .int .i64 l, .int .i64 u, .int .i64 v, .slice s m cs] ∧ Below w.heap.size w wr) (fun i _ => n - (intOf i).toNat)
  case atStart => exact ⟨0, Nat.zero_le _, Nat.zero_le _, rfl, VP.out, B.out⟩
  case round =>
    clear VP B
    obtain ⟨k, hk, hkf, rfl, VP, B⟩ := hrel
    by_cases hlt : k < n
    · obtain ⟨x, hx1⟩ : ∃ x, xs.getD k zRule = x := ⟨_, rfl⟩
      have hk1 : (k : Int) < (n : Int) := by omega
      have hst := fst_step hkf (by omega) hx1
      have CH := Hid.mk (fun w => l3Holds_ok x.s f t r l u v s m cs w)
      replace ha := ha.kept B
      rcases ha with ha | ⟨b1, o1, rfl, hca⟩
      · simp [ha] at hn; omega
      have HQ := RdRule.cells hca k (by omega) x hx1
      clear hca hx1
      obtain ⟨p0, p1, p2, p3, p4, p5, p6, p7, p8, p9, p10⟩ := HQ
      clear p9 p10
      have hb1 := World.block_lt_of_cell? (a := ⟨b1, o1 + k * 11, none⟩) _ p0
      simp only at hb1
      generalize inP x.s f t r u v = c at *
      replace hst := Hid.mk hst
      obtain ⟨s_VP, f_VP, z_VP⟩ := VP.open
      have Bo := B
      clear s_VP f_VP z_VP
      have K : ∀ w' : World, Below wr.heap.size wr w' → (w'.cell? ⟨w.heap.size, 0, none⟩ = some (.int .i64 f) ∧ w'.cell? ⟨w.heap.size, 1, none⟩ = some (.int .i64 t) ∧ w'.cell? ⟨w.heap.size, 2, none⟩ = some (.int .i64 r) ∧ w'.cell? ⟨w.heap.size, 3, none⟩ = some (.int .i64 l) ∧ w'.cell? ⟨w.heap.size, 4, none⟩ = some (.int .i64 u) ∧ w'.cell? ⟨w.heap.size, 5, none⟩ = some (.int .i64 v) ∧ w'.cell? ⟨w.heap.size, 6, none⟩ = some (.slice s m cs) ∧ w'.cell? ⟨b1, o1 + k * 11, none⟩ = some (.int .i64 x.s.a) ∧ w'.cell? ⟨b1, o1 + k * 11 + 1, none⟩ = some (.int .i64 x.s.b) ∧ w'.cell? ⟨b1, o1 + k * 11 + 2, none⟩ = some (.int .i64 x.s.c) ∧ w'.cell? ⟨b1, o1 + k * 11 + 3, none⟩ = some (.int .i64 x.s.d) ∧ w'.cell? ⟨b1, o1 + k * 11 + 4, none⟩ = some (.int .i64 x.s.e) ∧ w'.cell? ⟨b1, o1 + k * 11 + 5, none⟩ = some (.int .i64 x.s.f) ∧ w'.cell? ⟨b1, o1 + k * 11 + 6, none⟩ = some (.int .i64 x.s.g) ∧ w'.cell? ⟨b1, o1 + k * 11 + 7, none⟩ = some (.int .i64 x.s.h) ∧ w'.cell? ⟨b1, o1 + k * 11 + 8, none⟩ = some (.int .i64 x.s.r)) := fun w' h => ⟨(VP.kept h).2.1 0 (by simp), (VP.kept h).2.1 1 (by simp), (VP.kept h).2.1 2 (by simp), (VP.kept h).2.1 3 (by simp), (VP.kept h).2.1 4 (by simp), (VP.kept h).2.1 5 (by simp), (VP.kept h).2.1 6 (by simp), ((bcell h).1 _ _ hb1).trans p0, ((bcell h).1 _ _ hb1).trans p1, ((bcell h).1 _ _ hb1).trans p2, ((bcell h).1 _ _ hb1).trans p3, ((bcell h).1 _ _ hb1).trans p4, ((bcell h).1 _ _ hb1).trans p5, ((bcell h).1 _ _ hb1).trans p6, ((bcell h).1 _ _ hb1).trans p7, ((bcell h).1 _ _ hb1).trans p8⟩
      have K := Hid.mk K
      clear p0 p1 p2 p3 p4 p5 p6 p7 p8
      go_wp2_with fail
      refine wp_region_held_drew (S := (fun w' => w'.cell? ⟨w.heap.size, 0, none⟩ = some (.int .i64 f) ∧ w'.cell? ⟨w.heap.size, 1, none⟩ = some (.int .i64 t) ∧ w'.cell? ⟨w.heap.size, 2, none⟩ = some (.int .i64 r) ∧ w'.cell? ⟨w.heap.size, 3, none⟩ = some (.int .i64 l) ∧ w'.cell? ⟨w.heap.size, 4, none⟩ = some (.int .i64 u) ∧ w'.cell? ⟨w.heap.size, 5, none⟩ = some (.int .i64 v) ∧ w'.cell? ⟨w.heap.size, 6, none⟩ = some (.slice s m cs) ∧ w'.cell? ⟨b1, o1 + k * 11, none⟩ = some (.int .i64 x.s.a) ∧ w'.cell? ⟨b1, o1 + k * 11 + 1, none⟩ = some (.int .i64 x.s.b) ∧ w'.cell? ⟨b1, o1 + k * 11 + 2, none⟩ = some (.int .i64 x.s.c) ∧ w'.cell? ⟨b1, o1 + k * 11 + 3, none⟩ = some (.int .i64 x.s.d) ∧ w'.cell? ⟨b1, o1 + k * 11 + 4, none⟩ = some (.int .i64 x.s.e) ∧ w'.cell? ⟨b1, o1 + k * 11 + 5, none⟩ = some (.int .i64 x.s.f) ∧ w'.cell? ⟨b1, o1 + k * 11 + 6, none⟩ = some (.int .i64 x.s.g) ∧ w'.cell? ⟨b1, o1 + k * 11 + 7, none⟩ = some (.int .i64 x.s.h) ∧ w'.cell? ⟨b1, o1 + k * 11 + 8, none⟩ = some (.int .i64 x.s.r))) (by kernel_rfl) (K.out _ (Below.refl _ _).drew) (fun hHeld => ?_)
      refine wpAnyH_take (i := 0) (oi := _) (v := ?vz1u1) rfl (by kernel_rfl) (by kernel_rfl) (by kernel_rfl) (fun _ _ _ h => h) (Or.inl ⟨by rfl, ?hyz1u1⟩) hHeld ?restz1u1
      case hyz1u1 => (intro w hSw; (try dsimp only at hSw); go_simp; first | done | with_reducible rfl)
      try simp only [Act.put, List.getElem_toArray, List.getElem_cons_zero, List.setIfInBounds_toArray, List.set_cons_zero, List.set_cons_succ]
      refine wpAnyH_take (i := 1) (oi := _) (v := ?vz1u2) rfl (by kernel_rfl) (by kernel_rfl) (by kernel_rfl) (fun _ _ _ h => h) (Or.inl ⟨by rfl, ?hyz1u2⟩) hHeld ?restz1u2
      case hyz1u2 => (intro w hSw; (try dsimp only at hSw); go_simp; first | done | with_reducible rfl)
      try simp only [Act.put, List.getElem_toArray, List.getElem_cons_zero, List.getElem_cons_succ, List.setIfInBounds_toArray, List.set_cons_zero, List.set_cons_succ]
      refine wpAnyH_take (i := 2) (oi := _) (v := ?vz1u3) rfl (by kernel_rfl) (by kernel_rfl) (by kernel_rfl) (fun _ _ _ h => h) (Or.inl ⟨by rfl, ?hyz1u3⟩) hHeld ?restz1u3
      case hyz1u3 => (intro w hSw; (try dsimp only at hSw); go_simp; first | done | with_reducible rfl)
      try simp only [Act.put, List.getElem_toArray, List.getElem_cons_zero, List.getElem_cons_succ, List.setIfInBounds_toArray, List.set_cons_zero, List.set_cons_succ]
      refine wpAnyH_take (i := 3) (oi := _) (v := ?vz1u4) rfl (by kernel_rfl) (by kernel_rfl) (by kernel_rfl) (fun _ _ _ h => h) (Or.inl ⟨by rfl, ?hyz1u4⟩) hHeld ?restz1u4
      case hyz1u4 => (intro w hSw; (try dsimp only at hSw); go_simp; first | done | with_reducible rfl)
      try simp only [Act.put, List.getElem_toArray, List.getElem_cons_zero, List.getElem_cons_succ, List.setIfInBounds_toArray, List.set_cons_zero, List.set_cons_succ]
      refine wpAnyH_take (i := 4) (oi := _) (v := ?vz1u5) rfl (by kernel_rfl) (by kernel_rfl) (by kernel_rfl) (fun _ _ _ h => h) (Or.inl ⟨by rfl, ?hyz1u5⟩) hHeld ?restz1u5
      case hyz1u5 => (intro w hSw; (try dsimp only at hSw); go_simp; first | done | with_reducible rfl)
      try simp only [Act.put, List.getElem_toArray, List.getElem_cons_zero, List.getElem_cons_succ, List.setIfInBounds_toArray, List.set_cons_zero, List.set_cons_succ]
      refine wpAnyH_take (i := 5) (oi := _) (v := ?vz1u6) rfl (by kernel_rfl) (by kernel_rfl) (by kernel_rfl) (fun _ _ _ h => h) (Or.inl ⟨by rfl, ?hyz1u6⟩) hHeld ?restz1u6
      case hyz1u6 => (intro w hSw; (try dsimp only at hSw); go_simp; first | done | with_reducible rfl)
      try simp only [Act.put, List.getElem_toArray, List.getElem_cons_zero, List.getElem_cons_succ, List.setIfInBounds_toArray, List.set_cons_zero, List.set_cons_succ]
      refine wpAnyH_ready (rs := [6]) (by kernel_rfl) (by simp) ?_
      refine AllReadyH.cons (o := _) rfl (fun K0 hK0 => ?_) AllReadyH.nil
      go_simp
      go_at_call 103
      refine (CH.out _).mono ?_
      rintro e wz1v7 ⟨rfl, bz1v7⟩
      refine hK0.out _ _ (K.out _ (thenB (Below.refl _ _).drew bz1v7)) (fun hHeld => ?_)
      clear hK0 K0
      try simp only [Act.put, List.getElem_toArray, List.getElem_cons_zero, List.getElem_cons_succ, List.setIfInBounds_toArray, List.set_cons_zero, List.set_cons_succ]
      refine wpAnyH_done (by kernel_rfl) ?_ _
      clear K hHeld
      replace VP := VP.kept (thenB (Below.refl _ _).drew bz1v7)
      replace B := thenB B (thenB (Below.refl _ _).drew bz1v7)
      have Sz1 := ((thenB (Below.refl _ _).drew bz1v7)).size
      clear bz1v7
      obtain ⟨s_VP, f_VP, z_VP⟩ := VP.open
      have Bo := B
      clear s_VP f_VP z_VP
      replace VP := Hid.mk VP
      replace B := Hid.mk B
      clear Bo
      cases c
      · have hn1 := hst.out.2 rfl
        replace hn1 := Hid.mk hn1
        go_wp2
        go_roundw
        case rel => exact ⟨k + 1, by omega, hn1.out, by go_num, VP.out, B.out⟩
        case measure => simp [intOf]; omega
      · have hn1 := hst.out.1 rfl
        replace hn1 := Hid.mk hn1
        go_wp2
        go_ret
        exact ⟨ret_int (by rw [← hV.out, hn1.out, if_pos (by omega)]), B.out⟩
    · have hz := fstK_le xs f t r u v
      have hkn : ¬ fstK xs f t r u v < xs.length := by omega
      replace hkn := Hid.mk hkn
      clear hz hkf
      go_wp2
      go_ret
      exact ⟨ret_int (by rw [← hV.out, if_neg hkn.out]), B⟩

theorem build_rr0 (k : Int) (w : World) : (Instr.build 36 #[(0, .int .i64 k)]).run Tryd.prog w = .ok (.agg #[.int .i64 k, .int .i64 0, .int .i64 0, .int .i64 0, .int .i64 0, .int .i64 0, .int .i64 0, .int .i64 0, .int .i64 0, .int .i64 0, .int .i64 0, .int .i64 0, .int .i64 0]) w := run_build w 36 _ _ (by kernel_rfl)

theorem build_rr1 (k : Int) (x : R11) (w : World) : (Instr.build 36 #[(1, .int .i64 k), (2, .agg #[.int .i64 x.s.a, .int .i64 x.s.b, .int .i64 x.s.c, .int .i64 x.s.d, .int .i64 x.s.e, .int .i64 x.s.f, .int .i64 x.s.g, .int .i64 x.s.h, .int .i64 x.s.r, .int .i64 x.p, .int .i64 x.q])]).run Tryd.prog w = .ok (.agg #[.int .i64 0, .int .i64 k, .int .i64 x.s.a, .int .i64 x.s.b, .int .i64 x.s.c, .int .i64 x.s.d, .int .i64 x.s.e, .int .i64 x.s.f, .int .i64 x.s.g, .int .i64 x.s.h, .int .i64 x.s.r, .int .i64 x.p, .int .i64 x.q]) w := run_build w 36 _ _ (by kernel_rfl)

theorem build_ir0 (k : Int) (w : World) : (Instr.build 39 #[(0, .int .i64 k)]).run Tryd.prog w = .ok (.agg #[.int .i64 k, .int .i64 0]) w := run_build w 39 _ _ (by kernel_rfl)

theorem build_ir1 (k : Int) (w : World) : (Instr.build 39 #[(1, .int .i64 k)]).run Tryd.prog w = .ok (.agg #[.int .i64 0, .int .i64 k]) w := run_build w 39 _ _ (by kernel_rfl)


set_option maxRecDepth 20000 in
set_option maxHeartbeats 4000000 in
theorem specFirstRule_ok (a : Option Addr) (n ca : Nat) (xs : List R11) (f t r l u v : Int) (s : Option Addr) (m cs : Nat) (w : World) (ha : RdRule w a xs) (hn : xs.length = n) (hx : n ≤ maxLen) :
    Calls Tryd.prog 17 #[.slice a n ca, .agg #[.int .i64 f, .int .i64 t, .int .i64 r, .int .i64 l, .int .i64 u, .int .i64 v, .slice s m cs]] w fun e w' => e = .returned (.agg #[.int .i64 (frC xs f t r l u v m), .int .i64 (frA xs f t r l u v m), .int .i64 (frR xs f t r l u v m).s.a, .int .i64 (frR xs f t r l u v m).s.b, .int .i64 (frR xs f t r l u v m).s.c, .int .i64 (frR xs f t r l u v m).s.d, .int .i64 (frR xs f t r l u v m).s.e, .int .i64 (frR xs f t r l u v m).s.f, .int .i64 (frR xs f t r l u v m).s.g, .int .i64 (frR xs f t r l u v m).s.h, .int .i64 (frR xs f t r l u v m).s.r, .int .i64 (frR xs f t r l u v m).p, .int .i64 (frR xs f t r l u v m).q]) ∧ Below w.heap.size w w' := by
  have CA := Hid.mk (fun w h => l4Asked_ok a n ca xs f t r l u v s m cs w h hn hx)
  have CF := Hid.mk (fun w h => l4First_ok a n ca xs f t r l u v s m cs w h hn hx)
  have q0 := build_rr0
  have q1 := build_rr1
  have q2 := build_ir0
  have q3 := build_ir1
  rcases fr_ways xs f t r l u v m with ⟨h1, _, e1, e2, e3, e4⟩ | ⟨h1, h2, e1, e2, e3, e4⟩ | ⟨h1, h2, e1, e2, e3, e4⟩
  · rw [e1, e2, e3]
    clear e1 e2 e3 e4
    go_enter Tryd.func17, Tryd.ntmps17
    have B := Below.refl w.heap.size w
    generalize asC xs f t r l u v m = kk at *
    replace ha := ha.kept (belowA w (.cells #[.int .i64 f, .int .i64 t, .int .i64 r, .int .i64 l, .int .i64 u, .int .i64 v, .slice s m cs] 26))
    replace B := thenB B (belowA w (.cells #[.int .i64 f, .int .i64 t, .int .i64 r, .int .i64 l, .int .i64 u, .int .i64 v, .slice s m cs] 26))
    have VP := V.new w [.int .i64 f, .int .i64 t, .int .i64 r, .int .i64 l, .int .i64 u, .int .i64 v, .slice s m cs] 26
    replace VP := VP.kept (belowA (w.alloc (.cells #[.int .i64 f, .int .i64 t, .int .i64 r, .int .i64 l, .int .i64 u, .int .i64 v, .slice s m cs] 26)) (.cells #[.int .i64 0, .int .i64 0, .int .i64 0, .int .i64 0, .int .i64 0, .int .i64 0, .int .i64 0, .int .i64 0, .int .i64 0, .int .i64 0, .int .i64 0, .int .i64 0, .int .i64 0] 36))
    replace ha := ha.kept (belowA (w.alloc (.cells #[.int .i64 f, .int .i64 t, .int .i64 r, .int .i64 l, .int .i64 u, .int .i64 v, .slice s m cs] 26)) (.cells #[.int .i64 0, .int .i64 0, .int .i64 0, .int .i64 0, .int .i64 0, .int .i64 0, .int .i64 0, .int .i64 0, .int .i64 0, .int .i64 0, .int .i64 0, .int .i64 0, .int .i64 0] 36))
    replace B := thenB B (belowA (w.alloc (.cells #[.int .i64 f, .int .i64 t, .int .i64 r, .int .i64 l, .int .i64 u, .int .i64 v, .slice s m cs] 26)) (.cells #[.int .i64 0, .int .i64 0, .int .i64 0, .int .i64 0, .int .i64 0, .int .i64 0, .int .i64 0, .int .i64 0, .int .i64 0, .int .i64 0, .int .i64 0, .int .i64 0, .int .i64 0] 36))
    have VR : V ((w.alloc (.cells #[.int .i64 f, .int .i64 t, .int .i64 r, .int .i64 l, .int .i64 u, .int .i64 v, .slice s m cs] 26)).alloc (.cells #[.int .i64 0, .int .i64 0, .int .i64 0, .int .i64 0, .int .i64 0, .int .i64 0, .int .i64 0, .int .i64 0, .int .i64 0, .int .i64 0, .int .i64 0, .int .i64 0, .int .i64 0] 36)) (w.heap.size + 1) [.int .i64 0, .int .i64 0, .int .i64 0, .int .i64 0, .int .i64 0, .int .i64 0, .int .i64 0, .int .i64 0, .int .i64 0, .int .i64 0, .int .i64 0, .int .i64 0, .int .i64 0] := V.newAt _ _ _ _ (by simp)
    obtain ⟨s_VP, f_VP, z_VP⟩ := VP.open
    obtain ⟨s_VR, f_VR, z_VR⟩ := VR.open
    go_wp2_with fail
    refine (CA.out _ ha).mono ?_
    rintro e w1 ⟨rfl, b1⟩
    clear s_VP f_VP z_VP s_VR f_VR z_VR
    have S1 := b1.size
    simp only [World.size_alloc] at S1
    replace VP := VP.kept b1
    replace VR := VR.kept b1
    replace ha := ha.kept b1
    replace B := thenB B b1
    clear b1
    obtain ⟨s_VP, f_VP, z_VP⟩ := VP.open
    obtain ⟨s_VR, f_VR, z_VR⟩ := VR.open
    have Bo := B
    clear s_VP f_VP z_VP s_VR f_VR z_VR
    have VF := Hid.mk (VR.filled [.int .i64 kk, .int .i64 0, .int .i64 0, .int .i64 0, .int .i64 0, .int .i64 0, .int .i64 0, .int .i64 0, .int .i64 0, .int .i64 0, .int .i64 0, .int .i64 0, .int .i64 0] rfl)
    have BR := belowCells B (show w.heap.size ≤ w.heap.size + 1 by simp) 0 [.int .i64 kk, .int .i64 0, .int .i64 0, .int .i64 0, .int .i64 0, .int .i64 0, .int .i64 0, .int .i64 0, .int .i64 0, .int .i64 0, .int .i64 0, .int .i64 0, .int .i64 0]
    have HT := Hid.mk VR.there
    replace BR := Hid.mk BR
    obtain ⟨s_VP, f_VP, z_VP⟩ := VP.open
    obtain ⟨s_VR, f_VR, z_VR⟩ := VR.open
    go_wp2_with (refine wpList_store_mid rfl 36 _ _ rfl (w.heap.size + 1) 0 #[.int .i64 kk, .int .i64 0, .int .i64 0, .int .i64 0, .int .i64 0, .int .i64 0, .int .i64 0, .int .i64 0, .int .i64 0, .int .i64 0, .int .i64 0, .int .i64 0, .int .i64 0] rfl rfl HT.out (by kernel_rfl) (by kernel_rfl) ?_)
    refine bodyPost_ret (v := .agg #[.int .i64 kk, .int .i64 0, .int .i64 0, .int .i64 0, .int .i64 0, .int .i64 0, .int .i64 0, .int .i64 0, .int .i64 0, .int .i64 0, .int .i64 0, .int .i64 0, .int .i64 0]) (results_row Tryd.results17 _ _ (w.heap.size + 1) [.int .i64 kk, .int .i64 0, .int .i64 0, .int .i64 0, .int .i64 0, .int .i64 0, .int .i64 0, .int .i64 0, .int .i64 0, .int .i64 0, .int .i64 0, .int .i64 0, .int .i64 0] _ rfl VF.out Tryd.underlying36 rfl (by kernel_rfl)) rfl ⟨rfl, BR.out⟩
  · rw [e1, e2, e3]
    rw [if_neg h2] at CF
    rw [h1] at CA
    clear e1 e2 e3 e4
    go_enter Tryd.func17, Tryd.ntmps17
    have B := Below.refl w.heap.size w
    replace ha := ha.kept (belowA w (.cells #[.int .i64 f, .int .i64 t, .int .i64 r, .int .i64 l, .int .i64 u, .int .i64 v, .slice s m cs] 26))
    replace B := thenB B (belowA w (.cells #[.int .i64 f, .int .i64 t, .int .i64 r, .int .i64 l, .int .i64 u, .int .i64 v, .slice s m cs] 26))
    have VP := V.new w [.int .i64 f, .int .i64 t, .int .i64 r, .int .i64 l, .int .i64 u, .int .i64 v, .slice s m cs] 26
    replace VP := VP.kept (belowA (w.alloc (.cells #[.int .i64 f, .int .i64 t, .int .i64 r, .int .i64 l, .int .i64 u, .int .i64 v, .slice s m cs] 26)) (.cells #[.int .i64 0, .int .i64 0, .int .i64 0, .int .i64 0, .int .i64 0, .int .i64 0, .int .i64 0, .int .i64 0, .int .i64 0, .int .i64 0, .int .i64 0, .int .i64 0, .int .i64 0] 36))
    replace ha := ha.kept (belowA (w.alloc (.cells #[.int .i64 f, .int .i64 t, .int .i64 r, .int .i64 l, .int .i64 u, .int .i64 v, .slice s m cs] 26)) (.cells #[.int .i64 0, .int .i64 0, .int .i64 0, .int .i64 0, .int .i64 0, .int .i64 0, .int .i64 0, .int .i64 0, .int .i64 0, .int .i64 0, .int .i64 0, .int .i64 0, .int .i64 0] 36))
    replace B := thenB B (belowA (w.alloc (.cells #[.int .i64 f, .int .i64 t, .int .i64 r, .int .i64 l, .int .i64 u, .int .i64 v, .slice s m cs] 26)) (.cells #[.int .i64 0, .int .i64 0, .int .i64 0, .int .i64 0, .int .i64 0, .int .i64 0, .int .i64 0, .int .i64 0, .int .i64 0, .int .i64 0, .int .i64 0, .int .i64 0, .int .i64 0] 36))
    have VR : V ((w.alloc (.cells #[.int .i64 f, .int .i64 t, .int .i64 r, .int .i64 l, .int .i64 u, .int .i64 v, .slice s m cs] 26)).alloc (.cells #[.int .i64 0, .int .i64 0, .int .i64 0, .int .i64 0, .int .i64 0, .int .i64 0, .int .i64 0, .int .i64 0, .int .i64 0, .int .i64 0, .int .i64 0, .int .i64 0, .int .i64 0] 36)) (w.heap.size + 1) [.int .i64 0, .int .i64 0, .int .i64 0, .int .i64 0, .int .i64 0, .int .i64 0, .int .i64 0, .int .i64 0, .int .i64 0, .int .i64 0, .int .i64 0, .int .i64 0, .int .i64 0] := V.newAt _ _ _ _ (by simp)
    obtain ⟨s_VP, f_VP, z_VP⟩ := VP.open
    obtain ⟨s_VR, f_VR, z_VR⟩ := VR.open
    go_wp2_with fail
    refine (CA.out _ ha).mono ?_
    rintro e w11 ⟨rfl, b11⟩
    clear s_VP f_VP z_VP s_VR f_VR z_VR
    have S11 := b11.size
    simp only [World.size_alloc] at S11
    replace VP := VP.kept b11
    replace VR := VR.kept b11
    replace ha := ha.kept b11
    replace B := thenB B b11
    clear b11
    obtain ⟨s_VP, f_VP, z_VP⟩ := VP.open
    obtain ⟨s_VR, f_VR, z_VR⟩ := VR.open
    have Bo := B
    go_wp2_with fail
    refine (CF.out _ ha).mono ?_
    rintro e w12 ⟨rfl, b12⟩
    clear s_VP f_VP z_VP s_VR f_VR z_VR
    have S12 := b12.size
    replace VP := VP.kept b12
    replace VR := VR.kept b12
    replace ha := ha.kept b12
    replace B := thenB B b12
    clear b12
    obtain ⟨s_VP, f_VP, z_VP⟩ := VP.open
    obtain ⟨s_VR, f_VR, z_VR⟩ := VR.open
    have Bo := B
    clear s_VP f_VP z_VP s_VR f_VR z_VR
    have VF := Hid.mk (VR.filled [.int .i64 4, .int .i64 0, .int .i64 0, .int .i64 0, .int .i64 0, .int .i64 0, .int .i64 0, .int .i64 0, .int .i64 0, .int .i64 0, .int .i64 0, .int .i64 0, .int .i64 0] rfl)
    have BR := belowCells B (show w.heap.size ≤ w.heap.size + 1 by simp) 0 [.int .i64 4, .int .i64 0, .int .i64 0, .int .i64 0, .int .i64 0, .int .i64 0, .int .i64 0, .int .i64 0, .int .i64 0, .int .i64 0, .int .i64 0, .int .i64 0, .int .i64 0]
    have HT := Hid.mk VR.there
    replace BR := Hid.mk BR
    obtain ⟨s_VP, f_VP, z_VP⟩ := VP.open
    obtain ⟨s_VR, f_VR, z_VR⟩ := VR.open
    go_wp2_with (refine wpList_store_mid rfl 36 _ _ rfl (w.heap.size + 1) 0 #[.int .i64 4, .int .i64 0, .int .i64 0, .int .i64 0, .int .i64 0, .int .i64 0, .int .i64 0, .int .i64 0, .int .i64 0, .int .i64 0, .int .i64 0, .int .i64 0, .int .i64 0] rfl rfl HT.out (by kernel_rfl) (by kernel_rfl) ?_)
    refine bodyPost_ret (v := .agg #[.int .i64 4, .int .i64 0, .int .i64 0, .int .i64 0, .int .i64 0, .int .i64 0, .int .i64 0, .int .i64 0, .int .i64 0, .int .i64 0, .int .i64 0, .int .i64 0, .int .i64 0]) (results_row Tryd.results17 _ _ (w.heap.size + 1) [.int .i64 4, .int .i64 0, .int .i64 0, .int .i64 0, .int .i64 0, .int .i64 0, .int .i64 0, .int .i64 0, .int .i64 0, .int .i64 0, .int .i64 0, .int .i64 0, .int .i64 0] _ rfl VF.out Tryd.underlying36 rfl (by kernel_rfl)) rfl ⟨rfl, BR.out⟩
  · rw [e1, e2, e3]
    obtain ⟨K, hK⟩ : ∃ K, fstK xs f t r u v = K := ⟨_, rfl⟩
    rw [hK] at h2 CF ⊢
    obtain ⟨x, hx1⟩ : ∃ x, xs.getD K zRule = x := ⟨_, rfl⟩
    rw [hx1]
    rw [if_pos h2] at CF
    rw [h1] at CA
    clear e1 e2 e3 e4
    go_enter Tryd.func17, Tryd.ntmps17
    have B := Below.refl w.heap.size w
    replace ha := ha.kept (belowA w (.cells #[.int .i64 f, .int .i64 t, .int .i64 r, .int .i64 l, .int .i64 u, .int .i64 v, .slice s m cs] 26))
    replace B := thenB B (belowA w (.cells #[.int .i64 f, .int .i64 t, .int .i64 r, .int .i64 l, .int .i64 u, .int .i64 v, .slice s m cs] 26))
    have VP := V.new w [.int .i64 f, .int .i64 t, .int .i64 r, .int .i64 l, .int .i64 u, .int .i64 v, .slice s m cs] 26
    replace VP := VP.kept (belowA (w.alloc (.cells #[.int .i64 f, .int .i64 t, .int .i64 r, .int .i64 l, .int .i64 u, .int .i64 v, .slice s m cs] 26)) (.cells #[.int .i64 0, .int .i64 0, .int .i64 0, .int .i64 0, .int .i64 0, .int .i64 0, .int .i64 0, .int .i64 0, .int .i64 0, .int .i64 0, .int .i64 0, .int .i64 0, .int .i64 0] 36))
    replace ha := ha.kept (belowA (w.alloc (.cells #[.int .i64 f, .int .i64 t, .int .i64 r, .int .i64 l, .int .i64 u, .int .i64 v, .slice s m cs] 26)) (.cells #[.int .i64 0, .int .i64 0, .int .i64 0, .int .i64 0, .int .i64 0, .int .i64 0, .int .i64 0, .int .i64 0, .int .i64 0, .int .i64 0, .int .i64 0, .int .i64 0, .int .i64 0] 36))
    replace B := thenB B (belowA (w.alloc (.cells #[.int .i64 f, .int .i64 t, .int .i64 r, .int .i64 l, .int .i64 u, .int .i64 v, .slice s m cs] 26)) (.cells #[.int .i64 0, .int .i64 0, .int .i64 0, .int .i64 0, .int .i64 0, .int .i64 0, .int .i64 0, .int .i64 0, .int .i64 0, .int .i64 0, .int .i64 0, .int .i64 0, .int .i64 0] 36))
    have VR : V ((w.alloc (.cells #[.int .i64 f, .int .i64 t, .int .i64 r, .int .i64 l, .int .i64 u, .int .i64 v, .slice s m cs] 26)).alloc (.cells #[.int .i64 0, .int .i64 0, .int .i64 0, .int .i64 0, .int .i64 0, .int .i64 0, .int .i64 0, .int .i64 0, .int .i64 0, .int .i64 0, .int .i64 0, .int .i64 0, .int .i64 0] 36)) (w.heap.size + 1) [.int .i64 0, .int .i64 0, .int .i64 0, .int .i64 0, .int .i64 0, .int .i64 0, .int .i64 0, .int .i64 0, .int .i64 0, .int .i64 0, .int .i64 0, .int .i64 0, .int .i64 0] := V.newAt _ _ _ _ (by simp)
    obtain ⟨s_VP, f_VP, z_VP⟩ := VP.open
    obtain ⟨s_VR, f_VR, z_VR⟩ := VR.open
    go_wp2_with fail
    refine (CA.out _ ha).mono ?_
    rintro e w21 ⟨rfl, b21⟩
    clear s_VP f_VP z_VP s_VR f_VR z_VR
    have S21 := b21.size
    simp only [World.size_alloc] at S21
    replace VP := VP.kept b21
    replace VR := VR.kept b21
    replace ha := ha.kept b21
    replace B := thenB B b21
    clear b21
    obtain ⟨s_VP, f_VP, z_VP⟩ := VP.open
    obtain ⟨s_VR, f_VR, z_VR⟩ := VR.open
    have Bo := B
    go_wp2_with fail
    refine (CF.out _ ha).mono ?_
    rintro e w22 ⟨rfl, b22⟩
    clear s_VP f_VP z_VP s_VR f_VR z_VR
    have S22 := b22.size
    replace VP := VP.kept b22
    replace VR := VR.kept b22
    replace ha := ha.kept b22
    replace B := thenB B b22
    clear b22
    obtain ⟨s_VP, f_VP, z_VP⟩ := VP.open
    obtain ⟨s_VR, f_VR, z_VR⟩ := VR.open
    have Bo := B
    rcases ha with ha | ⟨b1, o1, rfl, hca⟩
    · simp [ha] at h2
    have HQ := RdRule.cells hca K h2 x hx1
    have hk1 : (K : Int) < (n : Int) := by omega
    clear hca hx1 h2
    obtain ⟨p0, p1, p2, p3, p4, p5, p6, p7, p8, p9, p10⟩ := HQ
    have hk0 : ¬ (K : Int) < 0 := by omega
    clear s_VP f_VP z_VP s_VR f_VR z_VR
    have VF := Hid.mk (VR.filled [.int .i64 0, .int .i64 K, .int .i64 x.s.a, .int .i64 x.s.b, .int .i64 x.s.c, .int .i64 x.s.d, .int .i64 x.s.e, .int .i64 x.s.f, .int .i64 x.s.g, .int .i64 x.s.h, .int .i64 x.s.r, .int .i64 x.p, .int .i64 x.q] rfl)
    have BR := belowCells B (show w.heap.size ≤ w.heap.size + 1 by simp) 0 [.int .i64 0, .int .i64 K, .int .i64 x.s.a, .int .i64 x.s.b, .int .i64 x.s.c, .int .i64 x.s.d, .int .i64 x.s.e, .int .i64 x.s.f, .int .i64 x.s.g, .int .i64 x.s.h, .int .i64 x.s.r, .int .i64 x.p, .int .i64 x.q]
    have HT := Hid.mk VR.there
    replace BR := Hid.mk BR
    obtain ⟨s_VP, f_VP, z_VP⟩ := VP.open
    obtain ⟨s_VR, f_VR, z_VR⟩ := VR.open
    go_wp2_with (refine wpList_store_mid rfl 36 _ _ rfl (w.heap.size + 1) 0 #[.int .i64 0, .int .i64 K, .int .i64 x.s.a, .int .i64 x.s.b, .int .i64 x.s.c, .int .i64 x.s.d, .int .i64 x.s.e, .int .i64 x.s.f, .int .i64 x.s.g, .int .i64 x.s.h, .int .i64 x.s.r, .int .i64 x.p, .int .i64 x.q] rfl rfl HT.out (by kernel_rfl) (by kernel_rfl) ?_)
    refine bodyPost_ret (v := .agg #[.int .i64 0, .int .i64 K, .int .i64 x.s.a, .int .i64 x.s.b, .int .i64 x.s.c, .int .i64 x.s.d, .int .i64 x.s.e, .int .i64 x.s.f, .int .i64 x.s.g, .int .i64 x.s.h, .int .i64 x.s.r, .int .i64 x.p, .int .i64 x.q]) (results_row Tryd.results17 _ _ (w.heap.size + 1) [.int .i64 0, .int .i64 K, .int .i64 x.s.a, .int .i64 x.s.b, .int .i64 x.s.c, .int .i64 x.s.d, .int .i64 x.s.e, .int .i64 x.s.f, .int .i64 x.s.g, .int .i64 x.s.h, .int .i64 x.s.r, .int .i64 x.p, .int .i64 x.q] _ rfl VF.out Tryd.underlying36 rfl (by kernel_rfl)) rfl ⟨rfl, BR.out⟩

set_option maxRecDepth 20000 in
set_option maxHeartbeats 4000000 in
theorem specActionFor_ok (a : Option Addr) (n ca : Nat) (xs : List R11) (f t r l u v : Int) (s : Option Addr) (m cs : Nat) (w : World) (ha : RdRule w a xs) (hn : xs.length = n) (hx : n ≤ maxLen) :
    Calls Tryd.prog 35 #[.slice a n ca, .agg #[.int .i64 f, .int .i64 t, .int .i64 r, .int .i64 l, .int .i64 u, .int .i64 v, .slice s m cs]] w fun e w' => e = .returned (.agg #[.int .i64 (asC xs f t r l u v m), .int .i64 (afV xs f t r l u v m)]) ∧ Below w.heap.size w w' := by
  have CA := Hid.mk (fun w h => l4Asked_ok a n ca xs f t r l u v s m cs w h hn hx)
  have CF := Hid.mk (fun w h => l4First_ok a n ca xs f t r l u v s m cs w h hn hx)
  have q0 := build_rr0
  have q1 := build_rr1
  have q2 := build_ir0
  have q3 := build_ir1
  rcases fr_ways xs f t r l u v m with ⟨h1, _, e1, e2, e3, e4⟩ | ⟨h1, h2, e1, e2, e3, e4⟩ | ⟨h1, h2, e1, e2, e3, e4⟩
  · rw [e4]
    clear e1 e2 e3 e4
    go_enter Tryd.func35, Tryd.ntmps35
    have B := Below.refl w.heap.size w
    generalize asC xs f t r l u v m = kk at *
    replace ha := ha.kept (belowA w (.cells #[.int .i64 f, .int .i64 t, .int .i64 r, .int .i64 l, .int .i64 u, .int .i64 v, .slice s m cs] 26))
    replace B := thenB B (belowA w (.cells #[.int .i64 f, .int .i64 t, .int .i64 r, .int .i64 l, .int .i64 u, .int .i64 v, .slice s m cs] 26))
    have VP := V.new w [.int .i64 f, .int .i64 t, .int .i64 r, .int .i64 l, .int .i64 u, .int .i64 v, .slice s m cs] 26
    replace VP := VP.kept (belowA (w.alloc (.cells #[.int .i64 f, .int .i64 t, .int .i64 r, .int .i64 l, .int .i64 u, .int .i64 v, .slice s m cs] 26)) (.cells #[.int .i64 0, .int .i64 0] 39))
    replace ha := ha.kept (belowA (w.alloc (.cells #[.int .i64 f, .int .i64 t, .int .i64 r, .int .i64 l, .int .i64 u, .int .i64 v, .slice s m cs] 26)) (.cells #[.int .i64 0, .int .i64 0] 39))
    replace B := thenB B (belowA (w.alloc (.cells #[.int .i64 f, .int .i64 t, .int .i64 r, .int .i64 l, .int .i64 u, .int .i64 v, .slice s m cs] 26)) (.cells #[.int .i64 0, .int .i64 0] 39))
    have VR : V ((w.alloc (.cells #[.int .i64 f, .int .i64 t, .int .i64 r, .int .i64 l, .int .i64 u, .int .i64 v, .slice s m cs] 26)).alloc (.cells #[.int .i64 0, .int .i64 0] 39)) (w.heap.size + 1) [.int .i64 0, .int .i64 0] := V.newAt _ _ _ _ (by simp)
    obtain ⟨s_VP, f_VP, z_VP⟩ := VP.open
    obtain ⟨s_VR, f_VR, z_VR⟩ := VR.open
    go_wp2_with fail
    refine (CA.out _ ha).mono ?_
    rintro e w1 ⟨rfl, b1⟩
    clear s_VP f_VP z_VP s_VR f_VR z_VR
    have S1 := b1.size
    simp only [World.size_alloc] at S1
    replace VP := VP.kept b1
    replace VR := VR.kept b1
    replace ha := ha.kept b1
    replace B := thenB B b1
    clear b1
    obtain ⟨s_VP, f_VP, z_VP⟩ := VP.open
    obtain ⟨s_VR, f_VR, z_VR⟩ := VR.open
    have Bo := B
    clear s_VP f_VP z_VP s_VR f_VR z_VR
    have VF := Hid.mk (VR.filled [.int .i64 kk, .int .i64 0] rfl)
    have BR := belowCells B (show w.heap.size ≤ w.heap.size + 1 by simp) 0 [.int .i64 kk, .int .i64 0]
    have HT := Hid.mk VR.there
    replace BR := Hid.mk BR
    obtain ⟨s_VP, f_VP, z_VP⟩ := VP.open
    obtain ⟨s_VR, f_VR, z_VR⟩ := VR.open
    go_wp2_with (refine wpList_store_mid rfl 39 _ _ rfl (w.heap.size + 1) 0 #[.int .i64 kk, .int .i64 0] rfl rfl HT.out (by kernel_rfl) (by kernel_rfl) ?_)
    refine bodyPost_ret (v := .agg #[.int .i64 kk, .int .i64 0]) (results_row Tryd.results35 _ _ (w.heap.size + 1) [.int .i64 kk, .int .i64 0] _ rfl VF.out Tryd.underlying39 rfl (by kernel_rfl)) rfl ⟨rfl, BR.out⟩
  · rw [e4]
    rw [if_neg h2] at CF
    rw [h1] at CA
    rw [h1]
    clear e1 e2 e3 e4
    go_enter Tryd.func35, Tryd.ntmps35
    have B := Below.refl w.heap.size w
    replace ha := ha.kept (belowA w (.cells #[.int .i64 f, .int .i64 t, .int .i64 r, .int .i64 l, .int .i64 u, .int .i64 v, .slice s m cs] 26))
    replace B := thenB B (belowA w (.cells #[.int .i64 f, .int .i64 t, .int .i64 r, .int .i64 l, .int .i64 u, .int .i64 v, .slice s m cs] 26))
    have VP := V.new w [.int .i64 f, .int .i64 t, .int .i64 r, .int .i64 l, .int .i64 u, .int .i64 v, .slice s m cs] 26
    replace VP := VP.kept (belowA (w.alloc (.cells #[.int .i64 f, .int .i64 t, .int .i64 r, .int .i64 l, .int .i64 u, .int .i64 v, .slice s m cs] 26)) (.cells #[.int .i64 0, .int .i64 0] 39))
    replace ha := ha.kept (belowA (w.alloc (.cells #[.int .i64 f, .int .i64 t, .int .i64 r, .int .i64 l, .int .i64 u, .int .i64 v, .slice s m cs] 26)) (.cells #[.int .i64 0, .int .i64 0] 39))
    replace B := thenB B (belowA (w.alloc (.cells #[.int .i64 f, .int .i64 t, .int .i64 r, .int .i64 l, .int .i64 u, .int .i64 v, .slice s m cs] 26)) (.cells #[.int .i64 0, .int .i64 0] 39))
    have VR : V ((w.alloc (.cells #[.int .i64 f, .int .i64 t, .int .i64 r, .int .i64 l, .int .i64 u, .int .i64 v, .slice s m cs] 26)).alloc (.cells #[.int .i64 0, .int .i64 0] 39)) (w.heap.size + 1) [.int .i64 0, .int .i64 0] := V.newAt _ _ _ _ (by simp)
    obtain ⟨s_VP, f_VP, z_VP⟩ := VP.open
    obtain ⟨s_VR, f_VR, z_VR⟩ := VR.open
    go_wp2_with fail
    refine (CA.out _ ha).mono ?_
    rintro e w11 ⟨rfl, b11⟩
    clear s_VP f_VP z_VP s_VR f_VR z_VR
    have S11 := b11.size
    simp only [World.size_alloc] at S11
    replace VP := VP.kept b11
    replace VR := VR.kept b11
    replace ha := ha.kept b11
    replace B := thenB B b11
    clear b11
    obtain ⟨s_VP, f_VP, z_VP⟩ := VP.open
    obtain ⟨s_VR, f_VR, z_VR⟩ := VR.open
    have Bo := B
    go_wp2_with fail
    refine (CF.out _ ha).mono ?_
    rintro e w12 ⟨rfl, b12⟩
    clear s_VP f_VP z_VP s_VR f_VR z_VR
    have S12 := b12.size
    replace VP := VP.kept b12
    replace VR := VR.kept b12
    replace ha := ha.kept b12
    replace B := thenB B b12
    clear b12
    obtain ⟨s_VP, f_VP, z_VP⟩ := VP.open
    obtain ⟨s_VR, f_VR, z_VR⟩ := VR.open
    have Bo := B
    clear s_VP f_VP z_VP s_VR f_VR z_VR
    have VF := Hid.mk (VR.filled [.int .i64 0, .int .i64 1] rfl)
    have BR := belowCells B (show w.heap.size ≤ w.heap.size + 1 by simp) 0 [.int .i64 0, .int .i64 1]
    have HT := Hid.mk VR.there
    replace BR := Hid.mk BR
    obtain ⟨s_VP, f_VP, z_VP⟩ := VP.open
    obtain ⟨s_VR, f_VR, z_VR⟩ := VR.open
    go_wp2_with (refine wpList_store_mid rfl 39 _ _ rfl (w.heap.size + 1) 0 #[.int .i64 0, .int .i64 1] rfl rfl HT.out (by kernel_rfl) (by kernel_rfl) ?_)
    refine bodyPost_ret (v := .agg #[.int .i64 0, .int .i64 1]) (results_row Tryd.results35 _ _ (w.heap.size + 1) [.int .i64 0, .int .i64 1] _ rfl VF.out Tryd.underlying39 rfl (by kernel_rfl)) rfl ⟨rfl, BR.out⟩
  · rw [e4]
    obtain ⟨K, hK⟩ : ∃ K, fstK xs f t r u v = K := ⟨_, rfl⟩
    rw [hK] at h2 CF ⊢
    obtain ⟨x, hx1⟩ : ∃ x, xs.getD K zRule = x := ⟨_, rfl⟩
    rw [hx1]
    rw [if_pos h2] at CF
    rw [h1] at CA
    rw [h1]
    clear e1 e2 e3 e4
    go_enter Tryd.func35, Tryd.ntmps35
    have B := Below.refl w.heap.size w
    replace ha := ha.kept (belowA w (.cells #[.int .i64 f, .int .i64 t, .int .i64 r, .int .i64 l, .int .i64 u, .int .i64 v, .slice s m cs] 26))
    replace B := thenB B (belowA w (.cells #[.int .i64 f, .int .i64 t, .int .i64 r, .int .i64 l, .int .i64 u, .int .i64 v, .slice s m cs] 26))
    have VP := V.new w [.int .i64 f, .int .i64 t, .int .i64 r, .int .i64 l, .int .i64 u, .int .i64 v, .slice s m cs] 26
    replace VP := VP.kept (belowA (w.alloc (.cells #[.int .i64 f, .int .i64 t, .int .i64 r, .int .i64 l, .int .i64 u, .int .i64 v, .slice s m cs] 26)) (.cells #[.int .i64 0, .int .i64 0] 39))
    replace ha := ha.kept (belowA (w.alloc (.cells #[.int .i64 f, .int .i64 t, .int .i64 r, .int .i64 l, .int .i64 u, .int .i64 v, .slice s m cs] 26)) (.cells #[.int .i64 0, .int .i64 0] 39))
    replace B := thenB B (belowA (w.alloc (.cells #[.int .i64 f, .int .i64 t, .int .i64 r, .int .i64 l, .int .i64 u, .int .i64 v, .slice s m cs] 26)) (.cells #[.int .i64 0, .int .i64 0] 39))
    have VR : V ((w.alloc (.cells #[.int .i64 f, .int .i64 t, .int .i64 r, .int .i64 l, .int .i64 u, .int .i64 v, .slice s m cs] 26)).alloc (.cells #[.int .i64 0, .int .i64 0] 39)) (w.heap.size + 1) [.int .i64 0, .int .i64 0] := V.newAt _ _ _ _ (by simp)
    obtain ⟨s_VP, f_VP, z_VP⟩ := VP.open
    obtain ⟨s_VR, f_VR, z_VR⟩ := VR.open
    go_wp2_with fail
    refine (CA.out _ ha).mono ?_
    rintro e w21 ⟨rfl, b21⟩
    clear s_VP f_VP z_VP s_VR f_VR z_VR
    have S21 := b21.size
    simp only [World.size_alloc] at S21
    replace VP := VP.kept b21
    replace VR := VR.kept b21
    replace ha := ha.kept b21
    replace B := thenB B b21
    clear b21
    obtain ⟨s_VP, f_VP, z_VP⟩ := VP.open
    obtain ⟨s_VR, f_VR, z_VR⟩ := VR.open
    have Bo := B
    go_wp2_with fail
    refine (CF.out _ ha).mono ?_
    rintro e w22 ⟨rfl, b22⟩
    clear s_VP f_VP z_VP s_VR f_VR z_VR
    have S22 := b22.size
    replace VP := VP.kept b22
    replace VR := VR.kept b22
    replace ha := ha.kept b22
    replace B := thenB B b22
    clear b22
    obtain ⟨s_VP, f_VP, z_VP⟩ := VP.open
    obtain ⟨s_VR, f_VR, z_VR⟩ := VR.open
    have Bo := B
    rcases ha with ha | ⟨b1, o1, rfl, hca⟩
    · simp [ha] at h2
    have HQ := RdRule.cells hca K h2 x hx1
    have hk1 : (K : Int) < (n : Int) := by omega
    clear hca hx1 h2
    obtain ⟨p0, p1, p2, p3, p4, p5, p6, p7, p8, p9, p10⟩ := HQ
    have hk0 : ¬ (K : Int) < 0 := by omega
    clear s_VP f_VP z_VP s_VR f_VR z_VR
    have VF := Hid.mk (VR.filled [.int .i64 0, .int .i64 x.p] rfl)
    have BR := belowCells B (show w.heap.size ≤ w.heap.size + 1 by simp) 0 [.int .i64 0, .int .i64 x.p]
    have HT := Hid.mk VR.there
    replace BR := Hid.mk BR
    obtain ⟨s_VP, f_VP, z_VP⟩ := VP.open
    obtain ⟨s_VR, f_VR, z_VR⟩ := VR.open
    go_wp2_with (refine wpList_store_mid rfl 39 _ _ rfl (w.heap.size + 1) 0 #[.int .i64 0, .int .i64 x.p] rfl rfl HT.out (by kernel_rfl) (by kernel_rfl) ?_)
    refine bodyPost_ret (v := .agg #[.int .i64 0, .int .i64 x.p]) (results_row Tryd.results35 _ _ (w.heap.size + 1) [.int .i64 0, .int .i64 x.p] _ rfl VF.out Tryd.underlying39 rfl (by kernel_rfl)) rfl ⟨rfl, BR.out⟩

end Go.Proofs.YtngkahchhioncaaDoor

/- What is shadowed: the model. -/
namespace Go.Proofs.YtngkahchhioncaaDoor
open Go.RowKit

/-- The places that are shadowed, as numbers. -/
def shI (xs : List R11) (k : Nat) : List Int := (shL xs k).map fun (i : Nat) => (i : Int)

theorem shI_len (xs : List R11) (k : Nat) : (shI xs k).length ≤ k := by unfold shI; rw [List.length_map]; exact shL_len xs k

theorem shI_yes {xs : List R11} {k : Nat} (h : shAt xs k = true) : shI xs (k + 1) = shI xs k ++ [(k : Int)] := by
  unfold shI; rw [shL_next, if_pos h]; simp

theorem shI_no {xs : List R11} {k : Nat} (h : shAt xs k = false) : shI xs (k + 1) = shI xs k := by
  unfold shI; rw [shL_next, if_neg (by rw [h]; simp)]; simp

set_option maxRecDepth 20000 in
set_option maxHeartbeats 4000000 in
theorem l4Shadowed_ok (a : Option Addr) (n ca : Nat) (xs : List R11) (w : World) (ha : RdRule w a xs) (hn : xs.length = n) (hx : n ≤ 20) :
    Calls Tryd.prog 68 #[.slice a n ca] w fun e w' => ∃ (c d k : Nat), e = .returned (.slice (some ⟨c, 0, none⟩) k d) ∧ (shI xs n).length = k ∧ Own .i64 2 w' w.heap.size (some ⟨c, 0, none⟩) d (shI xs n) ∧ Below w.heap.size w w' := by
  have HA := Hid.mk ha
  clear ha
  go_enter Tryd.func68, Tryd.ntmps68
  have O := Hid.mk (OwnI.lit w [] [] rfl (by decide))
  have B := Hid.mk (belowA w (.cells #[] 2))
  go_wp2
  go_loopw [3, 4] (fun v i wr => ∃ (k c d j : Nat), k ≤ n ∧ i = .int .i64 k ∧ v = .slice (some ⟨c, 0, none⟩) j d ∧ (shI xs k).length = j ∧ Own .i64 2 wr w.heap.size (some ⟨c, 0, none⟩) d (shI xs k) ∧ Below w.heap.size w wr) (fun _ i _ => n - (intOf i).toNat)
  case atStart => exact ⟨0, _, _, 0, Nat.zero_le _, rfl, rfl, rfl, O.out, B.out⟩
  case round =>
    clear O B
    obtain ⟨k, c, d, j, hk, rfl, rfl, hj, O, B⟩ := hrel
    by_cases hlt : k < n
    · obtain ⟨x, hx1⟩ : ∃ x, xs.getD k zRule = x := ⟨_, rfl⟩
      have hk1 : (k : Int) < (n : Int) := by omega
      have hjk := shI_len xs k
      have HO := Hid.mk O
      have HB := Hid.mk B
      have HJ := Hid.mk hj
      have HX := Hid.mk hx1
      have hat : Hid (shAt xs k = shP xs x.s k) := Hid.mk (by unfold shAt; rw [hx1])
      clear O B hx1
      go_wp2
      go_loopw [3, 5] (fun v i wz => ∃ m : Nat, m ≤ k ∧ i = .int .i64 m ∧ v = .slice (some ⟨c, 0, none⟩) j d ∧ shP xs x.s m = false ∧ Below wr.heap.size wr wz) (fun _ i _ => k - (intOf i).toNat)
      case atStart => exact ⟨0, Nat.zero_le _, rfl, rfl, shP_zero _ _, Below.refl _ _⟩
      case round =>
        obtain ⟨m, hm, rfl, rfl, hsh, Bz⟩ := hrel
        by_cases hlt2 : m < k
        · obtain ⟨y, hy1⟩ : ∃ y, xs.getD m zRule = y := ⟨_, rfl⟩
          have hm1 : (m : Int) < (k : Int) := by omega
          have hm2 : (m : Int) < (n : Int) := by omega
          have hnx := shP_next xs x.s m (by omega) hy1
          rw [hsh, Bool.false_or] at hnx
          have CW := Hid.mk (fun w => l3Within_ok x.s y.s w)
          have hb0 := HB.out
          rcases (HA.out.kept hb0).kept Bz with h0 | ⟨b1, o1, rfl, hca⟩
          · rw [h0] at hn; simp at hn; omega
          obtain ⟨p0, p1, p2, p3, p4, p5, p6, p7, p8, p9, p10⟩ := RdRule.cells hca k (by omega) x HX.out
          obtain ⟨q0, q1, q2, q3, q4, q5, q6, q7, q8, q9, q10⟩ := RdRule.cells hca m (by omega) y hy1
          have hb1 := World.block_lt_of_cell? (a := ⟨b1, o1 + k * 11, none⟩) _ p0
          simp only at hb1
          clear hca hy1 p9 p10 q9 q10 hb0 hsh
          generalize inW x.s y.s = cc at *
          replace hnx := Hid.mk hnx
          have B := Bz
          have K : ∀ w' : World, Below wr.heap.size wr w' → (w'.cell? ⟨b1, o1 + k * 11, none⟩ = some (.int .i64 x.s.a) ∧ w'.cell? ⟨b1, o1 + k * 11 + 1, none⟩ = some (.int .i64 x.s.b) ∧ w'.cell? ⟨b1, o1 + k * 11 + 2, none⟩ = some (.int .i64 x.s.c) ∧ w'.cell? ⟨b1, o1 + k * 11 + 3, none⟩ = some (.int .i64 x.s.d) ∧ w'.cell? ⟨b1, o1 + k * 11 + 4, none⟩ = some (.int .i64 x.s.e) ∧ w'.cell? ⟨b1, o1 + k * 11 + 5, none⟩ = some (.int .i64 x.s.f) ∧ w'.cell? ⟨b1, o1 + k * 11 + 6, none⟩ = some (.int .i64 x.s.g) ∧ w'.cell? ⟨b1, o1 + k * 11 + 7, none⟩ = some (.int .i64 x.s.h) ∧ w'.cell? ⟨b1, o1 + k * 11 + 8, none⟩ = some (.int .i64 x.s.r) ∧ w'.cell? ⟨b1, o1 + m * 11, none⟩ = some (.int .i64 y.s.a) ∧ w'.cell? ⟨b1, o1 + m * 11 + 1, none⟩ = some (.int .i64 y.s.b) ∧ w'.cell? ⟨b1, o1 + m * 11 + 2, none⟩ = some (.int .i64 y.s.c) ∧ w'.cell? ⟨b1, o1 + m * 11 + 3, none⟩ = some (.int .i64 y.s.d) ∧ w'.cell? ⟨b1, o1 + m * 11 + 4, none⟩ = some (.int .i64 y.s.e) ∧ w'.cell? ⟨b1, o1 + m * 11 + 5, none⟩ = some (.int .i64 y.s.f) ∧ w'.cell? ⟨b1, o1 + m * 11 + 6, none⟩ = some (.int .i64 y.s.g) ∧ w'.cell? ⟨b1, o1 + m * 11 + 7, none⟩ = some (.int .i64 y.s.h) ∧ w'.cell? ⟨b1, o1 + m * 11 + 8, none⟩ = some (.int .i64 y.s.r)) := fun w' h => ⟨((bcell h).1 _ _ hb1).trans p0, ((bcell h).1 _ _ hb1).trans p1, ((bcell h).1 _ _ hb1).trans p2, ((bcell h).1 _ _ hb1).trans p3, ((bcell h).1 _ _ hb1).trans p4, ((bcell h).1 _ _ hb1).trans p5, ((bcell h).1 _ _ hb1).trans p6, ((bcell h).1 _ _ hb1).trans p7, ((bcell h).1 _ _ hb1).trans p8, ((bcell h).1 _ _ hb1).trans q0, ((bcell h).1 _ _ hb1).trans q1, ((bcell h).1 _ _ hb1).trans q2, ((bcell h).1 _ _ hb1).trans q3, ((bcell h).1 _ _ hb1).trans q4, ((bcell h).1 _ _ hb1).trans q5, ((bcell h).1 _ _ hb1).trans q6, ((bcell h).1 _ _ hb1).trans q7, ((bcell h).1 _ _ hb1).trans q8⟩
          have K := Hid.mk K
          clear p0 p1 p2 p3 p4 p5 p6 p7 p8 q0 q1 q2 q3 q4 q5 q6 q7 q8
          go_wp2_with fail
          refine wp_region_held_drew (S := (fun w' => w'.cell? ⟨b1, o1 + k * 11, none⟩ = some (.int .i64 x.s.a) ∧ w'.cell? ⟨b1, o1 + k * 11 + 1, none⟩ = some (.int .i64 x.s.b) ∧ w'.cell? ⟨b1, o1 + k * 11 + 2, none⟩ = some (.int .i64 x.s.c) ∧ w'.cell? ⟨b1, o1 + k * 11 + 3, none⟩ = some (.int .i64 x.s.d) ∧ w'.cell? ⟨b1, o1 + k * 11 + 4, none⟩ = some (.int .i64 x.s.e) ∧ w'.cell? ⟨b1, o1 + k * 11 + 5, none⟩ = some (.int .i64 x.s.f) ∧ w'.cell? ⟨b1, o1 + k * 11 + 6, none⟩ = some (.int .i64 x.s.g) ∧ w'.cell? ⟨b1, o1 + k * 11 + 7, none⟩ = some (.int .i64 x.s.h) ∧ w'.cell? ⟨b1, o1 + k * 11 + 8, none⟩ = some (.int .i64 x.s.r) ∧ w'.cell? ⟨b1, o1 + m * 11, none⟩ = some (.int .i64 y.s.a) ∧ w'.cell? ⟨b1, o1 + m * 11 + 1, none⟩ = some (.int .i64 y.s.b) ∧ w'.cell? ⟨b1, o1 + m * 11 + 2, none⟩ = some (.int .i64 y.s.c) ∧ w'.cell? ⟨b1, o1 + m * 11 + 3, none⟩ = some (.int .i64 y.s.d) ∧ w'.cell? ⟨b1, o1 + m * 11 + 4, none⟩ = some (.int .i64 y.s.e) ∧ w'.cell? ⟨b1, o1 + m * 11 + 5, none⟩ = some (.int .i64 y.s.f) ∧ w'.cell? ⟨b1, o1 + m * 11 + 6, none⟩ = some (.int .i64 y.s.g) ∧ w'.cell? ⟨b1, o1 + m * 11 + 7, none⟩ = some (.int .i64 y.s.h) ∧ w'.cell? ⟨b1, o1 + m * 11 + 8, none⟩ = some (.int .i64 y.s.r))) (by kernel_rfl) (K.out _ (Below.refl _ _).drew) (fun hHeld => ?_)
          refine wpAnyH_take (i := 0) (oi := _) (v := ?vz1u1) rfl (by kernel_rfl) (by kernel_rfl) (by kernel_rfl) (fun _ _ _ h => h) (Or.inl ⟨by rfl, ?hyz1u1⟩) hHeld ?restz1u1
          case hyz1u1 => (intro w hSw; (try dsimp only at hSw); go_simp; first | done | with_reducible rfl)
          try simp only [Act.put, List.getElem_toArray, List.getElem_cons_zero, List.setIfInBounds_toArray, List.set_cons_zero, List.set_cons_succ]
          refine wpAnyH_take (i := 1) (oi := _) (v := ?vz1u2) rfl (by kernel_rfl) (by kernel_rfl) (by kernel_rfl) (fun _ _ _ h => h) (Or.inl ⟨by rfl, ?hyz1u2⟩) hHeld ?restz1u2
          case hyz1u2 => (intro w hSw; (try dsimp only at hSw); go_simp; first | done | with_reducible rfl)
          try simp only [Act.put, List.getElem_toArray, List.getElem_cons_zero, List.getElem_cons_succ, List.setIfInBounds_toArray, List.set_cons_zero, List.set_cons_succ]
          refine wpAnyH_take (i := 2) (oi := _) (v := ?vz1u3) rfl (by kernel_rfl) (by kernel_rfl) (by kernel_rfl) (fun _ _ _ h => h) (Or.inl ⟨by rfl, ?hyz1u3⟩) hHeld ?restz1u3
          case hyz1u3 => (intro w hSw; (try dsimp only at hSw); go_simp; first | done | with_reducible rfl)
          try simp only [Act.put, List.getElem_toArray, List.getElem_cons_zero, List.getElem_cons_succ, List.setIfInBounds_toArray, List.set_cons_zero, List.set_cons_succ]
          refine wpAnyH_take (i := 3) (oi := _) (v := ?vz1u4) rfl (by kernel_rfl) (by kernel_rfl) (by kernel_rfl) (fun _ _ _ h => h) (Or.inl ⟨by rfl, ?hyz1u4⟩) hHeld ?restz1u4
          case hyz1u4 => (intro w hSw; (try dsimp only at hSw); go_simp; first | done | with_reducible rfl)
          try simp only [Act.put, List.getElem_toArray, List.getElem_cons_zero, List.getElem_cons_succ, List.setIfInBounds_toArray, List.set_cons_zero, List.set_cons_succ]
          refine wpAnyH_take (i := 4) (oi := _) (v := ?vz1u5) rfl (by kernel_rfl) (by kernel_rfl) (by kernel_rfl) (fun _ _ _ h => h) (Or.inl ⟨by rfl, ?hyz1u5⟩) hHeld ?restz1u5
          case hyz1u5 => (intro w hSw; (try dsimp only at hSw); go_simp; first | done | with_reducible rfl)
          try simp only [Act.put, List.getElem_toArray, List.getElem_cons_zero, List.getElem_cons_succ, List.setIfInBounds_toArray, List.set_cons_zero, List.set_cons_succ]
          refine wpAnyH_take (i := 5) (oi := _) (v := ?vz1u6) rfl (by kernel_rfl) (by kernel_rfl) (by kernel_rfl) (fun _ _ _ h => h) (Or.inl ⟨by rfl, ?hyz1u6⟩) hHeld ?restz1u6
          case hyz1u6 => (intro w hSw; (try dsimp only at hSw); go_simp; first | done | with_reducible rfl)
          try simp only [Act.put, List.getElem_toArray, List.getElem_cons_zero, List.getElem_cons_succ, List.setIfInBounds_toArray, List.set_cons_zero, List.set_cons_succ]
          refine wpAnyH_take (i := 6) (oi := _) (v := ?vz1u7) rfl (by kernel_rfl) (by kernel_rfl) (by kernel_rfl) (fun _ _ _ h => h) (Or.inl ⟨by rfl, ?hyz1u7⟩) hHeld ?restz1u7
          case hyz1u7 => (intro w hSw; (try dsimp only at hSw); go_simp; first | done | with_reducible rfl)
          try simp only [Act.put, List.getElem_toArray, List.getElem_cons_zero, List.getElem_cons_succ, List.setIfInBounds_toArray, List.set_cons_zero, List.set_cons_succ]
          refine wpAnyH_take (i := 7) (oi := _) (v := ?vz1u8) rfl (by kernel_rfl) (by kernel_rfl) (by kernel_rfl) (fun _ _ _ h => h) (Or.inl ⟨by rfl, ?hyz1u8⟩) hHeld ?restz1u8
          case hyz1u8 => (intro w hSw; (try dsimp only at hSw); go_simp; first | done | with_reducible rfl)
          try simp only [Act.put, List.getElem_toArray, List.getElem_cons_zero, List.getElem_cons_succ, List.setIfInBounds_toArray, List.set_cons_zero, List.set_cons_succ]
          refine wpAnyH_take (i := 8) (oi := _) (v := ?vz1u9) rfl (by kernel_rfl) (by kernel_rfl) (by kernel_rfl) (fun _ _ _ h => h) (Or.inl ⟨by rfl, ?hyz1u9⟩) hHeld ?restz1u9
          case hyz1u9 => (intro w hSw; (try dsimp only at hSw); go_simp; first | done | with_reducible rfl)
          try simp only [Act.put, List.getElem_toArray, List.getElem_cons_zero, List.getElem_cons_succ, List.setIfInBounds_toArray, List.set_cons_zero, List.set_cons_succ]
          refine wpAnyH_take (i := 9) (oi := _) (v := ?vz1u10) rfl (by kernel_rfl) (by kernel_rfl) (by kernel_rfl) (fun _ _ _ h => h) (Or.inl ⟨by rfl, ?hyz1u10⟩) hHeld ?restz1u10
          case hyz1u10 => (intro w hSw; (try dsimp only at hSw); go_simp; first | done | with_reducible rfl)
          try simp only [Act.put, List.getElem_toArray, List.getElem_cons_zero, List.getElem_cons_succ, List.setIfInBounds_toArray, List.set_cons_zero, List.set_cons_succ]
          refine wpAnyH_ready (rs := [10]) (by kernel_rfl) (by simp) ?_
          refine AllReadyH.cons (o := _) rfl (fun K0 hK0 => ?_) AllReadyH.nil
          go_simp
          go_at_call 112
          refine (CW.out _).mono ?_
          rintro e wz1v11 ⟨rfl, bz1v11⟩
          refine hK0.out _ _ (K.out _ (thenB (Below.refl _ _).drew bz1v11)) (fun hHeld => ?_)
          clear hK0 K0
          try simp only [Act.put, List.getElem_toArray, List.getElem_cons_zero, List.getElem_cons_succ, List.setIfInBounds_toArray, List.set_cons_zero, List.set_cons_succ]
          refine wpAnyH_done (by kernel_rfl) ?_ _
          clear K hHeld
          replace B := thenB B (thenB (Below.refl _ _).drew bz1v11)
          have Sz1 := ((thenB (Below.refl _ _).drew bz1v11)).size
          clear bz1v11
          have Bo := B
          clear Bz Bo
          replace B := Hid.mk B
          cases cc
          · go_wp2
            go_roundw
            case rel => exact ⟨m + 1, by omega, by go_num, rfl, hnx.out, B.out⟩
            case measure => simp [intOf]; omega
          · have hyes := Hid.mk (shI_yes (hat.out.trans (shP_more hnx.out (by omega))))
            have O := HO.out.kept B.out
            have BB := thenB HB.out B.out
            replace O := O.kept (belowA wz1v11 (.cells #[.int .i64 k] 2))
            replace BB := thenB BB (belowA wz1v11 (.cells #[.int .i64 k] 2))
            have TL := BB.size
            replace BB := Hid.mk BB
            go_wp2_with (at_builtin; go_loud (refine wpList_putI _ rfl _ _ rfl w.heap.size (some ⟨c, 0, none⟩) d (shI xs k) j HJ.out rfl O _ 1 (k : Int) rfl (cell_one' _ _ _ 0 _ rfl) (by omega) TL ?_))
            intro c4 d4 w4 O4 hg4 hx4
            obtain ⟨c5, rfl, _, _⟩ := hx4.out
            have B4 := Hid.mk (belowG (c := some ⟨c, 0, none⟩) BB.out hg4 TL (fun b hb => (O.lt b hb).1))
            rw [← hyes.out] at O4
            have hl4 : Hid ((shI xs (k + 1)).length = j + 1) := Hid.mk (by rw [hyes.out, List.length_append, HJ.out]; rfl)
            replace O4 := Hid.mk O4
            clear O hg4 hx4 TL
            go_wp2
            go_roundw
            case rel => exact ⟨k + 1, c5, d4, j + 1, by omega, by go_num, rfl, hl4.out, O4.out, B4.out⟩
            case measure => simp [intOf]; omega
        · obtain rfl : m = k := by omega
          have hno := Hid.mk (shI_no (hat.out.trans hsh))
          have O := Hid.mk (HO.out.kept Bz)
          have BB := Hid.mk (thenB HB.out Bz)
          clear Bz hsh
          go_wp2
          go_roundw
          case rel => exact ⟨m + 1, c, d, j, by omega, by go_num, rfl, by rw [hno.out]; exact HJ.out, by rw [hno.out]; exact O.out, BB.out⟩
          case measure => simp [intOf]; omega
    · obtain rfl : k = n := by omega
      have HO := Hid.mk O
      have HJ := Hid.mk hj
      clear O hj
      go_wp2
      go_ret
      exact ⟨c, d, j, rfl, HJ.out, HO.out, B⟩

theorem ownCells {w : World} {base : Nat} {a : Option Addr} {cap : Nat} {zs : List Int} {B : Nat} (h : Own .i64 2 w base a cap zs) (hB : ∀ b : Addr, a = some b → b.block ≠ B) (o : Nat) (vs : List Value) : Own .i64 2 (w.setCells B o vs) base a cap zs := by
  induction vs generalizing w o with
  | nil => exact h
  | cons v vs ih =>
    refine ih (w := w.setCell ⟨B, o, none⟩ v) (h.grown (row := some B) ⟨rfl, rfl, rfl, by simp [World.setCell], fun k _ hk => Below.heap_setCell _ _ _ _ (fun e => hk (by rw [e]))⟩ fun b hb e => ?_) (o + 1)
    simp only [Option.some.injEq] at e
    exact hB b hb e.symm

theorem build_is0 (k : Int) (w : World) : (Instr.build 50 #[(0, .int .i64 k)]).run Tryd.prog w = .ok (.agg #[.int .i64 k, .slice none 0 0]) w := run_build w 50 _ _ (by kernel_rfl)

theorem build_is1 (a : Option Addr) (n c : Nat) (w : World) : (Instr.build 50 #[(1, .slice a n c)]).run Tryd.prog w = .ok (.agg #[.int .i64 0, .slice a n c]) w := run_build w 50 _ _ (by kernel_rfl)

/-- What 'ShadowedRules' answers beside its code. -/
@[irreducible] def srL (xs : List R11) : List Int := if pyC xs = 0 then shI xs xs.length else []

theorem sr_ways (xs : List R11) : ((pyC xs != 0) = true ∧ pyC xs ≠ 0 ∧ srL xs = []) ∨ (pyC xs = 0 ∧ srL xs = shI xs xs.length) := by
  unfold srL
  by_cases h : pyC xs = 0
  · exact .inr ⟨h, by rw [if_pos h]⟩
  · exact .inl ⟨by simp [h], h, by rw [if_neg h]⟩

set_option maxHeartbeats 4000000 in
theorem specShadowedRules_ok (a : Option Addr) (n ca : Nat) (xs : List R11) (w : World) (ha : RdRule w a xs) (hn : xs.length = n) (hx : n ≤ maxLen) :
    Calls Tryd.prog 37 #[.slice a n ca] w fun e w' => ∃ (c : Option Addr) (d k : Nat), e = .returned (.agg #[.int .i64 (pyC xs), .slice c k d]) ∧ (srL xs).length = k ∧ Own .i64 2 w' w.heap.size c d (srL xs) ∧ Below w.heap.size w w' := by
  have CP := Hid.mk (fun w h => specPolicyFault_ok a n ca xs w h hn hx)
  have q0 := build_is0
  have q1 := build_is1
  rcases sr_ways xs with ⟨h1, h2, e1⟩ | ⟨h1, e1⟩
  · rw [e1]
    clear e1
    generalize pyC xs = kk at *
    go_enter Tryd.func37, Tryd.ntmps37
    have B := Below.refl w.heap.size w
    replace ha := ha.kept (belowA w (.cells #[.int .i64 0, .slice none 0 0] 50))
    replace B := thenB B (belowA w (.cells #[.int .i64 0, .slice none 0 0] 50))
    have VR := V.new w [.int .i64 0, .slice none 0 0] 50
    obtain ⟨s_VR, f_VR, z_VR⟩ := VR.open
    go_wp2_with fail
    refine (CP.out _ ha).mono ?_
    rintro e w1 ⟨rfl, b1⟩
    clear s_VR f_VR z_VR
    have S1 := b1.size
    simp only [World.size_alloc] at S1
    replace VR := VR.kept b1
    replace ha := ha.kept b1
    replace B := thenB B b1
    clear b1
    obtain ⟨s_VR, f_VR, z_VR⟩ := VR.open
    have Bo := B
    clear s_VR f_VR z_VR
    have VF := Hid.mk (VR.filled [.int .i64 kk, .slice none 0 0] rfl)
    have BR := belowCells B (show w.heap.size ≤ w.heap.size by simp) 0 [.int .i64 kk, .slice none 0 0]
    have HT := Hid.mk VR.there
    replace BR := Hid.mk BR
    obtain ⟨s_VR, f_VR, z_VR⟩ := VR.open
    go_wp2_with (refine wpList_store_mid rfl 50 _ _ rfl (w.heap.size) 0 #[.int .i64 kk, .slice none 0 0] rfl rfl HT.out (by kernel_rfl) (by kernel_rfl) ?_)
    refine bodyPost_ret (v := .agg #[.int .i64 kk, .slice none 0 0]) (results_row Tryd.results37 _ _ (w.heap.size) [.int .i64 kk, .slice none 0 0] _ rfl VF.out Tryd.underlying50 rfl (by kernel_rfl)) rfl ⟨none, 0, 0, rfl, rfl, own_none, BR.out⟩
  · rw [e1, h1]
    rw [h1] at CP
    have hx20 : n ≤ 20 := by have := (pyC_zero h1).1; omega
    have CS := Hid.mk (fun w h => l4Shadowed_ok a n ca xs w h hn hx20)
    rw [hn]
    clear e1 h1
    go_enter Tryd.func37, Tryd.ntmps37
    have B := Below.refl w.heap.size w
    replace ha := ha.kept (belowA w (.cells #[.int .i64 0, .slice none 0 0] 50))
    replace B := thenB B (belowA w (.cells #[.int .i64 0, .slice none 0 0] 50))
    have VR := V.new w [.int .i64 0, .slice none 0 0] 50
    obtain ⟨s_VR, f_VR, z_VR⟩ := VR.open
    go_wp2_with fail
    refine (CP.out _ ha).mono ?_
    rintro e w6 ⟨rfl, b6⟩
    clear s_VR f_VR z_VR
    have S6 := b6.size
    simp only [World.size_alloc] at S6
    replace VR := VR.kept b6
    replace ha := ha.kept b6
    replace B := thenB B b6
    clear b6
    obtain ⟨s_VR, f_VR, z_VR⟩ := VR.open
    have Bo := B
    go_wp2_with fail
    refine (CS.out _ ha).mono ?_
    rintro e w7 ⟨c, d, k, rfl, hk, O, b7⟩
    clear s_VR f_VR z_VR
    have S7 := b7.size
    replace VR := VR.kept b7
    replace ha := ha.kept b7
    replace B := thenB B b7
    clear b7
    obtain ⟨s_VR, f_VR, z_VR⟩ := VR.open
    have Bo := B
    have HO := Hid.mk (O.mono (show w.heap.size ≤ _ by omega))
    have HK := Hid.mk hk
    have HC := Hid.mk (O.lt _ rfl).1
    clear O hk
    clear s_VR f_VR z_VR
    have VF := Hid.mk (VR.filled [.int .i64 0, .slice (some ⟨c, 0, none⟩) k d] rfl)
    have BR := belowCells B (show w.heap.size ≤ w.heap.size by simp) 0 [.int .i64 0, .slice (some ⟨c, 0, none⟩) k d]
    have HT := Hid.mk VR.there
    replace BR := Hid.mk BR
    obtain ⟨s_VR, f_VR, z_VR⟩ := VR.open
    go_wp2_with (refine wpList_store_mid rfl 50 _ _ rfl (w.heap.size) 0 #[.int .i64 0, .slice (some ⟨c, 0, none⟩) k d] rfl rfl HT.out (by kernel_rfl) (by kernel_rfl) ?_)
    refine bodyPost_ret (v := .agg #[.int .i64 0, .slice (some ⟨c, 0, none⟩) k d]) (results_row Tryd.results37 _ _ (w.heap.size) [.int .i64 0, .slice (some ⟨c, 0, none⟩) k d] _ rfl VF.out Tryd.underlying50 rfl (by kernel_rfl)) rfl ⟨some ⟨c, 0, none⟩, d, k, rfl, HK.out, ownCells HO.out (by intro b hb; have := HC.out; simp at hb; subst hb; simp at this ⊢; omega) _ _, BR.out⟩

end Go.Proofs.YtngkahchhioncaaDoor

/- The first rule: the program. -/
namespace Go.Proofs.YtngkahchhioncaaDoor
open Go.RowKit

theorem hoP_in {x : S9} {f t r l u v : Int} {n : Nat} (h1 : sfC x = 0) (h2 : pfC f t r l u v n = 0) : hoP x f t r l u v n = inP x f t r u v := by
  unfold hoP; simp [h1, h2]

theorem pf_codes (f t r l u v : Int) (n : Nat) : pfC f t r l u v n = 0 ∨ pfC f t r l u v n = 1 ∨ pfC f t r l u v n = 2 ∨ pfC f t r l u v n = 3 := by
  unfold pfC
  repeat' split
  all_goals omega

theorem as_codes (xs : List R11) (f t r l u v : Int) (m : Nat) : asC xs f t r l u v m = 0 ∨ asC xs f t r l u v m = 1 ∨ asC xs f t r l u v m = 2 ∨ asC xs f t r l u v m = 3 := by
  rcases as_ways xs f t r l u v m with ⟨_, h, _⟩ | ⟨_, h⟩
  · rw [h]; exact pyC_codes xs
  · rw [h]; exact pf_codes f t r l u v m

/-- What 'FirstRule' answers, as a value. -/
@[irreducible] def frV (xs : List R11) (f t r l u v : Int) (m : Nat) : Value := .agg #[.int .i64 (frC xs f t r l u v m), .int .i64 (frA xs f t r l u v m), .int .i64 (frR xs f t r l u v m).s.a, .int .i64 (frR xs f t r l u v m).s.b, .int .i64 (frR xs f t r l u v m).s.c, .int .i64 (frR xs f t r l u v m).s.d, .int .i64 (frR xs f t r l u v m).s.e, .int .i64 (frR xs f t r l u v m).s.f, .int .i64 (frR xs f t r l u v m).s.g, .int .i64 (frR xs f t r l u v m).s.h, .int .i64 (frR xs f t r l u v m).s.r, .int .i64 (frR xs f t r l u v m).p, .int .i64 (frR xs f t r l u v m).q]

theorem frV_is (xs : List R11) (f t r l u v : Int) (m : Nat) : frV xs f t r l u v m = .agg #[.int .i64 (frC xs f t r l u v m), .int .i64 (frA xs f t r l u v m), .int .i64 (frR xs f t r l u v m).s.a, .int .i64 (frR xs f t r l u v m).s.b, .int .i64 (frR xs f t r l u v m).s.c, .int .i64 (frR xs f t r l u v m).s.d, .int .i64 (frR xs f t r l u v m).s.e, .int .i64 (frR xs f t r l u v m).s.f, .int .i64 (frR xs f t r l u v m).s.g, .int .i64 (frR xs f t r l u v m).s.h, .int .i64 (frR xs f t r l u v m).s.r, .int .i64 (frR xs f t r l u v m).p, .int .i64 (frR xs f t r l u v m).q] := by unfold frV; rfl

theorem fr_ways2 (xs : List R11) (f t r l u v : Int) (m : Nat) :
    ((pyC xs != 0) = true ∧ frV xs f t r l u v m = .agg #[.int .i64 (pyC xs), .int .i64 0, .int .i64 0, .int .i64 0, .int .i64 0, .int .i64 0, .int .i64 0, .int .i64 0, .int .i64 0, .int .i64 0, .int .i64 0, .int .i64 0, .int .i64 0]) ∨
    (pyC xs = 0 ∧ (pfC f t r l u v m != 0) = true ∧ frV xs f t r l u v m = .agg #[.int .i64 (pfC f t r l u v m), .int .i64 0, .int .i64 0, .int .i64 0, .int .i64 0, .int .i64 0, .int .i64 0, .int .i64 0, .int .i64 0, .int .i64 0, .int .i64 0, .int .i64 0, .int .i64 0]) ∨
    (pyC xs = 0 ∧ pfC f t r l u v m = 0 ∧ (∀ (k : Nat) (x : R11), fstK xs f t r u v = k → k < xs.length → xs.getD k zRule = x → frV xs f t r l u v m = .agg #[.int .i64 0, .int .i64 k, .int .i64 x.s.a, .int .i64 x.s.b, .int .i64 x.s.c, .int .i64 x.s.d, .int .i64 x.s.e, .int .i64 x.s.f, .int .i64 x.s.g, .int .i64 x.s.h, .int .i64 x.s.r, .int .i64 x.p, .int .i64 x.q]) ∧ (fstK xs f t r u v = xs.length → frV xs f t r l u v m = .agg #[.int .i64 4, .int .i64 0, .int .i64 0, .int .i64 0, .int .i64 0, .int .i64 0, .int .i64 0, .int .i64 0, .int .i64 0, .int .i64 0, .int .i64 0, .int .i64 0, .int .i64 0])) := by
  rw [frV_is]
  rcases as_ways xs f t r l u v m with ⟨h1, h2, h3⟩ | ⟨h1, h2⟩
  · refine .inl ⟨h1, ?_⟩
    rcases fr_ways xs f t r l u v m with ⟨_, _, e1, e2, e3, _⟩ | ⟨h4, _⟩ | ⟨h4, _⟩
    · rw [e1, e2, e3, h2]; rfl
    · rw [h2] at h4; exact absurd h4 h3
    · rw [h2] at h4; exact absurd h4 h3
  · by_cases h5 : pfC f t r l u v m = 0
    · rw [h5] at h2
      refine .inr (.inr ⟨h1, h5, ?_, ?_⟩)
      · intro k x hk hl hx
        rcases fr_ways xs f t r l u v m with ⟨_, h4, _⟩ | ⟨_, h4, _⟩ | ⟨_, _, e1, e2, e3, _⟩
        · exact absurd h2 h4
        · omega
        · rw [e1, e2, e3, hk, hx]
      · intro hk
        rcases fr_ways xs f t r l u v m with ⟨_, h4, _⟩ | ⟨_, h4, e1, e2, e3, _⟩ | ⟨_, h4, _⟩
        · exact absurd h2 h4
        · rw [e1, e2, e3]; rfl
        · omega
    · refine .inr (.inl ⟨h1, by simpa using h5, ?_⟩)
      rcases fr_ways xs f t r l u v m with ⟨_, _, e1, e2, e3, _⟩ | ⟨h4, _⟩ | ⟨h4, _⟩
      · rw [e1, e2, e3, h2]; rfl
      · rw [h2] at h4; exact absurd h4 h5
      · rw [h2] at h4; exact absurd h4 h5

set_option maxRecDepth 20000 in
set_option maxHeartbeats 4000000 in
theorem implFirstRule_ok (a : Option Addr) (n ca : Nat) (xs : List R11) (f t r l u v : Int) (s : Option Addr) (m cs : Nat) (w : World) (ha : RdRule w a xs) (hn : xs.length = n) (hx : n ≤ maxLen) :
    Calls Tryd.prog 15 #[.slice a n ca, .agg #[.int .i64 f, .int .i64 t, .int .i64 r, .int .i64 l, .int .i64 u, .int .i64 v, .slice s m cs]] w fun e w' => e = .returned (frV xs f t r l u v m) ∧ Below w.heap.size w w' := by
  have CP := Hid.mk (fun w h => implPolicyFault_ok a n ca xs w h hn hx)
  have CQ := Hid.mk (fun w => implPacketFault_ok f t r l u v s m cs w)
  have q0 := build_rr0
  have q1 := build_rr1
  have hw := fr_ways2 xs f t r l u v m
  obtain ⟨A0, hA0⟩ : ∃ A0, frV xs f t r l u v m = A0 := ⟨_, rfl⟩
  rw [hA0] at hw ⊢
  clear hA0
  unfold maxLen at hx
  rcases hw with ⟨h1, e1⟩ | ⟨h1, h2, e1⟩ | ⟨h1, h2, e1, e2⟩
  · replace e1 := Hid.mk e1
    generalize pyC xs = kk at *
    go_enter Tryd.func15, Tryd.ntmps15
    have B := Below.refl w.heap.size w
    replace ha := ha.kept (belowA w (.cells #[.int .i64 f, .int .i64 t, .int .i64 r, .int .i64 l, .int .i64 u, .int .i64 v, .slice s m cs] 26))
    replace B := thenB B (belowA w (.cells #[.int .i64 f, .int .i64 t, .int .i64 r, .int .i64 l, .int .i64 u, .int .i64 v, .slice s m cs] 26))
    have VP := V.new w [.int .i64 f, .int .i64 t, .int .i64 r, .int .i64 l, .int .i64 u, .int .i64 v, .slice s m cs] 26
    replace VP := VP.kept (belowA (w.alloc (.cells #[.int .i64 f, .int .i64 t, .int .i64 r, .int .i64 l, .int .i64 u, .int .i64 v, .slice s m cs] 26)) (.cells #[.int .i64 0, .int .i64 0, .int .i64 0, .int .i64 0, .int .i64 0, .int .i64 0, .int .i64 0, .int .i64 0, .int .i64 0, .int .i64 0, .int .i64 0, .int .i64 0, .int .i64 0] 36))
    replace ha := ha.kept (belowA (w.alloc (.cells #[.int .i64 f, .int .i64 t, .int .i64 r, .int .i64 l, .int .i64 u, .int .i64 v, .slice s m cs] 26)) (.cells #[.int .i64 0, .int .i64 0, .int .i64 0, .int .i64 0, .int .i64 0, .int .i64 0, .int .i64 0, .int .i64 0, .int .i64 0, .int .i64 0, .int .i64 0, .int .i64 0, .int .i64 0] 36))
    replace B := thenB B (belowA (w.alloc (.cells #[.int .i64 f, .int .i64 t, .int .i64 r, .int .i64 l, .int .i64 u, .int .i64 v, .slice s m cs] 26)) (.cells #[.int .i64 0, .int .i64 0, .int .i64 0, .int .i64 0, .int .i64 0, .int .i64 0, .int .i64 0, .int .i64 0, .int .i64 0, .int .i64 0, .int .i64 0, .int .i64 0, .int .i64 0] 36))
    have VR : V ((w.alloc (.cells #[.int .i64 f, .int .i64 t, .int .i64 r, .int .i64 l, .int .i64 u, .int .i64 v, .slice s m cs] 26)).alloc (.cells #[.int .i64 0, .int .i64 0, .int .i64 0, .int .i64 0, .int .i64 0, .int .i64 0, .int .i64 0, .int .i64 0, .int .i64 0, .int .i64 0, .int .i64 0, .int .i64 0, .int .i64 0] 36)) (w.heap.size + 1) [.int .i64 0, .int .i64 0, .int .i64 0, .int .i64 0, .int .i64 0, .int .i64 0, .int .i64 0, .int .i64 0, .int .i64 0, .int .i64 0, .int .i64 0, .int .i64 0, .int .i64 0] := V.newAt _ _ _ _ (by simp)
    obtain ⟨s_VP, f_VP, z_VP⟩ := VP.open
    obtain ⟨s_VR, f_VR, z_VR⟩ := VR.open
    have Bo := B
    go_wp2_with fail
    refine (CP.out _ ha).mono ?_
    rintro e w1 ⟨rfl, b1⟩
    clear s_VP f_VP z_VP s_VR f_VR z_VR
    have S1 := b1.size
    simp only [World.size_alloc] at S1
    replace VP := VP.kept b1
    replace VR := VR.kept b1
    replace ha := ha.kept b1
    replace B := thenB B b1
    clear b1
    obtain ⟨s_VP, f_VP, z_VP⟩ := VP.open
    obtain ⟨s_VR, f_VR, z_VR⟩ := VR.open
    have Bo := B
    clear s_VP f_VP z_VP s_VR f_VR z_VR
    have VF := Hid.mk (VR.filled [.int .i64 kk, .int .i64 0, .int .i64 0, .int .i64 0, .int .i64 0, .int .i64 0, .int .i64 0, .int .i64 0, .int .i64 0, .int .i64 0, .int .i64 0, .int .i64 0, .int .i64 0] rfl)
    have BR := belowCells B (show w.heap.size ≤ w.heap.size + 1 by (first | omega | (simp; done) | (simp; omega))) 0 [.int .i64 kk, .int .i64 0, .int .i64 0, .int .i64 0, .int .i64 0, .int .i64 0, .int .i64 0, .int .i64 0, .int .i64 0, .int .i64 0, .int .i64 0, .int .i64 0, .int .i64 0]
    have HT := Hid.mk VR.there
    replace BR := Hid.mk BR
    obtain ⟨s_VP, f_VP, z_VP⟩ := VP.open
    obtain ⟨s_VR, f_VR, z_VR⟩ := VR.open
    go_wp2_with (refine wpList_store_mid rfl 36 _ _ rfl (w.heap.size + 1) 0 #[.int .i64 kk, .int .i64 0, .int .i64 0, .int .i64 0, .int .i64 0, .int .i64 0, .int .i64 0, .int .i64 0, .int .i64 0, .int .i64 0, .int .i64 0, .int .i64 0, .int .i64 0] rfl rfl HT.out (by kernel_rfl) (by kernel_rfl) ?_)
    refine bodyPost_ret (v := .agg #[.int .i64 kk, .int .i64 0, .int .i64 0, .int .i64 0, .int .i64 0, .int .i64 0, .int .i64 0, .int .i64 0, .int .i64 0, .int .i64 0, .int .i64 0, .int .i64 0, .int .i64 0]) (results_row Tryd.results15 _ _ (w.heap.size + 1) [.int .i64 kk, .int .i64 0, .int .i64 0, .int .i64 0, .int .i64 0, .int .i64 0, .int .i64 0, .int .i64 0, .int .i64 0, .int .i64 0, .int .i64 0, .int .i64 0, .int .i64 0] _ rfl VF.out Tryd.underlying36 rfl (by kernel_rfl)) rfl ⟨by rw [e1.out], BR.out⟩
  · replace e1 := Hid.mk e1
    rw [h1] at CP
    generalize pfC f t r l u v m = kk at *
    go_enter Tryd.func15, Tryd.ntmps15
    have B := Below.refl w.heap.size w
    replace ha := ha.kept (belowA w (.cells #[.int .i64 f, .int .i64 t, .int .i64 r, .int .i64 l, .int .i64 u, .int .i64 v, .slice s m cs] 26))
    replace B := thenB B (belowA w (.cells #[.int .i64 f, .int .i64 t, .int .i64 r, .int .i64 l, .int .i64 u, .int .i64 v, .slice s m cs] 26))
    have VP := V.new w [.int .i64 f, .int .i64 t, .int .i64 r, .int .i64 l, .int .i64 u, .int .i64 v, .slice s m cs] 26
    replace VP := VP.kept (belowA (w.alloc (.cells #[.int .i64 f, .int .i64 t, .int .i64 r, .int .i64 l, .int .i64 u, .int .i64 v, .slice s m cs] 26)) (.cells #[.int .i64 0, .int .i64 0, .int .i64 0, .int .i64 0, .int .i64 0, .int .i64 0, .int .i64 0, .int .i64 0, .int .i64 0, .int .i64 0, .int .i64 0, .int .i64 0, .int .i64 0] 36))
    replace ha := ha.kept (belowA (w.alloc (.cells #[.int .i64 f, .int .i64 t, .int .i64 r, .int .i64 l, .int .i64 u, .int .i64 v, .slice s m cs] 26)) (.cells #[.int .i64 0, .int .i64 0, .int .i64 0, .int .i64 0, .int .i64 0, .int .i64 0, .int .i64 0, .int .i64 0, .int .i64 0, .int .i64 0, .int .i64 0, .int .i64 0, .int .i64 0] 36))
    replace B := thenB B (belowA (w.alloc (.cells #[.int .i64 f, .int .i64 t, .int .i64 r, .int .i64 l, .int .i64 u, .int .i64 v, .slice s m cs] 26)) (.cells #[.int .i64 0, .int .i64 0, .int .i64 0, .int .i64 0, .int .i64 0, .int .i64 0, .int .i64 0, .int .i64 0, .int .i64 0, .int .i64 0, .int .i64 0, .int .i64 0, .int .i64 0] 36))
    have VR : V ((w.alloc (.cells #[.int .i64 f, .int .i64 t, .int .i64 r, .int .i64 l, .int .i64 u, .int .i64 v, .slice s m cs] 26)).alloc (.cells #[.int .i64 0, .int .i64 0, .int .i64 0, .int .i64 0, .int .i64 0, .int .i64 0, .int .i64 0, .int .i64 0, .int .i64 0, .int .i64 0, .int .i64 0, .int .i64 0, .int .i64 0] 36)) (w.heap.size + 1) [.int .i64 0, .int .i64 0, .int .i64 0, .int .i64 0, .int .i64 0, .int .i64 0, .int .i64 0, .int .i64 0, .int .i64 0, .int .i64 0, .int .i64 0, .int .i64 0, .int .i64 0] := V.newAt _ _ _ _ (by simp)
    obtain ⟨s_VP, f_VP, z_VP⟩ := VP.open
    obtain ⟨s_VR, f_VR, z_VR⟩ := VR.open
    have Bo := B
    go_wp2_with fail
    refine (CP.out _ ha).mono ?_
    rintro e w11 ⟨rfl, b11⟩
    clear s_VP f_VP z_VP s_VR f_VR z_VR
    have S11 := b11.size
    simp only [World.size_alloc] at S11
    replace VP := VP.kept b11
    replace VR := VR.kept b11
    replace ha := ha.kept b11
    replace B := thenB B b11
    clear b11
    obtain ⟨s_VP, f_VP, z_VP⟩ := VP.open
    obtain ⟨s_VR, f_VR, z_VR⟩ := VR.open
    have Bo := B
    go_wp2_with fail
    refine (CQ.out _).mono ?_
    rintro e w12 ⟨rfl, b12⟩
    clear s_VP f_VP z_VP s_VR f_VR z_VR
    have S12 := b12.size
    replace VP := VP.kept b12
    replace VR := VR.kept b12
    replace ha := ha.kept b12
    replace B := thenB B b12
    clear b12
    obtain ⟨s_VP, f_VP, z_VP⟩ := VP.open
    obtain ⟨s_VR, f_VR, z_VR⟩ := VR.open
    have Bo := B
    clear s_VP f_VP z_VP s_VR f_VR z_VR
    have VF := Hid.mk (VR.filled [.int .i64 kk, .int .i64 0, .int .i64 0, .int .i64 0, .int .i64 0, .int .i64 0, .int .i64 0, .int .i64 0, .int .i64 0, .int .i64 0, .int .i64 0, .int .i64 0, .int .i64 0] rfl)
    have BR := belowCells B (show w.heap.size ≤ w.heap.size + 1 by (first | omega | (simp; done) | (simp; omega))) 0 [.int .i64 kk, .int .i64 0, .int .i64 0, .int .i64 0, .int .i64 0, .int .i64 0, .int .i64 0, .int .i64 0, .int .i64 0, .int .i64 0, .int .i64 0, .int .i64 0, .int .i64 0]
    have HT := Hid.mk VR.there
    replace BR := Hid.mk BR
    obtain ⟨s_VP, f_VP, z_VP⟩ := VP.open
    obtain ⟨s_VR, f_VR, z_VR⟩ := VR.open
    go_wp2_with (refine wpList_store_mid rfl 36 _ _ rfl (w.heap.size + 1) 0 #[.int .i64 kk, .int .i64 0, .int .i64 0, .int .i64 0, .int .i64 0, .int .i64 0, .int .i64 0, .int .i64 0, .int .i64 0, .int .i64 0, .int .i64 0, .int .i64 0, .int .i64 0] rfl rfl HT.out (by kernel_rfl) (by kernel_rfl) ?_)
    refine bodyPost_ret (v := .agg #[.int .i64 kk, .int .i64 0, .int .i64 0, .int .i64 0, .int .i64 0, .int .i64 0, .int .i64 0, .int .i64 0, .int .i64 0, .int .i64 0, .int .i64 0, .int .i64 0, .int .i64 0]) (results_row Tryd.results15 _ _ (w.heap.size + 1) [.int .i64 kk, .int .i64 0, .int .i64 0, .int .i64 0, .int .i64 0, .int .i64 0, .int .i64 0, .int .i64 0, .int .i64 0, .int .i64 0, .int .i64 0, .int .i64 0, .int .i64 0] _ rfl VF.out Tryd.underlying36 rfl (by kernel_rfl)) rfl ⟨by rw [e1.out], BR.out⟩
  · have hz := (pyC_zero h1).2
    rw [h1] at CP
    rw [h2] at CQ
    have hho : ∀ k, k < xs.length → hoP (xs.getD k zRule).s f t r l u v m = inP (xs.getD k zRule).s f t r u v := fun k hk => hoP_in (ru_zero (hz _ (getDRule_mem hk))).1 h2
    replace hho := Hid.mk hho
    replace e1 := Hid.mk e1
    replace e2 := Hid.mk e2
    clear hz h1 h2
    go_enter Tryd.func15, Tryd.ntmps15
    have B := Below.refl w.heap.size w
    replace ha := ha.kept (belowA w (.cells #[.int .i64 f, .int .i64 t, .int .i64 r, .int .i64 l, .int .i64 u, .int .i64 v, .slice s m cs] 26))
    replace B := thenB B (belowA w (.cells #[.int .i64 f, .int .i64 t, .int .i64 r, .int .i64 l, .int .i64 u, .int .i64 v, .slice s m cs] 26))
    have VP := V.new w [.int .i64 f, .int .i64 t, .int .i64 r, .int .i64 l, .int .i64 u, .int .i64 v, .slice s m cs] 26
    replace VP := VP.kept (belowA (w.alloc (.cells #[.int .i64 f, .int .i64 t, .int .i64 r, .int .i64 l, .int .i64 u, .int .i64 v, .slice s m cs] 26)) (.cells #[.int .i64 0, .int .i64 0, .int .i64 0, .int .i64 0, .int .i64 0, .int .i64 0, .int .i64 0, .int .i64 0, .int .i64 0, .int .i64 0, .int .i64 0, .int .i64 0, .int .i64 0] 36))
    replace ha := ha.kept (belowA (w.alloc (.cells #[.int .i64 f, .int .i64 t, .int .i64 r, .int .i64 l, .int .i64 u, .int .i64 v, .slice s m cs] 26)) (.cells #[.int .i64 0, .int .i64 0, .int .i64 0, .int .i64 0, .int .i64 0, .int .i64 0, .int .i64 0, .int .i64 0, .int .i64 0, .int .i64 0, .int .i64 0, .int .i64 0, .int .i64 0] 36))
    replace B := thenB B (belowA (w.alloc (.cells #[.int .i64 f, .int .i64 t, .int .i64 r, .int .i64 l, .int .i64 u, .int .i64 v, .slice s m cs] 26)) (.cells #[.int .i64 0, .int .i64 0, .int .i64 0, .int .i64 0, .int .i64 0, .int .i64 0, .int .i64 0, .int .i64 0, .int .i64 0, .int .i64 0, .int .i64 0, .int .i64 0, .int .i64 0] 36))
    have VR : V ((w.alloc (.cells #[.int .i64 f, .int .i64 t, .int .i64 r, .int .i64 l, .int .i64 u, .int .i64 v, .slice s m cs] 26)).alloc (.cells #[.int .i64 0, .int .i64 0, .int .i64 0, .int .i64 0, .int .i64 0, .int .i64 0, .int .i64 0, .int .i64 0, .int .i64 0, .int .i64 0, .int .i64 0, .int .i64 0, .int .i64 0] 36)) (w.heap.size + 1) [.int .i64 0, .int .i64 0, .int .i64 0, .int .i64 0, .int .i64 0, .int .i64 0, .int .i64 0, .int .i64 0, .int .i64 0, .int .i64 0, .int .i64 0, .int .i64 0, .int .i64 0] := V.newAt _ _ _ _ (by simp)
    obtain ⟨s_VP, f_VP, z_VP⟩ := VP.open
    obtain ⟨s_VR, f_VR, z_VR⟩ := VR.open
    have Bo := B
    go_wp2_with fail
    refine (CP.out _ ha).mono ?_
    rintro e w21 ⟨rfl, b21⟩
    clear s_VP f_VP z_VP s_VR f_VR z_VR
    have S21 := b21.size
    simp only [World.size_alloc] at S21
    replace VP := VP.kept b21
    replace VR := VR.kept b21
    replace ha := ha.kept b21
    replace B := thenB B b21
    clear b21
    obtain ⟨s_VP, f_VP, z_VP⟩ := VP.open
    obtain ⟨s_VR, f_VR, z_VR⟩ := VR.open
    have Bo := B
    go_wp2_with fail
    refine (CQ.out _).mono ?_
    rintro e w22 ⟨rfl, b22⟩
    clear s_VP f_VP z_VP s_VR f_VR z_VR
    have S22 := b22.size
    replace VP := VP.kept b22
    replace VR := VR.kept b22
    replace ha := ha.kept b22
    replace B := thenB B b22
    clear b22
    obtain ⟨s_VP, f_VP, z_VP⟩ := VP.open
    obtain ⟨s_VR, f_VR, z_VR⟩ := VR.open
    have Bo := B
    clear s_VP f_VP z_VP s_VR f_VR z_VR
    replace VP := Hid.mk VP
    replace VR := Hid.mk VR
    replace B := Hid.mk B
    replace ha := Hid.mk ha
    clear Bo
    go_wp2
    go_loopw [23] (fun i wr => ∃ k : Nat, k ≤ n ∧ k ≤ fstK xs f t r u v ∧ i = .int .i64 k ∧ V wr w.heap.size [.int .i64 f, .int .i64 t, .int .i64 r, .int .i64 l, .int .i64 u, .int .i64 v, .slice s m cs] ∧ V wr (w.heap.size + 1) [.int .i64 0, .int .i64 0, .int .i64 0, .int .i64 0, .int .i64 0, .int .i64 0, .int .i64 0, .int .i64 0, .int .i64 0, .int .i64 0, .int .i64 0, .int .i64 0, .int .i64 0] ∧ RdRule wr a xs ∧ Below w.heap.size w wr) (fun i _ => n - (intOf i).toNat)
    case atStart => exact ⟨0, Nat.zero_le _, Nat.zero_le _, rfl, VP.out, VR.out, ha.out, B.out⟩
    case round =>
      clear VP VR B ha
      obtain ⟨k, hk, hkf, rfl, VP, VR, ha, B⟩ := hrel
      by_cases hlt : k < n
      · obtain ⟨x, hx1⟩ : ∃ x, xs.getD k zRule = x := ⟨_, rfl⟩
        have hk1 : (k : Int) < (n : Int) := by omega
        have hst := fst_step hkf (by omega) hx1
        have hh := hho.out k (by omega)
        rw [hx1] at hh
        have CH := Hid.mk (fun w => implHolds_ok x.s f t r l u v s m cs w)
        rw [hh] at CH
        have HA := Hid.mk ha
        rcases ha with ha | ⟨b1, o1, rfl, hca⟩
        · simp [ha] at hn; omega
        have HQ := RdRule.cells hca k (by omega) x hx1
        have hx2 := Hid.mk hx1
        clear hca hx1 hh
        obtain ⟨p0, p1, p2, p3, p4, p5, p6, p7, p8, p9, p10⟩ := HQ
        generalize inP x.s f t r u v = c at *
        replace hst := Hid.mk hst
        have hVR := VR.1
        replace VP := VP.kept (belowA wr (.cells #[.int .i64 x.s.a, .int .i64 x.s.b, .int .i64 x.s.c, .int .i64 x.s.d, .int .i64 x.s.e, .int .i64 x.s.f, .int .i64 x.s.g, .int .i64 x.s.h, .int .i64 x.s.r, .int .i64 x.p, .int .i64 x.q] 34))
        replace VR := VR.kept (belowA wr (.cells #[.int .i64 x.s.a, .int .i64 x.s.b, .int .i64 x.s.c, .int .i64 x.s.d, .int .i64 x.s.e, .int .i64 x.s.f, .int .i64 x.s.g, .int .i64 x.s.h, .int .i64 x.s.r, .int .i64 x.p, .int .i64 x.q] 34))
        replace B := thenB B (belowA wr (.cells #[.int .i64 x.s.a, .int .i64 x.s.b, .int .i64 x.s.c, .int .i64 x.s.d, .int .i64 x.s.e, .int .i64 x.s.f, .int .i64 x.s.g, .int .i64 x.s.h, .int .i64 x.s.r, .int .i64 x.p, .int .i64 x.q] 34))
        have VX := V.new wr [.int .i64 x.s.a, .int .i64 x.s.b, .int .i64 x.s.c, .int .i64 x.s.d, .int .i64 x.s.e, .int .i64 x.s.f, .int .i64 x.s.g, .int .i64 x.s.h, .int .i64 x.s.r, .int .i64 x.p, .int .i64 x.q] 34
        obtain ⟨s_VP, f_VP, z_VP⟩ := VP.open
        obtain ⟨s_VR, f_VR, z_VR⟩ := VR.open
        obtain ⟨s_VX, f_VX, z_VX⟩ := VX.open
        have Bo := B
        replace HA := Hid.mk (HA.out.kept (belowA wr (.cells #[.int .i64 x.s.a, .int .i64 x.s.b, .int .i64 x.s.c, .int .i64 x.s.d, .int .i64 x.s.e, .int .i64 x.s.f, .int .i64 x.s.g, .int .i64 x.s.h, .int .i64 x.s.r, .int .i64 x.p, .int .i64 x.q] 34)))
        go_wp2_with fail
        refine (CH.out _).mono ?_
        rintro e w41 ⟨rfl, b41⟩
        clear s_VP f_VP z_VP s_VR f_VR z_VR s_VX f_VX z_VX
        have S41 := b41.size
        simp only [World.size_alloc] at S41
        replace VP := VP.kept b41
        replace VR := VR.kept b41
        replace VX := VX.kept b41
        replace B := thenB B b41
        replace HA := Hid.mk (HA.out.kept b41)
        clear b41
        obtain ⟨s_VP, f_VP, z_VP⟩ := VP.open
        obtain ⟨s_VR, f_VR, z_VR⟩ := VR.open
        obtain ⟨s_VX, f_VX, z_VX⟩ := VX.open
        have Bo := B
        clear p0 p1 p2 p3 p4 p5 p6 p7 p8 p9 p10
        cases c
        · have hn1 := hst.out.2 rfl
          replace hn1 := Hid.mk hn1
          clear s_VP f_VP z_VP s_VR f_VR z_VR s_VX f_VX z_VX
          replace VP := Hid.mk VP
          replace VR := Hid.mk VR
          replace B := Hid.mk B
          clear Bo VX
          go_wp2
          go_roundw
          case rel => exact ⟨k + 1, by omega, hn1.out, by go_num, VP.out, VR.out, HA.out, B.out⟩
          case measure => simp [intOf]; omega
        · have hn1 := hst.out.1 rfl
          have e3 := Hid.mk (e1.out k x hn1 (by omega) hx2.out)
          clear hn1
          clear s_VP f_VP z_VP s_VR f_VR z_VR s_VX f_VX z_VX
          have VF := Hid.mk (VR.filled [.int .i64 0, .int .i64 k, .int .i64 x.s.a, .int .i64 x.s.b, .int .i64 x.s.c, .int .i64 x.s.d, .int .i64 x.s.e, .int .i64 x.s.f, .int .i64 x.s.g, .int .i64 x.s.h, .int .i64 x.s.r, .int .i64 x.p, .int .i64 x.q] rfl)
          have BR := belowCells B (show w.heap.size ≤ w.heap.size + 1 by (first | omega | (simp; done) | (simp; omega))) 0 [.int .i64 0, .int .i64 k, .int .i64 x.s.a, .int .i64 x.s.b, .int .i64 x.s.c, .int .i64 x.s.d, .int .i64 x.s.e, .int .i64 x.s.f, .int .i64 x.s.g, .int .i64 x.s.h, .int .i64 x.s.r, .int .i64 x.p, .int .i64 x.q]
          have HT := Hid.mk VR.there
          replace BR := Hid.mk BR
          obtain ⟨s_VP, f_VP, z_VP⟩ := VP.open
          obtain ⟨s_VR, f_VR, z_VR⟩ := VR.open
          obtain ⟨s_VX, f_VX, z_VX⟩ := VX.open
          go_wp2_with (refine wpList_store_mid rfl 36 _ _ rfl (w.heap.size + 1) 0 #[.int .i64 0, .int .i64 k, .int .i64 x.s.a, .int .i64 x.s.b, .int .i64 x.s.c, .int .i64 x.s.d, .int .i64 x.s.e, .int .i64 x.s.f, .int .i64 x.s.g, .int .i64 x.s.h, .int .i64 x.s.r, .int .i64 x.p, .int .i64 x.q] rfl rfl HT.out (by kernel_rfl) (by kernel_rfl) ?_)
          refine bodyPost_ret (v := .agg #[.int .i64 0, .int .i64 k, .int .i64 x.s.a, .int .i64 x.s.b, .int .i64 x.s.c, .int .i64 x.s.d, .int .i64 x.s.e, .int .i64 x.s.f, .int .i64 x.s.g, .int .i64 x.s.h, .int .i64 x.s.r, .int .i64 x.p, .int .i64 x.q]) (results_row Tryd.results15 _ _ (w.heap.size + 1) [.int .i64 0, .int .i64 k, .int .i64 x.s.a, .int .i64 x.s.b, .int .i64 x.s.c, .int .i64 x.s.d, .int .i64 x.s.e, .int .i64 x.s.f, .int .i64 x.s.g, .int .i64 x.s.h, .int .i64 x.s.r, .int .i64 x.p, .int .i64 x.q] _ rfl VF.out Tryd.underlying36 rfl (by kernel_rfl)) rfl ⟨by rw [e3.out], BR.out⟩
      · have hz := fstK_le xs f t r u v
        have e3 := Hid.mk (e2.out (by omega))
        have hVR := VR.1
        clear hz hkf
        obtain ⟨s_VP, f_VP, z_VP⟩ := VP.open
        obtain ⟨s_VR, f_VR, z_VR⟩ := VR.open
        have Bo := B
        clear s_VP f_VP z_VP s_VR f_VR z_VR
        have VF := Hid.mk (VR.filled [.int .i64 4, .int .i64 0, .int .i64 0, .int .i64 0, .int .i64 0, .int .i64 0, .int .i64 0, .int .i64 0, .int .i64 0, .int .i64 0, .int .i64 0, .int .i64 0, .int .i64 0] rfl)
        have BR := belowCells B (show w.heap.size ≤ w.heap.size + 1 by (first | omega | (simp; done) | (simp; omega))) 0 [.int .i64 4, .int .i64 0, .int .i64 0, .int .i64 0, .int .i64 0, .int .i64 0, .int .i64 0, .int .i64 0, .int .i64 0, .int .i64 0, .int .i64 0, .int .i64 0, .int .i64 0]
        have HT := Hid.mk VR.there
        replace BR := Hid.mk BR
        obtain ⟨s_VP, f_VP, z_VP⟩ := VP.open
        obtain ⟨s_VR, f_VR, z_VR⟩ := VR.open
        go_wp2_with (refine wpList_store_mid rfl 36 _ _ rfl (w.heap.size + 1) 0 #[.int .i64 4, .int .i64 0, .int .i64 0, .int .i64 0, .int .i64 0, .int .i64 0, .int .i64 0, .int .i64 0, .int .i64 0, .int .i64 0, .int .i64 0, .int .i64 0, .int .i64 0] rfl rfl HT.out (by kernel_rfl) (by kernel_rfl) ?_)
        refine bodyPost_ret (v := .agg #[.int .i64 4, .int .i64 0, .int .i64 0, .int .i64 0, .int .i64 0, .int .i64 0, .int .i64 0, .int .i64 0, .int .i64 0, .int .i64 0, .int .i64 0, .int .i64 0, .int .i64 0]) (results_row Tryd.results15 _ _ (w.heap.size + 1) [.int .i64 4, .int .i64 0, .int .i64 0, .int .i64 0, .int .i64 0, .int .i64 0, .int .i64 0, .int .i64 0, .int .i64 0, .int .i64 0, .int .i64 0, .int .i64 0, .int .i64 0] _ rfl VF.out Tryd.underlying36 rfl (by kernel_rfl)) rfl ⟨by rw [e3.out], BR.out⟩

theorem af_ways2 (xs : List R11) (f t r l u v : Int) (m : Nat) :
    (∃ c : Int, asC xs f t r l u v m = c ∧ afV xs f t r l u v m = 0 ∧ (c == 0) = false ∧ (c == 4) = false ∧ frV xs f t r l u v m = .agg #[.int .i64 c, .int .i64 0, .int .i64 0, .int .i64 0, .int .i64 0, .int .i64 0, .int .i64 0, .int .i64 0, .int .i64 0, .int .i64 0, .int .i64 0, .int .i64 0, .int .i64 0]) ∨
    (asC xs f t r l u v m = 0 ∧ afV xs f t r l u v m = 1 ∧ frV xs f t r l u v m = .agg #[.int .i64 4, .int .i64 0, .int .i64 0, .int .i64 0, .int .i64 0, .int .i64 0, .int .i64 0, .int .i64 0, .int .i64 0, .int .i64 0, .int .i64 0, .int .i64 0, .int .i64 0]) ∨
    (∃ (k : Nat) (x : R11), asC xs f t r l u v m = 0 ∧ afV xs f t r l u v m = x.p ∧ frV xs f t r l u v m = .agg #[.int .i64 0, .int .i64 k, .int .i64 x.s.a, .int .i64 x.s.b, .int .i64 x.s.c, .int .i64 x.s.d, .int .i64 x.s.e, .int .i64 x.s.f, .int .i64 x.s.g, .int .i64 x.s.h, .int .i64 x.s.r, .int .i64 x.p, .int .i64 x.q]) := by
  rw [frV_is]
  have hc := as_codes xs f t r l u v m
  rcases fr_ways xs f t r l u v m with ⟨_, h1, e1, e2, e3, e4⟩ | ⟨h1, _, e1, e2, e3, e4⟩ | ⟨h1, _, e1, e2, e3, e4⟩
  · refine .inl ⟨_, rfl, e4, by simpa using h1, by simp; omega, ?_⟩
    rw [e1, e2, e3]; rfl
  · refine .inr (.inl ⟨h1, e4, ?_⟩)
    rw [e1, e2, e3]; rfl
  · refine .inr (.inr ⟨fstK xs f t r u v, xs.getD (fstK xs f t r u v) zRule, h1, e4, ?_⟩)
    rw [e1, e2, e3]

set_option maxRecDepth 20000 in
set_option maxHeartbeats 4000000 in
theorem implActionFor_ok (a : Option Addr) (n ca : Nat) (xs : List R11) (f t r l u v : Int) (s : Option Addr) (m cs : Nat) (w : World) (ha : RdRule w a xs) (hn : xs.length = n) (hx : n ≤ maxLen) :
    Calls Tryd.prog 16 #[.slice a n ca, .agg #[.int .i64 f, .int .i64 t, .int .i64 r, .int .i64 l, .int .i64 u, .int .i64 v, .slice s m cs]] w fun e w' => e = .returned (.agg #[.int .i64 (asC xs f t r l u v m), .int .i64 (afV xs f t r l u v m)]) ∧ Below w.heap.size w w' := by
  have CF := Hid.mk (fun w h => implFirstRule_ok a n ca xs f t r l u v s m cs w h hn hx)
  have q2 := build_ir0
  have q3 := build_ir1
  rcases af_ways2 xs f t r l u v m with ⟨c, h1, h2, h3, h4, e1⟩ | ⟨h1, h2, e1⟩ | ⟨k, x, h1, h2, e1⟩
  · rw [h1, h2]
    rw [e1] at CF
    clear h1 h2 e1
    go_enter Tryd.func16, Tryd.ntmps16
    have B := Below.refl w.heap.size w
    replace ha := ha.kept (belowA w (.cells #[.int .i64 f, .int .i64 t, .int .i64 r, .int .i64 l, .int .i64 u, .int .i64 v, .slice s m cs] 26))
    replace B := thenB B (belowA w (.cells #[.int .i64 f, .int .i64 t, .int .i64 r, .int .i64 l, .int .i64 u, .int .i64 v, .slice s m cs] 26))
    have VP := V.new w [.int .i64 f, .int .i64 t, .int .i64 r, .int .i64 l, .int .i64 u, .int .i64 v, .slice s m cs] 26
    replace VP := VP.kept (belowA (w.alloc (.cells #[.int .i64 f, .int .i64 t, .int .i64 r, .int .i64 l, .int .i64 u, .int .i64 v, .slice s m cs] 26)) (.cells #[.int .i64 0, .int .i64 0] 39))
    replace ha := ha.kept (belowA (w.alloc (.cells #[.int .i64 f, .int .i64 t, .int .i64 r, .int .i64 l, .int .i64 u, .int .i64 v, .slice s m cs] 26)) (.cells #[.int .i64 0, .int .i64 0] 39))
    replace B := thenB B (belowA (w.alloc (.cells #[.int .i64 f, .int .i64 t, .int .i64 r, .int .i64 l, .int .i64 u, .int .i64 v, .slice s m cs] 26)) (.cells #[.int .i64 0, .int .i64 0] 39))
    have VR : V ((w.alloc (.cells #[.int .i64 f, .int .i64 t, .int .i64 r, .int .i64 l, .int .i64 u, .int .i64 v, .slice s m cs] 26)).alloc (.cells #[.int .i64 0, .int .i64 0] 39)) (w.heap.size + 1) [.int .i64 0, .int .i64 0] := V.newAt _ _ _ _ (by simp)
    obtain ⟨s_VP, f_VP, z_VP⟩ := VP.open
    obtain ⟨s_VR, f_VR, z_VR⟩ := VR.open
    have Bo := B
    go_wp2_with fail
    refine (CF.out _ ha).mono ?_
    rintro e w1 ⟨rfl, b1⟩
    clear s_VP f_VP z_VP s_VR f_VR z_VR
    have S1 := b1.size
    simp only [World.size_alloc] at S1
    replace VP := VP.kept b1
    replace VR := VR.kept b1
    replace ha := ha.kept b1
    replace B := thenB B b1
    clear b1
    obtain ⟨s_VP, f_VP, z_VP⟩ := VP.open
    obtain ⟨s_VR, f_VR, z_VR⟩ := VR.open
    have Bo := B
    replace VP := VP.kept (belowA w1 (.cells #[.int .i64 c, .int .i64 0, .int .i64 0, .int .i64 0, .int .i64 0, .int .i64 0, .int .i64 0, .int .i64 0, .int .i64 0, .int .i64 0, .int .i64 0, .int .i64 0, .int .i64 0] 36))
    replace VR := VR.kept (belowA w1 (.cells #[.int .i64 c, .int .i64 0, .int .i64 0, .int .i64 0, .int .i64 0, .int .i64 0, .int .i64 0, .int .i64 0, .int .i64 0, .int .i64 0, .int .i64 0, .int .i64 0, .int .i64 0] 36))
    replace ha := ha.kept (belowA w1 (.cells #[.int .i64 c, .int .i64 0, .int .i64 0, .int .i64 0, .int .i64 0, .int .i64 0, .int .i64 0, .int .i64 0, .int .i64 0, .int .i64 0, .int .i64 0, .int .i64 0, .int .i64 0] 36))
    replace B := thenB B (belowA w1 (.cells #[.int .i64 c, .int .i64 0, .int .i64 0, .int .i64 0, .int .i64 0, .int .i64 0, .int .i64 0, .int .i64 0, .int .i64 0, .int .i64 0, .int .i64 0, .int .i64 0, .int .i64 0] 36))
    have VF1 := V.new w1 [.int .i64 c, .int .i64 0, .int .i64 0, .int .i64 0, .int .i64 0, .int .i64 0, .int .i64 0, .int .i64 0, .int .i64 0, .int .i64 0, .int .i64 0, .int .i64 0, .int .i64 0] 36
    clear s_VP f_VP z_VP s_VR f_VR z_VR
    obtain ⟨s_VP, f_VP, z_VP⟩ := VP.open
    obtain ⟨s_VR, f_VR, z_VR⟩ := VR.open
    obtain ⟨s_VF1, f_VF1, z_VF1⟩ := VF1.open
    replace Bo := B
    clear s_VP f_VP z_VP s_VR f_VR z_VR s_VF1 f_VF1 z_VF1
    have VF := Hid.mk (VR.filled [.int .i64 c, .int .i64 0] rfl)
    have BR := belowCells B (show w.heap.size ≤ w.heap.size + 1 by (first | omega | (simp; done) | (simp; omega))) 0 [.int .i64 c, .int .i64 0]
    have HT := Hid.mk VR.there
    replace BR := Hid.mk BR
    obtain ⟨s_VP, f_VP, z_VP⟩ := VP.open
    obtain ⟨s_VR, f_VR, z_VR⟩ := VR.open
    obtain ⟨s_VF1, f_VF1, z_VF1⟩ := VF1.open
    go_wp2_with (refine wpList_store_mid rfl 39 _ _ rfl (w.heap.size + 1) 0 #[.int .i64 c, .int .i64 0] rfl rfl HT.out (by kernel_rfl) (by kernel_rfl) ?_)
    refine bodyPost_ret (v := .agg #[.int .i64 c, .int .i64 0]) (results_row Tryd.results16 _ _ (w.heap.size + 1) [.int .i64 c, .int .i64 0] _ rfl VF.out Tryd.underlying39 rfl (by kernel_rfl)) rfl ⟨rfl, BR.out⟩
  · rw [h1, h2]
    rw [e1] at CF
    clear h1 h2 e1
    go_enter Tryd.func16, Tryd.ntmps16
    have B := Below.refl w.heap.size w
    replace ha := ha.kept (belowA w (.cells #[.int .i64 f, .int .i64 t, .int .i64 r, .int .i64 l, .int .i64 u, .int .i64 v, .slice s m cs] 26))
    replace B := thenB B (belowA w (.cells #[.int .i64 f, .int .i64 t, .int .i64 r, .int .i64 l, .int .i64 u, .int .i64 v, .slice s m cs] 26))
    have VP := V.new w [.int .i64 f, .int .i64 t, .int .i64 r, .int .i64 l, .int .i64 u, .int .i64 v, .slice s m cs] 26
    replace VP := VP.kept (belowA (w.alloc (.cells #[.int .i64 f, .int .i64 t, .int .i64 r, .int .i64 l, .int .i64 u, .int .i64 v, .slice s m cs] 26)) (.cells #[.int .i64 0, .int .i64 0] 39))
    replace ha := ha.kept (belowA (w.alloc (.cells #[.int .i64 f, .int .i64 t, .int .i64 r, .int .i64 l, .int .i64 u, .int .i64 v, .slice s m cs] 26)) (.cells #[.int .i64 0, .int .i64 0] 39))
    replace B := thenB B (belowA (w.alloc (.cells #[.int .i64 f, .int .i64 t, .int .i64 r, .int .i64 l, .int .i64 u, .int .i64 v, .slice s m cs] 26)) (.cells #[.int .i64 0, .int .i64 0] 39))
    have VR : V ((w.alloc (.cells #[.int .i64 f, .int .i64 t, .int .i64 r, .int .i64 l, .int .i64 u, .int .i64 v, .slice s m cs] 26)).alloc (.cells #[.int .i64 0, .int .i64 0] 39)) (w.heap.size + 1) [.int .i64 0, .int .i64 0] := V.newAt _ _ _ _ (by simp)
    obtain ⟨s_VP, f_VP, z_VP⟩ := VP.open
    obtain ⟨s_VR, f_VR, z_VR⟩ := VR.open
    have Bo := B
    go_wp2_with fail
    refine (CF.out _ ha).mono ?_
    rintro e w11 ⟨rfl, b11⟩
    clear s_VP f_VP z_VP s_VR f_VR z_VR
    have S11 := b11.size
    simp only [World.size_alloc] at S11
    replace VP := VP.kept b11
    replace VR := VR.kept b11
    replace ha := ha.kept b11
    replace B := thenB B b11
    clear b11
    obtain ⟨s_VP, f_VP, z_VP⟩ := VP.open
    obtain ⟨s_VR, f_VR, z_VR⟩ := VR.open
    have Bo := B
    replace VP := VP.kept (belowA w11 (.cells #[.int .i64 4, .int .i64 0, .int .i64 0, .int .i64 0, .int .i64 0, .int .i64 0, .int .i64 0, .int .i64 0, .int .i64 0, .int .i64 0, .int .i64 0, .int .i64 0, .int .i64 0] 36))
    replace VR := VR.kept (belowA w11 (.cells #[.int .i64 4, .int .i64 0, .int .i64 0, .int .i64 0, .int .i64 0, .int .i64 0, .int .i64 0, .int .i64 0, .int .i64 0, .int .i64 0, .int .i64 0, .int .i64 0, .int .i64 0] 36))
    replace ha := ha.kept (belowA w11 (.cells #[.int .i64 4, .int .i64 0, .int .i64 0, .int .i64 0, .int .i64 0, .int .i64 0, .int .i64 0, .int .i64 0, .int .i64 0, .int .i64 0, .int .i64 0, .int .i64 0, .int .i64 0] 36))
    replace B := thenB B (belowA w11 (.cells #[.int .i64 4, .int .i64 0, .int .i64 0, .int .i64 0, .int .i64 0, .int .i64 0, .int .i64 0, .int .i64 0, .int .i64 0, .int .i64 0, .int .i64 0, .int .i64 0, .int .i64 0] 36))
    have VF1 := V.new w11 [.int .i64 4, .int .i64 0, .int .i64 0, .int .i64 0, .int .i64 0, .int .i64 0, .int .i64 0, .int .i64 0, .int .i64 0, .int .i64 0, .int .i64 0, .int .i64 0, .int .i64 0] 36
    clear s_VP f_VP z_VP s_VR f_VR z_VR
    obtain ⟨s_VP, f_VP, z_VP⟩ := VP.open
    obtain ⟨s_VR, f_VR, z_VR⟩ := VR.open
    obtain ⟨s_VF1, f_VF1, z_VF1⟩ := VF1.open
    replace Bo := B
    clear s_VP f_VP z_VP s_VR f_VR z_VR s_VF1 f_VF1 z_VF1
    have VF := Hid.mk (VR.filled [.int .i64 0, .int .i64 1] rfl)
    have BR := belowCells B (show w.heap.size ≤ w.heap.size + 1 by (first | omega | (simp; done) | (simp; omega))) 0 [.int .i64 0, .int .i64 1]
    have HT := Hid.mk VR.there
    replace BR := Hid.mk BR
    obtain ⟨s_VP, f_VP, z_VP⟩ := VP.open
    obtain ⟨s_VR, f_VR, z_VR⟩ := VR.open
    obtain ⟨s_VF1, f_VF1, z_VF1⟩ := VF1.open
    go_wp2_with (refine wpList_store_mid rfl 39 _ _ rfl (w.heap.size + 1) 0 #[.int .i64 0, .int .i64 1] rfl rfl HT.out (by kernel_rfl) (by kernel_rfl) ?_)
    refine bodyPost_ret (v := .agg #[.int .i64 0, .int .i64 1]) (results_row Tryd.results16 _ _ (w.heap.size + 1) [.int .i64 0, .int .i64 1] _ rfl VF.out Tryd.underlying39 rfl (by kernel_rfl)) rfl ⟨rfl, BR.out⟩
  · rw [h1, h2]
    rw [e1] at CF
    clear h1 h2 e1
    go_enter Tryd.func16, Tryd.ntmps16
    have B := Below.refl w.heap.size w
    replace ha := ha.kept (belowA w (.cells #[.int .i64 f, .int .i64 t, .int .i64 r, .int .i64 l, .int .i64 u, .int .i64 v, .slice s m cs] 26))
    replace B := thenB B (belowA w (.cells #[.int .i64 f, .int .i64 t, .int .i64 r, .int .i64 l, .int .i64 u, .int .i64 v, .slice s m cs] 26))
    have VP := V.new w [.int .i64 f, .int .i64 t, .int .i64 r, .int .i64 l, .int .i64 u, .int .i64 v, .slice s m cs] 26
    replace VP := VP.kept (belowA (w.alloc (.cells #[.int .i64 f, .int .i64 t, .int .i64 r, .int .i64 l, .int .i64 u, .int .i64 v, .slice s m cs] 26)) (.cells #[.int .i64 0, .int .i64 0] 39))
    replace ha := ha.kept (belowA (w.alloc (.cells #[.int .i64 f, .int .i64 t, .int .i64 r, .int .i64 l, .int .i64 u, .int .i64 v, .slice s m cs] 26)) (.cells #[.int .i64 0, .int .i64 0] 39))
    replace B := thenB B (belowA (w.alloc (.cells #[.int .i64 f, .int .i64 t, .int .i64 r, .int .i64 l, .int .i64 u, .int .i64 v, .slice s m cs] 26)) (.cells #[.int .i64 0, .int .i64 0] 39))
    have VR : V ((w.alloc (.cells #[.int .i64 f, .int .i64 t, .int .i64 r, .int .i64 l, .int .i64 u, .int .i64 v, .slice s m cs] 26)).alloc (.cells #[.int .i64 0, .int .i64 0] 39)) (w.heap.size + 1) [.int .i64 0, .int .i64 0] := V.newAt _ _ _ _ (by simp)
    obtain ⟨s_VP, f_VP, z_VP⟩ := VP.open
    obtain ⟨s_VR, f_VR, z_VR⟩ := VR.open
    have Bo := B
    go_wp2_with fail
    refine (CF.out _ ha).mono ?_
    rintro e w21 ⟨rfl, b21⟩
    clear s_VP f_VP z_VP s_VR f_VR z_VR
    have S21 := b21.size
    simp only [World.size_alloc] at S21
    replace VP := VP.kept b21
    replace VR := VR.kept b21
    replace ha := ha.kept b21
    replace B := thenB B b21
    clear b21
    obtain ⟨s_VP, f_VP, z_VP⟩ := VP.open
    obtain ⟨s_VR, f_VR, z_VR⟩ := VR.open
    have Bo := B
    replace VP := VP.kept (belowA w21 (.cells #[.int .i64 0, .int .i64 k, .int .i64 x.s.a, .int .i64 x.s.b, .int .i64 x.s.c, .int .i64 x.s.d, .int .i64 x.s.e, .int .i64 x.s.f, .int .i64 x.s.g, .int .i64 x.s.h, .int .i64 x.s.r, .int .i64 x.p, .int .i64 x.q] 36))
    replace VR := VR.kept (belowA w21 (.cells #[.int .i64 0, .int .i64 k, .int .i64 x.s.a, .int .i64 x.s.b, .int .i64 x.s.c, .int .i64 x.s.d, .int .i64 x.s.e, .int .i64 x.s.f, .int .i64 x.s.g, .int .i64 x.s.h, .int .i64 x.s.r, .int .i64 x.p, .int .i64 x.q] 36))
    replace ha := ha.kept (belowA w21 (.cells #[.int .i64 0, .int .i64 k, .int .i64 x.s.a, .int .i64 x.s.b, .int .i64 x.s.c, .int .i64 x.s.d, .int .i64 x.s.e, .int .i64 x.s.f, .int .i64 x.s.g, .int .i64 x.s.h, .int .i64 x.s.r, .int .i64 x.p, .int .i64 x.q] 36))
    replace B := thenB B (belowA w21 (.cells #[.int .i64 0, .int .i64 k, .int .i64 x.s.a, .int .i64 x.s.b, .int .i64 x.s.c, .int .i64 x.s.d, .int .i64 x.s.e, .int .i64 x.s.f, .int .i64 x.s.g, .int .i64 x.s.h, .int .i64 x.s.r, .int .i64 x.p, .int .i64 x.q] 36))
    have VF1 := V.new w21 [.int .i64 0, .int .i64 k, .int .i64 x.s.a, .int .i64 x.s.b, .int .i64 x.s.c, .int .i64 x.s.d, .int .i64 x.s.e, .int .i64 x.s.f, .int .i64 x.s.g, .int .i64 x.s.h, .int .i64 x.s.r, .int .i64 x.p, .int .i64 x.q] 36
    clear s_VP f_VP z_VP s_VR f_VR z_VR
    obtain ⟨s_VP, f_VP, z_VP⟩ := VP.open
    obtain ⟨s_VR, f_VR, z_VR⟩ := VR.open
    obtain ⟨s_VF1, f_VF1, z_VF1⟩ := VF1.open
    replace Bo := B
    clear s_VP f_VP z_VP s_VR f_VR z_VR s_VF1 f_VF1 z_VF1
    have VF := Hid.mk (VR.filled [.int .i64 0, .int .i64 x.p] rfl)
    have BR := belowCells B (show w.heap.size ≤ w.heap.size + 1 by (first | omega | (simp; done) | (simp; omega))) 0 [.int .i64 0, .int .i64 x.p]
    have HT := Hid.mk VR.there
    replace BR := Hid.mk BR
    obtain ⟨s_VP, f_VP, z_VP⟩ := VP.open
    obtain ⟨s_VR, f_VR, z_VR⟩ := VR.open
    obtain ⟨s_VF1, f_VF1, z_VF1⟩ := VF1.open
    go_wp2_with (refine wpList_store_mid rfl 39 _ _ rfl (w.heap.size + 1) 0 #[.int .i64 0, .int .i64 x.p] rfl rfl HT.out (by kernel_rfl) (by kernel_rfl) ?_)
    refine bodyPost_ret (v := .agg #[.int .i64 0, .int .i64 x.p]) (results_row Tryd.results16 _ _ (w.heap.size + 1) [.int .i64 0, .int .i64 x.p] _ rfl VF.out Tryd.underlying39 rfl (by kernel_rfl)) rfl ⟨rfl, BR.out⟩

end Go.Proofs.YtngkahchhioncaaDoor
