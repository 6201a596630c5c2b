/- 'BuildPacket' of the model. -/
import Derived.Test.YthjaehcfakjemaaBuild3
namespace Go.Proofs.Ythjaehcfakjemaa
open Go.RowKit
set_option maxRecDepth 40000

theorem l1Bytes_at (n : Int) (s : Nat) (w : World) (h : ptIn n s) :
    Calls Try.prog 54 #[.int .i64 n, .int .i64 (s : Int)] w fun e w' => ∃ c d, e = .returned (.slice c s d) ∧ Own .u8 5 w' w.heap.size c d (putN n s) ∧ Below w.heap.size w w' :=
  l1Bytes_ok n s w h.2.2.1 (by have := h.2.1; omega)

/-- The head, put together in another way. -/
theorem headP_eq (f t r l len : Int) : headP f t r l len = ((([69, 0] ++ putN len 2) ++ [0, 0, 64, 0, l, r]) ++ putN (sumWords (((([69, 0] ++ putN len 2) ++ [0, 0, 64, 0, l, r]) ++ [0, 0]) ++ (putN f 4 ++ putN t 4))) 2) ++ (putN f 4 ++ putN t 4) := by
  have e : bareP f t r l len = ((([69, 0] ++ putN len 2) ++ [0, 0, 64, 0, l, r]) ++ [0, 0]) ++ (putN f 4 ++ putN t 4) := by simp [bareP]
  unfold headP
  rw [e]
  generalize hS : putN (sumWords _) 2 = S
  have hSl : S.length = 2 := by rw [← hS, length_putN]
  have hA : (([69, 0] ++ putN len 2) ++ [0, 0, 64, 0, l, r]).length = 10 := by simp [length_putN]
  generalize (([69, 0] ++ putN len 2) ++ [0, 0, 64, 0, l, r]) = L at *
  unfold splice
  rw [hSl]
  have e1 : (L ++ [0, 0] ++ (putN f 4 ++ putN t 4)).take 10 = L := by
    rw [List.append_assoc, ← hA, List.take_left']
    rfl
  have e2 : (L ++ [0, 0] ++ (putN f 4 ++ putN t 4)).drop (10 + 2) = putN f 4 ++ putN t 4 := by
    rw [show 10 + 2 = (L ++ [0, 0]).length by simp [hA], List.drop_left']
    rfl
  rw [e1, e2]
  simp

/-- The model's bytes of a right packet. -/
theorem buildP_spec (f t r l x y : Int) (xs : List Int) (ps : List Int) (h : portP r x y = ps) (len : Int) (hl : len = 20 + ((ps ++ xs).length : Int)) : buildP f t r l x y xs = (((([69, 0] ++ putN len 2) ++ [0, 0, 64, 0, l, r]) ++ putN (sumWords (((([69, 0] ++ putN len 2) ++ [0, 0, 64, 0, l, r]) ++ [0, 0]) ++ (putN f 4 ++ putN t 4))) 2) ++ (putN f 4 ++ putN t 4)) ++ (ps ++ xs) := by
  rw [← headP_eq, hl]
  unfold buildP
  rw [h, List.length_append]
  congr 2
  omega

set_option maxHeartbeats 4000000 in
theorem l2Build_ok (f t r l x y : Int) (a : Option Addr) (n ca : Nat) (xs : List Int) (w : World) (hR : Rd .u8 w a xs) (hn : xs.length = n) (hnc : a = none → ca = 0) (hf : 0 ≤ f ∧ f ≤ 4294967295) (ht : 0 ≤ t ∧ t ≤ 4294967295) (hr : 0 ≤ r ∧ r ≤ 255) (hl : 0 ≤ l ∧ l ≤ 255) (hx : 0 ≤ x ∧ x ≤ 65535) (hy : 0 ≤ y ∧ y ≤ 65535) (hn2 : n ≤ 200) :
    Calls Try.prog 39 #[.agg #[.int .i64 f, .int .i64 t, .int .i64 r, .int .i64 l, .int .i64 x, .int .i64 y, .slice a n ca]] w fun e w' => ∃ c d, e = .returned (.slice c (buildP f t r l x y xs).length d) ∧ Own .u8 5 w' w.heap.size c d (buildP f t r l x y xs) ∧ Below w.heap.size w w' := by
  obtain ⟨i0, hi, q0, q1, q2⟩ := info_parts Try.info_u8
  have wr1 : IntKind.u8.wrap r = r := by rw [IntKind.wrap_u8]; omega
  have wl1 : IntKind.u8.wrap l = l := by rw [IntKind.wrap_u8]; omega
  have V0 := V.new w [.int .i64 f, .int .i64 t, .int .i64 r, .int .i64 l, .int .i64 x, .int .i64 y, .slice a n ca] 26
  have B := belowA w (.cells #[.int .i64 f, .int .i64 t, .int .i64 r, .int .i64 l, .int .i64 x, .int .i64 y, .slice a n ca] 26)
  rcases bool_cases (p := portsP r) with hp | hp
  · have hps := Hid.mk (portP_yes hp x y)
    obtain ⟨tl, htl0⟩ : ∃ tl : Nat, 4 + n = tl := ⟨_, rfl⟩
    have htl := Hid.mk htl0
    have htl2 : tl ≤ 204 := by omega
    obtain ⟨TL, hTd0⟩ : ∃ TL, TL = putN x 2 ++ putN y 2 ++ xs := ⟨_, rfl⟩
    have hTd := Hid.mk hTd0
    have hTL := Hid.mk (show TL.length = tl by rw [hTd0, ← htl0]; simp [length_putN, hn]; omega)
    obtain ⟨A, hA0⟩ : ∃ A, A = (([69, 0] ++ putN (20 + (tl : Int)) 2) ++ [0, 0, 64, 0, l, r]) := ⟨_, rfl⟩
    obtain ⟨E, hE0⟩ : ∃ E, E = putN f 4 ++ putN t 4 := ⟨_, rfl⟩
    obtain ⟨Z, hZ0⟩ : ∃ Z, Z = (A ++ [0, 0]) ++ E := ⟨_, rfl⟩
    have hAl := Hid.mk (show A.length = 10 by rw [hA0]; simp [length_putN])
    have hEl := Hid.mk (show E.length = 8 by rw [hE0]; simp [length_putN])
    have hZl := Hid.mk (show Z.length = 20 by rw [hZ0, List.length_append, List.length_append, hAl.out, hEl.out]; rfl)
    have hZb := Hid.mk (show Bytes Z by
      rw [hZ0, hA0, hE0]
      refine (((Bytes.append (Bytes.append ?_ (putN_bytes _ _)) ?_).append ?_).append ((putN_bytes _ _).append (putN_bytes _ _)))
      · intro z hz; simp at hz; omega
      · intro z hz; simp at hz; omega
      · intro z hz; simp at hz; omega)
    have hBd := Hid.mk (show buildP f t r l x y xs = A ++ putN (sumWords Z) 2 ++ E ++ TL ∧ (A ++ putN (sumWords Z) 2 ++ E ++ TL).length = 20 + tl by
      refine ⟨?_, ?_⟩
      · rw [buildP_spec f t r l x y xs _ hps.out (20 + (tl : Int)) (by rw [← htl0]; simp [length_putN, hn]; omega), hZ0, hA0, hE0, hTd0]
      · simp only [List.length_append, hAl.out, length_putN, hEl.out, hTL.out])
    have hA := Hid.mk hA0
    have hE := Hid.mk hE0
    have hZ := Hid.mk hZ0
    clear hA0 hE0 hZ0 hTd0 htl0 hps
    go_enter Try.func39, Try.ntmps39
    have Oe := Own.lit (w.alloc (.cells #[.int .i64 f, .int .i64 t, .int .i64 r, .int .i64 l, .int .i64 x, .int .i64 y, .slice a n ca] 26)) 5 ([] : List Int) (Nat.zero_le _)
    simp only [World.size_alloc] at Oe
    replace V0 := V0.kept (belowA (w.alloc (.cells #[.int .i64 f, .int .i64 t, .int .i64 r, .int .i64 l, .int .i64 x, .int .i64 y, .slice a n ca] 26)) (.cells #[] 5))
    replace B := thenB B (belowA (w.alloc (.cells #[.int .i64 f, .int .i64 t, .int .i64 r, .int .i64 l, .int .i64 x, .int .i64 y, .slice a n ca] 26)) (.cells #[] 5))
    obtain ⟨s_V0, f_V0, z_V0⟩ := V0.open
    have Rx := (hR.kept B)
    go_wp2_with (at_builtin; go_loud (refine wpList_put _ rfl _ _ 22 rfl (w.heap.size + 1) 5 i0 Try.underlying22 hi q0 q1 q2 _ _ 0 _ rfl Oe rfl _ n _ _ rfl Rx hn hnc n xs (by omega) (by rfl) (by omega) (by (try simp only [World.size_alloc]); omega) ?_))
    intro cw1 dw1 w1 Oa bw1
    clear Oe Rx
    clear s_V0 f_V0 z_V0
    have S_w1 := bw1.size
    try simp only [World.size_alloc] at S_w1
    replace V0 := V0.keptB (by omega) bw1
    replace B := B.trans (bw1.mono (by omega))
    clear bw1
    have Ta := fun b h => (Oa.lt b h).2
    have Na := Oa.nocap
    have Ra := Oa.rd
    clear Oa
    obtain ⟨s_V0, f_V0, z_V0⟩ := V0.open
    have K : ∀ w' : World, Below w1.heap.size w1 w' → (w'.cell? ⟨w.heap.size, 4, none⟩ = some (.int .i64 x) ∧ w'.cell? ⟨w.heap.size, 5, none⟩ = some (.int .i64 y)) := fun w' h => ⟨(V0.kept h).2.1 4 (by simp), (V0.kept h).2.1 5 (by simp)⟩
    have K := Hid.mk K
    go_wp2_with (go_at_call 28; refine (specHasPorts_ok _ _).mono ?_; rintro e w1 ⟨rfl, rfl⟩)
    go_region_held3 (fun w' => w'.cell? ⟨w.heap.size, 4, none⟩ = some (.int .i64 x) ∧ w'.cell? ⟨w.heap.size, 5, none⟩ = some (.int .i64 y))
      (first | exact K.out _ (((thenB (thenB (Below.refl _ _).drew b2) b3).trans b4).trans b5) | exact K.out _ ((thenB (thenB (Below.refl _ _).drew b2) b3).trans b4) | exact K.out _ (thenB (thenB (Below.refl _ _).drew b2) b3) | exact K.out _ (thenB (Below.refl _ _).drew b2) | exact K.out _ (Below.refl _ _).drew)
      (first | (refine step_put _ (by rfl) (.tmp 21) (.tmp 22) 22 (by rfl) w1.heap.size 5 i0 Try.underlying22 hi q0 q1 q2 c4 d4 4 _ (by simp [Act.eval]) O4 (by simp [length_putN]) cw1 n dw1 _ (by simp [Act.eval]) ((((Ra.kept (Below.refl _ _).drew).kept b2).kept b3).keptB Ta b4) hn Na tl TL (by have := htl.out; omega) hTd.out.symm (by omega) (by have := b2.size; have := b3.size; have := b4.size; simp at *; omega) ?_; intro c5 d5 w5 O5 b5) | (refine step_put _ (by rfl) (.tmp 17) (.tmp 20) 22 (by rfl) w1.heap.size 5 i0 Try.underlying22 hi q0 q1 q2 c2 d2 2 _ (by simp [Act.eval]) (O2.kept b3) (length_putN _ _) c3 2 d3 _ (by simp [Act.eval]) O3.rd (length_putN _ _) O3.nocap 4 (putN x 2 ++ putN y 2) (by omega) (by rfl) (by omega) (by have := b2.size; have := b3.size; simp at *; omega) ?_; intro c4 d4 w4 O4 b4) | (go_at_call 54; have hz := b2; clear hz; refine (l1Bytes_at y 2 _ (ptIn2 hy.1 hy.2)).mono ?_; rintro e w3 ⟨c3, d3, rfl, O3, b3⟩) | (go_at_call 54; refine (l1Bytes_at x 2 _ (ptIn2 hx.1 hx.2)).mono ?_; rintro e w2 ⟨c2, d2, rfl, O2, b2⟩))
    have bb := Hid.mk (((thenB (thenB (Below.refl _ _).drew b2) b3).trans b4).trans b5)
    clear s_V0 f_V0 z_V0
    replace V0 := V0.kept bb.out
    replace B := thenB B bb.out
    have S_w5 := bb.out.size
    clear bb b2 b3 b4 b5 O2 O3 O4 K Ra Ta Na
    have Ot := O5
    clear O5
    have Tt := fun b h => (Ot.lt b h).2
    have Nt := Ot.nocap
    have Rt := Ot.rd
    clear Ot
    have Oh := Own.lit w5 5 ([69, 0] : List Int) (by unfold maxLen; decide)
    replace V0 := V0.kept (belowA w5 (.cells #[.int .u8 69, .int .u8 0] 5))
    replace Rt := Rt.kept (belowA w5 (.cells #[.int .u8 69, .int .u8 0] 5))
    replace B := thenB B (belowA w5 (.cells #[.int .u8 69, .int .u8 0] 5))
    obtain ⟨s_V0, f_V0, z_V0⟩ := V0.open
    go_wp2_with fail
    refine (l1Bytes_at (20 + (tl : Int)) 2 _ (ptIn2 (by omega) (by omega))).mono ?_
    rintro e w6 ⟨cw6, dw6, rfl, Oq, bw6⟩
    clear s_V0 f_V0 z_V0
    have S_w6 := bw6.size
    try simp only [World.size_alloc] at S_w6
    replace V0 := V0.kept bw6
    replace Rt := Rt.kept bw6
    replace Oh := Oh.kept bw6
    replace B := thenB B bw6
    clear bw6
    obtain ⟨s_V0, f_V0, z_V0⟩ := V0.open
    go_wp2_with (at_builtin; refine wpList_put _ rfl _ _ 22 rfl (w5.heap.size) 5 i0 Try.underlying22 hi q0 q1 q2 _ _ (2) _ rfl Oh rfl _ (2) _ _ rfl Oq.rd (length_putN _ _) Oq.nocap (4) ([69, 0] ++ putN (20 + (tl : Int)) 2) (by omega) (by rfl) (by omega) (by (try simp only [World.size_alloc]); omega) ?_)
    intro cw7 dw7 w7 Oh' bw7
    replace Oh := Oh'
    clear Oh'
    clear s_V0 f_V0 z_V0
    have S_w7 := bw7.size
    try simp only [World.size_alloc] at S_w7
    clear Oq
    replace V0 := V0.keptB (by omega) bw7
    replace Rt := Rt.keptB (fun b h => by have := Tt b h; omega) bw7
    replace B := B.trans (bw7.mono (by omega))
    clear bw7
    obtain ⟨s_V0, f_V0, z_V0⟩ := V0.open
    replace V0 := V0.kept (belowA w7 (.cells #[.int .u8 0, .int .u8 0, .int .u8 64, .int .u8 0, .int .u8 l, .int .u8 r] 5))
    replace Rt := Rt.kept (belowA w7 (.cells #[.int .u8 0, .int .u8 0, .int .u8 64, .int .u8 0, .int .u8 l, .int .u8 r] 5))
    replace Oh := Oh.kept (belowA w7 (.cells #[.int .u8 0, .int .u8 0, .int .u8 64, .int .u8 0, .int .u8 l, .int .u8 r] 5))
    replace B := thenB B (belowA w7 (.cells #[.int .u8 0, .int .u8 0, .int .u8 64, .int .u8 0, .int .u8 l, .int .u8 r] 5))
    go_wp2_with (at_builtin; refine wpList_put _ rfl _ _ 22 rfl (w5.heap.size) 5 i0 Try.underlying22 hi q0 q1 q2 _ _ (4) _ rfl Oh (by simp [length_putN]) _ 6 6 [0, 0, 64, 0, l, r] rfl (Rd.lit w7 5 [0, 0, 64, 0, l, r]) rfl (fun h => by cases h) (10) (A) (by omega) hA.out.symm (by omega) (by (try simp only [World.size_alloc]); omega) ?_)
    intro cw8 dw8 w8 Oh' bw8
    replace Oh := Oh'
    clear Oh'
    clear s_V0 f_V0 z_V0
    have S_w8 := bw8.size
    try simp only [World.size_alloc] at S_w8
    replace V0 := V0.keptB (by omega) bw8
    replace Rt := Rt.keptB (fun b h => by have := Tt b h; omega) bw8
    replace B := B.trans (bw8.mono (by omega))
    clear bw8
    obtain ⟨s_V0, f_V0, z_V0⟩ := V0.open
    have Th := fun b h => (Oh.lt b h).2
    have Nh := Oh.nocap
    have Rh := Oh.rd
    clear Oh
    have K : ∀ w' : World, Below w8.heap.size w8 w' → (w'.cell? ⟨w.heap.size, 0, none⟩ = some (.int .i64 f) ∧ w'.cell? ⟨w.heap.size, 1, none⟩ = some (.int .i64 t)) := fun w' h => ⟨(V0.kept h).2.1 0 (by simp), (V0.kept h).2.1 1 (by simp)⟩
    have K := Hid.mk K
    go_wp2_with fail
    go_region_held3 (fun w' => w'.cell? ⟨w.heap.size, 0, none⟩ = some (.int .i64 f) ∧ w'.cell? ⟨w.heap.size, 1, none⟩ = some (.int .i64 t)) (first | exact K.out _ ((thenB (thenB (Below.refl _ _).drew bf) bt).trans be) | exact K.out _ (thenB (thenB (Below.refl _ _).drew bf) bt) | exact K.out _ (thenB (Below.refl _ _).drew bf) | exact K.out _ (Below.refl _ _).drew) (first | (refine step_put _ (by rfl) (.tmp 41) (.tmp 44) 22 (by rfl) w8.heap.size 5 i0 Try.underlying22 hi q0 q1 q2 cf df 4 _ (by simp [Act.eval]) (Of.kept bt) (length_putN _ _) ct 4 dt _ (by simp [Act.eval]) Ot'.rd (length_putN _ _) Ot'.nocap 8 E (by omega) hE.out.symm (by omega) (by have := bf.size; have := bt.size; simp at *; omega) ?_; intro ce de w11 On be) | (go_at_call 54; have hz := bf; clear hz; refine (l1Bytes_at t 4 _ (ptIn4 ht.1 ht.2)).mono ?_; rintro e w10 ⟨ct, dt, rfl, Ot', bt⟩) | (go_at_call 54; refine (l1Bytes_at f 4 _ (ptIn4 hf.1 hf.2)).mono ?_; rintro e w9 ⟨cf, df, rfl, Of, bf⟩))
    have bb := Hid.mk ((thenB (thenB (Below.refl _ _).drew bf) bt).trans be)
    clear s_V0 f_V0 z_V0
    replace V0 := V0.kept bb.out
    replace B := thenB B bb.out
    have S_w11 := bb.out.size
    replace Rt := Rt.kept bb.out
    replace Rh := Rh.kept bb.out
    clear bb bf bt be Of Ot' K
    have Tn := fun b h => (On.lt b h).2
    have Nn := On.nocap
    have Rn := On.rd
    clear On
    have Ob := Own.lit w11 5 ([] : List Int) (Nat.zero_le _)
    replace V0 := V0.kept (belowA w11 (.cells #[] 5))
    replace Rt := Rt.kept (belowA w11 (.cells #[] 5))
    replace Rh := Rh.kept (belowA w11 (.cells #[] 5))
    replace Rn := Rn.kept (belowA w11 (.cells #[] 5))
    replace B := thenB B (belowA w11 (.cells #[] 5))
    obtain ⟨s_V0, f_V0, z_V0⟩ := V0.open
    go_wp2_with (at_builtin; refine wpList_put _ rfl _ _ 22 rfl (w11.heap.size) 5 i0 Try.underlying22 hi q0 q1 q2 _ _ (0) _ rfl Ob rfl _ (10) _ _ rfl Rh hAl.out Nh (10) (A) (by omega) (by rfl) (by omega) (by (try simp only [World.size_alloc]); omega) ?_)
    intro cw12 dw12 w12 Ob' bw12
    replace Ob := Ob'
    clear Ob'
    clear s_V0 f_V0 z_V0
    have S_w12 := bw12.size
    try simp only [World.size_alloc] at S_w12
    replace V0 := V0.keptB (by omega) bw12
    replace Rt := Rt.keptB (fun b h => by have := Tt b h; omega) bw12
    replace Rh := Rh.keptB (fun b h => by have := Th b h; omega) bw12
    replace Rn := Rn.keptB (fun b h => by have := Tn b h; omega) bw12
    replace B := B.trans (bw12.mono (by omega))
    clear bw12
    obtain ⟨s_V0, f_V0, z_V0⟩ := V0.open
    replace V0 := V0.kept (belowA w12 (.cells #[.int .u8 0, .int .u8 0] 5))
    replace Rt := Rt.kept (belowA w12 (.cells #[.int .u8 0, .int .u8 0] 5))
    replace Rh := Rh.kept (belowA w12 (.cells #[.int .u8 0, .int .u8 0] 5))
    replace Rn := Rn.kept (belowA w12 (.cells #[.int .u8 0, .int .u8 0] 5))
    replace Ob := Ob.kept (belowA w12 (.cells #[.int .u8 0, .int .u8 0] 5))
    replace B := thenB B (belowA w12 (.cells #[.int .u8 0, .int .u8 0] 5))
    go_wp2_with (at_builtin; refine wpList_put _ rfl _ _ 22 rfl (w11.heap.size) 5 i0 Try.underlying22 hi q0 q1 q2 _ _ (10) _ rfl Ob hAl.out _ 2 2 [0, 0] rfl (Rd.lit w12 5 [0, 0]) rfl (fun h => by cases h) (12) (A ++ [0, 0]) (by omega) (by rfl) (by omega) (by (try simp only [World.size_alloc]); omega) ?_)
    intro cw13 dw13 w13 Ob' bw13
    replace Ob := Ob'
    clear Ob'
    clear s_V0 f_V0 z_V0
    have S_w13 := bw13.size
    try simp only [World.size_alloc] at S_w13
    replace V0 := V0.keptB (by omega) bw13
    replace Rt := Rt.keptB (fun b h => by have := Tt b h; omega) bw13
    replace Rh := Rh.keptB (fun b h => by have := Th b h; omega) bw13
    replace Rn := Rn.keptB (fun b h => by have := Tn b h; omega) bw13
    replace B := B.trans (bw13.mono (by omega))
    clear bw13
    obtain ⟨s_V0, f_V0, z_V0⟩ := V0.open
    go_wp2_with (at_builtin; refine wpList_put _ rfl _ _ 22 rfl (w11.heap.size) 5 i0 Try.underlying22 hi q0 q1 q2 _ _ (12) _ rfl Ob (by rw [List.length_append, hAl.out]; rfl) _ (8) _ _ rfl Rn hEl.out Nn (20) (Z) (by omega) hZ.out.symm (by omega) (by (try simp only [World.size_alloc]); omega) ?_)
    intro cw14 dw14 w14 Ob' bw14
    replace Ob := Ob'
    clear Ob'
    clear s_V0 f_V0 z_V0
    have S_w14 := bw14.size
    try simp only [World.size_alloc] at S_w14
    replace V0 := V0.keptB (by omega) bw14
    replace Rt := Rt.keptB (fun b h => by have := Tt b h; omega) bw14
    replace Rh := Rh.keptB (fun b h => by have := Th b h; omega) bw14
    replace Rn := Rn.keptB (fun b h => by have := Tn b h; omega) bw14
    replace B := B.trans (bw14.mono (by omega))
    clear bw14
    obtain ⟨s_V0, f_V0, z_V0⟩ := V0.open
    have Tb := fun b h => (Ob.lt b h).2
    have Nb := Ob.nocap
    have Rb := Ob.rd
    clear Ob
    have Oo := Own.lit w14 5 ([] : List Int) (Nat.zero_le _)
    replace V0 := V0.kept (belowA w14 (.cells #[] 5))
    replace Rt := Rt.kept (belowA w14 (.cells #[] 5))
    replace Rh := Rh.kept (belowA w14 (.cells #[] 5))
    replace Rn := Rn.kept (belowA w14 (.cells #[] 5))
    replace Rb := Rb.kept (belowA w14 (.cells #[] 5))
    replace B := thenB B (belowA w14 (.cells #[] 5))
    go_wp2_with (at_builtin; refine wpList_put _ rfl _ _ 22 rfl (w14.heap.size) 5 i0 Try.underlying22 hi q0 q1 q2 _ _ (0) _ rfl Oo rfl _ (10) _ _ rfl Rh hAl.out Nh (10) (A) (by omega) (by rfl) (by omega) (by (try simp only [World.size_alloc]); omega) ?_)
    intro cw15 dw15 w15 Oo' bw15
    replace Oo := Oo'
    clear Oo'
    clear s_V0 f_V0 z_V0
    have S_w15 := bw15.size
    try simp only [World.size_alloc] at S_w15
    replace V0 := V0.keptB (by omega) bw15
    replace Rt := Rt.keptB (fun b h => by have := Tt b h; omega) bw15
    replace Rh := Rh.keptB (fun b h => by have := Th b h; omega) bw15
    replace Rn := Rn.keptB (fun b h => by have := Tn b h; omega) bw15
    replace Rb := Rb.keptB (fun b h => by have := Tb b h; omega) bw15
    replace B := B.trans (bw15.mono (by omega))
    clear bw15
    obtain ⟨s_V0, f_V0, z_V0⟩ := V0.open
    go_wp2_with fail
    refine (specSumWords_ok _ 20 _ Z _ Rb hZb.out hZl.out (by omega)).mono ?_
    rintro e w16 ⟨rfl, bw16⟩
    clear s_V0 f_V0 z_V0
    have S_w16 := bw16.size
    try simp only [World.size_alloc] at S_w16
    replace V0 := V0.kept bw16
    replace Rt := Rt.kept bw16
    replace Rh := Rh.kept bw16
    replace Rn := Rn.kept bw16
    replace Rb := Rb.kept bw16
    replace Oo := Oo.kept bw16
    replace B := thenB B bw16
    clear bw16
    obtain ⟨s_V0, f_V0, z_V0⟩ := V0.open
    have hsb := sumWords_bound Z
    go_wp2_with fail
    refine (l1Bytes_at (sumWords Z) 2 _ (ptIn2 hsb.1 hsb.2)).mono ?_
    rintro e w17 ⟨cw17, dw17, rfl, Oq, bw17⟩
    clear s_V0 f_V0 z_V0
    have S_w17 := bw17.size
    try simp only [World.size_alloc] at S_w17
    replace V0 := V0.kept bw17
    replace Rt := Rt.kept bw17
    replace Rh := Rh.kept bw17
    replace Rn := Rn.kept bw17
    replace Rb := Rb.kept bw17
    replace Oo := Oo.kept bw17
    replace B := thenB B bw17
    clear bw17
    obtain ⟨s_V0, f_V0, z_V0⟩ := V0.open
    go_wp2_with (at_builtin; refine wpList_put _ rfl _ _ 22 rfl (w14.heap.size) 5 i0 Try.underlying22 hi q0 q1 q2 _ _ (10) _ rfl Oo hAl.out _ (2) _ _ rfl Oq.rd (length_putN _ _) Oq.nocap (12) (A ++ putN (sumWords Z) 2) (by omega) (by rfl) (by omega) (by (try simp only [World.size_alloc]); omega) ?_)
    intro cw18 dw18 w18 Oo' bw18
    replace Oo := Oo'
    clear Oo'
    clear s_V0 f_V0 z_V0
    have S_w18 := bw18.size
    try simp only [World.size_alloc] at S_w18
    clear Oq
    replace V0 := V0.keptB (by omega) bw18
    replace Rt := Rt.keptB (fun b h => by have := Tt b h; omega) bw18
    replace Rh := Rh.keptB (fun b h => by have := Th b h; omega) bw18
    replace Rn := Rn.keptB (fun b h => by have := Tn b h; omega) bw18
    replace Rb := Rb.keptB (fun b h => by have := Tb b h; omega) bw18
    replace B := B.trans (bw18.mono (by omega))
    clear bw18
    obtain ⟨s_V0, f_V0, z_V0⟩ := V0.open
    go_wp2_with (at_builtin; refine wpList_put _ rfl _ _ 22 rfl (w14.heap.size) 5 i0 Try.underlying22 hi q0 q1 q2 _ _ (12) _ rfl Oo (by rw [List.length_append, hAl.out, length_putN]) _ (8) _ _ rfl Rn hEl.out Nn (20) (A ++ putN (sumWords Z) 2 ++ E) (by omega) (by rfl) (by omega) (by (try simp only [World.size_alloc]); omega) ?_)
    intro cw19 dw19 w19 Oo' bw19
    replace Oo := Oo'
    clear Oo'
    clear s_V0 f_V0 z_V0
    have S_w19 := bw19.size
    try simp only [World.size_alloc] at S_w19
    replace V0 := V0.keptB (by omega) bw19
    replace Rt := Rt.keptB (fun b h => by have := Tt b h; omega) bw19
    replace Rh := Rh.keptB (fun b h => by have := Th b h; omega) bw19
    replace Rn := Rn.keptB (fun b h => by have := Tn b h; omega) bw19
    replace Rb := Rb.keptB (fun b h => by have := Tb b h; omega) bw19
    replace B := B.trans (bw19.mono (by omega))
    clear bw19
    obtain ⟨s_V0, f_V0, z_V0⟩ := V0.open
    go_wp2_with (at_builtin; refine wpList_put _ rfl _ _ 22 rfl (w14.heap.size) 5 i0 Try.underlying22 hi q0 q1 q2 _ _ (20) _ rfl Oo (by simp only [List.length_append, hAl.out, length_putN, hEl.out]) _ (tl) _ _ rfl Rt hTL.out Nt (20 + tl) (A ++ putN (sumWords Z) 2 ++ E ++ TL) (by omega) (by simp) (by omega) (by (try simp only [World.size_alloc]); omega) ?_)
    intro cw20 dw20 w20 Oo' bw20
    replace Oo := Oo'
    clear Oo'
    clear s_V0 f_V0 z_V0
    have S_w20 := bw20.size
    try simp only [World.size_alloc] at S_w20
    replace V0 := V0.keptB (by omega) bw20
    replace Rt := Rt.keptB (fun b h => by have := Tt b h; omega) bw20
    replace Rh := Rh.keptB (fun b h => by have := Th b h; omega) bw20
    replace Rn := Rn.keptB (fun b h => by have := Tn b h; omega) bw20
    replace Rb := Rb.keptB (fun b h => by have := Tb b h; omega) bw20
    replace B := B.trans (bw20.mono (by omega))
    clear bw20
    obtain ⟨s_V0, f_V0, z_V0⟩ := V0.open
    clear s_V0 f_V0 z_V0
    have Oo' := Hid.mk Oo
    clear Oo
    go_wp2
    go_ret
    have Of := Oo'.out.mono (base' := w.heap.size) (by omega)
    exact ⟨cw20, dw20, by rw [hBd.out.1, hBd.out.2]; rfl, by rw [hBd.out.1]; simpa using Of, B⟩
  · have hps := Hid.mk (portP_no hp x y)
    obtain ⟨tl, rfl⟩ : ∃ tl : Nat, tl = n := ⟨_, rfl⟩
    have htl2 : tl ≤ 204 := by omega
    obtain ⟨TL, hTd0⟩ : ∃ TL, TL = xs := ⟨_, rfl⟩
    have hTd := Hid.mk hTd0
    have hTL := Hid.mk (show TL.length = tl by rw [hTd0]; exact hn)
    obtain ⟨A, hA0⟩ : ∃ A, A = (([69, 0] ++ putN (20 + (tl : Int)) 2) ++ [0, 0, 64, 0, l, r]) := ⟨_, rfl⟩
    obtain ⟨E, hE0⟩ : ∃ E, E = putN f 4 ++ putN t 4 := ⟨_, rfl⟩
    obtain ⟨Z, hZ0⟩ : ∃ Z, Z = (A ++ [0, 0]) ++ E := ⟨_, rfl⟩
    have hAl := Hid.mk (show A.length = 10 by rw [hA0]; simp [length_putN])
    have hEl := Hid.mk (show E.length = 8 by rw [hE0]; simp [length_putN])
    have hZl := Hid.mk (show Z.length = 20 by rw [hZ0, List.length_append, List.length_append, hAl.out, hEl.out]; rfl)
    have hZb := Hid.mk (show Bytes Z by
      rw [hZ0, hA0, hE0]
      refine (((Bytes.append (Bytes.append ?_ (putN_bytes _ _)) ?_).append ?_).append ((putN_bytes _ _).append (putN_bytes _ _)))
      · intro z hz; simp at hz; omega
      · intro z hz; simp at hz; omega
      · intro z hz; simp at hz; omega)
    have hBd := Hid.mk (show buildP f t r l x y xs = A ++ putN (sumWords Z) 2 ++ E ++ TL ∧ (A ++ putN (sumWords Z) 2 ++ E ++ TL).length = 20 + tl by
      refine ⟨?_, ?_⟩
      · rw [buildP_spec f t r l x y xs _ hps.out (20 + (tl : Int)) (by simp [hn]), hZ0, hA0, hE0, hTd0]
        simp
      · simp only [List.length_append, hAl.out, length_putN, hEl.out, hTL.out])
    have hA := Hid.mk hA0
    have hE := Hid.mk hE0
    have hZ := Hid.mk hZ0
    clear hA0 hE0 hZ0 hTd0 hps
    go_enter Try.func39, Try.ntmps39
    have Oe := Own.lit (w.alloc (.cells #[.int .i64 f, .int .i64 t, .int .i64 r, .int .i64 l, .int .i64 x, .int .i64 y, .slice a tl ca] 26)) 5 ([] : List Int) (Nat.zero_le _)
    simp only [World.size_alloc] at Oe
    replace V0 := V0.kept (belowA (w.alloc (.cells #[.int .i64 f, .int .i64 t, .int .i64 r, .int .i64 l, .int .i64 x, .int .i64 y, .slice a tl ca] 26)) (.cells #[] 5))
    replace B := thenB B (belowA (w.alloc (.cells #[.int .i64 f, .int .i64 t, .int .i64 r, .int .i64 l, .int .i64 x, .int .i64 y, .slice a tl ca] 26)) (.cells #[] 5))
    obtain ⟨s_V0, f_V0, z_V0⟩ := V0.open
    have Rx := (hR.kept B)
    go_wp2_with (at_builtin; go_loud (refine wpList_put _ rfl _ _ 22 rfl (w.heap.size + 1) 5 i0 Try.underlying22 hi q0 q1 q2 _ _ 0 _ rfl Oe rfl _ tl _ _ rfl Rx hn hnc tl xs (by omega) (by rfl) (by omega) (by (try simp only [World.size_alloc]); omega) ?_))
    intro cw1 dw1 w1 Oa bw1
    clear Oe Rx
    clear s_V0 f_V0 z_V0
    have S_w1 := bw1.size
    try simp only [World.size_alloc] at S_w1
    replace V0 := V0.keptB (by omega) bw1
    replace B := B.trans (bw1.mono (by omega))
    clear bw1
    have Ta := fun b h => (Oa.lt b h).2
    have Na := Oa.nocap
    have Ra := Oa.rd
    clear Oa
    obtain ⟨s_V0, f_V0, z_V0⟩ := V0.open
    go_wp2_with (first | (go_at_call 28; refine (specHasPorts_ok _ _).mono ?_; rintro e w1 ⟨rfl, rfl⟩) | fail)
    clear s_V0 f_V0 z_V0
    have Tt := Ta
    have Nt := Na
    have Rt : Rd .u8 w1 cw1 TL := by rw [hTd.out]; exact Ra
    clear Ra Ta Na
    have Oh := Own.lit w1 5 ([69, 0] : List Int) (by unfold maxLen; decide)
    replace V0 := V0.kept (belowA w1 (.cells #[.int .u8 69, .int .u8 0] 5))
    replace Rt := Rt.kept (belowA w1 (.cells #[.int .u8 69, .int .u8 0] 5))
    replace B := thenB B (belowA w1 (.cells #[.int .u8 69, .int .u8 0] 5))
    obtain ⟨s_V0, f_V0, z_V0⟩ := V0.open
    go_wp2_with fail
    refine (l1Bytes_at (20 + (tl : Int)) 2 _ (ptIn2 (by omega) (by omega))).mono ?_
    rintro e w2 ⟨cw2, dw2, rfl, Oq, bw2⟩
    clear s_V0 f_V0 z_V0
    have S_w2 := bw2.size
    try simp only [World.size_alloc] at S_w2
    replace V0 := V0.kept bw2
    replace Rt := Rt.kept bw2
    replace Oh := Oh.kept bw2
    replace B := thenB B bw2
    clear bw2
    obtain ⟨s_V0, f_V0, z_V0⟩ := V0.open
    go_wp2_with (at_builtin; refine wpList_put _ rfl _ _ 22 rfl (w1.heap.size) 5 i0 Try.underlying22 hi q0 q1 q2 _ _ (2) _ rfl Oh rfl _ (2) _ _ rfl Oq.rd (length_putN _ _) Oq.nocap (4) ([69, 0] ++ putN (20 + (tl : Int)) 2) (by omega) (by rfl) (by omega) (by (try simp only [World.size_alloc]); omega) ?_)
    intro cw3 dw3 w3 Oh' bw3
    replace Oh := Oh'
    clear Oh'
    clear s_V0 f_V0 z_V0
    have S_w3 := bw3.size
    try simp only [World.size_alloc] at S_w3
    clear Oq
    replace V0 := V0.keptB (by omega) bw3
    replace Rt := Rt.keptB (fun b h => by have := Tt b h; omega) bw3
    replace B := B.trans (bw3.mono (by omega))
    clear bw3
    obtain ⟨s_V0, f_V0, z_V0⟩ := V0.open
    replace V0 := V0.kept (belowA w3 (.cells #[.int .u8 0, .int .u8 0, .int .u8 64, .int .u8 0, .int .u8 l, .int .u8 r] 5))
    replace Rt := Rt.kept (belowA w3 (.cells #[.int .u8 0, .int .u8 0, .int .u8 64, .int .u8 0, .int .u8 l, .int .u8 r] 5))
    replace Oh := Oh.kept (belowA w3 (.cells #[.int .u8 0, .int .u8 0, .int .u8 64, .int .u8 0, .int .u8 l, .int .u8 r] 5))
    replace B := thenB B (belowA w3 (.cells #[.int .u8 0, .int .u8 0, .int .u8 64, .int .u8 0, .int .u8 l, .int .u8 r] 5))
    go_wp2_with (at_builtin; refine wpList_put _ rfl _ _ 22 rfl (w1.heap.size) 5 i0 Try.underlying22 hi q0 q1 q2 _ _ (4) _ rfl Oh (by simp [length_putN]) _ 6 6 [0, 0, 64, 0, l, r] rfl (Rd.lit w3 5 [0, 0, 64, 0, l, r]) rfl (fun h => by cases h) (10) (A) (by omega) hA.out.symm (by omega) (by (try simp only [World.size_alloc]); omega) ?_)
    intro cw4 dw4 w4 Oh' bw4
    replace Oh := Oh'
    clear Oh'
    clear s_V0 f_V0 z_V0
    have S_w4 := bw4.size
    try simp only [World.size_alloc] at S_w4
    replace V0 := V0.keptB (by omega) bw4
    replace Rt := Rt.keptB (fun b h => by have := Tt b h; omega) bw4
    replace B := B.trans (bw4.mono (by omega))
    clear bw4
    obtain ⟨s_V0, f_V0, z_V0⟩ := V0.open
    have Th := fun b h => (Oh.lt b h).2
    have Nh := Oh.nocap
    have Rh := Oh.rd
    clear Oh
    have K : ∀ w' : World, Below w4.heap.size w4 w' → (w'.cell? ⟨w.heap.size, 0, none⟩ = some (.int .i64 f) ∧ w'.cell? ⟨w.heap.size, 1, none⟩ = some (.int .i64 t)) := fun w' h => ⟨(V0.kept h).2.1 0 (by simp), (V0.kept h).2.1 1 (by simp)⟩
    have K := Hid.mk K
    go_wp2_with fail
    go_region_held3 (fun w' => w'.cell? ⟨w.heap.size, 0, none⟩ = some (.int .i64 f) ∧ w'.cell? ⟨w.heap.size, 1, none⟩ = some (.int .i64 t)) (first | exact K.out _ ((thenB (thenB (Below.refl _ _).drew bf) bt).trans be) | exact K.out _ (thenB (thenB (Below.refl _ _).drew bf) bt) | exact K.out _ (thenB (Below.refl _ _).drew bf) | exact K.out _ (Below.refl _ _).drew) (first | (refine step_put _ (by rfl) (.tmp 41) (.tmp 44) 22 (by rfl) w4.heap.size 5 i0 Try.underlying22 hi q0 q1 q2 cf df 4 _ (by simp [Act.eval]) (Of.kept bt) (length_putN _ _) ct 4 dt _ (by simp [Act.eval]) Ot'.rd (length_putN _ _) Ot'.nocap 8 E (by omega) hE.out.symm (by omega) (by have := bf.size; have := bt.size; simp at *; omega) ?_; intro ce de w7 On be) | (go_at_call 54; have hz := bf; clear hz; refine (l1Bytes_at t 4 _ (ptIn4 ht.1 ht.2)).mono ?_; rintro e w6 ⟨ct, dt, rfl, Ot', bt⟩) | (go_at_call 54; refine (l1Bytes_at f 4 _ (ptIn4 hf.1 hf.2)).mono ?_; rintro e w5 ⟨cf, df, rfl, Of, bf⟩))
    have bb := Hid.mk ((thenB (thenB (Below.refl _ _).drew bf) bt).trans be)
    clear s_V0 f_V0 z_V0
    replace V0 := V0.kept bb.out
    replace B := thenB B bb.out
    have S_w7 := bb.out.size
    replace Rt := Rt.kept bb.out
    replace Rh := Rh.kept bb.out
    clear bb bf bt be Of Ot' K
    have Tn := fun b h => (On.lt b h).2
    have Nn := On.nocap
    have Rn := On.rd
    clear On
    have Ob := Own.lit w7 5 ([] : List Int) (Nat.zero_le _)
    replace V0 := V0.kept (belowA w7 (.cells #[] 5))
    replace Rt := Rt.kept (belowA w7 (.cells #[] 5))
    replace Rh := Rh.kept (belowA w7 (.cells #[] 5))
    replace Rn := Rn.kept (belowA w7 (.cells #[] 5))
    replace B := thenB B (belowA w7 (.cells #[] 5))
    obtain ⟨s_V0, f_V0, z_V0⟩ := V0.open
    go_wp2_with (at_builtin; refine wpList_put _ rfl _ _ 22 rfl (w7.heap.size) 5 i0 Try.underlying22 hi q0 q1 q2 _ _ (0) _ rfl Ob rfl _ (10) _ _ rfl Rh hAl.out Nh (10) (A) (by omega) (by rfl) (by omega) (by (try simp only [World.size_alloc]); omega) ?_)
    intro cw8 dw8 w8 Ob' bw8
    replace Ob := Ob'
    clear Ob'
    clear s_V0 f_V0 z_V0
    have S_w8 := bw8.size
    try simp only [World.size_alloc] at S_w8
    replace V0 := V0.keptB (by omega) bw8
    replace Rt := Rt.keptB (fun b h => by have := Tt b h; omega) bw8
    replace Rh := Rh.keptB (fun b h => by have := Th b h; omega) bw8
    replace Rn := Rn.keptB (fun b h => by have := Tn b h; omega) bw8
    replace B := B.trans (bw8.mono (by omega))
    clear bw8
    obtain ⟨s_V0, f_V0, z_V0⟩ := V0.open
    replace V0 := V0.kept (belowA w8 (.cells #[.int .u8 0, .int .u8 0] 5))
    replace Rt := Rt.kept (belowA w8 (.cells #[.int .u8 0, .int .u8 0] 5))
    replace Rh := Rh.kept (belowA w8 (.cells #[.int .u8 0, .int .u8 0] 5))
    replace Rn := Rn.kept (belowA w8 (.cells #[.int .u8 0, .int .u8 0] 5))
    replace Ob := Ob.kept (belowA w8 (.cells #[.int .u8 0, .int .u8 0] 5))
    replace B := thenB B (belowA w8 (.cells #[.int .u8 0, .int .u8 0] 5))
    go_wp2_with (at_builtin; refine wpList_put _ rfl _ _ 22 rfl (w7.heap.size) 5 i0 Try.underlying22 hi q0 q1 q2 _ _ (10) _ rfl Ob hAl.out _ 2 2 [0, 0] rfl (Rd.lit w8 5 [0, 0]) rfl (fun h => by cases h) (12) (A ++ [0, 0]) (by omega) (by rfl) (by omega) (by (try simp only [World.size_alloc]); omega) ?_)
    intro cw9 dw9 w9 Ob' bw9
    replace Ob := Ob'
    clear Ob'
    clear s_V0 f_V0 z_V0
    have S_w9 := bw9.size
    try simp only [World.size_alloc] at S_w9
    replace V0 := V0.keptB (by omega) bw9
    replace Rt := Rt.keptB (fun b h => by have := Tt b h; omega) bw9
    replace Rh := Rh.keptB (fun b h => by have := Th b h; omega) bw9
    replace Rn := Rn.keptB (fun b h => by have := Tn b h; omega) bw9
    replace B := B.trans (bw9.mono (by omega))
    clear bw9
    obtain ⟨s_V0, f_V0, z_V0⟩ := V0.open
    go_wp2_with (at_builtin; refine wpList_put _ rfl _ _ 22 rfl (w7.heap.size) 5 i0 Try.underlying22 hi q0 q1 q2 _ _ (12) _ rfl Ob (by rw [List.length_append, hAl.out]; rfl) _ (8) _ _ rfl Rn hEl.out Nn (20) (Z) (by omega) hZ.out.symm (by omega) (by (try simp only [World.size_alloc]); omega) ?_)
    intro cw10 dw10 w10 Ob' bw10
    replace Ob := Ob'
    clear Ob'
    clear s_V0 f_V0 z_V0
    have S_w10 := bw10.size
    try simp only [World.size_alloc] at S_w10
    replace V0 := V0.keptB (by omega) bw10
    replace Rt := Rt.keptB (fun b h => by have := Tt b h; omega) bw10
    replace Rh := Rh.keptB (fun b h => by have := Th b h; omega) bw10
    replace Rn := Rn.keptB (fun b h => by have := Tn b h; omega) bw10
    replace B := B.trans (bw10.mono (by omega))
    clear bw10
    obtain ⟨s_V0, f_V0, z_V0⟩ := V0.open
    have Tb := fun b h => (Ob.lt b h).2
    have Nb := Ob.nocap
    have Rb := Ob.rd
    clear Ob
    have Oo := Own.lit w10 5 ([] : List Int) (Nat.zero_le _)
    replace V0 := V0.kept (belowA w10 (.cells #[] 5))
    replace Rt := Rt.kept (belowA w10 (.cells #[] 5))
    replace Rh := Rh.kept (belowA w10 (.cells #[] 5))
    replace Rn := Rn.kept (belowA w10 (.cells #[] 5))
    replace Rb := Rb.kept (belowA w10 (.cells #[] 5))
    replace B := thenB B (belowA w10 (.cells #[] 5))
    go_wp2_with (at_builtin; refine wpList_put _ rfl _ _ 22 rfl (w10.heap.size) 5 i0 Try.underlying22 hi q0 q1 q2 _ _ (0) _ rfl Oo rfl _ (10) _ _ rfl Rh hAl.out Nh (10) (A) (by omega) (by rfl) (by omega) (by (try simp only [World.size_alloc]); omega) ?_)
    intro cw11 dw11 w11 Oo' bw11
    replace Oo := Oo'
    clear Oo'
    clear s_V0 f_V0 z_V0
    have S_w11 := bw11.size
    try simp only [World.size_alloc] at S_w11
    replace V0 := V0.keptB (by omega) bw11
    replace Rt := Rt.keptB (fun b h => by have := Tt b h; omega) bw11
    replace Rh := Rh.keptB (fun b h => by have := Th b h; omega) bw11
    replace Rn := Rn.keptB (fun b h => by have := Tn b h; omega) bw11
    replace Rb := Rb.keptB (fun b h => by have := Tb b h; omega) bw11
    replace B := B.trans (bw11.mono (by omega))
    clear bw11
    obtain ⟨s_V0, f_V0, z_V0⟩ := V0.open
    go_wp2_with fail
    refine (specSumWords_ok _ 20 _ Z _ Rb hZb.out hZl.out (by omega)).mono ?_
    rintro e w12 ⟨rfl, bw12⟩
    clear s_V0 f_V0 z_V0
    have S_w12 := bw12.size
    try simp only [World.size_alloc] at S_w12
    replace V0 := V0.kept bw12
    replace Rt := Rt.kept bw12
    replace Rh := Rh.kept bw12
    replace Rn := Rn.kept bw12
    replace Rb := Rb.kept bw12
    replace Oo := Oo.kept bw12
    replace B := thenB B bw12
    clear bw12
    obtain ⟨s_V0, f_V0, z_V0⟩ := V0.open
    have hsb := sumWords_bound Z
    go_wp2_with fail
    refine (l1Bytes_at (sumWords Z) 2 _ (ptIn2 hsb.1 hsb.2)).mono ?_
    rintro e w13 ⟨cw13, dw13, rfl, Oq, bw13⟩
    clear s_V0 f_V0 z_V0
    have S_w13 := bw13.size
    try simp only [World.size_alloc] at S_w13
    replace V0 := V0.kept bw13
    replace Rt := Rt.kept bw13
    replace Rh := Rh.kept bw13
    replace Rn := Rn.kept bw13
    replace Rb := Rb.kept bw13
    replace Oo := Oo.kept bw13
    replace B := thenB B bw13
    clear bw13
    obtain ⟨s_V0, f_V0, z_V0⟩ := V0.open
    go_wp2_with (at_builtin; refine wpList_put _ rfl _ _ 22 rfl (w10.heap.size) 5 i0 Try.underlying22 hi q0 q1 q2 _ _ (10) _ rfl Oo hAl.out _ (2) _ _ rfl Oq.rd (length_putN _ _) Oq.nocap (12) (A ++ putN (sumWords Z) 2) (by omega) (by rfl) (by omega) (by (try simp only [World.size_alloc]); omega) ?_)
    intro cw14 dw14 w14 Oo' bw14
    replace Oo := Oo'
    clear Oo'
    clear s_V0 f_V0 z_V0
    have S_w14 := bw14.size
    try simp only [World.size_alloc] at S_w14
    clear Oq
    replace V0 := V0.keptB (by omega) bw14
    replace Rt := Rt.keptB (fun b h => by have := Tt b h; omega) bw14
    replace Rh := Rh.keptB (fun b h => by have := Th b h; omega) bw14
    replace Rn := Rn.keptB (fun b h => by have := Tn b h; omega) bw14
    replace Rb := Rb.keptB (fun b h => by have := Tb b h; omega) bw14
    replace B := B.trans (bw14.mono (by omega))
    clear bw14
    obtain ⟨s_V0, f_V0, z_V0⟩ := V0.open
    go_wp2_with (at_builtin; refine wpList_put _ rfl _ _ 22 rfl (w10.heap.size) 5 i0 Try.underlying22 hi q0 q1 q2 _ _ (12) _ rfl Oo (by rw [List.length_append, hAl.out, length_putN]) _ (8) _ _ rfl Rn hEl.out Nn (20) (A ++ putN (sumWords Z) 2 ++ E) (by omega) (by rfl) (by omega) (by (try simp only [World.size_alloc]); omega) ?_)
    intro cw15 dw15 w15 Oo' bw15
    replace Oo := Oo'
    clear Oo'
    clear s_V0 f_V0 z_V0
    have S_w15 := bw15.size
    try simp only [World.size_alloc] at S_w15
    replace V0 := V0.keptB (by omega) bw15
    replace Rt := Rt.keptB (fun b h => by have := Tt b h; omega) bw15
    replace Rh := Rh.keptB (fun b h => by have := Th b h; omega) bw15
    replace Rn := Rn.keptB (fun b h => by have := Tn b h; omega) bw15
    replace Rb := Rb.keptB (fun b h => by have := Tb b h; omega) bw15
    replace B := B.trans (bw15.mono (by omega))
    clear bw15
    obtain ⟨s_V0, f_V0, z_V0⟩ := V0.open
    go_wp2_with (at_builtin; refine wpList_put _ rfl _ _ 22 rfl (w10.heap.size) 5 i0 Try.underlying22 hi q0 q1 q2 _ _ (20) _ rfl Oo (by simp only [List.length_append, hAl.out, length_putN, hEl.out]) _ (tl) _ _ rfl Rt hTL.out Nt (20 + tl) (A ++ putN (sumWords Z) 2 ++ E ++ TL) (by omega) (by simp) (by omega) (by (try simp only [World.size_alloc]); omega) ?_)
    intro cw16 dw16 w16 Oo' bw16
    replace Oo := Oo'
    clear Oo'
    clear s_V0 f_V0 z_V0
    have S_w16 := bw16.size
    try simp only [World.size_alloc] at S_w16
    replace V0 := V0.keptB (by omega) bw16
    replace Rt := Rt.keptB (fun b h => by have := Tt b h; omega) bw16
    replace Rh := Rh.keptB (fun b h => by have := Th b h; omega) bw16
    replace Rn := Rn.keptB (fun b h => by have := Tn b h; omega) bw16
    replace Rb := Rb.keptB (fun b h => by have := Tb b h; omega) bw16
    replace B := B.trans (bw16.mono (by omega))
    clear bw16
    obtain ⟨s_V0, f_V0, z_V0⟩ := V0.open
    clear s_V0 f_V0 z_V0
    have Oo' := Hid.mk Oo
    clear Oo
    go_wp2
    go_ret
    have Of := Oo'.out.mono (base' := w.heap.size) (by omega)
    exact ⟨cw16, dw16, by rw [hBd.out.1, hBd.out.2]; rfl, by rw [hBd.out.1]; simpa using Of, B⟩

theorem pfC_fit {f t r l x y : Int} {n : Nat} (h : pfC f t r l x y n = 0) : (0 ≤ f ∧ f ≤ 4294967295) ∧ (0 ≤ t ∧ t ≤ 4294967295) ∧ (1 ≤ r ∧ r ≤ 255) ∧ (1 ≤ l ∧ l ≤ 255) ∧ (0 ≤ x ∧ x ≤ 65535) ∧ (0 ≤ y ∧ y ≤ 65535) := fitP_iff.1 (pfC_zero h).1

end Go.Proofs.Ythjaehcfakjemaa
