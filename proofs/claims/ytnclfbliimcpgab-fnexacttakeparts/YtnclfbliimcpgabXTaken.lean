/- The law on 'TakeParts': its walk. -/
import Derived.Test.YtnclfbliimcpgabCutI
import Derived.Test.YtnclfbliimcpgabHeldT
namespace Go.Proofs.Ytnclfbliimcpgab
open Go.RowKit

theorem cutN_small : ∀ (n : Nat) (zs : List Int) (r : List (List Int)), cutN n zs = some r → r.length ≤ n ∧ r.length + total r ≤ zs.length
  | n, [], r, h => by rw [cutN_nil] at h; simp at h; subst h; simp [total]
  | 0, _ :: _, r, h => by simp [cutN] at h
  | n + 1, z :: zs, r, h => by
    by_cases hz : z.toNat ≤ zs.length
    · rw [cutN_next _ _ _ hz] at h
      cases hc : cutN n (zs.drop z.toNat) with
      | none => rw [hc] at h; cases h
      | some r' =>
        rw [hc] at h
        simp at h
        subst h
        obtain ⟨h1, h2⟩ := cutN_small n _ r' hc
        simp [total] at h2 ⊢
        omega
    · rw [cutN_over _ _ _ hz] at h; cases h

theorem tp_small {zs : List Int} {k : Int} {zss : List (List Int)} (h : tpOf zs k zss) : zss.length ≤ 20 ∧ total zss ≤ 400 := by
  by_cases h1 : 400 < zs.length
  · rw [(h.1 h1).2]; simp [total]
  · cases hc : cutN 20 zs with
    | none => rw [(h.2.1 (by omega) hc).2]; simp [total]
    | some r =>
      rw [(h.2.2 (by omega) r hc).2]
      have := cutN_small _ _ _ hc
      omega

theorem mem_total {zss : List (List Int)} {z : List Int} (h : z ∈ zss) : z.length ≤ total zss := by
  induction zss with
  | nil => cases h
  | cons a r ih =>
    rcases List.mem_cons.1 h with rfl | h
    · simp [total]
    · have := ih h; simp [total]; omega

/-- In which blocks the rows lie. -/
def spanT (c : Option Addr) (ps : List Lot) (lo hi : Nat) : Prop := (∀ b, c = some b → lo ≤ b.block ∧ b.block < hi) ∧ ∀ p ∈ ps, ∀ b, p.1 = some b → lo ≤ b.block ∧ b.block < hi

theorem OwnT.span {w : World} {base : Nat} {c : Option Addr} {d : Nat} {ps : List Lot} (h : OwnT w base c d ps) : spanT c ps base w.heap.size :=
  ⟨h.lt, fun p hp => (h.2.1 p hp).1.lt⟩

theorem ownsRow_block {w w' : World} {base : Nat} {e : TypeId} {a : Option Addr} {n cap : Nat} {xs : List Value} (h : w.ownsRow base e 1 (.slice a n cap) n xs) (hb : ∀ b, a = some b → w'.heap[b.block]? = w.heap[b.block]?) : w'.ownsRow base e 1 (.slice a n cap) n xs := by
  refine ⟨h.1, ?_⟩
  rcases h.2 with h2 | ⟨g, cap', cur, hv, hg, hh, r⟩
  · exact .inl h2
  · have hv' := hv
    simp only [Value.slice.injEq, true_and] at hv'
    exact .inr ⟨g, cap', cur, hv, hg, (hb _ hv'.1).trans hh, r⟩

theorem OwnT.far {w w' : World} {base lo hi : Nat} {c : Option Addr} {d : Nat} {ps : List Lot} (h : OwnT w base c d ps) (s : spanT c ps lo hi) (he : ∀ k, lo ≤ k → k < hi → w'.heap[k]? = w.heap[k]?) : OwnT w' base c d ps :=
  ⟨ownsRow_block h.1 fun b hb => he _ (s.1 b hb).1 (s.1 b hb).2, fun p hp => ⟨ownsRow_block (h.2.1 p hp).1 fun b hb => he _ (s.2 p hp b hb).1 (s.2 p hp b hb).2, (h.2.1 p hp).2⟩, h.2.2⟩

set_option maxHeartbeats 2000000 in
theorem xTaken_walk (a : Option Addr) (n ca : Nat) (xs : List Int) (w : World) (hR : Rd .u8 w a xs) (hB : Bytes xs) (hn : xs.length = n) :
    Calls Try.prog 6 #[.slice a n ca] w fun e w' => e = .returned (.bool true) ∧ Below w.heap.size w w' := by
  by_cases hbig : (n : Int) ≤ 1048576
  · have hx : n ≤ 1048576 := by omega
    have hx2 : n ≤ 281474976710656 := by omega
    have hx' : n ≤ maxLen := by unfold maxLen; omega
    obtain ⟨k, zss, hk⟩ := tp_is xs
    obtain ⟨hs1, hs2⟩ := tp_small hk
    obtain ⟨N, hN⟩ : ∃ N, zss.length = N := ⟨_, rfl⟩
    have hNx : N ≤ maxLen := by unfold maxLen; omega
    have hNm : N ≤ 1048576 := by omega
    have hl : ∀ z ∈ zss, z.length ≤ maxLen := fun z hz => by have := mem_total hz; unfold maxLen; omega
    have CS : Hid (∀ (c : Option Addr) (wx : World), Rd .u8 wx c xs → Calls Try.prog 24 #[.slice c n n] wx fun e w' => ∃ (c : Option Addr) (d : Nat) (ps : List Lot), e = .returned (.agg #[.int .i64 k, .slice c N d]) ∧ lotsOf ps = zss ∧ ps.length = N ∧ OwnT w' wx.heap.size c d ps ∧ Below wx.heap.size wx w') :=
      Hid.mk fun c wx h => (specTakeParts_ok c n n xs k zss hk wx h hB hn hx (Nat.le_refl _)).mono fun e w' ⟨c, d, ps, h1, h2, h3, h4⟩ => by
        have e1 : ps.length = N := by rw [← hN, ← h2]; simp [lotsOf]
        exact ⟨c, d, ps, by rw [h1, e1], h2, e1, h3, h4⟩
    have CI : Hid (∀ (c : Option Addr) (wx : World), Rd .u8 wx c xs → Calls Try.prog 25 #[.slice c n n] wx fun e w' => ∃ (c : Option Addr) (d : Nat) (ps : List Lot), e = .returned (.agg #[.int .i64 k, .slice c N d]) ∧ lotsOf ps = zss ∧ ps.length = N ∧ OwnT w' wx.heap.size c d ps ∧ Below wx.heap.size wx w') :=
      Hid.mk fun c wx h => (implTakeParts_ok c n n xs k zss hk wx h hB hn hx (Nat.le_refl _)).mono fun e w' ⟨c, d, ps, h1, h2, h3, h4⟩ => by
        have e1 : ps.length = N := by rw [← hN, ← h2]; simp [lotsOf]
        exact ⟨c, d, ps, by rw [h1, e1], h2, e1, h3, h4⟩
    have HN := Hid.mk hN
    have hT1 : 1 + (total zss : Int) ≤ 4611686018427387904 := by omega
    have hT0 : 0 ≤ 1 + (total zss : Int) := by omega
    clear hk hN
    go_enter Try.func6, Try.ntmps6
    go_wp2_with fail
    refine (toByteS_at a n ca xs _ hR hn hx2).mono ?_
    rintro e w1 ⟨rfl, o1, b1⟩
    go_wp2_with fail
    refine (CS.out _ _ o1.rd).mono ?_
    rintro e w2 ⟨c1, d1, ps1, rfl, hz1, hl1, r1, b2⟩
    have B2 := thenB b1 b2
    have A0 := At.new2 w2 (.int .i64 k) (.slice c1 N d1) 42
    have B2' := thenB B2 (belowA w2 (.cells #[.int .i64 k, .slice c1 N d1] 42))
    have s1 := r1.span
    have r1 := r1.kept (belowA w2 (.cells #[.int .i64 k, .slice c1 N d1] 42))
    go_wp2_with fail
    refine (toByteS_at a n ca xs _ (hR.kept B2') hn hx2).mono ?_
    rintro e w3 ⟨rfl, o3, b3⟩
    have B3 := thenB B2' b3
    have A0 := A0.kept b3
    have r1 := r1.kept b3
    have hlo : w2.heap.size + 1 ≤ w3.heap.size := by have := b3.size; simpa using this
    have o3lt := (o3.lt _ rfl).2
    simp only [World.size_alloc] at o3 o3lt
    go_wp2_with fail
    refine (CI.out _ _ o3.rd).mono ?_
    rintro e w4 ⟨c2, d2, ps2, rfl, hz2, hl2, r2, b4⟩
    have B4 := thenB B3 b4
    have A0 := (A0.kept b4).kept (belowA w4 (.cells #[.int .i64 k, .slice c2 N d2] 42))
    have r1 := (r1.kept b4).kept (belowA w4 (.cells #[.int .i64 k, .slice c2 N d2] 42))
    have o3 := (o3.kept b4).kept (belowA w4 (.cells #[.int .i64 k, .slice c2 N d2] 42))
    have s2 := r2.span
    have r2 := r2.kept (belowA w4 (.cells #[.int .i64 k, .slice c2 N d2] 42))
    have A1 := At.new2 w4 (.int .i64 k) (.slice c2 N d2) 42
    have B4' := thenB B4 (belowA w4 (.cells #[.int .i64 k, .slice c2 N d2] 42))
    have h34 := b4.size
    have R1 := Hid.mk (fun wx (h : OwnT wx w1.heap.size c1 d1 ps1) => hz1 ▸ h.rd)
    have R2 := Hid.mk (fun wx (h : OwnT wx w3.heap.size c2 d2 ps2) => hz2 ▸ h.rd)
    obtain ⟨f1, f2, f3⟩ := A0.two
    go_wp2_with fail
    refine (eqPartsResult_ok k c2 c1 N d2 d1 zss _ (R2.out _ r2) (R1.out _ r1) HN.out hNx hl).mono ?_
    rintro e w5 ⟨rfl, b5⟩
    clear f1 f2 f3
    have B5 := thenB B4' b5
    have A0 := A0.kept b5
    have A1 := A1.kept b5
    have r1 := r1.kept b5
    have r2 := r2.kept b5
    have o3 := o3.kept b5
    go_wp2_with fail
    refine (toByteS_at a n ca xs _ (hR.kept B5) hn hx2).mono ?_
    rintro e w6 ⟨rfl, o6, b6⟩
    go_wp2_with fail
    refine (eqByteS_ok _ _ n n _ _ xs xs _ (o3.kept b6).rd o6.rd hn hn hx' hx').mono ?_
    rintro e w7 ⟨rfl, b7⟩
    have hT : decide (xs = xs) = true := by simp
    have B7 := thenB (thenB B5 b6) b7
    have A0 := (A0.kept b6).kept b7
    have A1 := (A1.kept b6).kept b7
    have r1 := (r1.kept b6).kept b7
    have r2 := (r2.kept b6).kept b7
    have o3 := (o3.kept b6).kept b7
    have h57 : w4.heap.size < w7.heap.size := A1.1
    go_wp2_with fail
    refine (markByteS_ok _ n n _ xs 1 _ o3 hn (by omega) (by omega)).mono ?_
    rintro e w8 ⟨rfl, o8, g8⟩
    have B8 := belowG B7 g8 B7.size fun b hb => by have := B2.size; simp at hb; subst hb; simp; omega
    have A0 := A0.grown g8 (by simp)
    have A1 := A1.grown g8 (by simp; omega)
    have r1 := r1.far s1 fun j hj1 hj2 => g8.block j (by omega) (by simp; omega)
    have r2 := r2.far s2 fun j hj1 hj2 => g8.block j (by omega) (by simp; omega)
    have hn1 : 0 ≤ 1 + (n : Int) := by omega
    clear o1 o3 o6 o8
    obtain ⟨f1, f2, f3⟩ := A0.two
    obtain ⟨f4, f5, f6⟩ := A1.two
    go_wp2_with fail
    refine (eqPartsResult_ok k c2 c1 N d2 d1 zss _ (R2.out _ r2) (R1.out _ r1) HN.out hNx hl).mono ?_
    rintro e w9 ⟨rfl, b9⟩
    clear f1 f2 f3 f4 f5 f6
    have A0 := A0.kept b9
    have A1 := A1.kept b9
    have r1 := r1.kept b9
    have r2 := r2.kept b9
    have B9 := thenB B8 b9
    have h79 : w4.heap.size < w9.heap.size := A1.1
    obtain ⟨f4, f5, f6⟩ := A1.two
    go_wp2_with fail
    refine (markPartsResult_ok k c2 N d2 _ w4.heap.size 1 ps2 _ r2 hl2 (fun p hp b hb => (s2.2 p hp b hb).2) (by omega) hNm (by rw [hz2]; exact hT1)).mono ?_
    rintro e w10 ⟨he10, r2', W10⟩
    rw [hz2] at he10
    subst he10
    clear f4 f5 f6
    have B10 : Below w.heap.size w w10 := B9.trans (W10.below B3.size (by omega))
    have A0 := A0.within W10 (.inl (by omega))
    have A1 := A1.within W10 (.inr (Nat.le_refl _))
    have r1 := r1.far s1 fun j hj1 hj2 => W10.2.2.2.2 j (by omega) (.inl (by omega))
    have m2 : RdR w10 c2 (markLists 1 zss) := by
      have h := r2'.rd
      rw [← hl2, markTo_all, hz2] at h
      exact h
    clear r2 r2'
    obtain ⟨f4, f5, f6⟩ := A1.two
    go_wp2_with fail
    refine (heldPartsResult_ok k c2 N d2 1 zss _ m2 HN.out (by omega) hNm hT1).mono ?_
    rintro e w11 ⟨rfl, b11⟩
    clear f4 f5 f6
    have A0 := A0.kept b11
    have A1 := A1.kept b11
    have r1 := r1.kept b11
    have m2 := m2.kept b11
    have B11 := thenB B10 b11
    go_wp2_with fail
    refine (toByteS_at a n ca xs _ (hR.kept B11) hn hx2).mono ?_
    rintro e w12 ⟨rfl, o12, b12⟩
    have B12 := thenB B11 b12
    go_wp2_with fail
    refine (CI.out _ _ o12.rd).mono ?_
    rintro e w13 ⟨c3, d3, ps3, rfl, hz3, hl3, r3, b13⟩
    have B13 := thenB (thenB B12 b13) (belowA w13 (.cells #[.int .i64 k, .slice c3 N d3] 42))
    have A0 := ((A0.kept b12).kept b13).kept (belowA w13 (.cells #[.int .i64 k, .slice c3 N d3] 42))
    have A1 := ((A1.kept b12).kept b13).kept (belowA w13 (.cells #[.int .i64 k, .slice c3 N d3] 42))
    have r1 := ((r1.kept b12).kept b13).kept (belowA w13 (.cells #[.int .i64 k, .slice c3 N d3] 42))
    have m2 := ((m2.kept b12).kept b13).kept (belowA w13 (.cells #[.int .i64 k, .slice c3 N d3] 42))
    have r3 := (r3.kept (belowA w13 (.cells #[.int .i64 k, .slice c3 N d3] 42))).rd
    rw [hz3] at r3
    obtain ⟨f1, f2, f3⟩ := A0.two
    go_wp2_with fail
    refine (eqPartsResult_ok k c3 c1 N d3 d1 zss _ r3 (R1.out _ r1) HN.out hNx hl).mono ?_
    rintro e w14 ⟨rfl, b14⟩
    clear f1 f2 f3
    have A1 := A1.kept b14
    have m2 := m2.kept b14
    obtain ⟨f1, f2, f3⟩ := A1.two
    go_wp2_with fail
    refine (heldPartsResult_ok k c2 N d2 1 zss _ m2 HN.out (by omega) hNm hT1).mono ?_
    rintro e w15 ⟨rfl, b15⟩
    clear f1 f2 f3
    go_wp2
    go_ret
    exact ⟨rfl, thenB (thenB B13 b14) b15⟩
  · go_enter Try.func6, Try.ntmps6
    go_wp2
    go_ret
    exact ⟨rfl, Below.refl _ _⟩

end Go.Proofs.Ytnclfbliimcpgab
