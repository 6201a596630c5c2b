/- MakeKeys of the program. -/
import Derived.Test.YthkmoabkeblbjaaMe
import Derived.Test.YthkmoabkeblbjaaMg
namespace Go.Proofs.Ythkmoabkeblbjaa
open Go.RowKit

theorem build_kr1k (k : Int) (w : World) : (Instr.build 30 #[(0, .int .i64 k)]).run Try.prog w = .ok (.agg #[.int .i64 k, .int .i64 0, .int .i64 0, .int .i64 0, .int .i64 0, .slice none 0 0]) w := run_build w 30 _ _ (by kernel_rfl)

theorem build_ky (a b c d : Int) (w : World) : (Instr.build 28 #[(0, .int .i64 a), (1, .int .i64 b), (2, .int .i64 c), (3, .int .i64 d)]).run Try.prog w = .ok (.agg #[.int .i64 a, .int .i64 b, .int .i64 c, .int .i64 d]) w := run_build w 28 _ _ (by kernel_rfl)

theorem build_kr2k (a b c d : Int) (q : Option Addr) (n e : Nat) (w : World) : (Instr.build 30 #[(1, .agg #[.int .i64 a, .int .i64 b, .int .i64 c, .int .i64 d]), (2, .slice q n e)]).run Try.prog w = .ok (.agg #[.int .i64 0, .int .i64 a, .int .i64 b, .int .i64 c, .int .i64 d, .slice q n e]) w := run_build w 30 _ _ (by kernel_rfl)

/-- The maker's state, told in parts: what the program's book holds begins with the first table. -/
def MX (w : World) (Of : Nat → Prop) (Q : Nat) (m : Mk) (xs : List T4) (base p g : Nat) (c : Option Addr) (d : Nat) (ys : List T4) : Prop :=
  V w Q [.pointer (some ⟨p, 0, none⟩), .int .i64 m.c] ∧ Bk w base p g c d ys ∧ ys.length ≤ 400 ∧ (m.c = 0 → ys = m.l) ∧ (∃ us, ys = xs ++ us) ∧ ¬ BkX p g c Q ∧ (∀ k, Of k → k < w.heap.size ∧ k ≠ Q ∧ ¬ BkX p g c k)

theorem mx_step {w w1 w2 : World} {Q base p g d1 : Nat} {Of : Nat → Prop} {c c1 : Option Addr} {xs ys : List T4} {m' : Mk} (hQw : Q < w.heap.size) (hn : ¬ BkX p g c Q)
    (ho : ∀ k, Of k → k < w.heap.size ∧ k ≠ Q ∧ ¬ BkX p g c k) (H1 : Bk w1 base p g c1 d1 ys) (hy : ys.length ≤ 400) (S1 : Sm (BkX p g c) w w1) (hs : ∀ k, BkX p g c1 k → k < w.heap.size → BkX p g c k)
    (V2 : V w2 Q [.pointer (some ⟨p, 0, none⟩), .int .i64 m'.c]) (S2 : Sm (fun k => k = Q) w1 w2) (hl : m'.c = 0 → ys = m'.l) (hu : ∃ us, ys = xs ++ us) : MX w2 Of Q m' xs base p g c1 d1 ys ∧ Sm (fun k => ¬ Of k) w w2 := by
  have n1 : ¬ BkX p g c1 Q := fun e => hn (hs Q e hQw)
  refine ⟨⟨V2, H1.sm S2 (fun k e h => n1 (by subst e; exact h)), hy, hl, hu, n1, fun k hk => ?_⟩, ?_⟩
  · obtain ⟨o1, o2, o3⟩ := ho k hk
    exact ⟨by have := S1.size; have := S2.size; omega, o2, fun e => o3 (hs k e o1)⟩
  · exact (S1.wide (fun k hk h => (ho k h).2.2 hk)).trans (S2.wide (fun k e h => (ho k h).2.1 e))

theorem MX.mp {w : World} {b0 Q base p g d : Nat} {Of : Nat → Prop} {c : Option Addr} {xs ys : List T4} {m : Mk} (h : MX w Of Q m xs base p g c d ys) (hb : b0 ≤ base) (hQ : b0 ≤ Q) : MP w b0 Of Q m := by
  obtain ⟨h1, h2, h3, h4, _, h6, h7⟩ := h
  exact ⟨base, p, g, c, d, ys, h1, h2, h3, h4, hb, hQ, h6, h7⟩

theorem MX.kept {w w' : World} {Q base p g d : Nat} {Of : Nat → Prop} {c : Option Addr} {xs ys : List T4} {m : Mk} (h : MX w Of Q m xs base p g c d ys) (hb : Below w.heap.size w w') : MX w' Of Q m xs base p g c d ys := by
  obtain ⟨h1, h2, h3, h4, h5, h6, h7⟩ := h
  exact ⟨h1.kept hb, h2.kept hb, h3, h4, h5, h6, fun k hk => ⟨Nat.lt_of_lt_of_le (h7 k hk).1 hb.size, (h7 k hk).2⟩⟩

theorem MX.less {w : World} {Q base p g d : Nat} {Of Of' : Nat → Prop} {c : Option Addr} {xs ys : List T4} {m : Mk} (h : MX w Of Q m xs base p g c d ys) (hk : ∀ k, Of' k → Of k) : MX w Of' Q m xs base p g c d ys := by
  obtain ⟨h1, h2, h3, h4, h5, h6, h7⟩ := h
  exact ⟨h1, h2, h3, h4, h5, h6, fun k k1 => h7 k (hk k k1)⟩

theorem MX.more {w w' : World} {Q base p g d n : Nat} {Of : Nat → Prop} {c : Option Addr} {xs ys : List T4} {m : Mk} (h : MX w Of Q m xs base p g c d ys) (hb : Below w.heap.size w w') (h1 : w.heap.size ≤ n) (h2 : n < w'.heap.size) : MX w' (fun k => Of k ∨ k = n) Q m xs base p g c d ys := by
  obtain ⟨a1, a2, a3, a4, a5, a6, a7⟩ := h
  refine ⟨a1.kept hb, a2.kept hb, a3, a4, a5, a6, ?_⟩
  rintro k (hk | rfl)
  · exact ⟨Nat.lt_of_lt_of_le (a7 k hk).1 hb.size, (a7 k hk).2⟩
  · exact ⟨h2, by have := a1.1; omega, fun e => by have := (a2.lt _ e).2; omega⟩

set_option maxHeartbeats 2000000 in
theorem listX_ok (Q base p g : Nat) (c : Option Addr) (d : Nat) (Of : Nat → Prop) (xs : List T4) (cc : Option Addr) (n dd : Nat) (zs : List Int) (w : World) (h : MX w Of Q ⟨xs, 0⟩ xs base p g c d xs) (hR : Rd .i64 w cc zs) (hn : zs.length = n) (hnx : n ≤ maxLen) (hz : ∀ z ∈ zs, 0 ≤ z ∧ z ≤ 400) (hcc : ∀ b : Addr, cc = some b → Of b.block) :
    Calls Try.prog 68 #[.pointer (some ⟨Q, 0, none⟩), .slice cc n dd] w fun e w' => ∃ v c' d' ys, e = .returned (.int .i64 v) ∧ (0 ≤ v ∧ v ≤ 400) ∧ ((mkE ⟨xs, 0⟩ zs).1.c = 0 → v = (mkE ⟨xs, 0⟩ zs).2) ∧ MX w' Of Q (mkE ⟨xs, 0⟩ zs).1 xs base p g c' d' ys ∧ Sm (fun k => ¬ Of k) w w' := by
  obtain ⟨VQ, H, hl, _, _, hnb, ho⟩ := h
  have HQ := VQ.1
  have CP := Hid.mk (fun w H hR hlb => putListF_ok base p g c d xs cc n dd zs w H hl hR hn hnx hz hlb)
  have CK := Hid.mk (fun w V => keep_ok Q p (plP xs zs).c (plP xs zs).k 0 w V)
  obtain ⟨x1, x2, x3⟩ := mkE_plP (m := ⟨xs, 0⟩) rfl zs
  have E0 := Hid.mk (And.intro x1 (And.intro x2 x3))
  have hk := Hid.mk (plP_k hl zs hz)
  have ST := Hid.mk (fun w1 w2 c1 d1 ys H1 hy S1 hs V2 S2 hl2 hu => mx_step (w := w) (w1 := w1) (w2 := w2) (c1 := c1) (d1 := d1) (Of := Of) (ys := ys) (xs := xs) (base := base) (m' := (mkE ⟨xs, 0⟩ zs).1) HQ hnb ho H1 hy S1 hs V2 S2 hl2 hu)
  have HLB := Hid.mk (fun b hb => (show b.block < w.heap.size ∧ ¬ BkX p g c b.block from ⟨(ho _ (hcc b hb)).1, (ho _ (hcc b hb)).2.2⟩))
  have HR := Hid.mk hR
  replace hnb := Hid.mk hnb
  clear ho hz hcc hR hn x1 x2 x3
  simp only at E0
  generalize plP xs zs = P at *
  generalize mkE ⟨xs, 0⟩ zs = M at *
  obtain ⟨kc, kk, kl⟩ := P
  obtain ⟨⟨ml, mc⟩, mv⟩ := M
  simp only at *
  have HB := Hid.mk H
  have VH := Hid.mk VQ
  clear H
  go_enter Try.func68, Try.ntmps68
  obtain ⟨s_VQ, f_VQ, z_VQ⟩ := VQ.open
  go_wp2_with fail
  refine (CP.out _ HB.out HR.out HLB.out).mono ?_
  rintro e w1 ⟨c1, d1, ys, rfl, hys, hy, hu, H1, S1, hs⟩
  clear s_VQ f_VQ z_VQ VQ
  have V1 := VH.out.sm S1 hnb.out
  replace H1 := Hid.mk H1
  replace S1 := Hid.mk S1
  replace hys := Hid.mk hys
  replace hu := Hid.mk hu
  go_wp2_with fail
  refine (CK.out _ V1).mono ?_
  rintro e w2 ⟨rfl, V2, S2⟩
  obtain ⟨e0, e1, e2⟩ := E0.out
  simp only [if_true] at V2
  rw [← e0] at V2
  have RR := Hid.mk (ST.out w1 w2 c1 d1 ys H1.out hy S1.out hs V2 S2 (fun h2 => by rw [hys.out (e0 ▸ h2)]; exact (e2 (e0 ▸ h2)).symm) hu.out)
  clear V1 V2 S2 hs hy
  go_wp2
  go_ret
  exact ⟨_, c1, d1, ys, rfl, hk.out, fun _ => e1.symm, RR.out.1, RR.out.2⟩

theorem listX_lit (Q base p g : Nat) (c : Option Addr) (d : Nat) (Of : Nat → Prop) (xs : List T4) (zs : List Int) (w : World) (h : MX w Of Q ⟨xs, 0⟩ xs base p g c d xs) (hn : zs.length ≤ 1048576) (hz : ∀ z ∈ zs, 0 ≤ z ∧ z ≤ 400) :
    Calls Try.prog 68 #[.pointer (some ⟨Q, 0, none⟩), .slice (some ⟨w.heap.size, 0, none⟩) zs.length zs.length] (w.alloc (.cells (zs.map (Value.int .i64)).toArray 2)) fun e w' => ∃ v c' d' ys, e = .returned (.int .i64 v) ∧ (0 ≤ v ∧ v ≤ 400) ∧ ((mkE ⟨xs, 0⟩ zs).1.c = 0 → v = (mkE ⟨xs, 0⟩ zs).2) ∧ MX w' Of Q (mkE ⟨xs, 0⟩ zs).1 xs base p g c' d' ys ∧ Sm (fun k => ¬ Of k) w w' := by
  have b := belowA w (.cells (zs.map (Value.int .i64)).toArray 2)
  have M := h.more b (Nat.le_refl _) (by rw [World.size_alloc]; omega)
  refine (listX_ok Q base p g c d _ xs _ zs.length zs.length zs _ M (Rd.litI w zs) rfl (by unfold maxLen; omega) hz (fun q hq => by simp only [Option.some.injEq] at hq; subst hq; exact .inr rfl)).mono ?_
  rintro e w' ⟨v, c', d', ys, he, hv, hve, M2, S⟩
  exact ⟨v, c', d', ys, he, hv, hve, M2.less (fun k hk => .inl hk), (Sm.below (X := fun k => ¬ Of k) b).trans (S.wide (fun k hk h2 => hk (.inl h2)))⟩

theorem mk_told (xs : List T4) (ni nr own half si sr : Int) (h1 : aqC xs [ni, nr, own, half] = 0) (h2 : btw si 0 9999 = true) (h3 : btw sr 0 9999 = true) :
    ((tmAt xs own).o ≠ 2 ∧ mkR xs ni nr own half si sr = ⟨1, ⟨0, 0, 0, 0⟩, []⟩) ∨ ((tmAt xs own).o = 2 ∧ (tmAt xs half).o ≠ 6 ∧ mkR xs ni nr own half si sr = ⟨1, ⟨0, 0, 0, 0⟩, []⟩) ∨
    ((tmAt xs own).o = 2 ∧ (tmAt xs half).o = 6 ∧ (((kyR ⟨xs, 0⟩ ni nr own (tmAt xs half).a si sr).1.c ≠ 0 ∧ mkR xs ni nr own half si sr = ⟨(kyR ⟨xs, 0⟩ ni nr own (tmAt xs half).a si sr).1.c, ⟨0, 0, 0, 0⟩, []⟩) ∨ ((kyR ⟨xs, 0⟩ ni nr own (tmAt xs half).a si sr).1.c = 0 ∧ mkR xs ni nr own half si sr = ⟨0, (kyR ⟨xs, 0⟩ ni nr own (tmAt xs half).a si sr).2, (kyR ⟨xs, 0⟩ ni nr own (tmAt xs half).a si sr).1.l⟩))) := by
  rcases mk_ways6 xs ni nr own half si sr with ⟨h, _⟩ | ⟨_, h, _⟩ | ⟨_, _, h, _⟩ | ⟨_, _, _, h5, e⟩ | ⟨_, _, _, h5, h6, e⟩ | ⟨_, _, _, h5, h6, h7, e⟩ | ⟨_, _, _, h5, h6, h7, e⟩
  · exact absurd h1 h
  · rw [h2] at h; cases h
  · rw [h3] at h; cases h
  · exact .inl ⟨h5, e⟩
  · exact .inr (.inl ⟨h5, h6, e⟩)
  · exact .inr (.inr ⟨h5, h6, .inl ⟨h7, e⟩⟩)
  · exact .inr (.inr ⟨h5, h6, .inr ⟨h7, e⟩⟩)

set_option maxRecDepth 20000 in
set_option maxHeartbeats 16000000 in
theorem implMakeKeys_ok (a : Option Addr) (n ca : Nat) (xs : List T4) (ni nr own half si sr : Int) (w : World) (ha : RdTerm w a xs) (hn : xs.length = n) (hx : n ≤ 1048576) (hok : ∀ t ∈ xs, okT t) :
    Calls Try.prog 15 #[.slice a n ca, .int .i64 ni, .int .i64 nr, .int .i64 own, .int .i64 half, .int .i64 si, .int .i64 sr] w fun e w' => ∃ c d, e = .returned (.agg #[.int .i64 (mkR xs ni nr own half si sr).c, .int .i64 (mkR xs ni nr own half si sr).k.s, .int .i64 (mkR xs ni nr own half si sr).k.d, .int .i64 (mkR xs ni nr own half si sr).k.o, .int .i64 (mkR xs ni nr own half si sr).k.b, .slice c (mkR xs ni nr own half si sr).l.length d]) ∧ OwnTerm w' w.heap.size c d (mkR xs ni nr own half si sr).l ∧ Below w.heap.size w w' := by
  have q1 := build_kr1k
  have q2 := build_ky
  have q3 := build_kr2k
  by_cases hc : mkC xs [ni, nr, own, half] [si, sr] = 0
  rotate_left
  · have CB := Hid.mk (fun b b2 w h hz hs => makerOf_no a n ca xs b 4 4 [ni, nr, own, half] b2 2 2 [si, sr] w h hn hx hok hz rfl (by omega) hs rfl (by omega) hc)
    have e : mkR xs ni nr own half si sr = ⟨mkC xs [ni, nr, own, half] [si, sr], ⟨0, 0, 0, 0⟩, []⟩ := by
      have hb : nmsOk [si, sr] = (btw si 0 9999 && btw sr 0 9999) := by simp [nmsOk]
      unfold mkC at hc ⊢
      rw [hb] at hc ⊢
      rcases mk_ways6 xs ni nr own half si sr with ⟨h1, e2⟩ | ⟨h1, h2, e2⟩ | ⟨h1, h2, h3, e2⟩ | ⟨h1, h2, h3, _⟩ | ⟨h1, h2, h3, _⟩ | ⟨h1, h2, h3, _⟩ | ⟨h1, h2, h3, _⟩
      · rw [e2, if_neg h1]
      · rw [e2, if_pos h1, h2]; rfl
      · rw [e2, if_pos h1, h2, h3]; rfl
      · rw [if_pos h1, h2, h3] at hc; exact absurd rfl hc
      · rw [if_pos h1, h2, h3] at hc; exact absurd rfl hc
      · rw [if_pos h1, h2, h3] at hc; exact absurd rfl hc
      · rw [if_pos h1, h2, h3] at hc; exact absurd rfl hc
    rw [e]
    have h0 : (mkC xs [ni, nr, own, half] [si, sr] != 0) = true := by simp [hc]
    clear e hc hok
    generalize mkC xs [ni, nr, own, half] [si, sr] = kk at *
    go_enter Try.func15, Try.ntmps15
    have B := Below.refl w.heap.size w
    replace ha := ha.kept (belowA w (.cells #[.int .i64 0, .int .i64 0, .int .i64 0, .int .i64 0, .int .i64 0, .slice none 0 0] 30))
    replace B := thenB B (belowA w (.cells #[.int .i64 0, .int .i64 0, .int .i64 0, .int .i64 0, .int .i64 0, .slice none 0 0] 30))
    have VR := V.new w [.int .i64 0, .int .i64 0, .int .i64 0, .int .i64 0, .int .i64 0, .slice none 0 0] 30
    obtain ⟨s_VR, f_VR, z_VR⟩ := VR.open
    have Bo := B
    clear s_VR f_VR z_VR
    have RP0 := Rd.litI (w.alloc (.cells #[.int .i64 0, .int .i64 0, .int .i64 0, .int .i64 0, .int .i64 0, .slice none 0 0] 30)) [ni, nr, own, half]
    simp only [World.size_alloc] at RP0
    replace VR := VR.kept (belowA (w.alloc (.cells #[.int .i64 0, .int .i64 0, .int .i64 0, .int .i64 0, .int .i64 0, .slice none 0 0] 30)) (.cells #[.int .i64 ni, .int .i64 nr, .int .i64 own, .int .i64 half] 2))
    replace ha := ha.kept (belowA (w.alloc (.cells #[.int .i64 0, .int .i64 0, .int .i64 0, .int .i64 0, .int .i64 0, .slice none 0 0] 30)) (.cells #[.int .i64 ni, .int .i64 nr, .int .i64 own, .int .i64 half] 2))
    replace B := thenB B (belowA (w.alloc (.cells #[.int .i64 0, .int .i64 0, .int .i64 0, .int .i64 0, .int .i64 0, .slice none 0 0] 30)) (.cells #[.int .i64 ni, .int .i64 nr, .int .i64 own, .int .i64 half] 2))
    have RP1 := Rd.litI ((w.alloc (.cells #[.int .i64 0, .int .i64 0, .int .i64 0, .int .i64 0, .int .i64 0, .slice none 0 0] 30)).alloc (.cells #[.int .i64 ni, .int .i64 nr, .int .i64 own, .int .i64 half] 2)) [si, sr]
    simp only [World.size_alloc] at RP1
    replace VR := VR.kept (belowA ((w.alloc (.cells #[.int .i64 0, .int .i64 0, .int .i64 0, .int .i64 0, .int .i64 0, .slice none 0 0] 30)).alloc (.cells #[.int .i64 ni, .int .i64 nr, .int .i64 own, .int .i64 half] 2)) (.cells #[.int .i64 si, .int .i64 sr] 2))
    replace ha := ha.kept (belowA ((w.alloc (.cells #[.int .i64 0, .int .i64 0, .int .i64 0, .int .i64 0, .int .i64 0, .slice none 0 0] 30)).alloc (.cells #[.int .i64 ni, .int .i64 nr, .int .i64 own, .int .i64 half] 2)) (.cells #[.int .i64 si, .int .i64 sr] 2))
    replace B := thenB B (belowA ((w.alloc (.cells #[.int .i64 0, .int .i64 0, .int .i64 0, .int .i64 0, .int .i64 0, .slice none 0 0] 30)).alloc (.cells #[.int .i64 ni, .int .i64 nr, .int .i64 own, .int .i64 half] 2)) (.cells #[.int .i64 si, .int .i64 sr] 2))
    replace RP0 := RP0.kept (belowA ((w.alloc (.cells #[.int .i64 0, .int .i64 0, .int .i64 0, .int .i64 0, .int .i64 0, .slice none 0 0] 30)).alloc (.cells #[.int .i64 ni, .int .i64 nr, .int .i64 own, .int .i64 half] 2)) (.cells #[.int .i64 si, .int .i64 sr] 2))
    obtain ⟨s_VR, f_VR, z_VR⟩ := VR.open
    go_wp2_with fail
    refine (CB.out _ _ _ ha RP0 RP1).mono ?_
    rintro e w1 ⟨rfl, b1⟩
    clear s_VR f_VR z_VR
    have S1 := b1.size
    simp only [World.size_alloc] at S1
    replace VR := VR.kept b1
    replace ha := ha.kept b1
    replace B := thenB B b1
    clear b1 RP0 RP1
    obtain ⟨s_VR, f_VR, z_VR⟩ := VR.open
    have Bo := B
    clear s_VR f_VR z_VR
    have VF := Hid.mk (VR.filled [.int .i64 kk, .int .i64 0, .int .i64 0, .int .i64 0, .int .i64 0, .slice none 0 0] rfl)
    have HT := Hid.mk VR.there
    have BR := belowCells B (show w.heap.size ≤ w.heap.size by (first | omega | (simp; done) | (simp; omega))) 0 [.int .i64 kk, .int .i64 0, .int .i64 0, .int .i64 0, .int .i64 0, .slice none 0 0]
    replace BR := Hid.mk BR
    obtain ⟨s_VR, f_VR, z_VR⟩ := VR.open
    go_wp2_with (refine wpList_store_mid rfl 30 _ _ rfl (w.heap.size) 0 #[.int .i64 kk, .int .i64 0, .int .i64 0, .int .i64 0, .int .i64 0, .slice none 0 0] rfl rfl HT.out (by kernel_rfl) (by kernel_rfl) ?_)
    refine bodyPost_ret (v := .agg #[.int .i64 kk, .int .i64 0, .int .i64 0, .int .i64 0, .int .i64 0, .slice none 0 0]) (results_row Try.results15 _ _ (w.heap.size) [.int .i64 kk, .int .i64 0, .int .i64 0, .int .i64 0, .int .i64 0, .slice none 0 0] _ rfl VF.out Try.underlying30 rfl (by kernel_rfl)) rfl ⟨none, 0, rfl, OwnTerm.none, BR.out⟩
  · have CB := Hid.mk (fun b b2 w h hz hs => makerOf_yes a n ca xs b 4 4 [ni, nr, own, half] b2 2 2 [si, sr] w h hn hx hok hz rfl (by omega) hs rfl (by omega) hc)
    obtain ⟨h1, h2, h3⟩ := mkC_zero hc
    have hb : btw si 0 9999 = true ∧ btw sr 0 9999 = true := by simpa [nmsOk] using h3
    have hq : aqC xs [ni, nr, own, half] = 0 := by
      unfold mkC at hc
      by_cases h : aqC xs [ni, nr, own, half] = 0
      · exact h
      · rw [if_neg h] at hc; exact hc
    have rI := Hid.mk (okP h1 (h2 ni (by simp)))
    have rR := Hid.mk (okP h1 (h2 nr (by simp)))
    have HWY := mk_told xs ni nr own half si sr hq hb.1 hb.2
    have ho9 := h2 own (by simp)
    have hh9 := h2 half (by simp)
    obtain ⟨on, rfl⟩ : ∃ k : Nat, own = (k : Int) := ⟨own.toNat, by omega⟩
    obtain ⟨hf, rfl⟩ : ∃ k : Nat, half = (k : Int) := ⟨half.toNat, by omega⟩
    obtain ⟨x, hxo⟩ : ∃ x, xs.getD on zTerm = x := ⟨_, rfl⟩
    obtain ⟨y, hyh⟩ : ∃ y, xs.getD hf zTerm = y := ⟨_, rfl⟩
    have tq1 : tmAt xs (on : Int) = x := by unfold tmAt; rw [Int.toNat_natCast]; exact hxo
    have tq2 : tmAt xs (hf : Int) = y := by unfold tmAt; rw [Int.toNat_natCast]; exact hyh
    have hon : on < n := by omega
    have hhf : hf < n := by omega
    have hon1 : (on : Int) < (n : Int) := by omega
    have hhf1 : (hf : Int) < (n : Int) := by omega
    have hl4 := (tfC_zero h1).1
    have HX := Hid.mk hxo
    have HY := Hid.mk hyh
    have HN := Hid.mk hn
    have HYA : Hid (y.o = 6 → 0 ≤ y.a ∧ y.a < xs.length) := Hid.mk (fun e => by
      have hz := ((tfC_zero h1).2 hf (by omega)).1
      rw [hyh] at hz
      have hk6 : kids 6 = 1 := by rcases kids_ways 6 with h | h | h | h | h | h <;> omega
      have := (tm_zero hz).2.2.1 (by rw [e]; omega)
      rw [List.length_take] at this
      omega)
    have rA : Hid (okI si) := Hid.mk (by have := btw_iff.1 hb.1; exact okI_of (by omega) (by omega))
    have rB : Hid (okI sr) := Hid.mk (by have := btw_iff.1 hb.2; exact okI_of (by omega) (by omega))
    have r1 : Hid (okI 1) := Hid.mk (okI_of (by decide) (by decide))
    have r2 : Hid (okI 2) := Hid.mk (okI_of (by decide) (by decide))
    have r3 : Hid (okI 3) := Hid.mk (okI_of (by decide) (by decide))
    rw [tq1, tq2] at HWY
    clear hc h2 h3 hb hq tq1 tq2 hok ho9 hh9 hxo hyh
    obtain ⟨xo, xa, xb, xn⟩ := x
    obtain ⟨yo, ya, yb, yn⟩ := y
    simp only at HWY HYA
    rcases HWY with ⟨h5, er⟩ | ⟨h5, h6, er⟩ | ⟨h5, h6, HWY⟩
    · rw [er]
      have hne : (xo != 2) = true := by simpa using h5
      clear er h5 h1 hl4
      go_enter Try.func15, Try.ntmps15
      have B := Below.refl w.heap.size w
      replace ha := ha.kept (belowA w (.cells #[.int .i64 0, .int .i64 0, .int .i64 0, .int .i64 0, .int .i64 0, .slice none 0 0] 30))
      replace B := thenB B (belowA w (.cells #[.int .i64 0, .int .i64 0, .int .i64 0, .int .i64 0, .int .i64 0, .slice none 0 0] 30))
      have VR := V.new w [.int .i64 0, .int .i64 0, .int .i64 0, .int .i64 0, .int .i64 0, .slice none 0 0] 30
      obtain ⟨s_VR, f_VR, z_VR⟩ := VR.open
      have Bo := B
      clear s_VR f_VR z_VR
      have RP0 := Rd.litI (w.alloc (.cells #[.int .i64 0, .int .i64 0, .int .i64 0, .int .i64 0, .int .i64 0, .slice none 0 0] 30)) [ni, nr, (on : Int), (hf : Int)]
      simp only [World.size_alloc] at RP0
      replace VR := VR.kept (belowA (w.alloc (.cells #[.int .i64 0, .int .i64 0, .int .i64 0, .int .i64 0, .int .i64 0, .slice none 0 0] 30)) (.cells #[.int .i64 ni, .int .i64 nr, .int .i64 (on : Int), .int .i64 (hf : Int)] 2))
      replace ha := ha.kept (belowA (w.alloc (.cells #[.int .i64 0, .int .i64 0, .int .i64 0, .int .i64 0, .int .i64 0, .slice none 0 0] 30)) (.cells #[.int .i64 ni, .int .i64 nr, .int .i64 (on : Int), .int .i64 (hf : Int)] 2))
      replace B := thenB B (belowA (w.alloc (.cells #[.int .i64 0, .int .i64 0, .int .i64 0, .int .i64 0, .int .i64 0, .slice none 0 0] 30)) (.cells #[.int .i64 ni, .int .i64 nr, .int .i64 (on : Int), .int .i64 (hf : Int)] 2))
      have RP1 := Rd.litI ((w.alloc (.cells #[.int .i64 0, .int .i64 0, .int .i64 0, .int .i64 0, .int .i64 0, .slice none 0 0] 30)).alloc (.cells #[.int .i64 ni, .int .i64 nr, .int .i64 (on : Int), .int .i64 (hf : Int)] 2)) [si, sr]
      simp only [World.size_alloc] at RP1
      replace VR := VR.kept (belowA ((w.alloc (.cells #[.int .i64 0, .int .i64 0, .int .i64 0, .int .i64 0, .int .i64 0, .slice none 0 0] 30)).alloc (.cells #[.int .i64 ni, .int .i64 nr, .int .i64 (on : Int), .int .i64 (hf : Int)] 2)) (.cells #[.int .i64 si, .int .i64 sr] 2))
      replace ha := ha.kept (belowA ((w.alloc (.cells #[.int .i64 0, .int .i64 0, .int .i64 0, .int .i64 0, .int .i64 0, .slice none 0 0] 30)).alloc (.cells #[.int .i64 ni, .int .i64 nr, .int .i64 (on : Int), .int .i64 (hf : Int)] 2)) (.cells #[.int .i64 si, .int .i64 sr] 2))
      replace B := thenB B (belowA ((w.alloc (.cells #[.int .i64 0, .int .i64 0, .int .i64 0, .int .i64 0, .int .i64 0, .slice none 0 0] 30)).alloc (.cells #[.int .i64 ni, .int .i64 nr, .int .i64 (on : Int), .int .i64 (hf : Int)] 2)) (.cells #[.int .i64 si, .int .i64 sr] 2))
      replace RP0 := RP0.kept (belowA ((w.alloc (.cells #[.int .i64 0, .int .i64 0, .int .i64 0, .int .i64 0, .int .i64 0, .slice none 0 0] 30)).alloc (.cells #[.int .i64 ni, .int .i64 nr, .int .i64 (on : Int), .int .i64 (hf : Int)] 2)) (.cells #[.int .i64 si, .int .i64 sr] 2))
      obtain ⟨s_VR, f_VR, z_VR⟩ := VR.open
      go_wp2_with fail
      refine (CB.out _ _ _ ha RP0 RP1).mono ?_
      rintro e w21 ⟨Q, p, g, c, d, rfl, VQ, H, hQ, hnQ, b21⟩
      clear s_VR f_VR z_VR
      have S21 := b21.size
      simp only [World.size_alloc] at S21
      replace VR := VR.kept b21
      replace ha := ha.kept b21
      replace B := thenB B b21
      clear b21 RP0 RP1
      have hs1 := B.size
      have VP := H.v
      rw [HN.out] at VP
      rcases H.o.rd with h9 | ⟨b1, o1, rfl, hca⟩
      · have := HN.out; rw [h9] at this; simp at this; omega
      obtain ⟨p0, _, _, _⟩ := RdTerm.cells hca on (by rw [HN.out]; exact hon) _ HX.out
      obtain ⟨s0, s1, _, _⟩ := RdTerm.cells hca hf (by rw [HN.out]; exact hhf) _ HY.out
      clear hca ha
      simp only at p0 s0 s1
      clear H hQ hnQ s1
      obtain ⟨s_VR, f_VR, z_VR⟩ := VR.open
      obtain ⟨s_VQ, f_VQ, z_VQ⟩ := VQ.open
      obtain ⟨s_VP, f_VP, z_VP⟩ := VP.open
      have Bo := B
      clear s_VR f_VR z_VR s_VQ f_VQ z_VQ s_VP f_VP z_VP
      have VF := Hid.mk (VR.filled [.int .i64 1, .int .i64 0, .int .i64 0, .int .i64 0, .int .i64 0, .slice none 0 0] rfl)
      have HT := Hid.mk VR.there
      have BR := belowCells B (show w.heap.size ≤ w.heap.size by (first | omega | (simp; done) | (simp; omega))) 0 [.int .i64 1, .int .i64 0, .int .i64 0, .int .i64 0, .int .i64 0, .slice none 0 0]
      replace BR := Hid.mk BR
      obtain ⟨s_VR, f_VR, z_VR⟩ := VR.open
      obtain ⟨s_VQ, f_VQ, z_VQ⟩ := VQ.open
      obtain ⟨s_VP, f_VP, z_VP⟩ := VP.open
      go_wp2_with (refine wpList_store_mid rfl 30 _ _ rfl (w.heap.size) 0 #[.int .i64 1, .int .i64 0, .int .i64 0, .int .i64 0, .int .i64 0, .slice none 0 0] rfl rfl HT.out (by kernel_rfl) (by kernel_rfl) ?_)
      refine bodyPost_ret (v := .agg #[.int .i64 1, .int .i64 0, .int .i64 0, .int .i64 0, .int .i64 0, .slice none 0 0]) (results_row Try.results15 _ _ (w.heap.size) [.int .i64 1, .int .i64 0, .int .i64 0, .int .i64 0, .int .i64 0, .slice none 0 0] _ rfl VF.out Try.underlying30 rfl (by kernel_rfl)) rfl ⟨none, 0, rfl, OwnTerm.none, BR.out⟩
    · rw [er]
      subst h5
      have hne : (yo != 6) = true := by simpa using h6
      clear er h6 h1 hl4
      go_enter Try.func15, Try.ntmps15
      have B := Below.refl w.heap.size w
      replace ha := ha.kept (belowA w (.cells #[.int .i64 0, .int .i64 0, .int .i64 0, .int .i64 0, .int .i64 0, .slice none 0 0] 30))
      replace B := thenB B (belowA w (.cells #[.int .i64 0, .int .i64 0, .int .i64 0, .int .i64 0, .int .i64 0, .slice none 0 0] 30))
      have VR := V.new w [.int .i64 0, .int .i64 0, .int .i64 0, .int .i64 0, .int .i64 0, .slice none 0 0] 30
      obtain ⟨s_VR, f_VR, z_VR⟩ := VR.open
      have Bo := B
      clear s_VR f_VR z_VR
      have RP0 := Rd.litI (w.alloc (.cells #[.int .i64 0, .int .i64 0, .int .i64 0, .int .i64 0, .int .i64 0, .slice none 0 0] 30)) [ni, nr, (on : Int), (hf : Int)]
      simp only [World.size_alloc] at RP0
      replace VR := VR.kept (belowA (w.alloc (.cells #[.int .i64 0, .int .i64 0, .int .i64 0, .int .i64 0, .int .i64 0, .slice none 0 0] 30)) (.cells #[.int .i64 ni, .int .i64 nr, .int .i64 (on : Int), .int .i64 (hf : Int)] 2))
      replace ha := ha.kept (belowA (w.alloc (.cells #[.int .i64 0, .int .i64 0, .int .i64 0, .int .i64 0, .int .i64 0, .slice none 0 0] 30)) (.cells #[.int .i64 ni, .int .i64 nr, .int .i64 (on : Int), .int .i64 (hf : Int)] 2))
      replace B := thenB B (belowA (w.alloc (.cells #[.int .i64 0, .int .i64 0, .int .i64 0, .int .i64 0, .int .i64 0, .slice none 0 0] 30)) (.cells #[.int .i64 ni, .int .i64 nr, .int .i64 (on : Int), .int .i64 (hf : Int)] 2))
      have RP1 := Rd.litI ((w.alloc (.cells #[.int .i64 0, .int .i64 0, .int .i64 0, .int .i64 0, .int .i64 0, .slice none 0 0] 30)).alloc (.cells #[.int .i64 ni, .int .i64 nr, .int .i64 (on : Int), .int .i64 (hf : Int)] 2)) [si, sr]
      simp only [World.size_alloc] at RP1
      replace VR := VR.kept (belowA ((w.alloc (.cells #[.int .i64 0, .int .i64 0, .int .i64 0, .int .i64 0, .int .i64 0, .slice none 0 0] 30)).alloc (.cells #[.int .i64 ni, .int .i64 nr, .int .i64 (on : Int), .int .i64 (hf : Int)] 2)) (.cells #[.int .i64 si, .int .i64 sr] 2))
      replace ha := ha.kept (belowA ((w.alloc (.cells #[.int .i64 0, .int .i64 0, .int .i64 0, .int .i64 0, .int .i64 0, .slice none 0 0] 30)).alloc (.cells #[.int .i64 ni, .int .i64 nr, .int .i64 (on : Int), .int .i64 (hf : Int)] 2)) (.cells #[.int .i64 si, .int .i64 sr] 2))
      replace B := thenB B (belowA ((w.alloc (.cells #[.int .i64 0, .int .i64 0, .int .i64 0, .int .i64 0, .int .i64 0, .slice none 0 0] 30)).alloc (.cells #[.int .i64 ni, .int .i64 nr, .int .i64 (on : Int), .int .i64 (hf : Int)] 2)) (.cells #[.int .i64 si, .int .i64 sr] 2))
      replace RP0 := RP0.kept (belowA ((w.alloc (.cells #[.int .i64 0, .int .i64 0, .int .i64 0, .int .i64 0, .int .i64 0, .slice none 0 0] 30)).alloc (.cells #[.int .i64 ni, .int .i64 nr, .int .i64 (on : Int), .int .i64 (hf : Int)] 2)) (.cells #[.int .i64 si, .int .i64 sr] 2))
      obtain ⟨s_VR, f_VR, z_VR⟩ := VR.open
      go_wp2_with fail
      refine (CB.out _ _ _ ha RP0 RP1).mono ?_
      rintro e w41 ⟨Q, p, g, c, d, rfl, VQ, H, hQ, hnQ, b41⟩
      clear s_VR f_VR z_VR
      have S41 := b41.size
      simp only [World.size_alloc] at S41
      replace VR := VR.kept b41
      replace ha := ha.kept b41
      replace B := thenB B b41
      clear b41 RP0 RP1
      have hs1 := B.size
      have VP := H.v
      rw [HN.out] at VP
      rcases H.o.rd with h9 | ⟨b1, o1, rfl, hca⟩
      · have := HN.out; rw [h9] at this; simp at this; omega
      obtain ⟨p0, _, _, _⟩ := RdTerm.cells hca on (by rw [HN.out]; exact hon) _ HX.out
      obtain ⟨s0, s1, _, _⟩ := RdTerm.cells hca hf (by rw [HN.out]; exact hhf) _ HY.out
      clear hca ha
      simp only at p0 s0 s1
      clear H hQ hnQ s1
      obtain ⟨s_VR, f_VR, z_VR⟩ := VR.open
      obtain ⟨s_VQ, f_VQ, z_VQ⟩ := VQ.open
      obtain ⟨s_VP, f_VP, z_VP⟩ := VP.open
      have Bo := B
      clear s_VR f_VR z_VR s_VQ f_VQ z_VQ s_VP f_VP z_VP
      have VF := Hid.mk (VR.filled [.int .i64 1, .int .i64 0, .int .i64 0, .int .i64 0, .int .i64 0, .slice none 0 0] rfl)
      have HT := Hid.mk VR.there
      have BR := belowCells B (show w.heap.size ≤ w.heap.size by (first | omega | (simp; done) | (simp; omega))) 0 [.int .i64 1, .int .i64 0, .int .i64 0, .int .i64 0, .int .i64 0, .slice none 0 0]
      replace BR := Hid.mk BR
      obtain ⟨s_VR, f_VR, z_VR⟩ := VR.open
      obtain ⟨s_VQ, f_VQ, z_VQ⟩ := VQ.open
      obtain ⟨s_VP, f_VP, z_VP⟩ := VP.open
      go_wp2_with (refine wpList_store_mid rfl 30 _ _ rfl (w.heap.size) 0 #[.int .i64 1, .int .i64 0, .int .i64 0, .int .i64 0, .int .i64 0, .slice none 0 0] rfl rfl HT.out (by kernel_rfl) (by kernel_rfl) ?_)
      refine bodyPost_ret (v := .agg #[.int .i64 1, .int .i64 0, .int .i64 0, .int .i64 0, .int .i64 0, .slice none 0 0]) (results_row Try.results15 _ _ (w.heap.size) [.int .i64 1, .int .i64 0, .int .i64 0, .int .i64 0, .int .i64 0, .slice none 0 0] _ rfl VF.out Try.underlying30 rfl (by kernel_rfl)) rfl ⟨none, 0, rfl, OwnTerm.none, BR.out⟩
    · subst h5 h6
      obtain ⟨hy0, hy1⟩ := HYA.out rfl
      obtain ⟨P1, e1⟩ : ∃ P, mkE ⟨xs, 0⟩ [ni, nr] = P := ⟨_, rfl⟩
      obtain ⟨m1, v1⟩ := P1
      obtain ⟨P2, e2⟩ : ∃ P, mk2 m1 7 (min (on : Int) ya) (max (on : Int) ya) = P := ⟨_, rfl⟩
      have N2 := Hid.mk (fun (h : P2.1.c = 0) => mk2_mono (m := m1) (o := 7) (a := min (on : Int) ya) (b := max (on : Int) ya) (show (mk2 m1 7 (min (on : Int) ya) (max (on : Int) ya)).1.c = 0 by rw [e2]; exact h))
      obtain ⟨m2, v2⟩ := P2
      simp only at N2
      obtain ⟨P3, e3⟩ : ∃ P, mk2 m2 4 v1 v2 = P := ⟨_, rfl⟩
      have N3 := Hid.mk (fun (h : P3.1.c = 0) => mk2_mono (o := 4) (a := v1) (b := v2) (m := m2) (show (mk2 m2 4 v1 v2).1.c = 0 by rw [e3]; exact h))
      obtain ⟨m3, v3⟩ := P3
      simp only at N3
      obtain ⟨P4, e4⟩ : ∃ P, mkV m3 [1, si, sr] = P := ⟨_, rfl⟩
      have N4 := Hid.mk (fun (h : P4.1.c = 0) => mkV_mono (m := m3) (show (mkV m3 [1, si, sr]).1.c = 0 by rw [e4]; exact h))
      obtain ⟨m4, v4⟩ := P4
      simp only at N4
      obtain ⟨P5, e5⟩ : ∃ P, mk2 m4 4 v3 v4 = P := ⟨_, rfl⟩
      have N5 := Hid.mk (fun (h : P5.1.c = 0) => mk2_mono (o := 4) (a := v3) (b := v4) (m := m4) (show (mk2 m4 4 v3 v4).1.c = 0 by rw [e5]; exact h))
      obtain ⟨m5, v5⟩ := P5
      simp only at N5
      obtain ⟨P6, e6⟩ : ∃ P, mkV m5 [2, si, sr] = P := ⟨_, rfl⟩
      have N6 := Hid.mk (fun (h : P6.1.c = 0) => mkV_mono (m := m5) (show (mkV m5 [2, si, sr]).1.c = 0 by rw [e6]; exact h))
      obtain ⟨m6, v6⟩ := P6
      simp only at N6
      obtain ⟨P7, e7⟩ : ∃ P, mk2 m6 4 v3 v6 = P := ⟨_, rfl⟩
      have N7 := Hid.mk (fun (h : P7.1.c = 0) => mk2_mono (o := 4) (a := v3) (b := v6) (m := m6) (show (mk2 m6 4 v3 v6).1.c = 0 by rw [e7]; exact h))
      obtain ⟨m7, v7⟩ := P7
      simp only at N7
      obtain ⟨P8, e8⟩ : ∃ P, mkV m7 [3, si, sr] = P := ⟨_, rfl⟩
      have N8 := Hid.mk (fun (h : P8.1.c = 0) => mkV_mono (m := m7) (show (mkV m7 [3, si, sr]).1.c = 0 by rw [e8]; exact h))
      obtain ⟨m8, v8⟩ := P8
      simp only at N8
      obtain ⟨P9, e9⟩ : ∃ P, mk2 m8 4 v3 v8 = P := ⟨_, rfl⟩
      have N9 := Hid.mk (fun (h : P9.1.c = 0) => mk2_mono (o := 4) (a := v3) (b := v8) (m := m8) (show (mk2 m8 4 v3 v8).1.c = 0 by rw [e9]; exact h))
      obtain ⟨m9, v9⟩ := P9
      simp only at N9
      have EP : kyP ⟨xs, 0⟩ ni nr on ya = (m3, v3) := by
        rw [← e3]
        have a1 : m1 = (mkE ⟨xs, 0⟩ [ni, nr]).1 := by rw [e1]
        have b1 : v1 = (mkE ⟨xs, 0⟩ [ni, nr]).2 := by rw [e1]
        have a2 : m2 = (mk2 m1 7 (min (on : Int) ya) (max (on : Int) ya)).1 := by rw [e2]
        have b2 : v2 = (mk2 m1 7 (min (on : Int) ya) (max (on : Int) ya)).2 := by rw [e2]
        rw [b2, a2, b1, a1]
        rfl
      have EK1 : kyW m3 1 v3 si sr = (m5, v5) := by
        rw [← e5]
        have a4 : m4 = (mkV m3 [1, si, sr]).1 := by rw [e4]
        have b4 : v4 = (mkV m3 [1, si, sr]).2 := by rw [e4]
        rw [b4, a4]
        rfl
      have EK2 : kyW m5 2 v3 si sr = (m7, v7) := by
        rw [← e7]
        have a6 : m6 = (mkV m5 [2, si, sr]).1 := by rw [e6]
        have b6 : v6 = (mkV m5 [2, si, sr]).2 := by rw [e6]
        rw [b6, a6]
        rfl
      have EK3 : kyW m7 3 v3 si sr = (m9, v9) := by
        rw [← e9]
        have a8 : m8 = (mkV m7 [3, si, sr]).1 := by rw [e8]
        have b8 : v8 = (mkV m7 [3, si, sr]).2 := by rw [e8]
        rw [b8, a8]
        rfl
      have EE : kyR ⟨xs, 0⟩ ni nr on ya si sr = (m9, ⟨v3, v5, v7, v9⟩) := by
        show ((kyW (kyW (kyW (kyP ⟨xs, 0⟩ ni nr on ya).1 1 (kyP ⟨xs, 0⟩ ni nr on ya).2 si sr).1 2 (kyP ⟨xs, 0⟩ ni nr on ya).2 si sr).1 3 (kyP ⟨xs, 0⟩ ni nr on ya).2 si sr).1, (⟨(kyP ⟨xs, 0⟩ ni nr on ya).2, (kyW (kyP ⟨xs, 0⟩ ni nr on ya).1 1 (kyP ⟨xs, 0⟩ ni nr on ya).2 si sr).2, (kyW (kyW (kyP ⟨xs, 0⟩ ni nr on ya).1 1 (kyP ⟨xs, 0⟩ ni nr on ya).2 si sr).1 2 (kyP ⟨xs, 0⟩ ni nr on ya).2 si sr).2, (kyW (kyW (kyW (kyP ⟨xs, 0⟩ ni nr on ya).1 1 (kyP ⟨xs, 0⟩ ni nr on ya).2 si sr).1 2 (kyP ⟨xs, 0⟩ ni nr on ya).2 si sr).1 3 (kyP ⟨xs, 0⟩ ni nr on ya).2 si sr).2⟩ : K4)) = _
        simp only [EP, EK1, EK2, EK3]
      rw [EE] at HWY
      simp only at HWY
      clear EE EP EK1 EK2 EK3
      have E1 := Hid.mk e1
      have E2 := Hid.mk e2
      have E3 := Hid.mk e3
      have E4 := Hid.mk e4
      have E5 := Hid.mk e5
      have E6 := Hid.mk e6
      have E7 := Hid.mk e7
      have E8 := Hid.mk e8
      have E9 := Hid.mk e9
      clear e1 e2 e3 e4 e5 e6 e7 e8 e9
      obtain ⟨HR, hHR⟩ : ∃ R, mkR xs ni nr on hf si sr = R := ⟨_, rfl⟩
      rw [hHR] at HWY ⊢
      replace HWY := Hid.mk HWY
      have rO := Hid.mk (show 0 ≤ (on : Int) ∧ (on : Int) ≤ 400 by omega)
      have rY := Hid.mk (show 0 ≤ ya ∧ ya ≤ 400 by omega)
      have H1 := Hid.mk h1
      clear hHR h1 hl4 HYA
      go_enter Try.func15, Try.ntmps15
      have B := Below.refl w.heap.size w
      replace ha := ha.kept (belowA w (.cells #[.int .i64 0, .int .i64 0, .int .i64 0, .int .i64 0, .int .i64 0, .slice none 0 0] 30))
      replace B := thenB B (belowA w (.cells #[.int .i64 0, .int .i64 0, .int .i64 0, .int .i64 0, .int .i64 0, .slice none 0 0] 30))
      have VR := V.new w [.int .i64 0, .int .i64 0, .int .i64 0, .int .i64 0, .int .i64 0, .slice none 0 0] 30
      obtain ⟨s_VR, f_VR, z_VR⟩ := VR.open
      have Bo := B
      clear s_VR f_VR z_VR
      have RP0 := Rd.litI (w.alloc (.cells #[.int .i64 0, .int .i64 0, .int .i64 0, .int .i64 0, .int .i64 0, .slice none 0 0] 30)) [ni, nr, (on : Int), (hf : Int)]
      simp only [World.size_alloc] at RP0
      replace VR := VR.kept (belowA (w.alloc (.cells #[.int .i64 0, .int .i64 0, .int .i64 0, .int .i64 0, .int .i64 0, .slice none 0 0] 30)) (.cells #[.int .i64 ni, .int .i64 nr, .int .i64 (on : Int), .int .i64 (hf : Int)] 2))
      replace ha := ha.kept (belowA (w.alloc (.cells #[.int .i64 0, .int .i64 0, .int .i64 0, .int .i64 0, .int .i64 0, .slice none 0 0] 30)) (.cells #[.int .i64 ni, .int .i64 nr, .int .i64 (on : Int), .int .i64 (hf : Int)] 2))
      replace B := thenB B (belowA (w.alloc (.cells #[.int .i64 0, .int .i64 0, .int .i64 0, .int .i64 0, .int .i64 0, .slice none 0 0] 30)) (.cells #[.int .i64 ni, .int .i64 nr, .int .i64 (on : Int), .int .i64 (hf : Int)] 2))
      have RP1 := Rd.litI ((w.alloc (.cells #[.int .i64 0, .int .i64 0, .int .i64 0, .int .i64 0, .int .i64 0, .slice none 0 0] 30)).alloc (.cells #[.int .i64 ni, .int .i64 nr, .int .i64 (on : Int), .int .i64 (hf : Int)] 2)) [si, sr]
      simp only [World.size_alloc] at RP1
      replace VR := VR.kept (belowA ((w.alloc (.cells #[.int .i64 0, .int .i64 0, .int .i64 0, .int .i64 0, .int .i64 0, .slice none 0 0] 30)).alloc (.cells #[.int .i64 ni, .int .i64 nr, .int .i64 (on : Int), .int .i64 (hf : Int)] 2)) (.cells #[.int .i64 si, .int .i64 sr] 2))
      replace ha := ha.kept (belowA ((w.alloc (.cells #[.int .i64 0, .int .i64 0, .int .i64 0, .int .i64 0, .int .i64 0, .slice none 0 0] 30)).alloc (.cells #[.int .i64 ni, .int .i64 nr, .int .i64 (on : Int), .int .i64 (hf : Int)] 2)) (.cells #[.int .i64 si, .int .i64 sr] 2))
      replace B := thenB B (belowA ((w.alloc (.cells #[.int .i64 0, .int .i64 0, .int .i64 0, .int .i64 0, .int .i64 0, .slice none 0 0] 30)).alloc (.cells #[.int .i64 ni, .int .i64 nr, .int .i64 (on : Int), .int .i64 (hf : Int)] 2)) (.cells #[.int .i64 si, .int .i64 sr] 2))
      replace RP0 := RP0.kept (belowA ((w.alloc (.cells #[.int .i64 0, .int .i64 0, .int .i64 0, .int .i64 0, .int .i64 0, .slice none 0 0] 30)).alloc (.cells #[.int .i64 ni, .int .i64 nr, .int .i64 (on : Int), .int .i64 (hf : Int)] 2)) (.cells #[.int .i64 si, .int .i64 sr] 2))
      obtain ⟨s_VR, f_VR, z_VR⟩ := VR.open
      go_wp2_with fail
      refine (CB.out _ _ _ ha RP0 RP1).mono ?_
      rintro e w61 ⟨Q, p, g, c, d, rfl, VQ, H, hQ, hnQ, b61⟩
      clear s_VR f_VR z_VR
      have S61 := b61.size
      simp only [World.size_alloc] at S61
      replace VR := VR.kept b61
      replace ha := ha.kept b61
      replace B := thenB B b61
      clear b61 RP0 RP1
      have hs1 := B.size
      have VP := H.v
      rw [HN.out] at VP
      rcases H.o.rd with h9 | ⟨b1, o1, rfl, hca⟩
      · have := HN.out; rw [h9] at this; simp at this; omega
      obtain ⟨p0, _, _, _⟩ := RdTerm.cells hca on (by rw [HN.out]; exact hon) _ HX.out
      obtain ⟨s0, s1, _, _⟩ := RdTerm.cells hca hf (by rw [HN.out]; exact hhf) _ HY.out
      clear hca ha
      simp only at p0 s0 s1
      have MM : MX w61 (fun k => k < ((((w.alloc (.cells #[.int .i64 0, .int .i64 0, .int .i64 0, .int .i64 0, .int .i64 0, .slice none 0 0] 30)).alloc (.cells #[.int .i64 ni, .int .i64 nr, .int .i64 (on : Int), .int .i64 (hf : Int)] 2)).alloc (.cells #[.int .i64 si, .int .i64 sr] 2))).heap.size) Q ⟨xs, 0⟩ xs ((((w.alloc (.cells #[.int .i64 0, .int .i64 0, .int .i64 0, .int .i64 0, .int .i64 0, .slice none 0 0] 30)).alloc (.cells #[.int .i64 ni, .int .i64 nr, .int .i64 (on : Int), .int .i64 (hf : Int)] 2)).alloc (.cells #[.int .i64 si, .int .i64 sr] 2))).heap.size p g (some ⟨b1, o1, none⟩) d xs := ⟨VQ, H, (tfC_zero H1.out).1, fun _ => rfl, ⟨[], by simp⟩, hnQ, fun k hk => ⟨by have := VQ.1; omega, by omega, fun e => by have := (H.lt k e).1; omega⟩⟩
      have HVR := Hid.mk (show w.heap.size < ((((w.alloc (.cells #[.int .i64 0, .int .i64 0, .int .i64 0, .int .i64 0, .int .i64 0, .slice none 0 0] 30)).alloc (.cells #[.int .i64 ni, .int .i64 nr, .int .i64 (on : Int), .int .i64 (hf : Int)] 2)).alloc (.cells #[.int .i64 si, .int .i64 sr] 2))).heap.size by simp only [World.size_alloc]; omega)
      have HW0 := Hid.mk (show w.heap.size ≤ ((((w.alloc (.cells #[.int .i64 0, .int .i64 0, .int .i64 0, .int .i64 0, .int .i64 0, .slice none 0 0] 30)).alloc (.cells #[.int .i64 ni, .int .i64 nr, .int .i64 (on : Int), .int .i64 (hf : Int)] 2)).alloc (.cells #[.int .i64 si, .int .i64 sr] 2))).heap.size by simp only [World.size_alloc]; omega)
      have HWB := Hid.mk (show w.heap.size ≤ w61.heap.size by have := B.size; omega)
      have HbQ := Hid.mk hQ
      clear H hQ hnQ Bo
      generalize ((((w.alloc (.cells #[.int .i64 0, .int .i64 0, .int .i64 0, .int .i64 0, .int .i64 0, .slice none 0 0] 30)).alloc (.cells #[.int .i64 ni, .int .i64 nr, .int .i64 (on : Int), .int .i64 (hf : Int)] 2)).alloc (.cells #[.int .i64 si, .int .i64 sr] 2))).heap.size = W0 at *
      have LX := Hid.mk (listX_lit Q W0 p g _ d _ xs [ni, nr] w61 MM (by simp) (by intro z hz; simp only [List.mem_cons, List.not_mem_nil, or_false] at hz; rcases hz with rfl | rfl; exact rI.out; exact rR.out))
      have VRk := Hid.mk VR
      have Bk1 := Hid.mk B
      clear MM VR B hs1
      obtain ⟨s_VQ, f_VQ, z_VQ⟩ := VQ.open
      obtain ⟨s_VP, f_VP, z_VP⟩ := VP.open
      go_wp2_with fail
      refine LX.out.mono ?_
      rintro e wz ⟨u1, c2, d2, ys, rfl, hU1, U1, MX1, Sn⟩
      clear s_VQ f_VQ z_VQ s_VP f_VP z_VP
      clear VQ VP p0 s0 s1 LX
      rw [E1.out] at U1 MX1
      simp only at U1 MX1
      have VR := VRk.out.sm Sn (fun e => e HVR.out)
      have B := Bk1.out
      have Bn := Sn.below' B HWB.out (fun j hj => by have := HW0.out; omega)
      replace HWB := Hid.mk (Nat.le_trans HWB.out Sn.size)
      clear B VRk Bk1 Sn
      have B := Bn
      clear Bn
      replace hU1 := Hid.mk hU1
      replace U1 := Hid.mk U1
      obtain ⟨VQ, H, hyl, hyx, ⟨us, hus⟩, hnQ, hof⟩ := MX1
      obtain ⟨l1, c1⟩ := m1
      simp only at VQ hyx
      have hyn : hf < ys.length := by rw [hus, List.length_append, HN.out]; omega
      have hyn1 : (hf : Int) < (ys.length : Int) := by omega
      have HYv : ys.getD hf zTerm = ⟨6, ya, yb, yn⟩ := by rw [hus, ← HY.out]; simp [List.getD, List.getElem?_append_left (show hf < xs.length by rw [HN.out]; exact hhf)]
      have CP := Hid.mk (fun w H => put_ok W0 p g c2 d2 ys ⟨7, min (on : Int) ya, max (on : Int) ya, 0⟩ w H ⟨(okI_of (x := 7) (by decide) (by decide)), okI_of (by have := rO.out; have := rY.out; simp only; omega) (by have := rO.out; have := rY.out; simp only; omega), okI_of (by have := rO.out; have := rY.out; simp only; omega) (by have := rO.out; have := rY.out; simp only; omega), (okI_of (x := 0) (by decide) (by decide))⟩ hyl)
      have E0 := Hid.mk (mk_code ⟨l1, c1⟩ ⟨7, min (on : Int) ya, max (on : Int) ya, 0⟩ ys hyx)
      have hkk := Hid.mk (put_k (t := ⟨7, min (on : Int) ya, max (on : Int) ya, 0⟩) hyl)
      have hyy := Hid.mk (putL_len (t := ⟨7, min (on : Int) ya, max (on : Int) ya, 0⟩) hyl)
      have EM : mk2 ⟨l1, c1⟩ 7 (min (on : Int) ya) (max (on : Int) ya) = (mkPut ⟨l1, c1⟩ ⟨7, min (on : Int) ya, max (on : Int) ya, 0⟩, mkAt ⟨l1, c1⟩ ⟨7, min (on : Int) ya, max (on : Int) ya, 0⟩) := rfl
      rw [E2.out] at EM
      simp only [Prod.mk.injEq] at EM
      obtain ⟨em, ev⟩ := EM
      rw [← em, ← ev] at E0
      have CK := Hid.mk (fun w V => keep_ok Q p (put ys ⟨7, min (on : Int) ya, max (on : Int) ya, 0⟩).c (put ys ⟨7, min (on : Int) ya, max (on : Int) ya, 0⟩).k c1 w V)
      have CBo := Hid.mk (fun w => bothOf_ok (on : Int) ya w)
      clear hyx em ev hus
      generalize putL ys ⟨7, min (on : Int) ya, max (on : Int) ya, 0⟩ = zl at *
      generalize put ys ⟨7, min (on : Int) ya, max (on : Int) ya, 0⟩ = P at *
      obtain ⟨kc, kk, kl⟩ := P
      simp only at *
      obtain ⟨ny, hny⟩ : ∃ q, ys.length = q := ⟨_, rfl⟩
      rw [hny] at hyn1
      have HNY := Hid.mk hny
      clear hny
      have VRH := Hid.mk VR
      have BH := Hid.mk B
      clear VR B
      obtain ⟨s_VQ, f_VQ, z_VQ⟩ := VQ.open
      go_upto_region 7 with fail
      clear s_VQ f_VQ z_VQ
      go_cut [18] (fun q wx => ∃ u2, q = .int .i64 u2 ∧ (0 ≤ u2 ∧ u2 ≤ 400) ∧ (m2.c = 0 → u2 = v2) ∧ MP wx W0 (fun k => k < W0) Q m2 ∧ Sm (fun k => ¬ k < W0) wz wx)
      case first =>
        refine wp_region_any (by kernel_rfl) ?_
        change wpAny _ _ _ _ _ _ _ wz.drew
        have bd : Below wz.heap.size wz wz.drew := (Below.refl _ _).drew
        have SD := Hid.mk (Sm.below (X := fun k => ¬ k < W0) bd)
        replace VQ := VQ.kept bd
        replace H := H.kept bd
        replace hof : ∀ k, k < W0 → k < wz.drew.heap.size ∧ k ≠ Q ∧ ¬ BkX p g c2 k := fun k hk => ⟨Nat.lt_of_lt_of_le (hof k hk).1 bd.size, (hof k hk).2⟩
        have VP := H.v
        rw [HNY.out] at VP
        rcases H.o.rd with h9 | ⟨b2, o2, rfl, hca⟩
        · rw [h9] at hyn; simp at hyn
        obtain ⟨_, t1, _, _⟩ := RdTerm.cells hca hf hyn _ HYv
        clear hca bd
        simp only at t1
        generalize wz.drew = wd at *
        refine wpAny_take (i := 0) (oi := _) (v := ?vtt1) rfl (by kernel_rfl) (by kernel_rfl) (by kernel_rfl) (fun _ _ _ h => h) (Or.inl ⟨by rfl, ?hytt1⟩) ?resttt1
        case hytt1 => (intro w; go_simp; first | done | with_reducible rfl)
        try simp only [Act.put, List.getElem_toArray, List.getElem_cons_zero, List.setIfInBounds_toArray, List.set_cons_zero, List.set_cons_succ]
        refine wpAny_take (i := 1) (oi := _) (v := ?vtt2) rfl (by kernel_rfl) (by kernel_rfl) (by kernel_rfl) (fun _ _ _ h => h) (Or.inl ⟨by rfl, ?hytt2⟩) ?resttt2
        case hytt2 => (intro w; go_simp; first | done | with_reducible rfl)
        try simp only [Act.put, List.getElem_toArray, List.getElem_cons_zero, List.getElem_cons_succ, List.setIfInBounds_toArray, List.set_cons_zero, List.set_cons_succ]
        refine wpAny_take (i := 5) (oi := _) (v := ?vtt3) rfl (by kernel_rfl) (by kernel_rfl) (by kernel_rfl) (fun _ _ _ h => h) (Or.inl ⟨by rfl, ?hytt3⟩) ?resttt3
        case hytt3 => (intro w; go_simp; first | done | with_reducible rfl)
        try simp only [Act.put, List.getElem_toArray, List.getElem_cons_zero, List.getElem_cons_succ, List.setIfInBounds_toArray, List.set_cons_zero, List.set_cons_succ]
        refine wpAny_take (i := 6) (oi := _) (v := ?vtt4) rfl (by kernel_rfl) (by kernel_rfl) (by kernel_rfl) (fun _ _ _ h => h) (Or.inl ⟨by rfl, ?hytt4⟩) ?resttt4
        case hytt4 => (intro w; go_simp; first | done | with_reducible rfl)
        try simp only [Act.put, List.getElem_toArray, List.getElem_cons_zero, List.getElem_cons_succ, List.setIfInBounds_toArray, List.set_cons_zero, List.set_cons_succ]
        refine wpAny_take (i := 13) (oi := _) (v := ?vtt5) rfl (by kernel_rfl) (by kernel_rfl) (by kernel_rfl) (fun _ _ _ h => h) (Or.inl ⟨by rfl, ?hytt5⟩) ?resttt5
        case hytt5 => (intro w; go_simp; first | done | with_reducible rfl)
        try simp only [Act.put, List.getElem_toArray, List.getElem_cons_zero, List.getElem_cons_succ, List.setIfInBounds_toArray, List.set_cons_zero, List.set_cons_succ]
        refine wpAny_take (i := 2) (oi := _) (v := ?vtt6) rfl (by kernel_rfl) (by kernel_rfl) (by kernel_rfl) (fun _ _ _ h => h) (Or.inl ⟨by rfl, ?hytt6⟩) ?resttt6
        case hytt6 => (intro w; go_simp; first | done | with_reducible rfl)
        try simp only [Act.put, List.getElem_toArray, List.getElem_cons_zero, List.getElem_cons_succ, List.setIfInBounds_toArray, List.set_cons_zero, List.set_cons_succ]
        refine wpAny_take (i := 3) (oi := _) (v := ?vtt7) rfl (by kernel_rfl) (by kernel_rfl) (by kernel_rfl) (fun _ _ _ h => h) (Or.inl ⟨by rfl, ?hytt7⟩) ?resttt7
        case hytt7 => (intro w; go_simp; first | done | with_reducible rfl)
        try simp only [Act.put, List.getElem_toArray, List.getElem_cons_zero, List.getElem_cons_succ, List.setIfInBounds_toArray, List.set_cons_zero, List.set_cons_succ]
        refine wpAny_take (i := 7) (oi := _) (v := ?vtt8) rfl (by kernel_rfl) (by kernel_rfl) (by kernel_rfl) (fun _ _ _ h => h) (Or.inl ⟨by rfl, ?hytt8⟩) ?resttt8
        case hytt8 => (intro w; go_simp; first | done | with_reducible rfl)
        try simp only [Act.put, List.getElem_toArray, List.getElem_cons_zero, List.getElem_cons_succ, List.setIfInBounds_toArray, List.set_cons_zero, List.set_cons_succ]
        refine wpAny_take (i := 8) (oi := _) (v := ?vtt9) rfl (by kernel_rfl) (by kernel_rfl) (by kernel_rfl) (fun _ _ _ h => h) (Or.inl ⟨by rfl, ?hytt9⟩) ?resttt9
        case hytt9 => (intro w; go_simp; first | done | with_reducible rfl)
        try simp only [Act.put, List.getElem_toArray, List.getElem_cons_zero, List.getElem_cons_succ, List.setIfInBounds_toArray, List.set_cons_zero, List.set_cons_succ]
        refine wpAny_ready (rs := [4, 9]) (by kernel_rfl) (by simp) ?_
        refine AllReady.cons (o := _) rfl (fun K0 hK0 => ?_) (AllReady.cons (o := _) rfl (fun K0 hK0 => ?_) AllReady.nil)
        · skip
          obtain ⟨s_VQ, f_VQ, z_VQ⟩ := VQ.open
          go_simp
          refine hK0 _ _ ?_
          clear hK0 K0 s_VQ f_VQ z_VQ
          try simp only [Act.put, List.getElem_toArray, List.getElem_cons_zero, List.getElem_cons_succ, List.setIfInBounds_toArray, List.set_cons_zero, List.set_cons_succ]
          refine wpAny_ready (rs := [9]) (by kernel_rfl) (by simp) ?_
          refine AllReady.cons (o := _) rfl (fun K0 hK0 => ?_) AllReady.nil
          obtain ⟨s_VQ, f_VQ, z_VQ⟩ := VQ.open
          go_simp
          refine hK0 _ _ ?_
          clear hK0 K0 s_VQ f_VQ z_VQ
          try simp only [Act.put, List.getElem_toArray, List.getElem_cons_zero, List.getElem_cons_succ, List.setIfInBounds_toArray, List.set_cons_zero, List.set_cons_succ]
          refine wpAny_take (i := 10) (oi := _) (v := ?vtt10) rfl (by kernel_rfl) (by kernel_rfl) (by kernel_rfl) (fun _ _ _ h => h) (Or.inl ⟨by rfl, ?hytt10⟩) ?resttt10
          case hytt10 => (intro w; go_simp; first | done | with_reducible rfl)
          try simp only [Act.put, List.getElem_toArray, List.getElem_cons_zero, List.getElem_cons_succ, List.setIfInBounds_toArray, List.set_cons_zero, List.set_cons_succ]
          refine wpAny_take (i := 11) (oi := _) (v := ?vtt11) rfl (by kernel_rfl) (by kernel_rfl) (by kernel_rfl) (fun _ _ _ h => h) (Or.inl ⟨by rfl, ?hytt11⟩) ?resttt11
          case hytt11 => (intro w; go_simp; first | done | with_reducible rfl)
          try simp only [Act.put, List.getElem_toArray, List.getElem_cons_zero, List.getElem_cons_succ, List.setIfInBounds_toArray, List.set_cons_zero, List.set_cons_succ]
          refine wpAny_ready (rs := [12]) (by kernel_rfl) (by simp) ?_
          refine AllReady.cons (o := _) rfl (fun K0 hK0 => ?_) AllReady.nil
          obtain ⟨s_VP, f_VP, z_VP⟩ := VP.open
          go_simp
          refine hK0 _ _ ?_
          clear hK0 K0 s_VP f_VP z_VP
          try simp only [Act.put, List.getElem_toArray, List.getElem_cons_zero, List.getElem_cons_succ, List.setIfInBounds_toArray, List.set_cons_zero, List.set_cons_succ]
          refine wpAny_take (i := 14) (oi := _) (v := ?vtt12) rfl (by kernel_rfl) (by kernel_rfl) (by kernel_rfl) (fun _ _ _ h => h) (Or.inl ⟨by rfl, ?hytt12⟩) ?resttt12
          case hytt12 => (intro w; go_simp; first | done | with_reducible rfl)
          try simp only [Act.put, List.getElem_toArray, List.getElem_cons_zero, List.getElem_cons_succ, List.setIfInBounds_toArray, List.set_cons_zero, List.set_cons_succ]
          refine wpAny_take (i := 15) (oi := _) (v := ?vtt13) rfl (by kernel_rfl) (by kernel_rfl) (by kernel_rfl) (fun _ _ _ h => h) (Or.inl ⟨by rfl, ?hytt13⟩) ?resttt13
          case hytt13 => (intro w; go_simp; first | done | with_reducible rfl)
          try simp only [Act.put, List.getElem_toArray, List.getElem_cons_zero, List.getElem_cons_succ, List.setIfInBounds_toArray, List.set_cons_zero, List.set_cons_succ]
          refine wpAny_ready (rs := [16]) (by kernel_rfl) (by simp) ?_
          refine AllReady.cons (o := _) rfl (fun K0 hK0 => ?_) AllReady.nil
          go_simp
          refine hK0 _ _ ?_
          clear hK0 K0
          try simp only [Act.put, List.getElem_toArray, List.getElem_cons_zero, List.getElem_cons_succ, List.setIfInBounds_toArray, List.set_cons_zero, List.set_cons_succ]
          refine wpAny_ready (rs := [17]) (by kernel_rfl) (by simp) ?_
          refine AllReady.cons (o := _) rfl (fun K0 hK0 => ?_) AllReady.nil
          go_simp
          go_at_call 71
          refine (CBo.out _).mono ?_
          rintro e wb1 ⟨rfl, bq⟩
          refine hK0 _ _ ?_
          clear hK0 K0
          try simp only [Act.put, List.getElem_toArray, List.getElem_cons_zero, List.getElem_cons_succ, List.setIfInBounds_toArray, List.set_cons_zero, List.set_cons_succ]
          replace VQ := VQ.kept bq
          replace H := H.kept bq
          replace VP := VP.kept bq
          replace hof : ∀ k, k < W0 → k < wb1.heap.size ∧ k ≠ Q ∧ ¬ BkX p g (some ⟨b2, o2, none⟩) k := fun k hk => ⟨Nat.lt_of_lt_of_le (hof k hk).1 bq.size, (hof k hk).2⟩
          have SD2 := Hid.mk (SD.out.trans (Sm.below bq))
          clear SD bq
          have SD := SD2
          clear SD2
          refine wpAny_ready (rs := [18]) (by kernel_rfl) (by simp) ?_
          refine AllReady.cons (o := _) rfl (fun K0 hK0 => ?_) AllReady.nil
          go_simp
          go_at_call 70
          refine (CP.out _ H).mono ?_
          rintro e wb2 ⟨c3, d3, rfl, H3, S3, hs3⟩
          refine hK0 _ _ ?_
          clear hK0 K0
          try simp only [Act.put, List.getElem_toArray, List.getElem_cons_zero, List.getElem_cons_succ, List.setIfInBounds_toArray, List.set_cons_zero, List.set_cons_succ]
          have VQ3 := VQ.sm S3 hnQ
          clear VP
          refine wpAny_ready (rs := [19]) (by kernel_rfl) (by simp) ?_
          refine AllReady.cons (o := _) rfl (fun K0 hK0 => ?_) AllReady.nil
          go_simp
          go_at_call 69
          refine (CK.out _ VQ3).mono ?_
          rintro e wb3 ⟨rfl, V4, S4⟩
          refine hK0 _ _ ?_
          clear hK0 K0
          try simp only [Act.put, List.getElem_toArray, List.getElem_cons_zero, List.getElem_cons_succ, List.setIfInBounds_toArray, List.set_cons_zero, List.set_cons_succ]
          obtain ⟨x0, x1, x2⟩ := E0.out
          rw [x0] at V4
          obtain ⟨M4, S5⟩ := mp_step (m' := m2) (Of := fun k => k < W0) (Nat.le_refl W0) HbQ.out VQ.1 hnQ hof H3 hyy.out S3 hs3 V4 S4 x1
          have S6 := SD.out.trans S5
          clear H3 S3 hs3 V4 S4 S5 VQ3 VQ H hof SD
          refine wpAny_take (i := 20) (oi := _) (v := ?vtt14) rfl (by kernel_rfl) (by kernel_rfl) (by kernel_rfl) (fun _ _ _ h => h) (Or.inl ⟨by rfl, ?hytt14⟩) ?resttt14
          case hytt14 => (intro w; go_simp; first | done | with_reducible rfl)
          try simp only [Act.put, List.getElem_toArray, List.getElem_cons_zero, List.getElem_cons_succ, List.setIfInBounds_toArray, List.set_cons_zero, List.set_cons_succ]
          refine wpAny_done (by kernel_rfl) ?_ _
          go_wp2_with fail
          go_meet
          exact ⟨kk, rfl, hkk.out, x2, M4, S6⟩
        · skip
          obtain ⟨s_VQ, f_VQ, z_VQ⟩ := VQ.open
          go_simp
          refine hK0 _ _ ?_
          clear hK0 K0 s_VQ f_VQ z_VQ
          try simp only [Act.put, List.getElem_toArray, List.getElem_cons_zero, List.getElem_cons_succ, List.setIfInBounds_toArray, List.set_cons_zero, List.set_cons_succ]
          refine wpAny_take (i := 10) (oi := _) (v := ?vtt15) rfl (by kernel_rfl) (by kernel_rfl) (by kernel_rfl) (fun _ _ _ h => h) (Or.inl ⟨by rfl, ?hytt15⟩) ?resttt15
          case hytt15 => (intro w; go_simp; first | done | with_reducible rfl)
          try simp only [Act.put, List.getElem_toArray, List.getElem_cons_zero, List.getElem_cons_succ, List.setIfInBounds_toArray, List.set_cons_zero, List.set_cons_succ]
          refine wpAny_take (i := 11) (oi := _) (v := ?vtt16) rfl (by kernel_rfl) (by kernel_rfl) (by kernel_rfl) (fun _ _ _ h => h) (Or.inl ⟨by rfl, ?hytt16⟩) ?resttt16
          case hytt16 => (intro w; go_simp; first | done | with_reducible rfl)
          try simp only [Act.put, List.getElem_toArray, List.getElem_cons_zero, List.getElem_cons_succ, List.setIfInBounds_toArray, List.set_cons_zero, List.set_cons_succ]
          refine wpAny_ready (rs := [4, 12]) (by kernel_rfl) (by simp) ?_
          refine AllReady.cons (o := _) rfl (fun K0 hK0 => ?_) (AllReady.cons (o := _) rfl (fun K0 hK0 => ?_) AllReady.nil)
          · skip
            obtain ⟨s_VQ, f_VQ, z_VQ⟩ := VQ.open
            go_simp
            refine hK0 _ _ ?_
            clear hK0 K0 s_VQ f_VQ z_VQ
            try simp only [Act.put, List.getElem_toArray, List.getElem_cons_zero, List.getElem_cons_succ, List.setIfInBounds_toArray, List.set_cons_zero, List.set_cons_succ]
            refine wpAny_ready (rs := [12]) (by kernel_rfl) (by simp) ?_
            refine AllReady.cons (o := _) rfl (fun K0 hK0 => ?_) AllReady.nil
            obtain ⟨s_VP, f_VP, z_VP⟩ := VP.open
            go_simp
            refine hK0 _ _ ?_
            clear hK0 K0 s_VP f_VP z_VP
            try simp only [Act.put, List.getElem_toArray, List.getElem_cons_zero, List.getElem_cons_succ, List.setIfInBounds_toArray, List.set_cons_zero, List.set_cons_succ]
            refine wpAny_take (i := 14) (oi := _) (v := ?vtt17) rfl (by kernel_rfl) (by kernel_rfl) (by kernel_rfl) (fun _ _ _ h => h) (Or.inl ⟨by rfl, ?hytt17⟩) ?resttt17
            case hytt17 => (intro w; go_simp; first | done | with_reducible rfl)
            try simp only [Act.put, List.getElem_toArray, List.getElem_cons_zero, List.getElem_cons_succ, List.setIfInBounds_toArray, List.set_cons_zero, List.set_cons_succ]
            refine wpAny_take (i := 15) (oi := _) (v := ?vtt18) rfl (by kernel_rfl) (by kernel_rfl) (by kernel_rfl) (fun _ _ _ h => h) (Or.inl ⟨by rfl, ?hytt18⟩) ?resttt18
            case hytt18 => (intro w; go_simp; first | done | with_reducible rfl)
            try simp only [Act.put, List.getElem_toArray, List.getElem_cons_zero, List.getElem_cons_succ, List.setIfInBounds_toArray, List.set_cons_zero, List.set_cons_succ]
            refine wpAny_ready (rs := [16]) (by kernel_rfl) (by simp) ?_
            refine AllReady.cons (o := _) rfl (fun K0 hK0 => ?_) AllReady.nil
            go_simp
            refine hK0 _ _ ?_
            clear hK0 K0
            try simp only [Act.put, List.getElem_toArray, List.getElem_cons_zero, List.getElem_cons_succ, List.setIfInBounds_toArray, List.set_cons_zero, List.set_cons_succ]
            refine wpAny_ready (rs := [17]) (by kernel_rfl) (by simp) ?_
            refine AllReady.cons (o := _) rfl (fun K0 hK0 => ?_) AllReady.nil
            go_simp
            go_at_call 71
            refine (CBo.out _).mono ?_
            rintro e wb4 ⟨rfl, bq⟩
            refine hK0 _ _ ?_
            clear hK0 K0
            try simp only [Act.put, List.getElem_toArray, List.getElem_cons_zero, List.getElem_cons_succ, List.setIfInBounds_toArray, List.set_cons_zero, List.set_cons_succ]
            replace VQ := VQ.kept bq
            replace H := H.kept bq
            replace VP := VP.kept bq
            replace hof : ∀ k, k < W0 → k < wb4.heap.size ∧ k ≠ Q ∧ ¬ BkX p g (some ⟨b2, o2, none⟩) k := fun k hk => ⟨Nat.lt_of_lt_of_le (hof k hk).1 bq.size, (hof k hk).2⟩
            have SD2 := Hid.mk (SD.out.trans (Sm.below bq))
            clear SD bq
            have SD := SD2
            clear SD2
            refine wpAny_ready (rs := [18]) (by kernel_rfl) (by simp) ?_
            refine AllReady.cons (o := _) rfl (fun K0 hK0 => ?_) AllReady.nil
            go_simp
            go_at_call 70
            refine (CP.out _ H).mono ?_
            rintro e wb5 ⟨c3, d3, rfl, H3, S3, hs3⟩
            refine hK0 _ _ ?_
            clear hK0 K0
            try simp only [Act.put, List.getElem_toArray, List.getElem_cons_zero, List.getElem_cons_succ, List.setIfInBounds_toArray, List.set_cons_zero, List.set_cons_succ]
            have VQ3 := VQ.sm S3 hnQ
            clear VP
            refine wpAny_ready (rs := [19]) (by kernel_rfl) (by simp) ?_
            refine AllReady.cons (o := _) rfl (fun K0 hK0 => ?_) AllReady.nil
            go_simp
            go_at_call 69
            refine (CK.out _ VQ3).mono ?_
            rintro e wb6 ⟨rfl, V4, S4⟩
            refine hK0 _ _ ?_
            clear hK0 K0
            try simp only [Act.put, List.getElem_toArray, List.getElem_cons_zero, List.getElem_cons_succ, List.setIfInBounds_toArray, List.set_cons_zero, List.set_cons_succ]
            obtain ⟨x0, x1, x2⟩ := E0.out
            rw [x0] at V4
            obtain ⟨M4, S5⟩ := mp_step (m' := m2) (Of := fun k => k < W0) (Nat.le_refl W0) HbQ.out VQ.1 hnQ hof H3 hyy.out S3 hs3 V4 S4 x1
            have S6 := SD.out.trans S5
            clear H3 S3 hs3 V4 S4 S5 VQ3 VQ H hof SD
            refine wpAny_take (i := 20) (oi := _) (v := ?vtt19) rfl (by kernel_rfl) (by kernel_rfl) (by kernel_rfl) (fun _ _ _ h => h) (Or.inl ⟨by rfl, ?hytt19⟩) ?resttt19
            case hytt19 => (intro w; go_simp; first | done | with_reducible rfl)
            try simp only [Act.put, List.getElem_toArray, List.getElem_cons_zero, List.getElem_cons_succ, List.setIfInBounds_toArray, List.set_cons_zero, List.set_cons_succ]
            refine wpAny_done (by kernel_rfl) ?_ _
            go_wp2_with fail
            go_meet
            exact ⟨kk, rfl, hkk.out, x2, M4, S6⟩
          · skip
            obtain ⟨s_VP, f_VP, z_VP⟩ := VP.open
            go_simp
            refine hK0 _ _ ?_
            clear hK0 K0 s_VP f_VP z_VP
            try simp only [Act.put, List.getElem_toArray, List.getElem_cons_zero, List.getElem_cons_succ, List.setIfInBounds_toArray, List.set_cons_zero, List.set_cons_succ]
            refine wpAny_take (i := 14) (oi := _) (v := ?vtt20) rfl (by kernel_rfl) (by kernel_rfl) (by kernel_rfl) (fun _ _ _ h => h) (Or.inl ⟨by rfl, ?hytt20⟩) ?resttt20
            case hytt20 => (intro w; go_simp; first | done | with_reducible rfl)
            try simp only [Act.put, List.getElem_toArray, List.getElem_cons_zero, List.getElem_cons_succ, List.setIfInBounds_toArray, List.set_cons_zero, List.set_cons_succ]
            refine wpAny_take (i := 15) (oi := _) (v := ?vtt21) rfl (by kernel_rfl) (by kernel_rfl) (by kernel_rfl) (fun _ _ _ h => h) (Or.inl ⟨by rfl, ?hytt21⟩) ?resttt21
            case hytt21 => (intro w; go_simp; first | done | with_reducible rfl)
            try simp only [Act.put, List.getElem_toArray, List.getElem_cons_zero, List.getElem_cons_succ, List.setIfInBounds_toArray, List.set_cons_zero, List.set_cons_succ]
            refine wpAny_ready (rs := [4, 16]) (by kernel_rfl) (by simp) ?_
            refine AllReady.cons (o := _) rfl (fun K0 hK0 => ?_) (AllReady.cons (o := _) rfl (fun K0 hK0 => ?_) AllReady.nil)
            · skip
              obtain ⟨s_VQ, f_VQ, z_VQ⟩ := VQ.open
              go_simp
              refine hK0 _ _ ?_
              clear hK0 K0 s_VQ f_VQ z_VQ
              try simp only [Act.put, List.getElem_toArray, List.getElem_cons_zero, List.getElem_cons_succ, List.setIfInBounds_toArray, List.set_cons_zero, List.set_cons_succ]
              refine wpAny_ready (rs := [16]) (by kernel_rfl) (by simp) ?_
              refine AllReady.cons (o := _) rfl (fun K0 hK0 => ?_) AllReady.nil
              go_simp
              refine hK0 _ _ ?_
              clear hK0 K0
              try simp only [Act.put, List.getElem_toArray, List.getElem_cons_zero, List.getElem_cons_succ, List.setIfInBounds_toArray, List.set_cons_zero, List.set_cons_succ]
              refine wpAny_ready (rs := [17]) (by kernel_rfl) (by simp) ?_
              refine AllReady.cons (o := _) rfl (fun K0 hK0 => ?_) AllReady.nil
              go_simp
              go_at_call 71
              refine (CBo.out _).mono ?_
              rintro e wb7 ⟨rfl, bq⟩
              refine hK0 _ _ ?_
              clear hK0 K0
              try simp only [Act.put, List.getElem_toArray, List.getElem_cons_zero, List.getElem_cons_succ, List.setIfInBounds_toArray, List.set_cons_zero, List.set_cons_succ]
              replace VQ := VQ.kept bq
              replace H := H.kept bq
              replace VP := VP.kept bq
              replace hof : ∀ k, k < W0 → k < wb7.heap.size ∧ k ≠ Q ∧ ¬ BkX p g (some ⟨b2, o2, none⟩) k := fun k hk => ⟨Nat.lt_of_lt_of_le (hof k hk).1 bq.size, (hof k hk).2⟩
              have SD2 := Hid.mk (SD.out.trans (Sm.below bq))
              clear SD bq
              have SD := SD2
              clear SD2
              refine wpAny_ready (rs := [18]) (by kernel_rfl) (by simp) ?_
              refine AllReady.cons (o := _) rfl (fun K0 hK0 => ?_) AllReady.nil
              go_simp
              go_at_call 70
              refine (CP.out _ H).mono ?_
              rintro e wb8 ⟨c3, d3, rfl, H3, S3, hs3⟩
              refine hK0 _ _ ?_
              clear hK0 K0
              try simp only [Act.put, List.getElem_toArray, List.getElem_cons_zero, List.getElem_cons_succ, List.setIfInBounds_toArray, List.set_cons_zero, List.set_cons_succ]
              have VQ3 := VQ.sm S3 hnQ
              clear VP
              refine wpAny_ready (rs := [19]) (by kernel_rfl) (by simp) ?_
              refine AllReady.cons (o := _) rfl (fun K0 hK0 => ?_) AllReady.nil
              go_simp
              go_at_call 69
              refine (CK.out _ VQ3).mono ?_
              rintro e wb9 ⟨rfl, V4, S4⟩
              refine hK0 _ _ ?_
              clear hK0 K0
              try simp only [Act.put, List.getElem_toArray, List.getElem_cons_zero, List.getElem_cons_succ, List.setIfInBounds_toArray, List.set_cons_zero, List.set_cons_succ]
              obtain ⟨x0, x1, x2⟩ := E0.out
              rw [x0] at V4
              obtain ⟨M4, S5⟩ := mp_step (m' := m2) (Of := fun k => k < W0) (Nat.le_refl W0) HbQ.out VQ.1 hnQ hof H3 hyy.out S3 hs3 V4 S4 x1
              have S6 := SD.out.trans S5
              clear H3 S3 hs3 V4 S4 S5 VQ3 VQ H hof SD
              refine wpAny_take (i := 20) (oi := _) (v := ?vtt22) rfl (by kernel_rfl) (by kernel_rfl) (by kernel_rfl) (fun _ _ _ h => h) (Or.inl ⟨by rfl, ?hytt22⟩) ?resttt22
              case hytt22 => (intro w; go_simp; first | done | with_reducible rfl)
              try simp only [Act.put, List.getElem_toArray, List.getElem_cons_zero, List.getElem_cons_succ, List.setIfInBounds_toArray, List.set_cons_zero, List.set_cons_succ]
              refine wpAny_done (by kernel_rfl) ?_ _
              go_wp2_with fail
              go_meet
              exact ⟨kk, rfl, hkk.out, x2, M4, S6⟩
            · skip
              go_simp
              refine hK0 _ _ ?_
              clear hK0 K0
              try simp only [Act.put, List.getElem_toArray, List.getElem_cons_zero, List.getElem_cons_succ, List.setIfInBounds_toArray, List.set_cons_zero, List.set_cons_succ]
              refine wpAny_ready (rs := [4, 17]) (by kernel_rfl) (by simp) ?_
              refine AllReady.cons (o := _) rfl (fun K0 hK0 => ?_) (AllReady.cons (o := _) rfl (fun K0 hK0 => ?_) AllReady.nil)
              · skip
                obtain ⟨s_VQ, f_VQ, z_VQ⟩ := VQ.open
                go_simp
                refine hK0 _ _ ?_
                clear hK0 K0 s_VQ f_VQ z_VQ
                try simp only [Act.put, List.getElem_toArray, List.getElem_cons_zero, List.getElem_cons_succ, List.setIfInBounds_toArray, List.set_cons_zero, List.set_cons_succ]
                refine wpAny_ready (rs := [17]) (by kernel_rfl) (by simp) ?_
                refine AllReady.cons (o := _) rfl (fun K0 hK0 => ?_) AllReady.nil
                go_simp
                go_at_call 71
                refine (CBo.out _).mono ?_
                rintro e wb10 ⟨rfl, bq⟩
                refine hK0 _ _ ?_
                clear hK0 K0
                try simp only [Act.put, List.getElem_toArray, List.getElem_cons_zero, List.getElem_cons_succ, List.setIfInBounds_toArray, List.set_cons_zero, List.set_cons_succ]
                replace VQ := VQ.kept bq
                replace H := H.kept bq
                replace VP := VP.kept bq
                replace hof : ∀ k, k < W0 → k < wb10.heap.size ∧ k ≠ Q ∧ ¬ BkX p g (some ⟨b2, o2, none⟩) k := fun k hk => ⟨Nat.lt_of_lt_of_le (hof k hk).1 bq.size, (hof k hk).2⟩
                have SD2 := Hid.mk (SD.out.trans (Sm.below bq))
                clear SD bq
                have SD := SD2
                clear SD2
                refine wpAny_ready (rs := [18]) (by kernel_rfl) (by simp) ?_
                refine AllReady.cons (o := _) rfl (fun K0 hK0 => ?_) AllReady.nil
                go_simp
                go_at_call 70
                refine (CP.out _ H).mono ?_
                rintro e wb11 ⟨c3, d3, rfl, H3, S3, hs3⟩
                refine hK0 _ _ ?_
                clear hK0 K0
                try simp only [Act.put, List.getElem_toArray, List.getElem_cons_zero, List.getElem_cons_succ, List.setIfInBounds_toArray, List.set_cons_zero, List.set_cons_succ]
                have VQ3 := VQ.sm S3 hnQ
                clear VP
                refine wpAny_ready (rs := [19]) (by kernel_rfl) (by simp) ?_
                refine AllReady.cons (o := _) rfl (fun K0 hK0 => ?_) AllReady.nil
                go_simp
                go_at_call 69
                refine (CK.out _ VQ3).mono ?_
                rintro e wb12 ⟨rfl, V4, S4⟩
                refine hK0 _ _ ?_
                clear hK0 K0
                try simp only [Act.put, List.getElem_toArray, List.getElem_cons_zero, List.getElem_cons_succ, List.setIfInBounds_toArray, List.set_cons_zero, List.set_cons_succ]
                obtain ⟨x0, x1, x2⟩ := E0.out
                rw [x0] at V4
                obtain ⟨M4, S5⟩ := mp_step (m' := m2) (Of := fun k => k < W0) (Nat.le_refl W0) HbQ.out VQ.1 hnQ hof H3 hyy.out S3 hs3 V4 S4 x1
                have S6 := SD.out.trans S5
                clear H3 S3 hs3 V4 S4 S5 VQ3 VQ H hof SD
                refine wpAny_take (i := 20) (oi := _) (v := ?vtt23) rfl (by kernel_rfl) (by kernel_rfl) (by kernel_rfl) (fun _ _ _ h => h) (Or.inl ⟨by rfl, ?hytt23⟩) ?resttt23
                case hytt23 => (intro w; go_simp; first | done | with_reducible rfl)
                try simp only [Act.put, List.getElem_toArray, List.getElem_cons_zero, List.getElem_cons_succ, List.setIfInBounds_toArray, List.set_cons_zero, List.set_cons_succ]
                refine wpAny_done (by kernel_rfl) ?_ _
                go_wp2_with fail
                go_meet
                exact ⟨kk, rfl, hkk.out, x2, M4, S6⟩
              · skip
                go_simp
                go_at_call 71
                refine (CBo.out _).mono ?_
                rintro e wb13 ⟨rfl, bq⟩
                refine hK0 _ _ ?_
                clear hK0 K0
                try simp only [Act.put, List.getElem_toArray, List.getElem_cons_zero, List.getElem_cons_succ, List.setIfInBounds_toArray, List.set_cons_zero, List.set_cons_succ]
                replace VQ := VQ.kept bq
                replace H := H.kept bq
                replace VP := VP.kept bq
                replace hof : ∀ k, k < W0 → k < wb13.heap.size ∧ k ≠ Q ∧ ¬ BkX p g (some ⟨b2, o2, none⟩) k := fun k hk => ⟨Nat.lt_of_lt_of_le (hof k hk).1 bq.size, (hof k hk).2⟩
                have SD2 := Hid.mk (SD.out.trans (Sm.below bq))
                clear SD bq
                have SD := SD2
                clear SD2
                refine wpAny_ready (rs := [4]) (by kernel_rfl) (by simp) ?_
                refine AllReady.cons (o := _) rfl (fun K0 hK0 => ?_) AllReady.nil
                obtain ⟨s_VQ, f_VQ, z_VQ⟩ := VQ.open
                go_simp
                refine hK0 _ _ ?_
                clear hK0 K0 s_VQ f_VQ z_VQ
                try simp only [Act.put, List.getElem_toArray, List.getElem_cons_zero, List.getElem_cons_succ, List.setIfInBounds_toArray, List.set_cons_zero, List.set_cons_succ]
                refine wpAny_ready (rs := [18]) (by kernel_rfl) (by simp) ?_
                refine AllReady.cons (o := _) rfl (fun K0 hK0 => ?_) AllReady.nil
                go_simp
                go_at_call 70
                refine (CP.out _ H).mono ?_
                rintro e wb14 ⟨c3, d3, rfl, H3, S3, hs3⟩
                refine hK0 _ _ ?_
                clear hK0 K0
                try simp only [Act.put, List.getElem_toArray, List.getElem_cons_zero, List.getElem_cons_succ, List.setIfInBounds_toArray, List.set_cons_zero, List.set_cons_succ]
                have VQ3 := VQ.sm S3 hnQ
                clear VP
                refine wpAny_ready (rs := [19]) (by kernel_rfl) (by simp) ?_
                refine AllReady.cons (o := _) rfl (fun K0 hK0 => ?_) AllReady.nil
                go_simp
                go_at_call 69
                refine (CK.out _ VQ3).mono ?_
                rintro e wb15 ⟨rfl, V4, S4⟩
                refine hK0 _ _ ?_
                clear hK0 K0
                try simp only [Act.put, List.getElem_toArray, List.getElem_cons_zero, List.getElem_cons_succ, List.setIfInBounds_toArray, List.set_cons_zero, List.set_cons_succ]
                obtain ⟨x0, x1, x2⟩ := E0.out
                rw [x0] at V4
                obtain ⟨M4, S5⟩ := mp_step (m' := m2) (Of := fun k => k < W0) (Nat.le_refl W0) HbQ.out VQ.1 hnQ hof H3 hyy.out S3 hs3 V4 S4 x1
                have S6 := SD.out.trans S5
                clear H3 S3 hs3 V4 S4 S5 VQ3 VQ H hof SD
                refine wpAny_take (i := 20) (oi := _) (v := ?vtt24) rfl (by kernel_rfl) (by kernel_rfl) (by kernel_rfl) (fun _ _ _ h => h) (Or.inl ⟨by rfl, ?hytt24⟩) ?resttt24
                case hytt24 => (intro w; go_simp; first | done | with_reducible rfl)
                try simp only [Act.put, List.getElem_toArray, List.getElem_cons_zero, List.getElem_cons_succ, List.setIfInBounds_toArray, List.set_cons_zero, List.set_cons_succ]
                refine wpAny_done (by kernel_rfl) ?_ _
                go_wp2_with fail
                go_meet
                exact ⟨kk, rfl, hkk.out, x2, M4, S6⟩
      clear VQ H hof hnQ HYv hyn hyn1 CP CK E0 CBo hkk hyy HNY
      obtain ⟨u2, rfl, hU2, U2, M, Sn⟩ := hcut
      have VR := VRH.out.sm Sn (fun e => e HVR.out)
      have B := Sn.below' BH.out HWB.out (fun j hj => by have := HW0.out; omega)
      replace HWB := Hid.mk (Nat.le_trans HWB.out Sn.size)
      clear Sn VRH BH
      replace hU2 := Hid.mk hU2
      replace U2 := Hid.mk U2
      go_wp2_with fail
      refine (prf_ok _ _ _ _ v1 v2 u1 u2 _ M hU1.out hU2.out (fun h => U1.out (N2.out h)) (fun h => U2.out h)).mono ?_
      rintro e wz ⟨u3, rfl, hU3, U3, Mn, Sn⟩
      rw [E3.out] at U3 Mn
      simp only at U3 Mn
      have VRn := VR.sm Sn (fun e => e HVR.out)
      have Bn := Sn.below' B HWB.out (fun j hj => by have := HW0.out; omega)
      replace HWB := Hid.mk (Nat.le_trans HWB.out Sn.size)
      clear M VR B Sn
      have M := Mn
      have VR := VRn
      have B := Bn
      clear Mn VRn Bn
      replace hU3 := Hid.mk hU3
      replace U3 := Hid.mk U3
      go_wp2_with fail
      refine (names_lit _ _ _ _ [1, si, sr] _ M (by simp) (by intro z hz; simp only [List.mem_cons, List.not_mem_nil, or_false] at hz; (try rcases hz with rfl | rfl | rfl); all_goals first | exact r1.out | exact rA.out | exact rB.out)).mono ?_
      rintro e wz ⟨u4, rfl, hU4, U4, Mn, Sn⟩
      rw [E4.out] at U4 Mn
      simp only at U4 Mn
      have VRn := VR.sm Sn (fun e => e HVR.out)
      have Bn := Sn.below' B HWB.out (fun j hj => by have := HW0.out; omega)
      replace HWB := Hid.mk (Nat.le_trans HWB.out Sn.size)
      clear M VR B Sn
      have M := Mn
      have VR := VRn
      have B := Bn
      clear Mn VRn Bn
      replace hU4 := Hid.mk hU4
      replace U4 := Hid.mk U4
      go_wp2_with fail
      refine (prf_ok _ _ _ _ v3 v4 u3 u4 _ M hU3.out hU4.out (fun h => U3.out (N4.out h)) (fun h => U4.out h)).mono ?_
      rintro e wz ⟨u5, rfl, hU5, U5, Mn, Sn⟩
      rw [E5.out] at U5 Mn
      simp only at U5 Mn
      have VRn := VR.sm Sn (fun e => e HVR.out)
      have Bn := Sn.below' B HWB.out (fun j hj => by have := HW0.out; omega)
      replace HWB := Hid.mk (Nat.le_trans HWB.out Sn.size)
      clear M VR B Sn
      have M := Mn
      have VR := VRn
      have B := Bn
      clear Mn VRn Bn
      replace hU5 := Hid.mk hU5
      replace U5 := Hid.mk U5
      go_wp2_with fail
      refine (names_lit _ _ _ _ [2, si, sr] _ M (by simp) (by intro z hz; simp only [List.mem_cons, List.not_mem_nil, or_false] at hz; (try rcases hz with rfl | rfl | rfl); all_goals first | exact r2.out | exact rA.out | exact rB.out)).mono ?_
      rintro e wz ⟨u6, rfl, hU6, U6, Mn, Sn⟩
      rw [E6.out] at U6 Mn
      simp only at U6 Mn
      have VRn := VR.sm Sn (fun e => e HVR.out)
      have Bn := Sn.below' B HWB.out (fun j hj => by have := HW0.out; omega)
      replace HWB := Hid.mk (Nat.le_trans HWB.out Sn.size)
      clear M VR B Sn
      have M := Mn
      have VR := VRn
      have B := Bn
      clear Mn VRn Bn
      replace hU6 := Hid.mk hU6
      replace U6 := Hid.mk U6
      go_wp2_with fail
      refine (prf_ok _ _ _ _ v3 v6 u3 u6 _ M hU3.out hU6.out (fun h => U3.out (N4.out (N5.out (N6.out h)))) (fun h => U6.out h)).mono ?_
      rintro e wz ⟨u7, rfl, hU7, U7, Mn, Sn⟩
      rw [E7.out] at U7 Mn
      simp only at U7 Mn
      have VRn := VR.sm Sn (fun e => e HVR.out)
      have Bn := Sn.below' B HWB.out (fun j hj => by have := HW0.out; omega)
      replace HWB := Hid.mk (Nat.le_trans HWB.out Sn.size)
      clear M VR B Sn
      have M := Mn
      have VR := VRn
      have B := Bn
      clear Mn VRn Bn
      replace hU7 := Hid.mk hU7
      replace U7 := Hid.mk U7
      go_wp2_with fail
      refine (names_lit _ _ _ _ [3, si, sr] _ M (by simp) (by intro z hz; simp only [List.mem_cons, List.not_mem_nil, or_false] at hz; (try rcases hz with rfl | rfl | rfl); all_goals first | exact r3.out | exact rA.out | exact rB.out)).mono ?_
      rintro e wz ⟨u8, rfl, hU8, U8, Mn, Sn⟩
      rw [E8.out] at U8 Mn
      simp only at U8 Mn
      have VRn := VR.sm Sn (fun e => e HVR.out)
      have Bn := Sn.below' B HWB.out (fun j hj => by have := HW0.out; omega)
      replace HWB := Hid.mk (Nat.le_trans HWB.out Sn.size)
      clear M VR B Sn
      have M := Mn
      have VR := VRn
      have B := Bn
      clear Mn VRn Bn
      replace hU8 := Hid.mk hU8
      replace U8 := Hid.mk U8
      go_wp2_with fail
      refine (prf_ok _ _ _ _ v3 v8 u3 u8 _ M hU3.out hU8.out (fun h => U3.out (N4.out (N5.out (N6.out (N7.out (N8.out h)))))) (fun h => U8.out h)).mono ?_
      rintro e wz ⟨u9, rfl, hU9, U9, Mn, Sn⟩
      rw [E9.out] at U9 Mn
      simp only at U9 Mn
      have VRn := VR.sm Sn (fun e => e HVR.out)
      have Bn := Sn.below' B HWB.out (fun j hj => by have := HW0.out; omega)
      replace HWB := Hid.mk (Nat.le_trans HWB.out Sn.size)
      clear M VR B Sn
      have M := Mn
      have VR := VRn
      have B := Bn
      clear Mn VRn Bn
      replace hU9 := Hid.mk hU9
      replace U9 := Hid.mk U9
      have HVZ := Hid.mk (show w.heap.size < wz.heap.size from VR.1)
      obtain ⟨base, p, g, c, d, ys, VQ, H, hl, hxx, hbb, hbQ, hnb, ho⟩ := M
      have HO0 := Hid.mk (H.o.mono (Nat.le_trans HW0.out hbb))
      have HXX := Hid.mk hxx
      obtain ⟨l9, c9⟩ := m9
      simp only at VQ HXX
      obtain ⟨n9, hn9⟩ : ∃ q, ys.length = q := ⟨_, rfl⟩
      have VP := H.v
      rw [hn9] at VP
      have HN9 := Hid.mk hn9
      have HOL := Hid.mk (fun b hb => (H.o.lt b hb).1)
      have HOL2 := Hid.mk (fun b hb => (H.o.lt b hb).2)
      have HBB := Hid.mk hbb
      have HPV := Hid.mk (show p ≠ w.heap.size by have := H.bp; have := HVR.out; omega)
      clear H hl hxx hbb hbQ hnb ho hn9
      have bA := belowA wz (.cells #[.int .i64 0, .int .i64 0, .int .i64 0, .int .i64 0] 28)
      have VK := V.new wz [.int .i64 0, .int .i64 0, .int .i64 0, .int .i64 0] 28
      have hT9 := Hid.mk VK.there
      have F_VK := VK.filled [.int .i64 u3, .int .i64 u5, .int .i64 u7, .int .i64 u9] rfl
      have F_VR := (VR.kept bA).apart (B := wz.heap.size) (by have := VR.1; omega) 0 [.int .i64 u3, .int .i64 u5, .int .i64 u7, .int .i64 u9]
      have F_VQ := (VQ.kept bA).apart (B := wz.heap.size) (by have := VQ.1; omega) 0 [.int .i64 u3, .int .i64 u5, .int .i64 u7, .int .i64 u9]
      have F_VP := (VP.kept bA).apart (B := wz.heap.size) (by have := VP.1; omega) 0 [.int .i64 u3, .int .i64 u5, .int .i64 u7, .int .i64 u9]
      have F_B := belowCells (thenB B bA) (show w.heap.size ≤ wz.heap.size from HWB.out) 0 [.int .i64 u3, .int .i64 u5, .int .i64 u7, .int .i64 u9]
      have F_O := (HO0.out.kept bA).apart (B := wz.heap.size) (by intro b hb; have := HOL2.out b hb; omega) 0 [.int .i64 u3, .int .i64 u5, .int .i64 u7, .int .i64 u9]
      obtain ⟨w9, hw9⟩ : ∃ q, (wz.alloc (.cells #[.int .i64 0, .int .i64 0, .int .i64 0, .int .i64 0] 28)).setCells wz.heap.size 0 [.int .i64 u3, .int .i64 u5, .int .i64 u7, .int .i64 u9] = q := ⟨_, rfl⟩
      rw [hw9] at F_VK F_VR F_VQ F_VP F_B F_O
      replace hw9 := Hid.mk hw9
      replace F_VK := Hid.mk F_VK
      replace F_VR := Hid.mk F_VR
      replace F_VQ := Hid.mk F_VQ
      replace F_VP := Hid.mk F_VP
      replace F_B := Hid.mk F_B
      replace F_O := Hid.mk F_O
      clear bA VK
      rcases HWY.out with ⟨hz, er⟩ | ⟨hz, er⟩
      · have hne : (c9 != 0) = true := by simpa using hz
        have HE := Hid.mk er
        clear er hz HWY
        obtain ⟨s_VR, f_VR, z_VR⟩ := VR.open
        obtain ⟨s_VQ, f_VQ, z_VQ⟩ := VQ.open
        obtain ⟨s_VP, f_VP, z_VP⟩ := VP.open
        obtain ⟨s9_VK, f9_VK, z9_VK⟩ := F_VK.out.open
        obtain ⟨s9_VR, f9_VR, z9_VR⟩ := F_VR.out.open
        obtain ⟨s9_VQ, f9_VQ, z9_VQ⟩ := F_VQ.out.open
        obtain ⟨s9_VP, f9_VP, z9_VP⟩ := F_VP.out.open
        go_wp2_with (refine wpList_stroke w9 rfl 28 _ _ rfl (wz.heap.size) 0 #[.int .i64 u3, .int .i64 u5, .int .i64 u7, .int .i64 u9] rfl rfl hT9.out (by kernel_rfl) (by kernel_rfl) hw9.out ?_)
        clear s9_VK f9_VK z9_VK s9_VR f9_VR z9_VR s9_VQ f9_VQ z9_VQ s9_VP f9_VP z9_VP s_VR f_VR z_VR s_VQ f_VQ z_VQ s_VP f_VP z_VP
        replace VR := F_VR.out
        replace VQ := F_VQ.out
        replace VP := F_VP.out
        have VK := F_VK.out
        replace B := F_B.out
        have O := F_O.out
        clear hT9 hw9 F_VK F_VR F_VQ F_VP F_B F_O HO0
        obtain ⟨s_VR, f_VR, z_VR⟩ := VR.open
        obtain ⟨s_VQ, f_VQ, z_VQ⟩ := VQ.open
        obtain ⟨s_VP, f_VP, z_VP⟩ := VP.open
        obtain ⟨s_VK, f_VK, z_VK⟩ := VK.open
        have Bo := B
        clear s_VR f_VR z_VR s_VQ f_VQ z_VQ s_VP f_VP z_VP s_VK f_VK z_VK
        have VF := Hid.mk (VR.filled [.int .i64 c9, .int .i64 0, .int .i64 0, .int .i64 0, .int .i64 0, .slice none 0 0] rfl)
        have HT := Hid.mk VR.there
        have BR := belowCells B (show w.heap.size ≤ w.heap.size by (first | omega | (simp; done) | (simp; omega))) 0 [.int .i64 c9, .int .i64 0, .int .i64 0, .int .i64 0, .int .i64 0, .slice none 0 0]
        replace BR := Hid.mk BR
        obtain ⟨s_VR, f_VR, z_VR⟩ := VR.open
        obtain ⟨s_VQ, f_VQ, z_VQ⟩ := VQ.open
        obtain ⟨s_VP, f_VP, z_VP⟩ := VP.open
        obtain ⟨s_VK, f_VK, z_VK⟩ := VK.open
        go_wp2_with (refine wpList_store_mid rfl 30 _ _ rfl (w.heap.size) 0 #[.int .i64 c9, .int .i64 0, .int .i64 0, .int .i64 0, .int .i64 0, .slice none 0 0] rfl rfl HT.out (by kernel_rfl) (by kernel_rfl) ?_)
        refine bodyPost_ret (v := .agg #[.int .i64 c9, .int .i64 0, .int .i64 0, .int .i64 0, .int .i64 0, .slice none 0 0]) (results_row Try.results15 _ _ (w.heap.size) [.int .i64 c9, .int .i64 0, .int .i64 0, .int .i64 0, .int .i64 0, .slice none 0 0] _ rfl VF.out Try.underlying30 rfl (by kernel_rfl)) rfl ⟨none, 0, by rw [HE.out]; rfl, by rw [HE.out]; exact OwnTerm.none, BR.out⟩
      · simp only at hz
        subst hz
        have t9 := N9.out (by trivial)
        have t8 := N8.out t9
        have t7 := N7.out t8
        have t6 := N6.out t7
        have t5 := N5.out t6
        have t4 := N4.out t5
        have o3 := U3.out t4
        have o5 := U5.out t6
        have o7 := U7.out t8
        have o9 := U9.out (by trivial)
        have oy := HXX.out (by trivial)
        rw [← o3, ← o5, ← o7, ← o9, ← oy] at er
        have HE := Hid.mk er
        clear er HWY t9 t8 t7 t6 t5 t4 o3 o5 o7 o9 oy
        obtain ⟨s_VR, f_VR, z_VR⟩ := VR.open
        obtain ⟨s_VQ, f_VQ, z_VQ⟩ := VQ.open
        obtain ⟨s_VP, f_VP, z_VP⟩ := VP.open
        obtain ⟨s9_VK, f9_VK, z9_VK⟩ := F_VK.out.open
        obtain ⟨s9_VR, f9_VR, z9_VR⟩ := F_VR.out.open
        obtain ⟨s9_VQ, f9_VQ, z9_VQ⟩ := F_VQ.out.open
        obtain ⟨s9_VP, f9_VP, z9_VP⟩ := F_VP.out.open
        go_upto_region 12 with (refine wpList_stroke w9 rfl 28 _ _ rfl (wz.heap.size) 0 #[.int .i64 u3, .int .i64 u5, .int .i64 u7, .int .i64 u9] rfl rfl hT9.out (by kernel_rfl) (by kernel_rfl) hw9.out ?_)
        clear s9_VK f9_VK z9_VK s9_VR f9_VR z9_VR s9_VQ f9_VQ z9_VQ s9_VP f9_VP z9_VP s_VR f_VR z_VR s_VQ f_VQ z_VQ s_VP f_VP z_VP
        replace VR := F_VR.out
        replace VQ := F_VQ.out
        replace VP := F_VP.out
        have VK := F_VK.out
        replace B := F_B.out
        have O := F_O.out
        clear hT9 hw9 F_VK F_VR F_VQ F_VP F_B F_O HO0
        have hvz := HVZ.out
        have hvr9 := HVR.out
        have hvw := HWB.out
        have hq9 := VQ.1
        have hp9 := VP.1
        have hbq := HBB.out
        have hQv : Q ≠ w.heap.size := by have := HbQ.out; omega
        have hpv : p ≠ w.heap.size := HPV.out
        have K : ∀ w' : World, Below w9.heap.size w9 w' → (w'.cell? ⟨Q, 0, none⟩ = some (.pointer (some ⟨p, 0, none⟩)) ∧ w'.cell? ⟨Q, 1, none⟩ = some (.int .i64 0) ∧ w'.cell? ⟨p, 0, none⟩ = some (.slice c n9 d) ∧ w'.cell? ⟨p, 1, none⟩ = some (.map (some g)) ∧ w'.cell? ⟨wz.heap.size, 0, none⟩ = some (.int .i64 u3) ∧ w'.cell? ⟨wz.heap.size, 1, none⟩ = some (.int .i64 u5) ∧ w'.cell? ⟨wz.heap.size, 2, none⟩ = some (.int .i64 u7) ∧ w'.cell? ⟨wz.heap.size, 3, none⟩ = some (.int .i64 u9)) := fun w' h => ⟨(VQ.kept h).2.1 0 (by simp), (VQ.kept h).2.1 1 (by simp), (VP.kept h).2.1 0 (by simp), (VP.kept h).2.1 1 (by simp), (VK.kept h).2.1 0 (by simp), (VK.kept h).2.1 1 (by simp), (VK.kept h).2.1 2 (by simp), (VK.kept h).2.1 3 (by simp)⟩
        have K := Hid.mk K
        have bd : Below w9.heap.size w9 w9.drew := (Below.refl _ _).drew
        have VD := VR.kept bd
        have HT := Hid.mk VD.there
        have VF := VD.filled [.int .i64 0, .int .i64 u3, .int .i64 u5, .int .i64 u7, .int .i64 u9, .slice c n9 d] rfl
        have A_VQ := (VQ.kept bd).apart (B := w.heap.size) (by first | omega | (simp; omega)) 0 [.int .i64 0, .int .i64 u3, .int .i64 u5, .int .i64 u7, .int .i64 u9, .slice c n9 d]
        have A_VP := (VP.kept bd).apart (B := w.heap.size) (by first | omega | (simp; omega)) 0 [.int .i64 0, .int .i64 u3, .int .i64 u5, .int .i64 u7, .int .i64 u9, .slice c n9 d]
        have A_VK := (VK.kept bd).apart (B := w.heap.size) (by first | omega | (simp; omega)) 0 [.int .i64 0, .int .i64 u3, .int .i64 u5, .int .i64 u7, .int .i64 u9, .slice c n9 d]
        have BR := belowCells (thenB B bd) (show w.heap.size ≤ w.heap.size by (first | omega | (simp; done) | (simp; omega))) 0 [.int .i64 0, .int .i64 u3, .int .i64 u5, .int .i64 u7, .int .i64 u9, .slice c n9 d]
        have HO := Hid.mk (((O.kept bd)).apart (B := w.heap.size) (by intro b hb; have := HOL.out b hb; omega) 0 [.int .i64 0, .int .i64 u3, .int .i64 u5, .int .i64 u7, .int .i64 u9, .slice c n9 d])
        obtain ⟨w6, hw6⟩ : ∃ w6, (World.drew w9).setCells (w.heap.size) 0 [.int .i64 0, .int .i64 u3, .int .i64 u5, .int .i64 u7, .int .i64 u9, .slice c n9 d] = w6 := ⟨_, rfl⟩
        rw [hw6] at VF A_VQ A_VP A_VK BR
        replace hw6 := Hid.mk hw6
        replace VF := Hid.mk VF
        replace BR := Hid.mk BR
        have KA : w6.cell? ⟨Q, 0, none⟩ = some (.pointer (some ⟨p, 0, none⟩)) ∧ w6.cell? ⟨Q, 1, none⟩ = some (.int .i64 0) ∧ w6.cell? ⟨p, 0, none⟩ = some (.slice c n9 d) ∧ w6.cell? ⟨p, 1, none⟩ = some (.map (some g)) ∧ w6.cell? ⟨wz.heap.size, 0, none⟩ = some (.int .i64 u3) ∧ w6.cell? ⟨wz.heap.size, 1, none⟩ = some (.int .i64 u5) ∧ w6.cell? ⟨wz.heap.size, 2, none⟩ = some (.int .i64 u7) ∧ w6.cell? ⟨wz.heap.size, 3, none⟩ = some (.int .i64 u9) := ⟨A_VQ.2.1 0 (by simp), A_VQ.2.1 1 (by simp), A_VP.2.1 0 (by simp), A_VP.2.1 1 (by simp), A_VK.2.1 0 (by simp), A_VK.2.1 1 (by simp), A_VK.2.1 2 (by simp), A_VK.2.1 3 (by simp)⟩
        replace KA := Hid.mk KA
        clear A_VQ A_VP A_VK bd VD
        obtain ⟨s_VR, f_VR, z_VR⟩ := VR.open
        obtain ⟨s_VQ, f_VQ, z_VQ⟩ := VQ.open
        obtain ⟨s_VP, f_VP, z_VP⟩ := VP.open
        obtain ⟨s_VK, f_VK, z_VK⟩ := VK.open
        refine wp_region_held_drew (S := (fun w' => w'.cell? ⟨Q, 0, none⟩ = some (.pointer (some ⟨p, 0, none⟩)) ∧ w'.cell? ⟨Q, 1, none⟩ = some (.int .i64 0) ∧ w'.cell? ⟨p, 0, none⟩ = some (.slice c n9 d) ∧ w'.cell? ⟨p, 1, none⟩ = some (.map (some g)) ∧ w'.cell? ⟨wz.heap.size, 0, none⟩ = some (.int .i64 u3) ∧ w'.cell? ⟨wz.heap.size, 1, none⟩ = some (.int .i64 u5) ∧ w'.cell? ⟨wz.heap.size, 2, none⟩ = some (.int .i64 u7) ∧ w'.cell? ⟨wz.heap.size, 3, none⟩ = some (.int .i64 u9))) (by kernel_rfl) (K.out _ (Below.refl _ _).drew) (fun hHeld => ?_)
        clear s_VR f_VR z_VR s_VQ f_VQ z_VQ s_VP f_VP z_VP s_VK f_VK z_VK
        refine wpAnyH_take (i := 1) (oi := _) (v := ?vy241v1) rfl (by kernel_rfl) (by kernel_rfl) (by kernel_rfl) (fun _ _ _ h => h) (Or.inl ⟨by rfl, ?hyy241v1⟩) hHeld ?resty241v1
        case hyy241v1 => (intro w hSw; (try dsimp only at hSw); go_simp; first | done | with_reducible rfl)
        try simp only [Act.put, List.getElem_toArray, List.getElem_cons_zero, List.getElem_cons_succ, List.setIfInBounds_toArray, List.set_cons_zero, List.set_cons_succ]
        refine wpAnyH_take (i := 2) (oi := _) (v := ?vy241v2) rfl (by kernel_rfl) (by kernel_rfl) (by kernel_rfl) (fun _ _ _ h => h) (Or.inl ⟨by rfl, ?hyy241v2⟩) hHeld ?resty241v2
        case hyy241v2 => (intro w hSw; (try dsimp only at hSw); go_simp; first | done | with_reducible rfl)
        try simp only [Act.put, List.getElem_toArray, List.getElem_cons_zero, List.getElem_cons_succ, List.setIfInBounds_toArray, List.set_cons_zero, List.set_cons_succ]
        refine wpAnyH_take (i := 3) (oi := _) (v := ?vy241v3) rfl (by kernel_rfl) (by kernel_rfl) (by kernel_rfl) (fun _ _ _ h => h) (Or.inl ⟨by rfl, ?hyy241v3⟩) hHeld ?resty241v3
        case hyy241v3 => (intro w hSw; (try dsimp only at hSw); go_simp; first | done | with_reducible rfl)
        try simp only [Act.put, List.getElem_toArray, List.getElem_cons_zero, List.getElem_cons_succ, List.setIfInBounds_toArray, List.set_cons_zero, List.set_cons_succ]
        refine wpAnyH_take (i := 0) (oi := _) (v := ?vy241v0) rfl (by kernel_rfl) (by kernel_rfl) (by kernel_rfl) (fun _ _ _ h => h) (Or.inl ⟨by rfl, ?hyy241v0⟩) hHeld ?resty241v0
        case hyy241v0 => (intro w hSw; (try dsimp only at hSw); go_simp; first | done | with_reducible rfl)
        try simp only [Act.put, List.getElem_toArray, List.getElem_cons_zero, List.setIfInBounds_toArray, List.set_cons_zero, List.set_cons_succ]
        refine wpAnyH_take (i := 4) (oi := _) (v := ?vy241v4) rfl (by kernel_rfl) (by kernel_rfl) (by kernel_rfl) (fun _ _ _ h => h) (Or.inl ⟨by rfl, ?hyy241v4⟩) hHeld ?resty241v4
        case hyy241v4 => (intro w hSw; (try dsimp only at hSw); go_simp; first | done | with_reducible rfl)
        try simp only [Act.put, List.getElem_toArray, List.getElem_cons_zero, List.getElem_cons_succ, List.setIfInBounds_toArray, List.set_cons_zero, List.set_cons_succ]
        refine wpAnyH_take (i := 5) (oi := _) (v := ?vy241v5) rfl (by kernel_rfl) (by kernel_rfl) (by kernel_rfl) (fun _ _ _ h => h) (Or.inl ⟨by rfl, ?hyy241v5⟩) hHeld ?resty241v5
        case hyy241v5 => (intro w hSw; (try dsimp only at hSw); go_simp; first | done | with_reducible rfl)
        try simp only [Act.put, List.getElem_toArray, List.getElem_cons_zero, List.getElem_cons_succ, List.setIfInBounds_toArray, List.set_cons_zero, List.set_cons_succ]
        refine wpAnyH_take (i := 6) (oi := _) (v := ?vy241v6) rfl (by kernel_rfl) (by kernel_rfl) (by kernel_rfl) (fun _ _ _ h => h) (Or.inl ⟨by rfl, ?hyy241v6⟩) hHeld ?resty241v6
        case hyy241v6 => (intro w hSw; (try dsimp only at hSw); go_simp; first | done | with_reducible rfl)
        try simp only [Act.put, List.getElem_toArray, List.getElem_cons_zero, List.getElem_cons_succ, List.setIfInBounds_toArray, List.set_cons_zero, List.set_cons_succ]
        refine wpAnyH_take (i := 7) (oi := _) (v := ?vy241v7) rfl (by kernel_rfl) (by kernel_rfl) (by kernel_rfl) (fun _ _ _ h => h) (Or.inl ⟨by rfl, ?hyy241v7⟩) hHeld ?resty241v7
        case hyy241v7 => (intro w hSw; (try dsimp only at hSw); go_simp; first | done | with_reducible rfl)
        try simp only [Act.put, List.getElem_toArray, List.getElem_cons_zero, List.getElem_cons_succ, List.setIfInBounds_toArray, List.set_cons_zero, List.set_cons_succ]
        refine wpAnyH_take (i := 8) (oi := _) (v := ?vy241v8) rfl (by kernel_rfl) (by kernel_rfl) (by kernel_rfl) (fun _ _ _ h => h) (Or.inl ⟨by rfl, ?hyy241v8⟩) hHeld ?resty241v8
        case hyy241v8 => (intro w hSw; (try dsimp only at hSw); go_simp; first | done | with_reducible rfl)
        try simp only [Act.put, List.getElem_toArray, List.getElem_cons_zero, List.getElem_cons_succ, List.setIfInBounds_toArray, List.set_cons_zero, List.set_cons_succ]
        refine wpAnyH_ready (rs := [9]) (by kernel_rfl) (by simp) ?_
        refine AllReadyH.cons (o := _) rfl (fun K0 hK0 => ?_) AllReadyH.nil
        rw [if_pos (by rfl)]
        refine wp_stroke w6 30 _ _ rfl (w.heap.size) 0 #[.int .i64 0, .int .i64 u3, .int .i64 u5, .int .i64 u7, .int .i64 u9, .slice c n9 d] rfl rfl HT.out (by kernel_rfl) (by kernel_rfl) hw6.out ?_
        refine hK0.out _ _ KA.out (fun hHeld => ?_)
        clear hK0 K0
        refine wpAnyH_done (by kernel_rfl) ?_ _
        go_wp2
        refine bodyPost_ret (v := .agg #[.int .i64 0, .int .i64 u3, .int .i64 u5, .int .i64 u7, .int .i64 u9, .slice c n9 d]) (results_row Try.results15 _ _ (w.heap.size) [.int .i64 0, .int .i64 u3, .int .i64 u5, .int .i64 u7, .int .i64 u9, .slice c n9 d] _ rfl VF.out Try.underlying30 rfl (by kernel_rfl)) rfl ⟨c, d, by rw [HE.out, ← HN9.out], by rw [HE.out]; have h := HO.out; rw [hw6.out] at h; exact h, BR.out⟩

end Go.Proofs.Ythkmoabkeblbjaa
