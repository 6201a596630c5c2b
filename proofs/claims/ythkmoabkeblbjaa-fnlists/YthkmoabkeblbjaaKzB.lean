/- The program's maker of terms: its state; what is put by it. -/
import Derived.Test.YthkmoabkeblbjaaKzA
import Derived.Test.YthkmoabkeblbjaaTmY
import Derived.Test.YthkmoabkeblbjaaTmJ
import Derived.Test.YthkmoabkeblbjaaKyB
namespace Go.Proofs.Ythkmoabkeblbjaa
open Go.RowKit

theorem Sm.wide {X Y : Nat → Prop} {w w' : World} (h : Sm X w w') (hx : ∀ k, X k → Y k) : Sm Y w w' := ⟨h.os, h.tape, h.output, h.size, fun k hk hn => h.block k hk (fun e => hn (hx k e))⟩

/-- The program's maker at block Q beside the model's table: the blocks Of are none of its own. -/
def MP (w : World) (b0 : Nat) (Of : Nat → Prop) (Q : Nat) (m : Mk) : Prop :=
  ∃ (base p g : Nat) (c : Option Addr) (d : Nat) (xs : List T4), V w Q [.pointer (some ⟨p, 0, none⟩), .int .i64 m.c] ∧ Bk w base p g c d xs ∧ xs.length ≤ 400 ∧ (m.c = 0 → xs = m.l) ∧ b0 ≤ base ∧ b0 ≤ Q ∧ ¬ BkX p g c Q ∧ ∀ k, Of k → k < w.heap.size ∧ k ≠ Q ∧ ¬ BkX p g c k

theorem MP.lt {w : World} {b0 Q : Nat} {Of : Nat → Prop} {m : Mk} (h : MP w b0 Of Q m) : Q < w.heap.size := by
  obtain ⟨_, _, _, _, _, _, hV, _⟩ := h
  exact hV.1

theorem MP.of {w : World} {b0 Q : Nat} {Of : Nat → Prop} {m : Mk} (h : MP w b0 Of Q m) {k : Nat} (hk : Of k) : k < w.heap.size := by
  obtain ⟨_, _, _, _, _, _, _, _, _, _, _, _, _, ho⟩ := h
  exact (ho k hk).1

theorem MP.kept {w w' : World} {b0 Q : Nat} {Of : Nat → Prop} {m : Mk} (h : MP w b0 Of Q m) (hb : Below w.heap.size w w') : MP w' b0 Of Q m := by
  obtain ⟨base, p, g, c, d, xs, h1, h2, h3, h4, h5, h6, h7, h8⟩ := h
  exact ⟨base, p, g, c, d, xs, h1.kept hb, h2.kept hb, h3, h4, h5, h6, h7, fun k hk => ⟨Nat.lt_of_lt_of_le (h8 k hk).1 hb.size, (h8 k hk).2⟩⟩

theorem MP.less {w : World} {b0 Q : Nat} {Of Of' : Nat → Prop} {m : Mk} (h : MP w b0 Of Q m) (hk : ∀ k, Of' k → Of k) : MP w b0 Of' Q m := by
  obtain ⟨base, p, g, c, d, xs, h1, h2, h3, h4, h5, h6, h7, h8⟩ := h
  exact ⟨base, p, g, c, d, xs, h1, h2, h3, h4, h5, h6, h7, fun k k1 => h8 k (hk k k1)⟩

/-- A block that was made since is none of its own. -/
theorem MP.more {w w' : World} {b0 Q n : Nat} {Of : Nat → Prop} {m : Mk} (h : MP w b0 Of Q m) (hb : Below w.heap.size w w') (h1 : w.heap.size ≤ n) (h2 : n < w'.heap.size) : MP w' b0 (fun k => Of k ∨ k = n) Q m := by
  obtain ⟨base, p, g, c, d, xs, a1, a2, a3, a4, a5, a6, a7, a8⟩ := h
  refine ⟨base, p, g, c, d, xs, a1.kept hb, a2.kept hb, a3, a4, a5, a6, a7, ?_⟩
  rintro k (hk | rfl)
  · exact ⟨Nat.lt_of_lt_of_le (a8 k hk).1 hb.size, (a8 k hk).2⟩
  · exact ⟨h2, by have := a1.1; omega, fun e => by have := (a2.lt _ e).2; omega⟩

/-- Behind one put and what was kept of it. -/
theorem mp_step {w w1 w2 : World} {b0 Q base p g d1 : Nat} {Of : Nat → Prop} {c c1 : Option Addr} {ys : List T4} {m' : Mk} (hb : b0 ≤ base) (hQ : b0 ≤ Q) (hQw : Q < w.heap.size) (hn : ¬ BkX p g c Q)
    (ho : ∀ k, Of k → k < w.heap.size ∧ k ≠ Q ∧ ¬ BkX p g c k) (H1 : Bk w1 base p g c1 d1 ys) (hy : ys.length ≤ 400) (S1 : Sm (BkX p g c) w w1) (hs : ∀ k, BkX p g c1 k → k < w.heap.size → BkX p g c k)
    (V2 : V w2 Q [.pointer (some ⟨p, 0, none⟩), .int .i64 m'.c]) (S2 : Sm (fun k => k = Q) w1 w2) (hl : m'.c = 0 → ys = m'.l) : MP w2 b0 Of Q m' ∧ Sm (fun k => ¬ Of k) w w2 := by
  have n1 : ¬ BkX p g c1 Q := fun e => hn (hs Q e hQw)
  refine ⟨⟨base, p, g, c1, d1, ys, V2, H1.sm S2 (fun k e h => n1 (by subst e; exact h)), hy, hl, hb, hQ, n1, fun k hk => ?_⟩, ?_⟩
  · obtain ⟨o1, o2, o3⟩ := ho k hk
    exact ⟨by have := S1.size; have := S2.size; omega, o2, fun e => o3 (hs k e o1)⟩
  · exact (S1.wide (fun k hk h => (ho k h).2.2 hk)).trans (S2.wide (fun k e h => (ho k h).2.1 e))

set_option maxHeartbeats 1000000 in
theorem keep_ok (Q p : Nat) (k v c : Int) (w : World) (VQ : V w Q [.pointer (some ⟨p, 0, none⟩), .int .i64 c]) :
    Calls Try.prog 69 #[.pointer (some ⟨Q, 0, none⟩), .agg #[.int .i64 k, .int .i64 v]] w fun e w' => e = .returned (.int .i64 v) ∧ V w' Q [.pointer (some ⟨p, 0, none⟩), .int .i64 (if c = 0 then k else c)] ∧ Sm (fun j => j = Q) w w' := by
  by_cases hc : c = 0
  · subst hc
    rw [if_pos rfl]
    have hQ := VQ.1
    have VQ0 := Hid.mk VQ
    go_enter Try.func69, Try.ntmps69
    have S := Sm.refl (fun j => j = Q) w
    replace VQ := VQ.kept (belowA w (.cells #[.int .i64 k, .int .i64 v] 51))
    replace S := S.trans (Sm.below (belowA w (.cells #[.int .i64 k, .int .i64 v] 51)))
    have VX := V.new w [.int .i64 k, .int .i64 v] 51
    obtain ⟨s_VQ, f_VQ, z_VQ⟩ := VQ.open
    obtain ⟨s_VX, f_VX, z_VX⟩ := VX.open
    have V9 := VQ0.out.set (i := 1) (by simp) (.int .i64 k)
    simp only [List.set_cons_zero, List.set_cons_succ] at V9
    replace V9 := Hid.mk (V9.kept (belowA _ (.cells #[.int .i64 k, .int .i64 v] 51)))
    have S9 := Hid.mk ((Sm.cell (X := fun j => j = Q) (w := w) (p := ⟨Q, 1, none⟩) rfl (.int .i64 k)).trans (Sm.below (belowA _ (.cells #[.int .i64 k, .int .i64 v] 51))))
    go_wp2
    go_ret
    exact ⟨rfl, V9.out, S9.out⟩
  · rw [if_neg hc]
    have h0 : (c == 0) = false := by simp [hc]
    clear hc
    have hQ := VQ.1
    have VQ0 := Hid.mk VQ
    go_enter Try.func69, Try.ntmps69
    have S := Sm.refl (fun j => j = Q) w
    replace VQ := VQ.kept (belowA w (.cells #[.int .i64 k, .int .i64 v] 51))
    replace S := S.trans (Sm.below (belowA w (.cells #[.int .i64 k, .int .i64 v] 51)))
    have VX := V.new w [.int .i64 k, .int .i64 v] 51
    obtain ⟨s_VQ, f_VQ, z_VQ⟩ := VQ.open
    obtain ⟨s_VX, f_VX, z_VX⟩ := VX.open
    have V9 := Hid.mk VQ
    have S9 := Hid.mk S
    go_wp2
    go_ret
    exact ⟨rfl, V9.out, S9.out⟩

theorem mk_code (m : Mk) (t : T4) (xs : List T4) (h : m.c = 0 → xs = m.l) : (if m.c = 0 then (put xs t).c else m.c) = (mkPut m t).c ∧ ((mkPut m t).c = 0 → putL xs t = (mkPut m t).l) ∧ ((mkPut m t).c = 0 → (put xs t).k = mkAt m t) := by
  by_cases hc : m.c = 0
  · obtain rfl := h hc
    rw [if_pos hc, mkPut_c hc]
    refine ⟨rfl, fun h2 => ?_, fun _ => (mkAt_good hc t).symm⟩
    rw [mkPut_l hc h2]
    unfold putL
    rw [if_pos h2]
  · rw [if_neg hc, mkPut_bad hc]
    exact ⟨rfl, fun h2 => absurd h2 hc, fun h2 => absurd h2 hc⟩

theorem putL_len {xs : List T4} {t : T4} (h : xs.length ≤ 400) : (putL xs t).length ≤ 400 := by
  unfold putL
  split
  · exact put_len h
  · exact h

set_option maxHeartbeats 2000000 in
theorem prf_ok (b0 Q : Nat) (Of : Nat → Prop) (m : Mk) (a b a' b' : Int) (w : World) (h : MP w b0 Of Q m) (ha : 0 ≤ a' ∧ a' ≤ 400) (hb : 0 ≤ b' ∧ b' ≤ 400) (ea : m.c = 0 → a' = a) (eb : m.c = 0 → b' = b) :
    Calls Try.prog 72 #[.pointer (some ⟨Q, 0, none⟩), .int .i64 a', .int .i64 b'] w fun e w' => ∃ v, e = .returned (.int .i64 v) ∧ (0 ≤ v ∧ v ≤ 400) ∧ ((mk2 m 4 a b).1.c = 0 → v = (mk2 m 4 a b).2) ∧ MP w' b0 Of Q (mk2 m 4 a b).1 ∧ Sm (fun k => ¬ Of k) w w' := by
  have q := build_oab 4 a' b'
  obtain ⟨base, p, g, c, d, xs, VQ, H, hl, hx, hbb, hbQ, hn, ho⟩ := h
  have HQ := VQ.1
  have ht : okT ⟨4, a', b', 0⟩ := ⟨(okI_of (x := 4) (by decide) (by decide)), okI_of (by simp only; omega) (by simp only; omega), okI_of (by simp only; omega) (by simp only; omega), (okI_of (x := 0) (by decide) (by decide))⟩
  have CP := Hid.mk (fun w H => put_ok base p g c d xs ⟨4, a', b', 0⟩ w H ht hl)
  have CK := Hid.mk (fun w V => keep_ok Q p (put xs ⟨4, a', b', 0⟩).c (put xs ⟨4, a', b', 0⟩).k m.c w V)
  have E0 : Hid ((if m.c = 0 then (put xs ⟨4, a', b', 0⟩).c else m.c) = (mk2 m 4 a b).1.c ∧ ((mk2 m 4 a b).1.c = 0 → putL xs ⟨4, a', b', 0⟩ = (mk2 m 4 a b).1.l) ∧ ((mk2 m 4 a b).1.c = 0 → (put xs ⟨4, a', b', 0⟩).k = (mk2 m 4 a b).2)) := Hid.mk (by
    by_cases hc : m.c = 0
    · rw [ea hc, eb hc]; exact mk_code m ⟨4, a, b, 0⟩ xs hx
    · have e1 : (mk2 m 4 a b).1 = m := mkPut_bad hc _
      rw [e1, if_neg hc]
      exact ⟨rfl, fun h2 => absurd h2 hc, fun h2 => absurd h2 hc⟩)
  have hk := Hid.mk (put_k (t := ⟨4, a', b', 0⟩) hl)
  have hy := Hid.mk (putL_len (t := ⟨4, a', b', 0⟩) hl)
  have ST := Hid.mk (fun w1 w2 c1 d1 H1 S1 hs V2 S2 hl2 => mp_step (w := w) (w1 := w1) (w2 := w2) (c1 := c1) (d1 := d1) (Of := Of) (ys := putL xs ⟨4, a', b', 0⟩) (m' := (mk2 m 4 a b).1) hbb hbQ HQ hn ho H1 hy.out S1 hs V2 S2 hl2)
  replace hn := Hid.mk hn
  clear hx ea eb ht ho
  generalize putL xs ⟨4, a', b', 0⟩ = zl at *
  generalize put xs ⟨4, a', b', 0⟩ = P at *
  generalize mk2 m 4 a b = M at *
  obtain ⟨kc, kk, kl⟩ := P
  obtain ⟨mm, mv⟩ := M
  obtain ⟨mc, ml⟩ := m
  simp only at *
  have HB := Hid.mk H
  have VH := Hid.mk VQ
  clear H
  go_enter Try.func72, Try.ntmps72
  obtain ⟨s_VQ, f_VQ, z_VQ⟩ := VQ.open
  go_wp2_with fail
  refine (CP.out _ HB.out).mono ?_
  rintro e w1 ⟨c1, d1, rfl, H1, S1, hs⟩
  clear s_VQ f_VQ z_VQ VQ
  have V1 := VH.out.sm S1 hn.out
  replace H1 := Hid.mk H1
  replace S1 := Hid.mk S1
  go_wp2_with fail
  refine (CK.out _ V1).mono ?_
  rintro e w2 ⟨rfl, V2, S2⟩
  obtain ⟨e0, e1, e2⟩ := E0.out
  rw [e0] at V2
  have R := Hid.mk (ST.out w1 w2 c1 d1 H1.out S1.out hs V2 S2 e1)
  clear V1 V2 S2 hs
  go_wp2
  go_ret
  exact ⟨_, rfl, hk.out, e2, R.out.1, R.out.2⟩

set_option maxHeartbeats 2000000 in
theorem list_ok (b0 Q : Nat) (Of : Nat → Prop) (m : Mk) (cc : Option Addr) (n dd : Nat) (zs zs' : List Int) (w : World) (h : MP w b0 Of Q m) (hR : Rd .i64 w cc zs') (hn : zs'.length = n) (hnx : n ≤ maxLen) (hz : ∀ z ∈ zs', 0 ≤ z ∧ z ≤ 400) (ez : m.c = 0 → zs' = zs) (hcc : ∀ b : Addr, cc = some b → Of b.block) :
    Calls Try.prog 68 #[.pointer (some ⟨Q, 0, none⟩), .slice cc n dd] w fun e w' => ∃ v, e = .returned (.int .i64 v) ∧ (0 ≤ v ∧ v ≤ 400) ∧ ((mkE m zs).1.c = 0 → v = (mkE m zs).2) ∧ MP w' b0 Of Q (mkE m zs).1 ∧ Sm (fun k => ¬ Of k) w w' := by
  obtain ⟨base, p, g, c, d, xs, VQ, H, hl, hx, hbb, hbQ, hnb, ho⟩ := h
  have HQ := VQ.1
  have CP := Hid.mk (fun w H hR hlb => putListF_ok base p g c d xs cc n dd zs' w H hl hR hn hnx hz hlb)
  have CK := Hid.mk (fun w V => keep_ok Q p (plP xs zs').c (plP xs zs').k m.c w V)
  have E0 : Hid ((if m.c = 0 then (plP xs zs').c else m.c) = (mkE m zs).1.c ∧ ((mkE m zs).1.c = 0 → m.c = 0 ∧ (plP xs zs').c = 0 ∧ (plP xs zs').l = (mkE m zs).1.l) ∧ ((mkE m zs).1.c = 0 → (plP xs zs').k = (mkE m zs).2)) := Hid.mk (by
    by_cases hc : m.c = 0
    · obtain rfl := hx hc
      obtain rfl := ez hc
      obtain ⟨x1, x2, x3⟩ := mkE_plP hc zs'
      rw [if_pos hc]
      exact ⟨x1.symm, fun h2 => ⟨hc, by rw [← x1]; exact h2, (x3 (by rw [← x1]; exact h2)).symm⟩, fun _ => x2.symm⟩
    · have e1 : (mkE m zs).1 = m := mkE_bad hc _
      rw [e1, if_neg hc]
      exact ⟨rfl, fun h2 => absurd h2 hc, fun h2 => absurd h2 hc⟩)
  have hk := Hid.mk (plP_k hl zs' hz)
  have ST := Hid.mk (fun w1 w2 c1 d1 ys H1 hy S1 hs V2 S2 hl2 => mp_step (w := w) (w1 := w1) (w2 := w2) (c1 := c1) (d1 := d1) (Of := Of) (ys := ys) (m' := (mkE m zs).1) hbb hbQ HQ hnb ho H1 hy S1 hs V2 S2 hl2)
  have HLB := Hid.mk (fun b hb => (show b.block < w.heap.size ∧ ¬ BkX p g c b.block from ⟨(ho _ (hcc b hb)).1, (ho _ (hcc b hb)).2.2⟩))
  have HR := Hid.mk hR
  replace hnb := Hid.mk hnb
  clear hx ez ho hz hcc hR hn
  generalize plP xs zs' = P at *
  generalize mkE m zs = M at *
  obtain ⟨kc, kk, kl⟩ := P
  obtain ⟨mm, mv⟩ := M
  obtain ⟨mc, ml⟩ := m
  simp only at *
  have HB := Hid.mk H
  have VH := Hid.mk VQ
  clear H
  go_enter Try.func68, Try.ntmps68
  obtain ⟨s_VQ, f_VQ, z_VQ⟩ := VQ.open
  go_wp2_with fail
  refine (CP.out _ HB.out HR.out HLB.out).mono ?_
  rintro e w1 ⟨c1, d1, ys, rfl, hys, hy, _, H1, S1, hs⟩
  clear s_VQ f_VQ z_VQ VQ
  have V1 := VH.out.sm S1 hnb.out
  replace H1 := Hid.mk H1
  replace S1 := Hid.mk S1
  replace hys := Hid.mk hys
  go_wp2_with fail
  refine (CK.out _ V1).mono ?_
  rintro e w2 ⟨rfl, V2, S2⟩
  obtain ⟨e0, e1, e2⟩ := E0.out
  rw [e0] at V2
  have R := Hid.mk (ST.out w1 w2 c1 d1 ys H1.out hy S1.out hs V2 S2 (fun h2 => by rw [hys.out (e1 h2).2.1]; exact (e1 h2).2.2))
  clear V1 V2 S2 hs hy
  go_wp2
  go_ret
  exact ⟨_, rfl, hk.out, e2, R.out.1, R.out.2⟩

theorem MP.sm {X : Nat → Prop} {w w' : World} {b0 Q : Nat} {Of : Nat → Prop} {m : Mk} (h : MP w b0 Of Q m) (s : Sm X w w') (hx : ∀ k, X k → Of k) : MP w' b0 Of Q m := by
  obtain ⟨base, p, g, c, d, xs, a1, a2, a3, a4, a5, a6, a7, a8⟩ := h
  exact ⟨base, p, g, c, d, xs, a1.sm s (fun e => (a8 _ (hx _ e)).2.1 rfl), a2.sm s (fun k e => (a8 _ (hx _ e)).2.2), a3, a4, a5, a6, a7, fun k hk => ⟨Nat.lt_of_lt_of_le (a8 k hk).1 s.size, (a8 k hk).2⟩⟩

/-- Names all. -/
def nmsOk (ns : List Int) : Bool := ns.all fun z => btw z 0 9999

theorem nmsOk_step (zs : List Int) (k : Nat) (h : k < zs.length) {z : Int} (hz : zs.getD k 0 = z) : nmsOk (zs.drop k) = (btw z 0 9999 && nmsOk (zs.drop (k + 1))) := by
  unfold nmsOk
  rw [List.drop_eq_getElem_cons h, List.all_cons]
  have e : zs[k] = z := by rw [← hz]; simp [List.getD, h]
  rw [e]

set_option maxHeartbeats 1000000 in
theorem areNames_ok (c : Option Addr) (n d : Nat) (zs : List Int) (w : World) (hR : Rd .i64 w c zs) (hn : zs.length = n) (hx : n ≤ maxLen) :
    Calls Try.prog 106 #[.slice c n d] w fun e w' => e = .returned (.bool (nmsOk zs)) ∧ w' = w := by
  unfold maxLen at hx
  go_enter Try.func106, Try.ntmps106
  go_wp2
  go_loopw [7] (fun i wr => ∃ k : Nat, k ≤ n ∧ i = .int .i64 k ∧ nmsOk (zs.drop k) = nmsOk zs ∧ wr = w) (fun i _ => n - (intOf i).toNat)
  case atStart => exact ⟨0, Nat.zero_le _, rfl, rfl, rfl⟩
  case round =>
    obtain ⟨k, hk, rfl, hdr, rfl⟩ := hrel
    by_cases hlt : k < n
    · obtain ⟨z, hz⟩ : ∃ z, zs.getD k 0 = z := ⟨_, rfl⟩
      have hk1 : (k : Int) < (n : Int) := by omega
      have hs := nmsOk_step zs k (by omega) hz
      rw [hdr] at hs
      rcases hR with hR | ⟨b1, o1, rfl, hca⟩
      · simp [hR] at hn; omega
      have p0 := hca k (by omega)
      rw [hz] at p0
      clear hca hz hdr
      have CI := Hid.mk (isBetween_ok z 0 9999)
      cases hg : btw z 0 9999
      · rw [hg] at hs CI
        have HS := Hid.mk hs
        clear hs hg
        go_wp2_with fail
        refine (CI.out _).mono ?_
        rintro e wr ⟨rfl, rfl⟩
        go_wp2
        go_ret
        exact ⟨ret_bool HS.out.symm, rfl⟩
      · rw [hg, Bool.true_and] at hs
        rw [hg] at CI
        have HS := Hid.mk hs
        clear hs hg
        go_wp2_with fail
        refine (CI.out _).mono ?_
        rintro e wr ⟨rfl, rfl⟩
        go_wp2
        go_roundw
        case rel => exact ⟨k + 1, by omega, by go_num, HS.out.symm, by trivial⟩
        case measure => simp [intOf]; omega
    · have hkn : k = n := by omega
      subst hkn
      rw [List.drop_of_length_le (by omega)] at hdr
      have HS := Hid.mk hdr
      clear hdr
      go_wp2
      go_ret
      refine ⟨ret_bool (HS.out.symm.trans (by unfold nmsOk; rfl)).symm, rfl⟩

end Go.Proofs.Ythkmoabkeblbjaa
