/- Put together: KzB, KzC, KzD. -/
import Derived.Test.YthkmoabkeblbjaaKzA
import Derived.Test.YthkmoabkeblbjaaTmY
import Derived.Test.YthkmoabkeblbjaaTmJ
import Derived.Test.YthkmoabkeblbjaaMd
import Derived.Test.YthkmoabkeblbjaaMvA
import Derived.Test.YthkmoabkeblbjaaMa

/- The program's maker of terms: its state; what is put by it. -/
namespace Go.Proofs.Ythkmoabkeblbjaa
open Go.RowKit

theorem Sm.wide {X Y : Nat → Prop} {w w' : World} (h : Sm X w w') (hx : ∀ k, X k → Y k) : Sm Y w w' := ⟨h.os, h.tape, h.output, h.size, fun k hk hn => h.block k hk (fun e => hn (hx k e))⟩

/-- The program's maker at block Q beside the model's table: the blocks Of are none of its own. -/
def MP (w : World) (b0 : Nat) (Of : Nat → Prop) (Q : Nat) (m : Mk) : Prop :=
  ∃ (base p g : Nat) (c : Option Addr) (d : Nat) (xs : List T4), V w Q [.pointer (some ⟨p, 0, none⟩), .int .i64 m.c] ∧ Bk w base p g c d xs ∧ xs.length ≤ 400 ∧ (m.c = 0 → xs = m.l) ∧ b0 ≤ base ∧ b0 ≤ Q ∧ ¬ BkX p g c Q ∧ ∀ k, Of k → k < w.heap.size ∧ k ≠ Q ∧ ¬ BkX p g c k

theorem MP.lt {w : World} {b0 Q : Nat} {Of : Nat → Prop} {m : Mk} (h : MP w b0 Of Q m) : Q < w.heap.size := by
  obtain ⟨_, _, _, _, _, _, hV, _⟩ := h
  exact hV.1

theorem MP.of {w : World} {b0 Q : Nat} {Of : Nat → Prop} {m : Mk} (h : MP w b0 Of Q m) {k : Nat} (hk : Of k) : k < w.heap.size := by
  obtain ⟨_, _, _, _, _, _, _, _, _, _, _, _, _, ho⟩ := h
  exact (ho k hk).1

theorem MP.kept {w w' : World} {b0 Q : Nat} {Of : Nat → Prop} {m : Mk} (h : MP w b0 Of Q m) (hb : Below w.heap.size w w') : MP w' b0 Of Q m := by
  obtain ⟨base, p, g, c, d, xs, h1, h2, h3, h4, h5, h6, h7, h8⟩ := h
  exact ⟨base, p, g, c, d, xs, h1.kept hb, h2.kept hb, h3, h4, h5, h6, h7, fun k hk => ⟨Nat.lt_of_lt_of_le (h8 k hk).1 hb.size, (h8 k hk).2⟩⟩

theorem MP.less {w : World} {b0 Q : Nat} {Of Of' : Nat → Prop} {m : Mk} (h : MP w b0 Of Q m) (hk : ∀ k, Of' k → Of k) : MP w b0 Of' Q m := by
  obtain ⟨base, p, g, c, d, xs, h1, h2, h3, h4, h5, h6, h7, h8⟩ := h
  exact ⟨base, p, g, c, d, xs, h1, h2, h3, h4, h5, h6, h7, fun k k1 => h8 k (hk k k1)⟩

/-- A block that was made since is none of its own. -/
theorem MP.more {w w' : World} {b0 Q n : Nat} {Of : Nat → Prop} {m : Mk} (h : MP w b0 Of Q m) (hb : Below w.heap.size w w') (h1 : w.heap.size ≤ n) (h2 : n < w'.heap.size) : MP w' b0 (fun k => Of k ∨ k = n) Q m := by
  obtain ⟨base, p, g, c, d, xs, a1, a2, a3, a4, a5, a6, a7, a8⟩ := h
  refine ⟨base, p, g, c, d, xs, a1.kept hb, a2.kept hb, a3, a4, a5, a6, a7, ?_⟩
  rintro k (hk | rfl)
  · exact ⟨Nat.lt_of_lt_of_le (a8 k hk).1 hb.size, (a8 k hk).2⟩
  · exact ⟨h2, by have := a1.1; omega, fun e => by have := (a2.lt _ e).2; omega⟩

/-- Behind one put and what was kept of it. -/
theorem mp_step {w w1 w2 : World} {b0 Q base p g d1 : Nat} {Of : Nat → Prop} {c c1 : Option Addr} {ys : List T4} {m' : Mk} (hb : b0 ≤ base) (hQ : b0 ≤ Q) (hQw : Q < w.heap.size) (hn : ¬ BkX p g c Q)
    (ho : ∀ k, Of k → k < w.heap.size ∧ k ≠ Q ∧ ¬ BkX p g c k) (H1 : Bk w1 base p g c1 d1 ys) (hy : ys.length ≤ 400) (S1 : Sm (BkX p g c) w w1) (hs : ∀ k, BkX p g c1 k → k < w.heap.size → BkX p g c k)
    (V2 : V w2 Q [.pointer (some ⟨p, 0, none⟩), .int .i64 m'.c]) (S2 : Sm (fun k => k = Q) w1 w2) (hl : m'.c = 0 → ys = m'.l) : MP w2 b0 Of Q m' ∧ Sm (fun k => ¬ Of k) w w2 := by
  have n1 : ¬ BkX p g c1 Q := fun e => hn (hs Q e hQw)
  refine ⟨⟨base, p, g, c1, d1, ys, V2, H1.sm S2 (fun k e h => n1 (by subst e; exact h)), hy, hl, hb, hQ, n1, fun k hk => ?_⟩, ?_⟩
  · obtain ⟨o1, o2, o3⟩ := ho k hk
    exact ⟨by have := S1.size; have := S2.size; omega, o2, fun e => o3 (hs k e o1)⟩
  · exact (S1.wide (fun k hk h => (ho k h).2.2 hk)).trans (S2.wide (fun k e h => (ho k h).2.1 e))

set_option maxHeartbeats 1000000 in
theorem keep_ok (Q p : Nat) (k v c : Int) (w : World) (VQ : V w Q [.pointer (some ⟨p, 0, none⟩), .int .i64 c]) :
    Calls Try.prog 69 #[.pointer (some ⟨Q, 0, none⟩), .agg #[.int .i64 k, .int .i64 v]] w fun e w' => e = .returned (.int .i64 v) ∧ V w' Q [.pointer (some ⟨p, 0, none⟩), .int .i64 (if c = 0 then k else c)] ∧ Sm (fun j => j = Q) w w' := by
  by_cases hc : c = 0
  · subst hc
    rw [if_pos rfl]
    have hQ := VQ.1
    have VQ0 := Hid.mk VQ
    go_enter Try.func69, Try.ntmps69
    have S := Sm.refl (fun j => j = Q) w
    replace VQ := VQ.kept (belowA w (.cells #[.int .i64 k, .int .i64 v] 51))
    replace S := S.trans (Sm.below (belowA w (.cells #[.int .i64 k, .int .i64 v] 51)))
    have VX := V.new w [.int .i64 k, .int .i64 v] 51
    obtain ⟨s_VQ, f_VQ, z_VQ⟩ := VQ.open
    obtain ⟨s_VX, f_VX, z_VX⟩ := VX.open
    have V9 := VQ0.out.set (i := 1) (by simp) (.int .i64 k)
    simp only [List.set_cons_zero, List.set_cons_succ] at V9
    replace V9 := Hid.mk (V9.kept (belowA _ (.cells #[.int .i64 k, .int .i64 v] 51)))
    have S9 := Hid.mk ((Sm.cell (X := fun j => j = Q) (w := w) (p := ⟨Q, 1, none⟩) rfl (.int .i64 k)).trans (Sm.below (belowA _ (.cells #[.int .i64 k, .int .i64 v] 51))))
    go_wp2
    go_ret
    exact ⟨rfl, V9.out, S9.out⟩
  · rw [if_neg hc]
    have h0 : (c == 0) = false := by simp [hc]
    clear hc
    have hQ := VQ.1
    have VQ0 := Hid.mk VQ
    go_enter Try.func69, Try.ntmps69
    have S := Sm.refl (fun j => j = Q) w
    replace VQ := VQ.kept (belowA w (.cells #[.int .i64 k, .int .i64 v] 51))
    replace S := S.trans (Sm.below (belowA w (.cells #[.int .i64 k, .int .i64 v] 51)))
    have VX := V.new w [.int .i64 k, .int .i64 v] 51
    obtain ⟨s_VQ, f_VQ, z_VQ⟩ := VQ.open
    obtain ⟨s_VX, f_VX, z_VX⟩ := VX.open
    have V9 := Hid.mk VQ
    have S9 := Hid.mk S
    go_wp2
    go_ret
    exact ⟨rfl, V9.out, S9.out⟩

theorem mk_code (m : Mk) (t : T4) (xs : List T4) (h : m.c = 0 → xs = m.l) : (if m.c = 0 then (put xs t).c else m.c) = (mkPut m t).c ∧ ((mkPut m t).c = 0 → putL xs t = (mkPut m t).l) ∧ ((mkPut m t).c = 0 → (put xs t).k = mkAt m t) := by
  by_cases hc : m.c = 0
  · obtain rfl := h hc
    rw [if_pos hc, mkPut_c hc]
    refine ⟨rfl, fun h2 => ?_, fun _ => (mkAt_good hc t).symm⟩
    rw [mkPut_l hc h2]
    unfold putL
    rw [if_pos h2]
  · rw [if_neg hc, mkPut_bad hc]
    exact ⟨rfl, fun h2 => absurd h2 hc, fun h2 => absurd h2 hc⟩

theorem putL_len {xs : List T4} {t : T4} (h : xs.length ≤ 400) : (putL xs t).length ≤ 400 := by
  unfold putL
  split
  · exact put_len h
  · exact h

set_option maxHeartbeats 2000000 in
theorem prf_ok (b0 Q : Nat) (Of : Nat → Prop) (m : Mk) (a b a' b' : Int) (w : World) (h : MP w b0 Of Q m) (ha : 0 ≤ a' ∧ a' ≤ 400) (hb : 0 ≤ b' ∧ b' ≤ 400) (ea : m.c = 0 → a' = a) (eb : m.c = 0 → b' = b) :
    Calls Try.prog 72 #[.pointer (some ⟨Q, 0, none⟩), .int .i64 a', .int .i64 b'] w fun e w' => ∃ v, e = .returned (.int .i64 v) ∧ (0 ≤ v ∧ v ≤ 400) ∧ ((mk2 m 4 a b).1.c = 0 → v = (mk2 m 4 a b).2) ∧ MP w' b0 Of Q (mk2 m 4 a b).1 ∧ Sm (fun k => ¬ Of k) w w' := by
  have q := build_oab 4 a' b'
  obtain ⟨base, p, g, c, d, xs, VQ, H, hl, hx, hbb, hbQ, hn, ho⟩ := h
  have HQ := VQ.1
  have ht : okT ⟨4, a', b', 0⟩ := ⟨(okI_of (x := 4) (by decide) (by decide)), okI_of (by simp only; omega) (by simp only; omega), okI_of (by simp only; omega) (by simp only; omega), (okI_of (x := 0) (by decide) (by decide))⟩
  have CP := Hid.mk (fun w H => put_ok base p g c d xs ⟨4, a', b', 0⟩ w H ht hl)
  have CK := Hid.mk (fun w V => keep_ok Q p (put xs ⟨4, a', b', 0⟩).c (put xs ⟨4, a', b', 0⟩).k m.c w V)
  have E0 : Hid ((if m.c = 0 then (put xs ⟨4, a', b', 0⟩).c else m.c) = (mk2 m 4 a b).1.c ∧ ((mk2 m 4 a b).1.c = 0 → putL xs ⟨4, a', b', 0⟩ = (mk2 m 4 a b).1.l) ∧ ((mk2 m 4 a b).1.c = 0 → (put xs ⟨4, a', b', 0⟩).k = (mk2 m 4 a b).2)) := Hid.mk (by
    by_cases hc : m.c = 0
    · rw [ea hc, eb hc]; exact mk_code m ⟨4, a, b, 0⟩ xs hx
    · have e1 : (mk2 m 4 a b).1 = m := mkPut_bad hc _
      rw [e1, if_neg hc]
      exact ⟨rfl, fun h2 => absurd h2 hc, fun h2 => absurd h2 hc⟩)
  have hk := Hid.mk (put_k (t := ⟨4, a', b', 0⟩) hl)
  have hy := Hid.mk (putL_len (t := ⟨4, a', b', 0⟩) hl)
  have ST := Hid.mk (fun w1 w2 c1 d1 H1 S1 hs V2 S2 hl2 => mp_step (w := w) (w1 := w1) (w2 := w2) (c1 := c1) (d1 := d1) (Of := Of) (ys := putL xs ⟨4, a', b', 0⟩) (m' := (mk2 m 4 a b).1) hbb hbQ HQ hn ho H1 hy.out S1 hs V2 S2 hl2)
  replace hn := Hid.mk hn
  clear hx ea eb ht ho
  generalize putL xs ⟨4, a', b', 0⟩ = zl at *
  generalize put xs ⟨4, a', b', 0⟩ = P at *
  generalize mk2 m 4 a b = M at *
  obtain ⟨kc, kk, kl⟩ := P
  obtain ⟨mm, mv⟩ := M
  obtain ⟨mc, ml⟩ := m
  simp only at *
  have HB := Hid.mk H
  have VH := Hid.mk VQ
  clear H
  go_enter Try.func72, Try.ntmps72
  obtain ⟨s_VQ, f_VQ, z_VQ⟩ := VQ.open
  go_wp2_with fail
  refine (CP.out _ HB.out).mono ?_
  rintro e w1 ⟨c1, d1, rfl, H1, S1, hs⟩
  clear s_VQ f_VQ z_VQ VQ
  have V1 := VH.out.sm S1 hn.out
  replace H1 := Hid.mk H1
  replace S1 := Hid.mk S1
  go_wp2_with fail
  refine (CK.out _ V1).mono ?_
  rintro e w2 ⟨rfl, V2, S2⟩
  obtain ⟨e0, e1, e2⟩ := E0.out
  rw [e0] at V2
  have R := Hid.mk (ST.out w1 w2 c1 d1 H1.out S1.out hs V2 S2 e1)
  clear V1 V2 S2 hs
  go_wp2
  go_ret
  exact ⟨_, rfl, hk.out, e2, R.out.1, R.out.2⟩

set_option maxHeartbeats 2000000 in
theorem list_ok (b0 Q : Nat) (Of : Nat → Prop) (m : Mk) (cc : Option Addr) (n dd : Nat) (zs zs' : List Int) (w : World) (h : MP w b0 Of Q m) (hR : Rd .i64 w cc zs') (hn : zs'.length = n) (hnx : n ≤ maxLen) (hz : ∀ z ∈ zs', 0 ≤ z ∧ z ≤ 400) (ez : m.c = 0 → zs' = zs) (hcc : ∀ b : Addr, cc = some b → Of b.block) :
    Calls Try.prog 68 #[.pointer (some ⟨Q, 0, none⟩), .slice cc n dd] w fun e w' => ∃ v, e = .returned (.int .i64 v) ∧ (0 ≤ v ∧ v ≤ 400) ∧ ((mkE m zs).1.c = 0 → v = (mkE m zs).2) ∧ MP w' b0 Of Q (mkE m zs).1 ∧ Sm (fun k => ¬ Of k) w w' := by
  obtain ⟨base, p, g, c, d, xs, VQ, H, hl, hx, hbb, hbQ, hnb, ho⟩ := h
  have HQ := VQ.1
  have CP := Hid.mk (fun w H hR hlb => putListF_ok base p g c d xs cc n dd zs' w H hl hR hn hnx hz hlb)
  have CK := Hid.mk (fun w V => keep_ok Q p (plP xs zs').c (plP xs zs').k m.c w V)
  have E0 : Hid ((if m.c = 0 then (plP xs zs').c else m.c) = (mkE m zs).1.c ∧ ((mkE m zs).1.c = 0 → m.c = 0 ∧ (plP xs zs').c = 0 ∧ (plP xs zs').l = (mkE m zs).1.l) ∧ ((mkE m zs).1.c = 0 → (plP xs zs').k = (mkE m zs).2)) := Hid.mk (by
    by_cases hc : m.c = 0
    · obtain rfl := hx hc
      obtain rfl := ez hc
      obtain ⟨x1, x2, x3⟩ := mkE_plP hc zs'
      rw [if_pos hc]
      exact ⟨x1.symm, fun h2 => ⟨hc, by rw [← x1]; exact h2, (x3 (by rw [← x1]; exact h2)).symm⟩, fun _ => x2.symm⟩
    · have e1 : (mkE m zs).1 = m := mkE_bad hc _
      rw [e1, if_neg hc]
      exact ⟨rfl, fun h2 => absurd h2 hc, fun h2 => absurd h2 hc⟩)
  have hk := Hid.mk (plP_k hl zs' hz)
  have ST := Hid.mk (fun w1 w2 c1 d1 ys H1 hy S1 hs V2 S2 hl2 => mp_step (w := w) (w1 := w1) (w2 := w2) (c1 := c1) (d1 := d1) (Of := Of) (ys := ys) (m' := (mkE m zs).1) hbb hbQ HQ hnb ho H1 hy S1 hs V2 S2 hl2)
  have HLB := Hid.mk (fun b hb => (show b.block < w.heap.size ∧ ¬ BkX p g c b.block from ⟨(ho _ (hcc b hb)).1, (ho _ (hcc b hb)).2.2⟩))
  have HR := Hid.mk hR
  replace hnb := Hid.mk hnb
  clear hx ez ho hz hcc hR hn
  generalize plP xs zs' = P at *
  generalize mkE m zs = M at *
  obtain ⟨kc, kk, kl⟩ := P
  obtain ⟨mm, mv⟩ := M
  obtain ⟨mc, ml⟩ := m
  simp only at *
  have HB := Hid.mk H
  have VH := Hid.mk VQ
  clear H
  go_enter Try.func68, Try.ntmps68
  obtain ⟨s_VQ, f_VQ, z_VQ⟩ := VQ.open
  go_wp2_with fail
  refine (CP.out _ HB.out HR.out HLB.out).mono ?_
  rintro e w1 ⟨c1, d1, ys, rfl, hys, hy, _, H1, S1, hs⟩
  clear s_VQ f_VQ z_VQ VQ
  have V1 := VH.out.sm S1 hnb.out
  replace H1 := Hid.mk H1
  replace S1 := Hid.mk S1
  replace hys := Hid.mk hys
  go_wp2_with fail
  refine (CK.out _ V1).mono ?_
  rintro e w2 ⟨rfl, V2, S2⟩
  obtain ⟨e0, e1, e2⟩ := E0.out
  rw [e0] at V2
  have R := Hid.mk (ST.out w1 w2 c1 d1 ys H1.out hy S1.out hs V2 S2 (fun h2 => by rw [hys.out (e1 h2).2.1]; exact (e1 h2).2.2))
  clear V1 V2 S2 hs hy
  go_wp2
  go_ret
  exact ⟨_, rfl, hk.out, e2, R.out.1, R.out.2⟩

theorem MP.sm {X : Nat → Prop} {w w' : World} {b0 Q : Nat} {Of : Nat → Prop} {m : Mk} (h : MP w b0 Of Q m) (s : Sm X w w') (hx : ∀ k, X k → Of k) : MP w' b0 Of Q m := by
  obtain ⟨base, p, g, c, d, xs, a1, a2, a3, a4, a5, a6, a7, a8⟩ := h
  exact ⟨base, p, g, c, d, xs, a1.sm s (fun e => (a8 _ (hx _ e)).2.1 rfl), a2.sm s (fun k e => (a8 _ (hx _ e)).2.2), a3, a4, a5, a6, a7, fun k hk => ⟨Nat.lt_of_lt_of_le (a8 k hk).1 s.size, (a8 k hk).2⟩⟩

/-- Names all. -/
def nmsOk (ns : List Int) : Bool := ns.all fun z => btw z 0 9999

theorem nmsOk_step (zs : List Int) (k : Nat) (h : k < zs.length) {z : Int} (hz : zs.getD k 0 = z) : nmsOk (zs.drop k) = (btw z 0 9999 && nmsOk (zs.drop (k + 1))) := by
  unfold nmsOk
  rw [List.drop_eq_getElem_cons h, List.all_cons]
  have e : zs[k] = z := by rw [← hz]; simp [List.getD, h]
  rw [e]

set_option maxHeartbeats 1000000 in
theorem areNames_ok (c : Option Addr) (n d : Nat) (zs : List Int) (w : World) (hR : Rd .i64 w c zs) (hn : zs.length = n) (hx : n ≤ maxLen) :
    Calls Try.prog 106 #[.slice c n d] w fun e w' => e = .returned (.bool (nmsOk zs)) ∧ w' = w := by
  unfold maxLen at hx
  go_enter Try.func106, Try.ntmps106
  go_wp2
  go_loopw [7] (fun i wr => ∃ k : Nat, k ≤ n ∧ i = .int .i64 k ∧ nmsOk (zs.drop k) = nmsOk zs ∧ wr = w) (fun i _ => n - (intOf i).toNat)
  case atStart => exact ⟨0, Nat.zero_le _, rfl, rfl, rfl⟩
  case round =>
    obtain ⟨k, hk, rfl, hdr, rfl⟩ := hrel
    by_cases hlt : k < n
    · obtain ⟨z, hz⟩ : ∃ z, zs.getD k 0 = z := ⟨_, rfl⟩
      have hk1 : (k : Int) < (n : Int) := by omega
      have hs := nmsOk_step zs k (by omega) hz
      rw [hdr] at hs
      rcases hR with hR | ⟨b1, o1, rfl, hca⟩
      · simp [hR] at hn; omega
      have p0 := hca k (by omega)
      rw [hz] at p0
      clear hca hz hdr
      have CI := Hid.mk (isBetween_ok z 0 9999)
      cases hg : btw z 0 9999
      · rw [hg] at hs CI
        have HS := Hid.mk hs
        clear hs hg
        go_wp2_with fail
        refine (CI.out _).mono ?_
        rintro e wr ⟨rfl, rfl⟩
        go_wp2
        go_ret
        exact ⟨ret_bool HS.out.symm, rfl⟩
      · rw [hg, Bool.true_and] at hs
        rw [hg] at CI
        have HS := Hid.mk hs
        clear hs hg
        go_wp2_with fail
        refine (CI.out _).mono ?_
        rintro e wr ⟨rfl, rfl⟩
        go_wp2
        go_roundw
        case rel => exact ⟨k + 1, by omega, by go_num, HS.out.symm, by trivial⟩
        case measure => simp [intOf]; omega
    · have hkn : k = n := by omega
      subst hkn
      rw [List.drop_of_length_le (by omega)] at hdr
      have HS := Hid.mk hdr
      clear hdr
      go_wp2
      go_ret
      refine ⟨ret_bool (HS.out.symm.trans (by unfold nmsOk; rfl)).symm, rfl⟩

end Go.Proofs.Ythkmoabkeblbjaa

/- The program's maker of terms: names. -/
namespace Go.Proofs.Ythkmoabkeblbjaa
open Go.RowKit

theorem tb9_cell {w : World} {Q L : Nat} {pl : Int → Int} (h : Own .i64 2 w Q (some ⟨Q, 0, none⟩) L (tab L pl)) {i : Nat} (hi : i < L) : w.cell? ⟨Q, i, none⟩ = some (.int .i64 (pl i)) := by
  rcases h.rd with h1 | ⟨b3, o3, e3, h1⟩
  · have := tab_len L pl; rw [h1] at this; simp at this; omega
  · simp only [Option.some.injEq, Addr.mk.injEq, and_true] at e3
    obtain ⟨rfl, rfl⟩ := e3
    have h2 := h1 i (by rw [tab_len]; exact hi)
    rw [Nat.zero_add, tab_at pl hi] at h2
    exact h2

theorem tb9_frozen {w : World} {Q L : Nat} {pl : Int → Int} (h : Own .i64 2 w Q (some ⟨Q, 0, none⟩) L (tab L pl)) (i : Nat) : w.frozen? ⟨Q, i, none⟩ = false := (h.row (tab_len L pl)).frozenAt i

theorem tb9_store {w : World} {Q L : Nat} {pl : Int → Int} (h : Own .i64 2 w Q (some ⟨Q, 0, none⟩) L (tab L pl)) (i : Nat) (v : Int) : Own .i64 2 (w.setCell ⟨Q, i, none⟩ (.int .i64 v)) Q (some ⟨Q, 0, none⟩) L (tab L (updP pl i v)) := by
  have hs := (h.row (tab_len L pl)).stored i (.int .i64 v)
  rw [set_map, tab_set] at hs
  exact Own.mk hs.1 (tab_len _ _)

theorem tab_eq {n : Nat} {pl : Int → Int} {zs : List Int} (hl : zs.length = n) (h : ∀ j : Nat, j < n → pl j = zs.getD j 0) : tab n pl = zs := by
  apply List.ext_getElem
  · rw [tab_len, hl]
  · intro i h1 h2
    rw [tab_len] at h1
    have e1 := tab_at pl h1
    have e2 := h i h1
    rw [e2] at e1
    simpa [List.getD, h2, tab_len, h1] using e1

theorem tab_range {n : Nat} {pl : Int → Int} (h : PlOk pl) : ∀ z ∈ tab n pl, 0 ≤ z ∧ z ≤ 400 := by
  intro z hz
  unfold tab at hz
  rw [List.mem_map] at hz
  obtain ⟨i, _, rfl⟩ := hz
  exact h _

theorem mkNs_up (m : Mk) (ns : List Int) (k : Nat) (h : k < ns.length) {z : Int} (hz : ns.getD k 0 = z) {pl : Int → Int} {v : Int} (hp : (mkNs m (ns.take k)).1.c = 0 → ∀ j : Nat, j < k → pl j = (mkNs m (ns.take k)).2.getD j 0) (hv : (mkNs m (ns.take (k + 1))).1.c = 0 → v = mkAt (mkNs m (ns.take k)).1 ⟨1, 0, 0, z⟩) :
    (mkNs m (ns.take (k + 1))).1.c = 0 → ∀ j : Nat, j < k + 1 → updP pl k v j = (mkNs m (ns.take (k + 1))).2.getD j 0 := by
  intro hc j hj
  have hs := mkNs_take m ns k h hz
  have hv := hv hc
  rw [hs] at hc ⊢
  have h0 := mkPut_mono hc
  have hlen : (mkNs m (ns.take k)).2.length = k := by rw [mkNs_count, List.length_take]; omega
  unfold updP
  by_cases e : j = k
  · subst e
    rw [if_pos rfl, hv]
    simp [List.getD, hlen]
  · rw [if_neg (by omega), hp h0 j (by omega)]
    simp only [List.getD]
    rw [List.getElem?_append_left (by omega)]

set_option maxRecDepth 20000 in
set_option maxHeartbeats 4000000 in
theorem names_ok (b0 Q : Nat) (Of : Nat → Prop) (m : Mk) (cc : Option Addr) (n dd : Nat) (ns : List Int) (w : World) (h : MP w b0 Of Q m) (hR : Rd .i64 w cc ns) (hn : ns.length = n) (hnx : n ≤ 1048576) (hok : ∀ z ∈ ns, okI z) (hcc : ∀ b : Addr, cc = some b → Of b.block) :
    Calls Try.prog 73 #[.pointer (some ⟨Q, 0, none⟩), .slice cc n dd] w fun e w' => ∃ v, e = .returned (.int .i64 v) ∧ (0 ≤ v ∧ v ≤ 400) ∧ ((mkV m ns).1.c = 0 → v = (mkV m ns).2) ∧ MP w' b0 Of Q (mkV m ns).1 ∧ Sm (fun k => ¬ Of k) w w' := by
  have q := fun n => build_nm n
  have HN := Hid.mk hn
  have HQ := h.lt
  have HOF := Hid.mk (fun k (hk : Of k) => h.of hk)
  have HOK := Hid.mk hok
  have HCC := Hid.mk hcc
  obtain ⟨i0, hi, hz0, hz1, hz2⟩ := info_parts Try.infoI64
  have hnL := Hid.mk (show n ≤ maxLen by unfold maxLen; omega)
  have CL := Hid.mk (fun Of m zs zs' ww h hR hn hz ez hcc => list_ok b0 Q Of m (some ⟨w.heap.size, 0, none⟩) n n zs zs' ww h hR hn hnL.out hz ez hcc)
  clear hok hcc
  go_enter Try.func73, Try.ntmps73
  go_wp2_with (at_make; go_loud (refine wpList_make_full _ rfl _ _ 37 rfl w.heap.size 2 i0 (.int .i64 0) 1 Try.underlying37 hi hz0 hz1 .i64 .i64 _ _ n rfl rfl (by omega) (by omega) (by rw [hz2]; omega) (by unfold maxLen; omega) (Nat.le_refl _) ?_))
  intro w2 hown hgrow
  have O0 : Own .i64 2 w2 w.heap.size (some ⟨w.heap.size, 0, none⟩) n (tab n (fun _ => 0)) := by
    refine Own.mk ?_ (tab_len _ _)
    rw [tab_zero]
    simpa [toList_madeCells_one] using hown
  have bg : Below w.heap.size w w2 := (Sm.grown (X := fun _ => False) hgrow (fun k e => by cases e)).below' (Below.refl _ _) (Nat.le_refl _) (fun k e => e.elim)
  have hS2 : w.heap.size < w2.heap.size := by have := O0.lt _ rfl; simp only at this; omega
  have M0 := h.more bg (Nat.le_refl _) hS2
  have R0 := hR.kept bg
  have S0 := Sm.below (X := fun k => ¬ Of k) bg
  clear hown hgrow bg hi hz0 hz1 hz2 h hR
  replace M0 := Hid.mk M0
  replace R0 := Hid.mk R0
  replace S0 := Hid.mk S0
  replace O0 := Hid.mk O0
  generalize hW : w.heap.size = W at *
  go_wp2
  go_loopw [13] (fun i wr => ∃ (k : Nat) (pl : Int → Int), k ≤ n ∧ i = .int .i64 k ∧ Hid (PlOk pl ∧ ((mkNs m (ns.take k)).1.c = 0 → ∀ j : Nat, j < k → pl j = (mkNs m (ns.take k)).2.getD j 0)) ∧ MP wr b0 (fun k => Of k ∨ k = W) Q (mkNs m (ns.take k)).1 ∧ Own .i64 2 wr W (some ⟨W, 0, none⟩) n (tab n pl) ∧ Rd .i64 wr cc ns ∧ Sm (fun k => ¬ Of k) w wr) (fun i _ => n - (intOf i).toNat)
  case atStart => exact ⟨0, fun _ => 0, Nat.zero_le _, rfl, Hid.mk ⟨PlOk.zero, fun _ j hj => absurd hj (by omega)⟩, M0.out, O0.out, R0.out, S0.out⟩
  case round =>
    clear M0 O0 R0 S0
    obtain ⟨k, pl, hk, rfl, hP, M, O, R, S⟩ := hrel
    by_cases hlt : k < n
    · obtain ⟨z, hz⟩ : ∃ z, ns.getD k 0 = z := ⟨_, rfl⟩
      have hk1 : (k : Int) < (n : Int) := by omega
      have hkn : k < ns.length := by rw [HN.out]; exact hlt
      have hzk : okI z := HOK.out z (by rw [← hz]; exact igetD_mem hkn)
      have hs := mkNs_take m ns k hkn hz
      have HUP := Hid.mk (fun v hv => mkNs_up m ns k hkn hz (pl := pl) (v := v) hP.out.2 hv)
      have HP1 := Hid.mk hP.out.1
      have e1 : (mkNs m (ns.take (k + 1))).1 = mkPut (mkNs m (ns.take k)).1 ⟨1, 0, 0, z⟩ := by rw [hs]
      rw [e1] at HUP
      replace e1 := Hid.mk e1
      clear hs hP
      generalize (mkNs m (ns.take k)).1 = mm at *
      obtain ⟨base, p, g, c, d, xs, VQ, H, hl, hx, hbb, hbQ, hnb, ho⟩ := M
      have HQr := VQ.1
      have ht : okT ⟨1, 0, 0, z⟩ := ⟨(okI_of (x := 1) (by decide) (by decide)), (okI_of (x := 0) (by decide) (by decide)), (okI_of (x := 0) (by decide) (by decide)), hzk⟩
      have CP := Hid.mk (fun w H => put_ok base p g c d xs ⟨1, 0, 0, z⟩ w H ht hl)
      have CK := Hid.mk (fun w V => keep_ok Q p (put xs ⟨1, 0, 0, z⟩).c (put xs ⟨1, 0, 0, z⟩).k mm.c w V)
      have E0 := Hid.mk (mk_code mm ⟨1, 0, 0, z⟩ xs hx)
      have hpk := put_k (t := ⟨1, 0, 0, z⟩) hl
      have hy := Hid.mk (putL_len (t := ⟨1, 0, 0, z⟩) hl)
      have ST := Hid.mk (fun w1 w2 c1 d1 H1 S1 hs V2 S2 hl2 => mp_step (w := wr) (w1 := w1) (w2 := w2) (c1 := c1) (d1 := d1) (Of := fun k => Of k ∨ k = W) (ys := putL xs ⟨1, 0, 0, z⟩) (m' := mkPut mm ⟨1, 0, 0, z⟩) hbb hbQ HQr hnb ho H1 hy.out S1 hs V2 S2 hl2)
      replace hnb := Hid.mk hnb
      have hoW := ho W (.inr rfl)
      have hoC := Hid.mk (fun b (hb : cc = some b) => (ho b.block (.inl (HCC.out b hb))).2.2)
      replace hoW := Hid.mk hoW
      clear hx ht ho hzk
      generalize putL xs ⟨1, 0, 0, z⟩ = zl at *
      generalize put xs ⟨1, 0, 0, z⟩ = P at *
      generalize hmp : mkPut mm ⟨1, 0, 0, z⟩ = mp at *
      obtain ⟨kc, kk, kl⟩ := P
      obtain ⟨mc, ml⟩ := mm
      simp only at *
      have HB := Hid.mk H
      have VH := Hid.mk VQ
      have HR2 := Hid.mk R
      have HO := Hid.mk O
      have HS := Hid.mk S
      rcases R with h9 | ⟨b2, o2, rfl, hcp⟩
      · rw [h9] at hkn; simp at hkn
      have pz := hcp k hkn
      rw [hz] at pz
      clear H hcp hz hmp O S
      obtain ⟨s_VQ, f_VQ, z_VQ⟩ := VQ.open
      go_wp2_with fail
      refine (CP.out _ HB.out).mono ?_
      rintro e w5 ⟨c1, d1, rfl, H1, S1, hs⟩
      clear s_VQ f_VQ z_VQ VQ pz
      have V1 := VH.out.sm S1 hnb.out
      replace H1 := Hid.mk H1
      replace S1 := Hid.mk S1
      go_wp2_with fail
      refine (CK.out _ V1).mono ?_
      rintro e w6 ⟨rfl, V2, S2⟩
      obtain ⟨x0, x1, x2⟩ := E0.out
      rw [x0] at V2
      have RR := ST.out w5 w6 c1 d1 H1.out S1.out hs V2 S2 x1
      obtain ⟨M6, S6⟩ := RR
      have O6 := HO.out.sm S6 (fun b hb e => by simp only [Option.some.injEq] at hb; subst hb; exact e (.inr rfl))
      have R6 := HR2.out.sm S6 (fun b hb e => e (.inl (HCC.out b hb)))
      have S7 := HS.out.trans (S6.wide (fun j hj hj2 => hj (.inl hj2)))
      clear V1 V2 S2 hs S6 HS HO HR2
      have hQc := tb9_cell O6 hlt
      have hQf := tb9_frozen O6 k
      have O8 := Hid.mk (tb9_store O6 k kk)
      have SQ : Sm (fun q => q = W) w6 (w6.setCell ⟨W, k, none⟩ (.int .i64 kk)) := Sm.cell (X := fun q => q = W) rfl _
      have M8 := Hid.mk (M6.sm SQ (fun j e => .inr e))
      have R8 := Hid.mk (R6.sm SQ (fun b hb e => by have h1 := HOF.out _ (HCC.out b hb); rw [e] at h1; omega))
      have S8 := Hid.mk (S7.newCell (p := ⟨W, k, none⟩) (by simp only; omega) (.int .i64 kk))
      clear M6 O6 R6 S7 SQ
      go_wp2
      go_roundw
      case rel => exact ⟨k + 1, updP pl k kk, by omega, by go_num, Hid.mk ⟨HP1.out.upd hpk, by rw [e1.out]; exact HUP.out kk x2⟩, by rw [e1.out]; exact M8.out, O8.out, R8.out, S8.out⟩
      case measure => simp [intOf]; omega
    · have hkn : k = n := by omega
      subst hkn
      have et : ns.take k = ns := List.take_of_length_le (by rw [HN.out]; omega)
      rw [et] at M hP
      have hcn := mkNs_count m ns
      have EQ := Hid.mk (fun h0 => tab_eq (n := k) (pl := pl) (zs := (mkNs m ns).2) (by rw [hcn, HN.out]) (fun j hj => hP.out.2 h0 j hj))
      have HZ := Hid.mk (tab_range (n := k) hP.out.1)
      have MH := Hid.mk M
      have RH := Hid.mk O.rd
      have SH := Hid.mk S
      have HL := Hid.mk (tab_len k pl)
      clear hP M O S R et hcn
      go_wp2_with fail
      refine (CL.out _ _ (mkNs m ns).2 (tab k pl) _ MH.out RH.out HL.out HZ.out EQ.out (fun b hb => by simp only [Option.some.injEq] at hb; subst hb; exact .inr rfl)).mono ?_
      rintro e w9 ⟨v, rfl, hv, hve, M9, S9⟩
      have M10 := Hid.mk (M9.less (Of' := Of) (fun j hj => .inl hj))
      have S10 := Hid.mk (SH.out.trans (S9.wide (fun j hj hj2 => hj (.inl hj2))))
      replace hve := Hid.mk hve
      clear M9 S9
      go_wp2
      go_ret
      exact ⟨v, rfl, hv, hve.out, M10.out, S10.out⟩

end Go.Proofs.Ythkmoabkeblbjaa

/- The program's maker of terms: made, told. -/
namespace Go.Proofs.Ythkmoabkeblbjaa
open Go.RowKit

theorem build_mk (p : Nat) (w : World) : (Instr.build 92 #[(0, .pointer (some ⟨p, 0, none⟩))]).run Try.prog w = .ok (.agg #[.pointer (some ⟨p, 0, none⟩), .int .i64 0]) w := run_build w 92 _ _ (by kernel_rfl)

set_option maxRecDepth 20000 in
set_option maxHeartbeats 4000000 in
theorem answer_noV (p g : Nat) (c : Option Addr) (n d : Nat) (k v : Int) (hk : k ≠ 0) (w : World) (VP : V w p [.slice c n d, .map (some g)]) :
    Calls Try.prog 79 #[.pointer (some ⟨p, 0, none⟩), .agg #[.int .i64 k, .int .i64 v]] w fun e w' => e = .returned (.agg #[.int .i64 k, .int .i64 0, .slice none 0 0]) ∧ Below w.heap.size w w' := by
  have q1 := build_tr0'
  have h1 : (k != 0) = true := by simp [hk]
  clear hk
  go_enter Try.func79, Try.ntmps79
  have B := Below.refl w.heap.size w
  replace VP := VP.kept (belowA w (.cells #[.int .i64 k, .int .i64 v] 51))
  replace B := thenB B (belowA w (.cells #[.int .i64 k, .int .i64 v] 51))
  have VX := V.new w [.int .i64 k, .int .i64 v] 51
  replace VP := VP.kept (belowA (w.alloc (.cells #[.int .i64 k, .int .i64 v] 51)) (.cells #[.int .i64 0, .int .i64 0, .slice none 0 0] 33))
  replace VX := VX.kept (belowA (w.alloc (.cells #[.int .i64 k, .int .i64 v] 51)) (.cells #[.int .i64 0, .int .i64 0, .slice none 0 0] 33))
  replace B := thenB B (belowA (w.alloc (.cells #[.int .i64 k, .int .i64 v] 51)) (.cells #[.int .i64 0, .int .i64 0, .slice none 0 0] 33))
  have VR : V ((w.alloc (.cells #[.int .i64 k, .int .i64 v] 51)).alloc (.cells #[.int .i64 0, .int .i64 0, .slice none 0 0] 33)) (w.heap.size + 1) [.int .i64 0, .int .i64 0, .slice none 0 0] := V.newAt _ _ _ _ (by simp)
  obtain ⟨s_VP, f_VP, z_VP⟩ := VP.open
  obtain ⟨s_VX, f_VX, z_VX⟩ := VX.open
  obtain ⟨s_VR, f_VR, z_VR⟩ := VR.open
  have Bo := B
  clear s_VP f_VP z_VP s_VX f_VX z_VX s_VR f_VR z_VR
  have VF := Hid.mk (VR.filled [.int .i64 k, .int .i64 0, .slice none 0 0] rfl)
  have HT := Hid.mk VR.there
  have BR := belowCells B (show w.heap.size ≤ w.heap.size + 1 by (first | omega | (simp; done) | (simp; omega))) 0 [.int .i64 k, .int .i64 0, .slice none 0 0]
  replace BR := Hid.mk BR
  obtain ⟨s_VP, f_VP, z_VP⟩ := VP.open
  obtain ⟨s_VX, f_VX, z_VX⟩ := VX.open
  obtain ⟨s_VR, f_VR, z_VR⟩ := VR.open
  go_wp2_with (refine wpList_store_mid rfl 33 _ _ rfl (w.heap.size + 1) 0 #[.int .i64 k, .int .i64 0, .slice none 0 0] rfl rfl HT.out (by kernel_rfl) (by kernel_rfl) ?_)
  refine bodyPost_ret (v := .agg #[.int .i64 k, .int .i64 0, .slice none 0 0]) (results_row Try.results79 _ _ (w.heap.size + 1) [.int .i64 k, .int .i64 0, .slice none 0 0] _ rfl VF.out Try.underlying33 rfl (by kernel_rfl)) rfl ⟨rfl, BR.out⟩

theorem build_ir01 (k v : Int) (w : World) : (Instr.build 51 #[(0, .int .i64 k), (1, .int .i64 v)]).run Try.prog w = .ok (.agg #[.int .i64 k, .int .i64 v]) w := run_build w 51 _ _ (by kernel_rfl)

set_option maxRecDepth 20000 in
set_option maxHeartbeats 4000000 in
theorem told_ok (b0 Q : Nat) (Of : Nat → Prop) (m : Mk) (v v' : Int) (w : World) (h : MP w b0 Of Q m) (ev : m.c = 0 → v' = v) :
    Calls Try.prog 89 #[.pointer (some ⟨Q, 0, none⟩), .int .i64 v'] w fun e w' => ∃ c d, e = .returned (.agg #[.int .i64 m.c, .int .i64 (okV m v), .slice c (okL m).length d]) ∧ OwnTerm w' b0 c d (okL m) ∧ Below w.heap.size w w' := by
  have q := build_ir01
  obtain ⟨base, p, g, c, d, xs, VQ, H, hl, hx, hbb, hbQ, hnb, ho⟩ := h
  unfold okV okL
  have hQ := VQ.1
  have hOL := Hid.mk (fun b hb => (H.o.lt b hb).2)
  replace hbb := Hid.mk hbb
  have hpw := H.v.1
  have VP := H.v
  have O := H.o
  clear H ho hnb hbQ
  obtain ⟨ml, mc⟩ := m
  simp only at *
  by_cases hc : mc = 0
  · subst hc
    obtain rfl := hx rfl
    obtain rfl := ev rfl
    simp only [if_true]
    obtain ⟨n, hn⟩ : ∃ n, xs.length = n := ⟨_, rfl⟩
    rw [hn] at VP ⊢
    have CA := Hid.mk (fun w h => answer_yes p g c n d v' w h)
    clear hx ev hn hl
    go_enter Try.func89, Try.ntmps89
    have B := Below.refl w.heap.size w
    replace VQ := VQ.kept (belowA w (.cells #[.int .i64 0, .int .i64 0, .slice none 0 0] 33))
    replace VP := VP.kept (belowA w (.cells #[.int .i64 0, .int .i64 0, .slice none 0 0] 33))
    replace O := O.kept (belowA w (.cells #[.int .i64 0, .int .i64 0, .slice none 0 0] 33))
    replace B := thenB B (belowA w (.cells #[.int .i64 0, .int .i64 0, .slice none 0 0] 33))
    have VR := V.new w [.int .i64 0, .int .i64 0, .slice none 0 0] 33
    obtain ⟨s_VQ, f_VQ, z_VQ⟩ := VQ.open
    obtain ⟨s_VP, f_VP, z_VP⟩ := VP.open
    obtain ⟨s_VR, f_VR, z_VR⟩ := VR.open
    have Bo := B
    clear s_VQ f_VQ z_VQ s_VP f_VP z_VP s_VR f_VR z_VR
    have K : ∀ w' : World, Below (w.alloc (.cells #[.int .i64 0, .int .i64 0, .slice none 0 0] 33)).heap.size (w.alloc (.cells #[.int .i64 0, .int .i64 0, .slice none 0 0] 33)) w' → (w'.cell? ⟨Q, 0, none⟩ = some (.pointer (some ⟨p, 0, none⟩)) ∧ w'.cell? ⟨Q, 1, none⟩ = some (.int .i64 0)) := fun w' h => ⟨(VQ.kept h).2.1 0 (by simp), (VQ.kept h).2.1 1 (by simp)⟩
    have K := Hid.mk K
    obtain ⟨s_VQ, f_VQ, z_VQ⟩ := VQ.open
    obtain ⟨s_VP, f_VP, z_VP⟩ := VP.open
    obtain ⟨s_VR, f_VR, z_VR⟩ := VR.open
    go_wp2_with fail
    clear s_VQ f_VQ z_VQ s_VP f_VP z_VP s_VR f_VR z_VR
    refine wp_region_held_drew (S := (fun w' => w'.cell? ⟨Q, 0, none⟩ = some (.pointer (some ⟨p, 0, none⟩)) ∧ w'.cell? ⟨Q, 1, none⟩ = some (.int .i64 0))) (by kernel_rfl) (K.out _ (Below.refl _ _).drew) (fun hHeld => ?_)
    refine wpAnyH_take (i := 0) (oi := _) (v := ?vg1u1) rfl (by kernel_rfl) (by kernel_rfl) (by kernel_rfl) (fun _ _ _ h => h) (Or.inl ⟨by kernel_rfl, ?hyg1u1⟩) hHeld ?restg1u1
    case hyg1u1 => (intro w hSw; (try dsimp only at hSw); go_simp; first | done | with_reducible rfl)
    try simp only [Act.put, List.getElem_toArray, List.getElem_cons_zero, List.setIfInBounds_toArray, List.set_cons_zero, List.set_cons_succ]
    refine wpAnyH_take (i := 1) (oi := _) (v := ?vg1u2) rfl (by kernel_rfl) (by kernel_rfl) (by kernel_rfl) (fun _ _ _ h => h) (Or.inl ⟨by kernel_rfl, ?hyg1u2⟩) hHeld ?restg1u2
    case hyg1u2 => (intro w hSw; (try dsimp only at hSw); go_simp; first | done | with_reducible rfl)
    try simp only [Act.put, List.getElem_toArray, List.getElem_cons_zero, List.getElem_cons_succ, List.setIfInBounds_toArray, List.set_cons_zero, List.set_cons_succ]
    refine wpAnyH_take (i := 2) (oi := _) (v := ?vg1u3) rfl (by kernel_rfl) (by kernel_rfl) (by kernel_rfl) (fun _ _ _ h => h) (Or.inl ⟨by kernel_rfl, ?hyg1u3⟩) hHeld ?restg1u3
    case hyg1u3 => (intro w hSw; (try dsimp only at hSw); go_simp; first | done | with_reducible rfl)
    try simp only [Act.put, List.getElem_toArray, List.getElem_cons_zero, List.getElem_cons_succ, List.setIfInBounds_toArray, List.set_cons_zero, List.set_cons_succ]
    refine wpAnyH_take (i := 3) (oi := _) (v := ?vg1u4) rfl (by kernel_rfl) (by kernel_rfl) (by kernel_rfl) (fun _ _ _ h => h) (Or.inl ⟨by kernel_rfl, ?hyg1u4⟩) hHeld ?restg1u4
    case hyg1u4 => (intro w hSw; (try dsimp only at hSw); go_simp; first | done | with_reducible rfl)
    try simp only [Act.put, List.getElem_toArray, List.getElem_cons_zero, List.getElem_cons_succ, List.setIfInBounds_toArray, List.set_cons_zero, List.set_cons_succ]
    refine wpAnyH_take (i := 4) (oi := _) (v := ?vg1u5) rfl (by kernel_rfl) (by kernel_rfl) (by kernel_rfl) (fun _ _ _ h => h) (Or.inl ⟨by kernel_rfl, ?hyg1u5⟩) hHeld ?restg1u5
    case hyg1u5 => (intro w hSw; (try dsimp only at hSw); go_simp; first | done | with_reducible rfl)
    try simp only [Act.put, List.getElem_toArray, List.getElem_cons_zero, List.getElem_cons_succ, List.setIfInBounds_toArray, List.set_cons_zero, List.set_cons_succ]
    refine wpAnyH_take (i := 5) (oi := _) (v := ?vg1u6) rfl (by kernel_rfl) (by kernel_rfl) (by kernel_rfl) (fun _ _ _ h => h) (Or.inl ⟨by kernel_rfl, ?hyg1u6⟩) hHeld ?restg1u6
    case hyg1u6 => (intro w hSw; (try dsimp only at hSw); go_simp; first | done | with_reducible rfl)
    try simp only [Act.put, List.getElem_toArray, List.getElem_cons_zero, List.getElem_cons_succ, List.setIfInBounds_toArray, List.set_cons_zero, List.set_cons_succ]
    refine wpAnyH_take (i := 6) (oi := _) (v := ?vg1u7) rfl (by kernel_rfl) (by kernel_rfl) (by kernel_rfl) (fun _ _ _ h => h) (Or.inl ⟨by kernel_rfl, ?hyg1u7⟩) hHeld ?restg1u7
    case hyg1u7 => (intro w hSw; (try dsimp only at hSw); go_simp; first | done | with_reducible rfl)
    try simp only [Act.put, List.getElem_toArray, List.getElem_cons_zero, List.getElem_cons_succ, List.setIfInBounds_toArray, List.set_cons_zero, List.set_cons_succ]
    refine wpAnyH_take (i := 7) (oi := _) (v := ?vg1u8) rfl (by kernel_rfl) (by kernel_rfl) (by kernel_rfl) (fun _ _ _ h => h) (Or.inl ⟨by kernel_rfl, ?hyg1u8⟩) hHeld ?restg1u8
    case hyg1u8 => (intro w hSw; (try dsimp only at hSw); go_simp; first | done | with_reducible rfl)
    try simp only [Act.put, List.getElem_toArray, List.getElem_cons_zero, List.getElem_cons_succ, List.setIfInBounds_toArray, List.set_cons_zero, List.set_cons_succ]
    refine wpAnyH_take (i := 8) (oi := _) (v := ?vg1u9) rfl (by kernel_rfl) (by kernel_rfl) (by kernel_rfl) (fun _ _ _ h => h) (Or.inl ⟨by kernel_rfl, ?hyg1u9⟩) hHeld ?restg1u9
    case hyg1u9 => (intro w hSw; (try dsimp only at hSw); go_simp; first | done | with_reducible rfl)
    try simp only [Act.put, List.getElem_toArray, List.getElem_cons_zero, List.getElem_cons_succ, List.setIfInBounds_toArray, List.set_cons_zero, List.set_cons_succ]
    refine wpAnyH_take (i := 9) (oi := _) (v := ?vg1u10) rfl (by kernel_rfl) (by kernel_rfl) (by kernel_rfl) (fun _ _ _ h => h) (Or.inl ⟨by kernel_rfl, ?hyg1u10⟩) hHeld ?restg1u10
    case hyg1u10 => (intro w hSw; (try dsimp only at hSw); go_simp; first | done | with_reducible rfl)
    try simp only [Act.put, List.getElem_toArray, List.getElem_cons_zero, List.getElem_cons_succ, List.setIfInBounds_toArray, List.set_cons_zero, List.set_cons_succ]
    refine wpAnyH_ready (rs := [10]) (by kernel_rfl) (by simp) ?_
    refine AllReadyH.cons (o := _) rfl (fun K0 hK0 => ?_) AllReadyH.nil
    go_simp
    go_at_call 79
    refine (CA.out _ (VP.kept (Below.refl _ _).drew)).mono ?_
    rintro e wg1v11 ⟨rfl, bg1v11⟩
    refine hK0.out _ _ (K.out _ (thenB (Below.refl _ _).drew bg1v11)) (fun hHeld => ?_)
    clear hK0 K0
    try simp only [Act.put, List.getElem_toArray, List.getElem_cons_zero, List.getElem_cons_succ, List.setIfInBounds_toArray, List.set_cons_zero, List.set_cons_succ]
    have bacc : Below (w.alloc (.cells #[.int .i64 0, .int .i64 0, .slice none 0 0] 33)).heap.size (w.alloc (.cells #[.int .i64 0, .int .i64 0, .slice none 0 0] 33)) _ := (thenB (Below.refl _ _).drew bg1v11)
    replace VQ := VQ.kept bacc
    replace VP := VP.kept bacc
    replace VR := VR.kept bacc
    replace O := O.kept bacc
    replace B := thenB B bacc
    have Sz1 := bacc.size
    simp only [World.size_alloc] at Sz1
    have A_O := (O.mono hbb.out).apart (B := w.heap.size) (by intro b hb; have := hOL.out b hb; first | omega | (simp at this; omega)) 0 [.int .i64 0, .int .i64 v', .slice c n d]
    have HT := Hid.mk VR.there
    have VF := VR.filled [.int .i64 0, .int .i64 v', .slice c n d] rfl
    have KA : (World.setCells wg1v11 (w.heap.size) 0 [.int .i64 0, .int .i64 v', .slice c n d]).cell? ⟨Q, 0, none⟩ = some (.pointer (some ⟨p, 0, none⟩)) ∧ (World.setCells wg1v11 (w.heap.size) 0 [.int .i64 0, .int .i64 v', .slice c n d]).cell? ⟨Q, 1, none⟩ = some (.int .i64 0) := ⟨(VQ.apart (B := w.heap.size) (by first | omega | (simp; omega)) 0 [.int .i64 0, .int .i64 v', .slice c n d]).2.1 0 (by simp), (VQ.apart (B := w.heap.size) (by first | omega | (simp; omega)) 0 [.int .i64 0, .int .i64 v', .slice c n d]).2.1 1 (by simp)⟩
    have BR := belowCells B (show w.heap.size ≤ w.heap.size by (first | omega | (simp; done) | (simp; omega))) 0 [.int .i64 0, .int .i64 v', .slice c n d]
    obtain ⟨w6, hw6⟩ : ∃ w6, World.setCells wg1v11 (w.heap.size) 0 [.int .i64 0, .int .i64 v', .slice c n d] = w6 := ⟨_, rfl⟩
    rw [hw6] at VF BR A_O KA
    replace hw6 := Hid.mk hw6
    replace VF := Hid.mk VF
    replace KA := Hid.mk KA
    replace BR := Hid.mk BR
    replace A_O := Hid.mk A_O
    refine wpAnyH_ready (rs := [11]) (by kernel_rfl) (by simp) ?_
    refine AllReadyH.cons (o := _) rfl (fun K0 hK0 => ?_) AllReadyH.nil
    rw [if_pos (by rfl)]
    refine wp_stroke w6 33 _ _ rfl (w.heap.size) 0 #[.int .i64 0, .int .i64 v', .slice c n d] rfl rfl HT.out (by kernel_rfl) (by kernel_rfl) hw6.out ?_
    refine hK0.out _ _ KA.out (fun hHeld => ?_)
    clear hK0 K0 hHeld KA HT
    refine wpAnyH_done (by kernel_rfl) ?_ _
    go_wp2
    refine bodyPost_ret (v := .agg #[.int .i64 0, .int .i64 v', .slice c n d]) (results_row Try.results89 _ _ (w.heap.size) [.int .i64 0, .int .i64 v', .slice c n d] _ rfl VF.out Try.underlying33 rfl (by kernel_rfl)) rfl ⟨c, d, rfl, A_O.out, BR.out⟩
  · rw [if_neg hc, if_neg hc]
    obtain ⟨n, hn⟩ : ∃ n, xs.length = n := ⟨_, rfl⟩
    rw [hn] at VP
    have CA := Hid.mk (fun w h => answer_noV p g c n d mc v' hc w h)
    clear hx ev hn hl hc O hOL
    go_enter Try.func89, Try.ntmps89
    have B := Below.refl w.heap.size w
    replace VQ := VQ.kept (belowA w (.cells #[.int .i64 0, .int .i64 0, .slice none 0 0] 33))
    replace VP := VP.kept (belowA w (.cells #[.int .i64 0, .int .i64 0, .slice none 0 0] 33))
    replace B := thenB B (belowA w (.cells #[.int .i64 0, .int .i64 0, .slice none 0 0] 33))
    have VR := V.new w [.int .i64 0, .int .i64 0, .slice none 0 0] 33
    obtain ⟨s_VQ, f_VQ, z_VQ⟩ := VQ.open
    obtain ⟨s_VP, f_VP, z_VP⟩ := VP.open
    obtain ⟨s_VR, f_VR, z_VR⟩ := VR.open
    have Bo := B
    clear s_VQ f_VQ z_VQ s_VP f_VP z_VP s_VR f_VR z_VR
    have K : ∀ w' : World, Below (w.alloc (.cells #[.int .i64 0, .int .i64 0, .slice none 0 0] 33)).heap.size (w.alloc (.cells #[.int .i64 0, .int .i64 0, .slice none 0 0] 33)) w' → (w'.cell? ⟨Q, 0, none⟩ = some (.pointer (some ⟨p, 0, none⟩)) ∧ w'.cell? ⟨Q, 1, none⟩ = some (.int .i64 mc)) := fun w' h => ⟨(VQ.kept h).2.1 0 (by simp), (VQ.kept h).2.1 1 (by simp)⟩
    have K := Hid.mk K
    obtain ⟨s_VQ, f_VQ, z_VQ⟩ := VQ.open
    obtain ⟨s_VP, f_VP, z_VP⟩ := VP.open
    obtain ⟨s_VR, f_VR, z_VR⟩ := VR.open
    go_wp2_with fail
    clear s_VQ f_VQ z_VQ s_VP f_VP z_VP s_VR f_VR z_VR
    refine wp_region_held_drew (S := (fun w' => w'.cell? ⟨Q, 0, none⟩ = some (.pointer (some ⟨p, 0, none⟩)) ∧ w'.cell? ⟨Q, 1, none⟩ = some (.int .i64 mc))) (by kernel_rfl) (K.out _ (Below.refl _ _).drew) (fun hHeld => ?_)
    refine wpAnyH_take (i := 0) (oi := _) (v := ?vg41u1) rfl (by kernel_rfl) (by kernel_rfl) (by kernel_rfl) (fun _ _ _ h => h) (Or.inl ⟨by kernel_rfl, ?hyg41u1⟩) hHeld ?restg41u1
    case hyg41u1 => (intro w hSw; (try dsimp only at hSw); go_simp; first | done | with_reducible rfl)
    try simp only [Act.put, List.getElem_toArray, List.getElem_cons_zero, List.setIfInBounds_toArray, List.set_cons_zero, List.set_cons_succ]
    refine wpAnyH_take (i := 1) (oi := _) (v := ?vg41u2) rfl (by kernel_rfl) (by kernel_rfl) (by kernel_rfl) (fun _ _ _ h => h) (Or.inl ⟨by kernel_rfl, ?hyg41u2⟩) hHeld ?restg41u2
    case hyg41u2 => (intro w hSw; (try dsimp only at hSw); go_simp; first | done | with_reducible rfl)
    try simp only [Act.put, List.getElem_toArray, List.getElem_cons_zero, List.getElem_cons_succ, List.setIfInBounds_toArray, List.set_cons_zero, List.set_cons_succ]
    refine wpAnyH_take (i := 2) (oi := _) (v := ?vg41u3) rfl (by kernel_rfl) (by kernel_rfl) (by kernel_rfl) (fun _ _ _ h => h) (Or.inl ⟨by kernel_rfl, ?hyg41u3⟩) hHeld ?restg41u3
    case hyg41u3 => (intro w hSw; (try dsimp only at hSw); go_simp; first | done | with_reducible rfl)
    try simp only [Act.put, List.getElem_toArray, List.getElem_cons_zero, List.getElem_cons_succ, List.setIfInBounds_toArray, List.set_cons_zero, List.set_cons_succ]
    refine wpAnyH_take (i := 3) (oi := _) (v := ?vg41u4) rfl (by kernel_rfl) (by kernel_rfl) (by kernel_rfl) (fun _ _ _ h => h) (Or.inl ⟨by kernel_rfl, ?hyg41u4⟩) hHeld ?restg41u4
    case hyg41u4 => (intro w hSw; (try dsimp only at hSw); go_simp; first | done | with_reducible rfl)
    try simp only [Act.put, List.getElem_toArray, List.getElem_cons_zero, List.getElem_cons_succ, List.setIfInBounds_toArray, List.set_cons_zero, List.set_cons_succ]
    refine wpAnyH_take (i := 4) (oi := _) (v := ?vg41u5) rfl (by kernel_rfl) (by kernel_rfl) (by kernel_rfl) (fun _ _ _ h => h) (Or.inl ⟨by kernel_rfl, ?hyg41u5⟩) hHeld ?restg41u5
    case hyg41u5 => (intro w hSw; (try dsimp only at hSw); go_simp; first | done | with_reducible rfl)
    try simp only [Act.put, List.getElem_toArray, List.getElem_cons_zero, List.getElem_cons_succ, List.setIfInBounds_toArray, List.set_cons_zero, List.set_cons_succ]
    refine wpAnyH_take (i := 5) (oi := _) (v := ?vg41u6) rfl (by kernel_rfl) (by kernel_rfl) (by kernel_rfl) (fun _ _ _ h => h) (Or.inl ⟨by kernel_rfl, ?hyg41u6⟩) hHeld ?restg41u6
    case hyg41u6 => (intro w hSw; (try dsimp only at hSw); go_simp; first | done | with_reducible rfl)
    try simp only [Act.put, List.getElem_toArray, List.getElem_cons_zero, List.getElem_cons_succ, List.setIfInBounds_toArray, List.set_cons_zero, List.set_cons_succ]
    refine wpAnyH_take (i := 6) (oi := _) (v := ?vg41u7) rfl (by kernel_rfl) (by kernel_rfl) (by kernel_rfl) (fun _ _ _ h => h) (Or.inl ⟨by kernel_rfl, ?hyg41u7⟩) hHeld ?restg41u7
    case hyg41u7 => (intro w hSw; (try dsimp only at hSw); go_simp; first | done | with_reducible rfl)
    try simp only [Act.put, List.getElem_toArray, List.getElem_cons_zero, List.getElem_cons_succ, List.setIfInBounds_toArray, List.set_cons_zero, List.set_cons_succ]
    refine wpAnyH_take (i := 7) (oi := _) (v := ?vg41u8) rfl (by kernel_rfl) (by kernel_rfl) (by kernel_rfl) (fun _ _ _ h => h) (Or.inl ⟨by kernel_rfl, ?hyg41u8⟩) hHeld ?restg41u8
    case hyg41u8 => (intro w hSw; (try dsimp only at hSw); go_simp; first | done | with_reducible rfl)
    try simp only [Act.put, List.getElem_toArray, List.getElem_cons_zero, List.getElem_cons_succ, List.setIfInBounds_toArray, List.set_cons_zero, List.set_cons_succ]
    refine wpAnyH_take (i := 8) (oi := _) (v := ?vg41u9) rfl (by kernel_rfl) (by kernel_rfl) (by kernel_rfl) (fun _ _ _ h => h) (Or.inl ⟨by kernel_rfl, ?hyg41u9⟩) hHeld ?restg41u9
    case hyg41u9 => (intro w hSw; (try dsimp only at hSw); go_simp; first | done | with_reducible rfl)
    try simp only [Act.put, List.getElem_toArray, List.getElem_cons_zero, List.getElem_cons_succ, List.setIfInBounds_toArray, List.set_cons_zero, List.set_cons_succ]
    refine wpAnyH_take (i := 9) (oi := _) (v := ?vg41u10) rfl (by kernel_rfl) (by kernel_rfl) (by kernel_rfl) (fun _ _ _ h => h) (Or.inl ⟨by kernel_rfl, ?hyg41u10⟩) hHeld ?restg41u10
    case hyg41u10 => (intro w hSw; (try dsimp only at hSw); go_simp; first | done | with_reducible rfl)
    try simp only [Act.put, List.getElem_toArray, List.getElem_cons_zero, List.getElem_cons_succ, List.setIfInBounds_toArray, List.set_cons_zero, List.set_cons_succ]
    refine wpAnyH_ready (rs := [10]) (by kernel_rfl) (by simp) ?_
    refine AllReadyH.cons (o := _) rfl (fun K0 hK0 => ?_) AllReadyH.nil
    go_simp
    go_at_call 79
    refine (CA.out _ (VP.kept (Below.refl _ _).drew)).mono ?_
    rintro e wg41v11 ⟨rfl, bg41v11⟩
    refine hK0.out _ _ (K.out _ (thenB (Below.refl _ _).drew bg41v11)) (fun hHeld => ?_)
    clear hK0 K0
    try simp only [Act.put, List.getElem_toArray, List.getElem_cons_zero, List.getElem_cons_succ, List.setIfInBounds_toArray, List.set_cons_zero, List.set_cons_succ]
    have bacc : Below (w.alloc (.cells #[.int .i64 0, .int .i64 0, .slice none 0 0] 33)).heap.size (w.alloc (.cells #[.int .i64 0, .int .i64 0, .slice none 0 0] 33)) _ := (thenB (Below.refl _ _).drew bg41v11)
    replace VQ := VQ.kept bacc
    replace VP := VP.kept bacc
    replace VR := VR.kept bacc
    replace B := thenB B bacc
    have Sz41 := bacc.size
    simp only [World.size_alloc] at Sz41
    have HT := Hid.mk VR.there
    have VF := VR.filled [.int .i64 mc, .int .i64 0, .slice none 0 0] rfl
    have KA : (World.setCells wg41v11 (w.heap.size) 0 [.int .i64 mc, .int .i64 0, .slice none 0 0]).cell? ⟨Q, 0, none⟩ = some (.pointer (some ⟨p, 0, none⟩)) ∧ (World.setCells wg41v11 (w.heap.size) 0 [.int .i64 mc, .int .i64 0, .slice none 0 0]).cell? ⟨Q, 1, none⟩ = some (.int .i64 mc) := ⟨(VQ.apart (B := w.heap.size) (by first | omega | (simp; omega)) 0 [.int .i64 mc, .int .i64 0, .slice none 0 0]).2.1 0 (by simp), (VQ.apart (B := w.heap.size) (by first | omega | (simp; omega)) 0 [.int .i64 mc, .int .i64 0, .slice none 0 0]).2.1 1 (by simp)⟩
    have BR := belowCells B (show w.heap.size ≤ w.heap.size by (first | omega | (simp; done) | (simp; omega))) 0 [.int .i64 mc, .int .i64 0, .slice none 0 0]
    obtain ⟨w6, hw6⟩ : ∃ w6, World.setCells wg41v11 (w.heap.size) 0 [.int .i64 mc, .int .i64 0, .slice none 0 0] = w6 := ⟨_, rfl⟩
    rw [hw6] at VF BR KA
    replace hw6 := Hid.mk hw6
    replace VF := Hid.mk VF
    replace KA := Hid.mk KA
    replace BR := Hid.mk BR
    refine wpAnyH_ready (rs := [11]) (by kernel_rfl) (by simp) ?_
    refine AllReadyH.cons (o := _) rfl (fun K0 hK0 => ?_) AllReadyH.nil
    rw [if_pos (by rfl)]
    refine wp_stroke w6 33 _ _ rfl (w.heap.size) 0 #[.int .i64 mc, .int .i64 0, .slice none 0 0] rfl rfl HT.out (by kernel_rfl) (by kernel_rfl) hw6.out ?_
    refine hK0.out _ _ KA.out (fun hHeld => ?_)
    clear hK0 K0 hHeld KA HT
    refine wpAnyH_done (by kernel_rfl) ?_ _
    go_wp2
    refine bodyPost_ret (v := .agg #[.int .i64 mc, .int .i64 0, .slice none 0 0]) (results_row Try.results89 _ _ (w.heap.size) [.int .i64 mc, .int .i64 0, .slice none 0 0] _ rfl VF.out Try.underlying33 rfl (by kernel_rfl)) rfl ⟨none, 0, rfl, OwnTerm.none, BR.out⟩

/-- What is asked of a maker. -/
def mkC (xs : List T4) (zs ns : List Int) : Int := if aqC xs zs = 0 then (if nmsOk ns = true then 0 else 3) else aqC xs zs

theorem mkC_ways (xs : List T4) (zs ns : List Int) : (tfC xs ≠ 0 ∧ mkC xs zs ns = tfC xs) ∨ (tfC xs = 0 ∧ plsOk xs.length zs = false ∧ mkC xs zs ns = 3) ∨ (tfC xs = 0 ∧ plsOk xs.length zs = true ∧ nmsOk ns = false ∧ mkC xs zs ns = 3) ∨ (tfC xs = 0 ∧ plsOk xs.length zs = true ∧ nmsOk ns = true ∧ mkC xs zs ns = 0) := by
  unfold mkC
  rcases aq_ways xs zs with ⟨h1, e⟩ | ⟨h1, h2, e⟩ | ⟨h1, h2, e⟩
  · exact .inl ⟨h1, by rw [e, if_neg h1]⟩
  · exact .inr (.inl ⟨h1, by unfold plsOk; exact h2, by rw [e, if_neg (by decide)]⟩)
  · cases h3 : nmsOk ns
    · exact .inr (.inr (.inl ⟨h1, by unfold plsOk; exact h2, rfl, by rw [e]; rfl⟩))
    · exact .inr (.inr (.inr ⟨h1, by unfold plsOk; exact h2, rfl, by rw [e]; rfl⟩))

set_option maxRecDepth 20000 in
set_option maxHeartbeats 4000000 in
theorem makerOf_no (a : Option Addr) (n ca : Nat) (xs : List T4) (cz : Option Addr) (mz dz : Nat) (zs : List Int) (cn : Option Addr) (mn dn : Nat) (ns : List Int) (w : World) (ha : RdTerm w a xs) (hn : xs.length = n) (hx : n ≤ 1048576) (hok : ∀ t ∈ xs, okT t) (hz : Rd .i64 w cz zs) (hmz : zs.length = mz) (hxz : mz ≤ 1048576) (hs : Rd .i64 w cn ns) (hmn : ns.length = mn) (hxn : mn ≤ 1048576) (hc : mkC xs zs ns ≠ 0) :
    Calls Try.prog 67 #[.slice a n ca, .slice cz mz dz, .slice cn mn dn] w fun e w' => e = .returned (.tuple #[.pointer none, .int .i64 (mkC xs zs ns)]) ∧ Below w.heap.size w w' := by
  rcases mkC_ways xs zs ns with ⟨h1, e⟩ | ⟨h1, h2, e⟩ | ⟨h1, h2, h3, e⟩ | ⟨h1, h2, h3, e⟩
  · have CB := Hid.mk (fun w h => bookOf_no a n ca xs w h hn (by unfold maxLen; omega) hok h1)
    rw [e]
    have h0 : (tfC xs != 0) = true := by simp [h1]
    clear hok e h1 hc
    generalize tfC xs = kk at *
    go_enter Try.func67, Try.ntmps67
    have B := Below.refl w.heap.size w
    have Bo := B
    go_wp2_with fail
    refine (CB.out _ ha).mono ?_
    rintro e w1 ⟨rfl, b1⟩
    have S1 := b1.size
    replace ha := ha.kept b1
    replace hz := hz.kept b1
    replace hs := hs.kept b1
    replace B := thenB B b1
    clear b1
    have Bo := B
    have Bf := Hid.mk B
    clear Bo
    go_wp2
    refine bodyPost_ret (v := .tuple #[.pointer none, .int .i64 kk]) (by simp [results, Try.results67, go_sem]) rfl ⟨rfl, Bf.out⟩
  · have CB := Hid.mk (fun w h => bookOf_yes a n ca xs w h hn (by unfold maxLen; omega) hok h1)
    have CA := Hid.mk (fun w c0 d0 h => arePlaces_ok c0 n d0 cz mz dz zs w h hmz (by unfold maxLen; omega) (by unfold maxLen; omega))
    rw [hn] at h2
    rw [h2] at CA
    rw [e]
    clear hok e h1 h2 hc
    go_enter Try.func67, Try.ntmps67
    have B := Below.refl w.heap.size w
    have Bo := B
    go_wp2_with fail
    refine (CB.out _ ha).mono ?_
    rintro e w21 ⟨p, g, c0, d0, rfl, H, b21⟩
    have S21 := b21.size
    replace ha := ha.kept b21
    replace hz := hz.kept b21
    replace hs := hs.kept b21
    replace B := thenB B b21
    clear b21
    have Bo := B
    have VP := H.v
    rw [hn] at VP
    obtain ⟨s_VP, f_VP, z_VP⟩ := VP.open
    have Bo := B
    go_wp2_with fail
    refine (CA.out _ _ _ hz).mono ?_
    rintro e wq ⟨rfl, rfl⟩
    have Bf := Hid.mk B
    clear Bo
    go_wp2
    refine bodyPost_ret (v := .tuple #[.pointer none, .int .i64 3]) (by simp [results, Try.results67, go_sem]) rfl ⟨rfl, Bf.out⟩
  · have CB := Hid.mk (fun w h => bookOf_yes a n ca xs w h hn (by unfold maxLen; omega) hok h1)
    have CA := Hid.mk (fun w c0 d0 h => arePlaces_ok c0 n d0 cz mz dz zs w h hmz (by unfold maxLen; omega) (by unfold maxLen; omega))
    have CN := Hid.mk (fun w h => areNames_ok cn mn dn ns w h hmn (by unfold maxLen; omega))
    rw [hn] at h2
    rw [h2] at CA
    rw [h3] at CN
    rw [e]
    clear hok e h1 h2 h3 hc
    go_enter Try.func67, Try.ntmps67
    have B := Below.refl w.heap.size w
    have Bo := B
    go_wp2_with fail
    refine (CB.out _ ha).mono ?_
    rintro e w41 ⟨p, g, c0, d0, rfl, H, b41⟩
    have S41 := b41.size
    replace ha := ha.kept b41
    replace hz := hz.kept b41
    replace hs := hs.kept b41
    replace B := thenB B b41
    clear b41
    have Bo := B
    have VP := H.v
    rw [hn] at VP
    obtain ⟨s_VP, f_VP, z_VP⟩ := VP.open
    have Bo := B
    go_wp2_with fail
    refine (CA.out _ _ _ hz).mono ?_
    rintro e wq ⟨rfl, rfl⟩
    go_wp2_with fail
    refine (CN.out _ hs).mono ?_
    rintro e wq ⟨rfl, rfl⟩
    have Bf := Hid.mk B
    clear Bo
    go_wp2
    refine bodyPost_ret (v := .tuple #[.pointer none, .int .i64 3]) (by simp [results, Try.results67, go_sem]) rfl ⟨rfl, Bf.out⟩
  · exact absurd e hc

set_option maxRecDepth 20000 in
set_option maxHeartbeats 4000000 in
theorem makerOf_yes (a : Option Addr) (n ca : Nat) (xs : List T4) (cz : Option Addr) (mz dz : Nat) (zs : List Int) (cn : Option Addr) (mn dn : Nat) (ns : List Int) (w : World) (ha : RdTerm w a xs) (hn : xs.length = n) (hx : n ≤ 1048576) (hok : ∀ t ∈ xs, okT t) (hz : Rd .i64 w cz zs) (hmz : zs.length = mz) (hxz : mz ≤ 1048576) (hs : Rd .i64 w cn ns) (hmn : ns.length = mn) (hxn : mn ≤ 1048576) (hc : mkC xs zs ns = 0) :
    Calls Try.prog 67 #[.slice a n ca, .slice cz mz dz, .slice cn mn dn] w fun e w' => ∃ Q p g c d, e = .returned (.tuple #[.pointer (some ⟨Q, 0, none⟩), .int .i64 0]) ∧ V w' Q [.pointer (some ⟨p, 0, none⟩), .int .i64 0] ∧ Bk w' w.heap.size p g c d xs ∧ w.heap.size ≤ Q ∧ ¬ BkX p g c Q ∧ Below w.heap.size w w' := by
  have q := build_mk
  rcases mkC_ways xs zs ns with ⟨h1, e⟩ | ⟨h1, h2, e⟩ | ⟨h1, h2, h3, e⟩ | ⟨h1, h2, h3, e⟩
  · rw [e] at hc; exact absurd hc h1
  · rw [e] at hc; exact absurd hc (by decide)
  · rw [e] at hc; exact absurd hc (by decide)
  · have CB := Hid.mk (fun w h => bookOf_yes a n ca xs w h hn (by unfold maxLen; omega) hok h1)
    have CA := Hid.mk (fun w c0 d0 h => arePlaces_ok c0 n d0 cz mz dz zs w h hmz (by unfold maxLen; omega) (by unfold maxLen; omega))
    have CN := Hid.mk (fun w h => areNames_ok cn mn dn ns w h hmn (by unfold maxLen; omega))
    rw [hn] at h2
    rw [h2] at CA
    rw [h3] at CN
    clear hok e h1 h2 h3 hc
    go_enter Try.func67, Try.ntmps67
    have B := Below.refl w.heap.size w
    have Bo := B
    go_wp2_with fail
    refine (CB.out _ ha).mono ?_
    rintro e w61 ⟨p, g, c0, d0, rfl, H, b61⟩
    have S61 := b61.size
    replace ha := ha.kept b61
    replace hz := hz.kept b61
    replace hs := hs.kept b61
    replace B := thenB B b61
    clear b61
    have Bo := B
    have Hs0 := B.size
    have Hp0 := fun k hk => (H.lt k hk).2
    have VP := H.v
    rw [hn] at VP
    obtain ⟨s_VP, f_VP, z_VP⟩ := VP.open
    have Bo := B
    go_wp2_with fail
    refine (CA.out _ _ _ hz).mono ?_
    rintro e wq ⟨rfl, rfl⟩
    go_wp2_with fail
    refine (CN.out _ hs).mono ?_
    rintro e wq ⟨rfl, rfl⟩
    replace VP := VP.kept (belowA wq (.cells #[.pointer (some ⟨p, 0, none⟩), .int .i64 0] 92))
    replace ha := ha.kept (belowA wq (.cells #[.pointer (some ⟨p, 0, none⟩), .int .i64 0] 92))
    replace hz := hz.kept (belowA wq (.cells #[.pointer (some ⟨p, 0, none⟩), .int .i64 0] 92))
    replace hs := hs.kept (belowA wq (.cells #[.pointer (some ⟨p, 0, none⟩), .int .i64 0] 92))
    replace H := H.kept (belowA wq (.cells #[.pointer (some ⟨p, 0, none⟩), .int .i64 0] 92))
    replace B := thenB B (belowA wq (.cells #[.pointer (some ⟨p, 0, none⟩), .int .i64 0] 92))
    have VQ := V.new wq [.pointer (some ⟨p, 0, none⟩), .int .i64 0] 92
    have Bf := Hid.mk B
    have VQf := Hid.mk VQ
    have Hf := Hid.mk H
    have hp := Hid.mk Hp0
    have hsw := Hid.mk Hs0
    clear s_VP f_VP z_VP
    obtain ⟨s_VP, f_VP, z_VP⟩ := VP.open
    obtain ⟨s_VQ, f_VQ, z_VQ⟩ := VQ.open
    clear B
    go_wp2
    refine bodyPost_ret (v := .tuple #[.pointer (some ⟨wq.heap.size, 0, none⟩), .int .i64 0]) (by simp [results, Try.results67, go_sem]) rfl ⟨_, p, g, c0, d0, rfl, VQf.out, Hf.out, hsw.out, fun e => by have := hp.out _ e; omega, Bf.out⟩

theorem mkC_zero {xs : List T4} {zs ns : List Int} (h : mkC xs zs ns = 0) : tfC xs = 0 ∧ (∀ z ∈ zs, 0 ≤ z ∧ z < xs.length) ∧ nmsOk ns = true := by
  rcases mkC_ways xs zs ns with ⟨h1, e⟩ | ⟨h1, h2, e⟩ | ⟨h1, h2, h3, e⟩ | ⟨h1, h2, h3, e⟩
  · rw [e] at h; exact absurd h h1
  · rw [e] at h; exact absurd h (by decide)
  · rw [e] at h; exact absurd h (by decide)
  · exact ⟨h1, plsOk_iff.1 h2, h3⟩

/-- A maker just made. -/
theorem MP.made {w0 w : World} {Q p g : Nat} {c : Option Addr} {d : Nat} {xs : List T4} (V1 : V w Q [.pointer (some ⟨p, 0, none⟩), .int .i64 0]) (H : Bk w w0.heap.size p g c d xs) (h1 : w0.heap.size ≤ Q) (h2 : ¬ BkX p g c Q) (ht : tfC xs = 0) : MP w w0.heap.size (fun k => k < w0.heap.size) Q ⟨xs, 0⟩ :=
  ⟨_, p, g, c, d, xs, V1, H, (tfC_zero ht).1, fun _ => rfl, Nat.le_refl _, h1, h2, fun k hk => ⟨by have := V1.1; omega, by omega, fun e => by have := (H.lt k e).1; omega⟩⟩

end Go.Proofs.Ythkmoabkeblbjaa
