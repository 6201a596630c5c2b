/- The program's maker of terms: names. -/
import Derived.Test.YthkmoabkeblbjaaKzB
import Derived.Test.YthkmoabkeblbjaaMvA
namespace Go.Proofs.Ythkmoabkeblbjaa
open Go.RowKit

theorem tb9_cell {w : World} {Q L : Nat} {pl : Int → Int} (h : Own .i64 2 w Q (some ⟨Q, 0, none⟩) L (tab L pl)) {i : Nat} (hi : i < L) : w.cell? ⟨Q, i, none⟩ = some (.int .i64 (pl i)) := by
  rcases h.rd with h1 | ⟨b3, o3, e3, h1⟩
  · have := tab_len L pl; rw [h1] at this; simp at this; omega
  · simp only [Option.some.injEq, Addr.mk.injEq, and_true] at e3
    obtain ⟨rfl, rfl⟩ := e3
    have h2 := h1 i (by rw [tab_len]; exact hi)
    rw [Nat.zero_add, tab_at pl hi] at h2
    exact h2

theorem tb9_frozen {w : World} {Q L : Nat} {pl : Int → Int} (h : Own .i64 2 w Q (some ⟨Q, 0, none⟩) L (tab L pl)) (i : Nat) : w.frozen? ⟨Q, i, none⟩ = false := (h.row (tab_len L pl)).frozenAt i

theorem tb9_store {w : World} {Q L : Nat} {pl : Int → Int} (h : Own .i64 2 w Q (some ⟨Q, 0, none⟩) L (tab L pl)) (i : Nat) (v : Int) : Own .i64 2 (w.setCell ⟨Q, i, none⟩ (.int .i64 v)) Q (some ⟨Q, 0, none⟩) L (tab L (updP pl i v)) := by
  have hs := (h.row (tab_len L pl)).stored i (.int .i64 v)
  rw [set_map, tab_set] at hs
  exact Own.mk hs.1 (tab_len _ _)

theorem tab_eq {n : Nat} {pl : Int → Int} {zs : List Int} (hl : zs.length = n) (h : ∀ j : Nat, j < n → pl j = zs.getD j 0) : tab n pl = zs := by
  apply List.ext_getElem
  · rw [tab_len, hl]
  · intro i h1 h2
    rw [tab_len] at h1
    have e1 := tab_at pl h1
    have e2 := h i h1
    rw [e2] at e1
    simpa [List.getD, h2, tab_len, h1] using e1

theorem tab_range {n : Nat} {pl : Int → Int} (h : PlOk pl) : ∀ z ∈ tab n pl, 0 ≤ z ∧ z ≤ 400 := by
  intro z hz
  unfold tab at hz
  rw [List.mem_map] at hz
  obtain ⟨i, _, rfl⟩ := hz
  exact h _

theorem mkNs_up (m : Mk) (ns : List Int) (k : Nat) (h : k < ns.length) {z : Int} (hz : ns.getD k 0 = z) {pl : Int → Int} {v : Int} (hp : (mkNs m (ns.take k)).1.c = 0 → ∀ j : Nat, j < k → pl j = (mkNs m (ns.take k)).2.getD j 0) (hv : (mkNs m (ns.take (k + 1))).1.c = 0 → v = mkAt (mkNs m (ns.take k)).1 ⟨1, 0, 0, z⟩) :
    (mkNs m (ns.take (k + 1))).1.c = 0 → ∀ j : Nat, j < k + 1 → updP pl k v j = (mkNs m (ns.take (k + 1))).2.getD j 0 := by
  intro hc j hj
  have hs := mkNs_take m ns k h hz
  have hv := hv hc
  rw [hs] at hc ⊢
  have h0 := mkPut_mono hc
  have hlen : (mkNs m (ns.take k)).2.length = k := by rw [mkNs_count, List.length_take]; omega
  unfold updP
  by_cases e : j = k
  · subst e
    rw [if_pos rfl, hv]
    simp [List.getD, hlen]
  · rw [if_neg (by omega), hp h0 j (by omega)]
    simp only [List.getD]
    rw [List.getElem?_append_left (by omega)]

set_option maxRecDepth 20000 in
set_option maxHeartbeats 4000000 in
theorem names_ok (b0 Q : Nat) (Of : Nat → Prop) (m : Mk) (cc : Option Addr) (n dd : Nat) (ns : List Int) (w : World) (h : MP w b0 Of Q m) (hR : Rd .i64 w cc ns) (hn : ns.length = n) (hnx : n ≤ 1048576) (hok : ∀ z ∈ ns, okI z) (hcc : ∀ b : Addr, cc = some b → Of b.block) :
    Calls Try.prog 73 #[.pointer (some ⟨Q, 0, none⟩), .slice cc n dd] w fun e w' => ∃ v, e = .returned (.int .i64 v) ∧ (0 ≤ v ∧ v ≤ 400) ∧ ((mkV m ns).1.c = 0 → v = (mkV m ns).2) ∧ MP w' b0 Of Q (mkV m ns).1 ∧ Sm (fun k => ¬ Of k) w w' := by
  have q := fun n => build_nm n
  have HN := Hid.mk hn
  have HQ := h.lt
  have HOF := Hid.mk (fun k (hk : Of k) => h.of hk)
  have HOK := Hid.mk hok
  have HCC := Hid.mk hcc
  obtain ⟨i0, hi, hz0, hz1, hz2⟩ := info_parts Try.infoI64
  have hnL := Hid.mk (show n ≤ maxLen by unfold maxLen; omega)
  have CL := Hid.mk (fun Of m zs zs' ww h hR hn hz ez hcc => list_ok b0 Q Of m (some ⟨w.heap.size, 0, none⟩) n n zs zs' ww h hR hn hnL.out hz ez hcc)
  clear hok hcc
  go_enter Try.func73, Try.ntmps73
  go_wp2_with (at_make; go_loud (refine wpList_make_full _ rfl _ _ 37 rfl w.heap.size 2 i0 (.int .i64 0) 1 Try.underlying37 hi hz0 hz1 .i64 .i64 _ _ n rfl rfl (by omega) (by omega) (by rw [hz2]; omega) (by unfold maxLen; omega) (Nat.le_refl _) ?_))
  intro w2 hown hgrow
  have O0 : Own .i64 2 w2 w.heap.size (some ⟨w.heap.size, 0, none⟩) n (tab n (fun _ => 0)) := by
    refine Own.mk ?_ (tab_len _ _)
    rw [tab_zero]
    simpa [toList_madeCells_one] using hown
  have bg : Below w.heap.size w w2 := (Sm.grown (X := fun _ => False) hgrow (fun k e => by cases e)).below' (Below.refl _ _) (Nat.le_refl _) (fun k e => e.elim)
  have hS2 : w.heap.size < w2.heap.size := by have := O0.lt _ rfl; simp only at this; omega
  have M0 := h.more bg (Nat.le_refl _) hS2
  have R0 := hR.kept bg
  have S0 := Sm.below (X := fun k => ¬ Of k) bg
  clear hown hgrow bg hi hz0 hz1 hz2 h hR
  replace M0 := Hid.mk M0
  replace R0 := Hid.mk R0
  replace S0 := Hid.mk S0
  replace O0 := Hid.mk O0
  generalize hW : w.heap.size = W at *
  go_wp2
  go_loopw [13] (fun i wr => ∃ (k : Nat) (pl : Int → Int), k ≤ n ∧ i = .int .i64 k ∧ Hid (PlOk pl ∧ ((mkNs m (ns.take k)).1.c = 0 → ∀ j : Nat, j < k → pl j = (mkNs m (ns.take k)).2.getD j 0)) ∧ MP wr b0 (fun k => Of k ∨ k = W) Q (mkNs m (ns.take k)).1 ∧ Own .i64 2 wr W (some ⟨W, 0, none⟩) n (tab n pl) ∧ Rd .i64 wr cc ns ∧ Sm (fun k => ¬ Of k) w wr) (fun i _ => n - (intOf i).toNat)
  case atStart => exact ⟨0, fun _ => 0, Nat.zero_le _, rfl, Hid.mk ⟨PlOk.zero, fun _ j hj => absurd hj (by omega)⟩, M0.out, O0.out, R0.out, S0.out⟩
  case round =>
    clear M0 O0 R0 S0
    obtain ⟨k, pl, hk, rfl, hP, M, O, R, S⟩ := hrel
    by_cases hlt : k < n
    · obtain ⟨z, hz⟩ : ∃ z, ns.getD k 0 = z := ⟨_, rfl⟩
      have hk1 : (k : Int) < (n : Int) := by omega
      have hkn : k < ns.length := by rw [HN.out]; exact hlt
      have hzk : okI z := HOK.out z (by rw [← hz]; exact igetD_mem hkn)
      have hs := mkNs_take m ns k hkn hz
      have HUP := Hid.mk (fun v hv => mkNs_up m ns k hkn hz (pl := pl) (v := v) hP.out.2 hv)
      have HP1 := Hid.mk hP.out.1
      have e1 : (mkNs m (ns.take (k + 1))).1 = mkPut (mkNs m (ns.take k)).1 ⟨1, 0, 0, z⟩ := by rw [hs]
      rw [e1] at HUP
      replace e1 := Hid.mk e1
      clear hs hP
      generalize (mkNs m (ns.take k)).1 = mm at *
      obtain ⟨base, p, g, c, d, xs, VQ, H, hl, hx, hbb, hbQ, hnb, ho⟩ := M
      have HQr := VQ.1
      have ht : okT ⟨1, 0, 0, z⟩ := ⟨(okI_of (x := 1) (by decide) (by decide)), (okI_of (x := 0) (by decide) (by decide)), (okI_of (x := 0) (by decide) (by decide)), hzk⟩
      have CP := Hid.mk (fun w H => put_ok base p g c d xs ⟨1, 0, 0, z⟩ w H ht hl)
      have CK := Hid.mk (fun w V => keep_ok Q p (put xs ⟨1, 0, 0, z⟩).c (put xs ⟨1, 0, 0, z⟩).k mm.c w V)
      have E0 := Hid.mk (mk_code mm ⟨1, 0, 0, z⟩ xs hx)
      have hpk := put_k (t := ⟨1, 0, 0, z⟩) hl
      have hy := Hid.mk (putL_len (t := ⟨1, 0, 0, z⟩) hl)
      have ST := Hid.mk (fun w1 w2 c1 d1 H1 S1 hs V2 S2 hl2 => mp_step (w := wr) (w1 := w1) (w2 := w2) (c1 := c1) (d1 := d1) (Of := fun k => Of k ∨ k = W) (ys := putL xs ⟨1, 0, 0, z⟩) (m' := mkPut mm ⟨1, 0, 0, z⟩) hbb hbQ HQr hnb ho H1 hy.out S1 hs V2 S2 hl2)
      replace hnb := Hid.mk hnb
      have hoW := ho W (.inr rfl)
      have hoC := Hid.mk (fun b (hb : cc = some b) => (ho b.block (.inl (HCC.out b hb))).2.2)
      replace hoW := Hid.mk hoW
      clear hx ht ho hzk
      generalize putL xs ⟨1, 0, 0, z⟩ = zl at *
      generalize put xs ⟨1, 0, 0, z⟩ = P at *
      generalize hmp : mkPut mm ⟨1, 0, 0, z⟩ = mp at *
      obtain ⟨kc, kk, kl⟩ := P
      obtain ⟨mc, ml⟩ := mm
      simp only at *
      have HB := Hid.mk H
      have VH := Hid.mk VQ
      have HR2 := Hid.mk R
      have HO := Hid.mk O
      have HS := Hid.mk S
      rcases R with h9 | ⟨b2, o2, rfl, hcp⟩
      · rw [h9] at hkn; simp at hkn
      have pz := hcp k hkn
      rw [hz] at pz
      clear H hcp hz hmp O S
      obtain ⟨s_VQ, f_VQ, z_VQ⟩ := VQ.open
      go_wp2_with fail
      refine (CP.out _ HB.out).mono ?_
      rintro e w5 ⟨c1, d1, rfl, H1, S1, hs⟩
      clear s_VQ f_VQ z_VQ VQ pz
      have V1 := VH.out.sm S1 hnb.out
      replace H1 := Hid.mk H1
      replace S1 := Hid.mk S1
      go_wp2_with fail
      refine (CK.out _ V1).mono ?_
      rintro e w6 ⟨rfl, V2, S2⟩
      obtain ⟨x0, x1, x2⟩ := E0.out
      rw [x0] at V2
      have RR := ST.out w5 w6 c1 d1 H1.out S1.out hs V2 S2 x1
      obtain ⟨M6, S6⟩ := RR
      have O6 := HO.out.sm S6 (fun b hb e => by simp only [Option.some.injEq] at hb; subst hb; exact e (.inr rfl))
      have R6 := HR2.out.sm S6 (fun b hb e => e (.inl (HCC.out b hb)))
      have S7 := HS.out.trans (S6.wide (fun j hj hj2 => hj (.inl hj2)))
      clear V1 V2 S2 hs S6 HS HO HR2
      have hQc := tb9_cell O6 hlt
      have hQf := tb9_frozen O6 k
      have O8 := Hid.mk (tb9_store O6 k kk)
      have SQ : Sm (fun q => q = W) w6 (w6.setCell ⟨W, k, none⟩ (.int .i64 kk)) := Sm.cell (X := fun q => q = W) rfl _
      have M8 := Hid.mk (M6.sm SQ (fun j e => .inr e))
      have R8 := Hid.mk (R6.sm SQ (fun b hb e => by have h1 := HOF.out _ (HCC.out b hb); rw [e] at h1; omega))
      have S8 := Hid.mk (S7.newCell (p := ⟨W, k, none⟩) (by simp only; omega) (.int .i64 kk))
      clear M6 O6 R6 S7 SQ
      go_wp2
      go_roundw
      case rel => exact ⟨k + 1, updP pl k kk, by omega, by go_num, Hid.mk ⟨HP1.out.upd hpk, by rw [e1.out]; exact HUP.out kk x2⟩, by rw [e1.out]; exact M8.out, O8.out, R8.out, S8.out⟩
      case measure => simp [intOf]; omega
    · have hkn : k = n := by omega
      subst hkn
      have et : ns.take k = ns := List.take_of_length_le (by rw [HN.out]; omega)
      rw [et] at M hP
      have hcn := mkNs_count m ns
      have EQ := Hid.mk (fun h0 => tab_eq (n := k) (pl := pl) (zs := (mkNs m ns).2) (by rw [hcn, HN.out]) (fun j hj => hP.out.2 h0 j hj))
      have HZ := Hid.mk (tab_range (n := k) hP.out.1)
      have MH := Hid.mk M
      have RH := Hid.mk O.rd
      have SH := Hid.mk S
      have HL := Hid.mk (tab_len k pl)
      clear hP M O S R et hcn
      go_wp2_with fail
      refine (CL.out _ _ (mkNs m ns).2 (tab k pl) _ MH.out RH.out HL.out HZ.out EQ.out (fun b hb => by simp only [Option.some.injEq] at hb; subst hb; exact .inr rfl)).mono ?_
      rintro e w9 ⟨v, rfl, hv, hve, M9, S9⟩
      have M10 := Hid.mk (M9.less (Of' := Of) (fun j hj => .inl hj))
      have S10 := Hid.mk (SH.out.trans (S9.wide (fun j hj hj2 => hj (.inl hj2))))
      replace hve := Hid.mk hve
      clear M9 S9
      go_wp2
      go_ret
      exact ⟨v, rfl, hv, hve.out, M10.out, S10.out⟩

end Go.Proofs.Ythkmoabkeblbjaa
