/- numberTerms. -/
import Derived.Test.YtfldgeokigcokaaGreatMvH
import Derived.Test.YtfldgeokigcokaaGreatMvB
import Derived.Test.YtfldgeokigcokaaGreatMvC
namespace Go.Proofs.YtfldgeokigcokaaGreat
open Go.RowKit

theorem mvT_okI {t : T4} (ht : okT t) {pl : Int → Int} (h : ∀ i, okI (pl i)) : okT (mvT t pl) := by
  have z : okI 0 := okI_of (by decide) (by decide)
  unfold mvT
  split
  · exact ht
  · split
    · exact ⟨(okI_of (by decide) (by decide) : okI 6), h _, z, z⟩
    · split
      · exact ⟨(okI_of (by decide) (by decide) : okI 7), okI_min (h _) (h _), okI_max (h _) (h _), z⟩
      · exact ⟨ht.1, h _, h _, z⟩

/-- What a call of 'numberTerms' leaves. -/
def Numbered (fr t0 : List T4) (n g : Nat) (w : World) (e : Ending) (w' : World) : Prop :=
  ∃ c d, e = .returned (.slice c n d) ∧ Own .i64 2 w' w.heap.size c d (tab n (nbS fr t0 n).pl) ∧ TM w' g (tmM (nbS fr t0 n).tb) (nbS fr t0 n).tb.length ∧ Sm (fun q => q = g) w w'

set_option maxRecDepth 20000 in
set_option maxHeartbeats 8000000 in
theorem numberTerms_ok (a : Option Addr) (n ca : Nat) (fr t0 : List T4) (g ct : Nat) (w : World) (ha : RdTerm w a fr) (hn : fr.length = n) (hv : tfC fr = 0) (hok : ∀ t ∈ fr, okT t) (T0 : Nice t0) (hl : t0.length ≤ 400) (hg : TM w g (tmM t0) ct) (hct : ct = t0.length) (hag : Hid (∀ ad : Addr, a = some ad → ad.block ≠ g)) (hlow : Hid (∀ ad : Addr, a = some ad → ad.block < w.heap.size)) :
    Calls Tryz.prog 33 #[.slice a n ca, .map (some g)] w (Numbered fr t0 n g w) := by
  subst hct
  have hn4 : n ≤ 400 := by have := (tfC_zero hv).1; omega
  have HAh := Hid.mk (tfC_ahead hv)
  have HV := Hid.mk hv
  have HOK := Hid.mk hok
  have HN := Hid.mk hn
  have HNB := Hid.mk (fun k (hk : k ≤ n) => nb_ok hv T0 k (by omega))
  obtain ⟨i0, hi, hz0, hz1, hz2⟩ := info_parts Tryz.infoI64
  have hgl := hg.lt
  have S := Sm.refl (fun q => q = g) w
  clear hv hok T0
  go_enter Tryz.func33, Tryz.ntmps33
  go_wp2_with (at_make; go_loud (refine wpList_make_full _ rfl _ _ 52 rfl w.heap.size 2 i0 (.int .i64 0) 1 Tryz.underlying52 hi hz0 hz1 .i64 .i64 _ _ n rfl rfl (by omega) (by omega) (by rw [hz2]; omega) (by unfold maxLen; omega) (Nat.le_refl _) ?_))
  intro w2 hown hgrow
  have O0 : Own .i64 2 w2 w.heap.size (some ⟨w.heap.size, 0, none⟩) n (tab n (nbS fr t0 0).pl) := by
    refine Own.mk ?_ (tab_len _ _)
    rw [show (nbS fr t0 0).pl = (fun _ => 0) from rfl, tab_zero]
    simpa [toList_madeCells_one] using hown
  have bg : Below w.heap.size w w2 := (Sm.grown (X := fun _ => False) hgrow (fun k e => by cases e)).below' (Below.refl _ _) (Nat.le_refl _) (fun k e => e.elim)
  have hS2 : w.heap.size < w2.heap.size := by have := O0.lt _ rfl; simp only at this; omega
  have S0 := Hid.mk (S.trans (Sm.below bg))
  have A0 := Hid.mk (ha.kept bg)
  have M0 := Hid.mk (hg.kept bg)
  replace O0 := Hid.mk O0
  have hQ0 := Hid.mk hS2
  obtain ⟨Q, hQ⟩ : ∃ Q, w.heap.size = Q := ⟨_, rfl⟩
  have hAQ : Hid (∀ ad : Addr, a = some ad → ad.block ≠ Q) := Hid.mk (fun ad had => by have := hlow.out ad had; omega)
  have hQw := Hid.mk hQ
  have hgQ : g < Q := by omega
  rw [hQ] at O0 hQ0 ⊢
  clear hown hgrow bg hS2 S ha hg hQ hgl hi hz0 hz1 hz2
  go_wp2
  go_loopw [16] (fun i wr => ∃ k : Nat, k ≤ n ∧ i = .int .i64 k ∧ Own .i64 2 wr Q (some ⟨Q, 0, none⟩) n (tab n (nbS fr t0 k).pl) ∧ TM wr g (tmM (nbS fr t0 k).tb) (nbS fr t0 k).tb.length ∧ RdTerm wr a fr ∧ Sm (fun q => q = g) w wr ∧ Hid (Q < wr.heap.size)) (fun i _ => n - (intOf i).toNat)
  case atStart => exact ⟨0, Nat.zero_le _, rfl, O0.out, M0.out, A0.out, S0.out, hQ0⟩
  case round =>
    clear O0 M0 A0 S0 hQ0
    obtain ⟨k, hk, rfl, O, hT, ha, S, hQr⟩ := hrel
    by_cases hlt : k < n
    · have hk1 : (k : Int) < (n : Int) := by omega
      obtain ⟨x, hx1⟩ : ∃ x, fr.getD k zTerm = x := ⟨_, rfl⟩
      have I := HNB.out k hk
      have hnx : nbS fr t0 (k + 1) = ⟨updP (nbS fr t0 k).pl k (tmIdx (nbS fr t0 k).tb (mvT x (nbS fr t0 k).pl) : Nat), if mvT x (nbS fr t0 k).pl ∈ (nbS fr t0 k).tb then (nbS fr t0 k).tb else (nbS fr t0 k).tb ++ [mvT x (nbS fr t0 k).pl]⟩ := by rw [nbS, hx1]
      obtain ⟨s, hs⟩ : ∃ s, nbS fr t0 k = s := ⟨_, rfl⟩
      rw [hs] at O hT I hnx
      obtain ⟨pl, tb⟩ := s
      obtain ⟨ys, hy1, hy2⟩ := I.pre
      have hsm := I.small
      simp only at O hT hnx hy1 hsm
      have hpi : ∀ i, okI (pl i) := fun i => okI_of (by have := (hsm i).1; omega) (by have := (hsm i).2; omega)
      have htl : tb.length ≤ 800 := by rw [hy1, List.length_append]; omega
      have hxo : okT x := HOK.out x (by rw [← hx1]; exact getDTerm_mem (by rw [HN.out]; exact hlt))
      have hro : okT (mvT x pl) := mvT_okI hxo hpi
      have hop := op_right HV.out k (by rw [HN.out]; exact hlt) hx1
      obtain ⟨ha1, hb1⟩ := HAh.out k (by rw [HN.out]; exact hlt)
      rw [hx1] at ha1 hb1
      have CW := Hid.mk (fun w h => withPlaces_ok x hop pl n (some ⟨Q, 0, none⟩) n w h (fun e => by have := ha1 e; omega) (fun e => by have := hb1 e; omega))
      obtain ⟨r0, hr⟩ : ∃ r, mvT x pl = r := ⟨_, rfl⟩
      rw [hr] at hnx hro
      have HR := Hid.mk hr
      have HA := Hid.mk ha
      have HO := Hid.mk O
      have HT := Hid.mk hT
      have HS := Hid.mk S
      rcases ha with h9 | ⟨b1, o1, rfl, hca⟩
      · have := HN.out; rw [h9] at this; simp at this; omega
      obtain ⟨p0, p1, p2, p3⟩ := RdTerm.cells hca k (by rw [HN.out]; exact hlt) x hx1
      have hQw2 := hQr.out
      have hbg := hag.out _ rfl
      simp only at hbg
      have hb1Q : b1 ≠ Q := hAQ.out _ rfl
      clear hca hx1 hop ha1 hb1 hr hpi hsm hy1 hxo I hT S hs
      have B := Below.refl wr.heap.size wr
      replace B := thenB B (belowA wr (.cells #[.int .i64 x.o, .int .i64 x.a, .int .i64 x.b, .int .i64 x.n] 70))
      have VX := V.new wr [.int .i64 x.o, .int .i64 x.a, .int .i64 x.b, .int .i64 x.n] 70
      obtain ⟨s_VX, f_VX, z_VX⟩ := VX.open
      have Bo := B
      go_wp2_with fail
      refine (CW.out _ (HO.out.rd.kept B)).mono ?_
      rintro e w1 ⟨r, hr', rfl, b1⟩
      clear s_VX f_VX z_VX
      have S1 := b1.size
      simp only [World.size_alloc] at S1
      replace VX := VX.kept b1
      replace B := thenB B b1
      clear b1
      obtain ⟨s_VX, f_VX, z_VX⟩ := VX.open
      have Bo := B
      rw [HR.out] at hr'
      subst hr'
      replace VX := VX.kept (belowA w1 (.cells #[.int .i64 r.o, .int .i64 r.a, .int .i64 r.b, .int .i64 r.n] 70))
      replace B := thenB B (belowA w1 (.cells #[.int .i64 r.o, .int .i64 r.a, .int .i64 r.b, .int .i64 r.n] 70))
      have VM := V.new w1 [.int .i64 r.o, .int .i64 r.a, .int .i64 r.b, .int .i64 r.n] 70
      clear s_VX f_VX z_VX
      obtain ⟨s_VX, f_VX, z_VX⟩ := VX.open
      obtain ⟨s_VM, f_VM, z_VM⟩ := VM.open
      have Bo := B
      have hTc := HT.out.kept B
      have QL := hTc.look hro 0
      by_cases hm : r ∈ tb
      · rw [if_pos hm] at hnx
        have hM : tmM tb r = some ((tmIdx tb r : Nat) : Int) := by unfold tmM; rw [if_pos hm]
        rw [hM] at QL
        simp only [Option.isSome_some, Option.getD_some] at QL
        obtain ⟨v, hvv⟩ : ∃ v, tmIdx tb r = v := ⟨_, rfl⟩
        rw [hvv] at QL hnx
        have hvl : v < tb.length := by rw [← hvv]; exact tmIdx_lt hm
        replace QL : (Instr.lookup 60 (.map (some g)) (.agg #[.int .i64 r.o, .int .i64 r.a, .int .i64 r.b, .int .i64 r.n]) true).run Tryz.prog (w1.alloc (.cells #[.int .i64 r.o, .int .i64 r.a, .int .i64 r.b, .int .i64 r.n] 70)) = .ok (.tuple #[.int .i64 v, .bool true]) (w1.alloc (.cells #[.int .i64 r.o, .int .i64 r.a, .int .i64 r.b, .int .i64 r.n] 70)) := QL
        have HNX := Hid.mk hnx
        clear hnx hm hM hvv
        have hsz9 := B.size
        have hT9 := hTc
        have hO9 := HO.out.kept B
        have hA9 := HA.out.kept B
        have hS9 := HS.out.trans (Sm.below B)
        have SQ : Sm (fun q => q = Q) (w1.alloc (.cells #[.int .i64 r.o, .int .i64 r.a, .int .i64 r.b, .int .i64 r.n] 70)) ((w1.alloc (.cells #[.int .i64 r.o, .int .i64 r.a, .int .i64 r.b, .int .i64 r.n] 70)).setCell ⟨Q, k, none⟩ (.int .i64 v)) := Sm.cell (X := fun q => q = Q) rfl _
        have hOc := Hid.mk hO9
        have hQc := tab_cell hO9 hlt
        have hQf := tab_frozen hO9 k
        have O8 := Hid.mk (tab_store hO9 k v)
        have T8 := Hid.mk (hT9.sm SQ (by omega))
        have A8 := Hid.mk (hA9.sm SQ (fun b hb e => by simp only [Option.some.injEq] at hb; subst hb; simp only at e; omega))
        have S8 := Hid.mk (hS9.newCell (p := ⟨Q, k, none⟩) (by have := hQw.out; simp only; omega) (.int .i64 v))
        have Q8 : Hid (Q < ((w1.alloc (.cells #[.int .i64 r.o, .int .i64 r.a, .int .i64 r.b, .int .i64 r.n] 70)).setCell ⟨Q, k, none⟩ (.int .i64 v)).heap.size) := Hid.mk (by have h1 := SQ.size; omega)
        clear SQ hOc hO9 hT9 hA9 hS9 B
        clear hTc
        go_wp2
        go_roundw
        case rel => exact ⟨k + 1, by omega, by go_num, by rw [HNX.out]; exact O8.out, by rw [HNX.out]; exact T8.out, A8.out, S8.out, Q8⟩
        case measure => (simp [intOf]; omega)
      · rw [if_neg hm, tmIdx_out hm] at hnx
        have hM : tmM tb r = none := by unfold tmM; rw [if_neg hm]
        rw [hM] at QL
        simp only [Option.isSome_none, Option.getD_none] at QL
        replace QL : (Instr.lookup 60 (.map (some g)) (.agg #[.int .i64 r.o, .int .i64 r.a, .int .i64 r.b, .int .i64 r.n]) true).run Tryz.prog (w1.alloc (.cells #[.int .i64 r.o, .int .i64 r.a, .int .i64 r.b, .int .i64 r.n] 70)) = .ok (.tuple #[.int .i64 0, .bool false]) (w1.alloc (.cells #[.int .i64 r.o, .int .i64 r.a, .int .i64 r.b, .int .i64 r.n] 70)) := QL
        have QN : ∀ ty : TypeId, (Builtin.len_ #[60] ty #[.map (some g)]).run Tryz.prog (w1.alloc (.cells #[.int .i64 r.o, .int .i64 r.a, .int .i64 r.b, .int .i64 r.n] 70)) = .ok (.int .i64 tb.length) (w1.alloc (.cells #[.int .i64 r.o, .int .i64 r.a, .int .i64 r.b, .int .i64 r.n] 70)) := fun ty => hTc.len ty 0
        have hsn := tmM_snoc hm
        have HNX := Hid.mk hnx
        have HM := Hid.mk hM
        have hsz9 := B.size
        have hO9 := Hid.mk (HO.out.kept B)
        have hA9 := Hid.mk (HA.out.kept B)
        have hS9 := Hid.mk (HS.out.trans (Sm.below B))
        clear hnx hm hM
        obtain ⟨v, hvv⟩ : ∃ v, tb.length = v := ⟨_, rfl⟩
        rw [hvv] at QN HNX hsn hTc htl
        go_wp2_with (refine wpList_TMstore _ rfl _ _ _ rfl g (tmM tb) v hTc r hro v (okI_of (by omega) (by omega)) HM.out (by omega) rfl rfl rfl ?_)
        intro w7 hT7 hturn
        try rw [hsn] at hT7
        have S7 := Sm.turn (X := fun q => q = g) hturn rfl
        have hO9 := hO9.out.sm S7 (fun b hb e => by simp only [Option.some.injEq] at hb; subst hb; simp only at e; omega)
        have hA9 := hA9.out.sm S7 (fun b hb e => by simp only [Option.some.injEq] at hb; subst hb; exact hbg e)
        have hS9 := hS9.out.trans S7
        have hsz7 := S7.size
        have hT9 := hT7
        clear S7 hturn hT7 hTc
        clear QL QN
        have SQ : Sm (fun q => q = Q) w7 (w7.setCell ⟨Q, k, none⟩ (.int .i64 v)) := Sm.cell (X := fun q => q = Q) rfl _
        have hOc := Hid.mk hO9
        have hQc := tab_cell hO9 hlt
        have hQf := tab_frozen hO9 k
        have O8 := Hid.mk (tab_store hO9 k v)
        have T8 := Hid.mk (hT9.sm SQ (by omega))
        have A8 := Hid.mk (hA9.sm SQ (fun b hb e => by simp only [Option.some.injEq] at hb; subst hb; simp only at e; omega))
        have S8 := Hid.mk (hS9.newCell (p := ⟨Q, k, none⟩) (by have := hQw.out; simp only; omega) (.int .i64 v))
        have Q8 : Hid (Q < (w7.setCell ⟨Q, k, none⟩ (.int .i64 v)).heap.size) := Hid.mk (by have h1 := SQ.size; omega)
        clear SQ hOc hO9 hT9 hA9 hS9 B
        go_wp2
        go_roundw
        case rel => exact ⟨k + 1, by omega, by go_num, by rw [HNX.out]; exact O8.out, by rw [HNX.out, List.length_append, hvv]; exact T8.out, A8.out, S8.out, Q8⟩
        case measure => (simp [intOf]; omega)
    · obtain rfl : k = n := by omega
      have HO := Hid.mk O
      have HT := Hid.mk hT
      have HS := Hid.mk S
      clear O hT S ha
      go_wp2
      go_ret
      exact ⟨_, _, rfl, (hQw.out.symm ▸ HO.out), HT.out, HS.out⟩

end Go.Proofs.YtfldgeokigcokaaGreat
