/- Put together: MvE, MvF, MvG, MvH, MvI, MvJ, MvM. -/
import Derived.Test.YtedippfnlaiapaaDoorMva
import Derived.Test.YtedippfnlaiapaaDoorTmS
import Derived.Test.YtedippfnlaiapaaDoorTmU
import Derived.Test.YtedippfnlaiapaaDoorTmW
import Derived.Test.YtedippfnlaiapaaDoorMp
import Derived.Test.YtedippfnlaiapaaDoorTmE
import Derived.Test.YtedippfnlaiapaaDoorTmZ

/- Terms moved: the model. -/
namespace Go.Proofs.YtedippfnlaiapaaDoor
open Go.RowKit

theorem mv_ways {x : T4} (h : 1 ≤ x.o ∧ x.o ≤ 7) (B : Bare x) (pl : Int → Int) : (kids x.o = 0 ∧ (x.o == 7) = false ∧ mvT x pl = ⟨x.o, 0, 0, x.n⟩) ∨ (kids x.o = 1 ∧ (x.o == 7) = false ∧ mvT x pl = ⟨x.o, pl x.a, 0, x.n⟩)
    ∨ (kids x.o = 2 ∧ (x.o == 7) = false ∧ mvT x pl = ⟨x.o, pl x.a, pl x.b, x.n⟩) ∨ (kids x.o = 2 ∧ x.o = 7 ∧ mvT x pl = bothT (pl x.a) (pl x.b)) := by
  obtain ⟨o, a, b, n⟩ := x
  unfold Bare at B
  simp only [beq_eq_false_iff_ne] at *
  rcases mvT_ways (t := ⟨o, a, b, n⟩) h pl with ⟨e, hr⟩ | ⟨_, e, hr⟩ | ⟨_, _, e, hk, hr⟩ | ⟨_, _, _, e, hk, hr⟩ | ⟨e1, e2, e3, e4, hk, hr⟩
  · simp only at e hr; subst e
    rw [kids1] at B
    rw [hr, B.2.1 (by decide), B.2.2 (by decide)]
    exact .inl ⟨kids1, by decide, rfl⟩
  · simp only at e hr; subst e
    rw [kids2] at B
    rw [hr, B.2.1 (by decide), B.2.2 (by decide)]
    exact .inl ⟨kids2, by decide, rfl⟩
  · simp only at e hr; subst e
    rw [kids6] at B
    rw [hr, B.1 (by decide)]
    exact .inr (.inl ⟨kids6, by decide, rfl⟩)
  · simp only at e hr; subst e
    rw [hr]
    exact .inr (.inr (.inr ⟨kids7, rfl, by unfold bothT; rfl⟩))
  · simp only [beq_eq_false_iff_ne] at *
    have hk2 : kids o = 2 := by rcases kids_cases o with h | h | h <;> omega
    rw [hr, B.1 (by omega)]
    exact .inr (.inr (.inl ⟨hk2, e4, rfl⟩))

theorem World.size_setCells (w : World) (B o : Nat) (vs : List Value) : (w.setCells B o vs).heap.size = w.heap.size := by
  induction vs generalizing w o with
  | nil => rfl
  | cons v vs ih => exact (ih _ _).trans (by simp [World.setCell])

/-- What a call of 'l5Move' leaves. -/
def MoveAt (M : Mv) (m : Nat) (w : World) (e : Ending) (w' : World) : Prop :=
  ∃ c d, e = .returned (.agg #[.int .i64 M.c, .int .i64 (if M.c = 0 then M.pl m else 0), .slice c (if M.c = 0 then M.tb else []).length d]) ∧ OwnTerm w' w.heap.size c d (if M.c = 0 then M.tb else []) ∧ Below w.heap.size w w'

theorem MoveAt.bad {M : Mv} {m : Nat} {w w' : World} {e : Ending} {kc : Int} {pl : Int → Int} {tb : List T4} (h : M = ⟨kc, pl, tb⟩) (hc : kc ≠ 0) (he : e = .returned (.agg #[.int .i64 kc, .int .i64 0, .slice none 0 0])) (B : Below w.heap.size w w') : MoveAt M m w e w' := by
  subst h
  subst he
  unfold MoveAt
  dsimp only
  rw [if_neg hc, if_neg hc]
  exact ⟨none, 0, rfl, OwnTerm.none, B⟩

theorem MoveAt.good {M : Mv} {m L : Nat} {w w' : World} {e : Ending} {pl : Int → Int} {tb : List T4} {c : Option Addr} {d : Nat} (h : ⟨0, pl, tb⟩ = M) (hL : tb.length = L) (he : e = .returned (.agg #[.int .i64 0, .int .i64 (pl m), .slice c L d])) (O : OwnTerm w' w.heap.size c d tb) (B : Below w.heap.size w w') : MoveAt M m w e w' := by
  subst h
  subst he
  subst hL
  unfold MoveAt
  dsimp only
  rw [if_pos rfl, if_pos rfl]
  exact ⟨c, d, rfl, O, B⟩

set_option maxRecDepth 20000 in
set_option maxHeartbeats 8000000 in
theorem l5Move_ok (a : Option Addr) (n ca : Nat) (fr : List T4) (m : Nat) (b : Option Addr) (nb cb : Nat) (tb : List T4) (w : World) (ha : RdTerm w a fr) (hn : fr.length = n) (hv : tfC fr = 0) (hm : m < n) (hlow : Hid (∀ b : Addr, a = some b → b.block < w.heap.size))
    (hb : RdTerm w b tb) (hnb : tb.length = nb) (hl : nb ≤ 400) (hcb : b = none → cb = 0) (M : Mv) (hM : mvR fr (prL fr m) (fun _ => 0) tb = M) :
    Calls Tryd.prog 28 #[.slice a n ca, .int .i64 m, .slice b nb cb] w (MoveAt M m w) := by
  have q1 := build_t1
  have q2 := build_tr12
  have q3 := build_tr0'
  have hn4 : n ≤ 400 := by have := (tfC_zero hv).1; omega
  have CP := Hid.mk (fun w h hl => l5Parts_ok a n ca fr m w h hn hv hm hl)
  have CC := Hid.mk (fun w h => l5Copy_ok b nb cb tb w h hnb (by omega) hcb)
  have HAh := Hid.mk (tfC_ahead hv)
  have HV := Hid.mk hv
  have HML := Hid.mk (show ∀ z ∈ prL fr m, 0 ≤ z ∧ z ≤ m from fun z hz => prL_range hz)
  have hlz := prL_len fr m
  obtain ⟨zs, hzs⟩ : ∃ zs, prL fr m = zs := ⟨_, rfl⟩
  rw [hzs] at hM CP HML hlz
  have hM0 : Hid (mvR fr (zs.drop 0) (fun _ => 0) tb = M ∧ PlOk (fun _ => 0) ∧ tb.length ≤ 400) := Hid.mk ⟨by rw [List.drop_zero]; exact hM, PlOk.zero, by omega⟩
  have HN := Hid.mk hn
  have HNB := Hid.mk hnb
  obtain ⟨i0, hi, hz0, hz1, hz2⟩ := info_parts Tryd.infoI64
  clear hv hM hzs hcb
  go_enter Tryd.func28, Tryd.ntmps28
  have B := Below.refl w.heap.size w
  replace ha := ha.kept (belowA w (.cells #[.int .i64 0, .int .i64 0, .slice none 0 0] 28))
  replace hb := hb.kept (belowA w (.cells #[.int .i64 0, .int .i64 0, .slice none 0 0] 28))
  replace B := thenB B (belowA w (.cells #[.int .i64 0, .int .i64 0, .slice none 0 0] 28))
  have VR := V.new w [.int .i64 0, .int .i64 0, .slice none 0 0] 28
  obtain ⟨s_VR, f_VR, z_VR⟩ := VR.open
  have Bo := B
  go_wp2_with fail
  refine (CP.out _ ha (Hid.mk (fun b' hb' => by have := hlow.out b' hb'; have := B.size; omega))).mono ?_
  rintro e w1 ⟨c3, d3, l, rfl, hk, OP, b1⟩
  clear s_VR f_VR z_VR
  have S1 := b1.size
  simp only [World.size_alloc] at S1
  replace VR := VR.kept b1
  replace ha := ha.kept b1
  replace hb := hb.kept b1
  replace B := thenB B b1
  clear b1
  obtain ⟨s_VR, f_VR, z_VR⟩ := VR.open
  have Bo := B
  have HPl := Hid.mk (fun ad (hq : c3 = some ad) => (OP.lt ad hq))
  go_wp2_with (at_make; go_loud (refine wpList_make_full _ rfl _ _ 38 rfl w1.heap.size 2 i0 (.int .i64 0) 1 Tryd.underlying38 hi hz0 hz1 .i64 .i64 _ _ (m + 1) rfl rfl (by omega) (by omega) (by rw [hz2]; omega) (by unfold maxLen; omega) (Nat.le_refl _) ?_))
  intro w2 hown hgrow
  have O0 : Own .i64 2 w2 w1.heap.size (some ⟨w1.heap.size, 0, none⟩) (m + 1) (tab (m + 1) (fun _ => 0)) := by
    refine Own.mk ?_ (tab_len _ _)
    rw [tab_zero]
    simpa [toList_madeCells_one] using hown
  have bg : Below w1.heap.size w1 w2 := (Sm.grown (X := fun _ => False) hgrow (fun k e => by cases e)).below' (Below.refl _ _) (Nat.le_refl _) (fun k e => e.elim)
  clear s_VR f_VR z_VR
  replace VR := VR.kept bg
  replace ha := ha.kept bg
  replace hb := hb.kept bg
  replace OP := OP.kept bg
  replace B := thenB B bg
  have hS2 : w1.heap.size < w2.heap.size := by have := O0.lt _ rfl; simp only at this; omega
  have hQ2 : w.heap.size < w1.heap.size := by have := S1; (try simp only [World.size_alloc] at this); omega
  clear hown hgrow bg hi hz0 hz1 hz2
  obtain ⟨Q, hQ⟩ : ∃ Q, w1.heap.size = Q := ⟨_, rfl⟩
  rw [hQ] at O0 hS2 hQ2 HPl ⊢
  replace HPl : Hid (∀ ad : Addr, c3 = some ad → w.heap.size < ad.block ∧ ad.block < Q) := Hid.mk (fun ad hq => by have h := HPl.out ad hq; (try simp only [World.size_alloc] at h); omega)
  clear hQ S1
  obtain ⟨s_VR, f_VR, z_VR⟩ := VR.open
  have Bo := B
  go_wp2_with fail
  refine (CC.out _ hb).mono ?_
  rintro e w2 ⟨c4, d4, rfl, OC, b2⟩
  clear s_VR f_VR z_VR
  have S2 := b2.size
  replace VR := VR.kept b2
  replace ha := ha.kept b2
  replace hb := hb.kept b2
  replace OP := OP.kept b2
  replace O0 := O0.kept b2
  replace B := thenB B b2
  clear b2
  obtain ⟨s_VR, f_VR, z_VR⟩ := VR.open
  have Bo := B
  clear s_VR f_VR z_VR
  have OC0 := OC.mono (base' := w.heap.size) (by omega)
  have hOQ := Hid.mk (fun ad (hq : c4 = some ad) => (OC.lt ad hq).1)
  have RP := Hid.mk OP.rd
  have HK := Hid.mk hk
  have hl5 : l ≤ 401 := by have := HK.out; omega
  clear hlz
  have B0 := Hid.mk B
  have O1 := Hid.mk O0
  have OC1 := Hid.mk OC0
  have VR0 := Hid.mk VR
  have HA := Hid.mk ha
  have hQZ := Hid.mk (show Q < w2.heap.size by omega)
  have hCQ : Hid (∀ ad : Addr, c4 = some ad → ad.block ≠ Q ∧ ad.block ≠ w.heap.size) := Hid.mk (fun ad hq => by have := hOQ.out ad hq; omega)
  clear ha hb O0 OC0 OC VR OP B Bo hk hOQ
  go_wp2
  go_loopw [9, 10] (fun s i wr => ∃ (k : Nat) (c' : Option Addr) (d' L : Nat) (pl : Int → Int) (tb : List T4), k ≤ l ∧ i = .int .i64 k ∧ s = .slice c' L d' ∧ Hid (tb.length = L) ∧ Hid (mvR fr (zs.drop k) pl tb = M ∧ PlOk pl ∧ tb.length ≤ 400) ∧ OwnTerm wr w.heap.size c' d' tb ∧ RdTerm wr a fr ∧ Own .i64 2 wr Q (some ⟨Q, 0, none⟩) (m + 1) (tab (m + 1) pl) ∧ Rd .i64 wr c3 zs ∧ V wr w.heap.size [.int .i64 0, .int .i64 0, .slice none 0 0] ∧ Below w.heap.size w wr ∧ Hid (Q < wr.heap.size) ∧ Hid (∀ ad : Addr, c' = some ad → ad.block ≠ Q ∧ ad.block ≠ w.heap.size)) (fun _ i _ => l - (intOf i).toNat)
  case atStart => exact ⟨0, c4, d4, nb, fun _ => 0, tb, Nat.zero_le _, rfl, rfl, HNB, hM0, OC1.out, HA.out, O1.out, RP.out, VR0.out, B0.out, hQZ, hCQ⟩
  case round =>
    clear hM0 O1 OC1 RP VR0 B0 hQZ HA hCQ
    obtain ⟨k, c1, d1, L, pl, tb, hk1, rfl, rfl, hL, hdr, OT, ha, O, RP, VR, B0, hQZ, hCQ⟩ := hrel
    by_cases hlt : k < l
    · obtain ⟨z, hz⟩ : ∃ z, zs.getD k 0 = z := ⟨_, rfl⟩
      have hk2 : (k : Int) < (l : Int) := by omega
      have hzm := HML.out z (by rw [← hz]; exact igetD_mem (by rw [HK.out]; exact hlt))
      obtain ⟨u, rfl⟩ : ∃ u : Nat, z = (u : Int) := ⟨z.toNat, by omega⟩
      have hum : u < m + 1 := by omega
      have hum1 : (u : Int) < (m : Int) + 1 := by omega
      have hun1 : (u : Int) < (n : Int) := by omega
      obtain ⟨x, hx1⟩ : ∃ x, fr.getD u zTerm = x := ⟨_, rfl⟩
      have hs := mvR_drop fr zs pl tb k (by rw [HK.out]; exact hlt) hz
      have htm : tmAt fr (u : Int) = x := by unfold tmAt; rw [Int.toNat_natCast]; exact hx1
      rw [htm, hdr.out.1] at hs
      have hBare := (tfC_nice HV.out).bare u (by rw [HN.out]; omega)
      rw [hx1] at hBare
      have hop := op_right HV.out u (by rw [HN.out]; omega) hx1
      obtain ⟨ha1, hb1⟩ := HAh.out u (by rw [HN.out]; omega)
      rw [hx1] at ha1 hb1
      have hL4 : L ≤ 400 := by have := hdr.out.2.2; have := hL.out; omega
      have CPP := Hid.mk (fun t c d w h hc => l5Put_ok c L d tb t w h hL.out (by omega) hc)
      have CB := Hid.mk (fun x y c d w h hc => l5Both_ok c L d tb x y w h hL.out (by omega) hc)
      have HPO := Hid.mk hdr.out.2.1
      have hput := put_len (xs := tb) (t := mvT x pl) hdr.out.2.2
      have hpk := put_k (xs := tb) (t := mvT x pl) hdr.out.2.2
      have HW := mv_ways hop hBare pl
      have hnc := Hid.mk (ownTerm_nocap OT)
      have HOT := Hid.mk OT
      have HO := Hid.mk O
      have HRP := Hid.mk RP
      have HVR := Hid.mk VR
      have HA := Hid.mk ha
      rcases ha with h9 | ⟨b1, o1, rfl, hca⟩
      · have := HN.out; rw [h9] at this; simp at this; omega
      obtain ⟨p0, p1, p2, p3⟩ := RdTerm.cells hca u (by rw [HN.out]; omega) x hx1
      rcases RP with h9 | ⟨g4, o4, rfl, hcp⟩
      · have := HK.out; rw [h9] at this; simp at this; omega
      have pz := hcp k (by rw [HK.out]; exact hlt)
      rw [hz] at pz
      have hg4 := HPl.out _ rfl
      simp only at hg4
      have hQw := hQZ.out
      have VRl := VR.1
      have hQc := tab_cell O hum
      have hQf := tab_frozen O u
      clear hca hcp hz hx1 htm hop hBare hdr hzm OT VR
      obtain ⟨xo, xa, xb, xn⟩ := x
      simp only at *
      rcases HW with ⟨hk, h7, hr⟩ | ⟨hk, h7, hr⟩ | ⟨hk, h7, hr⟩ | ⟨hk, h7, hr⟩
      · skip
        rw [hk] at ha1 hb1
        have CK := Hid.mk (fun w => l5Kids_ok xo w)
        rw [hk] at CK
        rw [hr] at hs hput hpk
        replace CPP := Hid.mk (fun c d w h hc => CPP.out ⟨xo, 0, 0, xn⟩ c d w h hc)
        generalize put tb ⟨xo, 0, 0, xn⟩ = P at *
        obtain ⟨kc, kk, ls⟩ := P
        simp only at *
        obtain ⟨kl, hkl⟩ : ∃ q, ls.length = q := ⟨_, rfl⟩
        rw [hkl] at CPP hput
        replace hkl := Hid.mk hkl
        clear O
        by_cases hc : kc = 0
        · skip
          subst hc
          rw [if_pos rfl] at hs
          have HS := Hid.mk hs
          clear hs
          have B := Below.refl wr.heap.size wr
          replace B := thenB B (belowA wr (.cells #[.int .i64 xo, .int .i64 xa, .int .i64 xb, .int .i64 xn] 66))
          have VX := V.new wr [.int .i64 xo, .int .i64 xa, .int .i64 xb, .int .i64 xn] 66
          obtain ⟨s_VX, f_VX, z_VX⟩ := VX.open
          have Bo := B
          go_wp2_with fail
          refine (CK.out _).mono ?_
          rintro e wq ⟨rfl, rfl⟩
          go_wp2_with fail
          refine (CK.out _).mono ?_
          rintro e wq ⟨rfl, rfl⟩
          go_wp2_with fail
          replace VX := VX.kept (belowA (wr.alloc (.cells #[.int .i64 xo, .int .i64 xa, .int .i64 xb, .int .i64 xn] 66)) (.cells #[.int .i64 xo, .int .i64 0, .int .i64 0, .int .i64 xn] 66))
          replace B := thenB B (belowA (wr.alloc (.cells #[.int .i64 xo, .int .i64 xa, .int .i64 xb, .int .i64 xn] 66)) (.cells #[.int .i64 xo, .int .i64 0, .int .i64 0, .int .i64 xn] 66))
          have VY : V ((wr.alloc (.cells #[.int .i64 xo, .int .i64 xa, .int .i64 xb, .int .i64 xn] 66)).alloc (.cells #[.int .i64 xo, .int .i64 0, .int .i64 0, .int .i64 xn] 66)) (wr.heap.size + 1) [.int .i64 xo, .int .i64 0, .int .i64 0, .int .i64 xn] := V.newAt _ _ _ _ (by simp)
          refine (CPP.out _ _ _ (HOT.out.kept B).rd hnc.out).mono ?_
          rintro e w101 ⟨c6, d6, rfl, O6, b101⟩
          clear s_VX f_VX z_VX
          have S101 := b101.size
          simp only [World.size_alloc] at S101
          replace VX := VX.kept b101
          replace VY := VY.kept b101
          replace B := thenB B b101
          clear b101
          obtain ⟨s_VX, f_VX, z_VX⟩ := VX.open
          obtain ⟨s_VY, f_VY, z_VY⟩ := VY.open
          have Bo := B
          replace VX := VX.kept (belowA w101 (.cells #[.int .i64 0, .int .i64 kk, .slice c6 kl d6] 28))
          replace VY := VY.kept (belowA w101 (.cells #[.int .i64 0, .int .i64 kk, .slice c6 kl d6] 28))
          replace O6 := O6.kept (belowA w101 (.cells #[.int .i64 0, .int .i64 kk, .slice c6 kl d6] 28))
          replace B := thenB B (belowA w101 (.cells #[.int .i64 0, .int .i64 kk, .slice c6 kl d6] 28))
          have VW := V.new w101 [.int .i64 0, .int .i64 kk, .slice c6 kl d6] 28
          clear s_VX f_VX z_VX s_VY f_VY z_VY
          obtain ⟨s_VX, f_VX, z_VX⟩ := VX.open
          obtain ⟨s_VY, f_VY, z_VY⟩ := VY.open
          obtain ⟨s_VW, f_VW, z_VW⟩ := VW.open
          have Bo := B
          clear s_VX f_VX z_VX s_VY f_VY z_VY s_VW f_VW z_VW
          have hgz := ((bcell B).1 _ _ (show g4 < wr.heap.size by omega)).trans pz
          have hQc2 := ((bcell B).1 _ _ (show Q < wr.heap.size by omega)).trans hQc
          have hQf2 := ((bcell B).2 _ _ (show Q < wr.heap.size by omega)).trans hQf
          have hsB := B.size
          have hVWl := VW.1
          have hVWQ : w101.heap.size ≠ Q := by (try simp); omega
          have hg4Q : g4 ≠ Q := by omega
          have K : ∀ w' : World, Below (w101.alloc (.cells #[.int .i64 0, .int .i64 kk, .slice c6 kl d6] 28)).heap.size (w101.alloc (.cells #[.int .i64 0, .int .i64 kk, .slice c6 kl d6] 28)) w' → (w'.cell? ⟨w101.heap.size, 0, none⟩ = some (.int .i64 0) ∧ w'.cell? ⟨w101.heap.size, 1, none⟩ = some (.int .i64 kk) ∧ w'.cell? ⟨w101.heap.size, 2, none⟩ = some (.slice c6 kl d6) ∧ w'.cell? ⟨g4, o4 + k, none⟩ = some (.int .i64 u)) := fun w' h => ⟨(VW.kept h).2.1 0 (by simp), (VW.kept h).2.1 1 (by simp), (VW.kept h).2.1 2 (by simp), ((bcell h).1 _ _ (by omega)).trans hgz⟩
          have K := Hid.mk K
          have BD : Below wr.heap.size wr (w101.alloc (.cells #[.int .i64 0, .int .i64 kk, .slice c6 kl d6] 28)).drew := thenB B (Below.refl _ _).drew
          have SQ : Sm (fun q => q = Q) (w101.alloc (.cells #[.int .i64 0, .int .i64 kk, .slice c6 kl d6] 28)).drew ((w101.alloc (.cells #[.int .i64 0, .int .i64 kk, .slice c6 kl d6] 28)).drew.setCell ⟨Q, u, none⟩ (.int .i64 kk)) := Sm.cell (X := fun q => q = Q) rfl _
          have O8 := Hid.mk (tab_store (HO.out.kept BD) u kk)
          have RP8 := Hid.mk ((HRP.out.kept BD).sm SQ (fun b hb e => by simp only [Option.some.injEq] at hb; subst hb; simp only at e; omega))
          have VR8 := Hid.mk ((HVR.out.kept BD).sm SQ (by omega))
          have A8 := Hid.mk ((HA.out.kept BD).sm SQ (fun b hb e => by simp only [Option.some.injEq] at hb; subst hb; have := hlow.out _ rfl; simp only at e this; omega))
          have hOl := Hid.mk (fun b (hb : c6 = some b) => (O6.lt b hb).1)
          have hNQ : Hid (∀ ad : Addr, c6 = some ad → ad.block ≠ Q ∧ ad.block ≠ w.heap.size) := Hid.mk (fun ad hq => by have := hOl.out ad hq; first | omega | (simp at this; omega))
          have OT8 := Hid.mk (((O6.kept (Below.refl _ _).drew).mono (base' := w.heap.size) (by first | omega | (simp; omega))).sm SQ (fun b hb e => (hNQ.out b hb).1 e))
          have B8 := Hid.mk ((thenB B0 BD).setCell (p := ⟨Q, u, none⟩) (by simp only; omega) (.int .i64 kk))
          have Q8 : Hid (Q < ((w101.alloc (.cells #[.int .i64 0, .int .i64 kk, .slice c6 kl d6] 28)).drew.setCell ⟨Q, u, none⟩ (.int .i64 kk)).heap.size) := Hid.mk (by have h1 := SQ.size; have h2 := BD.size; omega)
          have D8 : Hid (mvR fr (zs.drop (k + 1)) (updP pl u kk) ls = M ∧ PlOk (updP pl u kk) ∧ ls.length ≤ 400) := Hid.mk ⟨HS.out.symm, HPO.out.upd hpk, by rw [hkl.out]; exact hput⟩
          clear SQ BD B
          obtain ⟨s_VX, f_VX, z_VX⟩ := VX.open
          obtain ⟨s_VY, f_VY, z_VY⟩ := VY.open
          obtain ⟨s_VW, f_VW, z_VW⟩ := VW.open
          go_wp2_with fail
          clear s_VX f_VX z_VX s_VY f_VY z_VY s_VW f_VW z_VW
          refine wp_region_held_drew (S := (fun w' => w'.cell? ⟨w101.heap.size, 0, none⟩ = some (.int .i64 0) ∧ w'.cell? ⟨w101.heap.size, 1, none⟩ = some (.int .i64 kk) ∧ w'.cell? ⟨w101.heap.size, 2, none⟩ = some (.slice c6 kl d6) ∧ w'.cell? ⟨g4, o4 + k, none⟩ = some (.int .i64 u))) (by kernel_rfl) (K.out _ (Below.refl _ _).drew) (fun hHeld => ?_)
          refine wpAnyH_take (i := 0) (oi := _) (v := ?vmv100u1) rfl (by kernel_rfl) (by kernel_rfl) (by kernel_rfl) (fun _ _ _ h => h) (Or.inl ⟨by rfl, ?hymv100u1⟩) hHeld ?restmv100u1
          case hymv100u1 => (intro w hSw; (try dsimp only at hSw); go_simp; first | done | with_reducible rfl)
          try simp only [Act.put, List.getElem_toArray, List.getElem_cons_zero, List.setIfInBounds_toArray, List.set_cons_zero, List.set_cons_succ]
          refine wpAnyH_take (i := 1) (oi := _) (v := ?vmv100u2) rfl (by kernel_rfl) (by kernel_rfl) (by kernel_rfl) (fun _ _ _ h => h) (Or.inl ⟨by rfl, ?hymv100u2⟩) hHeld ?restmv100u2
          case hymv100u2 => (intro w hSw; (try dsimp only at hSw); go_simp; first | done | with_reducible rfl)
          try simp only [Act.put, List.getElem_toArray, List.getElem_cons_zero, List.getElem_cons_succ, List.setIfInBounds_toArray, List.set_cons_zero, List.set_cons_succ]
          refine wpAnyH_take (i := 2) (oi := _) (v := ?vmv100u3) rfl (by kernel_rfl) (by kernel_rfl) (by kernel_rfl) (fun _ _ _ h => h) (Or.inl ⟨by rfl, ?hymv100u3⟩) hHeld ?restmv100u3
          case hymv100u3 => (intro w hSw; (try dsimp only at hSw); go_simp; first | done | with_reducible rfl)
          try simp only [Act.put, List.getElem_toArray, List.getElem_cons_zero, List.getElem_cons_succ, List.setIfInBounds_toArray, List.set_cons_zero, List.set_cons_succ]
          refine wpAnyH_take (i := 3) (oi := _) (v := ?vmv100u4) rfl (by kernel_rfl) (by kernel_rfl) (by kernel_rfl) (fun _ _ _ h => h) (Or.inl ⟨by rfl, ?hymv100u4⟩) hHeld ?restmv100u4
          case hymv100u4 => (intro w hSw; (try dsimp only at hSw); go_simp; first | done | with_reducible rfl)
          try simp only [Act.put, List.getElem_toArray, List.getElem_cons_zero, List.getElem_cons_succ, List.setIfInBounds_toArray, List.set_cons_zero, List.set_cons_succ]
          refine wpAnyH_take (i := 4) (oi := _) (v := ?vmv100u5) rfl (by kernel_rfl) (by kernel_rfl) (by kernel_rfl) (fun _ _ _ h => h) (Or.inl ⟨by rfl, ?hymv100u5⟩) hHeld ?restmv100u5
          case hymv100u5 => (intro w hSw; (try dsimp only at hSw); go_simp; first | done | with_reducible rfl)
          try simp only [Act.put, List.getElem_toArray, List.getElem_cons_zero, List.getElem_cons_succ, List.setIfInBounds_toArray, List.set_cons_zero, List.set_cons_succ]
          refine wpAnyH_take (i := 5) (oi := _) (v := ?vmv100u6) rfl (by kernel_rfl) (by kernel_rfl) (by kernel_rfl) (fun _ _ _ h => h) (Or.inl ⟨by rfl, ?hymv100u6⟩) hHeld ?restmv100u6
          case hymv100u6 => (intro w hSw; (try dsimp only at hSw); go_simp; first | done | with_reducible rfl)
          try simp only [Act.put, List.getElem_toArray, List.getElem_cons_zero, List.getElem_cons_succ, List.setIfInBounds_toArray, List.set_cons_zero, List.set_cons_succ]
          refine wpAnyH_take (i := 6) (oi := _) (v := ?vmv100u7) rfl (by kernel_rfl) (by kernel_rfl) (by kernel_rfl) (fun _ _ _ h => h) (Or.inl ⟨by rfl, ?hymv100u7⟩) hHeld ?restmv100u7
          case hymv100u7 => (intro w hSw; (try dsimp only at hSw); go_simp; first | done | with_reducible rfl)
          try simp only [Act.put, List.getElem_toArray, List.getElem_cons_zero, List.getElem_cons_succ, List.setIfInBounds_toArray, List.set_cons_zero, List.set_cons_succ]
          refine wpAnyH_take (i := 7) (oi := _) (v := ?vmv100u8) rfl (by kernel_rfl) (by kernel_rfl) (by kernel_rfl) (fun _ _ _ h => h) (Or.inl ⟨by rfl, ?hymv100u8⟩) hHeld ?restmv100u8
          case hymv100u8 => (intro w hSw; (try dsimp only at hSw); go_simp; first | done | with_reducible rfl)
          try simp only [Act.put, List.getElem_toArray, List.getElem_cons_zero, List.getElem_cons_succ, List.setIfInBounds_toArray, List.set_cons_zero, List.set_cons_succ]
          have hd0 := (Below.refl (w101.alloc (.cells #[.int .i64 0, .int .i64 kk, .slice c6 kl d6] 28)).heap.size (w101.alloc (.cells #[.int .i64 0, .int .i64 kk, .slice c6 kl d6] 28))).drew
          have qc := ((bcell hd0).1 _ _ (show Q < (w101.alloc (.cells #[.int .i64 0, .int .i64 kk, .slice c6 kl d6] 28)).heap.size by omega)).trans hQc2
          have qf := ((bcell hd0).2 _ _ (show Q < (w101.alloc (.cells #[.int .i64 0, .int .i64 kk, .slice c6 kl d6] 28)).heap.size by omega)).trans hQf2
          have hH2 := hHeld
          try dsimp only at hH2
          obtain ⟨e1, e2, e3, e4⟩ := hH2
          refine wpAnyH_ready (rs := [8]) (by kernel_rfl) (by simp) ?_
          refine AllReadyH.cons (o := _) rfl (fun K0 hK0 => ?_) AllReadyH.nil
          go_simp
          refine hK0.out _ _ (⟨(cell_far hVWQ _).trans e1, (cell_far hVWQ _).trans e2, (cell_far hVWQ _).trans e3, (cell_far hg4Q _).trans e4⟩) (fun hHeld => ?_)
          clear hK0 K0
          try simp only [Act.put, List.getElem_toArray, List.getElem_cons_zero, List.getElem_cons_succ, List.setIfInBounds_toArray, List.set_cons_zero, List.set_cons_succ]
          refine wpAnyH_done (by kernel_rfl) ?_ _
          go_wp2
          go_roundw
          case rel => exact ⟨k + 1, c6, d6, kl, updP pl u kk, ls, by omega, by go_num, rfl, hkl, D8, OT8.out, A8.out, O8.out, RP8.out, VR8.out, B8.out, Q8, hNQ⟩
          case measure => (simp [intOf]; omega)
        · skip
          rw [if_neg hc] at hs
          have hcc : (kc != 0) = true := by simp [hc]
          have HS := Hid.mk hs
          have HC := Hid.mk hc
          clear hs hc
          have B := Below.refl wr.heap.size wr
          replace B := thenB B (belowA wr (.cells #[.int .i64 xo, .int .i64 xa, .int .i64 xb, .int .i64 xn] 66))
          have VX := V.new wr [.int .i64 xo, .int .i64 xa, .int .i64 xb, .int .i64 xn] 66
          obtain ⟨s_VX, f_VX, z_VX⟩ := VX.open
          have Bo := B
          go_wp2_with fail
          refine (CK.out _).mono ?_
          rintro e wq ⟨rfl, rfl⟩
          go_wp2_with fail
          refine (CK.out _).mono ?_
          rintro e wq ⟨rfl, rfl⟩
          go_wp2_with fail
          replace VX := VX.kept (belowA (wr.alloc (.cells #[.int .i64 xo, .int .i64 xa, .int .i64 xb, .int .i64 xn] 66)) (.cells #[.int .i64 xo, .int .i64 0, .int .i64 0, .int .i64 xn] 66))
          replace B := thenB B (belowA (wr.alloc (.cells #[.int .i64 xo, .int .i64 xa, .int .i64 xb, .int .i64 xn] 66)) (.cells #[.int .i64 xo, .int .i64 0, .int .i64 0, .int .i64 xn] 66))
          have VY : V ((wr.alloc (.cells #[.int .i64 xo, .int .i64 xa, .int .i64 xb, .int .i64 xn] 66)).alloc (.cells #[.int .i64 xo, .int .i64 0, .int .i64 0, .int .i64 xn] 66)) (wr.heap.size + 1) [.int .i64 xo, .int .i64 0, .int .i64 0, .int .i64 xn] := V.newAt _ _ _ _ (by simp)
          refine (CPP.out _ _ _ (HOT.out.kept B).rd hnc.out).mono ?_
          rintro e w111 ⟨c6, d6, rfl, O6, b111⟩
          clear s_VX f_VX z_VX
          have S111 := b111.size
          simp only [World.size_alloc] at S111
          replace VX := VX.kept b111
          replace VY := VY.kept b111
          replace B := thenB B b111
          clear b111
          obtain ⟨s_VX, f_VX, z_VX⟩ := VX.open
          obtain ⟨s_VY, f_VY, z_VY⟩ := VY.open
          have Bo := B
          replace VX := VX.kept (belowA w111 (.cells #[.int .i64 kc, .int .i64 kk, .slice c6 kl d6] 28))
          replace VY := VY.kept (belowA w111 (.cells #[.int .i64 kc, .int .i64 kk, .slice c6 kl d6] 28))
          replace O6 := O6.kept (belowA w111 (.cells #[.int .i64 kc, .int .i64 kk, .slice c6 kl d6] 28))
          replace B := thenB B (belowA w111 (.cells #[.int .i64 kc, .int .i64 kk, .slice c6 kl d6] 28))
          have VW := V.new w111 [.int .i64 kc, .int .i64 kk, .slice c6 kl d6] 28
          clear s_VX f_VX z_VX s_VY f_VY z_VY
          obtain ⟨s_VX, f_VX, z_VX⟩ := VX.open
          obtain ⟨s_VY, f_VY, z_VY⟩ := VY.open
          obtain ⟨s_VW, f_VW, z_VW⟩ := VW.open
          have Bo := B
          clear s_VX f_VX z_VX s_VY f_VY z_VY s_VW f_VW z_VW
          have VR := HVR.out.kept B
          replace B := thenB B0 B
          obtain ⟨s_VX, f_VX, z_VX⟩ := VX.open
          obtain ⟨s_VW, f_VW, z_VW⟩ := VW.open
          obtain ⟨s_VR, f_VR, z_VR⟩ := VR.open
          have Bo := B
          clear s_VX f_VX z_VX s_VW f_VW z_VW s_VR f_VR z_VR
          have VF := Hid.mk (VR.filled [.int .i64 kc, .int .i64 0, .slice none 0 0] rfl)
          have HT := Hid.mk VR.there
          have BR := belowCells B (show w.heap.size ≤ w.heap.size by (first | omega | (simp; done) | (simp; omega))) 0 [.int .i64 kc, .int .i64 0, .slice none 0 0]
          replace BR := Hid.mk BR
          obtain ⟨s_VX, f_VX, z_VX⟩ := VX.open
          obtain ⟨s_VW, f_VW, z_VW⟩ := VW.open
          obtain ⟨s_VR, f_VR, z_VR⟩ := VR.open
          go_wp2_with (refine wpList_store_mid rfl 28 _ _ rfl (w.heap.size) 0 #[.int .i64 kc, .int .i64 0, .slice none 0 0] rfl rfl HT.out (by kernel_rfl) (by kernel_rfl) ?_)
          refine bodyPost_ret (v := .agg #[.int .i64 kc, .int .i64 0, .slice none 0 0]) (results_row Tryd.results28 _ _ (w.heap.size) [.int .i64 kc, .int .i64 0, .slice none 0 0] _ rfl VF.out Tryd.underlying28 rfl (by kernel_rfl)) rfl (MoveAt.bad HS.out HC.out rfl BR.out)
      · skip
        rw [hk] at ha1 hb1
        obtain ⟨a0, a1⟩ := ha1 (by decide)
        obtain ⟨i, rfl⟩ : ∃ i : Nat, xa = (i : Int) := ⟨xa.toNat, by omega⟩
        have him : (i : Int) < (m : Int) + 1 := by omega
        have hQa := tab_cell O (i := i) (by omega)
        have CK := Hid.mk (fun w => l5Kids_ok xo w)
        rw [hk] at CK
        rw [hr] at hs hput hpk
        obtain ⟨va, hva⟩ : ∃ v, pl i = v := ⟨_, rfl⟩
        rw [hva] at hQa hs hput hpk
        replace CPP := Hid.mk (fun c d w h hc => CPP.out ⟨xo, va, 0, xn⟩ c d w h hc)
        generalize put tb ⟨xo, va, 0, xn⟩ = P at *
        obtain ⟨kc, kk, ls⟩ := P
        simp only at *
        obtain ⟨kl, hkl⟩ : ∃ q, ls.length = q := ⟨_, rfl⟩
        rw [hkl] at CPP hput
        replace hkl := Hid.mk hkl
        clear O
        by_cases hc : kc = 0
        · skip
          subst hc
          rw [if_pos rfl] at hs
          have HS := Hid.mk hs
          clear hs
          have B := Below.refl wr.heap.size wr
          replace B := thenB B (belowA wr (.cells #[.int .i64 xo, .int .i64 i, .int .i64 xb, .int .i64 xn] 66))
          have VX := V.new wr [.int .i64 xo, .int .i64 i, .int .i64 xb, .int .i64 xn] 66
          obtain ⟨s_VX, f_VX, z_VX⟩ := VX.open
          have Bo := B
          go_wp2_with fail
          refine (CK.out _).mono ?_
          rintro e wq ⟨rfl, rfl⟩
          go_wp2_with fail
          refine (CK.out _).mono ?_
          rintro e wq ⟨rfl, rfl⟩
          go_wp2_with fail
          replace VX := VX.kept (belowA (wr.alloc (.cells #[.int .i64 xo, .int .i64 i, .int .i64 xb, .int .i64 xn] 66)) (.cells #[.int .i64 xo, .int .i64 va, .int .i64 0, .int .i64 xn] 66))
          replace B := thenB B (belowA (wr.alloc (.cells #[.int .i64 xo, .int .i64 i, .int .i64 xb, .int .i64 xn] 66)) (.cells #[.int .i64 xo, .int .i64 va, .int .i64 0, .int .i64 xn] 66))
          have VY : V ((wr.alloc (.cells #[.int .i64 xo, .int .i64 i, .int .i64 xb, .int .i64 xn] 66)).alloc (.cells #[.int .i64 xo, .int .i64 va, .int .i64 0, .int .i64 xn] 66)) (wr.heap.size + 1) [.int .i64 xo, .int .i64 va, .int .i64 0, .int .i64 xn] := V.newAt _ _ _ _ (by simp)
          refine (CPP.out _ _ _ (HOT.out.kept B).rd hnc.out).mono ?_
          rintro e w201 ⟨c6, d6, rfl, O6, b201⟩
          clear s_VX f_VX z_VX
          have S201 := b201.size
          simp only [World.size_alloc] at S201
          replace VX := VX.kept b201
          replace VY := VY.kept b201
          replace B := thenB B b201
          clear b201
          obtain ⟨s_VX, f_VX, z_VX⟩ := VX.open
          obtain ⟨s_VY, f_VY, z_VY⟩ := VY.open
          have Bo := B
          replace VX := VX.kept (belowA w201 (.cells #[.int .i64 0, .int .i64 kk, .slice c6 kl d6] 28))
          replace VY := VY.kept (belowA w201 (.cells #[.int .i64 0, .int .i64 kk, .slice c6 kl d6] 28))
          replace O6 := O6.kept (belowA w201 (.cells #[.int .i64 0, .int .i64 kk, .slice c6 kl d6] 28))
          replace B := thenB B (belowA w201 (.cells #[.int .i64 0, .int .i64 kk, .slice c6 kl d6] 28))
          have VW := V.new w201 [.int .i64 0, .int .i64 kk, .slice c6 kl d6] 28
          clear s_VX f_VX z_VX s_VY f_VY z_VY
          obtain ⟨s_VX, f_VX, z_VX⟩ := VX.open
          obtain ⟨s_VY, f_VY, z_VY⟩ := VY.open
          obtain ⟨s_VW, f_VW, z_VW⟩ := VW.open
          have Bo := B
          clear s_VX f_VX z_VX s_VY f_VY z_VY s_VW f_VW z_VW
          have hgz := ((bcell B).1 _ _ (show g4 < wr.heap.size by omega)).trans pz
          have hQc2 := ((bcell B).1 _ _ (show Q < wr.heap.size by omega)).trans hQc
          have hQf2 := ((bcell B).2 _ _ (show Q < wr.heap.size by omega)).trans hQf
          have hsB := B.size
          have hVWl := VW.1
          have hVWQ : w201.heap.size ≠ Q := by (try simp); omega
          have hg4Q : g4 ≠ Q := by omega
          have K : ∀ w' : World, Below (w201.alloc (.cells #[.int .i64 0, .int .i64 kk, .slice c6 kl d6] 28)).heap.size (w201.alloc (.cells #[.int .i64 0, .int .i64 kk, .slice c6 kl d6] 28)) w' → (w'.cell? ⟨w201.heap.size, 0, none⟩ = some (.int .i64 0) ∧ w'.cell? ⟨w201.heap.size, 1, none⟩ = some (.int .i64 kk) ∧ w'.cell? ⟨w201.heap.size, 2, none⟩ = some (.slice c6 kl d6) ∧ w'.cell? ⟨g4, o4 + k, none⟩ = some (.int .i64 u)) := fun w' h => ⟨(VW.kept h).2.1 0 (by simp), (VW.kept h).2.1 1 (by simp), (VW.kept h).2.1 2 (by simp), ((bcell h).1 _ _ (by omega)).trans hgz⟩
          have K := Hid.mk K
          have BD : Below wr.heap.size wr (w201.alloc (.cells #[.int .i64 0, .int .i64 kk, .slice c6 kl d6] 28)).drew := thenB B (Below.refl _ _).drew
          have SQ : Sm (fun q => q = Q) (w201.alloc (.cells #[.int .i64 0, .int .i64 kk, .slice c6 kl d6] 28)).drew ((w201.alloc (.cells #[.int .i64 0, .int .i64 kk, .slice c6 kl d6] 28)).drew.setCell ⟨Q, u, none⟩ (.int .i64 kk)) := Sm.cell (X := fun q => q = Q) rfl _
          have O8 := Hid.mk (tab_store (HO.out.kept BD) u kk)
          have RP8 := Hid.mk ((HRP.out.kept BD).sm SQ (fun b hb e => by simp only [Option.some.injEq] at hb; subst hb; simp only at e; omega))
          have VR8 := Hid.mk ((HVR.out.kept BD).sm SQ (by omega))
          have A8 := Hid.mk ((HA.out.kept BD).sm SQ (fun b hb e => by simp only [Option.some.injEq] at hb; subst hb; have := hlow.out _ rfl; simp only at e this; omega))
          have hOl := Hid.mk (fun b (hb : c6 = some b) => (O6.lt b hb).1)
          have hNQ : Hid (∀ ad : Addr, c6 = some ad → ad.block ≠ Q ∧ ad.block ≠ w.heap.size) := Hid.mk (fun ad hq => by have := hOl.out ad hq; first | omega | (simp at this; omega))
          have OT8 := Hid.mk (((O6.kept (Below.refl _ _).drew).mono (base' := w.heap.size) (by first | omega | (simp; omega))).sm SQ (fun b hb e => (hNQ.out b hb).1 e))
          have B8 := Hid.mk ((thenB B0 BD).setCell (p := ⟨Q, u, none⟩) (by simp only; omega) (.int .i64 kk))
          have Q8 : Hid (Q < ((w201.alloc (.cells #[.int .i64 0, .int .i64 kk, .slice c6 kl d6] 28)).drew.setCell ⟨Q, u, none⟩ (.int .i64 kk)).heap.size) := Hid.mk (by have h1 := SQ.size; have h2 := BD.size; omega)
          have D8 : Hid (mvR fr (zs.drop (k + 1)) (updP pl u kk) ls = M ∧ PlOk (updP pl u kk) ∧ ls.length ≤ 400) := Hid.mk ⟨HS.out.symm, HPO.out.upd hpk, by rw [hkl.out]; exact hput⟩
          clear SQ BD B
          obtain ⟨s_VX, f_VX, z_VX⟩ := VX.open
          obtain ⟨s_VY, f_VY, z_VY⟩ := VY.open
          obtain ⟨s_VW, f_VW, z_VW⟩ := VW.open
          go_wp2_with fail
          clear s_VX f_VX z_VX s_VY f_VY z_VY s_VW f_VW z_VW
          refine wp_region_held_drew (S := (fun w' => w'.cell? ⟨w201.heap.size, 0, none⟩ = some (.int .i64 0) ∧ w'.cell? ⟨w201.heap.size, 1, none⟩ = some (.int .i64 kk) ∧ w'.cell? ⟨w201.heap.size, 2, none⟩ = some (.slice c6 kl d6) ∧ w'.cell? ⟨g4, o4 + k, none⟩ = some (.int .i64 u))) (by kernel_rfl) (K.out _ (Below.refl _ _).drew) (fun hHeld => ?_)
          refine wpAnyH_take (i := 0) (oi := _) (v := ?vmv200u1) rfl (by kernel_rfl) (by kernel_rfl) (by kernel_rfl) (fun _ _ _ h => h) (Or.inl ⟨by rfl, ?hymv200u1⟩) hHeld ?restmv200u1
          case hymv200u1 => (intro w hSw; (try dsimp only at hSw); go_simp; first | done | with_reducible rfl)
          try simp only [Act.put, List.getElem_toArray, List.getElem_cons_zero, List.setIfInBounds_toArray, List.set_cons_zero, List.set_cons_succ]
          refine wpAnyH_take (i := 1) (oi := _) (v := ?vmv200u2) rfl (by kernel_rfl) (by kernel_rfl) (by kernel_rfl) (fun _ _ _ h => h) (Or.inl ⟨by rfl, ?hymv200u2⟩) hHeld ?restmv200u2
          case hymv200u2 => (intro w hSw; (try dsimp only at hSw); go_simp; first | done | with_reducible rfl)
          try simp only [Act.put, List.getElem_toArray, List.getElem_cons_zero, List.getElem_cons_succ, List.setIfInBounds_toArray, List.set_cons_zero, List.set_cons_succ]
          refine wpAnyH_take (i := 2) (oi := _) (v := ?vmv200u3) rfl (by kernel_rfl) (by kernel_rfl) (by kernel_rfl) (fun _ _ _ h => h) (Or.inl ⟨by rfl, ?hymv200u3⟩) hHeld ?restmv200u3
          case hymv200u3 => (intro w hSw; (try dsimp only at hSw); go_simp; first | done | with_reducible rfl)
          try simp only [Act.put, List.getElem_toArray, List.getElem_cons_zero, List.getElem_cons_succ, List.setIfInBounds_toArray, List.set_cons_zero, List.set_cons_succ]
          refine wpAnyH_take (i := 3) (oi := _) (v := ?vmv200u4) rfl (by kernel_rfl) (by kernel_rfl) (by kernel_rfl) (fun _ _ _ h => h) (Or.inl ⟨by rfl, ?hymv200u4⟩) hHeld ?restmv200u4
          case hymv200u4 => (intro w hSw; (try dsimp only at hSw); go_simp; first | done | with_reducible rfl)
          try simp only [Act.put, List.getElem_toArray, List.getElem_cons_zero, List.getElem_cons_succ, List.setIfInBounds_toArray, List.set_cons_zero, List.set_cons_succ]
          refine wpAnyH_take (i := 4) (oi := _) (v := ?vmv200u5) rfl (by kernel_rfl) (by kernel_rfl) (by kernel_rfl) (fun _ _ _ h => h) (Or.inl ⟨by rfl, ?hymv200u5⟩) hHeld ?restmv200u5
          case hymv200u5 => (intro w hSw; (try dsimp only at hSw); go_simp; first | done | with_reducible rfl)
          try simp only [Act.put, List.getElem_toArray, List.getElem_cons_zero, List.getElem_cons_succ, List.setIfInBounds_toArray, List.set_cons_zero, List.set_cons_succ]
          refine wpAnyH_take (i := 5) (oi := _) (v := ?vmv200u6) rfl (by kernel_rfl) (by kernel_rfl) (by kernel_rfl) (fun _ _ _ h => h) (Or.inl ⟨by rfl, ?hymv200u6⟩) hHeld ?restmv200u6
          case hymv200u6 => (intro w hSw; (try dsimp only at hSw); go_simp; first | done | with_reducible rfl)
          try simp only [Act.put, List.getElem_toArray, List.getElem_cons_zero, List.getElem_cons_succ, List.setIfInBounds_toArray, List.set_cons_zero, List.set_cons_succ]
          refine wpAnyH_take (i := 6) (oi := _) (v := ?vmv200u7) rfl (by kernel_rfl) (by kernel_rfl) (by kernel_rfl) (fun _ _ _ h => h) (Or.inl ⟨by rfl, ?hymv200u7⟩) hHeld ?restmv200u7
          case hymv200u7 => (intro w hSw; (try dsimp only at hSw); go_simp; first | done | with_reducible rfl)
          try simp only [Act.put, List.getElem_toArray, List.getElem_cons_zero, List.getElem_cons_succ, List.setIfInBounds_toArray, List.set_cons_zero, List.set_cons_succ]
          refine wpAnyH_take (i := 7) (oi := _) (v := ?vmv200u8) rfl (by kernel_rfl) (by kernel_rfl) (by kernel_rfl) (fun _ _ _ h => h) (Or.inl ⟨by rfl, ?hymv200u8⟩) hHeld ?restmv200u8
          case hymv200u8 => (intro w hSw; (try dsimp only at hSw); go_simp; first | done | with_reducible rfl)
          try simp only [Act.put, List.getElem_toArray, List.getElem_cons_zero, List.getElem_cons_succ, List.setIfInBounds_toArray, List.set_cons_zero, List.set_cons_succ]
          have hd0 := (Below.refl (w201.alloc (.cells #[.int .i64 0, .int .i64 kk, .slice c6 kl d6] 28)).heap.size (w201.alloc (.cells #[.int .i64 0, .int .i64 kk, .slice c6 kl d6] 28))).drew
          have qc := ((bcell hd0).1 _ _ (show Q < (w201.alloc (.cells #[.int .i64 0, .int .i64 kk, .slice c6 kl d6] 28)).heap.size by omega)).trans hQc2
          have qf := ((bcell hd0).2 _ _ (show Q < (w201.alloc (.cells #[.int .i64 0, .int .i64 kk, .slice c6 kl d6] 28)).heap.size by omega)).trans hQf2
          have hH2 := hHeld
          try dsimp only at hH2
          obtain ⟨e1, e2, e3, e4⟩ := hH2
          refine wpAnyH_ready (rs := [8]) (by kernel_rfl) (by simp) ?_
          refine AllReadyH.cons (o := _) rfl (fun K0 hK0 => ?_) AllReadyH.nil
          go_simp
          refine hK0.out _ _ (⟨(cell_far hVWQ _).trans e1, (cell_far hVWQ _).trans e2, (cell_far hVWQ _).trans e3, (cell_far hg4Q _).trans e4⟩) (fun hHeld => ?_)
          clear hK0 K0
          try simp only [Act.put, List.getElem_toArray, List.getElem_cons_zero, List.getElem_cons_succ, List.setIfInBounds_toArray, List.set_cons_zero, List.set_cons_succ]
          refine wpAnyH_done (by kernel_rfl) ?_ _
          go_wp2
          go_roundw
          case rel => exact ⟨k + 1, c6, d6, kl, updP pl u kk, ls, by omega, by go_num, rfl, hkl, D8, OT8.out, A8.out, O8.out, RP8.out, VR8.out, B8.out, Q8, hNQ⟩
          case measure => (simp [intOf]; omega)
        · skip
          rw [if_neg hc] at hs
          have hcc : (kc != 0) = true := by simp [hc]
          have HS := Hid.mk hs
          have HC := Hid.mk hc
          clear hs hc
          have B := Below.refl wr.heap.size wr
          replace B := thenB B (belowA wr (.cells #[.int .i64 xo, .int .i64 i, .int .i64 xb, .int .i64 xn] 66))
          have VX := V.new wr [.int .i64 xo, .int .i64 i, .int .i64 xb, .int .i64 xn] 66
          obtain ⟨s_VX, f_VX, z_VX⟩ := VX.open
          have Bo := B
          go_wp2_with fail
          refine (CK.out _).mono ?_
          rintro e wq ⟨rfl, rfl⟩
          go_wp2_with fail
          refine (CK.out _).mono ?_
          rintro e wq ⟨rfl, rfl⟩
          go_wp2_with fail
          replace VX := VX.kept (belowA (wr.alloc (.cells #[.int .i64 xo, .int .i64 i, .int .i64 xb, .int .i64 xn] 66)) (.cells #[.int .i64 xo, .int .i64 va, .int .i64 0, .int .i64 xn] 66))
          replace B := thenB B (belowA (wr.alloc (.cells #[.int .i64 xo, .int .i64 i, .int .i64 xb, .int .i64 xn] 66)) (.cells #[.int .i64 xo, .int .i64 va, .int .i64 0, .int .i64 xn] 66))
          have VY : V ((wr.alloc (.cells #[.int .i64 xo, .int .i64 i, .int .i64 xb, .int .i64 xn] 66)).alloc (.cells #[.int .i64 xo, .int .i64 va, .int .i64 0, .int .i64 xn] 66)) (wr.heap.size + 1) [.int .i64 xo, .int .i64 va, .int .i64 0, .int .i64 xn] := V.newAt _ _ _ _ (by simp)
          refine (CPP.out _ _ _ (HOT.out.kept B).rd hnc.out).mono ?_
          rintro e w211 ⟨c6, d6, rfl, O6, b211⟩
          clear s_VX f_VX z_VX
          have S211 := b211.size
          simp only [World.size_alloc] at S211
          replace VX := VX.kept b211
          replace VY := VY.kept b211
          replace B := thenB B b211
          clear b211
          obtain ⟨s_VX, f_VX, z_VX⟩ := VX.open
          obtain ⟨s_VY, f_VY, z_VY⟩ := VY.open
          have Bo := B
          replace VX := VX.kept (belowA w211 (.cells #[.int .i64 kc, .int .i64 kk, .slice c6 kl d6] 28))
          replace VY := VY.kept (belowA w211 (.cells #[.int .i64 kc, .int .i64 kk, .slice c6 kl d6] 28))
          replace O6 := O6.kept (belowA w211 (.cells #[.int .i64 kc, .int .i64 kk, .slice c6 kl d6] 28))
          replace B := thenB B (belowA w211 (.cells #[.int .i64 kc, .int .i64 kk, .slice c6 kl d6] 28))
          have VW := V.new w211 [.int .i64 kc, .int .i64 kk, .slice c6 kl d6] 28
          clear s_VX f_VX z_VX s_VY f_VY z_VY
          obtain ⟨s_VX, f_VX, z_VX⟩ := VX.open
          obtain ⟨s_VY, f_VY, z_VY⟩ := VY.open
          obtain ⟨s_VW, f_VW, z_VW⟩ := VW.open
          have Bo := B
          clear s_VX f_VX z_VX s_VY f_VY z_VY s_VW f_VW z_VW
          have VR := HVR.out.kept B
          replace B := thenB B0 B
          obtain ⟨s_VX, f_VX, z_VX⟩ := VX.open
          obtain ⟨s_VW, f_VW, z_VW⟩ := VW.open
          obtain ⟨s_VR, f_VR, z_VR⟩ := VR.open
          have Bo := B
          clear s_VX f_VX z_VX s_VW f_VW z_VW s_VR f_VR z_VR
          have VF := Hid.mk (VR.filled [.int .i64 kc, .int .i64 0, .slice none 0 0] rfl)
          have HT := Hid.mk VR.there
          have BR := belowCells B (show w.heap.size ≤ w.heap.size by (first | omega | (simp; done) | (simp; omega))) 0 [.int .i64 kc, .int .i64 0, .slice none 0 0]
          replace BR := Hid.mk BR
          obtain ⟨s_VX, f_VX, z_VX⟩ := VX.open
          obtain ⟨s_VW, f_VW, z_VW⟩ := VW.open
          obtain ⟨s_VR, f_VR, z_VR⟩ := VR.open
          go_wp2_with (refine wpList_store_mid rfl 28 _ _ rfl (w.heap.size) 0 #[.int .i64 kc, .int .i64 0, .slice none 0 0] rfl rfl HT.out (by kernel_rfl) (by kernel_rfl) ?_)
          refine bodyPost_ret (v := .agg #[.int .i64 kc, .int .i64 0, .slice none 0 0]) (results_row Tryd.results28 _ _ (w.heap.size) [.int .i64 kc, .int .i64 0, .slice none 0 0] _ rfl VF.out Tryd.underlying28 rfl (by kernel_rfl)) rfl (MoveAt.bad HS.out HC.out rfl BR.out)
      · skip
        rw [hk] at ha1 hb1
        obtain ⟨a0, a1⟩ := ha1 (by decide)
        obtain ⟨i, rfl⟩ : ∃ i : Nat, xa = (i : Int) := ⟨xa.toNat, by omega⟩
        have him : (i : Int) < (m : Int) + 1 := by omega
        have hQa := tab_cell O (i := i) (by omega)
        obtain ⟨b0, b9⟩ := hb1 (by decide)
        obtain ⟨j, rfl⟩ : ∃ j : Nat, xb = (j : Int) := ⟨xb.toNat, by omega⟩
        have hjm : (j : Int) < (m : Int) + 1 := by omega
        have hQb := tab_cell O (i := j) (by omega)
        have CK := Hid.mk (fun w => l5Kids_ok xo w)
        rw [hk] at CK
        rw [hr] at hs hput hpk
        obtain ⟨va, hva⟩ : ∃ v, pl i = v := ⟨_, rfl⟩
        rw [hva] at hQa hs hput hpk
        obtain ⟨vb, hvb⟩ : ∃ v, pl j = v := ⟨_, rfl⟩
        rw [hvb] at hQb hs hput hpk
        replace CPP := Hid.mk (fun c d w h hc => CPP.out ⟨xo, va, vb, xn⟩ c d w h hc)
        generalize put tb ⟨xo, va, vb, xn⟩ = P at *
        obtain ⟨kc, kk, ls⟩ := P
        simp only at *
        obtain ⟨kl, hkl⟩ : ∃ q, ls.length = q := ⟨_, rfl⟩
        rw [hkl] at CPP hput
        replace hkl := Hid.mk hkl
        clear O
        by_cases hc : kc = 0
        · skip
          subst hc
          rw [if_pos rfl] at hs
          have HS := Hid.mk hs
          clear hs
          have B := Below.refl wr.heap.size wr
          replace B := thenB B (belowA wr (.cells #[.int .i64 xo, .int .i64 i, .int .i64 j, .int .i64 xn] 66))
          have VX := V.new wr [.int .i64 xo, .int .i64 i, .int .i64 j, .int .i64 xn] 66
          obtain ⟨s_VX, f_VX, z_VX⟩ := VX.open
          have Bo := B
          go_wp2_with fail
          refine (CK.out _).mono ?_
          rintro e wq ⟨rfl, rfl⟩
          go_wp2_with fail
          refine (CK.out _).mono ?_
          rintro e wq ⟨rfl, rfl⟩
          go_wp2_with fail
          replace VX := VX.kept (belowA (wr.alloc (.cells #[.int .i64 xo, .int .i64 i, .int .i64 j, .int .i64 xn] 66)) (.cells #[.int .i64 xo, .int .i64 va, .int .i64 vb, .int .i64 xn] 66))
          replace B := thenB B (belowA (wr.alloc (.cells #[.int .i64 xo, .int .i64 i, .int .i64 j, .int .i64 xn] 66)) (.cells #[.int .i64 xo, .int .i64 va, .int .i64 vb, .int .i64 xn] 66))
          have VY : V ((wr.alloc (.cells #[.int .i64 xo, .int .i64 i, .int .i64 j, .int .i64 xn] 66)).alloc (.cells #[.int .i64 xo, .int .i64 va, .int .i64 vb, .int .i64 xn] 66)) (wr.heap.size + 1) [.int .i64 xo, .int .i64 va, .int .i64 vb, .int .i64 xn] := V.newAt _ _ _ _ (by simp)
          refine (CPP.out _ _ _ (HOT.out.kept B).rd hnc.out).mono ?_
          rintro e w301 ⟨c6, d6, rfl, O6, b301⟩
          clear s_VX f_VX z_VX
          have S301 := b301.size
          simp only [World.size_alloc] at S301
          replace VX := VX.kept b301
          replace VY := VY.kept b301
          replace B := thenB B b301
          clear b301
          obtain ⟨s_VX, f_VX, z_VX⟩ := VX.open
          obtain ⟨s_VY, f_VY, z_VY⟩ := VY.open
          have Bo := B
          replace VX := VX.kept (belowA w301 (.cells #[.int .i64 0, .int .i64 kk, .slice c6 kl d6] 28))
          replace VY := VY.kept (belowA w301 (.cells #[.int .i64 0, .int .i64 kk, .slice c6 kl d6] 28))
          replace O6 := O6.kept (belowA w301 (.cells #[.int .i64 0, .int .i64 kk, .slice c6 kl d6] 28))
          replace B := thenB B (belowA w301 (.cells #[.int .i64 0, .int .i64 kk, .slice c6 kl d6] 28))
          have VW := V.new w301 [.int .i64 0, .int .i64 kk, .slice c6 kl d6] 28
          clear s_VX f_VX z_VX s_VY f_VY z_VY
          obtain ⟨s_VX, f_VX, z_VX⟩ := VX.open
          obtain ⟨s_VY, f_VY, z_VY⟩ := VY.open
          obtain ⟨s_VW, f_VW, z_VW⟩ := VW.open
          have Bo := B
          clear s_VX f_VX z_VX s_VY f_VY z_VY s_VW f_VW z_VW
          have hgz := ((bcell B).1 _ _ (show g4 < wr.heap.size by omega)).trans pz
          have hQc2 := ((bcell B).1 _ _ (show Q < wr.heap.size by omega)).trans hQc
          have hQf2 := ((bcell B).2 _ _ (show Q < wr.heap.size by omega)).trans hQf
          have hsB := B.size
          have hVWl := VW.1
          have hVWQ : w301.heap.size ≠ Q := by (try simp); omega
          have hg4Q : g4 ≠ Q := by omega
          have K : ∀ w' : World, Below (w301.alloc (.cells #[.int .i64 0, .int .i64 kk, .slice c6 kl d6] 28)).heap.size (w301.alloc (.cells #[.int .i64 0, .int .i64 kk, .slice c6 kl d6] 28)) w' → (w'.cell? ⟨w301.heap.size, 0, none⟩ = some (.int .i64 0) ∧ w'.cell? ⟨w301.heap.size, 1, none⟩ = some (.int .i64 kk) ∧ w'.cell? ⟨w301.heap.size, 2, none⟩ = some (.slice c6 kl d6) ∧ w'.cell? ⟨g4, o4 + k, none⟩ = some (.int .i64 u)) := fun w' h => ⟨(VW.kept h).2.1 0 (by simp), (VW.kept h).2.1 1 (by simp), (VW.kept h).2.1 2 (by simp), ((bcell h).1 _ _ (by omega)).trans hgz⟩
          have K := Hid.mk K
          have BD : Below wr.heap.size wr (w301.alloc (.cells #[.int .i64 0, .int .i64 kk, .slice c6 kl d6] 28)).drew := thenB B (Below.refl _ _).drew
          have SQ : Sm (fun q => q = Q) (w301.alloc (.cells #[.int .i64 0, .int .i64 kk, .slice c6 kl d6] 28)).drew ((w301.alloc (.cells #[.int .i64 0, .int .i64 kk, .slice c6 kl d6] 28)).drew.setCell ⟨Q, u, none⟩ (.int .i64 kk)) := Sm.cell (X := fun q => q = Q) rfl _
          have O8 := Hid.mk (tab_store (HO.out.kept BD) u kk)
          have RP8 := Hid.mk ((HRP.out.kept BD).sm SQ (fun b hb e => by simp only [Option.some.injEq] at hb; subst hb; simp only at e; omega))
          have VR8 := Hid.mk ((HVR.out.kept BD).sm SQ (by omega))
          have A8 := Hid.mk ((HA.out.kept BD).sm SQ (fun b hb e => by simp only [Option.some.injEq] at hb; subst hb; have := hlow.out _ rfl; simp only at e this; omega))
          have hOl := Hid.mk (fun b (hb : c6 = some b) => (O6.lt b hb).1)
          have hNQ : Hid (∀ ad : Addr, c6 = some ad → ad.block ≠ Q ∧ ad.block ≠ w.heap.size) := Hid.mk (fun ad hq => by have := hOl.out ad hq; first | omega | (simp at this; omega))
          have OT8 := Hid.mk (((O6.kept (Below.refl _ _).drew).mono (base' := w.heap.size) (by first | omega | (simp; omega))).sm SQ (fun b hb e => (hNQ.out b hb).1 e))
          have B8 := Hid.mk ((thenB B0 BD).setCell (p := ⟨Q, u, none⟩) (by simp only; omega) (.int .i64 kk))
          have Q8 : Hid (Q < ((w301.alloc (.cells #[.int .i64 0, .int .i64 kk, .slice c6 kl d6] 28)).drew.setCell ⟨Q, u, none⟩ (.int .i64 kk)).heap.size) := Hid.mk (by have h1 := SQ.size; have h2 := BD.size; omega)
          have D8 : Hid (mvR fr (zs.drop (k + 1)) (updP pl u kk) ls = M ∧ PlOk (updP pl u kk) ∧ ls.length ≤ 400) := Hid.mk ⟨HS.out.symm, HPO.out.upd hpk, by rw [hkl.out]; exact hput⟩
          clear SQ BD B
          obtain ⟨s_VX, f_VX, z_VX⟩ := VX.open
          obtain ⟨s_VY, f_VY, z_VY⟩ := VY.open
          obtain ⟨s_VW, f_VW, z_VW⟩ := VW.open
          go_wp2_with fail
          clear s_VX f_VX z_VX s_VY f_VY z_VY s_VW f_VW z_VW
          refine wp_region_held_drew (S := (fun w' => w'.cell? ⟨w301.heap.size, 0, none⟩ = some (.int .i64 0) ∧ w'.cell? ⟨w301.heap.size, 1, none⟩ = some (.int .i64 kk) ∧ w'.cell? ⟨w301.heap.size, 2, none⟩ = some (.slice c6 kl d6) ∧ w'.cell? ⟨g4, o4 + k, none⟩ = some (.int .i64 u))) (by kernel_rfl) (K.out _ (Below.refl _ _).drew) (fun hHeld => ?_)
          refine wpAnyH_take (i := 0) (oi := _) (v := ?vmv300u1) rfl (by kernel_rfl) (by kernel_rfl) (by kernel_rfl) (fun _ _ _ h => h) (Or.inl ⟨by rfl, ?hymv300u1⟩) hHeld ?restmv300u1
          case hymv300u1 => (intro w hSw; (try dsimp only at hSw); go_simp; first | done | with_reducible rfl)
          try simp only [Act.put, List.getElem_toArray, List.getElem_cons_zero, List.setIfInBounds_toArray, List.set_cons_zero, List.set_cons_succ]
          refine wpAnyH_take (i := 1) (oi := _) (v := ?vmv300u2) rfl (by kernel_rfl) (by kernel_rfl) (by kernel_rfl) (fun _ _ _ h => h) (Or.inl ⟨by rfl, ?hymv300u2⟩) hHeld ?restmv300u2
          case hymv300u2 => (intro w hSw; (try dsimp only at hSw); go_simp; first | done | with_reducible rfl)
          try simp only [Act.put, List.getElem_toArray, List.getElem_cons_zero, List.getElem_cons_succ, List.setIfInBounds_toArray, List.set_cons_zero, List.set_cons_succ]
          refine wpAnyH_take (i := 2) (oi := _) (v := ?vmv300u3) rfl (by kernel_rfl) (by kernel_rfl) (by kernel_rfl) (fun _ _ _ h => h) (Or.inl ⟨by rfl, ?hymv300u3⟩) hHeld ?restmv300u3
          case hymv300u3 => (intro w hSw; (try dsimp only at hSw); go_simp; first | done | with_reducible rfl)
          try simp only [Act.put, List.getElem_toArray, List.getElem_cons_zero, List.getElem_cons_succ, List.setIfInBounds_toArray, List.set_cons_zero, List.set_cons_succ]
          refine wpAnyH_take (i := 3) (oi := _) (v := ?vmv300u4) rfl (by kernel_rfl) (by kernel_rfl) (by kernel_rfl) (fun _ _ _ h => h) (Or.inl ⟨by rfl, ?hymv300u4⟩) hHeld ?restmv300u4
          case hymv300u4 => (intro w hSw; (try dsimp only at hSw); go_simp; first | done | with_reducible rfl)
          try simp only [Act.put, List.getElem_toArray, List.getElem_cons_zero, List.getElem_cons_succ, List.setIfInBounds_toArray, List.set_cons_zero, List.set_cons_succ]
          refine wpAnyH_take (i := 4) (oi := _) (v := ?vmv300u5) rfl (by kernel_rfl) (by kernel_rfl) (by kernel_rfl) (fun _ _ _ h => h) (Or.inl ⟨by rfl, ?hymv300u5⟩) hHeld ?restmv300u5
          case hymv300u5 => (intro w hSw; (try dsimp only at hSw); go_simp; first | done | with_reducible rfl)
          try simp only [Act.put, List.getElem_toArray, List.getElem_cons_zero, List.getElem_cons_succ, List.setIfInBounds_toArray, List.set_cons_zero, List.set_cons_succ]
          refine wpAnyH_take (i := 5) (oi := _) (v := ?vmv300u6) rfl (by kernel_rfl) (by kernel_rfl) (by kernel_rfl) (fun _ _ _ h => h) (Or.inl ⟨by rfl, ?hymv300u6⟩) hHeld ?restmv300u6
          case hymv300u6 => (intro w hSw; (try dsimp only at hSw); go_simp; first | done | with_reducible rfl)
          try simp only [Act.put, List.getElem_toArray, List.getElem_cons_zero, List.getElem_cons_succ, List.setIfInBounds_toArray, List.set_cons_zero, List.set_cons_succ]
          refine wpAnyH_take (i := 6) (oi := _) (v := ?vmv300u7) rfl (by kernel_rfl) (by kernel_rfl) (by kernel_rfl) (fun _ _ _ h => h) (Or.inl ⟨by rfl, ?hymv300u7⟩) hHeld ?restmv300u7
          case hymv300u7 => (intro w hSw; (try dsimp only at hSw); go_simp; first | done | with_reducible rfl)
          try simp only [Act.put, List.getElem_toArray, List.getElem_cons_zero, List.getElem_cons_succ, List.setIfInBounds_toArray, List.set_cons_zero, List.set_cons_succ]
          refine wpAnyH_take (i := 7) (oi := _) (v := ?vmv300u8) rfl (by kernel_rfl) (by kernel_rfl) (by kernel_rfl) (fun _ _ _ h => h) (Or.inl ⟨by rfl, ?hymv300u8⟩) hHeld ?restmv300u8
          case hymv300u8 => (intro w hSw; (try dsimp only at hSw); go_simp; first | done | with_reducible rfl)
          try simp only [Act.put, List.getElem_toArray, List.getElem_cons_zero, List.getElem_cons_succ, List.setIfInBounds_toArray, List.set_cons_zero, List.set_cons_succ]
          have hd0 := (Below.refl (w301.alloc (.cells #[.int .i64 0, .int .i64 kk, .slice c6 kl d6] 28)).heap.size (w301.alloc (.cells #[.int .i64 0, .int .i64 kk, .slice c6 kl d6] 28))).drew
          have qc := ((bcell hd0).1 _ _ (show Q < (w301.alloc (.cells #[.int .i64 0, .int .i64 kk, .slice c6 kl d6] 28)).heap.size by omega)).trans hQc2
          have qf := ((bcell hd0).2 _ _ (show Q < (w301.alloc (.cells #[.int .i64 0, .int .i64 kk, .slice c6 kl d6] 28)).heap.size by omega)).trans hQf2
          have hH2 := hHeld
          try dsimp only at hH2
          obtain ⟨e1, e2, e3, e4⟩ := hH2
          refine wpAnyH_ready (rs := [8]) (by kernel_rfl) (by simp) ?_
          refine AllReadyH.cons (o := _) rfl (fun K0 hK0 => ?_) AllReadyH.nil
          go_simp
          refine hK0.out _ _ (⟨(cell_far hVWQ _).trans e1, (cell_far hVWQ _).trans e2, (cell_far hVWQ _).trans e3, (cell_far hg4Q _).trans e4⟩) (fun hHeld => ?_)
          clear hK0 K0
          try simp only [Act.put, List.getElem_toArray, List.getElem_cons_zero, List.getElem_cons_succ, List.setIfInBounds_toArray, List.set_cons_zero, List.set_cons_succ]
          refine wpAnyH_done (by kernel_rfl) ?_ _
          go_wp2
          go_roundw
          case rel => exact ⟨k + 1, c6, d6, kl, updP pl u kk, ls, by omega, by go_num, rfl, hkl, D8, OT8.out, A8.out, O8.out, RP8.out, VR8.out, B8.out, Q8, hNQ⟩
          case measure => (simp [intOf]; omega)
        · skip
          rw [if_neg hc] at hs
          have hcc : (kc != 0) = true := by simp [hc]
          have HS := Hid.mk hs
          have HC := Hid.mk hc
          clear hs hc
          have B := Below.refl wr.heap.size wr
          replace B := thenB B (belowA wr (.cells #[.int .i64 xo, .int .i64 i, .int .i64 j, .int .i64 xn] 66))
          have VX := V.new wr [.int .i64 xo, .int .i64 i, .int .i64 j, .int .i64 xn] 66
          obtain ⟨s_VX, f_VX, z_VX⟩ := VX.open
          have Bo := B
          go_wp2_with fail
          refine (CK.out _).mono ?_
          rintro e wq ⟨rfl, rfl⟩
          go_wp2_with fail
          refine (CK.out _).mono ?_
          rintro e wq ⟨rfl, rfl⟩
          go_wp2_with fail
          replace VX := VX.kept (belowA (wr.alloc (.cells #[.int .i64 xo, .int .i64 i, .int .i64 j, .int .i64 xn] 66)) (.cells #[.int .i64 xo, .int .i64 va, .int .i64 vb, .int .i64 xn] 66))
          replace B := thenB B (belowA (wr.alloc (.cells #[.int .i64 xo, .int .i64 i, .int .i64 j, .int .i64 xn] 66)) (.cells #[.int .i64 xo, .int .i64 va, .int .i64 vb, .int .i64 xn] 66))
          have VY : V ((wr.alloc (.cells #[.int .i64 xo, .int .i64 i, .int .i64 j, .int .i64 xn] 66)).alloc (.cells #[.int .i64 xo, .int .i64 va, .int .i64 vb, .int .i64 xn] 66)) (wr.heap.size + 1) [.int .i64 xo, .int .i64 va, .int .i64 vb, .int .i64 xn] := V.newAt _ _ _ _ (by simp)
          refine (CPP.out _ _ _ (HOT.out.kept B).rd hnc.out).mono ?_
          rintro e w311 ⟨c6, d6, rfl, O6, b311⟩
          clear s_VX f_VX z_VX
          have S311 := b311.size
          simp only [World.size_alloc] at S311
          replace VX := VX.kept b311
          replace VY := VY.kept b311
          replace B := thenB B b311
          clear b311
          obtain ⟨s_VX, f_VX, z_VX⟩ := VX.open
          obtain ⟨s_VY, f_VY, z_VY⟩ := VY.open
          have Bo := B
          replace VX := VX.kept (belowA w311 (.cells #[.int .i64 kc, .int .i64 kk, .slice c6 kl d6] 28))
          replace VY := VY.kept (belowA w311 (.cells #[.int .i64 kc, .int .i64 kk, .slice c6 kl d6] 28))
          replace O6 := O6.kept (belowA w311 (.cells #[.int .i64 kc, .int .i64 kk, .slice c6 kl d6] 28))
          replace B := thenB B (belowA w311 (.cells #[.int .i64 kc, .int .i64 kk, .slice c6 kl d6] 28))
          have VW := V.new w311 [.int .i64 kc, .int .i64 kk, .slice c6 kl d6] 28
          clear s_VX f_VX z_VX s_VY f_VY z_VY
          obtain ⟨s_VX, f_VX, z_VX⟩ := VX.open
          obtain ⟨s_VY, f_VY, z_VY⟩ := VY.open
          obtain ⟨s_VW, f_VW, z_VW⟩ := VW.open
          have Bo := B
          clear s_VX f_VX z_VX s_VY f_VY z_VY s_VW f_VW z_VW
          have VR := HVR.out.kept B
          replace B := thenB B0 B
          obtain ⟨s_VX, f_VX, z_VX⟩ := VX.open
          obtain ⟨s_VW, f_VW, z_VW⟩ := VW.open
          obtain ⟨s_VR, f_VR, z_VR⟩ := VR.open
          have Bo := B
          clear s_VX f_VX z_VX s_VW f_VW z_VW s_VR f_VR z_VR
          have VF := Hid.mk (VR.filled [.int .i64 kc, .int .i64 0, .slice none 0 0] rfl)
          have HT := Hid.mk VR.there
          have BR := belowCells B (show w.heap.size ≤ w.heap.size by (first | omega | (simp; done) | (simp; omega))) 0 [.int .i64 kc, .int .i64 0, .slice none 0 0]
          replace BR := Hid.mk BR
          obtain ⟨s_VX, f_VX, z_VX⟩ := VX.open
          obtain ⟨s_VW, f_VW, z_VW⟩ := VW.open
          obtain ⟨s_VR, f_VR, z_VR⟩ := VR.open
          go_wp2_with (refine wpList_store_mid rfl 28 _ _ rfl (w.heap.size) 0 #[.int .i64 kc, .int .i64 0, .slice none 0 0] rfl rfl HT.out (by kernel_rfl) (by kernel_rfl) ?_)
          refine bodyPost_ret (v := .agg #[.int .i64 kc, .int .i64 0, .slice none 0 0]) (results_row Tryd.results28 _ _ (w.heap.size) [.int .i64 kc, .int .i64 0, .slice none 0 0] _ rfl VF.out Tryd.underlying28 rfl (by kernel_rfl)) rfl (MoveAt.bad HS.out HC.out rfl BR.out)
      · skip
        rw [hk] at ha1 hb1
        obtain ⟨a0, a1⟩ := ha1 (by decide)
        obtain ⟨i, rfl⟩ : ∃ i : Nat, xa = (i : Int) := ⟨xa.toNat, by omega⟩
        have him : (i : Int) < (m : Int) + 1 := by omega
        have hQa := tab_cell O (i := i) (by omega)
        obtain ⟨b0, b9⟩ := hb1 (by decide)
        obtain ⟨j, rfl⟩ : ∃ j : Nat, xb = (j : Int) := ⟨xb.toNat, by omega⟩
        have hjm : (j : Int) < (m : Int) + 1 := by omega
        have hQb := tab_cell O (i := j) (by omega)
        have CK := Hid.mk (fun w => l5Kids_ok xo w)
        rw [hk] at CK
        rw [hr] at hs hput hpk
        obtain ⟨va, hva⟩ : ∃ v, pl i = v := ⟨_, rfl⟩
        rw [hva] at hQa hs hput hpk
        obtain ⟨vb, hvb⟩ : ∃ v, pl j = v := ⟨_, rfl⟩
        rw [hvb] at hQb hs hput hpk
        replace CPP := Hid.mk (fun c d w h hc => CPP.out ⟨xo, va, vb, xn⟩ c d w h hc)
        replace CB := Hid.mk (fun c d w h hc => CB.out va vb c d w h hc)
        subst h7
        generalize put tb (bothT va vb) = P at *
        generalize put tb ⟨7, va, vb, xn⟩ = P0 at *
        obtain ⟨kc0, kk0, ls0⟩ := P0
        obtain ⟨kc, kk, ls⟩ := P
        simp only at *
        obtain ⟨kl, hkl⟩ : ∃ q, ls.length = q := ⟨_, rfl⟩
        rw [hkl] at CB hput
        replace hkl := Hid.mk hkl
        obtain ⟨kl0, hkl0⟩ : ∃ q, ls0.length = q := ⟨_, rfl⟩
        rw [hkl0] at CPP
        clear O
        by_cases hc : kc = 0
        · skip
          subst hc
          rw [if_pos rfl] at hs
          have HS := Hid.mk hs
          clear hs
          have B := Below.refl wr.heap.size wr
          replace B := thenB B (belowA wr (.cells #[.int .i64 7, .int .i64 i, .int .i64 j, .int .i64 xn] 66))
          have VX := V.new wr [.int .i64 7, .int .i64 i, .int .i64 j, .int .i64 xn] 66
          obtain ⟨s_VX, f_VX, z_VX⟩ := VX.open
          have Bo := B
          go_wp2_with fail
          refine (CK.out _).mono ?_
          rintro e wq ⟨rfl, rfl⟩
          go_wp2_with fail
          refine (CK.out _).mono ?_
          rintro e wq ⟨rfl, rfl⟩
          go_wp2_with fail
          replace VX := VX.kept (belowA (wr.alloc (.cells #[.int .i64 7, .int .i64 i, .int .i64 j, .int .i64 xn] 66)) (.cells #[.int .i64 7, .int .i64 va, .int .i64 vb, .int .i64 xn] 66))
          replace B := thenB B (belowA (wr.alloc (.cells #[.int .i64 7, .int .i64 i, .int .i64 j, .int .i64 xn] 66)) (.cells #[.int .i64 7, .int .i64 va, .int .i64 vb, .int .i64 xn] 66))
          have VY : V ((wr.alloc (.cells #[.int .i64 7, .int .i64 i, .int .i64 j, .int .i64 xn] 66)).alloc (.cells #[.int .i64 7, .int .i64 va, .int .i64 vb, .int .i64 xn] 66)) (wr.heap.size + 1) [.int .i64 7, .int .i64 va, .int .i64 vb, .int .i64 xn] := V.newAt _ _ _ _ (by simp)
          refine (CPP.out _ _ _ (HOT.out.kept B).rd hnc.out).mono ?_
          rintro e w401 ⟨c6, d6, rfl, O6, b401⟩
          clear s_VX f_VX z_VX
          have S401 := b401.size
          simp only [World.size_alloc] at S401
          replace VX := VX.kept b401
          replace VY := VY.kept b401
          replace B := thenB B b401
          clear b401
          obtain ⟨s_VX, f_VX, z_VX⟩ := VX.open
          obtain ⟨s_VY, f_VY, z_VY⟩ := VY.open
          have Bo := B
          replace VX := VX.kept (belowA w401 (.cells #[.int .i64 kc0, .int .i64 kk0, .slice c6 kl0 d6] 28))
          replace VY := VY.kept (belowA w401 (.cells #[.int .i64 kc0, .int .i64 kk0, .slice c6 kl0 d6] 28))
          replace O6 := O6.kept (belowA w401 (.cells #[.int .i64 kc0, .int .i64 kk0, .slice c6 kl0 d6] 28))
          replace B := thenB B (belowA w401 (.cells #[.int .i64 kc0, .int .i64 kk0, .slice c6 kl0 d6] 28))
          have VW := V.new w401 [.int .i64 kc0, .int .i64 kk0, .slice c6 kl0 d6] 28
          clear s_VX f_VX z_VX s_VY f_VY z_VY
          obtain ⟨s_VX, f_VX, z_VX⟩ := VX.open
          obtain ⟨s_VY, f_VY, z_VY⟩ := VY.open
          obtain ⟨s_VW, f_VW, z_VW⟩ := VW.open
          have Bo := B
          go_wp2_with fail
          refine (CB.out _ _ _ (HOT.out.kept B).rd hnc.out).mono ?_
          rintro e w402 ⟨c7, d7, rfl, O7, b402⟩
          clear s_VX f_VX z_VX s_VY f_VY z_VY s_VW f_VW z_VW
          have S402 := b402.size
          simp only [World.size_alloc] at S402
          replace VX := VX.kept b402
          replace VY := VY.kept b402
          replace VW := VW.kept b402
          replace O6 := O6.kept b402
          replace B := thenB B b402
          clear b402
          obtain ⟨s_VX, f_VX, z_VX⟩ := VX.open
          obtain ⟨s_VY, f_VY, z_VY⟩ := VY.open
          obtain ⟨s_VW, f_VW, z_VW⟩ := VW.open
          have Bo := B
          clear s_VX f_VX z_VX s_VY f_VY z_VY s_VW f_VW z_VW
          have HTW := Hid.mk VW.there
          have VF := VW.filled [.int .i64 0, .int .i64 kk, .slice c7 kl d7] rfl
          have hWl := Hid.mk (fun b (hb : c7 = some b) => (O7.lt b hb).1)
          have AX := VX.apart (B := w401.heap.size) (by first | omega | (simp; omega)) 0 [.int .i64 0, .int .i64 kk, .slice c7 kl d7]
          have AO := O7.apart (B := w401.heap.size) (by intro b hb; have := hWl.out b hb; first | omega | (simp at this; omega)) 0 [.int .i64 0, .int .i64 kk, .slice c7 kl d7]
          have BF := belowCells B (show wr.heap.size ≤ w401.heap.size by first | omega | (simp; omega)) 0 [.int .i64 0, .int .i64 kk, .slice c7 kl d7]
          have VL := VW.1
          obtain ⟨w9, hw9⟩ : ∃ w9, World.setCells w402 (w401.heap.size) 0 [.int .i64 0, .int .i64 kk, .slice c7 kl d7] = w9 := ⟨_, rfl⟩
          rw [hw9] at VF AX AO BF
          have hsz9 : w9.heap.size = w402.heap.size := by rw [← hw9]; exact World.size_setCells _ _ _ _
          replace hw9 := Hid.mk hw9
          clear B Bo O6 VX VW O7
          have VX := AX
          have VW := VF
          have O7 := AO
          have B := BF
          clear AX VF AO BF
          clear VY
          obtain ⟨s_VX, f_VX, z_VX⟩ := VX.open
          obtain ⟨s_VW, f_VW, z_VW⟩ := VW.open
          have Bo := B
          clear s_VX f_VX z_VX s_VW f_VW z_VW
          have hgz := ((bcell B).1 _ _ (show g4 < wr.heap.size by omega)).trans pz
          have hQc2 := ((bcell B).1 _ _ (show Q < wr.heap.size by omega)).trans hQc
          have hQf2 := ((bcell B).2 _ _ (show Q < wr.heap.size by omega)).trans hQf
          have hsB := B.size
          have hVWl := VW.1
          have hVWQ : w401.heap.size ≠ Q := by (try simp); omega
          have hg4Q : g4 ≠ Q := by omega
          have K : ∀ w' : World, Below w9.heap.size w9 w' → (w'.cell? ⟨w401.heap.size, 0, none⟩ = some (.int .i64 0) ∧ w'.cell? ⟨w401.heap.size, 1, none⟩ = some (.int .i64 kk) ∧ w'.cell? ⟨w401.heap.size, 2, none⟩ = some (.slice c7 kl d7) ∧ w'.cell? ⟨g4, o4 + k, none⟩ = some (.int .i64 u)) := fun w' h => ⟨(VW.kept h).2.1 0 (by simp), (VW.kept h).2.1 1 (by simp), (VW.kept h).2.1 2 (by simp), ((bcell h).1 _ _ (by omega)).trans hgz⟩
          have K := Hid.mk K
          have BD : Below wr.heap.size wr w9.drew := thenB B (Below.refl _ _).drew
          have SQ : Sm (fun q => q = Q) w9.drew (w9.drew.setCell ⟨Q, u, none⟩ (.int .i64 kk)) := Sm.cell (X := fun q => q = Q) rfl _
          have O8 := Hid.mk (tab_store (HO.out.kept BD) u kk)
          have RP8 := Hid.mk ((HRP.out.kept BD).sm SQ (fun b hb e => by simp only [Option.some.injEq] at hb; subst hb; simp only at e; omega))
          have VR8 := Hid.mk ((HVR.out.kept BD).sm SQ (by omega))
          have A8 := Hid.mk ((HA.out.kept BD).sm SQ (fun b hb e => by simp only [Option.some.injEq] at hb; subst hb; have := hlow.out _ rfl; simp only at e this; omega))
          have hOl := Hid.mk (fun b (hb : c7 = some b) => (O7.lt b hb).1)
          have hNQ : Hid (∀ ad : Addr, c7 = some ad → ad.block ≠ Q ∧ ad.block ≠ w.heap.size) := Hid.mk (fun ad hq => by have := hOl.out ad hq; first | omega | (simp at this; omega))
          have OT8 := Hid.mk (((O7.kept (Below.refl _ _).drew).mono (base' := w.heap.size) (by first | omega | (simp; omega))).sm SQ (fun b hb e => (hNQ.out b hb).1 e))
          have B8 := Hid.mk ((thenB B0 BD).setCell (p := ⟨Q, u, none⟩) (by simp only; omega) (.int .i64 kk))
          have Q8 : Hid (Q < (w9.drew.setCell ⟨Q, u, none⟩ (.int .i64 kk)).heap.size) := Hid.mk (by have h1 := SQ.size; have h2 := BD.size; omega)
          have D8 : Hid (mvR fr (zs.drop (k + 1)) (updP pl u kk) ls = M ∧ PlOk (updP pl u kk) ∧ ls.length ≤ 400) := Hid.mk ⟨HS.out.symm, HPO.out.upd hpk, by rw [hkl.out]; exact hput⟩
          clear SQ BD B
          obtain ⟨s_VX, f_VX, z_VX⟩ := VX.open
          obtain ⟨s_VW, f_VW, z_VW⟩ := VW.open
          go_wp2_with (refine wpList_stroke w9 rfl 28 _ _ rfl (w401.heap.size) 0 #[.int .i64 0, .int .i64 kk, .slice c7 kl d7] rfl rfl HTW.out (by kernel_rfl) (by kernel_rfl) hw9.out ?_)
          clear s_VX f_VX z_VX s_VW f_VW z_VW
          refine wp_region_held_drew (S := (fun w' => w'.cell? ⟨w401.heap.size, 0, none⟩ = some (.int .i64 0) ∧ w'.cell? ⟨w401.heap.size, 1, none⟩ = some (.int .i64 kk) ∧ w'.cell? ⟨w401.heap.size, 2, none⟩ = some (.slice c7 kl d7) ∧ w'.cell? ⟨g4, o4 + k, none⟩ = some (.int .i64 u))) (by kernel_rfl) (K.out _ (Below.refl _ _).drew) (fun hHeld => ?_)
          refine wpAnyH_take (i := 0) (oi := _) (v := ?vmv400u1) rfl (by kernel_rfl) (by kernel_rfl) (by kernel_rfl) (fun _ _ _ h => h) (Or.inl ⟨by rfl, ?hymv400u1⟩) hHeld ?restmv400u1
          case hymv400u1 => (intro w hSw; (try dsimp only at hSw); go_simp; first | done | with_reducible rfl)
          try simp only [Act.put, List.getElem_toArray, List.getElem_cons_zero, List.setIfInBounds_toArray, List.set_cons_zero, List.set_cons_succ]
          refine wpAnyH_take (i := 1) (oi := _) (v := ?vmv400u2) rfl (by kernel_rfl) (by kernel_rfl) (by kernel_rfl) (fun _ _ _ h => h) (Or.inl ⟨by rfl, ?hymv400u2⟩) hHeld ?restmv400u2
          case hymv400u2 => (intro w hSw; (try dsimp only at hSw); go_simp; first | done | with_reducible rfl)
          try simp only [Act.put, List.getElem_toArray, List.getElem_cons_zero, List.getElem_cons_succ, List.setIfInBounds_toArray, List.set_cons_zero, List.set_cons_succ]
          refine wpAnyH_take (i := 2) (oi := _) (v := ?vmv400u3) rfl (by kernel_rfl) (by kernel_rfl) (by kernel_rfl) (fun _ _ _ h => h) (Or.inl ⟨by rfl, ?hymv400u3⟩) hHeld ?restmv400u3
          case hymv400u3 => (intro w hSw; (try dsimp only at hSw); go_simp; first | done | with_reducible rfl)
          try simp only [Act.put, List.getElem_toArray, List.getElem_cons_zero, List.getElem_cons_succ, List.setIfInBounds_toArray, List.set_cons_zero, List.set_cons_succ]
          refine wpAnyH_take (i := 3) (oi := _) (v := ?vmv400u4) rfl (by kernel_rfl) (by kernel_rfl) (by kernel_rfl) (fun _ _ _ h => h) (Or.inl ⟨by rfl, ?hymv400u4⟩) hHeld ?restmv400u4
          case hymv400u4 => (intro w hSw; (try dsimp only at hSw); go_simp; first | done | with_reducible rfl)
          try simp only [Act.put, List.getElem_toArray, List.getElem_cons_zero, List.getElem_cons_succ, List.setIfInBounds_toArray, List.set_cons_zero, List.set_cons_succ]
          refine wpAnyH_take (i := 4) (oi := _) (v := ?vmv400u5) rfl (by kernel_rfl) (by kernel_rfl) (by kernel_rfl) (fun _ _ _ h => h) (Or.inl ⟨by rfl, ?hymv400u5⟩) hHeld ?restmv400u5
          case hymv400u5 => (intro w hSw; (try dsimp only at hSw); go_simp; first | done | with_reducible rfl)
          try simp only [Act.put, List.getElem_toArray, List.getElem_cons_zero, List.getElem_cons_succ, List.setIfInBounds_toArray, List.set_cons_zero, List.set_cons_succ]
          refine wpAnyH_take (i := 5) (oi := _) (v := ?vmv400u6) rfl (by kernel_rfl) (by kernel_rfl) (by kernel_rfl) (fun _ _ _ h => h) (Or.inl ⟨by rfl, ?hymv400u6⟩) hHeld ?restmv400u6
          case hymv400u6 => (intro w hSw; (try dsimp only at hSw); go_simp; first | done | with_reducible rfl)
          try simp only [Act.put, List.getElem_toArray, List.getElem_cons_zero, List.getElem_cons_succ, List.setIfInBounds_toArray, List.set_cons_zero, List.set_cons_succ]
          refine wpAnyH_take (i := 6) (oi := _) (v := ?vmv400u7) rfl (by kernel_rfl) (by kernel_rfl) (by kernel_rfl) (fun _ _ _ h => h) (Or.inl ⟨by rfl, ?hymv400u7⟩) hHeld ?restmv400u7
          case hymv400u7 => (intro w hSw; (try dsimp only at hSw); go_simp; first | done | with_reducible rfl)
          try simp only [Act.put, List.getElem_toArray, List.getElem_cons_zero, List.getElem_cons_succ, List.setIfInBounds_toArray, List.set_cons_zero, List.set_cons_succ]
          refine wpAnyH_take (i := 7) (oi := _) (v := ?vmv400u8) rfl (by kernel_rfl) (by kernel_rfl) (by kernel_rfl) (fun _ _ _ h => h) (Or.inl ⟨by rfl, ?hymv400u8⟩) hHeld ?restmv400u8
          case hymv400u8 => (intro w hSw; (try dsimp only at hSw); go_simp; first | done | with_reducible rfl)
          try simp only [Act.put, List.getElem_toArray, List.getElem_cons_zero, List.getElem_cons_succ, List.setIfInBounds_toArray, List.set_cons_zero, List.set_cons_succ]
          have hd0 := (Below.refl w9.heap.size w9).drew
          have qc := ((bcell hd0).1 _ _ (show Q < w9.heap.size by omega)).trans hQc2
          have qf := ((bcell hd0).2 _ _ (show Q < w9.heap.size by omega)).trans hQf2
          have hH2 := hHeld
          try dsimp only at hH2
          obtain ⟨e1, e2, e3, e4⟩ := hH2
          refine wpAnyH_ready (rs := [8]) (by kernel_rfl) (by simp) ?_
          refine AllReadyH.cons (o := _) rfl (fun K0 hK0 => ?_) AllReadyH.nil
          go_simp
          refine hK0.out _ _ (⟨(cell_far hVWQ _).trans e1, (cell_far hVWQ _).trans e2, (cell_far hVWQ _).trans e3, (cell_far hg4Q _).trans e4⟩) (fun hHeld => ?_)
          clear hK0 K0
          try simp only [Act.put, List.getElem_toArray, List.getElem_cons_zero, List.getElem_cons_succ, List.setIfInBounds_toArray, List.set_cons_zero, List.set_cons_succ]
          refine wpAnyH_done (by kernel_rfl) ?_ _
          go_wp2
          go_roundw
          case rel => exact ⟨k + 1, c7, d7, kl, updP pl u kk, ls, by omega, by go_num, rfl, hkl, D8, OT8.out, A8.out, O8.out, RP8.out, VR8.out, B8.out, Q8, hNQ⟩
          case measure => (simp [intOf]; omega)
        · skip
          rw [if_neg hc] at hs
          have hcc : (kc != 0) = true := by simp [hc]
          have HS := Hid.mk hs
          have HC := Hid.mk hc
          clear hs hc
          have B := Below.refl wr.heap.size wr
          replace B := thenB B (belowA wr (.cells #[.int .i64 7, .int .i64 i, .int .i64 j, .int .i64 xn] 66))
          have VX := V.new wr [.int .i64 7, .int .i64 i, .int .i64 j, .int .i64 xn] 66
          obtain ⟨s_VX, f_VX, z_VX⟩ := VX.open
          have Bo := B
          go_wp2_with fail
          refine (CK.out _).mono ?_
          rintro e wq ⟨rfl, rfl⟩
          go_wp2_with fail
          refine (CK.out _).mono ?_
          rintro e wq ⟨rfl, rfl⟩
          go_wp2_with fail
          replace VX := VX.kept (belowA (wr.alloc (.cells #[.int .i64 7, .int .i64 i, .int .i64 j, .int .i64 xn] 66)) (.cells #[.int .i64 7, .int .i64 va, .int .i64 vb, .int .i64 xn] 66))
          replace B := thenB B (belowA (wr.alloc (.cells #[.int .i64 7, .int .i64 i, .int .i64 j, .int .i64 xn] 66)) (.cells #[.int .i64 7, .int .i64 va, .int .i64 vb, .int .i64 xn] 66))
          have VY : V ((wr.alloc (.cells #[.int .i64 7, .int .i64 i, .int .i64 j, .int .i64 xn] 66)).alloc (.cells #[.int .i64 7, .int .i64 va, .int .i64 vb, .int .i64 xn] 66)) (wr.heap.size + 1) [.int .i64 7, .int .i64 va, .int .i64 vb, .int .i64 xn] := V.newAt _ _ _ _ (by simp)
          refine (CPP.out _ _ _ (HOT.out.kept B).rd hnc.out).mono ?_
          rintro e w411 ⟨c6, d6, rfl, O6, b411⟩
          clear s_VX f_VX z_VX
          have S411 := b411.size
          simp only [World.size_alloc] at S411
          replace VX := VX.kept b411
          replace VY := VY.kept b411
          replace B := thenB B b411
          clear b411
          obtain ⟨s_VX, f_VX, z_VX⟩ := VX.open
          obtain ⟨s_VY, f_VY, z_VY⟩ := VY.open
          have Bo := B
          replace VX := VX.kept (belowA w411 (.cells #[.int .i64 kc0, .int .i64 kk0, .slice c6 kl0 d6] 28))
          replace VY := VY.kept (belowA w411 (.cells #[.int .i64 kc0, .int .i64 kk0, .slice c6 kl0 d6] 28))
          replace O6 := O6.kept (belowA w411 (.cells #[.int .i64 kc0, .int .i64 kk0, .slice c6 kl0 d6] 28))
          replace B := thenB B (belowA w411 (.cells #[.int .i64 kc0, .int .i64 kk0, .slice c6 kl0 d6] 28))
          have VW := V.new w411 [.int .i64 kc0, .int .i64 kk0, .slice c6 kl0 d6] 28
          clear s_VX f_VX z_VX s_VY f_VY z_VY
          obtain ⟨s_VX, f_VX, z_VX⟩ := VX.open
          obtain ⟨s_VY, f_VY, z_VY⟩ := VY.open
          obtain ⟨s_VW, f_VW, z_VW⟩ := VW.open
          have Bo := B
          go_wp2_with fail
          refine (CB.out _ _ _ (HOT.out.kept B).rd hnc.out).mono ?_
          rintro e w412 ⟨c7, d7, rfl, O7, b412⟩
          clear s_VX f_VX z_VX s_VY f_VY z_VY s_VW f_VW z_VW
          have S412 := b412.size
          simp only [World.size_alloc] at S412
          replace VX := VX.kept b412
          replace VY := VY.kept b412
          replace VW := VW.kept b412
          replace O6 := O6.kept b412
          replace B := thenB B b412
          clear b412
          obtain ⟨s_VX, f_VX, z_VX⟩ := VX.open
          obtain ⟨s_VY, f_VY, z_VY⟩ := VY.open
          obtain ⟨s_VW, f_VW, z_VW⟩ := VW.open
          have Bo := B
          clear s_VX f_VX z_VX s_VY f_VY z_VY s_VW f_VW z_VW
          have HTW := Hid.mk VW.there
          have VF := VW.filled [.int .i64 kc, .int .i64 kk, .slice c7 kl d7] rfl
          have hWl := Hid.mk (fun b (hb : c7 = some b) => (O7.lt b hb).1)
          have AX := VX.apart (B := w411.heap.size) (by first | omega | (simp; omega)) 0 [.int .i64 kc, .int .i64 kk, .slice c7 kl d7]
          have AO := O7.apart (B := w411.heap.size) (by intro b hb; have := hWl.out b hb; first | omega | (simp at this; omega)) 0 [.int .i64 kc, .int .i64 kk, .slice c7 kl d7]
          have BF := belowCells B (show wr.heap.size ≤ w411.heap.size by first | omega | (simp; omega)) 0 [.int .i64 kc, .int .i64 kk, .slice c7 kl d7]
          have VL := VW.1
          obtain ⟨w9, hw9⟩ : ∃ w9, World.setCells w412 (w411.heap.size) 0 [.int .i64 kc, .int .i64 kk, .slice c7 kl d7] = w9 := ⟨_, rfl⟩
          rw [hw9] at VF AX AO BF
          have hsz9 : w9.heap.size = w412.heap.size := by rw [← hw9]; exact World.size_setCells _ _ _ _
          replace hw9 := Hid.mk hw9
          clear B Bo O6 VX VW O7
          have VX := AX
          have VW := VF
          have O7 := AO
          have B := BF
          clear AX VF AO BF
          clear VY
          obtain ⟨s_VX, f_VX, z_VX⟩ := VX.open
          obtain ⟨s_VW, f_VW, z_VW⟩ := VW.open
          have Bo := B
          clear s_VX f_VX z_VX s_VW f_VW z_VW
          have VR := HVR.out.kept B
          replace B := thenB B0 B
          obtain ⟨s_VX, f_VX, z_VX⟩ := VX.open
          obtain ⟨s_VW, f_VW, z_VW⟩ := VW.open
          obtain ⟨s_VR, f_VR, z_VR⟩ := VR.open
          have Bo := B
          clear s_VX f_VX z_VX s_VW f_VW z_VW s_VR f_VR z_VR
          have VF := Hid.mk (VR.filled [.int .i64 kc, .int .i64 0, .slice none 0 0] rfl)
          have HT := Hid.mk VR.there
          have BR := belowCells B (show w.heap.size ≤ w.heap.size by (first | omega | (simp; done) | (simp; omega))) 0 [.int .i64 kc, .int .i64 0, .slice none 0 0]
          replace BR := Hid.mk BR
          obtain ⟨s_VX, f_VX, z_VX⟩ := VX.open
          obtain ⟨s_VW, f_VW, z_VW⟩ := VW.open
          obtain ⟨s_VR, f_VR, z_VR⟩ := VR.open
          go_wp2_with (first | (refine wpList_stroke w9 rfl 28 _ _ rfl (w411.heap.size) 0 #[.int .i64 kc, .int .i64 kk, .slice c7 kl d7] rfl rfl HTW.out (by kernel_rfl) (by kernel_rfl) hw9.out ?_) | refine wpList_store_mid rfl 28 _ _ rfl (w.heap.size) 0 #[.int .i64 kc, .int .i64 0, .slice none 0 0] rfl rfl HT.out (by kernel_rfl) (by kernel_rfl) ?_)
          refine bodyPost_ret (v := .agg #[.int .i64 kc, .int .i64 0, .slice none 0 0]) (results_row Tryd.results28 _ _ (w.heap.size) [.int .i64 kc, .int .i64 0, .slice none 0 0] _ rfl VF.out Tryd.underlying28 rfl (by kernel_rfl)) rfl (MoveAt.bad HS.out HC.out rfl BR.out)
    · obtain rfl : k = l := by omega
      have hMM := hdr.out.1
      rw [mvR_end fr zs pl tb k (by rw [HK.out]; exact Nat.le_refl _)] at hMM
      have HM := Hid.mk hMM
      have pm := tab_cell O (i := m) (by omega)
      have hm2 : (m : Int) < (m : Int) + 1 := by omega
      clear hMM hdr
      have B := B0
      obtain ⟨s_VR, f_VR, z_VR⟩ := VR.open
      have Bo := B
      clear s_VR f_VR z_VR
      have VF := Hid.mk (VR.filled [.int .i64 0, .int .i64 (pl m), .slice c1 L d1] rfl)
      have HT := Hid.mk VR.there
      have BR := belowCells B (show w.heap.size ≤ w.heap.size by (first | omega | (simp; done) | (simp; omega))) 0 [.int .i64 0, .int .i64 (pl m), .slice c1 L d1]
      replace BR := Hid.mk BR
      have HO := Hid.mk (OT.apart (B := w.heap.size) (fun b hb e => (hCQ.out b hb).2 e) 0 [.int .i64 0, .int .i64 (pl m), .slice c1 L d1])
      obtain ⟨s_VR, f_VR, z_VR⟩ := VR.open
      go_wp2_with (refine wpList_store_mid rfl 28 _ _ rfl (w.heap.size) 0 #[.int .i64 0, .int .i64 (pl m), .slice c1 L d1] rfl rfl HT.out (by kernel_rfl) (by kernel_rfl) ?_)
      refine bodyPost_ret (v := .agg #[.int .i64 0, .int .i64 (pl m), .slice c1 L d1]) (results_row Tryd.results28 _ _ (w.heap.size) [.int .i64 0, .int .i64 (pl m), .slice c1 L d1] _ rfl VF.out Tryd.underlying28 rfl (by kernel_rfl)) rfl (MoveAt.good HM.out hL.out rfl HO.out BR.out)

end Go.Proofs.YtedippfnlaiapaaDoor

/- MoveTerm: the model. -/
namespace Go.Proofs.YtedippfnlaiapaaDoor
open Go.RowKit

set_option maxRecDepth 20000 in
set_option maxHeartbeats 4000000 in
theorem specMoveTerm_ok (a : Option Addr) (n ca : Nat) (fr : List T4) (q : Int) (b : Option Addr) (nb cb : Nat) (tb : List T4) (w : World) (ha : RdTerm w a fr) (hn : fr.length = n) (hx : n ≤ 1048576) (hca : n ≤ ca) (hlow : Hid (∀ b : Addr, a = some b → b.block < w.heap.size)) (hb : RdTerm w b tb) (hnb : tb.length = nb) (hxb : nb ≤ 1048576) (hcb : nb ≤ cb) (hcn : b = none → cb = 0) :
    Calls Tryd.prog 8 #[.slice a n ca, .int .i64 q, .slice b nb cb] w fun e w' => ∃ c d, e = .returned (.agg #[.int .i64 (mvF fr q tb).c, .int .i64 (mvF fr q tb).k, .slice c (mvF fr q tb).l.length d]) ∧ OwnTerm w' w.heap.size c d (mvF fr q tb).l ∧ Below w.heap.size w w' := by
  have q1 := build_tr0'
  have CF := Hid.mk (fun w h => specTermsFault_ok a n ca fr w h hn (by unfold maxLen; omega) hca)
  have CG := Hid.mk (fun w h => specTermsFault_ok b nb cb tb w h hnb (by unfold maxLen; omega) hcb)
  have CA := Hid.mk (fun w => l5At_ok a n ca q w (by unfold maxLen; omega))
  have HW := mvF_ways fr q tb
  rw [hn] at HW
  rcases HW with ⟨h1, hr⟩ | ⟨h1, h2, hr⟩ | ⟨h1, h2, h3, hr⟩ | ⟨h1, h2, h3, hr⟩
  · have h2 : (tfC fr != 0) = true := by simp [h1]
    rw [hr]
    clear hr h1
    generalize tfC fr = kk at *
    go_enter Tryd.func8, Tryd.ntmps8
    have B := Below.refl w.heap.size w
    replace ha := ha.kept (belowA w (.cells #[.int .i64 0, .int .i64 0, .slice none 0 0] 28))
    replace hb := hb.kept (belowA w (.cells #[.int .i64 0, .int .i64 0, .slice none 0 0] 28))
    replace B := thenB B (belowA w (.cells #[.int .i64 0, .int .i64 0, .slice none 0 0] 28))
    have VR := V.new w [.int .i64 0, .int .i64 0, .slice none 0 0] 28
    obtain ⟨s_VR, f_VR, z_VR⟩ := VR.open
    have Bo := B
    go_wp2_with fail
    refine (CF.out _ ha).mono ?_
    rintro e w1 ⟨rfl, b1⟩
    clear s_VR f_VR z_VR
    have S1 := b1.size
    simp only [World.size_alloc] at S1
    replace VR := VR.kept b1
    replace ha := ha.kept b1
    replace hb := hb.kept b1
    replace B := thenB B b1
    clear b1
    obtain ⟨s_VR, f_VR, z_VR⟩ := VR.open
    have Bo := B
    clear s_VR f_VR z_VR
    have VF := Hid.mk (VR.filled [.int .i64 kk, .int .i64 0, .slice none 0 0] rfl)
    have HT := Hid.mk VR.there
    have BR := belowCells B (show w.heap.size ≤ w.heap.size by (first | omega | (simp; done) | (simp; omega))) 0 [.int .i64 kk, .int .i64 0, .slice none 0 0]
    replace BR := Hid.mk BR
    obtain ⟨s_VR, f_VR, z_VR⟩ := VR.open
    go_wp2_with (refine wpList_store_mid rfl 28 _ _ rfl (w.heap.size) 0 #[.int .i64 kk, .int .i64 0, .slice none 0 0] rfl rfl HT.out (by kernel_rfl) (by kernel_rfl) ?_)
    refine bodyPost_ret (v := .agg #[.int .i64 kk, .int .i64 0, .slice none 0 0]) (results_row Tryd.results8 _ _ (w.heap.size) [.int .i64 kk, .int .i64 0, .slice none 0 0] _ rfl VF.out Tryd.underlying28 rfl (by kernel_rfl)) rfl ⟨none, 0, rfl, OwnTerm.none, BR.out⟩
  · have h3 : (tfC tb != 0) = true := by simp [h2]
    rw [hr]
    rw [h1] at CF
    clear hr h1 h2
    generalize tfC tb = kk at *
    go_enter Tryd.func8, Tryd.ntmps8
    have B := Below.refl w.heap.size w
    replace ha := ha.kept (belowA w (.cells #[.int .i64 0, .int .i64 0, .slice none 0 0] 28))
    replace hb := hb.kept (belowA w (.cells #[.int .i64 0, .int .i64 0, .slice none 0 0] 28))
    replace B := thenB B (belowA w (.cells #[.int .i64 0, .int .i64 0, .slice none 0 0] 28))
    have VR := V.new w [.int .i64 0, .int .i64 0, .slice none 0 0] 28
    obtain ⟨s_VR, f_VR, z_VR⟩ := VR.open
    have Bo := B
    go_wp2_with fail
    refine (CF.out _ ha).mono ?_
    rintro e w21 ⟨rfl, b21⟩
    clear s_VR f_VR z_VR
    have S21 := b21.size
    simp only [World.size_alloc] at S21
    replace VR := VR.kept b21
    replace ha := ha.kept b21
    replace hb := hb.kept b21
    replace B := thenB B b21
    clear b21
    obtain ⟨s_VR, f_VR, z_VR⟩ := VR.open
    have Bo := B
    go_wp2_with fail
    refine (CG.out _ hb).mono ?_
    rintro e w22 ⟨rfl, b22⟩
    clear s_VR f_VR z_VR
    have S22 := b22.size
    replace VR := VR.kept b22
    replace ha := ha.kept b22
    replace hb := hb.kept b22
    replace B := thenB B b22
    clear b22
    obtain ⟨s_VR, f_VR, z_VR⟩ := VR.open
    have Bo := B
    clear s_VR f_VR z_VR
    have VF := Hid.mk (VR.filled [.int .i64 kk, .int .i64 0, .slice none 0 0] rfl)
    have HT := Hid.mk VR.there
    have BR := belowCells B (show w.heap.size ≤ w.heap.size by (first | omega | (simp; done) | (simp; omega))) 0 [.int .i64 kk, .int .i64 0, .slice none 0 0]
    replace BR := Hid.mk BR
    obtain ⟨s_VR, f_VR, z_VR⟩ := VR.open
    go_wp2_with (refine wpList_store_mid rfl 28 _ _ rfl (w.heap.size) 0 #[.int .i64 kk, .int .i64 0, .slice none 0 0] rfl rfl HT.out (by kernel_rfl) (by kernel_rfl) ?_)
    refine bodyPost_ret (v := .agg #[.int .i64 kk, .int .i64 0, .slice none 0 0]) (results_row Tryd.results8 _ _ (w.heap.size) [.int .i64 kk, .int .i64 0, .slice none 0 0] _ rfl VF.out Tryd.underlying28 rfl (by kernel_rfl)) rfl ⟨none, 0, rfl, OwnTerm.none, BR.out⟩
  · rw [hr]
    rw [h1] at CF
    rw [h2] at CG
    rw [h3] at CA
    clear hr h1 h2 h3
    go_enter Tryd.func8, Tryd.ntmps8
    have B := Below.refl w.heap.size w
    replace ha := ha.kept (belowA w (.cells #[.int .i64 0, .int .i64 0, .slice none 0 0] 28))
    replace hb := hb.kept (belowA w (.cells #[.int .i64 0, .int .i64 0, .slice none 0 0] 28))
    replace B := thenB B (belowA w (.cells #[.int .i64 0, .int .i64 0, .slice none 0 0] 28))
    have VR := V.new w [.int .i64 0, .int .i64 0, .slice none 0 0] 28
    obtain ⟨s_VR, f_VR, z_VR⟩ := VR.open
    have Bo := B
    go_wp2_with fail
    refine (CF.out _ ha).mono ?_
    rintro e w41 ⟨rfl, b41⟩
    clear s_VR f_VR z_VR
    have S41 := b41.size
    simp only [World.size_alloc] at S41
    replace VR := VR.kept b41
    replace ha := ha.kept b41
    replace hb := hb.kept b41
    replace B := thenB B b41
    clear b41
    obtain ⟨s_VR, f_VR, z_VR⟩ := VR.open
    have Bo := B
    go_wp2_with fail
    refine (CG.out _ hb).mono ?_
    rintro e w42 ⟨rfl, b42⟩
    clear s_VR f_VR z_VR
    have S42 := b42.size
    replace VR := VR.kept b42
    replace ha := ha.kept b42
    replace hb := hb.kept b42
    replace B := thenB B b42
    clear b42
    obtain ⟨s_VR, f_VR, z_VR⟩ := VR.open
    have Bo := B
    go_wp2_with fail
    refine (CA.out _).mono ?_
    rintro e wq ⟨rfl, rfl⟩
    clear s_VR f_VR z_VR
    have VF := Hid.mk (VR.filled [.int .i64 3, .int .i64 0, .slice none 0 0] rfl)
    have HT := Hid.mk VR.there
    have BR := belowCells B (show w.heap.size ≤ w.heap.size by (first | omega | (simp; done) | (simp; omega))) 0 [.int .i64 3, .int .i64 0, .slice none 0 0]
    replace BR := Hid.mk BR
    obtain ⟨s_VR, f_VR, z_VR⟩ := VR.open
    go_wp2_with (refine wpList_store_mid rfl 28 _ _ rfl (w.heap.size) 0 #[.int .i64 3, .int .i64 0, .slice none 0 0] rfl rfl HT.out (by kernel_rfl) (by kernel_rfl) ?_)
    refine bodyPost_ret (v := .agg #[.int .i64 3, .int .i64 0, .slice none 0 0]) (results_row Tryd.results8 _ _ (w.heap.size) [.int .i64 3, .int .i64 0, .slice none 0 0] _ rfl VF.out Tryd.underlying28 rfl (by kernel_rfl)) rfl ⟨none, 0, rfl, OwnTerm.none, BR.out⟩
  · rw [hr]
    have HV := h1
    have hl4 := (tfC_zero h2).1
    obtain ⟨hq0, hq1⟩ := btw_iff.1 h3
    obtain ⟨m, rfl⟩ : ∃ m : Nat, q = (m : Int) := ⟨q.toNat, by omega⟩
    have hm : m < n := by omega
    obtain ⟨M, hM⟩ : ∃ M, mvR fr (prL fr m) (fun _ => 0) tb = M := ⟨_, rfl⟩
    have CM := Hid.mk (fun w ha hb hl => l5Move_ok a n ca fr m b nb cb tb w ha hn HV hm hl hb hnb (by omega) hcn M hM)
    have hP := mvP_ways fr (m : Int) tb
    rw [Int.toNat_natCast, hM] at hP
    replace hM := Hid.mk hM
    have hE : mvP fr m tb = ⟨M.c, if M.c = 0 then M.pl m else 0, if M.c = 0 then M.tb else []⟩ := by
      rcases hP with ⟨hc, hr⟩ | ⟨hc, hr⟩
      · rw [hr, if_pos hc, if_pos hc, hc]
      · rw [hr, if_neg hc, if_neg hc]
    rw [hE]
    rw [h1] at CF
    rw [h2] at CG
    rw [h3] at CA
    unfold MoveAt at CM
    generalize (if M.c = 0 then M.pl m else 0) = kk at *
    generalize (if M.c = 0 then M.tb else []) = ls at *
    generalize M.c = kc at *
    obtain ⟨kl, hkl⟩ : ∃ l, ls.length = l := ⟨_, rfl⟩
    simp only
    rw [hkl] at CM ⊢
    clear hr h1 h2 h3 hq0 hq1 HV hP hE
    go_enter Tryd.func8, Tryd.ntmps8
    have B := Below.refl w.heap.size w
    replace ha := ha.kept (belowA w (.cells #[.int .i64 0, .int .i64 0, .slice none 0 0] 28))
    replace hb := hb.kept (belowA w (.cells #[.int .i64 0, .int .i64 0, .slice none 0 0] 28))
    replace B := thenB B (belowA w (.cells #[.int .i64 0, .int .i64 0, .slice none 0 0] 28))
    have VR := V.new w [.int .i64 0, .int .i64 0, .slice none 0 0] 28
    obtain ⟨s_VR, f_VR, z_VR⟩ := VR.open
    have Bo := B
    go_wp2_with fail
    refine (CF.out _ ha).mono ?_
    rintro e w61 ⟨rfl, b61⟩
    clear s_VR f_VR z_VR
    have S61 := b61.size
    simp only [World.size_alloc] at S61
    replace VR := VR.kept b61
    replace ha := ha.kept b61
    replace hb := hb.kept b61
    replace B := thenB B b61
    clear b61
    obtain ⟨s_VR, f_VR, z_VR⟩ := VR.open
    have Bo := B
    go_wp2_with fail
    refine (CG.out _ hb).mono ?_
    rintro e w62 ⟨rfl, b62⟩
    clear s_VR f_VR z_VR
    have S62 := b62.size
    replace VR := VR.kept b62
    replace ha := ha.kept b62
    replace hb := hb.kept b62
    replace B := thenB B b62
    clear b62
    obtain ⟨s_VR, f_VR, z_VR⟩ := VR.open
    have Bo := B
    go_wp2_with fail
    refine (CA.out _).mono ?_
    rintro e wq ⟨rfl, rfl⟩
    go_wp2_with fail
    refine (CM.out _ ha hb (Hid.mk (fun b' hb' => by have := hlow.out b' hb'; have := B.size; omega))).mono ?_
    rintro e w63 ⟨c, d, rfl, O, b63⟩
    clear s_VR f_VR z_VR
    have S63 := b63.size
    replace VR := VR.kept b63
    replace ha := ha.kept b63
    replace hb := hb.kept b63
    replace B := thenB B b63
    clear b63
    obtain ⟨s_VR, f_VR, z_VR⟩ := VR.open
    have Bo := B
    have OL := Hid.mk (fun b hb => (O.lt b hb).1)
    clear s_VR f_VR z_VR
    have VF := Hid.mk (VR.filled [.int .i64 kc, .int .i64 kk, .slice c kl d] rfl)
    have HT := Hid.mk VR.there
    have BR := belowCells B (show w.heap.size ≤ w.heap.size by (first | omega | (simp; done) | (simp; omega))) 0 [.int .i64 kc, .int .i64 kk, .slice c kl d]
    replace BR := Hid.mk BR
    have HO := Hid.mk ((O.mono (show w.heap.size ≤ _ by first | omega | (simp; done) | (simp; omega))).apart (B := w.heap.size) (by intro b hb; have := OL.out b hb; first | omega | (simp at this; omega)) 0 [.int .i64 kc, .int .i64 kk, .slice c kl d])
    obtain ⟨s_VR, f_VR, z_VR⟩ := VR.open
    go_wp2_with (refine wpList_store_mid rfl 28 _ _ rfl (w.heap.size) 0 #[.int .i64 kc, .int .i64 kk, .slice c kl d] rfl rfl HT.out (by kernel_rfl) (by kernel_rfl) ?_)
    refine bodyPost_ret (v := .agg #[.int .i64 kc, .int .i64 kk, .slice c kl d]) (results_row Tryd.results8 _ _ (w.heap.size) [.int .i64 kc, .int .i64 kk, .slice c kl d] _ rfl VF.out Tryd.underlying28 rfl (by kernel_rfl)) rfl ⟨c, d, rfl, HO.out, BR.out⟩

end Go.Proofs.YtedippfnlaiapaaDoor

/- Terms moved: what comes of it. -/
namespace Go.Proofs.YtedippfnlaiapaaDoor
open Go.RowKit

/-- A term of a right table, moved behind a nice one. -/
theorem mv_step {fr tb : List T4} (hv : tfC fr = 0) (T : Nice tb) {pl : Int → Int} {k : Nat} (hk : k < fr.length) (hl : ∀ z ∈ plc (fr.getD k zTerm), Leads fr tb pl z) :
    Fits tb (mvT (fr.getD k zTerm) pl) ∧ denT tb (mvT (fr.getD k zTerm) pl) = den fr k ∧ tmC tb (mvT (fr.getD k zTerm) pl) = 0 := by
  have F := tfC_nice hv
  obtain ⟨x, hx⟩ : ∃ x, fr.getD k zTerm = x := ⟨_, rfl⟩
  have h0 := (tfC_zero hv).2 k hk
  have hz := tm_zero h0.1
  have B := F.bare k hk
  have R := F.rise k hk
  have hA := F.ahead k hk
  have hd : den fr k = denT fr x := by rw [den_at k hk F.ahead, hx]; rfl
  have hla : 0 < kids (fr.getD k zTerm).o → Leads fr tb pl (fr.getD k zTerm).a := fun e => hl _ (by
    unfold plc
    rcases kids_cases (fr.getD k zTerm).o with h | h | h
    · omega
    · rw [h]; simp
    · rw [h]; simp)
  have hlb : 1 < kids (fr.getD k zTerm).o → Leads fr tb pl (fr.getD k zTerm).b := fun e => hl _ (by
    unfold plc
    rcases kids_cases (fr.getD k zTerm).o with h | h | h
    · omega
    · omega
    · rw [h]; simp)
  rw [hx] at *
  obtain ⟨h1, h2⟩ := mv_fits F T B hla hlb (fun e => ⟨(R e).1, (R e).2.1⟩)
  refine ⟨h1, by rw [h2, hd], fits_zero h1 (by rw [mvT_o]; exact hz.1) ?_ ?_⟩
  · have hn := hz.2.1
    unfold mvT
    split
    · exact hn
    · split
      · exact (by decide : (0 : Int) ≤ 0 ∧ (0 : Int) ≤ 9999)
      · split
        · exact (by decide : (0 : Int) ≤ 0 ∧ (0 : Int) ≤ 9999)
        · exact (by decide : (0 : Int) ≤ 0 ∧ (0 : Int) ≤ 9999)
  · intro e
    rw [mvT_o] at e
    have hk6 := kids6
    have L := hla (by rw [e, hk6]; decide)
    have hsec := (tmSec_false (hz.2.2.2.2.2.2 (ofSec_iff.2 (.inl e)))).1
    have ha := hA.1 (by rw [e, hk6]; decide)
    rw [tmAt_take _ _ _ ha.1 ha.2] at hsec
    have em : (mvT x pl).a = pl x.a := by
      unfold mvT
      rw [if_neg (by rw [e, hk6]; decide), if_pos e]
    rw [em]
    obtain ⟨l1, l2, l3, l4, l5⟩ := L
    have e1 := den_op (pl x.a).toNat (by omega) T.ahead
    have e2 := den_op x.a.toNat (by omega) F.ahead
    rw [l5, e2] at e1
    unfold tmAt at *
    rw [← e1]; exact hsec

theorem Leads.upd {fr tb ys : List T4} {pl : Int → Int} {p v : Int} {z : Int} (h : Leads fr tb pl z) (hz : z ≠ p) : Leads fr (tb ++ ys) (updP pl p v) z := by
  have h := h.more (ys := ys)
  unfold Leads at *
  have e : updP pl p v z = pl z := by unfold updP; rw [if_neg hz]
  rw [e]; exact h

/-- What a put of a moved term leaves. -/
theorem mv_put {fr tb : List T4} (hv : tfC fr = 0) (T : Nice tb) {pl : Int → Int} {k : Nat} (hk : k < fr.length) (hl : ∀ z ∈ plc (fr.getD k zTerm), Leads fr tb pl z) {P : Put} (hP : put tb (mvT (fr.getD k zTerm) pl) = P) :
    (P.c = 0 ∧ Nice P.l ∧ (∃ ys, P.l = tb ++ ys ∧ ys.length ≤ 1) ∧ 0 ≤ P.k ∧ P.k < P.l.length ∧ den P.l P.k.toNat = den fr k ∧ ((∃ p, p < tb.length ∧ den tb p = den fr k) → P.l = tb)) ∨ (P.c = 2 ∧ 400 ≤ tb.length ∧ ¬ ∃ p, p < tb.length ∧ den tb p = den fr k) := by
  obtain ⟨hF, hD, hC⟩ := mv_step hv T hk hl
  generalize mvT (fr.getD k zTerm) pl = u at *
  rcases put_ways tb u with ⟨h, _⟩ | ⟨_, hm, hp⟩ | ⟨_, hm, h4, hp⟩ | ⟨_, hm, h4, hp⟩
  · exact absurd hC h
  · left
    rw [hp] at hP
    subst hP
    have h1 := tmIdx_lt hm
    have h2 := tmIdx_at hm
    refine ⟨rfl, T, ⟨[], by simp, by simp⟩, Int.natCast_nonneg _, by simp only; omega, ?_, fun _ => rfl⟩
    simp only [Int.toNat_natCast]
    rw [den_at _ h1 T.ahead, h2, ← hD]; rfl
  · right
    rw [hp] at hP
    subst hP
    refine ⟨rfl, h4, ?_⟩
    rintro ⟨p, hp1, hp2⟩
    exact hm (T.found hF hp1 (hp2.trans hD.symm)).2
  · left
    rw [hp] at hP
    subst hP
    refine ⟨rfl, T.snoc hF hm, ⟨[u], rfl, by simp⟩, by simp, by simp; omega, ?_, ?_⟩
    · simp only [Int.toNat_natCast]
      rw [den_snoc T hF, hD]
    · rintro ⟨p, hp1, hp2⟩
      exact absurd (T.found hF hp1 (hp2.trans hD.symm)).2 hm

theorem rising_earlier {zs : List Int} (h : zs.Pairwise (fun x y => x < y)) {k : Nat} (hk : k < zs.length) {z : Int} (hz : z ∈ zs) (hlt : z < zs.getD k 0) : z ∈ zs.take k := by
  obtain ⟨i, hi, he⟩ := List.getElem_of_mem hz
  have h1 := List.pairwise_iff_getElem.1 h
  have e : zs.getD k 0 = zs[k] := by simp [List.getD, hk]
  rw [e] at hlt
  have : i < k := by
    rcases Nat.lt_trichotomy i k with h2 | h2 | h2
    · exact h2
    · subst h2; omega
    · have := h1 k i hk hi h2; omega
  rw [List.mem_take_iff_getElem]
  exact ⟨i, by omega, he⟩

/-- What has come of the moves so far. -/
structure Mvd (fr : List T4) (zs : List Int) (t0 : List T4) (k : Nat) (pl : Int → Int) (tb : List T4) : Prop where
  nice : Nice tb
  pre : ∃ ys, tb = t0 ++ ys ∧ ys.length ≤ k
  leads : ∀ z ∈ zs.take k, Leads fr tb pl z
  same : (∀ z ∈ zs, ∃ p, p < t0.length ∧ den t0 p = den fr z.toNat) → tb = t0

theorem mvd_step {fr t0 tb : List T4} {r k : Nat} {pl : Int → Int} (hv : tfC fr = 0) (hr : r < fr.length) (h : Mvd fr (prL fr r) t0 k pl tb) (hk : k < (prL fr r).length) {p : Int} (hp : (prL fr r).getD k 0 = p) {P : Put} (hP : put tb (mvT (tmAt fr p) pl) = P) :
    (P.c = 0 ∧ Mvd fr (prL fr r) t0 (k + 1) (updP pl p P.k) P.l) ∨ (P.c = 2 ∧ 400 ≤ tb.length ∧ ¬ ∀ z ∈ prL fr r, ∃ p, p < t0.length ∧ den t0 p = den fr z.toNat) := by
  have N := names_of (tfC_ahead hv)
  have hpm : p ∈ prL fr r := by rw [← hp]; exact igetD_mem hk
  obtain ⟨i, rfl, hi⟩ := (prL_mem N hr).1 hpm
  have hil := hi.lt N hr
  have hin : i < fr.length := by omega
  have hkid : ∀ z ∈ plc (fr.getD i zTerm), Leads fr tb pl z := by
    intro z hz
    have hz2 := N i hin z hz
    obtain ⟨j, rfl⟩ : ∃ j : Nat, z = (j : Int) := ⟨z.toNat, by omega⟩
    refine h.leads _ (rising_earlier (prL_rising fr r) hk ((prL_mem N hr).2 ⟨j, rfl, hi.step hz⟩) (by rw [hp]; omega))
  unfold tmAt at hP
  rw [Int.toNat_natCast] at hP
  obtain ⟨ys, hys, hyl⟩ := h.pre
  rcases mv_put hv h.nice hin hkid hP with ⟨h1, h2, ⟨zs2, h3, h3l⟩, h4, h5, h6, h7⟩ | ⟨h1, h2, h3⟩
  · left
    refine ⟨h1, h2, ⟨ys ++ zs2, by rw [h3, hys, List.append_assoc], by simp; omega⟩, ?_, ?_⟩
    · intro z hz
      have e : (prL fr r).take (k + 1) = (prL fr r).take k ++ [(i : Int)] := by
        rw [List.take_add_one, igetD_some hk, hp]; rfl
      rw [e, List.mem_append, List.mem_singleton] at hz
      by_cases hzi : z = (i : Int)
      · subst hzi
        refine ⟨Int.natCast_nonneg _, by omega, ?_, ?_, ?_⟩
        · unfold updP; rw [if_pos rfl]; exact h4
        · unfold updP; rw [if_pos rfl]; exact h5
        · unfold updP; rw [if_pos rfl, Int.toNat_natCast]; exact h6
      · rcases hz with hz | hz
        · rw [h3]; exact (h.leads z hz).upd hzi
        · exact absurd hz hzi
    · intro ha
      have e := h.same ha
      obtain ⟨q, hq1, hq2⟩ := ha (i : Int) hpm
      rw [Int.toNat_natCast] at hq2
      rw [← e] at hq1 hq2
      rw [h7 ⟨q, hq1, hq2⟩]; exact e
  · right
    refine ⟨h1, h2, fun ha => h3 ?_⟩
    have e := h.same ha
    obtain ⟨q, hq1, hq2⟩ := ha (i : Int) hpm
    rw [Int.toNat_natCast] at hq2
    rw [← e] at hq1 hq2
    exact ⟨q, hq1, hq2⟩

theorem Mvd.start {fr : List T4} {zs : List Int} {t0 : List T4} (T : Nice t0) : Mvd fr zs t0 0 (fun _ => 0) t0 := ⟨T, ⟨[], by simp, by simp⟩, fun z hz => by simp at hz, fun _ => rfl⟩

theorem Nice.nil : Nice [] := ⟨fun k hk => by simp at hk, fun k hk => by simp at hk, fun k hk => by simp at hk, fun k hk => by simp at hk⟩

theorem mvd_run {fr t0 : List T4} {r : Nat} (hv : tfC fr = 0) (hr : r < fr.length) : ∀ (d k : Nat) (pl : Int → Int) (tb : List T4), (prL fr r).length - k = d → k ≤ (prL fr r).length → Mvd fr (prL fr r) t0 k pl tb →
    ∀ M, mvR fr ((prL fr r).drop k) pl tb = M → (M.c = 0 ∧ Mvd fr (prL fr r) t0 (prL fr r).length M.pl M.tb) ∨ (M.c = 2 ∧ (∃ k, k < (prL fr r).length ∧ 400 ≤ t0.length + k) ∧ ¬ ∀ z ∈ prL fr r, ∃ p, p < t0.length ∧ den t0 p = den fr z.toNat) := by
  intro d
  induction d with
  | zero =>
    intro k pl tb hd hk h M hM
    have e : k = (prL fr r).length := by omega
    rw [List.drop_of_length_le (by omega), mvR] at hM
    subst hM
    left
    rw [e] at h
    exact ⟨rfl, h⟩
  | succ d ih =>
    intro k pl tb hd hk h M hM
    have hk1 : k < (prL fr r).length := by omega
    have e : (prL fr r)[k] = (prL fr r).getD k 0 := by simp [List.getD, hk1]
    rw [List.drop_eq_getElem_cons hk1, mvR, e] at hM
    obtain ⟨p, hp⟩ : ∃ p, (prL fr r).getD k 0 = p := ⟨_, rfl⟩
    rw [hp] at hM
    rcases mvd_step hv hr h hk1 hp (P := put tb (mvT (tmAt fr p) pl)) rfl with ⟨h1, h2⟩ | ⟨h1, h2, h3⟩
    · rw [if_pos h1] at hM
      exact ih (k + 1) _ _ (by omega) (by omega) h2 M hM
    · rw [if_neg (by omega)] at hM
      subst hM
      obtain ⟨ys, hy1, hy2⟩ := h.pre
      refine .inr ⟨h1, ⟨k, hk1, ?_⟩, h3⟩
      rw [hy1, List.length_append] at h2
      omega

theorem mkTr_leaf {t : T4} {x y : Tr} (h : kids t.o = 0) : mkTr t x y = .leaf t.o t.n := by unfold mkTr; rw [h]; simp
theorem mkTr_one {t : T4} {x y : Tr} (h : kids t.o = 1) : mkTr t x y = .one t.o x := by unfold mkTr; rw [h]; simp
theorem mkTr_two {t : T4} {x y : Tr} (h : kids t.o = 2) : mkTr t x y = .two t.o x y ∨ mkTr t x y = .two t.o y x := by
  unfold mkTr
  rw [if_pos h]
  split
  · exact .inr rfl
  · exact .inl rfl

/-- What a part of a term is made of stands in each table that the term stands in. -/
theorem den_sub {xs ys : List T4} (X : Ahead xs) (Y : Ahead ys) {p r : Nat} (hp : p < xs.length) (hr : r < ys.length) (h : den xs p = den ys r) {i : Nat} (hi : Rch ys r i) : ∃ q, q < xs.length ∧ den xs q = den ys i := by
  have N := names_of Y
  induction hi with
  | top => exact ⟨p, hp, h⟩
  | @step i j h1 h2 ih =>
    obtain ⟨q, hq, he⟩ := ih
    have hin : i < ys.length := by have := h1.lt N hr; omega
    have ho : (xs.getD q zTerm).o = (ys.getD i zTerm).o := by rw [← den_op q hq X, ← den_op i hin Y, he]
    rw [den_at q hq X, den_at i hin Y] at he
    obtain ⟨qa, qb⟩ := X q hq
    unfold plc at h2
    rcases kids_cases (ys.getD i zTerm).o with hk | hk | hk
    · rw [hk] at h2; simp at h2
    · rw [hk, if_neg (by decide), if_pos rfl, List.mem_singleton] at h2
      rw [mkTr_one (ho ▸ hk), mkTr_one hk] at he
      simp only [Tr.one.injEq] at he
      have ha := qa (by rw [ho, hk]; decide)
      refine ⟨(xs.getD q zTerm).a.toNat, by omega, ?_⟩
      rw [he.2, ← h2]; simp
    · rw [hk, if_pos rfl] at h2
      simp only [List.mem_cons, List.not_mem_nil, or_false] at h2
      have ha := qa (by rw [ho, hk]; decide)
      have hb := qb (by rw [ho, hk]; decide)
      have wa : den xs (xs.getD q zTerm).a.toNat = den ys j ∨ den xs (xs.getD q zTerm).b.toNat = den ys j := by
        have ej : den ys j = den ys (ys.getD i zTerm).a.toNat ∨ den ys j = den ys (ys.getD i zTerm).b.toNat := by
          rcases h2 with h2 | h2
          · left; rw [← h2]; simp
          · right; rw [← h2]; simp
        rcases mkTr_two (t := xs.getD q zTerm) (x := den xs (xs.getD q zTerm).a.toNat) (y := den xs (xs.getD q zTerm).b.toNat) (ho ▸ hk) with e1 | e1 <;> rcases mkTr_two (t := ys.getD i zTerm) (x := den ys (ys.getD i zTerm).a.toNat) (y := den ys (ys.getD i zTerm).b.toNat) hk with e2 | e2 <;> rw [e1, e2] at he <;> simp only [Tr.two.injEq] at he <;> obtain ⟨_, f1, f2⟩ := he <;> rcases ej with ej | ej <;> rw [ej] <;> first | exact .inl f1 | exact .inr f2 | exact .inl f2 | exact .inr f1
      rcases wa with wa | wa
      · exact ⟨_, by omega, wa⟩
      · exact ⟨_, by omega, wa⟩

/-- A term moved into nothing. -/
theorem mv_first {fr : List T4} {x : Nat} (hv : tfC fr = 0) (hx : x < fr.length) {M : Mv} (hM : mvR fr (prL fr x) (fun _ => 0) [] = M) : M.c = 0 ∧ Nice M.tb ∧ M.tb.length ≤ 400 ∧ Leads fr M.tb M.pl x := by
  have N := names_of (tfC_ahead hv)
  have hl := prL_len fr x
  have h4 := (tfC_zero hv).1
  rcases mvd_run hv hx _ 0 (fun _ => 0) [] rfl (Nat.zero_le _) (Mvd.start Nice.nil) M (by rw [List.drop_zero]; exact hM) with ⟨h1, h2⟩ | ⟨h1, ⟨k, hk, h2⟩, _⟩
  · obtain ⟨ys, hy1, hy2⟩ := h2.pre
    refine ⟨h1, h2.nice, by rw [hy1]; simp; omega, h2.leads _ ?_⟩
    rw [List.take_length]
    exact (prL_mem N hx).2 ⟨x, rfl, .top⟩
  · simp at h2; omega

/-- Two terms are the same where, moved into one table, they come to one place of it, and the second puts nothing behind. -/
theorem mv_same {fa fb : List T4} {x y : Nat} (ha : tfC fa = 0) (hx : x < fa.length) (hb : tfC fb = 0) (hy : y < fb.length) {M1 M2 : Mv} (h1 : mvR fa (prL fa x) (fun _ => 0) [] = M1) (h2 : mvR fb (prL fb y) (fun _ => 0) M1.tb = M2) :
    (M2.c = 0 ∧ M2.pl y = M1.pl x ∧ M2.tb.length = M1.tb.length) ↔ den fa x = den fb y := by
  obtain ⟨c1, N1, _, L1⟩ := mv_first ha hx h1
  obtain ⟨_, _, l3, l4, l5⟩ := L1
  rw [Int.toNat_natCast] at l5
  have N := names_of (tfC_ahead hb)
  have hym : (y : Int) ∈ prL fb y := (prL_mem N hy).2 ⟨y, rfl, .top⟩
  have R := mvd_run hb hy _ 0 (fun _ => 0) M1.tb rfl (Nat.zero_le _) (Mvd.start N1) M2 (by rw [List.drop_zero]; exact h2)
  constructor
  · rintro ⟨e1, e2, _⟩
    rcases R with ⟨_, R⟩ | ⟨e, _, _⟩
    · obtain ⟨_, _, k3, k4, k5⟩ := R.leads (y : Int) (by rw [List.take_length]; exact hym)
      obtain ⟨ys, hys, _⟩ := R.pre
      rw [Int.toNat_natCast, e2, hys, den_app _ _ _ (by omega), l5] at k5
      exact k5
    · omega
  · intro e
    have hall : ∀ z ∈ prL fb y, ∃ p, p < M1.tb.length ∧ den M1.tb p = den fb z.toNat := by
      intro z hz
      obtain ⟨i, rfl, hi⟩ := (prL_mem N hy).1 hz
      rw [Int.toNat_natCast]
      exact den_sub N1.ahead (tfC_ahead hb) (p := (M1.pl x).toNat) (by omega) hy (by rw [l5, e]) hi
    rcases R with ⟨e1, R⟩ | ⟨_, _, h⟩
    · have es := R.same hall
      obtain ⟨_, _, k3, k4, k5⟩ := R.leads (y : Int) (by rw [List.take_length]; exact hym)
      rw [Int.toNat_natCast, es] at k5
      rw [es] at k4
      refine ⟨e1, ?_, by rw [es]⟩
      have := N1.inj (by omega) (by omega) (k5.trans (e.symm.trans l5.symm))
      omega
    · exact absurd hall h

end Go.Proofs.YtedippfnlaiapaaDoor

/- Terms numbered: what comes of it. -/
namespace Go.Proofs.YtedippfnlaiapaaDoor
open Go.RowKit

/-- The numbers of the terms of a table, and the table of what they number. -/
structure Nb where
  pl : Int → Int
  tb : List T4

def nbS (fr t0 : List T4) : Nat → Nb
  | 0 => ⟨fun _ => 0, t0⟩
  | k + 1 => ⟨updP (nbS fr t0 k).pl k (tmIdx (nbS fr t0 k).tb (mvT (fr.getD k zTerm) (nbS fr t0 k).pl) : Nat), if mvT (fr.getD k zTerm) (nbS fr t0 k).pl ∈ (nbS fr t0 k).tb then (nbS fr t0 k).tb else (nbS fr t0 k).tb ++ [mvT (fr.getD k zTerm) (nbS fr t0 k).pl]⟩

structure NbI (fr t0 : List T4) (k : Nat) (s : Nb) : Prop where
  nice : Nice s.tb
  pre : ∃ ys, s.tb = t0 ++ ys ∧ ys.length ≤ k
  leads : ∀ j : Nat, j < k → Leads fr s.tb s.pl j
  small : ∀ i, 0 ≤ s.pl i ∧ s.pl i ≤ t0.length + k

theorem nb_ok {fr t0 : List T4} (hv : tfC fr = 0) (T : Nice t0) : ∀ k, k ≤ fr.length → NbI fr t0 k (nbS fr t0 k)
  | 0, _ => ⟨T, ⟨[], by simp [nbS], by simp⟩, fun j hj => by omega, fun i => ⟨Int.le_refl 0, by simp only [nbS]; omega⟩⟩
  | k + 1, hk => by
    have I := nb_ok hv T k (by omega)
    rw [nbS]
    generalize nbS fr t0 k = s at *
    obtain ⟨pl, tb⟩ := s
    obtain ⟨hN, ⟨ys, hy1, hy2⟩, hL, hS⟩ := I
    simp only at *
    have hkid : ∀ z ∈ plc (fr.getD k zTerm), Leads fr tb pl z := by
      intro z hz
      have hz2 := plc_ahead k (by omega) (tfC_ahead hv) rfl z hz
      obtain ⟨j, rfl⟩ : ∃ j : Nat, z = (j : Int) := ⟨z.toNat, by omega⟩
      exact hL j (by omega)
    obtain ⟨hF, hD, _⟩ := mv_step hv hN (by omega) hkid
    generalize mvT (fr.getD k zTerm) pl = u at *
    have hlen : tb.length ≤ t0.length + k := by rw [hy1, List.length_append]; omega
    have small : ∀ v : Nat, v ≤ tb.length → ∀ i, 0 ≤ updP pl k (v : Int) i ∧ updP pl k (v : Int) i ≤ (t0.length : Int) + ((k + 1 : Nat) : Int) := by
      intro v hv i
      unfold updP
      split
      · omega
      · have := hS i; omega
    by_cases hm : u ∈ tb
    · rw [if_pos hm]
      have h1 := tmIdx_lt hm
      have h2 := tmIdx_at hm
      refine ⟨hN, ⟨ys, hy1, by omega⟩, ?_, small _ (by omega)⟩
      intro j hj
      by_cases hjk : j = k
      · subst hjk
        refine ⟨by omega, by omega, ?_, ?_, ?_⟩
        · simp only [updP, if_pos]; omega
        · simp only [updP, if_pos]; omega
        · simp only [updP, if_pos, Int.toNat_natCast]
          rw [den_at _ h1 hN.ahead, h2, ← hD]; rfl
      · have := (hL j (by omega)).upd (ys := []) (p := (k : Int)) (v := (tmIdx tb u : Nat)) (by omega)
        rw [List.append_nil] at this
        exact this
    · rw [if_neg hm, tmIdx_out hm]
      refine ⟨hN.snoc hF hm, ⟨ys ++ [u], by rw [hy1, List.append_assoc], by simp; omega⟩, ?_, small _ (Nat.le_refl _)⟩
      intro j hj
      by_cases hjk : j = k
      · subst hjk
        refine ⟨by omega, by omega, ?_, ?_, ?_⟩
        · simp only [updP, if_pos]; omega
        · simp only [updP, if_pos]; simp; omega
        · simp only [updP, if_pos, Int.toNat_natCast]
          rw [den_snoc hN hF, hD]
      · exact (hL j (by omega)).upd (ys := [u]) (p := (k : Int)) (by omega)

/-- Two terms have one number where they are made in the same way. -/
theorem nb_same {fa fb : List T4} {x y : Nat} (ha : tfC fa = 0) (hx : x < fa.length) (hb : tfC fb = 0) (hy : y < fb.length) :
    (nbS fa [] fa.length).pl x = (nbS fb (nbS fa [] fa.length).tb fb.length).pl y ↔ den fa x = den fb y := by
  have I1 := nb_ok ha Nice.nil fa.length (Nat.le_refl _)
  have I2 := nb_ok hb I1.nice fb.length (Nat.le_refl _)
  generalize nbS fa [] fa.length = s at *
  generalize nbS fb s.tb fb.length = r at *
  obtain ⟨_, _, a3, a4, a5⟩ := I1.leads x hx
  obtain ⟨_, _, b3, b4, b5⟩ := I2.leads y hy
  obtain ⟨ys, hys, _⟩ := I2.pre
  rw [Int.toNat_natCast] at a5 b5
  have a6 : den r.tb (s.pl x).toNat = den fa x := by rw [hys, den_app _ _ _ (by omega)]; exact a5
  have a7 : (s.pl x).toNat < r.tb.length := by rw [hys, List.length_append]; omega
  constructor
  · intro e
    rw [← a6, e, b5]
  · intro e
    have := I2.nice.inj a7 (by omega) (a6.trans (e.trans b5.symm))
    omega

end Go.Proofs.YtedippfnlaiapaaDoor

/- numberTerms. -/
namespace Go.Proofs.YtedippfnlaiapaaDoor
open Go.RowKit

theorem mvT_okI {t : T4} (ht : okT t) {pl : Int → Int} (h : ∀ i, okI (pl i)) : okT (mvT t pl) := by
  have z : okI 0 := okI_of (by decide) (by decide)
  unfold mvT
  split
  · exact ht
  · split
    · exact ⟨(okI_of (by decide) (by decide) : okI 6), h _, z, z⟩
    · split
      · exact ⟨(okI_of (by decide) (by decide) : okI 7), okI_min (h _) (h _), okI_max (h _) (h _), z⟩
      · exact ⟨ht.1, h _, h _, z⟩

/-- What a call of 'numberTerms' leaves. -/
def Numbered (fr t0 : List T4) (n g : Nat) (w : World) (e : Ending) (w' : World) : Prop :=
  ∃ c d, e = .returned (.slice c n d) ∧ Own .i64 2 w' w.heap.size c d (tab n (nbS fr t0 n).pl) ∧ TM w' g (tmM (nbS fr t0 n).tb) (nbS fr t0 n).tb.length ∧ Sm (fun q => q = g) w w'

set_option maxRecDepth 20000 in
set_option maxHeartbeats 8000000 in
theorem numberTerms_ok (a : Option Addr) (n ca : Nat) (fr t0 : List T4) (g ct : Nat) (w : World) (ha : RdTerm w a fr) (hn : fr.length = n) (hv : tfC fr = 0) (hok : ∀ t ∈ fr, okT t) (T0 : Nice t0) (hl : t0.length ≤ 400) (hg : TM w g (tmM t0) ct) (hct : ct = t0.length) (hag : Hid (∀ ad : Addr, a = some ad → ad.block ≠ g)) (hlow : Hid (∀ ad : Addr, a = some ad → ad.block < w.heap.size)) :
    Calls Tryd.prog 30 #[.slice a n ca, .map (some g)] w (Numbered fr t0 n g w) := by
  subst hct
  have hn4 : n ≤ 400 := by have := (tfC_zero hv).1; omega
  have HAh := Hid.mk (tfC_ahead hv)
  have HV := Hid.mk hv
  have HOK := Hid.mk hok
  have HN := Hid.mk hn
  have HNB := Hid.mk (fun k (hk : k ≤ n) => nb_ok hv T0 k (by omega))
  obtain ⟨i0, hi, hz0, hz1, hz2⟩ := info_parts Tryd.infoI64
  have hgl := hg.lt
  have S := Sm.refl (fun q => q = g) w
  clear hv hok T0
  go_enter Tryd.func30, Tryd.ntmps30
  go_wp2_with (at_make; go_loud (refine wpList_make_full _ rfl _ _ 38 rfl w.heap.size 2 i0 (.int .i64 0) 1 Tryd.underlying38 hi hz0 hz1 .i64 .i64 _ _ n rfl rfl (by omega) (by omega) (by rw [hz2]; omega) (by unfold maxLen; omega) (Nat.le_refl _) ?_))
  intro w2 hown hgrow
  have O0 : Own .i64 2 w2 w.heap.size (some ⟨w.heap.size, 0, none⟩) n (tab n (nbS fr t0 0).pl) := by
    refine Own.mk ?_ (tab_len _ _)
    rw [show (nbS fr t0 0).pl = (fun _ => 0) from rfl, tab_zero]
    simpa [toList_madeCells_one] using hown
  have bg : Below w.heap.size w w2 := (Sm.grown (X := fun _ => False) hgrow (fun k e => by cases e)).below' (Below.refl _ _) (Nat.le_refl _) (fun k e => e.elim)
  have hS2 : w.heap.size < w2.heap.size := by have := O0.lt _ rfl; simp only at this; omega
  have S0 := Hid.mk (S.trans (Sm.below bg))
  have A0 := Hid.mk (ha.kept bg)
  have M0 := Hid.mk (hg.kept bg)
  replace O0 := Hid.mk O0
  have hQ0 := Hid.mk hS2
  obtain ⟨Q, hQ⟩ : ∃ Q, w.heap.size = Q := ⟨_, rfl⟩
  have hAQ : Hid (∀ ad : Addr, a = some ad → ad.block ≠ Q) := Hid.mk (fun ad had => by have := hlow.out ad had; omega)
  have hQw := Hid.mk hQ
  have hgQ : g < Q := by omega
  rw [hQ] at O0 hQ0 ⊢
  clear hown hgrow bg hS2 S ha hg hQ hgl hi hz0 hz1 hz2
  go_wp2
  go_loopw [16] (fun i wr => ∃ k : Nat, k ≤ n ∧ i = .int .i64 k ∧ Own .i64 2 wr Q (some ⟨Q, 0, none⟩) n (tab n (nbS fr t0 k).pl) ∧ TM wr g (tmM (nbS fr t0 k).tb) (nbS fr t0 k).tb.length ∧ RdTerm wr a fr ∧ Sm (fun q => q = g) w wr ∧ Hid (Q < wr.heap.size)) (fun i _ => n - (intOf i).toNat)
  case atStart => exact ⟨0, Nat.zero_le _, rfl, O0.out, M0.out, A0.out, S0.out, hQ0⟩
  case round =>
    clear O0 M0 A0 S0 hQ0
    obtain ⟨k, hk, rfl, O, hT, ha, S, hQr⟩ := hrel
    by_cases hlt : k < n
    · have hk1 : (k : Int) < (n : Int) := by omega
      obtain ⟨x, hx1⟩ : ∃ x, fr.getD k zTerm = x := ⟨_, rfl⟩
      have I := HNB.out k hk
      have hnx : nbS fr t0 (k + 1) = ⟨updP (nbS fr t0 k).pl k (tmIdx (nbS fr t0 k).tb (mvT x (nbS fr t0 k).pl) : Nat), if mvT x (nbS fr t0 k).pl ∈ (nbS fr t0 k).tb then (nbS fr t0 k).tb else (nbS fr t0 k).tb ++ [mvT x (nbS fr t0 k).pl]⟩ := by rw [nbS, hx1]
      obtain ⟨s, hs⟩ : ∃ s, nbS fr t0 k = s := ⟨_, rfl⟩
      rw [hs] at O hT I hnx
      obtain ⟨pl, tb⟩ := s
      obtain ⟨ys, hy1, hy2⟩ := I.pre
      have hsm := I.small
      simp only at O hT hnx hy1 hsm
      have hpi : ∀ i, okI (pl i) := fun i => okI_of (by have := (hsm i).1; omega) (by have := (hsm i).2; omega)
      have htl : tb.length ≤ 800 := by rw [hy1, List.length_append]; omega
      have hxo : okT x := HOK.out x (by rw [← hx1]; exact getDTerm_mem (by rw [HN.out]; exact hlt))
      have hro : okT (mvT x pl) := mvT_okI hxo hpi
      have hop := op_right HV.out k (by rw [HN.out]; exact hlt) hx1
      obtain ⟨ha1, hb1⟩ := HAh.out k (by rw [HN.out]; exact hlt)
      rw [hx1] at ha1 hb1
      have CW := Hid.mk (fun w h => withPlaces_ok x hop pl n (some ⟨Q, 0, none⟩) n w h (fun e => by have := ha1 e; omega) (fun e => by have := hb1 e; omega))
      obtain ⟨r0, hr⟩ : ∃ r, mvT x pl = r := ⟨_, rfl⟩
      rw [hr] at hnx hro
      have HR := Hid.mk hr
      have HA := Hid.mk ha
      have HO := Hid.mk O
      have HT := Hid.mk hT
      have HS := Hid.mk S
      rcases ha with h9 | ⟨b1, o1, rfl, hca⟩
      · have := HN.out; rw [h9] at this; simp at this; omega
      obtain ⟨p0, p1, p2, p3⟩ := RdTerm.cells hca k (by rw [HN.out]; exact hlt) x hx1
      have hQw2 := hQr.out
      have hbg := hag.out _ rfl
      simp only at hbg
      have hb1Q : b1 ≠ Q := hAQ.out _ rfl
      clear hca hx1 hop ha1 hb1 hr hpi hsm hy1 hxo I hT S hs
      have B := Below.refl wr.heap.size wr
      replace B := thenB B (belowA wr (.cells #[.int .i64 x.o, .int .i64 x.a, .int .i64 x.b, .int .i64 x.n] 66))
      have VX := V.new wr [.int .i64 x.o, .int .i64 x.a, .int .i64 x.b, .int .i64 x.n] 66
      obtain ⟨s_VX, f_VX, z_VX⟩ := VX.open
      have Bo := B
      go_wp2_with fail
      refine (CW.out _ (HO.out.rd.kept B)).mono ?_
      rintro e w1 ⟨r, hr', rfl, b1⟩
      clear s_VX f_VX z_VX
      have S1 := b1.size
      simp only [World.size_alloc] at S1
      replace VX := VX.kept b1
      replace B := thenB B b1
      clear b1
      obtain ⟨s_VX, f_VX, z_VX⟩ := VX.open
      have Bo := B
      rw [HR.out] at hr'
      subst hr'
      replace VX := VX.kept (belowA w1 (.cells #[.int .i64 r.o, .int .i64 r.a, .int .i64 r.b, .int .i64 r.n] 66))
      replace B := thenB B (belowA w1 (.cells #[.int .i64 r.o, .int .i64 r.a, .int .i64 r.b, .int .i64 r.n] 66))
      have VM := V.new w1 [.int .i64 r.o, .int .i64 r.a, .int .i64 r.b, .int .i64 r.n] 66
      clear s_VX f_VX z_VX
      obtain ⟨s_VX, f_VX, z_VX⟩ := VX.open
      obtain ⟨s_VM, f_VM, z_VM⟩ := VM.open
      have Bo := B
      have hTc := HT.out.kept B
      have QL := hTc.look hro 0
      by_cases hm : r ∈ tb
      · rw [if_pos hm] at hnx
        have hM : tmM tb r = some ((tmIdx tb r : Nat) : Int) := by unfold tmM; rw [if_pos hm]
        rw [hM] at QL
        simp only [Option.isSome_some, Option.getD_some] at QL
        obtain ⟨v, hvv⟩ : ∃ v, tmIdx tb r = v := ⟨_, rfl⟩
        rw [hvv] at QL hnx
        have hvl : v < tb.length := by rw [← hvv]; exact tmIdx_lt hm
        replace QL : (Instr.lookup 56 (.map (some g)) (.agg #[.int .i64 r.o, .int .i64 r.a, .int .i64 r.b, .int .i64 r.n]) true).run Tryd.prog (w1.alloc (.cells #[.int .i64 r.o, .int .i64 r.a, .int .i64 r.b, .int .i64 r.n] 66)) = .ok (.tuple #[.int .i64 v, .bool true]) (w1.alloc (.cells #[.int .i64 r.o, .int .i64 r.a, .int .i64 r.b, .int .i64 r.n] 66)) := QL
        have HNX := Hid.mk hnx
        clear hnx hm hM hvv
        have hsz9 := B.size
        have hT9 := hTc
        have hO9 := HO.out.kept B
        have hA9 := HA.out.kept B
        have hS9 := HS.out.trans (Sm.below B)
        have SQ : Sm (fun q => q = Q) (w1.alloc (.cells #[.int .i64 r.o, .int .i64 r.a, .int .i64 r.b, .int .i64 r.n] 66)) ((w1.alloc (.cells #[.int .i64 r.o, .int .i64 r.a, .int .i64 r.b, .int .i64 r.n] 66)).setCell ⟨Q, k, none⟩ (.int .i64 v)) := Sm.cell (X := fun q => q = Q) rfl _
        have hOc := Hid.mk hO9
        have hQc := tab_cell hO9 hlt
        have hQf := tab_frozen hO9 k
        have O8 := Hid.mk (tab_store hO9 k v)
        have T8 := Hid.mk (hT9.sm SQ (by omega))
        have A8 := Hid.mk (hA9.sm SQ (fun b hb e => by simp only [Option.some.injEq] at hb; subst hb; simp only at e; omega))
        have S8 := Hid.mk (hS9.newCell (p := ⟨Q, k, none⟩) (by have := hQw.out; simp only; omega) (.int .i64 v))
        have Q8 : Hid (Q < ((w1.alloc (.cells #[.int .i64 r.o, .int .i64 r.a, .int .i64 r.b, .int .i64 r.n] 66)).setCell ⟨Q, k, none⟩ (.int .i64 v)).heap.size) := Hid.mk (by have h1 := SQ.size; omega)
        clear SQ hOc hO9 hT9 hA9 hS9 B
        clear hTc
        go_wp2
        go_roundw
        case rel => exact ⟨k + 1, by omega, by go_num, by rw [HNX.out]; exact O8.out, by rw [HNX.out]; exact T8.out, A8.out, S8.out, Q8⟩
        case measure => (simp [intOf]; omega)
      · rw [if_neg hm, tmIdx_out hm] at hnx
        have hM : tmM tb r = none := by unfold tmM; rw [if_neg hm]
        rw [hM] at QL
        simp only [Option.isSome_none, Option.getD_none] at QL
        replace QL : (Instr.lookup 56 (.map (some g)) (.agg #[.int .i64 r.o, .int .i64 r.a, .int .i64 r.b, .int .i64 r.n]) true).run Tryd.prog (w1.alloc (.cells #[.int .i64 r.o, .int .i64 r.a, .int .i64 r.b, .int .i64 r.n] 66)) = .ok (.tuple #[.int .i64 0, .bool false]) (w1.alloc (.cells #[.int .i64 r.o, .int .i64 r.a, .int .i64 r.b, .int .i64 r.n] 66)) := QL
        have QN : ∀ ty : TypeId, (Builtin.len_ #[56] ty #[.map (some g)]).run Tryd.prog (w1.alloc (.cells #[.int .i64 r.o, .int .i64 r.a, .int .i64 r.b, .int .i64 r.n] 66)) = .ok (.int .i64 tb.length) (w1.alloc (.cells #[.int .i64 r.o, .int .i64 r.a, .int .i64 r.b, .int .i64 r.n] 66)) := fun ty => hTc.len ty 0
        have hsn := tmM_snoc hm
        have HNX := Hid.mk hnx
        have HM := Hid.mk hM
        have hsz9 := B.size
        have hO9 := Hid.mk (HO.out.kept B)
        have hA9 := Hid.mk (HA.out.kept B)
        have hS9 := Hid.mk (HS.out.trans (Sm.below B))
        clear hnx hm hM
        obtain ⟨v, hvv⟩ : ∃ v, tb.length = v := ⟨_, rfl⟩
        rw [hvv] at QN HNX hsn hTc htl
        go_wp2_with (refine wpList_TMstore _ rfl _ _ _ rfl g (tmM tb) v hTc r hro v (okI_of (by omega) (by omega)) HM.out (by omega) rfl rfl rfl ?_)
        intro w7 hT7 hturn
        try rw [hsn] at hT7
        have S7 := Sm.turn (X := fun q => q = g) hturn rfl
        have hO9 := hO9.out.sm S7 (fun b hb e => by simp only [Option.some.injEq] at hb; subst hb; simp only at e; omega)
        have hA9 := hA9.out.sm S7 (fun b hb e => by simp only [Option.some.injEq] at hb; subst hb; exact hbg e)
        have hS9 := hS9.out.trans S7
        have hsz7 := S7.size
        have hT9 := hT7
        clear S7 hturn hT7 hTc
        clear QL QN
        have SQ : Sm (fun q => q = Q) w7 (w7.setCell ⟨Q, k, none⟩ (.int .i64 v)) := Sm.cell (X := fun q => q = Q) rfl _
        have hOc := Hid.mk hO9
        have hQc := tab_cell hO9 hlt
        have hQf := tab_frozen hO9 k
        have O8 := Hid.mk (tab_store hO9 k v)
        have T8 := Hid.mk (hT9.sm SQ (by omega))
        have A8 := Hid.mk (hA9.sm SQ (fun b hb e => by simp only [Option.some.injEq] at hb; subst hb; simp only at e; omega))
        have S8 := Hid.mk (hS9.newCell (p := ⟨Q, k, none⟩) (by have := hQw.out; simp only; omega) (.int .i64 v))
        have Q8 : Hid (Q < (w7.setCell ⟨Q, k, none⟩ (.int .i64 v)).heap.size) := Hid.mk (by have h1 := SQ.size; omega)
        clear SQ hOc hO9 hT9 hA9 hS9 B
        go_wp2
        go_roundw
        case rel => exact ⟨k + 1, by omega, by go_num, by rw [HNX.out]; exact O8.out, by rw [HNX.out, List.length_append, hvv]; exact T8.out, A8.out, S8.out, Q8⟩
        case measure => (simp [intOf]; omega)
    · obtain rfl : k = n := by omega
      have HO := Hid.mk O
      have HT := Hid.mk hT
      have HS := Hid.mk S
      clear O hT S ha
      go_wp2
      go_ret
      exact ⟨_, _, rfl, (hQw.out.symm ▸ HO.out), HT.out, HS.out⟩

end Go.Proofs.YtedippfnlaiapaaDoor

/- SameTerms: the program. -/
namespace Go.Proofs.YtedippfnlaiapaaDoor
open Go.RowKit

/-- Whether two terms are made in the same way. -/
@[irreducible] def smT (fa : List T4) (x : Int) (fb : List T4) (y : Int) : Bool := if akC fa x = 0 then (if akC fb y = 0 then decide (den fa x.toNat = den fb y.toNat) else false) else false

theorem smT_ways (fa : List T4) (x : Int) (fb : List T4) (y : Int) : (akC fa x ≠ 0 ∧ smT fa x fb y = false) ∨ (akC fa x = 0 ∧ akC fb y ≠ 0 ∧ smT fa x fb y = false) ∨ (akC fa x = 0 ∧ akC fb y = 0 ∧ smT fa x fb y = decide (den fa x.toNat = den fb y.toNat)) := by
  unfold smT
  by_cases h1 : akC fa x = 0
  · by_cases h2 : akC fb y = 0
    · exact .inr (.inr ⟨h1, h2, by rw [if_pos h1, if_pos h2]⟩)
    · exact .inr (.inl ⟨h1, h2, by rw [if_pos h1, if_neg h2]⟩)
  · exact .inl ⟨h1, by rw [if_neg h1]⟩

theorem makeMap_none (w : World) : (Instr.makeMap 56 none).run Tryd.prog w = .ok (.map (some w.heap.size)) (w.alloc (.map #[] 0)) := rfl

theorem RdTerm.low {w : World} {a : Option Addr} {xs : List T4} (h : RdTerm w a xs) (h0 : 0 < xs.length) : ∀ ad : Addr, a = some ad → ad.block < w.heap.size := by
  intro ad had
  rcases h with h | ⟨b, o, rfl, hca⟩
  · rw [h] at h0; simp at h0
  · simp only [Option.some.injEq] at had
    subst had
    exact World.block_lt_of_cell? _ _ (RdTerm.cells hca 0 h0 _ rfl).1

set_option maxRecDepth 20000 in
set_option maxHeartbeats 4000000 in
theorem implSameTerms_ok (a : Option Addr) (n ca : Nat) (fa : List T4) (x : Int) (b : Option Addr) (nb cb : Nat) (fb : List T4) (y : Int) (w : World) (ha : RdTerm w a fa) (hn : fa.length = n) (hx : n ≤ maxLen) (hok : ∀ t ∈ fa, okT t) (hb : RdTerm w b fb) (hnb : fb.length = nb) (hxb : nb ≤ maxLen) (hokb : ∀ t ∈ fb, okT t) :
    Calls Tryd.prog 10 #[.slice a n ca, .int .i64 x, .slice b nb cb, .int .i64 y] w fun e w' => e = .returned (.bool (smT fa x fb y)) ∧ Below w.heap.size w w' := by
  have CA := Hid.mk (fun w h => placeFault_ok a n ca fa x w h hn hx hok)
  have CB := Hid.mk (fun w h => placeFault_ok b nb cb fb y w h hnb hxb hokb)
  rcases smT_ways fa x fb y with ⟨h1, hr⟩ | ⟨h1, h2, hr⟩ | ⟨h1, h2, hr⟩
  · rw [hr]
    have h3 : (akC fa x != 0) = true := by simp [h1]
    clear hr h1
    generalize akC fa x = kk at *
    go_enter Tryd.func10, Tryd.ntmps10
    have B := Below.refl w.heap.size w
    have Bo := B
    go_wp2_with fail
    refine (CA.out _ ha).mono ?_
    rintro e w1 ⟨rfl, b1⟩
    have S1 := b1.size
    replace ha := ha.kept b1
    replace hb := hb.kept b1
    replace B := thenB B b1
    clear b1
    have Bo := B
    go_wp2
    go_ret
    exact ⟨rfl, Bo⟩
  · rw [hr]
    have h3 : (akC fb y != 0) = true := by simp [h2]
    rw [h1] at CA
    clear hr h1 h2
    generalize akC fb y = kk at *
    go_enter Tryd.func10, Tryd.ntmps10
    have B := Below.refl w.heap.size w
    have Bo := B
    go_wp2_with fail
    refine (CA.out _ ha).mono ?_
    rintro e w11 ⟨rfl, b11⟩
    have S11 := b11.size
    replace ha := ha.kept b11
    replace hb := hb.kept b11
    replace B := thenB B b11
    clear b11
    have Bo := B
    go_wp2_with fail
    refine (CB.out _ hb).mono ?_
    rintro e w12 ⟨rfl, b12⟩
    have S12 := b12.size
    replace ha := ha.kept b12
    replace hb := hb.kept b12
    replace B := thenB B b12
    clear b12
    have Bo := B
    go_wp2
    go_ret
    exact ⟨rfl, Bo⟩
  · rw [hr]
    rw [h1] at CA
    rw [h2] at CB
    obtain ⟨hv, hq0, hq1⟩ := ak_zero h1
    obtain ⟨hv2, hq2, hq3⟩ := ak_zero h2
    obtain ⟨m, rfl⟩ : ∃ m : Nat, x = (m : Int) := ⟨x.toNat, by omega⟩
    obtain ⟨k, rfl⟩ : ∃ m : Nat, y = (m : Int) := ⟨y.toNat, by omega⟩
    rw [Int.toNat_natCast, Int.toNat_natCast]
    have hmn : m < n := by omega
    have hkn : k < nb := by omega
    have hm1 : (m : Int) < (n : Int) := by omega
    have hk1 : (k : Int) < (nb : Int) := by omega
    have I1 := nb_ok hv Nice.nil n (by omega)
    have hsame := nb_same hv (show m < fa.length by omega) hv2 (show k < fb.length by omega)
    rw [hn, hnb] at hsame
    have hn4 : n ≤ 400 := by have := (tfC_zero hv).1; omega
    have N1 := Hid.mk (fun g w h hg hag hlow => numberTerms_ok a n ca fa [] g 0 w h hn hv hok Nice.nil (Nat.zero_le _) hg rfl hag hlow)
    have hl1 : (nbS fa [] n).tb.length ≤ 400 := by obtain ⟨ys, e1, e2⟩ := I1.pre; rw [e1]; simp; omega
    have N2 := Hid.mk (fun g w h hg hag hlow => numberTerms_ok b nb cb fb (nbS fa [] n).tb g (nbS fa [] n).tb.length w h hnb hv2 hokb I1.nice hl1 hg rfl hag hlow)
    have HLA := Hid.mk (ha.low (by omega))
    have HLB := Hid.mk (hb.low (by omega))
    obtain ⟨v1, hv1⟩ : ∃ v, (nbS fa [] n).pl m = v := ⟨_, rfl⟩
    obtain ⟨v2, hv2'⟩ : ∃ v, (nbS fb (nbS fa [] n).tb nb).pl k = v := ⟨_, rfl⟩
    rw [hv1, hv2'] at hsame
    have hvv : (v1 == v2) = decide (den fa m = den fb k) := by
      by_cases e : v1 = v2
      · rw [decide_eq_true (hsame.1 e)]; simpa using e
      · rw [decide_eq_false (fun e2 => e (hsame.2 e2))]; simpa using e
    unfold Numbered at N1 N2
    generalize decide (den fa m = den fb k) = rr at *
    replace hv1 := Hid.mk hv1
    replace hv2' := Hid.mk hv2'
    clear hr h1 h2 hq0 hq1 hq2 hq3 I1 hsame hl1 hv hv2
    go_enter Tryd.func10, Tryd.ntmps10
    have B := Below.refl w.heap.size w
    have Bo := B
    go_wp2_with fail
    refine (CA.out _ ha).mono ?_
    rintro e w21 ⟨rfl, b21⟩
    have S21 := b21.size
    replace ha := ha.kept b21
    replace hb := hb.kept b21
    replace B := thenB B b21
    clear b21
    have Bo := B
    go_wp2_with fail
    refine (CB.out _ hb).mono ?_
    rintro e w22 ⟨rfl, b22⟩
    have S22 := b22.size
    replace ha := ha.kept b22
    replace hb := hb.kept b22
    replace B := thenB B b22
    clear b22
    have Bo := B
    have hsw := B.size
    have bm := belowA w22 (.map #[] 0)
    replace ha := ha.kept bm
    replace hb := hb.kept bm
    replace B := thenB B bm
    have TM0 : TM (w22.alloc (.map #[] 0)) w22.heap.size (tmM []) 0 := by rw [tmM_nil]; exact TM.new _
    clear bm Bo
    have qmk := makeMap_none
    go_upto_region 4 with fail
    refine wp_region_any (by kernel_rfl) ?_
    change wpAny _ _ _ _ _ _ _ (w22.alloc (.map #[] 0)).drew
    have bd : Below (w22.alloc (.map #[] 0)).heap.size (w22.alloc (.map #[] 0)) (w22.alloc (.map #[] 0)).drew := (Below.refl _ _).drew
    replace ha := ha.kept bd
    replace hb := hb.kept bd
    replace TM0 := TM0.kept bd
    replace B := thenB B bd
    clear bd
    generalize (w22.alloc (.map #[] 0)).drew = wd at *
    obtain ⟨g, hg⟩ : ∃ g, w22.heap.size = g := ⟨_, rfl⟩
    rw [hg] at TM0 hsw ⊢
    have hgl := TM0.lt
    have hgw := Hid.mk hsw
    have HGA : Hid (∀ ad : Addr, a = some ad → ad.block ≠ g) := Hid.mk (fun ad had => by have := HLA.out ad had; omega)
    have HGB : Hid (∀ ad : Addr, b = some ad → ad.block ≠ g) := Hid.mk (fun ad had => by have := HLB.out ad had; omega)
    refine wpAny_take (i := 0) (oi := _) (v := ?vtt1) rfl (by kernel_rfl) (by kernel_rfl) (by kernel_rfl) (fun _ _ _ h => h) (Or.inl ⟨by rfl, ?hytt1⟩) ?resttt1
    case hytt1 => (intro w; go_simp; first | done | with_reducible rfl)
    try simp only [Act.put, List.getElem_toArray, List.getElem_cons_zero, List.setIfInBounds_toArray, List.set_cons_zero, List.set_cons_succ]
    refine wpAny_take (i := 1) (oi := _) (v := ?vtt2) rfl (by kernel_rfl) (by kernel_rfl) (by kernel_rfl) (fun _ _ _ h => h) (Or.inl ⟨by rfl, ?hytt2⟩) ?resttt2
    case hytt2 => (intro w; go_simp; first | done | with_reducible rfl)
    try simp only [Act.put, List.getElem_toArray, List.getElem_cons_zero, List.getElem_cons_succ, List.setIfInBounds_toArray, List.set_cons_zero, List.set_cons_succ]
    refine wpAny_take (i := 3) (oi := _) (v := ?vtt3) rfl (by kernel_rfl) (by kernel_rfl) (by kernel_rfl) (fun _ _ _ h => h) (Or.inl ⟨by rfl, ?hytt3⟩) ?resttt3
    case hytt3 => (intro w; go_simp; first | done | with_reducible rfl)
    try simp only [Act.put, List.getElem_toArray, List.getElem_cons_zero, List.getElem_cons_succ, List.setIfInBounds_toArray, List.set_cons_zero, List.set_cons_succ]
    refine wpAny_take (i := 6) (oi := _) (v := ?vtt4) rfl (by kernel_rfl) (by kernel_rfl) (by kernel_rfl) (fun _ _ _ h => h) (Or.inl ⟨by rfl, ?hytt4⟩) ?resttt4
    case hytt4 => (intro w; go_simp; first | done | with_reducible rfl)
    try simp only [Act.put, List.getElem_toArray, List.getElem_cons_zero, List.getElem_cons_succ, List.setIfInBounds_toArray, List.set_cons_zero, List.set_cons_succ]
    refine wpAny_take (i := 7) (oi := _) (v := ?vtt5) rfl (by kernel_rfl) (by kernel_rfl) (by kernel_rfl) (fun _ _ _ h => h) (Or.inl ⟨by rfl, ?hytt5⟩) ?resttt5
    case hytt5 => (intro w; go_simp; first | done | with_reducible rfl)
    try simp only [Act.put, List.getElem_toArray, List.getElem_cons_zero, List.getElem_cons_succ, List.setIfInBounds_toArray, List.set_cons_zero, List.set_cons_succ]
    refine wpAny_take (i := 9) (oi := _) (v := ?vtt6) rfl (by kernel_rfl) (by kernel_rfl) (by kernel_rfl) (fun _ _ _ h => h) (Or.inl ⟨by rfl, ?hytt6⟩) ?resttt6
    case hytt6 => (intro w; go_simp; first | done | with_reducible rfl)
    try simp only [Act.put, List.getElem_toArray, List.getElem_cons_zero, List.getElem_cons_succ, List.setIfInBounds_toArray, List.set_cons_zero, List.set_cons_succ]
    refine wpAny_ready (rs := [2]) (by kernel_rfl) (by simp) ?_
    refine AllReady.cons (o := _) rfl (fun K0 hK0 => ?_) AllReady.nil
    go_simp
    go_at_call 30
    refine (N1.out g _ ha TM0 HGA (Hid.mk (fun ad had => by have := HLA.out ad had; have := B.size; omega))).mono ?_
    rintro e w3 ⟨c3, d3, rfl, O3, T3, S3⟩
    refine hK0 _ _ ?_
    clear hK0 K0
    try simp only [Act.put, List.getElem_toArray, List.getElem_cons_zero, List.getElem_cons_succ, List.setIfInBounds_toArray, List.set_cons_zero, List.set_cons_succ]
    have hO3 := O3.lt
    replace hb := hb.sm S3 (fun ad had e => HGB.out ad had e)
    replace B := S3.below' B (by omega) (fun k e => by have := hgw.out; omega)
    have hsz3 := S3.size
    clear S3 TM0 ha
    rcases O3.rd with h9 | ⟨b3, o3, rfl, hc3⟩
    · have := tab_len n (nbS fa [] n).pl; rw [h9] at this; simp at this; omega
    have q1 := hc3 m (by rw [tab_len]; exact hmn)
    rw [tab_at _ hmn, hv1.out] at q1
    have hb3 := hO3 _ rfl
    simp only at hb3
    clear hc3 O3 hO3
    refine wpAny_take (i := 4) (oi := _) (v := ?vtt7) rfl (by kernel_rfl) (by kernel_rfl) (by kernel_rfl) (fun _ _ _ h => h) (Or.inl ⟨by rfl, ?hytt7⟩) ?resttt7
    case hytt7 => (intro w; go_simp; first | done | with_reducible rfl)
    try simp only [Act.put, List.getElem_toArray, List.getElem_cons_zero, List.getElem_cons_succ, List.setIfInBounds_toArray, List.set_cons_zero, List.set_cons_succ]
    refine wpAny_ready (rs := [5, 8]) (by kernel_rfl) (by simp) ?_
    refine AllReady.cons (o := _) rfl (fun K0 hK0 => ?_) (AllReady.cons (o := _) rfl (fun K0 hK0 => ?_) AllReady.nil)
    · skip
      go_simp
      refine hK0 _ _ ?_
      clear hK0 K0
      try simp only [Act.put, List.getElem_toArray, List.getElem_cons_zero, List.getElem_cons_succ, List.setIfInBounds_toArray, List.set_cons_zero, List.set_cons_succ]
      refine wpAny_ready (rs := [8]) (by kernel_rfl) (by simp) ?_
      refine AllReady.cons (o := _) rfl (fun K0 hK0 => ?_) AllReady.nil
      go_simp
      go_at_call 30
      refine (N2.out g _ hb T3 HGB (Hid.mk (fun ad had => by have := HLB.out ad had; have := B.size; omega))).mono ?_
      rintro e w4 ⟨c4, d4, rfl, O4, T4', S4⟩
      refine hK0 _ _ ?_
      clear hK0 K0
      try simp only [Act.put, List.getElem_toArray, List.getElem_cons_zero, List.getElem_cons_succ, List.setIfInBounds_toArray, List.set_cons_zero, List.set_cons_succ]
      have q1 := (World.cell?_of_block (a := ⟨b3, o3 + m, none⟩) (S4.block b3 (by omega) (by omega))).trans q1
      replace B := S4.below' B (by omega) (fun k e => by have := hgw.out; omega)
      clear S4 T4' T3 hb
      rcases O4.rd with h9 | ⟨b4, o4, rfl, hc4⟩
      · have := tab_len nb (nbS fb (nbS fa [] n).tb nb).pl; rw [h9] at this; simp at this; omega
      have q2 := hc4 k (by rw [tab_len]; exact hkn)
      rw [tab_at _ hkn, hv2'.out] at q2
      clear hc4 O4
      refine wpAny_take (i := 10) (oi := _) (v := ?vtt8) rfl (by kernel_rfl) (by kernel_rfl) (by kernel_rfl) (fun _ _ _ h => h) (Or.inl ⟨by rfl, ?hytt8⟩) ?resttt8
      case hytt8 => (intro w; go_simp; first | done | with_reducible rfl)
      try simp only [Act.put, List.getElem_toArray, List.getElem_cons_zero, List.getElem_cons_succ, List.setIfInBounds_toArray, List.set_cons_zero, List.set_cons_succ]
      refine wpAny_ready (rs := [11]) (by kernel_rfl) (by simp) ?_
      refine AllReady.cons (o := _) rfl (fun K0 hK0 => ?_) AllReady.nil
      go_simp
      refine hK0 _ _ ?_
      clear hK0 K0
      try simp only [Act.put, List.getElem_toArray, List.getElem_cons_zero, List.getElem_cons_succ, List.setIfInBounds_toArray, List.set_cons_zero, List.set_cons_succ]
      refine wpAny_take (i := 12) (oi := _) (v := ?vtt9) rfl (by kernel_rfl) (by kernel_rfl) (by kernel_rfl) (fun _ _ _ h => h) (Or.inl ⟨by rfl, ?hytt9⟩) ?resttt9
      case hytt9 => (intro w; go_simp; first | done | with_reducible rfl)
      try simp only [Act.put, List.getElem_toArray, List.getElem_cons_zero, List.getElem_cons_succ, List.setIfInBounds_toArray, List.set_cons_zero, List.set_cons_succ]
      refine wpAny_take (i := 13) (oi := _) (v := ?vtt10) rfl (by kernel_rfl) (by kernel_rfl) (by kernel_rfl) (fun _ _ _ h => h) (Or.inl ⟨by rfl, ?hytt10⟩) ?resttt10
      case hytt10 => (intro w; go_simp; first | done | with_reducible rfl)
      try simp only [Act.put, List.getElem_toArray, List.getElem_cons_zero, List.getElem_cons_succ, List.setIfInBounds_toArray, List.set_cons_zero, List.set_cons_succ]
      refine wpAny_done (by kernel_rfl) ?_ _
      go_wp2
      go_ret
      exact ⟨rfl, B⟩
    · skip
      go_simp
      go_at_call 30
      refine (N2.out g _ hb T3 HGB (Hid.mk (fun ad had => by have := HLB.out ad had; have := B.size; omega))).mono ?_
      rintro e w4 ⟨c4, d4, rfl, O4, T4', S4⟩
      refine hK0 _ _ ?_
      clear hK0 K0
      try simp only [Act.put, List.getElem_toArray, List.getElem_cons_zero, List.getElem_cons_succ, List.setIfInBounds_toArray, List.set_cons_zero, List.set_cons_succ]
      have q1 := (World.cell?_of_block (a := ⟨b3, o3 + m, none⟩) (S4.block b3 (by omega) (by omega))).trans q1
      replace B := S4.below' B (by omega) (fun k e => by have := hgw.out; omega)
      clear S4 T4' T3 hb
      rcases O4.rd with h9 | ⟨b4, o4, rfl, hc4⟩
      · have := tab_len nb (nbS fb (nbS fa [] n).tb nb).pl; rw [h9] at this; simp at this; omega
      have q2 := hc4 k (by rw [tab_len]; exact hkn)
      rw [tab_at _ hkn, hv2'.out] at q2
      clear hc4 O4
      refine wpAny_take (i := 10) (oi := _) (v := ?vtt11) rfl (by kernel_rfl) (by kernel_rfl) (by kernel_rfl) (fun _ _ _ h => h) (Or.inl ⟨by rfl, ?hytt11⟩) ?resttt11
      case hytt11 => (intro w; go_simp; first | done | with_reducible rfl)
      try simp only [Act.put, List.getElem_toArray, List.getElem_cons_zero, List.getElem_cons_succ, List.setIfInBounds_toArray, List.set_cons_zero, List.set_cons_succ]
      refine wpAny_ready (rs := [5, 11]) (by kernel_rfl) (by simp) ?_
      refine AllReady.cons (o := _) rfl (fun K0 hK0 => ?_) (AllReady.cons (o := _) rfl (fun K0 hK0 => ?_) AllReady.nil)
      · skip
        go_simp
        refine hK0 _ _ ?_
        clear hK0 K0
        try simp only [Act.put, List.getElem_toArray, List.getElem_cons_zero, List.getElem_cons_succ, List.setIfInBounds_toArray, List.set_cons_zero, List.set_cons_succ]
        refine wpAny_ready (rs := [11]) (by kernel_rfl) (by simp) ?_
        refine AllReady.cons (o := _) rfl (fun K0 hK0 => ?_) AllReady.nil
        go_simp
        refine hK0 _ _ ?_
        clear hK0 K0
        try simp only [Act.put, List.getElem_toArray, List.getElem_cons_zero, List.getElem_cons_succ, List.setIfInBounds_toArray, List.set_cons_zero, List.set_cons_succ]
        refine wpAny_take (i := 12) (oi := _) (v := ?vtt12) rfl (by kernel_rfl) (by kernel_rfl) (by kernel_rfl) (fun _ _ _ h => h) (Or.inl ⟨by rfl, ?hytt12⟩) ?resttt12
        case hytt12 => (intro w; go_simp; first | done | with_reducible rfl)
        try simp only [Act.put, List.getElem_toArray, List.getElem_cons_zero, List.getElem_cons_succ, List.setIfInBounds_toArray, List.set_cons_zero, List.set_cons_succ]
        refine wpAny_take (i := 13) (oi := _) (v := ?vtt13) rfl (by kernel_rfl) (by kernel_rfl) (by kernel_rfl) (fun _ _ _ h => h) (Or.inl ⟨by rfl, ?hytt13⟩) ?resttt13
        case hytt13 => (intro w; go_simp; first | done | with_reducible rfl)
        try simp only [Act.put, List.getElem_toArray, List.getElem_cons_zero, List.getElem_cons_succ, List.setIfInBounds_toArray, List.set_cons_zero, List.set_cons_succ]
        refine wpAny_done (by kernel_rfl) ?_ _
        go_wp2
        go_ret
        exact ⟨rfl, B⟩
      · skip
        go_simp
        refine hK0 _ _ ?_
        clear hK0 K0
        try simp only [Act.put, List.getElem_toArray, List.getElem_cons_zero, List.getElem_cons_succ, List.setIfInBounds_toArray, List.set_cons_zero, List.set_cons_succ]
        refine wpAny_ready (rs := [5]) (by kernel_rfl) (by simp) ?_
        refine AllReady.cons (o := _) rfl (fun K0 hK0 => ?_) AllReady.nil
        go_simp
        refine hK0 _ _ ?_
        clear hK0 K0
        try simp only [Act.put, List.getElem_toArray, List.getElem_cons_zero, List.getElem_cons_succ, List.setIfInBounds_toArray, List.set_cons_zero, List.set_cons_succ]
        refine wpAny_take (i := 12) (oi := _) (v := ?vtt14) rfl (by kernel_rfl) (by kernel_rfl) (by kernel_rfl) (fun _ _ _ h => h) (Or.inl ⟨by rfl, ?hytt14⟩) ?resttt14
        case hytt14 => (intro w; go_simp; first | done | with_reducible rfl)
        try simp only [Act.put, List.getElem_toArray, List.getElem_cons_zero, List.getElem_cons_succ, List.setIfInBounds_toArray, List.set_cons_zero, List.set_cons_succ]
        refine wpAny_take (i := 13) (oi := _) (v := ?vtt15) rfl (by kernel_rfl) (by kernel_rfl) (by kernel_rfl) (fun _ _ _ h => h) (Or.inl ⟨by rfl, ?hytt15⟩) ?resttt15
        case hytt15 => (intro w; go_simp; first | done | with_reducible rfl)
        try simp only [Act.put, List.getElem_toArray, List.getElem_cons_zero, List.getElem_cons_succ, List.setIfInBounds_toArray, List.set_cons_zero, List.set_cons_succ]
        refine wpAny_done (by kernel_rfl) ?_ _
        go_wp2
        go_ret
        exact ⟨rfl, B⟩

end Go.Proofs.YtedippfnlaiapaaDoor

/- A term moved: what stays the same. -/
namespace Go.Proofs.YtedippfnlaiapaaDoor
open Go.RowKit

theorem plc_a {t : T4} (h : 0 < kids t.o) (h0 : 0 ≤ t.a) : ((t.a.toNat : Nat) : Int) ∈ plc t := by
  have e : ((t.a.toNat : Nat) : Int) = t.a := by omega
  rw [e]; unfold plc
  rcases kids_cases t.o with q | q | q
  · omega
  · rw [q, if_neg (by decide), if_pos rfl]; simp
  · rw [q, if_pos rfl]; simp

theorem plc_b {t : T4} (h : 1 < kids t.o) (h0 : 0 ≤ t.b) : ((t.b.toNat : Nat) : Int) ∈ plc t := by
  have e : ((t.b.toNat : Nat) : Int) = t.b := by omega
  rw [e]; unfold plc
  rcases kids_cases t.o with q | q | q
  · omega
  · omega
  · rw [q, if_pos rfl]; simp

theorem den_rch {xs ys : List T4} (X : Ahead xs) (Y : Ahead ys) {p r : Nat} (hp : p < xs.length) (hr : r < ys.length) (h : den xs p = den ys r) {i : Nat} (hi : Rch ys r i) : ∃ q, q < xs.length ∧ Rch xs p q ∧ den xs q = den ys i := by
  have N := names_of Y
  induction hi with
  | top => exact ⟨p, hp, .top, h⟩
  | @step i j h1 h2 ih =>
    obtain ⟨q, hq, hR, he⟩ := ih
    have hin : i < ys.length := by have := h1.lt N hr; omega
    have ho : (xs.getD q zTerm).o = (ys.getD i zTerm).o := by rw [← den_op q hq X, ← den_op i hin Y, he]
    rw [den_at q hq X, den_at i hin Y] at he
    obtain ⟨qa, qb⟩ := X q hq
    unfold plc at h2
    rcases kids_cases (ys.getD i zTerm).o with hk | hk | hk
    · rw [hk] at h2; simp at h2
    · rw [hk, if_neg (by decide), if_pos rfl, List.mem_singleton] at h2
      rw [mkTr_one (ho ▸ hk), mkTr_one hk] at he
      simp only [Tr.one.injEq] at he
      have ha := qa (by rw [ho, hk]; decide)
      refine ⟨(xs.getD q zTerm).a.toNat, by omega, .step hR (plc_a (by rw [ho, hk]; decide) ha.1), ?_⟩
      rw [he.2, ← h2]; simp
    · rw [hk, if_pos rfl] at h2
      simp only [List.mem_cons, List.not_mem_nil, or_false] at h2
      have ha := qa (by rw [ho, hk]; decide)
      have hb := qb (by rw [ho, hk]; decide)
      have wa : den xs (xs.getD q zTerm).a.toNat = den ys j ∨ den xs (xs.getD q zTerm).b.toNat = den ys j := by
        have ej : den ys j = den ys (ys.getD i zTerm).a.toNat ∨ den ys j = den ys (ys.getD i zTerm).b.toNat := by
          rcases h2 with h2 | h2
          · left; rw [← h2]; simp
          · right; rw [← h2]; simp
        rcases mkTr_two (t := xs.getD q zTerm) (x := den xs (xs.getD q zTerm).a.toNat) (y := den xs (xs.getD q zTerm).b.toNat) (ho ▸ hk) with e1 | e1 <;> rcases mkTr_two (t := ys.getD i zTerm) (x := den ys (ys.getD i zTerm).a.toNat) (y := den ys (ys.getD i zTerm).b.toNat) hk with e2 | e2 <;> rw [e1, e2] at he <;> simp only [Tr.two.injEq] at he <;> obtain ⟨_, f1, f2⟩ := he <;> rcases ej with ej | ej <;> rw [ej] <;> first | exact .inl f1 | exact .inr f2 | exact .inl f2 | exact .inr f1
      rcases wa with wa | wa
      · exact ⟨_, by omega, .step hR (plc_a (by rw [ho, hk]; decide) ha.1), wa⟩
      · exact ⟨_, by omega, .step hR (plc_b (by rw [ho, hk]; decide) hb.1), wa⟩

theorem nodup_sub : ∀ (xs ys : List Tr), xs.Nodup → (∀ x ∈ xs, x ∈ ys) → xs.length ≤ ys.length
  | [], _, _, _ => Nat.zero_le _
  | x :: xs, ys, hd, h => by
    obtain ⟨h1, h2⟩ := List.nodup_cons.1 hd
    have hx := h x (by simp)
    have h3 := List.length_erase_of_mem hx
    have h4 := nodup_sub xs (ys.erase x) h2 (fun y hy => (List.mem_erase_of_ne (fun e => by subst e; exact h1 hy)).2 (h y (by simp [hy])))
    have : 0 < ys.length := List.length_pos_of_mem hx
    simp only [List.length_cons]; omega

/-- The parts of a term, as what they are made of. -/
def prD (xs : List T4) (r : Nat) : List Tr := (prL xs r).map fun z => den xs z.toNat

theorem prD_len (xs : List T4) (r : Nat) : (prD xs r).length = (prL xs r).length := by simp [prD]

theorem prD_nodup {xs : List T4} (hv : tfC xs = 0) {r : Nat} (hr : r < xs.length) : (prD xs r).Nodup := by
  have N := names_of (tfC_ahead hv)
  unfold prD
  rw [List.nodup_iff_pairwise_ne, List.pairwise_map]
  refine (prL_rising xs r).imp_of_mem ?_
  intro a b ha hb hlt e
  obtain ⟨i, rfl, hi⟩ := (prL_mem N hr).1 ha
  obtain ⟨j, rfl, hj⟩ := (prL_mem N hr).1 hb
  have := hi.lt N hr
  have := hj.lt N hr
  rw [Int.toNat_natCast, Int.toNat_natCast] at e
  have := (tfC_nice hv).inj (by omega) (by omega) e
  omega

theorem prD_sub {xs ys : List T4} (hv : tfC xs = 0) (hw : tfC ys = 0) {p r : Nat} (hp : p < xs.length) (hr : r < ys.length) (h : den xs p = den ys r) : ∀ t ∈ prD ys r, t ∈ prD xs p := by
  intro t ht
  unfold prD at ht ⊢
  rw [List.mem_map] at ht ⊢
  obtain ⟨z, hz, rfl⟩ := ht
  obtain ⟨i, rfl, hi⟩ := (prL_mem (names_of (tfC_ahead hw)) hr).1 hz
  obtain ⟨q, hq, hR, he⟩ := den_rch (tfC_ahead hv) (tfC_ahead hw) hp hr h hi
  exact ⟨(q : Int), (prL_mem (names_of (tfC_ahead hv)) hp).2 ⟨q, rfl, hR⟩, by rw [Int.toNat_natCast, Int.toNat_natCast]; exact he⟩

/-- Terms that are made in the same way have as many parts. -/
theorem prL_same {xs ys : List T4} (hv : tfC xs = 0) (hw : tfC ys = 0) {p r : Nat} (hp : p < xs.length) (hr : r < ys.length) (h : den xs p = den ys r) : (prL xs p).length = (prL ys r).length := by
  have h1 := nodup_sub _ _ (prD_nodup hw hr) (prD_sub hv hw hp hr h)
  have h2 := nodup_sub _ _ (prD_nodup hv hp) (prD_sub hw hv hr hp h.symm)
  rw [prD_len, prD_len] at h1 h2
  omega

theorem mvR_right (fr : List T4) : ∀ (zs : List Int) (pl : Int → Int) (tb : List T4), tfC tb = 0 → tfC (mvR fr zs pl tb).tb = 0
  | [], pl, tb, h => h
  | p :: ps, pl, tb, h => by
    rw [mvR]
    split
    · rename_i hc
      exact mvR_right fr ps _ _ (put_right h hc).1
    · exact h

/-- The numbers of a right table. -/
theorem tfC_ok {xs : List T4} (h : tfC xs = 0) : ∀ x ∈ xs, okT x := by
  intro x hx
  obtain ⟨k, hk, e⟩ := List.getElem_of_mem hx
  have e2 : xs.getD k zTerm = x := by simp [List.getD, hk, e]
  have h4 := (tfC_zero h).1
  obtain ⟨h1, h2, h3, ha, hb, h5, _⟩ := tm_zero ((tfC_zero h).2 k hk).1
  obtain ⟨k1, k2⟩ := tfC_ahead h k hk
  rw [e2] at *
  refine ⟨okI_of (by omega) (by omega), ?_, ?_, okI_of (by omega) (by omega)⟩
  · rcases kids_cases x.o with q | q | q
    · have := ha (by omega); exact okI_of (by omega) (by omega)
    · have := k1 (by omega); exact okI_of (by omega) (by omega)
    · have := k1 (by omega); exact okI_of (by omega) (by omega)
  · rcases kids_cases x.o with q | q | q
    · have := hb (by omega); exact okI_of (by omega) (by omega)
    · have := hb (by omega); exact okI_of (by omega) (by omega)
    · have := k2 (by omega); exact okI_of (by omega) (by omega)

/-- A term that was moved: where it stands is right and made in the same way; moved back it is where it was. -/
theorem moves_ways (fr : List T4) (q : Int) (tb : List T4) : (∃ (kc kk : Int) (l : List T4), mvF fr q tb = ⟨kc, kk, l⟩ ∧ kc ≠ 0) ∨
    (∃ (m k kl : Nat) (l : List T4), q = (m : Int) ∧ m < fr.length ∧ mvF fr q tb = ⟨0, (k : Int), l⟩ ∧ l.length = kl ∧ k < kl ∧ kl ≤ 400 ∧ tfC fr = 0 ∧ tfC l = 0 ∧ den fr m = den l k ∧ mvF l (k : Int) fr = ⟨0, q, fr⟩) := by
  by_cases hc : (mvF fr q tb).c = 0
  · right
    rcases mvF_ways fr q tb with ⟨h1, h2⟩ | ⟨_, h1, h2⟩ | ⟨_, _, _, h2⟩ | ⟨h1, h2, h3, h4⟩
    · rw [h2] at hc; exact absurd hc h1
    · rw [h2] at hc; exact absurd hc h1
    · rw [h2] at hc; simp at hc
    · have hb := btw_iff.1 h3
      obtain ⟨m, rfl⟩ := Int.eq_ofNat_of_zero_le hb.1
      have hm : m < fr.length := by omega
      rw [h4] at hc ⊢
      have hl4 := mvP_len (fr := fr) (q := (m : Int)) (tfC_zero h2).1
      unfold mvP at hc hl4 ⊢
      rw [Int.toNat_natCast] at hc hl4 ⊢
      obtain ⟨M, hM⟩ : ∃ M, mvR fr (prL fr m) (fun _ => 0) tb = M := ⟨_, rfl⟩
      have hr := mvR_right fr (prL fr m) (fun _ => 0) tb h2
      rw [hM] at hc hr hl4 ⊢
      by_cases hMc : M.c = 0
      · rw [if_pos hMc] at hl4 ⊢
        have N := names_of (tfC_ahead h1)
        have hmm : (m : Int) ∈ prL fr m := (prL_mem N hm).2 ⟨m, rfl, .top⟩
        rcases mvd_run h1 hm _ 0 (fun _ => 0) tb rfl (Nat.zero_le _) (Mvd.start (tfC_nice h2)) M (by rw [List.drop_zero]; exact hM) with ⟨_, R⟩ | ⟨e, _, _⟩
        · obtain ⟨_, _, k3, k4, k5⟩ := R.leads (m : Int) (by rw [List.take_length]; exact hmm)
          rw [Int.toNat_natCast] at k5
          obtain ⟨k, hk⟩ := Int.eq_ofNat_of_zero_le k3
          rw [hk] at k4 k5
          rw [Int.toNat_natCast] at k5
          have hkl : k < M.tb.length := by omega
          rw [hk]
          refine ⟨m, k, M.tb.length, M.tb, rfl, hm, rfl, rfl, hkl, hl4, h1, hr, k5.symm, ?_⟩
          -- moved back
          have N2 := names_of (tfC_ahead hr)
          have hkk : (k : Int) ∈ prL M.tb k := (prL_mem N2 hkl).2 ⟨k, rfl, .top⟩
          have hall : ∀ z ∈ prL M.tb k, ∃ p, p < fr.length ∧ den fr p = den M.tb z.toNat := by
            intro z hz
            obtain ⟨i, rfl, hi⟩ := (prL_mem N2 hkl).1 hz
            rw [Int.toNat_natCast]
            exact den_sub (tfC_ahead h1) (tfC_ahead hr) hm hkl k5.symm hi
          rcases mvF_ways M.tb (k : Int) fr with ⟨g1, _⟩ | ⟨_, g1, _⟩ | ⟨_, _, g1, _⟩ | ⟨_, _, _, g4⟩
          · exact absurd hr g1
          · exact absurd h1 g1
          · have : btw (k : Int) 0 ((M.tb.length : Int) - 1) = true := btw_iff.2 (by omega)
            rw [this] at g1; cases g1
          · rw [g4]
            unfold mvP
            rw [Int.toNat_natCast]
            obtain ⟨M2, hM2⟩ : ∃ M2, mvR M.tb (prL M.tb k) (fun _ => 0) fr = M2 := ⟨_, rfl⟩
            rw [hM2]
            rcases mvd_run hr hkl _ 0 (fun _ => 0) fr rfl (Nat.zero_le _) (Mvd.start (tfC_nice h1)) M2 (by rw [List.drop_zero]; exact hM2) with ⟨e1, R2⟩ | ⟨_, _, h⟩
            · have es := R2.same hall
              obtain ⟨_, _, j3, j4, j5⟩ := R2.leads (k : Int) (by rw [List.take_length]; exact hkk)
              rw [es] at j4 j5
              rw [Int.toNat_natCast] at j5
              have := (tfC_nice h1).inj (k := (M2.pl (k : Int)).toNat) (k' := m) (by omega) hm (j5.trans k5)
              rw [if_pos e1, es]
              congr 1
              omega
            · exact absurd hall h
        · omega
      · rw [if_neg hMc] at hc; exact absurd hc hMc
  · left
    obtain ⟨P, hP⟩ : ∃ P, mvF fr q tb = P := ⟨_, rfl⟩
    rw [hP] at hc ⊢
    obtain ⟨c, k, l⟩ := P
    exact ⟨c, k, l, rfl, hc⟩

end Go.Proofs.YtedippfnlaiapaaDoor
