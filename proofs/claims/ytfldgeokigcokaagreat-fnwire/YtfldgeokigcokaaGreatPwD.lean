/- termPiece. -/
import Derived.Test.YtfldgeokigcokaaGreatPwC
import Derived.Test.YtfldgeokigcokaaGreatRkA
namespace Go.Proofs.YtfldgeokigcokaaGreat
open Go.RowKit

theorem Pcs.first {B : Nat} {c : Option Addr} {u : Value} {bs : List (List Int)} {w : World} (h : WP (fun _ => False) w u (bs.getD 0 [])) : Pcs B c [u] bs w := ⟨fun _ => False, fun _ h => h.elim, fun i v hi => by
  match i, hi with
  | 0, hi => simp only [List.getElem?_cons_zero, Option.some.injEq] at hi; rw [← hi]; exact h⟩

theorem Pcs.two {B : Nat} {c : Option Addr} {u v : Value} {x y : List Int} {w : World} (h : WP (fun _ => False) w u x) (k : WP (fun _ => False) w v y) : Pcs B c [u, v] [x, y] w := ⟨fun _ => False, fun _ h => h.elim, fun i z hi => by
  match i, hi with
  | 0, hi => simp only [List.getElem?_cons_zero, Option.some.injEq] at hi; rw [← hi]; exact h
  | 1, hi => simp only [List.getElem?_cons_succ, List.getElem?_cons_zero, Option.some.injEq] at hi; rw [← hi]; exact k⟩

theorem build_wn (a b : Int) (w : World) : (Instr.build 96 #[(0, .int .i64 a), (1, .int .i64 b)]).run Tryz.prog w = .ok (.agg #[.int .i64 a, .int .i64 b]) w := run_build w 96 _ _ (by kernel_rfl)

theorem ptIn_1 {o : Int} (h : 1 ≤ o ∧ o ≤ 7) : ptIn o 1 := by unfold ptIn; simp; omega
theorem ptIn_2 {n : Int} (h : 0 ≤ n ∧ n ≤ 9999) : ptIn n 2 := by unfold ptIn; simp; omega

/-- What a call of 'termPiece' leaves. -/
def Piece (w : World) (bs : List Int) (e : Ending) (w' : World) : Prop :=
  ∃ g m d, e = .returned (.slice (some ⟨g, 0, none⟩) m d) ∧ WP (fun q => w.heap.size ≤ q ∧ q < w'.heap.size) w' (.iface 56 (.slice (some ⟨g, 0, none⟩) m d)) bs ∧ Below w.heap.size w w'

set_option maxRecDepth 20000 in
set_option maxHeartbeats 8000000 in
theorem termPiece_ok (a : Option Addr) (n ca : Nat) (xs : List T4) (hv : tfC xs = 0) (hn : xs.length = n) : ∀ (k : Nat) (w : World), RdTerm w a xs → k < n → (den xs k).sz ≤ 200 →
    Calls Tryz.prog 28 #[.slice a n ca, .int .i64 k] w (Piece w (den xs k).enc) := by
  intro k
  induction k using Nat.strongRecOn with
  | _ k ih =>
  intro w ha hk hs
  have q1 := build_wn
  obtain ⟨b1, o1, rfl⟩ := RdTerm.addr ha (by omega)
  have hkl : (k : Int) < (n : Int) := by omega
  obtain ⟨x, hx⟩ : ∃ x, xs.getD k zTerm = x := ⟨_, rfl⟩
  have CP := Hid.mk (fun w h => placesTold_ok (some ⟨b1, o1, none⟩) n ca xs hv hn k hk x hx w h)
  have HP := Hid.mk (plD_in hv (by omega) hx hs)
  have hm2 := plD_small xs x
  have HE := Hid.mk (bsL_enc hv (by omega) hx)
  have hop := op_right hv k (by omega) hx
  have hnn := (tm_zero ((tfC_zero hv).2 k (by omega)).1).2.1
  rw [hx] at hnn
  have P1 := Hid.mk (ptIn_1 hop)
  have P2 := Hid.mk (ptIn_2 hnn)
  have HAT := Hid.mk (fun h q hq i hi => bsL_at (xs := xs) (x := x) h q hq (i := i) hi)
  have HBL := Hid.mk (bsL_len (xs := xs) (x := x))
  obtain ⟨p0, p1, p2, p3⟩ := RdTerm.at ha k (by omega) x hx
  have CI := Hid.mk (fun i (h : i < k) w h1 h2 => ih i h w h1 (by omega) h2)
  have hlt1 : b1 < w.heap.size := World.block_lt_of_cell? (a := ⟨b1, o1 + k * 4, none⟩) w p0
  obtain ⟨m, hm⟩ : ∃ m, (plD xs x).length = m := ⟨_, rfl⟩
  have HM := Hid.mk hm
  rw [hm] at CP hm2 HAT HBL
  unfold Piece at CI ⊢
  rw [← HE.out]
  by_cases hl : x.o = 1 ∨ x.o = 2
  · have HB2 : Hid (bsL xs x = [putN x.o 1, putN x.n 2]) := Hid.mk (by unfold bsL; rw [if_pos hl])
    obtain ⟨o, ta, tb, nn⟩ := x
    simp only at p0 p1 p2 p3 hl P1 P2 HB2
    rw [HB2.out]
    clear ih hv hn hx hs hm hk hop hnn CP HP HE HAT HBL HM CI HB2 hm2
    rcases hl with rfl | rfl
    · skip
      go_enter Tryz.func28, Tryz.ntmps28
      have B := Below.refl w.heap.size w
      have Bo := B
      replace B := thenB B (belowA w (.cells #[.int .i64 1, .int .i64 ta, .int .i64 tb, .int .i64 nn] 70))
      have VT := V.new w [.int .i64 1, .int .i64 ta, .int .i64 tb, .int .i64 nn] 70
      obtain ⟨s_VT, f_VT, z_VT⟩ := VT.open
      have Bo := B
      clear s_VT f_VT z_VT
      have OV : OwnV (((w.alloc (.cells #[.int .i64 1, .int .i64 ta, .int .i64 tb, .int .i64 nn] 70)).alloc (.cells #[.iface 96 (.agg #[.int .i64 1, .int .i64 1])] 94)).alloc (.cells #[.iface 96 (.agg #[.int .i64 nn, .int .i64 2])] 94)) w.heap.size (some ⟨w.heap.size + 1, 0, none⟩) 1 [.iface 96 (.agg #[.int .i64 1, .int .i64 1])] := by
        have h := ((OwnV.lit (w.alloc (.cells #[.int .i64 1, .int .i64 ta, .int .i64 tb, .int .i64 nn] 70)) [.iface 96 (.agg #[.int .i64 1, .int .i64 1])] (by unfold maxLen; simp)).mono (base' := w.heap.size) (by simp)).kept (belowA _ (.cells #[.iface 96 (.agg #[.int .i64 nn, .int .i64 2])] 94))
        simpa using h
      have hc2 : (((w.alloc (.cells #[.int .i64 1, .int .i64 ta, .int .i64 tb, .int .i64 nn] 70)).alloc (.cells #[.iface 96 (.agg #[.int .i64 1, .int .i64 1])] 94)).alloc (.cells #[.iface 96 (.agg #[.int .i64 nn, .int .i64 2])] 94)).cell? ((⟨w.heap.size + 1 + 1, 0, none⟩ : Addr).add 0) = some (.iface 96 (.agg #[.int .i64 nn, .int .i64 2])) := by
        have h := newCells ((w.alloc (.cells #[.int .i64 1, .int .i64 ta, .int .i64 tb, .int .i64 nn] 70)).alloc (.cells #[.iface 96 (.agg #[.int .i64 1, .int .i64 1])] 94)) 94 [.iface 96 (.agg #[.int .i64 nn, .int .i64 2])] 0 _ rfl
        simpa using h
      have B3 : Below w.heap.size w (((w.alloc (.cells #[.int .i64 1, .int .i64 ta, .int .i64 tb, .int .i64 nn] 70)).alloc (.cells #[.iface 96 (.agg #[.int .i64 1, .int .i64 1])] 94)).alloc (.cells #[.iface 96 (.agg #[.int .i64 nn, .int .i64 2])] 94)) := (B.alloc (by simp) _).alloc (by simp; omega) _
      have OV := Hid.mk OV
      have hc2 := Hid.mk hc2
      have B3 := Hid.mk B3
      obtain ⟨s_VT, f_VT, z_VT⟩ := VT.open
      clear B Bo
      go_wp2_with (at_builtin; go_loud (refine wpList_putV _ rfl _ _ rfl w.heap.size (some ⟨w.heap.size + 1, 0, none⟩) 1 [.iface 96 (.agg #[.int .i64 1, .int .i64 1])] 1 rfl rfl OV.out ⟨w.heap.size + 1 + 1, 0, none⟩ 1 (.iface 96 (.agg #[.int .i64 nn, .int .i64 2])) rfl rfl hc2.out (by omega) B3.out.size ?_))
      intro g d' w9 O9 hg9 hx9
      have B9 := Hid.mk (B3.out.grown hg9 B3.out.size (fun j hj => by simp at hj; omega))
      have O9 := Hid.mk O9
      clear hg9 hx9 s_VT f_VT z_VT VT
      go_wp2
      go_ret
      refine ⟨g, 2, d', rfl, ?_, B9.out⟩
      exact Pcs.list (Pcs.two (wp_num _ _ 1 1 P1.out) (wp_num _ _ nn 2 P2.out)) O9.out rfl rfl (by decide)
    · skip
      go_enter Tryz.func28, Tryz.ntmps28
      have B := Below.refl w.heap.size w
      have Bo := B
      replace B := thenB B (belowA w (.cells #[.int .i64 2, .int .i64 ta, .int .i64 tb, .int .i64 nn] 70))
      have VT := V.new w [.int .i64 2, .int .i64 ta, .int .i64 tb, .int .i64 nn] 70
      obtain ⟨s_VT, f_VT, z_VT⟩ := VT.open
      have Bo := B
      clear s_VT f_VT z_VT
      have OV : OwnV (((w.alloc (.cells #[.int .i64 2, .int .i64 ta, .int .i64 tb, .int .i64 nn] 70)).alloc (.cells #[.iface 96 (.agg #[.int .i64 2, .int .i64 1])] 94)).alloc (.cells #[.iface 96 (.agg #[.int .i64 nn, .int .i64 2])] 94)) w.heap.size (some ⟨w.heap.size + 1, 0, none⟩) 1 [.iface 96 (.agg #[.int .i64 2, .int .i64 1])] := by
        have h := ((OwnV.lit (w.alloc (.cells #[.int .i64 2, .int .i64 ta, .int .i64 tb, .int .i64 nn] 70)) [.iface 96 (.agg #[.int .i64 2, .int .i64 1])] (by unfold maxLen; simp)).mono (base' := w.heap.size) (by simp)).kept (belowA _ (.cells #[.iface 96 (.agg #[.int .i64 nn, .int .i64 2])] 94))
        simpa using h
      have hc2 : (((w.alloc (.cells #[.int .i64 2, .int .i64 ta, .int .i64 tb, .int .i64 nn] 70)).alloc (.cells #[.iface 96 (.agg #[.int .i64 2, .int .i64 1])] 94)).alloc (.cells #[.iface 96 (.agg #[.int .i64 nn, .int .i64 2])] 94)).cell? ((⟨w.heap.size + 1 + 1, 0, none⟩ : Addr).add 0) = some (.iface 96 (.agg #[.int .i64 nn, .int .i64 2])) := by
        have h := newCells ((w.alloc (.cells #[.int .i64 2, .int .i64 ta, .int .i64 tb, .int .i64 nn] 70)).alloc (.cells #[.iface 96 (.agg #[.int .i64 2, .int .i64 1])] 94)) 94 [.iface 96 (.agg #[.int .i64 nn, .int .i64 2])] 0 _ rfl
        simpa using h
      have B3 : Below w.heap.size w (((w.alloc (.cells #[.int .i64 2, .int .i64 ta, .int .i64 tb, .int .i64 nn] 70)).alloc (.cells #[.iface 96 (.agg #[.int .i64 2, .int .i64 1])] 94)).alloc (.cells #[.iface 96 (.agg #[.int .i64 nn, .int .i64 2])] 94)) := (B.alloc (by simp) _).alloc (by simp; omega) _
      have OV := Hid.mk OV
      have hc2 := Hid.mk hc2
      have B3 := Hid.mk B3
      obtain ⟨s_VT, f_VT, z_VT⟩ := VT.open
      clear B Bo
      go_wp2_with (at_builtin; go_loud (refine wpList_putV _ rfl _ _ rfl w.heap.size (some ⟨w.heap.size + 1, 0, none⟩) 1 [.iface 96 (.agg #[.int .i64 2, .int .i64 1])] 1 rfl rfl OV.out ⟨w.heap.size + 1 + 1, 0, none⟩ 1 (.iface 96 (.agg #[.int .i64 nn, .int .i64 2])) rfl rfl hc2.out (by omega) B3.out.size ?_))
      intro g d' w9 O9 hg9 hx9
      have B9 := Hid.mk (B3.out.grown hg9 B3.out.size (fun j hj => by simp at hj; omega))
      have O9 := Hid.mk O9
      clear hg9 hx9 s_VT f_VT z_VT VT
      go_wp2
      go_ret
      refine ⟨g, 2, d', rfl, ?_, B9.out⟩
      exact Pcs.list (Pcs.two (wp_num _ _ 2 1 P1.out) (wp_num _ _ nn 2 P2.out)) O9.out rfl rfl (by decide)
  · have hl2 := HBL.out hl
    have HL := Hid.mk hl
    have h1 : (x.o == 1) = false := by simp; omega
    have h2 : (x.o == 2) = false := by simp; omega
    have HB0 : Hid ((bsL xs x).getD 0 [] = putN x.o 1) := Hid.mk (by unfold bsL; rw [List.getD_cons_zero])
    generalize plD xs x = ps at *
    generalize bsL xs x = bs at *
    obtain ⟨o, ta, tb, nn⟩ := x
    simp only at p0 p1 p2 p3 CP P1 h1 h2 HB0
    have hl3 := Hid.mk hl2
    clear ih hv hn hx hs hm hk hop hnn HE HBL hl hl2 P2
    go_enter Tryz.func28, Tryz.ntmps28
    have B := Below.refl w.heap.size w
    have Bo := B
    replace ha := ha.kept (belowA w (.cells #[.int .i64 o, .int .i64 ta, .int .i64 tb, .int .i64 nn] 70))
    replace B := thenB B (belowA w (.cells #[.int .i64 o, .int .i64 ta, .int .i64 tb, .int .i64 nn] 70))
    have VT := V.new w [.int .i64 o, .int .i64 ta, .int .i64 tb, .int .i64 nn] 70
    obtain ⟨s_VT, f_VT, z_VT⟩ := VT.open
    have Bo := B
    replace VT := VT.kept (belowA (w.alloc (.cells #[.int .i64 o, .int .i64 ta, .int .i64 tb, .int .i64 nn] 70)) (.cells #[.iface 96 (.agg #[.int .i64 o, .int .i64 1])] 94))
    replace ha := ha.kept (belowA (w.alloc (.cells #[.int .i64 o, .int .i64 ta, .int .i64 tb, .int .i64 nn] 70)) (.cells #[.iface 96 (.agg #[.int .i64 o, .int .i64 1])] 94))
    replace B := thenB B (belowA (w.alloc (.cells #[.int .i64 o, .int .i64 ta, .int .i64 tb, .int .i64 nn] 70)) (.cells #[.iface 96 (.agg #[.int .i64 o, .int .i64 1])] 94))
    have VQ : V ((w.alloc (.cells #[.int .i64 o, .int .i64 ta, .int .i64 tb, .int .i64 nn] 70)).alloc (.cells #[.iface 96 (.agg #[.int .i64 o, .int .i64 1])] 94)) (w.heap.size + 1) [.iface 96 (.agg #[.int .i64 o, .int .i64 1])] := V.newAt _ _ _ _ (by simp)
    have OV : OwnV ((w.alloc (.cells #[.int .i64 o, .int .i64 ta, .int .i64 tb, .int .i64 nn] 70)).alloc (.cells #[.iface 96 (.agg #[.int .i64 o, .int .i64 1])] 94)) w.heap.size (some ⟨w.heap.size + 1, 0, none⟩) 1 [.iface 96 (.agg #[.int .i64 o, .int .i64 1])] := by
      have h := (OwnV.lit (w.alloc (.cells #[.int .i64 o, .int .i64 ta, .int .i64 tb, .int .i64 nn] 70)) [.iface 96 (.agg #[.int .i64 o, .int .i64 1])] (by unfold maxLen; simp)).mono (base' := w.heap.size) (by simp)
      simpa using h
    have PV : Pcs w.heap.size (some ⟨w.heap.size + 1, 0, none⟩) [.iface 96 (.agg #[.int .i64 o, .int .i64 1])] bs ((w.alloc (.cells #[.int .i64 o, .int .i64 ta, .int .i64 tb, .int .i64 nn] 70)).alloc (.cells #[.iface 96 (.agg #[.int .i64 o, .int .i64 1])] 94)) := Pcs.first (by rw [HB0.out]; exact wp_num _ _ o 1 P1.out)
    replace PV := Hid.mk PV
    clear s_VT f_VT z_VT
    obtain ⟨s_VT, f_VT, z_VT⟩ := VT.open
    obtain ⟨s_VQ, f_VQ, z_VQ⟩ := VQ.open
    have Bo := B
    go_wp2_with fail
    refine (CP.out _ ha).mono ?_
    rintro e w1 ⟨c, d, rfl, O, b1⟩
    have PV1 := Hid.mk (PV.out.keep b1)
    clear s_VT f_VT z_VT s_VQ f_VQ z_VQ
    have S1 := b1.size
    simp only [World.size_alloc] at S1
    replace VT := VT.kept b1
    replace VQ := VQ.kept b1
    replace ha := ha.kept b1
    replace OV := OV.kept b1
    replace B := thenB B b1
    clear b1
    obtain ⟨s_VT, f_VT, z_VT⟩ := VT.open
    obtain ⟨s_VQ, f_VQ, z_VQ⟩ := VQ.open
    have Bo := B
    have hps : Hid (∀ b, c = some b → b.block ≠ w.heap.size + 1 ∧ b.block < w1.heap.size) := Hid.mk (fun b hb => by have := O.lt b hb; simp at this; omega)
    skip
    clear s_VT f_VT z_VT s_VQ f_VQ z_VQ
    have R := O.rd
    have HR := Hid.mk R
    have HA := Hid.mk ha
    have HB := Hid.mk B
    have HO := Hid.mk OV
    clear VT VQ ha R O OV B Bo PV p0 p1 p2 p3
    go_wp2
    go_loopw [6, 37] (fun v i wr => ∃ (q : Nat) (g' d' : Nat) (us : List Value), q ≤ m ∧ i = .int .i64 q ∧ v = .slice (some ⟨g', 0, none⟩) (q + 1) d' ∧ Hid (us.length = q + 1) ∧ Hid (OwnV wr w.heap.size (some ⟨g', 0, none⟩) d' us) ∧ Hid (Pcs w.heap.size (some ⟨g', 0, none⟩) us bs wr) ∧ Hid (RdTerm wr (some ⟨b1, o1, none⟩) xs) ∧ Hid (Rd .i64 wr c ps) ∧ Hid (Below w.heap.size w wr) ∧ Hid (∀ b, c = some b → b.block ≠ g' ∧ b.block < wr.heap.size)) (fun _ i _ => m - (intOf i).toNat)
    case atStart => exact ⟨0, w.heap.size + 1, 1, _, Nat.zero_le _, rfl, rfl, Hid.mk rfl, HO, PV1, HA, HR, HB, hps⟩
    case round =>
      clear HO PV1 HA HR HB hps
      obtain ⟨q, g', d', us, hq, rfl, rfl, hu, O, P, A, R, B, hps⟩ := hrel
      by_cases hlt : q < m
      · have hql : (q : Int) < (m : Int) := by omega
        obtain ⟨i, hi, hik, si⟩ := HP.out (ps.getD q 0) (rk_mem (by rw [HM.out]; exact hlt))
        have hat := Hid.mk (HAT.out HL.out q hlt i hi)
        have CA := Hid.mk (fun w h => CI.out i hik w h si)
        obtain ⟨b2, o2, rfl, hc2⟩ := igetD_at R.out q (by rw [HM.out]; exact hlt)
        rw [hi] at hc2
        have hpq := hps.out _ rfl
        simp only at hpq
        have hgl := O.out.lt _ rfl
        simp only at hgl
        have hsB := B.out.size
        generalize (den xs i).enc = eb at *
        go_wp2_with fail
        refine (CA.out _ A.out).mono ?_
        rintro e w8 ⟨g1, m1, d1, rfl, W8, b8⟩
        have hs8 := b8.size
        clear hc2
        have bA := belowA w8 (.cells #[.iface 56 (.slice (some ⟨g1, 0, none⟩) m1 d1)] 94)
        have hcU : (w8.alloc (.cells #[.iface 56 (.slice (some ⟨g1, 0, none⟩) m1 d1)] 94)).cell? ((⟨w8.heap.size, 0, none⟩ : Addr).add 0) = some (.iface 56 (.slice (some ⟨g1, 0, none⟩) m1 d1)) := newCells w8 94 [.iface 56 (.slice (some ⟨g1, 0, none⟩) m1 d1)] 0 _ rfl
        have hzA : (w8.alloc (.cells #[.iface 56 (.slice (some ⟨g1, 0, none⟩) m1 d1)] 94)).heap.size = w8.heap.size + 1 := World.size_alloc _ _
        have hW8 := Hid.mk W8
        have hb8 := Hid.mk b8
        have OA := Hid.mk ((O.out.kept b8).kept bA)
        have AA := Hid.mk ((A.out.kept b8).kept bA)
        have RA := Hid.mk ((R.out.kept b8).kept bA)
        have BA := Hid.mk (thenB (thenB B.out b8) bA)
        have hcU := Hid.mk hcU
        have hbs : w.heap.size ≤ (w8.alloc (.cells #[.iface 56 (.slice (some ⟨g1, 0, none⟩) m1 d1)] 94)).heap.size := by omega
        have HZA := Hid.mk hzA
        clear W8 b8 bA hzA
        go_wp2_with (at_builtin; go_loud (refine wpList_putV _ rfl _ _ rfl w.heap.size (some ⟨g', 0, none⟩) d' us (q + 1) hu.out rfl OA.out ⟨w8.heap.size, 0, none⟩ 1 (.iface 56 (.slice (some ⟨g1, 0, none⟩) m1 d1)) rfl rfl hcU.out (by omega) hbs ?_))
        intro g9 d9 w9 O9 hg9 hx9
        have hs9 := hg9.size
        have S9 : Sm (fun j => j = g') (w8.alloc (.cells #[.iface 56 (.slice (some ⟨g1, 0, none⟩) m1 d1)] 94)) w9 := Sm.grown hg9 (fun j hj => by simp at hj; exact hj.symm)
        have P9 := Hid.mk (P.out.step hb8.out (by rw [hu.out, hat.out]; exact hW8.out) (by omega) (fun j hj => by obtain ⟨b, hb, rfl⟩ := hj; simp only [Option.some.injEq] at hb; subst hb; exact hgl.2) hg9 (by rw [HZA.out]; exact hx9))
        have A9 := Hid.mk (AA.out.sm S9 (fun b hb => by simp only [Option.some.injEq] at hb; subst hb; simp only; omega))
        have R9 := Hid.mk (RA.out.sm S9 (fun b hb => by simp only [Option.some.injEq] at hb; subst hb; exact hpq.1))
        have B9 := Hid.mk (BA.out.grown hg9 hbs (fun j hj => by simp at hj; omega))
        have O9 := Hid.mk O9
        have hu9 : Hid ((us ++ [Value.iface 56 (.slice (some ⟨g1, 0, none⟩) m1 d1)]).length = q + 1 + 1) := Hid.mk (by rw [List.length_append, hu.out]; rfl)
        have hp9 : Hid (∀ b : Addr, some (⟨b2, o2, none⟩ : Addr) = some b → b.block ≠ g9 ∧ b.block < w9.heap.size) := Hid.mk (fun b hb => by
          simp only [Option.some.injEq] at hb
          subst hb
          have := HZA.out
          refine ⟨fun e => ?_, by simp only; omega⟩
          rcases hx9 g9 ⟨_, rfl, rfl⟩ with ⟨b, hb, e2⟩ | e2
          · simp only [Option.some.injEq] at hb; subst hb; simp only at e2 e; omega
          · simp only at e; omega)
        clear S9 hg9 hx9 O P A R B hps hu OA AA RA BA hW8 hb8 CA hcU HZA
        go_wp2
        go_roundw
        case rel => exact ⟨q + 1, g9, d9, _, by omega, by go_num, rfl, hu9, O9, P9, A9, R9, B9, hp9⟩
        case measure => simp [intOf]; omega
      · obtain rfl : q = m := by omega
        have hm2' : q ≤ 2 := hm2
        go_wp2
        go_ret
        exact ⟨g', q + 1, d', rfl, P.out.list O.out hu.out hl3.out (by omega), B.out⟩

end Go.Proofs.YtfldgeokigcokaaGreat
