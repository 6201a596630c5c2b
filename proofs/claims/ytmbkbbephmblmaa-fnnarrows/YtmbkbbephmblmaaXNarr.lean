/- The law FnNarrows: its walk. -/
import Derived.Test.YtmbkbbephmblmaaNrP
import Derived.Test.YtmbkbbephmblmaaNrF
import Derived.Test.YtmbkbbephmblmaaDSelN
import Derived.Test.YtmbkbbephmblmaaRow
namespace Go.Proofs.Ytmbkbbephmblmaa
open Go.RowKit

theorem nilCap {w : World} {a : Option Addr} {len cap : Nat} {zs : List Int}
    (h : (a = none ∧ len = 0 ∧ cap = 0 ∧ zs = []) ∨ ∃ x : Addr, a = some x ∧ len ≤ cap ∧ cap ≤ maxLen ∧ zs.length = cap ∧ (∀ i, i < zs.length → w.cell? (x.add i) = some (.int .u8 (zs.getD i 0))) ∧ ∀ n ∈ zs, (Lit.int .u8 n).wf = true) : a = none → cap = 0 := by
  intro ha
  rcases h with ⟨_, _, h3, _⟩ | ⟨x, h1, _⟩
  · exact h3
  · rw [h1] at ha; cases ha

theorem fieldSs (k v : Value) (w : World) : (Instr.field 50 (.agg #[k, v]) 0).run Try.prog w = .ok k w := by kernel_rfl

theorem fieldPkt (k f t r l u v s : Value) (w : World) : (Instr.field 39 (.agg #[k, f, t, r, l, u, v, s]) 1).run Try.prog w = .ok (.agg #[f, t, r, l, u, v, s]) w := by kernel_rfl

theorem bytes3 {xs : List Int} (h : Bytes xs) : Bytes (3 :: xs) := by
  intro z hz
  rcases List.mem_cons.1 hz with h1 | h1
  · subst h1; omega
  · exact h z h1

set_option maxRecDepth 20000 in
set_option maxHeartbeats 16000000 in
theorem xNarr_walk (a : Option Addr) (n ca : Nat) (xs : List Int) (w : World) (hR : Rd .u8 w a xs) (hB : Bytes xs) (hn : xs.length = n) (hcn : a = none → ca = 0) :
    Calls Try.prog 5 #[.slice a n ca] w fun e w' => e = .returned (.bool true) ∧ Below w.heap.size w w' := by
  by_cases hbig : (n : Int) ≤ 1048576
  · have e0 := extractP0
    have e1 := extractP1
    have qc := fieldSs
    have q8 := fieldPkt
    go_enter Try.func5, Try.ntmps5
    go_wp2_with (first | (go_at_call 9; go_in) | fail)
    refine (drawNarrowSels_ok a n ca xs _ hR hB hn (by omega)).mono ?_
    rintro e w1 ⟨c1, d1, m, c2, d2, k, ms, ts, rfl, ⟨hm, hml, RM⟩, ⟨hk, hkl, RT⟩, B⟩
    have R := hR.kept B
    have hmx : m ≤ maxLen := by unfold maxLen; omega
    have hkx : k ≤ maxLen := by unfold maxLen; omega
    have CI := Hid.mk (fun w h h' => implNarrowSels_ok (some ⟨c1, 0, none⟩) (some ⟨c2, 0, none⟩) m k d1 d2 ms ts w h h' hml hkl hmx hkx)
    have CS := Hid.mk (fun w h h' => specNarrowSels_ok (some ⟨c1, 0, none⟩) (some ⟨c2, 0, none⟩) m k d1 d2 ms ts w h h' hml hkl hmx hkx)
    have CM := Hid.mk (fun (p : K7) w h => implHoldsAny_ok (some ⟨c1, 0, none⟩) m d1 ms p.f p.t p.r p.l p.u p.v p.s p.m p.d w h hml hmx)
    have CT := Hid.mk (fun (p : K7) w h => implHoldsAny_ok (some ⟨c2, 0, none⟩) k d2 ts p.f p.t p.r p.l p.u p.v p.s p.m p.d w h hkl hkx)
    have HA := Hid.mk (fun h => na_holds (xs := ms) (ys := ts) h)
    have hzl := naL_le ms ts
    generalize naL ms ts = zs at *
    generalize naC ms ts = kk at *
    have HML := Hid.mk hml
    have hm13 := Hid.mk hm
    clear hml hkl hmx hkx hm hk
    go_wp2_with fail
    refine (CI.out _ RM RT).mono ?_
    rintro e w2 ⟨c3, d3, j, rfl, hj, O3, b2⟩
    have hjx : j ≤ maxLen := by rw [← hj]; unfold maxLen; omega
    have CZ := Hid.mk (fun (p : K7) w h => implHoldsAny_ok c3 j d3 zs p.f p.t p.r p.l p.u p.v p.s p.m p.d w h hj hjx)
    have RZ0 := Hid.mk O3.rd
    have RM0 := Hid.mk (RM.kept b2)
    have RT0 := Hid.mk (RT.kept b2)
    have R0 := Hid.mk (R.kept b2)
    have B0 := Hid.mk (thenB B b2)
    clear O3 hzl hj hjx RM RT R B b2
    by_cases hk4 : kk = 0 ∨ kk = 4
    · obtain ⟨hs1, hs2, _⟩ := HA.out hk4
      have hmf := Hid.mk (ssC_zero hs1).2
      have hmp := Hid.mk (show 1 ≤ m from HML.out ▸ (ssC_zero hs1).1.1)
      have hsa := Hid.mk (ha_sample hs1)
      clear hs1 hs2
      rcases hk4 with rfl | rfl
      · skip
        have VM : V (w2.alloc (.cells #[.int .i64 0, .slice c3 j d3] 50)) w2.heap.size [.int .i64 0, .slice c3 j d3] := V.newAt _ _ _ _ rfl
        have VM' := VM.kept (belowA (w2.alloc (.cells #[.int .i64 0, .slice c3 j d3] 50)) (.cells #[.int .u8 3] 5))
        obtain ⟨s_VM, f_VM, z_VM⟩ := VM.open
        obtain ⟨i0, hi, j0, j1, j2⟩ := info_parts Try.info_u8
        have OL : Own .u8 5 ((w2.alloc (.cells #[.int .i64 0, .slice c3 j d3] 50)).alloc (.cells #[.int .u8 3] 5)) (w2.heap.size + 1) (some ⟨w2.heap.size + 1, 0, none⟩) 1 [3] := by have h := Own.lit (w2.alloc (.cells #[.int .i64 0, .slice c3 j d3] 50)) 5 [3] (by decide); simp only [World.size_alloc] at h; exact h
        have B := belowA2 w2 (.cells #[.int .i64 0, .slice c3 j d3] 50) (.cells #[.int .u8 3] 5)
        have R := R0.out.kept B
        replace B := Hid.mk B
        replace VM' := Hid.mk VM'
        clear VM
        go_wp2_with (at_builtin; go_loud (refine wpList_put _ rfl _ _ 22 rfl (w2.heap.size + 1) 5 i0 Try.underlying22 hi j0 j1 j2 _ _ 1 [3] rfl OL rfl _ _ _ xs rfl R hn hcn (1 + n) (3 :: xs) rfl rfl (by omega) (by simp) ?_))
        intro c4 d4 w4 O4 b4
        clear s_VM f_VM z_VM OL R
        have VM := VM'.out.keptB (by omega) b4
        replace B := B.out.trans (b4.mono (by omega))
        clear VM' b4
        have hn4 : (3 :: xs).length = 1 + n := by simp; omega
        have hb3 := bytes3 hB
        generalize 3 :: xs = zs4 at *
        go_wp2_with fail
        refine (drawHoldsAny_ok c4 (1 + n) d4 zs4 _ O4.rd hb3 hn4 (by omega)).mono ?_
        rintro e w5 ⟨c6, d7, m6, f, t', r, l, u, v, s, k6, d6, rfl, b5⟩
        replace VM := Hid.mk (VM.kept b5)
        replace B := thenB B b5
        have RM5 := Hid.mk (RM0.out.kept B)
        have RT5 := Hid.mk (RT0.out.kept B)
        have RZ5 := Hid.mk (RZ0.out.kept B)
        have B5 := Hid.mk (thenB B0.out B)
        clear B b5 O4 hn4 hb3 RM0 RT0 RZ0 R0 B0
        obtain ⟨p0, hp0⟩ : ∃ p0 : K7, p0 = ⟨f, t', r, l, u, v, s, k6, d6⟩ := ⟨_, rfl⟩
        have O : OwnK ((w5.alloc (.cells #[.int .i64 f, .int .i64 t', .int .i64 r, .int .i64 l, .int .i64 u, .int .i64 v, .slice s k6 d6] 35)).alloc (.cells #[.int .i64 f, .int .i64 t', .int .i64 r, .int .i64 l, .int .i64 u, .int .i64 v, .slice s k6 d6] 35)) w5.heap.size (some ⟨w5.heap.size + 1, 0, none⟩) 1 (smL p0 ms 0) := by
          have h := OwnK.lit (w5.alloc (.cells #[.int .i64 f, .int .i64 t', .int .i64 r, .int .i64 l, .int .i64 u, .int .i64 v, .slice s k6 d6] 35)) (smL p0 ms 0) [.int .i64 f, .int .i64 t', .int .i64 r, .int .i64 l, .int .i64 u, .int .i64 v, .slice s k6 d6] (by rw [hp0]; rfl) (by unfold smL; simp [maxLen])
          simp only [World.size_alloc] at h
          exact OwnK.mono h (by omega)
        have B := belowA2 w5 (.cells #[.int .i64 f, .int .i64 t', .int .i64 r, .int .i64 l, .int .i64 u, .int .i64 v, .slice s k6 d6] 35) (.cells #[.int .i64 f, .int .i64 t', .int .i64 r, .int .i64 l, .int .i64 u, .int .i64 v, .slice s k6 d6] 35)
        have V6 := V.new w5 [.int .i64 f, .int .i64 t', .int .i64 r, .int .i64 l, .int .i64 u, .int .i64 v, .slice s k6 d6] 35
        obtain ⟨s_V6, f_V6, z_V6⟩ := V6.open
        replace O := Hid.mk O
        replace B := Hid.mk B
        clear V6
        go_wp2
        clear s_V6 f_V6 z_V6
        clear hp0
        go_loopw [8, 9] (fun v i wr => ∃ (x d c : Nat), x ≤ m ∧ i = .int .i64 x ∧ v = .slice (some ⟨c, 0, none⟩) (x + 1) d ∧ OwnK wr w5.heap.size (some ⟨c, 0, none⟩) d (smL p0 ms x) ∧ Below w5.heap.size w5 wr) (fun _ i _ => m - (intOf i).toNat)
        case atStart => exact ⟨0, 1, w5.heap.size + 1, Nat.zero_le _, rfl, rfl, O.out, B.out⟩
        case round =>
          clear O B
          obtain ⟨x, d, c, hx, rfl, rfl, O, B⟩ := hrel
          by_cases hlt : x < m
          · skip
            obtain ⟨y, hy⟩ : ∃ y, ms.getD x z9 = y := ⟨_, rfl⟩
            have hyf : sfC y = 0 := hmf.out _ (by rw [← hy]; exact getD_mem (by rw [HML.out]; exact hlt))
            obtain ⟨r1, hr1⟩ : ∃ r1, r1 = if y.r = 0 then 6 else y.r := ⟨_, rfl⟩
            have hsm : smK y = ⟨y.a, y.c, r1, 64, y.e, y.g, none, 0, 0⟩ := by unfold smK; rw [hr1]
            have hnx := Hid.mk (smL_next p0 ms x (by rw [HML.out]; exact hlt) hy)
            have hln := Hid.mk (smL_len p0 ms x (by rw [HML.out]; exact hx))
            rw [hsm] at hnx
            have CSm := Hid.mk (fun w => implSample_ok y hyf r1 hr1 w)
            have hk1 : (x : Int) < (m : Int) := by omega
            rcases RM5.out.kept B with h0 | ⟨b3, o, hbo, hc⟩
            · have := HML.out; rw [h0] at this; simp at this; omega
            simp only [Option.some.injEq, Addr.mk.injEq, and_true] at hbo
            obtain ⟨rfl, rfl⟩ := hbo
            obtain ⟨p0', p1, p2, p3, p4, p5, p6, p7, p8⟩ := RdL.nine hc x (by rw [HML.out]; exact hlt) y hy
            simp only [Nat.zero_add] at p0' p1 p2 p3 p4 p5 p6 p7 p8
            clear hc hy hr1 hsm hyf
            replace O := Hid.mk O
            replace B := Hid.mk B
            go_wp2_with fail
            refine (CSm.out _).mono ?_
            rintro e w6 ⟨rfl, b6⟩
            clear p0' p1 p2 p3 p4 p5 p6 p7 p8 CSm
            replace O := O.out.kept b6
            replace B := thenB B.out b6
            replace O := O.kept (belowA w6 (.cells #[.int .i64 y.a, .int .i64 y.c, .int .i64 r1, .int .i64 64, .int .i64 y.e, .int .i64 y.g, .slice none 0 0] 35))
            replace B := thenB B (belowA w6 (.cells #[.int .i64 y.a, .int .i64 y.c, .int .i64 r1, .int .i64 64, .int .i64 y.e, .int .i64 y.g, .slice none 0 0] 35))
            have TL := B.size
            replace B := Hid.mk B
            clear b6
            go_wp2_with (at_builtin; go_loud (refine wpList_putK _ rfl _ _ rfl w5.heap.size (some ⟨c, 0, none⟩) d (smL p0 ms x) (x + 1) hln.out rfl O _ 1 ⟨y.a, y.c, r1, 64, y.e, y.g, none, 0, 0⟩ rfl (newCells _ _ (rowK ⟨y.a, y.c, r1, 64, y.e, y.g, none, 0, 0⟩)) (by have := hm13.out; omega) TL ?_))
            intro c8 d8 w8 O8 hg8 hx8
            obtain ⟨c9, rfl, _, _⟩ := hx8.out
            replace B := Hid.mk (belowG (c := some ⟨c, 0, none⟩) B.out hg8 TL (fun b hb => (O.lt b hb).1))
            have hmb := hm13.out
            rw [hnx.out] at O8
            replace O8 := Hid.mk O8
            clear O hg8 hx8 TL hnx hln
            go_wp2
            go_roundw
            case rel =>
              exact ⟨x + 1, d8, c9, by omega, by go_num, rfl, O8.out, B.out⟩
            case measure =>
              simp [intOf]
              omega
          · skip
            obtain rfl : x = m := by omega
            obtain ⟨ps, hps⟩ : ∃ ps, smL p0 ms x = ps := ⟨_, rfl⟩
            have hpl : ps.length = x + 1 := by rw [← hps]; exact smL_len p0 ms x (by rw [HML.out]; exact Nat.le_refl _)
            obtain ⟨p1, hp1⟩ : ∃ p1, smK (ms.getD 0 z9) = p1 := ⟨_, rfl⟩
            have hx0 : 0 < x := by have := hmp.out; omega
            have hg1 : ps.getD 1 z7 = p1 := by rw [← hps, ← hp1]; exact smL_one p0 ms x hx0 (by rw [HML.out]; exact Nat.le_refl _)
            have hh1 := hsa.out
            rw [hp1] at hh1
            rw [hps] at O
            have RK := O.rd
            clear O hps hp1
            rcases RK with h0 | ⟨b3, o, hbo, hc⟩
            · rw [h0] at hpl; simp at hpl
            obtain rfl : b3 = c := by simp at hbo; exact hbo.1.symm
            obtain rfl : o = 0 := by simp at hbo; exact hbo.symm
            have RK : RdK wr (some ⟨b3, 0, none⟩) ps := .inr ⟨b3, 0, rfl, hc⟩
            clear hc hbo
            have RK6 := Hid.mk RK
            have RM6 := Hid.mk (RM5.out.kept B)
            have RT6 := Hid.mk (RT5.out.kept B)
            have RZ6 := Hid.mk (RZ5.out.kept B)
            have VM6 := Hid.mk (VM.out.kept B)
            have B6 := Hid.mk (thenB B5.out B)
            clear RK B RM5 RT5 RZ5 B5 hlt hx
            replace VM := VM6.out
            clear VM
            have w6eq : ∃ w6, w6 = wr := ⟨_, rfl⟩
            clear w6eq
            go_wp2
            go_loopw [10] (fun i wz => ∃ k : Nat, k ≤ x + 1 ∧ i = .int .i64 k ∧ Below wr.heap.size wr wz) (fun i _ => x + 1 - (intOf i).toNat)
            case atStart => exact ⟨0, Nat.zero_le _, rfl, Below.refl _ _⟩
            case round =>
              obtain ⟨kq, hkq, rfl, B⟩ := hrel
              by_cases hlt : kq < x + 1
              · skip
                have hmb := hm13.out
                obtain ⟨p, hp⟩ : ∃ p, ps.getD kq z7 = p := ⟨_, rfl⟩
                have E := (HA.out (by simp)).2.2 p.f p.t p.r p.l p.u p.v p.m
                have C1 := Hid.mk (CM.out p)
                have C2 := Hid.mk (CT.out p)
                have C3 := Hid.mk (CZ.out p)
                have hk1 : (kq : Int) < (x : Int) + 1 := by omega
                have RM := RM6.out.kept B
                have RT := RT6.out.kept B
                have RZ := RZ6.out.kept B
                have RK := RK6.out.kept B
                have VM := VM6.out.kept B
                generalize haP ms p.f p.t p.r p.l p.u p.v p.m = t1 at *
                generalize haP ts p.f p.t p.r p.l p.u p.v p.m = t2 at *
                generalize haP zs p.f p.t p.r p.l p.u p.v p.m = t3 at *
                obtain ⟨q0, q1, q2, q3, q4, q5, q6⟩ := RdK.at RK kq (by omega) _ hp
                simp only [Nat.zero_add] at q0 q1 q2 q3 q4 q5 q6
                obtain ⟨s_VM, f_VM, z_VM⟩ := VM.open
                have Bo := B
                go_wp2_with fail
                refine (C1.out _ RM).mono ?_
                rintro e w21 ⟨rfl, b21⟩
                clear s_VM f_VM z_VM
                have S21 := b21.size
                replace VM := VM.kept b21
                replace RM := RM.kept b21
                replace RT := RT.kept b21
                replace RZ := RZ.kept b21
                replace RK := RK.kept b21
                replace B := thenB B b21
                clear b21
                obtain ⟨s_VM, f_VM, z_VM⟩ := VM.open
                have Bo := B
                clear q0 q1 q2 q3 q4 q5 q6
                cases t1
                · skip
                  rw [Bool.false_and] at E
                  have hk0 : ((0 : Int) == 0) = true := rfl
                  rw [hk0, Bool.true_and] at E
                  subst E
                  obtain ⟨q0, q1, q2, q3, q4, q5, q6⟩ := RdK.at RK kq (by omega) _ hp
                  simp only [Nat.zero_add] at q0 q1 q2 q3 q4 q5 q6
                  have hb3 := World.block_lt_of_cell? (a := ⟨b3, kq * 7, none⟩) _ q0
                  simp only at hb3
                  clear s_VM f_VM z_VM
                  have K : ∀ w' : World, Below w21.heap.size w21 w' → (w'.cell? ⟨w2.heap.size, 0, none⟩ = some (.int .i64 0) ∧ w'.cell? ⟨w2.heap.size, 1, none⟩ = some (.slice c3 j d3) ∧ w'.cell? ⟨b3, kq * 7, none⟩ = some (.int .i64 p.f) ∧ w'.cell? ⟨b3, kq * 7 + 1, none⟩ = some (.int .i64 p.t) ∧ w'.cell? ⟨b3, kq * 7 + 2, none⟩ = some (.int .i64 p.r) ∧ w'.cell? ⟨b3, kq * 7 + 3, none⟩ = some (.int .i64 p.l) ∧ w'.cell? ⟨b3, kq * 7 + 4, none⟩ = some (.int .i64 p.u) ∧ w'.cell? ⟨b3, kq * 7 + 5, none⟩ = some (.int .i64 p.v) ∧ w'.cell? ⟨b3, kq * 7 + 6, none⟩ = some (.slice p.s p.m p.d)) := fun w' h => ⟨(VM.kept h).2.1 0 (by simp), (VM.kept h).2.1 1 (by simp), ((bcell h).1 _ _ hb3).trans q0, ((bcell h).1 _ _ hb3).trans q1, ((bcell h).1 _ _ hb3).trans q2, ((bcell h).1 _ _ hb3).trans q3, ((bcell h).1 _ _ hb3).trans q4, ((bcell h).1 _ _ hb3).trans q5, ((bcell h).1 _ _ hb3).trans q6⟩
                  have K := Hid.mk K
                  clear q0 q1 q2 q3 q4 q5 q6
                  go_wp2_with fail
                  refine wp_region_held_drew (S := (fun w' => w'.cell? ⟨w2.heap.size, 0, none⟩ = some (.int .i64 0) ∧ w'.cell? ⟨w2.heap.size, 1, none⟩ = some (.slice c3 j d3) ∧ w'.cell? ⟨b3, kq * 7, none⟩ = some (.int .i64 p.f) ∧ w'.cell? ⟨b3, kq * 7 + 1, none⟩ = some (.int .i64 p.t) ∧ w'.cell? ⟨b3, kq * 7 + 2, none⟩ = some (.int .i64 p.r) ∧ w'.cell? ⟨b3, kq * 7 + 3, none⟩ = some (.int .i64 p.l) ∧ w'.cell? ⟨b3, kq * 7 + 4, none⟩ = some (.int .i64 p.u) ∧ w'.cell? ⟨b3, kq * 7 + 5, none⟩ = some (.int .i64 p.v) ∧ w'.cell? ⟨b3, kq * 7 + 6, none⟩ = some (.slice p.s p.m p.d))) (by kernel_rfl) (K.out _ (Below.refl _ _).drew) (fun hHeld => ?_)
                  refine wpAnyH_take (i := 0) (oi := _) (v := ?vz51u1) rfl (by kernel_rfl) (by kernel_rfl) (by kernel_rfl) (fun _ _ _ h => h) (Or.inl ⟨by rfl, ?hyz51u1⟩) hHeld ?restz51u1
                  case hyz51u1 => (intro w hSw; (try dsimp only at hSw); go_simp; first | done | with_reducible rfl)
                  try simp only [Act.put, List.getElem_toArray, List.getElem_cons_zero, List.setIfInBounds_toArray, List.set_cons_zero, List.set_cons_succ]
                  refine wpAnyH_take (i := 1) (oi := _) (v := ?vz51u2) rfl (by kernel_rfl) (by kernel_rfl) (by kernel_rfl) (fun _ _ _ h => h) (Or.inl ⟨by rfl, ?hyz51u2⟩) hHeld ?restz51u2
                  case hyz51u2 => (intro w hSw; (try dsimp only at hSw); go_simp; first | done | with_reducible rfl)
                  try simp only [Act.put, List.getElem_toArray, List.getElem_cons_zero, List.getElem_cons_succ, List.setIfInBounds_toArray, List.set_cons_zero, List.set_cons_succ]
                  refine wpAnyH_take (i := 2) (oi := _) (v := ?vz51u3) rfl (by kernel_rfl) (by kernel_rfl) (by kernel_rfl) (fun _ _ _ h => h) (Or.inl ⟨by rfl, ?hyz51u3⟩) hHeld ?restz51u3
                  case hyz51u3 => (intro w hSw; (try dsimp only at hSw); go_simp; first | done | with_reducible rfl)
                  try simp only [Act.put, List.getElem_toArray, List.getElem_cons_zero, List.getElem_cons_succ, List.setIfInBounds_toArray, List.set_cons_zero, List.set_cons_succ]
                  refine wpAnyH_take (i := 3) (oi := _) (v := ?vz51u4) rfl (by kernel_rfl) (by kernel_rfl) (by kernel_rfl) (fun _ _ _ h => h) (Or.inl ⟨by rfl, ?hyz51u4⟩) hHeld ?restz51u4
                  case hyz51u4 => (intro w hSw; (try dsimp only at hSw); go_simp; first | done | with_reducible rfl)
                  try simp only [Act.put, List.getElem_toArray, List.getElem_cons_zero, List.getElem_cons_succ, List.setIfInBounds_toArray, List.set_cons_zero, List.set_cons_succ]
                  refine wpAnyH_take (i := 4) (oi := _) (v := ?vz51u5) rfl (by kernel_rfl) (by kernel_rfl) (by kernel_rfl) (fun _ _ _ h => h) (Or.inl ⟨by rfl, ?hyz51u5⟩) hHeld ?restz51u5
                  case hyz51u5 => (intro w hSw; (try dsimp only at hSw); go_simp; first | done | with_reducible rfl)
                  try simp only [Act.put, List.getElem_toArray, List.getElem_cons_zero, List.getElem_cons_succ, List.setIfInBounds_toArray, List.set_cons_zero, List.set_cons_succ]
                  refine wpAnyH_take (i := 5) (oi := _) (v := ?vz51u6) rfl (by kernel_rfl) (by kernel_rfl) (by kernel_rfl) (fun _ _ _ h => h) (Or.inl ⟨by rfl, ?hyz51u6⟩) hHeld ?restz51u6
                  case hyz51u6 => (intro w hSw; (try dsimp only at hSw); go_simp; first | done | with_reducible rfl)
                  try simp only [Act.put, List.getElem_toArray, List.getElem_cons_zero, List.getElem_cons_succ, List.setIfInBounds_toArray, List.set_cons_zero, List.set_cons_succ]
                  refine wpAnyH_take (i := 6) (oi := _) (v := ?vz51u7) rfl (by kernel_rfl) (by kernel_rfl) (by kernel_rfl) (fun _ _ _ h => h) (Or.inl ⟨by rfl, ?hyz51u7⟩) hHeld ?restz51u7
                  case hyz51u7 => (intro w hSw; (try dsimp only at hSw); go_simp; first | done | with_reducible rfl)
                  try simp only [Act.put, List.getElem_toArray, List.getElem_cons_zero, List.getElem_cons_succ, List.setIfInBounds_toArray, List.set_cons_zero, List.set_cons_succ]
                  refine wpAnyH_take (i := 7) (oi := _) (v := ?vz51u8) rfl (by kernel_rfl) (by kernel_rfl) (by kernel_rfl) (fun _ _ _ h => h) (Or.inl ⟨by rfl, ?hyz51u8⟩) hHeld ?restz51u8
                  case hyz51u8 => (intro w hSw; (try dsimp only at hSw); go_simp; first | done | with_reducible rfl)
                  try simp only [Act.put, List.getElem_toArray, List.getElem_cons_zero, List.getElem_cons_succ, List.setIfInBounds_toArray, List.set_cons_zero, List.set_cons_succ]
                  refine wpAnyH_take (i := 8) (oi := _) (v := ?vz51u9) rfl (by kernel_rfl) (by kernel_rfl) (by kernel_rfl) (fun _ _ _ h => h) (Or.inl ⟨by rfl, ?hyz51u9⟩) hHeld ?restz51u9
                  case hyz51u9 => (intro w hSw; (try dsimp only at hSw); go_simp; first | done | with_reducible rfl)
                  try simp only [Act.put, List.getElem_toArray, List.getElem_cons_zero, List.getElem_cons_succ, List.setIfInBounds_toArray, List.set_cons_zero, List.set_cons_succ]
                  refine wpAnyH_take (i := 9) (oi := _) (v := ?vz51u10) rfl (by kernel_rfl) (by kernel_rfl) (by kernel_rfl) (fun _ _ _ h => h) (Or.inl ⟨by rfl, ?hyz51u10⟩) hHeld ?restz51u10
                  case hyz51u10 => (intro w hSw; (try dsimp only at hSw); go_simp; first | done | with_reducible rfl)
                  try simp only [Act.put, List.getElem_toArray, List.getElem_cons_zero, List.getElem_cons_succ, List.setIfInBounds_toArray, List.set_cons_zero, List.set_cons_succ]
                  refine wpAnyH_take (i := 10) (oi := _) (v := ?vz51u11) rfl (by kernel_rfl) (by kernel_rfl) (by kernel_rfl) (fun _ _ _ h => h) (Or.inl ⟨by rfl, ?hyz51u11⟩) hHeld ?restz51u11
                  case hyz51u11 => (intro w hSw; (try dsimp only at hSw); go_simp; first | done | with_reducible rfl)
                  try simp only [Act.put, List.getElem_toArray, List.getElem_cons_zero, List.getElem_cons_succ, List.setIfInBounds_toArray, List.set_cons_zero, List.set_cons_succ]
                  refine wpAnyH_ready (rs := [11]) (by kernel_rfl) (by simp) ?_
                  refine AllReadyH.cons (o := _) rfl (fun K0 hK0 => ?_) AllReadyH.nil
                  go_simp
                  go_at_call 27
                  refine (C3.out _ (RZ.kept (Below.refl _ _).drew)).mono ?_
                  rintro e wz51v12 ⟨rfl, bz51v12⟩
                  refine hK0.out _ _ (K.out _ (thenB (Below.refl _ _).drew bz51v12)) (fun hHeld => ?_)
                  clear hK0 K0
                  try simp only [Act.put, List.getElem_toArray, List.getElem_cons_zero, List.getElem_cons_succ, List.setIfInBounds_toArray, List.set_cons_zero, List.set_cons_succ]
                  refine wpAnyH_take (i := 12) (oi := _) (v := ?vz51u13) rfl (by kernel_rfl) (by kernel_rfl) (by kernel_rfl) (fun _ _ _ h => h) (Or.inl ⟨by rfl, ?hyz51u13⟩) hHeld ?restz51u13
                  case hyz51u13 => (intro w hSw; (try dsimp only at hSw); go_simp; first | done | with_reducible rfl)
                  try simp only [Act.put, List.getElem_toArray, List.getElem_cons_zero, List.getElem_cons_succ, List.setIfInBounds_toArray, List.set_cons_zero, List.set_cons_succ]
                  refine wpAnyH_take (i := 13) (oi := _) (v := ?vz51u14) rfl (by kernel_rfl) (by kernel_rfl) (by kernel_rfl) (fun _ _ _ h => h) (Or.inl ⟨by rfl, ?hyz51u14⟩) hHeld ?restz51u14
                  case hyz51u14 => (intro w hSw; (try dsimp only at hSw); go_simp; first | done | with_reducible rfl)
                  try simp only [Act.put, List.getElem_toArray, List.getElem_cons_zero, List.getElem_cons_succ, List.setIfInBounds_toArray, List.set_cons_zero, List.set_cons_succ]
                  refine wpAnyH_done (by kernel_rfl) ?_ _
                  clear K hHeld
                  replace VM := VM.kept (thenB (Below.refl _ _).drew bz51v12)
                  replace RM := RM.kept (thenB (Below.refl _ _).drew bz51v12)
                  replace RT := RT.kept (thenB (Below.refl _ _).drew bz51v12)
                  replace RZ := RZ.kept (thenB (Below.refl _ _).drew bz51v12)
                  replace RK := RK.kept (thenB (Below.refl _ _).drew bz51v12)
                  replace B := thenB B (thenB (Below.refl _ _).drew bz51v12)
                  have Sz51 := ((thenB (Below.refl _ _).drew bz51v12)).size
                  clear bz51v12
                  obtain ⟨s_VM, f_VM, z_VM⟩ := VM.open
                  have Bo := B
                  clear s_VM f_VM z_VM
                  replace VM := Hid.mk VM
                  replace RM := Hid.mk RM
                  replace RT := Hid.mk RT
                  replace RZ := Hid.mk RZ
                  replace RK := Hid.mk RK
                  replace B := Hid.mk Bo
                  clear Bo
                  go_wp2
                  go_roundw
                  case rel =>
                    exact ⟨kq + 1, by omega, by go_num, B.out⟩
                  case measure =>
                    simp [intOf]
                    omega
                · skip
                  rw [Bool.true_and] at E
                  obtain ⟨q0, q1, q2, q3, q4, q5, q6⟩ := RdK.at RK kq (by omega) _ hp
                  simp only [Nat.zero_add] at q0 q1 q2 q3 q4 q5 q6
                  go_wp2_with fail
                  refine (C2.out _ RT).mono ?_
                  rintro e w22 ⟨rfl, b22⟩
                  clear s_VM f_VM z_VM
                  have S22 := b22.size
                  replace VM := VM.kept b22
                  replace RM := RM.kept b22
                  replace RT := RT.kept b22
                  replace RZ := RZ.kept b22
                  replace RK := RK.kept b22
                  replace B := thenB B b22
                  clear b22
                  obtain ⟨s_VM, f_VM, z_VM⟩ := VM.open
                  have Bo := B
                  clear q0 q1 q2 q3 q4 q5 q6
                  have hk0 : ((0 : Int) == 0) = true := rfl
                  rw [hk0, Bool.true_and] at E
                  subst E
                  have hnq : (t2 != t2) = false := by simp
                  obtain ⟨q0, q1, q2, q3, q4, q5, q6⟩ := RdK.at RK kq (by omega) _ hp
                  simp only [Nat.zero_add] at q0 q1 q2 q3 q4 q5 q6
                  have hb3 := World.block_lt_of_cell? (a := ⟨b3, kq * 7, none⟩) _ q0
                  simp only at hb3
                  clear s_VM f_VM z_VM
                  have K : ∀ w' : World, Below w22.heap.size w22 w' → (w'.cell? ⟨w2.heap.size, 0, none⟩ = some (.int .i64 0) ∧ w'.cell? ⟨w2.heap.size, 1, none⟩ = some (.slice c3 j d3) ∧ w'.cell? ⟨b3, kq * 7, none⟩ = some (.int .i64 p.f) ∧ w'.cell? ⟨b3, kq * 7 + 1, none⟩ = some (.int .i64 p.t) ∧ w'.cell? ⟨b3, kq * 7 + 2, none⟩ = some (.int .i64 p.r) ∧ w'.cell? ⟨b3, kq * 7 + 3, none⟩ = some (.int .i64 p.l) ∧ w'.cell? ⟨b3, kq * 7 + 4, none⟩ = some (.int .i64 p.u) ∧ w'.cell? ⟨b3, kq * 7 + 5, none⟩ = some (.int .i64 p.v) ∧ w'.cell? ⟨b3, kq * 7 + 6, none⟩ = some (.slice p.s p.m p.d)) := fun w' h => ⟨(VM.kept h).2.1 0 (by simp), (VM.kept h).2.1 1 (by simp), ((bcell h).1 _ _ hb3).trans q0, ((bcell h).1 _ _ hb3).trans q1, ((bcell h).1 _ _ hb3).trans q2, ((bcell h).1 _ _ hb3).trans q3, ((bcell h).1 _ _ hb3).trans q4, ((bcell h).1 _ _ hb3).trans q5, ((bcell h).1 _ _ hb3).trans q6⟩
                  have K := Hid.mk K
                  clear q0 q1 q2 q3 q4 q5 q6
                  go_wp2_with fail
                  refine wp_region_held_drew (S := (fun w' => w'.cell? ⟨w2.heap.size, 0, none⟩ = some (.int .i64 0) ∧ w'.cell? ⟨w2.heap.size, 1, none⟩ = some (.slice c3 j d3) ∧ w'.cell? ⟨b3, kq * 7, none⟩ = some (.int .i64 p.f) ∧ w'.cell? ⟨b3, kq * 7 + 1, none⟩ = some (.int .i64 p.t) ∧ w'.cell? ⟨b3, kq * 7 + 2, none⟩ = some (.int .i64 p.r) ∧ w'.cell? ⟨b3, kq * 7 + 3, none⟩ = some (.int .i64 p.l) ∧ w'.cell? ⟨b3, kq * 7 + 4, none⟩ = some (.int .i64 p.u) ∧ w'.cell? ⟨b3, kq * 7 + 5, none⟩ = some (.int .i64 p.v) ∧ w'.cell? ⟨b3, kq * 7 + 6, none⟩ = some (.slice p.s p.m p.d))) (by kernel_rfl) (K.out _ (Below.refl _ _).drew) (fun hHeld => ?_)
                  refine wpAnyH_take (i := 0) (oi := _) (v := ?vz61u1) rfl (by kernel_rfl) (by kernel_rfl) (by kernel_rfl) (fun _ _ _ h => h) (Or.inl ⟨by rfl, ?hyz61u1⟩) hHeld ?restz61u1
                  case hyz61u1 => (intro w hSw; (try dsimp only at hSw); go_simp; first | done | with_reducible rfl)
                  try simp only [Act.put, List.getElem_toArray, List.getElem_cons_zero, List.setIfInBounds_toArray, List.set_cons_zero, List.set_cons_succ]
                  refine wpAnyH_take (i := 1) (oi := _) (v := ?vz61u2) rfl (by kernel_rfl) (by kernel_rfl) (by kernel_rfl) (fun _ _ _ h => h) (Or.inl ⟨by rfl, ?hyz61u2⟩) hHeld ?restz61u2
                  case hyz61u2 => (intro w hSw; (try dsimp only at hSw); go_simp; first | done | with_reducible rfl)
                  try simp only [Act.put, List.getElem_toArray, List.getElem_cons_zero, List.getElem_cons_succ, List.setIfInBounds_toArray, List.set_cons_zero, List.set_cons_succ]
                  refine wpAnyH_take (i := 2) (oi := _) (v := ?vz61u3) rfl (by kernel_rfl) (by kernel_rfl) (by kernel_rfl) (fun _ _ _ h => h) (Or.inl ⟨by rfl, ?hyz61u3⟩) hHeld ?restz61u3
                  case hyz61u3 => (intro w hSw; (try dsimp only at hSw); go_simp; first | done | with_reducible rfl)
                  try simp only [Act.put, List.getElem_toArray, List.getElem_cons_zero, List.getElem_cons_succ, List.setIfInBounds_toArray, List.set_cons_zero, List.set_cons_succ]
                  refine wpAnyH_take (i := 3) (oi := _) (v := ?vz61u4) rfl (by kernel_rfl) (by kernel_rfl) (by kernel_rfl) (fun _ _ _ h => h) (Or.inl ⟨by rfl, ?hyz61u4⟩) hHeld ?restz61u4
                  case hyz61u4 => (intro w hSw; (try dsimp only at hSw); go_simp; first | done | with_reducible rfl)
                  try simp only [Act.put, List.getElem_toArray, List.getElem_cons_zero, List.getElem_cons_succ, List.setIfInBounds_toArray, List.set_cons_zero, List.set_cons_succ]
                  refine wpAnyH_take (i := 4) (oi := _) (v := ?vz61u5) rfl (by kernel_rfl) (by kernel_rfl) (by kernel_rfl) (fun _ _ _ h => h) (Or.inl ⟨by rfl, ?hyz61u5⟩) hHeld ?restz61u5
                  case hyz61u5 => (intro w hSw; (try dsimp only at hSw); go_simp; first | done | with_reducible rfl)
                  try simp only [Act.put, List.getElem_toArray, List.getElem_cons_zero, List.getElem_cons_succ, List.setIfInBounds_toArray, List.set_cons_zero, List.set_cons_succ]
                  refine wpAnyH_take (i := 5) (oi := _) (v := ?vz61u6) rfl (by kernel_rfl) (by kernel_rfl) (by kernel_rfl) (fun _ _ _ h => h) (Or.inl ⟨by rfl, ?hyz61u6⟩) hHeld ?restz61u6
                  case hyz61u6 => (intro w hSw; (try dsimp only at hSw); go_simp; first | done | with_reducible rfl)
                  try simp only [Act.put, List.getElem_toArray, List.getElem_cons_zero, List.getElem_cons_succ, List.setIfInBounds_toArray, List.set_cons_zero, List.set_cons_succ]
                  refine wpAnyH_take (i := 6) (oi := _) (v := ?vz61u7) rfl (by kernel_rfl) (by kernel_rfl) (by kernel_rfl) (fun _ _ _ h => h) (Or.inl ⟨by rfl, ?hyz61u7⟩) hHeld ?restz61u7
                  case hyz61u7 => (intro w hSw; (try dsimp only at hSw); go_simp; first | done | with_reducible rfl)
                  try simp only [Act.put, List.getElem_toArray, List.getElem_cons_zero, List.getElem_cons_succ, List.setIfInBounds_toArray, List.set_cons_zero, List.set_cons_succ]
                  refine wpAnyH_take (i := 7) (oi := _) (v := ?vz61u8) rfl (by kernel_rfl) (by kernel_rfl) (by kernel_rfl) (fun _ _ _ h => h) (Or.inl ⟨by rfl, ?hyz61u8⟩) hHeld ?restz61u8
                  case hyz61u8 => (intro w hSw; (try dsimp only at hSw); go_simp; first | done | with_reducible rfl)
                  try simp only [Act.put, List.getElem_toArray, List.getElem_cons_zero, List.getElem_cons_succ, List.setIfInBounds_toArray, List.set_cons_zero, List.set_cons_succ]
                  refine wpAnyH_take (i := 8) (oi := _) (v := ?vz61u9) rfl (by kernel_rfl) (by kernel_rfl) (by kernel_rfl) (fun _ _ _ h => h) (Or.inl ⟨by rfl, ?hyz61u9⟩) hHeld ?restz61u9
                  case hyz61u9 => (intro w hSw; (try dsimp only at hSw); go_simp; first | done | with_reducible rfl)
                  try simp only [Act.put, List.getElem_toArray, List.getElem_cons_zero, List.getElem_cons_succ, List.setIfInBounds_toArray, List.set_cons_zero, List.set_cons_succ]
                  refine wpAnyH_take (i := 9) (oi := _) (v := ?vz61u10) rfl (by kernel_rfl) (by kernel_rfl) (by kernel_rfl) (fun _ _ _ h => h) (Or.inl ⟨by rfl, ?hyz61u10⟩) hHeld ?restz61u10
                  case hyz61u10 => (intro w hSw; (try dsimp only at hSw); go_simp; first | done | with_reducible rfl)
                  try simp only [Act.put, List.getElem_toArray, List.getElem_cons_zero, List.getElem_cons_succ, List.setIfInBounds_toArray, List.set_cons_zero, List.set_cons_succ]
                  refine wpAnyH_take (i := 10) (oi := _) (v := ?vz61u11) rfl (by kernel_rfl) (by kernel_rfl) (by kernel_rfl) (fun _ _ _ h => h) (Or.inl ⟨by rfl, ?hyz61u11⟩) hHeld ?restz61u11
                  case hyz61u11 => (intro w hSw; (try dsimp only at hSw); go_simp; first | done | with_reducible rfl)
                  try simp only [Act.put, List.getElem_toArray, List.getElem_cons_zero, List.getElem_cons_succ, List.setIfInBounds_toArray, List.set_cons_zero, List.set_cons_succ]
                  refine wpAnyH_ready (rs := [11]) (by kernel_rfl) (by simp) ?_
                  refine AllReadyH.cons (o := _) rfl (fun K0 hK0 => ?_) AllReadyH.nil
                  go_simp
                  go_at_call 27
                  refine (C3.out _ (RZ.kept (Below.refl _ _).drew)).mono ?_
                  rintro e wz61v12 ⟨rfl, bz61v12⟩
                  refine hK0.out _ _ (K.out _ (thenB (Below.refl _ _).drew bz61v12)) (fun hHeld => ?_)
                  clear hK0 K0
                  try simp only [Act.put, List.getElem_toArray, List.getElem_cons_zero, List.getElem_cons_succ, List.setIfInBounds_toArray, List.set_cons_zero, List.set_cons_succ]
                  refine wpAnyH_take (i := 12) (oi := _) (v := ?vz61u13) rfl (by kernel_rfl) (by kernel_rfl) (by kernel_rfl) (fun _ _ _ h => h) (Or.inl ⟨by rfl, ?hyz61u13⟩) hHeld ?restz61u13
                  case hyz61u13 => (intro w hSw; (try dsimp only at hSw); go_simp; first | done | with_reducible rfl)
                  try simp only [Act.put, List.getElem_toArray, List.getElem_cons_zero, List.getElem_cons_succ, List.setIfInBounds_toArray, List.set_cons_zero, List.set_cons_succ]
                  refine wpAnyH_take (i := 13) (oi := _) (v := ?vz61u14) rfl (by kernel_rfl) (by kernel_rfl) (by kernel_rfl) (fun _ _ _ h => h) (Or.inl ⟨by rfl, ?hyz61u14⟩) hHeld ?restz61u14
                  case hyz61u14 => (intro w hSw; (try dsimp only at hSw); go_simp; first | done | with_reducible rfl)
                  try simp only [Act.put, List.getElem_toArray, List.getElem_cons_zero, List.getElem_cons_succ, List.setIfInBounds_toArray, List.set_cons_zero, List.set_cons_succ]
                  refine wpAnyH_done (by kernel_rfl) ?_ _
                  clear K hHeld
                  replace VM := VM.kept (thenB (Below.refl _ _).drew bz61v12)
                  replace RM := RM.kept (thenB (Below.refl _ _).drew bz61v12)
                  replace RT := RT.kept (thenB (Below.refl _ _).drew bz61v12)
                  replace RZ := RZ.kept (thenB (Below.refl _ _).drew bz61v12)
                  replace RK := RK.kept (thenB (Below.refl _ _).drew bz61v12)
                  replace B := thenB B (thenB (Below.refl _ _).drew bz61v12)
                  have Sz61 := ((thenB (Below.refl _ _).drew bz61v12)).size
                  clear bz61v12
                  obtain ⟨s_VM, f_VM, z_VM⟩ := VM.open
                  have Bo := B
                  clear s_VM f_VM z_VM
                  replace VM := Hid.mk VM
                  replace RM := Hid.mk RM
                  replace RT := Hid.mk RT
                  replace RZ := Hid.mk RZ
                  replace RK := Hid.mk RK
                  replace B := Hid.mk Bo
                  clear Bo
                  go_wp2
                  go_roundw
                  case rel =>
                    exact ⟨kq + 1, by omega, by go_num, B.out⟩
                  case measure =>
                    simp [intOf]
                    omega
              · skip
                obtain rfl : kq = x + 1 := by omega
                have C1 := Hid.mk (CM.out p1)
                rw [hh1] at C1
                have hkk : ((0 : Int) == 0) = true := rfl
                have RM := RM6.out.kept B
                have RT := RT6.out.kept B
                have RK := RK6.out.kept B
                have VM := VM6.out.kept B
                obtain ⟨q0, q1, q2, q3, q4, q5, q6⟩ := RdK.at RK 1 (by omega) _ hg1
                simp only [Nat.zero_add, Nat.reduceMul, Nat.reduceAdd] at q0 q1 q2 q3 q4 q5 q6
                have hb3 := World.block_lt_of_cell? (a := ⟨b3, 7, none⟩) _ q0
                simp only at hb3
                have hx1 : (1 : Int) < (x : Int) + 1 := by omega
                have hzz : ¬ ((x + 1 : Nat) : Int) < (x : Int) + 1 := by omega
                obtain ⟨s_VM, f_VM, z_VM⟩ := VM.open
                have Bo := B
                clear s_VM f_VM z_VM
                have K : ∀ w' : World, Below wr.heap.size wr w' → (w'.cell? ⟨w2.heap.size, 0, none⟩ = some (.int .i64 0) ∧ w'.cell? ⟨w2.heap.size, 1, none⟩ = some (.slice c3 j d3) ∧ w'.cell? ⟨b3, 7, none⟩ = some (.int .i64 p1.f) ∧ w'.cell? ⟨b3, 8, none⟩ = some (.int .i64 p1.t) ∧ w'.cell? ⟨b3, 9, none⟩ = some (.int .i64 p1.r) ∧ w'.cell? ⟨b3, 10, none⟩ = some (.int .i64 p1.l) ∧ w'.cell? ⟨b3, 11, none⟩ = some (.int .i64 p1.u) ∧ w'.cell? ⟨b3, 12, none⟩ = some (.int .i64 p1.v) ∧ w'.cell? ⟨b3, 13, none⟩ = some (.slice p1.s p1.m p1.d)) := fun w' h => ⟨(VM.kept h).2.1 0 (by simp), (VM.kept h).2.1 1 (by simp), ((bcell h).1 _ _ hb3).trans q0, ((bcell h).1 _ _ hb3).trans q1, ((bcell h).1 _ _ hb3).trans q2, ((bcell h).1 _ _ hb3).trans q3, ((bcell h).1 _ _ hb3).trans q4, ((bcell h).1 _ _ hb3).trans q5, ((bcell h).1 _ _ hb3).trans q6⟩
                have K := Hid.mk K
                clear q0 q1 q2 q3 q4 q5 q6
                go_wp2_with fail
                refine wp_region_held_drew (S := (fun w' => w'.cell? ⟨w2.heap.size, 0, none⟩ = some (.int .i64 0) ∧ w'.cell? ⟨w2.heap.size, 1, none⟩ = some (.slice c3 j d3) ∧ w'.cell? ⟨b3, 7, none⟩ = some (.int .i64 p1.f) ∧ w'.cell? ⟨b3, 8, none⟩ = some (.int .i64 p1.t) ∧ w'.cell? ⟨b3, 9, none⟩ = some (.int .i64 p1.r) ∧ w'.cell? ⟨b3, 10, none⟩ = some (.int .i64 p1.l) ∧ w'.cell? ⟨b3, 11, none⟩ = some (.int .i64 p1.u) ∧ w'.cell? ⟨b3, 12, none⟩ = some (.int .i64 p1.v) ∧ w'.cell? ⟨b3, 13, none⟩ = some (.slice p1.s p1.m p1.d))) (by kernel_rfl) (K.out _ (Below.refl _ _).drew) (fun hHeld => ?_)
                refine wpAnyH_take (i := 0) (oi := _) (v := ?vz91u1) rfl (by kernel_rfl) (by kernel_rfl) (by kernel_rfl) (fun _ _ _ h => h) (Or.inl ⟨by rfl, ?hyz91u1⟩) hHeld ?restz91u1
                case hyz91u1 => (intro w hSw; (try dsimp only at hSw); go_simp; first | done | with_reducible rfl)
                try simp only [Act.put, List.getElem_toArray, List.getElem_cons_zero, List.setIfInBounds_toArray, List.set_cons_zero, List.set_cons_succ]
                refine wpAnyH_take (i := 1) (oi := _) (v := ?vz91u2) rfl (by kernel_rfl) (by kernel_rfl) (by kernel_rfl) (fun _ _ _ h => h) (Or.inl ⟨by rfl, ?hyz91u2⟩) hHeld ?restz91u2
                case hyz91u2 => (intro w hSw; (try dsimp only at hSw); go_simp; first | done | with_reducible rfl)
                try simp only [Act.put, List.getElem_toArray, List.getElem_cons_zero, List.getElem_cons_succ, List.setIfInBounds_toArray, List.set_cons_zero, List.set_cons_succ]
                refine wpAnyH_take (i := 2) (oi := _) (v := ?vz91u3) rfl (by kernel_rfl) (by kernel_rfl) (by kernel_rfl) (fun _ _ _ h => h) (Or.inl ⟨by rfl, ?hyz91u3⟩) hHeld ?restz91u3
                case hyz91u3 => (intro w hSw; (try dsimp only at hSw); go_simp; first | done | with_reducible rfl)
                try simp only [Act.put, List.getElem_toArray, List.getElem_cons_zero, List.getElem_cons_succ, List.setIfInBounds_toArray, List.set_cons_zero, List.set_cons_succ]
                refine wpAnyH_take (i := 3) (oi := _) (v := ?vz91u4) rfl (by kernel_rfl) (by kernel_rfl) (by kernel_rfl) (fun _ _ _ h => h) (Or.inl ⟨by rfl, ?hyz91u4⟩) hHeld ?restz91u4
                case hyz91u4 => (intro w hSw; (try dsimp only at hSw); go_simp; first | done | with_reducible rfl)
                try simp only [Act.put, List.getElem_toArray, List.getElem_cons_zero, List.getElem_cons_succ, List.setIfInBounds_toArray, List.set_cons_zero, List.set_cons_succ]
                refine wpAnyH_ready (rs := [4]) (by kernel_rfl) (by simp) ?_
                refine AllReadyH.cons (o := _) rfl (fun K0 hK0 => ?_) AllReadyH.nil
                go_simp
                go_at_call 27
                refine (C1.out _ (RM.kept (Below.refl _ _).drew)).mono ?_
                rintro e wz91v5 ⟨rfl, bz91v5⟩
                refine hK0.out _ _ (K.out _ (thenB (Below.refl _ _).drew bz91v5)) (fun hHeld => ?_)
                clear hK0 K0
                try simp only [Act.put, List.getElem_toArray, List.getElem_cons_zero, List.getElem_cons_succ, List.setIfInBounds_toArray, List.set_cons_zero, List.set_cons_succ]
                refine wpAnyH_take (i := 5) (oi := _) (v := ?vz91u6) rfl (by kernel_rfl) (by kernel_rfl) (by kernel_rfl) (fun _ _ _ h => h) (Or.inl ⟨by rfl, ?hyz91u6⟩) hHeld ?restz91u6
                case hyz91u6 => (intro w hSw; (try dsimp only at hSw); go_simp; first | done | with_reducible rfl)
                try simp only [Act.put, List.getElem_toArray, List.getElem_cons_zero, List.getElem_cons_succ, List.setIfInBounds_toArray, List.set_cons_zero, List.set_cons_succ]
                refine wpAnyH_take (i := 6) (oi := _) (v := ?vz91u7) rfl (by kernel_rfl) (by kernel_rfl) (by kernel_rfl) (fun _ _ _ h => h) (Or.inl ⟨by rfl, ?hyz91u7⟩) hHeld ?restz91u7
                case hyz91u7 => (intro w hSw; (try dsimp only at hSw); go_simp; first | done | with_reducible rfl)
                try simp only [Act.put, List.getElem_toArray, List.getElem_cons_zero, List.getElem_cons_succ, List.setIfInBounds_toArray, List.set_cons_zero, List.set_cons_succ]
                refine wpAnyH_take (i := 7) (oi := _) (v := ?vz91u8) rfl (by kernel_rfl) (by kernel_rfl) (by kernel_rfl) (fun _ _ _ h => h) (Or.inl ⟨by rfl, ?hyz91u8⟩) hHeld ?restz91u8
                case hyz91u8 => (intro w hSw; (try dsimp only at hSw); go_simp; first | done | with_reducible rfl)
                try simp only [Act.put, List.getElem_toArray, List.getElem_cons_zero, List.getElem_cons_succ, List.setIfInBounds_toArray, List.set_cons_zero, List.set_cons_succ]
                refine wpAnyH_take (i := 8) (oi := _) (v := ?vz91u9) rfl (by kernel_rfl) (by kernel_rfl) (by kernel_rfl) (fun _ _ _ h => h) (Or.inl ⟨by rfl, ?hyz91u9⟩) hHeld ?restz91u9
                case hyz91u9 => (intro w hSw; (try dsimp only at hSw); go_simp; first | done | with_reducible rfl)
                try simp only [Act.put, List.getElem_toArray, List.getElem_cons_zero, List.getElem_cons_succ, List.setIfInBounds_toArray, List.set_cons_zero, List.set_cons_succ]
                refine wpAnyH_take (i := 9) (oi := _) (v := ?vz91u10) rfl (by kernel_rfl) (by kernel_rfl) (by kernel_rfl) (fun _ _ _ h => h) (Or.inl ⟨by rfl, ?hyz91u10⟩) hHeld ?restz91u10
                case hyz91u10 => (intro w hSw; (try dsimp only at hSw); go_simp; first | done | with_reducible rfl)
                try simp only [Act.put, List.getElem_toArray, List.getElem_cons_zero, List.getElem_cons_succ, List.setIfInBounds_toArray, List.set_cons_zero, List.set_cons_succ]
                refine wpAnyH_ready (rs := [10]) (by kernel_rfl) (by simp) ?_
                refine AllReadyH.cons (o := _) rfl (fun K0 hK0 => ?_) AllReadyH.nil
                go_simp
                go_at_call 25
                refine (CS.out _ (RM.kept (thenB (Below.refl _ _).drew bz91v5)) (RT.kept (thenB (Below.refl _ _).drew bz91v5))).mono ?_
                rintro e wz91v11 ⟨cs, ds, ks, rfl, hks, os, bz91v11⟩
                refine hK0.out _ _ (K.out _ (thenB (thenB (Below.refl _ _).drew bz91v5) bz91v11)) (fun hHeld => ?_)
                clear hK0 K0
                try simp only [Act.put, List.getElem_toArray, List.getElem_cons_zero, List.getElem_cons_succ, List.setIfInBounds_toArray, List.set_cons_zero, List.set_cons_succ]
                refine wpAnyH_take (i := 11) (oi := _) (v := ?vz91u12) rfl (by kernel_rfl) (by kernel_rfl) (by kernel_rfl) (fun _ _ _ h => h) (Or.inl ⟨by rfl, ?hyz91u12⟩) hHeld ?restz91u12
                case hyz91u12 => (intro w hSw; (try dsimp only at hSw); go_simp; first | done | with_reducible rfl)
                try simp only [Act.put, List.getElem_toArray, List.getElem_cons_zero, List.getElem_cons_succ, List.setIfInBounds_toArray, List.set_cons_zero, List.set_cons_succ]
                refine wpAnyH_take (i := 12) (oi := _) (v := ?vz91u13) rfl (by kernel_rfl) (by kernel_rfl) (by kernel_rfl) (fun _ _ _ h => h) (Or.inl ⟨by rfl, ?hyz91u13⟩) hHeld ?restz91u13
                case hyz91u13 => (intro w hSw; (try dsimp only at hSw); go_simp; first | done | with_reducible rfl)
                try simp only [Act.put, List.getElem_toArray, List.getElem_cons_zero, List.getElem_cons_succ, List.setIfInBounds_toArray, List.set_cons_zero, List.set_cons_succ]
                refine wpAnyH_take (i := 13) (oi := _) (v := ?vz91u14) rfl (by kernel_rfl) (by kernel_rfl) (by kernel_rfl) (fun _ _ _ h => h) (Or.inl ⟨by rfl, ?hyz91u14⟩) hHeld ?restz91u14
                case hyz91u14 => (intro w hSw; (try dsimp only at hSw); go_simp; first | done | with_reducible rfl)
                try simp only [Act.put, List.getElem_toArray, List.getElem_cons_zero, List.getElem_cons_succ, List.setIfInBounds_toArray, List.set_cons_zero, List.set_cons_succ]
                refine wpAnyH_take (i := 14) (oi := _) (v := ?vz91u15) rfl (by kernel_rfl) (by kernel_rfl) (by kernel_rfl) (fun _ _ _ h => h) (Or.inl ⟨by rfl, ?hyz91u15⟩) hHeld ?restz91u15
                case hyz91u15 => (intro w hSw; (try dsimp only at hSw); go_simp; first | done | with_reducible rfl)
                try simp only [Act.put, List.getElem_toArray, List.getElem_cons_zero, List.getElem_cons_succ, List.setIfInBounds_toArray, List.set_cons_zero, List.set_cons_succ]
                refine wpAnyH_done (by kernel_rfl) ?_ _
                clear K hHeld
                replace VM := VM.kept (thenB (thenB (Below.refl _ _).drew bz91v5) bz91v11)
                replace RM := RM.kept (thenB (thenB (Below.refl _ _).drew bz91v5) bz91v11)
                replace RT := RT.kept (thenB (thenB (Below.refl _ _).drew bz91v5) bz91v11)
                replace RK := RK.kept (thenB (thenB (Below.refl _ _).drew bz91v5) bz91v11)
                replace B := thenB B (thenB (thenB (Below.refl _ _).drew bz91v5) bz91v11)
                have Sz91 := ((thenB (thenB (Below.refl _ _).drew bz91v5) bz91v11)).size
                clear bz91v5 bz91v11
                obtain ⟨s_VM, f_VM, z_VM⟩ := VM.open
                have Bo := B
                go_wp2
                go_ret
                exact ⟨rfl, thenB B6.out Bo⟩
      · skip
        have VM : V (w2.alloc (.cells #[.int .i64 4, .slice c3 j d3] 50)) w2.heap.size [.int .i64 4, .slice c3 j d3] := V.newAt _ _ _ _ rfl
        have VM' := VM.kept (belowA (w2.alloc (.cells #[.int .i64 4, .slice c3 j d3] 50)) (.cells #[.int .u8 3] 5))
        obtain ⟨s_VM, f_VM, z_VM⟩ := VM.open
        obtain ⟨i0, hi, j0, j1, j2⟩ := info_parts Try.info_u8
        have OL : Own .u8 5 ((w2.alloc (.cells #[.int .i64 4, .slice c3 j d3] 50)).alloc (.cells #[.int .u8 3] 5)) (w2.heap.size + 1) (some ⟨w2.heap.size + 1, 0, none⟩) 1 [3] := by have h := Own.lit (w2.alloc (.cells #[.int .i64 4, .slice c3 j d3] 50)) 5 [3] (by decide); simp only [World.size_alloc] at h; exact h
        have B := belowA2 w2 (.cells #[.int .i64 4, .slice c3 j d3] 50) (.cells #[.int .u8 3] 5)
        have R := R0.out.kept B
        replace B := Hid.mk B
        replace VM' := Hid.mk VM'
        clear VM
        go_wp2_with (at_builtin; go_loud (refine wpList_put _ rfl _ _ 22 rfl (w2.heap.size + 1) 5 i0 Try.underlying22 hi j0 j1 j2 _ _ 1 [3] rfl OL rfl _ _ _ xs rfl R hn hcn (1 + n) (3 :: xs) rfl rfl (by omega) (by simp) ?_))
        intro c4 d4 w4 O4 b4
        clear s_VM f_VM z_VM OL R
        have VM := VM'.out.keptB (by omega) b4
        replace B := B.out.trans (b4.mono (by omega))
        clear VM' b4
        have hn4 : (3 :: xs).length = 1 + n := by simp; omega
        have hb3 := bytes3 hB
        generalize 3 :: xs = zs4 at *
        go_wp2_with fail
        refine (drawHoldsAny_ok c4 (1 + n) d4 zs4 _ O4.rd hb3 hn4 (by omega)).mono ?_
        rintro e w5 ⟨c6, d7, m6, f, t', r, l, u, v, s, k6, d6, rfl, b5⟩
        replace VM := Hid.mk (VM.kept b5)
        replace B := thenB B b5
        have RM5 := Hid.mk (RM0.out.kept B)
        have RT5 := Hid.mk (RT0.out.kept B)
        have RZ5 := Hid.mk (RZ0.out.kept B)
        have B5 := Hid.mk (thenB B0.out B)
        clear B b5 O4 hn4 hb3 RM0 RT0 RZ0 R0 B0
        obtain ⟨p0, hp0⟩ : ∃ p0 : K7, p0 = ⟨f, t', r, l, u, v, s, k6, d6⟩ := ⟨_, rfl⟩
        have O : OwnK ((w5.alloc (.cells #[.int .i64 f, .int .i64 t', .int .i64 r, .int .i64 l, .int .i64 u, .int .i64 v, .slice s k6 d6] 35)).alloc (.cells #[.int .i64 f, .int .i64 t', .int .i64 r, .int .i64 l, .int .i64 u, .int .i64 v, .slice s k6 d6] 35)) w5.heap.size (some ⟨w5.heap.size + 1, 0, none⟩) 1 (smL p0 ms 0) := by
          have h := OwnK.lit (w5.alloc (.cells #[.int .i64 f, .int .i64 t', .int .i64 r, .int .i64 l, .int .i64 u, .int .i64 v, .slice s k6 d6] 35)) (smL p0 ms 0) [.int .i64 f, .int .i64 t', .int .i64 r, .int .i64 l, .int .i64 u, .int .i64 v, .slice s k6 d6] (by rw [hp0]; rfl) (by unfold smL; simp [maxLen])
          simp only [World.size_alloc] at h
          exact OwnK.mono h (by omega)
        have B := belowA2 w5 (.cells #[.int .i64 f, .int .i64 t', .int .i64 r, .int .i64 l, .int .i64 u, .int .i64 v, .slice s k6 d6] 35) (.cells #[.int .i64 f, .int .i64 t', .int .i64 r, .int .i64 l, .int .i64 u, .int .i64 v, .slice s k6 d6] 35)
        have V6 := V.new w5 [.int .i64 f, .int .i64 t', .int .i64 r, .int .i64 l, .int .i64 u, .int .i64 v, .slice s k6 d6] 35
        obtain ⟨s_V6, f_V6, z_V6⟩ := V6.open
        replace O := Hid.mk O
        replace B := Hid.mk B
        clear V6
        go_wp2
        clear s_V6 f_V6 z_V6
        clear hp0
        go_loopw [8, 9] (fun v i wr => ∃ (x d c : Nat), x ≤ m ∧ i = .int .i64 x ∧ v = .slice (some ⟨c, 0, none⟩) (x + 1) d ∧ OwnK wr w5.heap.size (some ⟨c, 0, none⟩) d (smL p0 ms x) ∧ Below w5.heap.size w5 wr) (fun _ i _ => m - (intOf i).toNat)
        case atStart => exact ⟨0, 1, w5.heap.size + 1, Nat.zero_le _, rfl, rfl, O.out, B.out⟩
        case round =>
          clear O B
          obtain ⟨x, d, c, hx, rfl, rfl, O, B⟩ := hrel
          by_cases hlt : x < m
          · skip
            obtain ⟨y, hy⟩ : ∃ y, ms.getD x z9 = y := ⟨_, rfl⟩
            have hyf : sfC y = 0 := hmf.out _ (by rw [← hy]; exact getD_mem (by rw [HML.out]; exact hlt))
            obtain ⟨r1, hr1⟩ : ∃ r1, r1 = if y.r = 0 then 6 else y.r := ⟨_, rfl⟩
            have hsm : smK y = ⟨y.a, y.c, r1, 64, y.e, y.g, none, 0, 0⟩ := by unfold smK; rw [hr1]
            have hnx := Hid.mk (smL_next p0 ms x (by rw [HML.out]; exact hlt) hy)
            have hln := Hid.mk (smL_len p0 ms x (by rw [HML.out]; exact hx))
            rw [hsm] at hnx
            have CSm := Hid.mk (fun w => implSample_ok y hyf r1 hr1 w)
            have hk1 : (x : Int) < (m : Int) := by omega
            rcases RM5.out.kept B with h0 | ⟨b3, o, hbo, hc⟩
            · have := HML.out; rw [h0] at this; simp at this; omega
            simp only [Option.some.injEq, Addr.mk.injEq, and_true] at hbo
            obtain ⟨rfl, rfl⟩ := hbo
            obtain ⟨p0', p1, p2, p3, p4, p5, p6, p7, p8⟩ := RdL.nine hc x (by rw [HML.out]; exact hlt) y hy
            simp only [Nat.zero_add] at p0' p1 p2 p3 p4 p5 p6 p7 p8
            clear hc hy hr1 hsm hyf
            replace O := Hid.mk O
            replace B := Hid.mk B
            go_wp2_with fail
            refine (CSm.out _).mono ?_
            rintro e w6 ⟨rfl, b6⟩
            clear p0' p1 p2 p3 p4 p5 p6 p7 p8 CSm
            replace O := O.out.kept b6
            replace B := thenB B.out b6
            replace O := O.kept (belowA w6 (.cells #[.int .i64 y.a, .int .i64 y.c, .int .i64 r1, .int .i64 64, .int .i64 y.e, .int .i64 y.g, .slice none 0 0] 35))
            replace B := thenB B (belowA w6 (.cells #[.int .i64 y.a, .int .i64 y.c, .int .i64 r1, .int .i64 64, .int .i64 y.e, .int .i64 y.g, .slice none 0 0] 35))
            have TL := B.size
            replace B := Hid.mk B
            clear b6
            go_wp2_with (at_builtin; go_loud (refine wpList_putK _ rfl _ _ rfl w5.heap.size (some ⟨c, 0, none⟩) d (smL p0 ms x) (x + 1) hln.out rfl O _ 1 ⟨y.a, y.c, r1, 64, y.e, y.g, none, 0, 0⟩ rfl (newCells _ _ (rowK ⟨y.a, y.c, r1, 64, y.e, y.g, none, 0, 0⟩)) (by have := hm13.out; omega) TL ?_))
            intro c8 d8 w8 O8 hg8 hx8
            obtain ⟨c9, rfl, _, _⟩ := hx8.out
            replace B := Hid.mk (belowG (c := some ⟨c, 0, none⟩) B.out hg8 TL (fun b hb => (O.lt b hb).1))
            have hmb := hm13.out
            rw [hnx.out] at O8
            replace O8 := Hid.mk O8
            clear O hg8 hx8 TL hnx hln
            go_wp2
            go_roundw
            case rel =>
              exact ⟨x + 1, d8, c9, by omega, by go_num, rfl, O8.out, B.out⟩
            case measure =>
              simp [intOf]
              omega
          · skip
            obtain rfl : x = m := by omega
            obtain ⟨ps, hps⟩ : ∃ ps, smL p0 ms x = ps := ⟨_, rfl⟩
            have hpl : ps.length = x + 1 := by rw [← hps]; exact smL_len p0 ms x (by rw [HML.out]; exact Nat.le_refl _)
            obtain ⟨p1, hp1⟩ : ∃ p1, smK (ms.getD 0 z9) = p1 := ⟨_, rfl⟩
            have hx0 : 0 < x := by have := hmp.out; omega
            have hg1 : ps.getD 1 z7 = p1 := by rw [← hps, ← hp1]; exact smL_one p0 ms x hx0 (by rw [HML.out]; exact Nat.le_refl _)
            have hh1 := hsa.out
            rw [hp1] at hh1
            rw [hps] at O
            have RK := O.rd
            clear O hps hp1
            rcases RK with h0 | ⟨b3, o, hbo, hc⟩
            · rw [h0] at hpl; simp at hpl
            obtain rfl : b3 = c := by simp at hbo; exact hbo.1.symm
            obtain rfl : o = 0 := by simp at hbo; exact hbo.symm
            have RK : RdK wr (some ⟨b3, 0, none⟩) ps := .inr ⟨b3, 0, rfl, hc⟩
            clear hc hbo
            have RK6 := Hid.mk RK
            have RM6 := Hid.mk (RM5.out.kept B)
            have RT6 := Hid.mk (RT5.out.kept B)
            have RZ6 := Hid.mk (RZ5.out.kept B)
            have VM6 := Hid.mk (VM.out.kept B)
            have B6 := Hid.mk (thenB B5.out B)
            clear RK B RM5 RT5 RZ5 B5 hlt hx
            replace VM := VM6.out
            clear VM
            have w6eq : ∃ w6, w6 = wr := ⟨_, rfl⟩
            clear w6eq
            go_wp2
            go_loopw [10] (fun i wz => ∃ k : Nat, k ≤ x + 1 ∧ i = .int .i64 k ∧ Below wr.heap.size wr wz) (fun i _ => x + 1 - (intOf i).toNat)
            case atStart => exact ⟨0, Nat.zero_le _, rfl, Below.refl _ _⟩
            case round =>
              obtain ⟨kq, hkq, rfl, B⟩ := hrel
              by_cases hlt : kq < x + 1
              · skip
                have hmb := hm13.out
                obtain ⟨p, hp⟩ : ∃ p, ps.getD kq z7 = p := ⟨_, rfl⟩
                have E := (HA.out (by simp)).2.2 p.f p.t p.r p.l p.u p.v p.m
                have C1 := Hid.mk (CM.out p)
                have C2 := Hid.mk (CT.out p)
                have C3 := Hid.mk (CZ.out p)
                have hk1 : (kq : Int) < (x : Int) + 1 := by omega
                have RM := RM6.out.kept B
                have RT := RT6.out.kept B
                have RZ := RZ6.out.kept B
                have RK := RK6.out.kept B
                have VM := VM6.out.kept B
                generalize haP ms p.f p.t p.r p.l p.u p.v p.m = t1 at *
                generalize haP ts p.f p.t p.r p.l p.u p.v p.m = t2 at *
                generalize haP zs p.f p.t p.r p.l p.u p.v p.m = t3 at *
                obtain ⟨q0, q1, q2, q3, q4, q5, q6⟩ := RdK.at RK kq (by omega) _ hp
                simp only [Nat.zero_add] at q0 q1 q2 q3 q4 q5 q6
                obtain ⟨s_VM, f_VM, z_VM⟩ := VM.open
                have Bo := B
                go_wp2_with fail
                refine (C1.out _ RM).mono ?_
                rintro e w21 ⟨rfl, b21⟩
                clear s_VM f_VM z_VM
                have S21 := b21.size
                replace VM := VM.kept b21
                replace RM := RM.kept b21
                replace RT := RT.kept b21
                replace RZ := RZ.kept b21
                replace RK := RK.kept b21
                replace B := thenB B b21
                clear b21
                obtain ⟨s_VM, f_VM, z_VM⟩ := VM.open
                have Bo := B
                clear q0 q1 q2 q3 q4 q5 q6
                cases t1
                · skip
                  rw [Bool.false_and] at E
                  have hk0 : ((4 : Int) == 0) = false := rfl
                  rw [hk0, Bool.false_and] at E
                  clear E
                  clear s_VM f_VM z_VM
                  have K : ∀ w' : World, Below w21.heap.size w21 w' → (w'.cell? ⟨w2.heap.size, 0, none⟩ = some (.int .i64 4) ∧ w'.cell? ⟨w2.heap.size, 1, none⟩ = some (.slice c3 j d3)) := fun w' h => ⟨(VM.kept h).2.1 0 (by simp), (VM.kept h).2.1 1 (by simp)⟩
                  have K := Hid.mk K
                  go_wp2_with fail
                  refine wp_region_held_drew (S := (fun w' => w'.cell? ⟨w2.heap.size, 0, none⟩ = some (.int .i64 4) ∧ w'.cell? ⟨w2.heap.size, 1, none⟩ = some (.slice c3 j d3))) (by kernel_rfl) (K.out _ (Below.refl _ _).drew) (fun hHeld => ?_)
                  refine wpAnyH_take (i := 0) (oi := _) (v := ?vz71u1) rfl (by kernel_rfl) (by kernel_rfl) (by kernel_rfl) (fun _ _ _ h => h) (Or.inl ⟨by rfl, ?hyz71u1⟩) hHeld ?restz71u1
                  case hyz71u1 => (intro w hSw; (try dsimp only at hSw); go_simp; first | done | with_reducible rfl)
                  try simp only [Act.put, List.getElem_toArray, List.getElem_cons_zero, List.setIfInBounds_toArray, List.set_cons_zero, List.set_cons_succ]
                  refine wpAnyH_take (i := 1) (oi := _) (v := ?vz71u2) rfl (by kernel_rfl) (by kernel_rfl) (by kernel_rfl) (fun _ _ _ h => h) (Or.inl ⟨by rfl, ?hyz71u2⟩) hHeld ?restz71u2
                  case hyz71u2 => (intro w hSw; (try dsimp only at hSw); go_simp; first | done | with_reducible rfl)
                  try simp only [Act.put, List.getElem_toArray, List.getElem_cons_zero, List.getElem_cons_succ, List.setIfInBounds_toArray, List.set_cons_zero, List.set_cons_succ]
                  refine wpAnyH_take (i := 2) (oi := _) (v := ?vz71u3) rfl (by kernel_rfl) (by kernel_rfl) (by kernel_rfl) (fun _ _ _ h => h) (Or.inl ⟨by rfl, ?hyz71u3⟩) hHeld ?restz71u3
                  case hyz71u3 => (intro w hSw; (try dsimp only at hSw); go_simp; first | done | with_reducible rfl)
                  try simp only [Act.put, List.getElem_toArray, List.getElem_cons_zero, List.getElem_cons_succ, List.setIfInBounds_toArray, List.set_cons_zero, List.set_cons_succ]
                  refine wpAnyH_take (i := 3) (oi := _) (v := ?vz71u4) rfl (by kernel_rfl) (by kernel_rfl) (by kernel_rfl) (fun _ _ _ h => h) (Or.inl ⟨by rfl, ?hyz71u4⟩) hHeld ?restz71u4
                  case hyz71u4 => (intro w hSw; (try dsimp only at hSw); go_simp; first | done | with_reducible rfl)
                  try simp only [Act.put, List.getElem_toArray, List.getElem_cons_zero, List.getElem_cons_succ, List.setIfInBounds_toArray, List.set_cons_zero, List.set_cons_succ]
                  refine wpAnyH_take (i := 4) (oi := _) (v := ?vz71u5) rfl (by kernel_rfl) (by kernel_rfl) (by kernel_rfl) (fun _ _ _ h => h) (Or.inl ⟨by rfl, ?hyz71u5⟩) hHeld ?restz71u5
                  case hyz71u5 => (intro w hSw; (try dsimp only at hSw); go_simp; first | done | with_reducible rfl)
                  try simp only [Act.put, List.getElem_toArray, List.getElem_cons_zero, List.getElem_cons_succ, List.setIfInBounds_toArray, List.set_cons_zero, List.set_cons_succ]
                  refine wpAnyH_take (i := 5) (oi := _) (v := undef) rfl (by kernel_rfl) (by kernel_rfl) (by kernel_rfl) (fun _ _ _ h => h) (Or.inr ⟨by rfl, rfl⟩) hHeld ?_
                  try simp only [Act.put, List.getElem_toArray, List.getElem_cons_zero, List.getElem_cons_succ, List.setIfInBounds_toArray, List.set_cons_zero, List.set_cons_succ]
                  refine wpAnyH_take (i := 6) (oi := _) (v := undef) rfl (by kernel_rfl) (by kernel_rfl) (by kernel_rfl) (fun _ _ _ h => h) (Or.inr ⟨by rfl, rfl⟩) hHeld ?_
                  try simp only [Act.put, List.getElem_toArray, List.getElem_cons_zero, List.getElem_cons_succ, List.setIfInBounds_toArray, List.set_cons_zero, List.set_cons_succ]
                  refine wpAnyH_take (i := 7) (oi := _) (v := undef) rfl (by kernel_rfl) (by kernel_rfl) (by kernel_rfl) (fun _ _ _ h => h) (Or.inr ⟨by rfl, rfl⟩) hHeld ?_
                  try simp only [Act.put, List.getElem_toArray, List.getElem_cons_zero, List.getElem_cons_succ, List.setIfInBounds_toArray, List.set_cons_zero, List.set_cons_succ]
                  refine wpAnyH_take (i := 8) (oi := _) (v := undef) rfl (by kernel_rfl) (by kernel_rfl) (by kernel_rfl) (fun _ _ _ h => h) (Or.inr ⟨by rfl, rfl⟩) hHeld ?_
                  try simp only [Act.put, List.getElem_toArray, List.getElem_cons_zero, List.getElem_cons_succ, List.setIfInBounds_toArray, List.set_cons_zero, List.set_cons_succ]
                  refine wpAnyH_take (i := 9) (oi := _) (v := undef) rfl (by kernel_rfl) (by kernel_rfl) (by kernel_rfl) (fun _ _ _ h => h) (Or.inr ⟨by rfl, rfl⟩) hHeld ?_
                  try simp only [Act.put, List.getElem_toArray, List.getElem_cons_zero, List.getElem_cons_succ, List.setIfInBounds_toArray, List.set_cons_zero, List.set_cons_succ]
                  refine wpAnyH_take (i := 10) (oi := _) (v := undef) rfl (by kernel_rfl) (by kernel_rfl) (by kernel_rfl) (fun _ _ _ h => h) (Or.inr ⟨by rfl, rfl⟩) hHeld ?_
                  try simp only [Act.put, List.getElem_toArray, List.getElem_cons_zero, List.getElem_cons_succ, List.setIfInBounds_toArray, List.set_cons_zero, List.set_cons_succ]
                  refine wpAnyH_take (i := 11) (oi := _) (v := undef) rfl (by kernel_rfl) (by kernel_rfl) (by kernel_rfl) (fun _ _ _ h => h) (Or.inr ⟨by rfl, rfl⟩) hHeld ?_
                  try simp only [Act.put, List.getElem_toArray, List.getElem_cons_zero, List.getElem_cons_succ, List.setIfInBounds_toArray, List.set_cons_zero, List.set_cons_succ]
                  refine wpAnyH_take (i := 12) (oi := _) (v := ?vz71u6) rfl (by kernel_rfl) (by kernel_rfl) (by kernel_rfl) (fun _ _ _ h => h) (Or.inl ⟨by rfl, ?hyz71u6⟩) hHeld ?restz71u6
                  case hyz71u6 => (intro w hSw; (try dsimp only at hSw); go_simp; first | done | with_reducible rfl)
                  try simp only [Act.put, List.getElem_toArray, List.getElem_cons_zero, List.getElem_cons_succ, List.setIfInBounds_toArray, List.set_cons_zero, List.set_cons_succ]
                  refine wpAnyH_take (i := 13) (oi := _) (v := ?vz71u7) rfl (by kernel_rfl) (by kernel_rfl) (by kernel_rfl) (fun _ _ _ h => h) (Or.inl ⟨by rfl, ?hyz71u7⟩) hHeld ?restz71u7
                  case hyz71u7 => (intro w hSw; (try dsimp only at hSw); go_simp; first | done | with_reducible rfl)
                  try simp only [Act.put, List.getElem_toArray, List.getElem_cons_zero, List.getElem_cons_succ, List.setIfInBounds_toArray, List.set_cons_zero, List.set_cons_succ]
                  refine wpAnyH_done (by kernel_rfl) ?_ _
                  have bdr : Below w21.heap.size w21 (w21.drew) := (Below.refl _ _).drew
                  clear K hHeld
                  replace VM := VM.kept bdr
                  replace RM := RM.kept bdr
                  replace RT := RT.kept bdr
                  replace RZ := RZ.kept bdr
                  replace RK := RK.kept bdr
                  replace B := thenB B bdr
                  clear bdr
                  obtain ⟨s_VM, f_VM, z_VM⟩ := VM.open
                  have Bo := B
                  clear s_VM f_VM z_VM
                  replace VM := Hid.mk VM
                  replace RM := Hid.mk RM
                  replace RT := Hid.mk RT
                  replace RZ := Hid.mk RZ
                  replace RK := Hid.mk RK
                  replace B := Hid.mk Bo
                  clear Bo
                  go_wp2
                  go_roundw
                  case rel =>
                    exact ⟨kq + 1, by omega, by go_num, B.out⟩
                  case measure =>
                    simp [intOf]
                    omega
                · skip
                  rw [Bool.true_and] at E
                  obtain ⟨q0, q1, q2, q3, q4, q5, q6⟩ := RdK.at RK kq (by omega) _ hp
                  simp only [Nat.zero_add] at q0 q1 q2 q3 q4 q5 q6
                  go_wp2_with fail
                  refine (C2.out _ RT).mono ?_
                  rintro e w22 ⟨rfl, b22⟩
                  clear s_VM f_VM z_VM
                  have S22 := b22.size
                  replace VM := VM.kept b22
                  replace RM := RM.kept b22
                  replace RT := RT.kept b22
                  replace RZ := RZ.kept b22
                  replace RK := RK.kept b22
                  replace B := thenB B b22
                  clear b22
                  obtain ⟨s_VM, f_VM, z_VM⟩ := VM.open
                  have Bo := B
                  clear q0 q1 q2 q3 q4 q5 q6
                  have hk0 : ((4 : Int) == 0) = false := rfl
                  rw [hk0, Bool.false_and] at E
                  subst E
                  clear s_VM f_VM z_VM
                  have K : ∀ w' : World, Below w22.heap.size w22 w' → (w'.cell? ⟨w2.heap.size, 0, none⟩ = some (.int .i64 4) ∧ w'.cell? ⟨w2.heap.size, 1, none⟩ = some (.slice c3 j d3)) := fun w' h => ⟨(VM.kept h).2.1 0 (by simp), (VM.kept h).2.1 1 (by simp)⟩
                  have K := Hid.mk K
                  go_wp2_with fail
                  refine wp_region_held_drew (S := (fun w' => w'.cell? ⟨w2.heap.size, 0, none⟩ = some (.int .i64 4) ∧ w'.cell? ⟨w2.heap.size, 1, none⟩ = some (.slice c3 j d3))) (by kernel_rfl) (K.out _ (Below.refl _ _).drew) (fun hHeld => ?_)
                  refine wpAnyH_take (i := 0) (oi := _) (v := ?vz81u1) rfl (by kernel_rfl) (by kernel_rfl) (by kernel_rfl) (fun _ _ _ h => h) (Or.inl ⟨by rfl, ?hyz81u1⟩) hHeld ?restz81u1
                  case hyz81u1 => (intro w hSw; (try dsimp only at hSw); go_simp; first | done | with_reducible rfl)
                  try simp only [Act.put, List.getElem_toArray, List.getElem_cons_zero, List.setIfInBounds_toArray, List.set_cons_zero, List.set_cons_succ]
                  refine wpAnyH_take (i := 1) (oi := _) (v := ?vz81u2) rfl (by kernel_rfl) (by kernel_rfl) (by kernel_rfl) (fun _ _ _ h => h) (Or.inl ⟨by rfl, ?hyz81u2⟩) hHeld ?restz81u2
                  case hyz81u2 => (intro w hSw; (try dsimp only at hSw); go_simp; first | done | with_reducible rfl)
                  try simp only [Act.put, List.getElem_toArray, List.getElem_cons_zero, List.getElem_cons_succ, List.setIfInBounds_toArray, List.set_cons_zero, List.set_cons_succ]
                  refine wpAnyH_take (i := 2) (oi := _) (v := ?vz81u3) rfl (by kernel_rfl) (by kernel_rfl) (by kernel_rfl) (fun _ _ _ h => h) (Or.inl ⟨by rfl, ?hyz81u3⟩) hHeld ?restz81u3
                  case hyz81u3 => (intro w hSw; (try dsimp only at hSw); go_simp; first | done | with_reducible rfl)
                  try simp only [Act.put, List.getElem_toArray, List.getElem_cons_zero, List.getElem_cons_succ, List.setIfInBounds_toArray, List.set_cons_zero, List.set_cons_succ]
                  refine wpAnyH_take (i := 3) (oi := _) (v := ?vz81u4) rfl (by kernel_rfl) (by kernel_rfl) (by kernel_rfl) (fun _ _ _ h => h) (Or.inl ⟨by rfl, ?hyz81u4⟩) hHeld ?restz81u4
                  case hyz81u4 => (intro w hSw; (try dsimp only at hSw); go_simp; first | done | with_reducible rfl)
                  try simp only [Act.put, List.getElem_toArray, List.getElem_cons_zero, List.getElem_cons_succ, List.setIfInBounds_toArray, List.set_cons_zero, List.set_cons_succ]
                  refine wpAnyH_take (i := 4) (oi := _) (v := ?vz81u5) rfl (by kernel_rfl) (by kernel_rfl) (by kernel_rfl) (fun _ _ _ h => h) (Or.inl ⟨by rfl, ?hyz81u5⟩) hHeld ?restz81u5
                  case hyz81u5 => (intro w hSw; (try dsimp only at hSw); go_simp; first | done | with_reducible rfl)
                  try simp only [Act.put, List.getElem_toArray, List.getElem_cons_zero, List.getElem_cons_succ, List.setIfInBounds_toArray, List.set_cons_zero, List.set_cons_succ]
                  refine wpAnyH_take (i := 5) (oi := _) (v := undef) rfl (by kernel_rfl) (by kernel_rfl) (by kernel_rfl) (fun _ _ _ h => h) (Or.inr ⟨by rfl, rfl⟩) hHeld ?_
                  try simp only [Act.put, List.getElem_toArray, List.getElem_cons_zero, List.getElem_cons_succ, List.setIfInBounds_toArray, List.set_cons_zero, List.set_cons_succ]
                  refine wpAnyH_take (i := 6) (oi := _) (v := undef) rfl (by kernel_rfl) (by kernel_rfl) (by kernel_rfl) (fun _ _ _ h => h) (Or.inr ⟨by rfl, rfl⟩) hHeld ?_
                  try simp only [Act.put, List.getElem_toArray, List.getElem_cons_zero, List.getElem_cons_succ, List.setIfInBounds_toArray, List.set_cons_zero, List.set_cons_succ]
                  refine wpAnyH_take (i := 7) (oi := _) (v := undef) rfl (by kernel_rfl) (by kernel_rfl) (by kernel_rfl) (fun _ _ _ h => h) (Or.inr ⟨by rfl, rfl⟩) hHeld ?_
                  try simp only [Act.put, List.getElem_toArray, List.getElem_cons_zero, List.getElem_cons_succ, List.setIfInBounds_toArray, List.set_cons_zero, List.set_cons_succ]
                  refine wpAnyH_take (i := 8) (oi := _) (v := undef) rfl (by kernel_rfl) (by kernel_rfl) (by kernel_rfl) (fun _ _ _ h => h) (Or.inr ⟨by rfl, rfl⟩) hHeld ?_
                  try simp only [Act.put, List.getElem_toArray, List.getElem_cons_zero, List.getElem_cons_succ, List.setIfInBounds_toArray, List.set_cons_zero, List.set_cons_succ]
                  refine wpAnyH_take (i := 9) (oi := _) (v := undef) rfl (by kernel_rfl) (by kernel_rfl) (by kernel_rfl) (fun _ _ _ h => h) (Or.inr ⟨by rfl, rfl⟩) hHeld ?_
                  try simp only [Act.put, List.getElem_toArray, List.getElem_cons_zero, List.getElem_cons_succ, List.setIfInBounds_toArray, List.set_cons_zero, List.set_cons_succ]
                  refine wpAnyH_take (i := 10) (oi := _) (v := undef) rfl (by kernel_rfl) (by kernel_rfl) (by kernel_rfl) (fun _ _ _ h => h) (Or.inr ⟨by rfl, rfl⟩) hHeld ?_
                  try simp only [Act.put, List.getElem_toArray, List.getElem_cons_zero, List.getElem_cons_succ, List.setIfInBounds_toArray, List.set_cons_zero, List.set_cons_succ]
                  refine wpAnyH_take (i := 11) (oi := _) (v := undef) rfl (by kernel_rfl) (by kernel_rfl) (by kernel_rfl) (fun _ _ _ h => h) (Or.inr ⟨by rfl, rfl⟩) hHeld ?_
                  try simp only [Act.put, List.getElem_toArray, List.getElem_cons_zero, List.getElem_cons_succ, List.setIfInBounds_toArray, List.set_cons_zero, List.set_cons_succ]
                  refine wpAnyH_take (i := 12) (oi := _) (v := ?vz81u6) rfl (by kernel_rfl) (by kernel_rfl) (by kernel_rfl) (fun _ _ _ h => h) (Or.inl ⟨by rfl, ?hyz81u6⟩) hHeld ?restz81u6
                  case hyz81u6 => (intro w hSw; (try dsimp only at hSw); go_simp; first | done | with_reducible rfl)
                  try simp only [Act.put, List.getElem_toArray, List.getElem_cons_zero, List.getElem_cons_succ, List.setIfInBounds_toArray, List.set_cons_zero, List.set_cons_succ]
                  refine wpAnyH_take (i := 13) (oi := _) (v := ?vz81u7) rfl (by kernel_rfl) (by kernel_rfl) (by kernel_rfl) (fun _ _ _ h => h) (Or.inl ⟨by rfl, ?hyz81u7⟩) hHeld ?restz81u7
                  case hyz81u7 => (intro w hSw; (try dsimp only at hSw); go_simp; first | done | with_reducible rfl)
                  try simp only [Act.put, List.getElem_toArray, List.getElem_cons_zero, List.getElem_cons_succ, List.setIfInBounds_toArray, List.set_cons_zero, List.set_cons_succ]
                  refine wpAnyH_done (by kernel_rfl) ?_ _
                  have bdr : Below w22.heap.size w22 (w22.drew) := (Below.refl _ _).drew
                  clear K hHeld
                  replace VM := VM.kept bdr
                  replace RM := RM.kept bdr
                  replace RT := RT.kept bdr
                  replace RZ := RZ.kept bdr
                  replace RK := RK.kept bdr
                  replace B := thenB B bdr
                  clear bdr
                  obtain ⟨s_VM, f_VM, z_VM⟩ := VM.open
                  have Bo := B
                  clear s_VM f_VM z_VM
                  replace VM := Hid.mk VM
                  replace RM := Hid.mk RM
                  replace RT := Hid.mk RT
                  replace RZ := Hid.mk RZ
                  replace RK := Hid.mk RK
                  replace B := Hid.mk Bo
                  clear Bo
                  go_wp2
                  go_roundw
                  case rel =>
                    exact ⟨kq + 1, by omega, by go_num, B.out⟩
                  case measure =>
                    simp [intOf]
                    omega
              · skip
                obtain rfl : kq = x + 1 := by omega
                have C1 := Hid.mk (CM.out p1)
                rw [hh1] at C1
                have hkk : ((4 : Int) == 4) = true := rfl
                have RM := RM6.out.kept B
                have RT := RT6.out.kept B
                have RK := RK6.out.kept B
                have VM := VM6.out.kept B
                obtain ⟨q0, q1, q2, q3, q4, q5, q6⟩ := RdK.at RK 1 (by omega) _ hg1
                simp only [Nat.zero_add, Nat.reduceMul, Nat.reduceAdd] at q0 q1 q2 q3 q4 q5 q6
                have hb3 := World.block_lt_of_cell? (a := ⟨b3, 7, none⟩) _ q0
                simp only at hb3
                have hx1 : (1 : Int) < (x : Int) + 1 := by omega
                have hzz : ¬ ((x + 1 : Nat) : Int) < (x : Int) + 1 := by omega
                obtain ⟨s_VM, f_VM, z_VM⟩ := VM.open
                have Bo := B
                clear s_VM f_VM z_VM
                have K : ∀ w' : World, Below wr.heap.size wr w' → (w'.cell? ⟨w2.heap.size, 0, none⟩ = some (.int .i64 4) ∧ w'.cell? ⟨w2.heap.size, 1, none⟩ = some (.slice c3 j d3) ∧ w'.cell? ⟨b3, 7, none⟩ = some (.int .i64 p1.f) ∧ w'.cell? ⟨b3, 8, none⟩ = some (.int .i64 p1.t) ∧ w'.cell? ⟨b3, 9, none⟩ = some (.int .i64 p1.r) ∧ w'.cell? ⟨b3, 10, none⟩ = some (.int .i64 p1.l) ∧ w'.cell? ⟨b3, 11, none⟩ = some (.int .i64 p1.u) ∧ w'.cell? ⟨b3, 12, none⟩ = some (.int .i64 p1.v) ∧ w'.cell? ⟨b3, 13, none⟩ = some (.slice p1.s p1.m p1.d)) := fun w' h => ⟨(VM.kept h).2.1 0 (by simp), (VM.kept h).2.1 1 (by simp), ((bcell h).1 _ _ hb3).trans q0, ((bcell h).1 _ _ hb3).trans q1, ((bcell h).1 _ _ hb3).trans q2, ((bcell h).1 _ _ hb3).trans q3, ((bcell h).1 _ _ hb3).trans q4, ((bcell h).1 _ _ hb3).trans q5, ((bcell h).1 _ _ hb3).trans q6⟩
                have K := Hid.mk K
                clear q0 q1 q2 q3 q4 q5 q6
                go_wp2_with fail
                refine wp_region_held_drew (S := (fun w' => w'.cell? ⟨w2.heap.size, 0, none⟩ = some (.int .i64 4) ∧ w'.cell? ⟨w2.heap.size, 1, none⟩ = some (.slice c3 j d3) ∧ w'.cell? ⟨b3, 7, none⟩ = some (.int .i64 p1.f) ∧ w'.cell? ⟨b3, 8, none⟩ = some (.int .i64 p1.t) ∧ w'.cell? ⟨b3, 9, none⟩ = some (.int .i64 p1.r) ∧ w'.cell? ⟨b3, 10, none⟩ = some (.int .i64 p1.l) ∧ w'.cell? ⟨b3, 11, none⟩ = some (.int .i64 p1.u) ∧ w'.cell? ⟨b3, 12, none⟩ = some (.int .i64 p1.v) ∧ w'.cell? ⟨b3, 13, none⟩ = some (.slice p1.s p1.m p1.d))) (by kernel_rfl) (K.out _ (Below.refl _ _).drew) (fun hHeld => ?_)
                refine wpAnyH_take (i := 0) (oi := _) (v := ?vz96u1) rfl (by kernel_rfl) (by kernel_rfl) (by kernel_rfl) (fun _ _ _ h => h) (Or.inl ⟨by rfl, ?hyz96u1⟩) hHeld ?restz96u1
                case hyz96u1 => (intro w hSw; (try dsimp only at hSw); go_simp; first | done | with_reducible rfl)
                try simp only [Act.put, List.getElem_toArray, List.getElem_cons_zero, List.setIfInBounds_toArray, List.set_cons_zero, List.set_cons_succ]
                refine wpAnyH_take (i := 1) (oi := _) (v := ?vz96u2) rfl (by kernel_rfl) (by kernel_rfl) (by kernel_rfl) (fun _ _ _ h => h) (Or.inl ⟨by rfl, ?hyz96u2⟩) hHeld ?restz96u2
                case hyz96u2 => (intro w hSw; (try dsimp only at hSw); go_simp; first | done | with_reducible rfl)
                try simp only [Act.put, List.getElem_toArray, List.getElem_cons_zero, List.getElem_cons_succ, List.setIfInBounds_toArray, List.set_cons_zero, List.set_cons_succ]
                refine wpAnyH_take (i := 2) (oi := _) (v := ?vz96u3) rfl (by kernel_rfl) (by kernel_rfl) (by kernel_rfl) (fun _ _ _ h => h) (Or.inl ⟨by rfl, ?hyz96u3⟩) hHeld ?restz96u3
                case hyz96u3 => (intro w hSw; (try dsimp only at hSw); go_simp; first | done | with_reducible rfl)
                try simp only [Act.put, List.getElem_toArray, List.getElem_cons_zero, List.getElem_cons_succ, List.setIfInBounds_toArray, List.set_cons_zero, List.set_cons_succ]
                refine wpAnyH_take (i := 3) (oi := _) (v := ?vz96u4) rfl (by kernel_rfl) (by kernel_rfl) (by kernel_rfl) (fun _ _ _ h => h) (Or.inl ⟨by rfl, ?hyz96u4⟩) hHeld ?restz96u4
                case hyz96u4 => (intro w hSw; (try dsimp only at hSw); go_simp; first | done | with_reducible rfl)
                try simp only [Act.put, List.getElem_toArray, List.getElem_cons_zero, List.getElem_cons_succ, List.setIfInBounds_toArray, List.set_cons_zero, List.set_cons_succ]
                refine wpAnyH_ready (rs := [4]) (by kernel_rfl) (by simp) ?_
                refine AllReadyH.cons (o := _) rfl (fun K0 hK0 => ?_) AllReadyH.nil
                go_simp
                go_at_call 27
                refine (C1.out _ (RM.kept (Below.refl _ _).drew)).mono ?_
                rintro e wz96v5 ⟨rfl, bz96v5⟩
                refine hK0.out _ _ (K.out _ (thenB (Below.refl _ _).drew bz96v5)) (fun hHeld => ?_)
                clear hK0 K0
                try simp only [Act.put, List.getElem_toArray, List.getElem_cons_zero, List.getElem_cons_succ, List.setIfInBounds_toArray, List.set_cons_zero, List.set_cons_succ]
                refine wpAnyH_take (i := 5) (oi := _) (v := ?vz96u6) rfl (by kernel_rfl) (by kernel_rfl) (by kernel_rfl) (fun _ _ _ h => h) (Or.inl ⟨by rfl, ?hyz96u6⟩) hHeld ?restz96u6
                case hyz96u6 => (intro w hSw; (try dsimp only at hSw); go_simp; first | done | with_reducible rfl)
                try simp only [Act.put, List.getElem_toArray, List.getElem_cons_zero, List.getElem_cons_succ, List.setIfInBounds_toArray, List.set_cons_zero, List.set_cons_succ]
                refine wpAnyH_take (i := 6) (oi := _) (v := ?vz96u7) rfl (by kernel_rfl) (by kernel_rfl) (by kernel_rfl) (fun _ _ _ h => h) (Or.inl ⟨by rfl, ?hyz96u7⟩) hHeld ?restz96u7
                case hyz96u7 => (intro w hSw; (try dsimp only at hSw); go_simp; first | done | with_reducible rfl)
                try simp only [Act.put, List.getElem_toArray, List.getElem_cons_zero, List.getElem_cons_succ, List.setIfInBounds_toArray, List.set_cons_zero, List.set_cons_succ]
                refine wpAnyH_take (i := 7) (oi := _) (v := ?vz96u8) rfl (by kernel_rfl) (by kernel_rfl) (by kernel_rfl) (fun _ _ _ h => h) (Or.inl ⟨by rfl, ?hyz96u8⟩) hHeld ?restz96u8
                case hyz96u8 => (intro w hSw; (try dsimp only at hSw); go_simp; first | done | with_reducible rfl)
                try simp only [Act.put, List.getElem_toArray, List.getElem_cons_zero, List.getElem_cons_succ, List.setIfInBounds_toArray, List.set_cons_zero, List.set_cons_succ]
                refine wpAnyH_take (i := 8) (oi := _) (v := ?vz96u9) rfl (by kernel_rfl) (by kernel_rfl) (by kernel_rfl) (fun _ _ _ h => h) (Or.inl ⟨by rfl, ?hyz96u9⟩) hHeld ?restz96u9
                case hyz96u9 => (intro w hSw; (try dsimp only at hSw); go_simp; first | done | with_reducible rfl)
                try simp only [Act.put, List.getElem_toArray, List.getElem_cons_zero, List.getElem_cons_succ, List.setIfInBounds_toArray, List.set_cons_zero, List.set_cons_succ]
                refine wpAnyH_take (i := 9) (oi := _) (v := ?vz96u10) rfl (by kernel_rfl) (by kernel_rfl) (by kernel_rfl) (fun _ _ _ h => h) (Or.inl ⟨by rfl, ?hyz96u10⟩) hHeld ?restz96u10
                case hyz96u10 => (intro w hSw; (try dsimp only at hSw); go_simp; first | done | with_reducible rfl)
                try simp only [Act.put, List.getElem_toArray, List.getElem_cons_zero, List.getElem_cons_succ, List.setIfInBounds_toArray, List.set_cons_zero, List.set_cons_succ]
                refine wpAnyH_ready (rs := [10]) (by kernel_rfl) (by simp) ?_
                refine AllReadyH.cons (o := _) rfl (fun K0 hK0 => ?_) AllReadyH.nil
                go_simp
                go_at_call 25
                refine (CS.out _ (RM.kept (thenB (Below.refl _ _).drew bz96v5)) (RT.kept (thenB (Below.refl _ _).drew bz96v5))).mono ?_
                rintro e wz96v11 ⟨cs, ds, ks, rfl, hks, os, bz96v11⟩
                refine hK0.out _ _ (K.out _ (thenB (thenB (Below.refl _ _).drew bz96v5) bz96v11)) (fun hHeld => ?_)
                clear hK0 K0
                try simp only [Act.put, List.getElem_toArray, List.getElem_cons_zero, List.getElem_cons_succ, List.setIfInBounds_toArray, List.set_cons_zero, List.set_cons_succ]
                refine wpAnyH_take (i := 11) (oi := _) (v := ?vz96u12) rfl (by kernel_rfl) (by kernel_rfl) (by kernel_rfl) (fun _ _ _ h => h) (Or.inl ⟨by rfl, ?hyz96u12⟩) hHeld ?restz96u12
                case hyz96u12 => (intro w hSw; (try dsimp only at hSw); go_simp; first | done | with_reducible rfl)
                try simp only [Act.put, List.getElem_toArray, List.getElem_cons_zero, List.getElem_cons_succ, List.setIfInBounds_toArray, List.set_cons_zero, List.set_cons_succ]
                refine wpAnyH_take (i := 12) (oi := _) (v := ?vz96u13) rfl (by kernel_rfl) (by kernel_rfl) (by kernel_rfl) (fun _ _ _ h => h) (Or.inl ⟨by rfl, ?hyz96u13⟩) hHeld ?restz96u13
                case hyz96u13 => (intro w hSw; (try dsimp only at hSw); go_simp; first | done | with_reducible rfl)
                try simp only [Act.put, List.getElem_toArray, List.getElem_cons_zero, List.getElem_cons_succ, List.setIfInBounds_toArray, List.set_cons_zero, List.set_cons_succ]
                refine wpAnyH_take (i := 13) (oi := _) (v := ?vz96u14) rfl (by kernel_rfl) (by kernel_rfl) (by kernel_rfl) (fun _ _ _ h => h) (Or.inl ⟨by rfl, ?hyz96u14⟩) hHeld ?restz96u14
                case hyz96u14 => (intro w hSw; (try dsimp only at hSw); go_simp; first | done | with_reducible rfl)
                try simp only [Act.put, List.getElem_toArray, List.getElem_cons_zero, List.getElem_cons_succ, List.setIfInBounds_toArray, List.set_cons_zero, List.set_cons_succ]
                refine wpAnyH_take (i := 14) (oi := _) (v := ?vz96u15) rfl (by kernel_rfl) (by kernel_rfl) (by kernel_rfl) (fun _ _ _ h => h) (Or.inl ⟨by rfl, ?hyz96u15⟩) hHeld ?restz96u15
                case hyz96u15 => (intro w hSw; (try dsimp only at hSw); go_simp; first | done | with_reducible rfl)
                try simp only [Act.put, List.getElem_toArray, List.getElem_cons_zero, List.getElem_cons_succ, List.setIfInBounds_toArray, List.set_cons_zero, List.set_cons_succ]
                refine wpAnyH_done (by kernel_rfl) ?_ _
                clear K hHeld
                replace VM := VM.kept (thenB (thenB (Below.refl _ _).drew bz96v5) bz96v11)
                replace RM := RM.kept (thenB (thenB (Below.refl _ _).drew bz96v5) bz96v11)
                replace RT := RT.kept (thenB (thenB (Below.refl _ _).drew bz96v5) bz96v11)
                replace RK := RK.kept (thenB (thenB (Below.refl _ _).drew bz96v5) bz96v11)
                replace B := thenB B (thenB (thenB (Below.refl _ _).drew bz96v5) bz96v11)
                have Sz96 := ((thenB (thenB (Below.refl _ _).drew bz96v5) bz96v11)).size
                clear bz96v5 bz96v11
                obtain ⟨s_VM, f_VM, z_VM⟩ := VM.open
                have Bo := B
                go_wp2
                go_ret
                exact ⟨rfl, thenB B6.out Bo⟩
    · have hk1 : (kk != 0) = true := by simp; omega
      have hk2 : (kk != 4) = true := by simp; omega
      have hkk : (kk == kk) = true := by simp
      have VM : V (w2.alloc (.cells #[.int .i64 kk, .slice c3 j d3] 50)) w2.heap.size [.int .i64 kk, .slice c3 j d3] := V.newAt _ _ _ _ rfl
      have B := belowA w2 (.cells #[.int .i64 kk, .slice c3 j d3] 50)
      have RM := RM0.out.kept B
      have RT := RT0.out.kept B
      replace B := thenB B0.out B
      obtain ⟨s_VM, f_VM, z_VM⟩ := VM.open
      have Bo := B
      clear s_VM f_VM z_VM
      have K : ∀ w' : World, Below (w2.alloc (.cells #[.int .i64 kk, .slice c3 j d3] 50)).heap.size (w2.alloc (.cells #[.int .i64 kk, .slice c3 j d3] 50)) w' → (w'.cell? ⟨w2.heap.size, 0, none⟩ = some (.int .i64 kk) ∧ w'.cell? ⟨w2.heap.size, 1, none⟩ = some (.slice c3 j d3)) := fun w' h => ⟨(VM.kept h).2.1 0 (by simp), (VM.kept h).2.1 1 (by simp)⟩
      have K := Hid.mk K
      go_wp2_with fail
      refine wp_region_held_drew (S := (fun w' => w'.cell? ⟨w2.heap.size, 0, none⟩ = some (.int .i64 kk) ∧ w'.cell? ⟨w2.heap.size, 1, none⟩ = some (.slice c3 j d3))) (by kernel_rfl) (K.out _ (Below.refl _ _).drew) (fun hHeld => ?_)
      refine wpAnyH_take (i := 0) (oi := _) (v := ?vz6u1) rfl (by kernel_rfl) (by kernel_rfl) (by kernel_rfl) (fun _ _ _ h => h) (Or.inl ⟨by rfl, ?hyz6u1⟩) hHeld ?restz6u1
      case hyz6u1 => (intro w hSw; (try dsimp only at hSw); go_simp; first | done | with_reducible rfl)
      try simp only [Act.put, List.getElem_toArray, List.getElem_cons_zero, List.setIfInBounds_toArray, List.set_cons_zero, List.set_cons_succ]
      refine wpAnyH_take (i := 1) (oi := _) (v := ?vz6u2) rfl (by kernel_rfl) (by kernel_rfl) (by kernel_rfl) (fun _ _ _ h => h) (Or.inl ⟨by rfl, ?hyz6u2⟩) hHeld ?restz6u2
      case hyz6u2 => (intro w hSw; (try dsimp only at hSw); go_simp; first | done | with_reducible rfl)
      try simp only [Act.put, List.getElem_toArray, List.getElem_cons_zero, List.getElem_cons_succ, List.setIfInBounds_toArray, List.set_cons_zero, List.set_cons_succ]
      refine wpAnyH_take (i := 4) (oi := _) (v := ?vz6u3) rfl (by kernel_rfl) (by kernel_rfl) (by kernel_rfl) (fun _ _ _ h => h) (Or.inl ⟨by rfl, ?hyz6u3⟩) hHeld ?restz6u3
      case hyz6u3 => (intro w hSw; (try dsimp only at hSw); go_simp; first | done | with_reducible rfl)
      try simp only [Act.put, List.getElem_toArray, List.getElem_cons_zero, List.getElem_cons_succ, List.setIfInBounds_toArray, List.set_cons_zero, List.set_cons_succ]
      refine wpAnyH_take (i := 5) (oi := _) (v := ?vz6u4) rfl (by kernel_rfl) (by kernel_rfl) (by kernel_rfl) (fun _ _ _ h => h) (Or.inl ⟨by rfl, ?hyz6u4⟩) hHeld ?restz6u4
      case hyz6u4 => (intro w hSw; (try dsimp only at hSw); go_simp; first | done | with_reducible rfl)
      try simp only [Act.put, List.getElem_toArray, List.getElem_cons_zero, List.getElem_cons_succ, List.setIfInBounds_toArray, List.set_cons_zero, List.set_cons_succ]
      refine wpAnyH_ready (rs := [2]) (by kernel_rfl) (by simp) ?_
      refine AllReadyH.cons (o := _) rfl (fun K0 hK0 => ?_) AllReadyH.nil
      go_simp
      go_at_call 25
      refine (CS.out _ (RM.kept (Below.refl _ _).drew) (RT.kept (Below.refl _ _).drew)).mono ?_
      rintro e wz6v5 ⟨cs, ds, ks, rfl, hks, os, bz6v5⟩
      refine hK0.out _ _ (K.out _ (thenB (Below.refl _ _).drew bz6v5)) (fun hHeld => ?_)
      clear hK0 K0
      try simp only [Act.put, List.getElem_toArray, List.getElem_cons_zero, List.getElem_cons_succ, List.setIfInBounds_toArray, List.set_cons_zero, List.set_cons_succ]
      refine wpAnyH_take (i := 3) (oi := _) (v := ?vz6u6) rfl (by kernel_rfl) (by kernel_rfl) (by kernel_rfl) (fun _ _ _ h => h) (Or.inl ⟨by rfl, ?hyz6u6⟩) hHeld ?restz6u6
      case hyz6u6 => (intro w hSw; (try dsimp only at hSw); go_simp; first | done | with_reducible rfl)
      try simp only [Act.put, List.getElem_toArray, List.getElem_cons_zero, List.getElem_cons_succ, List.setIfInBounds_toArray, List.set_cons_zero, List.set_cons_succ]
      refine wpAnyH_take (i := 6) (oi := _) (v := ?vz6u7) rfl (by kernel_rfl) (by kernel_rfl) (by kernel_rfl) (fun _ _ _ h => h) (Or.inl ⟨by rfl, ?hyz6u7⟩) hHeld ?restz6u7
      case hyz6u7 => (intro w hSw; (try dsimp only at hSw); go_simp; first | done | with_reducible rfl)
      try simp only [Act.put, List.getElem_toArray, List.getElem_cons_zero, List.getElem_cons_succ, List.setIfInBounds_toArray, List.set_cons_zero, List.set_cons_succ]
      refine wpAnyH_take (i := 7) (oi := _) (v := ?vz6u8) rfl (by kernel_rfl) (by kernel_rfl) (by kernel_rfl) (fun _ _ _ h => h) (Or.inl ⟨by rfl, ?hyz6u8⟩) hHeld ?restz6u8
      case hyz6u8 => (intro w hSw; (try dsimp only at hSw); go_simp; first | done | with_reducible rfl)
      try simp only [Act.put, List.getElem_toArray, List.getElem_cons_zero, List.getElem_cons_succ, List.setIfInBounds_toArray, List.set_cons_zero, List.set_cons_succ]
      refine wpAnyH_done (by kernel_rfl) ?_ _
      clear K hHeld
      replace VM := VM.kept (thenB (Below.refl _ _).drew bz6v5)
      replace RM := RM.kept (thenB (Below.refl _ _).drew bz6v5)
      replace RT := RT.kept (thenB (Below.refl _ _).drew bz6v5)
      replace B := thenB B (thenB (Below.refl _ _).drew bz6v5)
      have Sz6 := ((thenB (Below.refl _ _).drew bz6v5)).size
      simp only [World.size_alloc] at Sz6
      clear bz6v5
      obtain ⟨s_VM, f_VM, z_VM⟩ := VM.open
      have Bo := B
      go_wp2
      go_ret
      exact ⟨rfl, Bo⟩
  · go_enter Try.func5, Try.ntmps5
    go_wp2_with (first | (go_at_call 9; go_in) | fail)
    go_ret
    exact ⟨rfl, Below.refl _ _⟩

end Go.Proofs.Ytmbkbbephmblmaa
