/- The law FnSuites: its walk. -/
import Derived.Test.YthaaompkcomfcaaPsR
import Derived.Test.YthaaompkcomfcaaPsK
import Derived.Test.YthaaompkcomfcaaPsL
import Derived.Test.YthaaompkcomfcaaPsO
namespace Go.Proofs.Ythaaompkcomfcaa
open Go.RowKit

theorem su_bytes {xs : List Su} (h : ∀ x ∈ xs, okSu x = true) : Bytes (enSu xs) := by
  induction xs with
  | nil => intro z hz; simp [enSu] at hz
  | cons x r ih =>
    have hx := (okSu_iff x).1 (h x (by simp))
    intro z hz
    simp only [enSu, List.cons_append, List.nil_append, List.mem_cons] at hz
    rcases hz with rfl | rfl | rfl | rfl | hz
    · omega
    · omega
    · omega
    · omega
    · exact ih (fun y hy => h y (by simp [hy])) z hz

theorem cs_both {xs ys : List Su} (h : csC xs ys = 0) : ssF xs = 0 ∧ ssF ys = 0 := by
  rcases cs_ways xs ys with ⟨h1, h2, _⟩ | ⟨_, h1, h2, _⟩ | ⟨_, _, _, h2, _⟩ | ⟨h3, h4, _⟩
  · rw [h2] at h; exact absurd h h1
  · rw [h2] at h; exact absurd h h1
  · rw [h2] at h; cases h
  · exact ⟨h3, h4⟩

theorem cs_back {xs ys : List Su} (h : csC xs ys = 0) : (csL ys xs).length = (csL xs ys).length := by
  obtain ⟨h1, h2⟩ := cs_both h
  have e1 : csL xs ys = cmL xs ys := by simp [csL, h1, h2]
  have e2 : csL ys xs = cmL ys xs := by simp [csL, h1, h2]
  rw [e1, e2]
  exact (cm_count (ssF_ok h1).2.2.1 (ssF_ok h2).2.2.1).symm

/-- The strongest is weaker than none. -/
theorem st_none {xs : List Su} (h : ssF xs = 0) (i : Nat) (hi : i < xs.length) : wkB (stS xs) (xs.getD i zSuite) = false := by
  have e : stS xs = xs.getD (bst xs xs.length) zSuite := by unfold stS; rw [if_pos h]
  rw [e]
  exact wk_no_stronger (bst_best xs xs.length i hi)

theorem field_sr (a b c d e f : Value) (w : World) : (Instr.field 30 (.agg #[a, b, c, d, e, f]) 0).run Try.prog w = .ok a w := by kernel_rfl

theorem ownU8_max {w : World} {base : Nat} {a : Option Addr} {cap : Nat} {zs : List Int} (h : Own .u8 5 w base a cap zs) : cap ≤ maxLen := by
  rcases h.2 with ⟨hv, _⟩ | ⟨g, cap', cur, hv, _, _, _, hm, _⟩
  · simp only [Value.slice.injEq] at hv
    obtain ⟨_, _, rfl⟩ := hv
    unfold maxLen; omega
  · simp only [Value.slice.injEq] at hv
    obtain ⟨_, _, rfl⟩ := hv
    exact hm

set_option maxRecDepth 20000 in
set_option maxHeartbeats 16000000 in
theorem xSu_walk (a : Option Addr) (n ca : Nat) (cs : List Int) (w : World) (hR : Rd .u8 w a cs) (hB : Bytes cs) (hn : cs.length = n) :
    Calls Try.prog 3 #[.slice a n ca] w fun e w' => e = .returned (.bool true) ∧ Below w.heap.size w w' := by
  by_cases hbig : (n : Int) ≤ 1048576
  · go_enter Try.func3, Try.ntmps3
    go_wp2_with (first | (go_at_call 12; go_in) | fail)
    refine (drawChooseSuite_ok a n ca cs _ hR hB hn (by omega)).mono ?_
    rintro e w1 ⟨c1, d1, k1, xs, c2, d2, k2, ys, rfl, hk1, hk2, p1, p2, p3, p4, hm1, R1, R2, B⟩
    clear hR hB
    have CR := fun w h h' => implChoose_ok c1 c2 k1 d1 k2 d2 xs ys w h h' hk1 hk2 p1 p2 p3 p4
    have CA := fun w h h' => implCommon_ok c1 c2 k1 d1 k2 d2 xs ys w h h' hk1 hk2 p1 p2 p3 p4
    by_cases h0 : csC xs ys = 0
    · obtain ⟨hx0, hy0⟩ := cs_both h0
      obtain ⟨eA, eS⟩ := ch_some h0
      obtain ⟨e3, hne⟩ := cs_zero h0
      obtain ⟨r, e4, e5, hlt⟩ := cm_cons hne
      have hbk := cs_back h0
      have hA0 : ssF (csL xs ys) = 0 := by rw [e3]; exact cm_ok hx0 hne
      have hA1 : (csL xs ys).getD 0 zSuite = xs.getD (fstC ys xs) zSuite := by rw [e3, e4]; rfl
      have hwk := fun i hi => st_none hA0 i hi
      have hAl := (ssF_ok hA0).1
      have hAm := (ssF_ok hA0).2.1
      have hxo := (ssF_ok hx0).2.2.2
      have hxl := (ssF_ok hx0).1
      have hby := su_bytes hxo
      have hde := ds_en hx0
      have hek := enK_yes hx0
      have CB := fun w h h' => implCommon_ok c2 c1 k2 d2 k1 d1 ys xs w h h' hk2 hk1 p3 p4 p1 p2
      have CE := fun w h => implEncode_ok c1 k1 d1 xs w h hk1 p1 p2
      have CS := fun c d w h hc hx => implStrongest_ok c (csL xs ys).length d (csL xs ys) w h rfl hc hx
      have CD := fun c d w h hc hx => implDecode_ok c (enSu xs).length d (enSu xs) w h hby rfl hc hx
      rw [h0, eA, eS] at CR
      rw [h0] at CA
      rw [hbk] at CB
      rw [hA0] at CS
      rw [hx0, hek] at CE
      rw [hde.1, hde.2, hk1] at CD
      rw [hk1] at hxl
      obtain ⟨z, hz⟩ : ∃ z, xs.getD (fstC ys xs) zSuite = z := ⟨_, rfl⟩
      obtain ⟨f, hf⟩ : ∃ f, fstC ys xs = f := ⟨_, rfl⟩
      rw [hz] at CR hA1
      rw [hf] at CR hz hlt
      rw [hk1] at hlt
      obtain ⟨kA, hkA⟩ : ∃ m, (csL xs ys).length = m := ⟨_, rfl⟩
      obtain ⟨kE, hkE⟩ : ∃ m, (enSu xs).length = m := ⟨_, rfl⟩
      rw [hkA] at CA CB CS hAl hAm hwk
      rw [hkE] at CE CD
      obtain ⟨y, hy⟩ : ∃ y, xs.getD 0 zSuite = y := ⟨_, rfl⟩
      have HLA := Hid.mk hkA
      have HLE := Hid.mk hkE
      have HZ := Hid.mk hz
      have HY := Hid.mk hy
      have HA1 := Hid.mk hA1
      have HBL := Hid.mk (hbk.trans hkA)
      have HK1 := Hid.mk hk1
      generalize csC ys xs = kb at *
      generalize csL ys xs = Bs at *
      generalize csL xs ys = A at *
      generalize enSu xs = Y at *

      generalize stA A = sa at *
      generalize stS A = sx at *
      have hwk := Hid.mk hwk
      replace CR := Hid.mk CR
      replace CA := Hid.mk CA
      replace CB := Hid.mk CB
      replace CE := Hid.mk CE
      replace CS := Hid.mk CS
      replace CD := Hid.mk CD
      have hfi : (f : Int) < (k1 : Int) := by omega
      have hf0 : (0 : Int) ≤ (f : Int) := by omega
      have hk0 : (0 : Int) < (k1 : Int) := by omega
      have hkn : 0 < k1 := by omega
      have hA0i : (0 : Int) < (kA : Int) := by omega
      have hA0n : 0 < kA := by omega
      have hAe : ((kA : Int) == 0) = false := by simp; omega
      have hAA : ((kA : Int) == (kA : Int)) = true := by simp
      have hKK : ((k1 : Int) == (k1 : Int)) = true := by simp
      have qz : ∀ w : World, (binOp .neq 28 (.agg #[.int .i64 z.c, .int .i64 z.b, .int .i64 z.m, .int .i64 z.g]) (.agg #[.int .i64 z.c, .int .i64 z.b, .int .i64 z.m, .int .i64 z.g])).run Try.prog w = .ok (.bool false) w := fun w => by rw [neq_suite]; simp
      have qy : ∀ w : World, (binOp .eql 28 (.agg #[.int .i64 y.c, .int .i64 y.b, .int .i64 y.m, .int .i64 y.g]) (.agg #[.int .i64 y.c, .int .i64 y.b, .int .i64 y.m, .int .i64 y.g])).run Try.prog w = .ok (.bool true) w := fun w => by rw [eql_suite]; simp
      clear h0 hx0 hy0 eA eS e3 e4 e5 hne hbk hA0 hA1 hxo hby hde hek hz hy hf hkA hkE hk1 hk2 p1 p2 p3 p4
      have Bo := B
      go_wp2_with fail
      refine (CR.out _ R1 R2).mono ?_
      rintro e w2 ⟨rfl, b2⟩
      have S2 := b2.size
      replace R1 := R1.kept b2
      replace R2 := R2.kept b2
      replace B := thenB B b2
      clear b2
      have Bo := B
      replace R1 := R1.kept (belowA w2 (.cells #[.int .i64 0, .int .i64 (f : Int), .int .i64 z.c, .int .i64 z.b, .int .i64 z.m, .int .i64 z.g] 30))
      replace R2 := R2.kept (belowA w2 (.cells #[.int .i64 0, .int .i64 (f : Int), .int .i64 z.c, .int .i64 z.b, .int .i64 z.m, .int .i64 z.g] 30))
      replace B := thenB B (belowA w2 (.cells #[.int .i64 0, .int .i64 (f : Int), .int .i64 z.c, .int .i64 z.b, .int .i64 z.m, .int .i64 z.g] 30))
      have VR := V.new w2 [.int .i64 0, .int .i64 (f : Int), .int .i64 z.c, .int .i64 z.b, .int .i64 z.m, .int .i64 z.g] 30
      obtain ⟨s_VR, f_VR, z_VR⟩ := VR.open
      have Bo := B
      go_wp2_with fail
      refine (CA.out _ R1 R2).mono ?_
      rintro e w3 ⟨cA, dA, rfl, OA, b3⟩
      clear s_VR f_VR z_VR
      have S3 := b3.size
      simp only [World.size_alloc] at S3
      replace VR := VR.kept b3
      replace R1 := R1.kept b3
      replace R2 := R2.kept b3
      replace B := thenB B b3
      clear b3
      obtain ⟨s_VR, f_VR, z_VR⟩ := VR.open
      have Bo := B
      obtain ⟨ga, oa, rfl⟩ := OA.rd.addr (by rw [HLA.out]; omega)
      replace VR := VR.kept (belowA w3 (.cells #[.int .i64 0, .slice (some ⟨ga, oa, none⟩) kA dA] 33))
      replace R1 := R1.kept (belowA w3 (.cells #[.int .i64 0, .slice (some ⟨ga, oa, none⟩) kA dA] 33))
      replace R2 := R2.kept (belowA w3 (.cells #[.int .i64 0, .slice (some ⟨ga, oa, none⟩) kA dA] 33))
      replace OA := OA.kept (belowA w3 (.cells #[.int .i64 0, .slice (some ⟨ga, oa, none⟩) kA dA] 33))
      replace B := thenB B (belowA w3 (.cells #[.int .i64 0, .slice (some ⟨ga, oa, none⟩) kA dA] 33))
      have VA := V.new w3 [.int .i64 0, .slice (some ⟨ga, oa, none⟩) kA dA] 33
      clear s_VR f_VR z_VR
      obtain ⟨s_VR, f_VR, z_VR⟩ := VR.open
      obtain ⟨s_VA, f_VA, z_VA⟩ := VA.open
      have Bo := B
      have RA := OA.rd
      obtain ⟨u0, u1, u2, u3⟩ := RA.at 0 (by rw [HLA.out]; omega) z HA1.out
      simp only [Nat.zero_mul, Nat.add_zero] at u0 u1 u2 u3
      obtain ⟨gx, ox, rfl⟩ := R1.addr (by rw [HK1.out]; omega)
      obtain ⟨v0, v1, v2, v3⟩ := R1.at f (by rw [HK1.out]; omega) z HZ.out
      clear RA
      clear s_VR f_VR z_VR s_VA f_VA z_VA
      have K : ∀ w' : World, Below (w3.alloc (.cells #[.int .i64 0, .slice (some ⟨ga, oa, none⟩) kA dA] 33)).heap.size (w3.alloc (.cells #[.int .i64 0, .slice (some ⟨ga, oa, none⟩) kA dA] 33)) w' → (w'.cell? ⟨w3.heap.size, 0, none⟩ = some (.int .i64 0) ∧ w'.cell? ⟨w3.heap.size, 1, none⟩ = some (.slice (some ⟨ga, oa, none⟩) kA dA) ∧ w'.cell? ⟨w2.heap.size, 0, none⟩ = some (.int .i64 0) ∧ w'.cell? ⟨w2.heap.size, 1, none⟩ = some (.int .i64 (f : Int)) ∧ w'.cell? ⟨w2.heap.size, 2, none⟩ = some (.int .i64 z.c) ∧ w'.cell? ⟨w2.heap.size, 3, none⟩ = some (.int .i64 z.b) ∧ w'.cell? ⟨w2.heap.size, 4, none⟩ = some (.int .i64 z.m) ∧ w'.cell? ⟨w2.heap.size, 5, none⟩ = some (.int .i64 z.g) ∧ w'.cell? ⟨ga, oa, none⟩ = some (.int .i64 z.c) ∧ w'.cell? ⟨ga, oa + 1, none⟩ = some (.int .i64 z.b) ∧ w'.cell? ⟨ga, oa + 2, none⟩ = some (.int .i64 z.m) ∧ w'.cell? ⟨ga, oa + 3, none⟩ = some (.int .i64 z.g) ∧ w'.cell? ⟨gx, ox + f * 4, none⟩ = some (.int .i64 z.c) ∧ w'.cell? ⟨gx, ox + f * 4 + 1, none⟩ = some (.int .i64 z.b) ∧ w'.cell? ⟨gx, ox + f * 4 + 2, none⟩ = some (.int .i64 z.m) ∧ w'.cell? ⟨gx, ox + f * 4 + 3, none⟩ = some (.int .i64 z.g)) := fun w' h => ⟨(VA.kept h).2.1 0 (by simp), (VA.kept h).2.1 1 (by simp), (VR.kept h).2.1 0 (by simp), (VR.kept h).2.1 1 (by simp), (VR.kept h).2.1 2 (by simp), (VR.kept h).2.1 3 (by simp), (VR.kept h).2.1 4 (by simp), (VR.kept h).2.1 5 (by simp), (h.cell (p := ⟨ga, oa, none⟩) (World.block_lt_of_cell? (a := ⟨ga, oa, none⟩) (w3.alloc (.cells #[.int .i64 0, .slice (some ⟨ga, oa, none⟩) kA dA] 33)) u0)).trans u0, (h.cell (p := ⟨ga, oa + 1, none⟩) (World.block_lt_of_cell? (a := ⟨ga, oa + 1, none⟩) (w3.alloc (.cells #[.int .i64 0, .slice (some ⟨ga, oa, none⟩) kA dA] 33)) u1)).trans u1, (h.cell (p := ⟨ga, oa + 2, none⟩) (World.block_lt_of_cell? (a := ⟨ga, oa + 2, none⟩) (w3.alloc (.cells #[.int .i64 0, .slice (some ⟨ga, oa, none⟩) kA dA] 33)) u2)).trans u2, (h.cell (p := ⟨ga, oa + 3, none⟩) (World.block_lt_of_cell? (a := ⟨ga, oa + 3, none⟩) (w3.alloc (.cells #[.int .i64 0, .slice (some ⟨ga, oa, none⟩) kA dA] 33)) u3)).trans u3, (h.cell (p := ⟨gx, ox + f * 4, none⟩) (World.block_lt_of_cell? (a := ⟨gx, ox + f * 4, none⟩) (w3.alloc (.cells #[.int .i64 0, .slice (some ⟨ga, oa, none⟩) kA dA] 33)) v0)).trans v0, (h.cell (p := ⟨gx, ox + f * 4 + 1, none⟩) (World.block_lt_of_cell? (a := ⟨gx, ox + f * 4 + 1, none⟩) (w3.alloc (.cells #[.int .i64 0, .slice (some ⟨ga, oa, none⟩) kA dA] 33)) v1)).trans v1, (h.cell (p := ⟨gx, ox + f * 4 + 2, none⟩) (World.block_lt_of_cell? (a := ⟨gx, ox + f * 4 + 2, none⟩) (w3.alloc (.cells #[.int .i64 0, .slice (some ⟨ga, oa, none⟩) kA dA] 33)) v2)).trans v2, (h.cell (p := ⟨gx, ox + f * 4 + 3, none⟩) (World.block_lt_of_cell? (a := ⟨gx, ox + f * 4 + 3, none⟩) (w3.alloc (.cells #[.int .i64 0, .slice (some ⟨ga, oa, none⟩) kA dA] 33)) v3)).trans v3⟩
      have K := Hid.mk K
      clear u0 u1 u2 u3 v0 v1 v2 v3
      obtain ⟨s_VA, f_VA, z_VA⟩ := VA.open
      obtain ⟨s_VR, f_VR, z_VR⟩ := VR.open
      go_upto_region 8 with fail
      clear s_VA f_VA z_VA s_VR f_VR z_VR
      refine wp_region_held_drew (S := (fun w' => w'.cell? ⟨w3.heap.size, 0, none⟩ = some (.int .i64 0) ∧ w'.cell? ⟨w3.heap.size, 1, none⟩ = some (.slice (some ⟨ga, oa, none⟩) kA dA) ∧ w'.cell? ⟨w2.heap.size, 0, none⟩ = some (.int .i64 0) ∧ w'.cell? ⟨w2.heap.size, 1, none⟩ = some (.int .i64 (f : Int)) ∧ w'.cell? ⟨w2.heap.size, 2, none⟩ = some (.int .i64 z.c) ∧ w'.cell? ⟨w2.heap.size, 3, none⟩ = some (.int .i64 z.b) ∧ w'.cell? ⟨w2.heap.size, 4, none⟩ = some (.int .i64 z.m) ∧ w'.cell? ⟨w2.heap.size, 5, none⟩ = some (.int .i64 z.g) ∧ w'.cell? ⟨ga, oa, none⟩ = some (.int .i64 z.c) ∧ w'.cell? ⟨ga, oa + 1, none⟩ = some (.int .i64 z.b) ∧ w'.cell? ⟨ga, oa + 2, none⟩ = some (.int .i64 z.m) ∧ w'.cell? ⟨ga, oa + 3, none⟩ = some (.int .i64 z.g) ∧ w'.cell? ⟨gx, ox + f * 4, none⟩ = some (.int .i64 z.c) ∧ w'.cell? ⟨gx, ox + f * 4 + 1, none⟩ = some (.int .i64 z.b) ∧ w'.cell? ⟨gx, ox + f * 4 + 2, none⟩ = some (.int .i64 z.m) ∧ w'.cell? ⟨gx, ox + f * 4 + 3, none⟩ = some (.int .i64 z.g))) (by kernel_rfl) (K.out _ (Below.refl _ _).drew) (fun hHeld => ?_)
      refine wpAnyH_take (i := 0) (oi := _) (v := ?vrau1) rfl (by kernel_rfl) (by kernel_rfl) (by kernel_rfl) (fun _ _ _ h => h) (Or.inl ⟨by kernel_rfl, ?hyrau1⟩) hHeld ?restrau1
      case hyrau1 => (intro w hSw; (try dsimp only at hSw); go_simp; first | done | with_reducible rfl)
      try simp only [Act.put, List.getElem_toArray, List.getElem_cons_zero, List.setIfInBounds_toArray, List.set_cons_zero, List.set_cons_succ]
      refine wpAnyH_take (i := 1) (oi := _) (v := ?vrau2) rfl (by kernel_rfl) (by kernel_rfl) (by kernel_rfl) (fun _ _ _ h => h) (Or.inl ⟨by kernel_rfl, ?hyrau2⟩) hHeld ?restrau2
      case hyrau2 => (intro w hSw; (try dsimp only at hSw); go_simp; first | done | with_reducible rfl)
      try simp only [Act.put, List.getElem_toArray, List.getElem_cons_zero, List.getElem_cons_succ, List.setIfInBounds_toArray, List.set_cons_zero, List.set_cons_succ]
      refine wpAnyH_take (i := 2) (oi := _) (v := ?vrau3) rfl (by kernel_rfl) (by kernel_rfl) (by kernel_rfl) (fun _ _ _ h => h) (Or.inl ⟨by kernel_rfl, ?hyrau3⟩) hHeld ?restrau3
      case hyrau3 => (intro w hSw; (try dsimp only at hSw); go_simp; first | done | with_reducible rfl)
      try simp only [Act.put, List.getElem_toArray, List.getElem_cons_zero, List.getElem_cons_succ, List.setIfInBounds_toArray, List.set_cons_zero, List.set_cons_succ]
      refine wpAnyH_take (i := 3) (oi := _) (v := ?vrau4) rfl (by kernel_rfl) (by kernel_rfl) (by kernel_rfl) (fun _ _ _ h => h) (Or.inl ⟨by kernel_rfl, ?hyrau4⟩) hHeld ?restrau4
      case hyrau4 => (intro w hSw; (try dsimp only at hSw); go_simp; first | done | with_reducible rfl)
      try simp only [Act.put, List.getElem_toArray, List.getElem_cons_zero, List.getElem_cons_succ, List.setIfInBounds_toArray, List.set_cons_zero, List.set_cons_succ]
      refine wpAnyH_take (i := 4) (oi := _) (v := ?vrau5) rfl (by kernel_rfl) (by kernel_rfl) (by kernel_rfl) (fun _ _ _ h => h) (Or.inl ⟨by kernel_rfl, ?hyrau5⟩) hHeld ?restrau5
      case hyrau5 => (intro w hSw; (try dsimp only at hSw); go_simp; first | done | with_reducible rfl)
      try simp only [Act.put, List.getElem_toArray, List.getElem_cons_zero, List.getElem_cons_succ, List.setIfInBounds_toArray, List.set_cons_zero, List.set_cons_succ]
      refine wpAnyH_take (i := 5) (oi := _) (v := ?vrau6) rfl (by kernel_rfl) (by kernel_rfl) (by kernel_rfl) (fun _ _ _ h => h) (Or.inl ⟨by kernel_rfl, ?hyrau6⟩) hHeld ?restrau6
      case hyrau6 => (intro w hSw; (try dsimp only at hSw); go_simp; first | done | with_reducible rfl)
      try simp only [Act.put, List.getElem_toArray, List.getElem_cons_zero, List.getElem_cons_succ, List.setIfInBounds_toArray, List.set_cons_zero, List.set_cons_succ]
      refine wpAnyH_take (i := 6) (oi := _) (v := ?vrau7) rfl (by kernel_rfl) (by kernel_rfl) (by kernel_rfl) (fun _ _ _ h => h) (Or.inl ⟨by kernel_rfl, ?hyrau7⟩) hHeld ?restrau7
      case hyrau7 => (intro w hSw; (try dsimp only at hSw); go_simp; first | done | with_reducible rfl)
      try simp only [Act.put, List.getElem_toArray, List.getElem_cons_zero, List.getElem_cons_succ, List.setIfInBounds_toArray, List.set_cons_zero, List.set_cons_succ]
      refine wpAnyH_take (i := 7) (oi := _) (v := ?vrau8) rfl (by kernel_rfl) (by kernel_rfl) (by kernel_rfl) (fun _ _ _ h => h) (Or.inl ⟨by kernel_rfl, ?hyrau8⟩) hHeld ?restrau8
      case hyrau8 => (intro w hSw; (try dsimp only at hSw); go_simp; first | done | with_reducible rfl)
      try simp only [Act.put, List.getElem_toArray, List.getElem_cons_zero, List.getElem_cons_succ, List.setIfInBounds_toArray, List.set_cons_zero, List.set_cons_succ]
      refine wpAnyH_take (i := 8) (oi := _) (v := ?vrau9) rfl (by kernel_rfl) (by kernel_rfl) (by kernel_rfl) (fun _ _ _ h => h) (Or.inl ⟨by kernel_rfl, ?hyrau9⟩) hHeld ?restrau9
      case hyrau9 => (intro w hSw; (try dsimp only at hSw); go_simp; first | done | with_reducible rfl)
      try simp only [Act.put, List.getElem_toArray, List.getElem_cons_zero, List.getElem_cons_succ, List.setIfInBounds_toArray, List.set_cons_zero, List.set_cons_succ]
      refine wpAnyH_take (i := 9) (oi := _) (v := ?vrau10) rfl (by kernel_rfl) (by kernel_rfl) (by kernel_rfl) (fun _ _ _ h => h) (Or.inl ⟨by kernel_rfl, ?hyrau10⟩) hHeld ?restrau10
      case hyrau10 => (intro w hSw; (try dsimp only at hSw); go_simp; first | done | with_reducible rfl)
      try simp only [Act.put, List.getElem_toArray, List.getElem_cons_zero, List.getElem_cons_succ, List.setIfInBounds_toArray, List.set_cons_zero, List.set_cons_succ]
      refine wpAnyH_take (i := 10) (oi := _) (v := ?vrau11) rfl (by kernel_rfl) (by kernel_rfl) (by kernel_rfl) (fun _ _ _ h => h) (Or.inl ⟨by kernel_rfl, ?hyrau11⟩) hHeld ?restrau11
      case hyrau11 => (intro w hSw; (try dsimp only at hSw); go_simp; first | done | with_reducible rfl)
      try simp only [Act.put, List.getElem_toArray, List.getElem_cons_zero, List.getElem_cons_succ, List.setIfInBounds_toArray, List.set_cons_zero, List.set_cons_succ]
      refine wpAnyH_take (i := 11) (oi := _) (v := ?vrau12) rfl (by kernel_rfl) (by kernel_rfl) (by kernel_rfl) (fun _ _ _ h => h) (Or.inl ⟨by kernel_rfl, ?hyrau12⟩) hHeld ?restrau12
      case hyrau12 => (intro w hSw; (try dsimp only at hSw); go_simp; first | done | with_reducible rfl)
      try simp only [Act.put, List.getElem_toArray, List.getElem_cons_zero, List.getElem_cons_succ, List.setIfInBounds_toArray, List.set_cons_zero, List.set_cons_succ]
      refine wpAnyH_take (i := 12) (oi := _) (v := ?vrau13) rfl (by kernel_rfl) (by kernel_rfl) (by kernel_rfl) (fun _ _ _ h => h) (Or.inl ⟨by kernel_rfl, ?hyrau13⟩) hHeld ?restrau13
      case hyrau13 => (intro w hSw; (try dsimp only at hSw); go_simp; first | done | with_reducible rfl)
      try simp only [Act.put, List.getElem_toArray, List.getElem_cons_zero, List.getElem_cons_succ, List.setIfInBounds_toArray, List.set_cons_zero, List.set_cons_succ]
      refine wpAnyH_take (i := 13) (oi := _) (v := ?vrau14) rfl (by kernel_rfl) (by kernel_rfl) (by kernel_rfl) (fun _ _ _ h => h) (Or.inl ⟨by kernel_rfl, ?hyrau14⟩) hHeld ?restrau14
      case hyrau14 => (intro w hSw; (try dsimp only at hSw); go_simp; first | done | with_reducible rfl)
      try simp only [Act.put, List.getElem_toArray, List.getElem_cons_zero, List.getElem_cons_succ, List.setIfInBounds_toArray, List.set_cons_zero, List.set_cons_succ]
      refine wpAnyH_take (i := 14) (oi := _) (v := ?vrau15) rfl (by kernel_rfl) (by kernel_rfl) (by kernel_rfl) (fun _ _ _ h => h) (Or.inl ⟨by kernel_rfl, ?hyrau15⟩) hHeld ?restrau15
      case hyrau15 => (intro w hSw; (try dsimp only at hSw); go_simp; first | done | with_reducible rfl)
      try simp only [Act.put, List.getElem_toArray, List.getElem_cons_zero, List.getElem_cons_succ, List.setIfInBounds_toArray, List.set_cons_zero, List.set_cons_succ]
      refine wpAnyH_take (i := 15) (oi := _) (v := ?vrau16) rfl (by kernel_rfl) (by kernel_rfl) (by kernel_rfl) (fun _ _ _ h => h) (Or.inl ⟨by kernel_rfl, ?hyrau16⟩) hHeld ?restrau16
      case hyrau16 => (intro w hSw; (try dsimp only at hSw); go_simp; first | done | with_reducible rfl)
      try simp only [Act.put, List.getElem_toArray, List.getElem_cons_zero, List.getElem_cons_succ, List.setIfInBounds_toArray, List.set_cons_zero, List.set_cons_succ]
      refine wpAnyH_take (i := 16) (oi := _) (v := ?vrau17) rfl (by kernel_rfl) (by kernel_rfl) (by kernel_rfl) (fun _ _ _ h => h) (Or.inl ⟨by kernel_rfl, ?hyrau17⟩) hHeld ?restrau17
      case hyrau17 => (intro w hSw; (try dsimp only at hSw); go_simp; first | done | with_reducible rfl)
      try simp only [Act.put, List.getElem_toArray, List.getElem_cons_zero, List.getElem_cons_succ, List.setIfInBounds_toArray, List.set_cons_zero, List.set_cons_succ]
      refine wpAnyH_take (i := 17) (oi := _) (v := ?vrau18) rfl (by kernel_rfl) (by kernel_rfl) (by kernel_rfl) (fun _ _ _ h => h) (Or.inl ⟨by kernel_rfl, ?hyrau18⟩) hHeld ?restrau18
      case hyrau18 => (intro w hSw; (try dsimp only at hSw); go_simp; first | done | with_reducible rfl)
      try simp only [Act.put, List.getElem_toArray, List.getElem_cons_zero, List.getElem_cons_succ, List.setIfInBounds_toArray, List.set_cons_zero, List.set_cons_succ]
      refine wpAnyH_take (i := 18) (oi := _) (v := ?vrau19) rfl (by kernel_rfl) (by kernel_rfl) (by kernel_rfl) (fun _ _ _ h => h) (Or.inl ⟨by kernel_rfl, ?hyrau19⟩) hHeld ?restrau19
      case hyrau19 => (intro w hSw; (try dsimp only at hSw); go_simp; first | done | with_reducible rfl)
      try simp only [Act.put, List.getElem_toArray, List.getElem_cons_zero, List.getElem_cons_succ, List.setIfInBounds_toArray, List.set_cons_zero, List.set_cons_succ]
      refine wpAnyH_take (i := 19) (oi := _) (v := ?vrau20) rfl (by kernel_rfl) (by kernel_rfl) (by kernel_rfl) (fun _ _ _ h => h) (Or.inl ⟨by kernel_rfl, ?hyrau20⟩) hHeld ?restrau20
      case hyrau20 => (intro w hSw; (try dsimp only at hSw); go_simp; first | done | with_reducible rfl)
      try simp only [Act.put, List.getElem_toArray, List.getElem_cons_zero, List.getElem_cons_succ, List.setIfInBounds_toArray, List.set_cons_zero, List.set_cons_succ]
      refine wpAnyH_take (i := 20) (oi := _) (v := ?vrau21) rfl (by kernel_rfl) (by kernel_rfl) (by kernel_rfl) (fun _ _ _ h => h) (Or.inl ⟨by kernel_rfl, ?hyrau21⟩) hHeld ?restrau21
      case hyrau21 => (intro w hSw; (try dsimp only at hSw); go_simp; first | done | with_reducible rfl)
      try simp only [Act.put, List.getElem_toArray, List.getElem_cons_zero, List.getElem_cons_succ, List.setIfInBounds_toArray, List.set_cons_zero, List.set_cons_succ]
      refine wpAnyH_take (i := 21) (oi := _) (v := ?vrau22) rfl (by kernel_rfl) (by kernel_rfl) (by kernel_rfl) (fun _ _ _ h => h) (Or.inl ⟨by kernel_rfl, ?hyrau22⟩) hHeld ?restrau22
      case hyrau22 => (intro w hSw; (try dsimp only at hSw); go_simp; first | done | with_reducible rfl)
      try simp only [Act.put, List.getElem_toArray, List.getElem_cons_zero, List.getElem_cons_succ, List.setIfInBounds_toArray, List.set_cons_zero, List.set_cons_succ]
      refine wpAnyH_take (i := 22) (oi := _) (v := ?vrau23) rfl (by kernel_rfl) (by kernel_rfl) (by kernel_rfl) (fun _ _ _ h => h) (Or.inl ⟨by kernel_rfl, ?hyrau23⟩) hHeld ?restrau23
      case hyrau23 => (intro w hSw; (try dsimp only at hSw); go_simp; first | done | with_reducible rfl)
      try simp only [Act.put, List.getElem_toArray, List.getElem_cons_zero, List.getElem_cons_succ, List.setIfInBounds_toArray, List.set_cons_zero, List.set_cons_succ]
      refine wpAnyH_done (by kernel_rfl) ?_ _
      clear hHeld
      have bacc : Below (w3.alloc (.cells #[.int .i64 0, .slice (some ⟨ga, oa, none⟩) kA dA] 33)).heap.size (w3.alloc (.cells #[.int .i64 0, .slice (some ⟨ga, oa, none⟩) kA dA] 33)) (w3.alloc (.cells #[.int .i64 0, .slice (some ⟨ga, oa, none⟩) kA dA] 33)).drew := (Below.refl _ _).drew
      replace VR := VR.kept bacc
      replace VA := VA.kept bacc
      replace R1 := R1.kept bacc
      replace R2 := R2.kept bacc
      replace OA := OA.kept bacc
      replace B := thenB B bacc
      clear bacc K
      generalize (w3.alloc (.cells #[.int .i64 0, .slice (some ⟨ga, oa, none⟩) kA dA] 33)).drew = wd4 at *
      obtain ⟨s_VR, f_VR, z_VR⟩ := VR.open
      obtain ⟨s_VA, f_VA, z_VA⟩ := VA.open
      have Bo := B
      go_wp2_with fail
      refine (CB.out _ R2 R1).mono ?_
      rintro e w5 ⟨cB, dB, rfl, OB, b5⟩
      clear s_VR f_VR z_VR s_VA f_VA z_VA
      have S5 := b5.size
      replace VR := VR.kept b5
      replace VA := VA.kept b5
      replace R1 := R1.kept b5
      replace R2 := R2.kept b5
      replace OA := OA.kept b5
      replace B := thenB B b5
      clear b5
      obtain ⟨s_VR, f_VR, z_VR⟩ := VR.open
      obtain ⟨s_VA, f_VA, z_VA⟩ := VA.open
      have Bo := B
      replace VR := VR.kept (belowA w5 (.cells #[.int .i64 kb, .slice cB kA dB] 33))
      replace VA := VA.kept (belowA w5 (.cells #[.int .i64 kb, .slice cB kA dB] 33))
      replace R1 := R1.kept (belowA w5 (.cells #[.int .i64 kb, .slice cB kA dB] 33))
      replace R2 := R2.kept (belowA w5 (.cells #[.int .i64 kb, .slice cB kA dB] 33))
      replace OA := OA.kept (belowA w5 (.cells #[.int .i64 kb, .slice cB kA dB] 33))
      replace OB := OB.kept (belowA w5 (.cells #[.int .i64 kb, .slice cB kA dB] 33))
      replace B := thenB B (belowA w5 (.cells #[.int .i64 kb, .slice cB kA dB] 33))
      have VB := V.new w5 [.int .i64 kb, .slice cB kA dB] 33
      clear s_VR f_VR z_VR s_VA f_VA z_VA
      obtain ⟨s_VR, f_VR, z_VR⟩ := VR.open
      obtain ⟨s_VA, f_VA, z_VA⟩ := VA.open
      obtain ⟨s_VB, f_VB, z_VB⟩ := VB.open
      have Bo := B
      have cpA := OA.caps
      rw [HLA.out] at cpA
      go_wp2_with fail
      refine (CS.out (some ⟨ga, oa, none⟩) dA _ OA.rd cpA.1 cpA.2).mono ?_
      rintro e w6 ⟨rfl, b6⟩
      clear s_VR f_VR z_VR s_VA f_VA z_VA s_VB f_VB z_VB
      have S6 := b6.size
      simp only [World.size_alloc] at S6
      replace VR := VR.kept b6
      replace VA := VA.kept b6
      replace VB := VB.kept b6
      replace R1 := R1.kept b6
      replace R2 := R2.kept b6
      replace OA := OA.kept b6
      replace OB := OB.kept b6
      replace B := thenB B b6
      clear b6
      obtain ⟨s_VR, f_VR, z_VR⟩ := VR.open
      obtain ⟨s_VA, f_VA, z_VA⟩ := VA.open
      obtain ⟨s_VB, f_VB, z_VB⟩ := VB.open
      have Bo := B
      replace VR := VR.kept (belowA w6 (.cells #[.int .i64 0, .int .i64 sa, .int .i64 sx.c, .int .i64 sx.b, .int .i64 sx.m, .int .i64 sx.g] 30))
      replace VA := VA.kept (belowA w6 (.cells #[.int .i64 0, .int .i64 sa, .int .i64 sx.c, .int .i64 sx.b, .int .i64 sx.m, .int .i64 sx.g] 30))
      replace VB := VB.kept (belowA w6 (.cells #[.int .i64 0, .int .i64 sa, .int .i64 sx.c, .int .i64 sx.b, .int .i64 sx.m, .int .i64 sx.g] 30))
      replace R1 := R1.kept (belowA w6 (.cells #[.int .i64 0, .int .i64 sa, .int .i64 sx.c, .int .i64 sx.b, .int .i64 sx.m, .int .i64 sx.g] 30))
      replace R2 := R2.kept (belowA w6 (.cells #[.int .i64 0, .int .i64 sa, .int .i64 sx.c, .int .i64 sx.b, .int .i64 sx.m, .int .i64 sx.g] 30))
      replace OA := OA.kept (belowA w6 (.cells #[.int .i64 0, .int .i64 sa, .int .i64 sx.c, .int .i64 sx.b, .int .i64 sx.m, .int .i64 sx.g] 30))
      replace OB := OB.kept (belowA w6 (.cells #[.int .i64 0, .int .i64 sa, .int .i64 sx.c, .int .i64 sx.b, .int .i64 sx.m, .int .i64 sx.g] 30))
      replace B := thenB B (belowA w6 (.cells #[.int .i64 0, .int .i64 sa, .int .i64 sx.c, .int .i64 sx.b, .int .i64 sx.m, .int .i64 sx.g] 30))
      have VS := V.new w6 [.int .i64 0, .int .i64 sa, .int .i64 sx.c, .int .i64 sx.b, .int .i64 sx.m, .int .i64 sx.g] 30
      clear s_VR f_VR z_VR s_VA f_VA z_VA s_VB f_VB z_VB
      obtain ⟨s_VR, f_VR, z_VR⟩ := VR.open
      obtain ⟨s_VA, f_VA, z_VA⟩ := VA.open
      obtain ⟨s_VB, f_VB, z_VB⟩ := VB.open
      obtain ⟨s_VS, f_VS, z_VS⟩ := VS.open
      have Bo := B
      clear s_VR f_VR z_VR s_VA f_VA z_VA s_VB f_VB z_VB s_VS f_VS z_VS
      obtain ⟨wz, hw5⟩ : ∃ wz, (w6.alloc (.cells #[.int .i64 0, .int .i64 sa, .int .i64 sx.c, .int .i64 sx.b, .int .i64 sx.m, .int .i64 sx.g] 30)) = wz := ⟨_, rfl⟩
      have B5 := B
      have VR5 := VR
      have VA5 := VA
      have VB5 := VB
      have VS5 := VS
      have RA5 := OA.rd
      have R15 := R1
      rw [hw5] at B5 VR5 VA5 VB5 VS5 RA5 R15
      replace VR5 := Hid.mk VR5
      replace VA5 := Hid.mk VA5
      replace VB5 := Hid.mk VB5
      replace VS5 := Hid.mk VS5
      replace B5 := Hid.mk B5
      replace RA5 := Hid.mk RA5
      replace R15 := Hid.mk R15
      have hb5 : Hid ((w6.alloc (.cells #[.int .i64 0, .int .i64 sa, .int .i64 sx.c, .int .i64 sx.b, .int .i64 sx.m, .int .i64 sx.g] 30)) = wz) := Hid.mk hw5
      clear hw5
      clear Bo CB CS CR CA OB
      obtain ⟨s_VA, f_VA, z_VA⟩ := VA.open
      obtain ⟨s_VS, f_VS, z_VS⟩ := VS.open
      go_wp2
      rw [hb5.out]
      clear s_VA f_VA z_VA s_VS f_VS z_VS
      clear VR VB VS VA OA R1 R2 B hb5
      go_loopw [9] (fun i wr => ∃ k : Nat, k ≤ kA ∧ i = .int .i64 k ∧ Below wz.heap.size wz wr) (fun i _ => kA - (intOf i).toNat)
      case atStart => exact ⟨0, Nat.zero_le _, rfl, Below.refl _ _⟩
      case round =>
        obtain ⟨k, hk, rfl, B⟩ := hrel
        have VA := VA5.out.kept B
        have VS := VS5.out.kept B
        by_cases hltk : k < kA
        · obtain ⟨m, hm⟩ : ∃ m, A.getD k zSuite = m := ⟨_, rfl⟩
          have hki : (k : Int) < (kA : Int) := by omega
          obtain ⟨u0, u1, u2, u3⟩ := (RA5.out.kept B).at k (by rw [HLA.out]; omega) m hm
          have hw := hwk.out k hltk
          rw [hm] at hw
          have CW := Hid.mk (fun w => implWeaker_ok sx m w)
          simp only [hw] at CW
          clear hw hm hltk
          obtain ⟨s_VA, f_VA, z_VA⟩ := VA.open
          obtain ⟨s_VS, f_VS, z_VS⟩ := VS.open
          clear s_VA f_VA z_VA s_VS f_VS z_VS
          have K : ∀ w' : World, Below wr.heap.size wr w' → (w'.cell? ⟨w3.heap.size, 0, none⟩ = some (.int .i64 0) ∧ w'.cell? ⟨w3.heap.size, 1, none⟩ = some (.slice (some ⟨ga, oa, none⟩) kA dA) ∧ w'.cell? ⟨w6.heap.size, 0, none⟩ = some (.int .i64 0) ∧ w'.cell? ⟨w6.heap.size, 1, none⟩ = some (.int .i64 sa) ∧ w'.cell? ⟨w6.heap.size, 2, none⟩ = some (.int .i64 sx.c) ∧ w'.cell? ⟨w6.heap.size, 3, none⟩ = some (.int .i64 sx.b) ∧ w'.cell? ⟨w6.heap.size, 4, none⟩ = some (.int .i64 sx.m) ∧ w'.cell? ⟨w6.heap.size, 5, none⟩ = some (.int .i64 sx.g) ∧ w'.cell? ⟨ga, oa + k * 4, none⟩ = some (.int .i64 m.c) ∧ w'.cell? ⟨ga, oa + k * 4 + 1, none⟩ = some (.int .i64 m.b) ∧ w'.cell? ⟨ga, oa + k * 4 + 2, none⟩ = some (.int .i64 m.m) ∧ w'.cell? ⟨ga, oa + k * 4 + 3, none⟩ = some (.int .i64 m.g)) := fun w' h => ⟨(VA.kept h).2.1 0 (by simp), (VA.kept h).2.1 1 (by simp), (VS.kept h).2.1 0 (by simp), (VS.kept h).2.1 1 (by simp), (VS.kept h).2.1 2 (by simp), (VS.kept h).2.1 3 (by simp), (VS.kept h).2.1 4 (by simp), (VS.kept h).2.1 5 (by simp), (h.cell (p := ⟨ga, oa + k * 4, none⟩) (World.block_lt_of_cell? (a := ⟨ga, oa + k * 4, none⟩) wr u0)).trans u0, (h.cell (p := ⟨ga, oa + k * 4 + 1, none⟩) (World.block_lt_of_cell? (a := ⟨ga, oa + k * 4 + 1, none⟩) wr u1)).trans u1, (h.cell (p := ⟨ga, oa + k * 4 + 2, none⟩) (World.block_lt_of_cell? (a := ⟨ga, oa + k * 4 + 2, none⟩) wr u2)).trans u2, (h.cell (p := ⟨ga, oa + k * 4 + 3, none⟩) (World.block_lt_of_cell? (a := ⟨ga, oa + k * 4 + 3, none⟩) wr u3)).trans u3⟩
          have K := Hid.mk K
          clear u0 u1 u2 u3
          obtain ⟨s_VA, f_VA, z_VA⟩ := VA.open
          obtain ⟨s_VS, f_VS, z_VS⟩ := VS.open
          go_upto_region 15 with fail
          clear s_VA f_VA z_VA s_VS f_VS z_VS
          refine wp_region_held_drew (S := (fun w' => w'.cell? ⟨w3.heap.size, 0, none⟩ = some (.int .i64 0) ∧ w'.cell? ⟨w3.heap.size, 1, none⟩ = some (.slice (some ⟨ga, oa, none⟩) kA dA) ∧ w'.cell? ⟨w6.heap.size, 0, none⟩ = some (.int .i64 0) ∧ w'.cell? ⟨w6.heap.size, 1, none⟩ = some (.int .i64 sa) ∧ w'.cell? ⟨w6.heap.size, 2, none⟩ = some (.int .i64 sx.c) ∧ w'.cell? ⟨w6.heap.size, 3, none⟩ = some (.int .i64 sx.b) ∧ w'.cell? ⟨w6.heap.size, 4, none⟩ = some (.int .i64 sx.m) ∧ w'.cell? ⟨w6.heap.size, 5, none⟩ = some (.int .i64 sx.g) ∧ w'.cell? ⟨ga, oa + k * 4, none⟩ = some (.int .i64 m.c) ∧ w'.cell? ⟨ga, oa + k * 4 + 1, none⟩ = some (.int .i64 m.b) ∧ w'.cell? ⟨ga, oa + k * 4 + 2, none⟩ = some (.int .i64 m.m) ∧ w'.cell? ⟨ga, oa + k * 4 + 3, none⟩ = some (.int .i64 m.g))) (by kernel_rfl) (K.out _ (Below.refl _ _).drew) (fun hHeld => ?_)
          refine wpAnyH_take (i := 0) (oi := _) (v := ?vrbu1) rfl (by kernel_rfl) (by kernel_rfl) (by kernel_rfl) (fun _ _ _ h => h) (Or.inl ⟨by kernel_rfl, ?hyrbu1⟩) hHeld ?restrbu1
          case hyrbu1 => (intro w hSw; (try dsimp only at hSw); go_simp; first | done | with_reducible rfl)
          try simp only [Act.put, List.getElem_toArray, List.getElem_cons_zero, List.setIfInBounds_toArray, List.set_cons_zero, List.set_cons_succ]
          refine wpAnyH_take (i := 1) (oi := _) (v := ?vrbu2) rfl (by kernel_rfl) (by kernel_rfl) (by kernel_rfl) (fun _ _ _ h => h) (Or.inl ⟨by kernel_rfl, ?hyrbu2⟩) hHeld ?restrbu2
          case hyrbu2 => (intro w hSw; (try dsimp only at hSw); go_simp; first | done | with_reducible rfl)
          try simp only [Act.put, List.getElem_toArray, List.getElem_cons_zero, List.getElem_cons_succ, List.setIfInBounds_toArray, List.set_cons_zero, List.set_cons_succ]
          refine wpAnyH_take (i := 2) (oi := _) (v := ?vrbu3) rfl (by kernel_rfl) (by kernel_rfl) (by kernel_rfl) (fun _ _ _ h => h) (Or.inl ⟨by kernel_rfl, ?hyrbu3⟩) hHeld ?restrbu3
          case hyrbu3 => (intro w hSw; (try dsimp only at hSw); go_simp; first | done | with_reducible rfl)
          try simp only [Act.put, List.getElem_toArray, List.getElem_cons_zero, List.getElem_cons_succ, List.setIfInBounds_toArray, List.set_cons_zero, List.set_cons_succ]
          refine wpAnyH_take (i := 3) (oi := _) (v := ?vrbu4) rfl (by kernel_rfl) (by kernel_rfl) (by kernel_rfl) (fun _ _ _ h => h) (Or.inl ⟨by kernel_rfl, ?hyrbu4⟩) hHeld ?restrbu4
          case hyrbu4 => (intro w hSw; (try dsimp only at hSw); go_simp; first | done | with_reducible rfl)
          try simp only [Act.put, List.getElem_toArray, List.getElem_cons_zero, List.getElem_cons_succ, List.setIfInBounds_toArray, List.set_cons_zero, List.set_cons_succ]
          refine wpAnyH_take (i := 4) (oi := _) (v := ?vrbu5) rfl (by kernel_rfl) (by kernel_rfl) (by kernel_rfl) (fun _ _ _ h => h) (Or.inl ⟨by kernel_rfl, ?hyrbu5⟩) hHeld ?restrbu5
          case hyrbu5 => (intro w hSw; (try dsimp only at hSw); go_simp; first | done | with_reducible rfl)
          try simp only [Act.put, List.getElem_toArray, List.getElem_cons_zero, List.getElem_cons_succ, List.setIfInBounds_toArray, List.set_cons_zero, List.set_cons_succ]
          refine wpAnyH_take (i := 5) (oi := _) (v := ?vrbu6) rfl (by kernel_rfl) (by kernel_rfl) (by kernel_rfl) (fun _ _ _ h => h) (Or.inl ⟨by kernel_rfl, ?hyrbu6⟩) hHeld ?restrbu6
          case hyrbu6 => (intro w hSw; (try dsimp only at hSw); go_simp; first | done | with_reducible rfl)
          try simp only [Act.put, List.getElem_toArray, List.getElem_cons_zero, List.getElem_cons_succ, List.setIfInBounds_toArray, List.set_cons_zero, List.set_cons_succ]
          refine wpAnyH_take (i := 6) (oi := _) (v := ?vrbu7) rfl (by kernel_rfl) (by kernel_rfl) (by kernel_rfl) (fun _ _ _ h => h) (Or.inl ⟨by kernel_rfl, ?hyrbu7⟩) hHeld ?restrbu7
          case hyrbu7 => (intro w hSw; (try dsimp only at hSw); go_simp; first | done | with_reducible rfl)
          try simp only [Act.put, List.getElem_toArray, List.getElem_cons_zero, List.getElem_cons_succ, List.setIfInBounds_toArray, List.set_cons_zero, List.set_cons_succ]
          refine wpAnyH_ready (rs := [7]) (by kernel_rfl) (by simp) ?_
          refine AllReadyH.cons (o := _) rfl (fun K0 hK0 => ?_) AllReadyH.nil
          go_simp
          go_at_call 18
          refine (CW.out _).mono ?_
          rintro e wrbv8 ⟨rfl, brbv8⟩
          refine hK0.out _ _ (K.out _ (thenB (Below.refl _ _).drew brbv8)) (fun hHeld => ?_)
          clear hK0 K0
          try simp only [Act.put, List.getElem_toArray, List.getElem_cons_zero, List.getElem_cons_succ, List.setIfInBounds_toArray, List.set_cons_zero, List.set_cons_succ]
          refine wpAnyH_done (by kernel_rfl) ?_ _
          clear hHeld
          have bacc : Below wr.heap.size wr wrbv8 := (thenB (Below.refl _ _).drew brbv8)
          replace VA := VA.kept bacc
          replace VS := VS.kept bacc
          replace B := thenB B bacc
          clear bacc K
          obtain ⟨s_VA, f_VA, z_VA⟩ := VA.open
          obtain ⟨s_VS, f_VS, z_VS⟩ := VS.open
          replace B := Hid.mk B
          go_wp2
          go_roundw
          case rel => exact ⟨k + 1, by omega, by go_num, B.out⟩
          case measure => simp [intOf]; omega
        · have hkn' : k = kA := by omega
          subst hkn'
          have VB := VB5.out.kept B
          have VR := VR5.out.kept B
          have R1 := R15.out.kept B
          replace B := B5.out.trans (B.mono B5.out.size)
          clear VA5 VS5 VB5 VR5 R15 B5 RA5 hwk
          clear VR
          obtain ⟨s_VA, f_VA, z_VA⟩ := VA.open
          obtain ⟨s_VS, f_VS, z_VS⟩ := VS.open
          obtain ⟨s_VB, f_VB, z_VB⟩ := VB.open
          have Bo := B
          go_wp2_with fail
          refine (CE.out _ R1).mono ?_
          rintro e w51 ⟨cE, dE, rfl, OE, b51⟩
          clear s_VA f_VA z_VA s_VS f_VS z_VS s_VB f_VB z_VB
          have S51 := b51.size
          replace VA := VA.kept b51
          replace VS := VS.kept b51
          replace VB := VB.kept b51
          replace R1 := R1.kept b51
          replace B := thenB B b51
          clear b51
          obtain ⟨s_VA, f_VA, z_VA⟩ := VA.open
          obtain ⟨s_VS, f_VS, z_VS⟩ := VS.open
          obtain ⟨s_VB, f_VB, z_VB⟩ := VB.open
          have Bo := B
          have hcE := OE.cap
          rw [HLE.out] at hcE
          have hcM := ownU8_max OE
          replace VA := VA.kept (belowA w51 (.cells #[.int .i64 0, .slice cE kE dE] 38))
          replace VS := VS.kept (belowA w51 (.cells #[.int .i64 0, .slice cE kE dE] 38))
          replace VB := VB.kept (belowA w51 (.cells #[.int .i64 0, .slice cE kE dE] 38))
          replace R1 := R1.kept (belowA w51 (.cells #[.int .i64 0, .slice cE kE dE] 38))
          replace OE := OE.kept (belowA w51 (.cells #[.int .i64 0, .slice cE kE dE] 38))
          replace B := thenB B (belowA w51 (.cells #[.int .i64 0, .slice cE kE dE] 38))
          have VE := V.new w51 [.int .i64 0, .slice cE kE dE] 38
          clear s_VA f_VA z_VA s_VS f_VS z_VS s_VB f_VB z_VB
          obtain ⟨s_VA, f_VA, z_VA⟩ := VA.open
          obtain ⟨s_VS, f_VS, z_VS⟩ := VS.open
          obtain ⟨s_VB, f_VB, z_VB⟩ := VB.open
          obtain ⟨s_VE, f_VE, z_VE⟩ := VE.open
          have Bo := B
          go_wp2_with fail
          refine (CD.out cE dE _ OE.rd hcE hcM).mono ?_
          rintro e w52 ⟨cD, dD, rfl, OD, b52⟩
          clear s_VA f_VA z_VA s_VS f_VS z_VS s_VB f_VB z_VB s_VE f_VE z_VE
          have S52 := b52.size
          simp only [World.size_alloc] at S52
          replace VA := VA.kept b52
          replace VS := VS.kept b52
          replace VB := VB.kept b52
          replace VE := VE.kept b52
          replace R1 := R1.kept b52
          replace OE := OE.kept b52
          replace B := thenB B b52
          clear b52
          obtain ⟨s_VA, f_VA, z_VA⟩ := VA.open
          obtain ⟨s_VS, f_VS, z_VS⟩ := VS.open
          obtain ⟨s_VB, f_VB, z_VB⟩ := VB.open
          obtain ⟨s_VE, f_VE, z_VE⟩ := VE.open
          have Bo := B
          obtain ⟨gd, od, rfl⟩ := OD.rd.addr (by rw [HK1.out]; omega)
          replace VA := VA.kept (belowA w52 (.cells #[.int .i64 0, .slice (some ⟨gd, od, none⟩) k1 dD] 33))
          replace VS := VS.kept (belowA w52 (.cells #[.int .i64 0, .slice (some ⟨gd, od, none⟩) k1 dD] 33))
          replace VB := VB.kept (belowA w52 (.cells #[.int .i64 0, .slice (some ⟨gd, od, none⟩) k1 dD] 33))
          replace VE := VE.kept (belowA w52 (.cells #[.int .i64 0, .slice (some ⟨gd, od, none⟩) k1 dD] 33))
          replace R1 := R1.kept (belowA w52 (.cells #[.int .i64 0, .slice (some ⟨gd, od, none⟩) k1 dD] 33))
          replace OE := OE.kept (belowA w52 (.cells #[.int .i64 0, .slice (some ⟨gd, od, none⟩) k1 dD] 33))
          replace OD := OD.kept (belowA w52 (.cells #[.int .i64 0, .slice (some ⟨gd, od, none⟩) k1 dD] 33))
          replace B := thenB B (belowA w52 (.cells #[.int .i64 0, .slice (some ⟨gd, od, none⟩) k1 dD] 33))
          have VD := V.new w52 [.int .i64 0, .slice (some ⟨gd, od, none⟩) k1 dD] 33
          clear s_VA f_VA z_VA s_VS f_VS z_VS s_VB f_VB z_VB s_VE f_VE z_VE
          obtain ⟨s_VA, f_VA, z_VA⟩ := VA.open
          obtain ⟨s_VS, f_VS, z_VS⟩ := VS.open
          obtain ⟨s_VB, f_VB, z_VB⟩ := VB.open
          obtain ⟨s_VE, f_VE, z_VE⟩ := VE.open
          obtain ⟨s_VD, f_VD, z_VD⟩ := VD.open
          have Bo := B
          have RD := OD.rd
          obtain ⟨u0, u1, u2, u3⟩ := RD.at 0 (by rw [HK1.out]; omega) y HY.out
          simp only [Nat.zero_mul, Nat.add_zero] at u0 u1 u2 u3
          obtain ⟨v0, v1, v2, v3⟩ := R1.at 0 (by rw [HK1.out]; omega) y HY.out
          simp only [Nat.zero_mul, Nat.add_zero] at v0 v1 v2 v3
          clear RD
          clear s_VA f_VA z_VA s_VS f_VS z_VS s_VB f_VB z_VB s_VE f_VE z_VE s_VD f_VD z_VD
          have K : ∀ w' : World, Below (w52.alloc (.cells #[.int .i64 0, .slice (some ⟨gd, od, none⟩) k1 dD] 33)).heap.size (w52.alloc (.cells #[.int .i64 0, .slice (some ⟨gd, od, none⟩) k1 dD] 33)) w' → (w'.cell? ⟨w5.heap.size, 0, none⟩ = some (.int .i64 kb) ∧ w'.cell? ⟨w5.heap.size, 1, none⟩ = some (.slice cB k dB) ∧ w'.cell? ⟨w3.heap.size, 0, none⟩ = some (.int .i64 0) ∧ w'.cell? ⟨w3.heap.size, 1, none⟩ = some (.slice (some ⟨ga, oa, none⟩) k dA) ∧ w'.cell? ⟨w6.heap.size, 0, none⟩ = some (.int .i64 0) ∧ w'.cell? ⟨w6.heap.size, 1, none⟩ = some (.int .i64 sa) ∧ w'.cell? ⟨w6.heap.size, 2, none⟩ = some (.int .i64 sx.c) ∧ w'.cell? ⟨w6.heap.size, 3, none⟩ = some (.int .i64 sx.b) ∧ w'.cell? ⟨w6.heap.size, 4, none⟩ = some (.int .i64 sx.m) ∧ w'.cell? ⟨w6.heap.size, 5, none⟩ = some (.int .i64 sx.g) ∧ w'.cell? ⟨w51.heap.size, 0, none⟩ = some (.int .i64 0) ∧ w'.cell? ⟨w51.heap.size, 1, none⟩ = some (.slice cE kE dE) ∧ w'.cell? ⟨w52.heap.size, 0, none⟩ = some (.int .i64 0) ∧ w'.cell? ⟨w52.heap.size, 1, none⟩ = some (.slice (some ⟨gd, od, none⟩) k1 dD) ∧ w'.cell? ⟨gd, od, none⟩ = some (.int .i64 y.c) ∧ w'.cell? ⟨gd, od + 1, none⟩ = some (.int .i64 y.b) ∧ w'.cell? ⟨gd, od + 2, none⟩ = some (.int .i64 y.m) ∧ w'.cell? ⟨gd, od + 3, none⟩ = some (.int .i64 y.g) ∧ w'.cell? ⟨gx, ox, none⟩ = some (.int .i64 y.c) ∧ w'.cell? ⟨gx, ox + 1, none⟩ = some (.int .i64 y.b) ∧ w'.cell? ⟨gx, ox + 2, none⟩ = some (.int .i64 y.m) ∧ w'.cell? ⟨gx, ox + 3, none⟩ = some (.int .i64 y.g)) := fun w' h => ⟨(VB.kept h).2.1 0 (by simp), (VB.kept h).2.1 1 (by simp), (VA.kept h).2.1 0 (by simp), (VA.kept h).2.1 1 (by simp), (VS.kept h).2.1 0 (by simp), (VS.kept h).2.1 1 (by simp), (VS.kept h).2.1 2 (by simp), (VS.kept h).2.1 3 (by simp), (VS.kept h).2.1 4 (by simp), (VS.kept h).2.1 5 (by simp), (VE.kept h).2.1 0 (by simp), (VE.kept h).2.1 1 (by simp), (VD.kept h).2.1 0 (by simp), (VD.kept h).2.1 1 (by simp), (h.cell (p := ⟨gd, od, none⟩) (World.block_lt_of_cell? (a := ⟨gd, od, none⟩) (w52.alloc (.cells #[.int .i64 0, .slice (some ⟨gd, od, none⟩) k1 dD] 33)) u0)).trans u0, (h.cell (p := ⟨gd, od + 1, none⟩) (World.block_lt_of_cell? (a := ⟨gd, od + 1, none⟩) (w52.alloc (.cells #[.int .i64 0, .slice (some ⟨gd, od, none⟩) k1 dD] 33)) u1)).trans u1, (h.cell (p := ⟨gd, od + 2, none⟩) (World.block_lt_of_cell? (a := ⟨gd, od + 2, none⟩) (w52.alloc (.cells #[.int .i64 0, .slice (some ⟨gd, od, none⟩) k1 dD] 33)) u2)).trans u2, (h.cell (p := ⟨gd, od + 3, none⟩) (World.block_lt_of_cell? (a := ⟨gd, od + 3, none⟩) (w52.alloc (.cells #[.int .i64 0, .slice (some ⟨gd, od, none⟩) k1 dD] 33)) u3)).trans u3, (h.cell (p := ⟨gx, ox, none⟩) (World.block_lt_of_cell? (a := ⟨gx, ox, none⟩) (w52.alloc (.cells #[.int .i64 0, .slice (some ⟨gd, od, none⟩) k1 dD] 33)) v0)).trans v0, (h.cell (p := ⟨gx, ox + 1, none⟩) (World.block_lt_of_cell? (a := ⟨gx, ox + 1, none⟩) (w52.alloc (.cells #[.int .i64 0, .slice (some ⟨gd, od, none⟩) k1 dD] 33)) v1)).trans v1, (h.cell (p := ⟨gx, ox + 2, none⟩) (World.block_lt_of_cell? (a := ⟨gx, ox + 2, none⟩) (w52.alloc (.cells #[.int .i64 0, .slice (some ⟨gd, od, none⟩) k1 dD] 33)) v2)).trans v2, (h.cell (p := ⟨gx, ox + 3, none⟩) (World.block_lt_of_cell? (a := ⟨gx, ox + 3, none⟩) (w52.alloc (.cells #[.int .i64 0, .slice (some ⟨gd, od, none⟩) k1 dD] 33)) v3)).trans v3⟩
          have K := Hid.mk K
          clear u0 u1 u2 u3 v0 v1 v2 v3
          obtain ⟨s_VB, f_VB, z_VB⟩ := VB.open
          obtain ⟨s_VA, f_VA, z_VA⟩ := VA.open
          obtain ⟨s_VS, f_VS, z_VS⟩ := VS.open
          obtain ⟨s_VE, f_VE, z_VE⟩ := VE.open
          obtain ⟨s_VD, f_VD, z_VD⟩ := VD.open
          go_upto_region 19 with fail
          clear s_VB f_VB z_VB s_VA f_VA z_VA s_VS f_VS z_VS s_VE f_VE z_VE s_VD f_VD z_VD
          try simp only [List.append_eq, List.cons_append, List.nil_append]
          refine wp_region_held_drew (S := (fun w' => w'.cell? ⟨w5.heap.size, 0, none⟩ = some (.int .i64 kb) ∧ w'.cell? ⟨w5.heap.size, 1, none⟩ = some (.slice cB k dB) ∧ w'.cell? ⟨w3.heap.size, 0, none⟩ = some (.int .i64 0) ∧ w'.cell? ⟨w3.heap.size, 1, none⟩ = some (.slice (some ⟨ga, oa, none⟩) k dA) ∧ w'.cell? ⟨w6.heap.size, 0, none⟩ = some (.int .i64 0) ∧ w'.cell? ⟨w6.heap.size, 1, none⟩ = some (.int .i64 sa) ∧ w'.cell? ⟨w6.heap.size, 2, none⟩ = some (.int .i64 sx.c) ∧ w'.cell? ⟨w6.heap.size, 3, none⟩ = some (.int .i64 sx.b) ∧ w'.cell? ⟨w6.heap.size, 4, none⟩ = some (.int .i64 sx.m) ∧ w'.cell? ⟨w6.heap.size, 5, none⟩ = some (.int .i64 sx.g) ∧ w'.cell? ⟨w51.heap.size, 0, none⟩ = some (.int .i64 0) ∧ w'.cell? ⟨w51.heap.size, 1, none⟩ = some (.slice cE kE dE) ∧ w'.cell? ⟨w52.heap.size, 0, none⟩ = some (.int .i64 0) ∧ w'.cell? ⟨w52.heap.size, 1, none⟩ = some (.slice (some ⟨gd, od, none⟩) k1 dD) ∧ w'.cell? ⟨gd, od, none⟩ = some (.int .i64 y.c) ∧ w'.cell? ⟨gd, od + 1, none⟩ = some (.int .i64 y.b) ∧ w'.cell? ⟨gd, od + 2, none⟩ = some (.int .i64 y.m) ∧ w'.cell? ⟨gd, od + 3, none⟩ = some (.int .i64 y.g) ∧ w'.cell? ⟨gx, ox, none⟩ = some (.int .i64 y.c) ∧ w'.cell? ⟨gx, ox + 1, none⟩ = some (.int .i64 y.b) ∧ w'.cell? ⟨gx, ox + 2, none⟩ = some (.int .i64 y.m) ∧ w'.cell? ⟨gx, ox + 3, none⟩ = some (.int .i64 y.g))) (by kernel_rfl) (K.out _ (Below.refl _ _).drew) (fun hHeld => ?_)
          refine wpAnyH_take (i := 0) (oi := _) (v := ?vrcu1) rfl (by kernel_rfl) (by kernel_rfl) (by kernel_rfl) (fun _ _ _ h => h) (Or.inl ⟨by kernel_rfl, ?hyrcu1⟩) hHeld ?restrcu1
          case hyrcu1 => (intro w hSw; (try dsimp only at hSw); go_simp; first | done | with_reducible rfl)
          try simp only [Act.put, List.getElem_toArray, List.getElem_cons_zero, List.setIfInBounds_toArray, List.set_cons_zero, List.set_cons_succ]
          refine wpAnyH_take (i := 1) (oi := _) (v := ?vrcu2) rfl (by kernel_rfl) (by kernel_rfl) (by kernel_rfl) (fun _ _ _ h => h) (Or.inl ⟨by kernel_rfl, ?hyrcu2⟩) hHeld ?restrcu2
          case hyrcu2 => (intro w hSw; (try dsimp only at hSw); go_simp; first | done | with_reducible rfl)
          try simp only [Act.put, List.getElem_toArray, List.getElem_cons_zero, List.getElem_cons_succ, List.setIfInBounds_toArray, List.set_cons_zero, List.set_cons_succ]
          refine wpAnyH_take (i := 2) (oi := _) (v := ?vrcu3) rfl (by kernel_rfl) (by kernel_rfl) (by kernel_rfl) (fun _ _ _ h => h) (Or.inl ⟨by kernel_rfl, ?hyrcu3⟩) hHeld ?restrcu3
          case hyrcu3 => (intro w hSw; (try dsimp only at hSw); go_simp; first | done | with_reducible rfl)
          try simp only [Act.put, List.getElem_toArray, List.getElem_cons_zero, List.getElem_cons_succ, List.setIfInBounds_toArray, List.set_cons_zero, List.set_cons_succ]
          refine wpAnyH_take (i := 3) (oi := _) (v := ?vrcu4) rfl (by kernel_rfl) (by kernel_rfl) (by kernel_rfl) (fun _ _ _ h => h) (Or.inl ⟨by kernel_rfl, ?hyrcu4⟩) hHeld ?restrcu4
          case hyrcu4 => (intro w hSw; (try dsimp only at hSw); go_simp; first | done | with_reducible rfl)
          try simp only [Act.put, List.getElem_toArray, List.getElem_cons_zero, List.getElem_cons_succ, List.setIfInBounds_toArray, List.set_cons_zero, List.set_cons_succ]
          refine wpAnyH_take (i := 4) (oi := _) (v := ?vrcu5) rfl (by kernel_rfl) (by kernel_rfl) (by kernel_rfl) (fun _ _ _ h => h) (Or.inl ⟨by kernel_rfl, ?hyrcu5⟩) hHeld ?restrcu5
          case hyrcu5 => (intro w hSw; (try dsimp only at hSw); go_simp; first | done | with_reducible rfl)
          try simp only [Act.put, List.getElem_toArray, List.getElem_cons_zero, List.getElem_cons_succ, List.setIfInBounds_toArray, List.set_cons_zero, List.set_cons_succ]
          refine wpAnyH_take (i := 5) (oi := _) (v := ?vrcu6) rfl (by kernel_rfl) (by kernel_rfl) (by kernel_rfl) (fun _ _ _ h => h) (Or.inl ⟨by kernel_rfl, ?hyrcu6⟩) hHeld ?restrcu6
          case hyrcu6 => (intro w hSw; (try dsimp only at hSw); go_simp; first | done | with_reducible rfl)
          try simp only [Act.put, List.getElem_toArray, List.getElem_cons_zero, List.getElem_cons_succ, List.setIfInBounds_toArray, List.set_cons_zero, List.set_cons_succ]
          refine wpAnyH_take (i := 6) (oi := _) (v := ?vrcu7) rfl (by kernel_rfl) (by kernel_rfl) (by kernel_rfl) (fun _ _ _ h => h) (Or.inl ⟨by kernel_rfl, ?hyrcu7⟩) hHeld ?restrcu7
          case hyrcu7 => (intro w hSw; (try dsimp only at hSw); go_simp; first | done | with_reducible rfl)
          try simp only [Act.put, List.getElem_toArray, List.getElem_cons_zero, List.getElem_cons_succ, List.setIfInBounds_toArray, List.set_cons_zero, List.set_cons_succ]
          refine wpAnyH_take (i := 7) (oi := _) (v := ?vrcu8) rfl (by kernel_rfl) (by kernel_rfl) (by kernel_rfl) (fun _ _ _ h => h) (Or.inl ⟨by kernel_rfl, ?hyrcu8⟩) hHeld ?restrcu8
          case hyrcu8 => (intro w hSw; (try dsimp only at hSw); go_simp; first | done | with_reducible rfl)
          try simp only [Act.put, List.getElem_toArray, List.getElem_cons_zero, List.getElem_cons_succ, List.setIfInBounds_toArray, List.set_cons_zero, List.set_cons_succ]
          refine wpAnyH_take (i := 8) (oi := _) (v := ?vrcu9) rfl (by kernel_rfl) (by kernel_rfl) (by kernel_rfl) (fun _ _ _ h => h) (Or.inl ⟨by kernel_rfl, ?hyrcu9⟩) hHeld ?restrcu9
          case hyrcu9 => (intro w hSw; (try dsimp only at hSw); go_simp; first | done | with_reducible rfl)
          try simp only [Act.put, List.getElem_toArray, List.getElem_cons_zero, List.getElem_cons_succ, List.setIfInBounds_toArray, List.set_cons_zero, List.set_cons_succ]
          refine wpAnyH_take (i := 9) (oi := _) (v := ?vrcu10) rfl (by kernel_rfl) (by kernel_rfl) (by kernel_rfl) (fun _ _ _ h => h) (Or.inl ⟨by kernel_rfl, ?hyrcu10⟩) hHeld ?restrcu10
          case hyrcu10 => (intro w hSw; (try dsimp only at hSw); go_simp; first | done | with_reducible rfl)
          try simp only [Act.put, List.getElem_toArray, List.getElem_cons_zero, List.getElem_cons_succ, List.setIfInBounds_toArray, List.set_cons_zero, List.set_cons_succ]
          refine wpAnyH_take (i := 10) (oi := _) (v := ?vrcu11) rfl (by kernel_rfl) (by kernel_rfl) (by kernel_rfl) (fun _ _ _ h => h) (Or.inl ⟨by kernel_rfl, ?hyrcu11⟩) hHeld ?restrcu11
          case hyrcu11 => (intro w hSw; (try dsimp only at hSw); go_simp; first | done | with_reducible rfl)
          try simp only [Act.put, List.getElem_toArray, List.getElem_cons_zero, List.getElem_cons_succ, List.setIfInBounds_toArray, List.set_cons_zero, List.set_cons_succ]
          refine wpAnyH_take (i := 11) (oi := _) (v := ?vrcu12) rfl (by kernel_rfl) (by kernel_rfl) (by kernel_rfl) (fun _ _ _ h => h) (Or.inl ⟨by kernel_rfl, ?hyrcu12⟩) hHeld ?restrcu12
          case hyrcu12 => (intro w hSw; (try dsimp only at hSw); go_simp; first | done | with_reducible rfl)
          try simp only [Act.put, List.getElem_toArray, List.getElem_cons_zero, List.getElem_cons_succ, List.setIfInBounds_toArray, List.set_cons_zero, List.set_cons_succ]
          refine wpAnyH_take (i := 12) (oi := _) (v := ?vrcu13) rfl (by kernel_rfl) (by kernel_rfl) (by kernel_rfl) (fun _ _ _ h => h) (Or.inl ⟨by kernel_rfl, ?hyrcu13⟩) hHeld ?restrcu13
          case hyrcu13 => (intro w hSw; (try dsimp only at hSw); go_simp; first | done | with_reducible rfl)
          try simp only [Act.put, List.getElem_toArray, List.getElem_cons_zero, List.getElem_cons_succ, List.setIfInBounds_toArray, List.set_cons_zero, List.set_cons_succ]
          refine wpAnyH_take (i := 13) (oi := _) (v := ?vrcu14) rfl (by kernel_rfl) (by kernel_rfl) (by kernel_rfl) (fun _ _ _ h => h) (Or.inl ⟨by kernel_rfl, ?hyrcu14⟩) hHeld ?restrcu14
          case hyrcu14 => (intro w hSw; (try dsimp only at hSw); go_simp; first | done | with_reducible rfl)
          try simp only [Act.put, List.getElem_toArray, List.getElem_cons_zero, List.getElem_cons_succ, List.setIfInBounds_toArray, List.set_cons_zero, List.set_cons_succ]
          refine wpAnyH_take (i := 14) (oi := _) (v := ?vrcu15) rfl (by kernel_rfl) (by kernel_rfl) (by kernel_rfl) (fun _ _ _ h => h) (Or.inl ⟨by kernel_rfl, ?hyrcu15⟩) hHeld ?restrcu15
          case hyrcu15 => (intro w hSw; (try dsimp only at hSw); go_simp; first | done | with_reducible rfl)
          try simp only [Act.put, List.getElem_toArray, List.getElem_cons_zero, List.getElem_cons_succ, List.setIfInBounds_toArray, List.set_cons_zero, List.set_cons_succ]
          refine wpAnyH_take (i := 15) (oi := _) (v := ?vrcu16) rfl (by kernel_rfl) (by kernel_rfl) (by kernel_rfl) (fun _ _ _ h => h) (Or.inl ⟨by kernel_rfl, ?hyrcu16⟩) hHeld ?restrcu16
          case hyrcu16 => (intro w hSw; (try dsimp only at hSw); go_simp; first | done | with_reducible rfl)
          try simp only [Act.put, List.getElem_toArray, List.getElem_cons_zero, List.getElem_cons_succ, List.setIfInBounds_toArray, List.set_cons_zero, List.set_cons_succ]
          refine wpAnyH_take (i := 16) (oi := _) (v := ?vrcu17) rfl (by kernel_rfl) (by kernel_rfl) (by kernel_rfl) (fun _ _ _ h => h) (Or.inl ⟨by kernel_rfl, ?hyrcu17⟩) hHeld ?restrcu17
          case hyrcu17 => (intro w hSw; (try dsimp only at hSw); go_simp; first | done | with_reducible rfl)
          try simp only [Act.put, List.getElem_toArray, List.getElem_cons_zero, List.getElem_cons_succ, List.setIfInBounds_toArray, List.set_cons_zero, List.set_cons_succ]
          refine wpAnyH_take (i := 17) (oi := _) (v := ?vrcu18) rfl (by kernel_rfl) (by kernel_rfl) (by kernel_rfl) (fun _ _ _ h => h) (Or.inl ⟨by kernel_rfl, ?hyrcu18⟩) hHeld ?restrcu18
          case hyrcu18 => (intro w hSw; (try dsimp only at hSw); go_simp; first | done | with_reducible rfl)
          try simp only [Act.put, List.getElem_toArray, List.getElem_cons_zero, List.getElem_cons_succ, List.setIfInBounds_toArray, List.set_cons_zero, List.set_cons_succ]
          refine wpAnyH_take (i := 18) (oi := _) (v := ?vrcu19) rfl (by kernel_rfl) (by kernel_rfl) (by kernel_rfl) (fun _ _ _ h => h) (Or.inl ⟨by kernel_rfl, ?hyrcu19⟩) hHeld ?restrcu19
          case hyrcu19 => (intro w hSw; (try dsimp only at hSw); go_simp; first | done | with_reducible rfl)
          try simp only [Act.put, List.getElem_toArray, List.getElem_cons_zero, List.getElem_cons_succ, List.setIfInBounds_toArray, List.set_cons_zero, List.set_cons_succ]
          refine wpAnyH_take (i := 19) (oi := _) (v := ?vrcu20) rfl (by kernel_rfl) (by kernel_rfl) (by kernel_rfl) (fun _ _ _ h => h) (Or.inl ⟨by kernel_rfl, ?hyrcu20⟩) hHeld ?restrcu20
          case hyrcu20 => (intro w hSw; (try dsimp only at hSw); go_simp; first | done | with_reducible rfl)
          try simp only [Act.put, List.getElem_toArray, List.getElem_cons_zero, List.getElem_cons_succ, List.setIfInBounds_toArray, List.set_cons_zero, List.set_cons_succ]
          refine wpAnyH_take (i := 20) (oi := _) (v := ?vrcu21) rfl (by kernel_rfl) (by kernel_rfl) (by kernel_rfl) (fun _ _ _ h => h) (Or.inl ⟨by kernel_rfl, ?hyrcu21⟩) hHeld ?restrcu21
          case hyrcu21 => (intro w hSw; (try dsimp only at hSw); go_simp; first | done | with_reducible rfl)
          try simp only [Act.put, List.getElem_toArray, List.getElem_cons_zero, List.getElem_cons_succ, List.setIfInBounds_toArray, List.set_cons_zero, List.set_cons_succ]
          refine wpAnyH_take (i := 21) (oi := _) (v := ?vrcu22) rfl (by kernel_rfl) (by kernel_rfl) (by kernel_rfl) (fun _ _ _ h => h) (Or.inl ⟨by kernel_rfl, ?hyrcu22⟩) hHeld ?restrcu22
          case hyrcu22 => (intro w hSw; (try dsimp only at hSw); go_simp; first | done | with_reducible rfl)
          try simp only [Act.put, List.getElem_toArray, List.getElem_cons_zero, List.getElem_cons_succ, List.setIfInBounds_toArray, List.set_cons_zero, List.set_cons_succ]
          refine wpAnyH_take (i := 22) (oi := _) (v := ?vrcu23) rfl (by kernel_rfl) (by kernel_rfl) (by kernel_rfl) (fun _ _ _ h => h) (Or.inl ⟨by kernel_rfl, ?hyrcu23⟩) hHeld ?restrcu23
          case hyrcu23 => (intro w hSw; (try dsimp only at hSw); go_simp; first | done | with_reducible rfl)
          try simp only [Act.put, List.getElem_toArray, List.getElem_cons_zero, List.getElem_cons_succ, List.setIfInBounds_toArray, List.set_cons_zero, List.set_cons_succ]
          refine wpAnyH_take (i := 23) (oi := _) (v := ?vrcu24) rfl (by kernel_rfl) (by kernel_rfl) (by kernel_rfl) (fun _ _ _ h => h) (Or.inl ⟨by kernel_rfl, ?hyrcu24⟩) hHeld ?restrcu24
          case hyrcu24 => (intro w hSw; (try dsimp only at hSw); go_simp; first | done | with_reducible rfl)
          try simp only [Act.put, List.getElem_toArray, List.getElem_cons_zero, List.getElem_cons_succ, List.setIfInBounds_toArray, List.set_cons_zero, List.set_cons_succ]
          refine wpAnyH_take (i := 24) (oi := _) (v := ?vrcu25) rfl (by kernel_rfl) (by kernel_rfl) (by kernel_rfl) (fun _ _ _ h => h) (Or.inl ⟨by kernel_rfl, ?hyrcu25⟩) hHeld ?restrcu25
          case hyrcu25 => (intro w hSw; (try dsimp only at hSw); go_simp; first | done | with_reducible rfl)
          try simp only [Act.put, List.getElem_toArray, List.getElem_cons_zero, List.getElem_cons_succ, List.setIfInBounds_toArray, List.set_cons_zero, List.set_cons_succ]
          refine wpAnyH_take (i := 25) (oi := _) (v := ?vrcu26) rfl (by kernel_rfl) (by kernel_rfl) (by kernel_rfl) (fun _ _ _ h => h) (Or.inl ⟨by kernel_rfl, ?hyrcu26⟩) hHeld ?restrcu26
          case hyrcu26 => (intro w hSw; (try dsimp only at hSw); go_simp; first | done | with_reducible rfl)
          try simp only [Act.put, List.getElem_toArray, List.getElem_cons_zero, List.getElem_cons_succ, List.setIfInBounds_toArray, List.set_cons_zero, List.set_cons_succ]
          refine wpAnyH_take (i := 26) (oi := _) (v := ?vrcu27) rfl (by kernel_rfl) (by kernel_rfl) (by kernel_rfl) (fun _ _ _ h => h) (Or.inl ⟨by kernel_rfl, ?hyrcu27⟩) hHeld ?restrcu27
          case hyrcu27 => (intro w hSw; (try dsimp only at hSw); go_simp; first | done | with_reducible rfl)
          try simp only [Act.put, List.getElem_toArray, List.getElem_cons_zero, List.getElem_cons_succ, List.setIfInBounds_toArray, List.set_cons_zero, List.set_cons_succ]
          refine wpAnyH_take (i := 27) (oi := _) (v := ?vrcu28) rfl (by kernel_rfl) (by kernel_rfl) (by kernel_rfl) (fun _ _ _ h => h) (Or.inl ⟨by kernel_rfl, ?hyrcu28⟩) hHeld ?restrcu28
          case hyrcu28 => (intro w hSw; (try dsimp only at hSw); go_simp; first | done | with_reducible rfl)
          try simp only [Act.put, List.getElem_toArray, List.getElem_cons_zero, List.getElem_cons_succ, List.setIfInBounds_toArray, List.set_cons_zero, List.set_cons_succ]
          refine wpAnyH_take (i := 28) (oi := _) (v := ?vrcu29) rfl (by kernel_rfl) (by kernel_rfl) (by kernel_rfl) (fun _ _ _ h => h) (Or.inl ⟨by kernel_rfl, ?hyrcu29⟩) hHeld ?restrcu29
          case hyrcu29 => (intro w hSw; (try dsimp only at hSw); go_simp; first | done | with_reducible rfl)
          try simp only [Act.put, List.getElem_toArray, List.getElem_cons_zero, List.getElem_cons_succ, List.setIfInBounds_toArray, List.set_cons_zero, List.set_cons_succ]
          refine wpAnyH_take (i := 29) (oi := _) (v := ?vrcu30) rfl (by kernel_rfl) (by kernel_rfl) (by kernel_rfl) (fun _ _ _ h => h) (Or.inl ⟨by kernel_rfl, ?hyrcu30⟩) hHeld ?restrcu30
          case hyrcu30 => (intro w hSw; (try dsimp only at hSw); go_simp; first | done | with_reducible rfl)
          try simp only [Act.put, List.getElem_toArray, List.getElem_cons_zero, List.getElem_cons_succ, List.setIfInBounds_toArray, List.set_cons_zero, List.set_cons_succ]
          refine wpAnyH_take (i := 30) (oi := _) (v := ?vrcu31) rfl (by kernel_rfl) (by kernel_rfl) (by kernel_rfl) (fun _ _ _ h => h) (Or.inl ⟨by kernel_rfl, ?hyrcu31⟩) hHeld ?restrcu31
          case hyrcu31 => (intro w hSw; (try dsimp only at hSw); go_simp; first | done | with_reducible rfl)
          try simp only [Act.put, List.getElem_toArray, List.getElem_cons_zero, List.getElem_cons_succ, List.setIfInBounds_toArray, List.set_cons_zero, List.set_cons_succ]
          refine wpAnyH_take (i := 31) (oi := _) (v := ?vrcu32) rfl (by kernel_rfl) (by kernel_rfl) (by kernel_rfl) (fun _ _ _ h => h) (Or.inl ⟨by kernel_rfl, ?hyrcu32⟩) hHeld ?restrcu32
          case hyrcu32 => (intro w hSw; (try dsimp only at hSw); go_simp; first | done | with_reducible rfl)
          try simp only [Act.put, List.getElem_toArray, List.getElem_cons_zero, List.getElem_cons_succ, List.setIfInBounds_toArray, List.set_cons_zero, List.set_cons_succ]
          refine wpAnyH_take (i := 32) (oi := _) (v := ?vrcu33) rfl (by kernel_rfl) (by kernel_rfl) (by kernel_rfl) (fun _ _ _ h => h) (Or.inl ⟨by kernel_rfl, ?hyrcu33⟩) hHeld ?restrcu33
          case hyrcu33 => (intro w hSw; (try dsimp only at hSw); go_simp; first | done | with_reducible rfl)
          try simp only [Act.put, List.getElem_toArray, List.getElem_cons_zero, List.getElem_cons_succ, List.setIfInBounds_toArray, List.set_cons_zero, List.set_cons_succ]
          refine wpAnyH_take (i := 33) (oi := _) (v := ?vrcu34) rfl (by kernel_rfl) (by kernel_rfl) (by kernel_rfl) (fun _ _ _ h => h) (Or.inl ⟨by kernel_rfl, ?hyrcu34⟩) hHeld ?restrcu34
          case hyrcu34 => (intro w hSw; (try dsimp only at hSw); go_simp; first | done | with_reducible rfl)
          try simp only [Act.put, List.getElem_toArray, List.getElem_cons_zero, List.getElem_cons_succ, List.setIfInBounds_toArray, List.set_cons_zero, List.set_cons_succ]
          refine wpAnyH_take (i := 34) (oi := _) (v := ?vrcu35) rfl (by kernel_rfl) (by kernel_rfl) (by kernel_rfl) (fun _ _ _ h => h) (Or.inl ⟨by kernel_rfl, ?hyrcu35⟩) hHeld ?restrcu35
          case hyrcu35 => (intro w hSw; (try dsimp only at hSw); go_simp; first | done | with_reducible rfl)
          try simp only [Act.put, List.getElem_toArray, List.getElem_cons_zero, List.getElem_cons_succ, List.setIfInBounds_toArray, List.set_cons_zero, List.set_cons_succ]
          refine wpAnyH_take (i := 35) (oi := _) (v := ?vrcu36) rfl (by kernel_rfl) (by kernel_rfl) (by kernel_rfl) (fun _ _ _ h => h) (Or.inl ⟨by kernel_rfl, ?hyrcu36⟩) hHeld ?restrcu36
          case hyrcu36 => (intro w hSw; (try dsimp only at hSw); go_simp; first | done | with_reducible rfl)
          try simp only [Act.put, List.getElem_toArray, List.getElem_cons_zero, List.getElem_cons_succ, List.setIfInBounds_toArray, List.set_cons_zero, List.set_cons_succ]
          refine wpAnyH_take (i := 36) (oi := _) (v := ?vrcu37) rfl (by kernel_rfl) (by kernel_rfl) (by kernel_rfl) (fun _ _ _ h => h) (Or.inl ⟨by kernel_rfl, ?hyrcu37⟩) hHeld ?restrcu37
          case hyrcu37 => (intro w hSw; (try dsimp only at hSw); go_simp; first | done | with_reducible rfl)
          try simp only [Act.put, List.getElem_toArray, List.getElem_cons_zero, List.getElem_cons_succ, List.setIfInBounds_toArray, List.set_cons_zero, List.set_cons_succ]
          refine wpAnyH_take (i := 37) (oi := _) (v := ?vrcu38) rfl (by kernel_rfl) (by kernel_rfl) (by kernel_rfl) (fun _ _ _ h => h) (Or.inl ⟨by kernel_rfl, ?hyrcu38⟩) hHeld ?restrcu38
          case hyrcu38 => (intro w hSw; (try dsimp only at hSw); go_simp; first | done | with_reducible rfl)
          try simp only [Act.put, List.getElem_toArray, List.getElem_cons_zero, List.getElem_cons_succ, List.setIfInBounds_toArray, List.set_cons_zero, List.set_cons_succ]
          refine wpAnyH_take (i := 38) (oi := _) (v := ?vrcu39) rfl (by kernel_rfl) (by kernel_rfl) (by kernel_rfl) (fun _ _ _ h => h) (Or.inl ⟨by kernel_rfl, ?hyrcu39⟩) hHeld ?restrcu39
          case hyrcu39 => (intro w hSw; (try dsimp only at hSw); go_simp; first | done | with_reducible rfl)
          try simp only [Act.put, List.getElem_toArray, List.getElem_cons_zero, List.getElem_cons_succ, List.setIfInBounds_toArray, List.set_cons_zero, List.set_cons_succ]
          refine wpAnyH_take (i := 39) (oi := _) (v := ?vrcu40) rfl (by kernel_rfl) (by kernel_rfl) (by kernel_rfl) (fun _ _ _ h => h) (Or.inl ⟨by kernel_rfl, ?hyrcu40⟩) hHeld ?restrcu40
          case hyrcu40 => (intro w hSw; (try dsimp only at hSw); go_simp; first | done | with_reducible rfl)
          try simp only [Act.put, List.getElem_toArray, List.getElem_cons_zero, List.getElem_cons_succ, List.setIfInBounds_toArray, List.set_cons_zero, List.set_cons_succ]
          refine wpAnyH_take (i := 40) (oi := _) (v := ?vrcu41) rfl (by kernel_rfl) (by kernel_rfl) (by kernel_rfl) (fun _ _ _ h => h) (Or.inl ⟨by kernel_rfl, ?hyrcu41⟩) hHeld ?restrcu41
          case hyrcu41 => (intro w hSw; (try dsimp only at hSw); go_simp; first | done | with_reducible rfl)
          try simp only [Act.put, List.getElem_toArray, List.getElem_cons_zero, List.getElem_cons_succ, List.setIfInBounds_toArray, List.set_cons_zero, List.set_cons_succ]
          refine wpAnyH_done (by kernel_rfl) ?_ _
          clear hHeld
          have bacc : Below (w52.alloc (.cells #[.int .i64 0, .slice (some ⟨gd, od, none⟩) k1 dD] 33)).heap.size (w52.alloc (.cells #[.int .i64 0, .slice (some ⟨gd, od, none⟩) k1 dD] 33)) (w52.alloc (.cells #[.int .i64 0, .slice (some ⟨gd, od, none⟩) k1 dD] 33)).drew := (Below.refl _ _).drew
          replace VA := VA.kept bacc
          replace VS := VS.kept bacc
          replace VB := VB.kept bacc
          replace VE := VE.kept bacc
          replace VD := VD.kept bacc
          replace R1 := R1.kept bacc
          replace OE := OE.kept bacc
          replace OD := OD.kept bacc
          replace B := thenB B bacc
          clear bacc K
          generalize (w52.alloc (.cells #[.int .i64 0, .slice (some ⟨gd, od, none⟩) k1 dD] 33)).drew = wd53 at *
          have Bf := Hid.mk B
          go_wp2
          go_ret
          exact ⟨rfl, Bf.out⟩
    · have hne : (csC xs ys != 0) = true := by simp [h0]
      obtain ⟨e1, e2⟩ := ch_none h0
      rw [e1, e2] at CR
      have CT := fun w h h' => specChoose_ok c1 c2 k1 d1 k2 d2 xs ys w h h' hk1 hk2 p1 p2 p3 p4
      rw [e1, e2] at CT
      obtain ⟨kA, hkA⟩ : ∃ m, (csL xs ys).length = m := ⟨_, rfl⟩
      rw [hkA] at CA
      have hfd := field_sr
      generalize csC xs ys = kc at *
      generalize csL xs ys = A at *
      have hcc : (kc == kc) = true := by simp
      replace CR := Hid.mk CR
      replace CA := Hid.mk CA
      replace CT := Hid.mk CT
      clear h0 e1 e2 hkA hk1 hk2 p1 p2 p3 p4
      have Bo := B
      go_wp2_with fail
      refine (CR.out _ R1 R2).mono ?_
      rintro e w71 ⟨rfl, b71⟩
      have S71 := b71.size
      replace R1 := R1.kept b71
      replace R2 := R2.kept b71
      replace B := thenB B b71
      clear b71
      have Bo := B
      replace R1 := R1.kept (belowA w71 (.cells #[.int .i64 kc, .int .i64 0, .int .i64 0, .int .i64 0, .int .i64 0, .int .i64 0] 30))
      replace R2 := R2.kept (belowA w71 (.cells #[.int .i64 kc, .int .i64 0, .int .i64 0, .int .i64 0, .int .i64 0, .int .i64 0] 30))
      replace B := thenB B (belowA w71 (.cells #[.int .i64 kc, .int .i64 0, .int .i64 0, .int .i64 0, .int .i64 0, .int .i64 0] 30))
      have VR := V.new w71 [.int .i64 kc, .int .i64 0, .int .i64 0, .int .i64 0, .int .i64 0, .int .i64 0] 30
      obtain ⟨s_VR, f_VR, z_VR⟩ := VR.open
      have Bo := B
      go_wp2_with fail
      refine (CA.out _ R1 R2).mono ?_
      rintro e w72 ⟨cA, dA, rfl, OA, b72⟩
      clear s_VR f_VR z_VR
      have S72 := b72.size
      simp only [World.size_alloc] at S72
      replace VR := VR.kept b72
      replace R1 := R1.kept b72
      replace R2 := R2.kept b72
      replace B := thenB B b72
      clear b72
      obtain ⟨s_VR, f_VR, z_VR⟩ := VR.open
      have Bo := B
      clear OA
      replace VR := VR.kept (belowA w72 (.cells #[.int .i64 kc, .slice cA kA dA] 33))
      replace R1 := R1.kept (belowA w72 (.cells #[.int .i64 kc, .slice cA kA dA] 33))
      replace R2 := R2.kept (belowA w72 (.cells #[.int .i64 kc, .slice cA kA dA] 33))
      replace B := thenB B (belowA w72 (.cells #[.int .i64 kc, .slice cA kA dA] 33))
      have VA := V.new w72 [.int .i64 kc, .slice cA kA dA] 33
      clear s_VR f_VR z_VR
      obtain ⟨s_VR, f_VR, z_VR⟩ := VR.open
      obtain ⟨s_VA, f_VA, z_VA⟩ := VA.open
      have Bo := B
      have RR1 := Hid.mk R1
      have RR2 := Hid.mk R2
      clear s_VR f_VR z_VR s_VA f_VA z_VA
      have K : ∀ w' : World, Below (w72.alloc (.cells #[.int .i64 kc, .slice cA kA dA] 33)).heap.size (w72.alloc (.cells #[.int .i64 kc, .slice cA kA dA] 33)) w' → (w'.cell? ⟨w71.heap.size, 0, none⟩ = some (.int .i64 kc) ∧ w'.cell? ⟨w71.heap.size, 1, none⟩ = some (.int .i64 0) ∧ w'.cell? ⟨w71.heap.size, 2, none⟩ = some (.int .i64 0) ∧ w'.cell? ⟨w71.heap.size, 3, none⟩ = some (.int .i64 0) ∧ w'.cell? ⟨w71.heap.size, 4, none⟩ = some (.int .i64 0) ∧ w'.cell? ⟨w71.heap.size, 5, none⟩ = some (.int .i64 0) ∧ w'.cell? ⟨w72.heap.size, 0, none⟩ = some (.int .i64 kc) ∧ w'.cell? ⟨w72.heap.size, 1, none⟩ = some (.slice cA kA dA)) := fun w' h => ⟨(VR.kept h).2.1 0 (by simp), (VR.kept h).2.1 1 (by simp), (VR.kept h).2.1 2 (by simp), (VR.kept h).2.1 3 (by simp), (VR.kept h).2.1 4 (by simp), (VR.kept h).2.1 5 (by simp), (VA.kept h).2.1 0 (by simp), (VA.kept h).2.1 1 (by simp)⟩
      have K := Hid.mk K
      obtain ⟨s_VR, f_VR, z_VR⟩ := VR.open
      obtain ⟨s_VA, f_VA, z_VA⟩ := VA.open
      go_upto_region 7 with fail
      clear s_VR f_VR z_VR s_VA f_VA z_VA
      refine wp_region_held_drew (S := (fun w' => w'.cell? ⟨w71.heap.size, 0, none⟩ = some (.int .i64 kc) ∧ w'.cell? ⟨w71.heap.size, 1, none⟩ = some (.int .i64 0) ∧ w'.cell? ⟨w71.heap.size, 2, none⟩ = some (.int .i64 0) ∧ w'.cell? ⟨w71.heap.size, 3, none⟩ = some (.int .i64 0) ∧ w'.cell? ⟨w71.heap.size, 4, none⟩ = some (.int .i64 0) ∧ w'.cell? ⟨w71.heap.size, 5, none⟩ = some (.int .i64 0) ∧ w'.cell? ⟨w72.heap.size, 0, none⟩ = some (.int .i64 kc) ∧ w'.cell? ⟨w72.heap.size, 1, none⟩ = some (.slice cA kA dA))) (by kernel_rfl) (K.out _ (Below.refl _ _).drew) (fun hHeld => ?_)
      refine wpAnyH_take (i := 0) (oi := _) (v := ?vrdu1) rfl (by kernel_rfl) (by kernel_rfl) (by kernel_rfl) (fun _ _ _ h => h) (Or.inl ⟨by kernel_rfl, ?hyrdu1⟩) hHeld ?restrdu1
      case hyrdu1 => (intro w hSw; (try dsimp only at hSw); go_simp; first | done | with_reducible rfl)
      try simp only [Act.put, List.getElem_toArray, List.getElem_cons_zero, List.setIfInBounds_toArray, List.set_cons_zero, List.set_cons_succ]
      refine wpAnyH_take (i := 1) (oi := _) (v := ?vrdu2) rfl (by kernel_rfl) (by kernel_rfl) (by kernel_rfl) (fun _ _ _ h => h) (Or.inl ⟨by kernel_rfl, ?hyrdu2⟩) hHeld ?restrdu2
      case hyrdu2 => (intro w hSw; (try dsimp only at hSw); go_simp; first | done | with_reducible rfl)
      try simp only [Act.put, List.getElem_toArray, List.getElem_cons_zero, List.getElem_cons_succ, List.setIfInBounds_toArray, List.set_cons_zero, List.set_cons_succ]
      refine wpAnyH_take (i := 4) (oi := _) (v := ?vrdu3) rfl (by kernel_rfl) (by kernel_rfl) (by kernel_rfl) (fun _ _ _ h => h) (Or.inl ⟨by kernel_rfl, ?hyrdu3⟩) hHeld ?restrdu3
      case hyrdu3 => (intro w hSw; (try dsimp only at hSw); go_simp; first | done | with_reducible rfl)
      try simp only [Act.put, List.getElem_toArray, List.getElem_cons_zero, List.getElem_cons_succ, List.setIfInBounds_toArray, List.set_cons_zero, List.set_cons_succ]
      refine wpAnyH_take (i := 5) (oi := _) (v := ?vrdu4) rfl (by kernel_rfl) (by kernel_rfl) (by kernel_rfl) (fun _ _ _ h => h) (Or.inl ⟨by kernel_rfl, ?hyrdu4⟩) hHeld ?restrdu4
      case hyrdu4 => (intro w hSw; (try dsimp only at hSw); go_simp; first | done | with_reducible rfl)
      try simp only [Act.put, List.getElem_toArray, List.getElem_cons_zero, List.getElem_cons_succ, List.setIfInBounds_toArray, List.set_cons_zero, List.set_cons_succ]
      refine wpAnyH_ready (rs := [2]) (by kernel_rfl) (by simp) ?_
      refine AllReadyH.cons (o := _) rfl (fun K0 hK0 => ?_) AllReadyH.nil
      go_simp
      go_at_call 16
      refine (CT.out _ (RR1.out.kept (Below.refl _ _).drew) (RR2.out.kept (Below.refl _ _).drew)).mono ?_
      rintro e wrdv5 ⟨rfl, brdv5⟩
      refine hK0.out _ _ (K.out _ (thenB (Below.refl _ _).drew brdv5)) (fun hHeld => ?_)
      clear hK0 K0
      try simp only [Act.put, List.getElem_toArray, List.getElem_cons_zero, List.getElem_cons_succ, List.setIfInBounds_toArray, List.set_cons_zero, List.set_cons_succ]
      refine wpAnyH_take (i := 3) (oi := _) (v := ?vrdu6) rfl (by kernel_rfl) (by kernel_rfl) (by kernel_rfl) (fun _ _ _ h => h) (Or.inl ⟨by kernel_rfl, ?hyrdu6⟩) hHeld ?restrdu6
      case hyrdu6 => (intro w hSw; (try dsimp only at hSw); go_simp; first | done | with_reducible rfl)
      try simp only [Act.put, List.getElem_toArray, List.getElem_cons_zero, List.getElem_cons_succ, List.setIfInBounds_toArray, List.set_cons_zero, List.set_cons_succ]
      refine wpAnyH_take (i := 6) (oi := _) (v := ?vrdu7) rfl (by kernel_rfl) (by kernel_rfl) (by kernel_rfl) (fun _ _ _ h => h) (Or.inl ⟨by kernel_rfl, ?hyrdu7⟩) hHeld ?restrdu7
      case hyrdu7 => (intro w hSw; (try dsimp only at hSw); go_simp; first | done | with_reducible rfl)
      try simp only [Act.put, List.getElem_toArray, List.getElem_cons_zero, List.getElem_cons_succ, List.setIfInBounds_toArray, List.set_cons_zero, List.set_cons_succ]
      refine wpAnyH_take (i := 7) (oi := _) (v := ?vrdu8) rfl (by kernel_rfl) (by kernel_rfl) (by kernel_rfl) (fun _ _ _ h => h) (Or.inl ⟨by kernel_rfl, ?hyrdu8⟩) hHeld ?restrdu8
      case hyrdu8 => (intro w hSw; (try dsimp only at hSw); go_simp; first | done | with_reducible rfl)
      try simp only [Act.put, List.getElem_toArray, List.getElem_cons_zero, List.getElem_cons_succ, List.setIfInBounds_toArray, List.set_cons_zero, List.set_cons_succ]
      refine wpAnyH_take (i := 8) (oi := _) (v := ?vrdu9) rfl (by kernel_rfl) (by kernel_rfl) (by kernel_rfl) (fun _ _ _ h => h) (Or.inl ⟨by kernel_rfl, ?hyrdu9⟩) hHeld ?restrdu9
      case hyrdu9 => (intro w hSw; (try dsimp only at hSw); go_simp; first | done | with_reducible rfl)
      try simp only [Act.put, List.getElem_toArray, List.getElem_cons_zero, List.getElem_cons_succ, List.setIfInBounds_toArray, List.set_cons_zero, List.set_cons_succ]
      refine wpAnyH_take (i := 9) (oi := _) (v := ?vrdu10) rfl (by kernel_rfl) (by kernel_rfl) (by kernel_rfl) (fun _ _ _ h => h) (Or.inl ⟨by kernel_rfl, ?hyrdu10⟩) hHeld ?restrdu10
      case hyrdu10 => (intro w hSw; (try dsimp only at hSw); go_simp; first | done | with_reducible rfl)
      try simp only [Act.put, List.getElem_toArray, List.getElem_cons_zero, List.getElem_cons_succ, List.setIfInBounds_toArray, List.set_cons_zero, List.set_cons_succ]
      refine wpAnyH_take (i := 10) (oi := _) (v := ?vrdu11) rfl (by kernel_rfl) (by kernel_rfl) (by kernel_rfl) (fun _ _ _ h => h) (Or.inl ⟨by kernel_rfl, ?hyrdu11⟩) hHeld ?restrdu11
      case hyrdu11 => (intro w hSw; (try dsimp only at hSw); go_simp; first | done | with_reducible rfl)
      try simp only [Act.put, List.getElem_toArray, List.getElem_cons_zero, List.getElem_cons_succ, List.setIfInBounds_toArray, List.set_cons_zero, List.set_cons_succ]
      refine wpAnyH_take (i := 11) (oi := _) (v := ?vrdu12) rfl (by kernel_rfl) (by kernel_rfl) (by kernel_rfl) (fun _ _ _ h => h) (Or.inl ⟨by kernel_rfl, ?hyrdu12⟩) hHeld ?restrdu12
      case hyrdu12 => (intro w hSw; (try dsimp only at hSw); go_simp; first | done | with_reducible rfl)
      try simp only [Act.put, List.getElem_toArray, List.getElem_cons_zero, List.getElem_cons_succ, List.setIfInBounds_toArray, List.set_cons_zero, List.set_cons_succ]
      refine wpAnyH_take (i := 12) (oi := _) (v := ?vrdu13) rfl (by kernel_rfl) (by kernel_rfl) (by kernel_rfl) (fun _ _ _ h => h) (Or.inl ⟨by kernel_rfl, ?hyrdu13⟩) hHeld ?restrdu13
      case hyrdu13 => (intro w hSw; (try dsimp only at hSw); go_simp; first | done | with_reducible rfl)
      try simp only [Act.put, List.getElem_toArray, List.getElem_cons_zero, List.getElem_cons_succ, List.setIfInBounds_toArray, List.set_cons_zero, List.set_cons_succ]
      refine wpAnyH_take (i := 13) (oi := _) (v := ?vrdu14) rfl (by kernel_rfl) (by kernel_rfl) (by kernel_rfl) (fun _ _ _ h => h) (Or.inl ⟨by kernel_rfl, ?hyrdu14⟩) hHeld ?restrdu14
      case hyrdu14 => (intro w hSw; (try dsimp only at hSw); go_simp; first | done | with_reducible rfl)
      try simp only [Act.put, List.getElem_toArray, List.getElem_cons_zero, List.getElem_cons_succ, List.setIfInBounds_toArray, List.set_cons_zero, List.set_cons_succ]
      refine wpAnyH_take (i := 14) (oi := _) (v := ?vrdu15) rfl (by kernel_rfl) (by kernel_rfl) (by kernel_rfl) (fun _ _ _ h => h) (Or.inl ⟨by kernel_rfl, ?hyrdu15⟩) hHeld ?restrdu15
      case hyrdu15 => (intro w hSw; (try dsimp only at hSw); go_simp; first | done | with_reducible rfl)
      try simp only [Act.put, List.getElem_toArray, List.getElem_cons_zero, List.getElem_cons_succ, List.setIfInBounds_toArray, List.set_cons_zero, List.set_cons_succ]
      refine wpAnyH_done (by kernel_rfl) ?_ _
      clear hHeld
      have bacc : Below (w72.alloc (.cells #[.int .i64 kc, .slice cA kA dA] 33)).heap.size (w72.alloc (.cells #[.int .i64 kc, .slice cA kA dA] 33)) wrdv5 := (thenB (Below.refl _ _).drew brdv5)
      replace VR := VR.kept bacc
      replace VA := VA.kept bacc
      replace R1 := R1.kept bacc
      replace R2 := R2.kept bacc
      replace B := thenB B bacc
      clear bacc K
      have Bf := Hid.mk B
      go_wp2
      go_ret
      exact ⟨rfl, Bf.out⟩
  · have hb2 : (1048576 : Int) < (n : Int) := by omega
    go_enter Try.func3, Try.ntmps3
    go_wp2_with (first | (go_at_call 12; go_in) | fail)
    go_ret
    exact ⟨rfl, Below.refl _ _⟩

end Go.Proofs.Ythaaompkcomfcaa
