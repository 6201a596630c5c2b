/- The model's proofs and children: straight runs of puts. -/
import Derived.Test.YthkmoabkeblbjaaKyC
namespace Go.Proofs.Ythkmoabkeblbjaa
open Go.RowKit

theorem MkB.lt {w : World} {base Q : Nat} {m : Mk} (h : MkB w base Q m) : Q < w.heap.size := by
  obtain ⟨_, _, hV, _⟩ := h
  exact hV.1

theorem Rd.litI (w : World) (zs : List Int) : Rd .i64 (w.alloc (.cells (zs.map (Value.int .i64)).toArray 2)) (some ⟨w.heap.size, 0, none⟩) zs := by
  refine .inr ⟨_, _, rfl, fun i hi => ?_⟩
  rw [World.cell?_alloc_at _ _ _ _ rfl]
  simp [List.getD, hi]

theorem ne_lit {w : World} {Q : Nat} (h : Q < w.heap.size) : ∀ b : Addr, (some ⟨w.heap.size, 0, none⟩ : Option Addr) = some b → b.block ≠ Q := by
  intro b hb
  simp only [Option.some.injEq] at hb
  subst hb
  simp only
  omega

/-- The name 9 and the shared secret; the key and the name; a proof. -/
def prA (m : Mk) (shared : Int) : Mk × Int := mk2 (mkPut m ⟨1, 0, 0, 9⟩) 4 shared (mkAt m ⟨1, 0, 0, 9⟩)
def prB (m : Mk) (key id : Int) : Mk × Int := mk2 (mkPut m ⟨1, 0, 0, id⟩) 4 key (mkAt m ⟨1, 0, 0, id⟩)
def prfL (m : Mk) (first nonce key id : Int) : Mk × Int := mkL (prB m key id).1 [first, nonce, (prB m key id).2]
def prP (m : Mk) (shared first nonce key id : Int) : Mk × Int := mk2 (prfL (prA m shared).1 first nonce key id).1 4 (prA m shared).2 (prfL (prA m shared).1 first nonce key id).2

/-- One of two children. -/
def chW (m : Mk) (k ni nr si sr : Int) : Mk × Int := mkL (mkW m [k, si, sr]).1 [ni, nr, (mkW m [k, si, sr]).2]
def chK (m : Mk) (k down ni nr si sr : Int) : Mk × Int := mk2 (chW m k ni nr si sr).1 4 down (chW m k ni nr si sr).2

set_option maxRecDepth 20000 in
set_option maxHeartbeats 4000000 in
theorem l9Proof_ok (base Q : Nat) (m : Mk) (shared first nonce key id : Int) (w : World) (h : MkB w base Q m) (hm : m.l.length ≤ 400) :
    Calls Try.prog 90 #[.pointer (some ⟨Q, 0, none⟩), .int .i64 shared, .int .i64 first, .int .i64 nonce, .int .i64 key, .int .i64 id] w fun e w' => e = .returned (.int .i64 (prP m shared first nonce key id).2) ∧ MkB w' base Q (prP m shared first nonce key id).1 ∧ w.grownBy w' (some Q) := by
  obtain ⟨m1, e1⟩ : ∃ P, mkPut m ⟨1, 0, 0, 9⟩ = P := ⟨_, rfl⟩
  obtain ⟨v1, f1⟩ : ∃ P, mkAt m ⟨1, 0, 0, 9⟩ = P := ⟨_, rfl⟩
  have hm1 : m1.l.length ≤ 400 := by rw [← e1]; exact mkPut_len hm _
  have C1 := Hid.mk (fun w h => l9Name_ok base Q m 9 w h hm)
  simp only [e1, f1] at C1
  obtain ⟨P2, e2⟩ : ∃ P, mk2 m1 4 shared v1 = P := ⟨_, rfl⟩
  have hm2 : P2.1.l.length ≤ 400 := by rw [← e2]; exact mk2_len hm1 _ _ _
  obtain ⟨m2, v2⟩ := P2
  simp only at hm2
  have C2 := Hid.mk (fun w h => l9Two_ok base Q m1 4 shared v1 w h hm1)
  simp only [e2] at C2
  obtain ⟨m3, e3⟩ : ∃ P, mkPut m2 ⟨1, 0, 0, id⟩ = P := ⟨_, rfl⟩
  obtain ⟨v3, f3⟩ : ∃ P, mkAt m2 ⟨1, 0, 0, id⟩ = P := ⟨_, rfl⟩
  have hm3 : m3.l.length ≤ 400 := by rw [← e3]; exact mkPut_len hm2 _
  have C3 := Hid.mk (fun w h => l9Name_ok base Q m2 id w h hm2)
  simp only [e3, f3] at C3
  obtain ⟨P4, e4⟩ : ∃ P, mk2 m3 4 key v3 = P := ⟨_, rfl⟩
  have hm4 : P4.1.l.length ≤ 400 := by rw [← e4]; exact mk2_len hm3 _ _ _
  obtain ⟨m4, v4⟩ := P4
  simp only at hm4
  have C4 := Hid.mk (fun w h => l9Two_ok base Q m3 4 key v3 w h hm3)
  simp only [e4] at C4
  obtain ⟨P6, e6⟩ : ∃ P, mkL m4 [first, nonce, v4] = P := ⟨_, rfl⟩
  have hm6 : P6.1.l.length ≤ 400 := by rw [← e6]; exact mkL_len hm4 _
  obtain ⟨m6, v6⟩ := P6
  simp only at hm6
  have C6 := Hid.mk (fun c w h hz hQ => l9List_ok base Q m4 c 3 3 [first, nonce, v4] w h hm4 hz rfl (by omega) (by omega) hQ)
  simp only [e6] at C6
  obtain ⟨P7, e7⟩ : ∃ P, mk2 m6 4 v2 v6 = P := ⟨_, rfl⟩
  have hm7 : P7.1.l.length ≤ 400 := by rw [← e7]; exact mk2_len hm6 _ _ _
  obtain ⟨m7, v7⟩ := P7
  simp only at hm7
  have C7 := Hid.mk (fun w h => l9Two_ok base Q m6 4 v2 v6 w h hm6)
  simp only [e7] at C7
  have E : prP m shared first nonce key id = (m7, v7) := by simp only [prP, prfL, prA, prB, e1, f1, e2, e3, f3, e4, e6, e7]
  rw [E]
  replace E := Hid.mk E
  clear e1 f1 e2 e3 f3 e4 e6 e7
  have M := h
  have G := World.grownBy.refl w (some Q)
  clear h
  go_enter Try.func90, Try.ntmps90
  go_wp2_with fail
  refine (C1.out _ M).mono ?_
  rintro e w1 ⟨rfl, M1, G1⟩
  replace G := grownBy_trans G G1
  have M := M1
  clear M1 G1
  go_wp2_with fail
  refine (C2.out _ M).mono ?_
  rintro e w2 ⟨rfl, M2, G2⟩
  replace G := grownBy_trans G G2
  have M := M2
  clear M2 G2
  go_wp2_with fail
  refine (C3.out _ M).mono ?_
  rintro e w3 ⟨rfl, M3, G3⟩
  replace G := grownBy_trans G G3
  have M := M3
  clear M3 G3
  go_wp2_with fail
  refine (C4.out _ M).mono ?_
  rintro e w4 ⟨rfl, M4, G4⟩
  replace G := grownBy_trans G G4
  have M := M4
  clear M4 G4
  have hq5 : Q < w4.heap.size := MkB.lt M
  have R5 := Rd.litI w4 [first, nonce, v4]
  replace M := M.kept (belowA w4 (.cells #[.int .i64 first, .int .i64 nonce, .int .i64 v4] 2))
  replace G := grown_alloc G (.cells #[.int .i64 first, .int .i64 nonce, .int .i64 v4] 2)
  have N5 := Hid.mk (ne_lit hq5)
  go_wp2_with fail
  refine (C6.out _ _ M R5 N5.out).mono ?_
  rintro e w6 ⟨rfl, M6, G6⟩
  replace G := grownBy_trans G G6
  have M := M6
  clear M6 G6
  go_wp2_with fail
  refine (C7.out _ M).mono ?_
  rintro e w7 ⟨rfl, M7, G7⟩
  replace G := grownBy_trans G G7
  have M := M7
  clear M7 G7
  have Mf := Hid.mk M
  have Gf := Hid.mk G
  clear M G
  go_wp2
  go_ret
  exact ⟨rfl, Mf.out, Gf.out⟩

set_option maxRecDepth 20000 in
set_option maxHeartbeats 4000000 in
theorem l9Child_ok (base Q : Nat) (m : Mk) (down ni nr si sr : Int) (w : World) (h : MkB w base Q m) (hm : m.l.length ≤ 400) :
    Calls Try.prog 100 #[.pointer (some ⟨Q, 0, none⟩), .int .i64 down, .int .i64 ni, .int .i64 nr, .int .i64 si, .int .i64 sr] w fun e w' => e = .returned (.tuple #[.int .i64 (chK m 4 down ni nr si sr).2, .int .i64 (chK (chK m 4 down ni nr si sr).1 5 down ni nr si sr).2]) ∧ MkB w' base Q (chK (chK m 4 down ni nr si sr).1 5 down ni nr si sr).1 ∧ w.grownBy w' (some Q) := by
  obtain ⟨P2, e2⟩ : ∃ P, mkW m [4, si, sr] = P := ⟨_, rfl⟩
  have hm2 : P2.1.l.length ≤ 400 := by rw [← e2]; exact mkW_len hm _
  obtain ⟨m2, v2⟩ := P2
  simp only at hm2
  have C2 := Hid.mk (fun c w h hz hQ => l9Names_ok base Q m c 3 3 [4, si, sr] w h hm hz rfl (by omega) (by omega) hQ)
  simp only [e2] at C2
  obtain ⟨P4, e4⟩ : ∃ P, mkL m2 [ni, nr, v2] = P := ⟨_, rfl⟩
  have hm4 : P4.1.l.length ≤ 400 := by rw [← e4]; exact mkL_len hm2 _
  obtain ⟨m4, v4⟩ := P4
  simp only at hm4
  have C4 := Hid.mk (fun c w h hz hQ => l9List_ok base Q m2 c 3 3 [ni, nr, v2] w h hm2 hz rfl (by omega) (by omega) hQ)
  simp only [e4] at C4
  obtain ⟨P5, e5⟩ : ∃ P, mk2 m4 4 down v4 = P := ⟨_, rfl⟩
  have hm5 : P5.1.l.length ≤ 400 := by rw [← e5]; exact mk2_len hm4 _ _ _
  obtain ⟨m5, v5⟩ := P5
  simp only at hm5
  have C5 := Hid.mk (fun w h => l9Two_ok base Q m4 4 down v4 w h hm4)
  simp only [e5] at C5
  obtain ⟨P7, e7⟩ : ∃ P, mkW m5 [5, si, sr] = P := ⟨_, rfl⟩
  have hm7 : P7.1.l.length ≤ 400 := by rw [← e7]; exact mkW_len hm5 _
  obtain ⟨m7, v7⟩ := P7
  simp only at hm7
  have C7 := Hid.mk (fun c w h hz hQ => l9Names_ok base Q m5 c 3 3 [5, si, sr] w h hm5 hz rfl (by omega) (by omega) hQ)
  simp only [e7] at C7
  obtain ⟨P9, e9⟩ : ∃ P, mkL m7 [ni, nr, v7] = P := ⟨_, rfl⟩
  have hm9 : P9.1.l.length ≤ 400 := by rw [← e9]; exact mkL_len hm7 _
  obtain ⟨m9, v9⟩ := P9
  simp only at hm9
  have C9 := Hid.mk (fun c w h hz hQ => l9List_ok base Q m7 c 3 3 [ni, nr, v7] w h hm7 hz rfl (by omega) (by omega) hQ)
  simp only [e9] at C9
  obtain ⟨P10, e10⟩ : ∃ P, mk2 m9 4 down v9 = P := ⟨_, rfl⟩
  have hm10 : P10.1.l.length ≤ 400 := by rw [← e10]; exact mk2_len hm9 _ _ _
  obtain ⟨m10, v10⟩ := P10
  simp only at hm10
  have C10 := Hid.mk (fun w h => l9Two_ok base Q m9 4 down v9 w h hm9)
  simp only [e10] at C10
  have E1 : (chK m 4 down ni nr si sr).2 = v5 := by simp only [chK, chW, e2, e4, e5]
  have E2 : chK (chK m 4 down ni nr si sr).1 5 down ni nr si sr = (m10, v10) := by simp only [chK, chW, e2, e4, e5, e7, e9, e10]
  rw [E1, E2]
  clear E1 E2 e2 e4 e5 e7 e9 e10
  have M := h
  have G := World.grownBy.refl w (some Q)
  clear h
  go_enter Try.func100, Try.ntmps100
  have hq1 : Q < w.heap.size := MkB.lt M
  have R1 := Rd.litI w [4, si, sr]
  replace M := M.kept (belowA w (.cells #[.int .i64 4, .int .i64 si, .int .i64 sr] 2))
  replace G := grown_alloc G (.cells #[.int .i64 4, .int .i64 si, .int .i64 sr] 2)
  have N1 := Hid.mk (ne_lit hq1)
  go_wp2_with fail
  refine (C2.out _ _ M R1 N1.out).mono ?_
  rintro e w2 ⟨rfl, M2, G2⟩
  replace G := grownBy_trans G G2
  have M := M2
  clear M2 G2
  have hq3 : Q < w2.heap.size := MkB.lt M
  have R3 := Rd.litI w2 [ni, nr, v2]
  replace M := M.kept (belowA w2 (.cells #[.int .i64 ni, .int .i64 nr, .int .i64 v2] 2))
  replace G := grown_alloc G (.cells #[.int .i64 ni, .int .i64 nr, .int .i64 v2] 2)
  have N3 := Hid.mk (ne_lit hq3)
  go_wp2_with fail
  refine (C4.out _ _ M R3 N3.out).mono ?_
  rintro e w4 ⟨rfl, M4, G4⟩
  replace G := grownBy_trans G G4
  have M := M4
  clear M4 G4
  go_wp2_with fail
  refine (C5.out _ M).mono ?_
  rintro e w5 ⟨rfl, M5, G5⟩
  replace G := grownBy_trans G G5
  have M := M5
  clear M5 G5
  have hq6 : Q < w5.heap.size := MkB.lt M
  have R6 := Rd.litI w5 [5, si, sr]
  replace M := M.kept (belowA w5 (.cells #[.int .i64 5, .int .i64 si, .int .i64 sr] 2))
  replace G := grown_alloc G (.cells #[.int .i64 5, .int .i64 si, .int .i64 sr] 2)
  have N6 := Hid.mk (ne_lit hq6)
  go_wp2_with fail
  refine (C7.out _ _ M R6 N6.out).mono ?_
  rintro e w7 ⟨rfl, M7, G7⟩
  replace G := grownBy_trans G G7
  have M := M7
  clear M7 G7
  have hq8 : Q < w7.heap.size := MkB.lt M
  have R8 := Rd.litI w7 [ni, nr, v7]
  replace M := M.kept (belowA w7 (.cells #[.int .i64 ni, .int .i64 nr, .int .i64 v7] 2))
  replace G := grown_alloc G (.cells #[.int .i64 ni, .int .i64 nr, .int .i64 v7] 2)
  have N8 := Hid.mk (ne_lit hq8)
  go_wp2_with fail
  refine (C9.out _ _ M R8 N8.out).mono ?_
  rintro e w9 ⟨rfl, M9, G9⟩
  replace G := grownBy_trans G G9
  have M := M9
  clear M9 G9
  go_wp2_with fail
  refine (C10.out _ M).mono ?_
  rintro e w10 ⟨rfl, M10, G10⟩
  replace G := grownBy_trans G G10
  have M := M10
  clear M10 G10
  have Mf := Hid.mk M
  have Gf := Hid.mk G
  clear M G
  go_wp2
  refine bodyPost_ret (v := .tuple #[.int .i64 v5, .int .i64 v10]) (by simp [results, Try.results100, go_sem]) rfl ⟨rfl, Mf.out, Gf.out⟩

end Go.Proofs.Ythkmoabkeblbjaa
