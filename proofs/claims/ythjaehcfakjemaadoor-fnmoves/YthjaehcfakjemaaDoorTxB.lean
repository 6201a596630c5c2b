/- A term's text: the model. -/
import Derived.Test.YthjaehcfakjemaaDoorFmb
import Derived.Test.YthjaehcfakjemaaDoorFill
import Derived.Test.YthjaehcfakjemaaDoorVar
import Derived.Test.YthjaehcfakjemaaDoorTmQ
import Derived.Deep.DeepCutAuto
namespace Go.Proofs.YthjaehcfakjemaaDoor
open Go.RowKit

theorem digN_ok (n : Int) (h0 : 0 ≤ n) (h1 : n ≤ 9999) (w : World) : Calls Tryd.prog 65 #[.int .i64 n] w fun e w' => e = .returned (.string (dcB n)) ∧ Below w.heap.size w w' := by
  obtain ⟨m, rfl⟩ := Int.eq_ofNat_of_zero_le h0
  have h := digits_ok m (by omega) w
  have e2 : (⟨(Lib.decDigits m).toArray⟩ : ByteArray) = dcB (m : Int) := by unfold dcB; rw [Int.toNat_natCast]
  rw [e2] at h
  exact h

set_option maxRecDepth 20000 in
set_option maxHeartbeats 8000000 in
theorem l5Text_ok (a : Option Addr) (n ca : Nat) (xs : List T4) (hv : tfC xs = 0) (hn : xs.length = n) : ∀ (k : Nat) (w : World), RdTerm w a xs → k < n → (den xs k).sz ≤ 200 →
    Calls Tryd.prog 37 #[.slice a n ca, .int .i64 k] w fun e w' => e = .returned (.string (txt xs k)) ∧ Below w.heap.size w w' := by
  intro k
  induction k using Nat.strongRecOn with
  | _ k ih =>
  intro w ha hk hs
  obtain ⟨b1, o1, rfl⟩ := RdTerm.addr ha (by omega)
  have hkl : (k : Int) < (n : Int) := by omega
  obtain ⟨x, hx⟩ : ∃ x, xs.getD k zTerm = x := ⟨_, rfl⟩
  have HX := Hid.mk hx
  have HN := Hid.mk hn
  have W := txt_ways hv (by omega) hx hs
  have HS := Hid.mk (fun i (h : i < n) s => txt_size hv (k := i) (by omega) s)
  replace ih := Hid.mk ih
  clear hx hs hv
  obtain ⟨o, ta, tb, nn⟩ := x
  simp only at W
  rcases W with ⟨rfl, ⟨n0, n9⟩, hT⟩ | ⟨rfl, ⟨n0, n9⟩, hT⟩ | ⟨i, rfl, hik, si, rfl, hT⟩ | ⟨i, j, rfl, hik, si, rfl, hjk, sj, ⟨rfl, hT⟩ | ⟨rfl, hT⟩ | ⟨rfl, hT⟩ | ⟨rfl, hc, hT⟩ | ⟨rfl, hc, hT⟩⟩
  · skip
    rw [hT]
    clear hT
    have CD := Hid.mk (fun w => digN_ok nn n0 n9 w)
    have sD := dcB_size n0 (by omega)
    generalize dcB nn = A at *
    have z1 : ¬ 9223372036854775807 < 1 + A.size := by omega
    clear n0 n9 ih HS
    obtain ⟨p0, p1, p2, p3⟩ := RdTerm.at ha k (by have := HN.out; omega) ⟨1, ta, tb, nn⟩ HX.out
    simp only at p0 p1 p2 p3
    go_enter Tryd.func37, Tryd.ntmps37
    have B := Below.refl w.heap.size w
    have Bo := B
    replace ha := ha.kept (belowA w (.cells #[.int .i64 1, .int .i64 ta, .int .i64 tb, .int .i64 nn] 70))
    replace B := thenB B (belowA w (.cells #[.int .i64 1, .int .i64 ta, .int .i64 tb, .int .i64 nn] 70))
    have VT := V.new w [.int .i64 1, .int .i64 ta, .int .i64 tb, .int .i64 nn] 70
    obtain ⟨s_VT, f_VT, z_VT⟩ := VT.open
    have Bo := B
    go_wp2_with fail
    refine (CD.out _).mono ?_
    rintro e w1 ⟨rfl, b1⟩
    clear s_VT f_VT z_VT
    have S1 := b1.size
    simp only [World.size_alloc] at S1
    replace VT := VT.kept b1
    replace ha := ha.kept b1
    replace B := thenB B b1
    clear b1
    obtain ⟨s_VT, f_VT, z_VT⟩ := VT.open
    have Bo := B
    go_wp2
    go_ret
    exact ⟨rfl, Bo⟩
  · skip
    rw [hT]
    clear hT
    have CD := Hid.mk (fun w => digN_ok nn n0 n9 w)
    have sD := dcB_size n0 (by omega)
    generalize dcB nn = A at *
    have z1 : ¬ 9223372036854775807 < 1 + A.size := by omega
    clear n0 n9 ih HS
    obtain ⟨p0, p1, p2, p3⟩ := RdTerm.at ha k (by have := HN.out; omega) ⟨2, ta, tb, nn⟩ HX.out
    simp only at p0 p1 p2 p3
    go_enter Tryd.func37, Tryd.ntmps37
    have B := Below.refl w.heap.size w
    have Bo := B
    replace ha := ha.kept (belowA w (.cells #[.int .i64 2, .int .i64 ta, .int .i64 tb, .int .i64 nn] 70))
    replace B := thenB B (belowA w (.cells #[.int .i64 2, .int .i64 ta, .int .i64 tb, .int .i64 nn] 70))
    have VT := V.new w [.int .i64 2, .int .i64 ta, .int .i64 tb, .int .i64 nn] 70
    obtain ⟨s_VT, f_VT, z_VT⟩ := VT.open
    have Bo := B
    go_wp2_with fail
    refine (CD.out _).mono ?_
    rintro e w101 ⟨rfl, b101⟩
    clear s_VT f_VT z_VT
    have S101 := b101.size
    simp only [World.size_alloc] at S101
    replace VT := VT.kept b101
    replace ha := ha.kept b101
    replace B := thenB B b101
    clear b101
    obtain ⟨s_VT, f_VT, z_VT⟩ := VT.open
    have Bo := B
    go_wp2
    go_ret
    exact ⟨rfl, Bo⟩
  · skip
    rw [hT]
    clear hT
    have CA := Hid.mk (fun w h => ih.out i hik w h (by omega) si)
    have sA := HS.out i (by omega) si
    generalize txt xs i = A at *
    clear ih HS si
    have z1 : ¬ 9223372036854775807 < 2 + A.size := by omega
    have z2 : ¬ 9223372036854775807 < 2 + A.size + 1 := by omega
    clear sA
    obtain ⟨p0, p1, p2, p3⟩ := RdTerm.at ha k (by have := HN.out; omega) ⟨6, (i : Int), tb, nn⟩ HX.out
    simp only at p0 p1 p2 p3
    go_enter Tryd.func37, Tryd.ntmps37
    have B := Below.refl w.heap.size w
    have Bo := B
    replace ha := ha.kept (belowA w (.cells #[.int .i64 6, .int .i64 (i : Int), .int .i64 tb, .int .i64 nn] 70))
    replace B := thenB B (belowA w (.cells #[.int .i64 6, .int .i64 (i : Int), .int .i64 tb, .int .i64 nn] 70))
    have VT := V.new w [.int .i64 6, .int .i64 (i : Int), .int .i64 tb, .int .i64 nn] 70
    obtain ⟨s_VT, f_VT, z_VT⟩ := VT.open
    have Bo := B
    go_wp2_with fail
    refine (CA.out _ ha).mono ?_
    rintro e w201 ⟨rfl, b201⟩
    clear s_VT f_VT z_VT
    have S201 := b201.size
    simp only [World.size_alloc] at S201
    replace VT := VT.kept b201
    replace ha := ha.kept b201
    replace B := thenB B b201
    clear b201
    obtain ⟨s_VT, f_VT, z_VT⟩ := VT.open
    have Bo := B
    go_wp2
    go_ret
    exact ⟨rfl, Bo⟩
  · skip
    rw [hT]
    clear hT
    have CA := Hid.mk (fun w h => ih.out i hik w h (by omega) si)
    have sA := HS.out i (by omega) si
    have CB := Hid.mk (fun w h => ih.out j hjk w h (by omega) sj)
    have sB := HS.out j (by omega) sj
    generalize txt xs i = A at *
    generalize txt xs j = D at *
    clear ih HS si sj
    have z1 : ¬ 9223372036854775807 < 1 + A.size := by omega
    have z2 : ¬ 9223372036854775807 < 1 + A.size + 1 := by omega
    have z3 : ¬ 9223372036854775807 < 1 + A.size + 1 + D.size := by omega
    have z4 : ¬ 9223372036854775807 < 1 + A.size + 1 + D.size + 1 := by omega
    clear sA sB
    obtain ⟨p0, p1, p2, p3⟩ := RdTerm.at ha k (by have := HN.out; omega) ⟨3, (i : Int), (j : Int), nn⟩ HX.out
    simp only at p0 p1 p2 p3
    go_enter Tryd.func37, Tryd.ntmps37
    have B := Below.refl w.heap.size w
    have Bo := B
    replace ha := ha.kept (belowA w (.cells #[.int .i64 3, .int .i64 (i : Int), .int .i64 (j : Int), .int .i64 nn] 70))
    replace B := thenB B (belowA w (.cells #[.int .i64 3, .int .i64 (i : Int), .int .i64 (j : Int), .int .i64 nn] 70))
    have VT := V.new w [.int .i64 3, .int .i64 (i : Int), .int .i64 (j : Int), .int .i64 nn] 70
    obtain ⟨s_VT, f_VT, z_VT⟩ := VT.open
    have Bo := B
    go_wp2_with fail
    refine (CA.out _ ha).mono ?_
    rintro e w301 ⟨rfl, b301⟩
    clear s_VT f_VT z_VT
    have S301 := b301.size
    simp only [World.size_alloc] at S301
    replace VT := VT.kept b301
    replace ha := ha.kept b301
    replace B := thenB B b301
    clear b301
    obtain ⟨s_VT, f_VT, z_VT⟩ := VT.open
    have Bo := B
    go_wp2_with fail
    refine (CB.out _ ha).mono ?_
    rintro e w302 ⟨rfl, b302⟩
    clear s_VT f_VT z_VT
    have S302 := b302.size
    replace VT := VT.kept b302
    replace ha := ha.kept b302
    replace B := thenB B b302
    clear b302
    obtain ⟨s_VT, f_VT, z_VT⟩ := VT.open
    have Bo := B
    go_wp2
    go_ret
    exact ⟨rfl, Bo⟩
  · skip
    rw [hT]
    clear hT
    have CA := Hid.mk (fun w h => ih.out i hik w h (by omega) si)
    have sA := HS.out i (by omega) si
    have CB := Hid.mk (fun w h => ih.out j hjk w h (by omega) sj)
    have sB := HS.out j (by omega) sj
    generalize txt xs i = A at *
    generalize txt xs j = D at *
    clear ih HS si sj
    have z1 : ¬ 9223372036854775807 < 2 + A.size := by omega
    have z2 : ¬ 9223372036854775807 < 2 + A.size + 1 := by omega
    have z3 : ¬ 9223372036854775807 < 2 + A.size + 1 + D.size := by omega
    have z4 : ¬ 9223372036854775807 < 2 + A.size + 1 + D.size + 1 := by omega
    clear sA sB
    obtain ⟨p0, p1, p2, p3⟩ := RdTerm.at ha k (by have := HN.out; omega) ⟨4, (i : Int), (j : Int), nn⟩ HX.out
    simp only at p0 p1 p2 p3
    go_enter Tryd.func37, Tryd.ntmps37
    have B := Below.refl w.heap.size w
    have Bo := B
    replace ha := ha.kept (belowA w (.cells #[.int .i64 4, .int .i64 (i : Int), .int .i64 (j : Int), .int .i64 nn] 70))
    replace B := thenB B (belowA w (.cells #[.int .i64 4, .int .i64 (i : Int), .int .i64 (j : Int), .int .i64 nn] 70))
    have VT := V.new w [.int .i64 4, .int .i64 (i : Int), .int .i64 (j : Int), .int .i64 nn] 70
    obtain ⟨s_VT, f_VT, z_VT⟩ := VT.open
    have Bo := B
    go_wp2_with fail
    refine (CA.out _ ha).mono ?_
    rintro e w401 ⟨rfl, b401⟩
    clear s_VT f_VT z_VT
    have S401 := b401.size
    simp only [World.size_alloc] at S401
    replace VT := VT.kept b401
    replace ha := ha.kept b401
    replace B := thenB B b401
    clear b401
    obtain ⟨s_VT, f_VT, z_VT⟩ := VT.open
    have Bo := B
    go_wp2_with fail
    refine (CB.out _ ha).mono ?_
    rintro e w402 ⟨rfl, b402⟩
    clear s_VT f_VT z_VT
    have S402 := b402.size
    replace VT := VT.kept b402
    replace ha := ha.kept b402
    replace B := thenB B b402
    clear b402
    obtain ⟨s_VT, f_VT, z_VT⟩ := VT.open
    have Bo := B
    go_wp2
    go_ret
    exact ⟨rfl, Bo⟩
  · skip
    rw [hT]
    clear hT
    have CA := Hid.mk (fun w h => ih.out i hik w h (by omega) si)
    have sA := HS.out i (by omega) si
    have CB := Hid.mk (fun w h => ih.out j hjk w h (by omega) sj)
    have sB := HS.out j (by omega) sj
    generalize txt xs i = A at *
    generalize txt xs j = D at *
    clear ih HS si sj
    have z1 : ¬ 9223372036854775807 < 1 + D.size := by omega
    have z2 : ¬ 9223372036854775807 < 1 + D.size + 1 := by omega
    have z3 : ¬ 9223372036854775807 < 1 + D.size + 1 + A.size := by omega
    have z4 : ¬ 9223372036854775807 < 1 + D.size + 1 + A.size + 1 := by omega
    clear sA sB
    obtain ⟨p0, p1, p2, p3⟩ := RdTerm.at ha k (by have := HN.out; omega) ⟨5, (i : Int), (j : Int), nn⟩ HX.out
    simp only at p0 p1 p2 p3
    go_enter Tryd.func37, Tryd.ntmps37
    have B := Below.refl w.heap.size w
    have Bo := B
    replace ha := ha.kept (belowA w (.cells #[.int .i64 5, .int .i64 (i : Int), .int .i64 (j : Int), .int .i64 nn] 70))
    replace B := thenB B (belowA w (.cells #[.int .i64 5, .int .i64 (i : Int), .int .i64 (j : Int), .int .i64 nn] 70))
    have VT := V.new w [.int .i64 5, .int .i64 (i : Int), .int .i64 (j : Int), .int .i64 nn] 70
    obtain ⟨s_VT, f_VT, z_VT⟩ := VT.open
    have Bo := B
    go_wp2_with fail
    refine (CA.out _ ha).mono ?_
    rintro e w501 ⟨rfl, b501⟩
    clear s_VT f_VT z_VT
    have S501 := b501.size
    simp only [World.size_alloc] at S501
    replace VT := VT.kept b501
    replace ha := ha.kept b501
    replace B := thenB B b501
    clear b501
    obtain ⟨s_VT, f_VT, z_VT⟩ := VT.open
    have Bo := B
    go_wp2_with fail
    refine (CB.out _ ha).mono ?_
    rintro e w502 ⟨rfl, b502⟩
    clear s_VT f_VT z_VT
    have S502 := b502.size
    replace VT := VT.kept b502
    replace ha := ha.kept b502
    replace B := thenB B b502
    clear b502
    obtain ⟨s_VT, f_VT, z_VT⟩ := VT.open
    have Bo := B
    go_wp2
    go_ret
    exact ⟨rfl, Bo⟩
  · skip
    rw [hT]
    clear hT
    have CA := Hid.mk (fun w h => ih.out i hik w h (by omega) si)
    have sA := HS.out i (by omega) si
    have CB := Hid.mk (fun w h => ih.out j hjk w h (by omega) sj)
    have sB := HS.out j (by omega) sj
    obtain ⟨yi, hyi⟩ : ∃ y, xs.getD i zTerm = y := ⟨_, rfl⟩
    obtain ⟨yj, hyj⟩ : ∃ y, xs.getD j zTerm = y := ⟨_, rfl⟩
    rw [hyi, hyj] at hc
    have hil : (i : Int) < (n : Int) := by omega
    have hjl : (j : Int) < (n : Int) := by omega
    replace hyi := Hid.mk hyi
    replace hyj := Hid.mk hyj
    replace hik := Hid.mk hik
    replace hjk := Hid.mk hjk
    generalize txt xs i = A at *
    generalize txt xs j = D at *
    clear ih HS si sj
    have z1 : ¬ 9223372036854775807 < 2 + D.size := by omega
    have z2 : ¬ 9223372036854775807 < 2 + D.size + 1 := by omega
    have z3 : ¬ 9223372036854775807 < 2 + D.size + 1 + A.size := by omega
    have z4 : ¬ 9223372036854775807 < 2 + D.size + 1 + A.size + 1 := by omega
    clear sA sB
    obtain ⟨p0, p1, p2, p3⟩ := RdTerm.at ha k (by have := HN.out; omega) ⟨7, (i : Int), (j : Int), nn⟩ HX.out
    simp only at p0 p1 p2 p3
    go_enter Tryd.func37, Tryd.ntmps37
    have B := Below.refl w.heap.size w
    have Bo := B
    replace ha := ha.kept (belowA w (.cells #[.int .i64 7, .int .i64 (i : Int), .int .i64 (j : Int), .int .i64 nn] 70))
    replace B := thenB B (belowA w (.cells #[.int .i64 7, .int .i64 (i : Int), .int .i64 (j : Int), .int .i64 nn] 70))
    have VT := V.new w [.int .i64 7, .int .i64 (i : Int), .int .i64 (j : Int), .int .i64 nn] 70
    obtain ⟨s_VT, f_VT, z_VT⟩ := VT.open
    have Bo := B
    go_wp2_with fail
    refine (CA.out _ ha).mono ?_
    rintro e w601 ⟨rfl, b601⟩
    clear s_VT f_VT z_VT
    have S601 := b601.size
    simp only [World.size_alloc] at S601
    replace VT := VT.kept b601
    replace ha := ha.kept b601
    replace B := thenB B b601
    clear b601
    obtain ⟨s_VT, f_VT, z_VT⟩ := VT.open
    have Bo := B
    go_wp2_with fail
    refine (CB.out _ ha).mono ?_
    rintro e w602 ⟨rfl, b602⟩
    clear s_VT f_VT z_VT
    have S602 := b602.size
    replace VT := VT.kept b602
    replace ha := ha.kept b602
    replace B := thenB B b602
    clear b602
    obtain ⟨s_VT, f_VT, z_VT⟩ := VT.open
    have Bo := B
    obtain ⟨r0, r1, r2, r3⟩ := RdTerm.at ha i (by have := HN.out; have := hik.out; omega) yi hyi.out
    obtain ⟨t0, t1, t2, t3⟩ := RdTerm.at ha j (by have := HN.out; have := hjk.out; omega) yj hyj.out
    clear r0 r1 r2 t0 t1 t2
    go_wp2_with fail
    go_quiet (fail)
    clear s_VT f_VT z_VT
    have bq := belowN (Below.refl (w602).heap.size (w602)) nq
    replace VT := VT.kept bq
    replace ha := ha.kept bq
    replace B := thenB B bq
    clear bq
    generalize World.drewN w602 nq = wn603 at *
    obtain ⟨s_VT, f_VT, z_VT⟩ := VT.open
    have Bo := B
    clear r3 t3
    go_wp2
    go_ret
    exact ⟨rfl, Bo⟩
  · skip
    rw [hT]
    clear hT
    have CA := Hid.mk (fun w h => ih.out i hik w h (by omega) si)
    have sA := HS.out i (by omega) si
    have CB := Hid.mk (fun w h => ih.out j hjk w h (by omega) sj)
    have sB := HS.out j (by omega) sj
    obtain ⟨yi, hyi⟩ : ∃ y, xs.getD i zTerm = y := ⟨_, rfl⟩
    obtain ⟨yj, hyj⟩ : ∃ y, xs.getD j zTerm = y := ⟨_, rfl⟩
    rw [hyi, hyj] at hc
    have hil : (i : Int) < (n : Int) := by omega
    have hjl : (j : Int) < (n : Int) := by omega
    replace hyi := Hid.mk hyi
    replace hyj := Hid.mk hyj
    replace hik := Hid.mk hik
    replace hjk := Hid.mk hjk
    generalize txt xs i = A at *
    generalize txt xs j = D at *
    clear ih HS si sj
    have z1 : ¬ 9223372036854775807 < 2 + A.size := by omega
    have z2 : ¬ 9223372036854775807 < 2 + A.size + 1 := by omega
    have z3 : ¬ 9223372036854775807 < 2 + A.size + 1 + D.size := by omega
    have z4 : ¬ 9223372036854775807 < 2 + A.size + 1 + D.size + 1 := by omega
    clear sA sB
    obtain ⟨p0, p1, p2, p3⟩ := RdTerm.at ha k (by have := HN.out; omega) ⟨7, (i : Int), (j : Int), nn⟩ HX.out
    simp only at p0 p1 p2 p3
    go_enter Tryd.func37, Tryd.ntmps37
    have B := Below.refl w.heap.size w
    have Bo := B
    replace ha := ha.kept (belowA w (.cells #[.int .i64 7, .int .i64 (i : Int), .int .i64 (j : Int), .int .i64 nn] 70))
    replace B := thenB B (belowA w (.cells #[.int .i64 7, .int .i64 (i : Int), .int .i64 (j : Int), .int .i64 nn] 70))
    have VT := V.new w [.int .i64 7, .int .i64 (i : Int), .int .i64 (j : Int), .int .i64 nn] 70
    obtain ⟨s_VT, f_VT, z_VT⟩ := VT.open
    have Bo := B
    go_wp2_with fail
    refine (CA.out _ ha).mono ?_
    rintro e w701 ⟨rfl, b701⟩
    clear s_VT f_VT z_VT
    have S701 := b701.size
    simp only [World.size_alloc] at S701
    replace VT := VT.kept b701
    replace ha := ha.kept b701
    replace B := thenB B b701
    clear b701
    obtain ⟨s_VT, f_VT, z_VT⟩ := VT.open
    have Bo := B
    go_wp2_with fail
    refine (CB.out _ ha).mono ?_
    rintro e w702 ⟨rfl, b702⟩
    clear s_VT f_VT z_VT
    have S702 := b702.size
    replace VT := VT.kept b702
    replace ha := ha.kept b702
    replace B := thenB B b702
    clear b702
    obtain ⟨s_VT, f_VT, z_VT⟩ := VT.open
    have Bo := B
    obtain ⟨r0, r1, r2, r3⟩ := RdTerm.at ha i (by have := HN.out; have := hik.out; omega) yi hyi.out
    obtain ⟨t0, t1, t2, t3⟩ := RdTerm.at ha j (by have := HN.out; have := hjk.out; omega) yj hyj.out
    clear r0 r1 r2 t0 t1 t2
    go_wp2_with fail
    go_quiet (fail)
    clear s_VT f_VT z_VT
    have bq := belowN (Below.refl (w702).heap.size (w702)) nq
    replace VT := VT.kept bq
    replace ha := ha.kept bq
    replace B := thenB B bq
    clear bq
    generalize World.drewN w702 nq = wn703 at *
    obtain ⟨s_VT, f_VT, z_VT⟩ := VT.open
    have Bo := B
    clear r3 t3
    go_wp2
    go_ret
    exact ⟨rfl, Bo⟩

end Go.Proofs.YthjaehcfakjemaaDoor
