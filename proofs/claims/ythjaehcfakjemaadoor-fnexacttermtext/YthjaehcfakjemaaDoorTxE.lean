/- A term's text: the program. -/
import Derived.Test.YthjaehcfakjemaaDoorTxD
import Derived.Test.YthjaehcfakjemaaDoorStrA
import Derived.Lib.AppendIntMem
import Derived.Lib.Join
import Derived.Deep.DeepCutAuto
namespace Go.Proofs.YthjaehcfakjemaaDoor
open Go.RowKit

theorem OwnSt.some {w : World} {base : Nat} {a : Option Addr} {cap : Nat} {zs : List ByteArray} (h : OwnSt w base a cap zs) (h0 : zs ≠ []) : ∃ g, a = Option.some ⟨g, 0, Option.none⟩ := by
  rcases h.2 with ⟨_, h1⟩ | ⟨g, cap', cur, hv, _⟩
  · exact absurd (List.length_eq_zero_iff.1 h1) h0
  · simp only [Value.slice.injEq] at hv
    exact ⟨g, hv.1⟩

theorem ownSt_none {w : World} {base : Nat} : OwnSt w base Option.none 0 [] := World.ownsRow_nil _ _ _ _

theorem join_one (A : ByteArray) : (⟨(Lib.join ([A].map (·.data.toList)) [44]).toArray⟩ : ByteArray) = A := by
  simp [Lib.join, List.intercalate]

theorem join_two (A D : ByteArray) : (⟨(Lib.join ([A, D].map (·.data.toList)) [44]).toArray⟩ : ByteArray) = A ++ ⟨#[44]⟩ ++ D := by
  apply ByteArray.ext
  simp [Lib.join, List.intercalate]

theorem join_size (A : ByteArray) : A.data.toList.length = A.size := by rw [Array.length_toList]; rfl

set_option maxRecDepth 20000 in
set_option maxHeartbeats 8000000 in
theorem termWords_ok (a : Option Addr) (n ca : Nat) (xs : List T4) (hv : tfC xs = 0) (hn : xs.length = n) : ∀ (k : Nat) (w : World), RdTerm w a xs → Lib.TabIs Tryd.prog w (Rows.fnExactTermTextRow.laid.getD 2 ("", .nil)).1 .u64 Lib.pow10Tab → k < n → (den xs k).sz ≤ 200 →
    Calls Tryd.prog 31 #[.slice a n ca, .int .i64 k] w fun e w' => e = .returned (.string (txt xs k)) ∧ Below w.heap.size w w' := by
  intro k
  induction k using Nat.strongRecOn with
  | _ k ih =>
  intro w ha htab hk hs
  have hT := Hid.mk (Lib.tabBelow_of_tabIs htab)
  obtain ⟨b1, o1, rfl⟩ := RdTerm.addr ha (by omega)
  have hkl : (k : Int) < (n : Int) := by omega
  obtain ⟨x, hx⟩ : ∃ x, xs.getD k zTerm = x := ⟨_, rfl⟩
  have CP := Hid.mk (fun w h => placesTold_ok (some ⟨b1, o1, none⟩) n ca xs hv hn k hk x hx w h)
  have W := Hid.mk (words_ways hv (by omega) hx hs)
  have HP := Hid.mk (plD_in hv (by omega) hx hs)
  have hm2 := plD_small xs x
  have hml := tsL_len xs x
  have HNX := Hid.mk (fun q h i hi => tsL_next xs x q h (i := i) hi)
  obtain ⟨p0, p1, p2, p3⟩ := RdTerm.at ha k (by omega) x hx
  have CI := Hid.mk (fun i (h : i < k) w h1 h2 h3 => ih i h w h1 h2 (by omega) h3)
  obtain ⟨m, hm⟩ : ∃ m, (plD xs x).length = m := ⟨_, rfl⟩
  have HM := Hid.mk hm
  rw [hm] at CP hm2 hml HNX
  replace hml := Hid.mk hml
  generalize plD xs x = ps at *
  generalize tsL xs x = ts at *
  generalize txt xs k = TX at *
  clear ih htab hv hn hx hs hm hk
  obtain ⟨o, ta, tb, nn⟩ := x
  simp only at p0 p1 p2 p3 CP W
  go_enter Tryd.func31, Tryd.ntmps31
  have B := Below.refl w.heap.size w
  have Bo := B
  replace ha := ha.kept (belowA w (.cells #[.int .i64 o, .int .i64 ta, .int .i64 tb, .int .i64 nn] 70))
  replace B := thenB B (belowA w (.cells #[.int .i64 o, .int .i64 ta, .int .i64 tb, .int .i64 nn] 70))
  have VT := V.new w [.int .i64 o, .int .i64 ta, .int .i64 tb, .int .i64 nn] 70
  obtain ⟨s_VT, f_VT, z_VT⟩ := VT.open
  have Bo := B
  go_wp2_with fail
  refine (CP.out _ ha).mono ?_
  rintro e w1 ⟨c, d, rfl, O, b1⟩
  clear s_VT f_VT z_VT
  have S1 := b1.size
  simp only [World.size_alloc] at S1
  replace VT := VT.kept b1
  replace ha := ha.kept b1
  replace B := thenB B b1
  clear b1
  obtain ⟨s_VT, f_VT, z_VT⟩ := VT.open
  have Bo := B
  have R := O.rd
  clear O
  clear s_VT f_VT z_VT
  have HV := Hid.mk VT
  have HA := Hid.mk ha
  have HR := Hid.mk R
  have HB := Hid.mk B
  clear VT ha R B Bo p0 p1 p2 p3
  go_wp2
  go_loopw [6, 17] (fun v i wr => ∃ (q : Nat) (c' : Option Addr) (d' : Nat), q ≤ m ∧ i = .int .i64 q ∧ v = .slice c' q d' ∧ OwnSt wr w1.heap.size c' d' (ts.take q) ∧ Below w1.heap.size w1 wr) (fun _ i _ => m - (intOf i).toNat)
  case atStart => exact ⟨0, none, 0, Nat.zero_le _, rfl, rfl, ownSt_none, Below.refl _ _⟩
  case round =>
    obtain ⟨q, c', d', hq, rfl, rfl, OS, B⟩ := hrel
    by_cases hlt : q < m
    · have hql : (q : Int) < (m : Int) := by omega
      obtain ⟨i, hi, hik, si⟩ := HP.out (ps.getD q 0) (igetD_mem (by rw [HM.out]; exact hlt))
      have hnx := Hid.mk (HNX.out q hlt i hi)
      have CA := Hid.mk (fun w h h2 => CI.out i hik w h h2 si)
      have R := HR.out.kept B
      obtain ⟨b2, o2, rfl, hc2⟩ := igetD_at R q (by rw [HM.out]; exact hlt)
      rw [hi] at hc2
      have hlen' : (ts.take q).length = q := by rw [List.length_take, hml.out]; omega
      clear R hi
      generalize txt xs i = A at *
      go_wp2_with fail
      refine (CA.out _ (HA.out.kept B) (hT.out _ (thenB HB.out B))).mono ?_
      rintro e w8 ⟨rfl, b8⟩
      replace OS := (OS.kept b8).kept (belowA w8 (.cells #[.string A] 9))
      replace B := thenB (thenB B b8) (belowA w8 (.cells #[.string A] 9))
      have hcA := cell_one w8 9 (.string A) 0 _ rfl
      replace hcA := Hid.mk hcA
      have hsz := B.size
      have OSl := Hid.mk OS.lt
      clear b8 hc2
      go_wp2_with (at_builtin; go_loud (refine wpList_putSt _ rfl _ _ rfl w1.heap.size c' d' (ts.take q) q hlen' rfl OS (⟨w8.heap.size, 0, none⟩) 1 A rfl hcA.out (by omega) hsz ?_))
      intro c6 d6 w6 O6 hg6 hx6
      have B6 := Hid.mk (belowG B hg6 hsz (fun b hb => (OSl.out b hb).1))
      have O6' := Hid.mk (hnx.out ▸ O6 : OwnSt w6 w1.heap.size c6 d6 (ts.take (q + 1)))
      clear OS B hcA O6 hg6 hx6 OSl
      go_wp2
      go_roundw
      case rel => exact ⟨q + 1, c6, d6, by omega, by go_num, rfl, O6'.out, B6.out⟩
      case measure => simp [intOf]; omega
    · obtain rfl : q = m := by omega
      rw [List.take_of_length_le (by rw [hml.out]; exact Nat.le_refl _)] at OS
      have VT := HV.out.kept B
      have BF := Hid.mk (thenB HB.out B)
      clear B HR CP HNX CI HP
      rcases W.out with ⟨rfl, ⟨n0, n9⟩, hT2⟩ | ⟨rfl, ⟨n0, n9⟩, hT2⟩ | ⟨A, sA, rfl, rfl, hT2⟩ | ⟨A, D, sA, sD, rfl, ⟨rfl, hT2⟩ | ⟨rfl, hT2⟩ | ⟨rfl, hT2⟩ | ⟨rfl, hT2⟩⟩
      · skip
        have CD := Hid.mk (decimal_ok nn n0 (by omega) wr (hT.out _ BF.out))
        have sD := dcB_size n0 (by omega)
        subst hT2
        have z1 : ¬ 9223372036854775807 < 1 + (dcB nn).size := by omega
        clear n0 n9 sD OS W
        obtain ⟨s_VT, f_VT, z_VT⟩ := VT.open
        go_wp2_with fail
        refine CD.out.mono ?_
        rintro e w8 ⟨rfl, b8⟩
        have B8 := Hid.mk (thenB BF.out b8)
        clear b8
        go_wp2
        go_ret
        exact ⟨rfl, B8.out⟩
      · skip
        have CD := Hid.mk (decimal_ok nn n0 (by omega) wr (hT.out _ BF.out))
        have sD := dcB_size n0 (by omega)
        subst hT2
        have z1 : ¬ 9223372036854775807 < 1 + (dcB nn).size := by omega
        clear n0 n9 sD OS W
        obtain ⟨s_VT, f_VT, z_VT⟩ := VT.open
        go_wp2_with fail
        refine CD.out.mono ?_
        rintro e w8 ⟨rfl, b8⟩
        have B8 := Hid.mk (thenB BF.out b8)
        clear b8
        go_wp2
        go_ret
        exact ⟨rfl, B8.out⟩
      · skip
        obtain ⟨gg, rfl⟩ := OS.some (by simp)
        have hjl : (Lib.join ([A].map (·.data.toList)) (⟨#[44]⟩ : ByteArray).data.toList).length ≤ 140737488355328 := by
          simp only [Lib.join, List.intercalate, List.map_cons, List.map_nil, List.intersperse, List.flatten_cons, List.flatten_nil, List.length_append, List.length_nil, join_size]
          omega
        have CJ := Hid.mk (join_any gg 0 d' [A] ⟨#[44]⟩ wr OS.cells (OS.lt _ rfl).2 (by simp) OS.cap hjl)
        rw [join_one] at CJ
        have hq2 : q = 1 := by have := hml.out; simpa using this.symm
        subst hq2
        subst hT2
        have sJ : A.size ≤ 9601 := by omega
        skip
        have z1 : ¬ 9223372036854775807 < 2 + A.size := by omega
        have z2 : ¬ 9223372036854775807 < 2 + A.size + 1 := by omega
        clear hjl OS W sJ sA
        obtain ⟨s_VT, f_VT, z_VT⟩ := VT.open
        go_wp2_with fail
        refine CJ.out.mono ?_
        rintro e w8 ⟨rfl, b8⟩
        have B8 := Hid.mk (thenB BF.out b8)
        clear b8
        go_wp2
        go_ret
        exact ⟨rfl, B8.out⟩
      · skip
        obtain ⟨gg, rfl⟩ := OS.some (by simp)
        have hjl : (Lib.join ([A, D].map (·.data.toList)) (⟨#[44]⟩ : ByteArray).data.toList).length ≤ 140737488355328 := by
          simp only [Lib.join, List.intercalate, List.map_cons, List.map_nil, List.intersperse, List.flatten_cons, List.flatten_nil, List.length_append, List.length_cons, List.length_nil, join_size]
          omega
        have CJ := Hid.mk (join_any gg 0 d' [A, D] ⟨#[44]⟩ wr OS.cells (OS.lt _ rfl).2 (by simp) OS.cap hjl)
        rw [join_two] at CJ
        have hq2 : q = 2 := by have := hml.out; simpa using this.symm
        subst hq2
        subst hT2
        generalize hJ : A ++ ⟨#[44]⟩ ++ D = J at *
        have sJ : J.size ≤ 9601 := by rw [← hJ]; rw [ByteArray.size_append, ByteArray.size_append]; have h7 : ((⟨#[44]⟩ : ByteArray)).size = 1 := rfl; omega
        replace hJ := Hid.mk hJ
        have z1 : ¬ 9223372036854775807 < 1 + J.size := by omega
        have z2 : ¬ 9223372036854775807 < 1 + J.size + 1 := by omega
        clear hjl OS W sJ sA sD
        obtain ⟨s_VT, f_VT, z_VT⟩ := VT.open
        go_wp2_with fail
        refine CJ.out.mono ?_
        rintro e w8 ⟨rfl, b8⟩
        have B8 := Hid.mk (thenB BF.out b8)
        clear b8
        go_wp2
        go_ret
        exact ⟨by rw [hJ.out]; rfl, B8.out⟩
      · skip
        obtain ⟨gg, rfl⟩ := OS.some (by simp)
        have hjl : (Lib.join ([A, D].map (·.data.toList)) (⟨#[44]⟩ : ByteArray).data.toList).length ≤ 140737488355328 := by
          simp only [Lib.join, List.intercalate, List.map_cons, List.map_nil, List.intersperse, List.flatten_cons, List.flatten_nil, List.length_append, List.length_cons, List.length_nil, join_size]
          omega
        have CJ := Hid.mk (join_any gg 0 d' [A, D] ⟨#[44]⟩ wr OS.cells (OS.lt _ rfl).2 (by simp) OS.cap hjl)
        rw [join_two] at CJ
        have hq2 : q = 2 := by have := hml.out; simpa using this.symm
        subst hq2
        subst hT2
        generalize hJ : A ++ ⟨#[44]⟩ ++ D = J at *
        have sJ : J.size ≤ 9601 := by rw [← hJ]; rw [ByteArray.size_append, ByteArray.size_append]; have h7 : ((⟨#[44]⟩ : ByteArray)).size = 1 := rfl; omega
        replace hJ := Hid.mk hJ
        have z1 : ¬ 9223372036854775807 < 2 + J.size := by omega
        have z2 : ¬ 9223372036854775807 < 2 + J.size + 1 := by omega
        clear hjl OS W sJ sA sD
        obtain ⟨s_VT, f_VT, z_VT⟩ := VT.open
        go_wp2_with fail
        refine CJ.out.mono ?_
        rintro e w8 ⟨rfl, b8⟩
        have B8 := Hid.mk (thenB BF.out b8)
        clear b8
        go_wp2
        go_ret
        exact ⟨by rw [hJ.out]; rfl, B8.out⟩
      · skip
        obtain ⟨gg, rfl⟩ := OS.some (by simp)
        have hq2 : q = 2 := by have := hml.out; simpa using this.symm
        subst hq2
        have c0 := OS.cells 0 A rfl
        have c1 := OS.cells 1 D rfl
        simp only [Nat.zero_add] at c0 c1
        subst hT2
        have z1 : ¬ 9223372036854775807 < 1 + D.size := by omega
        have z2 : ¬ 9223372036854775807 < 1 + D.size + 1 := by omega
        have z3 : ¬ 9223372036854775807 < 1 + D.size + 1 + A.size := by omega
        clear sA sD OS W
        obtain ⟨s_VT, f_VT, z_VT⟩ := VT.open
        go_wp2_with fail
        go_quiet (fail)
        have B8 := Hid.mk (belowN BF.out nq)
        go_wp2
        go_ret
        exact ⟨rfl, B8.out⟩
      · skip
        obtain ⟨gg, rfl⟩ := OS.some (by simp)
        have hjl : (Lib.join ([A, D].map (·.data.toList)) (⟨#[44]⟩ : ByteArray).data.toList).length ≤ 140737488355328 := by
          simp only [Lib.join, List.intercalate, List.map_cons, List.map_nil, List.intersperse, List.flatten_cons, List.flatten_nil, List.length_append, List.length_cons, List.length_nil, join_size]
          omega
        have CJ := Hid.mk (join_any gg 0 d' [A, D] ⟨#[44]⟩ wr OS.cells (OS.lt _ rfl).2 (by simp) OS.cap hjl)
        rw [join_two] at CJ
        have hq2 : q = 2 := by have := hml.out; simpa using this.symm
        subst hq2
        subst hT2
        generalize hJ : A ++ ⟨#[44]⟩ ++ D = J at *
        have sJ : J.size ≤ 9601 := by rw [← hJ]; rw [ByteArray.size_append, ByteArray.size_append]; have h7 : ((⟨#[44]⟩ : ByteArray)).size = 1 := rfl; omega
        replace hJ := Hid.mk hJ
        have z1 : ¬ 9223372036854775807 < 2 + J.size := by omega
        have z2 : ¬ 9223372036854775807 < 2 + J.size + 1 := by omega
        clear hjl OS W sJ sA sD
        obtain ⟨s_VT, f_VT, z_VT⟩ := VT.open
        go_wp2_with fail
        refine CJ.out.mono ?_
        rintro e w8 ⟨rfl, b8⟩
        have B8 := Hid.mk (thenB BF.out b8)
        clear b8
        go_wp2
        go_ret
        exact ⟨by rw [hJ.out]; rfl, B8.out⟩

end Go.Proofs.YthjaehcfakjemaaDoor
