/- 'TtlDown', the model's and the program's, by contracts. -/
import Derived.Test.YthjaehcfakjemaaPrsS
import Derived.Test.YthjaehcfakjemaaBuild4
namespace Go.Proofs.Ythjaehcfakjemaa
open Go.RowKit
set_option maxRecDepth 40000

@[irreducible] def tdC (k l : Int) : Int := if k = 0 then (if l = 1 then 10 else 0) else k

theorem tdC_one : tdC 0 1 = 10 := by unfold tdC; simp
theorem tdC_more {l : Int} (h : l ≠ 1) : tdC 0 l = 0 := by unfold tdC; simp [h]
theorem tdC_code {k l : Int} (h : k ≠ 0) : tdC k l = k := by unfold tdC; simp [h]

theorem takeN_4 {zs : List Int} (hb : Bytes zs) (p : Nat) : 0 ≤ takeN zs p 4 ∧ takeN zs p 4 ≤ 4294967295 := by
  have h := takeN_bound zs hb p 4
  have e : (256 : Int) ^ 4 = 4294967296 := by decide
  rw [e] at h
  omega

theorem takeN_2 {zs : List Int} (hb : Bytes zs) (p : Nat) : 0 ≤ takeN zs p 2 ∧ takeN zs p 2 ≤ 65535 := by
  have h := takeN_bound zs hb p 2
  have e : (256 : Int) ^ 2 = 65536 := by decide
  rw [e] at h
  omega

/-- What is read without a code is a right packet. -/
theorem ps_right {zs : List Int} {F T r l x y : Int} {ys : List Int} (h : psIs zs 0 F T r l x y ys) (hb : Bytes zs) :
    (0 ≤ F ∧ F ≤ 4294967295) ∧ (0 ≤ T ∧ T ≤ 4294967295) ∧ (1 ≤ r ∧ r ≤ 255) ∧ (1 ≤ l ∧ l ≤ 255) ∧ (0 ≤ x ∧ x ≤ 65535) ∧ (0 ≤ y ∧ y ≤ 65535) ∧ (portsP r = false → x = 0 ∧ y = 0) ∧ ys.length ≤ 200 := by
  obtain ⟨hk, rfl, rfl, rfl, rfl, rfl, rfl, rfl⟩ := h
  simp only [z0_0, zl_0]
  have h9 := hb.at 9
  have h8 := hb.at 8
  rcases ps_cases zs with ⟨_, q⟩ | ⟨_, _, q⟩ | ⟨_, _, _, q⟩ | ⟨_, _, _, _, q⟩ | ⟨_, _, _, _, _, _, q⟩ | ⟨q1, q2, q3, q4, q5, q6, q⟩ | ⟨q1, q2, q3, q4, q5, q6, q⟩ | ⟨_, _, _, _, _, _, q⟩
  · have := q.out; omega
  · have := q.out; omega
  · have := q.out; omega
  · have := q.out; omega
  · have := q.out; omega
  · obtain ⟨e1, e2, e3⟩ := psX_yes q5
    rw [e1, e2, e3]
    have hl := hdB_len q1
    simp at q3 q4
    simp only [List.getD_eq_getElem?_getD] at h8 h9 ⊢
    exact ⟨takeN_4 hb 12, takeN_4 hb 16, by omega, by omega, takeN_2 hb 20, takeN_2 hb 22, (fun h => by simp only [List.getD_eq_getElem?_getD] at q5; rw [q5] at h; cases h), by rw [List.length_drop]; omega⟩
  · obtain ⟨e1, e2, e3⟩ := psX_no q5
    rw [e1, e2, e3]
    have hl := hdB_len q1
    simp at q3 q4
    simp only [List.getD_eq_getElem?_getD] at h8 h9 ⊢
    exact ⟨takeN_4 hb 12, takeN_4 hb 16, by omega, by omega, by decide, by decide, (by simp), by rw [List.length_drop]; omega⟩
  · have := q.out; omega

theorem pfC_right {f t r l x y : Int} {n : Nat} (hf : 0 ≤ f ∧ f ≤ 4294967295) (ht : 0 ≤ t ∧ t ≤ 4294967295) (hr : 1 ≤ r ∧ r ≤ 255) (hl : 1 ≤ l ∧ l ≤ 255) (hx : 0 ≤ x ∧ x ≤ 65535) (hy : 0 ≤ y ∧ y ≤ 65535) (hp : portsP r = false → x = 0 ∧ y = 0) (hn : n ≤ 200) : pfC f t r l x y n = 0 := by
  unfold pfC
  rw [if_pos (fitP_iff.2 ⟨hf, ht, hr, hl, hx, hy⟩), if_neg (by rintro ⟨h1, h2⟩; have := hp h1; omega), if_neg (by omega)]

set_option maxHeartbeats 2000000 in
theorem implTtlDown_ok (a : Option Addr) (n ca : Nat) (zs : List Int) (k F T r l x y : Int) (ys : List Int) (m : Nat) (hI : psIs zs k F T r l x y ys) (hm : ys.length = m) (w : World) (ha : Rd .u8 w a zs) (hb : Bytes zs) (hn : zs.length = n) (hx : n ≤ 1048576) (hca : n ≤ ca) :
    Calls Try.prog 17 #[.slice a n ca] w fun e w' => ∃ c d, e = .returned (.agg #[.int .i64 (tdC k l), .slice c (zl (tdC k l) (buildP F T r (l - 1) x y ys)).length d]) ∧ Own .u8 5 w' w.heap.size c d (zl (tdC k l) (buildP F T r (l - 1) x y ys)) ∧ Below w.heap.size w w' := by
  have C := Hid.mk (fun w ha => implParsePacket_ok a n ca zs k F T r l x y ys m hI hm w ha hb hn hx hca)
  by_cases hk : k = 0
  · subst hk
    obtain ⟨hF, hT, hr, hl, hx0, hy0, hp, hm2⟩ := ps_right hI hb
    rw [hm] at hm2
    by_cases hl1 : l = 1
    · subst hl1
      have ht := tdC_one
      rw [ht]
      simp only [zl_1 (show (10 : Int) ≠ 0 by decide)]
      clear hI
      go_enter Try.func17, Try.ntmps17
      have B := Below.refl w.heap.size w
      replace B := thenB B (belowA w (.cells #[.int .i64 0, .slice none 0 0] 31))
      have VR := V.new w [.int .i64 0, .slice none 0 0] 31
      go_wp2_with fail
      refine (C.out _ (ha.kept B)).mono ?_
      rintro e w1 ⟨c1, d1, rfl, O1, b1⟩
      have S1 := b1.size
      simp only [World.size_alloc] at S1
      replace VR := VR.kept b1
      replace B := thenB B b1
      clear b1
      obtain ⟨s_VR, f_VR, z_VR⟩ := VR.open
      have Bo := B
      replace VR := VR.kept (belowA w1 (.cells #[.int .i64 0, .int .i64 F, .int .i64 T, .int .i64 r, .int .i64 1, .int .i64 x, .int .i64 y, .slice c1 m d1] 28))
      replace O1 := O1.kept (belowA w1 (.cells #[.int .i64 0, .int .i64 F, .int .i64 T, .int .i64 r, .int .i64 1, .int .i64 x, .int .i64 y, .slice c1 m d1] 28))
      replace B := thenB B (belowA w1 (.cells #[.int .i64 0, .int .i64 F, .int .i64 T, .int .i64 r, .int .i64 1, .int .i64 x, .int .i64 y, .slice c1 m d1] 28))
      have V3 := V.new w1 [.int .i64 0, .int .i64 F, .int .i64 T, .int .i64 r, .int .i64 1, .int .i64 x, .int .i64 y, .slice c1 m d1] 28
      go_wp2
      refine bodyPost_ret (v := .agg #[.int .i64 10, .slice none 0 0]) (by first | (simp [results, Try.results17, go_sem]; done) | simp [results, Try.results17, go_sem, f_VR, s_VR]) rfl ⟨none, 0, rfl, ?_, ?_⟩
      · exact own_none
      · repeat' first | with_reducible exact Bo | with_reducible refine Below.setCell ?_ ?_ _ | with_reducible refine Below.alloc ?_ ?_ _ | (simp; try omega)
    · have ht := tdC_more hl1
      rw [ht]
      simp only [zl_0]
      have hle := length_buildP F T r (l - 1) x y ys
      rw [hm] at hle
      have hpl := portP_len r x y
      have hl2 : (l == 1) = false := by simp [hl1]
      have hl3 : 2 ≤ l := by omega
      have D := Hid.mk (fun c d w h h' => implBuildPacket_ok F T r (l - 1) x y c m d ys w h hm h')
      have h0 : pfC F T r (l - 1) x y m = 0 := pfC_right hF hT hr ⟨by omega, by omega⟩ hx0 hy0 hp hm2
      rw [h0] at D
      simp only [zl_0] at D
      generalize buildP F T r (l - 1) x y ys = Y at *
      obtain ⟨q, hq⟩ : ∃ q, Y.length = q := ⟨_, rfl⟩
      rw [hq] at D ⊢
      clear hI hle hq hpl hm
      go_enter Try.func17, Try.ntmps17
      have B := Below.refl w.heap.size w
      replace B := thenB B (belowA w (.cells #[.int .i64 0, .slice none 0 0] 31))
      have VR := V.new w [.int .i64 0, .slice none 0 0] 31
      go_wp2_with fail
      refine (C.out _ (ha.kept B)).mono ?_
      rintro e w1 ⟨c1, d1, rfl, O1, b1⟩
      have S1 := b1.size
      simp only [World.size_alloc] at S1
      replace VR := VR.kept b1
      replace B := thenB B b1
      clear b1
      obtain ⟨s_VR, f_VR, z_VR⟩ := VR.open
      have Bo := B
      replace VR := VR.kept (belowA w1 (.cells #[.int .i64 0, .int .i64 F, .int .i64 T, .int .i64 r, .int .i64 l, .int .i64 x, .int .i64 y, .slice c1 m d1] 28))
      replace O1 := O1.kept (belowA w1 (.cells #[.int .i64 0, .int .i64 F, .int .i64 T, .int .i64 r, .int .i64 l, .int .i64 x, .int .i64 y, .slice c1 m d1] 28))
      replace B := thenB B (belowA w1 (.cells #[.int .i64 0, .int .i64 F, .int .i64 T, .int .i64 r, .int .i64 l, .int .i64 x, .int .i64 y, .slice c1 m d1] 28))
      have V3 := V.new w1 [.int .i64 0, .int .i64 F, .int .i64 T, .int .i64 r, .int .i64 l, .int .i64 x, .int .i64 y, .slice c1 m d1] 28
      replace VR := VR.kept (belowA (w1.alloc (.cells #[.int .i64 0, .int .i64 F, .int .i64 T, .int .i64 r, .int .i64 l, .int .i64 x, .int .i64 y, .slice c1 m d1] 28)) (.cells #[.int .i64 F, .int .i64 T, .int .i64 r, .int .i64 (l - 1), .int .i64 x, .int .i64 y, .slice c1 m d1] 26))
      replace V3 := V3.kept (belowA (w1.alloc (.cells #[.int .i64 0, .int .i64 F, .int .i64 T, .int .i64 r, .int .i64 l, .int .i64 x, .int .i64 y, .slice c1 m d1] 28)) (.cells #[.int .i64 F, .int .i64 T, .int .i64 r, .int .i64 (l - 1), .int .i64 x, .int .i64 y, .slice c1 m d1] 26))
      replace O1 := O1.kept (belowA (w1.alloc (.cells #[.int .i64 0, .int .i64 F, .int .i64 T, .int .i64 r, .int .i64 l, .int .i64 x, .int .i64 y, .slice c1 m d1] 28)) (.cells #[.int .i64 F, .int .i64 T, .int .i64 r, .int .i64 (l - 1), .int .i64 x, .int .i64 y, .slice c1 m d1] 26))
      replace B := thenB B (belowA (w1.alloc (.cells #[.int .i64 0, .int .i64 F, .int .i64 T, .int .i64 r, .int .i64 l, .int .i64 x, .int .i64 y, .slice c1 m d1] 28)) (.cells #[.int .i64 F, .int .i64 T, .int .i64 r, .int .i64 (l - 1), .int .i64 x, .int .i64 y, .slice c1 m d1] 26))
      have V4 := V.new (w1.alloc (.cells #[.int .i64 0, .int .i64 F, .int .i64 T, .int .i64 r, .int .i64 l, .int .i64 x, .int .i64 y, .slice c1 m d1] 28)) [.int .i64 F, .int .i64 T, .int .i64 r, .int .i64 (l - 1), .int .i64 x, .int .i64 y, .slice c1 m d1] 26
      go_wp2_with fail
      refine (D.out c1 d1 _ O1.rd O1.nocap).mono ?_
      rintro e w2 ⟨c2, d2, rfl, O2, b2⟩
      clear s_VR f_VR z_VR
      have S2 := b2.size
      simp only [World.size_alloc] at S2
      replace VR := VR.kept b2
      replace V3 := V3.kept b2
      replace V4 := V4.kept b2
      replace O1 := O1.kept b2
      replace B := thenB B b2
      clear b2
      obtain ⟨s_VR, f_VR, z_VR⟩ := VR.open
      obtain ⟨s_V3, f_V3, z_V3⟩ := V3.open
      obtain ⟨s_V4, f_V4, z_V4⟩ := V4.open
      have Bo := B
      have OO := Hid.mk (O2.mono (base' := w1.heap.size) (by (try simp); (try omega)))
      clear O1 O2
      go_wp2
      refine bodyPost_ret (v := .agg #[.int .i64 0, .slice c2 q d2]) (by first | (simp [results, Try.results17, go_sem]; done) | simp [results, Try.results17, go_sem, f_VR]) rfl ⟨c2, d2, rfl, ?_, ?_⟩
      · refine Own.mono (base := w1.heap.size) ?_ (by (try simp); omega)
        repeat' first | with_reducible exact OO.out | with_reducible refine Own.below ?_ ?_ _ | with_reducible refine Own.alloc ?_ _ | (simp; try omega)
      · repeat' first | with_reducible exact Bo | with_reducible refine Below.setCell ?_ ?_ _ | with_reducible refine Below.alloc ?_ ?_ _ | (simp; try omega)
  · have ht := tdC_code (l := l) hk
    rw [ht]
    simp only [zl_1 hk]
    have hk1 : (k != 0) = true := by simp [hk]
    clear hI ht
    go_enter Try.func17, Try.ntmps17
    have B := Below.refl w.heap.size w
    replace B := thenB B (belowA w (.cells #[.int .i64 0, .slice none 0 0] 31))
    have VR := V.new w [.int .i64 0, .slice none 0 0] 31
    go_wp2_with fail
    refine (C.out _ (ha.kept B)).mono ?_
    rintro e w1 ⟨c1, d1, rfl, O1, b1⟩
    have S1 := b1.size
    simp only [World.size_alloc] at S1
    replace VR := VR.kept b1
    replace B := thenB B b1
    clear b1
    obtain ⟨s_VR, f_VR, z_VR⟩ := VR.open
    have Bo := B
    replace VR := VR.kept (belowA w1 (.cells #[.int .i64 k, .int .i64 F, .int .i64 T, .int .i64 r, .int .i64 l, .int .i64 x, .int .i64 y, .slice c1 m d1] 28))
    replace O1 := O1.kept (belowA w1 (.cells #[.int .i64 k, .int .i64 F, .int .i64 T, .int .i64 r, .int .i64 l, .int .i64 x, .int .i64 y, .slice c1 m d1] 28))
    replace B := thenB B (belowA w1 (.cells #[.int .i64 k, .int .i64 F, .int .i64 T, .int .i64 r, .int .i64 l, .int .i64 x, .int .i64 y, .slice c1 m d1] 28))
    have V3 := V.new w1 [.int .i64 k, .int .i64 F, .int .i64 T, .int .i64 r, .int .i64 l, .int .i64 x, .int .i64 y, .slice c1 m d1] 28
    go_wp2
    refine bodyPost_ret (v := .agg #[.int .i64 k, .slice none 0 0]) (by first | (simp [results, Try.results17, go_sem]; done) | simp [results, Try.results17, go_sem, f_VR, s_VR]) rfl ⟨none, 0, rfl, ?_, ?_⟩
    · exact own_none
    · repeat' first | with_reducible exact Bo | with_reducible refine Below.setCell ?_ ?_ _ | with_reducible refine Below.alloc ?_ ?_ _ | (simp; try omega)

set_option maxHeartbeats 2000000 in
theorem specTtlDown_ok (a : Option Addr) (n ca : Nat) (zs : List Int) (k F T r l x y : Int) (ys : List Int) (m : Nat) (hI : psIs zs k F T r l x y ys) (hm : ys.length = m) (w : World) (ha : Rd .u8 w a zs) (hb : Bytes zs) (hn : zs.length = n) (hx : n ≤ 1048576) (hca : n ≤ ca) :
    Calls Try.prog 18 #[.slice a n ca] w fun e w' => ∃ c d, e = .returned (.agg #[.int .i64 (tdC k l), .slice c (zl (tdC k l) (buildP F T r (l - 1) x y ys)).length d]) ∧ Own .u8 5 w' w.heap.size c d (zl (tdC k l) (buildP F T r (l - 1) x y ys)) ∧ Below w.heap.size w w' := by
  have C := Hid.mk (fun w ha => specParsePacket_ok a n ca zs k F T r l x y ys m hI hm w ha hb hn hx hca)
  by_cases hk : k = 0
  · subst hk
    obtain ⟨hF, hT, hr, hl, hx0, hy0, hp, hm2⟩ := ps_right hI hb
    rw [hm] at hm2
    by_cases hl1 : l = 1
    · subst hl1
      have ht := tdC_one
      rw [ht]
      simp only [zl_1 (show (10 : Int) ≠ 0 by decide)]
      clear hI
      go_enter Try.func18, Try.ntmps18
      have B := Below.refl w.heap.size w
      replace B := thenB B (belowA w (.cells #[.int .i64 0, .slice none 0 0] 31))
      have VR := V.new w [.int .i64 0, .slice none 0 0] 31
      go_wp2_with fail
      refine (C.out _ (ha.kept B)).mono ?_
      rintro e w1 ⟨c1, d1, rfl, O1, b1⟩
      have S1 := b1.size
      simp only [World.size_alloc] at S1
      replace VR := VR.kept b1
      replace B := thenB B b1
      clear b1
      obtain ⟨s_VR, f_VR, z_VR⟩ := VR.open
      have Bo := B
      replace VR := VR.kept (belowA w1 (.cells #[.int .i64 0, .int .i64 F, .int .i64 T, .int .i64 r, .int .i64 1, .int .i64 x, .int .i64 y, .slice c1 m d1] 28))
      replace O1 := O1.kept (belowA w1 (.cells #[.int .i64 0, .int .i64 F, .int .i64 T, .int .i64 r, .int .i64 1, .int .i64 x, .int .i64 y, .slice c1 m d1] 28))
      replace B := thenB B (belowA w1 (.cells #[.int .i64 0, .int .i64 F, .int .i64 T, .int .i64 r, .int .i64 1, .int .i64 x, .int .i64 y, .slice c1 m d1] 28))
      have V3 := V.new w1 [.int .i64 0, .int .i64 F, .int .i64 T, .int .i64 r, .int .i64 1, .int .i64 x, .int .i64 y, .slice c1 m d1] 28
      go_wp2
      refine bodyPost_ret (v := .agg #[.int .i64 10, .slice none 0 0]) (by first | (simp [results, Try.results18, go_sem]; done) | simp [results, Try.results18, go_sem, f_VR, s_VR]) rfl ⟨none, 0, rfl, ?_, ?_⟩
      · exact own_none
      · repeat' first | with_reducible exact Bo | with_reducible refine Below.setCell ?_ ?_ _ | with_reducible refine Below.alloc ?_ ?_ _ | (simp; try omega)
    · have ht := tdC_more hl1
      rw [ht]
      simp only [zl_0]
      have hle := length_buildP F T r (l - 1) x y ys
      rw [hm] at hle
      have hpl := portP_len r x y
      have hl2 : (l == 1) = false := by simp [hl1]
      have hl3 : 2 ≤ l := by omega
      have D := Hid.mk (fun c d w h h' => l2Build_ok F T r (l - 1) x y c m d ys w h hm h' hF hT ⟨by omega, hr.2⟩ ⟨by omega, by omega⟩ hx0 hy0 hm2)
      generalize buildP F T r (l - 1) x y ys = Y at *
      obtain ⟨q, hq⟩ : ∃ q, Y.length = q := ⟨_, rfl⟩
      rw [hq] at D ⊢
      clear hI hle hq hpl hm
      go_enter Try.func18, Try.ntmps18
      have B := Below.refl w.heap.size w
      replace B := thenB B (belowA w (.cells #[.int .i64 0, .slice none 0 0] 31))
      have VR := V.new w [.int .i64 0, .slice none 0 0] 31
      go_wp2_with fail
      refine (C.out _ (ha.kept B)).mono ?_
      rintro e w1 ⟨c1, d1, rfl, O1, b1⟩
      have S1 := b1.size
      simp only [World.size_alloc] at S1
      replace VR := VR.kept b1
      replace B := thenB B b1
      clear b1
      obtain ⟨s_VR, f_VR, z_VR⟩ := VR.open
      have Bo := B
      replace VR := VR.kept (belowA w1 (.cells #[.int .i64 0, .int .i64 F, .int .i64 T, .int .i64 r, .int .i64 (l - 1), .int .i64 x, .int .i64 y, .slice c1 m d1] 28))
      replace O1 := O1.kept (belowA w1 (.cells #[.int .i64 0, .int .i64 F, .int .i64 T, .int .i64 r, .int .i64 (l - 1), .int .i64 x, .int .i64 y, .slice c1 m d1] 28))
      replace B := thenB B (belowA w1 (.cells #[.int .i64 0, .int .i64 F, .int .i64 T, .int .i64 r, .int .i64 (l - 1), .int .i64 x, .int .i64 y, .slice c1 m d1] 28))
      have V3 := V.new w1 [.int .i64 0, .int .i64 F, .int .i64 T, .int .i64 r, .int .i64 (l - 1), .int .i64 x, .int .i64 y, .slice c1 m d1] 28
      go_wp2_with fail
      refine (D.out c1 d1 _ O1.rd O1.nocap).mono ?_
      rintro e w2 ⟨c2, d2, rfl, O2, b2⟩
      clear s_VR f_VR z_VR
      have S2 := b2.size
      simp only [World.size_alloc] at S2
      replace VR := VR.kept b2
      replace V3 := V3.kept b2
      replace O1 := O1.kept b2
      replace B := thenB B b2
      clear b2
      obtain ⟨s_VR, f_VR, z_VR⟩ := VR.open
      obtain ⟨s_V3, f_V3, z_V3⟩ := V3.open
      have Bo := B
      have OO := Hid.mk (O2.mono (base' := w1.heap.size) (by (try simp); (try omega)))
      clear O1 O2
      go_wp2
      refine bodyPost_ret (v := .agg #[.int .i64 0, .slice c2 q d2]) (by first | (simp [results, Try.results18, go_sem]; done) | simp [results, Try.results18, go_sem, f_VR]) rfl ⟨c2, d2, rfl, ?_, ?_⟩
      · refine Own.mono (base := w1.heap.size) ?_ (by (try simp); omega)
        repeat' first | with_reducible exact OO.out | with_reducible refine Own.below ?_ ?_ _ | with_reducible refine Own.alloc ?_ _ | (simp; try omega)
      · repeat' first | with_reducible exact Bo | with_reducible refine Below.setCell ?_ ?_ _ | with_reducible refine Below.alloc ?_ ?_ _ | (simp; try omega)
  · have ht := tdC_code (l := l) hk
    rw [ht]
    simp only [zl_1 hk]
    have hk1 : (k != 0) = true := by simp [hk]
    clear hI ht
    go_enter Try.func18, Try.ntmps18
    have B := Below.refl w.heap.size w
    replace B := thenB B (belowA w (.cells #[.int .i64 0, .slice none 0 0] 31))
    have VR := V.new w [.int .i64 0, .slice none 0 0] 31
    go_wp2_with fail
    refine (C.out _ (ha.kept B)).mono ?_
    rintro e w1 ⟨c1, d1, rfl, O1, b1⟩
    have S1 := b1.size
    simp only [World.size_alloc] at S1
    replace VR := VR.kept b1
    replace B := thenB B b1
    clear b1
    obtain ⟨s_VR, f_VR, z_VR⟩ := VR.open
    have Bo := B
    replace VR := VR.kept (belowA w1 (.cells #[.int .i64 k, .int .i64 F, .int .i64 T, .int .i64 r, .int .i64 l, .int .i64 x, .int .i64 y, .slice c1 m d1] 28))
    replace O1 := O1.kept (belowA w1 (.cells #[.int .i64 k, .int .i64 F, .int .i64 T, .int .i64 r, .int .i64 l, .int .i64 x, .int .i64 y, .slice c1 m d1] 28))
    replace B := thenB B (belowA w1 (.cells #[.int .i64 k, .int .i64 F, .int .i64 T, .int .i64 r, .int .i64 l, .int .i64 x, .int .i64 y, .slice c1 m d1] 28))
    have V3 := V.new w1 [.int .i64 k, .int .i64 F, .int .i64 T, .int .i64 r, .int .i64 l, .int .i64 x, .int .i64 y, .slice c1 m d1] 28
    go_wp2
    refine bodyPost_ret (v := .agg #[.int .i64 k, .slice none 0 0]) (by first | (simp [results, Try.results18, go_sem]; done) | simp [results, Try.results18, go_sem, f_VR, s_VR]) rfl ⟨none, 0, rfl, ?_, ?_⟩
    · exact own_none
    · repeat' first | with_reducible exact Bo | with_reducible refine Below.setCell ?_ ?_ _ | with_reducible refine Below.alloc ?_ ?_ _ | (simp; try omega)

end Go.Proofs.Ythjaehcfakjemaa
