/- 'ParsePacket' of the program, all cases. -/
import Derived.Test.YtlkeeablmnfmdaaPrsD
namespace Go.Proofs.Ytlkeeablmnfmdaa
open Go.RowKit

theorem psX_yes {zs : List Int} (h : portsP (zs.getD 9 0) = true) : psX zs = takeN zs 20 2 ∧ psY zs = takeN zs 22 2 ∧ psAt zs = 24 := by
  unfold psX psY psAt; simp only [h, if_true, and_self]
theorem psX_no {zs : List Int} (h : portsP (zs.getD 9 0) = false) : psX zs = 0 ∧ psY zs = 0 ∧ psAt zs = 20 := by
  unfold psX psY psAt; simp only [h, Bool.false_eq_true, if_false, and_self]

/-- What 'ParsePacket' answers, for a code, the numbers and the load. -/
def psAns (k F T r l x y : Int) (m : Nat) (c : Option Addr) (d : Nat) : Value := .agg #[.int .i64 k, .int .i64 F, .int .i64 T, .int .i64 r, .int .i64 l, .int .i64 x, .int .i64 y, .slice c m d]

/-- .. at the bytes zs. -/
def psIs (zs : List Int) (k F T r l x y : Int) (ys : List Int) : Prop :=
  psC zs = k ∧ z0 k (takeN zs 12 4) = F ∧ z0 k (takeN zs 16 4) = T ∧ z0 k (zs.getD 9 0) = r ∧ z0 k (zs.getD 8 0) = l ∧ z0 k (psX zs) = x ∧ z0 k (psY zs) = y ∧ zl k (zs.drop (psAt zs)) = ys

theorem psIs_no {zs : List Int} {k : Int} (h : psC zs = k) (hk : k ≠ 0) : psIs zs k 0 0 0 0 0 0 [] := by
  unfold psIs; simp only [z0_1 hk, zl_1 hk, and_true]; exact h

theorem psIs_inj {zs : List Int} {k F T r l x y k' F' T' r' l' x' y' : Int} {ys ys' : List Int} (h : psIs zs k F T r l x y ys) (h' : psIs zs k' F' T' r' l' x' y' ys') :
    k = k' ∧ F = F' ∧ T = T' ∧ r = r' ∧ l = l' ∧ x = x' ∧ y = y' ∧ ys = ys' := by
  obtain ⟨rfl, rfl, rfl, rfl, rfl, rfl, rfl, rfl⟩ := h
  obtain ⟨rfl, rfl, rfl, rfl, rfl, rfl, rfl, rfl⟩ := h'
  exact ⟨rfl, rfl, rfl, rfl, rfl, rfl, rfl, rfl⟩

theorem psIs_ex (zs : List Int) : ∃ k F T r l x y ys, psIs zs k F T r l x y ys := ⟨_, _, _, _, _, _, _, _, rfl, rfl, rfl, rfl, rfl, rfl, rfl, rfl⟩

set_option maxHeartbeats 1000000 in
theorem pof_ok (a : Option Addr) (n ca : Nat) (zs : List Int) (k F T r l x y : Int) (ys : List Int) (m : Nat) (hI : psIs zs k F T r l x y ys) (hm : ys.length = m) (w : World) (ha : Rd .u8 w a zs) (hb : Bytes zs) (hn : zs.length = n) (hx : n ≤ 1048576) (hca : n ≤ ca) :
    Calls Try.prog 39 #[.slice a n ca] w fun e w' => ∃ c d, e = .returned (psAns k F T r l x y m c d) ∧ Own .u8 5 w' w.heap.size c d ys ∧ Below w.heap.size w w' := by
  obtain ⟨W, hW⟩ : ∃ W, W = w.alloc (.cells #[.int .i64 0, .int .i64 0, .int .i64 0, .int .i64 0, .int .i64 0, .int .i64 0, .int .i64 0, .slice none 0 0] 28) := ⟨_, rfl⟩
  have hs1 : W.heap.size = w.heap.size + 1 := by rw [hW]; simp
  have hR : Rd .u8 W a zs := by rw [hW]; exact ha.kept (belowA w _)
  have no : ∀ q, psC zs = q → q ≠ 0 → (Calls Try.prog 65 #[.slice a n ca] W fun e w' => e = stop q ∧ Below W.heap.size W w') →
      Calls Try.prog 39 #[.slice a n ca] w fun e w' => ∃ c d, e = .returned (psAns k F T r l x y m c d) ∧ Own .u8 5 w' w.heap.size c d ys ∧ Below w.heap.size w w' := by
    intro q hq hq0 C
    obtain ⟨rfl, rfl, rfl, rfl, rfl, rfl, rfl, rfl⟩ := psIs_inj hI (psIs_no hq hq0)
    rw [hs1, hW] at C
    subst hm
    refine (pof_no (.slice a n ca) k w C).mono ?_
    rintro e w1 ⟨rfl, b1⟩
    exact ⟨none, 0, rfl, own_none, b1⟩
  rcases ps_cases zs with ⟨h1, hr⟩ | hr
  · exact no 5 hr.out (by decide) (readPacket_A a n ca zs _ hR hb hn hx hca h1)
  have hh : hdB zs = true := by rcases hr with h | h | h | h | h | h | h <;> exact h.1
  have hlen := hdB_len hh
  rcases ha with ha | ⟨b1, o1, rfl, _⟩
  · simp [ha] at hlen
  rcases hr with ⟨h1, h2, hr⟩ | ⟨h1, h2, h3, hr⟩ | ⟨h1, h2, h3, h4, hr⟩ | ⟨h1, h2, h3, h4, h5, h6, hr⟩ | ⟨h1, h2, h3, h4, h5, h6, hr⟩ | ⟨h1, h2, h3, h4, h5, h6, hr⟩ | ⟨h1, h2, h3, h4, h5, h6, hr⟩
  · exact no 6 hr.out (by decide) (readPacket_B b1 o1 n ca zs _ hR hb hn hx hca h1 h2)
  · exact no 3 hr.out (by decide) (readPacket_C b1 o1 _ _ _ _ n ca zs _ hR hb hn hx hca rfl rfl rfl rfl h1 h2 h3)
  · exact no 3 hr.out (by decide) (readPacket_D b1 o1 _ _ _ _ n ca zs _ hR hb hn hx hca rfl rfl rfl rfl h1 h2 h3 h4)
  · exact no 5 hr.out (by decide) (readPacket_E b1 o1 _ _ _ _ _ n ca zs _ hR hb hn hx hca rfl rfl rfl rfl rfl h1 h2 h3 h4 h5 (by omega))
  · obtain ⟨e1, e2, e3⟩ := psX_yes h5
    have I : psIs zs 0 (takeN zs 12 4) (takeN zs 16 4) (zs.getD 9 0) (zs.getD 8 0) (takeN zs 20 2) (takeN zs 22 2) (zs.drop 24) := by
      unfold psIs; rw [hr.out, e1, e2, e3]; simp only [z0_0, zl_0, and_self]
    obtain ⟨rfl, rfl, rfl, rfl, rfl, rfl, rfl, rfl⟩ := psIs_inj hI I
    have C := readPacket_F b1 o1 _ _ _ _ _ _ n ca zs _ hR hb hn hx hca rfl rfl rfl rfl rfl rfl h1 h2 h3 h4 h5 (by omega)
    rw [hs1, hW, hm] at C
    exact pof_yes _ _ _ _ _ _ _ m _ w C
  · obtain ⟨e1, e2, e3⟩ := psX_no h5
    have I : psIs zs 0 (takeN zs 12 4) (takeN zs 16 4) (zs.getD 9 0) (zs.getD 8 0) 0 0 (zs.drop 20) := by
      unfold psIs; rw [hr.out, e1, e2, e3]; simp only [z0_0, zl_0, and_self]
    obtain ⟨rfl, rfl, rfl, rfl, rfl, rfl, rfl, rfl⟩ := psIs_inj hI I
    have C := readPacket_G b1 o1 _ _ _ _ n ca zs _ hR hb hn hx hca rfl rfl rfl rfl h1 h2 h3 h4 h5 (by omega)
    rw [hs1, hW, hm] at C
    exact pof_yes _ _ _ _ _ _ _ m _ w C
  · exact no 2 hr.out (by decide) (readPacket_H b1 o1 _ _ _ _ n ca zs _ hR hb hn hx hca rfl rfl rfl rfl h1 h2 h3 h4 h5 (by omega))

set_option maxHeartbeats 1000000 in
theorem implParsePacket_ok (a : Option Addr) (n ca : Nat) (zs : List Int) (k F T r l x y : Int) (ys : List Int) (m : Nat) (hI : psIs zs k F T r l x y ys) (hm : ys.length = m) (w : World) (ha : Rd .u8 w a zs) (hb : Bytes zs) (hn : zs.length = n) (hx : n ≤ 1048576) (hca : n ≤ ca) :
    Calls Try.prog 11 #[.slice a n ca] w fun e w' => ∃ c d, e = .returned (.agg #[.int .i64 k, .int .i64 F, .int .i64 T, .int .i64 r, .int .i64 l, .int .i64 x, .int .i64 y, .slice c m d]) ∧ Own .u8 5 w' w.heap.size c d ys ∧ Below w.heap.size w w' := by
  have C := Hid.mk (fun w ha => pof_ok a n ca zs k F T r l x y ys m hI hm w ha hb hn hx hca)
  unfold psAns at C
  clear hI hm
  go_enter Try.func11, Try.ntmps11
  go_wp2_with fail
  refine (C.out _ (ha.kept (belowA w _))).mono ?_
  rintro e w1 ⟨c, d, rfl, o, b1⟩
  have V0 := (V.new w [.int .i64 0, .int .i64 0, .int .i64 0, .int .i64 0, .int .i64 0, .int .i64 0, .int .i64 0, .slice none 0 0] 28).kept b1
  have B := thenB (belowA w _) b1
  have O := Hid.mk (o.mono (base' := w.heap.size + 1) (by simp))
  clear b1 o
  obtain ⟨s0, f0, z0⟩ := V0.open
  go_wp2
  refine bodyPost_ret (v := .agg #[.int .i64 k, .int .i64 F, .int .i64 T, .int .i64 r, .int .i64 l, .int .i64 x, .int .i64 y, .slice c m d]) (by simp [results, Try.results11, go_sem, f0]) rfl ⟨c, d, rfl, ?_, ?_⟩
  · refine Own.mono (base := w.heap.size + 1) ?_ (by omega)
    repeat' first | with_reducible exact O.out | with_reducible refine Own.below ?_ ?_ _ | (simp; try omega)
  · repeat' first | with_reducible exact B | with_reducible refine Below.setCell ?_ ?_ _ | (simp; try omega)

end Go.Proofs.Ytlkeeablmnfmdaa
