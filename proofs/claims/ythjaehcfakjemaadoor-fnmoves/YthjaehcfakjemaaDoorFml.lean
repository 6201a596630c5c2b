/- Put together: TmS, TmT, TmU. -/
import Derived.Test.YthjaehcfakjemaaDoorTmQ
import Derived.Test.YthjaehcfakjemaaDoorTmJ
import Derived.Test.YthjaehcfakjemaaDoorApp
import Derived.Laws.AppendOwnNone
import Derived.Deep.DeepCutAuto
import Derived.Test.YthjaehcfakjemaaDoorMinM

/- A table copied, a term put: the model. -/
namespace Go.Proofs.YthjaehcfakjemaaDoor
open Go.RowKit

theorem ownTerm_nocap {w : World} {base : Nat} {a : Option Addr} {cap : Nat} {xs : List T4} (h : OwnTerm w base a cap xs) : a = none → cap = 0 := by
  rintro rfl
  rcases h.2 with ⟨h, _⟩ | ⟨g, cap', cur, hv, _⟩
  · simp only [Value.slice.injEq] at h; exact h.2.2
  · simp at hv

theorem row_far {c c4 : Option Addr} {n k p : Nat} (h : ∃ g, c4 = some ⟨g, 0, .none⟩ ∧ ((∃ a, c = some a ∧ a.block = g) ∨ g = n) ∧ g < k) (hc : ∀ b : Addr, c = some b → b.block ≠ p) (hp : p ≠ n) : ∀ b : Addr, c4 = some b → b.block ≠ p := by
  obtain ⟨g, rfl, h1, _⟩ := h
  intro b hb
  simp only [Option.some.injEq] at hb
  subst hb
  rcases h1 with ⟨a, ha, e⟩ | h1
  · rw [← e]; exact hc a ha
  · simp only; omega

theorem V.news {w : World} {B : Nat} {vs : List Value} (h : V w B vs) : ∀ j u, vs[j]? = some u → w.cell? ((⟨B, 0, none⟩ : Addr).add j) = some u := by
  intro j u hu
  have hj := (List.getElem?_eq_some_iff.1 hu).1
  rw [Addr.add_lit, Nat.zero_add, h.2.1 j hj, hu]

theorem infoTm : ∃ i, Tryd.prog.info? 70 = some i ∧ i.zero = some (.agg #[.int .i64 0, .int .i64 0, .int .i64 0, .int .i64 0]) ∧ i.size = 4 ∧ i.bytes = 32 := by
  have h := Tryd.infoTerm
  cases he : Tryd.prog.info? 70 with
  | none => rw [he] at h; cases h
  | some i =>
    rw [he] at h
    simp only [Option.map_some, Option.some.injEq, Prod.mk.injEq] at h
    exact ⟨i, rfl, h.1, h.2.1, h.2.2⟩

/-- All of a slice, be it nil or empty, are put behind the others of a row of one's own. -/
theorem wpList_appTerm {ops : Array Oper} {rest : List Oper} {o : Oper} {a : Act} {Q : Exit → Act → World → Prop} (w : World) (hgd : o.guard = none) (s x : Operand)
    (ho : o.op = .call { callee := .builtin .append, args := #[s, x], argTypes := #[24, 24] })
    (base : Nat) (c : Option Addr) (d : Nat) (xs : List T4) (n : Nat) (hn : xs.length = n) (hs : a.eval s = .slice c n d) (hown : OwnTerm w base c d xs)
    (b : Option Addr) (m cc : Nat) (ys : List T4) (hx : a.eval x = .slice b m cc) (hr : RdTerm w b ys) (hm : ys.length = m) (hb : b = none → cc = 0)
    (hlen : n + m ≤ 1000000) (hbase : base ≤ w.heap.size)
    (h : ∀ c' d' w', OwnTerm w' base c' d' (xs ++ ys) → w.grownBy w' (c.map Addr.block) → wpList Tryd.prog ops Q rest (a.put o.dst (.slice c' (n + m) d')) w') : wpList Tryd.prog ops Q (o :: rest) a w := by
  subst hn
  subst hm
  obtain ⟨i, hi, hz, hsz, hby⟩ := infoTm
  cases b with
  | none =>
    have hd := hb rfl
    subst hd
    have hz0 : ys = [] := by
      rcases hr with h0 | ⟨b, off, h0, _⟩
      · exact h0
      · cases h0
    subst hz0
    have hr2 := run_append_owned_none (P := Tryd.prog) w base 24 o.type 70 i 4 Tryd.underlying24 hi _ _ _ hown
    refine wpList_plain hgd fun K hK => ?_
    unfold Oper.wp execOp
    simp only [List.length_nil] at hx
    simp only [ho, resolve, invoke, builtin, Sem.run_bind, Sem.run_pure, Result.andThen_ok, List.map_toArray, List.map_cons, List.map_nil, hs, hx, hr2]
    exact hK _ _ (h c d w (by simpa using hown) (World.grownBy.refl _ _))
  | some ad =>
    refine wpList_plain hgd fun K hK => ?_
    refine wp_append_own w s x 24 ho base 70 i _ 4 32 Tryd.underlying24 hi hz hsz hby (by rfl) (by decide) (.slice c xs.length d) xs.length (flatTerm xs) hs hown ad ys.length cc (flatTerm ys) hx (flatTerm_len ys) (fun j u hu => ?_) (flatTerm_one ys) (by unfold maxLen; omega) (by omega) hbase ?_
    · rcases hr with h0 | ⟨b, off, h0, hcell⟩
      · subst h0; simp [flatTerm] at hu
      · simp only [Option.some.injEq] at h0
        subst h0
        have h1 := RdTerm.flat (.inr ⟨b, off, rfl, hcell⟩) j u hu
        rw [Addr.add_lit]; exact h1
    · intro v' w' h1 h2 _
      obtain ⟨c', d', rfl⟩ := ownsRow_shape h1
      have h2' : w.grownBy w' (c.map Addr.block) := by cases c <;> exact h2
      refine hK _ _ (h c' d' w' ?_ h2')
      unfold OwnTerm
      rw [List.length_append, flatTerm_app]; exact h1

set_option maxHeartbeats 1000000 in
theorem l5Copy_ok (a : Option Addr) (n ca : Nat) (xs : List T4) (w : World) (ha : RdTerm w a xs) (hn : xs.length = n) (hx : n ≤ 1000000) (hca : a = none → ca = 0) :
    Calls Tryd.prog 53 #[.slice a n ca] w fun e w' => ∃ c d, e = .returned (.slice c n d) ∧ OwnTerm w' w.heap.size c d xs ∧ Below w.heap.size w w' := by
  have OL := OwnTerm.lit w [] [] rfl (Nat.zero_le _)
  have hR := ha.kept (belowA w (.cells #[] 70))
  go_enter Tryd.func53, Tryd.ntmps53
  go_wp2_with (at_builtin; go_loud (refine wpList_appTerm _ rfl _ _ rfl w.heap.size (some ⟨w.heap.size, 0, none⟩) 0 [] 0 rfl rfl OL a n ca xs rfl hR hn hca (by omega) (by simp) ?_))
  intro c d w1 O1 hg
  have B1 : Below w.heap.size w w1 := (belowA w (.cells #[] 70)).grown hg (by simp) (fun k hk => by cases hk; exact Nat.le_refl _)
  go_wp2
  go_ret
  exact ⟨c, d, rfl, O1, B1⟩

set_option maxRecDepth 20000 in
set_option maxHeartbeats 8000000 in
theorem l5Put_ok (a : Option Addr) (n ca : Nat) (xs : List T4) (t : T4) (w : World) (ha : RdTerm w a xs) (hn : xs.length = n) (hx : n ≤ 1000000) (hca : a = none → ca = 0) :
    Calls Tryd.prog 55 #[.slice a n ca, .agg #[.int .i64 t.o, .int .i64 t.a, .int .i64 t.b, .int .i64 t.n]] w fun e w' => ∃ c d, e = .returned (.agg #[.int .i64 (put xs t).c, .int .i64 (put xs t).k, .slice c (put xs t).l.length d]) ∧ OwnTerm w' w.heap.size c d (put xs t).l ∧ Below w.heap.size w w' := by
  have q1 := build_tr0'
  have q2 := build_tr12
  have CT := Hid.mk (fun w h => l5Term_ok a n ca xs t w h hn (by unfold maxLen; omega))
  have CF := Hid.mk (fun w h => l5Find_ok a n ca xs t w h hn (by unfold maxLen; omega))
  have CC := Hid.mk (fun w h => l5Copy_ok a n ca xs w h hn hx hca)
  have HW := put_ways xs t
  rw [hn] at HW
  replace hn := Hid.mk hn
  rcases HW with ⟨h1, hr⟩ | ⟨h1, h2, hr⟩ | ⟨h1, h2, h3, hr⟩ | ⟨h1, h2, h3, hr⟩
  · have h2 : (tmC xs t != 0) = true := by simp [h1]
    rw [hr]
    clear hr h1
    generalize tmC xs t = kk at *
    go_enter Tryd.func55, Tryd.ntmps55
    have B := Below.refl w.heap.size w
    replace ha := ha.kept (belowA w (.cells #[.int .i64 t.o, .int .i64 t.a, .int .i64 t.b, .int .i64 t.n] 70))
    replace B := thenB B (belowA w (.cells #[.int .i64 t.o, .int .i64 t.a, .int .i64 t.b, .int .i64 t.n] 70))
    have VX := V.new w [.int .i64 t.o, .int .i64 t.a, .int .i64 t.b, .int .i64 t.n] 70
    replace VX := VX.kept (belowA (w.alloc (.cells #[.int .i64 t.o, .int .i64 t.a, .int .i64 t.b, .int .i64 t.n] 70)) (.cells #[.int .i64 0, .int .i64 0, .slice none 0 0] 28))
    replace ha := ha.kept (belowA (w.alloc (.cells #[.int .i64 t.o, .int .i64 t.a, .int .i64 t.b, .int .i64 t.n] 70)) (.cells #[.int .i64 0, .int .i64 0, .slice none 0 0] 28))
    replace B := thenB B (belowA (w.alloc (.cells #[.int .i64 t.o, .int .i64 t.a, .int .i64 t.b, .int .i64 t.n] 70)) (.cells #[.int .i64 0, .int .i64 0, .slice none 0 0] 28))
    have VR : V ((w.alloc (.cells #[.int .i64 t.o, .int .i64 t.a, .int .i64 t.b, .int .i64 t.n] 70)).alloc (.cells #[.int .i64 0, .int .i64 0, .slice none 0 0] 28)) (w.heap.size + 1) [.int .i64 0, .int .i64 0, .slice none 0 0] := V.newAt _ _ _ _ (by simp)
    obtain ⟨s_VX, f_VX, z_VX⟩ := VX.open
    obtain ⟨s_VR, f_VR, z_VR⟩ := VR.open
    have Bo := B
    go_wp2_with fail
    refine (CT.out _ ha).mono ?_
    rintro e w1 ⟨rfl, b1⟩
    clear s_VX f_VX z_VX s_VR f_VR z_VR
    have S1 := b1.size
    simp only [World.size_alloc] at S1
    replace VX := VX.kept b1
    replace VR := VR.kept b1
    replace ha := ha.kept b1
    replace B := thenB B b1
    clear b1
    obtain ⟨s_VX, f_VX, z_VX⟩ := VX.open
    obtain ⟨s_VR, f_VR, z_VR⟩ := VR.open
    have Bo := B
    clear s_VX f_VX z_VX s_VR f_VR z_VR
    have VF := Hid.mk (VR.filled [.int .i64 kk, .int .i64 0, .slice none 0 0] rfl)
    have HT := Hid.mk VR.there
    have BR := belowCells B (show w.heap.size ≤ w.heap.size + 1 by (first | omega | (simp; done) | (simp; omega))) 0 [.int .i64 kk, .int .i64 0, .slice none 0 0]
    replace BR := Hid.mk BR
    obtain ⟨s_VX, f_VX, z_VX⟩ := VX.open
    obtain ⟨s_VR, f_VR, z_VR⟩ := VR.open
    go_wp2_with (refine wpList_store_mid rfl 28 _ _ rfl (w.heap.size + 1) 0 #[.int .i64 kk, .int .i64 0, .slice none 0 0] rfl rfl HT.out (by kernel_rfl) (by kernel_rfl) ?_)
    refine bodyPost_ret (v := .agg #[.int .i64 kk, .int .i64 0, .slice none 0 0]) (results_row Tryd.results55 _ _ (w.heap.size + 1) [.int .i64 kk, .int .i64 0, .slice none 0 0] _ rfl VF.out Tryd.underlying28 rfl (by kernel_rfl)) rfl ⟨none, 0, rfl, OwnTerm.none, BR.out⟩
  · rw [hr]
    rw [h1] at CT
    have hf := fdT_in h2
    have HIX := tmIdx_lt h2
    rw [hf] at CF
    clear hr h1 h2 hf
    generalize tmIdx xs t = ix at *
    have hge : (0 : Int) ≤ (ix : Int) := by omega
    go_enter Tryd.func55, Tryd.ntmps55
    have B := Below.refl w.heap.size w
    replace ha := ha.kept (belowA w (.cells #[.int .i64 t.o, .int .i64 t.a, .int .i64 t.b, .int .i64 t.n] 70))
    replace B := thenB B (belowA w (.cells #[.int .i64 t.o, .int .i64 t.a, .int .i64 t.b, .int .i64 t.n] 70))
    have VX := V.new w [.int .i64 t.o, .int .i64 t.a, .int .i64 t.b, .int .i64 t.n] 70
    replace VX := VX.kept (belowA (w.alloc (.cells #[.int .i64 t.o, .int .i64 t.a, .int .i64 t.b, .int .i64 t.n] 70)) (.cells #[.int .i64 0, .int .i64 0, .slice none 0 0] 28))
    replace ha := ha.kept (belowA (w.alloc (.cells #[.int .i64 t.o, .int .i64 t.a, .int .i64 t.b, .int .i64 t.n] 70)) (.cells #[.int .i64 0, .int .i64 0, .slice none 0 0] 28))
    replace B := thenB B (belowA (w.alloc (.cells #[.int .i64 t.o, .int .i64 t.a, .int .i64 t.b, .int .i64 t.n] 70)) (.cells #[.int .i64 0, .int .i64 0, .slice none 0 0] 28))
    have VR : V ((w.alloc (.cells #[.int .i64 t.o, .int .i64 t.a, .int .i64 t.b, .int .i64 t.n] 70)).alloc (.cells #[.int .i64 0, .int .i64 0, .slice none 0 0] 28)) (w.heap.size + 1) [.int .i64 0, .int .i64 0, .slice none 0 0] := V.newAt _ _ _ _ (by simp)
    obtain ⟨s_VX, f_VX, z_VX⟩ := VX.open
    obtain ⟨s_VR, f_VR, z_VR⟩ := VR.open
    have Bo := B
    go_wp2_with fail
    refine (CT.out _ ha).mono ?_
    rintro e w21 ⟨rfl, b21⟩
    clear s_VX f_VX z_VX s_VR f_VR z_VR
    have S21 := b21.size
    simp only [World.size_alloc] at S21
    replace VX := VX.kept b21
    replace VR := VR.kept b21
    replace ha := ha.kept b21
    replace B := thenB B b21
    clear b21
    obtain ⟨s_VX, f_VX, z_VX⟩ := VX.open
    obtain ⟨s_VR, f_VR, z_VR⟩ := VR.open
    have Bo := B
    go_wp2_with fail
    refine (CF.out _ ha).mono ?_
    rintro e w22 ⟨rfl, b22⟩
    clear s_VX f_VX z_VX s_VR f_VR z_VR
    have S22 := b22.size
    replace VX := VX.kept b22
    replace VR := VR.kept b22
    replace ha := ha.kept b22
    replace B := thenB B b22
    clear b22
    obtain ⟨s_VX, f_VX, z_VX⟩ := VX.open
    obtain ⟨s_VR, f_VR, z_VR⟩ := VR.open
    have Bo := B
    go_wp2_with fail
    refine (CC.out _ ha).mono ?_
    rintro e w23 ⟨c, d, rfl, O, b23⟩
    clear s_VX f_VX z_VX s_VR f_VR z_VR
    have S23 := b23.size
    replace VX := VX.kept b23
    replace VR := VR.kept b23
    replace ha := ha.kept b23
    replace B := thenB B b23
    clear b23
    obtain ⟨s_VX, f_VX, z_VX⟩ := VX.open
    obtain ⟨s_VR, f_VR, z_VR⟩ := VR.open
    have Bo := B
    have OL := Hid.mk (fun b hb => (O.lt b hb).1)
    clear s_VX f_VX z_VX s_VR f_VR z_VR
    have VF := Hid.mk (VR.filled [.int .i64 0, .int .i64 ix, .slice c n d] rfl)
    have HT := Hid.mk VR.there
    have BR := belowCells B (show w.heap.size ≤ w.heap.size + 1 by (first | omega | (simp; done) | (simp; omega))) 0 [.int .i64 0, .int .i64 ix, .slice c n d]
    replace BR := Hid.mk BR
    have HO := Hid.mk ((O.mono (show w.heap.size ≤ _ by omega)).apart (B := w.heap.size + 1) (by intro b hb; have := OL.out b hb; omega) 0 [.int .i64 0, .int .i64 ix, .slice c n d])
    obtain ⟨s_VX, f_VX, z_VX⟩ := VX.open
    obtain ⟨s_VR, f_VR, z_VR⟩ := VR.open
    go_wp2_with (refine wpList_store_mid rfl 28 _ _ rfl (w.heap.size + 1) 0 #[.int .i64 0, .int .i64 ix, .slice c n d] rfl rfl HT.out (by kernel_rfl) (by kernel_rfl) ?_)
    refine bodyPost_ret (v := .agg #[.int .i64 0, .int .i64 ix, .slice c n d]) (results_row Tryd.results55 _ _ (w.heap.size + 1) [.int .i64 0, .int .i64 ix, .slice c n d] _ rfl VF.out Tryd.underlying28 rfl (by kernel_rfl)) rfl ⟨c, d, by rw [hn.out], HO.out, BR.out⟩
  · rw [hr]
    rw [h1] at CT
    have hf := fdT_out h2
    rw [hf] at CF
    clear hr h1 h2 hf
    have hge : (400 : Int) ≤ (n : Int) := by omega
    go_enter Tryd.func55, Tryd.ntmps55
    have B := Below.refl w.heap.size w
    replace ha := ha.kept (belowA w (.cells #[.int .i64 t.o, .int .i64 t.a, .int .i64 t.b, .int .i64 t.n] 70))
    replace B := thenB B (belowA w (.cells #[.int .i64 t.o, .int .i64 t.a, .int .i64 t.b, .int .i64 t.n] 70))
    have VX := V.new w [.int .i64 t.o, .int .i64 t.a, .int .i64 t.b, .int .i64 t.n] 70
    replace VX := VX.kept (belowA (w.alloc (.cells #[.int .i64 t.o, .int .i64 t.a, .int .i64 t.b, .int .i64 t.n] 70)) (.cells #[.int .i64 0, .int .i64 0, .slice none 0 0] 28))
    replace ha := ha.kept (belowA (w.alloc (.cells #[.int .i64 t.o, .int .i64 t.a, .int .i64 t.b, .int .i64 t.n] 70)) (.cells #[.int .i64 0, .int .i64 0, .slice none 0 0] 28))
    replace B := thenB B (belowA (w.alloc (.cells #[.int .i64 t.o, .int .i64 t.a, .int .i64 t.b, .int .i64 t.n] 70)) (.cells #[.int .i64 0, .int .i64 0, .slice none 0 0] 28))
    have VR : V ((w.alloc (.cells #[.int .i64 t.o, .int .i64 t.a, .int .i64 t.b, .int .i64 t.n] 70)).alloc (.cells #[.int .i64 0, .int .i64 0, .slice none 0 0] 28)) (w.heap.size + 1) [.int .i64 0, .int .i64 0, .slice none 0 0] := V.newAt _ _ _ _ (by simp)
    obtain ⟨s_VX, f_VX, z_VX⟩ := VX.open
    obtain ⟨s_VR, f_VR, z_VR⟩ := VR.open
    have Bo := B
    go_wp2_with fail
    refine (CT.out _ ha).mono ?_
    rintro e w41 ⟨rfl, b41⟩
    clear s_VX f_VX z_VX s_VR f_VR z_VR
    have S41 := b41.size
    simp only [World.size_alloc] at S41
    replace VX := VX.kept b41
    replace VR := VR.kept b41
    replace ha := ha.kept b41
    replace B := thenB B b41
    clear b41
    obtain ⟨s_VX, f_VX, z_VX⟩ := VX.open
    obtain ⟨s_VR, f_VR, z_VR⟩ := VR.open
    have Bo := B
    go_wp2_with fail
    refine (CF.out _ ha).mono ?_
    rintro e w42 ⟨rfl, b42⟩
    clear s_VX f_VX z_VX s_VR f_VR z_VR
    have S42 := b42.size
    replace VX := VX.kept b42
    replace VR := VR.kept b42
    replace ha := ha.kept b42
    replace B := thenB B b42
    clear b42
    obtain ⟨s_VX, f_VX, z_VX⟩ := VX.open
    obtain ⟨s_VR, f_VR, z_VR⟩ := VR.open
    have Bo := B
    clear s_VX f_VX z_VX s_VR f_VR z_VR
    have VF := Hid.mk (VR.filled [.int .i64 2, .int .i64 0, .slice none 0 0] rfl)
    have HT := Hid.mk VR.there
    have BR := belowCells B (show w.heap.size ≤ w.heap.size + 1 by (first | omega | (simp; done) | (simp; omega))) 0 [.int .i64 2, .int .i64 0, .slice none 0 0]
    replace BR := Hid.mk BR
    obtain ⟨s_VX, f_VX, z_VX⟩ := VX.open
    obtain ⟨s_VR, f_VR, z_VR⟩ := VR.open
    go_wp2_with (refine wpList_store_mid rfl 28 _ _ rfl (w.heap.size + 1) 0 #[.int .i64 2, .int .i64 0, .slice none 0 0] rfl rfl HT.out (by kernel_rfl) (by kernel_rfl) ?_)
    refine bodyPost_ret (v := .agg #[.int .i64 2, .int .i64 0, .slice none 0 0]) (results_row Tryd.results55 _ _ (w.heap.size + 1) [.int .i64 2, .int .i64 0, .slice none 0 0] _ rfl VF.out Tryd.underlying28 rfl (by kernel_rfl)) rfl ⟨none, 0, rfl, OwnTerm.none, BR.out⟩
  · rw [hr]
    rw [h1] at CT
    have hf := fdT_out h2
    rw [hf] at CF
    clear hr h1 h2 hf
    have hge : ¬ ((400 : Int) ≤ (n : Int)) := by omega
    have hge2 : decide ((400 : Int) ≤ (n : Int)) = false := by simp; omega
    go_enter Tryd.func55, Tryd.ntmps55
    have B := Below.refl w.heap.size w
    replace ha := ha.kept (belowA w (.cells #[.int .i64 t.o, .int .i64 t.a, .int .i64 t.b, .int .i64 t.n] 70))
    replace B := thenB B (belowA w (.cells #[.int .i64 t.o, .int .i64 t.a, .int .i64 t.b, .int .i64 t.n] 70))
    have VX := V.new w [.int .i64 t.o, .int .i64 t.a, .int .i64 t.b, .int .i64 t.n] 70
    replace VX := VX.kept (belowA (w.alloc (.cells #[.int .i64 t.o, .int .i64 t.a, .int .i64 t.b, .int .i64 t.n] 70)) (.cells #[.int .i64 0, .int .i64 0, .slice none 0 0] 28))
    replace ha := ha.kept (belowA (w.alloc (.cells #[.int .i64 t.o, .int .i64 t.a, .int .i64 t.b, .int .i64 t.n] 70)) (.cells #[.int .i64 0, .int .i64 0, .slice none 0 0] 28))
    replace B := thenB B (belowA (w.alloc (.cells #[.int .i64 t.o, .int .i64 t.a, .int .i64 t.b, .int .i64 t.n] 70)) (.cells #[.int .i64 0, .int .i64 0, .slice none 0 0] 28))
    have VR : V ((w.alloc (.cells #[.int .i64 t.o, .int .i64 t.a, .int .i64 t.b, .int .i64 t.n] 70)).alloc (.cells #[.int .i64 0, .int .i64 0, .slice none 0 0] 28)) (w.heap.size + 1) [.int .i64 0, .int .i64 0, .slice none 0 0] := V.newAt _ _ _ _ (by simp)
    obtain ⟨s_VX, f_VX, z_VX⟩ := VX.open
    obtain ⟨s_VR, f_VR, z_VR⟩ := VR.open
    have Bo := B
    go_wp2_with fail
    refine (CT.out _ ha).mono ?_
    rintro e w61 ⟨rfl, b61⟩
    clear s_VX f_VX z_VX s_VR f_VR z_VR
    have S61 := b61.size
    simp only [World.size_alloc] at S61
    replace VX := VX.kept b61
    replace VR := VR.kept b61
    replace ha := ha.kept b61
    replace B := thenB B b61
    clear b61
    obtain ⟨s_VX, f_VX, z_VX⟩ := VX.open
    obtain ⟨s_VR, f_VR, z_VR⟩ := VR.open
    have Bo := B
    go_wp2_with fail
    refine (CF.out _ ha).mono ?_
    rintro e w62 ⟨rfl, b62⟩
    clear s_VX f_VX z_VX s_VR f_VR z_VR
    have S62 := b62.size
    replace VX := VX.kept b62
    replace VR := VR.kept b62
    replace ha := ha.kept b62
    replace B := thenB B b62
    clear b62
    obtain ⟨s_VX, f_VX, z_VX⟩ := VX.open
    obtain ⟨s_VR, f_VR, z_VR⟩ := VR.open
    have Bo := B
    clear s_VX f_VX z_VX s_VR f_VR z_VR
    obtain ⟨s_VX, f_VX, z_VX⟩ := VX.open
    obtain ⟨s_VR, f_VR, z_VR⟩ := VR.open
    go_upto_region 9 with fail
    clear s_VX f_VX z_VX s_VR f_VR z_VR
    refine wp_region_any (by kernel_rfl) ?_
    change wpAny _ _ _ _ _ _ _ w62.drew
    have bd : Below w62.heap.size w62 w62.drew := (Below.refl _ _).drew
    replace VX := VX.kept bd
    replace VR := VR.kept bd
    replace ha := ha.kept bd
    replace B := thenB B bd
    clear bd
    generalize w62.drew = wd at *
    have hw2 : w.heap.size + 2 ≤ wd.heap.size := by have := VR.1; omega
    clear Bo
    refine wpAny_take (i := 0) (oi := _) (v := ?vtt1) rfl (by kernel_rfl) (by kernel_rfl) (by kernel_rfl) (fun _ _ _ h => h) (Or.inl ⟨by rfl, ?hytt1⟩) ?resttt1
    case hytt1 => (intro w; go_simp; first | done | with_reducible rfl)
    try simp only [Act.put, List.getElem_toArray, List.getElem_cons_zero, List.setIfInBounds_toArray, List.set_cons_zero, List.set_cons_succ]
    refine wpAny_take (i := 1) (oi := _) (v := ?vtt2) rfl (by kernel_rfl) (by kernel_rfl) (by kernel_rfl) (fun _ _ _ h => h) (Or.inl ⟨by rfl, ?hytt2⟩) ?resttt2
    case hytt2 => (intro w; go_simp; first | done | with_reducible rfl)
    try simp only [Act.put, List.getElem_toArray, List.getElem_cons_zero, List.getElem_cons_succ, List.setIfInBounds_toArray, List.set_cons_zero, List.set_cons_succ]
    refine wpAny_take (i := 2) (oi := _) (v := ?vtt3) rfl (by kernel_rfl) (by kernel_rfl) (by kernel_rfl) (fun _ _ _ h => h) (Or.inl ⟨by rfl, ?hytt3⟩) ?resttt3
    case hytt3 => (intro w; go_simp; first | done | with_reducible rfl)
    try simp only [Act.put, List.getElem_toArray, List.getElem_cons_zero, List.getElem_cons_succ, List.setIfInBounds_toArray, List.set_cons_zero, List.set_cons_succ]
    refine wpAny_ready (rs := [3, 4]) (by kernel_rfl) (by simp) ?_
    refine AllReady.cons (o := _) rfl (fun K0 hK0 => ?_) (AllReady.cons (o := _) rfl (fun K0 hK0 => ?_) AllReady.nil)
    · skip
      go_simp
      go_at_call 53
      refine (CC.out _ ha).mono ?_
      rintro e w3 ⟨c3, d3, rfl, O3, b3⟩
      have hsz3 := b3.size
      refine hK0 _ _ ?_
      clear hK0 K0
      try simp only [Act.put, List.getElem_toArray, List.getElem_cons_zero, List.getElem_cons_succ, List.setIfInBounds_toArray, List.set_cons_zero, List.set_cons_succ]
      have OL3 := Hid.mk (fun (b : Addr) (hb : c3 = some b) => Nat.le_trans (show w.heap.size + 2 ≤ wd.heap.size by omega) (O3.lt b hb).1)
      replace O3 := O3.mono (base' := w.heap.size) (by omega)
      have hw2 : w.heap.size + 2 ≤ w3.heap.size := by omega
      replace VX := VX.kept b3
      replace VR := VR.kept b3
      replace ha := ha.kept b3
      replace B := thenB B b3
      try replace VN := VN.kept b3
      clear b3 hsz3
      refine wpAny_ready (rs := [4]) (by kernel_rfl) (by simp) ?_
      refine AllReady.cons (o := _) rfl (fun K0 hK0 => ?_) AllReady.nil
      obtain ⟨s_VX, f_VX, z_VX⟩ := VX.open
      go_simp
      refine hK0 _ _ ?_
      clear hK0 K0 s_VX f_VX z_VX
      try simp only [Act.put, List.getElem_toArray, List.getElem_cons_zero, List.getElem_cons_succ, List.setIfInBounds_toArray, List.set_cons_zero, List.set_cons_succ]
      refine wpAny_ready (rs := [5]) (by kernel_rfl) (by simp) ?_
      refine AllReady.cons (o := _) rfl (fun K0 hK0 => ?_) AllReady.nil
      go_simp
      refine hK0 _ _ ?_
      clear hK0 K0
      try simp only [Act.put, List.getElem_toArray, List.getElem_cons_zero, List.getElem_cons_succ, List.setIfInBounds_toArray, List.set_cons_zero, List.set_cons_succ]
      have bq := belowA w3 (.cells #[.int .i64 t.o, .int .i64 t.a, .int .i64 t.b, .int .i64 t.n] 70)
      have VN := V.new w3 [.int .i64 t.o, .int .i64 t.a, .int .i64 t.b, .int .i64 t.n] 70
      have hsq := bq.size
      replace VX := VX.kept bq
      replace VR := VR.kept bq
      replace ha := ha.kept bq
      replace B := thenB B bq
      try replace O3 := O3.kept bq
      have hw2 : w.heap.size + 2 ≤ (w3.alloc (.cells #[.int .i64 t.o, .int .i64 t.a, .int .i64 t.b, .int .i64 t.n] 70)).heap.size := by omega
      clear bq hsq
      change V (w3.alloc (.cells #[.int .i64 t.o, .int .i64 t.a, .int .i64 t.b, .int .i64 t.n] 70)) w3.heap.size [.int .i64 t.o, .int .i64 t.a, .int .i64 t.b, .int .i64 t.n] at VN
      generalize hqq : w3.alloc (.cells #[.int .i64 t.o, .int .i64 t.a, .int .i64 t.b, .int .i64 t.n] 70) = wq at *
      clear hqq
      refine wpAny_ready (rs := [6]) (by kernel_rfl) (by simp) ?_
      refine AllReady.cons (o := _) rfl (fun K0 hK0 => ?_) AllReady.nil
      rw [if_pos (by rfl)]
      have HNC := Hid.mk VN.news
      have OLT := Hid.mk O3.lt
      refine wp_putTerm _ _ _ rfl w.heap.size c3 d3 xs n hn.out rfl O3 _ 1 t rfl HNC.out (by omega) (by omega) ?_
      intro c4 d4 w4 O4 hg4 hx4
      replace VR := VR.grownR hg4 (row_ne (fun b hb => by have := OL3.out b hb; omega))
      have B4 := belowG B hg4 (by omega) (fun b hb => (OLT.out b hb).1)
      have hc4 := Hid.mk (row_far (p := w.heap.size + 1) hx4.out (fun b hb => by have := OL3.out b hb; omega) (by omega))
      refine hK0 _ _ ?_
      clear hK0 K0 O3 VN VX ha B hg4 hx4 OLT HNC
      try simp only [Act.put, List.getElem_toArray, List.getElem_cons_zero, List.getElem_cons_succ, List.setIfInBounds_toArray, List.set_cons_zero, List.set_cons_succ]
      refine wpAny_take (i := 7) (oi := _) (v := ?vtt4) rfl (by kernel_rfl) (by kernel_rfl) (by kernel_rfl) (fun _ _ _ h => h) (Or.inl ⟨by rfl, ?hytt4⟩) ?resttt4
      case hytt4 => (intro w; go_simp; first | done | with_reducible rfl)
      try simp only [Act.put, List.getElem_toArray, List.getElem_cons_zero, List.getElem_cons_succ, List.setIfInBounds_toArray, List.set_cons_zero, List.set_cons_succ]
      refine wpAny_ready (rs := [8]) (by kernel_rfl) (by simp) ?_
      refine AllReady.cons (o := _) rfl (fun K0 hK0 => ?_) AllReady.nil
      have HT := Hid.mk VR.there
      have VF := VR.filled [.int .i64 0, .int .i64 n, .slice c4 (n + 1) d4] rfl
      have BR := belowCells B4 (show w.heap.size ≤ w.heap.size + 1 by omega) 0 [.int .i64 0, .int .i64 n, .slice c4 (n + 1) d4]
      have O5 := O4.apart (B := w.heap.size + 1) hc4.out 0 [.int .i64 0, .int .i64 n, .slice c4 (n + 1) d4]
      obtain ⟨w6, hw6⟩ : ∃ w6, w4.setCells (w.heap.size + 1) 0 [.int .i64 0, .int .i64 n, .slice c4 (n + 1) d4] = w6 := ⟨_, rfl⟩
      rw [hw6] at VF BR O5
      replace hw6 := Hid.mk hw6
      replace VF := Hid.mk VF
      replace BR := Hid.mk BR
      replace O5 := Hid.mk O5
      clear VR O4 B4
      rw [if_pos (by rfl)]
      refine wp_stroke w6 28 _ _ rfl (w.heap.size + 1) 0 #[.int .i64 0, .int .i64 n, .slice c4 (n + 1) d4] rfl rfl HT.out (by kernel_rfl) (by kernel_rfl) hw6.out ?_
      refine hK0 _ _ ?_
      clear hK0 K0 HT hw6
      refine wpAny_done (by kernel_rfl) ?_ _
      go_wp2
      refine bodyPost_ret (v := .agg #[.int .i64 0, .int .i64 n, .slice c4 (n + 1) d4]) (results_row Tryd.results55 _ _ (w.heap.size + 1) [.int .i64 0, .int .i64 n, .slice c4 (n + 1) d4] _ rfl VF.out Tryd.underlying28 rfl (by kernel_rfl)) rfl ⟨c4, d4, by rw [List.length_append, hn.out]; rfl, O5.out, BR.out⟩
    · skip
      obtain ⟨s_VX, f_VX, z_VX⟩ := VX.open
      go_simp
      refine hK0 _ _ ?_
      clear hK0 K0 s_VX f_VX z_VX
      try simp only [Act.put, List.getElem_toArray, List.getElem_cons_zero, List.getElem_cons_succ, List.setIfInBounds_toArray, List.set_cons_zero, List.set_cons_succ]
      refine wpAny_ready (rs := [3, 5]) (by kernel_rfl) (by simp) ?_
      refine AllReady.cons (o := _) rfl (fun K0 hK0 => ?_) (AllReady.cons (o := _) rfl (fun K0 hK0 => ?_) AllReady.nil)
      · skip
        go_simp
        go_at_call 53
        refine (CC.out _ ha).mono ?_
        rintro e w3 ⟨c3, d3, rfl, O3, b3⟩
        have hsz3 := b3.size
        refine hK0 _ _ ?_
        clear hK0 K0
        try simp only [Act.put, List.getElem_toArray, List.getElem_cons_zero, List.getElem_cons_succ, List.setIfInBounds_toArray, List.set_cons_zero, List.set_cons_succ]
        have OL3 := Hid.mk (fun (b : Addr) (hb : c3 = some b) => Nat.le_trans (show w.heap.size + 2 ≤ wd.heap.size by omega) (O3.lt b hb).1)
        replace O3 := O3.mono (base' := w.heap.size) (by omega)
        have hw2 : w.heap.size + 2 ≤ w3.heap.size := by omega
        replace VX := VX.kept b3
        replace VR := VR.kept b3
        replace ha := ha.kept b3
        replace B := thenB B b3
        try replace VN := VN.kept b3
        clear b3 hsz3
        refine wpAny_ready (rs := [5]) (by kernel_rfl) (by simp) ?_
        refine AllReady.cons (o := _) rfl (fun K0 hK0 => ?_) AllReady.nil
        go_simp
        refine hK0 _ _ ?_
        clear hK0 K0
        try simp only [Act.put, List.getElem_toArray, List.getElem_cons_zero, List.getElem_cons_succ, List.setIfInBounds_toArray, List.set_cons_zero, List.set_cons_succ]
        have bq := belowA w3 (.cells #[.int .i64 t.o, .int .i64 t.a, .int .i64 t.b, .int .i64 t.n] 70)
        have VN := V.new w3 [.int .i64 t.o, .int .i64 t.a, .int .i64 t.b, .int .i64 t.n] 70
        have hsq := bq.size
        replace VX := VX.kept bq
        replace VR := VR.kept bq
        replace ha := ha.kept bq
        replace B := thenB B bq
        try replace O3 := O3.kept bq
        have hw2 : w.heap.size + 2 ≤ (w3.alloc (.cells #[.int .i64 t.o, .int .i64 t.a, .int .i64 t.b, .int .i64 t.n] 70)).heap.size := by omega
        clear bq hsq
        change V (w3.alloc (.cells #[.int .i64 t.o, .int .i64 t.a, .int .i64 t.b, .int .i64 t.n] 70)) w3.heap.size [.int .i64 t.o, .int .i64 t.a, .int .i64 t.b, .int .i64 t.n] at VN
        generalize hqq : w3.alloc (.cells #[.int .i64 t.o, .int .i64 t.a, .int .i64 t.b, .int .i64 t.n] 70) = wq at *
        clear hqq
        refine wpAny_ready (rs := [6]) (by kernel_rfl) (by simp) ?_
        refine AllReady.cons (o := _) rfl (fun K0 hK0 => ?_) AllReady.nil
        rw [if_pos (by rfl)]
        have HNC := Hid.mk VN.news
        have OLT := Hid.mk O3.lt
        refine wp_putTerm _ _ _ rfl w.heap.size c3 d3 xs n hn.out rfl O3 _ 1 t rfl HNC.out (by omega) (by omega) ?_
        intro c4 d4 w4 O4 hg4 hx4
        replace VR := VR.grownR hg4 (row_ne (fun b hb => by have := OL3.out b hb; omega))
        have B4 := belowG B hg4 (by omega) (fun b hb => (OLT.out b hb).1)
        have hc4 := Hid.mk (row_far (p := w.heap.size + 1) hx4.out (fun b hb => by have := OL3.out b hb; omega) (by omega))
        refine hK0 _ _ ?_
        clear hK0 K0 O3 VN VX ha B hg4 hx4 OLT HNC
        try simp only [Act.put, List.getElem_toArray, List.getElem_cons_zero, List.getElem_cons_succ, List.setIfInBounds_toArray, List.set_cons_zero, List.set_cons_succ]
        refine wpAny_take (i := 7) (oi := _) (v := ?vtt5) rfl (by kernel_rfl) (by kernel_rfl) (by kernel_rfl) (fun _ _ _ h => h) (Or.inl ⟨by rfl, ?hytt5⟩) ?resttt5
        case hytt5 => (intro w; go_simp; first | done | with_reducible rfl)
        try simp only [Act.put, List.getElem_toArray, List.getElem_cons_zero, List.getElem_cons_succ, List.setIfInBounds_toArray, List.set_cons_zero, List.set_cons_succ]
        refine wpAny_ready (rs := [8]) (by kernel_rfl) (by simp) ?_
        refine AllReady.cons (o := _) rfl (fun K0 hK0 => ?_) AllReady.nil
        have HT := Hid.mk VR.there
        have VF := VR.filled [.int .i64 0, .int .i64 n, .slice c4 (n + 1) d4] rfl
        have BR := belowCells B4 (show w.heap.size ≤ w.heap.size + 1 by omega) 0 [.int .i64 0, .int .i64 n, .slice c4 (n + 1) d4]
        have O5 := O4.apart (B := w.heap.size + 1) hc4.out 0 [.int .i64 0, .int .i64 n, .slice c4 (n + 1) d4]
        obtain ⟨w6, hw6⟩ : ∃ w6, w4.setCells (w.heap.size + 1) 0 [.int .i64 0, .int .i64 n, .slice c4 (n + 1) d4] = w6 := ⟨_, rfl⟩
        rw [hw6] at VF BR O5
        replace hw6 := Hid.mk hw6
        replace VF := Hid.mk VF
        replace BR := Hid.mk BR
        replace O5 := Hid.mk O5
        clear VR O4 B4
        rw [if_pos (by rfl)]
        refine wp_stroke w6 28 _ _ rfl (w.heap.size + 1) 0 #[.int .i64 0, .int .i64 n, .slice c4 (n + 1) d4] rfl rfl HT.out (by kernel_rfl) (by kernel_rfl) hw6.out ?_
        refine hK0 _ _ ?_
        clear hK0 K0 HT hw6
        refine wpAny_done (by kernel_rfl) ?_ _
        go_wp2
        refine bodyPost_ret (v := .agg #[.int .i64 0, .int .i64 n, .slice c4 (n + 1) d4]) (results_row Tryd.results55 _ _ (w.heap.size + 1) [.int .i64 0, .int .i64 n, .slice c4 (n + 1) d4] _ rfl VF.out Tryd.underlying28 rfl (by kernel_rfl)) rfl ⟨c4, d4, by rw [List.length_append, hn.out]; rfl, O5.out, BR.out⟩
      · skip
        go_simp
        refine hK0 _ _ ?_
        clear hK0 K0
        try simp only [Act.put, List.getElem_toArray, List.getElem_cons_zero, List.getElem_cons_succ, List.setIfInBounds_toArray, List.set_cons_zero, List.set_cons_succ]
        have bq := belowA wd (.cells #[.int .i64 t.o, .int .i64 t.a, .int .i64 t.b, .int .i64 t.n] 70)
        have VN := V.new wd [.int .i64 t.o, .int .i64 t.a, .int .i64 t.b, .int .i64 t.n] 70
        have hsq := bq.size
        replace VX := VX.kept bq
        replace VR := VR.kept bq
        replace ha := ha.kept bq
        replace B := thenB B bq
        try replace O3 := O3.kept bq
        have hw2 : w.heap.size + 2 ≤ (wd.alloc (.cells #[.int .i64 t.o, .int .i64 t.a, .int .i64 t.b, .int .i64 t.n] 70)).heap.size := by omega
        clear bq hsq
        change V (wd.alloc (.cells #[.int .i64 t.o, .int .i64 t.a, .int .i64 t.b, .int .i64 t.n] 70)) wd.heap.size [.int .i64 t.o, .int .i64 t.a, .int .i64 t.b, .int .i64 t.n] at VN
        generalize hqq : wd.alloc (.cells #[.int .i64 t.o, .int .i64 t.a, .int .i64 t.b, .int .i64 t.n] 70) = wq at *
        clear hqq
        refine wpAny_ready (rs := [3]) (by kernel_rfl) (by simp) ?_
        refine AllReady.cons (o := _) rfl (fun K0 hK0 => ?_) AllReady.nil
        go_simp
        go_at_call 53
        refine (CC.out _ ha).mono ?_
        rintro e w3 ⟨c3, d3, rfl, O3, b3⟩
        have hsz3 := b3.size
        refine hK0 _ _ ?_
        clear hK0 K0
        try simp only [Act.put, List.getElem_toArray, List.getElem_cons_zero, List.getElem_cons_succ, List.setIfInBounds_toArray, List.set_cons_zero, List.set_cons_succ]
        have OL3 := Hid.mk (fun (b : Addr) (hb : c3 = some b) => Nat.le_trans (show w.heap.size + 2 ≤ wq.heap.size by omega) (O3.lt b hb).1)
        replace O3 := O3.mono (base' := w.heap.size) (by omega)
        have hw2 : w.heap.size + 2 ≤ w3.heap.size := by omega
        replace VX := VX.kept b3
        replace VR := VR.kept b3
        replace ha := ha.kept b3
        replace B := thenB B b3
        try replace VN := VN.kept b3
        clear b3 hsz3
        refine wpAny_ready (rs := [6]) (by kernel_rfl) (by simp) ?_
        refine AllReady.cons (o := _) rfl (fun K0 hK0 => ?_) AllReady.nil
        rw [if_pos (by rfl)]
        have HNC := Hid.mk VN.news
        have OLT := Hid.mk O3.lt
        refine wp_putTerm _ _ _ rfl w.heap.size c3 d3 xs n hn.out rfl O3 _ 1 t rfl HNC.out (by omega) (by omega) ?_
        intro c4 d4 w4 O4 hg4 hx4
        replace VR := VR.grownR hg4 (row_ne (fun b hb => by have := OL3.out b hb; omega))
        have B4 := belowG B hg4 (by omega) (fun b hb => (OLT.out b hb).1)
        have hc4 := Hid.mk (row_far (p := w.heap.size + 1) hx4.out (fun b hb => by have := OL3.out b hb; omega) (by omega))
        refine hK0 _ _ ?_
        clear hK0 K0 O3 VN VX ha B hg4 hx4 OLT HNC
        try simp only [Act.put, List.getElem_toArray, List.getElem_cons_zero, List.getElem_cons_succ, List.setIfInBounds_toArray, List.set_cons_zero, List.set_cons_succ]
        refine wpAny_take (i := 7) (oi := _) (v := ?vtt6) rfl (by kernel_rfl) (by kernel_rfl) (by kernel_rfl) (fun _ _ _ h => h) (Or.inl ⟨by rfl, ?hytt6⟩) ?resttt6
        case hytt6 => (intro w; go_simp; first | done | with_reducible rfl)
        try simp only [Act.put, List.getElem_toArray, List.getElem_cons_zero, List.getElem_cons_succ, List.setIfInBounds_toArray, List.set_cons_zero, List.set_cons_succ]
        refine wpAny_ready (rs := [8]) (by kernel_rfl) (by simp) ?_
        refine AllReady.cons (o := _) rfl (fun K0 hK0 => ?_) AllReady.nil
        have HT := Hid.mk VR.there
        have VF := VR.filled [.int .i64 0, .int .i64 n, .slice c4 (n + 1) d4] rfl
        have BR := belowCells B4 (show w.heap.size ≤ w.heap.size + 1 by omega) 0 [.int .i64 0, .int .i64 n, .slice c4 (n + 1) d4]
        have O5 := O4.apart (B := w.heap.size + 1) hc4.out 0 [.int .i64 0, .int .i64 n, .slice c4 (n + 1) d4]
        obtain ⟨w6, hw6⟩ : ∃ w6, w4.setCells (w.heap.size + 1) 0 [.int .i64 0, .int .i64 n, .slice c4 (n + 1) d4] = w6 := ⟨_, rfl⟩
        rw [hw6] at VF BR O5
        replace hw6 := Hid.mk hw6
        replace VF := Hid.mk VF
        replace BR := Hid.mk BR
        replace O5 := Hid.mk O5
        clear VR O4 B4
        rw [if_pos (by rfl)]
        refine wp_stroke w6 28 _ _ rfl (w.heap.size + 1) 0 #[.int .i64 0, .int .i64 n, .slice c4 (n + 1) d4] rfl rfl HT.out (by kernel_rfl) (by kernel_rfl) hw6.out ?_
        refine hK0 _ _ ?_
        clear hK0 K0 HT hw6
        refine wpAny_done (by kernel_rfl) ?_ _
        go_wp2
        refine bodyPost_ret (v := .agg #[.int .i64 0, .int .i64 n, .slice c4 (n + 1) d4]) (results_row Tryd.results55 _ _ (w.heap.size + 1) [.int .i64 0, .int .i64 n, .slice c4 (n + 1) d4] _ rfl VF.out Tryd.underlying28 rfl (by kernel_rfl)) rfl ⟨c4, d4, by rw [List.length_append, hn.out]; rfl, O5.out, BR.out⟩

end Go.Proofs.YthjaehcfakjemaaDoor

/- PutTerm: both sides. -/
namespace Go.Proofs.YthjaehcfakjemaaDoor
open Go.RowKit

theorem bookOf_no (a : Option Addr) (n ca : Nat) (xs : List T4) (w : World) (ha : RdTerm w a xs) (hn : xs.length = n) (hx : n ≤ maxLen) (hok : ∀ t ∈ xs, okT t) (h : tfC xs ≠ 0) :
    Calls Tryd.prog 22 #[.slice a n ca] w fun e w' => e = .returned (.tuple #[.pointer none, .int .i64 (tfC xs)]) ∧ Below w.heap.size w w' := by
  refine (bookOf_ok a n ca xs w ha hn hx hok).mono ?_
  rintro e w' ⟨v, k, rfl, rfl, b, h1 | h1⟩
  · exact ⟨by rw [h1.2], b⟩
  · exact absurd h1.1 h

theorem bookOf_yes (a : Option Addr) (n ca : Nat) (xs : List T4) (w : World) (ha : RdTerm w a xs) (hn : xs.length = n) (hx : n ≤ maxLen) (hok : ∀ t ∈ xs, okT t) (h : tfC xs = 0) :
    Calls Tryd.prog 22 #[.slice a n ca] w fun e w' => ∃ p g c d, e = .returned (.tuple #[.pointer (some ⟨p, 0, none⟩), .int .i64 0]) ∧ Bk w' w.heap.size p g c d xs ∧ Below w.heap.size w w' := by
  refine (bookOf_ok a n ca xs w ha hn hx hok).mono ?_
  rintro e w' ⟨v, k, rfl, rfl, b, h1 | h1⟩
  · exact absurd h h1.1
  · obtain ⟨h2, c, d, rfl, H⟩ := h1
    exact ⟨_, _, c, d, by rw [h2], H, b⟩

theorem put_no {xs : List T4} {t : T4} (h : (put xs t).c ≠ 0) : (put xs t).k = 0 ∧ (put xs t).l = [] := by
  rcases put_ways xs t with ⟨_, e⟩ | ⟨_, _, e⟩ | ⟨_, _, _, e⟩ | ⟨_, _, _, e⟩ <;> rw [e] at h ⊢ <;> simp at h ⊢

/-- What comes of putting a term into whatever table. -/
@[irreducible] def ptT (xs : List T4) (t : T4) : Put := if tfC xs = 0 then put xs t else ⟨tfC xs, 0, []⟩

theorem pt_ways (xs : List T4) (t : T4) : (tfC xs ≠ 0 ∧ ptT xs t = ⟨tfC xs, 0, []⟩) ∨ (tfC xs = 0 ∧ ptT xs t = put xs t) := by
  unfold ptT
  by_cases h : tfC xs = 0
  · exact .inr ⟨h, by rw [if_pos h]⟩
  · exact .inl ⟨h, by rw [if_neg h]⟩

/-- The both of two secrets. -/
@[irreducible] def bothT (x y : Int) : T4 := ⟨7, min x y, max x y, 0⟩

end Go.Proofs.YthjaehcfakjemaaDoor

/- PutBoth: both sides. -/
namespace Go.Proofs.YthjaehcfakjemaaDoor
open Go.RowKit

theorem build_bothT (x y : Int) (w : World) : (Instr.build 70 #[(0, .int .i64 7), (1, .int .i64 x), (2, .int .i64 y)]).run Tryd.prog w = .ok (.agg #[.int .i64 7, .int .i64 x, .int .i64 y, .int .i64 0]) w := run_build w 70 _ _ (by kernel_rfl)

set_option maxRecDepth 20000 in
set_option maxHeartbeats 4000000 in
theorem l5Both_ok (a : Option Addr) (n ca : Nat) (xs : List T4) (x y : Int) (w : World) (ha : RdTerm w a xs) (hn : xs.length = n) (hx : n ≤ 1000000) (hcn : a = none → ca = 0) :
    Calls Tryd.prog 56 #[.slice a n ca, .int .i64 x, .int .i64 y] w fun e w' => ∃ c d, e = .returned (.agg #[.int .i64 (put xs (bothT x y)).c, .int .i64 (put xs (bothT x y)).k, .slice c (put xs (bothT x y)).l.length d]) ∧ OwnTerm w' w.heap.size c d (put xs (bothT x y)).l ∧ Below w.heap.size w w' := by
  have q1 := build_bothT
  have CP := Hid.mk (fun w h => l5Put_ok a n ca xs (bothT x y) w h hn hx hcn)
  generalize put xs (bothT x y) = P at *
  obtain ⟨kc, kk, ls⟩ := P
  simp only at *
  obtain ⟨kl, hkl⟩ : ∃ m, ls.length = m := ⟨_, rfl⟩
  rw [hkl] at CP ⊢
  replace hkl := Hid.mk hkl
  unfold bothT at CP
  go_enter Tryd.func56, Tryd.ntmps56
  have B := Below.refl w.heap.size w
  replace ha := ha.kept (belowA w (.cells #[.int .i64 0, .int .i64 0, .slice none 0 0] 28))
  replace B := thenB B (belowA w (.cells #[.int .i64 0, .int .i64 0, .slice none 0 0] 28))
  have VR := V.new w [.int .i64 0, .int .i64 0, .slice none 0 0] 28
  obtain ⟨s_VR, f_VR, z_VR⟩ := VR.open
  have Bo := B
  go_wp2_with (first | (go_at_call 64; refine (l3Min_ok _ _ _).mono ?_; rintro e wq ⟨rfl, rfl⟩) | (go_at_call 43; refine (l3Max_ok _ _ _).mono ?_; rintro e wq ⟨rfl, rfl⟩) | fail)
  refine (CP.out _ ha).mono ?_
  rintro e w1 ⟨c, d, rfl, O, b1⟩
  clear s_VR f_VR z_VR
  have S1 := b1.size
  simp only [World.size_alloc] at S1
  replace VR := VR.kept b1
  replace ha := ha.kept b1
  replace B := thenB B b1
  clear b1
  obtain ⟨s_VR, f_VR, z_VR⟩ := VR.open
  have Bo := B
  have OL := Hid.mk (fun b hb => (O.lt b hb).1)
  clear s_VR f_VR z_VR
  have VF := Hid.mk (VR.filled [.int .i64 kc, .int .i64 kk, .slice c kl d] rfl)
  have HT := Hid.mk VR.there
  have BR := belowCells B (show w.heap.size ≤ w.heap.size by (first | omega | (simp; done) | (simp; omega))) 0 [.int .i64 kc, .int .i64 kk, .slice c kl d]
  replace BR := Hid.mk BR
  have HO := Hid.mk ((O.mono (show w.heap.size ≤ _ by first | omega | (simp; done) | (simp; omega))).apart (B := w.heap.size) (by intro b hb; have := OL.out b hb; first | omega | (simp at this; omega)) 0 [.int .i64 kc, .int .i64 kk, .slice c kl d])
  obtain ⟨s_VR, f_VR, z_VR⟩ := VR.open
  go_wp2_with (refine wpList_store_mid rfl 28 _ _ rfl (w.heap.size) 0 #[.int .i64 kc, .int .i64 kk, .slice c kl d] rfl rfl HT.out (by kernel_rfl) (by kernel_rfl) ?_)
  refine bodyPost_ret (v := .agg #[.int .i64 kc, .int .i64 kk, .slice c kl d]) (results_row Tryd.results56 _ _ (w.heap.size) [.int .i64 kc, .int .i64 kk, .slice c kl d] _ rfl VF.out Tryd.underlying28 rfl (by kernel_rfl)) rfl ⟨c, d, rfl, HO.out, BR.out⟩

set_option maxHeartbeats 1000000 in
theorem bothOf_ok (x y : Int) (w : World) : Calls Tryd.prog 69 #[.int .i64 x, .int .i64 y] w fun e w' => e = .returned (.agg #[.int .i64 7, .int .i64 (min x y), .int .i64 (max x y), .int .i64 0]) ∧ Below w.heap.size w w' := by
  have q1 := build_bothT
  rcases (by omega : x < y ∨ x = y ∨ y < x) with h | h | h
  · have e1 : min x y = x := Int.min_eq_left (by omega)
    have e2 : max x y = y := Int.max_eq_right (by omega)
    rw [e1, e2]
    clear e1 e2
    have h2 : x ≤ y := by omega
    have h3 : ¬ (y < x) := by omega
    have h4 : ¬ (y ≤ x) := by omega
    go_enter Tryd.func69, Tryd.ntmps69
    go_wp2
    refine bodyPost_ret (v := .agg #[.int .i64 7, .int .i64 x, .int .i64 y, .int .i64 0]) (by simp [results, Tryd.results69, go_sem]) rfl ⟨rfl, ?_⟩
    repeat' (first | exact Below.refl _ _ | refine Below.alloc ?_ (by simp) _ | refine Below.setCell ?_ (by simp) _ | refine Below.drew ?_)
  · subst h
    have e1 : min x x = x := Int.min_self x
    have e2 : max x x = x := Int.max_self x
    rw [e1, e2]
    clear e1 e2
    have h2 : x ≤ x := by omega
    have h3 : ¬ (x < x) := by omega
    go_enter Tryd.func69, Tryd.ntmps69
    go_wp2
    refine bodyPost_ret (v := .agg #[.int .i64 7, .int .i64 x, .int .i64 x, .int .i64 0]) (by simp [results, Tryd.results69, go_sem]) rfl ⟨rfl, ?_⟩
    repeat' (first | exact Below.refl _ _ | refine Below.alloc ?_ (by simp) _ | refine Below.setCell ?_ (by simp) _ | refine Below.drew ?_)
  · have e1 : min x y = y := Int.min_eq_right (by omega)
    have e2 : max x y = x := Int.max_eq_left (by omega)
    rw [e1, e2]
    clear e1 e2
    have h2 : y ≤ x := by omega
    have h3 : ¬ (x < y) := by omega
    have h4 : ¬ (x ≤ y) := by omega
    go_enter Tryd.func69, Tryd.ntmps69
    go_wp2
    refine bodyPost_ret (v := .agg #[.int .i64 7, .int .i64 y, .int .i64 x, .int .i64 0]) (by simp [results, Tryd.results69, go_sem]) rfl ⟨rfl, ?_⟩
    repeat' (first | exact Below.refl _ _ | refine Below.alloc ?_ (by simp) _ | refine Below.setCell ?_ (by simp) _ | refine Below.drew ?_)

theorem okI_min {x y : Int} (hx : okI x) (hy : okI y) : okI (min x y) := by
  rcases Int.le_total x y with h | h
  · rw [Int.min_eq_left h]; exact hx
  · rw [Int.min_eq_right h]; exact hy

theorem okI_max {x y : Int} (hx : okI x) (hy : okI y) : okI (max x y) := by
  rcases Int.le_total x y with h | h
  · rw [Int.max_eq_right h]; exact hy
  · rw [Int.max_eq_left h]; exact hx

theorem okT_both {x y : Int} (hx : okI x) (hy : okI y) : okT (bothT x y) := by
  unfold bothT
  exact ⟨(okI_of (by decide) (by decide) : okI 7), okI_min hx hy, okI_max hx hy, (okI_of (by decide) (by decide) : okI 0)⟩

end Go.Proofs.YthjaehcfakjemaaDoor
