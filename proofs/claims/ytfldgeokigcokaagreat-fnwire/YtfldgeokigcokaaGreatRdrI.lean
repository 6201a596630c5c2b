/- DecodeTerm of the program. -/
import Derived.Test.YtfldgeokigcokaaGreatRdrG
import Derived.Test.YtfldgeokigcokaaGreatFWu
import Derived.Test.YtfldgeokigcokaaGreatFWd
import Derived.Test.YtfldgeokigcokaaGreatFWi
namespace Go.Proofs.YtfldgeokigcokaaGreat
open Go.RowKit

set_option maxRecDepth 20000 in
set_option maxHeartbeats 4000000 in
theorem decTerm1_ok (D : Nat) (x : Option Addr) (m d : Nat) (ds : List Int) (w : World) (VD : V w D [.slice x m d]) (hr : Rd .u8 w x ds) (hb : Bytes ds) (hm : ds.length = m) (hm4 : m ≤ 400) (hd : m ≤ d) :
    Calls Tryz.prog 20 #[.pointer (some ⟨D, 0, none⟩)] w (TermOf ds w) := by
  have CT := Hid.mk (fun w h => readTerm_ok x m d ds w h hb hm hm4 hd)
  unfold TermOf at CT ⊢
  clear hb hm
  go_enter Tryz.func20, Tryz.ntmps20
  have B := Below.refl w.heap.size w
  replace VD := VD.kept (belowA w (.cells #[.int .i64 0, .int .i64 0, .slice none 0 0] 28))
  replace hr := hr.kept (belowA w (.cells #[.int .i64 0, .int .i64 0, .slice none 0 0] 28))
  replace B := thenB B (belowA w (.cells #[.int .i64 0, .int .i64 0, .slice none 0 0] 28))
  have VR := V.new w [.int .i64 0, .int .i64 0, .slice none 0 0] 28
  obtain ⟨s_VD, f_VD, z_VD⟩ := VD.open
  obtain ⟨s_VR, f_VR, z_VR⟩ := VR.open
  have Bo := B
  have hcz := VR.1
  go_wp2_with fail
  refine (CT.out _ hr).mono ?_
  rintro e w2 ⟨b2, ⟨hw, rfl⟩ | ⟨t, c, dd, hw, hwf, hc, ht, rfl, O⟩⟩
  clear s_VD f_VD z_VD s_VR f_VR z_VR
  · exact ⟨rfl, thenB B b2, .inl ⟨hw, rfl⟩⟩
  have S2 := b2.size
  simp only [World.size_alloc] at S2
  replace VD := VD.kept b2
  replace VR := VR.kept b2
  replace hr := hr.kept b2
  replace B := thenB B b2
  clear b2
  obtain ⟨Q, hQ⟩ : ∃ Q, ptr [] t = Q := ⟨_, rfl⟩
  rw [hQ] at hc ht O ⊢
  have HF := Hid.mk (And.intro hw (And.intro hwf (And.intro hQ (And.intro hc ht))))
  obtain ⟨ql, hql⟩ : ∃ l, Q.l.length = l := ⟨_, rfl⟩
  rw [hql]
  have HQL := Hid.mk hql
  have OL := Hid.mk (fun b hb => (O.lt b hb).1)
  clear hw hwf hQ hc ht hql
  obtain ⟨s_VD, f_VD, z_VD⟩ := VD.open
  obtain ⟨s_VR, f_VR, z_VR⟩ := VR.open
  have Bo := B
  clear s_VD f_VD z_VD s_VR f_VR z_VR
  have VF := Hid.mk (VR.filled [.int .i64 0, .int .i64 Q.k, .slice c ql dd] rfl)
  have HT := Hid.mk VR.there
  have BR := belowCells B (show w.heap.size ≤ w.heap.size by (first | omega | (simp; done) | (simp; omega))) 0 [.int .i64 0, .int .i64 Q.k, .slice c ql dd]
  replace BR := Hid.mk BR
  have HO := Hid.mk ((O.mono (show w.heap.size ≤ _ by first | omega | (simp; done) | (simp; omega))).apart (B := w.heap.size) (by intro b hb; have := OL.out b hb; first | omega | (simp at this; omega)) 0 [.int .i64 0, .int .i64 Q.k, .slice c ql dd])
  obtain ⟨s_VD, f_VD, z_VD⟩ := VD.open
  obtain ⟨s_VR, f_VR, z_VR⟩ := VR.open
  go_wp2_with (refine wpList_store_mid rfl 28 _ _ rfl (w.heap.size) 0 #[.int .i64 0, .int .i64 Q.k, .slice c ql dd] rfl rfl HT.out (by kernel_rfl) (by kernel_rfl) ?_)
  refine bodyPost_ret (v := .agg #[.int .i64 0, .int .i64 Q.k, .slice c ql dd]) (results_row Tryz.results20 _ _ (w.heap.size) [.int .i64 0, .int .i64 Q.k, .slice c ql dd] _ rfl VF.out Tryz.underlying28 rfl (by kernel_rfl)) rfl ⟨BR.out, .inr ⟨t, c, dd, HF.out.1, HF.out.2.1, by rw [HF.out.2.2.1]; exact HF.out.2.2.2.1, by rw [HF.out.2.2.1]; exact HF.out.2.2.2.2, by rw [HF.out.2.2.1, HQL.out], by rw [HF.out.2.2.1]; exact HO.out⟩⟩

/-- What is told of a term's bytes, or the code. -/
def TermTold (ds : List Int) (w : World) : Ending → World → Prop := fun e w' => Below w.heap.size w w' ∧ ((whole ds = none ∧ e = .returned (.tuple #[.agg #[.int .i64 0, .int .i64 0, .slice none 0 0], .int .i64 5])) ∨ ∃ (t : Tr) (c : Option Addr) (dd : Nat), whole ds = some t ∧ t.wf ∧ (ptr [] t).c = 0 ∧ tfC (ptr [] t).l = 0 ∧
    e = .returned (.tuple #[.agg #[.int .i64 0, .int .i64 (ptr [] t).k, .slice c (ptr [] t).l.length dd], .int .i64 0]) ∧ OwnTerm w' w.heap.size c dd (ptr [] t).l)

theorem rofTerm_ok (D : Nat) (x : Option Addr) (m d : Nat) (ds : List Int) (w : World) (VD : V w D [.slice x m d]) (hr : Rd .u8 w x ds) (hb : Bytes ds) (hm : ds.length = m) (hm4 : m ≤ 400) (hd : m ≤ d) :
    Calls Tryz.prog 19 #[.func (.func 20) #[] #[.pointer (some ⟨D, 0, none⟩)]] w (TermTold ds w) := by
  have b1 := belowA2 w (.cells #[.int .i64 0, .int .i64 0, .slice none 0 0] 28) (.cells #[.int .i64 0] 2)
  have hsz : ((w.alloc (.cells #[.int .i64 0, .int .i64 0, .slice none 0 0] 28)).alloc (.cells #[.int .i64 0] 2)).heap.size = w.heap.size + 2 := by simp
  have C := decTerm1_ok D x m d ds _ (VD.kept b1) (hr.kept b1) hb hm hm4 hd
  unfold TermOf at C
  rw [hsz] at C
  cases hw : whole ds with
  | none =>
    refine (rofNo_TermResult D 5 w (Hid.mk (C.mono ?_))).mono ?_
    · rintro e w' ⟨b, ⟨_, rfl⟩ | ⟨t, c, dd, h, _⟩⟩
      · exact ⟨rfl, b⟩
      · rw [hw] at h; cases h
    · rintro e w' ⟨rfl, b⟩
      exact ⟨b, .inl ⟨hw, rfl⟩⟩
  | some t =>
    obtain ⟨w1, d1, s1, e1⟩ := (whole_iff hb t).1 hw
    have h0 : tfC ([] : List T4) = 0 := by unfold tfC; simp [tfF]
    have hp : (ptr [] t).c = 0 ∧ tfC (ptr [] t).l = 0 := by
      rcases ptr_ways t [] h0 w1 with ⟨_, h⟩ | ⟨h, h2⟩
      · rw [← e1] at h; simp at h; omega
      · exact ⟨h, h2.right⟩
    refine (rofYes_TermResult D 0 (ptr [] t).k (ptr [] t).l.length (ptr [] t).l w (Hid.mk (C.mono ?_))).mono ?_
    · rintro e w' ⟨b, ⟨h, _⟩ | ⟨t', c, dd, h, _, _, _, rfl, O⟩⟩
      · rw [hw] at h; cases h
      · rw [hw] at h
        simp only [Option.some.injEq] at h
        subst h
        exact ⟨c, dd, rfl, O, b⟩
    · rintro e w' ⟨c, dd, rfl, O, b⟩
      exact ⟨b, .inr ⟨t, c, dd, hw, w1, hp.1, hp.2, rfl, O⟩⟩

theorem OwnTerm.none7 {w : World} {base : Nat} : OwnTerm w base .none 0 [] := World.ownsRow_nil _ _ _ _

set_option maxRecDepth 20000 in
set_option maxHeartbeats 8000000 in
theorem implDecodeTerm_ok (a : Option Addr) (n ca : Nat) (xs : List T4) (b : Option Addr) (m cb : Nat) (ds : List Int) (w : World) (ha : RdTerm w a xs) (hn : xs.length = n) (hx : n ≤ 1048576) (hok : ∀ t ∈ xs, okT t) (hr : Rd .u8 w b ds) (hb : Bytes ds) (hm : ds.length = m) (hm1 : m ≤ 1048576) (hcb : m ≤ cb) :
    Calls Tryz.prog 6 #[.slice a n ca, .slice b m cb] w fun e w' => ∃ c d, e = .returned (.agg #[.int .i64 (deT xs ds).c, .int .i64 (deT xs ds).k, .slice c (deT xs ds).l.length d]) ∧ OwnTerm w' w.heap.size c d (deT xs ds).l ∧ Below w.heap.size w w' := by
  have q1 := build_tr0'
  have hmf : ∀ (fn : Fn) (first cap : Array Value) (w : World), (Instr.makeFunc fn first cap).run Tryz.prog w = .ok (.func fn first cap) w := fun _ _ _ _ => rfl
  have CT := Hid.mk (fun w h => implTermsFault_ok a n ca xs w h hn (by unfold maxLen; omega) hok)
  rcases de_ways xs ds with ⟨h, e⟩ | ⟨h, h1, e⟩ | ⟨h, h1, hw, e⟩ | ⟨t, h, h1, hw, e⟩
  · rw [e]
    have h2 : (tfC xs != 0) = true := by simp [h]
    clear e h
    generalize tfC xs = kk at *
    go_enter Tryz.func6, Tryz.ntmps6
    have B := Below.refl w.heap.size w
    replace ha := ha.kept (belowA w (.cells #[.slice b m cb] 22))
    replace hr := hr.kept (belowA w (.cells #[.slice b m cb] 22))
    replace B := thenB B (belowA w (.cells #[.slice b m cb] 22))
    have VD := V.new w [.slice b m cb] 22
    replace VD := VD.kept (belowA (w.alloc (.cells #[.slice b m cb] 22)) (.cells #[.int .i64 0, .int .i64 0, .slice none 0 0] 28))
    replace ha := ha.kept (belowA (w.alloc (.cells #[.slice b m cb] 22)) (.cells #[.int .i64 0, .int .i64 0, .slice none 0 0] 28))
    replace hr := hr.kept (belowA (w.alloc (.cells #[.slice b m cb] 22)) (.cells #[.int .i64 0, .int .i64 0, .slice none 0 0] 28))
    replace B := thenB B (belowA (w.alloc (.cells #[.slice b m cb] 22)) (.cells #[.int .i64 0, .int .i64 0, .slice none 0 0] 28))
    have VR : V ((w.alloc (.cells #[.slice b m cb] 22)).alloc (.cells #[.int .i64 0, .int .i64 0, .slice none 0 0] 28)) (w.heap.size + 1) [.int .i64 0, .int .i64 0, .slice none 0 0] := V.newAt _ _ _ _ (by simp)
    obtain ⟨s_VD, f_VD, z_VD⟩ := VD.open
    obtain ⟨s_VR, f_VR, z_VR⟩ := VR.open
    have Bo := B
    go_wp2_with fail
    refine (CT.out _ ha).mono ?_
    rintro e w1 ⟨rfl, b1⟩
    clear s_VD f_VD z_VD s_VR f_VR z_VR
    have S1 := b1.size
    simp only [World.size_alloc] at S1
    replace VD := VD.kept b1
    replace VR := VR.kept b1
    replace ha := ha.kept b1
    replace hr := hr.kept b1
    replace B := thenB B b1
    clear b1
    obtain ⟨s_VD, f_VD, z_VD⟩ := VD.open
    obtain ⟨s_VR, f_VR, z_VR⟩ := VR.open
    have Bo := B
    clear s_VD f_VD z_VD s_VR f_VR z_VR
    have VF := Hid.mk (VR.filled [.int .i64 kk, .int .i64 0, .slice none 0 0] rfl)
    have HT := Hid.mk VR.there
    have BR := belowCells B (show w.heap.size ≤ w.heap.size + 1 by (first | omega | (simp; done) | (simp; omega))) 0 [.int .i64 kk, .int .i64 0, .slice none 0 0]
    replace BR := Hid.mk BR
    obtain ⟨s_VD, f_VD, z_VD⟩ := VD.open
    obtain ⟨s_VR, f_VR, z_VR⟩ := VR.open
    go_wp2_with (refine wpList_store_mid rfl 28 _ _ rfl (w.heap.size + 1) 0 #[.int .i64 kk, .int .i64 0, .slice none 0 0] rfl rfl HT.out (by kernel_rfl) (by kernel_rfl) ?_)
    refine bodyPost_ret (v := .agg #[.int .i64 kk, .int .i64 0, .slice none 0 0]) (results_row Tryz.results6 _ _ (w.heap.size + 1) [.int .i64 kk, .int .i64 0, .slice none 0 0] _ rfl VF.out Tryz.underlying28 rfl (by kernel_rfl)) rfl ⟨none, 0, rfl, OwnTerm.none7, BR.out⟩
  · rw [e]
    rw [h] at CT
    have h2 : (m : Int) > 400 := by omega
    clear e h h1
    go_enter Tryz.func6, Tryz.ntmps6
    have B := Below.refl w.heap.size w
    replace ha := ha.kept (belowA w (.cells #[.slice b m cb] 22))
    replace hr := hr.kept (belowA w (.cells #[.slice b m cb] 22))
    replace B := thenB B (belowA w (.cells #[.slice b m cb] 22))
    have VD := V.new w [.slice b m cb] 22
    replace VD := VD.kept (belowA (w.alloc (.cells #[.slice b m cb] 22)) (.cells #[.int .i64 0, .int .i64 0, .slice none 0 0] 28))
    replace ha := ha.kept (belowA (w.alloc (.cells #[.slice b m cb] 22)) (.cells #[.int .i64 0, .int .i64 0, .slice none 0 0] 28))
    replace hr := hr.kept (belowA (w.alloc (.cells #[.slice b m cb] 22)) (.cells #[.int .i64 0, .int .i64 0, .slice none 0 0] 28))
    replace B := thenB B (belowA (w.alloc (.cells #[.slice b m cb] 22)) (.cells #[.int .i64 0, .int .i64 0, .slice none 0 0] 28))
    have VR : V ((w.alloc (.cells #[.slice b m cb] 22)).alloc (.cells #[.int .i64 0, .int .i64 0, .slice none 0 0] 28)) (w.heap.size + 1) [.int .i64 0, .int .i64 0, .slice none 0 0] := V.newAt _ _ _ _ (by simp)
    obtain ⟨s_VD, f_VD, z_VD⟩ := VD.open
    obtain ⟨s_VR, f_VR, z_VR⟩ := VR.open
    have Bo := B
    go_wp2_with fail
    refine (CT.out _ ha).mono ?_
    rintro e w11 ⟨rfl, b11⟩
    clear s_VD f_VD z_VD s_VR f_VR z_VR
    have S11 := b11.size
    simp only [World.size_alloc] at S11
    replace VD := VD.kept b11
    replace VR := VR.kept b11
    replace ha := ha.kept b11
    replace hr := hr.kept b11
    replace B := thenB B b11
    clear b11
    obtain ⟨s_VD, f_VD, z_VD⟩ := VD.open
    obtain ⟨s_VR, f_VR, z_VR⟩ := VR.open
    have Bo := B
    clear s_VD f_VD z_VD s_VR f_VR z_VR
    have VF := Hid.mk (VR.filled [.int .i64 2, .int .i64 0, .slice none 0 0] rfl)
    have HT := Hid.mk VR.there
    have BR := belowCells B (show w.heap.size ≤ w.heap.size + 1 by (first | omega | (simp; done) | (simp; omega))) 0 [.int .i64 2, .int .i64 0, .slice none 0 0]
    replace BR := Hid.mk BR
    obtain ⟨s_VD, f_VD, z_VD⟩ := VD.open
    obtain ⟨s_VR, f_VR, z_VR⟩ := VR.open
    go_wp2_with (refine wpList_store_mid rfl 28 _ _ rfl (w.heap.size + 1) 0 #[.int .i64 2, .int .i64 0, .slice none 0 0] rfl rfl HT.out (by kernel_rfl) (by kernel_rfl) ?_)
    refine bodyPost_ret (v := .agg #[.int .i64 2, .int .i64 0, .slice none 0 0]) (results_row Tryz.results6 _ _ (w.heap.size + 1) [.int .i64 2, .int .i64 0, .slice none 0 0] _ rfl VF.out Tryz.underlying28 rfl (by kernel_rfl)) rfl ⟨none, 0, rfl, OwnTerm.none7, BR.out⟩
  all_goals
    have h2 : (m : Int) ≤ 400 := by omega
    have h4 : m ≤ 400 := by omega
    have HB := Hid.mk hb
    have HM := Hid.mk hm
    have HW := Hid.mk hw
    have HT := Hid.mk h
  · rw [e]
    rw [h] at CT
    clear e h h1 hw hb hm
    go_enter Tryz.func6, Tryz.ntmps6
    have B := Below.refl w.heap.size w
    replace ha := ha.kept (belowA w (.cells #[.slice b m cb] 22))
    replace hr := hr.kept (belowA w (.cells #[.slice b m cb] 22))
    replace B := thenB B (belowA w (.cells #[.slice b m cb] 22))
    have VD := V.new w [.slice b m cb] 22
    replace VD := VD.kept (belowA (w.alloc (.cells #[.slice b m cb] 22)) (.cells #[.int .i64 0, .int .i64 0, .slice none 0 0] 28))
    replace ha := ha.kept (belowA (w.alloc (.cells #[.slice b m cb] 22)) (.cells #[.int .i64 0, .int .i64 0, .slice none 0 0] 28))
    replace hr := hr.kept (belowA (w.alloc (.cells #[.slice b m cb] 22)) (.cells #[.int .i64 0, .int .i64 0, .slice none 0 0] 28))
    replace B := thenB B (belowA (w.alloc (.cells #[.slice b m cb] 22)) (.cells #[.int .i64 0, .int .i64 0, .slice none 0 0] 28))
    have VR : V ((w.alloc (.cells #[.slice b m cb] 22)).alloc (.cells #[.int .i64 0, .int .i64 0, .slice none 0 0] 28)) (w.heap.size + 1) [.int .i64 0, .int .i64 0, .slice none 0 0] := V.newAt _ _ _ _ (by simp)
    obtain ⟨s_VD, f_VD, z_VD⟩ := VD.open
    obtain ⟨s_VR, f_VR, z_VR⟩ := VR.open
    have Bo := B
    go_wp2_with fail
    refine (CT.out _ ha).mono ?_
    rintro e w21 ⟨rfl, b21⟩
    clear s_VD f_VD z_VD s_VR f_VR z_VR
    have S21 := b21.size
    simp only [World.size_alloc] at S21
    replace VD := VD.kept b21
    replace VR := VR.kept b21
    replace ha := ha.kept b21
    replace hr := hr.kept b21
    replace B := thenB B b21
    clear b21
    obtain ⟨s_VD, f_VD, z_VD⟩ := VD.open
    obtain ⟨s_VR, f_VR, z_VR⟩ := VR.open
    have Bo := B
    have CR := Hid.mk (rofTerm_ok w.heap.size b m cb ds w21 VD hr HB.out HM.out h4 hcb)
    unfold TermTold at CR
    go_wp2_with fail
    refine (CR.out).mono ?_
    rintro e w22 ⟨b22, ⟨_, rfl⟩ | ⟨t, c, dd, hw, _⟩⟩
    clear s_VD f_VD z_VD s_VR f_VR z_VR
    case inr => rw [HW.out] at hw; cases hw
    have S22 := b22.size
    replace VD := VD.kept b22
    replace VR := VR.kept b22
    replace ha := ha.kept b22
    replace hr := hr.kept b22
    replace B := thenB B b22
    clear b22 CR
    replace VD := VD.kept (belowA w22 (.cells #[.int .i64 0, .int .i64 0, .slice none 0 0] 28))
    replace VR := VR.kept (belowA w22 (.cells #[.int .i64 0, .int .i64 0, .slice none 0 0] 28))
    replace ha := ha.kept (belowA w22 (.cells #[.int .i64 0, .int .i64 0, .slice none 0 0] 28))
    replace hr := hr.kept (belowA w22 (.cells #[.int .i64 0, .int .i64 0, .slice none 0 0] 28))
    replace B := thenB B (belowA w22 (.cells #[.int .i64 0, .int .i64 0, .slice none 0 0] 28))
    have VB := V.new w22 [.int .i64 0, .int .i64 0, .slice none 0 0] 28
    obtain ⟨s_VD, f_VD, z_VD⟩ := VD.open
    obtain ⟨s_VR, f_VR, z_VR⟩ := VR.open
    obtain ⟨s_VB, f_VB, z_VB⟩ := VB.open
    have Bo := B
    clear s_VD f_VD z_VD s_VR f_VR z_VR s_VB f_VB z_VB
    have VF := Hid.mk (VR.filled [.int .i64 5, .int .i64 0, .slice none 0 0] rfl)
    have HT := Hid.mk VR.there
    have BR := belowCells B (show w.heap.size ≤ w.heap.size + 1 by (first | omega | (simp; done) | (simp; omega))) 0 [.int .i64 5, .int .i64 0, .slice none 0 0]
    replace BR := Hid.mk BR
    obtain ⟨s_VD, f_VD, z_VD⟩ := VD.open
    obtain ⟨s_VR, f_VR, z_VR⟩ := VR.open
    obtain ⟨s_VB, f_VB, z_VB⟩ := VB.open
    go_wp2_with (refine wpList_store_mid rfl 28 _ _ rfl (w.heap.size + 1) 0 #[.int .i64 5, .int .i64 0, .slice none 0 0] rfl rfl HT.out (by kernel_rfl) (by kernel_rfl) ?_)
    refine bodyPost_ret (v := .agg #[.int .i64 5, .int .i64 0, .slice none 0 0]) (results_row Tryz.results6 _ _ (w.heap.size + 1) [.int .i64 5, .int .i64 0, .slice none 0 0] _ rfl VF.out Tryz.underlying28 rfl (by kernel_rfl)) rfl ⟨none, 0, rfl, OwnTerm.none7, BR.out⟩
  · rw [e]
    rw [h] at CT
    obtain ⟨P, hP⟩ : ∃ P, ptr xs t = P := ⟨_, rfl⟩
    rw [hP]
    obtain ⟨pc, pk, pl⟩ := P
    simp only
    obtain ⟨l8, hl8⟩ : ∃ l, pl.length = l := ⟨_, rfl⟩
    rw [hl8]
    have HP := Hid.mk hP
    have HL8 := Hid.mk hl8
    clear e h h1 hw hb hm hP hl8
    go_enter Tryz.func6, Tryz.ntmps6
    have B := Below.refl w.heap.size w
    replace ha := ha.kept (belowA w (.cells #[.slice b m cb] 22))
    replace hr := hr.kept (belowA w (.cells #[.slice b m cb] 22))
    replace B := thenB B (belowA w (.cells #[.slice b m cb] 22))
    have VD := V.new w [.slice b m cb] 22
    replace VD := VD.kept (belowA (w.alloc (.cells #[.slice b m cb] 22)) (.cells #[.int .i64 0, .int .i64 0, .slice none 0 0] 28))
    replace ha := ha.kept (belowA (w.alloc (.cells #[.slice b m cb] 22)) (.cells #[.int .i64 0, .int .i64 0, .slice none 0 0] 28))
    replace hr := hr.kept (belowA (w.alloc (.cells #[.slice b m cb] 22)) (.cells #[.int .i64 0, .int .i64 0, .slice none 0 0] 28))
    replace B := thenB B (belowA (w.alloc (.cells #[.slice b m cb] 22)) (.cells #[.int .i64 0, .int .i64 0, .slice none 0 0] 28))
    have VR : V ((w.alloc (.cells #[.slice b m cb] 22)).alloc (.cells #[.int .i64 0, .int .i64 0, .slice none 0 0] 28)) (w.heap.size + 1) [.int .i64 0, .int .i64 0, .slice none 0 0] := V.newAt _ _ _ _ (by simp)
    obtain ⟨s_VD, f_VD, z_VD⟩ := VD.open
    obtain ⟨s_VR, f_VR, z_VR⟩ := VR.open
    have Bo := B
    go_wp2_with fail
    refine (CT.out _ ha).mono ?_
    rintro e w41 ⟨rfl, b41⟩
    clear s_VD f_VD z_VD s_VR f_VR z_VR
    have S41 := b41.size
    simp only [World.size_alloc] at S41
    replace VD := VD.kept b41
    replace VR := VR.kept b41
    replace ha := ha.kept b41
    replace hr := hr.kept b41
    replace B := thenB B b41
    clear b41
    obtain ⟨s_VD, f_VD, z_VD⟩ := VD.open
    obtain ⟨s_VR, f_VR, z_VR⟩ := VR.open
    have Bo := B
    have CR := Hid.mk (rofTerm_ok w.heap.size b m cb ds w41 VD hr HB.out HM.out h4 hcb)
    unfold TermTold at CR
    go_wp2_with fail
    refine (CR.out).mono ?_
    rintro e w42 ⟨b42, ⟨hw, rfl⟩ | ⟨t', c, dd, hw, hwf, hc, ht, rfl, O⟩⟩
    clear s_VD f_VD z_VD s_VR f_VR z_VR
    · rw [HW.out] at hw; cases hw
    have S42 := b42.size
    replace VD := VD.kept b42
    replace VR := VR.kept b42
    replace ha := ha.kept b42
    replace hr := hr.kept b42
    replace B := thenB B b42
    clear b42 CR
    obtain rfl : t' = t := by rw [HW.out] at hw; simp only [Option.some.injEq] at hw; exact hw.symm
    have hmv := mv_ptr hwf hc HT.out
    have hq4 := (tfC_zero ht).1
    obtain ⟨ql, hql⟩ : ∃ l, (ptr [] t').l.length = l := ⟨_, rfl⟩
    rw [hql] at hq4 ⊢
    have CM := fun w h h2 => implMoveTerm_ok c ql dd (ptr [] t').l (ptr [] t').k a n ca xs w h hql (by omega) (tfC_ok ht) h2 hn hx hok
    rw [hmv, HP.out] at CM
    have OR := O.rd
    simp only at CM
    rw [HL8.out] at CM
    replace CM := Hid.mk CM
    obtain ⟨qk, hqk⟩ : ∃ k, (ptr [] t').k = k := ⟨_, rfl⟩
    rw [hqk] at CM ⊢
    generalize (ptr [] t').l = ls at *
    clear hmv hwf hc ht hql hqk hw O
    clear hr
    replace VD := VD.kept (belowA w42 (.cells #[.int .i64 0, .int .i64 qk, .slice c ql dd] 28))
    replace VR := VR.kept (belowA w42 (.cells #[.int .i64 0, .int .i64 qk, .slice c ql dd] 28))
    replace ha := ha.kept (belowA w42 (.cells #[.int .i64 0, .int .i64 qk, .slice c ql dd] 28))
    replace OR := OR.kept (belowA w42 (.cells #[.int .i64 0, .int .i64 qk, .slice c ql dd] 28))
    replace B := thenB B (belowA w42 (.cells #[.int .i64 0, .int .i64 qk, .slice c ql dd] 28))
    have VB := V.new w42 [.int .i64 0, .int .i64 qk, .slice c ql dd] 28
    obtain ⟨s_VD, f_VD, z_VD⟩ := VD.open
    obtain ⟨s_VR, f_VR, z_VR⟩ := VR.open
    obtain ⟨s_VB, f_VB, z_VB⟩ := VB.open
    have Bo := B
    go_wp2_with fail
    refine (CM.out _ OR ha).mono ?_
    rintro e w42 ⟨c8, d8, rfl, O8, b42⟩
    clear s_VD f_VD z_VD s_VR f_VR z_VR s_VB f_VB z_VB
    have S42 := b42.size
    simp only [World.size_alloc] at S42
    replace VD := VD.kept b42
    replace VR := VR.kept b42
    replace VB := VB.kept b42
    replace ha := ha.kept b42
    replace OR := OR.kept b42
    replace B := thenB B b42
    clear b42
    obtain ⟨s_VD, f_VD, z_VD⟩ := VD.open
    obtain ⟨s_VR, f_VR, z_VR⟩ := VR.open
    obtain ⟨s_VB, f_VB, z_VB⟩ := VB.open
    have Bo := B
    have OL := Hid.mk (fun b hb => (O8.lt b hb).1)
    clear s_VD f_VD z_VD s_VR f_VR z_VR s_VB f_VB z_VB
    have VF := Hid.mk (VR.filled [.int .i64 pc, .int .i64 pk, .slice c8 l8 d8] rfl)
    have HT := Hid.mk VR.there
    have BR := belowCells B (show w.heap.size ≤ w.heap.size + 1 by (first | omega | (simp; done) | (simp; omega))) 0 [.int .i64 pc, .int .i64 pk, .slice c8 l8 d8]
    replace BR := Hid.mk BR
    have HO := Hid.mk ((O8.mono (show w.heap.size ≤ _ by first | omega | (simp; done) | (simp; omega))).apart (B := w.heap.size + 1) (by intro b hb; have := OL.out b hb; first | omega | (simp at this; omega)) 0 [.int .i64 pc, .int .i64 pk, .slice c8 l8 d8])
    obtain ⟨s_VD, f_VD, z_VD⟩ := VD.open
    obtain ⟨s_VR, f_VR, z_VR⟩ := VR.open
    obtain ⟨s_VB, f_VB, z_VB⟩ := VB.open
    go_wp2_with (refine wpList_store_mid rfl 28 _ _ rfl (w.heap.size + 1) 0 #[.int .i64 pc, .int .i64 pk, .slice c8 l8 d8] rfl rfl HT.out (by kernel_rfl) (by kernel_rfl) ?_)
    refine bodyPost_ret (v := .agg #[.int .i64 pc, .int .i64 pk, .slice c8 l8 d8]) (results_row Tryz.results6 _ _ (w.heap.size + 1) [.int .i64 pc, .int .i64 pk, .slice c8 l8 d8] _ rfl VF.out Tryz.underlying28 rfl (by kernel_rfl)) rfl ⟨c8, d8, rfl, HO.out, BR.out⟩

end Go.Proofs.YtfldgeokigcokaaGreat
