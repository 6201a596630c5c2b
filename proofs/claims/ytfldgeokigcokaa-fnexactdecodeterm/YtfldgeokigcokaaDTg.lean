/- Put together: RdrI, XWd. -/
import Derived.Test.YtfldgeokigcokaaRdrG
import Derived.Test.YtfldgeokigcokaaRofT
import Derived.Test.YtfldgeokigcokaaDTe
import Derived.Test.YtfldgeokigcokaaDTn
import Derived.Test.YtfldgeokigcokaaDTd
import Derived.Test.YtfldgeokigcokaaDTh

/- DecodeTerm of the program. -/
namespace Go.Proofs.Ytfldgeokigcokaa
open Go.RowKit

set_option maxRecDepth 20000 in
set_option maxHeartbeats 4000000 in
theorem decTerm1_ok (D : Nat) (x : Option Addr) (m d : Nat) (ds : List Int) (w : World) (VD : V w D [.slice x m d]) (hr : Rd .u8 w x ds) (hb : Bytes ds) (hm : ds.length = m) (hm4 : m ≤ 400) (hd : m ≤ d) :
    Calls Try.prog 67 #[.pointer (some ⟨D, 0, none⟩)] w (TermOf ds w) := by
  have CT := Hid.mk (fun w h => readTerm_ok x m d ds w h hb hm hm4 hd)
  unfold TermOf at CT ⊢
  clear hb hm
  go_enter Try.func67, Try.ntmps67
  have B := Below.refl w.heap.size w
  replace VD := VD.kept (belowA w (.cells #[.int .i64 0, .int .i64 0, .slice none 0 0] 44))
  replace hr := hr.kept (belowA w (.cells #[.int .i64 0, .int .i64 0, .slice none 0 0] 44))
  replace B := thenB B (belowA w (.cells #[.int .i64 0, .int .i64 0, .slice none 0 0] 44))
  have VR := V.new w [.int .i64 0, .int .i64 0, .slice none 0 0] 44
  obtain ⟨s_VD, f_VD, z_VD⟩ := VD.open
  obtain ⟨s_VR, f_VR, z_VR⟩ := VR.open
  have Bo := B
  have hcz := VR.1
  go_wp2_with fail
  refine (CT.out _ hr).mono ?_
  rintro e w2 ⟨b2, ⟨hw, rfl⟩ | ⟨t, c, dd, hw, hwf, hc, ht, rfl, O⟩⟩
  clear s_VD f_VD z_VD s_VR f_VR z_VR
  · exact ⟨rfl, thenB B b2, .inl ⟨hw, rfl⟩⟩
  have S2 := b2.size
  simp only [World.size_alloc] at S2
  replace VD := VD.kept b2
  replace VR := VR.kept b2
  replace hr := hr.kept b2
  replace B := thenB B b2
  clear b2
  obtain ⟨Q, hQ⟩ : ∃ Q, ptr [] t = Q := ⟨_, rfl⟩
  rw [hQ] at hc ht O ⊢
  have HF := Hid.mk (And.intro hw (And.intro hwf (And.intro hQ (And.intro hc ht))))
  obtain ⟨ql, hql⟩ : ∃ l, Q.l.length = l := ⟨_, rfl⟩
  rw [hql]
  have HQL := Hid.mk hql
  have OL := Hid.mk (fun b hb => (O.lt b hb).1)
  clear hw hwf hQ hc ht hql
  obtain ⟨s_VD, f_VD, z_VD⟩ := VD.open
  obtain ⟨s_VR, f_VR, z_VR⟩ := VR.open
  have Bo := B
  clear s_VD f_VD z_VD s_VR f_VR z_VR
  have VF := Hid.mk (VR.filled [.int .i64 0, .int .i64 Q.k, .slice c ql dd] rfl)
  have HT := Hid.mk VR.there
  have BR := belowCells B (show w.heap.size ≤ w.heap.size by (first | omega | (simp; done) | (simp; omega))) 0 [.int .i64 0, .int .i64 Q.k, .slice c ql dd]
  replace BR := Hid.mk BR
  have HO := Hid.mk ((O.mono (show w.heap.size ≤ _ by first | omega | (simp; done) | (simp; omega))).apart (B := w.heap.size) (by intro b hb; have := OL.out b hb; first | omega | (simp at this; omega)) 0 [.int .i64 0, .int .i64 Q.k, .slice c ql dd])
  obtain ⟨s_VD, f_VD, z_VD⟩ := VD.open
  obtain ⟨s_VR, f_VR, z_VR⟩ := VR.open
  go_wp2_with (refine wpList_store_mid rfl 44 _ _ rfl (w.heap.size) 0 #[.int .i64 0, .int .i64 Q.k, .slice c ql dd] rfl rfl HT.out (by kernel_rfl) (by kernel_rfl) ?_)
  refine bodyPost_ret (v := .agg #[.int .i64 0, .int .i64 Q.k, .slice c ql dd]) (results_row Try.results67 _ _ (w.heap.size) [.int .i64 0, .int .i64 Q.k, .slice c ql dd] _ rfl VF.out Try.underlying44 rfl (by kernel_rfl)) rfl ⟨BR.out, .inr ⟨t, c, dd, HF.out.1, HF.out.2.1, by rw [HF.out.2.2.1]; exact HF.out.2.2.2.1, by rw [HF.out.2.2.1]; exact HF.out.2.2.2.2, by rw [HF.out.2.2.1, HQL.out], by rw [HF.out.2.2.1]; exact HO.out⟩⟩

/-- What is told of a term's bytes, or the code. -/
def TermTold (ds : List Int) (w : World) : Ending → World → Prop := fun e w' => Below w.heap.size w w' ∧ ((whole ds = none ∧ e = .returned (.tuple #[.agg #[.int .i64 0, .int .i64 0, .slice none 0 0], .int .i64 5])) ∨ ∃ (t : Tr) (c : Option Addr) (dd : Nat), whole ds = some t ∧ t.wf ∧ (ptr [] t).c = 0 ∧ tfC (ptr [] t).l = 0 ∧
    e = .returned (.tuple #[.agg #[.int .i64 0, .int .i64 (ptr [] t).k, .slice c (ptr [] t).l.length dd], .int .i64 0]) ∧ OwnTerm w' w.heap.size c dd (ptr [] t).l)

theorem rofTerm_ok (D : Nat) (x : Option Addr) (m d : Nat) (ds : List Int) (w : World) (VD : V w D [.slice x m d]) (hr : Rd .u8 w x ds) (hb : Bytes ds) (hm : ds.length = m) (hm4 : m ≤ 400) (hd : m ≤ d) :
    Calls Try.prog 66 #[.func (.func 67) #[] #[.pointer (some ⟨D, 0, none⟩)]] w (TermTold ds w) := by
  have b1 := belowA2 w (.cells #[.int .i64 0, .int .i64 0, .slice none 0 0] 44) (.cells #[.int .i64 0] 2)
  have hsz : ((w.alloc (.cells #[.int .i64 0, .int .i64 0, .slice none 0 0] 44)).alloc (.cells #[.int .i64 0] 2)).heap.size = w.heap.size + 2 := by simp
  have C := decTerm1_ok D x m d ds _ (VD.kept b1) (hr.kept b1) hb hm hm4 hd
  unfold TermOf at C
  rw [hsz] at C
  cases hw : whole ds with
  | none =>
    refine (rofNo_TermResult D 5 w (Hid.mk (C.mono ?_))).mono ?_
    · rintro e w' ⟨b, ⟨_, rfl⟩ | ⟨t, c, dd, h, _⟩⟩
      · exact ⟨rfl, b⟩
      · rw [hw] at h; cases h
    · rintro e w' ⟨rfl, b⟩
      exact ⟨b, .inl ⟨hw, rfl⟩⟩
  | some t =>
    obtain ⟨w1, d1, s1, e1⟩ := (whole_iff hb t).1 hw
    have h0 : tfC ([] : List T4) = 0 := by unfold tfC; simp [tfF]
    have hp : (ptr [] t).c = 0 ∧ tfC (ptr [] t).l = 0 := by
      rcases ptr_ways t [] h0 w1 with ⟨_, h⟩ | ⟨h, h2⟩
      · rw [← e1] at h; simp at h; omega
      · exact ⟨h, h2.right⟩
    refine (rofYes_TermResult D 0 (ptr [] t).k (ptr [] t).l.length (ptr [] t).l w (Hid.mk (C.mono ?_))).mono ?_
    · rintro e w' ⟨b, ⟨h, _⟩ | ⟨t', c, dd, h, _, _, _, rfl, O⟩⟩
      · rw [hw] at h; cases h
      · rw [hw] at h
        simp only [Option.some.injEq] at h
        subst h
        exact ⟨c, dd, rfl, O, b⟩
    · rintro e w' ⟨c, dd, rfl, O, b⟩
      exact ⟨b, .inr ⟨t, c, dd, hw, w1, hp.1, hp.2, rfl, O⟩⟩

theorem OwnTerm.none7 {w : World} {base : Nat} : OwnTerm w base .none 0 [] := World.ownsRow_nil _ _ _ _

set_option maxRecDepth 20000 in
set_option maxHeartbeats 8000000 in
theorem implDecodeTerm_ok (a : Option Addr) (n ca : Nat) (xs : List T4) (b : Option Addr) (m cb : Nat) (ds : List Int) (w : World) (ha : RdTerm w a xs) (hn : xs.length = n) (hx : n ≤ 1048576) (hok : ∀ t ∈ xs, okT t) (hr : Rd .u8 w b ds) (hb : Bytes ds) (hm : ds.length = m) (hm1 : m ≤ 1048576) (hcb : m ≤ cb) :
    Calls Try.prog 27 #[.slice a n ca, .slice b m cb] w fun e w' => ∃ c d, e = .returned (.agg #[.int .i64 (deT xs ds).c, .int .i64 (deT xs ds).k, .slice c (deT xs ds).l.length d]) ∧ OwnTerm w' w.heap.size c d (deT xs ds).l ∧ Below w.heap.size w w' := by
  have q1 := build_tr0'
  have hmf : ∀ (fn : Fn) (first cap : Array Value) (w : World), (Instr.makeFunc fn first cap).run Try.prog w = .ok (.func fn first cap) w := fun _ _ _ _ => rfl
  have CT := Hid.mk (fun w h => implTermsFault_ok a n ca xs w h hn (by unfold maxLen; omega) hok)
  rcases de_ways xs ds with ⟨h, e⟩ | ⟨h, h1, e⟩ | ⟨h, h1, hw, e⟩ | ⟨t, h, h1, hw, e⟩
  · rw [e]
    have h2 : (tfC xs != 0) = true := by simp [h]
    clear e h
    generalize tfC xs = kk at *
    go_enter Try.func27, Try.ntmps27
    have B := Below.refl w.heap.size w
    replace ha := ha.kept (belowA w (.cells #[.slice b m cb] 22))
    replace hr := hr.kept (belowA w (.cells #[.slice b m cb] 22))
    replace B := thenB B (belowA w (.cells #[.slice b m cb] 22))
    have VD := V.new w [.slice b m cb] 22
    replace VD := VD.kept (belowA (w.alloc (.cells #[.slice b m cb] 22)) (.cells #[.int .i64 0, .int .i64 0, .slice none 0 0] 44))
    replace ha := ha.kept (belowA (w.alloc (.cells #[.slice b m cb] 22)) (.cells #[.int .i64 0, .int .i64 0, .slice none 0 0] 44))
    replace hr := hr.kept (belowA (w.alloc (.cells #[.slice b m cb] 22)) (.cells #[.int .i64 0, .int .i64 0, .slice none 0 0] 44))
    replace B := thenB B (belowA (w.alloc (.cells #[.slice b m cb] 22)) (.cells #[.int .i64 0, .int .i64 0, .slice none 0 0] 44))
    have VR : V ((w.alloc (.cells #[.slice b m cb] 22)).alloc (.cells #[.int .i64 0, .int .i64 0, .slice none 0 0] 44)) (w.heap.size + 1) [.int .i64 0, .int .i64 0, .slice none 0 0] := V.newAt _ _ _ _ (by simp)
    obtain ⟨s_VD, f_VD, z_VD⟩ := VD.open
    obtain ⟨s_VR, f_VR, z_VR⟩ := VR.open
    have Bo := B
    go_wp2_with fail
    refine (CT.out _ ha).mono ?_
    rintro e w1 ⟨rfl, b1⟩
    clear s_VD f_VD z_VD s_VR f_VR z_VR
    have S1 := b1.size
    simp only [World.size_alloc] at S1
    replace VD := VD.kept b1
    replace VR := VR.kept b1
    replace ha := ha.kept b1
    replace hr := hr.kept b1
    replace B := thenB B b1
    clear b1
    obtain ⟨s_VD, f_VD, z_VD⟩ := VD.open
    obtain ⟨s_VR, f_VR, z_VR⟩ := VR.open
    have Bo := B
    clear s_VD f_VD z_VD s_VR f_VR z_VR
    have VF := Hid.mk (VR.filled [.int .i64 kk, .int .i64 0, .slice none 0 0] rfl)
    have HT := Hid.mk VR.there
    have BR := belowCells B (show w.heap.size ≤ w.heap.size + 1 by (first | omega | (simp; done) | (simp; omega))) 0 [.int .i64 kk, .int .i64 0, .slice none 0 0]
    replace BR := Hid.mk BR
    obtain ⟨s_VD, f_VD, z_VD⟩ := VD.open
    obtain ⟨s_VR, f_VR, z_VR⟩ := VR.open
    go_wp2_with (refine wpList_store_mid rfl 44 _ _ rfl (w.heap.size + 1) 0 #[.int .i64 kk, .int .i64 0, .slice none 0 0] rfl rfl HT.out (by kernel_rfl) (by kernel_rfl) ?_)
    refine bodyPost_ret (v := .agg #[.int .i64 kk, .int .i64 0, .slice none 0 0]) (results_row Try.results27 _ _ (w.heap.size + 1) [.int .i64 kk, .int .i64 0, .slice none 0 0] _ rfl VF.out Try.underlying44 rfl (by kernel_rfl)) rfl ⟨none, 0, rfl, OwnTerm.none7, BR.out⟩
  · rw [e]
    rw [h] at CT
    have h2 : (m : Int) > 400 := by omega
    clear e h h1
    go_enter Try.func27, Try.ntmps27
    have B := Below.refl w.heap.size w
    replace ha := ha.kept (belowA w (.cells #[.slice b m cb] 22))
    replace hr := hr.kept (belowA w (.cells #[.slice b m cb] 22))
    replace B := thenB B (belowA w (.cells #[.slice b m cb] 22))
    have VD := V.new w [.slice b m cb] 22
    replace VD := VD.kept (belowA (w.alloc (.cells #[.slice b m cb] 22)) (.cells #[.int .i64 0, .int .i64 0, .slice none 0 0] 44))
    replace ha := ha.kept (belowA (w.alloc (.cells #[.slice b m cb] 22)) (.cells #[.int .i64 0, .int .i64 0, .slice none 0 0] 44))
    replace hr := hr.kept (belowA (w.alloc (.cells #[.slice b m cb] 22)) (.cells #[.int .i64 0, .int .i64 0, .slice none 0 0] 44))
    replace B := thenB B (belowA (w.alloc (.cells #[.slice b m cb] 22)) (.cells #[.int .i64 0, .int .i64 0, .slice none 0 0] 44))
    have VR : V ((w.alloc (.cells #[.slice b m cb] 22)).alloc (.cells #[.int .i64 0, .int .i64 0, .slice none 0 0] 44)) (w.heap.size + 1) [.int .i64 0, .int .i64 0, .slice none 0 0] := V.newAt _ _ _ _ (by simp)
    obtain ⟨s_VD, f_VD, z_VD⟩ := VD.open
    obtain ⟨s_VR, f_VR, z_VR⟩ := VR.open
    have Bo := B
    go_wp2_with fail
    refine (CT.out _ ha).mono ?_
    rintro e w11 ⟨rfl, b11⟩
    clear s_VD f_VD z_VD s_VR f_VR z_VR
    have S11 := b11.size
    simp only [World.size_alloc] at S11
    replace VD := VD.kept b11
    replace VR := VR.kept b11
    replace ha := ha.kept b11
    replace hr := hr.kept b11
    replace B := thenB B b11
    clear b11
    obtain ⟨s_VD, f_VD, z_VD⟩ := VD.open
    obtain ⟨s_VR, f_VR, z_VR⟩ := VR.open
    have Bo := B
    clear s_VD f_VD z_VD s_VR f_VR z_VR
    have VF := Hid.mk (VR.filled [.int .i64 2, .int .i64 0, .slice none 0 0] rfl)
    have HT := Hid.mk VR.there
    have BR := belowCells B (show w.heap.size ≤ w.heap.size + 1 by (first | omega | (simp; done) | (simp; omega))) 0 [.int .i64 2, .int .i64 0, .slice none 0 0]
    replace BR := Hid.mk BR
    obtain ⟨s_VD, f_VD, z_VD⟩ := VD.open
    obtain ⟨s_VR, f_VR, z_VR⟩ := VR.open
    go_wp2_with (refine wpList_store_mid rfl 44 _ _ rfl (w.heap.size + 1) 0 #[.int .i64 2, .int .i64 0, .slice none 0 0] rfl rfl HT.out (by kernel_rfl) (by kernel_rfl) ?_)
    refine bodyPost_ret (v := .agg #[.int .i64 2, .int .i64 0, .slice none 0 0]) (results_row Try.results27 _ _ (w.heap.size + 1) [.int .i64 2, .int .i64 0, .slice none 0 0] _ rfl VF.out Try.underlying44 rfl (by kernel_rfl)) rfl ⟨none, 0, rfl, OwnTerm.none7, BR.out⟩
  all_goals
    have h2 : (m : Int) ≤ 400 := by omega
    have h4 : m ≤ 400 := by omega
    have HB := Hid.mk hb
    have HM := Hid.mk hm
    have HW := Hid.mk hw
    have HT := Hid.mk h
  · rw [e]
    rw [h] at CT
    clear e h h1 hw hb hm
    go_enter Try.func27, Try.ntmps27
    have B := Below.refl w.heap.size w
    replace ha := ha.kept (belowA w (.cells #[.slice b m cb] 22))
    replace hr := hr.kept (belowA w (.cells #[.slice b m cb] 22))
    replace B := thenB B (belowA w (.cells #[.slice b m cb] 22))
    have VD := V.new w [.slice b m cb] 22
    replace VD := VD.kept (belowA (w.alloc (.cells #[.slice b m cb] 22)) (.cells #[.int .i64 0, .int .i64 0, .slice none 0 0] 44))
    replace ha := ha.kept (belowA (w.alloc (.cells #[.slice b m cb] 22)) (.cells #[.int .i64 0, .int .i64 0, .slice none 0 0] 44))
    replace hr := hr.kept (belowA (w.alloc (.cells #[.slice b m cb] 22)) (.cells #[.int .i64 0, .int .i64 0, .slice none 0 0] 44))
    replace B := thenB B (belowA (w.alloc (.cells #[.slice b m cb] 22)) (.cells #[.int .i64 0, .int .i64 0, .slice none 0 0] 44))
    have VR : V ((w.alloc (.cells #[.slice b m cb] 22)).alloc (.cells #[.int .i64 0, .int .i64 0, .slice none 0 0] 44)) (w.heap.size + 1) [.int .i64 0, .int .i64 0, .slice none 0 0] := V.newAt _ _ _ _ (by simp)
    obtain ⟨s_VD, f_VD, z_VD⟩ := VD.open
    obtain ⟨s_VR, f_VR, z_VR⟩ := VR.open
    have Bo := B
    go_wp2_with fail
    refine (CT.out _ ha).mono ?_
    rintro e w21 ⟨rfl, b21⟩
    clear s_VD f_VD z_VD s_VR f_VR z_VR
    have S21 := b21.size
    simp only [World.size_alloc] at S21
    replace VD := VD.kept b21
    replace VR := VR.kept b21
    replace ha := ha.kept b21
    replace hr := hr.kept b21
    replace B := thenB B b21
    clear b21
    obtain ⟨s_VD, f_VD, z_VD⟩ := VD.open
    obtain ⟨s_VR, f_VR, z_VR⟩ := VR.open
    have Bo := B
    have CR := Hid.mk (rofTerm_ok w.heap.size b m cb ds w21 VD hr HB.out HM.out h4 hcb)
    unfold TermTold at CR
    go_wp2_with fail
    refine (CR.out).mono ?_
    rintro e w22 ⟨b22, ⟨_, rfl⟩ | ⟨t, c, dd, hw, _⟩⟩
    clear s_VD f_VD z_VD s_VR f_VR z_VR
    case inr => rw [HW.out] at hw; cases hw
    have S22 := b22.size
    replace VD := VD.kept b22
    replace VR := VR.kept b22
    replace ha := ha.kept b22
    replace hr := hr.kept b22
    replace B := thenB B b22
    clear b22 CR
    replace VD := VD.kept (belowA w22 (.cells #[.int .i64 0, .int .i64 0, .slice none 0 0] 44))
    replace VR := VR.kept (belowA w22 (.cells #[.int .i64 0, .int .i64 0, .slice none 0 0] 44))
    replace ha := ha.kept (belowA w22 (.cells #[.int .i64 0, .int .i64 0, .slice none 0 0] 44))
    replace hr := hr.kept (belowA w22 (.cells #[.int .i64 0, .int .i64 0, .slice none 0 0] 44))
    replace B := thenB B (belowA w22 (.cells #[.int .i64 0, .int .i64 0, .slice none 0 0] 44))
    have VB := V.new w22 [.int .i64 0, .int .i64 0, .slice none 0 0] 44
    obtain ⟨s_VD, f_VD, z_VD⟩ := VD.open
    obtain ⟨s_VR, f_VR, z_VR⟩ := VR.open
    obtain ⟨s_VB, f_VB, z_VB⟩ := VB.open
    have Bo := B
    clear s_VD f_VD z_VD s_VR f_VR z_VR s_VB f_VB z_VB
    have VF := Hid.mk (VR.filled [.int .i64 5, .int .i64 0, .slice none 0 0] rfl)
    have HT := Hid.mk VR.there
    have BR := belowCells B (show w.heap.size ≤ w.heap.size + 1 by (first | omega | (simp; done) | (simp; omega))) 0 [.int .i64 5, .int .i64 0, .slice none 0 0]
    replace BR := Hid.mk BR
    obtain ⟨s_VD, f_VD, z_VD⟩ := VD.open
    obtain ⟨s_VR, f_VR, z_VR⟩ := VR.open
    obtain ⟨s_VB, f_VB, z_VB⟩ := VB.open
    go_wp2_with (refine wpList_store_mid rfl 44 _ _ rfl (w.heap.size + 1) 0 #[.int .i64 5, .int .i64 0, .slice none 0 0] rfl rfl HT.out (by kernel_rfl) (by kernel_rfl) ?_)
    refine bodyPost_ret (v := .agg #[.int .i64 5, .int .i64 0, .slice none 0 0]) (results_row Try.results27 _ _ (w.heap.size + 1) [.int .i64 5, .int .i64 0, .slice none 0 0] _ rfl VF.out Try.underlying44 rfl (by kernel_rfl)) rfl ⟨none, 0, rfl, OwnTerm.none7, BR.out⟩
  · rw [e]
    rw [h] at CT
    obtain ⟨P, hP⟩ : ∃ P, ptr xs t = P := ⟨_, rfl⟩
    rw [hP]
    obtain ⟨pc, pk, pl⟩ := P
    simp only
    obtain ⟨l8, hl8⟩ : ∃ l, pl.length = l := ⟨_, rfl⟩
    rw [hl8]
    have HP := Hid.mk hP
    have HL8 := Hid.mk hl8
    clear e h h1 hw hb hm hP hl8
    go_enter Try.func27, Try.ntmps27
    have B := Below.refl w.heap.size w
    replace ha := ha.kept (belowA w (.cells #[.slice b m cb] 22))
    replace hr := hr.kept (belowA w (.cells #[.slice b m cb] 22))
    replace B := thenB B (belowA w (.cells #[.slice b m cb] 22))
    have VD := V.new w [.slice b m cb] 22
    replace VD := VD.kept (belowA (w.alloc (.cells #[.slice b m cb] 22)) (.cells #[.int .i64 0, .int .i64 0, .slice none 0 0] 44))
    replace ha := ha.kept (belowA (w.alloc (.cells #[.slice b m cb] 22)) (.cells #[.int .i64 0, .int .i64 0, .slice none 0 0] 44))
    replace hr := hr.kept (belowA (w.alloc (.cells #[.slice b m cb] 22)) (.cells #[.int .i64 0, .int .i64 0, .slice none 0 0] 44))
    replace B := thenB B (belowA (w.alloc (.cells #[.slice b m cb] 22)) (.cells #[.int .i64 0, .int .i64 0, .slice none 0 0] 44))
    have VR : V ((w.alloc (.cells #[.slice b m cb] 22)).alloc (.cells #[.int .i64 0, .int .i64 0, .slice none 0 0] 44)) (w.heap.size + 1) [.int .i64 0, .int .i64 0, .slice none 0 0] := V.newAt _ _ _ _ (by simp)
    obtain ⟨s_VD, f_VD, z_VD⟩ := VD.open
    obtain ⟨s_VR, f_VR, z_VR⟩ := VR.open
    have Bo := B
    go_wp2_with fail
    refine (CT.out _ ha).mono ?_
    rintro e w41 ⟨rfl, b41⟩
    clear s_VD f_VD z_VD s_VR f_VR z_VR
    have S41 := b41.size
    simp only [World.size_alloc] at S41
    replace VD := VD.kept b41
    replace VR := VR.kept b41
    replace ha := ha.kept b41
    replace hr := hr.kept b41
    replace B := thenB B b41
    clear b41
    obtain ⟨s_VD, f_VD, z_VD⟩ := VD.open
    obtain ⟨s_VR, f_VR, z_VR⟩ := VR.open
    have Bo := B
    have CR := Hid.mk (rofTerm_ok w.heap.size b m cb ds w41 VD hr HB.out HM.out h4 hcb)
    unfold TermTold at CR
    go_wp2_with fail
    refine (CR.out).mono ?_
    rintro e w42 ⟨b42, ⟨hw, rfl⟩ | ⟨t', c, dd, hw, hwf, hc, ht, rfl, O⟩⟩
    clear s_VD f_VD z_VD s_VR f_VR z_VR
    · rw [HW.out] at hw; cases hw
    have S42 := b42.size
    replace VD := VD.kept b42
    replace VR := VR.kept b42
    replace ha := ha.kept b42
    replace hr := hr.kept b42
    replace B := thenB B b42
    clear b42 CR
    obtain rfl : t' = t := by rw [HW.out] at hw; simp only [Option.some.injEq] at hw; exact hw.symm
    have hmv := mv_ptr hwf hc HT.out
    have hq4 := (tfC_zero ht).1
    obtain ⟨ql, hql⟩ : ∃ l, (ptr [] t').l.length = l := ⟨_, rfl⟩
    rw [hql] at hq4 ⊢
    have CM := fun w h h2 => implMoveTerm_ok c ql dd (ptr [] t').l (ptr [] t').k a n ca xs w h hql (by omega) (tfC_ok ht) h2 hn hx hok
    rw [hmv, HP.out] at CM
    have OR := O.rd
    simp only at CM
    rw [HL8.out] at CM
    replace CM := Hid.mk CM
    obtain ⟨qk, hqk⟩ : ∃ k, (ptr [] t').k = k := ⟨_, rfl⟩
    rw [hqk] at CM ⊢
    generalize (ptr [] t').l = ls at *
    clear hmv hwf hc ht hql hqk hw O
    clear hr
    replace VD := VD.kept (belowA w42 (.cells #[.int .i64 0, .int .i64 qk, .slice c ql dd] 44))
    replace VR := VR.kept (belowA w42 (.cells #[.int .i64 0, .int .i64 qk, .slice c ql dd] 44))
    replace ha := ha.kept (belowA w42 (.cells #[.int .i64 0, .int .i64 qk, .slice c ql dd] 44))
    replace OR := OR.kept (belowA w42 (.cells #[.int .i64 0, .int .i64 qk, .slice c ql dd] 44))
    replace B := thenB B (belowA w42 (.cells #[.int .i64 0, .int .i64 qk, .slice c ql dd] 44))
    have VB := V.new w42 [.int .i64 0, .int .i64 qk, .slice c ql dd] 44
    obtain ⟨s_VD, f_VD, z_VD⟩ := VD.open
    obtain ⟨s_VR, f_VR, z_VR⟩ := VR.open
    obtain ⟨s_VB, f_VB, z_VB⟩ := VB.open
    have Bo := B
    go_wp2_with fail
    refine (CM.out _ OR ha).mono ?_
    rintro e w42 ⟨c8, d8, rfl, O8, b42⟩
    clear s_VD f_VD z_VD s_VR f_VR z_VR s_VB f_VB z_VB
    have S42 := b42.size
    simp only [World.size_alloc] at S42
    replace VD := VD.kept b42
    replace VR := VR.kept b42
    replace VB := VB.kept b42
    replace ha := ha.kept b42
    replace OR := OR.kept b42
    replace B := thenB B b42
    clear b42
    obtain ⟨s_VD, f_VD, z_VD⟩ := VD.open
    obtain ⟨s_VR, f_VR, z_VR⟩ := VR.open
    obtain ⟨s_VB, f_VB, z_VB⟩ := VB.open
    have Bo := B
    have OL := Hid.mk (fun b hb => (O8.lt b hb).1)
    clear s_VD f_VD z_VD s_VR f_VR z_VR s_VB f_VB z_VB
    have VF := Hid.mk (VR.filled [.int .i64 pc, .int .i64 pk, .slice c8 l8 d8] rfl)
    have HT := Hid.mk VR.there
    have BR := belowCells B (show w.heap.size ≤ w.heap.size + 1 by (first | omega | (simp; done) | (simp; omega))) 0 [.int .i64 pc, .int .i64 pk, .slice c8 l8 d8]
    replace BR := Hid.mk BR
    have HO := Hid.mk ((O8.mono (show w.heap.size ≤ _ by first | omega | (simp; done) | (simp; omega))).apart (B := w.heap.size + 1) (by intro b hb; have := OL.out b hb; first | omega | (simp at this; omega)) 0 [.int .i64 pc, .int .i64 pk, .slice c8 l8 d8])
    obtain ⟨s_VD, f_VD, z_VD⟩ := VD.open
    obtain ⟨s_VR, f_VR, z_VR⟩ := VR.open
    obtain ⟨s_VB, f_VB, z_VB⟩ := VB.open
    go_wp2_with (refine wpList_store_mid rfl 44 _ _ rfl (w.heap.size + 1) 0 #[.int .i64 pc, .int .i64 pk, .slice c8 l8 d8] rfl rfl HT.out (by kernel_rfl) (by kernel_rfl) ?_)
    refine bodyPost_ret (v := .agg #[.int .i64 pc, .int .i64 pk, .slice c8 l8 d8]) (results_row Try.results27 _ _ (w.heap.size + 1) [.int .i64 pc, .int .i64 pk, .slice c8 l8 d8] _ rfl VF.out Try.underlying44 rfl (by kernel_rfl)) rfl ⟨c8, d8, rfl, HO.out, BR.out⟩

end Go.Proofs.Ytfldgeokigcokaa

/- The law on 'DecodeTerm': its walk. -/
namespace Go.Proofs.Ytfldgeokigcokaa
open Go.RowKit

theorem eqByteS_same (a b : Option Addr) (n ca cb : Nat) (xs : List Int) (w : World) (ha : Rd .u8 w a xs) (hb : Rd .u8 w b xs) (hn : xs.length = n) (hx : n ≤ maxLen) :
    Calls Try.prog 29 #[.slice a n ca, .slice b n cb] w fun e w' => e = .returned (.bool true) ∧ Below w.heap.size w w' := by
  have h := eqByteS_ok a b n n ca cb xs xs w ha hb hn hn hx hx
  rw [show decide (xs = xs) = true by simp] at h
  exact h

theorem de_len (xs : List T4) {ds : List Int} (hb : Bytes ds) : (deT xs ds).l.length ≤ 400 := by
  rcases de_ways xs ds with ⟨_, h⟩ | ⟨_, _, h⟩ | ⟨_, _, _, h⟩ | ⟨t, hv, _, hw, h⟩ <;> rw [h]
  · exact Nat.zero_le _
  · exact Nat.zero_le _
  · exact Nat.zero_le _
  · rcases ptr_ways t xs hv ((whole_iff hb t).1 hw).1 with ⟨e, _⟩ | ⟨_, C⟩
    · rw [e]; exact Nat.zero_le _
    · exact (tfC_zero C.right).1

set_option maxRecDepth 20000 in
set_option maxHeartbeats 8000000 in
theorem xWd_walk (aa : Option Addr) (na ca : Nat) (xsa : List T4) (ab : Option Addr) (nb cb : Nat) (zsb : List Int) (w : World) (hRa : RdTerm w aa xsa) (hna : xsa.length = na) (hxa : na ≤ maxLen) (hRb : Rd .u8 w ab zsb) (hnb : zsb.length = nb) (hxb : nb ≤ maxLen) (hok : ∀ t ∈ xsa, okT t) (hbb : Bytes zsb) :
    Calls Try.prog 5 #[.slice aa na ca, .slice ab nb cb] w fun e w' => e = .returned (.bool true) ∧ Below w.heap.size w w' := by
  by_cases hLb : (nb : Int) ≤ 1048576
  · skip
    by_cases hba : (na : Int) ≤ 1048576
    · skip
      have h0a : (0 : Int) ≤ (1048576 - (na : Int)) := by omega
      have CTa := Hid.mk (fun w h => toTermS_ok aa na ca xsa w h hna (by omega))
      have CEa := Hid.mk (fun c c' d d' w h h' => eqTermS_ok c c' na d d' xsa w h h' hna hxa)
      have CTb := Hid.mk (fun w h => toByteS_at ab nb cb zsb w h hnb (by omega))
      have CEb := Hid.mk (fun c c' d d' w h h' => eqByteS_same c c' nb d d' zsb w h h' hnb hxb)
      have CS := Hid.mk (fun c w h c2 h2 hc => specDecodeTerm_ok c na na xsa c2 nb nb zsb w h hna (by omega) (Nat.le_refl _) hc h2 hbb hnb (by omega))
      have CI := Hid.mk (fun c w h c2 h2 => implDecodeTerm_ok c na na xsa c2 nb nb zsb w h hna (by omega) hok h2 hbb hnb (by omega) (Nat.le_refl _))
      have hm4 := de_len xsa hbb
      generalize deT xsa zsb = P at *
      obtain ⟨kc, kk, ls⟩ := P
      simp only at *
      obtain ⟨kl, hkl0⟩ : ∃ m, ls.length = m := ⟨_, rfl⟩
      rw [hkl0] at CS CI hm4
      have hkl : kl ≤ maxLen := by unfold maxLen; omega
      have HK := Hid.mk hkl0
      clear hkl0
      have CMa := Hid.mk (fun c d base w h => markTermS_ok c na d base xsa 1 w h hna (by omega) (by omega))
      have CMb := Hid.mk (fun c d base w h => markByteS_ok c nb d base zsb (1 + 4 * (na : Int)) w h hnb (by omega) (by omega))
      have hmk : ¬ (1 + 4 * (na : Int) + (nb : Int)) < 0 := by omega
      have hL2b : ¬ ((1048576 : Int) < (nb : Int)) := by omega
      have hL3b : decide ((1048576 : Int) < (nb : Int)) = false := by simp; omega
      have HBa := Hid.mk hba
      clear hba hna hnb hLb
      go_enter Try.func5, Try.ntmps5
      have B := Below.refl w.heap.size w
      have HWa := Hid.mk hRa
      have HWb := Hid.mk hRb
      go_wp2_with fail
      refine (szTermS_in aa na ca 1048576 _ HBa.out (by omega)).mono ?_
      rintro e w ⟨rfl, rfl⟩
      go_wp2_with fail
      refine (CTa.out _ hRa).mono ?_
      rintro e w1 ⟨rfl, pa, b1⟩
      have S1 := b1.size
      replace hRa := hRa.kept b1
      replace hRb := hRb.kept b1
      replace B := thenB B b1
      clear b1
      have Bo := B
      have L_pa : ∀ b : Addr, (some ⟨w.heap.size, 0, none⟩) = some b → w.heap.size ≤ b.block ∧ b.block < w1.heap.size := fun b hb => by have h := pa.lt b hb; (try simp only [World.size_alloc] at h); omega
      go_wp2_with fail
      refine (CTb.out _ hRb).mono ?_
      rintro e w2 ⟨rfl, pb, b2⟩
      have S2 := b2.size
      replace hRa := hRa.kept b2
      replace hRb := hRb.kept b2
      replace pa := pa.kept b2
      replace B := thenB B b2
      clear b2
      have Bo := B
      have L_pb : ∀ b : Addr, (some ⟨w1.heap.size, 0, none⟩) = some b → w1.heap.size ≤ b.block ∧ b.block < w2.heap.size := fun b hb => by have h := pb.lt b hb; (try simp only [World.size_alloc] at h); omega
      go_wp2_with fail
      refine (CS.out _ _ pa.rd _ pb.rd (fun h => by cases h)).mono ?_
      rintro e w3 ⟨cw, dw, rfl, ow, b3⟩
      have S3 := b3.size
      replace hRa := hRa.kept b3
      replace hRb := hRb.kept b3
      replace pa := pa.kept b3
      replace pb := pb.kept b3
      replace B := thenB B b3
      clear b3
      have Bo := B
      have L_ow : ∀ b : Addr, cw = some b → w2.heap.size ≤ b.block ∧ b.block < w3.heap.size := fun b hb => by have h := ow.lt b hb; (try simp only [World.size_alloc] at h); omega
      clear L_pa L_pb
      clear pa pb
      replace hRa := hRa.kept (belowA w3 (.cells #[.int .i64 kc, .int .i64 kk, .slice cw kl dw] 44))
      replace hRb := hRb.kept (belowA w3 (.cells #[.int .i64 kc, .int .i64 kk, .slice cw kl dw] 44))
      replace ow := ow.kept (belowA w3 (.cells #[.int .i64 kc, .int .i64 kk, .slice cw kl dw] 44))
      replace B := thenB B (belowA w3 (.cells #[.int .i64 kc, .int .i64 kk, .slice cw kl dw] 44))
      have VW := V.new w3 [.int .i64 kc, .int .i64 kk, .slice cw kl dw] 44
      obtain ⟨s_VW, f_VW, z_VW⟩ := VW.open
      have Bo := B
      go_wp2_with fail
      refine (CTa.out _ hRa).mono ?_
      rintro e w4 ⟨rfl, qa, b4⟩
      clear s_VW f_VW z_VW
      have S4 := b4.size
      simp only [World.size_alloc] at S4
      replace VW := VW.kept b4
      replace hRa := hRa.kept b4
      replace hRb := hRb.kept b4
      replace ow := ow.kept b4
      replace B := thenB B b4
      clear b4
      obtain ⟨s_VW, f_VW, z_VW⟩ := VW.open
      have Bo := B
      simp only [World.size_alloc] at qa
      have L_qa : ∀ b : Addr, (some ⟨w3.heap.size + 1, 0, none⟩) = some b → w3.heap.size + 1 ≤ b.block ∧ b.block < w4.heap.size := fun b hb => by have h := qa.lt b hb; (try simp only [World.size_alloc] at h); omega
      go_wp2_with fail
      refine (CTb.out _ hRb).mono ?_
      rintro e w5 ⟨rfl, qb, b5⟩
      clear s_VW f_VW z_VW
      have S5 := b5.size
      replace VW := VW.kept b5
      replace hRa := hRa.kept b5
      replace hRb := hRb.kept b5
      replace ow := ow.kept b5
      replace qa := qa.kept b5
      replace B := thenB B b5
      clear b5
      obtain ⟨s_VW, f_VW, z_VW⟩ := VW.open
      have Bo := B
      have L_qb : ∀ b : Addr, (some ⟨w4.heap.size, 0, none⟩) = some b → w4.heap.size ≤ b.block ∧ b.block < w5.heap.size := fun b hb => by have h := qb.lt b hb; (try simp only [World.size_alloc] at h); omega
      go_wp2_with fail
      refine (CI.out _ _ qa.rd _ qb.rd).mono ?_
      rintro e w6 ⟨cg, dg, rfl, og, b6⟩
      clear s_VW f_VW z_VW
      have S6 := b6.size
      replace VW := VW.kept b6
      replace hRa := hRa.kept b6
      replace hRb := hRb.kept b6
      replace ow := ow.kept b6
      replace qa := qa.kept b6
      replace qb := qb.kept b6
      replace B := thenB B b6
      clear b6
      obtain ⟨s_VW, f_VW, z_VW⟩ := VW.open
      have Bo := B
      have L_og : ∀ b : Addr, cg = some b → w5.heap.size ≤ b.block ∧ b.block < w6.heap.size := fun b hb => by have h := og.lt b hb; (try simp only [World.size_alloc] at h); omega
      replace VW := VW.kept (belowA w6 (.cells #[.int .i64 kc, .int .i64 kk, .slice cg kl dg] 44))
      replace hRa := hRa.kept (belowA w6 (.cells #[.int .i64 kc, .int .i64 kk, .slice cg kl dg] 44))
      replace hRb := hRb.kept (belowA w6 (.cells #[.int .i64 kc, .int .i64 kk, .slice cg kl dg] 44))
      replace ow := ow.kept (belowA w6 (.cells #[.int .i64 kc, .int .i64 kk, .slice cg kl dg] 44))
      replace qa := qa.kept (belowA w6 (.cells #[.int .i64 kc, .int .i64 kk, .slice cg kl dg] 44))
      replace qb := qb.kept (belowA w6 (.cells #[.int .i64 kc, .int .i64 kk, .slice cg kl dg] 44))
      replace og := og.kept (belowA w6 (.cells #[.int .i64 kc, .int .i64 kk, .slice cg kl dg] 44))
      replace B := thenB B (belowA w6 (.cells #[.int .i64 kc, .int .i64 kk, .slice cg kl dg] 44))
      have VG := V.new w6 [.int .i64 kc, .int .i64 kk, .slice cg kl dg] 44
      clear s_VW f_VW z_VW
      obtain ⟨s_VW, f_VW, z_VW⟩ := VW.open
      obtain ⟨s_VG, f_VG, z_VG⟩ := VG.open
      have Bo := B
      go_wp2_with fail
      refine (eqTermResult_ok kc kk cg cw kl dg dw ls _ og.rd ow.rd HK.out hkl).mono ?_
      rintro e w7 ⟨rfl, b7⟩
      clear s_VW f_VW z_VW s_VG f_VG z_VG
      have S7 := b7.size
      simp only [World.size_alloc] at S7
      replace VW := VW.kept b7
      replace VG := VG.kept b7
      replace hRa := hRa.kept b7
      replace hRb := hRb.kept b7
      replace ow := ow.kept b7
      replace qa := qa.kept b7
      replace qb := qb.kept b7
      replace og := og.kept b7
      replace B := thenB B b7
      clear b7
      obtain ⟨s_VW, f_VW, z_VW⟩ := VW.open
      obtain ⟨s_VG, f_VG, z_VG⟩ := VG.open
      have Bo := B
      go_wp2_with fail
      refine (CTa.out _ hRa).mono ?_
      rintro e w8 ⟨rfl, ra, b8⟩
      clear s_VW f_VW z_VW s_VG f_VG z_VG
      have S8 := b8.size
      replace VW := VW.kept b8
      replace VG := VG.kept b8
      replace hRa := hRa.kept b8
      replace hRb := hRb.kept b8
      replace ow := ow.kept b8
      replace qa := qa.kept b8
      replace qb := qb.kept b8
      replace og := og.kept b8
      replace B := thenB B b8
      clear b8
      obtain ⟨s_VW, f_VW, z_VW⟩ := VW.open
      obtain ⟨s_VG, f_VG, z_VG⟩ := VG.open
      have Bo := B
      have L_ra : ∀ b : Addr, (some ⟨w7.heap.size, 0, none⟩) = some b → w7.heap.size ≤ b.block ∧ b.block < w8.heap.size := fun b hb => by have h := ra.lt b hb; (try simp only [World.size_alloc] at h); omega
      go_wp2_with fail
      refine (CEa.out _ _ _ _ _ qa.rd ra.rd).mono ?_
      rintro e w9 ⟨rfl, b9⟩
      clear s_VW f_VW z_VW s_VG f_VG z_VG
      have S9 := b9.size
      replace VW := VW.kept b9
      replace VG := VG.kept b9
      replace hRa := hRa.kept b9
      replace hRb := hRb.kept b9
      replace ow := ow.kept b9
      replace qa := qa.kept b9
      replace qb := qb.kept b9
      replace og := og.kept b9
      replace ra := ra.kept b9
      replace B := thenB B b9
      clear b9
      obtain ⟨s_VW, f_VW, z_VW⟩ := VW.open
      obtain ⟨s_VG, f_VG, z_VG⟩ := VG.open
      have Bo := B
      clear L_ra
      clear ra
      go_wp2_with fail
      refine (CTb.out _ hRb).mono ?_
      rintro e w10 ⟨rfl, rb, b10⟩
      clear s_VW f_VW z_VW s_VG f_VG z_VG
      have S10 := b10.size
      replace VW := VW.kept b10
      replace VG := VG.kept b10
      replace hRa := hRa.kept b10
      replace hRb := hRb.kept b10
      replace ow := ow.kept b10
      replace qa := qa.kept b10
      replace qb := qb.kept b10
      replace og := og.kept b10
      replace B := thenB B b10
      clear b10
      obtain ⟨s_VW, f_VW, z_VW⟩ := VW.open
      obtain ⟨s_VG, f_VG, z_VG⟩ := VG.open
      have Bo := B
      have L_rb : ∀ b : Addr, (some ⟨w9.heap.size, 0, none⟩) = some b → w9.heap.size ≤ b.block ∧ b.block < w10.heap.size := fun b hb => by have h := rb.lt b hb; (try simp only [World.size_alloc] at h); omega
      go_wp2_with fail
      refine (CEb.out _ _ _ _ _ qb.rd rb.rd).mono ?_
      rintro e w11 ⟨rfl, b11⟩
      clear s_VW f_VW z_VW s_VG f_VG z_VG
      have S11 := b11.size
      replace VW := VW.kept b11
      replace VG := VG.kept b11
      replace hRa := hRa.kept b11
      replace hRb := hRb.kept b11
      replace ow := ow.kept b11
      replace qa := qa.kept b11
      replace qb := qb.kept b11
      replace og := og.kept b11
      replace rb := rb.kept b11
      replace B := thenB B b11
      clear b11
      obtain ⟨s_VW, f_VW, z_VW⟩ := VW.open
      obtain ⟨s_VG, f_VG, z_VG⟩ := VG.open
      have Bo := B
      clear L_rb
      clear rb
      go_wp2_with fail
      refine (CMa.out _ _ _ _ qa).mono ?_
      rintro e w12 ⟨rfl, oq, gm⟩
      clear s_VW f_VW z_VW s_VG f_VG z_VG
      replace VW := VW.grownR gm (row_ne fun b hb => by have h := L_qa b hb; omega)
      replace VG := VG.grownR gm (row_ne fun b hb => by have h := L_qa b hb; omega)
      replace ow := ow.grown gm (fun b hb => row_ne fun b' hb' => by have h1 := L_ow b hb; have h2 := L_qa b' hb'; omega)
      replace qb := qb.grown gm (fun b hb => row_ne fun b' hb' => by have h1 := L_qb b hb; have h2 := L_qa b' hb'; omega)
      replace og := og.grown gm (fun b hb => row_ne fun b' hb' => by have h1 := L_og b hb; have h2 := L_qa b' hb'; omega)
      replace B := belowG B gm (by omega) (fun b hb => by have h := L_qa b hb; omega)
      replace hRa := HWa.out.kept B
      replace hRb := HWb.out.kept B
      have S12 := gm.size
      clear gm qa
      have qa := oq
      clear oq
      obtain ⟨s_VW, f_VW, z_VW⟩ := VW.open
      obtain ⟨s_VG, f_VG, z_VG⟩ := VG.open
      have Bo := B
      go_wp2_with fail
      refine (CMb.out _ _ _ _ qb).mono ?_
      rintro e w13 ⟨rfl, oq, gm⟩
      clear s_VW f_VW z_VW s_VG f_VG z_VG
      replace VW := VW.grownR gm (row_ne fun b hb => by have h := L_qb b hb; omega)
      replace VG := VG.grownR gm (row_ne fun b hb => by have h := L_qb b hb; omega)
      replace ow := ow.grown gm (fun b hb => row_ne fun b' hb' => by have h1 := L_ow b hb; have h2 := L_qb b' hb'; omega)
      replace qa := qa.grown gm (fun b hb => row_ne fun b' hb' => by have h1 := L_qa b hb; have h2 := L_qb b' hb'; omega)
      replace og := og.grown gm (fun b hb => row_ne fun b' hb' => by have h1 := L_og b hb; have h2 := L_qb b' hb'; omega)
      replace B := belowG B gm (by omega) (fun b hb => by have h := L_qb b hb; omega)
      replace hRa := HWa.out.kept B
      replace hRb := HWb.out.kept B
      have S13 := gm.size
      clear gm qb
      have qb := oq
      clear oq
      obtain ⟨s_VW, f_VW, z_VW⟩ := VW.open
      obtain ⟨s_VG, f_VG, z_VG⟩ := VG.open
      have Bo := B
      go_wp2_with fail
      refine (eqTermResult_ok kc kk cg cw kl dg dw ls _ og.rd ow.rd HK.out hkl).mono ?_
      rintro e w14 ⟨rfl, b14⟩
      clear s_VW f_VW z_VW s_VG f_VG z_VG
      have S14 := b14.size
      replace VW := VW.kept b14
      replace VG := VG.kept b14
      replace hRa := hRa.kept b14
      replace hRb := hRb.kept b14
      replace ow := ow.kept b14
      replace qa := qa.kept b14
      replace qb := qb.kept b14
      replace og := og.kept b14
      replace B := thenB B b14
      clear b14
      obtain ⟨s_VW, f_VW, z_VW⟩ := VW.open
      obtain ⟨s_VG, f_VG, z_VG⟩ := VG.open
      have Bo := B
      have hqm : ¬ (1 + 4 * (kl : Int)) < 0 := by omega
      go_wp2_with fail
      refine (markTermResult_ok kc kk cg kl dg _ ls 1 _ og HK.out (by omega) (by omega)).mono ?_
      rintro e w15 ⟨rfl, oq, gm⟩
      clear s_VW f_VW z_VW s_VG f_VG z_VG
      replace VW := VW.grownR gm (row_ne fun b hb => by have h := L_og b hb; omega)
      replace VG := VG.grownR gm (row_ne fun b hb => by have h := L_og b hb; omega)
      replace ow := ow.grown gm (fun b hb => row_ne fun b' hb' => by have h1 := L_ow b hb; have h2 := L_og b' hb'; omega)
      replace qa := qa.grown gm (fun b hb => row_ne fun b' hb' => by have h1 := L_qa b hb; have h2 := L_og b' hb'; omega)
      replace qb := qb.grown gm (fun b hb => row_ne fun b' hb' => by have h1 := L_qb b hb; have h2 := L_og b' hb'; omega)
      replace B := belowG B gm (by omega) (fun b hb => by have h := L_og b hb; omega)
      replace hRa := HWa.out.kept B
      replace hRb := HWb.out.kept B
      have S15 := gm.size
      clear gm og
      have og := oq
      clear oq
      obtain ⟨s_VW, f_VW, z_VW⟩ := VW.open
      obtain ⟨s_VG, f_VG, z_VG⟩ := VG.open
      have Bo := B
      go_wp2_with fail
      refine (heldTermResult_ok kc kk cg kl dg 1 _ og.rd (by omega) (by omega)).mono ?_
      rintro e w16 ⟨rfl, b16⟩
      clear s_VW f_VW z_VW s_VG f_VG z_VG
      have S16 := b16.size
      replace VW := VW.kept b16
      replace VG := VG.kept b16
      replace hRa := hRa.kept b16
      replace hRb := hRb.kept b16
      replace ow := ow.kept b16
      replace qa := qa.kept b16
      replace qb := qb.kept b16
      replace og := og.kept b16
      replace B := thenB B b16
      clear b16
      obtain ⟨s_VW, f_VW, z_VW⟩ := VW.open
      obtain ⟨s_VG, f_VG, z_VG⟩ := VG.open
      have Bo := B
      go_wp2_with fail
      refine (CTa.out _ hRa).mono ?_
      rintro e w17 ⟨rfl, sa, b17⟩
      clear s_VW f_VW z_VW s_VG f_VG z_VG
      have S17 := b17.size
      replace VW := VW.kept b17
      replace VG := VG.kept b17
      replace hRa := hRa.kept b17
      replace hRb := hRb.kept b17
      replace ow := ow.kept b17
      replace qa := qa.kept b17
      replace qb := qb.kept b17
      replace og := og.kept b17
      replace B := thenB B b17
      clear b17
      obtain ⟨s_VW, f_VW, z_VW⟩ := VW.open
      obtain ⟨s_VG, f_VG, z_VG⟩ := VG.open
      have Bo := B
      have L_sa : ∀ b : Addr, (some ⟨w16.heap.size, 0, none⟩) = some b → w16.heap.size ≤ b.block ∧ b.block < w17.heap.size := fun b hb => by have h := sa.lt b hb; (try simp only [World.size_alloc] at h); omega
      go_wp2_with fail
      refine (CTb.out _ hRb).mono ?_
      rintro e w18 ⟨rfl, sb, b18⟩
      clear s_VW f_VW z_VW s_VG f_VG z_VG
      have S18 := b18.size
      replace VW := VW.kept b18
      replace VG := VG.kept b18
      replace hRa := hRa.kept b18
      replace hRb := hRb.kept b18
      replace ow := ow.kept b18
      replace qa := qa.kept b18
      replace qb := qb.kept b18
      replace og := og.kept b18
      replace sa := sa.kept b18
      replace B := thenB B b18
      clear b18
      obtain ⟨s_VW, f_VW, z_VW⟩ := VW.open
      obtain ⟨s_VG, f_VG, z_VG⟩ := VG.open
      have Bo := B
      have L_sb : ∀ b : Addr, (some ⟨w17.heap.size, 0, none⟩) = some b → w17.heap.size ≤ b.block ∧ b.block < w18.heap.size := fun b hb => by have h := sb.lt b hb; (try simp only [World.size_alloc] at h); omega
      go_wp2_with fail
      refine (CI.out _ _ sa.rd _ sb.rd).mono ?_
      rintro e w19 ⟨ch, dh, rfl, oh, b19⟩
      clear s_VW f_VW z_VW s_VG f_VG z_VG
      have S19 := b19.size
      replace VW := VW.kept b19
      replace VG := VG.kept b19
      replace hRa := hRa.kept b19
      replace hRb := hRb.kept b19
      replace ow := ow.kept b19
      replace qa := qa.kept b19
      replace qb := qb.kept b19
      replace og := og.kept b19
      replace sa := sa.kept b19
      replace sb := sb.kept b19
      replace B := thenB B b19
      clear b19
      obtain ⟨s_VW, f_VW, z_VW⟩ := VW.open
      obtain ⟨s_VG, f_VG, z_VG⟩ := VG.open
      have Bo := B
      have L_oh : ∀ b : Addr, ch = some b → w18.heap.size ≤ b.block ∧ b.block < w19.heap.size := fun b hb => by have h := oh.lt b hb; (try simp only [World.size_alloc] at h); omega
      clear L_sa L_sb
      clear sa sb
      replace VW := VW.kept (belowA w19 (.cells #[.int .i64 kc, .int .i64 kk, .slice ch kl dh] 44))
      replace VG := VG.kept (belowA w19 (.cells #[.int .i64 kc, .int .i64 kk, .slice ch kl dh] 44))
      replace hRa := hRa.kept (belowA w19 (.cells #[.int .i64 kc, .int .i64 kk, .slice ch kl dh] 44))
      replace hRb := hRb.kept (belowA w19 (.cells #[.int .i64 kc, .int .i64 kk, .slice ch kl dh] 44))
      replace ow := ow.kept (belowA w19 (.cells #[.int .i64 kc, .int .i64 kk, .slice ch kl dh] 44))
      replace qa := qa.kept (belowA w19 (.cells #[.int .i64 kc, .int .i64 kk, .slice ch kl dh] 44))
      replace qb := qb.kept (belowA w19 (.cells #[.int .i64 kc, .int .i64 kk, .slice ch kl dh] 44))
      replace og := og.kept (belowA w19 (.cells #[.int .i64 kc, .int .i64 kk, .slice ch kl dh] 44))
      replace oh := oh.kept (belowA w19 (.cells #[.int .i64 kc, .int .i64 kk, .slice ch kl dh] 44))
      replace B := thenB B (belowA w19 (.cells #[.int .i64 kc, .int .i64 kk, .slice ch kl dh] 44))
      have VH := V.new w19 [.int .i64 kc, .int .i64 kk, .slice ch kl dh] 44
      clear s_VW f_VW z_VW s_VG f_VG z_VG
      obtain ⟨s_VW, f_VW, z_VW⟩ := VW.open
      obtain ⟨s_VG, f_VG, z_VG⟩ := VG.open
      obtain ⟨s_VH, f_VH, z_VH⟩ := VH.open
      have Bo := B
      go_wp2_with fail
      refine (eqTermResult_ok kc kk ch cw kl dh dw ls _ oh.rd ow.rd HK.out hkl).mono ?_
      rintro e w20 ⟨rfl, b20⟩
      clear s_VW f_VW z_VW s_VG f_VG z_VG s_VH f_VH z_VH
      have S20 := b20.size
      simp only [World.size_alloc] at S20
      replace VW := VW.kept b20
      replace VG := VG.kept b20
      replace VH := VH.kept b20
      replace hRa := hRa.kept b20
      replace hRb := hRb.kept b20
      replace ow := ow.kept b20
      replace qa := qa.kept b20
      replace qb := qb.kept b20
      replace og := og.kept b20
      replace oh := oh.kept b20
      replace B := thenB B b20
      clear b20
      obtain ⟨s_VW, f_VW, z_VW⟩ := VW.open
      obtain ⟨s_VG, f_VG, z_VG⟩ := VG.open
      obtain ⟨s_VH, f_VH, z_VH⟩ := VH.open
      have Bo := B
      go_wp2_with fail
      refine (heldTermResult_ok kc kk cg kl dg 1 _ og.rd (by omega) (by omega)).mono ?_
      rintro e w21 ⟨rfl, b21⟩
      clear s_VW f_VW z_VW s_VG f_VG z_VG s_VH f_VH z_VH
      have S21 := b21.size
      replace VW := VW.kept b21
      replace VG := VG.kept b21
      replace VH := VH.kept b21
      replace hRa := hRa.kept b21
      replace hRb := hRb.kept b21
      replace ow := ow.kept b21
      replace qa := qa.kept b21
      replace qb := qb.kept b21
      replace og := og.kept b21
      replace oh := oh.kept b21
      replace B := thenB B b21
      clear b21
      obtain ⟨s_VW, f_VW, z_VW⟩ := VW.open
      obtain ⟨s_VG, f_VG, z_VG⟩ := VG.open
      obtain ⟨s_VH, f_VH, z_VH⟩ := VH.open
      have Bo := B
      go_wp2
      go_ret
      exact ⟨rfl, Bo⟩
    · have hlt : 1048576 < (na : Int) := by omega
      have hL3b : decide ((1048576 : Int) < (nb : Int)) = false := by simp; omega
      unfold maxLen at hxb
      go_enter Try.func5, Try.ntmps5
      go_wp2_with fail
      refine (szTermS_out aa na ca 1048576 _ hlt (by omega) (by omega) hxa).mono ?_
      rintro e wq ⟨rfl, rfl⟩
      go_wp2
      go_ret
      exact ⟨rfl, Below.refl _ _⟩
  · have hlt : decide ((1048576 : Int) < (nb : Int)) = true := by simp; omega
    unfold maxLen at hxb
    go_enter Try.func5, Try.ntmps5
    go_wp2
    go_ret
    exact ⟨rfl, Below.refl _ _⟩

end Go.Proofs.Ytfldgeokigcokaa
