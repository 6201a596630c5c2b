/- readTerm. -/
import Derived.Test.YtfldgeokigcokaaGreatFWb
import Derived.Test.YtfldgeokigcokaaGreatFWa
import Derived.Test.YtfldgeokigcokaaGreatFWh
import Derived.Test.YtfldgeokigcokaaGreatFWl
import Derived.Test.YtfldgeokigcokaaGreatFWu
namespace Go.Proofs.YtfldgeokigcokaaGreat
open Go.RowKit

theorem ownTerm_le {w : World} {base : Nat} {a : Option Addr} {cap : Nat} {xs : List T4} (h : OwnTerm w base a cap xs) : xs.length ≤ cap := by
  rcases h.2 with ⟨_, h0⟩ | ⟨g, cap', cur, hv, _, _, hc, _⟩
  · omega
  · simp only [Value.slice.injEq] at hv
    obtain ⟨_, _, rfl⟩ := hv
    exact hc

theorem build_rdr (x : Option Addr) (m d p : Nat) (w : World) : (Instr.build 77 #[(0, .slice x m d), (1, .pointer (some ⟨p, 0, none⟩))]).run Tryz.prog w = .ok (.agg #[.slice x m d, .pointer (some ⟨p, 0, none⟩)]) w := run_build w 77 _ _ (by kernel_rfl)

theorem field_br1 (a : Int) (c : Option Addr) (n d : Nat) (w : World) : (Instr.field 31 (.agg #[.int .i64 a, .slice c n d]) 1).run Tryz.prog w = .ok (.slice c n d) w := by kernel_rfl

/-- 'term', whatever the bytes. -/
theorem term_any (base P pb g bx : Nat) (ds : List Int) (x : Option Addr) (m d : Nat) (c : Option Addr) (dd : Nat) (w : World) (R : Rdr w P (.pointer (some ⟨pb, 0, none⟩)) bx x m d ds) (hb : Bytes ds) (H : Bk w base pb g c dd []) (hP : ∀ k, BkX pb g c k → k ≠ P) (hbP : base ≤ P) (hbx : ds = [] ∨ bx < base) :
    Calls Tryz.prog 42 #[.pointer (some ⟨P, 0, none⟩)] w (TermRead ds.length [] ds base P pb g bx c w) := by
  rcases hbx with rfl | hbx
  · exact term_nil _ base P pb g bx [] x m d c w R
  · exact term_ok base P pb g bx ds.length [] ds x m d c dd w (Nat.le_refl _) R hb H (by unfold tfC; simp [tfF]) hP hbP hbx

theorem bytes_enB {xs : List T4} {q : Int} : Bytes (enB xs q) := by
  rcases en_ways xs q with ⟨_, _, h⟩ | ⟨_, _, _, h⟩ | ⟨_, _, _, _, _, h⟩ | ⟨h1, _, _, _, _, h⟩ <;> rw [h]
  · intro z hz; simp at hz
  · intro z hz; simp at hz
  · intro z hz; simp at hz
  · obtain ⟨hv, h0, h2⟩ := ak_zero h1
    exact enc_byte (den_wf hv _ _ (Nat.le_refl _) (by omega))

/-- What 'readTerm' leaves. -/
def TermOf (ds : List Int) (w : World) : Ending → World → Prop := fun e w' => Below w.heap.size w w' ∧ ((whole ds = none ∧ e = stop 5) ∨ ∃ (t : Tr) (c : Option Addr) (dd : Nat), whole ds = some t ∧ t.wf ∧ (ptr [] t).c = 0 ∧ tfC (ptr [] t).l = 0 ∧
    e = .returned (.agg #[.int .i64 0, .int .i64 (ptr [] t).k, .slice c (ptr [] t).l.length dd]) ∧ OwnTerm w' w.heap.size c dd (ptr [] t).l)

set_option maxRecDepth 20000 in
set_option maxHeartbeats 8000000 in
theorem readTerm_ok (x : Option Addr) (m d : Nat) (ds : List Int) (w : World) (hr : Rd .u8 w x ds) (hb : Bytes ds) (hm : ds.length = m) (hm4 : m ≤ 400) (hd : m ≤ d) :
    Calls Tryz.prog 21 #[.slice x m d] w (TermOf ds w) := by
  have q1 := build_tr12
  have q2 := build_rdr
  have q3 := field_br1
  unfold TermOf
  have h0 : tfC ([] : List T4) = 0 := by unfold tfC; simp [tfF]
  have HW := rd1_whole hb (by omega)
  have hnil : x = none → ds = [] := fun e => by
    rcases hr with h | ⟨b, o, h, _⟩
    · exact h
    · rw [e] at h; cases h
  obtain ⟨bx, hbx, hlow⟩ : ∃ bx, (∀ b : Addr, x = some b → b.block = bx) ∧ (ds = [] ∨ bx < w.heap.size) := by
    cases x with
    | none => exact ⟨0, (fun b h => by cases h), .inl (hnil rfl)⟩
    | some ad =>
      refine ⟨ad.block, (fun b h => by simp only [Option.some.injEq] at h; rw [h]), ?_⟩
      rcases hr with h | ⟨b, o, h, hc⟩
      · exact .inl h
      · simp only [Option.some.injEq] at h
        subst h
        by_cases he : ds = []
        · exact .inl he
        · exact .inr (World.block_lt_of_cell? (a := ⟨b, o + 0, none⟩) w (hc 0 (List.length_pos_iff.2 he)))
  have CB := Hid.mk (fun w => bookOf_yes none 0 0 [] w (.inl rfl) rfl (by unfold maxLen; omega) (fun t ht => by simp at ht) h0)
  have HBX := Hid.mk hbx
  have HLO := Hid.mk hlow
  have HN := Hid.mk hnil
  have HB := Hid.mk hb
  have HM := Hid.mk hm
  clear hbx hlow hnil hb hm
  go_enter Tryz.func21, Tryz.ntmps21
  have B := Below.refl w.heap.size w
  replace hr := hr.kept (belowA w (.cells #[.int .i64 0, .int .i64 0, .slice none 0 0] 28))
  replace B := thenB B (belowA w (.cells #[.int .i64 0, .int .i64 0, .slice none 0 0] 28))
  have VR := V.new w [.int .i64 0, .int .i64 0, .slice none 0 0] 28
  obtain ⟨s_VR, f_VR, z_VR⟩ := VR.open
  have Bo := B
  go_wp2_with fail
  refine (CB.out _).mono ?_
  rintro e w1 ⟨p, g, c, dd, rfl, H, b1⟩
  clear s_VR f_VR z_VR
  have S1 := b1.size
  simp only [World.size_alloc] at S1
  replace VR := VR.kept b1
  replace hr := hr.kept b1
  replace B := thenB B b1
  clear b1
  obtain ⟨s_VR, f_VR, z_VR⟩ := VR.open
  have Bo := B
  have hbl := Hid.mk H.lt
  have HL1 : Hid (w.heap.size + 1 ≤ w1.heap.size) := Hid.mk S1
  replace VR := VR.kept (belowA w1 (.cells #[.slice x m d, .pointer (some ⟨p, 0, none⟩)] 77))
  replace hr := hr.kept (belowA w1 (.cells #[.slice x m d, .pointer (some ⟨p, 0, none⟩)] 77))
  replace H := H.kept (belowA w1 (.cells #[.slice x m d, .pointer (some ⟨p, 0, none⟩)] 77))
  replace B := thenB B (belowA w1 (.cells #[.slice x m d, .pointer (some ⟨p, 0, none⟩)] 77))
  have VP := V.new w1 [.slice x m d, .pointer (some ⟨p, 0, none⟩)] 77
  have R : Rdr (w1.alloc (.cells #[.slice x m d, .pointer (some ⟨p, 0, none⟩)] 77)) w1.heap.size (.pointer (some ⟨p, 0, none⟩)) bx x m d ds := ⟨VP, hr, HM.out, hd, by omega, HBX.out, HN.out⟩
  have CT := Hid.mk (term_any (w.heap.size + 1) w1.heap.size p g bx ds x m d c dd (w1.alloc (.cells #[.slice x m d, .pointer (some ⟨p, 0, none⟩)] 77)) R HB.out (by have h := H; simpa using h) (fun k h => by have := (hbl.out k h).2; omega) HL1.out (by rcases HLO.out with h | h; exact .inl h; exact .inr (by omega)))
  unfold TermRead at CT
  clear R
  clear s_VR f_VR z_VR
  obtain ⟨s_VR, f_VR, z_VR⟩ := VR.open
  obtain ⟨s_VP, f_VP, z_VP⟩ := VP.open
  have Bo := B
  go_wp2_with fail
  refine CT.out.mono ?_
  rintro e w3 ⟨S3, ⟨hn, rfl⟩ | ⟨A, r, hA, rfl, ⟨c3, d3, H3, hc3⟩, x3, e3, R3⟩⟩
  clear s_VR f_VR z_VR s_VP f_VP z_VP
  · refine ⟨rfl, S3.below' (B) (by first | omega | (simp; omega)) (fun k hk => by rcases hk with h | h; rw [h]; exact Nat.le_of_succ_le HL1.out; have := (hbl.out k h).1; (try simp at this); omega), .inl ⟨?_, rfl⟩⟩
    rcases HW with ⟨h, _⟩ | ⟨A, h, _⟩ | ⟨t, A, _, h, _⟩
    · exact h
    · exact h
    · rw [h] at hn; cases hn
  have B3 : Below w.heap.size w w3 := S3.below' (B) (by first | omega | (simp; omega)) (fun k hk => by rcases hk with h | h; rw [h]; exact Nat.le_of_succ_le HL1.out; have := (hbl.out k h).1; (try simp at this); omega)
  have VR3 := VR.sm S3 (fun hk => by rcases hk with h | h; have := HL1.out; omega; have := (hbl.out _ h).1; (try simp at this); omega)
  have hr3 := hr.sm S3 (fun b hb' hk => by
    rcases HLO.out with h | h
    · exact absurd h (by intro h'; rw [h'] at hA; simp [rd1] at hA)
    · have h2 := HBX.out b hb'; rcases hk with h3 | h3; have := HL1.out; omega; have := (hbl.out _ h3).1; (try simp at this); omega)
  have hs3 := S3.size
  simp only [World.size_alloc] at hs3
  obtain ⟨RG, HQ⟩ : Rdg [] ds (A, r) ∧ ((whole ds = none ∧ enB A.l A.k ≠ ds) ∨ ∃ t, whole ds = some t ∧ A = ptr [] t ∧ t.wf ∧ enB A.l A.k = ds) := by
    rcases HW with ⟨_, h⟩ | ⟨A', h1, h, RG, h2⟩ | ⟨t, A', h1, h, RG, h2, h3, h4⟩
    · rw [h] at hA; cases hA
    · rw [h] at hA; simp only [Option.some.injEq] at hA; subst hA; exact ⟨RG, .inl ⟨h1, h2⟩⟩
    · rw [h] at hA; simp only [Option.some.injEq] at hA; subst hA; exact ⟨RG, .inr ⟨t, h1, h2, h3, h4⟩⟩
  have HRG := Hid.mk RG
  have hAr : tfC A.l = 0 := RG.right
  have hA4 := (tfC_zero hAr).1
  obtain ⟨al, hal⟩ : ∃ l, A.l.length = l := ⟨_, rfl⟩
  have hcap := ownTerm_le H3.o
  rw [hal] at hcap hA4
  have CE := Hid.mk (fun w h => implEncodeTerm_ok c3 al d3 A.l A.k w h hal (by unfold maxLen; omega) hcap (tfC_ok hAr))
  have V3 := H3.v
  rw [hal] at V3
  have HAL := Hid.mk hal
  have O3 := H3.o
  have hcw : ∀ b : Addr, c3 = some b → w.heap.size < b.block := fun b hb' => by have h := (O3.lt b hb').1; (try simp at h); omega
  have HCW := Hid.mk hcw
  have O3k : OwnTerm w3 w.heap.size c3 d3 A.l := O3.mono (by simp)
  have hns : NoSpot x := by
    rcases hr3 with h | ⟨b3, o3, rfl, _⟩
    · exact absurd h (by intro h'; rw [h'] at hA; simp [rd1] at hA)
    · intro y hy; simp only [Option.some.injEq] at hy; subst hy; rfl
  have hpw : p ≠ w.heap.size := by have := (hbl.out p (.inl rfl)).1; (try simp at this); omega
  have HB2 := HB.out
  have HQQ := Hid.mk HQ
  clear S3 R3 H3 H VP VR hr B CT CB hA HW RG hc3 O3 Bo hal hAr hcw HQ
  have O := O3k
  have VR := VR3
  have hr := hr3
  have B := B3
  have VK := V3
  clear O3k VR3 hr3 B3 V3
  obtain ⟨EB, hEB⟩ : ∃ EB, enB A.l A.k = EB := ⟨_, rfl⟩
  have hby : Bytes EB := by rw [← hEB]; exact bytes_enB
  rw [hEB] at CE HQQ
  obtain ⟨el, hel⟩ : ∃ l, EB.length = l := ⟨_, rfl⟩
  rw [hel] at CE
  have HEL := Hid.mk hel
  clear hel hEB
  obtain ⟨s_VR, f_VR, z_VR⟩ := VR.open
  obtain ⟨s_VK, f_VK, z_VK⟩ := VK.open
  have Bo := B
  go_wp2_with fail
  refine (CE.out _ O.rd).mono ?_
  rintro e w2 ⟨c9, d9, rfl, O9, b2⟩
  clear s_VR f_VR z_VR s_VK f_VK z_VK
  have S2 := b2.size
  replace VR := VR.kept b2
  replace VK := VK.kept b2
  replace hr := hr.kept b2
  replace O := O.kept b2
  replace B := thenB B b2
  clear b2
  obtain ⟨s_VR, f_VR, z_VR⟩ := VR.open
  obtain ⟨s_VK, f_VK, z_VK⟩ := VK.open
  have Bo := B
  have CQ := equal_ok c9 x el m d9 d EB ds w2 O9.rd hr O9.noSpot hns HEL.out HM.out
  rcases HQQ.out with ⟨hw, hq⟩ | ⟨t, hw, hA, hwf, hq⟩
  · skip
    have hqb : eqB EB ds = false := by
      cases hqb : eqB EB ds with
      | false => rfl
      | true => exact absurd ((eqB_iff hby HB2).1 hqb) hq
    rw [hqb] at CQ
    replace CQ := Hid.mk CQ
    clear hqb hq O9
    go_wp2_with fail
    refine CQ.out.mono ?_
    rintro e wq ⟨rfl, rfl⟩
    go_wp2_with (go_at_call 43; refine (require_no 5 _).mono ?_; rintro e wq ⟨rfl, rfl⟩)
    exact ⟨rfl, Bo, .inl ⟨hw, rfl⟩⟩
  · skip
    have hqb : eqB EB ds = true := (eqB_iff hby HB2).2 hq
    rw [hqb] at CQ
    replace CQ := Hid.mk CQ
    have HH := Hid.mk (And.intro hA (And.intro hwf hw))
    clear hqb hq O9 hA hwf hw
    go_wp2_with fail
    refine CQ.out.mono ?_
    rintro e wq ⟨rfl, rfl⟩
    clear s_VR f_VR z_VR s_VK f_VK z_VK
    have VF := Hid.mk (VR.filled [.int .i64 0, .int .i64 A.k, .slice c3 al d3] rfl)
    have HT := Hid.mk VR.there
    have BR := belowCells B (show w.heap.size ≤ w.heap.size by (first | omega | (simp; done) | (simp; omega))) 0 [.int .i64 0, .int .i64 A.k, .slice c3 al d3]
    replace BR := Hid.mk BR
    have HO := Hid.mk (O.apart (B := w.heap.size) (by intro b hb'; have := HCW.out b hb'; omega) 0 [.int .i64 0, .int .i64 A.k, .slice c3 al d3])
    obtain ⟨s_VR, f_VR, z_VR⟩ := VR.open
    obtain ⟨s_VK, f_VK, z_VK⟩ := VK.open
    go_wp2_with (first | (go_at_call 43; refine (require_ok 5 _).mono ?_; rintro e wq ⟨rfl, rfl⟩) | refine wpList_store_mid rfl 28 _ _ rfl (w.heap.size) 0 #[.int .i64 0, .int .i64 A.k, .slice c3 al d3] rfl rfl HT.out (by kernel_rfl) (by kernel_rfl) ?_)
    refine bodyPost_ret (v := .agg #[.int .i64 0, .int .i64 A.k, .slice c3 al d3]) (results_row Tryz.results21 _ _ (w.heap.size) [.int .i64 0, .int .i64 A.k, .slice c3 al d3] _ rfl VF.out Tryz.underlying28 rfl (by kernel_rfl)) rfl ⟨BR.out, .inr ⟨t, c3, d3, HH.out.2.2, HH.out.2.1, by rw [← HH.out.1]; exact HRG.out.c, by rw [← HH.out.1]; exact HRG.out.right, by rw [← HH.out.1, HAL.out], by rw [← HH.out.1]; exact HO.out⟩⟩

end Go.Proofs.YtfldgeokigcokaaGreat
