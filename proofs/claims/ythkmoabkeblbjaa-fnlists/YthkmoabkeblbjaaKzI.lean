/- SplitList of the program. -/
import Derived.Test.YthkmoabkeblbjaaKzE
import Derived.Test.YthkmoabkeblbjaaKyK
namespace Go.Proofs.Ythkmoabkeblbjaa
open Go.RowKit

theorem wp_putI9 {o : Oper} {a : Act} {K : Act → World → Prop} {Q : Exit → Act → World → Prop} (w : World) (s x : Operand)
    (ho : o.op = .call { callee := .builtin .append, args := #[s, x], argTypes := #[37, 37] })
    (base : Nat) (c : Option Addr) (d : Nat) (xs : List Int) (n : Nat) (hn : xs.length = n) (hs : a.eval s = .slice c n d) (hown : Own .i64 2 w base c d xs)
    (ad : Addr) (cc : Nat) (p : Int) (hx : a.eval x = .slice (some ad) 1 cc) (hp : w.cell? (ad.add 0) = some (.int .i64 p))
    (hlen : n ≤ 1000000) (hbase : base ≤ w.heap.size)
    (h : ∀ c' d' w', Own .i64 2 w' base c' d' (xs ++ [p]) → w.grownBy w' (c.map Addr.block) → Hid (∃ g, c' = some ⟨g, 0, none⟩ ∧ ((∃ a, c = some a ∧ a.block = g) ∨ g = w.heap.size) ∧ g < w'.heap.size) → K (a.put o.dst (.slice c' (n + 1) d')) w') : o.wp Try.prog a w K Q := by
  subst hn
  obtain ⟨i, hi, hz, hsz, hby⟩ : ∃ i, Try.prog.info? 2 = some i ∧ i.zero = some (.int .i64 0) ∧ i.size = 1 ∧ i.bytes = 8 := by
    have h := Try.infoI64
    cases he : Try.prog.info? 2 with
    | none => rw [he] at h; cases h
    | some i =>
      rw [he] at h
      simp only [Option.map_some, Option.some.injEq, Prod.mk.injEq] at h
      exact ⟨i, rfl, h.1, h.2.1, h.2.2⟩
  refine wp_append_lies w s x 37 ho base 2 i _ 1 8 Try.underlying37 hi hz hsz hby (by rfl) (by decide) (.slice c xs.length d) xs.length (xs.map (Value.int .i64)) hs hown ad 1 cc [.int .i64 p] hx rfl (fun j u hj => ?_) ?_ (by decide) (by unfold maxLen; omega) (by omega) hbase _ rfl ?_
  · match j, hj with
    | 0, hj => simp only [List.getElem?_cons_zero, Option.some.injEq] at hj; rw [← hj]; exact hp
  · intro u hu
    simp only [List.mem_cons, List.not_mem_nil, or_false] at hu
    subst hu; rfl
  · intro g cap w' h1 h2 h3 h4
    have e1 : (xs ++ [p]).length = xs.length + 1 := by simp
    have h2' : w.grownBy w' (c.map Addr.block) := by cases c <;> exact h2
    refine h _ _ w' ?_ h2' (Hid.mk ⟨g, rfl, ?_, h4⟩)
    · unfold Own; rw [e1, List.map_append]; exact h1
    · rcases h3 with h3 | h3
      · left; cases c with
        | none => cases h3
        | some b => exact ⟨b, rfl, by simpa [Value.ownBlock] using h3⟩
      · exact .inr h3
theorem sl_kr0 (k : Int) (w : World) : (Instr.build 42 #[(0, .int .i64 k)]).run Try.prog w = .ok (.agg #[.int .i64 k, .slice none 0 0]) w := run_build w 42 _ _ (by kernel_rfl)

theorem sl_kr1 (c : Option Addr) (n d : Nat) (w : World) : (Instr.build 42 #[(1, .slice c n d)]).run Try.prog w = .ok (.agg #[.int .i64 0, .slice c n d]) w := run_build w 42 _ _ (by kernel_rfl)

theorem sp_round {xs : List T4} {f k : Nat} (hk : k < f) {p : Int} {x : T4} (hx : tmAt xs p = x) : spT xs (f - k) p = if x.o = 3 then (spT xs (f - (k + 1)) x.b).map (x.a :: ·) else none := by
  obtain ⟨j, hj⟩ : ∃ j, f - k = j + 1 := ⟨f - k - 1, by omega⟩
  have e : f - (k + 1) = j := by omega
  rw [hj, e, spT, hx]

set_option maxRecDepth 20000 in
set_option maxHeartbeats 8000000 in
theorem implSplitList_ok (a : Option Addr) (n ca : Nat) (xs : List T4) (at_ q : Int) (w : World) (ha : RdTerm w a xs) (hn : xs.length = n) (hx : n ≤ 1048576) (hok : ∀ t ∈ xs, okT t) :
    Calls Try.prog 31 #[.slice a n ca, .int .i64 at_, .int .i64 q] w fun e w' => ∃ c d, e = .returned (.agg #[.int .i64 (slR xs at_ q).1, .slice c (slR xs at_ q).2.length d]) ∧ Own .i64 2 w' w.heap.size c d (slR xs at_ q).2 ∧ Below w.heap.size w w' := by
  have q1 := sl_kr0
  have q2 := sl_kr1
  have eC := mkC_nil xs [at_]
  by_cases hc : aqC xs [at_] = 0
  rotate_left
  · have CB := Hid.mk (fun b w h hz => makerOf_no a n ca xs b 1 1 [at_] none 0 0 [] w h hn hx hok hz rfl (by omega) (.inl rfl) rfl (by omega) (by rw [eC]; exact hc))
    rw [eC] at CB
    have e : slR xs at_ q = (aqC xs [at_], []) := by
      rcases sl_ways xs at_ q with ⟨_, e⟩ | ⟨h1, _⟩ | ⟨h1, _⟩ | ⟨h1, _⟩ <;> first | exact e | exact absurd h1 hc
    rw [e]
    have h0 : (aqC xs [at_] != 0) = true := by simp [hc]
    clear e eC hc hok
    generalize aqC xs [at_] = kk at *
    go_enter Try.func31, Try.ntmps31
    have B := Below.refl w.heap.size w
    replace ha := ha.kept (belowA w (.cells #[.int .i64 0, .slice none 0 0] 42))
    replace B := thenB B (belowA w (.cells #[.int .i64 0, .slice none 0 0] 42))
    have VR := V.new w [.int .i64 0, .slice none 0 0] 42
    obtain ⟨s_VR, f_VR, z_VR⟩ := VR.open
    have Bo := B
    clear s_VR f_VR z_VR
    have RP0 := Rd.litI (w.alloc (.cells #[.int .i64 0, .slice none 0 0] 42)) [at_]
    simp only [World.size_alloc] at RP0
    replace VR := VR.kept (belowA (w.alloc (.cells #[.int .i64 0, .slice none 0 0] 42)) (.cells #[.int .i64 at_] 2))
    replace ha := ha.kept (belowA (w.alloc (.cells #[.int .i64 0, .slice none 0 0] 42)) (.cells #[.int .i64 at_] 2))
    replace B := thenB B (belowA (w.alloc (.cells #[.int .i64 0, .slice none 0 0] 42)) (.cells #[.int .i64 at_] 2))
    obtain ⟨s_VR, f_VR, z_VR⟩ := VR.open
    go_wp2_with fail
    refine (CB.out _ _ ha RP0).mono ?_
    rintro e w1 ⟨rfl, b1⟩
    clear s_VR f_VR z_VR
    have S1 := b1.size
    simp only [World.size_alloc] at S1
    replace VR := VR.kept b1
    replace ha := ha.kept b1
    replace B := thenB B b1
    clear b1 RP0
    obtain ⟨s_VR, f_VR, z_VR⟩ := VR.open
    have Bo := B
    clear s_VR f_VR z_VR
    have VF := Hid.mk (VR.filled [.int .i64 kk, .slice none 0 0] rfl)
    have HT := Hid.mk VR.there
    have BR := belowCells B (show w.heap.size ≤ w.heap.size by (first | omega | (simp; done) | (simp; omega))) 0 [.int .i64 kk, .slice none 0 0]
    replace BR := Hid.mk BR
    obtain ⟨s_VR, f_VR, z_VR⟩ := VR.open
    go_wp2_with (refine wpList_store_mid rfl 42 _ _ rfl (w.heap.size) 0 #[.int .i64 kk, .slice none 0 0] rfl rfl HT.out (by kernel_rfl) (by kernel_rfl) ?_)
    refine bodyPost_ret (v := .agg #[.int .i64 kk, .slice none 0 0]) (results_row Try.results31 _ _ (w.heap.size) [.int .i64 kk, .slice none 0 0] _ rfl VF.out Try.underlying42 rfl (by kernel_rfl)) rfl ⟨none, 0, rfl, own_none, BR.out⟩
  · have CB := Hid.mk (fun b w h hz => makerOf_yes a n ca xs b 1 1 [at_] none 0 0 [] w h hn hx hok hz rfl (by omega) (.inl rfl) rfl (by omega) (by rw [eC]; exact hc))
    obtain ⟨hp0, hp1⟩ := aq_places hc at_ (by simp)
    have hv := aq_table hc
    obtain ⟨u, rfl⟩ : ∃ u : Nat, at_ = (u : Int) := ⟨at_.toNat, by omega⟩
    have hu : u < n := by omega
    have HN := Hid.mk hn
    have CI := Hid.mk (isBetween_ok q 1 20)
    by_cases hq : btw q 1 20 = true
    rotate_left
    · have hq : btw q 1 20 = false := by simpa using hq
      have e : slR xs u q = (3, []) := by
        rcases sl_ways xs u q with ⟨h1, _⟩ | ⟨_, _, e⟩ | ⟨_, h1, _⟩ | ⟨_, h1, _⟩
        · exact absurd hc h1
        · exact e
        · rw [hq] at h1; cases h1
        · rw [hq] at h1; cases h1
      rw [e]
      rw [hq] at CI
      clear e eC hc hok hq hp0 hp1 hv
      go_enter Try.func31, Try.ntmps31
      have B := Below.refl w.heap.size w
      replace ha := ha.kept (belowA w (.cells #[.int .i64 0, .slice none 0 0] 42))
      replace B := thenB B (belowA w (.cells #[.int .i64 0, .slice none 0 0] 42))
      have VR := V.new w [.int .i64 0, .slice none 0 0] 42
      obtain ⟨s_VR, f_VR, z_VR⟩ := VR.open
      have Bo := B
      clear s_VR f_VR z_VR
      have RP0 := Rd.litI (w.alloc (.cells #[.int .i64 0, .slice none 0 0] 42)) [(u : Int)]
      simp only [World.size_alloc] at RP0
      replace VR := VR.kept (belowA (w.alloc (.cells #[.int .i64 0, .slice none 0 0] 42)) (.cells #[.int .i64 (u : Int)] 2))
      replace ha := ha.kept (belowA (w.alloc (.cells #[.int .i64 0, .slice none 0 0] 42)) (.cells #[.int .i64 (u : Int)] 2))
      replace B := thenB B (belowA (w.alloc (.cells #[.int .i64 0, .slice none 0 0] 42)) (.cells #[.int .i64 (u : Int)] 2))
      obtain ⟨s_VR, f_VR, z_VR⟩ := VR.open
      go_wp2_with fail
      refine (CB.out _ _ ha RP0).mono ?_
      rintro e w21 ⟨Q, p, g, c, d, rfl, VQ, H, hQ, hnQ, b21⟩
      clear s_VR f_VR z_VR
      have S21 := b21.size
      simp only [World.size_alloc] at S21
      replace VR := VR.kept b21
      replace ha := ha.kept b21
      replace B := thenB B b21
      clear b21 RP0
      clear H hQ hnQ ha
      obtain ⟨s_VR, f_VR, z_VR⟩ := VR.open
      obtain ⟨s_VQ, f_VQ, z_VQ⟩ := VQ.open
      go_wp2_with fail
      refine (CI.out _).mono ?_
      rintro e wq ⟨rfl, rfl⟩
      clear s_VR f_VR z_VR s_VQ f_VQ z_VQ
      have VF := Hid.mk (VR.filled [.int .i64 3, .slice none 0 0] rfl)
      have HT := Hid.mk VR.there
      have BR := belowCells B (show w.heap.size ≤ w.heap.size by (first | omega | (simp; done) | (simp; omega))) 0 [.int .i64 3, .slice none 0 0]
      replace BR := Hid.mk BR
      obtain ⟨s_VR, f_VR, z_VR⟩ := VR.open
      obtain ⟨s_VQ, f_VQ, z_VQ⟩ := VQ.open
      go_wp2_with (refine wpList_store_mid rfl 42 _ _ rfl (w.heap.size) 0 #[.int .i64 3, .slice none 0 0] rfl rfl HT.out (by kernel_rfl) (by kernel_rfl) ?_)
      refine bodyPost_ret (v := .agg #[.int .i64 3, .slice none 0 0]) (results_row Try.results31 _ _ (w.heap.size) [.int .i64 3, .slice none 0 0] _ rfl VF.out Try.underlying42 rfl (by kernel_rfl)) rfl ⟨none, 0, rfl, own_none, BR.out⟩
    · rw [hq] at CI
      obtain ⟨hq1, hq2⟩ := btw_iff.1 hq
      obtain ⟨f, rfl⟩ : ∃ f : Nat, q = ((f + 1 : Nat) : Int) := ⟨q.toNat - 1, by omega⟩
      have hf : f ≤ 19 := by omega
      have e1 : ((f + 1 : Nat) : Int) - 1 = (f : Int) := by omega
      have HNO : Hid (spT xs f u = none → slR xs u ((f + 1 : Nat) : Int) = (1, [])) := Hid.mk (fun h => by
        rcases sl_ways xs u ((f + 1 : Nat) : Int) with ⟨h1, _⟩ | ⟨_, h1, _⟩ | ⟨_, _, _, e⟩ | ⟨_, _, ys, h1, _⟩
        · exact absurd hc h1
        · rw [hq] at h1; cases h1
        · exact e
        · rw [e1, Int.toNat_natCast, h] at h1; cases h1)
      have HYES : Hid (∀ ys, spT xs f u = some ys → slR xs u ((f + 1 : Nat) : Int) = (0, ys)) := Hid.mk (fun ys h => by
        rcases sl_ways xs u ((f + 1 : Nat) : Int) with ⟨h1, _⟩ | ⟨_, h1, _⟩ | ⟨_, _, h1, _⟩ | ⟨_, _, zs, h1, e⟩
        · exact absurd hc h1
        · rw [hq] at h1; cases h1
        · rw [e1, Int.toNat_natCast, h] at h1; cases h1
        · rw [e1, Int.toNat_natCast, h] at h1; cases h1; exact e)
      have HV := Hid.mk hv
      clear eC hc hok hq hp0 hp1 hv hq1 hq2
      go_enter Try.func31, Try.ntmps31
      have B := Below.refl w.heap.size w
      replace ha := ha.kept (belowA w (.cells #[.int .i64 0, .slice none 0 0] 42))
      replace B := thenB B (belowA w (.cells #[.int .i64 0, .slice none 0 0] 42))
      have VR := V.new w [.int .i64 0, .slice none 0 0] 42
      obtain ⟨s_VR, f_VR, z_VR⟩ := VR.open
      have Bo := B
      clear s_VR f_VR z_VR
      have RP0 := Rd.litI (w.alloc (.cells #[.int .i64 0, .slice none 0 0] 42)) [(u : Int)]
      simp only [World.size_alloc] at RP0
      replace VR := VR.kept (belowA (w.alloc (.cells #[.int .i64 0, .slice none 0 0] 42)) (.cells #[.int .i64 (u : Int)] 2))
      replace ha := ha.kept (belowA (w.alloc (.cells #[.int .i64 0, .slice none 0 0] 42)) (.cells #[.int .i64 (u : Int)] 2))
      replace B := thenB B (belowA (w.alloc (.cells #[.int .i64 0, .slice none 0 0] 42)) (.cells #[.int .i64 (u : Int)] 2))
      obtain ⟨s_VR, f_VR, z_VR⟩ := VR.open
      go_wp2_with fail
      refine (CB.out _ _ ha RP0).mono ?_
      rintro e w41 ⟨Q, p, g, c, d, rfl, VQ, H, hQ, hnQ, b41⟩
      clear s_VR f_VR z_VR
      have S41 := b41.size
      simp only [World.size_alloc] at S41
      replace VR := VR.kept b41
      replace ha := ha.kept b41
      replace B := thenB B b41
      clear b41 RP0
      have VP := H.v
      rw [HN.out] at VP
      have HRT := Hid.mk H.o.rd
      clear H hQ hnQ ha
      obtain ⟨s_VR, f_VR, z_VR⟩ := VR.open
      obtain ⟨s_VQ, f_VQ, z_VQ⟩ := VQ.open
      obtain ⟨s_VP, f_VP, z_VP⟩ := VP.open
      go_wp2_with fail
      refine (CI.out _).mono ?_
      rintro e wq ⟨rfl, rfl⟩
      clear s_VR f_VR z_VR s_VQ f_VQ z_VQ s_VP f_VP z_VP
      have hvr : w.heap.size < wq.heap.size := VR.1
      have HVR := Hid.mk VR
      have HVQ := Hid.mk VQ
      have HVP := Hid.mk VP
      have HB := Hid.mk B
      clear VR VQ VP B Bo
      generalize hW1 : wq.heap.size = W1 at *
      go_wp2
      go_loopw [9, 10, 30] (fun s r i wr => ∃ (k pp : Nat) (c1 : Option Addr) (d1 : Nat) (ys : List Int), k ≤ f ∧ i = .int .i64 k ∧ r = .int .i64 pp ∧ s = .slice c1 k d1 ∧ Hid (ys.length = k ∧ pp < n ∧ spT xs f u = (spT xs (f - k) pp).map (ys ++ ·)) ∧ Own .i64 2 wr W1 c1 d1 ys ∧ Below W1 wq wr) (fun _ _ i _ => f - (intOf i).toNat)
      case atStart => exact ⟨0, u, none, 0, [], Nat.zero_le _, rfl, rfl, rfl, Hid.mk ⟨rfl, hu, by simp⟩, own_none, Below.refl _ _⟩
      case round =>
        obtain ⟨k, pp, c1, d1, ys, hk, rfl, rfl, rfl, hS, O, BL⟩ := hrel
        rw [← hW1] at BL
        have hWr := BL.size
        have VR := HVR.out.kept BL
        have VQ := HVQ.out.kept BL
        have VP := HVP.out.kept BL
        have RT := HRT.out.kept BL
        have B := thenB HB.out BL
        have hcl : Hid (∀ b : Addr, c1 = some b → W1 ≤ b.block ∧ b.block < wr.heap.size) := Hid.mk (fun b hb => O.lt b hb)
        rw [hW1] at BL hWr
        by_cases hlt : k < f
        · have hkf : (k : Int) < (f : Int) := by omega
          obtain ⟨hy, hpn, hsp⟩ := hS.out
          have hp1 : (pp : Int) < (n : Int) := by omega
          obtain ⟨x, hxu⟩ : ∃ x, xs.getD pp zTerm = x := ⟨_, rfl⟩
          have ex : tmAt xs (pp : Int) = x := by unfold tmAt; rw [Int.toNat_natCast]; exact hxu
          rw [sp_round hlt ex] at hsp
          have HPT := sp_pair HV.out pp (by rw [HN.out]; exact hpn) (a := x.a) (b := x.b) (n := x.n)
          rw [hxu] at HPT
          have HX := Hid.mk hxu
          rcases RT with h9 | ⟨b1, o1, rfl, hca⟩
          · have := HN.out; rw [h9] at this; simp at this; omega
          obtain ⟨p0, p1, p2, p3⟩ := RdTerm.cells hca pp (by rw [HN.out]; exact hpn) _ HX.out
          clear hca hxu ex HX hS
          obtain ⟨xo, xa, xb, xn⟩ := x
          simp only at *
          by_cases h3 : xo = 3
          rotate_left
          · have hne : (xo != 3) = true := by simpa using h3
            rw [if_neg h3] at hsp
            have HE := Hid.mk (HNO.out hsp)
            clear hsp h3 HPT
            have bA := belowA wr (.cells #[.int .i64 0, .int .i64 0, .int .i64 0, .int .i64 0] 36)
            have VT := V.new wr [.int .i64 0, .int .i64 0, .int .i64 0, .int .i64 0] 36
            have hT9 := Hid.mk VT.there
            have F_VT := VT.filled [.int .i64 xo, .int .i64 xa, .int .i64 xb, .int .i64 xn] rfl
            have F_VR := (VR.kept bA).apart (B := wr.heap.size) (by have := VR.1; omega) 0 [.int .i64 xo, .int .i64 xa, .int .i64 xb, .int .i64 xn]
            have F_VQ := (VQ.kept bA).apart (B := wr.heap.size) (by have := VQ.1; omega) 0 [.int .i64 xo, .int .i64 xa, .int .i64 xb, .int .i64 xn]
            have F_VP := (VP.kept bA).apart (B := wr.heap.size) (by have := VP.1; omega) 0 [.int .i64 xo, .int .i64 xa, .int .i64 xb, .int .i64 xn]
            have F_B := belowCells (thenB B bA) (show w.heap.size ≤ wr.heap.size by omega) 0 [.int .i64 xo, .int .i64 xa, .int .i64 xb, .int .i64 xn]
            have F_L := belowCells (BL.trans (bA.mono hWr)) (show W1 ≤ wr.heap.size by omega) 0 [.int .i64 xo, .int .i64 xa, .int .i64 xb, .int .i64 xn]
            have F_O := ownCells9 (O.kept bA) (B := wr.heap.size) (fun b hb => by have := (hcl.out b hb).2; omega) 0 [.int .i64 xo, .int .i64 xa, .int .i64 xb, .int .i64 xn]
            have hZ9 : wr.heap.size + 1 ≤ (World.setCells (wr.alloc (.cells #[.int .i64 0, .int .i64 0, .int .i64 0, .int .i64 0] 36)) wr.heap.size 0 [.int .i64 xo, .int .i64 xa, .int .i64 xb, .int .i64 xn]).heap.size := by have h := (Sm.cells (X := fun j => j = wr.heap.size) (w := wr.alloc (.cells #[.int .i64 0, .int .i64 0, .int .i64 0, .int .i64 0] 36)) (B := wr.heap.size) rfl 0 [.int .i64 xo, .int .i64 xa, .int .i64 xb, .int .i64 xn]).size; rw [World.size_alloc] at h; exact h
            obtain ⟨w9, hw9⟩ : ∃ q, (wr.alloc (.cells #[.int .i64 0, .int .i64 0, .int .i64 0, .int .i64 0] 36)).setCells wr.heap.size 0 [.int .i64 xo, .int .i64 xa, .int .i64 xb, .int .i64 xn] = q := ⟨_, rfl⟩
            rw [hw9] at F_VT F_VR F_VQ F_VP F_B F_L F_O hZ9
            replace hw9 := Hid.mk hw9
            replace F_VT := Hid.mk F_VT
            replace F_VR := Hid.mk F_VR
            replace F_VQ := Hid.mk F_VQ
            replace F_VP := Hid.mk F_VP
            replace F_B := Hid.mk F_B
            replace F_L := Hid.mk F_L
            replace F_O := Hid.mk F_O
            clear bA VT
            obtain ⟨s_VR, f_VR, z_VR⟩ := VR.open
            obtain ⟨s_VQ, f_VQ, z_VQ⟩ := VQ.open
            obtain ⟨s_VP, f_VP, z_VP⟩ := VP.open
            obtain ⟨s9_VT, f9_VT, z9_VT⟩ := F_VT.out.open
            obtain ⟨s9_VR, f9_VR, z9_VR⟩ := F_VR.out.open
            obtain ⟨s9_VQ, f9_VQ, z9_VQ⟩ := F_VQ.out.open
            obtain ⟨s9_VP, f9_VP, z9_VP⟩ := F_VP.out.open
            go_wp2_with (refine wpList_stroke w9 rfl 36 _ _ rfl (wr.heap.size) 0 #[.int .i64 xo, .int .i64 xa, .int .i64 xb, .int .i64 xn] rfl rfl hT9.out (by kernel_rfl) (by kernel_rfl) hw9.out ?_)
            clear s9_VT f9_VT z9_VT s9_VR f9_VR z9_VR s9_VQ f9_VQ z9_VQ s9_VP f9_VP z9_VP s_VR f_VR z_VR s_VQ f_VQ z_VQ s_VP f_VP z_VP
            replace VR := F_VR.out
            replace VQ := F_VQ.out
            replace VP := F_VP.out
            have VT := F_VT.out
            replace B := F_B.out
            replace BL := F_L.out
            replace O := F_O.out
            clear hT9 hw9 F_VT F_VR F_VQ F_VP F_B F_L F_O
            obtain ⟨s_VR, f_VR, z_VR⟩ := VR.open
            have Bo := B
            clear s_VR f_VR z_VR
            have VF := Hid.mk (VR.filled [.int .i64 1, .slice none 0 0] rfl)
            have HT := Hid.mk VR.there
            have BR := belowCells B (show w.heap.size ≤ w.heap.size by (first | omega | (simp; done) | (simp; omega))) 0 [.int .i64 1, .slice none 0 0]
            replace BR := Hid.mk BR
            obtain ⟨s_VR, f_VR, z_VR⟩ := VR.open
            go_wp2_with (refine wpList_store_mid rfl 42 _ _ rfl (w.heap.size) 0 #[.int .i64 1, .slice none 0 0] rfl rfl HT.out (by kernel_rfl) (by kernel_rfl) ?_)
            refine bodyPost_ret (v := .agg #[.int .i64 1, .slice none 0 0]) (results_row Try.results31 _ _ (w.heap.size) [.int .i64 1, .slice none 0 0] _ rfl VF.out Try.underlying42 rfl (by kernel_rfl)) rfl ⟨none, 0, by simp only [HE.out, List.length_nil], by simp only [HE.out]; exact own_none, BR.out⟩
          · subst h3
            rw [if_pos rfl] at hsp
            obtain ⟨⟨_, _⟩, hb0, hb1⟩ := HPT rfl
            obtain ⟨pb, rfl⟩ : ∃ pb : Nat, xb = (pb : Int) := ⟨xb.toNat, by omega⟩
            have HREL : Hid ((ys ++ [xa]).length = k + 1 ∧ pb < n ∧ spT xs f u = (spT xs (f - (k + 1)) pb).map ((ys ++ [xa]) ++ ·)) := Hid.mk ⟨by simp [hy], by omega, by
              rw [hsp, Option.map_map]
              congr 1
              funext zs
              simp⟩
            have HY := Hid.mk hy
            have hk6 : k ≤ 1000000 := by omega
            clear hsp HPT hy
            have bA := belowA wr (.cells #[.int .i64 0, .int .i64 0, .int .i64 0, .int .i64 0] 36)
            have VT := V.new wr [.int .i64 0, .int .i64 0, .int .i64 0, .int .i64 0] 36
            have hT9 := Hid.mk VT.there
            have F_VT := VT.filled [.int .i64 3, .int .i64 xa, .int .i64 (pb : Int), .int .i64 xn] rfl
            have F_VR := (VR.kept bA).apart (B := wr.heap.size) (by have := VR.1; omega) 0 [.int .i64 3, .int .i64 xa, .int .i64 (pb : Int), .int .i64 xn]
            have F_VQ := (VQ.kept bA).apart (B := wr.heap.size) (by have := VQ.1; omega) 0 [.int .i64 3, .int .i64 xa, .int .i64 (pb : Int), .int .i64 xn]
            have F_VP := (VP.kept bA).apart (B := wr.heap.size) (by have := VP.1; omega) 0 [.int .i64 3, .int .i64 xa, .int .i64 (pb : Int), .int .i64 xn]
            have F_B := belowCells (thenB B bA) (show w.heap.size ≤ wr.heap.size by omega) 0 [.int .i64 3, .int .i64 xa, .int .i64 (pb : Int), .int .i64 xn]
            have F_L := belowCells (BL.trans (bA.mono hWr)) (show W1 ≤ wr.heap.size by omega) 0 [.int .i64 3, .int .i64 xa, .int .i64 (pb : Int), .int .i64 xn]
            have F_O := ownCells9 (O.kept bA) (B := wr.heap.size) (fun b hb => by have := (hcl.out b hb).2; omega) 0 [.int .i64 3, .int .i64 xa, .int .i64 (pb : Int), .int .i64 xn]
            have hZ9 : wr.heap.size + 1 ≤ (World.setCells (wr.alloc (.cells #[.int .i64 0, .int .i64 0, .int .i64 0, .int .i64 0] 36)) wr.heap.size 0 [.int .i64 3, .int .i64 xa, .int .i64 (pb : Int), .int .i64 xn]).heap.size := by have h := (Sm.cells (X := fun j => j = wr.heap.size) (w := wr.alloc (.cells #[.int .i64 0, .int .i64 0, .int .i64 0, .int .i64 0] 36)) (B := wr.heap.size) rfl 0 [.int .i64 3, .int .i64 xa, .int .i64 (pb : Int), .int .i64 xn]).size; rw [World.size_alloc] at h; exact h
            obtain ⟨w9, hw9⟩ : ∃ q, (wr.alloc (.cells #[.int .i64 0, .int .i64 0, .int .i64 0, .int .i64 0] 36)).setCells wr.heap.size 0 [.int .i64 3, .int .i64 xa, .int .i64 (pb : Int), .int .i64 xn] = q := ⟨_, rfl⟩
            rw [hw9] at F_VT F_VR F_VQ F_VP F_B F_L F_O hZ9
            replace hw9 := Hid.mk hw9
            replace F_VT := Hid.mk F_VT
            replace F_VR := Hid.mk F_VR
            replace F_VQ := Hid.mk F_VQ
            replace F_VP := Hid.mk F_VP
            replace F_B := Hid.mk F_B
            replace F_L := Hid.mk F_L
            replace F_O := Hid.mk F_O
            clear bA VT
            obtain ⟨s_VR, f_VR, z_VR⟩ := VR.open
            obtain ⟨s_VQ, f_VQ, z_VQ⟩ := VQ.open
            obtain ⟨s_VP, f_VP, z_VP⟩ := VP.open
            obtain ⟨s9_VT, f9_VT, z9_VT⟩ := F_VT.out.open
            obtain ⟨s9_VR, f9_VR, z9_VR⟩ := F_VR.out.open
            obtain ⟨s9_VQ, f9_VQ, z9_VQ⟩ := F_VQ.out.open
            obtain ⟨s9_VP, f9_VP, z9_VP⟩ := F_VP.out.open
            go_upto_region 13 with (refine wpList_stroke w9 rfl 36 _ _ rfl (wr.heap.size) 0 #[.int .i64 3, .int .i64 xa, .int .i64 (pb : Int), .int .i64 xn] rfl rfl hT9.out (by kernel_rfl) (by kernel_rfl) hw9.out ?_)
            clear s9_VT f9_VT z9_VT s9_VR f9_VR z9_VR s9_VQ f9_VQ z9_VQ s9_VP f9_VP z9_VP s_VR f_VR z_VR s_VQ f_VQ z_VQ s_VP f_VP z_VP
            replace VR := F_VR.out
            replace VQ := F_VQ.out
            replace VP := F_VP.out
            have VT := F_VT.out
            replace B := F_B.out
            replace BL := F_L.out
            replace O := F_O.out
            clear hT9 hw9 F_VT F_VR F_VQ F_VP F_B F_L F_O
            clear VR VQ VP B p0 p1 p2 p3
            refine wp_region_any (by kernel_rfl) ?_
            change wpAny _ _ _ _ _ _ _ w9.drew
            have bd : Below w9.heap.size w9 w9.drew := (Below.refl _ _).drew
            replace VT := VT.kept bd
            replace O := O.kept bd
            replace BL := BL.trans (bd.mono (by omega))
            have hZd := bd.size
            clear bd
            generalize w9.drew = wd at *
            refine wpAny_take (i := 0) (oi := _) (v := ?vtt1) rfl (by kernel_rfl) (by kernel_rfl) (by kernel_rfl) (fun _ _ _ h => h) (Or.inl ⟨by rfl, ?hytt1⟩) ?resttt1
            case hytt1 => (intro w; go_simp; first | done | with_reducible rfl)
            try simp only [Act.put, List.getElem_toArray, List.getElem_cons_zero, List.setIfInBounds_toArray, List.set_cons_zero, List.set_cons_succ]
            refine wpAny_take (i := 1) (oi := _) (v := ?vtt2) rfl (by kernel_rfl) (by kernel_rfl) (by kernel_rfl) (fun _ _ _ h => h) (Or.inl ⟨by rfl, ?hytt2⟩) ?resttt2
            case hytt2 => (intro w; go_simp; first | done | with_reducible rfl)
            try simp only [Act.put, List.getElem_toArray, List.getElem_cons_zero, List.getElem_cons_succ, List.setIfInBounds_toArray, List.set_cons_zero, List.set_cons_succ]
            refine wpAny_take (i := 5) (oi := _) (v := ?vtt3) rfl (by kernel_rfl) (by kernel_rfl) (by kernel_rfl) (fun _ _ _ h => h) (Or.inl ⟨by rfl, ?hytt3⟩) ?resttt3
            case hytt3 => (intro w; go_simp; first | done | with_reducible rfl)
            try simp only [Act.put, List.getElem_toArray, List.getElem_cons_zero, List.getElem_cons_succ, List.setIfInBounds_toArray, List.set_cons_zero, List.set_cons_succ]
            refine wpAny_ready (rs := [2, 6]) (by kernel_rfl) (by simp) ?_
            refine AllReady.cons (o := _) rfl (fun K0 hK0 => ?_) (AllReady.cons (o := _) rfl (fun K0 hK0 => ?_) AllReady.nil)
            · skip
              obtain ⟨s_VT, f_VT, z_VT⟩ := VT.open
              go_simp
              refine hK0 _ _ ?_
              clear hK0 K0 s_VT f_VT z_VT
              try simp only [Act.put, List.getElem_toArray, List.getElem_cons_zero, List.getElem_cons_succ, List.setIfInBounds_toArray, List.set_cons_zero, List.set_cons_succ]
              refine wpAny_ready (rs := [3, 6]) (by kernel_rfl) (by simp) ?_
              refine AllReady.cons (o := _) rfl (fun K0 hK0 => ?_) (AllReady.cons (o := _) rfl (fun K0 hK0 => ?_) AllReady.nil)
              · skip
                go_simp
                refine hK0 _ _ ?_
                clear hK0 K0
                try simp only [Act.put, List.getElem_toArray, List.getElem_cons_zero, List.getElem_cons_succ, List.setIfInBounds_toArray, List.set_cons_zero, List.set_cons_succ]
                have bq := belowA wd (.cells #[.int .i64 xa] 2)
                replace VT := VT.kept bq
                replace O := O.kept bq
                replace BL := BL.trans (bq.mono (by omega))
                have RL : World.cell? (wd.alloc (.cells #[.int .i64 xa] 2)) ⟨wd.heap.size, 0, none⟩ = some (.int .i64 xa) := (V.new wd [.int .i64 xa] 2).2.1 0 (by simp)
                have hZa : wd.heap.size < (wd.alloc (.cells #[.int .i64 xa] 2)).heap.size := by rw [World.size_alloc]; omega
                clear bq
                generalize hBl : wd.heap.size = Bl at *
                generalize wd.alloc (.cells #[.int .i64 xa] 2) = wa1 at *
                refine wpAny_ready (rs := [4, 6]) (by kernel_rfl) (by simp) ?_
                refine AllReady.cons (o := _) rfl (fun K0 hK0 => ?_) (AllReady.cons (o := _) rfl (fun K0 hK0 => ?_) AllReady.nil)
                · skip
                  refine wp_putI9 wa1 _ _ rfl W1 c1 d1 ys k HY.out rfl O ⟨Bl, 0, none⟩ 1 xa rfl RL hk6 (by omega) ?_
                  intro c2 d2 wb2 O2 hg HC
                  refine hK0 _ _ ?_
                  clear hK0 K0
                  try simp only [Act.put, List.getElem_toArray, List.getElem_cons_zero, List.getElem_cons_succ, List.setIfInBounds_toArray, List.set_cons_zero, List.set_cons_succ]
                  have SG := Sm.grown (X := fun j => ∃ b, c1 = some b ∧ j = b.block) hg (fun j e => by cases c1 with | none => cases e | some b => simp at e; exact ⟨b, rfl, e.symm⟩)
                  replace VT := VT.sm SG (by rintro ⟨b, hb, e⟩; have := (hcl.out b hb).2; omega)
                  replace BL := SG.below' BL (by omega) (by rintro j ⟨b, hb, rfl⟩; exact (hcl.out b hb).1)
                  have O := O2
                  clear SG hg HC O2 RL
                  refine wpAny_take (i := 7) (oi := _) (v := ?vtt4) rfl (by kernel_rfl) (by kernel_rfl) (by kernel_rfl) (fun _ _ _ h => h) (Or.inl ⟨by rfl, ?hytt4⟩) ?resttt4
                  case hytt4 => (intro w; go_simp; first | done | with_reducible rfl)
                  try simp only [Act.put, List.getElem_toArray, List.getElem_cons_zero, List.getElem_cons_succ, List.setIfInBounds_toArray, List.set_cons_zero, List.set_cons_succ]
                  refine wpAny_ready (rs := [6]) (by kernel_rfl) (by simp) ?_
                  refine AllReady.cons (o := _) rfl (fun K0 hK0 => ?_) AllReady.nil
                  obtain ⟨s_VT, f_VT, z_VT⟩ := VT.open
                  go_simp
                  refine hK0 _ _ ?_
                  clear hK0 K0 s_VT f_VT z_VT
                  try simp only [Act.put, List.getElem_toArray, List.getElem_cons_zero, List.getElem_cons_succ, List.setIfInBounds_toArray, List.set_cons_zero, List.set_cons_succ]
                  refine wpAny_take (i := 8) (oi := _) (v := ?vtt5) rfl (by kernel_rfl) (by kernel_rfl) (by kernel_rfl) (fun _ _ _ h => h) (Or.inl ⟨by rfl, ?hytt5⟩) ?resttt5
                  case hytt5 => (intro w; go_simp; first | done | with_reducible rfl)
                  try simp only [Act.put, List.getElem_toArray, List.getElem_cons_zero, List.getElem_cons_succ, List.setIfInBounds_toArray, List.set_cons_zero, List.set_cons_succ]
                  clear VT
                  refine wpAny_done (by kernel_rfl) ?_ _
                  go_wp2
                  go_roundw
                  case rel => exact ⟨k + 1, pb, c2, d2, ys ++ [xa], by omega, by go_num, rfl, rfl, HREL, O, BL⟩
                  case measure => simp [intOf]; omega
                · skip
                  obtain ⟨s_VT, f_VT, z_VT⟩ := VT.open
                  go_simp
                  refine hK0 _ _ ?_
                  clear hK0 K0 s_VT f_VT z_VT
                  try simp only [Act.put, List.getElem_toArray, List.getElem_cons_zero, List.getElem_cons_succ, List.setIfInBounds_toArray, List.set_cons_zero, List.set_cons_succ]
                  refine wpAny_ready (rs := [4]) (by kernel_rfl) (by simp) ?_
                  refine AllReady.cons (o := _) rfl (fun K0 hK0 => ?_) AllReady.nil
                  refine wp_putI9 wa1 _ _ rfl W1 c1 d1 ys k HY.out rfl O ⟨Bl, 0, none⟩ 1 xa rfl RL hk6 (by omega) ?_
                  intro c2 d2 wb3 O2 hg HC
                  refine hK0 _ _ ?_
                  clear hK0 K0
                  try simp only [Act.put, List.getElem_toArray, List.getElem_cons_zero, List.getElem_cons_succ, List.setIfInBounds_toArray, List.set_cons_zero, List.set_cons_succ]
                  have SG := Sm.grown (X := fun j => ∃ b, c1 = some b ∧ j = b.block) hg (fun j e => by cases c1 with | none => cases e | some b => simp at e; exact ⟨b, rfl, e.symm⟩)
                  replace VT := VT.sm SG (by rintro ⟨b, hb, e⟩; have := (hcl.out b hb).2; omega)
                  replace BL := SG.below' BL (by omega) (by rintro j ⟨b, hb, rfl⟩; exact (hcl.out b hb).1)
                  have O := O2
                  clear SG hg HC O2 RL
                  refine wpAny_take (i := 7) (oi := _) (v := ?vtt6) rfl (by kernel_rfl) (by kernel_rfl) (by kernel_rfl) (fun _ _ _ h => h) (Or.inl ⟨by rfl, ?hytt6⟩) ?resttt6
                  case hytt6 => (intro w; go_simp; first | done | with_reducible rfl)
                  try simp only [Act.put, List.getElem_toArray, List.getElem_cons_zero, List.getElem_cons_succ, List.setIfInBounds_toArray, List.set_cons_zero, List.set_cons_succ]
                  refine wpAny_take (i := 8) (oi := _) (v := ?vtt7) rfl (by kernel_rfl) (by kernel_rfl) (by kernel_rfl) (fun _ _ _ h => h) (Or.inl ⟨by rfl, ?hytt7⟩) ?resttt7
                  case hytt7 => (intro w; go_simp; first | done | with_reducible rfl)
                  try simp only [Act.put, List.getElem_toArray, List.getElem_cons_zero, List.getElem_cons_succ, List.setIfInBounds_toArray, List.set_cons_zero, List.set_cons_succ]
                  clear VT
                  refine wpAny_done (by kernel_rfl) ?_ _
                  go_wp2
                  go_roundw
                  case rel => exact ⟨k + 1, pb, c2, d2, ys ++ [xa], by omega, by go_num, rfl, rfl, HREL, O, BL⟩
                  case measure => simp [intOf]; omega
              · skip
                obtain ⟨s_VT, f_VT, z_VT⟩ := VT.open
                go_simp
                refine hK0 _ _ ?_
                clear hK0 K0 s_VT f_VT z_VT
                try simp only [Act.put, List.getElem_toArray, List.getElem_cons_zero, List.getElem_cons_succ, List.setIfInBounds_toArray, List.set_cons_zero, List.set_cons_succ]
                refine wpAny_ready (rs := [3]) (by kernel_rfl) (by simp) ?_
                refine AllReady.cons (o := _) rfl (fun K0 hK0 => ?_) AllReady.nil
                go_simp
                refine hK0 _ _ ?_
                clear hK0 K0
                try simp only [Act.put, List.getElem_toArray, List.getElem_cons_zero, List.getElem_cons_succ, List.setIfInBounds_toArray, List.set_cons_zero, List.set_cons_succ]
                have bq := belowA wd (.cells #[.int .i64 xa] 2)
                replace VT := VT.kept bq
                replace O := O.kept bq
                replace BL := BL.trans (bq.mono (by omega))
                have RL : World.cell? (wd.alloc (.cells #[.int .i64 xa] 2)) ⟨wd.heap.size, 0, none⟩ = some (.int .i64 xa) := (V.new wd [.int .i64 xa] 2).2.1 0 (by simp)
                have hZa : wd.heap.size < (wd.alloc (.cells #[.int .i64 xa] 2)).heap.size := by rw [World.size_alloc]; omega
                clear bq
                generalize hBl : wd.heap.size = Bl at *
                generalize wd.alloc (.cells #[.int .i64 xa] 2) = wa4 at *
                refine wpAny_ready (rs := [4]) (by kernel_rfl) (by simp) ?_
                refine AllReady.cons (o := _) rfl (fun K0 hK0 => ?_) AllReady.nil
                refine wp_putI9 wa4 _ _ rfl W1 c1 d1 ys k HY.out rfl O ⟨Bl, 0, none⟩ 1 xa rfl RL hk6 (by omega) ?_
                intro c2 d2 wb5 O2 hg HC
                refine hK0 _ _ ?_
                clear hK0 K0
                try simp only [Act.put, List.getElem_toArray, List.getElem_cons_zero, List.getElem_cons_succ, List.setIfInBounds_toArray, List.set_cons_zero, List.set_cons_succ]
                have SG := Sm.grown (X := fun j => ∃ b, c1 = some b ∧ j = b.block) hg (fun j e => by cases c1 with | none => cases e | some b => simp at e; exact ⟨b, rfl, e.symm⟩)
                replace VT := VT.sm SG (by rintro ⟨b, hb, e⟩; have := (hcl.out b hb).2; omega)
                replace BL := SG.below' BL (by omega) (by rintro j ⟨b, hb, rfl⟩; exact (hcl.out b hb).1)
                have O := O2
                clear SG hg HC O2 RL
                refine wpAny_take (i := 7) (oi := _) (v := ?vtt8) rfl (by kernel_rfl) (by kernel_rfl) (by kernel_rfl) (fun _ _ _ h => h) (Or.inl ⟨by rfl, ?hytt8⟩) ?resttt8
                case hytt8 => (intro w; go_simp; first | done | with_reducible rfl)
                try simp only [Act.put, List.getElem_toArray, List.getElem_cons_zero, List.getElem_cons_succ, List.setIfInBounds_toArray, List.set_cons_zero, List.set_cons_succ]
                refine wpAny_take (i := 8) (oi := _) (v := ?vtt9) rfl (by kernel_rfl) (by kernel_rfl) (by kernel_rfl) (fun _ _ _ h => h) (Or.inl ⟨by rfl, ?hytt9⟩) ?resttt9
                case hytt9 => (intro w; go_simp; first | done | with_reducible rfl)
                try simp only [Act.put, List.getElem_toArray, List.getElem_cons_zero, List.getElem_cons_succ, List.setIfInBounds_toArray, List.set_cons_zero, List.set_cons_succ]
                clear VT
                refine wpAny_done (by kernel_rfl) ?_ _
                go_wp2
                go_roundw
                case rel => exact ⟨k + 1, pb, c2, d2, ys ++ [xa], by omega, by go_num, rfl, rfl, HREL, O, BL⟩
                case measure => simp [intOf]; omega
            · skip
              obtain ⟨s_VT, f_VT, z_VT⟩ := VT.open
              go_simp
              refine hK0 _ _ ?_
              clear hK0 K0 s_VT f_VT z_VT
              try simp only [Act.put, List.getElem_toArray, List.getElem_cons_zero, List.getElem_cons_succ, List.setIfInBounds_toArray, List.set_cons_zero, List.set_cons_succ]
              refine wpAny_ready (rs := [2]) (by kernel_rfl) (by simp) ?_
              refine AllReady.cons (o := _) rfl (fun K0 hK0 => ?_) AllReady.nil
              obtain ⟨s_VT, f_VT, z_VT⟩ := VT.open
              go_simp
              refine hK0 _ _ ?_
              clear hK0 K0 s_VT f_VT z_VT
              try simp only [Act.put, List.getElem_toArray, List.getElem_cons_zero, List.getElem_cons_succ, List.setIfInBounds_toArray, List.set_cons_zero, List.set_cons_succ]
              refine wpAny_ready (rs := [3]) (by kernel_rfl) (by simp) ?_
              refine AllReady.cons (o := _) rfl (fun K0 hK0 => ?_) AllReady.nil
              go_simp
              refine hK0 _ _ ?_
              clear hK0 K0
              try simp only [Act.put, List.getElem_toArray, List.getElem_cons_zero, List.getElem_cons_succ, List.setIfInBounds_toArray, List.set_cons_zero, List.set_cons_succ]
              have bq := belowA wd (.cells #[.int .i64 xa] 2)
              replace VT := VT.kept bq
              replace O := O.kept bq
              replace BL := BL.trans (bq.mono (by omega))
              have RL : World.cell? (wd.alloc (.cells #[.int .i64 xa] 2)) ⟨wd.heap.size, 0, none⟩ = some (.int .i64 xa) := (V.new wd [.int .i64 xa] 2).2.1 0 (by simp)
              have hZa : wd.heap.size < (wd.alloc (.cells #[.int .i64 xa] 2)).heap.size := by rw [World.size_alloc]; omega
              clear bq
              generalize hBl : wd.heap.size = Bl at *
              generalize wd.alloc (.cells #[.int .i64 xa] 2) = wa6 at *
              refine wpAny_ready (rs := [4]) (by kernel_rfl) (by simp) ?_
              refine AllReady.cons (o := _) rfl (fun K0 hK0 => ?_) AllReady.nil
              refine wp_putI9 wa6 _ _ rfl W1 c1 d1 ys k HY.out rfl O ⟨Bl, 0, none⟩ 1 xa rfl RL hk6 (by omega) ?_
              intro c2 d2 wb7 O2 hg HC
              refine hK0 _ _ ?_
              clear hK0 K0
              try simp only [Act.put, List.getElem_toArray, List.getElem_cons_zero, List.getElem_cons_succ, List.setIfInBounds_toArray, List.set_cons_zero, List.set_cons_succ]
              have SG := Sm.grown (X := fun j => ∃ b, c1 = some b ∧ j = b.block) hg (fun j e => by cases c1 with | none => cases e | some b => simp at e; exact ⟨b, rfl, e.symm⟩)
              replace VT := VT.sm SG (by rintro ⟨b, hb, e⟩; have := (hcl.out b hb).2; omega)
              replace BL := SG.below' BL (by omega) (by rintro j ⟨b, hb, rfl⟩; exact (hcl.out b hb).1)
              have O := O2
              clear SG hg HC O2 RL
              refine wpAny_take (i := 7) (oi := _) (v := ?vtt10) rfl (by kernel_rfl) (by kernel_rfl) (by kernel_rfl) (fun _ _ _ h => h) (Or.inl ⟨by rfl, ?hytt10⟩) ?resttt10
              case hytt10 => (intro w; go_simp; first | done | with_reducible rfl)
              try simp only [Act.put, List.getElem_toArray, List.getElem_cons_zero, List.getElem_cons_succ, List.setIfInBounds_toArray, List.set_cons_zero, List.set_cons_succ]
              refine wpAny_take (i := 8) (oi := _) (v := ?vtt11) rfl (by kernel_rfl) (by kernel_rfl) (by kernel_rfl) (fun _ _ _ h => h) (Or.inl ⟨by rfl, ?hytt11⟩) ?resttt11
              case hytt11 => (intro w; go_simp; first | done | with_reducible rfl)
              try simp only [Act.put, List.getElem_toArray, List.getElem_cons_zero, List.getElem_cons_succ, List.setIfInBounds_toArray, List.set_cons_zero, List.set_cons_succ]
              clear VT
              refine wpAny_done (by kernel_rfl) ?_ _
              go_wp2
              go_roundw
              case rel => exact ⟨k + 1, pb, c2, d2, ys ++ [xa], by omega, by go_num, rfl, rfl, HREL, O, BL⟩
              case measure => simp [intOf]; omega
        · have hkf : k = f := by omega
          subst hkf
          obtain ⟨hy, hpn, hsp⟩ := hS.out
          rw [Nat.sub_self, spT] at hsp
          have HE := Hid.mk (HYES.out (ys ++ [(pp : Int)]) hsp)
          have HY := Hid.mk hy
          have hk6 : k ≤ 1000000 := by omega
          have bq := belowA wr (.cells #[.int .i64 (pp : Int)] 2)
          have RL : World.cell? (wr.alloc (.cells #[.int .i64 (pp : Int)] 2)) ⟨wr.heap.size, 0, none⟩ = some (.int .i64 (pp : Int)) := (V.new wr [.int .i64 (pp : Int)] 2).2.1 0 (by simp)
          have O1 := O.kept bq
          have VR1 := VR.kept bq
          have B1 := thenB B bq
          have hlen : (ys ++ [(pp : Int)]).length = k + 1 := by simp [hy]
          have HL := Hid.mk hlen
          have hS1 : W1 ≤ (wr.alloc (.cells #[.int .i64 (pp : Int)] 2)).heap.size := by rw [World.size_alloc]; omega
          clear hsp hS hy VQ VP RT BL O VR B bq hlen
          go_wp2_with (at_builtin; go_loud (refine wpList_putI _ rfl _ _ rfl W1 c1 d1 ys k HY.out rfl O1 ⟨wr.heap.size, 0, none⟩ 1 (pp : Int) rfl RL hk6 hS1 ?_))
          intro c2 d2 w2 O2 hg HC
          have SG := Sm.grown (X := fun j => ∃ b, c1 = some b ∧ j = b.block) hg (fun j e => by cases c1 with | none => cases e | some b => simp at e; exact ⟨b, rfl, e.symm⟩)
          have VR := VR1.sm SG (by rintro ⟨b, hb, e⟩; have := (hcl.out b hb).1; omega)
          have B := SG.below' B1 (by rw [World.size_alloc]; omega) (by rintro j ⟨b, hb, rfl⟩; have := (hcl.out b hb).1; omega)
          have O := O2
          have OL := Hid.mk (fun b hb => (O.lt b hb).1)
          clear SG hg HC O2 RL VR1 B1 O1
          obtain ⟨s_VR, f_VR, z_VR⟩ := VR.open
          have Bo := B
          clear s_VR f_VR z_VR
          have VF := Hid.mk (VR.filled [.int .i64 0, .slice c2 (k + 1) d2] rfl)
          have HT := Hid.mk VR.there
          have BR := belowCells B (show w.heap.size ≤ w.heap.size by (first | omega | (simp; done) | (simp; omega))) 0 [.int .i64 0, .slice c2 (k + 1) d2]
          replace BR := Hid.mk BR
          have HO := Hid.mk (ownCells9 (O.mono (show w.heap.size ≤ W1 by omega)) (B := w.heap.size) (fun b hb => by have := OL.out b hb; omega) 0 [.int .i64 0, .slice c2 (k + 1) d2])
          obtain ⟨s_VR, f_VR, z_VR⟩ := VR.open
          go_wp2_with (refine wpList_store_mid rfl 42 _ _ rfl (w.heap.size) 0 #[.int .i64 0, .slice c2 (k + 1) d2] rfl rfl HT.out (by kernel_rfl) (by kernel_rfl) ?_)
          refine bodyPost_ret (v := .agg #[.int .i64 0, .slice c2 (k + 1) d2]) (results_row Try.results31 _ _ (w.heap.size) [.int .i64 0, .slice c2 (k + 1) d2] _ rfl VF.out Try.underlying42 rfl (by kernel_rfl)) rfl ⟨c2, d2, by simp only [HE.out, HL.out], by simp only [HE.out]; exact HO.out, BR.out⟩

end Go.Proofs.Ythkmoabkeblbjaa
