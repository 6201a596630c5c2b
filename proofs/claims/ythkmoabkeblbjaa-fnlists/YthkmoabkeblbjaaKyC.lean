/- The model's table that grows: lists and names put into it; places asked. -/
import Derived.Test.YthkmoabkeblbjaaKyB
import Derived.Test.YthkmoabkeblbjaaTmW
import Derived.Test.YthkmoabkeblbjaaIntA
import Derived.Deep.AppendLies
namespace Go.Proofs.Ythkmoabkeblbjaa
open Go.RowKit

/-- Numbers from wherever put behind an own row. -/
theorem wp_kyI {o : Oper} {a : Act} {K : Act → World → Prop} {Q : Exit → Act → World → Prop} (w : World) (s x : Operand)
    (ho : o.op = .call { callee := .builtin .append, args := #[s, x], argTypes := #[37, 37] })
    (base : Nat) (g d : Nat) (xs : List Int) (n : Nat) (hn : xs.length = n) (hs : a.eval s = .slice (some ⟨g, 0, none⟩) n d) (hown : Own .i64 2 w base (some ⟨g, 0, none⟩) d xs)
    (ad : Addr) (m cc : Nat) (zs : List Int) (hm : zs.length = m) (hx : a.eval x = .slice (some ad) m cc) (hr : Rd .i64 w (some ad) zs) (hlen : n + m ≤ 2000000) (hbase : base ≤ w.heap.size)
    (h : ∀ g' d' w', Own .i64 2 w' base (some ⟨g', 0, none⟩) d' (xs ++ zs) → w.grownBy w' (some g) → K (a.put o.dst (.slice (some ⟨g', 0, none⟩) (n + m) d')) w') : o.wp Try.prog a w K Q := by
  subst hn hm
  obtain ⟨i, hi, hz, hsz, hby⟩ := info_parts Try.infoI64
  refine wp_append_own w s x 37 ho base 2 i _ 1 8 Try.underlying37 hi hz hsz hby (by rfl) (by decide) (.slice (some ⟨g, 0, none⟩) xs.length d) xs.length (xs.map (Value.int .i64)) hs hown ad zs.length cc (zs.map (Value.int .i64)) hx (by simp) (fun j u hj => ?_) (ints_oneCell _ _) (by unfold maxLen; omega) (by omega) hbase fun v' w' h1 h2 h3 => ?_
  · rcases hr with h0 | ⟨b, off, h0, hcell⟩
    · subst h0; simp at hj
    · simp only [Option.some.injEq] at h0
      subst h0
      have hj' : j < zs.length := by
        rcases Nat.lt_or_ge j zs.length with h | h
        · exact h
        · simp [List.getElem?_eq_none h] at hj
      rw [Addr.add_lit, hcell j hj']
      simp [hj'] at hj
      subst hj
      simp [List.getD, hj']
  · have e1 : xs.map (Value.int .i64) ++ zs.map (Value.int .i64) = (xs ++ zs).map (Value.int .i64) := by simp
    rw [e1] at h1
    rcases h1.2 with ⟨h4, _⟩ | ⟨g', cap', cur, h4, _⟩
    · rw [h3] at h4; simp at h4
    · subst h4
      refine h g' cap' w' ?_ h2
      unfold Own
      rw [List.length_append]
      exact h1

theorem step_kyI {ops : Array Oper} {o : Oper} {a : Act} {K : Act → World → Prop} {Q : Exit → Act → World → Prop} {E : Prop} (w : World) (hgd : o.guard = none) (s x : Operand)
    (ho : o.op = .call { callee := .builtin .append, args := #[s, x], argTypes := #[37, 37] })
    (base : Nat) (g d : Nat) (xs : List Int) (n : Nat) (hn : xs.length = n) (hs : a.eval s = .slice (some ⟨g, 0, none⟩) n d) (hown : Own .i64 2 w base (some ⟨g, 0, none⟩) d xs)
    (ad : Addr) (m cc : Nat) (zs : List Int) (hm : zs.length = m) (hx : a.eval x = .slice (some ad) m cc) (hr : Rd .i64 w (some ad) zs) (hlen : n + m ≤ 2000000) (hbase : base ≤ w.heap.size)
    (h : ∀ g' d' w', Own .i64 2 w' base (some ⟨g', 0, none⟩) d' (xs ++ zs) → w.grownBy w' (some g) → K (a.put o.dst (.slice (some ⟨g', 0, none⟩) (n + m) d')) w') :
    if Region.wanted o (yielded ops a.tmps) = true then Oper.wp Try.prog o a w K Q else E := by
  have hw : Region.wanted o (yielded ops a.tmps) = true := by simp [Region.wanted, hgd]
  rw [if_pos hw]
  exact wp_kyI w s x ho base g d xs n hn hs hown ad m cc zs hm hx hr hlen hbase h

theorem wpList_kyI {ops : Array Oper} {rest : List Oper} {o : Oper} {a : Act} {Q : Exit → Act → World → Prop} (w : World) (hgd : o.guard = none) (s x : Operand)
    (ho : o.op = .call { callee := .builtin .append, args := #[s, x], argTypes := #[37, 37] })
    (base : Nat) (g d : Nat) (xs : List Int) (n : Nat) (hn : xs.length = n) (hs : a.eval s = .slice (some ⟨g, 0, none⟩) n d) (hown : Own .i64 2 w base (some ⟨g, 0, none⟩) d xs)
    (ad : Addr) (m cc : Nat) (zs : List Int) (hm : zs.length = m) (hx : a.eval x = .slice (some ad) m cc) (hr : Rd .i64 w (some ad) zs) (hlen : n + m ≤ 2000000) (hbase : base ≤ w.heap.size)
    (h : ∀ g' d' w', Own .i64 2 w' base (some ⟨g', 0, none⟩) d' (xs ++ zs) → w.grownBy w' (some g) → wpList Try.prog ops Q rest (a.put o.dst (.slice (some ⟨g', 0, none⟩) (n + m) d')) w') : wpList Try.prog ops Q (o :: rest) a w :=
  wpList_plain hgd fun _ hK => wp_kyI w s x ho base g d xs n hn hs hown ad m cc zs hm hx hr hlen hbase fun g' d' w' h2 h3 => hK _ _ (h g' d' w' h2 h3)


theorem Own.litI (w : World) (zs : List Int) (hm : zs.length ≤ maxLen := by unfold maxLen; simp) : Own .i64 2 (w.alloc (.cells (zs.map (Value.int .i64)).toArray 2)) w.heap.size (some ⟨w.heap.size, 0, none⟩) zs.length zs := by
  have h := World.ownsRow_lit (base := w.heap.size) (e := 2) (size := 1) w (zs.map (Value.int .i64)).toArray zs.length (Nat.le_refl _) hm (by simp)
  simpa [Own] using h

theorem grownOwn9 {w w1 w2 : World} {Q g : Nat} (h : w.grownBy w1 (some Q)) (k : w1.grownBy w2 (some g)) (hg : w.heap.size ≤ g) : w.grownBy w2 (some Q) :=
  ⟨k.os.trans h.os, k.tape.trans h.tape, k.output.trans h.output, Nat.le_trans h.size k.size, fun q hq hne => (k.block q (Nat.lt_of_lt_of_le hq h.size) (fun e => by simp only [Option.some.injEq] at e; omega)).trans (h.block q hq hne)⟩

/-- A row of numbers is no row of terms. -/
theorem own_not {w : World} {b1 b2 : Nat} {g e : Nat} {os : List Int} {c : Option Addr} {d : Nat} {xs : List T4} (h : Own .i64 2 w b1 (some ⟨g, 0, none⟩) e os) (k : OwnTerm w b2 c d xs) : ∀ b, c = some b → b.block ≠ g := by
  intro b hb e9
  rcases h.2 with ⟨hv, _⟩ | ⟨g1, cap1, cur1, hv, _, h1, _⟩
  · simp at hv
  · rcases k.2 with ⟨kv, _⟩ | ⟨g2, cap2, cur2, kv, _, h2, _⟩
    · simp only [Value.slice.injEq] at kv
      rw [hb] at kv
      simp at kv
    · simp only [Value.slice.injEq, Option.some.injEq, Addr.mk.injEq, and_true] at hv
      simp only [Value.slice.injEq] at kv
      rw [hb] at kv
      have k1 := kv.1
      simp only [Option.some.injEq] at k1
      rw [k1] at e9
      simp only at e9
      rw [← hv.1, ← e9, h2] at h1
      simp at h1

theorem MkB.grownOwn {w w' : World} {base Q : Nat} {m : Mk} {g : Nat} (h : MkB w base Q m) (hg : w.grownBy w' (some g)) (h1 : ∀ c : Option Addr, ∀ d, OwnTerm w base c d m.l → ∀ b, c = some b → b.block ≠ g) (h2 : g ≠ Q) : MkB w' base Q m := by
  obtain ⟨c, d, V1, O1, h3, h4⟩ := h
  exact ⟨c, d, V1.grownB hg (fun e => h2 e.symm), O1.grown hg (fun b hb e => by simp only [Option.some.injEq] at e; exact h1 c d O1 b hb e.symm), Nat.le_trans h3 hg.size, h4⟩

set_option maxHeartbeats 1000000 in
theorem l9Word_ok (n : Int) (w : World) :
    Calls Try.prog 75 #[.int .i64 n] w fun e w' => e = .returned (.bool (btw n 0 9999)) ∧ w' = w := by
  have CI := Hid.mk (l1In_ok n 0 9999)
  go_enter Try.func75, Try.ntmps75
  go_wp2_with fail
  refine (CI.out _).mono ?_
  rintro e wq ⟨rfl, rfl⟩
  go_wp2
  go_ret
  exact ⟨rfl, rfl⟩

/-- The code of a table and of places. -/
@[irreducible] def aqC (xs : List T4) (ps : List Int) : Int := if tfC xs = 0 then (if (ps.all fun z => btw z 0 ((xs.length : Int) - 1)) = true then 0 else 3) else tfC xs

theorem aq_ways (xs : List T4) (ps : List Int) : (tfC xs ≠ 0 ∧ aqC xs ps = tfC xs) ∨ (tfC xs = 0 ∧ (ps.all fun z => btw z 0 ((xs.length : Int) - 1)) = false ∧ aqC xs ps = 3) ∨ (tfC xs = 0 ∧ (ps.all fun z => btw z 0 ((xs.length : Int) - 1)) = true ∧ aqC xs ps = 0) := by
  unfold aqC
  by_cases h : tfC xs = 0
  · rw [if_pos h]
    cases h2 : ps.all fun z => btw z 0 ((xs.length : Int) - 1)
    · exact .inr (.inl ⟨h, rfl, by simp⟩)
    · exact .inr (.inr ⟨h, rfl, by simp⟩)
  · exact .inl ⟨h, by rw [if_neg h]⟩

theorem all_drop (p : Int → Bool) (zs : List Int) (k : Nat) (h : k < zs.length) {z : Int} (hz : zs.getD k 0 = z) : (zs.drop k).all p = (p z && (zs.drop (k + 1)).all p) := by
  rw [List.drop_eq_getElem_cons h, List.all_cons]
  have : zs[k] = z := by rw [← hz]; simp [List.getD, h]
  rw [this]

set_option maxHeartbeats 2000000 in
theorem l9Asked_ok (a : Option Addr) (n ca : Nat) (xs : List T4) (b : Option Addr) (m cb : Nat) (ps : List Int) (w : World) (ha : RdTerm w a xs) (hp : Rd .i64 w b ps) (hn : xs.length = n) (hm : ps.length = m) (hx : n ≤ maxLen) (hca : n ≤ ca) (hmx : m ≤ 2000000) :
    Calls Try.prog 74 #[.slice a n ca, .slice b m cb] w fun e w' => e = .returned (.int .i64 (aqC xs ps)) ∧ Below w.heap.size w w' := by
  have CT := Hid.mk (specTermsFault_ok a n ca xs w ha hn hx hca)
  have CA := Hid.mk (fun q w => l5At_ok a n ca q w hx)
  have HW := aq_ways xs ps
  rw [hn] at HW
  clear ha
  by_cases h1 : tfC xs = 0
  · have HE : aqC xs ps = if (ps.all fun z => btw z 0 ((n : Int) - 1)) = true then 0 else 3 := by
      rcases HW with ⟨h, _⟩ | ⟨_, h2, hr⟩ | ⟨_, h2, hr⟩
      · exact absurd h1 h
      · rw [hr, h2]; rfl
      · rw [hr, h2]; rfl
    rw [HE]
    rw [h1] at CT
    obtain ⟨r, hr⟩ : ∃ r, (if (ps.all fun z => btw z 0 ((n : Int) - 1)) = true then (0 : Int) else 3) = r := ⟨_, rfl⟩
    rw [hr]
    have HR := Hid.mk hr
    clear HW HE h1 hr
    go_enter Try.func74, Try.ntmps74
    go_wp2_with fail
    refine CT.out.mono ?_
    rintro e w1 ⟨rfl, b1⟩
    replace hp := hp.kept b1
    go_wp2
    go_loopw [6] (fun i wr => ∃ k : Nat, k ≤ m ∧ i = .int .i64 k ∧ ((ps.drop k).all fun z => btw z 0 ((n : Int) - 1)) = (ps.all fun z => btw z 0 ((n : Int) - 1)) ∧ wr = w1) (fun i _ => m - (intOf i).toNat)
    case atStart => exact ⟨0, Nat.zero_le _, rfl, rfl, rfl⟩
    case round =>
      obtain ⟨k, hk, rfl, hdr, rfl⟩ := hrel
      by_cases hlt : k < m
      · obtain ⟨z, hz⟩ : ∃ z, ps.getD k 0 = z := ⟨_, rfl⟩
        have hki : (k : Int) < (m : Int) := by omega
        have hs := all_drop (fun z => btw z 0 ((n : Int) - 1)) ps k (by omega) hz
        rw [hdr] at hs
        rcases hp with hp | ⟨b2, o2, rfl, hc⟩
        · simp [hp] at hm; omega
        have p0 := hc k (by omega)
        rw [hz] at p0
        clear hc hz hdr
        have CZ := Hid.mk (CA.out z)
        cases hg : btw z 0 ((n : Int) - 1)
        · rw [hg, Bool.false_and] at hs
          simp only [hg] at CZ
          have HS := Hid.mk hs
          clear hs hg
          go_wp2_with fail
          refine (CZ.out _).mono ?_
          rintro e wq ⟨rfl, rfl⟩
          go_wp2
          go_ret
          exact ⟨ret_int (by rw [← HR.out, HS.out]; rfl), b1⟩
        · rw [hg, Bool.true_and] at hs
          simp only [hg] at CZ
          have HS := Hid.mk hs
          clear hs hg
          go_wp2_with fail
          refine (CZ.out _).mono ?_
          rintro e wq ⟨rfl, rfl⟩
          go_wp2
          go_roundw
          case rel => exact ⟨k + 1, by omega, by go_num, HS.out.symm, by trivial⟩
          case measure => simp [intOf]; omega
      · have hkn : k = m := by omega
        subst hkn
        rw [List.drop_of_length_le (by omega)] at hdr
        have HS := Hid.mk hdr
        clear hdr
        go_wp2
        go_ret
        exact ⟨ret_int (by rw [← HR.out, ← HS.out]; rfl), b1⟩
  · have HE : aqC xs ps = tfC xs := by
      rcases HW with ⟨_, h⟩ | ⟨h, _⟩ | ⟨h, _⟩
      · exact h
      · exact absurd h h1
      · exact absurd h h1
    rw [HE]
    have hne : (tfC xs != 0) = true := by simp [h1]
    generalize tfC xs = kc at *
    clear HW HE h1
    go_enter Try.func74, Try.ntmps74
    go_wp2_with fail
    refine CT.out.mono ?_
    rintro e w1 ⟨rfl, b1⟩
    go_wp2
    go_ret
    exact ⟨rfl, b1⟩

set_option maxHeartbeats 2000000 in
theorem l9List_ok (base Q : Nat) (m : Mk) (c : Option Addr) (k d : Nat) (zs : List Int) (w : World) (h : MkB w base Q m) (hm : m.l.length ≤ 400) (hz : Rd .i64 w c zs) (hk : zs.length = k) (h1 : 1 ≤ k) (hkx : k ≤ 2000000) (hQ : ∀ b, c = some b → b.block ≠ Q) :
    Calls Try.prog 118 #[.pointer (some ⟨Q, 0, none⟩), .slice c k d] w fun e w' => e = .returned (.int .i64 (mkL m zs).2) ∧ MkB w' base Q (mkL m zs).1 ∧ w.grownBy w' (some Q) := by
  have C2 := Hid.mk (fun m o a b w h hm => l9Two_ok base Q m o a b w h hm)
  obtain ⟨j, rfl⟩ : ∃ j, k = j + 1 := ⟨k - 1, by omega⟩
  obtain ⟨y, hy⟩ : ∃ y, zs.getD j 0 = y := ⟨_, rfl⟩
  have hlast := mkL_last m zs j (by omega) hy
  have HZ := Hid.mk hz
  rcases hz with hz | ⟨b1, o1, rfl, hc⟩
  · simp [hz] at hk
  have hb1 : b1 ≠ Q := hQ _ rfl
  have p0 := hc j (by omega)
  rw [hy] at p0
  clear hc hy hQ
  have hj1 : ((j + 1 : Nat) : Int) - 1 = (j : Int) := by omega
  have hji : (j : Int) < ((j + 1 : Nat) : Int) := by omega
  have hjn : j < j + 1 := by omega
  go_enter Try.func118, Try.ntmps118
  go_wp2
  go_loopw [5, 6] (fun t i wr => ∃ p : Nat, p ≤ j ∧ i = .int .i64 ((p : Int) - 1) ∧ t = .int .i64 (mkL m (zs.drop p)).2 ∧ MkB wr base Q (mkL m (zs.drop p)).1 ∧ w.grownBy wr (some Q)) (fun _ i _ => (intOf i + 1).toNat)
  case atStart => exact ⟨j, Nat.le_refl _, by go_num, by rw [hlast], by rw [hlast]; exact h, World.grownBy.refl _ _⟩
  case round =>
    clear p0 hlast
    obtain ⟨p, hp, rfl, rfl, M, G⟩ := hrel
    by_cases hp0 : p = 0
    · subst hp0
      have hn1 : ¬ (0 : Int) ≤ ((0 : Nat) : Int) - 1 := by omega
      have M' := Hid.mk M
      have G' := Hid.mk G
      clear M G
      go_wp2
      go_ret
      exact ⟨rfl, M'.out, G'.out⟩
    · obtain ⟨q, rfl⟩ : ∃ q, p = q + 1 := ⟨p - 1, by omega⟩
      obtain ⟨z, hzq⟩ : ∃ z, zs.getD q 0 = z := ⟨_, rfl⟩
      have hst := mkL_drop m zs q (by omega) hzq
      have hq1 : ((q + 1 : Nat) : Int) - 1 = (q : Int) := by omega
      have hq2 : (q : Int) < ((j + 1 : Nat) : Int) := by omega
      have hq3 : q < j + 1 := by omega
      have hml : (mkL m (zs.drop (q + 1))).1.l.length ≤ 400 := mkL_len hm _
      rcases HZ.out.grown G (.inr (fun b hb e => by simp only [Option.some.injEq] at hb e; subst hb; exact hb1 e.symm)) with h9 | ⟨b2, o2, e2, hc⟩
      · simp [h9] at hk
      simp only [Option.some.injEq, Addr.mk.injEq, and_true] at e2
      obtain ⟨rfl, rfl⟩ := e2
      have p1 := hc q (by omega)
      rw [hzq] at p1
      clear hc hzq hp0
      have CC := Hid.mk (fun w h => C2.out (mkL m (zs.drop (q + 1))).1 3 z (mkL m (zs.drop (q + 1))).2 w h hml)
      have e1 : mkL m (zs.drop q) = mk2 (mkL m (zs.drop (q + 1))).1 3 z (mkL m (zs.drop (q + 1))).2 := hst
      have HE := Hid.mk e1
      have G' := Hid.mk G
      clear hst e1 G
      generalize (mkL m (zs.drop (q + 1))).2 = v at *
      generalize (mkL m (zs.drop (q + 1))).1 = mm at *
      rw [hq1]
      go_wp2_with fail
      refine (CC.out _ M).mono ?_
      rintro e w2 ⟨rfl, M2, G2⟩
      have M' := Hid.mk M2
      have GG := Hid.mk (grownBy_trans G'.out G2)
      clear M M2 G2 G'
      go_wp2
      go_roundw
      case rel => exact ⟨q, by omega, by first | rfl | go_num, by rw [HE.out], by rw [HE.out]; exact M'.out, GG.out⟩
      case measure => simp [intOf]

set_option maxRecDepth 20000 in
set_option maxHeartbeats 4000000 in
theorem l9Names_ok (base Q : Nat) (m : Mk) (c : Option Addr) (k d : Nat) (ns : List Int) (w : World) (h : MkB w base Q m) (hm : m.l.length ≤ 400) (hz : Rd .i64 w c ns) (hk : ns.length = k) (h1 : 1 ≤ k) (hkx : k ≤ 2000000) (hQ : ∀ b, c = some b → b.block ≠ Q) :
    Calls Try.prog 104 #[.pointer (some ⟨Q, 0, none⟩), .slice c k d] w fun e w' => e = .returned (.int .i64 (mkW m ns).2) ∧ MkB w' base Q (mkW m ns).1 ∧ w.grownBy w' (some Q) := by
  have CN := Hid.mk (fun m n w h hm => l9Name_ok base Q m n w h hm)
  have CL := Hid.mk (fun m c k d zs w h hm hz hk h1 hkx hQ => l9List_ok base Q m c k d zs w h hm hz hk h1 hkx hQ)
  have HZ := Hid.mk hz
  have hQw : Q < w.heap.size := by obtain ⟨_, _, hV, _⟩ := h; exact hV.1
  have OL := Own.litI w []
  have h' := h.kept (belowA w (.cells #[] 2))
  have OL := Hid.mk OL
  have h' := Hid.mk h'
  clear h
  go_enter Try.func104, Try.ntmps104
  go_wp2
  go_loopw [5, 6] (fun t i wr => ∃ (p g e : Nat) (os : List Int), p ≤ k ∧ i = .int .i64 p ∧ t = .slice (some ⟨g, 0, none⟩) p e ∧ (mkNs m (ns.take p)).2 = os ∧ os.length = p ∧ Own .i64 2 wr w.heap.size (some ⟨g, 0, none⟩) e os ∧ MkB wr base Q (mkNs m (ns.take p)).1 ∧ w.grownBy wr (some Q)) (fun _ i _ => k - (intOf i).toNat)
  case atStart => exact ⟨0, _, _, [], Nat.zero_le _, rfl, rfl, rfl, rfl, OL.out, h'.out, Below.grownBy (belowA _ _) _⟩
  case round =>
    clear OL h'
    obtain ⟨p, g, e, os, hp, rfl, rfl, hos, hol, O, M, G⟩ := hrel
    have hml : (mkNs m (ns.take p)).1.l.length ≤ 400 := mkNs_len hm _
    by_cases hlt : p < k
    · obtain ⟨z, hzq⟩ : ∃ z, ns.getD p 0 = z := ⟨_, rfl⟩
      have hst := mkNs_take m ns p (by omega) hzq
      rw [hos] at hst
      have hpi : (p : Int) < (k : Int) := by omega
      rcases HZ.out.grown G (.inr (fun b hb e => hQ b hb (by simpa using e.symm))) with h9 | ⟨b2, o2, rfl, hc⟩
      · simp [h9] at hk; omega
      have p1 := hc p (by omega)
      rw [hzq] at p1
      have OLT := Hid.mk O.lt
      have HQ := Hid.mk hQ
      have HL := Hid.mk hol
      have HG := Hid.mk G
      have hGz := G.size
      have HO := Hid.mk O
      have CC := Hid.mk (fun w h => CN.out (mkNs m (ns.take p)).1 z w h hml)
      have HE1 := Hid.mk (congrArg Prod.fst hst)
      have HE2 := Hid.mk (congrArg Prod.snd hst)
      clear hc hzq hst hos hol hlt G O hQ
      go_wp2_with fail
      refine (CC.out _ M).mono ?_
      rintro e9 w2 ⟨rfl, M2, G2⟩
      generalize mkAt (mkNs m (ns.take p)).1 ⟨1, 0, 0, z⟩ = v at *
      have O2 := HO.out.grown G2 (fun b hb => by have := (OLT.out b hb).1; simp; omega)
      have hG2 := G2.size
      have GG := grownBy_trans HG.out G2
      have bq := belowA w2 (.cells #[.int .i64 v] 2)
      have O3 := Hid.mk (O2.kept bq)
      have M3 := Hid.mk (M2.kept bq)
      have GG3 := Hid.mk (grown_alloc GG (.cells #[.int .i64 v] 2))
      have RL : Hid (Rd .i64 (w2.alloc (.cells #[.int .i64 v] 2)) (some ⟨w2.heap.size, 0, none⟩) [v]) := Hid.mk (.inr ⟨_, _, rfl, fun i hi => by
        have hi0 : i = 0 := by simpa using hi
        subst hi0
        exact (V.new w2 [.int .i64 v] 2).2.1 0 (by simp)⟩)
      have hb4 : w.heap.size ≤ (w2.alloc (.cells #[.int .i64 v] 2)).heap.size := by rw [World.size_alloc]; omega
      have hp6 : p + 1 ≤ 2000000 := by omega
      clear M M2 G2 HG HO O2 bq GG CC
      go_wp2_with (at_builtin; go_loud (refine wpList_kyI _ rfl _ _ rfl w.heap.size g e os p HL.out rfl O3.out ⟨w2.heap.size, 0, none⟩ 1 1 [v] rfl rfl RL.out hp6 hb4 ?_))
      intro g6 e6 w6 O6 hg6
      have hG6 := hg6.size
      have O6' := Hid.mk O6
      have M6 := Hid.mk (M3.out.grownOwn hg6 (fun c d OT b hb => own_not O3.out OT b hb) (by have := (OLT.out ⟨g, 0, none⟩ rfl).1; simp only at this; omega))
      have G6 := Hid.mk (grownOwn9 GG3.out hg6 (OLT.out ⟨g, 0, none⟩ rfl).1)
      have HL6 : Hid ((os ++ [v]).length = p + 1) := Hid.mk (by rw [List.length_append, HL.out]; rfl)
      clear O6 hg6 O3 M3 GG3 RL
      go_wp2
      go_roundw
      case rel => exact ⟨p + 1, g6, e6, os ++ [v], by omega, by go_num, rfl, HE2.out, HL6.out, O6'.out, by rw [HE1.out]; exact M6.out, G6.out⟩
      case measure => simp [intOf]; omega
    · have hpk : p = k := by omega
      subst hpk
      rw [List.take_of_length_le (by omega)] at hos hml M
      have OLT := Hid.mk O.lt
      have CC := Hid.mk (fun w h hz hQ => CL.out (mkNs m ns).1 (some ⟨g, 0, none⟩) p e os w h hml hz hol h1 hkx hQ)
      have HG := Hid.mk G
      have HO := Hid.mk O.rd
      have hqn : ∀ b : Addr, (some ⟨g, 0, none⟩ : Option Addr) = some b → b.block ≠ Q := fun b hb => by have := (OLT.out b hb).1; omega
      have HE : Hid (mkW m ns = mkL (mkNs m ns).1 os) := Hid.mk (by unfold mkW; rw [hos])
      have HQN := Hid.mk hqn
      clear hos hol hml G O hqn hQ
      go_wp2_with fail
      refine (CC.out _ M HO.out HQN.out).mono ?_
      rintro e9 w2 ⟨rfl, M2, G2⟩
      have M2' := Hid.mk M2
      have GG := Hid.mk (grownBy_trans HG.out G2)
      clear M M2 G2
      go_wp2
      go_ret
      exact ⟨ret_int (by rw [HE.out]), by rw [HE.out]; exact M2'.out, GG.out⟩

end Go.Proofs.Ythkmoabkeblbjaa
