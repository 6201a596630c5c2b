/- Put together: KyC, KyD, KyE. -/
import Derived.Test.YthkmoabkeblbjaaMd
import Derived.Test.YthkmoabkeblbjaaMb
import Derived.Test.YthkmoabkeblbjaaIntA
import Derived.Deep.AppendLies
import Derived.Test.YthkmoabkeblbjaaFill

/- The model's table that grows: lists and names put into it; places asked. -/
namespace Go.Proofs.Ythkmoabkeblbjaa
open Go.RowKit

/-- Numbers from wherever put behind an own row. -/
theorem wp_kyI {o : Oper} {a : Act} {K : Act → World → Prop} {Q : Exit → Act → World → Prop} (w : World) (s x : Operand)
    (ho : o.op = .call { callee := .builtin .append, args := #[s, x], argTypes := #[37, 37] })
    (base : Nat) (g d : Nat) (xs : List Int) (n : Nat) (hn : xs.length = n) (hs : a.eval s = .slice (some ⟨g, 0, none⟩) n d) (hown : Own .i64 2 w base (some ⟨g, 0, none⟩) d xs)
    (ad : Addr) (m cc : Nat) (zs : List Int) (hm : zs.length = m) (hx : a.eval x = .slice (some ad) m cc) (hr : Rd .i64 w (some ad) zs) (hlen : n + m ≤ 2000000) (hbase : base ≤ w.heap.size)
    (h : ∀ g' d' w', Own .i64 2 w' base (some ⟨g', 0, none⟩) d' (xs ++ zs) → w.grownBy w' (some g) → K (a.put o.dst (.slice (some ⟨g', 0, none⟩) (n + m) d')) w') : o.wp Try.prog a w K Q := by
  subst hn hm
  obtain ⟨i, hi, hz, hsz, hby⟩ := info_parts Try.infoI64
  refine wp_append_own w s x 37 ho base 2 i _ 1 8 Try.underlying37 hi hz hsz hby (by rfl) (by decide) (.slice (some ⟨g, 0, none⟩) xs.length d) xs.length (xs.map (Value.int .i64)) hs hown ad zs.length cc (zs.map (Value.int .i64)) hx (by simp) (fun j u hj => ?_) (ints_oneCell _ _) (by unfold maxLen; omega) (by omega) hbase fun v' w' h1 h2 h3 => ?_
  · rcases hr with h0 | ⟨b, off, h0, hcell⟩
    · subst h0; simp at hj
    · simp only [Option.some.injEq] at h0
      subst h0
      have hj' : j < zs.length := by
        rcases Nat.lt_or_ge j zs.length with h | h
        · exact h
        · simp [List.getElem?_eq_none h] at hj
      rw [Addr.add_lit, hcell j hj']
      simp [hj'] at hj
      subst hj
      simp [List.getD, hj']
  · have e1 : xs.map (Value.int .i64) ++ zs.map (Value.int .i64) = (xs ++ zs).map (Value.int .i64) := by simp
    rw [e1] at h1
    rcases h1.2 with ⟨h4, _⟩ | ⟨g', cap', cur, h4, _⟩
    · rw [h3] at h4; simp at h4
    · subst h4
      refine h g' cap' w' ?_ h2
      unfold Own
      rw [List.length_append]
      exact h1

theorem step_kyI {ops : Array Oper} {o : Oper} {a : Act} {K : Act → World → Prop} {Q : Exit → Act → World → Prop} {E : Prop} (w : World) (hgd : o.guard = none) (s x : Operand)
    (ho : o.op = .call { callee := .builtin .append, args := #[s, x], argTypes := #[37, 37] })
    (base : Nat) (g d : Nat) (xs : List Int) (n : Nat) (hn : xs.length = n) (hs : a.eval s = .slice (some ⟨g, 0, none⟩) n d) (hown : Own .i64 2 w base (some ⟨g, 0, none⟩) d xs)
    (ad : Addr) (m cc : Nat) (zs : List Int) (hm : zs.length = m) (hx : a.eval x = .slice (some ad) m cc) (hr : Rd .i64 w (some ad) zs) (hlen : n + m ≤ 2000000) (hbase : base ≤ w.heap.size)
    (h : ∀ g' d' w', Own .i64 2 w' base (some ⟨g', 0, none⟩) d' (xs ++ zs) → w.grownBy w' (some g) → K (a.put o.dst (.slice (some ⟨g', 0, none⟩) (n + m) d')) w') :
    if Region.wanted o (yielded ops a.tmps) = true then Oper.wp Try.prog o a w K Q else E := by
  have hw : Region.wanted o (yielded ops a.tmps) = true := by simp [Region.wanted, hgd]
  rw [if_pos hw]
  exact wp_kyI w s x ho base g d xs n hn hs hown ad m cc zs hm hx hr hlen hbase h

theorem wpList_kyI {ops : Array Oper} {rest : List Oper} {o : Oper} {a : Act} {Q : Exit → Act → World → Prop} (w : World) (hgd : o.guard = none) (s x : Operand)
    (ho : o.op = .call { callee := .builtin .append, args := #[s, x], argTypes := #[37, 37] })
    (base : Nat) (g d : Nat) (xs : List Int) (n : Nat) (hn : xs.length = n) (hs : a.eval s = .slice (some ⟨g, 0, none⟩) n d) (hown : Own .i64 2 w base (some ⟨g, 0, none⟩) d xs)
    (ad : Addr) (m cc : Nat) (zs : List Int) (hm : zs.length = m) (hx : a.eval x = .slice (some ad) m cc) (hr : Rd .i64 w (some ad) zs) (hlen : n + m ≤ 2000000) (hbase : base ≤ w.heap.size)
    (h : ∀ g' d' w', Own .i64 2 w' base (some ⟨g', 0, none⟩) d' (xs ++ zs) → w.grownBy w' (some g) → wpList Try.prog ops Q rest (a.put o.dst (.slice (some ⟨g', 0, none⟩) (n + m) d')) w') : wpList Try.prog ops Q (o :: rest) a w :=
  wpList_plain hgd fun _ hK => wp_kyI w s x ho base g d xs n hn hs hown ad m cc zs hm hx hr hlen hbase fun g' d' w' h2 h3 => hK _ _ (h g' d' w' h2 h3)


theorem Own.litI (w : World) (zs : List Int) (hm : zs.length ≤ maxLen := by unfold maxLen; simp) : Own .i64 2 (w.alloc (.cells (zs.map (Value.int .i64)).toArray 2)) w.heap.size (some ⟨w.heap.size, 0, none⟩) zs.length zs := by
  have h := World.ownsRow_lit (base := w.heap.size) (e := 2) (size := 1) w (zs.map (Value.int .i64)).toArray zs.length (Nat.le_refl _) hm (by simp)
  simpa [Own] using h

theorem grownOwn9 {w w1 w2 : World} {Q g : Nat} (h : w.grownBy w1 (some Q)) (k : w1.grownBy w2 (some g)) (hg : w.heap.size ≤ g) : w.grownBy w2 (some Q) :=
  ⟨k.os.trans h.os, k.tape.trans h.tape, k.output.trans h.output, Nat.le_trans h.size k.size, fun q hq hne => (k.block q (Nat.lt_of_lt_of_le hq h.size) (fun e => by simp only [Option.some.injEq] at e; omega)).trans (h.block q hq hne)⟩

/-- A row of numbers is no row of terms. -/
theorem own_not {w : World} {b1 b2 : Nat} {g e : Nat} {os : List Int} {c : Option Addr} {d : Nat} {xs : List T4} (h : Own .i64 2 w b1 (some ⟨g, 0, none⟩) e os) (k : OwnTerm w b2 c d xs) : ∀ b, c = some b → b.block ≠ g := by
  intro b hb e9
  rcases h.2 with ⟨hv, _⟩ | ⟨g1, cap1, cur1, hv, _, h1, _⟩
  · simp at hv
  · rcases k.2 with ⟨kv, _⟩ | ⟨g2, cap2, cur2, kv, _, h2, _⟩
    · simp only [Value.slice.injEq] at kv
      rw [hb] at kv
      simp at kv
    · simp only [Value.slice.injEq, Option.some.injEq, Addr.mk.injEq, and_true] at hv
      simp only [Value.slice.injEq] at kv
      rw [hb] at kv
      have k1 := kv.1
      simp only [Option.some.injEq] at k1
      rw [k1] at e9
      simp only at e9
      rw [← hv.1, ← e9, h2] at h1
      simp at h1

theorem MkB.grownOwn {w w' : World} {base Q : Nat} {m : Mk} {g : Nat} (h : MkB w base Q m) (hg : w.grownBy w' (some g)) (h1 : ∀ c : Option Addr, ∀ d, OwnTerm w base c d m.l → ∀ b, c = some b → b.block ≠ g) (h2 : g ≠ Q) : MkB w' base Q m := by
  obtain ⟨c, d, V1, O1, h3, h4⟩ := h
  exact ⟨c, d, V1.grownB hg (fun e => h2 e.symm), O1.grown hg (fun b hb e => by simp only [Option.some.injEq] at e; exact h1 c d O1 b hb e.symm), Nat.le_trans h3 hg.size, h4⟩

set_option maxHeartbeats 1000000 in
theorem l9Word_ok (n : Int) (w : World) :
    Calls Try.prog 75 #[.int .i64 n] w fun e w' => e = .returned (.bool (btw n 0 9999)) ∧ w' = w := by
  have CI := Hid.mk (l1In_ok n 0 9999)
  go_enter Try.func75, Try.ntmps75
  go_wp2_with fail
  refine (CI.out _).mono ?_
  rintro e wq ⟨rfl, rfl⟩
  go_wp2
  go_ret
  exact ⟨rfl, rfl⟩

/-- The code of a table and of places. -/
@[irreducible] def aqC (xs : List T4) (ps : List Int) : Int := if tfC xs = 0 then (if (ps.all fun z => btw z 0 ((xs.length : Int) - 1)) = true then 0 else 3) else tfC xs

theorem aq_ways (xs : List T4) (ps : List Int) : (tfC xs ≠ 0 ∧ aqC xs ps = tfC xs) ∨ (tfC xs = 0 ∧ (ps.all fun z => btw z 0 ((xs.length : Int) - 1)) = false ∧ aqC xs ps = 3) ∨ (tfC xs = 0 ∧ (ps.all fun z => btw z 0 ((xs.length : Int) - 1)) = true ∧ aqC xs ps = 0) := by
  unfold aqC
  by_cases h : tfC xs = 0
  · rw [if_pos h]
    cases h2 : ps.all fun z => btw z 0 ((xs.length : Int) - 1)
    · exact .inr (.inl ⟨h, rfl, by simp⟩)
    · exact .inr (.inr ⟨h, rfl, by simp⟩)
  · exact .inl ⟨h, by rw [if_neg h]⟩

theorem all_drop (p : Int → Bool) (zs : List Int) (k : Nat) (h : k < zs.length) {z : Int} (hz : zs.getD k 0 = z) : (zs.drop k).all p = (p z && (zs.drop (k + 1)).all p) := by
  rw [List.drop_eq_getElem_cons h, List.all_cons]
  have : zs[k] = z := by rw [← hz]; simp [List.getD, h]
  rw [this]

set_option maxHeartbeats 2000000 in
theorem l9Asked_ok (a : Option Addr) (n ca : Nat) (xs : List T4) (b : Option Addr) (m cb : Nat) (ps : List Int) (w : World) (ha : RdTerm w a xs) (hp : Rd .i64 w b ps) (hn : xs.length = n) (hm : ps.length = m) (hx : n ≤ maxLen) (hca : n ≤ ca) (hmx : m ≤ 2000000) :
    Calls Try.prog 74 #[.slice a n ca, .slice b m cb] w fun e w' => e = .returned (.int .i64 (aqC xs ps)) ∧ Below w.heap.size w w' := by
  have CT := Hid.mk (specTermsFault_ok a n ca xs w ha hn hx hca)
  have CA := Hid.mk (fun q w => l5At_ok a n ca q w hx)
  have HW := aq_ways xs ps
  rw [hn] at HW
  clear ha
  by_cases h1 : tfC xs = 0
  · have HE : aqC xs ps = if (ps.all fun z => btw z 0 ((n : Int) - 1)) = true then 0 else 3 := by
      rcases HW with ⟨h, _⟩ | ⟨_, h2, hr⟩ | ⟨_, h2, hr⟩
      · exact absurd h1 h
      · rw [hr, h2]; rfl
      · rw [hr, h2]; rfl
    rw [HE]
    rw [h1] at CT
    obtain ⟨r, hr⟩ : ∃ r, (if (ps.all fun z => btw z 0 ((n : Int) - 1)) = true then (0 : Int) else 3) = r := ⟨_, rfl⟩
    rw [hr]
    have HR := Hid.mk hr
    clear HW HE h1 hr
    go_enter Try.func74, Try.ntmps74
    go_wp2_with fail
    refine CT.out.mono ?_
    rintro e w1 ⟨rfl, b1⟩
    replace hp := hp.kept b1
    go_wp2
    go_loopw [6] (fun i wr => ∃ k : Nat, k ≤ m ∧ i = .int .i64 k ∧ ((ps.drop k).all fun z => btw z 0 ((n : Int) - 1)) = (ps.all fun z => btw z 0 ((n : Int) - 1)) ∧ wr = w1) (fun i _ => m - (intOf i).toNat)
    case atStart => exact ⟨0, Nat.zero_le _, rfl, rfl, rfl⟩
    case round =>
      obtain ⟨k, hk, rfl, hdr, rfl⟩ := hrel
      by_cases hlt : k < m
      · obtain ⟨z, hz⟩ : ∃ z, ps.getD k 0 = z := ⟨_, rfl⟩
        have hki : (k : Int) < (m : Int) := by omega
        have hs := all_drop (fun z => btw z 0 ((n : Int) - 1)) ps k (by omega) hz
        rw [hdr] at hs
        rcases hp with hp | ⟨b2, o2, rfl, hc⟩
        · simp [hp] at hm; omega
        have p0 := hc k (by omega)
        rw [hz] at p0
        clear hc hz hdr
        have CZ := Hid.mk (CA.out z)
        cases hg : btw z 0 ((n : Int) - 1)
        · rw [hg, Bool.false_and] at hs
          simp only [hg] at CZ
          have HS := Hid.mk hs
          clear hs hg
          go_wp2_with fail
          refine (CZ.out _).mono ?_
          rintro e wq ⟨rfl, rfl⟩
          go_wp2
          go_ret
          exact ⟨ret_int (by rw [← HR.out, HS.out]; rfl), b1⟩
        · rw [hg, Bool.true_and] at hs
          simp only [hg] at CZ
          have HS := Hid.mk hs
          clear hs hg
          go_wp2_with fail
          refine (CZ.out _).mono ?_
          rintro e wq ⟨rfl, rfl⟩
          go_wp2
          go_roundw
          case rel => exact ⟨k + 1, by omega, by go_num, HS.out.symm, by trivial⟩
          case measure => simp [intOf]; omega
      · have hkn : k = m := by omega
        subst hkn
        rw [List.drop_of_length_le (by omega)] at hdr
        have HS := Hid.mk hdr
        clear hdr
        go_wp2
        go_ret
        exact ⟨ret_int (by rw [← HR.out, ← HS.out]; rfl), b1⟩
  · have HE : aqC xs ps = tfC xs := by
      rcases HW with ⟨_, h⟩ | ⟨h, _⟩ | ⟨h, _⟩
      · exact h
      · exact absurd h h1
      · exact absurd h h1
    rw [HE]
    have hne : (tfC xs != 0) = true := by simp [h1]
    generalize tfC xs = kc at *
    clear HW HE h1
    go_enter Try.func74, Try.ntmps74
    go_wp2_with fail
    refine CT.out.mono ?_
    rintro e w1 ⟨rfl, b1⟩
    go_wp2
    go_ret
    exact ⟨rfl, b1⟩

set_option maxHeartbeats 2000000 in
theorem l9List_ok (base Q : Nat) (m : Mk) (c : Option Addr) (k d : Nat) (zs : List Int) (w : World) (h : MkB w base Q m) (hm : m.l.length ≤ 400) (hz : Rd .i64 w c zs) (hk : zs.length = k) (h1 : 1 ≤ k) (hkx : k ≤ 2000000) (hQ : ∀ b, c = some b → b.block ≠ Q) :
    Calls Try.prog 118 #[.pointer (some ⟨Q, 0, none⟩), .slice c k d] w fun e w' => e = .returned (.int .i64 (mkL m zs).2) ∧ MkB w' base Q (mkL m zs).1 ∧ w.grownBy w' (some Q) := by
  have C2 := Hid.mk (fun m o a b w h hm => l9Two_ok base Q m o a b w h hm)
  obtain ⟨j, rfl⟩ : ∃ j, k = j + 1 := ⟨k - 1, by omega⟩
  obtain ⟨y, hy⟩ : ∃ y, zs.getD j 0 = y := ⟨_, rfl⟩
  have hlast := mkL_last m zs j (by omega) hy
  have HZ := Hid.mk hz
  rcases hz with hz | ⟨b1, o1, rfl, hc⟩
  · simp [hz] at hk
  have hb1 : b1 ≠ Q := hQ _ rfl
  have p0 := hc j (by omega)
  rw [hy] at p0
  clear hc hy hQ
  have hj1 : ((j + 1 : Nat) : Int) - 1 = (j : Int) := by omega
  have hji : (j : Int) < ((j + 1 : Nat) : Int) := by omega
  have hjn : j < j + 1 := by omega
  go_enter Try.func118, Try.ntmps118
  go_wp2
  go_loopw [5, 6] (fun t i wr => ∃ p : Nat, p ≤ j ∧ i = .int .i64 ((p : Int) - 1) ∧ t = .int .i64 (mkL m (zs.drop p)).2 ∧ MkB wr base Q (mkL m (zs.drop p)).1 ∧ w.grownBy wr (some Q)) (fun _ i _ => (intOf i + 1).toNat)
  case atStart => exact ⟨j, Nat.le_refl _, by go_num, by rw [hlast], by rw [hlast]; exact h, World.grownBy.refl _ _⟩
  case round =>
    clear p0 hlast
    obtain ⟨p, hp, rfl, rfl, M, G⟩ := hrel
    by_cases hp0 : p = 0
    · subst hp0
      have hn1 : ¬ (0 : Int) ≤ ((0 : Nat) : Int) - 1 := by omega
      have M' := Hid.mk M
      have G' := Hid.mk G
      clear M G
      go_wp2
      go_ret
      exact ⟨rfl, M'.out, G'.out⟩
    · obtain ⟨q, rfl⟩ : ∃ q, p = q + 1 := ⟨p - 1, by omega⟩
      obtain ⟨z, hzq⟩ : ∃ z, zs.getD q 0 = z := ⟨_, rfl⟩
      have hst := mkL_drop m zs q (by omega) hzq
      have hq1 : ((q + 1 : Nat) : Int) - 1 = (q : Int) := by omega
      have hq2 : (q : Int) < ((j + 1 : Nat) : Int) := by omega
      have hq3 : q < j + 1 := by omega
      have hml : (mkL m (zs.drop (q + 1))).1.l.length ≤ 400 := mkL_len hm _
      rcases HZ.out.grown G (.inr (fun b hb e => by simp only [Option.some.injEq] at hb e; subst hb; exact hb1 e.symm)) with h9 | ⟨b2, o2, e2, hc⟩
      · simp [h9] at hk
      simp only [Option.some.injEq, Addr.mk.injEq, and_true] at e2
      obtain ⟨rfl, rfl⟩ := e2
      have p1 := hc q (by omega)
      rw [hzq] at p1
      clear hc hzq hp0
      have CC := Hid.mk (fun w h => C2.out (mkL m (zs.drop (q + 1))).1 3 z (mkL m (zs.drop (q + 1))).2 w h hml)
      have e1 : mkL m (zs.drop q) = mk2 (mkL m (zs.drop (q + 1))).1 3 z (mkL m (zs.drop (q + 1))).2 := hst
      have HE := Hid.mk e1
      have G' := Hid.mk G
      clear hst e1 G
      generalize (mkL m (zs.drop (q + 1))).2 = v at *
      generalize (mkL m (zs.drop (q + 1))).1 = mm at *
      rw [hq1]
      go_wp2_with fail
      refine (CC.out _ M).mono ?_
      rintro e w2 ⟨rfl, M2, G2⟩
      have M' := Hid.mk M2
      have GG := Hid.mk (grownBy_trans G'.out G2)
      clear M M2 G2 G'
      go_wp2
      go_roundw
      case rel => exact ⟨q, by omega, by first | rfl | go_num, by rw [HE.out], by rw [HE.out]; exact M'.out, GG.out⟩
      case measure => simp [intOf]

set_option maxRecDepth 20000 in
set_option maxHeartbeats 4000000 in
theorem l9Names_ok (base Q : Nat) (m : Mk) (c : Option Addr) (k d : Nat) (ns : List Int) (w : World) (h : MkB w base Q m) (hm : m.l.length ≤ 400) (hz : Rd .i64 w c ns) (hk : ns.length = k) (h1 : 1 ≤ k) (hkx : k ≤ 2000000) (hQ : ∀ b, c = some b → b.block ≠ Q) :
    Calls Try.prog 104 #[.pointer (some ⟨Q, 0, none⟩), .slice c k d] w fun e w' => e = .returned (.int .i64 (mkW m ns).2) ∧ MkB w' base Q (mkW m ns).1 ∧ w.grownBy w' (some Q) := by
  have CN := Hid.mk (fun m n w h hm => l9Name_ok base Q m n w h hm)
  have CL := Hid.mk (fun m c k d zs w h hm hz hk h1 hkx hQ => l9List_ok base Q m c k d zs w h hm hz hk h1 hkx hQ)
  have HZ := Hid.mk hz
  have hQw : Q < w.heap.size := by obtain ⟨_, _, hV, _⟩ := h; exact hV.1
  have OL := Own.litI w []
  have h' := h.kept (belowA w (.cells #[] 2))
  have OL := Hid.mk OL
  have h' := Hid.mk h'
  clear h
  go_enter Try.func104, Try.ntmps104
  go_wp2
  go_loopw [5, 6] (fun t i wr => ∃ (p g e : Nat) (os : List Int), p ≤ k ∧ i = .int .i64 p ∧ t = .slice (some ⟨g, 0, none⟩) p e ∧ (mkNs m (ns.take p)).2 = os ∧ os.length = p ∧ Own .i64 2 wr w.heap.size (some ⟨g, 0, none⟩) e os ∧ MkB wr base Q (mkNs m (ns.take p)).1 ∧ w.grownBy wr (some Q)) (fun _ i _ => k - (intOf i).toNat)
  case atStart => exact ⟨0, _, _, [], Nat.zero_le _, rfl, rfl, rfl, rfl, OL.out, h'.out, Below.grownBy (belowA _ _) _⟩
  case round =>
    clear OL h'
    obtain ⟨p, g, e, os, hp, rfl, rfl, hos, hol, O, M, G⟩ := hrel
    have hml : (mkNs m (ns.take p)).1.l.length ≤ 400 := mkNs_len hm _
    by_cases hlt : p < k
    · obtain ⟨z, hzq⟩ : ∃ z, ns.getD p 0 = z := ⟨_, rfl⟩
      have hst := mkNs_take m ns p (by omega) hzq
      rw [hos] at hst
      have hpi : (p : Int) < (k : Int) := by omega
      rcases HZ.out.grown G (.inr (fun b hb e => hQ b hb (by simpa using e.symm))) with h9 | ⟨b2, o2, rfl, hc⟩
      · simp [h9] at hk; omega
      have p1 := hc p (by omega)
      rw [hzq] at p1
      have OLT := Hid.mk O.lt
      have HQ := Hid.mk hQ
      have HL := Hid.mk hol
      have HG := Hid.mk G
      have hGz := G.size
      have HO := Hid.mk O
      have CC := Hid.mk (fun w h => CN.out (mkNs m (ns.take p)).1 z w h hml)
      have HE1 := Hid.mk (congrArg Prod.fst hst)
      have HE2 := Hid.mk (congrArg Prod.snd hst)
      clear hc hzq hst hos hol hlt G O hQ
      go_wp2_with fail
      refine (CC.out _ M).mono ?_
      rintro e9 w2 ⟨rfl, M2, G2⟩
      generalize mkAt (mkNs m (ns.take p)).1 ⟨1, 0, 0, z⟩ = v at *
      have O2 := HO.out.grown G2 (fun b hb => by have := (OLT.out b hb).1; simp; omega)
      have hG2 := G2.size
      have GG := grownBy_trans HG.out G2
      have bq := belowA w2 (.cells #[.int .i64 v] 2)
      have O3 := Hid.mk (O2.kept bq)
      have M3 := Hid.mk (M2.kept bq)
      have GG3 := Hid.mk (grown_alloc GG (.cells #[.int .i64 v] 2))
      have RL : Hid (Rd .i64 (w2.alloc (.cells #[.int .i64 v] 2)) (some ⟨w2.heap.size, 0, none⟩) [v]) := Hid.mk (.inr ⟨_, _, rfl, fun i hi => by
        have hi0 : i = 0 := by simpa using hi
        subst hi0
        exact (V.new w2 [.int .i64 v] 2).2.1 0 (by simp)⟩)
      have hb4 : w.heap.size ≤ (w2.alloc (.cells #[.int .i64 v] 2)).heap.size := by rw [World.size_alloc]; omega
      have hp6 : p + 1 ≤ 2000000 := by omega
      clear M M2 G2 HG HO O2 bq GG CC
      go_wp2_with (at_builtin; go_loud (refine wpList_kyI _ rfl _ _ rfl w.heap.size g e os p HL.out rfl O3.out ⟨w2.heap.size, 0, none⟩ 1 1 [v] rfl rfl RL.out hp6 hb4 ?_))
      intro g6 e6 w6 O6 hg6
      have hG6 := hg6.size
      have O6' := Hid.mk O6
      have M6 := Hid.mk (M3.out.grownOwn hg6 (fun c d OT b hb => own_not O3.out OT b hb) (by have := (OLT.out ⟨g, 0, none⟩ rfl).1; simp only at this; omega))
      have G6 := Hid.mk (grownOwn9 GG3.out hg6 (OLT.out ⟨g, 0, none⟩ rfl).1)
      have HL6 : Hid ((os ++ [v]).length = p + 1) := Hid.mk (by rw [List.length_append, HL.out]; rfl)
      clear O6 hg6 O3 M3 GG3 RL
      go_wp2
      go_roundw
      case rel => exact ⟨p + 1, g6, e6, os ++ [v], by omega, by go_num, rfl, HE2.out, HL6.out, O6'.out, by rw [HE1.out]; exact M6.out, G6.out⟩
      case measure => simp [intOf]; omega
    · have hpk : p = k := by omega
      subst hpk
      rw [List.take_of_length_le (by omega)] at hos hml M
      have OLT := Hid.mk O.lt
      have CC := Hid.mk (fun w h hz hQ => CL.out (mkNs m ns).1 (some ⟨g, 0, none⟩) p e os w h hml hz hol h1 hkx hQ)
      have HG := Hid.mk G
      have HO := Hid.mk O.rd
      have hqn : ∀ b : Addr, (some ⟨g, 0, none⟩ : Option Addr) = some b → b.block ≠ Q := fun b hb => by have := (OLT.out b hb).1; omega
      have HE : Hid (mkW m ns = mkL (mkNs m ns).1 os) := Hid.mk (by unfold mkW; rw [hos])
      have HQN := Hid.mk hqn
      clear hos hol hml G O hqn hQ
      go_wp2_with fail
      refine (CC.out _ M HO.out HQN.out).mono ?_
      rintro e9 w2 ⟨rfl, M2, G2⟩
      have M2' := Hid.mk M2
      have GG := Hid.mk (grownBy_trans HG.out G2)
      clear M M2 G2
      go_wp2
      go_ret
      exact ⟨ret_int (by rw [HE.out]), by rw [HE.out]; exact M2'.out, GG.out⟩

end Go.Proofs.Ythkmoabkeblbjaa

/- The model's proofs and children: straight runs of puts. -/
namespace Go.Proofs.Ythkmoabkeblbjaa
open Go.RowKit

theorem MkB.lt {w : World} {base Q : Nat} {m : Mk} (h : MkB w base Q m) : Q < w.heap.size := by
  obtain ⟨_, _, hV, _⟩ := h
  exact hV.1

theorem Rd.litI (w : World) (zs : List Int) : Rd .i64 (w.alloc (.cells (zs.map (Value.int .i64)).toArray 2)) (some ⟨w.heap.size, 0, none⟩) zs := by
  refine .inr ⟨_, _, rfl, fun i hi => ?_⟩
  rw [World.cell?_alloc_at _ _ _ _ rfl]
  simp [List.getD, hi]

theorem ne_lit {w : World} {Q : Nat} (h : Q < w.heap.size) : ∀ b : Addr, (some ⟨w.heap.size, 0, none⟩ : Option Addr) = some b → b.block ≠ Q := by
  intro b hb
  simp only [Option.some.injEq] at hb
  subst hb
  simp only
  omega

/-- The name 9 and the shared secret; the key and the name; a proof. -/
def prA (m : Mk) (shared : Int) : Mk × Int := mk2 (mkPut m ⟨1, 0, 0, 9⟩) 4 shared (mkAt m ⟨1, 0, 0, 9⟩)
def prB (m : Mk) (key id : Int) : Mk × Int := mk2 (mkPut m ⟨1, 0, 0, id⟩) 4 key (mkAt m ⟨1, 0, 0, id⟩)
def prfL (m : Mk) (first nonce key id : Int) : Mk × Int := mkL (prB m key id).1 [first, nonce, (prB m key id).2]
def prP (m : Mk) (shared first nonce key id : Int) : Mk × Int := mk2 (prfL (prA m shared).1 first nonce key id).1 4 (prA m shared).2 (prfL (prA m shared).1 first nonce key id).2

/-- One of two children. -/
def chW (m : Mk) (k ni nr si sr : Int) : Mk × Int := mkL (mkW m [k, si, sr]).1 [ni, nr, (mkW m [k, si, sr]).2]
def chK (m : Mk) (k down ni nr si sr : Int) : Mk × Int := mk2 (chW m k ni nr si sr).1 4 down (chW m k ni nr si sr).2

set_option maxRecDepth 20000 in
set_option maxHeartbeats 4000000 in
theorem l9Proof_ok (base Q : Nat) (m : Mk) (shared first nonce key id : Int) (w : World) (h : MkB w base Q m) (hm : m.l.length ≤ 400) :
    Calls Try.prog 90 #[.pointer (some ⟨Q, 0, none⟩), .int .i64 shared, .int .i64 first, .int .i64 nonce, .int .i64 key, .int .i64 id] w fun e w' => e = .returned (.int .i64 (prP m shared first nonce key id).2) ∧ MkB w' base Q (prP m shared first nonce key id).1 ∧ w.grownBy w' (some Q) := by
  obtain ⟨m1, e1⟩ : ∃ P, mkPut m ⟨1, 0, 0, 9⟩ = P := ⟨_, rfl⟩
  obtain ⟨v1, f1⟩ : ∃ P, mkAt m ⟨1, 0, 0, 9⟩ = P := ⟨_, rfl⟩
  have hm1 : m1.l.length ≤ 400 := by rw [← e1]; exact mkPut_len hm _
  have C1 := Hid.mk (fun w h => l9Name_ok base Q m 9 w h hm)
  simp only [e1, f1] at C1
  obtain ⟨P2, e2⟩ : ∃ P, mk2 m1 4 shared v1 = P := ⟨_, rfl⟩
  have hm2 : P2.1.l.length ≤ 400 := by rw [← e2]; exact mk2_len hm1 _ _ _
  obtain ⟨m2, v2⟩ := P2
  simp only at hm2
  have C2 := Hid.mk (fun w h => l9Two_ok base Q m1 4 shared v1 w h hm1)
  simp only [e2] at C2
  obtain ⟨m3, e3⟩ : ∃ P, mkPut m2 ⟨1, 0, 0, id⟩ = P := ⟨_, rfl⟩
  obtain ⟨v3, f3⟩ : ∃ P, mkAt m2 ⟨1, 0, 0, id⟩ = P := ⟨_, rfl⟩
  have hm3 : m3.l.length ≤ 400 := by rw [← e3]; exact mkPut_len hm2 _
  have C3 := Hid.mk (fun w h => l9Name_ok base Q m2 id w h hm2)
  simp only [e3, f3] at C3
  obtain ⟨P4, e4⟩ : ∃ P, mk2 m3 4 key v3 = P := ⟨_, rfl⟩
  have hm4 : P4.1.l.length ≤ 400 := by rw [← e4]; exact mk2_len hm3 _ _ _
  obtain ⟨m4, v4⟩ := P4
  simp only at hm4
  have C4 := Hid.mk (fun w h => l9Two_ok base Q m3 4 key v3 w h hm3)
  simp only [e4] at C4
  obtain ⟨P6, e6⟩ : ∃ P, mkL m4 [first, nonce, v4] = P := ⟨_, rfl⟩
  have hm6 : P6.1.l.length ≤ 400 := by rw [← e6]; exact mkL_len hm4 _
  obtain ⟨m6, v6⟩ := P6
  simp only at hm6
  have C6 := Hid.mk (fun c w h hz hQ => l9List_ok base Q m4 c 3 3 [first, nonce, v4] w h hm4 hz rfl (by omega) (by omega) hQ)
  simp only [e6] at C6
  obtain ⟨P7, e7⟩ : ∃ P, mk2 m6 4 v2 v6 = P := ⟨_, rfl⟩
  have hm7 : P7.1.l.length ≤ 400 := by rw [← e7]; exact mk2_len hm6 _ _ _
  obtain ⟨m7, v7⟩ := P7
  simp only at hm7
  have C7 := Hid.mk (fun w h => l9Two_ok base Q m6 4 v2 v6 w h hm6)
  simp only [e7] at C7
  have E : prP m shared first nonce key id = (m7, v7) := by simp only [prP, prfL, prA, prB, e1, f1, e2, e3, f3, e4, e6, e7]
  rw [E]
  replace E := Hid.mk E
  clear e1 f1 e2 e3 f3 e4 e6 e7
  have M := h
  have G := World.grownBy.refl w (some Q)
  clear h
  go_enter Try.func90, Try.ntmps90
  go_wp2_with fail
  refine (C1.out _ M).mono ?_
  rintro e w1 ⟨rfl, M1, G1⟩
  replace G := grownBy_trans G G1
  have M := M1
  clear M1 G1
  go_wp2_with fail
  refine (C2.out _ M).mono ?_
  rintro e w2 ⟨rfl, M2, G2⟩
  replace G := grownBy_trans G G2
  have M := M2
  clear M2 G2
  go_wp2_with fail
  refine (C3.out _ M).mono ?_
  rintro e w3 ⟨rfl, M3, G3⟩
  replace G := grownBy_trans G G3
  have M := M3
  clear M3 G3
  go_wp2_with fail
  refine (C4.out _ M).mono ?_
  rintro e w4 ⟨rfl, M4, G4⟩
  replace G := grownBy_trans G G4
  have M := M4
  clear M4 G4
  have hq5 : Q < w4.heap.size := MkB.lt M
  have R5 := Rd.litI w4 [first, nonce, v4]
  replace M := M.kept (belowA w4 (.cells #[.int .i64 first, .int .i64 nonce, .int .i64 v4] 2))
  replace G := grown_alloc G (.cells #[.int .i64 first, .int .i64 nonce, .int .i64 v4] 2)
  have N5 := Hid.mk (ne_lit hq5)
  go_wp2_with fail
  refine (C6.out _ _ M R5 N5.out).mono ?_
  rintro e w6 ⟨rfl, M6, G6⟩
  replace G := grownBy_trans G G6
  have M := M6
  clear M6 G6
  go_wp2_with fail
  refine (C7.out _ M).mono ?_
  rintro e w7 ⟨rfl, M7, G7⟩
  replace G := grownBy_trans G G7
  have M := M7
  clear M7 G7
  have Mf := Hid.mk M
  have Gf := Hid.mk G
  clear M G
  go_wp2
  go_ret
  exact ⟨rfl, Mf.out, Gf.out⟩

set_option maxRecDepth 20000 in
set_option maxHeartbeats 4000000 in
theorem l9Child_ok (base Q : Nat) (m : Mk) (down ni nr si sr : Int) (w : World) (h : MkB w base Q m) (hm : m.l.length ≤ 400) :
    Calls Try.prog 100 #[.pointer (some ⟨Q, 0, none⟩), .int .i64 down, .int .i64 ni, .int .i64 nr, .int .i64 si, .int .i64 sr] w fun e w' => e = .returned (.tuple #[.int .i64 (chK m 4 down ni nr si sr).2, .int .i64 (chK (chK m 4 down ni nr si sr).1 5 down ni nr si sr).2]) ∧ MkB w' base Q (chK (chK m 4 down ni nr si sr).1 5 down ni nr si sr).1 ∧ w.grownBy w' (some Q) := by
  obtain ⟨P2, e2⟩ : ∃ P, mkW m [4, si, sr] = P := ⟨_, rfl⟩
  have hm2 : P2.1.l.length ≤ 400 := by rw [← e2]; exact mkW_len hm _
  obtain ⟨m2, v2⟩ := P2
  simp only at hm2
  have C2 := Hid.mk (fun c w h hz hQ => l9Names_ok base Q m c 3 3 [4, si, sr] w h hm hz rfl (by omega) (by omega) hQ)
  simp only [e2] at C2
  obtain ⟨P4, e4⟩ : ∃ P, mkL m2 [ni, nr, v2] = P := ⟨_, rfl⟩
  have hm4 : P4.1.l.length ≤ 400 := by rw [← e4]; exact mkL_len hm2 _
  obtain ⟨m4, v4⟩ := P4
  simp only at hm4
  have C4 := Hid.mk (fun c w h hz hQ => l9List_ok base Q m2 c 3 3 [ni, nr, v2] w h hm2 hz rfl (by omega) (by omega) hQ)
  simp only [e4] at C4
  obtain ⟨P5, e5⟩ : ∃ P, mk2 m4 4 down v4 = P := ⟨_, rfl⟩
  have hm5 : P5.1.l.length ≤ 400 := by rw [← e5]; exact mk2_len hm4 _ _ _
  obtain ⟨m5, v5⟩ := P5
  simp only at hm5
  have C5 := Hid.mk (fun w h => l9Two_ok base Q m4 4 down v4 w h hm4)
  simp only [e5] at C5
  obtain ⟨P7, e7⟩ : ∃ P, mkW m5 [5, si, sr] = P := ⟨_, rfl⟩
  have hm7 : P7.1.l.length ≤ 400 := by rw [← e7]; exact mkW_len hm5 _
  obtain ⟨m7, v7⟩ := P7
  simp only at hm7
  have C7 := Hid.mk (fun c w h hz hQ => l9Names_ok base Q m5 c 3 3 [5, si, sr] w h hm5 hz rfl (by omega) (by omega) hQ)
  simp only [e7] at C7
  obtain ⟨P9, e9⟩ : ∃ P, mkL m7 [ni, nr, v7] = P := ⟨_, rfl⟩
  have hm9 : P9.1.l.length ≤ 400 := by rw [← e9]; exact mkL_len hm7 _
  obtain ⟨m9, v9⟩ := P9
  simp only at hm9
  have C9 := Hid.mk (fun c w h hz hQ => l9List_ok base Q m7 c 3 3 [ni, nr, v7] w h hm7 hz rfl (by omega) (by omega) hQ)
  simp only [e9] at C9
  obtain ⟨P10, e10⟩ : ∃ P, mk2 m9 4 down v9 = P := ⟨_, rfl⟩
  have hm10 : P10.1.l.length ≤ 400 := by rw [← e10]; exact mk2_len hm9 _ _ _
  obtain ⟨m10, v10⟩ := P10
  simp only at hm10
  have C10 := Hid.mk (fun w h => l9Two_ok base Q m9 4 down v9 w h hm9)
  simp only [e10] at C10
  have E1 : (chK m 4 down ni nr si sr).2 = v5 := by simp only [chK, chW, e2, e4, e5]
  have E2 : chK (chK m 4 down ni nr si sr).1 5 down ni nr si sr = (m10, v10) := by simp only [chK, chW, e2, e4, e5, e7, e9, e10]
  rw [E1, E2]
  clear E1 E2 e2 e4 e5 e7 e9 e10
  have M := h
  have G := World.grownBy.refl w (some Q)
  clear h
  go_enter Try.func100, Try.ntmps100
  have hq1 : Q < w.heap.size := MkB.lt M
  have R1 := Rd.litI w [4, si, sr]
  replace M := M.kept (belowA w (.cells #[.int .i64 4, .int .i64 si, .int .i64 sr] 2))
  replace G := grown_alloc G (.cells #[.int .i64 4, .int .i64 si, .int .i64 sr] 2)
  have N1 := Hid.mk (ne_lit hq1)
  go_wp2_with fail
  refine (C2.out _ _ M R1 N1.out).mono ?_
  rintro e w2 ⟨rfl, M2, G2⟩
  replace G := grownBy_trans G G2
  have M := M2
  clear M2 G2
  have hq3 : Q < w2.heap.size := MkB.lt M
  have R3 := Rd.litI w2 [ni, nr, v2]
  replace M := M.kept (belowA w2 (.cells #[.int .i64 ni, .int .i64 nr, .int .i64 v2] 2))
  replace G := grown_alloc G (.cells #[.int .i64 ni, .int .i64 nr, .int .i64 v2] 2)
  have N3 := Hid.mk (ne_lit hq3)
  go_wp2_with fail
  refine (C4.out _ _ M R3 N3.out).mono ?_
  rintro e w4 ⟨rfl, M4, G4⟩
  replace G := grownBy_trans G G4
  have M := M4
  clear M4 G4
  go_wp2_with fail
  refine (C5.out _ M).mono ?_
  rintro e w5 ⟨rfl, M5, G5⟩
  replace G := grownBy_trans G G5
  have M := M5
  clear M5 G5
  have hq6 : Q < w5.heap.size := MkB.lt M
  have R6 := Rd.litI w5 [5, si, sr]
  replace M := M.kept (belowA w5 (.cells #[.int .i64 5, .int .i64 si, .int .i64 sr] 2))
  replace G := grown_alloc G (.cells #[.int .i64 5, .int .i64 si, .int .i64 sr] 2)
  have N6 := Hid.mk (ne_lit hq6)
  go_wp2_with fail
  refine (C7.out _ _ M R6 N6.out).mono ?_
  rintro e w7 ⟨rfl, M7, G7⟩
  replace G := grownBy_trans G G7
  have M := M7
  clear M7 G7
  have hq8 : Q < w7.heap.size := MkB.lt M
  have R8 := Rd.litI w7 [ni, nr, v7]
  replace M := M.kept (belowA w7 (.cells #[.int .i64 ni, .int .i64 nr, .int .i64 v7] 2))
  replace G := grown_alloc G (.cells #[.int .i64 ni, .int .i64 nr, .int .i64 v7] 2)
  have N8 := Hid.mk (ne_lit hq8)
  go_wp2_with fail
  refine (C9.out _ _ M R8 N8.out).mono ?_
  rintro e w9 ⟨rfl, M9, G9⟩
  replace G := grownBy_trans G G9
  have M := M9
  clear M9 G9
  go_wp2_with fail
  refine (C10.out _ M).mono ?_
  rintro e w10 ⟨rfl, M10, G10⟩
  replace G := grownBy_trans G G10
  have M := M10
  clear M10 G10
  have Mf := Hid.mk M
  have Gf := Hid.mk G
  clear M G
  go_wp2
  refine bodyPost_ret (v := .tuple #[.int .i64 v5, .int .i64 v10]) (by simp [results, Try.results100, go_sem]) rfl ⟨rfl, Mf.out, Gf.out⟩

end Go.Proofs.Ythkmoabkeblbjaa

/- MakeProof and MakeChild of the model. -/
namespace Go.Proofs.Ythkmoabkeblbjaa
open Go.RowKit

/-- What comes of a run of puts: the code, the table. -/
def okC (m : Mk) : Int := m.c
def okV (m : Mk) (v : Int) : Int := if m.c = 0 then v else 0
def okL (m : Mk) : List T4 := if m.c = 0 then m.l else []

/-- A proof of whatever numbers. -/
@[irreducible] def mpR (xs : List T4) (shared first nonce key id : Int) : Put :=
  if aqC xs [shared, first, nonce, key] = 0 then (if btw id 0 9999 = true then ⟨(prP ⟨xs, 0⟩ shared first nonce key id).1.c, okV (prP ⟨xs, 0⟩ shared first nonce key id).1 (prP ⟨xs, 0⟩ shared first nonce key id).2, okL (prP ⟨xs, 0⟩ shared first nonce key id).1⟩ else ⟨3, 0, []⟩) else ⟨aqC xs [shared, first, nonce, key], 0, []⟩

theorem mp_ways (xs : List T4) (shared first nonce key id : Int) : (aqC xs [shared, first, nonce, key] ≠ 0 ∧ mpR xs shared first nonce key id = ⟨aqC xs [shared, first, nonce, key], 0, []⟩) ∨ (aqC xs [shared, first, nonce, key] = 0 ∧ btw id 0 9999 = false ∧ mpR xs shared first nonce key id = ⟨3, 0, []⟩) ∨
    (aqC xs [shared, first, nonce, key] = 0 ∧ btw id 0 9999 = true ∧ (prP ⟨xs, 0⟩ shared first nonce key id).1.c ≠ 0 ∧ mpR xs shared first nonce key id = ⟨(prP ⟨xs, 0⟩ shared first nonce key id).1.c, 0, []⟩) ∨
    (aqC xs [shared, first, nonce, key] = 0 ∧ btw id 0 9999 = true ∧ (prP ⟨xs, 0⟩ shared first nonce key id).1.c = 0 ∧ mpR xs shared first nonce key id = ⟨0, (prP ⟨xs, 0⟩ shared first nonce key id).2, (prP ⟨xs, 0⟩ shared first nonce key id).1.l⟩) := by
  unfold mpR okV okL
  by_cases h1 : aqC xs [shared, first, nonce, key] = 0
  · cases h2 : btw id 0 9999
    · exact .inr (.inl ⟨h1, rfl, by simp [h1]⟩)
    · by_cases h3 : (prP ⟨xs, 0⟩ shared first nonce key id).1.c = 0
      · exact .inr (.inr (.inr ⟨h1, rfl, h3, by simp [h1, h3]⟩))
      · exact .inr (.inr (.inl ⟨h1, rfl, h3, by simp [h1, h3]⟩))
  · exact .inl ⟨h1, by simp [h1]⟩

theorem aq_table {xs : List T4} {ps : List Int} (h : aqC xs ps = 0) : tfC xs = 0 := by
  rcases aq_ways xs ps with ⟨h1, h2⟩ | ⟨h1, _, _⟩ | ⟨h1, _, _⟩
  · rw [h2] at h; exact absurd h h1
  · exact h1
  · exact h1

theorem MkB.made {w : World} {base Q : Nat} {xs : List T4} {c : Option Addr} {n d : Nat} (hn : xs.length = n) (V1 : V w Q [.slice c n d, .int .i64 0]) (O : OwnTerm w base c d xs) (hb : base ≤ w.heap.size) (hQ : ∀ b, c = some b → b.block ≠ Q) : MkB w base Q ⟨xs, 0⟩ :=
  ⟨c, d, by rw [hn]; exact V1, O, hb, hQ⟩

set_option maxRecDepth 20000 in
set_option maxHeartbeats 8000000 in
theorem specMakeProof_ok (a : Option Addr) (n ca : Nat) (xs : List T4) (shared first nonce key id : Int) (w : World) (ha : RdTerm w a xs) (hn : xs.length = n) (hx : n ≤ 1048576) (hca : n ≤ ca) (hcn : a = none → ca = 0) :
    Calls Try.prog 26 #[.slice a n ca, .int .i64 shared, .int .i64 first, .int .i64 nonce, .int .i64 key, .int .i64 id] w fun e w' => ∃ c d, e = .returned (.agg #[.int .i64 (mpR xs shared first nonce key id).c, .int .i64 (mpR xs shared first nonce key id).k, .slice c (mpR xs shared first nonce key id).l.length d]) ∧ OwnTerm w' w.heap.size c d (mpR xs shared first nonce key id).l ∧ Below w.heap.size w w' := by
  have CA := Hid.mk (fun b w h hp => l9Asked_ok a n ca xs b 4 4 [shared, first, nonce, key] w h hp hn rfl (by unfold maxLen; omega) hca (by omega))
  have CW := Hid.mk (l9Word_ok id)
  have CC := Hid.mk (fun (h4 : tfC xs = 0) w h => l5Copy_ok a n ca xs w h hn (by have := (tfC_zero h4).1; omega) hcn)
  rcases mp_ways xs shared first nonce key id with ⟨h1, e⟩ | ⟨h1, h2, e⟩ | ⟨h1, h2, h3, e⟩ | ⟨h1, h2, h3, e⟩
  · have hne : (aqC xs [shared, first, nonce, key] != 0) = true := by simpa using h1
    rw [e]
    generalize aqC xs [shared, first, nonce, key] = kc at *
    clear e h1
    go_enter Try.func26, Try.ntmps26
    have B := Below.refl w.heap.size w
    replace ha := ha.kept (belowA w (.cells #[.int .i64 0, .int .i64 0, .slice none 0 0] 33))
    replace B := thenB B (belowA w (.cells #[.int .i64 0, .int .i64 0, .slice none 0 0] 33))
    have VR := V.new w [.int .i64 0, .int .i64 0, .slice none 0 0] 33
    obtain ⟨s_VR, f_VR, z_VR⟩ := VR.open
    have Bo := B
    have RP := Rd.litI (w.alloc (.cells #[.int .i64 0, .int .i64 0, .slice none 0 0] 33)) [shared, first, nonce, key]
    simp only [World.size_alloc] at RP
    have VRa := VR.kept (belowA (w.alloc (.cells #[.int .i64 0, .int .i64 0, .slice none 0 0] 33)) (.cells #[.int .i64 shared, .int .i64 first, .int .i64 nonce, .int .i64 key] 2))
    have Ba := thenB B (belowA (w.alloc (.cells #[.int .i64 0, .int .i64 0, .slice none 0 0] 33)) (.cells #[.int .i64 shared, .int .i64 first, .int .i64 nonce, .int .i64 key] 2))
    have haa := ha.kept (belowA (w.alloc (.cells #[.int .i64 0, .int .i64 0, .slice none 0 0] 33)) (.cells #[.int .i64 shared, .int .i64 first, .int .i64 nonce, .int .i64 key] 2))
    go_wp2_with fail
    refine (CA.out _ _ haa RP).mono ?_
    rintro e9 w1 ⟨rfl, b1⟩
    have S1 := b1.size
    simp only [World.size_alloc] at S1
    replace VR := VRa.kept b1
    replace ha := haa.kept b1
    replace B := thenB Ba b1
    clear RP VRa Ba haa b1
    clear s_VR f_VR z_VR
    obtain ⟨s_VR, f_VR, z_VR⟩ := VR.open
    have Bo := B
    clear s_VR f_VR z_VR
    have VF := Hid.mk (VR.filled [.int .i64 kc, .int .i64 0, .slice none 0 0] rfl)
    have BR := belowCells B (show w.heap.size ≤ w.heap.size by (first | omega | (simp; done) | (simp; omega))) 0 [.int .i64 kc, .int .i64 0, .slice none 0 0]
    have HT := Hid.mk VR.there
    replace BR := Hid.mk BR
    obtain ⟨s_VR, f_VR, z_VR⟩ := VR.open
    go_wp2_with (refine wpList_store_mid rfl 33 _ _ rfl (w.heap.size) 0 #[.int .i64 kc, .int .i64 0, .slice none 0 0] rfl rfl HT.out (by kernel_rfl) (by kernel_rfl) ?_)
    refine bodyPost_ret (v := .agg #[.int .i64 kc, .int .i64 0, .slice none 0 0]) (results_row Try.results26 _ _ (w.heap.size) [.int .i64 kc, .int .i64 0, .slice none 0 0] _ rfl VF.out Try.underlying33 rfl (by kernel_rfl)) rfl ⟨none, 0, rfl, OwnTerm.none, BR.out⟩
  · rw [e]
    rw [h1] at CA
    simp only [h2] at CW
    clear e h1 h2
    go_enter Try.func26, Try.ntmps26
    have B := Below.refl w.heap.size w
    replace ha := ha.kept (belowA w (.cells #[.int .i64 0, .int .i64 0, .slice none 0 0] 33))
    replace B := thenB B (belowA w (.cells #[.int .i64 0, .int .i64 0, .slice none 0 0] 33))
    have VR := V.new w [.int .i64 0, .int .i64 0, .slice none 0 0] 33
    obtain ⟨s_VR, f_VR, z_VR⟩ := VR.open
    have Bo := B
    have RP := Rd.litI (w.alloc (.cells #[.int .i64 0, .int .i64 0, .slice none 0 0] 33)) [shared, first, nonce, key]
    simp only [World.size_alloc] at RP
    have VRa := VR.kept (belowA (w.alloc (.cells #[.int .i64 0, .int .i64 0, .slice none 0 0] 33)) (.cells #[.int .i64 shared, .int .i64 first, .int .i64 nonce, .int .i64 key] 2))
    have Ba := thenB B (belowA (w.alloc (.cells #[.int .i64 0, .int .i64 0, .slice none 0 0] 33)) (.cells #[.int .i64 shared, .int .i64 first, .int .i64 nonce, .int .i64 key] 2))
    have haa := ha.kept (belowA (w.alloc (.cells #[.int .i64 0, .int .i64 0, .slice none 0 0] 33)) (.cells #[.int .i64 shared, .int .i64 first, .int .i64 nonce, .int .i64 key] 2))
    go_wp2_with fail
    refine (CA.out _ _ haa RP).mono ?_
    rintro e9 w1 ⟨rfl, b1⟩
    have S1 := b1.size
    simp only [World.size_alloc] at S1
    replace VR := VRa.kept b1
    replace ha := haa.kept b1
    replace B := thenB Ba b1
    clear RP VRa Ba haa b1
    clear s_VR f_VR z_VR
    obtain ⟨s_VR, f_VR, z_VR⟩ := VR.open
    have Bo := B
    go_wp2_with fail
    refine (CW.out _).mono ?_
    rintro e9 wq ⟨rfl, rfl⟩
    clear s_VR f_VR z_VR
    have VF := Hid.mk (VR.filled [.int .i64 3, .int .i64 0, .slice none 0 0] rfl)
    have BR := belowCells B (show w.heap.size ≤ w.heap.size by (first | omega | (simp; done) | (simp; omega))) 0 [.int .i64 3, .int .i64 0, .slice none 0 0]
    have HT := Hid.mk VR.there
    replace BR := Hid.mk BR
    obtain ⟨s_VR, f_VR, z_VR⟩ := VR.open
    go_wp2_with (refine wpList_store_mid rfl 33 _ _ rfl (w.heap.size) 0 #[.int .i64 3, .int .i64 0, .slice none 0 0] rfl rfl HT.out (by kernel_rfl) (by kernel_rfl) ?_)
    refine bodyPost_ret (v := .agg #[.int .i64 3, .int .i64 0, .slice none 0 0]) (results_row Try.results26 _ _ (w.heap.size) [.int .i64 3, .int .i64 0, .slice none 0 0] _ rfl VF.out Try.underlying33 rfl (by kernel_rfl)) rfl ⟨none, 0, rfl, OwnTerm.none, BR.out⟩
  · rw [e]
    have hl4 : xs.length ≤ 400 := (tfC_zero (aq_table h1)).1
    replace CC := Hid.mk (CC.out (aq_table h1))
    rw [h1] at CA
    simp only [h2] at CW
    have CPf := Hid.mk (fun base Q w h => l9Proof_ok base Q ⟨xs, 0⟩ shared first nonce key id w h hl4)
    generalize prP ⟨xs, 0⟩ shared first nonce key id = P at *
    obtain ⟨⟨pl, pc⟩, pv⟩ := P
    simp only at h3 CPf ⊢
    obtain ⟨k, hk⟩ : ∃ k, pl.length = k := ⟨_, rfl⟩
    have HK := Hid.mk hk
    have hne : (pc != 0) = true := by simpa using h3
    clear e h1 h2 h3 hl4 hk
    go_enter Try.func26, Try.ntmps26
    have B := Below.refl w.heap.size w
    replace ha := ha.kept (belowA w (.cells #[.int .i64 0, .int .i64 0, .slice none 0 0] 33))
    replace B := thenB B (belowA w (.cells #[.int .i64 0, .int .i64 0, .slice none 0 0] 33))
    have VR := V.new w [.int .i64 0, .int .i64 0, .slice none 0 0] 33
    obtain ⟨s_VR, f_VR, z_VR⟩ := VR.open
    have Bo := B
    have RP := Rd.litI (w.alloc (.cells #[.int .i64 0, .int .i64 0, .slice none 0 0] 33)) [shared, first, nonce, key]
    simp only [World.size_alloc] at RP
    have VRa := VR.kept (belowA (w.alloc (.cells #[.int .i64 0, .int .i64 0, .slice none 0 0] 33)) (.cells #[.int .i64 shared, .int .i64 first, .int .i64 nonce, .int .i64 key] 2))
    have Ba := thenB B (belowA (w.alloc (.cells #[.int .i64 0, .int .i64 0, .slice none 0 0] 33)) (.cells #[.int .i64 shared, .int .i64 first, .int .i64 nonce, .int .i64 key] 2))
    have haa := ha.kept (belowA (w.alloc (.cells #[.int .i64 0, .int .i64 0, .slice none 0 0] 33)) (.cells #[.int .i64 shared, .int .i64 first, .int .i64 nonce, .int .i64 key] 2))
    go_wp2_with fail
    refine (CA.out _ _ haa RP).mono ?_
    rintro e9 w1 ⟨rfl, b1⟩
    have S1 := b1.size
    simp only [World.size_alloc] at S1
    replace VR := VRa.kept b1
    replace ha := haa.kept b1
    replace B := thenB Ba b1
    clear RP VRa Ba haa b1
    clear s_VR f_VR z_VR
    obtain ⟨s_VR, f_VR, z_VR⟩ := VR.open
    have Bo := B
    go_wp2_with fail
    refine (CW.out _).mono ?_
    rintro e9 wq ⟨rfl, rfl⟩
    go_wp2_with fail
    refine (CC.out _ ha).mono ?_
    rintro e w2 ⟨c1, d1, rfl, O1, b2⟩
    clear s_VR f_VR z_VR
    have S2 := b2.size
    replace VR := VR.kept b2
    replace ha := ha.kept b2
    replace B := thenB B b2
    clear b2
    obtain ⟨s_VR, f_VR, z_VR⟩ := VR.open
    have Bo := B
    have OLT := Hid.mk O1.lt
    replace VR := VR.kept (belowA w2 (.cells #[.slice c1 n d1, .int .i64 0] 104))
    replace ha := ha.kept (belowA w2 (.cells #[.slice c1 n d1, .int .i64 0] 104))
    replace O1 := O1.kept (belowA w2 (.cells #[.slice c1 n d1, .int .i64 0] 104))
    replace B := thenB B (belowA w2 (.cells #[.slice c1 n d1, .int .i64 0] 104))
    have VQ := V.new w2 [.slice c1 n d1, .int .i64 0] 104
    clear s_VR f_VR z_VR
    obtain ⟨s_VR, f_VR, z_VR⟩ := VR.open
    obtain ⟨s_VQ, f_VQ, z_VQ⟩ := VQ.open
    have Bo := B
    have M := MkB.made hn VQ (O1.mono (show w.heap.size + 1 ≤ _ by have := VR.1; omega)) (by have := VR.1; (try simp only [World.size_alloc] at *); omega) (fun b hb => by have := (OLT.out b hb).2; omega)
    have hQ1 : w.heap.size + 1 ≤ w2.heap.size := by omega
    clear O1 VQ
    go_wp2_with fail
    refine (CPf.out _ _ _ M).mono ?_
    rintro e9 w5 ⟨rfl, M5, G5⟩
    have VR5 := VR.grownB G5 (by omega)
    have B5 := B.grown G5 (by (try simp only [World.size_alloc]); omega) (by intro q hq; simp at hq; omega)
    clear M G5 VR B ha Bo
    obtain ⟨c2, d2, VQ, O2, hb5, hne5⟩ := M5
    simp only at VQ O2
    rw [HK.out] at VQ
    have VR := VR5
    have B := B5
    clear VR5 B5
    have OL2 := Hid.mk O2.lt
    clear s_VR f_VR z_VR s_VQ f_VQ z_VQ
    have VF := Hid.mk (VR.filled [.int .i64 pc, .int .i64 0, .slice none 0 0] rfl)
    have BR := belowCells B (show w.heap.size ≤ w.heap.size by (first | omega | (simp; done) | (simp; omega))) 0 [.int .i64 pc, .int .i64 0, .slice none 0 0]
    have HT := Hid.mk VR.there
    replace BR := Hid.mk BR
    clear O2
    obtain ⟨s_VR, f_VR, z_VR⟩ := VR.open
    obtain ⟨s_VQ, f_VQ, z_VQ⟩ := VQ.open
    go_wp2_with (refine wpList_store_mid rfl 33 _ _ rfl (w.heap.size) 0 #[.int .i64 pc, .int .i64 0, .slice none 0 0] rfl rfl HT.out (by kernel_rfl) (by kernel_rfl) ?_)
    refine bodyPost_ret (v := .agg #[.int .i64 pc, .int .i64 0, .slice none 0 0]) (results_row Try.results26 _ _ (w.heap.size) [.int .i64 pc, .int .i64 0, .slice none 0 0] _ rfl VF.out Try.underlying33 rfl (by kernel_rfl)) rfl ⟨none, 0, rfl, OwnTerm.none, BR.out⟩
  · rw [e]
    have hl4 : xs.length ≤ 400 := (tfC_zero (aq_table h1)).1
    replace CC := Hid.mk (CC.out (aq_table h1))
    rw [h1] at CA
    simp only [h2] at CW
    have CPf := Hid.mk (fun base Q w h => l9Proof_ok base Q ⟨xs, 0⟩ shared first nonce key id w h hl4)
    generalize prP ⟨xs, 0⟩ shared first nonce key id = P at *
    obtain ⟨⟨pl, pc⟩, pv⟩ := P
    simp only at h3 CPf ⊢
    obtain ⟨k, hk⟩ : ∃ k, pl.length = k := ⟨_, rfl⟩
    have HK := Hid.mk hk
    subst h3
    clear e h1 h2 hl4 hk
    go_enter Try.func26, Try.ntmps26
    have B := Below.refl w.heap.size w
    replace ha := ha.kept (belowA w (.cells #[.int .i64 0, .int .i64 0, .slice none 0 0] 33))
    replace B := thenB B (belowA w (.cells #[.int .i64 0, .int .i64 0, .slice none 0 0] 33))
    have VR := V.new w [.int .i64 0, .int .i64 0, .slice none 0 0] 33
    obtain ⟨s_VR, f_VR, z_VR⟩ := VR.open
    have Bo := B
    have RP := Rd.litI (w.alloc (.cells #[.int .i64 0, .int .i64 0, .slice none 0 0] 33)) [shared, first, nonce, key]
    simp only [World.size_alloc] at RP
    have VRa := VR.kept (belowA (w.alloc (.cells #[.int .i64 0, .int .i64 0, .slice none 0 0] 33)) (.cells #[.int .i64 shared, .int .i64 first, .int .i64 nonce, .int .i64 key] 2))
    have Ba := thenB B (belowA (w.alloc (.cells #[.int .i64 0, .int .i64 0, .slice none 0 0] 33)) (.cells #[.int .i64 shared, .int .i64 first, .int .i64 nonce, .int .i64 key] 2))
    have haa := ha.kept (belowA (w.alloc (.cells #[.int .i64 0, .int .i64 0, .slice none 0 0] 33)) (.cells #[.int .i64 shared, .int .i64 first, .int .i64 nonce, .int .i64 key] 2))
    go_wp2_with fail
    refine (CA.out _ _ haa RP).mono ?_
    rintro e9 w1 ⟨rfl, b1⟩
    have S1 := b1.size
    simp only [World.size_alloc] at S1
    replace VR := VRa.kept b1
    replace ha := haa.kept b1
    replace B := thenB Ba b1
    clear RP VRa Ba haa b1
    clear s_VR f_VR z_VR
    obtain ⟨s_VR, f_VR, z_VR⟩ := VR.open
    have Bo := B
    go_wp2_with fail
    refine (CW.out _).mono ?_
    rintro e9 wq ⟨rfl, rfl⟩
    go_wp2_with fail
    refine (CC.out _ ha).mono ?_
    rintro e w2 ⟨c1, d1, rfl, O1, b2⟩
    clear s_VR f_VR z_VR
    have S2 := b2.size
    replace VR := VR.kept b2
    replace ha := ha.kept b2
    replace B := thenB B b2
    clear b2
    obtain ⟨s_VR, f_VR, z_VR⟩ := VR.open
    have Bo := B
    have OLT := Hid.mk O1.lt
    replace VR := VR.kept (belowA w2 (.cells #[.slice c1 n d1, .int .i64 0] 104))
    replace ha := ha.kept (belowA w2 (.cells #[.slice c1 n d1, .int .i64 0] 104))
    replace O1 := O1.kept (belowA w2 (.cells #[.slice c1 n d1, .int .i64 0] 104))
    replace B := thenB B (belowA w2 (.cells #[.slice c1 n d1, .int .i64 0] 104))
    have VQ := V.new w2 [.slice c1 n d1, .int .i64 0] 104
    clear s_VR f_VR z_VR
    obtain ⟨s_VR, f_VR, z_VR⟩ := VR.open
    obtain ⟨s_VQ, f_VQ, z_VQ⟩ := VQ.open
    have Bo := B
    have M := MkB.made hn VQ (O1.mono (show w.heap.size + 1 ≤ _ by have := VR.1; omega)) (by have := VR.1; (try simp only [World.size_alloc] at *); omega) (fun b hb => by have := (OLT.out b hb).2; omega)
    have hQ1 : w.heap.size + 1 ≤ w2.heap.size := by omega
    clear O1 VQ
    go_wp2_with fail
    refine (CPf.out _ _ _ M).mono ?_
    rintro e9 w5 ⟨rfl, M5, G5⟩
    have VR5 := VR.grownB G5 (by omega)
    have B5 := B.grown G5 (by (try simp only [World.size_alloc]); omega) (by intro q hq; simp at hq; omega)
    clear M G5 VR B ha Bo
    obtain ⟨c2, d2, VQ, O2, hb5, hne5⟩ := M5
    simp only at VQ O2
    rw [HK.out] at VQ
    have VR := VR5
    have B := B5
    clear VR5 B5
    have OL2 := Hid.mk O2.lt
    clear s_VR f_VR z_VR s_VQ f_VQ z_VQ
    have VF := Hid.mk (VR.filled [.int .i64 0, .int .i64 pv, .slice c2 k d2] rfl)
    have BR := belowCells B (show w.heap.size ≤ w.heap.size by (first | omega | (simp; done) | (simp; omega))) 0 [.int .i64 0, .int .i64 pv, .slice c2 k d2]
    have HT := Hid.mk VR.there
    replace BR := Hid.mk BR
    have OF := Hid.mk ((O2.apart (B := w.heap.size) (fun b hb => by have := (OL2.out b hb).1; omega) 0 [.int .i64 0, .int .i64 pv, .slice c2 k d2]).mono (Nat.le_succ w.heap.size))
    clear O2
    obtain ⟨s_VR, f_VR, z_VR⟩ := VR.open
    obtain ⟨s_VQ, f_VQ, z_VQ⟩ := VQ.open
    go_wp2_with (refine wpList_store_mid rfl 33 _ _ rfl (w.heap.size) 0 #[.int .i64 0, .int .i64 pv, .slice c2 k d2] rfl rfl HT.out (by kernel_rfl) (by kernel_rfl) ?_)
    refine bodyPost_ret (v := .agg #[.int .i64 0, .int .i64 pv, .slice c2 k d2]) (results_row Try.results26 _ _ (w.heap.size) [.int .i64 0, .int .i64 pv, .slice c2 k d2] _ rfl VF.out Try.underlying33 rfl (by kernel_rfl)) rfl ⟨c2, d2, by rw [HK.out], OF.out, BR.out⟩

end Go.Proofs.Ythkmoabkeblbjaa
