/- Put together: TpA, TpB, TpC, MvM. -/
import Derived.Test.YtfldgeokigcokaaGreatFWk
import Derived.Test.YtfldgeokigcokaaGreatFWt
import Derived.Maps.OwnSet
import Derived.Test.YtfldgeokigcokaaGreatTmK
import Derived.Test.YtfldgeokigcokaaGreatFWr
import Derived.Laws.AppendOwnNone
import Derived.Test.YtfldgeokigcokaaGreatFWq
import Derived.Test.YtfldgeokigcokaaGreatFWi

/- The parts of a term: the model. -/
namespace Go.Proofs.YtfldgeokigcokaaGreat
open Go.RowKit

/-- The marks as values. -/
def bvL (xs : List T4) (r k : Nat) : List Value := (List.range (r + 1)).map fun i => .bool (mks xs r k i)

theorem plc_0 {x : T4} (h : kids x.o = 0) : plc x = [] := by unfold plc; rw [h]; simp
theorem plc_1 {x : T4} (h : kids x.o = 1) : plc x = [x.a] := by unfold plc; rw [h]; simp
theorem plc_2 {x : T4} (h : kids x.o = 2) : plc x = [x.a, x.b] := by unfold plc; rw [h]; simp

/-- The parts among the first k places. -/
def prK (xs : List T4) (r k : Nat) : List Int := ((List.range k).filter fun i => mks xs r (r + 1) i).map fun i : Nat => (i : Int)

end Go.Proofs.YtfldgeokigcokaaGreat

/- The parts of a term: the program takes them. -/
namespace Go.Proofs.YtfldgeokigcokaaGreat
open Go.RowKit

theorem wpList_putsI {ops : Array Oper} {rest : List Oper} {o : Oper} {a : Act} {Q : Exit → Act → World → Prop} (w : World) (hgd : o.guard = none) (s x : Operand)
    (ho : o.op = .call { callee := .builtin .append, args := #[s, x], argTypes := #[52, 52] })
    (base : Nat) (c : Option Addr) (d : Nat) (xs : List Int) (n : Nat) (hn : xs.length = n) (hs : a.eval s = .slice c n d) (hown : Own .i64 2 w base c d xs)
    (b off m cc : Nat) (ys : List Int) (hx : a.eval x = .slice (some ⟨b, off, none⟩) m cc) (hr : Rd .i64 w (some ⟨b, off, none⟩) ys) (hm : ys.length = m) (hm0 : 0 < m)
    (hlen : n + m ≤ 1000000) (hbase : base ≤ w.heap.size)
    (h : ∀ c' d' w', Own .i64 2 w' base c' d' (xs ++ ys) → w.grownBy w' (c.map Addr.block) → Hid (∃ g, c' = some ⟨g, 0, none⟩ ∧ ((∃ a, c = some a ∧ a.block = g) ∨ g = w.heap.size) ∧ g < w'.heap.size) → wpList Tryz.prog ops Q rest (a.put o.dst (.slice c' (n + m) d')) w') : wpList Tryz.prog ops Q (o :: rest) a w := by
  subst hn
  subst hm
  obtain ⟨i, hi, hz, hsz, hby⟩ : ∃ i, Tryz.prog.info? 2 = some i ∧ i.zero = some (.int .i64 0) ∧ i.size = 1 ∧ i.bytes = 8 := by
    have h := Tryz.infoI64
    cases he : Tryz.prog.info? 2 with
    | none => rw [he] at h; cases h
    | some i =>
      rw [he] at h
      simp only [Option.map_some, Option.some.injEq, Prod.mk.injEq] at h
      exact ⟨i, rfl, h.1, h.2.1, h.2.2⟩
  refine wpList_append_lies w hgd s x 52 ho base 2 i _ 1 8 Tryz.underlying52 hi hz hsz hby (by rfl) (by decide) (.slice c xs.length d) xs.length (xs.map (Value.int .i64)) hs hown ⟨b, off, none⟩ ys.length cc (ys.map (Value.int .i64)) hx (by simp) (fun j u hj => ?_) (ints_oneCell _ _) hm0 (by unfold maxLen; omega) (by omega) hbase _ rfl ?_
  · rcases hr with h0 | ⟨b', off', h0, hcell⟩
    · subst h0; simp at hj
    · simp only [Option.some.injEq, Addr.mk.injEq, and_true] at h0
      obtain ⟨rfl, rfl⟩ := h0
      have hj' : j < ys.length := by
        rcases Nat.lt_or_ge j ys.length with h | h
        · exact h
        · simp [List.getElem?_eq_none h] at hj
      rw [Addr.add_lit, hcell j hj']
      simp [hj'] at hj
      subst hj
      simp [List.getD, hj']
  · intro g cap w' h1 h2 h3 h4
    have e1 : (xs ++ ys).length = xs.length + ys.length := by simp
    have h2' : w.grownBy w' (c.map Addr.block) := by cases c <;> exact h2
    refine h _ _ w' ?_ h2' (Hid.mk ⟨g, rfl, ?_, h4⟩)
    · unfold Own; rw [e1, List.map_append]; exact h1
    · rcases h3 with h3 | h3
      · left; cases c with
        | none => cases h3
        | some b => exact ⟨b, rfl, by simpa [Value.ownBlock] using h3⟩
      · exact .inr h3

/-- Nothing is put behind the others. -/
theorem wpList_put0I {ops : Array Oper} {rest : List Oper} {o : Oper} {a : Act} {Q : Exit → Act → World → Prop} (w : World) (hgd : o.guard = none) (s x : Operand)
    (ho : o.op = .call { callee := .builtin .append, args := #[s, x], argTypes := #[52, 52] })
    (base : Nat) (c : Option Addr) (d : Nat) (xs : List Int) (n : Nat) (hn : xs.length = n) (hs : a.eval s = .slice c n d) (hown : Own .i64 2 w base c d xs) (hx : a.eval x = .slice none 0 0)
    (h : wpList Tryz.prog ops Q rest (a.put o.dst (.slice c n d)) w) : wpList Tryz.prog ops Q (o :: rest) a w := by
  subst hn
  obtain ⟨i, hi, _⟩ : ∃ i, Tryz.prog.info? 2 = some i ∧ True := by
    have h := Tryz.infoI64
    cases he : Tryz.prog.info? 2 with
    | none => rw [he] at h; cases h
    | some i => exact ⟨i, rfl, trivial⟩
  have hr2 := run_append_owned_none (P := Tryz.prog) w base 52 o.type 2 i 1 Tryz.underlying52 hi _ _ _ hown
  refine wpList_plain hgd fun K hK => ?_
  unfold Oper.wp execOp
  simp only [ho, resolve, invoke, builtin, Sem.run_bind, Sem.run_pure, Result.andThen_ok, List.map_toArray, List.map_cons, List.map_nil, hs, hx, hr2]
  exact hK _ _ h

theorem Sm.grownNew {X : Nat → Prop} {w0 w w' : World} {row : Option Nat} (h : Sm X w0 w) (hg : w.grownBy w' row) (hr : ∀ q, row = some q → w0.heap.size ≤ q) : Sm X w0 w' :=
  ⟨hg.os.trans h.os, hg.tape.trans h.tape, hg.output.trans h.output, Nat.le_trans h.size hg.size, fun k hk hx => (hg.block k (Nat.lt_of_lt_of_le hk h.size) (fun e => by have := hr k e.symm; omega)).trans (h.block k hk hx)⟩

/-- What a call of 'takeParts' leaves. -/
def TookAt (xs : List T4) (r : Nat) (T : List Int) (b : Nat) (w : World) (e : Ending) (w' : World) : Prop :=
  ∃ (c : Option Addr) (d k : Nat) (ps : List Int), e = .returned (.slice c k d) ∧ ps.length = k ∧ ((c = none ∧ d = 0 ∧ k = 0) ∨ (0 < k ∧ ∃ g, c = some ⟨g, 0, none⟩)) ∧ Own .i64 2 w' w.heap.size c d ps ∧ Took xs r T ps ∧ (∃ cnt', TM w' b (lftM xs (ps ++ T)) cnt') ∧ Sm (fun q => q = b) w w'

set_option maxRecDepth 20000 in
set_option maxHeartbeats 8000000 in
theorem takeParts_ok (xs : List T4) (n : Nat) (hn : xs.length = n) (hv : tfC xs = 0) (hok : ∀ t ∈ xs, okT t) (r : Nat) : ∀ (T : List Int) (a : Option Addr) (ca b cnt : Nat) (w : World), r < n → RdTerm w a xs → (∀ ad : Addr, a = some ad → ad.block ≠ b) → TM w b (lftM xs T) cnt →
    Calls Tryz.prog 78 #[.slice a n ca, .int .i64 r, .map (some b)] w (TookAt xs r T b w) := by
  induction r using Nat.strongRecOn with
  | _ r IH =>
    intro T a ca b cnt w hr ha hab hT
    have hn4 : n ≤ 400 := by have := (tfC_zero hv).1; omega
    have hNice := tfC_nice hv
    have HN := Hid.mk (names_of hNice.ahead)
    obtain ⟨x, hx1⟩ : ∃ x, xs.getD r zTerm = x := ⟨_, rfl⟩
    have hxm : x ∈ xs := by rw [← hx1]; exact getDTerm_mem (by omega)
    have ok : okT x := hok x hxm
    have hlk := lftM_in hNice.once (k := r) (by omega) T
    rw [hx1] at hlk
    have HCONS := Hid.mk (lftM_cons hNice.once (k := r) (by omega) T)
    rw [hx1] at HCONS
    have hop := op_right hv r (by omega) hx1
    have hrn : (r : Int) < (n : Int) := by omega
    have HA := Hid.mk ha
    have HX := Hid.mk hx1
    rcases ha with h0 | ⟨b1, o1, rfl, hca2⟩
    · rw [h0] at hn; simp at hn; omega
    obtain ⟨p0, p1, p2, p3⟩ := RdTerm.cells hca2 r (by omega) x hx1
    have hb1 : b1 ≠ b := hab _ rfl
    have hb1w := Hid.mk (World.block_lt_of_cell? _ _ p0)
    have hTl := hT.lt
    clear hca2 hx1 hxm
    by_cases hm : (r : Int) ∈ T
    · rw [if_pos hm] at hlk
      have HM := Hid.mk hm
      have hT1 := hT.kept (belowA w (.cells #[.int .i64 x.o, .int .i64 x.a, .int .i64 x.b, .int .i64 x.n] 70))
      have QL := hT1.look ok 0
      rw [hlk] at QL
      simp only [Option.isSome_none, Option.getD_none] at QL
      replace QL : (Instr.lookup 60 (.map (some b)) (.agg #[.int .i64 x.o, .int .i64 x.a, .int .i64 x.b, .int .i64 x.n]) true).run Tryz.prog (w.alloc (.cells #[.int .i64 x.o, .int .i64 x.a, .int .i64 x.b, .int .i64 x.n] 70)) = .ok (.tuple #[.int .i64 0, .bool false]) (w.alloc (.cells #[.int .i64 x.o, .int .i64 x.a, .int .i64 x.b, .int .i64 x.n] 70)) := QL
      replace hT1 := Hid.mk hT1
      clear hlk hm hT
      go_enter Tryz.func78, Tryz.ntmps78
      go_wp2
      go_ret
      exact ⟨none, 0, 0, [], rfl, rfl, .inl ⟨rfl, rfl, rfl⟩, own_none, Took.none HM.out, ⟨cnt, hT1.out⟩, Sm.below (belowA _ _)⟩
    · rw [if_neg hm] at hlk
      have HM := Hid.mk hm
      have hT1 := hT.kept (belowA w (.cells #[.int .i64 x.o, .int .i64 x.a, .int .i64 x.b, .int .i64 x.n] 70))
      have QL := hT1.look ok 0
      rw [hlk] at QL
      simp only [Option.isSome_some, Option.getD_some] at QL
      replace QL : (Instr.lookup 60 (.map (some b)) (.agg #[.int .i64 x.o, .int .i64 x.a, .int .i64 x.b, .int .i64 x.n]) true).run Tryz.prog (w.alloc (.cells #[.int .i64 x.o, .int .i64 x.a, .int .i64 x.b, .int .i64 x.n] 70)) = .ok (.tuple #[.int .i64 r, .bool true]) (w.alloc (.cells #[.int .i64 x.o, .int .i64 x.a, .int .i64 x.b, .int .i64 x.n] 70)) := QL
      have VX := V.new w [.int .i64 x.o, .int .i64 x.a, .int .i64 x.b, .int .i64 x.n] 70
      have hR := HA.out.kept (belowA w (.cells #[.int .i64 x.o, .int .i64 x.a, .int .i64 x.b, .int .i64 x.n] 70))
      have S := Sm.below (X := fun q => q = b) (belowA w (.cells #[.int .i64 x.o, .int .i64 x.a, .int .i64 x.b, .int .i64 x.n] 70))
      clear hlk hm hT
      go_enter Tryz.func78, Tryz.ntmps78
      go_wp2_with (at_delete; refine wpList_TMdrop _ rfl _ _ rfl b (lftM xs T) cnt hT1 x ok rfl rfl ?_)
      intro w2 cnt2 hT2 hturn
      have S2 := Sm.turn (X := fun q => q = b) hturn rfl
      replace S := S.trans S2
      replace VX := VX.sm S2 (by omega)
      replace hR := hR.sm S2 (fun ad had e => hab ad had e)
      have e2 : delM (lftM xs T) x = lftM xs ((r : Int) :: T) := HCONS.out
      rw [e2] at hT2
      have hsz2 := S.size
      have hvx := VX.1
      clear S2 hturn e2 QL hT1
      -- the first part
      have OP := (OwnI.lit w2 [(r : Int)] [.int .i64 r] rfl (by unfold maxLen; simp))
      have hOPl : w.heap.size ≤ w2.heap.size := by omega
      have b3 := belowA w2 (.cells #[.int .i64 r] 2)
      replace VX := VX.kept b3
      replace hR := hR.kept b3
      replace hT2 := hT2.kept b3
      replace S := S.trans (Sm.below b3)
      have hsz3 : (w2.alloc (.cells #[.int .i64 r] 2)).heap.size = w2.heap.size + 1 := World.size_alloc _ _
      clear b3 p0 p1 p2 p3
      obtain ⟨s_VX, f_VX, z_VX⟩ := VX.open
      go_wp2_with fail
      refine (placesIn_ok x hop _).mono ?_
      rintro e w4 ⟨cp, dp, rfl, OZ, b4⟩
      clear s_VX f_VX z_VX
      have hsz4 := b4.size
      have hOZ := OZ.lt
      replace OP := OP.kept b4
      replace hR := hR.kept b4
      replace hT2 := hT2.kept b4
      replace S := S.trans (Sm.below b4)
      have RZ := OZ.rd
      obtain ⟨l, hl⟩ : ∃ l, (plc x).length = l := ⟨_, rfl⟩
      have hpl := plc_len x
      rw [hl] at hpl ⊢
      have HL := Hid.mk hl
      have HPA := Hid.mk (HN.out r (by omega))
      rw [HX.out] at HPA
      have TK0 := Hid.mk (Taking.start (xs := xs) HM.out)
      have hZb : Hid (∀ ad : Addr, cp = some ad → w2.heap.size + 1 ≤ ad.block ∧ ad.block < w4.heap.size) := Hid.mk (fun ad had => by have := hOZ ad had; rw [hsz3] at this; exact this)
      have hTlw : b < w2.heap.size := by omega
      replace OP := Hid.mk (OP.mono hOPl)
      replace hT2 := Hid.mk hT2
      replace hR := Hid.mk hR
      replace S := Hid.mk S
      replace RZ := Hid.mk RZ
      have hs4 : w2.heap.size + 1 ≤ w4.heap.size := by omega
      have hs0 : w.heap.size ≤ w2.heap.size := hOPl
      generalize hQ : w2.heap.size = Q2 at *
      have hQ4 := Hid.mk hs4
      clear VX OZ hOZ b4 hsz3 hsz4 hvx hsz2 hOPl hl hQ hs4
      go_wp2
      go_loopw [10, 32] (fun p i wr => ∃ (j m d : Nat) (c : Option Addr) (ps : List Int) (ct : Nat), j ≤ l ∧ i = .int .i64 j ∧ p = .slice c m d ∧ Hid (ps.length = m ∧ 0 < m) ∧ Own .i64 2 wr w.heap.size c d ps ∧ Hid (Taking xs r T ps j) ∧ TM wr b (lftM xs (ps ++ T)) ct ∧ Rd .i64 wr cp (plc x) ∧ RdTerm wr (some ⟨b1, o1, none⟩) xs ∧ Sm (fun q => q = b) w wr ∧ Hid (w4.heap.size ≤ wr.heap.size) ∧ Hid (∀ ad : Addr, c = some ad → ad.block ≠ b ∧ (ad.block = Q2 ∨ w4.heap.size ≤ ad.block))) (fun _ i _ => l - (intOf i).toNat)
      case atStart => exact ⟨0, 1, 1, some ⟨Q2, 0, none⟩, [(r : Int)], cnt2, Nat.zero_le _, rfl, rfl, Hid.mk ⟨rfl, by decide⟩, OP.out, TK0, hT2.out, RZ.out, hR.out, S.out, Hid.mk (Nat.le_refl _), Hid.mk (fun ad had => by simp only [Option.some.injEq] at had; subst had; exact ⟨by simp only; omega, .inl rfl⟩)⟩
      case round =>
        clear OP TK0 hT2 RZ hR S
        obtain ⟨j, m, d, c, ps, ct, hj, rfl, rfl, hpm, O, TK, hT, RZ, hR, S, hsw, hoff⟩ := hrel
        by_cases hjl : j < l
        · obtain ⟨z, hz⟩ : ∃ z, (plc x).getD j 0 = z := ⟨_, rfl⟩
          have hj1 : (j : Int) < (l : Int) := by omega
          have hzk := HPA.out z (by rw [← hz]; exact igetD_mem (by rw [HL.out]; exact hjl))
          obtain ⟨u, rfl⟩ : ∃ u : Nat, z = (u : Int) := ⟨z.toNat, by omega⟩
          have hTl := hT.lt
          have hOl := Hid.mk O.lt
          have hZk := Hid.mk hz
          have hRl : b1 < wr.heap.size := by
            rcases hR with h0 | ⟨bb, oo, ee, hcc⟩
            · rw [h0] at hn; simp at hn; omega
            · simp only [Option.some.injEq, Addr.mk.injEq, and_true] at ee
              obtain ⟨rfl, rfl⟩ := ee
              have := World.block_lt_of_cell? _ _ (RdTerm.cells hcc r (by omega) x HX.out).1
              exact this
          have CT := Hid.mk (fun wx h1 h3 => IH u (by omega) (ps ++ T) (some ⟨b1, o1, none⟩) ca b ct wx (by omega) h1 (fun ad had => hab ad had) h3)
          rcases RZ with h0 | ⟨b3, o3, rfl, hcz⟩
          · have := HL.out; rw [h0] at this; simp at this; omega
          have pz := hcz j (by rw [HL.out]; exact hjl)
          rw [hz] at pz
          have RZ2 : Hid (Rd .i64 wr (some ⟨b3, o3, none⟩) (plc x)) := Hid.mk (.inr ⟨b3, o3, rfl, hcz⟩)
          clear hcz hz
          go_wp2_with fail
          refine (CT.out _ hR hT).mono ?_
          rintro e w5 ⟨c5, d5, k5, ps5, rfl, hk5, hw5, O5, TQ, ⟨ct5, hT5⟩, S5⟩
          have hb3 := (hZb.out _ rfl)
          simp only at hb3
          have RZ5 := RZ2.out.sm S5 (fun ad had e => by simp only [Option.some.injEq] at had; subst had; simp only at e; omega)
          have R5 := hR.sm S5 (fun ad had e => hab ad had e)
          have OO5 := O.sm S5 (fun ad had e => (hoff.out ad had).1 e)
          have S6 := S.trans S5
          have hsz5 := S5.size
          have TN := TK.out.next (by rw [HX.out, HL.out]; exact hjl) (by rw [HX.out]; exact hZk.out) TQ
          have hlen := TN.len HN.out (by omega)
          rw [List.length_append, hpm.out.1, hk5] at hlen
          have hTe : lftM xs (ps5 ++ (ps ++ T)) = lftM xs ((ps ++ ps5) ++ T) := lftM_same (fun q => by simp only [List.mem_append]; exact ⟨fun h => h.elim (fun h => .inl (.inr h)) (fun h => h.elim (fun h => .inl (.inl h)) .inr), fun h => h.elim (fun h => h.elim (fun h => .inr (.inl h)) .inl) (fun h => .inr (.inr h))⟩)
          rw [hTe] at hT5
          have hO5l := Hid.mk O5.lt
          replace TN := Hid.mk TN
          replace hoff := hoff
          clear hTe TQ S5 S hR RZ2 hT O pz TK
          rcases hw5 with ⟨rfl, rfl, rfl⟩ | ⟨hk0, g5, rfl⟩
          · obtain rfl : ps5 = [] := List.eq_nil_of_length_eq_zero hk5
            rw [List.append_nil] at TN hT5
            replace hT5 := Hid.mk hT5
            replace R5 := Hid.mk R5
            replace RZ5 := Hid.mk RZ5
            replace S6 := Hid.mk S6
            have OO6 := Hid.mk OO5
            have hsw5 : Hid (w4.heap.size ≤ w5.heap.size) := Hid.mk (by have := hsw.out; omega)
            go_wp2_with (at_builtin; go_loud (refine wpList_put0I _ rfl _ _ rfl w.heap.size c d ps m hpm.out.1 rfl OO6.out rfl ?_))
            clear OO5
            go_wp2
            go_roundw
            case rel => exact ⟨j + 1, m, d, c, ps, ct5, by omega, by go_num, rfl, hpm, OO6.out, TN, hT5.out, RZ5.out, R5.out, S6.out, hsw5, hoff⟩
            case measure => first | (simp [intOf]; done) | (simp [intOf]; omega)
          · have hRD := O5.rd
            have hgb := hO5l.out _ rfl
            simp only at hgb
            have TL : w.heap.size ≤ w5.heap.size := by have := S6.size; omega
            have hsw5 : w4.heap.size ≤ w5.heap.size := by have := hsw.out; omega
            replace hsw5 := Hid.mk hsw5
            have hsz6 := S6.size
            go_wp2_with (at_builtin; go_loud (refine wpList_putsI _ rfl _ _ rfl w.heap.size c d ps m hpm.out.1 rfl OO5 g5 0 k5 d5 ps5 rfl hRD hk5 hk0 (by omega) TL ?_))
            intro c6 d6 w6 O6 hg6 hx6
            have hcb : ∀ q : Nat, c.map Addr.block = some q → q ≠ b ∧ (q = Q2 ∨ w4.heap.size ≤ q) ∧ w.heap.size ≤ q := fun q hq => by
              cases hc : c with
              | none => rw [hc] at hq; cases hq
              | some ad =>
                rw [hc] at hq; simp at hq; subst hq
                have h1 := hoff.out ad hc
                have h2 := (hOl.out ad hc).1
                exact ⟨h1.1, h1.2, h2⟩
            have hT6 := Hid.mk (hT5.grown hg6 (fun e => (hcb b e.symm).1 rfl))
            have R6 := Hid.mk (R5.sm (X := fun q => c.map Addr.block = some q) (Sm.grown hg6 (fun k hk => hk)) (fun ad had e => by simp only [Option.some.injEq] at had; subst had; have := (hcb _ e).2.2; have := hb1w.out; simp only at *; omega))
            have RZ6 := Hid.mk (RZ5.sm (X := fun q => c.map Addr.block = some q) (Sm.grown hg6 (fun k hk => hk)) (fun ad had e => by simp only [Option.some.injEq] at had; subst had; have := (hcb _ e).2.1; have := hb3; simp only at *; omega))
            have S7 := Hid.mk (Sm.grownNew S6 hg6 (fun q hq => (hcb q hq).2.2))
            have hoff6 : Hid (∀ ad : Addr, c6 = some ad → ad.block ≠ b ∧ (ad.block = Q2 ∨ w4.heap.size ≤ ad.block)) := Hid.mk (fun ad had => by
              obtain ⟨g', rfl, h1, _⟩ := hx6.out
              simp only [Option.some.injEq] at had
              subst had
              rcases h1 with ⟨a', ha', he⟩ | h1
              · have := hoff.out a' ha'; rw [he] at this; exact this
              · have := hsw5.out; simp only; omega)
            have hpm6 : Hid ((ps ++ ps5).length = m + k5 ∧ 0 < m + k5) := Hid.mk ⟨by rw [List.length_append, hpm.out.1, hk5], by omega⟩
            have hsw6 := Hid.mk (Nat.le_trans hsw5.out hg6.size)
            replace O6 := Hid.mk O6
            clear hg6 hx6 hT5 R5 RZ5 S6 OO5 O5 hRD TL hcb
            go_wp2
            go_roundw
            case rel => exact ⟨j + 1, m + k5, d6, c6, ps ++ ps5, ct5, by omega, by go_num, rfl, hpm6, O6.out, TN, hT6.out, RZ6.out, R6.out, S7.out, hsw6, hoff6⟩
            case measure => first | (simp [intOf]; done) | (simp [intOf]; omega)
        · obtain rfl : j = l := by omega
          have TD := Hid.mk (TK.out.done (by rw [HX.out, HL.out]; exact Nat.le_refl _))
          have HO := Hid.mk O
          have HT := Hid.mk hT
          have HS := Hid.mk S
          have HC : Hid (∃ g, c = some ⟨g, 0, none⟩) := Hid.mk (own_some O (by have := hpm.out; omega))
          clear O hT S TK RZ hR
          go_wp2
          go_ret
          exact ⟨c, d, m, ps, rfl, hpm.out.1, .inr ⟨hpm.out.2, HC.out⟩, HO.out, TD.out, ⟨ct, HT.out⟩, HS.out⟩

end Go.Proofs.YtfldgeokigcokaaGreat

/- PartsOf: both sides. -/
namespace Go.Proofs.YtfldgeokigcokaaGreat
open Go.RowKit

/-- What PartsOf answers beside its code. -/
@[irreducible] def paL (xs : List T4) (q : Int) : List Int := if akC xs q = 0 then prL xs q.toNat else []

set_option maxRecDepth 20000 in
set_option maxHeartbeats 4000000 in
theorem partsOf_ok (base p g : Nat) (c : Option Addr) (d : Nat) (xs : List T4) (n r : Nat) (w : World) (H : Bk w base p g c d xs) (hn : xs.length = n) (hv : tfC xs = 0) (hok : ∀ t ∈ xs, okT t) (hr : r < n) :
    Calls Tryz.prog 70 #[.pointer (some ⟨p, 0, none⟩), .int .i64 r] w fun e w' => ∃ g4 d4 k4, e = .returned (.slice (some ⟨g4, 0, none⟩) k4 d4) ∧ (prL xs r).length = k4 ∧ Own .i64 2 w' w.heap.size (some ⟨g4, 0, none⟩) d4 (prL xs r) ∧ Below w.heap.size w w' := by
  have VP := H.v
  rw [hn] at VP
  have K : ∀ w' : World, Below w.heap.size w w' → (w'.cell? ⟨p, 0, none⟩ = some (.slice c n d) ∧ w'.cell? ⟨p, 1, none⟩ = some (.map (some g))) := fun w' h => ⟨(VP.kept h).2.1 0 (by simp), (VP.kept h).2.1 1 (by simp)⟩
  have K := Hid.mk K
  have hTc : TM w g (lftM xs []) n := (hn ▸ H.m).eq (fun t _ => by rw [lftM_nil]; rfl)
  have HRd := Hid.mk H.o.rd
  have HOl := Hid.mk H.o.lt
  go_enter Tryz.func70, Tryz.ntmps70
  obtain ⟨s_VP, f_VP, z_VP⟩ := VP.open
  go_wp2_with fail
  clear s_VP f_VP z_VP
  refine wp_region_held_drew (S := (fun w' => w'.cell? ⟨p, 0, none⟩ = some (.slice c n d) ∧ w'.cell? ⟨p, 1, none⟩ = some (.map (some g)))) (by kernel_rfl) (K.out _ (Below.refl _ _).drew) (fun hHeld => ?_)
  refine wpAnyH_take (i := 0) (oi := _) (v := ?vpo0) rfl (by kernel_rfl) (by kernel_rfl) (by kernel_rfl) (fun _ _ _ h => h) (Or.inl ⟨by rfl, ?hypo0⟩) hHeld ?restpo0
  case hypo0 => (intro w hSw; (try dsimp only at hSw); go_simp; first | done | with_reducible rfl)
  try simp only [Act.put, List.getElem_toArray, List.getElem_cons_zero, List.setIfInBounds_toArray, List.set_cons_zero, List.set_cons_succ]
  refine wpAnyH_take (i := 1) (oi := _) (v := ?vpo1) rfl (by kernel_rfl) (by kernel_rfl) (by kernel_rfl) (fun _ _ _ h => h) (Or.inl ⟨by rfl, ?hypo1⟩) hHeld ?restpo1
  case hypo1 => (intro w hSw; (try dsimp only at hSw); go_simp; first | done | with_reducible rfl)
  try simp only [Act.put, List.getElem_toArray, List.getElem_cons_zero, List.getElem_cons_succ, List.setIfInBounds_toArray, List.set_cons_zero, List.set_cons_succ]
  refine wpAnyH_take (i := 2) (oi := _) (v := ?vpo2) rfl (by kernel_rfl) (by kernel_rfl) (by kernel_rfl) (fun _ _ _ h => h) (Or.inl ⟨by rfl, ?hypo2⟩) hHeld ?restpo2
  case hypo2 => (intro w hSw; (try dsimp only at hSw); go_simp; first | done | with_reducible rfl)
  try simp only [Act.put, List.getElem_toArray, List.getElem_cons_zero, List.getElem_cons_succ, List.setIfInBounds_toArray, List.set_cons_zero, List.set_cons_succ]
  refine wpAnyH_take (i := 3) (oi := _) (v := ?vpo3) rfl (by kernel_rfl) (by kernel_rfl) (by kernel_rfl) (fun _ _ _ h => h) (Or.inl ⟨by rfl, ?hypo3⟩) hHeld ?restpo3
  case hypo3 => (intro w hSw; (try dsimp only at hSw); go_simp; first | done | with_reducible rfl)
  try simp only [Act.put, List.getElem_toArray, List.getElem_cons_zero, List.getElem_cons_succ, List.setIfInBounds_toArray, List.set_cons_zero, List.set_cons_succ]
  refine wpAnyH_take (i := 4) (oi := _) (v := ?vpo4) rfl (by kernel_rfl) (by kernel_rfl) (by kernel_rfl) (fun _ _ _ h => h) (Or.inl ⟨by rfl, ?hypo4⟩) hHeld ?restpo4
  case hypo4 => (intro w hSw; (try dsimp only at hSw); go_simp; first | done | with_reducible rfl)
  try simp only [Act.put, List.getElem_toArray, List.getElem_cons_zero, List.getElem_cons_succ, List.setIfInBounds_toArray, List.set_cons_zero, List.set_cons_succ]
  refine wpAnyH_take (i := 5) (oi := _) (v := ?vpo5) rfl (by kernel_rfl) (by kernel_rfl) (by kernel_rfl) (fun _ _ _ h => h) (Or.inl ⟨by rfl, ?hypo5⟩) hHeld ?restpo5
  case hypo5 => (intro w hSw; (try dsimp only at hSw); go_simp; first | done | with_reducible rfl)
  try simp only [Act.put, List.getElem_toArray, List.getElem_cons_zero, List.getElem_cons_succ, List.setIfInBounds_toArray, List.set_cons_zero, List.set_cons_succ]
  refine wpAnyH_take (i := 6) (oi := _) (v := ?vpo6) rfl (by kernel_rfl) (by kernel_rfl) (by kernel_rfl) (fun _ _ _ h => h) (Or.inl ⟨by rfl, ?hypo6⟩) hHeld ?restpo6
  case hypo6 => (intro w hSw; (try dsimp only at hSw); go_simp; first | done | with_reducible rfl)
  try simp only [Act.put, List.getElem_toArray, List.getElem_cons_zero, List.getElem_cons_succ, List.setIfInBounds_toArray, List.set_cons_zero, List.set_cons_succ]
  refine wpAnyH_take (i := 7) (oi := _) (v := ?vpo7) rfl (by kernel_rfl) (by kernel_rfl) (by kernel_rfl) (fun _ _ _ h => h) (Or.inl ⟨by rfl, ?hypo7⟩) hHeld ?restpo7
  case hypo7 => (intro w hSw; (try dsimp only at hSw); go_simp; first | done | with_reducible rfl)
  try simp only [Act.put, List.getElem_toArray, List.getElem_cons_zero, List.getElem_cons_succ, List.setIfInBounds_toArray, List.set_cons_zero, List.set_cons_succ]
  refine wpAnyH_take (i := 8) (oi := _) (v := ?vpo8) rfl (by kernel_rfl) (by kernel_rfl) (by kernel_rfl) (fun _ _ _ h => h) (Or.inl ⟨by rfl, ?hypo8⟩) hHeld ?restpo8
  case hypo8 => (intro w hSw; (try dsimp only at hSw); go_simp; first | done | with_reducible rfl)
  try simp only [Act.put, List.getElem_toArray, List.getElem_cons_zero, List.getElem_cons_succ, List.setIfInBounds_toArray, List.set_cons_zero, List.set_cons_succ]
  refine wpAnyH_ready (rs := [9]) (by kernel_rfl) (by simp) ?_
  refine AllReadyH.cons (o := _) rfl (fun K0 hK0 => ?_) AllReadyH.nil
  go_simp
  have hTd := hTc.kept (Below.refl w.heap.size w).drew
  go_at_call 79
  refine (clone_ok g (lftM xs []) n _ hTd).mono ?_
  rintro e w3 ⟨rfl, tmc, b3⟩
  have acc := thenB (Below.refl w.heap.size w).drew b3
  refine hK0.out _ _ (K.out _ acc) (fun hHeld => ?_)
  clear hK0 K0 hTd
  try simp only [Act.put, List.getElem_toArray, List.getElem_cons_zero, List.getElem_cons_succ, List.setIfInBounds_toArray, List.set_cons_zero, List.set_cons_succ]
  refine wpAnyH_ready (rs := [10]) (by kernel_rfl) (by simp) ?_
  refine AllReadyH.cons (o := _) rfl (fun K0 hK0 => ?_) AllReadyH.nil
  go_simp
  have hsz3 := acc.size
  have hlt3 := tmc.lt
  go_at_call 78
  refine (takeParts_ok xs n hn hv hok r [] c d _ n _ hr (HRd.out.kept acc) (fun ad had e => by have h1 := (HOl.out ad had).2; simp [go_sem] at e; omega) tmc).mono ?_
  rintro e w4 ⟨c4, d4, k4, ps, rfl, hk4, hw4, O4, TK, -, S4⟩
  have B4 : Below w.heap.size w w4 := S4.below' acc (by omega) (fun k hk => by rw [hk]; simp [go_sem])
  refine hK0.out _ _ (K.out _ B4) (fun hHeld => ?_)
  clear hK0 K0 tmc b3 S4
  try simp only [Act.put, List.getElem_toArray, List.getElem_cons_zero, List.getElem_cons_succ, List.setIfInBounds_toArray, List.set_cons_zero, List.set_cons_succ]
  refine wpAnyH_take (i := 11) (oi := _) (v := ?vpo11) rfl (by kernel_rfl) (by kernel_rfl) (by kernel_rfl) (fun _ _ _ h => h) (Or.inl ⟨by rfl, ?hypo11⟩) hHeld ?restpo11
  case hypo11 => (intro w hSw; (try dsimp only at hSw); go_simp; first | done | with_reducible rfl)
  try simp only [Act.put, List.getElem_toArray, List.getElem_cons_zero, List.getElem_cons_succ, List.setIfInBounds_toArray, List.set_cons_zero, List.set_cons_succ]
  refine wpAnyH_done (by kernel_rfl) ?_ _
  clear hHeld K
  have HALL := Hid.mk (TK.all (names_of (tfC_ahead hv)) (by omega))
  have hklen := TK.len (names_of (tfC_ahead hv)) (by omega)
  have htop := TK.top
  rw [hk4] at hklen
  have hn4 : n ≤ 400 := by have := (tfC_zero hv).1; omega
  rcases hw4 with ⟨_, _, h0⟩ | ⟨hk0, g4, rfl⟩
  · rw [h0] at hk4
    rw [List.eq_nil_of_length_eq_zero hk4] at htop
    simp at htop
  have hO4 := (O4.lt _ rfl)
  simp only at hO4
  replace O4 := O4.mono (base' := w.heap.size) (by omega)
  have hg4 : w.heap.size ≤ g4 := by omega
  clear htop TK
  go_wp2_with fail
  refine (sort_ok w.heap.size g4 d4 ps k4 _ O4 hk4 (by omega)).mono ?_
  rintro e w5 ⟨rfl, O5, S5⟩
  rw [HALL.out] at O5
  have hlen : (prL xs r).length = k4 := by rw [← HALL.out, srt_len, hk4]
  have B5 : Below w.heap.size w w5 := S5.below' B4 (by have := B4.size; omega) (fun k hk => by rw [hk]; exact hg4)
  replace O5 := Hid.mk O5
  replace hlen := Hid.mk hlen
  go_wp2
  go_ret
  exact ⟨g4, d4, k4, rfl, hlen.out, O5.out, B5⟩

end Go.Proofs.YtfldgeokigcokaaGreat

/- A term moved: what stays the same. -/
namespace Go.Proofs.YtfldgeokigcokaaGreat
open Go.RowKit

/-- The parts of a term, as what they are made of. -/
def prD (xs : List T4) (r : Nat) : List Tr := (prL xs r).map fun z => den xs z.toNat

/-- The numbers of a right table. -/
theorem tfC_ok {xs : List T4} (h : tfC xs = 0) : ∀ x ∈ xs, okT x := by
  intro x hx
  obtain ⟨k, hk, e⟩ := List.getElem_of_mem hx
  have e2 : xs.getD k zTerm = x := by simp [List.getD, hk, e]
  have h4 := (tfC_zero h).1
  obtain ⟨h1, h2, h3, ha, hb, h5, _⟩ := tm_zero ((tfC_zero h).2 k hk).1
  obtain ⟨k1, k2⟩ := tfC_ahead h k hk
  rw [e2] at *
  refine ⟨okI_of (by omega) (by omega), ?_, ?_, okI_of (by omega) (by omega)⟩
  · rcases kids_cases x.o with q | q | q
    · have := ha (by omega); exact okI_of (by omega) (by omega)
    · have := k1 (by omega); exact okI_of (by omega) (by omega)
    · have := k1 (by omega); exact okI_of (by omega) (by omega)
  · rcases kids_cases x.o with q | q | q
    · have := hb (by omega); exact okI_of (by omega) (by omega)
    · have := hb (by omega); exact okI_of (by omega) (by omega)
    · have := k2 (by omega); exact okI_of (by omega) (by omega)

end Go.Proofs.YtfldgeokigcokaaGreat
