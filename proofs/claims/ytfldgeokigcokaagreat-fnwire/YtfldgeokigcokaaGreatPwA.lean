/- What is written piece by piece: pieces behind an interface. -/
import Derived.Test.YtfldgeokigcokaaGreatNbA
import Derived.Test.YtfldgeokigcokaaGreatPlT
import Derived.Test.YtfldgeokigcokaaGreatNewC
import Derived.Test.YtfldgeokigcokaaGreatFill
import Derived.Maps.AppendAt
import Derived.Deep.AppendLies
namespace Go.Proofs.YtfldgeokigcokaaGreat
open Go.RowKit

/-- The block of a row. -/
def RowB (c : Option Addr) (k : Nat) : Prop := ∃ b : Addr, c = some b ∧ b.block = k

theorem RowB.own {w : World} {base : Nat} {c : Option Addr} {d : Nat} {zs : List Int} (h : Own .u8 5 w base c d zs) {k : Nat} (hk : RowB c k) : base ≤ k ∧ k < w.heap.size := by
  obtain ⟨b, hb, rfl⟩ := hk
  exact h.lt b hb

/-- What a writing leaves: the row with more behind it; all else is as it was. -/
structure Wrt (base : Nat) (w : World) (c c' : Option Addr) (d' : Nat) (zs : List Int) (w' : World) : Prop where
  own : Own .u8 5 w' base c' d' zs
  sm : Sm (RowB c) w w'
  lies : ∀ k, RowB c' k → RowB c k ∨ w.heap.size ≤ k

theorem Wrt.trans {base : Nat} {w w1 w2 : World} {c c1 c2 : Option Addr} {d1 d2 : Nat} {zs1 zs2 : List Int} (h : Wrt base w c c1 d1 zs1 w1) (k : Wrt base w1 c1 c2 d2 zs2 w2) : Wrt base w c c2 d2 zs2 w2 := by
  refine ⟨k.own, Sm.less h.sm.size k.sm (fun i hi hx => ?_) h.sm, fun i hi => ?_⟩
  · rcases h.lies i hx with e | e
    · exact e
    · omega
  · rcases k.lies i hi with e | e
    · exact h.lies i e
    · exact .inr (Nat.le_trans h.sm.size e)

/-- A piece that writes so many bytes, wherever its blocks S are as they are in w0. -/
def WP (S : Nat → Prop) (w0 : World) (u : Value) (bs : List Int) : Prop :=
  ∀ (w : World) (base : Nat) (c : Option Addr) (n d : Nat) (zs : List Int), (∀ k, S k → k < w.heap.size ∧ w.heap[k]? = w0.heap[k]?) → Own .u8 5 w base c d zs → zs.length = n → base ≤ w.heap.size → (∀ k, RowB c k → ¬ S k) → n + bs.length ≤ 1000000 →
    Calls Tryz.prog 27 #[.slice c n d, u] w fun e w' => ∃ c' d', e = .returned (.slice c' (n + bs.length) d') ∧ Wrt base w c c' d' (zs ++ bs) w'

theorem WP.more {S S' : Nat → Prop} {w0 w1 : World} {u : Value} {bs : List Int} (h : WP S w0 u bs) (hs : ∀ k, S k → S' k) (hw : ∀ k, S k → w1.heap[k]? = w0.heap[k]?) : WP S' w1 u bs :=
  fun w base c n d zs h1 h2 hn h3 h4 h5 => h w base c n d zs (fun k hk => ⟨(h1 k (hs k hk)).1, (h1 k (hs k hk)).2.trans (hw k hk)⟩) h2 hn h3 (fun k hk e => h4 k hk (hs k e)) h5

theorem append_t2 {P : Program} {t t2 ty e e2 : TypeId} {i : TypeInfo} {b : Option Addr} {n c : Nat} {x : Value} {w : World} (ht : P.underlying t = some (.slice e)) (ht2 : P.underlying t2 = some (.slice e2)) (hi : P.info? e = some i) :
    (Builtin.append_ #[t, t2] ty #[.slice b n c, x]).run P w = (Builtin.append_ #[t, t] ty #[.slice b n c, x]).run P w := by
  simp [Builtin.append_, run_underlying ht, run_underlying ht2, sizeOf, typeInfo, hi]

/-- 'append(data, x...)' onto a row of one's own: where it lies. -/
theorem wpList_appW {ops : Array Oper} {rest : List Oper} {o : Oper} {a : Act} {Q : Exit → Act → World → Prop} (w : World) (hgd : o.guard = none) (s x : Operand) (t t2 : TypeId)
    (ho : o.op = .call { callee := .builtin .append, args := #[s, x], argTypes := #[t, t2] }) (ht2 : Tryz.prog.underlying t2 = some (.slice 5))
    (base : Nat) (i : TypeInfo) (ht : Tryz.prog.underlying t = some (.slice 5)) (hi : Tryz.prog.info? 5 = some i) (hz : i.zero = some (.int .u8 0)) (hsize : i.size = 1) (hby : i.bytes = 1)
    (c0 : Option Addr) (cap n : Nat) (l : List Int) (hs : a.eval s = .slice c0 n cap) (hown : Own .u8 5 w base c0 cap l) (hn : l.length = n)
    (c : Option Addr) (m d : Nat) (zs : List Int) (hx : a.eval x = .slice c m d) (hr : Rd .u8 w c zs) (hm : zs.length = m) (hc : c = none → d = 0)
    (h63 : n + m ≤ 1000000) (hbase : base ≤ w.heap.size)
    (h : ∀ c' d' w', Wrt base w c0 c' d' (l ++ zs) w' → wpList Tryz.prog ops Q rest (a.put o.dst (.slice c' (n + m) d')) w') : wpList Tryz.prog ops Q (o :: rest) a w := by
  refine wpList_plain hgd fun K hK => ?_
  have e0 : (Value.slice c0 n cap).ownBlock = c0.map Addr.block := by cases c0 <;> rfl
  have gr : ∀ w', w.grownBy w' (c0.map Addr.block) → Sm (RowB c0) w w' := fun w' hg => Sm.grown hg (fun k hk => by
    cases c0 with
    | none => cases hk
    | some b => simp only [Option.map_some, Option.some.injEq] at hk; exact ⟨b, rfl, hk⟩)
  have fin : ∀ v' w', w'.ownsRow base 5 1 v' (n + m) ((l ++ zs).map (Value.int .u8)) → w.grownBy w' (Value.slice c0 n cap).ownBlock → (v'.ownBlock = (Value.slice c0 n cap).ownBlock ∨ v'.ownBlock = some w.heap.size) → K (a.put o.dst v') w' := by
    intro v' w' h1 h2 h3
    obtain ⟨c', d', rfl⟩ := ownsRow_shape h1
    rw [e0] at h2 h3
    refine hK _ _ (h c' d' w' ⟨Own.mk h1 (by simp [hn, hm]), gr _ h2, fun k hk => ?_⟩)
    obtain ⟨b, rfl, rfl⟩ := hk
    have e1 : (Value.slice (some b) (n + m) d').ownBlock = some b.block := rfl
    rw [e1] at h3
    rcases h3 with h3 | h3
    · left
      cases c0 with
      | none => cases h3
      | some q => simp only [Option.map_some, Option.some.injEq] at h3; exact ⟨q, rfl, h3.symm⟩
    · right; simp only [Option.some.injEq] at h3; omega
  cases c with
  | none =>
    have hd := hc rfl
    subst hd
    have hz0 : zs = [] := by
      rcases hr with h0 | ⟨b, off, h0, _⟩
      · exact h0
      · cases h0
    subst hz0
    simp only [List.length_nil] at hm
    subst hm
    have hr2 := run_append_owned_none (P := Tryz.prog) w base t o.type 5 i 1 ht hi (.slice c0 n cap) n _ (hown.row hn)
    unfold Oper.wp execOp
    simp only [ho, resolve, invoke, builtin, Sem.run_bind, Sem.run_pure, Result.andThen_ok, List.map_toArray, List.map_cons, List.map_nil, hs, hx, append_t2 ht ht2 hi, hr2]
    exact fin _ w (by simpa using hown.row hn) (World.grownBy.refl _ _) (.inl rfl)
  | some ad =>
    obtain ⟨v', w', hrun, h1, h2, _, h4⟩ := run_append_own_at (P := Tryz.prog) w base t o.type 5 i (.int .u8 0) 1 1 ht hi hz hsize hby rfl (by decide) (.slice c0 n cap) n _ (hown.row hn) ad m d (zs.map (Value.int .u8)) (by simp [hm]) (fun j u hj => by
      rcases hr with h0 | ⟨b, off, h0, hcell⟩
      · subst h0; simp at hj
      · simp only [Option.some.injEq] at h0
        subst h0
        have hj' : j < zs.length := by
          rcases Nat.lt_or_ge j zs.length with h | h
          · exact h
          · simp [List.getElem?_eq_none h] at hj
        rw [Addr.add_lit, hcell j hj']
        simp [hj'] at hj
        subst hj
        simp [List.getD, hj']) (ints_oneCell _ _) (by unfold maxLen; omega) (by omega) hbase
    unfold Oper.wp execOp
    simp only [ho, resolve, invoke, builtin, Sem.run_bind, Sem.run_pure, Result.andThen_ok, List.map_toArray, List.map_cons, List.map_nil, hs, hx, append_t2 ht ht2 hi, hrun]
    exact fin v' w' (by simpa using h1) h2 h4

/-- A number is written. -/
theorem wp_num (S : Nat → Prop) (w0 : World) (v : Int) (s : Nat) (hp : ptIn v s) : WP S w0 (.iface 96 (.agg #[.int .i64 v, .int .i64 (s : Int)])) (putN v s) := by
  intro w base c n d zs _ O hn hbase _ hlen
  rw [length_putN] at hlen ⊢
  have CN := Hid.mk (fun w => numberBytes_ok v s w hp)
  have hta1 : ∀ wx : World, (Instr.typeAssert (.iface 96 (.agg #[.int .i64 v, .int .i64 (s : Int)])) 94 96 true).run Tryz.prog wx = .ok (.tuple #[.agg #[.int .i64 v, .int .i64 (s : Int)], .bool true]) wx := fun _ => by kernel_rfl
  obtain ⟨i0, hi, g0, g1, g2⟩ := info_parts Tryz.info_u8
  have HOW := Hid.mk O
  have HN := Hid.mk hn
  clear O hn
  go_enter Tryz.func27, Tryz.ntmps27
  have VX := V.new w [.int .i64 v, .int .i64 (s : Int)] 96
  obtain ⟨s_VX, f_VX, z_VX⟩ := VX.open
  go_wp2_with fail
  refine (CN.out _).mono ?_
  rintro e w1 ⟨c1, d1, rfl, O1, b1⟩
  clear s_VX f_VX z_VX VX
  have B1 := thenB (belowA w (.cells #[.int .i64 v, .int .i64 (s : Int)] 96)) b1
  have HO := Hid.mk (HOW.out.kept B1)
  have HR := Hid.mk O1.rd
  have hnc := O1.nocap
  have hsz := B1.size
  have S1 := Hid.mk (Sm.below (X := RowB c) B1)
  clear O1 b1 B1
  go_wp2_with (at_builtin; go_loud (refine wpList_appW _ rfl _ _ 22 22 rfl Tryz.underlying22 base i0 Tryz.underlying22 hi g0 g1 g2 c d n zs rfl HO.out HN.out c1 s d1 (putN v s) rfl HR.out (length_putN v s) hnc hlen (by omega) ?_))
  intro c' d' w2 W2
  have W3 := Hid.mk (Wrt.trans (base := base) ⟨HO.out, S1.out, fun k hk => .inl hk⟩ W2)
  clear W2
  go_wp2
  go_ret
  exact ⟨c', d', rfl, W3.out⟩

/-- Bytes are written as they are. -/
theorem wp_load (S : Nat → Prop) (w0 : World) (x : Option Addr) (m q : Nat) (ys : List Int) (hr : Rd .u8 w0 x ys) (hS : ys = [] ∨ ∀ b, x = some b → S b.block) (hm : ys.length = m) (hq : x = none → q = 0) : WP S w0 (.iface 98 (.slice x m q)) ys := by
  intro w base c n d zs hw O hn hbase _ hlen
  have HR : Hid (Rd .u8 w x ys) := Hid.mk (by
    rcases hS with h | hS
    · exact .inl h
    rcases hr with h | ⟨b, off, rfl, hc⟩
    · exact .inl h
    · have h1 := (hw b (hS _ rfl)).2
      exact .inr ⟨b, off, rfl, fun i hi => (World.cell?_of_block (a := ⟨b, off + i, none⟩) h1).trans (hc i hi)⟩)
  rw [hm] at hlen ⊢
  have hta1 : ∀ wx : World, (Instr.typeAssert (.iface 98 (.slice x m q)) 94 96 true).run Tryz.prog wx = .ok (.tuple #[.agg #[.int .i64 0, .int .i64 0], .bool false]) wx := fun _ => by kernel_rfl
  have hta2 : ∀ wx : World, (Instr.typeAssert (.iface 98 (.slice x m q)) 94 98 true).run Tryz.prog wx = .ok (.tuple #[.slice x m q, .bool true]) wx := fun _ => by kernel_rfl
  obtain ⟨i0, hi, g0, g1, g2⟩ := info_parts Tryz.info_u8
  have HO := Hid.mk O
  have HN := Hid.mk hn
  have HM := Hid.mk hm
  clear O hn hm hr
  go_enter Tryz.func27, Tryz.ntmps27
  go_wp2_with (at_builtin; go_loud (refine wpList_appW _ rfl _ _ 22 98 rfl Tryz.underlying98 base i0 Tryz.underlying22 hi g0 g1 g2 c d n zs rfl HO.out HN.out x m q ys rfl HR.out HM.out hq hlen (by omega) ?_))
  intro c' d' w2 W2
  have W3 := Hid.mk W2
  clear W2
  go_wp2
  go_ret
  exact ⟨c', d', rfl, W3.out⟩

end Go.Proofs.YtfldgeokigcokaaGreat
