/- Put together: PwC, PwD, PwE. -/
import Derived.Test.YtfldgeokigcokaaGreatFWk
import Derived.Test.YtfldgeokigcokaaGreatFWs
import Derived.Test.YtfldgeokigcokaaGreatFWn

/- Rows of pieces; what a term's pieces write. -/
namespace Go.Proofs.YtfldgeokigcokaaGreat
open Go.RowKit

theorem Tryz.infoPc : (Tryz.prog.info? 94).map (fun i => (i.zero, i.size, i.bytes)) = some (some .nilIface, 1, 16) := by kernel_rfl

/-- A row of pieces that is the call's own. -/
def OwnV (w : World) (base : Nat) (a : Option Addr) (cap : Nat) (us : List Value) : Prop := w.ownsRow base 94 1 (.slice a us.length cap) us.length us

theorem OwnV.cells {w : World} {base g : Nat} {cap : Nat} {us : List Value} (h : OwnV w base (some ⟨g, 0, none⟩) cap us) : ∀ (j : Nat) u, us[j]? = some u → w.cell? ⟨g, j, none⟩ = some u := by
  intro j u hj
  have hl := (List.getElem?_eq_some_iff.1 hj).1
  rw [World.ownsRow.cellAt h j (by simpa using hl), hj]

theorem OwnV.lt {w : World} {base : Nat} {a : Option Addr} {cap : Nat} {us : List Value} (h : OwnV w base a cap us) : ∀ b, a = some b → base ≤ b.block ∧ b.block < w.heap.size := by
  intro b hb
  subst hb
  exact World.ownsRow.lt h b.block rfl

theorem OwnV.sm {X : Nat → Prop} {w w' : World} {base : Nat} {a : Option Addr} {cap : Nat} {us : List Value} (h : OwnV w base a cap us) (s : Sm X w w') (hx : ∀ b : Addr, a = some b → ¬ X b.block) : OwnV w' base a cap us :=
  ownsRow_sm h s fun k hk => by
    cases a with
    | none => cases hk
    | some b => simp [Value.ownBlock] at hk; subst hk; exact hx b rfl

theorem OwnV.kept {w w' : World} {base : Nat} {a : Option Addr} {cap : Nat} {us : List Value} (h : OwnV w base a cap us) (hb : Below w.heap.size w w') : OwnV w' base a cap us :=
  h.sm (X := fun _ => False) (Sm.below hb) (fun _ _ e => e)

theorem OwnV.lit (w : World) (us : List Value) (hm : us.length ≤ maxLen) : OwnV (w.alloc (.cells us.toArray 94)) w.heap.size (some ⟨w.heap.size, 0, none⟩) us.length us := by
  have h := World.ownsRow_lit (base := w.heap.size) (e := 94) (size := 1) w us.toArray us.length (Nat.le_refl _) hm (by simp)
  simpa [OwnV] using h

theorem OwnV.mono {w : World} {base base' : Nat} {a : Option Addr} {cap : Nat} {us : List Value} (h : OwnV w base a cap us) (hb : base' ≤ base) : OwnV w base' a cap us := by
  obtain ⟨h1, h2⟩ := h
  refine ⟨h1, ?_⟩
  rcases h2 with h2 | ⟨g, cap', cur, hv, hg, r⟩
  · exact .inl h2
  · exact .inr ⟨g, cap', cur, hv, by omega, r⟩

theorem wpList_putV {ops : Array Oper} {rest : List Oper} {o : Oper} {a : Act} {Q : Exit → Act → World → Prop} (w : World) (hgd : o.guard = none) (s x : Operand)
    (ho : o.op = .call { callee := .builtin .append, args := #[s, x], argTypes := #[56, 56] })
    (base : Nat) (c : Option Addr) (d : Nat) (us : List Value) (n : Nat) (hn : us.length = n) (hs : a.eval s = .slice c n d) (hown : OwnV w base c d us)
    (ad : Addr) (cc : Nat) (p : Value) (hp1 : p.oneCell' = true) (hx : a.eval x = .slice (some ad) 1 cc) (hp : w.cell? (ad.add 0) = some p)
    (hlen : n ≤ 1000000) (hbase : base ≤ w.heap.size)
    (h : ∀ g d' w', OwnV w' base (some ⟨g, 0, none⟩) d' (us ++ [p]) → w.grownBy w' (c.map Addr.block) → (∀ j, RowB (some ⟨g, 0, none⟩) j → RowB c j ∨ w.heap.size ≤ j) → wpList Tryz.prog ops Q rest (a.put o.dst (.slice (some ⟨g, 0, none⟩) (n + 1) d')) w') : wpList Tryz.prog ops Q (o :: rest) a w := by
  subst hn
  obtain ⟨i, hi, hz, hsz, hby⟩ : ∃ i, Tryz.prog.info? 94 = some i ∧ i.zero = some .nilIface ∧ i.size = 1 ∧ i.bytes = 16 := by
    have h := Tryz.infoPc
    cases he : Tryz.prog.info? 94 with
    | none => rw [he] at h; cases h
    | some i =>
      rw [he] at h
      simp only [Option.map_some, Option.some.injEq, Prod.mk.injEq] at h
      exact ⟨i, rfl, h.1, h.2.1, h.2.2⟩
  refine wpList_append_lies w hgd s x 56 ho base 94 i _ 1 16 Tryz.underlying56 hi hz hsz hby (by rfl) (by decide) (.slice c us.length d) us.length us hs hown ad 1 cc [p] hx rfl (fun j u hj => ?_) ?_ (by decide) (by unfold maxLen; omega) (by omega) hbase _ rfl ?_
  · match j, hj with
    | 0, hj => simp only [List.getElem?_cons_zero, Option.some.injEq] at hj; rw [← hj]; exact hp
  · intro u hu
    simp only [List.mem_cons, List.not_mem_nil, or_false] at hu
    subst hu; exact hp1
  · intro g cap w' h1 h2 h3 h4
    have e1 : (us ++ [p]).length = us.length + 1 := by simp
    have h2' : w.grownBy w' (c.map Addr.block) := by cases c <;> exact h2
    refine h g cap w' ?_ h2' (fun j hj => ?_)
    · unfold OwnV; rw [e1]; exact h1
    · obtain ⟨b, hb, rfl⟩ := hj
      simp only [Option.some.injEq] at hb
      subst hb
      rcases h3 with h3 | h3
      · left; cases c with
        | none => cases h3
        | some b => exact ⟨b, rfl, by simpa [Value.ownBlock] using h3⟩
      · exact .inr (by simp only; omega)

/-- Pieces of a row, each with the bytes that it writes. -/
structure Pcs (B : Nat) (c : Option Addr) (us : List Value) (bs : List (List Int)) (w : World) : Prop where
  ex : ∃ S : Nat → Prop, (∀ j, S j → B ≤ j ∧ j < w.heap.size ∧ ¬ RowB c j) ∧ ∀ (i : Nat) (u : Value), us[i]? = some u → WP S w u (bs.getD i [])

theorem Pcs.none' {B : Nat} {c : Option Addr} {bs : List (List Int)} {w : World} : Pcs B c [] bs w := ⟨fun _ => False, fun _ h => h.elim, fun i u h => by simp at h⟩

/-- One piece more. -/
theorem Pcs.step {B : Nat} {c c3 : Option Addr} {us : List Value} {bs : List (List Int)} {w w1 w3 : World} {o : Obj} {u1 : Value} (P : Pcs B c us bs w) (b1 : Below w.heap.size w w1) (W1 : WP (fun q => w.heap.size ≤ q ∧ q < w1.heap.size) w1 u1 (bs.getD us.length []))
    (hB : B ≤ w.heap.size) (hc : ∀ j, RowB c j → j < w.heap.size) (hg : (w1.alloc o).grownBy w3 (c.map Addr.block)) (hx : ∀ j, RowB c3 j → RowB c j ∨ (w1.alloc o).heap.size ≤ j) : Pcs B c3 (us ++ [u1]) bs w3 := by
  obtain ⟨S, hS, hW⟩ := P.ex
  have hz1 := b1.size
  have hz2 : (w1.alloc o).heap.size = w1.heap.size + 1 := World.size_alloc _ _
  have hz3 := hg.size
  have far : ∀ j, j < w1.heap.size → ¬ RowB c j → w3.heap[j]? = w1.heap[j]? := fun j h1 h2 => by
    have e1 := hg.block j (by omega) (fun e => h2 (by
      cases c with
      | none => cases e
      | some b => simp only [Option.map_some, Option.some.injEq] at e; exact ⟨b, rfl, e.symm⟩))
    exact e1.trans ((belowA w1 o).block j h1)
  refine ⟨fun j => S j ∨ (w.heap.size ≤ j ∧ j < w1.heap.size), fun j hj => ?_, fun i u hi => ?_⟩
  · rcases hj with hj | hj
    · obtain ⟨h1, h2, h3⟩ := hS j hj
      refine ⟨h1, by omega, fun e => ?_⟩
      rcases hx j e with e | e
      · exact h3 e
      · omega
    · refine ⟨by omega, by omega, fun e => ?_⟩
      rcases hx j e with e | e
      · have := hc j e; omega
      · omega
  · rcases Nat.lt_or_ge i us.length with h | h
    · rw [List.getElem?_append_left h] at hi
      exact (hW i u hi).more (fun k hk => .inl hk) (fun k hk => by
        obtain ⟨h1, h2, h3⟩ := hS k hk
        exact (far k (by omega) h3).trans (b1.block k h2))
    · rw [List.getElem?_append_right h] at hi
      have hi0 : i - us.length = 0 := by
        rcases Nat.eq_zero_or_pos (i - us.length) with e | e
        · exact e
        · rw [List.getElem?_eq_none (by simp; omega)] at hi; cases hi
      rw [hi0] at hi
      simp only [List.getElem?_cons_zero, Option.some.injEq] at hi
      subst hi
      rw [show i = us.length by omega]
      exact W1.more (fun k hk => .inr hk) (fun k hk => far k hk.2 (fun e => by have := hc k e; omega))

theorem Pcs.keep {B : Nat} {c : Option Addr} {us : List Value} {bs : List (List Int)} {w w1 : World} (P : Pcs B c us bs w) (b1 : Below w.heap.size w w1) : Pcs B c us bs w1 := by
  obtain ⟨S, hS, hW⟩ := P.ex
  exact ⟨S, fun j hj => ⟨(hS j hj).1, Nat.lt_of_lt_of_le (hS j hj).2.1 b1.size, (hS j hj).2.2⟩, fun i u hi => (hW i u hi).more (fun _ h => h) (fun k hk => b1.block k (hS k hk).2.1)⟩

/-- All pieces of a row. -/
theorem Pcs.list {B g d n : Nat} {us : List Value} {bs : List (List Int)} {w : World} (P : Pcs B (some ⟨g, 0, none⟩) us bs w) (O : OwnV w B (some ⟨g, 0, none⟩) d us) (hn : us.length = n) (hb : bs.length = n) (h4 : n ≤ 1000) :
    WP (fun q => B ≤ q ∧ q < w.heap.size) w (.iface 56 (.slice (some ⟨g, 0, none⟩) n d)) bs.flatten := by
  obtain ⟨S, hS, hW⟩ := P.ex
  exact wp_list _ w g n d us bs hn hb h4 (O.lt _ rfl) (fun i u hi => O.cells i u hi) (fun i u hi => (hW i u hi).more (fun k hk => ⟨(hS k hk).1, (hS k hk).2.1⟩) (fun _ _ => rfl))

/-- The bytes of a term, told by its parts. -/
def bsL (xs : List T4) (x : T4) : List (List Int) := putN x.o 1 :: (if x.o = 1 ∨ x.o = 2 then [putN x.n 2] else (plD xs x).map fun p => (den xs p.toNat).enc)

theorem putN_of1 {o : Int} (h : 0 ≤ o ∧ o < 256) : putN o 1 = [o] := by
  simp [putN, digitN]; omega

theorem bsL_enc {xs : List T4} (hv : tfC xs = 0) {k : Nat} (hk : k < xs.length) {x : T4} (hx : xs.getD k zTerm = x) : (bsL xs x).flatten = (den xs k).enc := by
  obtain ⟨o, a, b, n⟩ := x
  have k1 := kids1
  have k2 := kids2
  have k3 := kids3
  have k4 := kids4
  have k5 := kids5
  have k6 := kids6
  have k7 := kids7
  unfold bsL plD plc
  simp only
  rcases den_kinds hv k hk o a b n hx with ⟨h, d, n0, n9⟩ | ⟨h, d, _⟩ | ⟨h, d, _⟩ | ⟨h, hc, d, _⟩ | ⟨h, hc, d, _⟩ <;> rw [d]
  · rw [if_pos h, putN_of1 (by omega)]
    simp [putN, digitN, List.range_succ, Tr.enc]
  · subst h
    rw [if_neg (by decide), if_neg (fun e => absurd e.1 (by decide)), k6, putN_of1 (by decide)]
    simp [Tr.enc]
  · rw [if_neg (by omega), if_neg (fun e => by omega), putN_of1 (by omega)]
    have hk2 : kids o = 2 := by rcases h with rfl | rfl | rfl <;> assumption
    rw [if_pos hk2]
    simp [Tr.enc]
  · subst h
    unfold tmAt at hc
    rw [if_neg (by decide), if_neg (fun e => hc e.2), k7, putN_of1 (by decide)]
    simp [Tr.enc]
  · subst h
    unfold tmAt at hc
    rw [if_neg (by decide), if_pos ⟨rfl, hc⟩, putN_of1 (by decide)]
    simp [Tr.enc]

theorem bsL_at {xs : List T4} {x : T4} (h : ¬ (x.o = 1 ∨ x.o = 2)) (q : Nat) (hq : q < (plD xs x).length) {i : Nat} (hi : (plD xs x).getD q 0 = (i : Int)) : (bsL xs x).getD (q + 1) [] = (den xs i).enc := by
  unfold bsL
  rw [if_neg h, List.getD_cons_succ]
  have : (plD xs x)[q] = (i : Int) := by rw [← hi]; simp [List.getD, hq]
  simp [List.getD, hq, this]

theorem bsL_len {xs : List T4} {x : T4} (h : ¬ (x.o = 1 ∨ x.o = 2)) : (bsL xs x).length = (plD xs x).length + 1 := by unfold bsL; rw [if_neg h]; simp

end Go.Proofs.YtfldgeokigcokaaGreat

/- termPiece. -/
namespace Go.Proofs.YtfldgeokigcokaaGreat
open Go.RowKit

theorem Pcs.first {B : Nat} {c : Option Addr} {u : Value} {bs : List (List Int)} {w : World} (h : WP (fun _ => False) w u (bs.getD 0 [])) : Pcs B c [u] bs w := ⟨fun _ => False, fun _ h => h.elim, fun i v hi => by
  match i, hi with
  | 0, hi => simp only [List.getElem?_cons_zero, Option.some.injEq] at hi; rw [← hi]; exact h⟩

theorem Pcs.two {B : Nat} {c : Option Addr} {u v : Value} {x y : List Int} {w : World} (h : WP (fun _ => False) w u x) (k : WP (fun _ => False) w v y) : Pcs B c [u, v] [x, y] w := ⟨fun _ => False, fun _ h => h.elim, fun i z hi => by
  match i, hi with
  | 0, hi => simp only [List.getElem?_cons_zero, Option.some.injEq] at hi; rw [← hi]; exact h
  | 1, hi => simp only [List.getElem?_cons_succ, List.getElem?_cons_zero, Option.some.injEq] at hi; rw [← hi]; exact k⟩

theorem build_wn (a b : Int) (w : World) : (Instr.build 96 #[(0, .int .i64 a), (1, .int .i64 b)]).run Tryz.prog w = .ok (.agg #[.int .i64 a, .int .i64 b]) w := run_build w 96 _ _ (by kernel_rfl)

theorem ptIn_1 {o : Int} (h : 1 ≤ o ∧ o ≤ 7) : ptIn o 1 := by unfold ptIn; simp; omega
theorem ptIn_2 {n : Int} (h : 0 ≤ n ∧ n ≤ 9999) : ptIn n 2 := by unfold ptIn; simp; omega

/-- What a call of 'termPiece' leaves. -/
def Piece (w : World) (bs : List Int) (e : Ending) (w' : World) : Prop :=
  ∃ g m d, e = .returned (.slice (some ⟨g, 0, none⟩) m d) ∧ WP (fun q => w.heap.size ≤ q ∧ q < w'.heap.size) w' (.iface 56 (.slice (some ⟨g, 0, none⟩) m d)) bs ∧ Below w.heap.size w w'

set_option maxRecDepth 20000 in
set_option maxHeartbeats 8000000 in
theorem termPiece_ok (a : Option Addr) (n ca : Nat) (xs : List T4) (hv : tfC xs = 0) (hn : xs.length = n) : ∀ (k : Nat) (w : World), RdTerm w a xs → k < n → (den xs k).sz ≤ 200 →
    Calls Tryz.prog 28 #[.slice a n ca, .int .i64 k] w (Piece w (den xs k).enc) := by
  intro k
  induction k using Nat.strongRecOn with
  | _ k ih =>
  intro w ha hk hs
  have q1 := build_wn
  obtain ⟨b1, o1, rfl⟩ := RdTerm.addr ha (by omega)
  have hkl : (k : Int) < (n : Int) := by omega
  obtain ⟨x, hx⟩ : ∃ x, xs.getD k zTerm = x := ⟨_, rfl⟩
  have CP := Hid.mk (fun w h => placesTold_ok (some ⟨b1, o1, none⟩) n ca xs hv hn k hk x hx w h)
  have HP := Hid.mk (plD_in hv (by omega) hx hs)
  have hm2 := plD_small xs x
  have HE := Hid.mk (bsL_enc hv (by omega) hx)
  have hop := op_right hv k (by omega) hx
  have hnn := (tm_zero ((tfC_zero hv).2 k (by omega)).1).2.1
  rw [hx] at hnn
  have P1 := Hid.mk (ptIn_1 hop)
  have P2 := Hid.mk (ptIn_2 hnn)
  have HAT := Hid.mk (fun h q hq i hi => bsL_at (xs := xs) (x := x) h q hq (i := i) hi)
  have HBL := Hid.mk (bsL_len (xs := xs) (x := x))
  obtain ⟨p0, p1, p2, p3⟩ := RdTerm.at ha k (by omega) x hx
  have CI := Hid.mk (fun i (h : i < k) w h1 h2 => ih i h w h1 (by omega) h2)
  have hlt1 : b1 < w.heap.size := World.block_lt_of_cell? (a := ⟨b1, o1 + k * 4, none⟩) w p0
  obtain ⟨m, hm⟩ : ∃ m, (plD xs x).length = m := ⟨_, rfl⟩
  have HM := Hid.mk hm
  rw [hm] at CP hm2 HAT HBL
  unfold Piece at CI ⊢
  rw [← HE.out]
  by_cases hl : x.o = 1 ∨ x.o = 2
  · have HB2 : Hid (bsL xs x = [putN x.o 1, putN x.n 2]) := Hid.mk (by unfold bsL; rw [if_pos hl])
    obtain ⟨o, ta, tb, nn⟩ := x
    simp only at p0 p1 p2 p3 hl P1 P2 HB2
    rw [HB2.out]
    clear ih hv hn hx hs hm hk hop hnn CP HP HE HAT HBL HM CI HB2 hm2
    rcases hl with rfl | rfl
    · skip
      go_enter Tryz.func28, Tryz.ntmps28
      have B := Below.refl w.heap.size w
      have Bo := B
      replace B := thenB B (belowA w (.cells #[.int .i64 1, .int .i64 ta, .int .i64 tb, .int .i64 nn] 70))
      have VT := V.new w [.int .i64 1, .int .i64 ta, .int .i64 tb, .int .i64 nn] 70
      obtain ⟨s_VT, f_VT, z_VT⟩ := VT.open
      have Bo := B
      clear s_VT f_VT z_VT
      have OV : OwnV (((w.alloc (.cells #[.int .i64 1, .int .i64 ta, .int .i64 tb, .int .i64 nn] 70)).alloc (.cells #[.iface 96 (.agg #[.int .i64 1, .int .i64 1])] 94)).alloc (.cells #[.iface 96 (.agg #[.int .i64 nn, .int .i64 2])] 94)) w.heap.size (some ⟨w.heap.size + 1, 0, none⟩) 1 [.iface 96 (.agg #[.int .i64 1, .int .i64 1])] := by
        have h := ((OwnV.lit (w.alloc (.cells #[.int .i64 1, .int .i64 ta, .int .i64 tb, .int .i64 nn] 70)) [.iface 96 (.agg #[.int .i64 1, .int .i64 1])] (by unfold maxLen; simp)).mono (base' := w.heap.size) (by simp)).kept (belowA _ (.cells #[.iface 96 (.agg #[.int .i64 nn, .int .i64 2])] 94))
        simpa using h
      have hc2 : (((w.alloc (.cells #[.int .i64 1, .int .i64 ta, .int .i64 tb, .int .i64 nn] 70)).alloc (.cells #[.iface 96 (.agg #[.int .i64 1, .int .i64 1])] 94)).alloc (.cells #[.iface 96 (.agg #[.int .i64 nn, .int .i64 2])] 94)).cell? ((⟨w.heap.size + 1 + 1, 0, none⟩ : Addr).add 0) = some (.iface 96 (.agg #[.int .i64 nn, .int .i64 2])) := by
        have h := newCells ((w.alloc (.cells #[.int .i64 1, .int .i64 ta, .int .i64 tb, .int .i64 nn] 70)).alloc (.cells #[.iface 96 (.agg #[.int .i64 1, .int .i64 1])] 94)) 94 [.iface 96 (.agg #[.int .i64 nn, .int .i64 2])] 0 _ rfl
        simpa using h
      have B3 : Below w.heap.size w (((w.alloc (.cells #[.int .i64 1, .int .i64 ta, .int .i64 tb, .int .i64 nn] 70)).alloc (.cells #[.iface 96 (.agg #[.int .i64 1, .int .i64 1])] 94)).alloc (.cells #[.iface 96 (.agg #[.int .i64 nn, .int .i64 2])] 94)) := (B.alloc (by simp) _).alloc (by simp; omega) _
      have OV := Hid.mk OV
      have hc2 := Hid.mk hc2
      have B3 := Hid.mk B3
      obtain ⟨s_VT, f_VT, z_VT⟩ := VT.open
      clear B Bo
      go_wp2_with (at_builtin; go_loud (refine wpList_putV _ rfl _ _ rfl w.heap.size (some ⟨w.heap.size + 1, 0, none⟩) 1 [.iface 96 (.agg #[.int .i64 1, .int .i64 1])] 1 rfl rfl OV.out ⟨w.heap.size + 1 + 1, 0, none⟩ 1 (.iface 96 (.agg #[.int .i64 nn, .int .i64 2])) rfl rfl hc2.out (by omega) B3.out.size ?_))
      intro g d' w9 O9 hg9 hx9
      have B9 := Hid.mk (B3.out.grown hg9 B3.out.size (fun j hj => by simp at hj; omega))
      have O9 := Hid.mk O9
      clear hg9 hx9 s_VT f_VT z_VT VT
      go_wp2
      go_ret
      refine ⟨g, 2, d', rfl, ?_, B9.out⟩
      exact Pcs.list (Pcs.two (wp_num _ _ 1 1 P1.out) (wp_num _ _ nn 2 P2.out)) O9.out rfl rfl (by decide)
    · skip
      go_enter Tryz.func28, Tryz.ntmps28
      have B := Below.refl w.heap.size w
      have Bo := B
      replace B := thenB B (belowA w (.cells #[.int .i64 2, .int .i64 ta, .int .i64 tb, .int .i64 nn] 70))
      have VT := V.new w [.int .i64 2, .int .i64 ta, .int .i64 tb, .int .i64 nn] 70
      obtain ⟨s_VT, f_VT, z_VT⟩ := VT.open
      have Bo := B
      clear s_VT f_VT z_VT
      have OV : OwnV (((w.alloc (.cells #[.int .i64 2, .int .i64 ta, .int .i64 tb, .int .i64 nn] 70)).alloc (.cells #[.iface 96 (.agg #[.int .i64 2, .int .i64 1])] 94)).alloc (.cells #[.iface 96 (.agg #[.int .i64 nn, .int .i64 2])] 94)) w.heap.size (some ⟨w.heap.size + 1, 0, none⟩) 1 [.iface 96 (.agg #[.int .i64 2, .int .i64 1])] := by
        have h := ((OwnV.lit (w.alloc (.cells #[.int .i64 2, .int .i64 ta, .int .i64 tb, .int .i64 nn] 70)) [.iface 96 (.agg #[.int .i64 2, .int .i64 1])] (by unfold maxLen; simp)).mono (base' := w.heap.size) (by simp)).kept (belowA _ (.cells #[.iface 96 (.agg #[.int .i64 nn, .int .i64 2])] 94))
        simpa using h
      have hc2 : (((w.alloc (.cells #[.int .i64 2, .int .i64 ta, .int .i64 tb, .int .i64 nn] 70)).alloc (.cells #[.iface 96 (.agg #[.int .i64 2, .int .i64 1])] 94)).alloc (.cells #[.iface 96 (.agg #[.int .i64 nn, .int .i64 2])] 94)).cell? ((⟨w.heap.size + 1 + 1, 0, none⟩ : Addr).add 0) = some (.iface 96 (.agg #[.int .i64 nn, .int .i64 2])) := by
        have h := newCells ((w.alloc (.cells #[.int .i64 2, .int .i64 ta, .int .i64 tb, .int .i64 nn] 70)).alloc (.cells #[.iface 96 (.agg #[.int .i64 2, .int .i64 1])] 94)) 94 [.iface 96 (.agg #[.int .i64 nn, .int .i64 2])] 0 _ rfl
        simpa using h
      have B3 : Below w.heap.size w (((w.alloc (.cells #[.int .i64 2, .int .i64 ta, .int .i64 tb, .int .i64 nn] 70)).alloc (.cells #[.iface 96 (.agg #[.int .i64 2, .int .i64 1])] 94)).alloc (.cells #[.iface 96 (.agg #[.int .i64 nn, .int .i64 2])] 94)) := (B.alloc (by simp) _).alloc (by simp; omega) _
      have OV := Hid.mk OV
      have hc2 := Hid.mk hc2
      have B3 := Hid.mk B3
      obtain ⟨s_VT, f_VT, z_VT⟩ := VT.open
      clear B Bo
      go_wp2_with (at_builtin; go_loud (refine wpList_putV _ rfl _ _ rfl w.heap.size (some ⟨w.heap.size + 1, 0, none⟩) 1 [.iface 96 (.agg #[.int .i64 2, .int .i64 1])] 1 rfl rfl OV.out ⟨w.heap.size + 1 + 1, 0, none⟩ 1 (.iface 96 (.agg #[.int .i64 nn, .int .i64 2])) rfl rfl hc2.out (by omega) B3.out.size ?_))
      intro g d' w9 O9 hg9 hx9
      have B9 := Hid.mk (B3.out.grown hg9 B3.out.size (fun j hj => by simp at hj; omega))
      have O9 := Hid.mk O9
      clear hg9 hx9 s_VT f_VT z_VT VT
      go_wp2
      go_ret
      refine ⟨g, 2, d', rfl, ?_, B9.out⟩
      exact Pcs.list (Pcs.two (wp_num _ _ 2 1 P1.out) (wp_num _ _ nn 2 P2.out)) O9.out rfl rfl (by decide)
  · have hl2 := HBL.out hl
    have HL := Hid.mk hl
    have h1 : (x.o == 1) = false := by simp; omega
    have h2 : (x.o == 2) = false := by simp; omega
    have HB0 : Hid ((bsL xs x).getD 0 [] = putN x.o 1) := Hid.mk (by unfold bsL; rw [List.getD_cons_zero])
    generalize plD xs x = ps at *
    generalize bsL xs x = bs at *
    obtain ⟨o, ta, tb, nn⟩ := x
    simp only at p0 p1 p2 p3 CP P1 h1 h2 HB0
    have hl3 := Hid.mk hl2
    clear ih hv hn hx hs hm hk hop hnn HE HBL hl hl2 P2
    go_enter Tryz.func28, Tryz.ntmps28
    have B := Below.refl w.heap.size w
    have Bo := B
    replace ha := ha.kept (belowA w (.cells #[.int .i64 o, .int .i64 ta, .int .i64 tb, .int .i64 nn] 70))
    replace B := thenB B (belowA w (.cells #[.int .i64 o, .int .i64 ta, .int .i64 tb, .int .i64 nn] 70))
    have VT := V.new w [.int .i64 o, .int .i64 ta, .int .i64 tb, .int .i64 nn] 70
    obtain ⟨s_VT, f_VT, z_VT⟩ := VT.open
    have Bo := B
    replace VT := VT.kept (belowA (w.alloc (.cells #[.int .i64 o, .int .i64 ta, .int .i64 tb, .int .i64 nn] 70)) (.cells #[.iface 96 (.agg #[.int .i64 o, .int .i64 1])] 94))
    replace ha := ha.kept (belowA (w.alloc (.cells #[.int .i64 o, .int .i64 ta, .int .i64 tb, .int .i64 nn] 70)) (.cells #[.iface 96 (.agg #[.int .i64 o, .int .i64 1])] 94))
    replace B := thenB B (belowA (w.alloc (.cells #[.int .i64 o, .int .i64 ta, .int .i64 tb, .int .i64 nn] 70)) (.cells #[.iface 96 (.agg #[.int .i64 o, .int .i64 1])] 94))
    have VQ : V ((w.alloc (.cells #[.int .i64 o, .int .i64 ta, .int .i64 tb, .int .i64 nn] 70)).alloc (.cells #[.iface 96 (.agg #[.int .i64 o, .int .i64 1])] 94)) (w.heap.size + 1) [.iface 96 (.agg #[.int .i64 o, .int .i64 1])] := V.newAt _ _ _ _ (by simp)
    have OV : OwnV ((w.alloc (.cells #[.int .i64 o, .int .i64 ta, .int .i64 tb, .int .i64 nn] 70)).alloc (.cells #[.iface 96 (.agg #[.int .i64 o, .int .i64 1])] 94)) w.heap.size (some ⟨w.heap.size + 1, 0, none⟩) 1 [.iface 96 (.agg #[.int .i64 o, .int .i64 1])] := by
      have h := (OwnV.lit (w.alloc (.cells #[.int .i64 o, .int .i64 ta, .int .i64 tb, .int .i64 nn] 70)) [.iface 96 (.agg #[.int .i64 o, .int .i64 1])] (by unfold maxLen; simp)).mono (base' := w.heap.size) (by simp)
      simpa using h
    have PV : Pcs w.heap.size (some ⟨w.heap.size + 1, 0, none⟩) [.iface 96 (.agg #[.int .i64 o, .int .i64 1])] bs ((w.alloc (.cells #[.int .i64 o, .int .i64 ta, .int .i64 tb, .int .i64 nn] 70)).alloc (.cells #[.iface 96 (.agg #[.int .i64 o, .int .i64 1])] 94)) := Pcs.first (by rw [HB0.out]; exact wp_num _ _ o 1 P1.out)
    replace PV := Hid.mk PV
    clear s_VT f_VT z_VT
    obtain ⟨s_VT, f_VT, z_VT⟩ := VT.open
    obtain ⟨s_VQ, f_VQ, z_VQ⟩ := VQ.open
    have Bo := B
    go_wp2_with fail
    refine (CP.out _ ha).mono ?_
    rintro e w1 ⟨c, d, rfl, O, b1⟩
    have PV1 := Hid.mk (PV.out.keep b1)
    clear s_VT f_VT z_VT s_VQ f_VQ z_VQ
    have S1 := b1.size
    simp only [World.size_alloc] at S1
    replace VT := VT.kept b1
    replace VQ := VQ.kept b1
    replace ha := ha.kept b1
    replace OV := OV.kept b1
    replace B := thenB B b1
    clear b1
    obtain ⟨s_VT, f_VT, z_VT⟩ := VT.open
    obtain ⟨s_VQ, f_VQ, z_VQ⟩ := VQ.open
    have Bo := B
    have hps : Hid (∀ b, c = some b → b.block ≠ w.heap.size + 1 ∧ b.block < w1.heap.size) := Hid.mk (fun b hb => by have := O.lt b hb; simp at this; omega)
    skip
    clear s_VT f_VT z_VT s_VQ f_VQ z_VQ
    have R := O.rd
    have HR := Hid.mk R
    have HA := Hid.mk ha
    have HB := Hid.mk B
    have HO := Hid.mk OV
    clear VT VQ ha R O OV B Bo PV p0 p1 p2 p3
    go_wp2
    go_loopw [6, 37] (fun v i wr => ∃ (q : Nat) (g' d' : Nat) (us : List Value), q ≤ m ∧ i = .int .i64 q ∧ v = .slice (some ⟨g', 0, none⟩) (q + 1) d' ∧ Hid (us.length = q + 1) ∧ Hid (OwnV wr w.heap.size (some ⟨g', 0, none⟩) d' us) ∧ Hid (Pcs w.heap.size (some ⟨g', 0, none⟩) us bs wr) ∧ Hid (RdTerm wr (some ⟨b1, o1, none⟩) xs) ∧ Hid (Rd .i64 wr c ps) ∧ Hid (Below w.heap.size w wr) ∧ Hid (∀ b, c = some b → b.block ≠ g' ∧ b.block < wr.heap.size)) (fun _ i _ => m - (intOf i).toNat)
    case atStart => exact ⟨0, w.heap.size + 1, 1, _, Nat.zero_le _, rfl, rfl, Hid.mk rfl, HO, PV1, HA, HR, HB, hps⟩
    case round =>
      clear HO PV1 HA HR HB hps
      obtain ⟨q, g', d', us, hq, rfl, rfl, hu, O, P, A, R, B, hps⟩ := hrel
      by_cases hlt : q < m
      · have hql : (q : Int) < (m : Int) := by omega
        obtain ⟨i, hi, hik, si⟩ := HP.out (ps.getD q 0) (rk_mem (by rw [HM.out]; exact hlt))
        have hat := Hid.mk (HAT.out HL.out q hlt i hi)
        have CA := Hid.mk (fun w h => CI.out i hik w h si)
        obtain ⟨b2, o2, rfl, hc2⟩ := igetD_at R.out q (by rw [HM.out]; exact hlt)
        rw [hi] at hc2
        have hpq := hps.out _ rfl
        simp only at hpq
        have hgl := O.out.lt _ rfl
        simp only at hgl
        have hsB := B.out.size
        generalize (den xs i).enc = eb at *
        go_wp2_with fail
        refine (CA.out _ A.out).mono ?_
        rintro e w8 ⟨g1, m1, d1, rfl, W8, b8⟩
        have hs8 := b8.size
        clear hc2
        have bA := belowA w8 (.cells #[.iface 56 (.slice (some ⟨g1, 0, none⟩) m1 d1)] 94)
        have hcU : (w8.alloc (.cells #[.iface 56 (.slice (some ⟨g1, 0, none⟩) m1 d1)] 94)).cell? ((⟨w8.heap.size, 0, none⟩ : Addr).add 0) = some (.iface 56 (.slice (some ⟨g1, 0, none⟩) m1 d1)) := newCells w8 94 [.iface 56 (.slice (some ⟨g1, 0, none⟩) m1 d1)] 0 _ rfl
        have hzA : (w8.alloc (.cells #[.iface 56 (.slice (some ⟨g1, 0, none⟩) m1 d1)] 94)).heap.size = w8.heap.size + 1 := World.size_alloc _ _
        have hW8 := Hid.mk W8
        have hb8 := Hid.mk b8
        have OA := Hid.mk ((O.out.kept b8).kept bA)
        have AA := Hid.mk ((A.out.kept b8).kept bA)
        have RA := Hid.mk ((R.out.kept b8).kept bA)
        have BA := Hid.mk (thenB (thenB B.out b8) bA)
        have hcU := Hid.mk hcU
        have hbs : w.heap.size ≤ (w8.alloc (.cells #[.iface 56 (.slice (some ⟨g1, 0, none⟩) m1 d1)] 94)).heap.size := by omega
        have HZA := Hid.mk hzA
        clear W8 b8 bA hzA
        go_wp2_with (at_builtin; go_loud (refine wpList_putV _ rfl _ _ rfl w.heap.size (some ⟨g', 0, none⟩) d' us (q + 1) hu.out rfl OA.out ⟨w8.heap.size, 0, none⟩ 1 (.iface 56 (.slice (some ⟨g1, 0, none⟩) m1 d1)) rfl rfl hcU.out (by omega) hbs ?_))
        intro g9 d9 w9 O9 hg9 hx9
        have hs9 := hg9.size
        have S9 : Sm (fun j => j = g') (w8.alloc (.cells #[.iface 56 (.slice (some ⟨g1, 0, none⟩) m1 d1)] 94)) w9 := Sm.grown hg9 (fun j hj => by simp at hj; exact hj.symm)
        have P9 := Hid.mk (P.out.step hb8.out (by rw [hu.out, hat.out]; exact hW8.out) (by omega) (fun j hj => by obtain ⟨b, hb, rfl⟩ := hj; simp only [Option.some.injEq] at hb; subst hb; exact hgl.2) hg9 (by rw [HZA.out]; exact hx9))
        have A9 := Hid.mk (AA.out.sm S9 (fun b hb => by simp only [Option.some.injEq] at hb; subst hb; simp only; omega))
        have R9 := Hid.mk (RA.out.sm S9 (fun b hb => by simp only [Option.some.injEq] at hb; subst hb; exact hpq.1))
        have B9 := Hid.mk (BA.out.grown hg9 hbs (fun j hj => by simp at hj; omega))
        have O9 := Hid.mk O9
        have hu9 : Hid ((us ++ [Value.iface 56 (.slice (some ⟨g1, 0, none⟩) m1 d1)]).length = q + 1 + 1) := Hid.mk (by rw [List.length_append, hu.out]; rfl)
        have hp9 : Hid (∀ b : Addr, some (⟨b2, o2, none⟩ : Addr) = some b → b.block ≠ g9 ∧ b.block < w9.heap.size) := Hid.mk (fun b hb => by
          simp only [Option.some.injEq] at hb
          subst hb
          have := HZA.out
          refine ⟨fun e => ?_, by simp only; omega⟩
          rcases hx9 g9 ⟨_, rfl, rfl⟩ with ⟨b, hb, e2⟩ | e2
          · simp only [Option.some.injEq] at hb; subst hb; simp only at e2 e; omega
          · simp only at e; omega)
        clear S9 hg9 hx9 O P A R B hps hu OA AA RA BA hW8 hb8 CA hcU HZA
        go_wp2
        go_roundw
        case rel => exact ⟨q + 1, g9, d9, _, by omega, by go_num, rfl, hu9, O9, P9, A9, R9, B9, hp9⟩
        case measure => simp [intOf]; omega
      · obtain rfl : q = m := by omega
        have hm2' : q ≤ 2 := hm2
        go_wp2
        go_ret
        exact ⟨g', q + 1, d', rfl, P.out.list O.out hu.out hl3.out (by omega), B.out⟩

end Go.Proofs.YtfldgeokigcokaaGreat

/- EncodeTerm of the program. -/
namespace Go.Proofs.YtfldgeokigcokaaGreat
open Go.RowKit

/-- How many names and secrets a term is made of. -/
def Tr.lv : Tr → Int
  | .leaf _ _ => 1
  | .one _ x => x.lv
  | .two _ x y => x.lv + y.lv

theorem Tr.enc_lv (t : Tr) (h : t.sz < 1000000) : (t.enc.length : Int) = t.sz + 2 * t.lv ∧ 2 * t.lv ≤ t.sz + 1 := by
  induction t with
  | leaf _ _ => simp [Tr.enc, Tr.sz, Tr.lv]
  | one _ x ih =>
    simp only [Tr.sz] at h ⊢
    obtain ⟨h1, h2⟩ := ih (by omega)
    simp only [Tr.enc, Tr.lv, List.length_cons]; omega
  | two _ x y ih1 ih2 =>
    simp only [Tr.sz] at h ⊢
    have p := x.sz_in
    have q := y.sz_in
    obtain ⟨h1, h2⟩ := ih1 (by omega)
    obtain ⟨h3, h4⟩ := ih2 (by omega)
    simp only [Tr.enc, Tr.lv, List.length_cons, List.length_append]; omega

theorem Tr.enc_fits (t : Tr) (h : t.sz ≤ 200) : t.enc.length ≤ 400 := by
  have := t.enc_lv (by omega)
  omega

theorem field_ir1 (a b : Int) (w : World) : (Instr.field 37 (.agg #[.int .i64 a, .int .i64 b]) 1).run Tryz.prog w = .ok (.int .i64 b) w := by kernel_rfl

theorem build_bic (c : Int) (w : World) : (Instr.build 31 #[(0, .int .i64 c)]).run Tryz.prog w = .ok (.agg #[.int .i64 c, .slice none 0 0]) w := run_build w 31 _ _ (by kernel_rfl)
theorem build_biv (c : Option Addr) (n d : Nat) (w : World) : (Instr.build 31 #[(1, .slice c n d)]).run Tryz.prog w = .ok (.agg #[.int .i64 0, .slice c n d]) w := run_build w 31 _ _ (by kernel_rfl)

set_option maxRecDepth 20000 in
set_option maxHeartbeats 8000000 in
theorem implEncodeTerm_ok (a : Option Addr) (n ca : Nat) (xs : List T4) (q : Int) (w : World) (ha : RdTerm w a xs) (hn : xs.length = n) (hx : n ≤ maxLen) (hca : n ≤ ca) (hok : ∀ t ∈ xs, okT t) :
    Calls Tryz.prog 8 #[.slice a n ca, .int .i64 q] w fun e w' => ∃ c d, e = .returned (.agg #[.int .i64 (enC xs q), .slice c (enB xs q).length d]) ∧ Own .u8 5 w' w.heap.size c d (enB xs q) ∧ Below w.heap.size w w' := by
  have q1 := build_bic
  have q2 := build_biv
  have q3 := field_ir1
  have CD := Hid.mk (fun w h => implDepthOf_ok a n ca xs q w h hn hx hca hok)
  have CS := Hid.mk (fun w h => implSizeOf_ok a n ca xs q w h hn hx hca hok)
  have HW := en_ways xs q
  by_cases h1 : akC xs q = 0
  case neg =>
    rcases HW with ⟨_, e1, e2⟩ | ⟨h, _⟩ | ⟨h, _⟩ | ⟨h, _⟩
    · rw [e1, e2]
      have h2 : (akC xs q != 0) = true := by simp [h1]
      clear h1 e1 e2 CS
      generalize akC xs q = kk at *
      generalize dpV xs q = dv at *
      go_enter Tryz.func8, Tryz.ntmps8
      have B := Below.refl w.heap.size w
      replace ha := ha.kept (belowA w (.cells #[.int .i64 0, .slice none 0 0] 31))
      replace B := thenB B (belowA w (.cells #[.int .i64 0, .slice none 0 0] 31))
      have VR := V.new w [.int .i64 0, .slice none 0 0] 31
      obtain ⟨s_VR, f_VR, z_VR⟩ := VR.open
      have Bo := B
      go_wp2_with fail
      refine (CD.out _ ha).mono ?_
      rintro e w1 ⟨rfl, b1⟩
      clear s_VR f_VR z_VR
      have S1 := b1.size
      simp only [World.size_alloc] at S1
      replace VR := VR.kept b1
      replace ha := ha.kept b1
      replace B := thenB B b1
      clear b1
      obtain ⟨s_VR, f_VR, z_VR⟩ := VR.open
      have Bo := B
      replace VR := VR.kept (belowA w1 (.cells #[.int .i64 kk, .int .i64 dv] 37))
      replace ha := ha.kept (belowA w1 (.cells #[.int .i64 kk, .int .i64 dv] 37))
      replace B := thenB B (belowA w1 (.cells #[.int .i64 kk, .int .i64 dv] 37))
      have VD := V.new w1 [.int .i64 kk, .int .i64 dv] 37
      clear s_VR f_VR z_VR
      obtain ⟨s_VR, f_VR, z_VR⟩ := VR.open
      obtain ⟨s_VD, f_VD, z_VD⟩ := VD.open
      have Bo := B
      clear s_VR f_VR z_VR s_VD f_VD z_VD
      have VF := Hid.mk (VR.filled [.int .i64 kk, .slice none 0 0] rfl)
      have HT := Hid.mk VR.there
      have BR := belowCells B (show w.heap.size ≤ w.heap.size by (first | omega | (simp; done) | (simp; omega))) 0 [.int .i64 kk, .slice none 0 0]
      replace BR := Hid.mk BR
      obtain ⟨s_VR, f_VR, z_VR⟩ := VR.open
      obtain ⟨s_VD, f_VD, z_VD⟩ := VD.open
      go_wp2_with (refine wpList_store_mid rfl 31 _ _ rfl (w.heap.size) 0 #[.int .i64 kk, .slice none 0 0] rfl rfl HT.out (by kernel_rfl) (by kernel_rfl) ?_)
      refine bodyPost_ret (v := .agg #[.int .i64 kk, .slice none 0 0]) (results_row Tryz.results8 _ _ (w.heap.size) [.int .i64 kk, .slice none 0 0] _ rfl VF.out Tryz.underlying31 rfl (by kernel_rfl)) rfl ⟨none, 0, rfl, own_none, BR.out⟩
    all_goals exact absurd h h1
  have hdp : dpV xs q = (den xs q.toNat).dp := by
    rcases dpV_ways xs q with ⟨h, _⟩ | ⟨_, h⟩
    · exact absurd h1 h
    · exact h
  have hsz : szV xs q = (den xs q.toNat).sz := by
    rcases szV_ways xs q with ⟨h, _⟩ | ⟨_, h⟩
    · exact absurd h1 h
    · exact h
  obtain ⟨hv, hq0, hq1⟩ := ak_zero h1
  rw [h1, hdp] at CD
  rw [h1, hsz] at CS
  obtain ⟨m, rfl⟩ : ∃ m : Nat, q = (m : Int) := ⟨q.toNat, by omega⟩
  rw [Int.toNat_natCast] at HW CD CS
  have CT := termPiece_ok a n ca xs hv hn m
  unfold Piece at CT
  have hfit := (den xs m).enc_fits
  obtain ⟨T, hT⟩ : ∃ T, den xs m = T := ⟨_, rfl⟩
  rw [hT] at HW CD CS CT hfit
  obtain ⟨D, hD⟩ : ∃ D, T.dp = D := ⟨_, rfl⟩
  obtain ⟨S, hS⟩ : ∃ S, T.sz = S := ⟨_, rfl⟩
  rw [hD] at HW CD
  rw [hS] at HW CS CT hfit
  have hmn : m < n := by omega
  clear hT hD hS hq0 hq1 hv hdp hsz
  rcases HW with ⟨h, _⟩ | ⟨_, h2, e1, e2⟩ | ⟨_, h2, h3, h4, e1, e2⟩ | ⟨_, h2, h3, h4, e1, e2⟩
  · exact absurd h1 h
  · rw [e1, e2]
    clear h1 e1 e2 CT hfit
    by_cases h3 : 30 < D
    · clear h2 CS
      go_enter Tryz.func8, Tryz.ntmps8
      have B := Below.refl w.heap.size w
      replace ha := ha.kept (belowA w (.cells #[.int .i64 0, .slice none 0 0] 31))
      replace B := thenB B (belowA w (.cells #[.int .i64 0, .slice none 0 0] 31))
      have VR := V.new w [.int .i64 0, .slice none 0 0] 31
      obtain ⟨s_VR, f_VR, z_VR⟩ := VR.open
      have Bo := B
      go_wp2_with fail
      refine (CD.out _ ha).mono ?_
      rintro e w21 ⟨rfl, b21⟩
      clear s_VR f_VR z_VR
      have S21 := b21.size
      simp only [World.size_alloc] at S21
      replace VR := VR.kept b21
      replace ha := ha.kept b21
      replace B := thenB B b21
      clear b21
      obtain ⟨s_VR, f_VR, z_VR⟩ := VR.open
      have Bo := B
      replace VR := VR.kept (belowA w21 (.cells #[.int .i64 0, .int .i64 D] 37))
      replace ha := ha.kept (belowA w21 (.cells #[.int .i64 0, .int .i64 D] 37))
      replace B := thenB B (belowA w21 (.cells #[.int .i64 0, .int .i64 D] 37))
      have VD := V.new w21 [.int .i64 0, .int .i64 D] 37
      clear s_VR f_VR z_VR
      obtain ⟨s_VR, f_VR, z_VR⟩ := VR.open
      obtain ⟨s_VD, f_VD, z_VD⟩ := VD.open
      have Bo := B
      clear s_VR f_VR z_VR s_VD f_VD z_VD
      have VF := Hid.mk (VR.filled [.int .i64 2, .slice none 0 0] rfl)
      have HT := Hid.mk VR.there
      have BR := belowCells B (show w.heap.size ≤ w.heap.size by (first | omega | (simp; done) | (simp; omega))) 0 [.int .i64 2, .slice none 0 0]
      replace BR := Hid.mk BR
      obtain ⟨s_VR, f_VR, z_VR⟩ := VR.open
      obtain ⟨s_VD, f_VD, z_VD⟩ := VD.open
      go_wp2_with (refine wpList_store_mid rfl 31 _ _ rfl (w.heap.size) 0 #[.int .i64 2, .slice none 0 0] rfl rfl HT.out (by kernel_rfl) (by kernel_rfl) ?_)
      refine bodyPost_ret (v := .agg #[.int .i64 2, .slice none 0 0]) (results_row Tryz.results8 _ _ (w.heap.size) [.int .i64 2, .slice none 0 0] _ rfl VF.out Tryz.underlying31 rfl (by kernel_rfl)) rfl ⟨none, 0, rfl, own_none, BR.out⟩
    · have h4 : 200 < S := by omega
      have h5 : D ≤ 30 := by omega
      clear h2 h3
      go_enter Tryz.func8, Tryz.ntmps8
      have B := Below.refl w.heap.size w
      replace ha := ha.kept (belowA w (.cells #[.int .i64 0, .slice none 0 0] 31))
      replace B := thenB B (belowA w (.cells #[.int .i64 0, .slice none 0 0] 31))
      have VR := V.new w [.int .i64 0, .slice none 0 0] 31
      obtain ⟨s_VR, f_VR, z_VR⟩ := VR.open
      have Bo := B
      go_wp2_with fail
      refine (CD.out _ ha).mono ?_
      rintro e w41 ⟨rfl, b41⟩
      clear s_VR f_VR z_VR
      have S41 := b41.size
      simp only [World.size_alloc] at S41
      replace VR := VR.kept b41
      replace ha := ha.kept b41
      replace B := thenB B b41
      clear b41
      obtain ⟨s_VR, f_VR, z_VR⟩ := VR.open
      have Bo := B
      replace VR := VR.kept (belowA w41 (.cells #[.int .i64 0, .int .i64 D] 37))
      replace ha := ha.kept (belowA w41 (.cells #[.int .i64 0, .int .i64 D] 37))
      replace B := thenB B (belowA w41 (.cells #[.int .i64 0, .int .i64 D] 37))
      have VD := V.new w41 [.int .i64 0, .int .i64 D] 37
      clear s_VR f_VR z_VR
      obtain ⟨s_VR, f_VR, z_VR⟩ := VR.open
      obtain ⟨s_VD, f_VD, z_VD⟩ := VD.open
      have Bo := B
      go_wp2_with fail
      refine (CS.out _ ha).mono ?_
      rintro e w42 ⟨rfl, b42⟩
      clear s_VR f_VR z_VR s_VD f_VD z_VD
      have S42 := b42.size
      simp only [World.size_alloc] at S42
      replace VR := VR.kept b42
      replace VD := VD.kept b42
      replace ha := ha.kept b42
      replace B := thenB B b42
      clear b42
      obtain ⟨s_VR, f_VR, z_VR⟩ := VR.open
      obtain ⟨s_VD, f_VD, z_VD⟩ := VD.open
      have Bo := B
      clear s_VR f_VR z_VR s_VD f_VD z_VD
      have VF := Hid.mk (VR.filled [.int .i64 2, .slice none 0 0] rfl)
      have HT := Hid.mk VR.there
      have BR := belowCells B (show w.heap.size ≤ w.heap.size by (first | omega | (simp; done) | (simp; omega))) 0 [.int .i64 2, .slice none 0 0]
      replace BR := Hid.mk BR
      obtain ⟨s_VR, f_VR, z_VR⟩ := VR.open
      obtain ⟨s_VD, f_VD, z_VD⟩ := VD.open
      go_wp2_with (refine wpList_store_mid rfl 31 _ _ rfl (w.heap.size) 0 #[.int .i64 2, .slice none 0 0] rfl rfl HT.out (by kernel_rfl) (by kernel_rfl) ?_)
      refine bodyPost_ret (v := .agg #[.int .i64 2, .slice none 0 0]) (results_row Tryz.results8 _ _ (w.heap.size) [.int .i64 2, .slice none 0 0] _ rfl VF.out Tryz.underlying31 rfl (by kernel_rfl)) rfl ⟨none, 0, rfl, own_none, BR.out⟩
  · have := hfit (by omega); omega
  · rw [e1, e2]
    replace CT := Hid.mk (fun w h => CT w h hmn (by omega))
    obtain ⟨l, hl⟩ : ∃ l, T.enc.length = l := ⟨_, rfl⟩
    rw [hl] at h4
    generalize T.enc = te at *
    replace hl := Hid.mk hl
    have hlh := hl.out
    clear h1 e1 e2 hfit
    go_enter Tryz.func8, Tryz.ntmps8
    have B := Below.refl w.heap.size w
    replace ha := ha.kept (belowA w (.cells #[.int .i64 0, .slice none 0 0] 31))
    replace B := thenB B (belowA w (.cells #[.int .i64 0, .slice none 0 0] 31))
    have VR := V.new w [.int .i64 0, .slice none 0 0] 31
    obtain ⟨s_VR, f_VR, z_VR⟩ := VR.open
    have Bo := B
    go_wp2_with fail
    refine (CD.out _ ha).mono ?_
    rintro e w61 ⟨rfl, b61⟩
    clear s_VR f_VR z_VR
    have S61 := b61.size
    simp only [World.size_alloc] at S61
    replace VR := VR.kept b61
    replace ha := ha.kept b61
    replace B := thenB B b61
    clear b61
    obtain ⟨s_VR, f_VR, z_VR⟩ := VR.open
    have Bo := B
    replace VR := VR.kept (belowA w61 (.cells #[.int .i64 0, .int .i64 D] 37))
    replace ha := ha.kept (belowA w61 (.cells #[.int .i64 0, .int .i64 D] 37))
    replace B := thenB B (belowA w61 (.cells #[.int .i64 0, .int .i64 D] 37))
    have VD := V.new w61 [.int .i64 0, .int .i64 D] 37
    clear s_VR f_VR z_VR
    obtain ⟨s_VR, f_VR, z_VR⟩ := VR.open
    obtain ⟨s_VD, f_VD, z_VD⟩ := VD.open
    have Bo := B
    go_wp2_with fail
    refine (CS.out _ ha).mono ?_
    rintro e w62 ⟨rfl, b62⟩
    clear s_VR f_VR z_VR s_VD f_VD z_VD
    have S62 := b62.size
    simp only [World.size_alloc] at S62
    replace VR := VR.kept b62
    replace VD := VD.kept b62
    replace ha := ha.kept b62
    replace B := thenB B b62
    clear b62
    obtain ⟨s_VR, f_VR, z_VR⟩ := VR.open
    obtain ⟨s_VD, f_VD, z_VD⟩ := VD.open
    have Bo := B
    go_wp2_with fail
    refine (CT.out _ ha).mono ?_
    rintro e w63 ⟨g1, m1, d1, rfl, WT, b63⟩
    clear s_VR f_VR z_VR s_VD f_VD z_VD
    have S63 := b63.size
    replace VR := VR.kept b63
    replace VD := VD.kept b63
    replace ha := ha.kept b63
    replace B := thenB B b63
    clear b63
    obtain ⟨s_VR, f_VR, z_VR⟩ := VR.open
    obtain ⟨s_VD, f_VD, z_VD⟩ := VD.open
    have Bo := B
    clear s_VR f_VR z_VR s_VD f_VD z_VD
    have hcz := VR.1
    obtain ⟨s_VR, f_VR, z_VR⟩ := VR.open
    obtain ⟨s_VD, f_VD, z_VD⟩ := VD.open
    go_wp2_with fail
    refine (WT w63 w.heap.size none 0 0 [] (fun q hq => ⟨hq.2, rfl⟩) own_none rfl (by omega) (fun q hq => by obtain ⟨b, hb, _⟩ := hq; cases hb) (by omega)).mono ?_
    rintro e w70 ⟨c3, d3, rfl, W⟩
    clear s_VR f_VR z_VR s_VD f_VD z_VD
    have b70 : Below w63.heap.size w63 w70 := W.sm.below' (Below.refl _ _) (Nat.le_refl _) (fun q hq => by obtain ⟨b, hb, _⟩ := hq; cases hb)
    have O := W.own
    rw [List.nil_append] at O
    have OLr : ∀ b : Addr, c3 = some b → w63.heap.size ≤ b.block := fun b hb => by
      rcases W.lies b.block ⟨b, hb, rfl⟩ with ⟨b', h', _⟩ | h
      · cases h'
      · exact h
    rw [hl.out]
    have hS70 := b70.size
    replace VR := VR.kept b70
    replace ha := ha.kept b70
    replace B := thenB B b70
    have OL : Hid (∀ b : Addr, c3 = some b → w.heap.size < b.block) := Hid.mk (fun b hb => Nat.lt_of_lt_of_le hcz (OLr b hb))
    clear W OLr b70 hcz VD WT
    simp only [Nat.zero_add]
    obtain ⟨s_VR, f_VR, z_VR⟩ := VR.open
    have Bo := B
    clear s_VR f_VR z_VR
    have VF := Hid.mk (VR.filled [.int .i64 0, .slice c3 l d3] rfl)
    have HT := Hid.mk VR.there
    have BR := belowCells B (show w.heap.size ≤ w.heap.size by (first | omega | (simp; done) | (simp; omega))) 0 [.int .i64 0, .slice c3 l d3]
    replace BR := Hid.mk BR
    have HO := Hid.mk ((O.mono (show w.heap.size ≤ _ by first | omega | (simp; done) | (simp; omega))).apart8 (B := w.heap.size) (by intro b hb; have := OL.out b hb; first | omega | (simp at this; omega)) 0 [.int .i64 0, .slice c3 l d3])
    obtain ⟨s_VR, f_VR, z_VR⟩ := VR.open
    go_wp2_with (refine wpList_store_mid rfl 31 _ _ rfl (w.heap.size) 0 #[.int .i64 0, .slice c3 l d3] rfl rfl HT.out (by kernel_rfl) (by kernel_rfl) ?_)
    refine bodyPost_ret (v := .agg #[.int .i64 0, .slice c3 l d3]) (results_row Tryz.results8 _ _ (w.heap.size) [.int .i64 0, .slice c3 l d3] _ rfl VF.out Tryz.underlying31 rfl (by kernel_rfl)) rfl ⟨c3, d3, by first | rfl | rw [hl.out], HO.out, BR.out⟩

end Go.Proofs.YtfldgeokigcokaaGreat
