/- Put together: KE, KF. -/
import Derived.Test.YthkmoabkeblbjaaNa
import Derived.Test.YthkmoabkeblbjaaMb
import Derived.Test.YthkmoabkeblbjaaHeld
import Derived.Test.YthkmoabkeblbjaaIntA
import Derived.Deep.RegionHeld
import Derived.Deep.CutBlock
import Derived.Test.YthkmoabkeblbjaaNb
import Derived.Test.YthkmoabkeblbjaaFill

/- A number put into a rising list; the fault of what is known: the model. The fault of what is known; what can be made: the model. What can be made of what is known: the model. All that lies open is opened: the model. -/
namespace Go.Proofs.Ythkmoabkeblbjaa

section

open Go.RowKit

/-- Numbers from wherever put behind an own row. -/
theorem wp_appI {o : Oper} {a : Act} {K : Act → World → Prop} {Q : Exit → Act → World → Prop} (w : World) (s x : Operand)
    (ho : o.op = .call { callee := .builtin .append, args := #[s, x], argTypes := #[37, 37] })
    (base : Nat) (g d : Nat) (xs : List Int) (n : Nat) (hn : xs.length = n) (hs : a.eval s = .slice (some ⟨g, 0, none⟩) n d) (hown : Own .i64 2 w base (some ⟨g, 0, none⟩) d xs)
    (ad : Addr) (m cc : Nat) (zs : List Int) (hm : zs.length = m) (hx : a.eval x = .slice (some ad) m cc) (hr : Rd .i64 w (some ad) zs) (hlen : n + m ≤ 1000000) (hbase : base ≤ w.heap.size)
    (h : ∀ g' d' w', Own .i64 2 w' base (some ⟨g', 0, none⟩) d' (xs ++ zs) → w.grownBy w' (some g) → K (a.put o.dst (.slice (some ⟨g', 0, none⟩) (n + m) d')) w') : o.wp Try.prog a w K Q := by
  subst hn hm
  obtain ⟨i, hi, hz, hsz, hby⟩ := info_parts Try.infoI64
  refine wp_append_own w s x 37 ho base 2 i _ 1 8 Try.underlying37 hi hz hsz hby (by rfl) (by decide) (.slice (some ⟨g, 0, none⟩) xs.length d) xs.length (xs.map (Value.int .i64)) hs hown ad zs.length cc (zs.map (Value.int .i64)) hx (by simp) (fun j u hj => ?_) (ints_oneCell _ _) (by unfold maxLen; omega) (by omega) hbase fun v' w' h1 h2 h3 => ?_
  · rcases hr with h0 | ⟨b, off, h0, hcell⟩
    · subst h0; simp at hj
    · simp only [Option.some.injEq] at h0
      subst h0
      have hj' : j < zs.length := by
        rcases Nat.lt_or_ge j zs.length with h | h
        · exact h
        · simp [List.getElem?_eq_none h] at hj
      rw [Addr.add_lit, hcell j hj']
      simp [hj'] at hj
      subst hj
      simp [List.getD, hj']
  · have e1 : xs.map (Value.int .i64) ++ zs.map (Value.int .i64) = (xs ++ zs).map (Value.int .i64) := by simp
    rw [e1] at h1
    rcases h1.2 with ⟨h4, _⟩ | ⟨g', cap', cur, h4, _⟩
    · rw [h3] at h4; simp at h4
    · subst h4
      refine h g' cap' w' ?_ h2
      unfold Own
      rw [List.length_append]
      exact h1

theorem step_appI {ops : Array Oper} {o : Oper} {a : Act} {K : Act → World → Prop} {Q : Exit → Act → World → Prop} {E : Prop} (w : World) (hgd : o.guard = none) (s x : Operand)
    (ho : o.op = .call { callee := .builtin .append, args := #[s, x], argTypes := #[37, 37] })
    (base : Nat) (g d : Nat) (xs : List Int) (n : Nat) (hn : xs.length = n) (hs : a.eval s = .slice (some ⟨g, 0, none⟩) n d) (hown : Own .i64 2 w base (some ⟨g, 0, none⟩) d xs)
    (ad : Addr) (m cc : Nat) (zs : List Int) (hm : zs.length = m) (hx : a.eval x = .slice (some ad) m cc) (hr : Rd .i64 w (some ad) zs) (hlen : n + m ≤ 1000000) (hbase : base ≤ w.heap.size)
    (h : ∀ g' d' w', Own .i64 2 w' base (some ⟨g', 0, none⟩) d' (xs ++ zs) → w.grownBy w' (some g) → K (a.put o.dst (.slice (some ⟨g', 0, none⟩) (n + m) d')) w') :
    if Region.wanted o (yielded ops a.tmps) = true then Oper.wp Try.prog o a w K Q else E := by
  have hw : Region.wanted o (yielded ops a.tmps) = true := by simp [Region.wanted, hgd]
  rw [if_pos hw]
  exact wp_appI w s x ho base g d xs n hn hs hown ad m cc zs hm hx hr hlen hbase h

theorem wpList_appI {ops : Array Oper} {rest : List Oper} {o : Oper} {a : Act} {Q : Exit → Act → World → Prop} (w : World) (hgd : o.guard = none) (s x : Operand)
    (ho : o.op = .call { callee := .builtin .append, args := #[s, x], argTypes := #[37, 37] })
    (base : Nat) (g d : Nat) (xs : List Int) (n : Nat) (hn : xs.length = n) (hs : a.eval s = .slice (some ⟨g, 0, none⟩) n d) (hown : Own .i64 2 w base (some ⟨g, 0, none⟩) d xs)
    (ad : Addr) (m cc : Nat) (zs : List Int) (hm : zs.length = m) (hx : a.eval x = .slice (some ad) m cc) (hr : Rd .i64 w (some ad) zs) (hlen : n + m ≤ 1000000) (hbase : base ≤ w.heap.size)
    (h : ∀ g' d' w', Own .i64 2 w' base (some ⟨g', 0, none⟩) d' (xs ++ zs) → w.grownBy w' (some g) → wpList Try.prog ops Q rest (a.put o.dst (.slice (some ⟨g', 0, none⟩) (n + m) d')) w') : wpList Try.prog ops Q (o :: rest) a w :=
  wpList_plain hgd fun _ hK => wp_appI w s x ho base g d xs n hn hs hown ad m cc zs hm hx hr hlen hbase fun g' d' w' h2 h3 => hK _ _ (h g' d' w' h2 h3)

theorem Rd.part {k : IntKind} {w : World} {b off : Nat} {l : List Int} (h : Rd k w (some ⟨b, off, none⟩) l) (p : Nat) : Rd k w (some ⟨b, off, none⟩) (l.take p) ∧ Rd k w (some ⟨b, off + p, none⟩) (l.drop p) := by
  rcases h with rfl | ⟨b', o', h0, hc⟩
  · exact ⟨.inl (by simp), .inl (by simp)⟩
  · simp only [Option.some.injEq, Addr.mk.injEq, and_true] at h0
    obtain ⟨rfl, rfl⟩ := h0
    refine ⟨.inr ⟨b, off, rfl, fun i hi => ?_⟩, .inr ⟨b, off + p, rfl, fun i hi => ?_⟩⟩
    · rw [List.length_take] at hi
      rw [hc i (by omega)]
      simp [List.getD, show i < p by omega]
    · rw [List.length_drop] at hi
      rw [Nat.add_assoc, hc (p + i) (by omega)]
      simp [List.getD, List.getElem?_drop]

theorem Rd.grownI {w w' : World} {b : Nat} {zs : List Int} {g : Nat} (h : Rd .i64 w (some ⟨b, 0, none⟩) zs) (hg : w.grownBy w' (some g)) (hne : b ≠ g) : Rd .i64 w' (some ⟨b, 0, none⟩) zs :=
  h.sm (X := fun k => k = g) (Sm.grown hg (fun k e => by cases e; rfl)) (fun bb hb e => by cases hb; exact hne e)

theorem belowG1 {B : Nat} {a w w' : World} {g : Nat} (h : Below B a w) (hg : w.grownBy w' (some g)) (hB : B ≤ w.heap.size) (hc : B ≤ g) : Below B a w' := h.grown hg hB fun k hk => by cases hk; exact hc

theorem rise_len (l : List Int) (v : Int) (h : Rising l) : (rise l v).length ≤ l.length + 1 := by
  have := nodup_sub_int (rise l v) (v :: l) (rise_rising h).nodup (fun x hx => by
    rcases rise_mem.1 hx with rfl | hx
    · simp
    · simp [hx])
  simpa using this

end

section

open Go.RowKit

end

section

open Go.RowKit

theorem cn1_1 (H : Int → Bool) (L : List Bool) (kn : Bool) {t : T4} (h : t.o = 1) : cn1 H L kn t = true := by unfold cn1; rw [if_pos h]

theorem cn1_2 (H : Int → Bool) (L : List Bool) (kn : Bool) {t : T4} (h : t.o = 2) : cn1 H L kn t = kn := by unfold cn1; simp [h]

theorem cn1_3 (H : Int → Bool) (L : List Bool) (kn : Bool) {t : T4} (h : t.o = 3 ∨ t.o = 4 ∨ t.o = 5) : cn1 H L kn t = (kn || (atB L t.a && atB L t.b)) := by unfold cn1; rw [if_neg (by omega), if_pos h]

theorem cn1_6 (H : Int → Bool) (L : List Bool) (kn : Bool) {t : T4} (h : t.o = 6) : cn1 H L kn t = (kn || atB L t.a) := by unfold cn1; simp [h]

theorem cn1_7 (H : Int → Bool) (L : List Bool) (kn : Bool) {t : T4} (h : t.o = 7) : cn1 H L kn t = (kn || ((atB L t.a && (atB L t.b || H t.b)) || (atB L t.b && H t.a))) := by unfold cn1; simp [h]

theorem mkM_in {xs : List T4} (h : tfC xs = 0) {M : List Bool} (hm : M.length = xs.length) {k : Nat} (hk : k < xs.length) {x : T4} (hx : xs.getD k zTerm = x) :
    mkM xs M (k + 1) = (mkM xs M k).set k (cn1 (fun j => atB (hfK xs M xs.length) j) (mkM xs M k) ((mkM xs M k).getD k false) x) := by
  rw [mkM_step h hm hk hx]
  obtain ⟨pa, pb⟩ := tfC_ahead h k hk
  rw [hx] at pa pb
  congr 1
  exact cn1_half (fun q => (hfK_end (pa q).1 (by have := (pa q).2; omega)).symm) (fun q => (hfK_end (pb q).1 (by have := (pb q).2; omega)).symm)

end

section

open Go.RowKit

theorem wpList_appA {ops : Array Oper} {rest : List Oper} {o : Oper} {a : Act} {Q : Exit → Act → World → Prop} (w : World) (hgd : o.guard = none) (s x : Operand)
    (ho : o.op = .call { callee := .builtin .append, args := #[s, x], argTypes := #[37, 37] })
    (base : Nat) (g d : Nat) (xs : List Int) (n : Nat) (hn : xs.length = n) (hs : a.eval s = .slice (some ⟨g, 0, none⟩) n d) (hown : Own .i64 2 w base (some ⟨g, 0, none⟩) d xs)
    (ad : Option Addr) (m cc : Nat) (zs : List Int) (hm : zs.length = m) (hx : a.eval x = .slice ad m cc) (hr : Rd .i64 w ad zs) (hc : ad = none → cc = 0) (hlen : n + m ≤ 1000000) (hbase : base ≤ w.heap.size)
    (h : ∀ g' d' w', Own .i64 2 w' base (some ⟨g', 0, none⟩) d' (xs ++ zs) → w.grownBy w' (some g) → wpList Try.prog ops Q rest (a.put o.dst (.slice (some ⟨g', 0, none⟩) (n + m) d')) w') : wpList Try.prog ops Q (o :: rest) a w := by
  cases ad with
  | some ad => exact wpList_appI w hgd s x ho base g d xs n hn hs hown ad m cc zs hm hx hr hlen hbase h
  | none =>
    have hcc := hc rfl
    subst hcc
    have hz : zs = [] := by
      rcases hr with h0 | ⟨b, o, h0, _⟩
      · exact h0
      · cases h0
    subst hz
    subst hn
    obtain rfl : m = 0 := by simpa using hm.symm
    refine wpList_plain hgd fun _ hK => ?_
    obtain ⟨i, hi, _, _, _⟩ := info_parts Try.infoI64
    have hr2 := run_append_owned_none (P := Try.prog) w base 37 o.type 2 i 1 Try.underlying37 hi (.slice (some ⟨g, 0, none⟩) xs.length d) xs.length (xs.map (Value.int .i64)) hown
    unfold Oper.wp execOp
    simp only [ho, resolve, invoke, builtin, Sem.run_bind, Sem.run_pure, Result.andThen_ok, List.map_toArray, List.map_cons, List.map_nil, hs, hx, hr2]
    exact hK _ _ (h g d w (by simpa using hown) (World.grownBy.refl _ _))

def lenV : Value → Nat
  | .slice _ n _ => n
  | _ => 0

theorem gives_3 {xs : List T4} {C : Int → Bool} {nx : List Int} {i : Int} (h : (tmAt xs i).o = 3) : gives xs C nx i = rise (rise nx (tmAt xs i).a) (tmAt xs i).b := by unfold gives; rw [if_pos h]

theorem gives_5 {xs : List T4} {C : Int → Bool} {nx : List Int} {i : Int} (h : (tmAt xs i).o = 5) (hc : C (tmAt xs i).a = true) : gives xs C nx i = rise nx (tmAt xs i).b := by unfold gives; rw [if_neg (by omega), if_pos ⟨h, hc⟩]

theorem gives_no {xs : List T4} {C : Int → Bool} {nx : List Int} {i : Int} (h3 : (tmAt xs i).o ≠ 3) (h5 : ¬ ((tmAt xs i).o = 5 ∧ C (tmAt xs i).a = true)) : gives xs C nx i = nx := by unfold gives; rw [if_neg h3, if_neg h5]

end

end Go.Proofs.Ythkmoabkeblbjaa

/- Chapter 6: the program's functions. Chapter 6: the model's functions. -/
namespace Go.Proofs.Ythkmoabkeblbjaa

section

open Go.RowKit

open Classical in
/-- How many places are not marked: read off the world. -/
noncomputable def leftW (base Q n : Nat) (w : World) : Nat := if h : ∃ M, Fl w base Q n M then left (Classical.choose h) else 0

theorem leftW_eq {base Q n : Nat} {w : World} {M : List Bool} (h : Fl w base Q n M) : leftW base Q n w = left M := by
  have hex : ∃ M, Fl w base Q n M := ⟨M, h⟩
  unfold leftW
  rw [dif_pos hex]
  rw [Fl.unique (Classical.choose_spec hex) h]

set_option maxHeartbeats 2000000 in
theorem openAll_ok (base kb p g : Nat) (c : Option Addr) (d Q n : Nat) (xs : List T4) (kn : List Int) (M : List Bool) (w : World) (H : Kn w base kb p g c d Q xs M) (hn : xs.length = n) (ht : tfC xs = 0) (hW : Way xs kn M) :
    Calls Try.prog 86 #[.pointer (some ⟨kb, 0, none⟩)] w fun e w' => e = .returned (.tuple #[]) ∧ ∃ M2, Kn w' base kb p g c d Q xs M2 ∧ IsOpen xs kn (plcs M2) ∧ Sm (fun k => k = Q) w w' := by
  have CO := Hid.mk (fun M w H hW => openMore_ok base kb p g c d Q n xs kn M w H hn ht hW)
  go_enter Try.func86, Try.ntmps86
  go_wp2
  go_loopw [] (fun wr => ∃ M2, Kn wr base kb p g c d Q xs M2 ∧ Way xs kn M2 ∧ Sm (fun k => k = Q) w wr) (fun wr => leftW base Q n wr)
  case atStart => exact ⟨M, H, hW, Sm.refl _ _⟩
  case round =>
    obtain ⟨M2, H2, hW2, hS⟩ := hrel
    have hf := H2.f
    rw [hn] at hf
    go_wp2_with fail
    refine (CO.out M2 _ H2 hW2).mono ?_
    rintro e w3 ⟨b, M3, rfl, H3, hW3, hno, hyes, hS3⟩
    cases b
    · obtain ⟨rfl, hO⟩ := hno rfl
      clear hyes
      go_wp2
      go_end0
      exact ⟨rfl, _, H3, hO, hS.trans hS3⟩
    · have hl := hyes rfl
      have hf3 := H3.f
      rw [hn] at hf3
      clear hno
      go_wp2
      go_roundw
      case rel => exact ⟨M3, H3, hW3, hS.trans hS3⟩
      case measure => rw [leftW_eq hf3, leftW_eq hf]; exact hl

theorem knOf_no (a : Option Addr) (n ca : Nat) (xs : List T4) (a2 : Option Addr) (n2 ca2 : Nat) (kn : List Int) (w : World) (ha : RdTerm w a xs) (hn : xs.length = n) (hx : n ≤ maxLen) (hok : ∀ t ∈ xs, okT t) (ha2 : Rd .i64 w a2 kn) (hn2 : kn.length = n2) (hx2 : n2 ≤ maxLen) (h : knC xs kn ≠ 0) :
    Calls Try.prog 85 #[.slice a n ca, .slice a2 n2 ca2] w fun e w' => e = .returned (.tuple #[.pointer none, .int .i64 (knC xs kn)]) ∧ Below w.heap.size w w' := by
  refine (knowledgeOf_ok a n ca xs a2 n2 ca2 kn w ha hn hx hok ha2 hn2 hx2).mono ?_
  rintro e w' ⟨v, k, rfl, hk, hb, ⟨_, rfl⟩ | ⟨h0, _⟩⟩
  · exact ⟨by rw [hk], hb⟩
  · exact absurd h0 h

theorem knOf_yes (a : Option Addr) (n ca : Nat) (xs : List T4) (a2 : Option Addr) (n2 ca2 : Nat) (kn : List Int) (w : World) (ha : RdTerm w a xs) (hn : xs.length = n) (hx : n ≤ maxLen) (hok : ∀ t ∈ xs, okT t) (ha2 : Rd .i64 w a2 kn) (hn2 : kn.length = n2) (hx2 : n2 ≤ maxLen) (h : knC xs kn = 0) :
    Calls Try.prog 85 #[.slice a n ca, .slice a2 n2 ca2] w fun e w' => ∃ kb p g c d Q, e = .returned (.tuple #[.pointer (some ⟨kb, 0, none⟩), .int .i64 0]) ∧ Kn w' w.heap.size kb p g c d Q xs (mrk n kn) ∧ Below w.heap.size w w' := by
  refine (knowledgeOf_ok a n ca xs a2 n2 ca2 kn w ha hn hx hok ha2 hn2 hx2).mono ?_
  rintro e w' ⟨v, k, rfl, hk, hb, ⟨h0, _⟩ | ⟨_, kb, p, g, c, d, Q, rfl, hK⟩⟩
  · exact absurd h h0
  · exact ⟨kb, p, g, c, d, Q, by rw [← hk, h], hn ▸ hK, hb⟩

/-- What is opened of what is known. -/
@[irreducible] def opL (xs : List T4) (kn : List Int) : List Int := if knC xs kn = 0 then openL xs kn else []

/-- Which terms follow. -/
@[irreducible] def dvF (xs : List T4) (kn : List Int) : List Bool := canL xs (isIn (openL xs kn))

@[irreducible] def dsL (xs : List T4) (kn : List Int) : List Int := if knC xs kn = 0 then plcs (dvF xs kn) else []

@[irreducible] def cmB (xs : List T4) (kn : List Int) (q : Int) : Bool := decide (knC xs kn = 0) && flg (canL xs (isIn kn)) q

@[irreducible] def dvB (xs : List T4) (kn : List Int) (q : Int) : Bool := decide (knC xs kn = 0) && flg (dvF xs kn) q

@[irreducible] def scB (xs : List T4) (kn : List Int) (q : Int) : Bool := decide (knC xs kn = 0) && (btw q 0 ((xs.length : Int) - 1) && !flg (dvF xs kn) q)

theorem kn_ways (xs : List T4) (kn : List Int) : (knC xs kn ≠ 0 ∧ opL xs kn = [] ∧ dsL xs kn = [] ∧ ∀ q, cmB xs kn q = false ∧ dvB xs kn q = false ∧ scB xs kn q = false) ∨
    (knC xs kn = 0 ∧ opL xs kn = openL xs kn ∧ dsL xs kn = plcs (dvF xs kn) ∧ ∀ q, cmB xs kn q = flg (canL xs (isIn kn)) q ∧ dvB xs kn q = flg (dvF xs kn) q ∧ scB xs kn q = (btw q 0 ((xs.length : Int) - 1) && !flg (dvF xs kn) q)) := by
  unfold opL dsL cmB dvB scB
  by_cases h : knC xs kn = 0
  · exact .inr ⟨h, by rw [if_pos h], by rw [if_pos h], fun q => by simp [h]⟩
  · exact .inl ⟨h, by rw [if_neg h], by rw [if_neg h], fun q => by simp [h]⟩

theorem open_is {xs : List T4} {kn : List Int} (h : knC xs kn = 0) {M : List Bool} (hO : IsOpen xs kn (plcs M)) : plcs M = openL xs kn := by
  obtain ⟨h1, _, h3, h4⟩ := knC_zero h
  exact openL_is (tfC_ahead h1) h4 h3 hO

theorem open_dv {xs : List T4} {kn : List Int} (h : knC xs kn = 0) {M : List Bool} (hO : IsOpen xs kn (plcs M)) : canL xs (flg M) = dvF xs kn := by
  unfold dvF
  rw [← open_is h hO, isIn_plcs]

theorem dvF_len (xs : List T4) (kn : List Int) : (dvF xs kn).length = xs.length := by unfold dvF; rw [canL_len]

theorem build_kr0 (k : Int) (w : World) : (Instr.build 42 #[(0, .int .i64 k)]).run Try.prog w = .ok (.agg #[.int .i64 k, .slice none 0 0]) w := run_build w 42 _ _ (by kernel_rfl)

theorem build_kr1 (c : Option Addr) (n d : Nat) (w : World) : (Instr.build 42 #[(1, .slice c n d)]).run Try.prog w = .ok (.agg #[.int .i64 0, .slice c n d]) w := run_build w 42 _ _ (by kernel_rfl)

theorem own_apart {w : World} {base : Nat} {a : Option Addr} {cap : Nat} {zs : List Int} {B : Nat} (h : Own .i64 2 w base a cap zs) (hB : ∀ b : Addr, a = some b → b.block ≠ B) (o : Nat) (vs : List Value) : Own .i64 2 (w.setCells B o vs) base a cap zs :=
  h.sm (X := fun k => k = B) (Sm.cells (X := fun k => k = B) (B := B) rfl o vs) (fun b hb e => hB b hb e)

variable (a : Option Addr) (n ca : Nat) (xs : List T4) (a2 : Option Addr) (n2 ca2 : Nat) (kn : List Int)

set_option maxHeartbeats 2000000 in
theorem derivedOf_no (w : World) (ha : RdTerm w a xs) (hn : xs.length = n) (hx : n ≤ maxLen) (hok : ∀ t ∈ xs, okT t) (ha2 : Rd .i64 w a2 kn) (hn2 : kn.length = n2) (hx2 : n2 ≤ maxLen) (h : knC xs kn ≠ 0) :
    Calls Try.prog 82 #[.slice a n ca, .slice a2 n2 ca2] w fun e w' => e = .returned (.tuple #[.slice none 0 0, .int .i64 (knC xs kn)]) ∧ Below w.heap.size w w' := by
  have CK := Hid.mk (knOf_no a n ca xs a2 n2 ca2 kn w ha hn hx hok ha2 hn2 hx2 h)
  have h2 : (knC xs kn != 0) = true := by simp [h]
  clear ha ha2 h
  generalize knC xs kn = kk at *
  go_enter Try.func82, Try.ntmps82
  go_wp2_with fail
  refine CK.out.mono ?_
  rintro e w1 ⟨rfl, b1⟩
  go_wp2
  refine bodyPost_ret (v := .tuple #[.slice none 0 0, .int .i64 kk]) (by simp [results, Try.results82, go_sem]) rfl ⟨rfl, b1⟩

set_option maxHeartbeats 2000000 in
theorem derivedOf_yes (w : World) (ha : RdTerm w a xs) (hn : xs.length = n) (hx : n ≤ maxLen) (hok : ∀ t ∈ xs, okT t) (ha2 : Rd .i64 w a2 kn) (hn2 : kn.length = n2) (hx2 : n2 ≤ maxLen) (h : knC xs kn = 0) :
    Calls Try.prog 82 #[.slice a n ca, .slice a2 n2 ca2] w fun e w' => ∃ Q2, e = .returned (.tuple #[.slice (some ⟨Q2, 0, none⟩) n n, .int .i64 0]) ∧ Fl w' w.heap.size Q2 n (dvF xs kn) ∧ Below w.heap.size w w' := by
  have CK := Hid.mk (knOf_yes a n ca xs a2 n2 ca2 kn w ha hn hx hok ha2 hn2 hx2 h)
  obtain ⟨ht, _, hpl, hri⟩ := knC_zero h
  have hw0 : Way xs kn (mrk n kn) := hn ▸ Way.start hpl
  have CO := Hid.mk (fun base kb p g c d Q w H => openAll_ok base kb p g c d Q n xs kn (mrk n kn) w H hn ht hw0)
  have CM := Hid.mk (fun base kb p g c d Q M w H => makeable_ok base kb p g c d Q n xs M w H hn ht)
  have hdv := Hid.mk (fun M => open_dv (xs := xs) (kn := kn) h (M := M))
  clear ha ha2
  go_enter Try.func82, Try.ntmps82
  go_wp2_with fail
  refine CK.out.mono ?_
  rintro e w1 ⟨kb, p, g, c, d, Q, rfl, HK, b1⟩
  clear CK
  go_wp2_with fail
  refine (CO.out _ _ _ _ _ _ _ _ HK).mono ?_
  rintro e w2 ⟨rfl, M2, HK2, hO, hS⟩
  have b2 := hS.below' b1 b1.size (fun k e => by subst e; exact HK.f.lt.1)
  clear HK hS
  go_wp2_with fail
  refine (CM.out _ _ _ _ _ _ _ _ _ HK2).mono ?_
  rintro e w3 ⟨Q2, rfl, hF, b3⟩
  rw [hdv.out _ hO] at hF
  have hF2 := hF.mono b2.size
  have b4 := thenB b2 b3
  clear HK2 hF b3 b2 b1
  go_wp2
  refine bodyPost_ret (v := .tuple #[.slice (some ⟨Q2, 0, none⟩) n n, .int .i64 0]) (by simp [results, Try.results82, go_sem]) rfl ⟨Q2, rfl, hF2, b4⟩

set_option maxHeartbeats 2000000 in
theorem implDerives_ok (q : Int) (w : World) (ha : RdTerm w a xs) (hn : xs.length = n) (hx : n ≤ maxLen) (hok : ∀ t ∈ xs, okT t) (ha2 : Rd .i64 w a2 kn) (hn2 : kn.length = n2) (hx2 : n2 ≤ maxLen) :
    Calls Try.prog 19 #[.slice a n ca, .slice a2 n2 ca2, .int .i64 q] w fun e w' => e = .returned (.bool (dvB xs kn q)) ∧ Below w.heap.size w w' := by
  rcases kn_ways xs kn with ⟨h, _, _, hb⟩ | ⟨h, _, _, hb⟩
  · have CK := Hid.mk (derivedOf_no a n ca xs a2 n2 ca2 kn w ha hn hx hok ha2 hn2 hx2 h)
    rw [(hb q).2.1]
    have h2 : (knC xs kn == 0) = false := by simp [h]
    clear ha ha2 h hb
    generalize knC xs kn = kk at *
    go_enter Try.func19, Try.ntmps19
    go_wp2_with fail
    refine CK.out.mono ?_
    rintro e w1 ⟨rfl, b1⟩
    go_wp2
    go_ret
    exact ⟨rfl, b1⟩
  · have CK := Hid.mk (derivedOf_yes a n ca xs a2 n2 ca2 kn w ha hn hx hok ha2 hn2 hx2 h)
    rw [(hb q).2.1]
    have hn4 : n ≤ 400 := by have := (tfC_zero (knC_zero h).1).1; omega
    have CH := Hid.mk (fun base Q M w h => has_ok base Q n M q w h (by omega))
    clear ha ha2 h hb
    go_enter Try.func19, Try.ntmps19
    go_wp2_with fail
    refine CK.out.mono ?_
    rintro e w1 ⟨Q2, rfl, hF, b1⟩
    go_wp2_with fail
    refine (CH.out _ _ _ _ hF).mono ?_
    rintro e w4 ⟨rfl, rfl⟩
    go_wp2
    go_ret
    exact ⟨rfl, b1⟩

set_option maxHeartbeats 2000000 in
theorem implIsSecret_ok (q : Int) (w : World) (ha : RdTerm w a xs) (hn : xs.length = n) (hx : n ≤ maxLen) (hok : ∀ t ∈ xs, okT t) (ha2 : Rd .i64 w a2 kn) (hn2 : kn.length = n2) (hx2 : n2 ≤ maxLen) :
    Calls Try.prog 21 #[.slice a n ca, .slice a2 n2 ca2, .int .i64 q] w fun e w' => e = .returned (.bool (scB xs kn q)) ∧ Below w.heap.size w w' := by
  rcases kn_ways xs kn with ⟨h, _, _, hb⟩ | ⟨h, _, _, hb⟩
  · have CK := Hid.mk (derivedOf_no a n ca xs a2 n2 ca2 kn w ha hn hx hok ha2 hn2 hx2 h)
    rw [(hb q).2.2]
    have h2 : (knC xs kn == 0) = false := by simp [h]
    clear ha ha2 h hb
    generalize knC xs kn = kk at *
    go_enter Try.func21, Try.ntmps21
    go_wp2_with fail
    refine CK.out.mono ?_
    rintro e w1 ⟨rfl, b1⟩
    go_wp2
    go_ret
    exact ⟨rfl, b1⟩
  · have CK := Hid.mk (derivedOf_yes a n ca xs a2 n2 ca2 kn w ha hn hx hok ha2 hn2 hx2 h)
    rw [(hb q).2.2, hn]
    have hn4 : n ≤ 400 := by have := (tfC_zero (knC_zero h).1).1; omega
    have CH := Hid.mk (fun base Q M w h => has_ok base Q n M q w h (by omega))
    have CP := Hid.mk (fun w c2 d2 h => arePlaces_one a n ca c2 d2 q w hx h)
    clear ha ha2 h hb
    go_enter Try.func21, Try.ntmps21
    go_wp2_with fail
    refine CK.out.mono ?_
    rintro e w1 ⟨Q2, rfl, hF, b1⟩
    have hR := (OwnI.lit w1 [q] [.int .i64 q] rfl (by unfold maxLen; simp)).rd
    have b2 := belowA w1 (.cells #[.int .i64 q] 2)
    have hF2 := hF.kept b2
    go_wp2_with fail
    refine (CP.out _ _ _ hR).mono ?_
    rintro e w4 ⟨rfl, rfl⟩
    cases hq : btw q 0 ((n : Int) - 1)
    · go_wp2
      go_ret
      exact ⟨ret_bool (by simp [hq]), thenB b1 b2⟩
    · go_wp2_with fail
      refine (CH.out _ _ _ _ hF2).mono ?_
      rintro e w4 ⟨rfl, rfl⟩
      go_wp2
      go_ret
      exact ⟨ret_bool (by simp [hq]), thenB b1 b2⟩

set_option maxRecDepth 20000 in
set_option maxHeartbeats 4000000 in
theorem implOpenAll_ok (w : World) (ha : RdTerm w a xs) (hn : xs.length = n) (hx : n ≤ maxLen) (hok : ∀ t ∈ xs, okT t) (ha2 : Rd .i64 w a2 kn) (hn2 : kn.length = n2) (hx2 : n2 ≤ maxLen) :
    Calls Try.prog 23 #[.slice a n ca, .slice a2 n2 ca2] w fun e w' => ∃ c d k, e = .returned (.agg #[.int .i64 (knC xs kn), .slice c k d]) ∧ (opL xs kn).length = k ∧ Own .i64 2 w' w.heap.size c d (opL xs kn) ∧ Below w.heap.size w w' := by
  have q1 := build_kr0
  have q2 := build_kr1
  rcases kn_ways xs kn with ⟨h, hop, hds, -⟩ | ⟨h, hop, hds, -⟩
  · rw [hop]
    have h2 : (knC xs kn != 0) = true := by simp [h]
    have CK := Hid.mk (fun w ha ha2 => knOf_no a n ca xs a2 n2 ca2 kn w ha hn hx hok ha2 hn2 hx2 h)
    clear h hop hds
    generalize knC xs kn = kk at *
    go_enter Try.func23, Try.ntmps23
    have B := Below.refl w.heap.size w
    replace ha := ha.kept (belowA w (.cells #[.int .i64 0, .slice none 0 0] 42))
    replace ha2 := ha2.kept (belowA w (.cells #[.int .i64 0, .slice none 0 0] 42))
    replace B := thenB B (belowA w (.cells #[.int .i64 0, .slice none 0 0] 42))
    have VR := V.new w [.int .i64 0, .slice none 0 0] 42
    obtain ⟨s_VR, f_VR, z_VR⟩ := VR.open
    have Bo := B
    go_wp2_with fail
    refine (CK.out _ ha ha2).mono ?_
    rintro e w201 ⟨rfl, b201⟩
    clear s_VR f_VR z_VR
    have S201 := b201.size
    simp only [World.size_alloc] at S201
    replace VR := VR.kept b201
    replace ha := ha.kept b201
    replace ha2 := ha2.kept b201
    replace B := thenB B b201
    clear b201
    obtain ⟨s_VR, f_VR, z_VR⟩ := VR.open
    have Bo := B
    clear s_VR f_VR z_VR
    have VF := Hid.mk (VR.filled [.int .i64 kk, .slice none 0 0] rfl)
    have HT := Hid.mk VR.there
    have BR := belowCells B (show w.heap.size ≤ w.heap.size by (first | omega | (simp; done) | (simp; omega))) 0 [.int .i64 kk, .slice none 0 0]
    replace BR := Hid.mk BR
    obtain ⟨s_VR, f_VR, z_VR⟩ := VR.open
    go_wp2_with (refine wpList_store_mid rfl 42 _ _ rfl (w.heap.size) 0 #[.int .i64 kk, .slice none 0 0] rfl rfl HT.out (by kernel_rfl) (by kernel_rfl) ?_)
    refine bodyPost_ret (v := .agg #[.int .i64 kk, .slice none 0 0]) (results_row Try.results23 _ _ (w.heap.size) [.int .i64 kk, .slice none 0 0] _ rfl VF.out Try.underlying42 rfl (by kernel_rfl)) rfl ⟨none, 0, 0, rfl, rfl, own_none, BR.out⟩
  · rw [hop, h]
    obtain ⟨ht, _, hpl, hri⟩ := knC_zero h
    have hn4 : n ≤ 400 := by have := (tfC_zero ht).1; omega
    have CK := Hid.mk (fun w ha ha2 => knOf_yes a n ca xs a2 n2 ca2 kn w ha hn hx hok ha2 hn2 hx2 h)
    have CR := Hid.mk (fun base Q M w h => rising_ok base Q n hn4 M w h)
    have hw0 : Way xs kn (mrk n kn) := hn ▸ Way.start hpl
    have CO := Hid.mk (fun base kb p g c d Q w H => openAll_ok base kb p g c d Q n xs kn (mrk n kn) w H hn ht hw0)
    have hop2 := Hid.mk (fun M => open_is (xs := xs) (kn := kn) h (M := M))
    clear h hop hds
    go_enter Try.func23, Try.ntmps23
    have B := Below.refl w.heap.size w
    replace ha := ha.kept (belowA w (.cells #[.int .i64 0, .slice none 0 0] 42))
    replace ha2 := ha2.kept (belowA w (.cells #[.int .i64 0, .slice none 0 0] 42))
    replace B := thenB B (belowA w (.cells #[.int .i64 0, .slice none 0 0] 42))
    have VR := V.new w [.int .i64 0, .slice none 0 0] 42
    obtain ⟨s_VR, f_VR, z_VR⟩ := VR.open
    have Bo := B
    go_wp2_with fail
    refine (CK.out _ ha ha2).mono ?_
    rintro e w221 ⟨kb, p, g, c, d, Q, rfl, HK, b221⟩
    clear s_VR f_VR z_VR
    have S221 := b221.size
    simp only [World.size_alloc] at S221
    replace VR := VR.kept b221
    replace ha := ha.kept b221
    replace ha2 := ha2.kept b221
    replace B := thenB B b221
    clear b221
    obtain ⟨s_VR, f_VR, z_VR⟩ := VR.open
    have Bo := B
    clear s_VR f_VR z_VR
    have HKl := HK.f.lt.1
    simp only [World.size_alloc] at HKl
    go_wp2_with fail
    refine (CO.out _ _ _ _ _ _ _ _ HK).mono ?_
    rintro e w230 ⟨rfl, M2, HK2, hO, hS⟩
    replace VR := VR.sm hS (fun e => by omega)
    replace B := hS.below' B B.size (fun k e => by subst e; omega)
    have Sz := hS.size
    have hE := Hid.mk (hop2.out _ hO)
    have VK := HK2.v
    have hF := HK2.f
    rw [hn] at VK hF
    clear HK HK2 hS ha ha2
    obtain ⟨s_VR, f_VR, z_VR⟩ := VR.open
    obtain ⟨s_VK, f_VK, z_VK⟩ := VK.open
    have Bo := B
    go_wp2_with fail
    refine (CR.out _ _ _ _ hF).mono ?_
    rintro e w222 ⟨c4, k4, d4, rfl, hk, O, b222⟩
    clear s_VR f_VR z_VR s_VK f_VK z_VK
    have S222 := b222.size
    replace VR := VR.kept b222
    replace VK := VK.kept b222
    replace B := thenB B b222
    clear b222
    obtain ⟨s_VR, f_VR, z_VR⟩ := VR.open
    obtain ⟨s_VK, f_VK, z_VK⟩ := VK.open
    have Bo := B
    have OL := fun b hb => (O.lt b hb).1
    rw [hE.out] at hk O
    replace hk := Hid.mk hk
    clear s_VR f_VR z_VR s_VK f_VK z_VK
    have VF := Hid.mk (VR.filled [.int .i64 0, .slice c4 k4 d4] rfl)
    have HT := Hid.mk VR.there
    have BR := belowCells B (show w.heap.size ≤ w.heap.size by (first | omega | (simp; done) | (simp; omega))) 0 [.int .i64 0, .slice c4 k4 d4]
    replace BR := Hid.mk BR
    have BS := B.size
    have HO := Hid.mk (own_apart (B := w.heap.size) (O.mono (base' := w.heap.size) (by omega)) (fun b hb => by have := OL b hb; omega) 0 [.int .i64 0, .slice c4 k4 d4])
    obtain ⟨s_VR, f_VR, z_VR⟩ := VR.open
    obtain ⟨s_VK, f_VK, z_VK⟩ := VK.open
    go_wp2_with (refine wpList_store_mid rfl 42 _ _ rfl (w.heap.size) 0 #[.int .i64 0, .slice c4 k4 d4] rfl rfl HT.out (by kernel_rfl) (by kernel_rfl) ?_)
    refine bodyPost_ret (v := .agg #[.int .i64 0, .slice c4 k4 d4]) (results_row Try.results23 _ _ (w.heap.size) [.int .i64 0, .slice c4 k4 d4] _ rfl VF.out Try.underlying42 rfl (by kernel_rfl)) rfl ⟨_, d4, k4, rfl, hk.out, HO.out, BR.out⟩

end

section

open Go.RowKit

/-- The places that are marked among the first k. -/
@[irreducible] def plK (C : List Bool) (k : Nat) : List Int := ((List.range k).filter fun i => C.getD i false).map fun (i : Nat) => (i : Int)

theorem plK_zero (C : List Bool) : plK C 0 = [] := by unfold plK; rfl

theorem plK_yes {C : List Bool} {k : Nat} (h : C.getD k false = true) : plK C (k + 1) = plK C k ++ [(k : Int)] := by
  unfold plK; rw [List.range_succ, List.filter_append, List.map_append, List.filter_cons_of_pos (by exact h)]; rfl

theorem plK_no {C : List Bool} {k : Nat} (h : C.getD k false = false) : plK C (k + 1) = plK C k := by
  unfold plK; rw [List.range_succ, List.filter_append, List.map_append, List.filter_cons_of_neg (by rw [h]; decide)]; simp

theorem plK_all (C : List Bool) : plK C C.length = plcs C := by unfold plK plcs; rfl

theorem plK_len (C : List Bool) (k : Nat) : (plK C k).length ≤ k := by
  unfold plK
  rw [List.length_map]
  exact Nat.le_trans (List.length_filter_le _ _) (by simp)

theorem flg_at {C : List Bool} {q : Int} (h0 : 0 ≤ q) : flg C q = C.getD q.toNat false := by unfold flg; simp [h0]

theorem flg_off {C : List Bool} {q : Int} {n : Nat} (hl : C.length = n) (h : btw q 0 ((n : Int) - 1) = false) : flg C q = false := flg_btw (by rw [hl]; exact h)

variable (a : Option Addr) (n ca : Nat) (xs : List T4) (a2 : Option Addr) (n2 ca2 : Nat) (kn : List Int)

theorem build_kr (w : World) : (Instr.build 42 #[]).run Try.prog w = .ok (.agg #[.int .i64 0, .slice none 0 0]) w := run_build w 42 _ _ (by kernel_rfl)

end

end Go.Proofs.Ythkmoabkeblbjaa
