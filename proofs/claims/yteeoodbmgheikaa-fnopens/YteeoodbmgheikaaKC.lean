/- The places of a row of marks, the last one first: the program's iterator; the places as a rising list. The places of a row of marks as a rising list: the program. -/
import Derived.Test.YteeoodbmgheikaaKB
import Derived.Test.YteeoodbmgheikaaSortI
import Derived.RangeFuncBox
import Derived.RangeFuncNested
import Derived.RangeFuncBound
import Derived.RangeFuncCalls
import Derived.RangeFuncLeaves
import Derived.Shelf.Abstract
import Derived.Shelf.RegionOpen
import Derived.OwnWalkIn
import Derived.TacticsInMore
import Derived.LoopNIn
import Derived.LoopIn
import Derived.Maps.AppendAt
import Derived.Test.YteeoodbmgheikaaZl
namespace Go.Proofs.Yteeoodbmgheikaa
section
open Go.RowKit Go.Shelf

attribute [local go_sem] Oper.semAt_some

/-- What a round keeps: the iterator's own variable; the row of marks, whose marks are of the places A and grow. -/
structure KpF (Bn base Q m : Nat) (A : Int → Prop) (W W' : World) : Prop where
  box : ∀ vs, V W Bn vs → V W' Bn vs
  row : ∀ M, Fl W base Q m M → (∀ z, flg M z = true → A z) → ∃ M', Fl W' base Q m M' ∧ (∀ z, flg M' z = true → A z) ∧ ∀ z, flg M z = true → flg M' z = true

theorem KpF.trans {Bn base Q m : Nat} {A : Int → Prop} {a b c : World} (h : KpF Bn base Q m A a b) (k : KpF Bn base Q m A b c) : KpF Bn base Q m A a c :=
  ⟨fun vs v => k.box vs (h.box vs v), fun M f hA => by
    obtain ⟨M1, f1, a1, g1⟩ := h.row M f hA
    obtain ⟨M2, f2, a2, g2⟩ := k.row M1 f1 a1
    exact ⟨M2, f2, a2, fun z hz => g2 z (g1 z hz)⟩⟩

/-- .. by whatever turns other blocks. -/
theorem KpF.of {Bn base Q m : Nat} {A : Int → Prop} {X : Nat → Prop} {W W' : World} (s : Sm X W W') (hb : ¬ X Bn) (hq : ¬ X Q) : KpF Bn base Q m A W W' :=
  ⟨fun _ v => v.sm s hb, fun M f hA => ⟨M, f.sm s hq, hA, fun _ h => h⟩⟩

theorem sm_putObj (W : World) (l : Nat) (o' : Obj) : Sm (fun k => k = l) W (W.putObj l o') := Sm.grown (grownBy_putObj' W l o') (fun k e => by cases e; rfl)

theorem KpF.put {Bn base Q m : Nat} {A : Int → Prop} {n : Nat} (h1 : Bn < n) (h2 : Q < n) (W : World) (l : Nat) (o o' : Obj) (hl : n ≤ l) (_ : W.heap[l]? = some o) (_ : o.isCells = false) (_ : o.isWalk = false) : KpF Bn base Q m A W (W.putObj l o') :=
  KpF.of (sm_putObj W l o') (by omega) (by omega)

/-- The places that come are of A. -/
abbrev Pl (A : Int → Prop) : Type := { x : Int // A x }

def vals {A : Int → Prop} (xs : List (Pl A)) : List Int := xs.map fun x => x.1

/-- What has come, the places from k on having been passed. -/
structure Came (A : Int → Prop) (M0 : List Bool) (m k : Nat) (pre : List (Pl A)) : Prop where
  fall : (vals pre).Pairwise fun x y => y < x
  from_ : ∀ z ∈ vals pre, (k : Int) ≤ z ∧ z < m
  all : ∀ z, flg M0 z = true → (k : Int) ≤ z → z ∈ vals pre

theorem Came.start {A : Int → Prop} {M0 : List Bool} {m : Nat} (hm : M0.length = m) : Came A M0 m m [] :=
  ⟨List.Pairwise.nil, fun z hz => by simp [vals] at hz, fun z hz hk => by have := flg_in hz; omega⟩

theorem Came.skip {A : Int → Prop} {M0 M : List Bool} {m k : Nat} {pre : List (Pl A)} (h : Came A M0 m (k + 1) pre) (hg : ∀ z, flg M0 z = true → flg M z = true) (hk : M.getD k false = false) : Came A M0 m k pre :=
  ⟨h.fall, fun z hz => by have := h.from_ z hz; omega, fun z hz hl => by
    by_cases e : z = k
    · subst e
      have := hg _ hz
      rw [flg_nat, hk] at this
      cases this
    · exact h.all z hz (by omega)⟩

theorem Came.next {A : Int → Prop} {M0 : List Bool} {m k : Nat} {pre : List (Pl A)} (h : Came A M0 m (k + 1) pre) (hk : k < m) (x : Pl A) (hx : x.1 = (k : Int)) : Came A M0 m k (pre ++ [x]) := by
  have e : vals (pre ++ [x]) = vals pre ++ [(k : Int)] := by simp [vals, hx]
  refine ⟨?_, ?_, ?_⟩
  · rw [e, List.pairwise_append]
    refine ⟨h.fall, List.pairwise_singleton _ _, fun a ha b hb => ?_⟩
    have := h.from_ a ha
    simp only [List.mem_singleton] at hb
    omega
  · intro z hz
    rw [e, List.mem_append] at hz
    rcases hz with hz | hz
    · have := h.from_ z hz; omega
    · simp only [List.mem_singleton] at hz; omega
  · intro z hz hl
    rw [e, List.mem_append]
    by_cases e2 : z = k
    · right; simp [e2]
    · left; exact h.all z hz (by omega)

theorem Came.len {A : Int → Prop} {M0 : List Bool} {m k : Nat} {pre : List (Pl A)} (h : Came A M0 m k pre) : pre.length ≤ m - k := by
  have e : pre.length = (vals pre).length := by simp [vals]
  have hn : ((vals pre).map fun z : Int => z - (k : Int)).Nodup := by
    refine List.Pairwise.map _ (fun a b (hab : b < a) => ?_) h.fall
    omega
  have := nodup_len (m - k) ((vals pre).map fun z : Int => z - (k : Int)) hn (fun p hp => by
    obtain ⟨z, hz, rfl⟩ := List.mem_map.1 hp
    have := h.from_ z hz
    omega)
  rw [List.length_map] at this
  omega

set_option maxRecDepth 100000 in
set_option maxHeartbeats 2000000 in
theorem fromLast1_in (n : Nat) (hn : 1 ≤ n) (l Bn base Q m : Nat) (hm : m ≤ 400) (A : Int → Prop) (M0 : List Bool) (J Jx : List (Pl A) → World → Prop)
    (hY : ∀ pre x W, J pre W → pre.length < m → YieldAt Fence.wide (n - 1) Try.prog l #[.int .i64 (x : Pl A).1] W fun e W' =>
      (e = .returned (.bool true) ∧ J (pre ++ [x]) W' ∧ KpF Bn base Q m A W W') ∨ (e = .returned (.bool false) ∧ Jx (pre ++ [x]) W'))
    (W : World) (hB : V W Bn [.slice (some ⟨Q, 0, none⟩) m m]) (hF : Fl W base Q m M0) (hA : ∀ z, flg M0 z = true → A z) (h0 : J [] W) :
    CallsIn Fence.wide n Try.prog 75 #[.func (.yield l) #[] #[], .pointer (some ⟨Bn, 0, none⟩)] W fun e W' => (∃ v, e = .returned v) ∧
      ((∃ xs, Came A M0 m 0 xs ∧ J xs W') ∨ (∃ pre : List (Pl A), True ∧ Jx pre W')) := by
  refine callsIn_of_wp Try.func75 rfl trivial ?_ rfl
  simp only [Try.ntmps75, List.size_toArray, List.length_cons, List.length_nil, Nat.reduceAdd, Nat.reduceSub, Array.replicate_succ, Array.replicate_zero, List.push_toArray, List.append_toArray, List.nil_append, List.cons_append]
  have HB := Hid.mk hB
  have HF := Hid.mk hF
  obtain ⟨s_B, f_B, z_B⟩ := hB.open
  gi_wp2
  gi_loopw [3] (fun i wr => ∃ (k : Nat) (M : List Bool) (pre : List (Pl A)), k ≤ m ∧ i = .int .i64 ((k : Int) - 1) ∧ V wr Bn [.slice (some ⟨Q, 0, none⟩) m m] ∧ Fl wr base Q m M ∧ (∀ z, flg M z = true → A z) ∧ (∀ z, flg M0 z = true → flg M z = true) ∧ Came A M0 m k pre ∧ J pre wr)
    (fun i _ => (intOf i + 1).toNat)
  case atStart =>
    exact ⟨m, M0, [], Nat.le_refl _, rfl, HB.out, HF.out, hA, fun _ h => h, Came.start HF.out.1, h0⟩
  case round =>
    clear s_B f_B z_B HB HF h0
    obtain ⟨k, M, pre, hk, rfl, VB, FM, HA, HG, HC, HJ⟩ := hrel
    cases k with
    | zero =>
      have e0 : ((0 : Nat) : Int) - 1 = -1 := by omega
      rw [e0]
      gi_wp2
      go_end0
      exact ⟨⟨_, rfl⟩, .inl ⟨pre, HC, HJ⟩⟩
    | succ k =>
      have e0 : ((k + 1 : Nat) : Int) - 1 = (k : Int) := by omega
      rw [e0]
      have hk0 : (0 : Int) ≤ (k : Int) := by omega
      have hk1 : (k : Int) < (m : Int) := by omega
      have p0 := FM.cell (j := k) (by omega)
      have VB' := Hid.mk VB
      obtain ⟨s_B, f_B, z_B⟩ := VB.open
      cases hv : M.getD k false
      · rw [hv] at p0
        have HC2 := HC.skip HG hv
        gi_wp2
        refine ⟨fun _ h => (by cases h), ?_⟩
        gi_wp2
        go_roundw
        case rel => exact ⟨k, M, pre, by omega, rfl, VB'.out, FM, HA, HG, HC2, HJ⟩
        case measure => first | (simp [intOf]; done) | (simp [intOf]; omega)
      · rw [hv] at p0
        have hAk : A (k : Int) := HA _ (by rw [flg_nat]; exact hv)
        have HC2 := HC.next (by omega) ⟨(k : Int), hAk⟩ rfl
        have hlen : pre.length < m := by have := HC.len; omega
        obtain ⟨fn, tmps, assign, body, hy, hR⟩ := hY pre ⟨(k : Int), hAk⟩ wr HJ hlen
        dsimp only at hy
        clear hlen
        gi_wp2
        refine hR.mono ?_
        rintro e W3 (⟨rfl, hJ3, hk3⟩ | ⟨rfl, hJx3⟩)
        · have VB3 := hk3.box _ VB'.out
          obtain ⟨M3, FM3, HA3, HG3⟩ := hk3.row M FM HA
          gi_wp2
          go_roundw
          case rel => exact ⟨k, M3, _, by omega, rfl, VB3, FM3, HA3, fun z hz => HG3 z (HG z hz), HC2, hJ3⟩
          case measure => first | (simp [intOf]; done) | (simp [intOf]; omega)
        · gi_wp2
          refine bodyPost_ret (results_none rfl _ _ _) rfl ?_
          exact ⟨⟨_, rfl⟩, .inr ⟨_, trivial, hJx3⟩⟩

/-- What the iterator gives. -/
theorem fromLast_stops (n : Nat) (hn : 1 ≤ n) (Bn base Q m : Nat) (hm : m ≤ 400) (A : Int → Prop) (M0 : List Bool) (w : World) (hB : V w Bn [.slice (some ⟨Q, 0, none⟩) m m]) (hF : Fl w base Q m M0) (hA : ∀ z, flg M0 z = true → A z) :
    SeqStopsK Fence.wide n Try.prog 75 #[.pointer (some ⟨Bn, 0, none⟩)] (fun x : Pl A => #[Value.int .i64 x.1]) (KpF Bn base Q m A) (fun xs => Came A M0 m 0 xs) (fun _ => True) m w := fun l J Jx W hW _ _ hY h0 =>
  fromLast1_in n hn l Bn base Q m hm A M0 J Jx hY W (hB.kept hW) (hF.kept hW) hA h0

set_option maxHeartbeats 1000000 in
theorem fromLast_ok (a : Option Addr) (n ca : Nat) (w : World) :
    Calls Try.prog 59 #[.slice a n ca] w fun e w' => e = .returned (.func (.func 75) #[] #[.pointer (some ⟨w.heap.size, 0, none⟩)]) ∧ w' = w.alloc (.cells #[.slice a n ca] 55) := by
  go_enter Try.func59, Try.ntmps59
  go_wp2
  go_ret
  exact ⟨rfl, rfl⟩
end

section
open Go.RowKit Go.Shelf

attribute [local go_sem] Oper.semAt_some

theorem vals_snoc {A : Int → Prop} (pre : List (Pl A)) (x : Pl A) : (vals pre).map (Value.int .i64) ++ [Value.int .i64 x.1] = (vals (pre ++ [x])).map (Value.int .i64) := by simp [vals]

theorem vals_len {A : Int → Prop} (pre : List (Pl A)) : (vals pre).length = pre.length := by simp [vals]

set_option maxRecDepth 100000 in
set_option maxHeartbeats 2000000 in
theorem appendSeq_ok (Bn base Q m : Nat) (hm : m ≤ 400) (A : Int → Prop) (M0 : List Bool) (w : World) (hB : V w Bn [.slice (some ⟨Q, 0, none⟩) m m]) (hF : Fl w base Q m M0) (hA : ∀ z, flg M0 z = true → A z) :
    Calls Try.prog 87 #[.slice none 0 0, .func (.func 75) #[] #[.pointer (some ⟨Bn, 0, none⟩)]] w fun e W' => ∃ (c : Option Addr) (k d : Nat) (xs : List (Pl A)), e = .returned (.slice c k d) ∧ (vals xs).length = k ∧ Came A M0 m 0 xs ∧ Own .i64 2 W' w.heap.size c d (vals xs) ∧ Below w.heap.size w W' := by
  refine (callsIn_wide (n := 10)).1 ?_
  obtain ⟨i0, hi, hz0, hz1, hz2⟩ := info_parts Try.infoI64
  refine callsIn_of_wp_marks Try.func87 rfl trivial ?_ rfl
  simp only [Try.ntmps87, List.size_toArray, List.length_cons, List.length_nil, Nat.reduceAdd, Nat.reduceSub, Array.replicate_succ, Array.replicate_zero, List.push_toArray, List.append_toArray, List.nil_append, List.cons_append]
  gi_wp2
  have bO := Boxed.new w 25 (.slice none 0 0)
  have hB0 : Below w.heap.size w (w.alloc (.cells #[.slice none 0 0] 25)) := belowA _ _
  have hBl := hB.1
  have hQl := hF.lt.2
  refine wpIn_rangeFunc_ownG (α := Pl A) (w0 := w) rfl (by decide) (gf := 75) (lb := #[.pointer (some ⟨Bn, 0, none⟩)]) rfl trivial (enters_of Try.func75 (by kernel_rfl) rfl)
    (fromLast_stops (10 - 1) (by decide) Bn base Q m hm A M0 w hB hF hA) KpF.trans (KpF.put (by simp; omega) (by simp; omega)) hB0 (fun _ => rfl)
    (fun pre W => (∃ v, Boxed W w.heap.size 25 v ∧ W.ownsRow w.heap.size 2 1 v (vals pre).length ((vals pre).map (Value.int .i64)) ∧ True) ∧ Below w.heap.size w W)
    (fun _ _ _ => False)
    (OwnFrom.and (Own.from (holdsRow_own w.heap.size w.heap.size 25 2 1 (fun pre : List (Pl A) => (vals pre).length) (fun pre => (vals pre).map (Value.int .i64)) (fun _ _ => True)) _) (ownFrom_below (Nat.le_refl _) (by simp)))
    (fun _ _ _ _ _ hs _ _ => hs)
    ⟨⟨_, bO, World.ownsRow_nil _ _ _ _, trivial⟩, hB0⟩
    (fun x => { tmps := #[.slice none 0 0, .func (.func 75) #[] #[.pointer (some ⟨Bn, 0, none⟩)], .pointer (some ⟨w.heap.size, 0, none⟩), undef, .slice none 0 0, .int .i64 x.1, .func (.func 75) #[] #[.pointer (some ⟨Bn, 0, none⟩)], .int .i64 x.1, undef, undef, undef, undef, undef], defers := [] }) ?assign ?body ?done ?stop
  case assign =>
    intro l x W K hK
    gi_wp2
    exact hK
  case body =>
    rintro l pre x W ⟨⟨v, hv, hrow, -⟩, hB⟩ hlt
    have hc := hv.cell
    have hle := hB.size
    have hbx : w.heap.size ≤ W.heap.size := hle
    gi_wp2_with (gi_at_builtin; refine wpListIn_append_own _ rfl _ _ 25 rfl w.heap.size 2 i0 (.int .i64 0) 1 8 Try.underlying25 hi hz0 hz1 hz2 rfl (by decide) _ _ _ rfl (hrow.alloc _) ⟨W.heap.size, 0, none⟩ 1 1 [.int .i64 x.1] rfl rfl (cell_one_new _ _ _) (by simp [Value.oneCell']) (by unfold maxLen; have := vals_len pre; omega) (by have := vals_len pre; omega) (by simp; omega) ?_; intro v' w1 hown' hgrow _; obtain ⟨g', cap', rfl⟩ := ownsRow_succ hown'; obtain ⟨hv1, hv2, hr2, hk2, hb2⟩ := hv.appended (by decide) hrow hle (Nat.le_refl _) hown' hgrow; have hc1 := hv1.cell; have hf1 := hv1.frozen)
    have s2 : Sm (fun k => w.heap.size ≤ k) W (w1.setCell ⟨w.heap.size, 0, none⟩ (.slice (some ⟨g', 0, none⟩) ((vals pre).length + 1) cap')) := ⟨hb2.os, hb2.tape, hb2.output, hb2.size, fun k hk hx => hb2.block k (by omega)⟩
    refine ⟨hk2.from _, KpF.of s2 (Nat.not_le.2 hBl) (Nat.not_le.2 hQl), ⟨_, hv2, ?_, trivial⟩, hB.trans hb2⟩
    rw [← vals_snoc]
    have e : (vals (pre ++ [x])).length = (vals pre).length + 1 := by simp [vals]
    rw [e]
    simpa using hr2
  case done =>
    rintro D ys W hD hS ⟨⟨v, hv, hrow, -⟩, hB⟩ hK
    have hc := hv.cell
    have hro := ownsRow_putObj hrow (.deferred none) hK rfl
    obtain ⟨c, d, rfl⟩ := ownsRow_shape hrow
    gi_wp2
    refine ⟨by simp, .inl ⟨_, _, rfl, run_takeDeferred hK, ?_⟩⟩
    exact ⟨_, results_tmp rfl _ _ _, c, _, d, ys, rfl, rfl, hS, hro, hB.trans (belowK_b (w := w) (Nat.le_refl _) W D _ _ (by simp at hD; omega) hK rfl rfl)⟩
  case stop =>
    rintro D c pre W _ _ h _
    exact h.elim

theorem sorted_is {zs ys : List Int} (hn : zs.Nodup) (hy : Rising ys) (h : ∀ z, z ∈ zs ↔ z ∈ ys) : srt zs = ys := by
  have h1 : (srt zs).Nodup := (srt_perm zs).nodup_iff.2 hn
  have h2 : Rising (srt zs) := List.Pairwise.imp₂ (fun a b (hab : a ≤ b) (hne : a ≠ b) => by omega) (srt_rising zs) h1
  exact rising_eq _ _ h2 hy fun z => by rw [srt_mem]; exact h z

theorem Came.sorted {M : List Bool} {m : Nat} {xs : List (Pl fun z => flg M z = true)} (h : Came (fun z => flg M z = true) M m 0 xs) : srt (vals xs) = plcs M := by
  refine sorted_is (h.fall.imp fun h e => by omega) (plcs_rising M) fun z => ?_
  rw [plcs_mem]
  constructor
  · intro hz
    obtain ⟨x, _, rfl⟩ := List.mem_map.1 hz
    exact x.2
  · intro hz
    exact h.all z hz (flg_in hz).1

set_option maxHeartbeats 1000000 in
theorem collect_ok (Bn base Q m : Nat) (hm : m ≤ 400) (A : Int → Prop) (M0 : List Bool) (w : World) (hB : V w Bn [.slice (some ⟨Q, 0, none⟩) m m]) (hF : Fl w base Q m M0) (hA : ∀ z, flg M0 z = true → A z) :
    Calls Try.prog 73 #[.func (.func 75) #[] #[.pointer (some ⟨Bn, 0, none⟩)]] w fun e W' => ∃ (c : Option Addr) (k d : Nat) (xs : List (Pl A)), e = .returned (.slice c k d) ∧ (vals xs).length = k ∧ Came A M0 m 0 xs ∧ Own .i64 2 W' w.heap.size c d (vals xs) ∧ Below w.heap.size w W' := by
  have C := Hid.mk (appendSeq_ok Bn base Q m hm A M0 w hB hF hA)
  clear hB hF hA
  go_enter Try.func73, Try.ntmps73
  go_wp2_with fail
  refine C.out.mono ?_
  rintro e W ⟨c, k, d, xs, rfl, h⟩
  go_wp2
  go_ret
  exact ⟨c, k, d, xs, rfl, h⟩

set_option maxHeartbeats 2000000 in
theorem sorted_ok (Bn base Q m : Nat) (hm : m ≤ 400) (M : List Bool) (w : World) (hB : V w Bn [.slice (some ⟨Q, 0, none⟩) m m]) (hF : Fl w base Q m M) :
    Calls Try.prog 58 #[.func (.func 75) #[] #[.pointer (some ⟨Bn, 0, none⟩)]] w fun e W' => ∃ (c : Option Addr) (k d : Nat), e = .returned (.slice c k d) ∧ (plcs M).length = k ∧ Own .i64 2 W' w.heap.size c d (plcs M) ∧ Below w.heap.size w W' := by
  have hl := hF.1
  have C := Hid.mk (collect_ok Bn base Q m hm (fun z => flg M z = true) M w hB hF (fun _ h => h))
  clear hB hF
  go_enter Try.func58, Try.ntmps58
  go_wp2_with fail
  refine C.out.mono ?_
  clear C
  rintro e W ⟨c, k, d, xs, rfl, hk, hC, hO, hb⟩
  have hs := hC.sorted
  have hlen : (plcs M).length = k := by rw [← hs, srt_len, hk]
  have hk4 : k ≤ 1000 := by have := plcs_len M; omega
  rcases c with _ | ⟨g, o, f⟩
  · have hk0 : k = 0 := by
      rcases hO.2 with ⟨h0, h1⟩ | ⟨g, cap', cur, hv, _⟩
      · omega
      · simp at hv
    have hd := hO.nocap rfl
    subst hk0 hd
    have hp : plcs M = [] := List.eq_nil_of_length_eq_zero hlen
    have CN := Hid.mk (AnyM.slices_Sort_int_none Try.sort none 0 W)
    have HP := Hid.mk hp
    have HL := Hid.mk hlen
    clear hO hs hC hlen hp
    go_wp2_with fail
    refine CN.out.mono ?_
    rintro e W2 ⟨rfl, rfl⟩
    go_wp2
    go_ret
    exact ⟨none, 0, 0, rfl, HL.out, by rw [HP.out]; exact own_none, hb⟩
  · obtain ⟨rfl, rfl⟩ : o = 0 ∧ f = none := by
      rcases hO.2 with ⟨h0, h1⟩ | ⟨g', cap', cur, hv, _⟩
      · simp at h0
      · simp only [Value.slice.injEq, Option.some.injEq, Addr.mk.injEq] at hv
        exact ⟨hv.1.2.1, hv.1.2.2⟩
    have CS := Hid.mk (sort_ok w.heap.size g d (vals xs) k W hO hk hk4)
    have hg := hO.lt _ rfl
    rw [hs] at CS
    clear hO hs hC
    go_wp2_with fail
    refine CS.out.mono ?_
    rintro e W2 ⟨rfl, hO2, hS⟩
    have b2 := hS.below' hb hb.size (fun k e => by subst e; exact hg.1)
    go_wp2
    go_ret
    exact ⟨_, _, _, rfl, hlen, hO2, b2⟩

set_option maxHeartbeats 1000000 in
theorem rising_ok (base Q m : Nat) (hm : m ≤ 400) (M : List Bool) (w : World) (hF : Fl w base Q m M) :
    Calls Try.prog 41 #[.slice (some ⟨Q, 0, none⟩) m m] w fun e W' => ∃ (c : Option Addr) (k d : Nat), e = .returned (.slice c k d) ∧ (plcs M).length = k ∧ Own .i64 2 W' w.heap.size c d (plcs M) ∧ Below w.heap.size w W' := by
  have CF := Hid.mk (fromLast_ok (some ⟨Q, 0, none⟩) m m w)
  have bA := belowA w (.cells #[.slice (some ⟨Q, 0, none⟩) m m] 55)
  have CS := Hid.mk (sorted_ok w.heap.size base Q m hm M (w.alloc (.cells #[.slice (some ⟨Q, 0, none⟩) m m] 55)) (V.new w [.slice (some ⟨Q, 0, none⟩) m m] 55) (hF.kept bA))
  clear hF
  go_enter Try.func41, Try.ntmps41
  go_wp2_with fail
  refine CF.out.mono ?_
  rintro e w1 ⟨rfl, rfl⟩
  go_wp2_with fail
  refine CS.out.mono ?_
  rintro e w2 ⟨c, k, d, rfl, hk, hO, hb⟩
  go_wp2
  go_ret
  exact ⟨c, k, d, rfl, hk, hO.mono (by simp), thenB bA hb⟩
end

end Go.Proofs.Yteeoodbmgheikaa
