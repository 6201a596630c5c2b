/- Put together: KC, KD. -/
import Derived.Test.YthkmoabkeblbjaaNa
import Derived.Test.YthkmoabkeblbjaaNt
import Derived.RangeFuncBox
import Derived.RangeFuncNested
import Derived.RangeFuncBound
import Derived.RangeFuncCalls
import Derived.RangeFuncLeaves
import Derived.Shelf.Abstract
import Derived.Shelf.RegionOpen
import Derived.OwnWalkIn
import Derived.TacticsInMore
import Derived.LoopNIn
import Derived.LoopIn
import Derived.Maps.AppendAt
import Derived.Test.YthkmoabkeblbjaaZl
import Derived.Test.YthkmoabkeblbjaaHeld
import Derived.Deep.RegionHeld
import Derived.OrdersIn

/- The places of a row of marks, the last one first: the program's iterator; the places as a rising list. The places of a row of marks as a rising list: the program. -/
namespace Go.Proofs.Ythkmoabkeblbjaa
section
open Go.RowKit Go.Shelf

attribute [local go_sem] Oper.semAt_some

/-- What a round keeps: the iterator's own variable; the row of marks, whose marks are of the places A and grow. -/
structure KpF (Bn base Q m : Nat) (A : Int → Prop) (W W' : World) : Prop where
  box : ∀ vs, V W Bn vs → V W' Bn vs
  row : ∀ M, Fl W base Q m M → (∀ z, flg M z = true → A z) → ∃ M', Fl W' base Q m M' ∧ (∀ z, flg M' z = true → A z) ∧ ∀ z, flg M z = true → flg M' z = true

theorem KpF.trans {Bn base Q m : Nat} {A : Int → Prop} {a b c : World} (h : KpF Bn base Q m A a b) (k : KpF Bn base Q m A b c) : KpF Bn base Q m A a c :=
  ⟨fun vs v => k.box vs (h.box vs v), fun M f hA => by
    obtain ⟨M1, f1, a1, g1⟩ := h.row M f hA
    obtain ⟨M2, f2, a2, g2⟩ := k.row M1 f1 a1
    exact ⟨M2, f2, a2, fun z hz => g2 z (g1 z hz)⟩⟩

/-- .. by whatever turns other blocks. -/
theorem KpF.of {Bn base Q m : Nat} {A : Int → Prop} {X : Nat → Prop} {W W' : World} (s : Sm X W W') (hb : ¬ X Bn) (hq : ¬ X Q) : KpF Bn base Q m A W W' :=
  ⟨fun _ v => v.sm s hb, fun M f hA => ⟨M, f.sm s hq, hA, fun _ h => h⟩⟩

theorem sm_putObj (W : World) (l : Nat) (o' : Obj) : Sm (fun k => k = l) W (W.putObj l o') := Sm.grown (grownBy_putObj' W l o') (fun k e => by cases e; rfl)

theorem KpF.put {Bn base Q m : Nat} {A : Int → Prop} {n : Nat} (h1 : Bn < n) (h2 : Q < n) (W : World) (l : Nat) (o o' : Obj) (hl : n ≤ l) (_ : W.heap[l]? = some o) (_ : o.isCells = false) (_ : o.isWalk = false) : KpF Bn base Q m A W (W.putObj l o') :=
  KpF.of (sm_putObj W l o') (by omega) (by omega)

/-- The places that come are of A. -/
abbrev Pl (A : Int → Prop) : Type := { x : Int // A x }

def vals {A : Int → Prop} (xs : List (Pl A)) : List Int := xs.map fun x => x.1

/-- What has come, the places from k on having been passed. -/
structure Came (A : Int → Prop) (M0 : List Bool) (m k : Nat) (pre : List (Pl A)) : Prop where
  fall : (vals pre).Pairwise fun x y => y < x
  from_ : ∀ z ∈ vals pre, (k : Int) ≤ z ∧ z < m
  all : ∀ z, flg M0 z = true → (k : Int) ≤ z → z ∈ vals pre

theorem Came.start {A : Int → Prop} {M0 : List Bool} {m : Nat} (hm : M0.length = m) : Came A M0 m m [] :=
  ⟨List.Pairwise.nil, fun z hz => by simp [vals] at hz, fun z hz hk => by have := flg_in hz; omega⟩

theorem Came.skip {A : Int → Prop} {M0 M : List Bool} {m k : Nat} {pre : List (Pl A)} (h : Came A M0 m (k + 1) pre) (hg : ∀ z, flg M0 z = true → flg M z = true) (hk : M.getD k false = false) : Came A M0 m k pre :=
  ⟨h.fall, fun z hz => by have := h.from_ z hz; omega, fun z hz hl => by
    by_cases e : z = k
    · subst e
      have := hg _ hz
      rw [flg_nat, hk] at this
      cases this
    · exact h.all z hz (by omega)⟩

theorem Came.next {A : Int → Prop} {M0 : List Bool} {m k : Nat} {pre : List (Pl A)} (h : Came A M0 m (k + 1) pre) (hk : k < m) (x : Pl A) (hx : x.1 = (k : Int)) : Came A M0 m k (pre ++ [x]) := by
  have e : vals (pre ++ [x]) = vals pre ++ [(k : Int)] := by simp [vals, hx]
  refine ⟨?_, ?_, ?_⟩
  · rw [e, List.pairwise_append]
    refine ⟨h.fall, List.pairwise_singleton _ _, fun a ha b hb => ?_⟩
    have := h.from_ a ha
    simp only [List.mem_singleton] at hb
    omega
  · intro z hz
    rw [e, List.mem_append] at hz
    rcases hz with hz | hz
    · have := h.from_ z hz; omega
    · simp only [List.mem_singleton] at hz; omega
  · intro z hz hl
    rw [e, List.mem_append]
    by_cases e2 : z = k
    · right; simp [e2]
    · left; exact h.all z hz (by omega)

theorem Came.len {A : Int → Prop} {M0 : List Bool} {m k : Nat} {pre : List (Pl A)} (h : Came A M0 m k pre) : pre.length ≤ m - k := by
  have e : pre.length = (vals pre).length := by simp [vals]
  have hn : ((vals pre).map fun z : Int => z - (k : Int)).Nodup := by
    refine List.Pairwise.map _ (fun a b (hab : b < a) => ?_) h.fall
    omega
  have := nodup_len (m - k) ((vals pre).map fun z : Int => z - (k : Int)) hn (fun p hp => by
    obtain ⟨z, hz, rfl⟩ := List.mem_map.1 hp
    have := h.from_ z hz
    omega)
  rw [List.length_map] at this
  omega

set_option maxRecDepth 100000 in
set_option maxHeartbeats 2000000 in
theorem fromLast1_in (n : Nat) (hn : 1 ≤ n) (l Bn base Q m : Nat) (hm : m ≤ 400) (A : Int → Prop) (M0 : List Bool) (J Jx : List (Pl A) → World → Prop)
    (hY : ∀ pre x W, J pre W → pre.length < m → YieldAt Fence.wide (n - 1) Try.prog l #[.int .i64 (x : Pl A).1] W fun e W' =>
      (e = .returned (.bool true) ∧ J (pre ++ [x]) W' ∧ KpF Bn base Q m A W W') ∨ (e = .returned (.bool false) ∧ Jx (pre ++ [x]) W'))
    (W : World) (hB : V W Bn [.slice (some ⟨Q, 0, none⟩) m m]) (hF : Fl W base Q m M0) (hA : ∀ z, flg M0 z = true → A z) (h0 : J [] W) :
    CallsIn Fence.wide n Try.prog 130 #[.func (.yield l) #[] #[], .pointer (some ⟨Bn, 0, none⟩)] W fun e W' => (∃ v, e = .returned v) ∧
      ((∃ xs, Came A M0 m 0 xs ∧ J xs W') ∨ (∃ pre : List (Pl A), True ∧ Jx pre W')) := by
  refine callsIn_of_wp Try.func130 rfl trivial ?_ rfl
  simp only [Try.ntmps130, List.size_toArray, List.length_cons, List.length_nil, Nat.reduceAdd, Nat.reduceSub, Array.replicate_succ, Array.replicate_zero, List.push_toArray, List.append_toArray, List.nil_append, List.cons_append]
  have HB := Hid.mk hB
  have HF := Hid.mk hF
  obtain ⟨s_B, f_B, z_B⟩ := hB.open
  gi_wp2
  gi_loopw [3] (fun i wr => ∃ (k : Nat) (M : List Bool) (pre : List (Pl A)), k ≤ m ∧ i = .int .i64 ((k : Int) - 1) ∧ V wr Bn [.slice (some ⟨Q, 0, none⟩) m m] ∧ Fl wr base Q m M ∧ (∀ z, flg M z = true → A z) ∧ (∀ z, flg M0 z = true → flg M z = true) ∧ Came A M0 m k pre ∧ J pre wr)
    (fun i _ => (intOf i + 1).toNat)
  case atStart =>
    exact ⟨m, M0, [], Nat.le_refl _, rfl, HB.out, HF.out, hA, fun _ h => h, Came.start HF.out.1, h0⟩
  case round =>
    clear s_B f_B z_B HB HF h0
    obtain ⟨k, M, pre, hk, rfl, VB, FM, HA, HG, HC, HJ⟩ := hrel
    cases k with
    | zero =>
      have e0 : ((0 : Nat) : Int) - 1 = -1 := by omega
      rw [e0]
      gi_wp2
      go_end0
      exact ⟨⟨_, rfl⟩, .inl ⟨pre, HC, HJ⟩⟩
    | succ k =>
      have e0 : ((k + 1 : Nat) : Int) - 1 = (k : Int) := by omega
      rw [e0]
      have hk0 : (0 : Int) ≤ (k : Int) := by omega
      have hk1 : (k : Int) < (m : Int) := by omega
      have p0 := FM.cell (j := k) (by omega)
      have VB' := Hid.mk VB
      obtain ⟨s_B, f_B, z_B⟩ := VB.open
      cases hv : M.getD k false
      · rw [hv] at p0
        have HC2 := HC.skip HG hv
        gi_wp2
        refine ⟨fun _ h => (by cases h), ?_⟩
        gi_wp2
        go_roundw
        case rel => exact ⟨k, M, pre, by omega, rfl, VB'.out, FM, HA, HG, HC2, HJ⟩
        case measure => first | (simp [intOf]; done) | (simp [intOf]; omega)
      · rw [hv] at p0
        have hAk : A (k : Int) := HA _ (by rw [flg_nat]; exact hv)
        have HC2 := HC.next (by omega) ⟨(k : Int), hAk⟩ rfl
        have hlen : pre.length < m := by have := HC.len; omega
        obtain ⟨fn, tmps, assign, body, hy, hR⟩ := hY pre ⟨(k : Int), hAk⟩ wr HJ hlen
        dsimp only at hy
        clear hlen
        gi_wp2
        refine hR.mono ?_
        rintro e W3 (⟨rfl, hJ3, hk3⟩ | ⟨rfl, hJx3⟩)
        · have VB3 := hk3.box _ VB'.out
          obtain ⟨M3, FM3, HA3, HG3⟩ := hk3.row M FM HA
          gi_wp2
          go_roundw
          case rel => exact ⟨k, M3, _, by omega, rfl, VB3, FM3, HA3, fun z hz => HG3 z (HG z hz), HC2, hJ3⟩
          case measure => first | (simp [intOf]; done) | (simp [intOf]; omega)
        · gi_wp2
          refine bodyPost_ret (results_none rfl _ _ _) rfl ?_
          exact ⟨⟨_, rfl⟩, .inr ⟨_, trivial, hJx3⟩⟩

/-- What the iterator gives. -/
theorem fromLast_stops (n : Nat) (hn : 1 ≤ n) (Bn base Q m : Nat) (hm : m ≤ 400) (A : Int → Prop) (M0 : List Bool) (w : World) (hB : V w Bn [.slice (some ⟨Q, 0, none⟩) m m]) (hF : Fl w base Q m M0) (hA : ∀ z, flg M0 z = true → A z) :
    SeqStopsK Fence.wide n Try.prog 130 #[.pointer (some ⟨Bn, 0, none⟩)] (fun x : Pl A => #[Value.int .i64 x.1]) (KpF Bn base Q m A) (fun xs => Came A M0 m 0 xs) (fun _ => True) m w := fun l J Jx W hW _ _ hY h0 =>
  fromLast1_in n hn l Bn base Q m hm A M0 J Jx hY W (hB.kept hW) (hF.kept hW) hA h0

set_option maxHeartbeats 1000000 in
theorem fromLast_ok (a : Option Addr) (n ca : Nat) (w : World) :
    Calls Try.prog 116 #[.slice a n ca] w fun e w' => e = .returned (.func (.func 130) #[] #[.pointer (some ⟨w.heap.size, 0, none⟩)]) ∧ w' = w.alloc (.cells #[.slice a n ca] 111) := by
  go_enter Try.func116, Try.ntmps116
  go_wp2
  go_ret
  exact ⟨rfl, rfl⟩
end

section
open Go.RowKit Go.Shelf

attribute [local go_sem] Oper.semAt_some

theorem vals_snoc {A : Int → Prop} (pre : List (Pl A)) (x : Pl A) : (vals pre).map (Value.int .i64) ++ [Value.int .i64 x.1] = (vals (pre ++ [x])).map (Value.int .i64) := by simp [vals]

theorem vals_len {A : Int → Prop} (pre : List (Pl A)) : (vals pre).length = pre.length := by simp [vals]

set_option maxRecDepth 100000 in
set_option maxHeartbeats 2000000 in
theorem appendSeq_ok (Bn base Q m : Nat) (hm : m ≤ 400) (A : Int → Prop) (M0 : List Bool) (w : World) (hB : V w Bn [.slice (some ⟨Q, 0, none⟩) m m]) (hF : Fl w base Q m M0) (hA : ∀ z, flg M0 z = true → A z) :
    Calls Try.prog 133 #[.slice none 0 0, .func (.func 130) #[] #[.pointer (some ⟨Bn, 0, none⟩)]] w fun e W' => ∃ (c : Option Addr) (k d : Nat) (xs : List (Pl A)), e = .returned (.slice c k d) ∧ (vals xs).length = k ∧ Came A M0 m 0 xs ∧ Own .i64 2 W' w.heap.size c d (vals xs) ∧ Below w.heap.size w W' := by
  refine (callsIn_wide (n := 10)).1 ?_
  obtain ⟨i0, hi, hz0, hz1, hz2⟩ := info_parts Try.infoI64
  refine callsIn_of_wp_marks Try.func133 rfl trivial ?_ rfl
  simp only [Try.ntmps133, List.size_toArray, List.length_cons, List.length_nil, Nat.reduceAdd, Nat.reduceSub, Array.replicate_succ, Array.replicate_zero, List.push_toArray, List.append_toArray, List.nil_append, List.cons_append]
  gi_wp2
  have bO := Boxed.new w 37 (.slice none 0 0)
  have hB0 : Below w.heap.size w (w.alloc (.cells #[.slice none 0 0] 37)) := belowA _ _
  have hBl := hB.1
  have hQl := hF.lt.2
  refine wpIn_rangeFunc_ownG (α := Pl A) (w0 := w) rfl (by decide) (gf := 130) (lb := #[.pointer (some ⟨Bn, 0, none⟩)]) rfl trivial (enters_of Try.func130 (by kernel_rfl) rfl)
    (fromLast_stops (10 - 1) (by decide) Bn base Q m hm A M0 w hB hF hA) KpF.trans (KpF.put (by simp; omega) (by simp; omega)) hB0 (fun _ => rfl)
    (fun pre W => (∃ v, Boxed W w.heap.size 37 v ∧ W.ownsRow w.heap.size 2 1 v (vals pre).length ((vals pre).map (Value.int .i64)) ∧ True) ∧ Below w.heap.size w W)
    (fun _ _ _ => False)
    (OwnFrom.and (Own.from (holdsRow_own w.heap.size w.heap.size 37 2 1 (fun pre : List (Pl A) => (vals pre).length) (fun pre => (vals pre).map (Value.int .i64)) (fun _ _ => True)) _) (ownFrom_below (Nat.le_refl _) (by simp)))
    (fun _ _ _ _ _ hs _ _ => hs)
    ⟨⟨_, bO, World.ownsRow_nil _ _ _ _, trivial⟩, hB0⟩
    (fun x => { tmps := #[.slice none 0 0, .func (.func 130) #[] #[.pointer (some ⟨Bn, 0, none⟩)], .pointer (some ⟨w.heap.size, 0, none⟩), undef, .slice none 0 0, .int .i64 x.1, .func (.func 130) #[] #[.pointer (some ⟨Bn, 0, none⟩)], .int .i64 x.1, undef, undef, undef, undef, undef], defers := [] }) ?assign ?body ?done ?stop
  case assign =>
    intro l x W K hK
    gi_wp2
    exact hK
  case body =>
    rintro l pre x W ⟨⟨v, hv, hrow, -⟩, hB⟩ hlt
    have hc := hv.cell
    have hle := hB.size
    have hbx : w.heap.size ≤ W.heap.size := hle
    gi_wp2_with (gi_at_builtin; refine wpListIn_append_own _ rfl _ _ 37 rfl w.heap.size 2 i0 (.int .i64 0) 1 8 Try.underlying37 hi hz0 hz1 hz2 rfl (by decide) _ _ _ rfl (hrow.alloc _) ⟨W.heap.size, 0, none⟩ 1 1 [.int .i64 x.1] rfl rfl (cell_one_new _ _ _) (by simp [Value.oneCell']) (by unfold maxLen; have := vals_len pre; omega) (by have := vals_len pre; omega) (by simp; omega) ?_; intro v' w1 hown' hgrow _; obtain ⟨g', cap', rfl⟩ := ownsRow_succ hown'; obtain ⟨hv1, hv2, hr2, hk2, hb2⟩ := hv.appended (by decide) hrow hle (Nat.le_refl _) hown' hgrow; have hc1 := hv1.cell; have hf1 := hv1.frozen)
    have s2 : Sm (fun k => w.heap.size ≤ k) W (w1.setCell ⟨w.heap.size, 0, none⟩ (.slice (some ⟨g', 0, none⟩) ((vals pre).length + 1) cap')) := ⟨hb2.os, hb2.tape, hb2.output, hb2.size, fun k hk hx => hb2.block k (by omega)⟩
    refine ⟨hk2.from _, KpF.of s2 (Nat.not_le.2 hBl) (Nat.not_le.2 hQl), ⟨_, hv2, ?_, trivial⟩, hB.trans hb2⟩
    rw [← vals_snoc]
    have e : (vals (pre ++ [x])).length = (vals pre).length + 1 := by simp [vals]
    rw [e]
    simpa using hr2
  case done =>
    rintro D ys W hD hS ⟨⟨v, hv, hrow, -⟩, hB⟩ hK
    have hc := hv.cell
    have hro := ownsRow_putObj hrow (.deferred none) hK rfl
    obtain ⟨c, d, rfl⟩ := ownsRow_shape hrow
    gi_wp2
    refine ⟨by simp, .inl ⟨_, _, rfl, run_takeDeferred hK, ?_⟩⟩
    exact ⟨_, results_tmp rfl _ _ _, c, _, d, ys, rfl, rfl, hS, hro, hB.trans (belowK_b (w := w) (Nat.le_refl _) W D _ _ (by simp at hD; omega) hK rfl rfl)⟩
  case stop =>
    rintro D c pre W _ _ h _
    exact h.elim

theorem sorted_is {zs ys : List Int} (hn : zs.Nodup) (hy : Rising ys) (h : ∀ z, z ∈ zs ↔ z ∈ ys) : srt zs = ys := by
  have h1 : (srt zs).Nodup := (srt_perm zs).nodup_iff.2 hn
  have h2 : Rising (srt zs) := List.Pairwise.imp₂ (fun a b (hab : a ≤ b) (hne : a ≠ b) => by omega) (srt_rising zs) h1
  exact rising_eq _ _ h2 hy fun z => by rw [srt_mem]; exact h z

theorem Came.sorted {M : List Bool} {m : Nat} {xs : List (Pl fun z => flg M z = true)} (h : Came (fun z => flg M z = true) M m 0 xs) : srt (vals xs) = plcs M := by
  refine sorted_is (h.fall.imp fun h e => by omega) (plcs_rising M) fun z => ?_
  rw [plcs_mem]
  constructor
  · intro hz
    obtain ⟨x, _, rfl⟩ := List.mem_map.1 hz
    exact x.2
  · intro hz
    exact h.all z hz (flg_in hz).1

set_option maxHeartbeats 1000000 in
theorem collect_ok (Bn base Q m : Nat) (hm : m ≤ 400) (A : Int → Prop) (M0 : List Bool) (w : World) (hB : V w Bn [.slice (some ⟨Q, 0, none⟩) m m]) (hF : Fl w base Q m M0) (hA : ∀ z, flg M0 z = true → A z) :
    Calls Try.prog 128 #[.func (.func 130) #[] #[.pointer (some ⟨Bn, 0, none⟩)]] w fun e W' => ∃ (c : Option Addr) (k d : Nat) (xs : List (Pl A)), e = .returned (.slice c k d) ∧ (vals xs).length = k ∧ Came A M0 m 0 xs ∧ Own .i64 2 W' w.heap.size c d (vals xs) ∧ Below w.heap.size w W' := by
  have C := Hid.mk (appendSeq_ok Bn base Q m hm A M0 w hB hF hA)
  clear hB hF hA
  go_enter Try.func128, Try.ntmps128
  go_wp2_with fail
  refine C.out.mono ?_
  rintro e W ⟨c, k, d, xs, rfl, h⟩
  go_wp2
  go_ret
  exact ⟨c, k, d, xs, rfl, h⟩

set_option maxHeartbeats 2000000 in
theorem sorted_ok (Bn base Q m : Nat) (hm : m ≤ 400) (M : List Bool) (w : World) (hB : V w Bn [.slice (some ⟨Q, 0, none⟩) m m]) (hF : Fl w base Q m M) :
    Calls Try.prog 115 #[.func (.func 130) #[] #[.pointer (some ⟨Bn, 0, none⟩)]] w fun e W' => ∃ (c : Option Addr) (k d : Nat), e = .returned (.slice c k d) ∧ (plcs M).length = k ∧ Own .i64 2 W' w.heap.size c d (plcs M) ∧ Below w.heap.size w W' := by
  have hl := hF.1
  have C := Hid.mk (collect_ok Bn base Q m hm (fun z => flg M z = true) M w hB hF (fun _ h => h))
  clear hB hF
  go_enter Try.func115, Try.ntmps115
  go_wp2_with fail
  refine C.out.mono ?_
  clear C
  rintro e W ⟨c, k, d, xs, rfl, hk, hC, hO, hb⟩
  have hs := hC.sorted
  have hlen : (plcs M).length = k := by rw [← hs, srt_len, hk]
  have hk4 : k ≤ 1000 := by have := plcs_len M; omega
  rcases c with _ | ⟨g, o, f⟩
  · have hk0 : k = 0 := by
      rcases hO.2 with ⟨h0, h1⟩ | ⟨g, cap', cur, hv, _⟩
      · omega
      · simp at hv
    have hd := hO.nocap rfl
    subst hk0 hd
    have hp : plcs M = [] := List.eq_nil_of_length_eq_zero hlen
    have CN := Hid.mk (AnyM.slices_Sort_int_none Try.sort none 0 W)
    have HP := Hid.mk hp
    have HL := Hid.mk hlen
    clear hO hs hC hlen hp
    go_wp2_with fail
    refine CN.out.mono ?_
    rintro e W2 ⟨rfl, rfl⟩
    go_wp2
    go_ret
    exact ⟨none, 0, 0, rfl, HL.out, by rw [HP.out]; exact own_none, hb⟩
  · obtain ⟨rfl, rfl⟩ : o = 0 ∧ f = none := by
      rcases hO.2 with ⟨h0, h1⟩ | ⟨g', cap', cur, hv, _⟩
      · simp at h0
      · simp only [Value.slice.injEq, Option.some.injEq, Addr.mk.injEq] at hv
        exact ⟨hv.1.2.1, hv.1.2.2⟩
    have CS := Hid.mk (sort_ok w.heap.size g d (vals xs) k W hO hk hk4)
    have hg := hO.lt _ rfl
    rw [hs] at CS
    clear hO hs hC
    go_wp2_with fail
    refine CS.out.mono ?_
    rintro e W2 ⟨rfl, hO2, hS⟩
    have b2 := hS.below' hb hb.size (fun k e => by subst e; exact hg.1)
    go_wp2
    go_ret
    exact ⟨_, _, _, rfl, hlen, hO2, b2⟩

set_option maxHeartbeats 1000000 in
theorem rising_ok (base Q m : Nat) (hm : m ≤ 400) (M : List Bool) (w : World) (hF : Fl w base Q m M) :
    Calls Try.prog 87 #[.slice (some ⟨Q, 0, none⟩) m m] w fun e W' => ∃ (c : Option Addr) (k d : Nat), e = .returned (.slice c k d) ∧ (plcs M).length = k ∧ Own .i64 2 W' w.heap.size c d (plcs M) ∧ Below w.heap.size w W' := by
  have CF := Hid.mk (fromLast_ok (some ⟨Q, 0, none⟩) m m w)
  have bA := belowA w (.cells #[.slice (some ⟨Q, 0, none⟩) m m] 111)
  have CS := Hid.mk (sorted_ok w.heap.size base Q m hm M (w.alloc (.cells #[.slice (some ⟨Q, 0, none⟩) m m] 111)) (V.new w [.slice (some ⟨Q, 0, none⟩) m m] 111) (hF.kept bA))
  clear hF
  go_enter Try.func87, Try.ntmps87
  go_wp2_with fail
  refine CF.out.mono ?_
  rintro e w1 ⟨rfl, rfl⟩
  go_wp2_with fail
  refine CS.out.mono ?_
  rintro e w2 ⟨c, k, d, rfl, hk, hO, hb⟩
  go_wp2
  go_ret
  exact ⟨c, k, d, rfl, hk, hO.mono (by simp), thenB bA hb⟩
end

end Go.Proofs.Ythkmoabkeblbjaa

/- A region that draws its order, within a round of a loop over a function: by what holds of it outside of one. All that lies open is opened: the program. -/
namespace Go.Proofs.Ythkmoabkeblbjaa
section
open Go.RowKit

/-- It goes on, in one way alone. -/
def goesOn (Q : Exit → Act → World → Prop) : Exit → Act → World → Prop
  | .normal, a, w => Q .normal a w
  | _, _, _ => False

variable {P : Program} {ops : Array Oper} {Q : Exit → Act → World → Prop}

theorem letsOut_no (h : LetsOut (goesOn Q)) : False := by obtain ⟨_, _, h⟩ := h; exact h

theorem wpOpsIn_round {l n : Nat} (hd : ∀ (i : Nat) (o : Oper), ops[i]? = some o → ∀ c, o.op ≠ .defer c) : ∀ (order : List Nat) (a : Act) (w : World), wpOps P ops (goesOn Q) order a w → wpOpsIn (Fence.wide.inRound l) n P ops Q order a w
  | [], _, _, h => h
  | i :: rest, a, w, h => by
    unfold wpOps at h
    unfold wpOpsIn
    cases ho : ops[i]? with
    | none => rw [ho] at h; exact wpOpsIn_round hd rest a w h
    | some o =>
      rw [ho] at h
      simp only at h ⊢
      split
      · rename_i hw
        rw [if_pos hw] at h
        rcases h with h | ⟨_, h⟩
        · unfold Oper.wp at h
          unfold Oper.wpIn
          refine ⟨fun _ _ => trivial, ?_⟩
          rw [Oper.semAt_eq _ _ _ (hd i o ho)]
          generalize (execOp a.eval o).run P w = r at *
          cases r with
          | ok x w' =>
            cases x <;> simp only [Oper.upon, Oper.uponIn] at h ⊢
            case value v => exact wpOpsIn_round hd rest _ _ h
            case skip => exact wpOpsIn_round hd rest _ _ h
            case defer d => exact wpOpsIn_round hd rest _ _ h
            case enter f args =>
              refine ⟨fun h => by simp [Fence.wide, Fence.inRound] at h, CallsIn.mono (CallsIn.inRound l (callsIn_wide.2 h)) fun e w'' he => ?_⟩
              cases e with
              | returned v => exact wpOpsIn_round hd rest _ _ he
              | panicked c => exact absurd he id
              | outgrown => exact (letsOut_no he).elim
            case row row args =>
              exact ⟨fun h => by simp [Fence.wide, Fence.inRound] at h, fun c cs _ => by
                obtain ⟨v, w'', hr, hs⟩ := h c cs
                exact ⟨v, w'', wpOpsIn_round hd rest _ _ hr, stepsIn_wide.2 hs⟩⟩
          | halt x w' => cases x <;> simp only [Oper.upon] at h <;> exact absurd h id
        · exact (letsOut_no h).elim
      · rename_i hw
        rw [if_neg hw] at h
        exact ⟨fun _ _ => trivial, wpOpsIn_round hd rest _ _ h⟩

theorem wpIn_region_round {id : Nat} {S : World → Prop} {a : Act} {w : World} {l n : Nat} (hm : P.follows .mixedOrders = true) (hd : ops.all (fun o => match o.op with | .defer _ => false | _ => true) = true) (hS : S w.drew)
    (h : S w.drew → wpAnyH P .any ops (goesOn Q) S ops.size (Array.replicate ops.size false) a w.drew) : (Code.region id ops true).wpIn (Fence.wide.inRound l) n P Q a w :=
  wpIn_region_draw fun t => by
    simp only [Region.schedule, hm, Bool.true_or, if_true]
    refine wpOpsIn_round (fun i o ho c e => ?_) _ _ _ (wpAny_sound ops.size t _ a _ (wpAny_of_held _ _ _ _ (h hS)))
    obtain ⟨hi, hio⟩ := Array.getElem?_eq_some_iff.1 ho
    have := Array.all_eq_true.1 hd i hi
    rw [hio, e] at this
    cases this
end

section
open Go.RowKit Go.Shelf

theorem Fl.unique {w : World} {base Q n : Nat} {M M' : List Bool} (h : Fl w base Q n M) (h' : Fl w base Q n M') : M = M' := by
  have h1 := h.1
  have h2 := h'.1
  apply List.ext_getElem
  · omega
  · intro i hi hi'
    have := (h.cell (j := i) (by omega)).symm.trans (h'.cell (j := i) (by omega))
    simpa [List.getD, hi, hi'] using this

theorem set_same {M : List Bool} {j : Nat} (h : M.getD j false = true) : M.set j true = M := by
  apply List.ext_getElem
  · simp
  · intro i h1 h2
    rw [List.getElem_set]
    split
    · rename_i e; subst e; simpa [List.getD, h2] using h.symm
    · rfl

/-- Between two parts: the marks, and whether something came of what lies open. -/
structure Om (xs : List T4) (kn : List Int) (base Q n B : Nat) (M : List Bool) (w : World) (M2 : List Bool) (b : Bool) : Prop where
  f : Fl w base Q n M2
  way : Way xs kn M2
  up : ∀ z, flg M z = true → flg M2 z = true
  v : V w B [.bool b]
  no : b = false → M2 = M
  yes : b = true → left M2 < left M

theorem Om.sm {X : Nat → Prop} {xs : List T4} {kn : List Int} {base Q n B : Nat} {M M2 : List Bool} {w w' : World} {b : Bool} (h : Om xs kn base Q n B M w M2 b) (s : Sm X w w') (h1 : ¬ X Q) (h2 : ¬ X B) : Om xs kn base Q n B M w' M2 b :=
  ⟨h.f.sm s h1, h.way, h.up, h.v.sm s h2, h.no, h.yes⟩

theorem Om.mark {xs : List T4} {kn : List Int} {base Q n B : Nat} {M M2 : List Bool} {w : World} {b : Bool} (h : Om xs kn base Q n B M w M2 b) (hn : xs.length = n) (hne : Q ≠ B) {j : Nat} (hj : Lst xs kn j) :
    Om xs kn base Q n B M ((w.setCell ⟨B, 0, none⟩ (.bool (b || !M2.getD j false))).setCell ⟨Q, j, none⟩ (.bool true)) (M2.set j true) (b || !M2.getD j false) := by
  have hl : j < M2.length := by have := hj.1; rw [h.way.len]; omega
  refine ⟨(h.f.other (p := ⟨B, 0, none⟩) (Ne.symm hne) _).set j true, h.way.set hj, fun z hz => (flg_set hl z).2 (.inr (h.up z hz)), ?_, fun hb => ?_, fun hb => ?_⟩
  · have := (h.v.set (i := 0) (by simp) (.bool (b || !M2.getD j false))).other (p := ⟨Q, j, none⟩) hne (.bool true)
    simpa using this
  · cases hb0 : b with
    | true => rw [hb0] at hb; simp at hb
    | false =>
      rw [hb0, Bool.false_or] at hb
      have hm : M2.getD j false = true := by simpa using hb
      rw [set_same hm]; exact h.no hb0
  · cases hm : M2.getD j false with
    | true =>
      rw [set_same hm]
      rw [hm] at hb
      exact h.yes (by simpa using hb)
    | false =>
      have h1 := left_set hl hm
      cases hb0 : b with
      | true => have := h.yes hb0; omega
      | false => rw [h.no hb0] at h1 ⊢; exact h1

/-- Between two rounds. -/
def OmI (xs : List T4) (kn : List Int) (base Q n B : Nat) (M : List Bool) (W0 : World) (pre : List (Pl (Lst xs kn))) (W : World) : Prop :=
  ∃ M2 b, Om xs kn base Q n B M W M2 b ∧ (∀ x ∈ vals pre, ∀ z ∈ told (canL xs (flg M)) (tmAt xs x), flg M2 z = true) ∧ Sm (fun k => k = Q ∨ k = B) W0 W

theorem OmI.from {xs : List T4} {kn : List Int} {base Q n B : Nat} {M : List Bool} {W0 : World} (h1 : Q < W0.heap.size) (h2 : B < W0.heap.size) : OwnFrom W0.heap.size (OmI xs kn base Q n B M W0) := by
  rintro pre A A' row ⟨M2, b, h, ht, s⟩ hg hr
  have s2 : Sm (fun k => row = some k) A A' := Sm.grown hg (fun k e => e)
  exact ⟨M2, b, h.sm s2 (fun e => by have := (hr _ e).1; omega) (fun e => by have := (hr _ e).1; omega), ht, s2.less s.size (fun k hk e => by have := (hr _ e).1; omega) s⟩

attribute [local go_sem] Oper.semAt_some

set_option maxRecDepth 100000 in
set_option maxHeartbeats 8000000 in
theorem openMore_ok (base kb p g : Nat) (c : Option Addr) (d Q n : Nat) (xs : List T4) (kn : List Int) (M : List Bool) (w : World) (H : Kn w base kb p g c d Q xs M) (hn : xs.length = n) (ht : tfC xs = 0) (hW : Way xs kn M) :
    Calls Try.prog 114 #[.pointer (some ⟨kb, 0, none⟩)] w fun e w' => ∃ (b : Bool) (M2 : List Bool), e = .returned (.bool b) ∧ Kn w' base kb p g c d Q xs M2 ∧ Way xs kn M2 ∧ (b = false → M2 = M ∧ IsOpen xs kn (plcs M)) ∧ (b = true → left M2 < left M) ∧ Sm (fun k => k = Q) w w' := by
  have hn4 : n ≤ 400 := by have := (tfC_zero ht).1; omega
  have HN := Hid.mk hn
  have HT := Hid.mk ht
  have H0 := H
  have bA := belowA w (.cells #[.pointer (some ⟨kb, 0, none⟩)] 115)
  have CM := Hid.mk (makeable_ok base kb p g c d Q n xs M _ (H.kept bA) hn ht)
  have CF := Hid.mk (fun w => fromLast_ok (some ⟨Q, 0, none⟩) n n w)
  have VB := V.new w [.pointer (some ⟨kb, 0, none⟩)] 115
  replace H := H.kept bA
  have hQw : Q < w.heap.size + 1 := by have := H.f.lt.2; simpa using this
  have hQw2 : Q ≠ w.heap.size := fun e => by have h1 := H0.f.lt.2; omega
  have hkw : kb < w.heap.size := H0.v.1
  refine (callsIn_wide (n := 20)).1 ?_
  refine callsIn_of_wp_marks Try.func114 rfl trivial ?_ rfl
  simp only [Try.ntmps114, List.size_toArray, List.length_cons, List.length_nil, Nat.reduceAdd, Nat.reduceSub, Array.replicate_succ, Array.replicate_zero, List.push_toArray, List.append_toArray, List.nil_append, List.cons_append]
  gi_wp2_with (first
    | (refine ⟨trivial, ?_⟩; gi_at_call 113; refine (callsIn_wide.2 CM.out).mono ?_; rintro e w1 ⟨Q2, rfl, HC, b1⟩; (have H1 := H.kept b1); (have VB1 := VB.kept b1); (have VK1 := H1.v); rw [HN.out] at VK1; obtain ⟨s_VB, f_VB, z_VB⟩ := VB1.open; obtain ⟨s_VK, f_VK, z_VK⟩ := VK1.open)
    | (refine ⟨trivial, ?_⟩; gi_at_call 116; refine (callsIn_wide.2 (CF.out _)).mono ?_; rintro e w2 ⟨rfl, rfl⟩)
    | gi_in)
  clear CM CF s_VB f_VB z_VB s_VK f_VK z_VK
  have hs1 := b1.size
  have bw0 := thenB bA b1
  simp only [World.size_alloc] at hs1 HC
  have hQ2 := HC.lt
  -- the world in which the loop begins
  have V3 := V.new w1 [.slice (some ⟨Q2, 0, none⟩) n n] 111
  have V4 := V.new (w1.alloc (.cells #[.slice (some ⟨Q2, 0, none⟩) n n] 111)) [.bool false] 4
  have V5 := V.new ((w1.alloc (.cells #[.slice (some ⟨Q2, 0, none⟩) n n] 111)).alloc (.cells #[.bool false] 4)) [.slice (some ⟨Q, 0, none⟩) n n] 111
  have b3 := belowA3 w1 (.cells #[.slice (some ⟨Q2, 0, none⟩) n n] 111) (.cells #[.bool false] 4) (.cells #[.slice (some ⟨Q, 0, none⟩) n n] 111)
  replace V3 := V3.kept (belowA2 _ (.cells #[.bool false] 4) (.cells #[.slice (some ⟨Q, 0, none⟩) n n] 111))
  replace V4 := V4.kept (belowA _ (.cells #[.slice (some ⟨Q, 0, none⟩) n n] 111))
  have H2 := H1.kept b3
  have VB2 := VB1.kept b3
  have HC2 := HC.kept b3
  have bw := thenB bw0 b3
  have hs3 := b3.size
  simp only [World.size_alloc] at V4 V5
  obtain ⟨W0, hW0⟩ : ∃ W0, ((w1.alloc (.cells #[.slice (some ⟨Q2, 0, none⟩) n n] 111)).alloc (.cells #[.bool false] 4)).alloc (.cells #[.slice (some ⟨Q, 0, none⟩) n n] 111) = W0 := ⟨_, rfl⟩
  have hsz : W0.heap.size = w1.heap.size + 3 := by rw [← hW0]; simp
  rw [hW0] at V3 V4 V5 H2 VB2 HC2 bw ⊢
  clear b3 hs3 hW0 H1 VB1 VK1 HC b1 bw0
  have hQ3 : Q < W0.heap.size := by omega
  have hQw3 : Q < w.heap.size := by omega
  obtain ⟨hQ2a, hQ2b⟩ := hQ2
  refine wpIn_rangeFunc_ownG (α := Pl (Lst xs kn)) (w0 := W0) rfl (by decide) (gf := 130) (lb := #[.pointer (some ⟨w1.heap.size + 1 + 1, 0, none⟩)]) rfl trivial (enters_of Try.func130 (by kernel_rfl) rfl)
    (fromLast_stops (20 - 1) (by decide) (w1.heap.size + 1 + 1) base Q n hn4 (Lst xs kn) M W0 V5 (HN.out ▸ H2.f) hW.least) KpF.trans (KpF.put (by omega) hQ3) (Below.refl _ _) (fun _ => rfl)
    (OmI xs kn base Q n (w1.heap.size + 1) M W0)
    (fun _ _ _ => False)
    (OmI.from hQ3 (by omega))
    (fun _ _ _ _ _ hs _ _ => hs)
    ⟨M, false, ⟨HN.out ▸ H2.f, hW, fun _ h => h, V4, fun _ => rfl, fun h => by cases h⟩, fun x hx => by simp [vals] at hx, Sm.refl _ _⟩
    (fun x => { tmps := #[.pointer (some ⟨kb, 0, none⟩), .pointer (some ⟨w.heap.size, 0, none⟩), .bool false, .pointer (some ⟨w1.heap.size, 0, none⟩), .pointer (some ⟨w1.heap.size + 1, 0, none⟩), .int .i64 x.1, undef, undef, .pointer (some ⟨kb, 0, none⟩), .slice (some ⟨Q2, 0, none⟩) n n, .pointer (some ⟨kb, 0, none⟩), .pointer (some ⟨kb, 0, none⟩), .pointer (some ⟨kb, 1, none⟩), .slice (some ⟨Q, 0, none⟩) n n, .func (.func 130) #[] #[.pointer (some ⟨w1.heap.size + 1 + 1, 0, none⟩)], .int .i64 x.1, undef, undef, undef, undef, undef, undef, undef, undef, undef, undef, undef, undef, undef, undef, undef, undef, undef, undef, undef, undef, undef, undef, undef, undef, undef, undef, undef, undef, undef, undef, undef, undef, undef, undef, undef, undef], defers := [] }) ?assign ?body ?done ?stop
  case assign =>
    intro l x W K hK
    gi_wp2
    exact hK
  case body =>
    rintro l pre ⟨xv, hA⟩ W ⟨M1, b, hO, hT, hSm⟩ hlt
    dsimp only
    have hAx := hA.1
    obtain ⟨j, rfl⟩ := Int.eq_ofNat_of_zero_le hAx.1
    have hj : j < n := by have := HN.out; omega
    have hj1 : (j : Int) < (n : Int) := by omega
    have hpn : p < w.heap.size := (H0.bk.lt _ (.inl rfl)).2
    have VBW := VB2.sm hSm (by omega)
    have VKW := H2.v.sm hSm (by have := H2.ne; omega)
    have VPW := H2.bk.v.sm hSm (by have h3 : Q ≠ p := fun e => H2.qx (.inl e); omega)
    have V3W := V3.sm hSm (by omega)
    have HCW := HC2.sm hSm (by omega)
    rw [HN.out] at VKW VPW
    obtain ⟨t, ht1⟩ : ∃ t, xs.getD j zTerm = t := ⟨_, rfl⟩
    have hta : tmAt xs (j : Int) = t := by unfold tmAt; rw [Int.toNat_natCast, ht1]
    obtain ⟨pa, -⟩ := tfC_ahead HT.out j (by have := HN.out; omega)
    rw [ht1] at pa
    have OW := H2.bk.o.sm hSm (fun bb hb hx => by
      have h1 := (H0.bk.lt _ (.inr (.inr ⟨bb, hb, rfl⟩))).2
      have h2 := fun e => H2.qx (.inr (.inr ⟨bb, hb, e⟩))
      rcases hx with hx | hx
      · exact h2 hx.symm
      · omega)
    rcases ownT_cells OW with h0 | ⟨b1, o1, rfl, s1, hca⟩
    · have := HN.out; rw [h0] at this; simp at this; omega
    obtain ⟨q0, q1, q2, q3⟩ := hca j (by have := HN.out; omega) t ht1
    have CP := Hid.mk (fun wz (bz : Below W.heap.size W wz) => partsTold_ok n (w.heap.size + 1) Q2 (canL xs (flg M)) t wz (HCW.kept bz) hn4 (fun h5 => by have := pa (by rw [h5, kids5]; decide); omega))
    have K : ∀ w' : World, Below W.heap.size W w' → w'.cell? ⟨w.heap.size, 0, none⟩ = some (.pointer (some ⟨kb, 0, none⟩)) ∧ w'.cell? ⟨kb, 0, none⟩ = some (.pointer (some ⟨p, 0, none⟩)) ∧ w'.cell? ⟨p, 0, none⟩ = some (.slice (some ⟨b1, o1, none⟩) n d) ∧ w'.cell? ⟨b1, o1 + j * 4, none⟩ = some (.int .i64 t.o) ∧ w'.cell? ⟨b1, o1 + j * 4 + 1, none⟩ = some (.int .i64 t.a) ∧ w'.cell? ⟨b1, o1 + j * 4 + 2, none⟩ = some (.int .i64 t.b) ∧ w'.cell? ⟨b1, o1 + j * 4 + 3, none⟩ = some (.int .i64 t.n) ∧ w'.cell? ⟨w1.heap.size, 0, none⟩ = some (.slice (some ⟨Q2, 0, none⟩) n n) := by
      intro w' bz
      have v1 := (VBW.kept bz).2.1 0 (by simp)
      have v2 := (VKW.kept bz).2.1 0 (by simp)
      have v3 := (VPW.kept bz).2.1 0 (by simp)
      have v4 := (V3W.kept bz).2.1 0 (by simp)
      have hc := (bcell bz).1
      exact ⟨v1, v2, v3, (hc _ _ s1).trans q0, (hc _ _ s1).trans q1, (hc _ _ s1).trans q2, (hc _ _ s1).trans q3, v4⟩
    replace K := Hid.mk K
    clear hca pa hAx
    gi_wp2_with fail
    refine wpIn_region_round (S := (fun w' => w'.cell? ⟨w.heap.size, 0, none⟩ = some (.pointer (some ⟨kb, 0, none⟩)) ∧ w'.cell? ⟨kb, 0, none⟩ = some (.pointer (some ⟨p, 0, none⟩)) ∧ w'.cell? ⟨p, 0, none⟩ = some (.slice (some ⟨b1, o1, none⟩) n d) ∧ w'.cell? ⟨b1, o1 + j * 4, none⟩ = some (.int .i64 t.o) ∧ w'.cell? ⟨b1, o1 + j * 4 + 1, none⟩ = some (.int .i64 t.a) ∧ w'.cell? ⟨b1, o1 + j * 4 + 2, none⟩ = some (.int .i64 t.b) ∧ w'.cell? ⟨b1, o1 + j * 4 + 3, none⟩ = some (.int .i64 t.n) ∧ w'.cell? ⟨w1.heap.size, 0, none⟩ = some (.slice (some ⟨Q2, 0, none⟩) n n))) (by kernel_rfl) (by kernel_rfl) (K.out _ (Below.refl _ _).drew) (fun hHeld => ?_)
    refine wpAnyH_take (i := 0) (oi := _) (v := ?vzu1) rfl (by kernel_rfl) (by kernel_rfl) (by kernel_rfl) (fun _ _ _ h => h) (Or.inl ⟨by kernel_rfl, ?hyzu1⟩) hHeld ?restzu1
    case hyzu1 => (intro w hSw; (try dsimp only at hSw); go_simp; first | done | with_reducible rfl)
    try simp only [Act.put, List.getElem_toArray, List.getElem_cons_zero, List.setIfInBounds_toArray, List.set_cons_zero, List.set_cons_succ]
    refine wpAnyH_take (i := 1) (oi := _) (v := ?vzu2) rfl (by kernel_rfl) (by kernel_rfl) (by kernel_rfl) (fun _ _ _ h => h) (Or.inl ⟨by kernel_rfl, ?hyzu2⟩) hHeld ?restzu2
    case hyzu2 => (intro w hSw; (try dsimp only at hSw); go_simp; first | done | with_reducible rfl)
    try simp only [Act.put, List.getElem_toArray, List.getElem_cons_zero, List.getElem_cons_succ, List.setIfInBounds_toArray, List.set_cons_zero, List.set_cons_succ]
    refine wpAnyH_take (i := 2) (oi := _) (v := ?vzu3) rfl (by kernel_rfl) (by kernel_rfl) (by kernel_rfl) (fun _ _ _ h => h) (Or.inl ⟨by kernel_rfl, ?hyzu3⟩) hHeld ?restzu3
    case hyzu3 => (intro w hSw; (try dsimp only at hSw); go_simp; first | done | with_reducible rfl)
    try simp only [Act.put, List.getElem_toArray, List.getElem_cons_zero, List.getElem_cons_succ, List.setIfInBounds_toArray, List.set_cons_zero, List.set_cons_succ]
    refine wpAnyH_take (i := 3) (oi := _) (v := ?vzu4) rfl (by kernel_rfl) (by kernel_rfl) (by kernel_rfl) (fun _ _ _ h => h) (Or.inl ⟨by kernel_rfl, ?hyzu4⟩) hHeld ?restzu4
    case hyzu4 => (intro w hSw; (try dsimp only at hSw); go_simp; first | done | with_reducible rfl)
    try simp only [Act.put, List.getElem_toArray, List.getElem_cons_zero, List.getElem_cons_succ, List.setIfInBounds_toArray, List.set_cons_zero, List.set_cons_succ]
    refine wpAnyH_take (i := 4) (oi := _) (v := ?vzu5) rfl (by kernel_rfl) (by kernel_rfl) (by kernel_rfl) (fun _ _ _ h => h) (Or.inl ⟨by kernel_rfl, ?hyzu5⟩) hHeld ?restzu5
    case hyzu5 => (intro w hSw; (try dsimp only at hSw); go_simp; first | done | with_reducible rfl)
    try simp only [Act.put, List.getElem_toArray, List.getElem_cons_zero, List.getElem_cons_succ, List.setIfInBounds_toArray, List.set_cons_zero, List.set_cons_succ]
    refine wpAnyH_take (i := 5) (oi := _) (v := ?vzu6) rfl (by kernel_rfl) (by kernel_rfl) (by kernel_rfl) (fun _ _ _ h => h) (Or.inl ⟨by kernel_rfl, ?hyzu6⟩) hHeld ?restzu6
    case hyzu6 => (intro w hSw; (try dsimp only at hSw); go_simp; first | done | with_reducible rfl)
    try simp only [Act.put, List.getElem_toArray, List.getElem_cons_zero, List.getElem_cons_succ, List.setIfInBounds_toArray, List.set_cons_zero, List.set_cons_succ]
    refine wpAnyH_take (i := 6) (oi := _) (v := ?vzu7) rfl (by kernel_rfl) (by kernel_rfl) (by kernel_rfl) (fun _ _ _ h => h) (Or.inl ⟨by kernel_rfl, ?hyzu7⟩) hHeld ?restzu7
    case hyzu7 => (intro w hSw; (try dsimp only at hSw); go_simp; first | done | with_reducible rfl)
    try simp only [Act.put, List.getElem_toArray, List.getElem_cons_zero, List.getElem_cons_succ, List.setIfInBounds_toArray, List.set_cons_zero, List.set_cons_succ]
    refine wpAnyH_take (i := 7) (oi := _) (v := ?vzu8) rfl (by kernel_rfl) (by kernel_rfl) (by kernel_rfl) (fun _ _ _ h => h) (Or.inl ⟨by kernel_rfl, ?hyzu8⟩) hHeld ?restzu8
    case hyzu8 => (intro w hSw; (try dsimp only at hSw); go_simp; first | done | with_reducible rfl)
    try simp only [Act.put, List.getElem_toArray, List.getElem_cons_zero, List.getElem_cons_succ, List.setIfInBounds_toArray, List.set_cons_zero, List.set_cons_succ]
    refine wpAnyH_take (i := 8) (oi := _) (v := ?vzu9) rfl (by kernel_rfl) (by kernel_rfl) (by kernel_rfl) (fun _ _ _ h => h) (Or.inl ⟨by kernel_rfl, ?hyzu9⟩) hHeld ?restzu9
    case hyzu9 => (intro w hSw; (try dsimp only at hSw); go_simp; first | done | with_reducible rfl)
    try simp only [Act.put, List.getElem_toArray, List.getElem_cons_zero, List.getElem_cons_succ, List.setIfInBounds_toArray, List.set_cons_zero, List.set_cons_succ]
    refine wpAnyH_take (i := 9) (oi := _) (v := ?vzu10) rfl (by kernel_rfl) (by kernel_rfl) (by kernel_rfl) (fun _ _ _ h => h) (Or.inl ⟨by kernel_rfl, ?hyzu10⟩) hHeld ?restzu10
    case hyzu10 => (intro w hSw; (try dsimp only at hSw); go_simp; first | done | with_reducible rfl)
    try simp only [Act.put, List.getElem_toArray, List.getElem_cons_zero, List.getElem_cons_succ, List.setIfInBounds_toArray, List.set_cons_zero, List.set_cons_succ]
    refine wpAnyH_take (i := 10) (oi := _) (v := ?vzu11) rfl (by kernel_rfl) (by kernel_rfl) (by kernel_rfl) (fun _ _ _ h => h) (Or.inl ⟨by kernel_rfl, ?hyzu11⟩) hHeld ?restzu11
    case hyzu11 => (intro w hSw; (try dsimp only at hSw); go_simp; first | done | with_reducible rfl)
    try simp only [Act.put, List.getElem_toArray, List.getElem_cons_zero, List.getElem_cons_succ, List.setIfInBounds_toArray, List.set_cons_zero, List.set_cons_succ]
    refine wpAnyH_take (i := 13) (oi := _) (v := ?vzu12) rfl (by kernel_rfl) (by kernel_rfl) (by kernel_rfl) (fun _ _ _ h => h) (Or.inl ⟨by kernel_rfl, ?hyzu12⟩) hHeld ?restzu12
    case hyzu12 => (intro w hSw; (try dsimp only at hSw); go_simp; first | done | with_reducible rfl)
    try simp only [Act.put, List.getElem_toArray, List.getElem_cons_zero, List.getElem_cons_succ, List.setIfInBounds_toArray, List.set_cons_zero, List.set_cons_succ]
    refine wpAnyH_ready (rs := [11]) (by kernel_rfl) (by simp) ?_
    refine AllReadyH.cons (o := _) rfl (fun K0 hK0 => ?_) AllReadyH.nil
    go_simp
    go_at_call 127
    refine (CP.out _ (Below.refl _ _).drew).mono ?_
    rintro e wzv13 ⟨c3, k3, d3, rfl, hk3, hO3, bzv13⟩
    refine hK0.out _ _ (K.out _ (thenB (Below.refl _ _).drew bzv13)) (fun hHeld => ?_)
    clear hK0 K0
    try simp only [Act.put, List.getElem_toArray, List.getElem_cons_zero, List.getElem_cons_succ, List.setIfInBounds_toArray, List.set_cons_zero, List.set_cons_succ]
    refine wpAnyH_take (i := 12) (oi := _) (v := ?vzu14) rfl (by kernel_rfl) (by kernel_rfl) (by kernel_rfl) (fun _ _ _ h => h) (Or.inl ⟨by kernel_rfl, ?hyzu14⟩) hHeld ?restzu14
    case hyzu14 => (intro w hSw; (try dsimp only at hSw); go_simp; first | done | with_reducible rfl)
    try simp only [Act.put, List.getElem_toArray, List.getElem_cons_zero, List.getElem_cons_succ, List.setIfInBounds_toArray, List.set_cons_zero, List.set_cons_succ]
    refine wpAnyH_done (by kernel_rfl) ?_ _
    have BZ : Below W.heap.size W wzv13 := (thenB (Below.refl _ _).drew bzv13)
    clear K hHeld CP bzv13 s1 q0 q1 q2 q3
    have VBZ := VBW.kept BZ
    have VKZ := VKW.kept BZ
    have OMZ := hO.sm (X := fun _ => False) (Sm.below BZ) id id
    have hRd := hO3.rd
    have hfr : ∀ bb : Addr, c3 = some bb → W.heap.size ≤ bb.block := fun bb hb => (hO3.lt bb hb).1
    have hL : ∀ z ∈ told (canL xs (flg M)) t, Lst xs kn z := fun z hz => told_lst (tfC_ahead HT.out) hW hA (by rw [hta]; exact hz)
    obtain ⟨T, hTT⟩ : ∃ T, told (canL xs (flg M)) t = T := ⟨_, rfl⟩
    rw [hTT] at hRd hL hk3
    have hT3 : told (canL xs (flg M)) (tmAt xs (j : Int)) = T := by rw [hta, hTT]
    have hWs := hSm.size
    have hk4 : k3 ≤ 2 := by rw [← hk3, ← hTT]; unfold told; split <;> (try split) <;> simp
    simp only [goesOn]
    clear hO3 OW VPW V3W HCW VBW VKW hTT hta ht1
    replace hRd := Hid.mk hRd
    replace hT3 := Hid.mk hT3
    replace hT := Hid.mk hT
    gi_wp2
    gi_loopw [29] (fun i wr => ∃ (k : Nat) (M2 : List Bool) (b2 : Bool), k ≤ k3 ∧ i = .int .i64 k ∧ Om xs kn base Q n (w1.heap.size + 1) M wr M2 b2 ∧ (∀ z, flg M1 z = true → flg M2 z = true) ∧ (∀ z ∈ T.take k, flg M2 z = true) ∧ Sm (fun k => k = Q ∨ k = w1.heap.size + 1) wzv13 wr) (fun i _ => k3 - (intOf i).toNat)
    case atStart => exact ⟨0, M1, b, Nat.zero_le _, rfl, OMZ, fun _ h => h, by simp, Sm.refl _ _⟩
    case round =>
      obtain ⟨k, M2, b2, hk, rfl, hOm, hup, hTk, hS2⟩ := hrel
      by_cases hkl : k < k3
      · have hk1 : (k : Int) < (k3 : Int) := by omega
        obtain ⟨z, hz1⟩ : ∃ z, T.getD k 0 = z := ⟨_, rfl⟩
        have hzT : z ∈ T := by rw [← hz1]; exact igetD_mem (by omega)
        have hLz := hL z hzT
        obtain ⟨jz, rfl⟩ := Int.eq_ofNat_of_zero_le hLz.1.1
        have hjz : jz < n := by have := HN.out; have := hLz.1.2; omega
        have hjz1 : (jz : Int) < (n : Int) := by omega
        have VBr := VBZ.sm hS2 (by omega)
        have VKr := VKZ.sm hS2 (by have := H2.ne; omega)
        have hRr := hRd.out.sm hS2 (fun bb hb hx => by have := hfr bb hb; rcases hx with hx | hx <;> omega)
        rcases hRr with h0 | ⟨b3, o3, rfl, hcb⟩
        · rw [h0] at hk3; simp at hk3; omega
        have p3 := hcb k (by omega)
        rw [hz1] at p3
        have hv := hOm.v
        have cz := hOm.f.cell hjz
        have fz := hOm.f.frozen jz
        have ht2 : T.take k ++ [(jz : Int)] = T.take (k + 1) := by rw [take_snoc T k (by omega), hz1]
        have hne : Q ≠ w1.heap.size + 1 := by omega
        have hl2 : jz < M2.length := by rw [hOm.f.1]; exact hjz
        have HM2 := Hid.mk (hOm.mark HN.out hne hLz)
        have hup2 : ∀ z, flg M1 z = true → flg (M2.set jz true) z = true := fun z hz => (flg_set hl2 z).2 (.inr (hup z hz))
        have hTk2 : ∀ z ∈ T.take (k + 1), flg (M2.set jz true) z = true := fun z hz => by
          rw [← ht2, List.mem_append] at hz
          rcases hz with hz | hz
          · exact (flg_set hl2 z).2 (.inr (hTk z hz))
          · exact (flg_set hl2 z).2 (.inl (by simpa using hz))
        have hS3 := Hid.mk (fun v : Bool => hS2.trans ((Sm.cell (X := fun k => k = Q ∨ k = w1.heap.size + 1) (w := wr) (p := ⟨w1.heap.size + 1, 0, none⟩) (.inr rfl) (.bool v)).trans (Sm.cell (p := ⟨Q, jz, none⟩) (.inl rfl) (.bool true))))
        have FO := Hid.mk (fun v : Bool => hOm.f.other (p := ⟨w1.heap.size + 1, 0, none⟩) (Ne.symm hne) (.bool v))
        have VBO := Hid.mk (fun v : Bool => VBr.other (p := ⟨w1.heap.size + 1, 0, none⟩) (by simp only; omega) (.bool v))
        have VKO := Hid.mk (fun v : Bool => VKr.other (p := ⟨w1.heap.size + 1, 0, none⟩) (by simp only; omega) (.bool v))
        obtain ⟨s_B, f_B, z_B⟩ := VBr.open
        obtain ⟨s_K, f_K, z_K⟩ := VKr.open
        obtain ⟨s_V, f_V, z_V⟩ := hv.open
        clear hcb ht2 hOm hup hTk hLz hzT hz1 hL hRd OMZ hO hSm BZ VBZ VKZ hS2
        generalize hm : M2.getD jz false = m at *
        cases b2
        · cases m
          all_goals
            simp only [Bool.false_or, Bool.not_false, Bool.not_true] at HM2
          · have FO4 := FO.out true
            have cz4 := FO4.cell hjz
            have fz4 := FO4.frozen jz
            rw [hm] at cz4
            obtain ⟨s_B4, f_B4, z_B4⟩ := (VBO.out true).open
            obtain ⟨s_K4, f_K4, z_K4⟩ := (VKO.out true).open
            clear FO4 hm
            gi_wp2
            go_roundw
            case rel => exact ⟨k + 1, _, _, by omega, by go_num, HM2.out, hup2, hTk2, hS3.out true⟩
            case measure => first | (simp [intOf]; done) | (simp [intOf]; omega)
          · have FO4 := FO.out false
            have cz4 := FO4.cell hjz
            have fz4 := FO4.frozen jz
            rw [hm] at cz4
            obtain ⟨s_B4, f_B4, z_B4⟩ := (VBO.out false).open
            obtain ⟨s_K4, f_K4, z_K4⟩ := (VKO.out false).open
            clear FO4 hm
            gi_wp2
            go_roundw
            case rel => exact ⟨k + 1, _, _, by omega, by go_num, HM2.out, hup2, hTk2, hS3.out false⟩
            case measure => first | (simp [intOf]; done) | (simp [intOf]; omega)
        · simp only [Bool.true_or] at HM2
          have FO4 := FO.out true
          have cz4 := FO4.cell hjz
          have fz4 := FO4.frozen jz
          obtain ⟨s_B4, f_B4, z_B4⟩ := (VBO.out true).open
          obtain ⟨s_K4, f_K4, z_K4⟩ := (VKO.out true).open
          clear FO4 hm
          gi_wp2
          go_roundw
          case rel => exact ⟨k + 1, _, _, by omega, by go_num, HM2.out, hup2, hTk2, hS3.out true⟩
          case measure => first | (simp [intOf]; done) | (simp [intOf]; omega)
      · obtain rfl : k = k3 := by omega
        have hTl : T.take k = T := List.take_of_length_le (by omega)
        rw [hTl] at hTk
        have S2 : Sm (fun k => k = Q ∨ k = w1.heap.size + 1) W wr := Sm.trans (Sm.below BZ) hS2
        have hkf : KeepsFrom W0.heap.size W wr := ⟨S2.size, fun i o hB hi _ => by
          have hlt2 := (Array.getElem?_eq_some_iff.1 hi).1
          exact (S2.block i hlt2 (by omega)).trans hi⟩
        have hkp : KpF (w1.heap.size + 1 + 1) base Q n (Lst xs kn) W wr := ⟨fun vs v => v.sm S2 (by omega), fun M' f hA' => by
          have e := Fl.unique hO.f f
          subst e
          exact ⟨M2, hOm.f, hOm.way.least, hup⟩⟩
        have hmi : OmI xs kn base Q n (w1.heap.size + 1) M W0 (pre ++ [⟨(j : Int), hA⟩]) wr := ⟨M2, b2, hOm, fun x hx z hz => by
          rw [show vals (pre ++ [⟨(j : Int), hA⟩]) = vals pre ++ [(j : Int)] from by simp [vals], List.mem_append] at hx
          rcases hx with hx | hx
          · exact hup z (hT.out x hx z hz)
          · obtain rfl : x = (j : Int) := by simpa using hx
            rw [hT3.out] at hz
            exact hTk z hz, hSm.trans S2⟩
        gi_wp2
        exact ⟨hkf, hkp, hmi⟩

  case done =>
    rintro D ys W hD hS ⟨M2, b, hO, hT, hSm⟩ hK
    have hv := hO.v
    obtain ⟨s_V, f_V, z_V⟩ := hv.open
    gi_wp2
    refine ⟨by simp, .inl ⟨_, _, rfl, run_takeDeferred hK, ?_⟩⟩
    have sD := sm_putObj W D (.deferred none)
    have S1 : Sm (fun k => k = Q) w W := Sm.less bw.size hSm (fun k hk hx => by rcases hx with rfl | rfl <;> omega) (Sm.below bw)
    have S2 : Sm (fun k => k = Q) w (W.putObj D (.deferred none)) := Sm.less S1.size sD (fun k hk hx => by omega) S1
    have hO2 := hO.sm sD (by omega) (by omega)
    refine ⟨_, results_tmp rfl _ _ _, b, M2, rfl, ?_, hO.way, fun hb => ⟨hO.no hb, ?_⟩, hO.yes, S2⟩
    · have e := HN.out
      refine ⟨(H2.bk.sm hSm ?_).sm sD ?_, (H2.v.sm hSm ?_).sm sD ?_, e ▸ hO2.f, H2.bb, H2.kx, H2.qx, H2.ne⟩
      · rintro k (rfl | rfl) hx
        · exact H2.qx hx
        · have := H0.bk.lt _ hx; omega
      · rintro k rfl hx
        have := H0.bk.lt _ hx; omega
      · rintro (hx | hx)
        · exact H2.ne hx.symm
        · omega
      · omega
    · have e := hO.no hb
      subst e
      exact hW.done fun i hi z hz => hT i (hS.all i hi (flg_in hi).1) z hz
  case stop =>
    rintro D c pre W _ _ h _
    exact h.elim
end

end Go.Proofs.Ythkmoabkeblbjaa
