/- Slices of slices of bytes: how many they hold; whether two are the same; marks. -/
import Derived.Test.YtnclfbliimcpgabSlices
namespace Go.Proofs.Ytnclfbliimcpgab
open Go.RowKit

set_option maxHeartbeats 1000000 in
theorem szByteSS_ok (a : Option Addr) (n ca : Nat) (zss : List (List Int)) (w : World) (ha : RdR w a zss) (hn : zss.length = n) (hx : n ≤ maxLen) (hl : ∀ z ∈ zss, z.length ≤ maxLen) :
    Calls Try.prog 15 #[.slice a n ca, .int .i64 1048576] w fun e w' => ∃ v : Int, e = .returned (.int .i64 v) ∧ (v < 0 ∨ (0 ≤ v ∧ n ≤ 1048576 ∧ total zss ≤ 1048576)) ∧ w' = w := by
  unfold maxLen at hx hl
  by_cases h0 : n ≤ 1048576
  · have hr : (0 : Int) ≤ 1048576 - (n : Int) := by omega
    go_enter Try.func15, Try.ntmps15
    go_wp2
    go_loopw [1, 5] (fun t i wr => ∃ k : Nat, k ≤ n ∧ i = .int .i64 k ∧ (n : Int) + (total (zss.take k) : Int) ≤ 1048576 ∧ t = .int .i64 (1048576 - (n : Int) - (total (zss.take k) : Int)) ∧ wr = w) (fun _ i _ => n - (intOf i).toNat)
    case atStart => exact ⟨0, Nat.zero_le _, rfl, by simp [total]; omega, by simp [total], rfl⟩
    case round =>
      obtain ⟨k, hk, rfl, htot, rfl, rfl⟩ := hrel
      by_cases hlt : k < n
      · rcases ha with ha | ⟨b1, o1, rfl, hca⟩
        · simp [ha] at hn; omega
        obtain ⟨c, d, h1, _, _⟩ := hca k (by omega)
        have hk1 : (k : Int) < (n : Int) := by omega
        have hT := Hid.mk (total_take zss k (by omega))
        have hln : (zss.getD k []).length ≤ 2 ^ 63 - 1 := hl _ (by rw [show zss.getD k [] = zss[k] by simp [List.getD, show k < zss.length by omega]]; exact List.getElem_mem _)
        clear hca
        generalize (zss.getD k []).length = m at *
        generalize total (zss.take k) = T at *
        have hmi : (m : Int) ≤ 9223372036854775807 := by omega
        by_cases hneg : 1048576 - (n : Int) - (T : Int) - (m : Int) < 0
        · go_wp2_with (go_at_call 38; go_in)
          go_ret
          exact ⟨-1, rfl, .inl (by omega), rfl⟩
        · have hpos : 0 ≤ 1048576 - (n : Int) - (T : Int) - (m : Int) := by omega
          clear hneg
          go_wp2_with (go_at_call 38; go_in)
          go_roundw
          case rel => exact ⟨k + 1, by omega, by go_num, by rw [hT.out]; omega, by rw [hT.out]; exact congrArg (Value.int IntKind.i64) (by omega), by trivial⟩
          case measure => simp [intOf]; omega
      · have hkn : k = n := by omega
        subst hkn
        rw [List.take_of_length_le (by omega)] at htot
        have e := Hid.mk (show total (zss.take k) = total zss by rw [List.take_of_length_le (by omega)])
        generalize total (zss.take k) = T at *
        go_wp2
        go_ret
        exact ⟨_, rfl, .inr ⟨by rw [e.out]; omega, h0, by omega⟩, rfl⟩
  · have hr : 1048576 - (n : Int) < 0 := by omega
    go_enter Try.func15, Try.ntmps15
    go_wp2
    go_ret
    exact ⟨-1, rfl, .inl (by omega), rfl⟩

set_option maxHeartbeats 1000000 in
theorem eqByteSS_ok (a b : Option Addr) (n ca cb : Nat) (zss : List (List Int)) (w : World) (ha : RdR w a zss) (hb : RdR w b zss) (hn : zss.length = n) (hx : n ≤ maxLen) (hl : ∀ z ∈ zss, z.length ≤ maxLen) :
    Calls Try.prog 20 #[.slice a n ca, .slice b n cb] w fun e w' => e = .returned (.bool true) ∧ Below w.heap.size w w' := by
  have hx' := hx
  unfold maxLen at hx
  go_enter Try.func20, Try.ntmps20
  go_wp2
  go_loopw [5] (fun i wr => ∃ k : Nat, k ≤ n ∧ i = .int .i64 k ∧ Below w.heap.size w wr) (fun i _ => n - (intOf i).toNat)
  case atStart => exact ⟨0, Nat.zero_le _, rfl, Below.refl _ _⟩
  case round =>
    obtain ⟨k, hk, rfl, hbel⟩ := hrel
    by_cases hlt : k < n
    · have ha := ha.kept hbel
      have hb := hb.kept hbel
      rcases ha with ha | ⟨b1, o1, rfl, hca⟩
      · simp [ha] at hn; omega
      rcases hb with hb | ⟨b2, o2, rfl, hcb⟩
      · simp [hb] at hn; omega
      obtain ⟨c1, d1, h1, r1, _⟩ := hca k (by omega)
      obtain ⟨c2, d2, h2, r2, _⟩ := hcb k (by omega)
      have hk1 : (k : Int) < (n : Int) := by omega
      have hln : (zss.getD k []).length ≤ maxLen := hl _ (by rw [show zss.getD k [] = zss[k] by simp [List.getD, show k < zss.length by omega]]; exact List.getElem_mem _)
      clear hca hcb
      generalize zss.getD k [] = zs at *
      have EQ := Hid.mk (fun wx (h1 : Rd .u8 wx c1 zs) (h2 : Rd .u8 wx c2 zs) => eqByteS_drew c1 c2 zs.length zs.length d1 d2 zs zs wx h1 h2 rfl rfl hln hln)
      rw [show decide (zs = zs) = true by simp] at EQ
      have R1 := Hid.mk r1
      have R2 := Hid.mk r2
      clear r1 r2 hln
      obtain ⟨m, hm⟩ : ∃ m, zs.length = m := ⟨_, rfl⟩
      rw [hm] at h1 h2 EQ
      clear hm
      go_wp2
      go_quiet ((go_at_call 11; refine Calls.quiet_of (EQ.out _ ?_ ?_); exact (R1.out.kept (belowN (Below.refl _ _) _)); exact (R2.out.kept (belowN (Below.refl _ _) _))))
      go_wp2
      go_roundw
      case rel => exact ⟨k + 1, by omega, by go_num, belowN hbel _⟩
      case measure => simp [intOf]; omega
    · have hkn : k = n := by omega
      subst hkn
      go_wp2
      go_ret
      exact ⟨rfl, hbel⟩

/-- What is turned lies between two block numbers. -/
def Within (w w' : World) (lo hi : Nat) : Prop := w'.os = w.os ∧ w'.tape = w.tape ∧ w'.output = w.output ∧ w.heap.size ≤ w'.heap.size ∧ ∀ k, k < w.heap.size → (k < lo ∨ hi ≤ k) → w'.heap[k]? = w.heap[k]?

theorem Within.refl (w : World) (lo hi : Nat) : Within w w lo hi := ⟨rfl, rfl, rfl, Nat.le_refl _, fun _ _ _ => rfl⟩

theorem Within.step {w w1 w2 : World} {lo hi : Nat} {row : Option Nat} (h : Within w w1 lo hi) (g : w1.grownBy w2 row) (hr : ∀ k, row = some k → lo ≤ k ∧ k < hi) : Within w w2 lo hi :=
  ⟨g.os.trans h.1, g.tape.trans h.2.1, g.output.trans h.2.2.1, Nat.le_trans h.2.2.2.1 g.size, fun k hk ho =>
    (g.block k (Nat.lt_of_lt_of_le hk h.2.2.2.1) (fun e => by have := hr k e.symm; omega)).trans (h.2.2.2.2 k hk ho)⟩

theorem Within.below {w w1 : World} {lo hi : Nat} (h : Within w w1 lo hi) {B : Nat} (hB : B ≤ lo) (hw : lo ≤ w.heap.size) : Below B w w1 :=
  ⟨h.1, h.2.1, h.2.2.1, h.2.2.2.1, fun k hk => h.2.2.2.2 k (by omega) (.inl (by omega))⟩

theorem Own.within {k : IntKind} {e : TypeId} {w w' : World} {base lo hi : Nat} {a : Option Addr} {cap : Nat} {zs : List Int} (h : Own k e w base a cap zs) (g : Within w w' lo hi) (hb : ∀ b, a = some b → b.block < lo ∨ hi ≤ b.block) : Own k e w' base a cap zs := by
  refine ⟨h.1, ?_⟩
  rcases h.2 with h2 | ⟨g', cap', cur, hv, hbg, hgg, rest⟩
  · exact .inl h2
  · have hv' := hv
    simp only [Value.slice.injEq, true_and] at hv'
    refine .inr ⟨g', cap', cur, hv, hbg, ?_, rest⟩
    rw [g.2.2.2.2 g' (Array.getElem?_eq_some_iff.1 hgg).1 (hb _ hv'.1)]
    exact hgg

theorem At.within {w w' : World} {B lo hi : Nat} {vs : List Value} (h : At w B vs) (g : Within w w' lo hi) (hb : B < lo ∨ hi ≤ B) : At w' B vs :=
  ⟨Nat.lt_of_lt_of_le h.1 g.2.2.2.1, fun i v hi => (World.cell?_of_block (w := w) (a := ⟨B, i, none⟩) (g.2.2.2.2 B h.1 hb)).trans (h.2 i v hi)⟩

/-- The rows' cells at block G, whatever the rows hold by now: row i lies in block g i, and has ln i bytes. -/
def MarkR (w : World) (G n lo hi : Nat) (g ln : Nat → Nat) : Prop :=
  (∀ i, i < n → w.cell? ⟨G, i, none⟩ = some (.slice (some ⟨g i, 0, none⟩) (ln i) (ln i))) ∧
  (∀ i, i < n → lo ≤ g i ∧ g i < hi ∧ g i ≠ G ∧ ln i ≤ 1048576 ∧ ∃ xs : List Int, xs.length = ln i ∧ Own .u8 5 w lo (some ⟨g i, 0, none⟩) (ln i) xs) ∧
  ∀ i j, i < j → j < n → g i ≠ g j

theorem MarkR.step {w w' : World} {G n lo hi : Nat} {g ln : Nat → Nat} (h : MarkR w G n lo hi g ln) {k : Nat} (hk : k < n) {ms : List Int} (hm : ms.length = ln k) (hO : Own .u8 5 w' lo (some ⟨g k, 0, none⟩) (ln k) ms) (hg : w.grownBy w' (some (g k))) : MarkR w' G n lo hi g ln := by
  refine ⟨fun i hi => hg.cell (h.1 i hi) fun e => ?_, fun i hi => ?_, h.2.2⟩
  · simp at e
    exact (h.2.1 k hk).2.2.1 e.symm
  · obtain ⟨a1, a2, a3, a4, xs, a5, a6⟩ := h.2.1 i hi
    refine ⟨a1, a2, a3, a4, ?_⟩
    by_cases hik : i = k
    · subst hik
      exact ⟨ms, hm, hO⟩
    · refine ⟨xs, a5, a6.grown hg fun b hb e => ?_⟩
      simp at hb e
      subst hb
      rcases Nat.lt_or_gt_of_ne hik with h1 | h1
      · exact h.2.2 i k h1 hk e.symm
      · exact h.2.2 k i h1 hi e

set_option maxHeartbeats 1000000 in
theorem markByteSS_ok (G n lo hi : Nat) (g ln : Nat → Nat) (w : World) (h : MarkR w G n lo hi g ln) (hx : n ≤ 1048576) :
    Calls Try.prog 21 #[.slice (some ⟨G, 0, none⟩) n n, .int .i64 1] w fun e w' => ∃ v : Int, e = .returned (.int .i64 v) ∧ 0 ≤ v ∧ Within w w' lo hi := by
  go_enter Try.func21, Try.ntmps21
  go_wp2
  go_loopw [1, 5] (fun t i wr => ∃ (k : Nat) (v : Int), k ≤ n ∧ i = .int .i64 k ∧ t = .int .i64 v ∧ 1 ≤ v ∧ v ≤ 1 + (k : Int) * 1048576 ∧ MarkR wr G n lo hi g ln ∧ Within w wr lo hi) (fun _ i _ => n - (intOf i).toNat)
  case atStart => exact ⟨0, 1, Nat.zero_le _, rfl, rfl, by omega, by omega, h, Within.refl _ _ _⟩
  case round =>
    obtain ⟨k, v, hk, rfl, rfl, v1, v2, hM, hW⟩ := hrel
    by_cases hlt : k < n
    · have h1 := hM.1 k hlt
      obtain ⟨a1, a2, a3, a4, xs, a5, a6⟩ := hM.2.1 k hlt
      have hk1 : (k : Int) < (n : Int) := by omega
      have hln : (ln k : Int) ≤ 1048576 := by omega
      have HM := Hid.mk hM
      have HW := Hid.mk hW
      clear hM hW h
      go_wp2_with fail
      refine (markByteS_ok (some ⟨g k, 0, none⟩) (ln k) (ln k) lo xs v _ a6 a5 (by omega) (by omega)).mono ?_
      rintro e w1 ⟨rfl, o1, g1⟩
      have HM1 := Hid.mk (HM.out.step hlt (length_marks _ _) o1 g1)
      have HW1 := Hid.mk (HW.out.step g1 fun j hj => by simp at hj; subst hj; exact ⟨a1, a2⟩)
      clear o1 g1 a6 h1
      go_wp2
      go_roundw
      case rel => exact ⟨k + 1, v + (ln k : Int), by omega, by go_num, rfl, by omega, by omega, HM1.out, HW1.out⟩
      case measure => simp [intOf]; omega
    · have hkn : k = n := by omega
      subst hkn
      go_wp2
      go_ret
      exact ⟨v, rfl, by omega, hW⟩

/-- Rows of the call's own are rows to be marked. -/
theorem OwnR.marks {w : World} {base n cap hi : Nat} {G : Nat} {ps : List (Nat × List Int)} (h : OwnR w base (some ⟨G, 0, none⟩) cap ps) (hn : ps.length = n) (hG : G ≤ base) (hhi : w.heap.size ≤ hi) (ht : ∀ p ∈ ps, p.2.length ≤ 1048576) :
    MarkR w G n base hi (fun i => (ps.getD i (0, [])).1) (fun i => (ps.getD i (0, [])).2.length) := by
  subst hn
  have e : ∀ i, (hi : i < ps.length) → ps.getD i (0, []) = ps[i] := fun i hi => by simp [List.getD, hi]
  refine ⟨fun i hi => ?_, fun i hi => ?_, fun i j hij hj => ?_⟩
  · rw [World.ownsRow.cellAt h.1 i (by omega)]
    simp only [e i hi]
    simp [rowV, hi]
  · simp only [e i hi]
    have h1 := h.2.1 _ (List.getElem_mem hi)
    have h2 := h1.lt _ rfl
    simp at h2
    exact ⟨by omega, by omega, by omega, ht _ (List.getElem_mem hi), ps[i].2, rfl, h1.mono (by omega)⟩
  · simp only [e i (by omega), e j hj]
    have := List.pairwise_iff_getElem.1 h.2.2 i j (by omega) hj hij
    omega

/-- What the row's frame tells of a slice of slices of bytes that came in, in this file's words. -/
theorem rowsRd {w : World} {x : Addr} {l c : Nat} {A : Nat → Option Addr} {L C : Nat → Nat} {Z : Nat → List Int} (hl : l ≤ c) (hm : c ≤ maxLen)
    (hr : ∀ r, r < c → w.cell? (x.add r) = some (.slice (A r) (L r) (C r)) ∧ L r ≤ C r ∧ C r ≤ maxLen ∧ (Z r).length = C r ∧ (∀ n ∈ Z r, (Lit.int .u8 n).wf = true) ∧ (A r = none → C r = 0) ∧
      ∀ a', A r = some a' → 0 ≤ a'.block ∧ ∀ j, j < C r → w.cell? (a'.add j) = some (.int .u8 ((Z r).getD j 0))) :
    ∃ zss : List (List Int), RdR w (some x) zss ∧ zss.length = l ∧ l ≤ maxLen ∧ (∀ z ∈ zss, z.length ≤ maxLen) ∧ ∀ z ∈ zss, ∀ n ∈ z, (Lit.int .u8 n).wf = true := by
  have hlen : ∀ i, i < c → ((Z i).take (L i)).length = L i := fun i hi => by
    obtain ⟨_, h2, _, h4, _⟩ := hr i hi
    simp; omega
  refine ⟨(List.range l).map fun r => (Z r).take (L r), ?_, by simp, by omega, ?_, ?_⟩
  · by_cases h0 : l = 0
    · subst h0; exact .inl rfl
    · right
      obtain ⟨b, off, spot⟩ := x
      have hc := (hr 0 (by omega)).1
      have hspot : spot = none := by simpa [Addr.add] using World.cell?_spot hc
      subst hspot
      refine ⟨b, off, rfl, fun i hi => ?_⟩
      have hi' : i < l := by simpa using hi
      obtain ⟨h1, h2, h3, h4, h5, h6, h7⟩ := hr i (by omega)
      have e : ((List.range l).map fun r => (Z r).take (L r)).getD i [] = (Z i).take (L i) := by simp [List.getD, hi']
      rw [e, hlen i (by omega)]
      rw [Addr.add_lit] at h1
      refine ⟨A i, C i, h1, ?_, h6⟩
      cases hA : A i with
      | none =>
        have := h6 hA
        left
        have : L i = 0 := by omega
        simp [this]
      | some a' =>
        exact (rowRd (.inr ⟨a', rfl, h2, h3, h4, fun j hj => (h7 a' hA).2 j (by omega), h5⟩)).1
  · intro z hz
    simp at hz
    obtain ⟨i, hi, rfl⟩ := hz
    have := hlen i (by omega)
    obtain ⟨_, h2, h3, _⟩ := hr i (by omega)
    omega
  · intro z hz n hn
    simp at hz
    obtain ⟨i, hi, rfl⟩ := hz
    exact (hr i (by omega)).2.2.2.2.1 n (List.mem_of_mem_take hn)

end Go.Proofs.Ytnclfbliimcpgab
