/- Put together: OcA, LwK. -/
import Derived.Test.YthkmoabkeblbjaaIntA
import Derived.Test.YthkmoabkeblbjaaVar
import Derived.Test.YthkmoabkeblbjaaIntH
import Derived.Test.YthkmoabkeblbjaaNc
import Derived.Deep.DeepCutAuto

/- Whether a number is in a list. -/
namespace Go.Proofs.Ythkmoabkeblbjaa
open Go.RowKit

/-- A number is in a list. -/
def inL (zs : List Int) (v : Int) : Bool := zs.any fun z => z == v

theorem inL_drop (zs : List Int) (v : Int) (k : Nat) (h : k < zs.length) {z : Int} (hz : zs.getD k 0 = z) : inL (zs.drop k) v = ((z == v) || inL (zs.drop (k + 1)) v) := by
  unfold inL
  rw [List.drop_eq_getElem_cons h, List.any_cons]
  have e : zs[k] = z := by rw [← hz]; simp [List.getD, h]
  rw [e]

/-- The place of a number in a list, or -1. -/
def atL : List Int → Int → Int → Int
  | [], _, _ => -1
  | z :: zs, v, k => if z == v then k else atL zs v (k + 1)

theorem atL_in (zs : List Int) (v k : Int) (h : 0 ≤ k) : decide (0 ≤ atL zs v k) = inL zs v := by
  induction zs generalizing k with
  | nil => rfl
  | cons z zs ih =>
    unfold atL inL
    rw [List.any_cons]
    cases hz : (z == v)
    · simp only [Bool.false_eq_true, if_false, Bool.false_or]; exact ih (k + 1) (by omega)
    · simp [h]

theorem atL_drop (zs : List Int) (v : Int) (k : Nat) (h : k < zs.length) {z : Int} (hz : zs.getD k 0 = z) : atL (zs.drop k) v k = if (z == v) = true then (k : Int) else atL (zs.drop (k + 1)) v ((k + 1 : Nat) : Int) := by
  rw [List.drop_eq_getElem_cons h, atL]
  have e : zs[k] = z := by rw [← hz]; simp [List.getD, h]
  rw [e]; rfl

end Go.Proofs.Ythkmoabkeblbjaa

/- Lists of numbers in the laws; a number put into what is known. -/
namespace Go.Proofs.Ythkmoabkeblbjaa
open Go.RowKit

set_option maxHeartbeats 1000000 in
theorem lwHas_ok (a : Option Addr) (n ca : Nat) (zs : List Int) (v : Int) (w : World) (ha : Rd .i64 w a zs) (hn : zs.length = n) (hx : n ≤ maxLen) :
    Calls Try.prog 22 #[.slice a n ca, .int .i64 v] w fun e w' => e = .returned (.bool (inL zs v)) ∧ Below w.heap.size w w' := by
  unfold maxLen at hx
  go_enter Try.func22, Try.ntmps22
  go_wp2
  go_loopw [5] (fun i wr => ∃ k : Nat, k ≤ n ∧ i = .int .i64 k ∧ inL (zs.drop k) v = inL zs v ∧ Below w.heap.size w wr) (fun i _ => n - (intOf i).toNat)
  case atStart => exact ⟨0, Nat.zero_le _, rfl, rfl, Below.refl _ _⟩
  case round =>
    obtain ⟨k, hk, rfl, hdr, B⟩ := hrel
    by_cases hlt : k < n
    · obtain ⟨z, hz⟩ : ∃ z, zs.getD k 0 = z := ⟨_, rfl⟩
      have hk1 : (k : Int) < (n : Int) := by omega
      have hs := inL_drop zs v k (by omega) hz
      rw [hdr] at hs
      replace ha := ha.kept B
      rcases ha with ha | ⟨b1, o1, rfl, hca⟩
      · simp [ha] at hn; omega
      have p0 := hca k (by omega)
      rw [hz] at p0
      clear hca hz hdr
      cases hg : (z == v)
      · rw [hg, Bool.false_or] at hs
        have HS := Hid.mk hs
        clear hs
        go_wp2
        go_roundw
        case rel => exact ⟨k + 1, by omega, by go_num, HS.out.symm, B⟩
        case measure => simp [intOf]; omega
      · rw [hg, Bool.true_or] at hs
        have HS := Hid.mk hs
        clear hs
        go_wp2
        go_ret
        exact ⟨ret_bool HS.out.symm, B⟩
    · have hkn : k = n := by omega
      subst hkn
      rw [List.drop_of_length_le (by omega)] at hdr
      have HS := Hid.mk hdr
      clear hdr
      go_wp2
      go_ret
      exact ⟨ret_bool HS.out, B⟩

set_option maxHeartbeats 1000000 in
theorem lwNums_ok (a b : Option Addr) (n ca cb : Nat) (xs : List Int) (w : World) (ha : Rd .i64 w a xs) (hb : Rd .i64 w b xs) (hn : xs.length = n) (hx : n ≤ maxLen) :
    Calls Try.prog 32 #[.slice a n ca, .slice b n cb] w fun e w' => e = .returned (.bool true) ∧ Below w.heap.size w w' := by
  unfold maxLen at hx
  go_enter Try.func32, Try.ntmps32
  go_wp2
  go_loopw [5] (fun i wr => ∃ k : Nat, k ≤ n ∧ i = .int .i64 k ∧ Below w.heap.size w wr) (fun i _ => n - (intOf i).toNat)
  case atStart => exact ⟨0, Nat.zero_le _, rfl, Below.refl _ _⟩
  case round =>
    obtain ⟨k, hk, rfl, hbel⟩ := hrel
    by_cases hlt : k < n
    · replace ha := ha.kept hbel
      replace hb := hb.kept hbel
      rcases ha with ha | ⟨b1, o1, rfl, hca⟩
      · simp [ha] at hn; omega
      rcases hb with hb | ⟨b2, o2, rfl, hcb⟩
      · simp [hb] at hn; omega
      have p0 := hca k (by omega)
      have p1 := hcb k (by omega)
      have hk1 : (k : Int) < (n : Int) := by omega
      clear hca hcb
      generalize xs.getD k 0 = z at *
      replace hbel := Hid.mk hbel
      go_wp2
      go_quiet (fail)
      go_wp2
      go_roundw
      case rel => exact ⟨k + 1, by omega, by go_num, belowN hbel.out _⟩
      case measure => simp [intOf]; omega
    · have hkn : k = n := by omega
      subst hkn
      go_wp2
      go_ret
      exact ⟨rfl, hbel⟩

theorem inL_iff {zs : List Int} {v : Int} : inL zs v = true ↔ v ∈ zs := by
  unfold inL
  simp only [List.any_eq_true, beq_iff_eq]
  exact ⟨fun ⟨x, hx, e⟩ => e ▸ hx, fun h => ⟨v, h, rfl⟩⟩

theorem flg_dv (xs : List T4) (kn : List Int) (z : Int) : flg (dvF xs kn) z = drv xs kn z := by
  unfold dvF drv der flg can
  by_cases h0 : 0 ≤ z
  · by_cases h1 : z < xs.length
    · simp [h0, h1]
    · have : (canL xs (isIn (openL xs kn))).getD z.toNat false = false := by
        rw [List.getD_eq_getElem?_getD, List.getElem?_eq_none (by rw [canL_len]; omega)]; rfl
      rw [this]
      simp [h1]
  · simp [h0]

theorem ds_mem {xs : List T4} {kn : List Int} (h : knC xs kn = 0) {z : Int} : z ∈ dsL xs kn ↔ drv xs kn z = true := by
  unfold dsL
  rw [if_pos h, plcs_mem, flg_dv]

theorem ds_in {xs : List T4} {kn : List Int} (h : knC xs kn = 0) {z : Int} (hz : z ∈ dsL xs kn) : 0 ≤ z ∧ z < xs.length := by
  unfold dsL at hz
  rw [if_pos h, plcs_mem] at hz
  have := flg_in hz
  rwa [dvF_len] at this

theorem ds_rising {xs : List T4} {kn : List Int} (h : knC xs kn = 0) : Rising (dsL xs kn) := by
  unfold dsL
  rw [if_pos h]
  exact plcs_rising _

theorem rise_places {xs : List T4} {kn : List Int} (h : knC xs kn = 0) {q : Nat} (hq : q < xs.length) : ∀ z ∈ rise kn q, 0 ≤ z ∧ z < xs.length := fun z hz => by
  rcases rise_mem.1 hz with rfl | hz
  · omega
  · exact (knC_zero h).2.2.1 z hz

/-- Who knows one thing more. -/
theorem more_ways {xs : List T4} {kn : List Int} (h : knC xs kn = 0) {q : Nat} (hq : q < xs.length) :
    knC xs (rise kn q) = 0 ∧ inL (dsL xs (rise kn q)) q = true ∧ (∀ z ∈ dsL xs kn, inL (dsL xs (rise kn q)) z = true) ∧ (dvB xs kn q = true → dsL xs (rise kn q) = dsL xs kn) := by
  obtain ⟨h1, h2, h3, h4⟩ := knC_zero h
  have hp := rise_places h hq
  have hr := rise_rising (v := (q : Int)) h4
  have h0 := knC_ok h1 hp hr
  have hA := tfC_ahead h1
  have hk : ∀ z ∈ kn, z ∈ rise kn q := fun z hz => rise_mem.2 (.inr hz)
  have hdrv : ∀ z ∈ dsL xs kn, z ∈ dsL xs (rise kn q) := fun z hz => by
    obtain ⟨z0, z1⟩ := ds_in h hz
    obtain ⟨k, rfl⟩ := Int.eq_ofNat_of_zero_le z0
    rw [ds_mem h0]
    rw [ds_mem h] at hz
    exact drv_more hA h4 h3 hr hp hk (by omega) hz
  refine ⟨h0, ?_, fun z hz => inL_iff.2 (hdrv z hz), fun hd => ?_⟩
  · rw [inL_iff, ds_mem h0]
    exact drv_known hA hq ((openL_open hA hr hp).way.has _ (rise_mem.2 (.inl rfl)))
  · have hd2 : drv xs kn q = true := by
      unfold dvB at hd
      rw [Bool.and_eq_true, flg_dv] at hd
      exact hd.2
    refine rising_eq _ _ (ds_rising h0) (ds_rising h) fun z => ⟨fun hz => ?_, hdrv z⟩
    obtain ⟨z0, z1⟩ := ds_in h0 hz
    obtain ⟨k, rfl⟩ := Int.eq_ofNat_of_zero_le z0
    rw [ds_mem h]
    rw [ds_mem h0] at hz
    refine drv_same hA h4 h3 hr hp (fun y hy => ?_) (by omega) hz
    rcases rise_mem.1 hy with rfl | hy
    · exact hd2
    · obtain ⟨y0, y1⟩ := h3 y hy
      obtain ⟨i, rfl⟩ := Int.eq_ofNat_of_zero_le y0
      exact drv_known hA (by omega) ((openL_open hA h4 h3).way.has _ hy)

/-- A list that is built of what is known and one number more, the first j gone through. -/
def MoS (kn : List Int) (q : Int) (j : Nat) (l : List Int) (p : Bool) : Prop :=
  (p = false ∧ l = kn.take j ∧ ∀ z ∈ kn.take j, z < q) ∨ (p = true ∧ l = rise (kn.take j) q ∧ ∃ z ∈ kn.take j, q ≤ z)

theorem rise_last {l : List Int} (h : Rising l) {q : Int} (hq : ∀ z ∈ l, z < q) : rise l q = l ++ [q] := by
  have hr : Rising (l ++ [q]) := by
    rw [Rising, List.pairwise_append]
    exact ⟨h, List.pairwise_singleton _ _, fun a ha b hb => by simp only [List.mem_singleton] at hb; subst hb; exact hq a ha⟩
  refine rising_eq _ _ (rise_rising h) hr fun z => ?_
  rw [rise_mem, List.mem_append, List.mem_singleton]
  exact ⟨fun h => h.symm, fun h => h.symm⟩

theorem rise_snoc {l : List Int} {z q : Int} (h : Rising (l ++ [z])) (hq : q < z) : rise (l ++ [z]) q = rise l q ++ [z] := by
  obtain ⟨h1, _, h3⟩ := List.pairwise_append.1 h
  have hr : Rising (rise l q ++ [z]) := by
    rw [Rising, List.pairwise_append]
    refine ⟨rise_rising h1, List.pairwise_singleton _ _, fun a ha b hb => ?_⟩
    simp only [List.mem_singleton] at hb
    subst hb
    rcases rise_mem.1 ha with rfl | ha
    · exact hq
    · exact h3 a ha b (by simp)
  refine rising_eq _ _ (rise_rising h) hr fun y => ?_
  rw [rise_mem, List.mem_append, List.mem_append, rise_mem, List.mem_singleton]
  exact ⟨fun h => by rcases h with h | h | h <;> simp [h], fun h => by rcases h with (h | h) | h <;> simp [h]⟩

theorem take_up {kn : List Int} {j : Nat} (hj : j < kn.length) {z : Int} (hz : kn.getD j 0 = z) : kn.take (j + 1) = kn.take j ++ [z] := by rw [take_snoc kn j hj, hz]

theorem take_lt {kn : List Int} (h : Rising kn) {j : Nat} (hj : j < kn.length) {z : Int} (hz : kn.getD j 0 = z) : ∀ y ∈ kn.take j, y < z := fun y hy => by
  obtain ⟨i, hi, rfl⟩ := List.getElem_of_mem hy
  rw [List.length_take] at hi
  have := rising_at h (i := i) (j := j) (by omega) hj
  rw [List.getElem_take, ← hz]
  simpa [List.getD, show i < kn.length by omega] using this

theorem mo_start (kn : List Int) (q : Int) : MoS kn q 0 [] false := .inl ⟨rfl, by simp, by simp⟩

theorem mo_lt {kn : List Int} {q : Int} {j : Nat} {l : List Int} (h : MoS kn q j l false) (hj : j < kn.length) {z : Int} (hz : kn.getD j 0 = z) (hq : z < q) : MoS kn q (j + 1) (l ++ [z]) false := by
  rcases h with ⟨_, rfl, h2⟩ | ⟨h, _⟩
  · refine .inl ⟨rfl, (take_up hj hz).symm, fun y hy => ?_⟩
    rw [take_up hj hz, List.mem_append, List.mem_singleton] at hy
    rcases hy with hy | rfl
    · exact h2 y hy
    · exact hq
  · cases h

theorem mo_eq {kn : List Int} (_hr : Rising kn) {q : Int} {j : Nat} {l : List Int} (h : MoS kn q j l false) (hj : j < kn.length) (hz : kn.getD j 0 = q) : MoS kn q (j + 1) (l ++ [q]) true := by
  rcases h with ⟨_, rfl, h2⟩ | ⟨h, _⟩
  · refine .inr ⟨rfl, ?_, q, ?_, by omega⟩
    · rw [take_up hj hz, rise_in (by simp)]
    · rw [take_up hj hz]; simp
  · cases h

theorem mo_gt {kn : List Int} (hr : Rising kn) {q : Int} {j : Nat} {l : List Int} (h : MoS kn q j l false) (hj : j < kn.length) {z : Int} (hz : kn.getD j 0 = z) (hq : q < z) : MoS kn q (j + 1) (l ++ [q] ++ [z]) true := by
  have ht : Rising (kn.take j ++ [z]) := by rw [← take_up hj hz]; exact hr.sublist (List.take_sublist _ _)
  rcases h with ⟨_, rfl, h2⟩ | ⟨h, _⟩
  · refine .inr ⟨rfl, ?_, z, ?_, by omega⟩
    · rw [take_up hj hz, rise_snoc ht hq, rise_last (hr.sublist (List.take_sublist _ _)) h2]
    · rw [take_up hj hz]; simp
  · cases h

theorem mo_put {kn : List Int} (hr : Rising kn) {q : Int} {j : Nat} {l : List Int} (h : MoS kn q j l true) (hj : j < kn.length) {z : Int} (hz : kn.getD j 0 = z) : q < z ∧ MoS kn q (j + 1) (l ++ [z]) true := by
  have ht : Rising (kn.take j ++ [z]) := by rw [← take_up hj hz]; exact hr.sublist (List.take_sublist _ _)
  rcases h with ⟨h, _⟩ | ⟨_, rfl, y, hy, hqy⟩
  · cases h
  · have h1 := take_lt hr hj hz y hy
    refine ⟨by omega, .inr ⟨rfl, ?_, y, ?_, hqy⟩⟩
    · rw [take_up hj hz, rise_snoc ht (by omega)]
    · rw [take_up hj hz]; simp [hy]

theorem mo_end {kn : List Int} (hr : Rising kn) {q : Int} {l : List Int} {p : Bool} (h : MoS kn q kn.length l p) : (p = false → l ++ [q] = rise kn q) ∧ (p = true → l = rise kn q) := by
  rw [MoS, List.take_length] at h
  rcases h with ⟨rfl, rfl, h2⟩ | ⟨rfl, rfl, _⟩
  · refine ⟨fun _ => (rise_last hr h2).symm, fun h => ?_⟩
    cases h
  · refine ⟨fun h => ?_, fun _ => rfl⟩
    cases h

theorem mo_len {kn : List Int} {q : Int} {j : Nat} {l : List Int} {p : Bool} (hr : Rising kn) (h : MoS kn q j l p) : l.length ≤ j + 1 := by
  rcases h with ⟨_, rfl, _⟩ | ⟨_, rfl, _⟩
  · rw [List.length_take]; omega
  · have := rise_len (kn.take j) q (hr.sublist (List.take_sublist _ _))
    rw [List.length_take] at this; omega

end Go.Proofs.Ythkmoabkeblbjaa
