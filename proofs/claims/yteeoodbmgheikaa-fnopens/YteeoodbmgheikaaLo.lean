/- Put together: LwK, XOpen. -/
import Derived.Test.YteeoodbmgheikaaOcA
import Derived.Test.YteeoodbmgheikaaIntH
import Derived.Test.YteeoodbmgheikaaKF
import Derived.Deep.DeepCutAuto
import Derived.Test.YteeoodbmgheikaaDb

/- Lists of numbers in the laws; a number put into what is known. -/
namespace Go.Proofs.Yteeoodbmgheikaa
open Go.RowKit

set_option maxHeartbeats 1000000 in
theorem lwHas_ok (a : Option Addr) (n ca : Nat) (zs : List Int) (v : Int) (w : World) (ha : Rd .i64 w a zs) (hn : zs.length = n) (hx : n ≤ maxLen) :
    Calls Try.prog 18 #[.slice a n ca, .int .i64 v] w fun e w' => e = .returned (.bool (inL zs v)) ∧ Below w.heap.size w w' := by
  unfold maxLen at hx
  go_enter Try.func18, Try.ntmps18
  go_wp2
  go_loopw [5] (fun i wr => ∃ k : Nat, k ≤ n ∧ i = .int .i64 k ∧ inL (zs.drop k) v = inL zs v ∧ Below w.heap.size w wr) (fun i _ => n - (intOf i).toNat)
  case atStart => exact ⟨0, Nat.zero_le _, rfl, rfl, Below.refl _ _⟩
  case round =>
    obtain ⟨k, hk, rfl, hdr, B⟩ := hrel
    by_cases hlt : k < n
    · obtain ⟨z, hz⟩ : ∃ z, zs.getD k 0 = z := ⟨_, rfl⟩
      have hk1 : (k : Int) < (n : Int) := by omega
      have hs := inL_drop zs v k (by omega) hz
      rw [hdr] at hs
      replace ha := ha.kept B
      rcases ha with ha | ⟨b1, o1, rfl, hca⟩
      · simp [ha] at hn; omega
      have p0 := hca k (by omega)
      rw [hz] at p0
      clear hca hz hdr
      cases hg : (z == v)
      · rw [hg, Bool.false_or] at hs
        have HS := Hid.mk hs
        clear hs
        go_wp2
        go_roundw
        case rel => exact ⟨k + 1, by omega, by go_num, HS.out.symm, B⟩
        case measure => simp [intOf]; omega
      · rw [hg, Bool.true_or] at hs
        have HS := Hid.mk hs
        clear hs
        go_wp2
        go_ret
        exact ⟨ret_bool HS.out.symm, B⟩
    · have hkn : k = n := by omega
      subst hkn
      rw [List.drop_of_length_le (by omega)] at hdr
      have HS := Hid.mk hdr
      clear hdr
      go_wp2
      go_ret
      exact ⟨ret_bool HS.out, B⟩

set_option maxHeartbeats 1000000 in
theorem lwNums_ok (a b : Option Addr) (n ca cb : Nat) (xs : List Int) (w : World) (ha : Rd .i64 w a xs) (hb : Rd .i64 w b xs) (hn : xs.length = n) (hx : n ≤ maxLen) :
    Calls Try.prog 16 #[.slice a n ca, .slice b n cb] w fun e w' => e = .returned (.bool true) ∧ Below w.heap.size w w' := by
  unfold maxLen at hx
  go_enter Try.func16, Try.ntmps16
  go_wp2
  go_loopw [5] (fun i wr => ∃ k : Nat, k ≤ n ∧ i = .int .i64 k ∧ Below w.heap.size w wr) (fun i _ => n - (intOf i).toNat)
  case atStart => exact ⟨0, Nat.zero_le _, rfl, Below.refl _ _⟩
  case round =>
    obtain ⟨k, hk, rfl, hbel⟩ := hrel
    by_cases hlt : k < n
    · replace ha := ha.kept hbel
      replace hb := hb.kept hbel
      rcases ha with ha | ⟨b1, o1, rfl, hca⟩
      · simp [ha] at hn; omega
      rcases hb with hb | ⟨b2, o2, rfl, hcb⟩
      · simp [hb] at hn; omega
      have p0 := hca k (by omega)
      have p1 := hcb k (by omega)
      have hk1 : (k : Int) < (n : Int) := by omega
      clear hca hcb
      generalize xs.getD k 0 = z at *
      replace hbel := Hid.mk hbel
      go_wp2
      go_quiet (fail)
      go_wp2
      go_roundw
      case rel => exact ⟨k + 1, by omega, by go_num, belowN hbel.out _⟩
      case measure => simp [intOf]; omega
    · have hkn : k = n := by omega
      subst hkn
      go_wp2
      go_ret
      exact ⟨rfl, hbel⟩

theorem inL_iff {zs : List Int} {v : Int} : inL zs v = true ↔ v ∈ zs := by
  unfold inL
  simp only [List.any_eq_true, beq_iff_eq]
  exact ⟨fun ⟨x, hx, e⟩ => e ▸ hx, fun h => ⟨v, h, rfl⟩⟩

theorem flg_dv (xs : List T4) (kn : List Int) (z : Int) : flg (dvF xs kn) z = drv xs kn z := by
  unfold dvF drv der flg can
  by_cases h0 : 0 ≤ z
  · by_cases h1 : z < xs.length
    · simp [h0, h1]
    · have : (canL xs (isIn (openL xs kn))).getD z.toNat false = false := by
        rw [List.getD_eq_getElem?_getD, List.getElem?_eq_none (by rw [canL_len]; omega)]; rfl
      rw [this]
      simp [h1]
  · simp [h0]

theorem ds_mem {xs : List T4} {kn : List Int} (h : knC xs kn = 0) {z : Int} : z ∈ dsL xs kn ↔ drv xs kn z = true := by
  unfold dsL
  rw [if_pos h, plcs_mem, flg_dv]

theorem ds_in {xs : List T4} {kn : List Int} (h : knC xs kn = 0) {z : Int} (hz : z ∈ dsL xs kn) : 0 ≤ z ∧ z < xs.length := by
  unfold dsL at hz
  rw [if_pos h, plcs_mem] at hz
  have := flg_in hz
  rwa [dvF_len] at this

theorem ds_rising {xs : List T4} {kn : List Int} (h : knC xs kn = 0) : Rising (dsL xs kn) := by
  unfold dsL
  rw [if_pos h]
  exact plcs_rising _

theorem rise_places {xs : List T4} {kn : List Int} (h : knC xs kn = 0) {q : Nat} (hq : q < xs.length) : ∀ z ∈ rise kn q, 0 ≤ z ∧ z < xs.length := fun z hz => by
  rcases rise_mem.1 hz with rfl | hz
  · omega
  · exact (knC_zero h).2.2.1 z hz

/-- Who knows one thing more. -/
theorem more_ways {xs : List T4} {kn : List Int} (h : knC xs kn = 0) {q : Nat} (hq : q < xs.length) :
    knC xs (rise kn q) = 0 ∧ inL (dsL xs (rise kn q)) q = true ∧ (∀ z ∈ dsL xs kn, inL (dsL xs (rise kn q)) z = true) ∧ (dvB xs kn q = true → dsL xs (rise kn q) = dsL xs kn) := by
  obtain ⟨h1, h2, h3, h4⟩ := knC_zero h
  have hp := rise_places h hq
  have hr := rise_rising (v := (q : Int)) h4
  have h0 := knC_ok h1 hp hr
  have hA := tfC_ahead h1
  have hk : ∀ z ∈ kn, z ∈ rise kn q := fun z hz => rise_mem.2 (.inr hz)
  have hdrv : ∀ z ∈ dsL xs kn, z ∈ dsL xs (rise kn q) := fun z hz => by
    obtain ⟨z0, z1⟩ := ds_in h hz
    obtain ⟨k, rfl⟩ := Int.eq_ofNat_of_zero_le z0
    rw [ds_mem h0]
    rw [ds_mem h] at hz
    exact drv_more hA h4 h3 hr hp hk (by omega) hz
  refine ⟨h0, ?_, fun z hz => inL_iff.2 (hdrv z hz), fun hd => ?_⟩
  · rw [inL_iff, ds_mem h0]
    exact drv_known hA hq ((openL_open hA hr hp).way.has _ (rise_mem.2 (.inl rfl)))
  · have hd2 : drv xs kn q = true := by
      unfold dvB at hd
      rw [Bool.and_eq_true, flg_dv] at hd
      exact hd.2
    refine rising_eq _ _ (ds_rising h0) (ds_rising h) fun z => ⟨fun hz => ?_, hdrv z⟩
    obtain ⟨z0, z1⟩ := ds_in h0 hz
    obtain ⟨k, rfl⟩ := Int.eq_ofNat_of_zero_le z0
    rw [ds_mem h]
    rw [ds_mem h0] at hz
    refine drv_same hA h4 h3 hr hp (fun y hy => ?_) (by omega) hz
    rcases rise_mem.1 hy with rfl | hy
    · exact hd2
    · obtain ⟨y0, y1⟩ := h3 y hy
      obtain ⟨i, rfl⟩ := Int.eq_ofNat_of_zero_le y0
      exact drv_known hA (by omega) ((openL_open hA h4 h3).way.has _ hy)

/-- A list that is built of what is known and one number more, the first j gone through. -/
def MoS (kn : List Int) (q : Int) (j : Nat) (l : List Int) (p : Bool) : Prop :=
  (p = false ∧ l = kn.take j ∧ ∀ z ∈ kn.take j, z < q) ∨ (p = true ∧ l = rise (kn.take j) q ∧ ∃ z ∈ kn.take j, q ≤ z)

theorem rise_last {l : List Int} (h : Rising l) {q : Int} (hq : ∀ z ∈ l, z < q) : rise l q = l ++ [q] := by
  have hr : Rising (l ++ [q]) := by
    rw [Rising, List.pairwise_append]
    exact ⟨h, List.pairwise_singleton _ _, fun a ha b hb => by simp only [List.mem_singleton] at hb; subst hb; exact hq a ha⟩
  refine rising_eq _ _ (rise_rising h) hr fun z => ?_
  rw [rise_mem, List.mem_append, List.mem_singleton]
  exact ⟨fun h => h.symm, fun h => h.symm⟩

theorem rise_snoc {l : List Int} {z q : Int} (h : Rising (l ++ [z])) (hq : q < z) : rise (l ++ [z]) q = rise l q ++ [z] := by
  obtain ⟨h1, _, h3⟩ := List.pairwise_append.1 h
  have hr : Rising (rise l q ++ [z]) := by
    rw [Rising, List.pairwise_append]
    refine ⟨rise_rising h1, List.pairwise_singleton _ _, fun a ha b hb => ?_⟩
    simp only [List.mem_singleton] at hb
    subst hb
    rcases rise_mem.1 ha with rfl | ha
    · exact hq
    · exact h3 a ha b (by simp)
  refine rising_eq _ _ (rise_rising h) hr fun y => ?_
  rw [rise_mem, List.mem_append, List.mem_append, rise_mem, List.mem_singleton]
  exact ⟨fun h => by rcases h with h | h | h <;> simp [h], fun h => by rcases h with (h | h) | h <;> simp [h]⟩

theorem take_up {kn : List Int} {j : Nat} (hj : j < kn.length) {z : Int} (hz : kn.getD j 0 = z) : kn.take (j + 1) = kn.take j ++ [z] := by rw [take_snoc kn j hj, hz]

theorem take_lt {kn : List Int} (h : Rising kn) {j : Nat} (hj : j < kn.length) {z : Int} (hz : kn.getD j 0 = z) : ∀ y ∈ kn.take j, y < z := fun y hy => by
  obtain ⟨i, hi, rfl⟩ := List.getElem_of_mem hy
  rw [List.length_take] at hi
  have := rising_at h (i := i) (j := j) (by omega) hj
  rw [List.getElem_take, ← hz]
  simpa [List.getD, show i < kn.length by omega] using this

theorem mo_start (kn : List Int) (q : Int) : MoS kn q 0 [] false := .inl ⟨rfl, by simp, by simp⟩

theorem mo_lt {kn : List Int} {q : Int} {j : Nat} {l : List Int} (h : MoS kn q j l false) (hj : j < kn.length) {z : Int} (hz : kn.getD j 0 = z) (hq : z < q) : MoS kn q (j + 1) (l ++ [z]) false := by
  rcases h with ⟨_, rfl, h2⟩ | ⟨h, _⟩
  · refine .inl ⟨rfl, (take_up hj hz).symm, fun y hy => ?_⟩
    rw [take_up hj hz, List.mem_append, List.mem_singleton] at hy
    rcases hy with hy | rfl
    · exact h2 y hy
    · exact hq
  · cases h

theorem mo_eq {kn : List Int} (_hr : Rising kn) {q : Int} {j : Nat} {l : List Int} (h : MoS kn q j l false) (hj : j < kn.length) (hz : kn.getD j 0 = q) : MoS kn q (j + 1) (l ++ [q]) true := by
  rcases h with ⟨_, rfl, h2⟩ | ⟨h, _⟩
  · refine .inr ⟨rfl, ?_, q, ?_, by omega⟩
    · rw [take_up hj hz, rise_in (by simp)]
    · rw [take_up hj hz]; simp
  · cases h

theorem mo_gt {kn : List Int} (hr : Rising kn) {q : Int} {j : Nat} {l : List Int} (h : MoS kn q j l false) (hj : j < kn.length) {z : Int} (hz : kn.getD j 0 = z) (hq : q < z) : MoS kn q (j + 1) (l ++ [q] ++ [z]) true := by
  have ht : Rising (kn.take j ++ [z]) := by rw [← take_up hj hz]; exact hr.sublist (List.take_sublist _ _)
  rcases h with ⟨_, rfl, h2⟩ | ⟨h, _⟩
  · refine .inr ⟨rfl, ?_, z, ?_, by omega⟩
    · rw [take_up hj hz, rise_snoc ht hq, rise_last (hr.sublist (List.take_sublist _ _)) h2]
    · rw [take_up hj hz]; simp
  · cases h

theorem mo_put {kn : List Int} (hr : Rising kn) {q : Int} {j : Nat} {l : List Int} (h : MoS kn q j l true) (hj : j < kn.length) {z : Int} (hz : kn.getD j 0 = z) : q < z ∧ MoS kn q (j + 1) (l ++ [z]) true := by
  have ht : Rising (kn.take j ++ [z]) := by rw [← take_up hj hz]; exact hr.sublist (List.take_sublist _ _)
  rcases h with ⟨h, _⟩ | ⟨_, rfl, y, hy, hqy⟩
  · cases h
  · have h1 := take_lt hr hj hz y hy
    refine ⟨by omega, .inr ⟨rfl, ?_, y, ?_, hqy⟩⟩
    · rw [take_up hj hz, rise_snoc ht (by omega)]
    · rw [take_up hj hz]; simp [hy]

theorem mo_end {kn : List Int} (hr : Rising kn) {q : Int} {l : List Int} {p : Bool} (h : MoS kn q kn.length l p) : (p = false → l ++ [q] = rise kn q) ∧ (p = true → l = rise kn q) := by
  rw [MoS, List.take_length] at h
  rcases h with ⟨rfl, rfl, h2⟩ | ⟨rfl, rfl, _⟩
  · refine ⟨fun _ => (rise_last hr h2).symm, fun h => ?_⟩
    cases h
  · refine ⟨fun h => ?_, fun _ => rfl⟩
    cases h

theorem mo_len {kn : List Int} {q : Int} {j : Nat} {l : List Int} {p : Bool} (hr : Rising kn) (h : MoS kn q j l p) : l.length ≤ j + 1 := by
  rcases h with ⟨_, rfl, _⟩ | ⟨_, rfl, _⟩
  · rw [List.length_take]; omega
  · have := rise_len (kn.take j) q (hr.sublist (List.take_sublist _ _))
    rw [List.length_take] at this; omega

end Go.Proofs.Yteeoodbmgheikaa

/- The law FnOpens: its walk. -/
namespace Go.Proofs.Yteeoodbmgheikaa
open Go.RowKit

theorem implOpenAll_told (kl : Nat) (a : Option Addr) (n ca : Nat) (xs : List T4) (a2 : Option Addr) (n2 ca2 : Nat) (kn : List Int) (hkl : (opL xs kn).length = kl) (w : World) (ha : RdTerm w a xs) (hn : xs.length = n) (hx : n ≤ maxLen) (hok : ∀ t ∈ xs, okT t) (ha2 : Rd .i64 w a2 kn) (hn2 : kn.length = n2) (hx2 : n2 ≤ maxLen) :
    Calls Try.prog 13 #[.slice a n ca, .slice a2 n2 ca2] w fun e w' => ∃ c d, e = .returned (.agg #[.int .i64 (knC xs kn), .slice c kl d]) ∧ Own .i64 2 w' w.heap.size c d (opL xs kn) ∧ Below w.heap.size w w' := by
  refine (implOpenAll_ok a n ca xs a2 n2 ca2 kn w ha hn hx hok ha2 hn2 hx2).mono ?_
  rintro e w' ⟨c, d, k, rfl, hk, O, b⟩
  rw [hkl] at hk
  subst hk
  exact ⟨c, d, rfl, O, b⟩

theorem implDerivesSome_told (kl : Nat) (a : Option Addr) (n ca : Nat) (xs : List T4) (a2 : Option Addr) (n2 ca2 : Nat) (kn : List Int) (hkl : (dsL xs kn).length = kl) (w : World) (ha : RdTerm w a xs) (hn : xs.length = n) (hx : n ≤ maxLen) (hok : ∀ t ∈ xs, okT t) (ha2 : Rd .i64 w a2 kn) (hn2 : kn.length = n2) (hx2 : n2 ≤ maxLen) :
    Calls Try.prog 15 #[.slice a n ca, .slice a2 n2 ca2] w fun e w' => ∃ c d, e = .returned (.agg #[.int .i64 (knC xs kn), .slice c kl d]) ∧ Own .i64 2 w' w.heap.size c d (dsL xs kn) ∧ Below w.heap.size w w' := by
  refine (implDerivesSome_ok a n ca xs a2 n2 ca2 kn w ha hn hx hok ha2 hn2 hx2).mono ?_
  rintro e w' ⟨c, d, k, rfl, hk, O, b⟩
  rw [hkl] at hk
  subst hk
  exact ⟨c, d, rfl, O, b⟩

theorem specDerivesSome_told (kl : Nat) (a : Option Addr) (n ca : Nat) (xs : List T4) (a2 : Option Addr) (n2 ca2 : Nat) (kn : List Int) (hkl : (dsL xs kn).length = kl) (w : World) (ha : RdTerm w a xs) (hn : xs.length = n) (hx : n ≤ maxLen) (hca : n ≤ ca) (ha2 : Rd .i64 w a2 kn) (hn2 : kn.length = n2) (hx2 : n2 ≤ maxLen) (hc2 : a2 = none → ca2 = 0) :
    Calls Try.prog 17 #[.slice a n ca, .slice a2 n2 ca2] w fun e w' => ∃ c d, e = .returned (.agg #[.int .i64 (knC xs kn), .slice c kl d]) ∧ Own .i64 2 w' w.heap.size c d (dsL xs kn) ∧ Below w.heap.size w w' := by
  refine (specDerivesSome_ok a n ca xs a2 n2 ca2 kn w ha hn hx hca ha2 hn2 hx2 hc2).mono ?_
  rintro e w' ⟨c, d, k, rfl, hk, O, b⟩
  rw [hkl] at hk
  subst hk
  exact ⟨c, d, rfl, O, b⟩

theorem open_again {xs : List T4} {kn : List Int} (h : knC xs kn = 0) : knC xs (opL xs kn) = 0 ∧ opL xs (opL xs kn) = opL xs kn ∧ dsL xs (opL xs kn) = dsL xs kn ∧ (∀ z ∈ opL xs kn, inL (dsL xs kn) z = true) ∧ (opL xs kn).length ≤ 400 ∧ (dsL xs kn).length ≤ 400 := by
  obtain ⟨h1, h2, h3, h4⟩ := knC_zero h
  have hA := tfC_ahead h1
  have hO := openL_open hA h4 h3
  have e : opL xs kn = openL xs kn := by unfold opL; rw [if_pos h]
  rw [e]
  have h0 := knC_ok h1 hO.way.places hO.way.rising
  have e2 : opL xs (openL xs kn) = openL xs kn := by unfold opL; rw [if_pos h0]; exact openL_again hA h4 h3
  refine ⟨h0, e2, ?_, fun z hz => ?_, by have := hO.way.len; have := (tfC_zero h1).1; omega, ?_⟩
  · have e3 : dvF xs (openL xs kn) = dvF xs kn := by unfold dvF; rw [openL_again hA h4 h3]
    unfold dsL
    rw [if_pos h, if_pos h0, e3]
  · obtain ⟨z0, z1⟩ := hO.way.places z hz
    obtain ⟨k, rfl⟩ := Int.eq_ofNat_of_zero_le z0
    rw [inL_iff, ds_mem h]
    exact drv_known hA (by omega) hz
  · have := plcs_len (dvF xs kn)
    rw [dvF_len] at this
    have h5 := (tfC_zero h1).1
    unfold dsL
    rw [if_pos h]; omega

/-- What the law asks of a term. -/
theorem open_ways {xs : List T4} {kn : List Int} (h : knC xs kn = 0) {i : Nat} (hi : i < xs.length) {x : T4} (hx : xs.getD i zTerm = x) :
    (dvB xs kn i = inL (dsL xs kn) i ∧ scB xs kn i = !inL (dsL xs kn) i) ∧ (x.o = 3 → inL (dsL xs kn) i = (inL (dsL xs kn) x.a && inL (dsL xs kn) x.b)) ∧ (x.o = 5 → inL (dsL xs kn) x.a = true → inL (dsL xs kn) i = inL (dsL xs kn) x.b) ∧
    (x.o = 4 → inL (dsL xs kn) x.a = true → inL (dsL xs kn) x.b = true → inL (dsL xs kn) i = true) ∧ (x.o = 6 → inL (dsL xs kn) x.a = true → inL (dsL xs kn) i = true) ∧ (x.o = 1 → inL (dsL xs kn) i = true) := by
  obtain ⟨h1, h2, h3, h4⟩ := knC_zero h
  have hA := tfC_ahead h1
  have hO := openL_open hA h4 h3
  have hin : ∀ z, inL (dsL xs kn) z = drv xs kn z := fun z => by rw [Bool.eq_iff_iff, inL_iff, ds_mem h]
  have hdr : ∀ j : Int, 0 ≤ j → j < xs.length → drv xs kn j = can xs (isIn (openL xs kn)) j.toNat := fun j j0 j1 => by
    obtain ⟨k, rfl⟩ := Int.eq_ofNat_of_zero_le j0
    unfold drv
    rw [der_nat (by omega), Int.toNat_natCast]
  obtain ⟨pa, pb⟩ := hA i hi
  rw [hx] at pa pb
  have hci := can_iff hA (K := isIn (openL xs kn)) i hi hx
  have hdi := hdr i (by omega) (by omega)
  rw [Int.toNat_natCast] at hdi
  refine ⟨⟨?_, ?_⟩, fun ho => ?_, fun ho ha => ?_, fun ho ha hb => ?_, fun ho ha => ?_, fun ho => ?_⟩
  · unfold dvB
    rw [hin, flg_dv, h]; simp
  · unfold scB
    rw [hin, flg_dv, h, btw_iff.2 (by omega)]; simp
  · have pa := pa (by rw [ho, kids3]; decide)
    have pb := pb (by rw [ho, kids3]; decide)
    rw [hin, hin, hin, hdi, hdr _ pa.1 (by omega), hdr _ pb.1 (by omega), Bool.eq_iff_iff, Bool.and_eq_true]
    exact open_pair hA hO.open_ hi hx ho
  · have pa := pa (by rw [ho, kids5]; decide)
    have pb := pb (by rw [ho, kids5]; decide)
    rw [hin, hdr _ pa.1 (by omega)] at ha
    rw [hin, hin, hdi, hdr _ pb.1 (by omega), Bool.eq_iff_iff]
    exact open_seal hA hO.open_ hi hx ho ha
  · have pa := pa (by rw [ho, kids4]; decide)
    have pb := pb (by rw [ho, kids4]; decide)
    rw [hin, hdr _ pa.1 (by omega)] at ha
    rw [hin, hdr _ pb.1 (by omega)] at hb
    rw [hin, hdi, hci]
    exact .inr (.inr (.inl ⟨.inr (.inl ho), ha, hb⟩))
  · have pa := pa (by rw [ho, kids6]; decide)
    rw [hin, hdr _ pa.1 (by omega)] at ha
    rw [hin, hdi, hci]
    exact .inr (.inr (.inr (.inl ⟨ho, ha⟩)))
  · rw [hin, hdi, hci]
    exact .inr (.inl ho)

set_option maxRecDepth 20000 in
set_option maxHeartbeats 16000000 in
theorem xOpen_walk (a : Option Addr) (n ca : Nat) (zs : List Int) (w : World) (ha : Rd .u8 w a zs) (hb : Bytes zs) (hn : zs.length = n) :
    Calls Try.prog 3 #[.slice a n ca] w fun e w' => e = .returned (.bool true) ∧ Below w.heap.size w w' := by
  by_cases hbig : 1048576 < n
  · have h1 : (1048576 : Int) < (n : Int) := by omega
    go_enter Try.func3, Try.ntmps3
    go_wp2_with (first | (go_at_call 11; go_in) | fail)
    go_ret
    exact ⟨rfl, Below.refl _ _⟩
  have h1 : ¬ (1048576 : Int) < (n : Int) := by omega
  have CD := Hid.mk (drawOpenAll_ok a n ca zs w ha hb hn (by omega))
  clear ha hb hn hbig
  go_enter Try.func3, Try.ntmps3
  go_wp2_with (first | (go_at_call 11; go_in) | fail)
  refine CD.out.mono ?_
  rintro e wA ⟨c, d, m, xs, g, d2, k2, kn, rfl, hxs, hkn, RX, RK, B0⟩
  obtain ⟨hlen, hm, hcap, hnc, hok⟩ := hxs
  obtain ⟨hk2, hk2m, hkr⟩ := hkn
  have e0 := extractI0
  have e1 := extractI1
  obtain ⟨k1, hk1⟩ : ∃ k, (opL xs kn).length = k := ⟨_, rfl⟩
  obtain ⟨kd, hkd⟩ : ∃ k, (dsL xs kn).length = k := ⟨_, rfl⟩
  have CI := Hid.mk (fun w h h2 => implOpenAll_told k1 c m d xs (some ⟨g, 0, none⟩) k2 d2 kn hk1 w h hlen (by unfold maxLen; omega) hok h2 hk2 (by unfold maxLen; omega))
  have CS := Hid.mk (fun w h h2 => specOpenAll_ok c m d xs (some ⟨g, 0, none⟩) k2 d2 kn w h hlen (by unfold maxLen; omega) hcap h2 hk2 (by unfold maxLen; omega) (fun h => by cases h))
  have CD := Hid.mk (fun w h h2 => implDerivesSome_told kd c m d xs (some ⟨g, 0, none⟩) k2 d2 kn hkd w h hlen (by unfold maxLen; omega) hok h2 hk2 (by unfold maxLen; omega))
  have CT := Hid.mk (fun w h h2 => specDerivesSome_told kd c m d xs (some ⟨g, 0, none⟩) k2 d2 kn hkd w h hlen (by unfold maxLen; omega) hcap h2 hk2 (by unfold maxLen; omega) (fun h => by cases h))
  have HB0 := Hid.mk B0
  have HR := Hid.mk RX
  have HK := Hid.mk RK
  clear B0 RX RK hcap hnc
  have B := Below.refl wA.heap.size wA
  by_cases hc : knC xs kn = 0
  rotate_left
  · have h3 : (knC xs kn != 0) = true := by simp [hc]
    have h4 : (knC xs kn == knC xs kn) = true := by simp
    clear hc hok hlen hkr CD CT hk1 hkd
    generalize knC xs kn = kc at *
    have qf : ∀ (c : Option Addr) (k d : Nat) (w : World), (Instr.field 29 (.agg #[.int .i64 kc, .slice c k d]) 0).run Try.prog w = .ok (.int .i64 kc) w := fun c k d w => by kernel_rfl
    go_wp2_with fail
    refine (CI.out _ (HR.out.kept B) (HK.out.kept B)).mono ?_
    rintro e w1 ⟨c1, d1, rfl, O1, b1⟩
    have S1 := b1.size
    replace B := thenB B b1
    clear b1
    have Bo := B
    clear O1
    replace B := thenB B (belowA w1 (.cells #[.int .i64 kc, .slice c1 k1 d1] 29))
    have VR := V.new w1 [.int .i64 kc, .slice c1 k1 d1] 29
    obtain ⟨s_VR, f_VR, z_VR⟩ := VR.open
    have Bo2 := B
    go_upto_region 6 with fail
    clear s_VR f_VR z_VR
    have K : ∀ w' : World, Below (w1.alloc (.cells #[.int .i64 kc, .slice c1 k1 d1] 29)).heap.size (w1.alloc (.cells #[.int .i64 kc, .slice c1 k1 d1] 29)) w' → (w'.cell? ⟨w1.heap.size, 0, none⟩ = some (.int .i64 kc) ∧ w'.cell? ⟨w1.heap.size, 1, none⟩ = some (.slice c1 k1 d1)) := fun w' h => ⟨(VR.kept h).2.1 0 (by simp), (VR.kept h).2.1 1 (by simp)⟩
    have K := Hid.mk K
    refine wp_region_held_drew (S := (fun w' => w'.cell? ⟨w1.heap.size, 0, none⟩ = some (.int .i64 kc) ∧ w'.cell? ⟨w1.heap.size, 1, none⟩ = some (.slice c1 k1 d1))) (by kernel_rfl) (K.out _ (Below.refl _ _).drew) (fun hHeld => ?_)
    refine wpAnyH_take (i := 0) (oi := _) (v := ?vz1u1) rfl (by kernel_rfl) (by kernel_rfl) (by kernel_rfl) (fun _ _ _ h => h) (Or.inl ⟨by kernel_rfl, ?hyz1u1⟩) hHeld ?restz1u1
    case hyz1u1 => (intro w hSw; (try dsimp only at hSw); go_simp; first | done | with_reducible rfl)
    try simp only [Act.put, List.getElem_toArray, List.getElem_cons_zero, List.setIfInBounds_toArray, List.set_cons_zero, List.set_cons_succ]
    refine wpAnyH_take (i := 1) (oi := _) (v := ?vz1u2) rfl (by kernel_rfl) (by kernel_rfl) (by kernel_rfl) (fun _ _ _ h => h) (Or.inl ⟨by kernel_rfl, ?hyz1u2⟩) hHeld ?restz1u2
    case hyz1u2 => (intro w hSw; (try dsimp only at hSw); go_simp; first | done | with_reducible rfl)
    try simp only [Act.put, List.getElem_toArray, List.getElem_cons_zero, List.getElem_cons_succ, List.setIfInBounds_toArray, List.set_cons_zero, List.set_cons_succ]
    refine wpAnyH_take (i := 4) (oi := _) (v := ?vz1u3) rfl (by kernel_rfl) (by kernel_rfl) (by kernel_rfl) (fun _ _ _ h => h) (Or.inl ⟨by kernel_rfl, ?hyz1u3⟩) hHeld ?restz1u3
    case hyz1u3 => (intro w hSw; (try dsimp only at hSw); go_simp; first | done | with_reducible rfl)
    try simp only [Act.put, List.getElem_toArray, List.getElem_cons_zero, List.getElem_cons_succ, List.setIfInBounds_toArray, List.set_cons_zero, List.set_cons_succ]
    refine wpAnyH_take (i := 5) (oi := _) (v := ?vz1u4) rfl (by kernel_rfl) (by kernel_rfl) (by kernel_rfl) (fun _ _ _ h => h) (Or.inl ⟨by kernel_rfl, ?hyz1u4⟩) hHeld ?restz1u4
    case hyz1u4 => (intro w hSw; (try dsimp only at hSw); go_simp; first | done | with_reducible rfl)
    try simp only [Act.put, List.getElem_toArray, List.getElem_cons_zero, List.getElem_cons_succ, List.setIfInBounds_toArray, List.set_cons_zero, List.set_cons_succ]
    refine wpAnyH_ready (rs := [2]) (by kernel_rfl) (by simp) ?_
    refine AllReadyH.cons (o := _) rfl (fun K0 hK0 => ?_) AllReadyH.nil
    go_simp
    go_at_call 14
    refine (CS.out _ ((HR.out.kept B).kept (Below.refl _ _).drew) ((HK.out.kept B).kept (Below.refl _ _).drew)).mono ?_
    rintro e wz1v5 ⟨c2, d3, k5, rfl, _, _, bz1v5⟩
    refine hK0.out _ _ (K.out _ (thenB (Below.refl _ _).drew bz1v5)) (fun hHeld => ?_)
    clear hK0 K0
    try simp only [Act.put, List.getElem_toArray, List.getElem_cons_zero, List.getElem_cons_succ, List.setIfInBounds_toArray, List.set_cons_zero, List.set_cons_succ]
    refine wpAnyH_take (i := 3) (oi := _) (v := ?vz1u6) rfl (by kernel_rfl) (by kernel_rfl) (by kernel_rfl) (fun _ _ _ h => h) (Or.inl ⟨by kernel_rfl, ?hyz1u6⟩) hHeld ?restz1u6
    case hyz1u6 => (intro w hSw; (try dsimp only at hSw); go_simp; first | done | with_reducible rfl)
    try simp only [Act.put, List.getElem_toArray, List.getElem_cons_zero, List.getElem_cons_succ, List.setIfInBounds_toArray, List.set_cons_zero, List.set_cons_succ]
    refine wpAnyH_take (i := 6) (oi := _) (v := ?vz1u7) rfl (by kernel_rfl) (by kernel_rfl) (by kernel_rfl) (fun _ _ _ h => h) (Or.inl ⟨by kernel_rfl, ?hyz1u7⟩) hHeld ?restz1u7
    case hyz1u7 => (intro w hSw; (try dsimp only at hSw); go_simp; first | done | with_reducible rfl)
    try simp only [Act.put, List.getElem_toArray, List.getElem_cons_zero, List.getElem_cons_succ, List.setIfInBounds_toArray, List.set_cons_zero, List.set_cons_succ]
    refine wpAnyH_take (i := 7) (oi := _) (v := ?vz1u8) rfl (by kernel_rfl) (by kernel_rfl) (by kernel_rfl) (fun _ _ _ h => h) (Or.inl ⟨by kernel_rfl, ?hyz1u8⟩) hHeld ?restz1u8
    case hyz1u8 => (intro w hSw; (try dsimp only at hSw); go_simp; first | done | with_reducible rfl)
    try simp only [Act.put, List.getElem_toArray, List.getElem_cons_zero, List.getElem_cons_succ, List.setIfInBounds_toArray, List.set_cons_zero, List.set_cons_succ]
    refine wpAnyH_done (by kernel_rfl) ?_ _
    clear K hHeld
    have bacc : Below (w1.alloc (.cells #[.int .i64 kc, .slice c1 k1 d1] 29)).heap.size (w1.alloc (.cells #[.int .i64 kc, .slice c1 k1 d1] 29)) wz1v5 := (thenB (Below.refl _ _).drew bz1v5)
    replace VR := VR.kept bacc
    replace B := thenB B bacc
    have Sz1 := (bacc).size
    clear bacc
    simp only [World.size_alloc] at Sz1
    clear bz1v5
    obtain ⟨s_VR, f_VR, z_VR⟩ := VR.open
    have Bo := B
    go_wp2
    go_ret
    exact ⟨rfl, HB0.out.trans (B.mono HB0.out.size)⟩
  clear CS
  obtain ⟨hkF, hO2, hD2, hOD, hO4, hD4⟩ := open_again hc
  have hways := Hid.mk (fun i (hi : i < xs.length) x (hx : xs.getD i zTerm = x) => open_ways hc hi hx)
  have hop := Hid.mk (fun i (hi : i < xs.length) x (hx : xs.getD i zTerm = x) => op_in (knC_zero hc).1 hi hx)
  have CI2 := Hid.mk (fun c1 d1 w h h2 => implOpenAll_told k1 c m d xs c1 k1 d1 (opL xs kn) (by rw [hO2]; exact hk1) w h hlen (by unfold maxLen; omega) hok h2 hk1 (by unfold maxLen; omega))
  have CD2 := Hid.mk (fun c1 d1 w h h2 => implDerivesSome_told kd c m d xs c1 k1 d1 (opL xs kn) (by rw [hD2]; exact hkd) w h hlen (by unfold maxLen; omega) hok h2 hk1 (by unfold maxLen; omega))
  rw [hc] at CI CD CT
  rw [hkF, hO2] at CI2
  rw [hkF, hD2] at CD2
  have CV := Hid.mk (fun (q : Int) w h h2 => implDerives_ok c m d xs (some ⟨g, 0, none⟩) k2 d2 kn q w h hlen (by unfold maxLen; omega) hok h2 hk2 (by unfold maxLen; omega))
  have CW := Hid.mk (fun (q : Int) w h h2 => implIsSecret_ok c m d xs (some ⟨g, 0, none⟩) k2 d2 kn q w h hlen (by unfold maxLen; omega) hok h2 hk2 (by unfold maxLen; omega))
  have HOD := Hid.mk hOD
  generalize hDD : dsL xs kn = D at *
  generalize hOO : opL xs kn = OL at *
  have HLN := Hid.mk hlen
  have CLO := Hid.mk (fun c c' d d' w h h' => lwNums_ok c c' k1 d d' OL w h h' hk1 (by unfold maxLen; omega))
  have CLD := Hid.mk (fun c c' d d' w h h' => lwNums_ok c c' kd d d' D w h h' hkd (by unfold maxLen; omega))
  have CH := Hid.mk (fun c d v w h => lwHas_ok c kd d D v w h hkd (by unfold maxLen; omega))
  have qf : ∀ (c : Option Addr) (k d : Nat) (w : World), (Instr.field 29 (.agg #[.int .i64 0, .slice c k d]) 1).run Try.prog w = .ok (.slice c k d) w := fun c k d w => by kernel_rfl
  have qk : ((kd : Int) != (kd : Int)) = false := by simp
  clear hc hkF hO2 hD2 hOD hok hlen hkr hDD hOO
  go_wp2_with fail
  refine (CI.out _ (HR.out.kept B) (HK.out.kept B)).mono ?_
  rintro e w301 ⟨c1, d1, rfl, O1, b301⟩
  have S301 := b301.size
  replace B := thenB B b301
  clear b301
  have Bo := B
  replace O1 := O1.kept (belowA w301 (.cells #[.int .i64 0, .slice c1 k1 d1] 29))
  replace B := thenB B (belowA w301 (.cells #[.int .i64 0, .slice c1 k1 d1] 29))
  have VO := V.new w301 [.int .i64 0, .slice c1 k1 d1] 29
  obtain ⟨s_VO, f_VO, z_VO⟩ := VO.open
  have Bo2 := B
  have RO := O1.rd
  clear O1
  go_wp2_with fail
  refine (CD.out _ (HR.out.kept B) (HK.out.kept B)).mono ?_
  rintro e w302 ⟨c2, d3, rfl, O2, b302⟩
  clear s_VO f_VO z_VO
  have S302 := b302.size
  simp only [World.size_alloc] at S302
  replace VO := VO.kept b302
  replace RO := RO.kept b302
  replace B := thenB B b302
  clear b302
  obtain ⟨s_VO, f_VO, z_VO⟩ := VO.open
  have Bo := B
  replace VO := VO.kept (belowA w302 (.cells #[.int .i64 0, .slice c2 kd d3] 29))
  replace RO := RO.kept (belowA w302 (.cells #[.int .i64 0, .slice c2 kd d3] 29))
  replace O2 := O2.kept (belowA w302 (.cells #[.int .i64 0, .slice c2 kd d3] 29))
  replace B := thenB B (belowA w302 (.cells #[.int .i64 0, .slice c2 kd d3] 29))
  have VD := V.new w302 [.int .i64 0, .slice c2 kd d3] 29
  clear s_VO f_VO z_VO
  obtain ⟨s_VO, f_VO, z_VO⟩ := VO.open
  obtain ⟨s_VD, f_VD, z_VD⟩ := VD.open
  have Bo3 := B
  have RD := O2.rd
  clear O2
  go_upto_region 8 with fail
  clear s_VO f_VO z_VO s_VD f_VD z_VD
  have K : ∀ w' : World, Below (w302.alloc (.cells #[.int .i64 0, .slice c2 kd d3] 29)).heap.size (w302.alloc (.cells #[.int .i64 0, .slice c2 kd d3] 29)) w' → (w'.cell? ⟨w301.heap.size, 0, none⟩ = some (.int .i64 0) ∧ w'.cell? ⟨w301.heap.size, 1, none⟩ = some (.slice c1 k1 d1) ∧ w'.cell? ⟨w302.heap.size, 0, none⟩ = some (.int .i64 0) ∧ w'.cell? ⟨w302.heap.size, 1, none⟩ = some (.slice c2 kd d3)) := fun w' h => ⟨(VO.kept h).2.1 0 (by simp), (VO.kept h).2.1 1 (by simp), (VD.kept h).2.1 0 (by simp), (VD.kept h).2.1 1 (by simp)⟩
  have K := Hid.mk K
  refine wp_region_held_drew (S := (fun w' => w'.cell? ⟨w301.heap.size, 0, none⟩ = some (.int .i64 0) ∧ w'.cell? ⟨w301.heap.size, 1, none⟩ = some (.slice c1 k1 d1) ∧ w'.cell? ⟨w302.heap.size, 0, none⟩ = some (.int .i64 0) ∧ w'.cell? ⟨w302.heap.size, 1, none⟩ = some (.slice c2 kd d3))) (by kernel_rfl) (K.out _ (Below.refl _ _).drew) (fun hHeld => ?_)
  refine wpAnyH_take (i := 0) (oi := _) (v := ?vz301u1) rfl (by kernel_rfl) (by kernel_rfl) (by kernel_rfl) (fun _ _ _ h => h) (Or.inl ⟨by kernel_rfl, ?hyz301u1⟩) hHeld ?restz301u1
  case hyz301u1 => (intro w hSw; (try dsimp only at hSw); go_simp; first | done | with_reducible rfl)
  try simp only [Act.put, List.getElem_toArray, List.getElem_cons_zero, List.setIfInBounds_toArray, List.set_cons_zero, List.set_cons_succ]
  refine wpAnyH_take (i := 1) (oi := _) (v := ?vz301u2) rfl (by kernel_rfl) (by kernel_rfl) (by kernel_rfl) (fun _ _ _ h => h) (Or.inl ⟨by kernel_rfl, ?hyz301u2⟩) hHeld ?restz301u2
  case hyz301u2 => (intro w hSw; (try dsimp only at hSw); go_simp; first | done | with_reducible rfl)
  try simp only [Act.put, List.getElem_toArray, List.getElem_cons_zero, List.getElem_cons_succ, List.setIfInBounds_toArray, List.set_cons_zero, List.set_cons_succ]
  refine wpAnyH_take (i := 2) (oi := _) (v := ?vz301u3) rfl (by kernel_rfl) (by kernel_rfl) (by kernel_rfl) (fun _ _ _ h => h) (Or.inl ⟨by kernel_rfl, ?hyz301u3⟩) hHeld ?restz301u3
  case hyz301u3 => (intro w hSw; (try dsimp only at hSw); go_simp; first | done | with_reducible rfl)
  try simp only [Act.put, List.getElem_toArray, List.getElem_cons_zero, List.getElem_cons_succ, List.setIfInBounds_toArray, List.set_cons_zero, List.set_cons_succ]
  refine wpAnyH_take (i := 5) (oi := _) (v := ?vz301u4) rfl (by kernel_rfl) (by kernel_rfl) (by kernel_rfl) (fun _ _ _ h => h) (Or.inl ⟨by kernel_rfl, ?hyz301u4⟩) hHeld ?restz301u4
  case hyz301u4 => (intro w hSw; (try dsimp only at hSw); go_simp; first | done | with_reducible rfl)
  try simp only [Act.put, List.getElem_toArray, List.getElem_cons_zero, List.getElem_cons_succ, List.setIfInBounds_toArray, List.set_cons_zero, List.set_cons_succ]
  refine wpAnyH_take (i := 6) (oi := _) (v := ?vz301u5) rfl (by kernel_rfl) (by kernel_rfl) (by kernel_rfl) (fun _ _ _ h => h) (Or.inl ⟨by kernel_rfl, ?hyz301u5⟩) hHeld ?restz301u5
  case hyz301u5 => (intro w hSw; (try dsimp only at hSw); go_simp; first | done | with_reducible rfl)
  try simp only [Act.put, List.getElem_toArray, List.getElem_cons_zero, List.getElem_cons_succ, List.setIfInBounds_toArray, List.set_cons_zero, List.set_cons_succ]
  refine wpAnyH_ready (rs := [3]) (by kernel_rfl) (by simp) ?_
  refine AllReadyH.cons (o := _) rfl (fun K0 hK0 => ?_) AllReadyH.nil
  go_simp
  go_at_call 13
  refine (CI2.out _ _ _ ((HR.out.kept B).kept (Below.refl _ _).drew) (RO.kept (Below.refl _ _).drew)).mono ?_
  rintro e wz301v6 ⟨c4, d4, rfl, O4, bz301v6⟩
  refine hK0.out _ _ (K.out _ (thenB (Below.refl _ _).drew bz301v6)) (fun hHeld => ?_)
  clear hK0 K0
  try simp only [Act.put, List.getElem_toArray, List.getElem_cons_zero, List.getElem_cons_succ, List.setIfInBounds_toArray, List.set_cons_zero, List.set_cons_succ]
  refine wpAnyH_take (i := 4) (oi := _) (v := ?vz301u7) rfl (by kernel_rfl) (by kernel_rfl) (by kernel_rfl) (fun _ _ _ h => h) (Or.inl ⟨by kernel_rfl, ?hyz301u7⟩) hHeld ?restz301u7
  case hyz301u7 => (intro w hSw; (try dsimp only at hSw); go_simp; first | done | with_reducible rfl)
  try simp only [Act.put, List.getElem_toArray, List.getElem_cons_zero, List.getElem_cons_succ, List.setIfInBounds_toArray, List.set_cons_zero, List.set_cons_succ]
  refine wpAnyH_ready (rs := [7]) (by kernel_rfl) (by simp) ?_
  refine AllReadyH.cons (o := _) rfl (fun K0 hK0 => ?_) AllReadyH.nil
  go_simp
  go_at_call 16
  refine (CLO.out _ _ _ _ _ O4.rd (RO.kept (thenB (Below.refl _ _).drew bz301v6))).mono ?_
  rintro e wz301v8 ⟨rfl, bz301v8⟩
  refine hK0.out _ _ (K.out _ (thenB (thenB (Below.refl _ _).drew bz301v6) bz301v8)) (fun hHeld => ?_)
  clear hK0 K0
  try simp only [Act.put, List.getElem_toArray, List.getElem_cons_zero, List.getElem_cons_succ, List.setIfInBounds_toArray, List.set_cons_zero, List.set_cons_succ]
  refine wpAnyH_take (i := 8) (oi := _) (v := ?vz301u9) rfl (by kernel_rfl) (by kernel_rfl) (by kernel_rfl) (fun _ _ _ h => h) (Or.inl ⟨by kernel_rfl, ?hyz301u9⟩) hHeld ?restz301u9
  case hyz301u9 => (intro w hSw; (try dsimp only at hSw); go_simp; first | done | with_reducible rfl)
  try simp only [Act.put, List.getElem_toArray, List.getElem_cons_zero, List.getElem_cons_succ, List.setIfInBounds_toArray, List.set_cons_zero, List.set_cons_succ]
  refine wpAnyH_take (i := 9) (oi := _) (v := ?vz301u10) rfl (by kernel_rfl) (by kernel_rfl) (by kernel_rfl) (fun _ _ _ h => h) (Or.inl ⟨by kernel_rfl, ?hyz301u10⟩) hHeld ?restz301u10
  case hyz301u10 => (intro w hSw; (try dsimp only at hSw); go_simp; first | done | with_reducible rfl)
  try simp only [Act.put, List.getElem_toArray, List.getElem_cons_zero, List.getElem_cons_succ, List.setIfInBounds_toArray, List.set_cons_zero, List.set_cons_succ]
  refine wpAnyH_take (i := 10) (oi := _) (v := ?vz301u11) rfl (by kernel_rfl) (by kernel_rfl) (by kernel_rfl) (fun _ _ _ h => h) (Or.inl ⟨by kernel_rfl, ?hyz301u11⟩) hHeld ?restz301u11
  case hyz301u11 => (intro w hSw; (try dsimp only at hSw); go_simp; first | done | with_reducible rfl)
  try simp only [Act.put, List.getElem_toArray, List.getElem_cons_zero, List.getElem_cons_succ, List.setIfInBounds_toArray, List.set_cons_zero, List.set_cons_succ]
  refine wpAnyH_take (i := 11) (oi := _) (v := ?vz301u12) rfl (by kernel_rfl) (by kernel_rfl) (by kernel_rfl) (fun _ _ _ h => h) (Or.inl ⟨by kernel_rfl, ?hyz301u12⟩) hHeld ?restz301u12
  case hyz301u12 => (intro w hSw; (try dsimp only at hSw); go_simp; first | done | with_reducible rfl)
  try simp only [Act.put, List.getElem_toArray, List.getElem_cons_zero, List.getElem_cons_succ, List.setIfInBounds_toArray, List.set_cons_zero, List.set_cons_succ]
  refine wpAnyH_take (i := 12) (oi := _) (v := ?vz301u13) rfl (by kernel_rfl) (by kernel_rfl) (by kernel_rfl) (fun _ _ _ h => h) (Or.inl ⟨by kernel_rfl, ?hyz301u13⟩) hHeld ?restz301u13
  case hyz301u13 => (intro w hSw; (try dsimp only at hSw); go_simp; first | done | with_reducible rfl)
  try simp only [Act.put, List.getElem_toArray, List.getElem_cons_zero, List.getElem_cons_succ, List.setIfInBounds_toArray, List.set_cons_zero, List.set_cons_succ]
  refine wpAnyH_take (i := 15) (oi := _) (v := ?vz301u14) rfl (by kernel_rfl) (by kernel_rfl) (by kernel_rfl) (fun _ _ _ h => h) (Or.inl ⟨by kernel_rfl, ?hyz301u14⟩) hHeld ?restz301u14
  case hyz301u14 => (intro w hSw; (try dsimp only at hSw); go_simp; first | done | with_reducible rfl)
  try simp only [Act.put, List.getElem_toArray, List.getElem_cons_zero, List.getElem_cons_succ, List.setIfInBounds_toArray, List.set_cons_zero, List.set_cons_succ]
  refine wpAnyH_take (i := 16) (oi := _) (v := ?vz301u15) rfl (by kernel_rfl) (by kernel_rfl) (by kernel_rfl) (fun _ _ _ h => h) (Or.inl ⟨by kernel_rfl, ?hyz301u15⟩) hHeld ?restz301u15
  case hyz301u15 => (intro w hSw; (try dsimp only at hSw); go_simp; first | done | with_reducible rfl)
  try simp only [Act.put, List.getElem_toArray, List.getElem_cons_zero, List.getElem_cons_succ, List.setIfInBounds_toArray, List.set_cons_zero, List.set_cons_succ]
  refine wpAnyH_ready (rs := [13]) (by kernel_rfl) (by simp) ?_
  refine AllReadyH.cons (o := _) rfl (fun K0 hK0 => ?_) AllReadyH.nil
  go_simp
  go_at_call 15
  refine (CD2.out _ _ _ ((HR.out.kept B).kept (thenB (thenB (Below.refl _ _).drew bz301v6) bz301v8)) (RO.kept (thenB (thenB (Below.refl _ _).drew bz301v6) bz301v8))).mono ?_
  rintro e wz301v16 ⟨c5, d5, rfl, O5, bz301v16⟩
  refine hK0.out _ _ (K.out _ (thenB (thenB (thenB (Below.refl _ _).drew bz301v6) bz301v8) bz301v16)) (fun hHeld => ?_)
  clear hK0 K0
  try simp only [Act.put, List.getElem_toArray, List.getElem_cons_zero, List.getElem_cons_succ, List.setIfInBounds_toArray, List.set_cons_zero, List.set_cons_succ]
  refine wpAnyH_take (i := 14) (oi := _) (v := ?vz301u17) rfl (by kernel_rfl) (by kernel_rfl) (by kernel_rfl) (fun _ _ _ h => h) (Or.inl ⟨by kernel_rfl, ?hyz301u17⟩) hHeld ?restz301u17
  case hyz301u17 => (intro w hSw; (try dsimp only at hSw); go_simp; first | done | with_reducible rfl)
  try simp only [Act.put, List.getElem_toArray, List.getElem_cons_zero, List.getElem_cons_succ, List.setIfInBounds_toArray, List.set_cons_zero, List.set_cons_succ]
  refine wpAnyH_ready (rs := [17]) (by kernel_rfl) (by simp) ?_
  refine AllReadyH.cons (o := _) rfl (fun K0 hK0 => ?_) AllReadyH.nil
  go_simp
  go_at_call 16
  refine (CLD.out _ _ _ _ _ O5.rd (RD.kept (thenB (thenB (thenB (Below.refl _ _).drew bz301v6) bz301v8) bz301v16))).mono ?_
  rintro e wz301v18 ⟨rfl, bz301v18⟩
  refine hK0.out _ _ (K.out _ (thenB (thenB (thenB (thenB (Below.refl _ _).drew bz301v6) bz301v8) bz301v16) bz301v18)) (fun hHeld => ?_)
  clear hK0 K0
  try simp only [Act.put, List.getElem_toArray, List.getElem_cons_zero, List.getElem_cons_succ, List.setIfInBounds_toArray, List.set_cons_zero, List.set_cons_succ]
  refine wpAnyH_take (i := 18) (oi := _) (v := ?vz301u19) rfl (by kernel_rfl) (by kernel_rfl) (by kernel_rfl) (fun _ _ _ h => h) (Or.inl ⟨by kernel_rfl, ?hyz301u19⟩) hHeld ?restz301u19
  case hyz301u19 => (intro w hSw; (try dsimp only at hSw); go_simp; first | done | with_reducible rfl)
  try simp only [Act.put, List.getElem_toArray, List.getElem_cons_zero, List.getElem_cons_succ, List.setIfInBounds_toArray, List.set_cons_zero, List.set_cons_succ]
  refine wpAnyH_take (i := 19) (oi := _) (v := ?vz301u20) rfl (by kernel_rfl) (by kernel_rfl) (by kernel_rfl) (fun _ _ _ h => h) (Or.inl ⟨by kernel_rfl, ?hyz301u20⟩) hHeld ?restz301u20
  case hyz301u20 => (intro w hSw; (try dsimp only at hSw); go_simp; first | done | with_reducible rfl)
  try simp only [Act.put, List.getElem_toArray, List.getElem_cons_zero, List.getElem_cons_succ, List.setIfInBounds_toArray, List.set_cons_zero, List.set_cons_succ]
  refine wpAnyH_take (i := 20) (oi := _) (v := ?vz301u21) rfl (by kernel_rfl) (by kernel_rfl) (by kernel_rfl) (fun _ _ _ h => h) (Or.inl ⟨by kernel_rfl, ?hyz301u21⟩) hHeld ?restz301u21
  case hyz301u21 => (intro w hSw; (try dsimp only at hSw); go_simp; first | done | with_reducible rfl)
  try simp only [Act.put, List.getElem_toArray, List.getElem_cons_zero, List.getElem_cons_succ, List.setIfInBounds_toArray, List.set_cons_zero, List.set_cons_succ]
  refine wpAnyH_take (i := 21) (oi := _) (v := ?vz301u22) rfl (by kernel_rfl) (by kernel_rfl) (by kernel_rfl) (fun _ _ _ h => h) (Or.inl ⟨by kernel_rfl, ?hyz301u22⟩) hHeld ?restz301u22
  case hyz301u22 => (intro w hSw; (try dsimp only at hSw); go_simp; first | done | with_reducible rfl)
  try simp only [Act.put, List.getElem_toArray, List.getElem_cons_zero, List.getElem_cons_succ, List.setIfInBounds_toArray, List.set_cons_zero, List.set_cons_succ]
  refine wpAnyH_take (i := 22) (oi := _) (v := ?vz301u23) rfl (by kernel_rfl) (by kernel_rfl) (by kernel_rfl) (fun _ _ _ h => h) (Or.inl ⟨by kernel_rfl, ?hyz301u23⟩) hHeld ?restz301u23
  case hyz301u23 => (intro w hSw; (try dsimp only at hSw); go_simp; first | done | with_reducible rfl)
  try simp only [Act.put, List.getElem_toArray, List.getElem_cons_zero, List.getElem_cons_succ, List.setIfInBounds_toArray, List.set_cons_zero, List.set_cons_succ]
  refine wpAnyH_take (i := 23) (oi := _) (v := ?vz301u24) rfl (by kernel_rfl) (by kernel_rfl) (by kernel_rfl) (fun _ _ _ h => h) (Or.inl ⟨by kernel_rfl, ?hyz301u24⟩) hHeld ?restz301u24
  case hyz301u24 => (intro w hSw; (try dsimp only at hSw); go_simp; first | done | with_reducible rfl)
  try simp only [Act.put, List.getElem_toArray, List.getElem_cons_zero, List.getElem_cons_succ, List.setIfInBounds_toArray, List.set_cons_zero, List.set_cons_succ]
  refine wpAnyH_take (i := 24) (oi := _) (v := ?vz301u25) rfl (by kernel_rfl) (by kernel_rfl) (by kernel_rfl) (fun _ _ _ h => h) (Or.inl ⟨by kernel_rfl, ?hyz301u25⟩) hHeld ?restz301u25
  case hyz301u25 => (intro w hSw; (try dsimp only at hSw); go_simp; first | done | with_reducible rfl)
  try simp only [Act.put, List.getElem_toArray, List.getElem_cons_zero, List.getElem_cons_succ, List.setIfInBounds_toArray, List.set_cons_zero, List.set_cons_succ]
  refine wpAnyH_take (i := 25) (oi := _) (v := ?vz301u26) rfl (by kernel_rfl) (by kernel_rfl) (by kernel_rfl) (fun _ _ _ h => h) (Or.inl ⟨by kernel_rfl, ?hyz301u26⟩) hHeld ?restz301u26
  case hyz301u26 => (intro w hSw; (try dsimp only at hSw); go_simp; first | done | with_reducible rfl)
  try simp only [Act.put, List.getElem_toArray, List.getElem_cons_zero, List.getElem_cons_succ, List.setIfInBounds_toArray, List.set_cons_zero, List.set_cons_succ]
  refine wpAnyH_ready (rs := [26]) (by kernel_rfl) (by simp) ?_
  refine AllReadyH.cons (o := _) rfl (fun K0 hK0 => ?_) AllReadyH.nil
  go_simp
  go_at_call 17
  refine (CT.out _ ((HR.out.kept B).kept (thenB (thenB (thenB (thenB (Below.refl _ _).drew bz301v6) bz301v8) bz301v16) bz301v18)) ((HK.out.kept B).kept (thenB (thenB (thenB (thenB (Below.refl _ _).drew bz301v6) bz301v8) bz301v16) bz301v18))).mono ?_
  rintro e wz301v27 ⟨c6, d6, rfl, O6, bz301v27⟩
  refine hK0.out _ _ (K.out _ (thenB (thenB (thenB (thenB (thenB (Below.refl _ _).drew bz301v6) bz301v8) bz301v16) bz301v18) bz301v27)) (fun hHeld => ?_)
  clear hK0 K0
  try simp only [Act.put, List.getElem_toArray, List.getElem_cons_zero, List.getElem_cons_succ, List.setIfInBounds_toArray, List.set_cons_zero, List.set_cons_succ]
  refine wpAnyH_take (i := 27) (oi := _) (v := ?vz301u28) rfl (by kernel_rfl) (by kernel_rfl) (by kernel_rfl) (fun _ _ _ h => h) (Or.inl ⟨by kernel_rfl, ?hyz301u28⟩) hHeld ?restz301u28
  case hyz301u28 => (intro w hSw; (try dsimp only at hSw); go_simp; first | done | with_reducible rfl)
  try simp only [Act.put, List.getElem_toArray, List.getElem_cons_zero, List.getElem_cons_succ, List.setIfInBounds_toArray, List.set_cons_zero, List.set_cons_succ]
  refine wpAnyH_take (i := 28) (oi := _) (v := ?vz301u29) rfl (by kernel_rfl) (by kernel_rfl) (by kernel_rfl) (fun _ _ _ h => h) (Or.inl ⟨by kernel_rfl, ?hyz301u29⟩) hHeld ?restz301u29
  case hyz301u29 => (intro w hSw; (try dsimp only at hSw); go_simp; first | done | with_reducible rfl)
  try simp only [Act.put, List.getElem_toArray, List.getElem_cons_zero, List.getElem_cons_succ, List.setIfInBounds_toArray, List.set_cons_zero, List.set_cons_succ]
  refine wpAnyH_take (i := 29) (oi := _) (v := ?vz301u30) rfl (by kernel_rfl) (by kernel_rfl) (by kernel_rfl) (fun _ _ _ h => h) (Or.inl ⟨by kernel_rfl, ?hyz301u30⟩) hHeld ?restz301u30
  case hyz301u30 => (intro w hSw; (try dsimp only at hSw); go_simp; first | done | with_reducible rfl)
  try simp only [Act.put, List.getElem_toArray, List.getElem_cons_zero, List.getElem_cons_succ, List.setIfInBounds_toArray, List.set_cons_zero, List.set_cons_succ]
  refine wpAnyH_take (i := 30) (oi := _) (v := ?vz301u31) rfl (by kernel_rfl) (by kernel_rfl) (by kernel_rfl) (fun _ _ _ h => h) (Or.inl ⟨by kernel_rfl, ?hyz301u31⟩) hHeld ?restz301u31
  case hyz301u31 => (intro w hSw; (try dsimp only at hSw); go_simp; first | done | with_reducible rfl)
  try simp only [Act.put, List.getElem_toArray, List.getElem_cons_zero, List.getElem_cons_succ, List.setIfInBounds_toArray, List.set_cons_zero, List.set_cons_succ]
  refine wpAnyH_done (by kernel_rfl) ?_ _
  clear K hHeld
  have bacc : Below (w302.alloc (.cells #[.int .i64 0, .slice c2 kd d3] 29)).heap.size (w302.alloc (.cells #[.int .i64 0, .slice c2 kd d3] 29)) wz301v27 := (thenB (thenB (thenB (thenB (thenB (Below.refl _ _).drew bz301v6) bz301v8) bz301v16) bz301v18) bz301v27)
  replace VO := VO.kept bacc
  replace VD := VD.kept bacc
  replace RO := RO.kept bacc
  replace RD := RD.kept bacc
  replace B := thenB B bacc
  have Sz301 := (bacc).size
  clear bacc
  simp only [World.size_alloc] at Sz301
  clear bz301v6 bz301v8 bz301v16 bz301v18 bz301v27
  obtain ⟨s_VO, f_VO, z_VO⟩ := VO.open
  obtain ⟨s_VD, f_VD, z_VD⟩ := VD.open
  have Bo := B
  clear O4 O5 O6 CI2 CD2 CT CLO CLD CI CD
  clear s_VO f_VO z_VO s_VD f_VD z_VD
  have VO9 := Hid.mk VO
  have VD9 := Hid.mk VD
  have RO9 := Hid.mk RO
  have RD9 := Hid.mk RD
  have B9 := Hid.mk B
  obtain ⟨s_VO, f_VO, z_VO⟩ := VO.open
  obtain ⟨s_VD, f_VD, z_VD⟩ := VD.open
  clear VO VD RO RD B Bo
  go_wp2
  clear s_VO f_VO z_VO s_VD f_VD z_VD
  go_loopw [7] (fun i wr => ∃ j : Nat, j ≤ k1 ∧ i = .int .i64 j ∧ Below wz301v27.heap.size wz301v27 wr) (fun i _ => k1 - (intOf i).toNat)
  case atStart => exact ⟨0, Nat.zero_le _, rfl, Below.refl _ _⟩
  case round =>
    obtain ⟨j, hj, rfl, bj⟩ := hrel
    have VO := VO9.out.kept bj
    have VD := VD9.out.kept bj
    have RO := RO9.out.kept bj
    have RD := RD9.out.kept bj
    by_cases hlt : j < k1
    · have hj1 : (j : Int) < (k1 : Int) := by omega
      obtain ⟨z, hz⟩ : ∃ z, OL.getD j 0 = z := ⟨_, rfl⟩
      have hzD : z ∈ OL := by rw [← hz]; exact igetD_mem (by omega)
      have CH2 := Hid.mk (fun w h => CH.out c2 d3 z w h)
      rw [HOD.out z hzD] at CH2
      rcases RO with h0 | ⟨b3, o3, rfl, hc⟩
      · rw [h0] at hk1; simp at hk1; omega
      have p0 := hc j (by omega)
      rw [hz] at p0
      have hb3 := World.block_lt_of_cell? _ _ p0
      simp only at hb3
      clear hc hz hzD
      have B := bj
      obtain ⟨s_VO, f_VO, z_VO⟩ := VO.open
      obtain ⟨s_VD, f_VD, z_VD⟩ := VD.open
      have Bo := B
      go_upto_region 13 with fail
      clear s_VO f_VO z_VO s_VD f_VD z_VD
      have K : ∀ w' : World, Below wr.heap.size wr w' → (w'.cell? ⟨w301.heap.size, 0, none⟩ = some (.int .i64 0) ∧ w'.cell? ⟨w301.heap.size, 1, none⟩ = some (.slice (some ⟨b3, o3, none⟩) k1 d1) ∧ w'.cell? ⟨w302.heap.size, 0, none⟩ = some (.int .i64 0) ∧ w'.cell? ⟨w302.heap.size, 1, none⟩ = some (.slice c2 kd d3) ∧ w'.cell? ⟨b3, o3 + j, none⟩ = some (.int .i64 z)) := fun w' h => ⟨(VO.kept h).2.1 0 (by simp), (VO.kept h).2.1 1 (by simp), (VD.kept h).2.1 0 (by simp), (VD.kept h).2.1 1 (by simp), ((bcell h).1 _ _ hb3).trans p0⟩
      have K := Hid.mk K
      clear p0
      refine wp_region_held_drew (S := (fun w' => w'.cell? ⟨w301.heap.size, 0, none⟩ = some (.int .i64 0) ∧ w'.cell? ⟨w301.heap.size, 1, none⟩ = some (.slice (some ⟨b3, o3, none⟩) k1 d1) ∧ w'.cell? ⟨w302.heap.size, 0, none⟩ = some (.int .i64 0) ∧ w'.cell? ⟨w302.heap.size, 1, none⟩ = some (.slice c2 kd d3) ∧ w'.cell? ⟨b3, o3 + j, none⟩ = some (.int .i64 z))) (by kernel_rfl) (K.out _ (Below.refl _ _).drew) (fun hHeld => ?_)
      refine wpAnyH_take (i := 0) (oi := _) (v := ?vz401u1) rfl (by kernel_rfl) (by kernel_rfl) (by kernel_rfl) (fun _ _ _ h => h) (Or.inl ⟨by kernel_rfl, ?hyz401u1⟩) hHeld ?restz401u1
      case hyz401u1 => (intro w hSw; (try dsimp only at hSw); go_simp; first | done | with_reducible rfl)
      try simp only [Act.put, List.getElem_toArray, List.getElem_cons_zero, List.setIfInBounds_toArray, List.set_cons_zero, List.set_cons_succ]
      refine wpAnyH_take (i := 1) (oi := _) (v := ?vz401u2) rfl (by kernel_rfl) (by kernel_rfl) (by kernel_rfl) (fun _ _ _ h => h) (Or.inl ⟨by kernel_rfl, ?hyz401u2⟩) hHeld ?restz401u2
      case hyz401u2 => (intro w hSw; (try dsimp only at hSw); go_simp; first | done | with_reducible rfl)
      try simp only [Act.put, List.getElem_toArray, List.getElem_cons_zero, List.getElem_cons_succ, List.setIfInBounds_toArray, List.set_cons_zero, List.set_cons_succ]
      refine wpAnyH_take (i := 2) (oi := _) (v := ?vz401u3) rfl (by kernel_rfl) (by kernel_rfl) (by kernel_rfl) (fun _ _ _ h => h) (Or.inl ⟨by kernel_rfl, ?hyz401u3⟩) hHeld ?restz401u3
      case hyz401u3 => (intro w hSw; (try dsimp only at hSw); go_simp; first | done | with_reducible rfl)
      try simp only [Act.put, List.getElem_toArray, List.getElem_cons_zero, List.getElem_cons_succ, List.setIfInBounds_toArray, List.set_cons_zero, List.set_cons_succ]
      refine wpAnyH_take (i := 3) (oi := _) (v := ?vz401u4) rfl (by kernel_rfl) (by kernel_rfl) (by kernel_rfl) (fun _ _ _ h => h) (Or.inl ⟨by kernel_rfl, ?hyz401u4⟩) hHeld ?restz401u4
      case hyz401u4 => (intro w hSw; (try dsimp only at hSw); go_simp; first | done | with_reducible rfl)
      try simp only [Act.put, List.getElem_toArray, List.getElem_cons_zero, List.getElem_cons_succ, List.setIfInBounds_toArray, List.set_cons_zero, List.set_cons_succ]
      refine wpAnyH_take (i := 4) (oi := _) (v := ?vz401u5) rfl (by kernel_rfl) (by kernel_rfl) (by kernel_rfl) (fun _ _ _ h => h) (Or.inl ⟨by kernel_rfl, ?hyz401u5⟩) hHeld ?restz401u5
      case hyz401u5 => (intro w hSw; (try dsimp only at hSw); go_simp; first | done | with_reducible rfl)
      try simp only [Act.put, List.getElem_toArray, List.getElem_cons_zero, List.getElem_cons_succ, List.setIfInBounds_toArray, List.set_cons_zero, List.set_cons_succ]
      refine wpAnyH_take (i := 5) (oi := _) (v := ?vz401u6) rfl (by kernel_rfl) (by kernel_rfl) (by kernel_rfl) (fun _ _ _ h => h) (Or.inl ⟨by kernel_rfl, ?hyz401u6⟩) hHeld ?restz401u6
      case hyz401u6 => (intro w hSw; (try dsimp only at hSw); go_simp; first | done | with_reducible rfl)
      try simp only [Act.put, List.getElem_toArray, List.getElem_cons_zero, List.getElem_cons_succ, List.setIfInBounds_toArray, List.set_cons_zero, List.set_cons_succ]
      refine wpAnyH_take (i := 6) (oi := _) (v := ?vz401u7) rfl (by kernel_rfl) (by kernel_rfl) (by kernel_rfl) (fun _ _ _ h => h) (Or.inl ⟨by kernel_rfl, ?hyz401u7⟩) hHeld ?restz401u7
      case hyz401u7 => (intro w hSw; (try dsimp only at hSw); go_simp; first | done | with_reducible rfl)
      try simp only [Act.put, List.getElem_toArray, List.getElem_cons_zero, List.getElem_cons_succ, List.setIfInBounds_toArray, List.set_cons_zero, List.set_cons_succ]
      refine wpAnyH_ready (rs := [7]) (by kernel_rfl) (by simp) ?_
      refine AllReadyH.cons (o := _) rfl (fun K0 hK0 => ?_) AllReadyH.nil
      go_simp
      go_at_call 18
      refine (CH2.out _ (RD.kept (Below.refl _ _).drew)).mono ?_
      rintro e wz401v8 ⟨rfl, bz401v8⟩
      refine hK0.out _ _ (K.out _ (thenB (Below.refl _ _).drew bz401v8)) (fun hHeld => ?_)
      clear hK0 K0
      try simp only [Act.put, List.getElem_toArray, List.getElem_cons_zero, List.getElem_cons_succ, List.setIfInBounds_toArray, List.set_cons_zero, List.set_cons_succ]
      refine wpAnyH_take (i := 8) (oi := _) (v := ?vz401u9) rfl (by kernel_rfl) (by kernel_rfl) (by kernel_rfl) (fun _ _ _ h => h) (Or.inl ⟨by kernel_rfl, ?hyz401u9⟩) hHeld ?restz401u9
      case hyz401u9 => (intro w hSw; (try dsimp only at hSw); go_simp; first | done | with_reducible rfl)
      try simp only [Act.put, List.getElem_toArray, List.getElem_cons_zero, List.getElem_cons_succ, List.setIfInBounds_toArray, List.set_cons_zero, List.set_cons_succ]
      refine wpAnyH_done (by kernel_rfl) ?_ _
      clear K hHeld
      replace VO := VO.kept (thenB (Below.refl _ _).drew bz401v8)
      replace VD := VD.kept (thenB (Below.refl _ _).drew bz401v8)
      replace RD := RD.kept (thenB (Below.refl _ _).drew bz401v8)
      replace B := thenB B (thenB (Below.refl _ _).drew bz401v8)
      have Sz401 := ((thenB (Below.refl _ _).drew bz401v8)).size
      clear bz401v8
      obtain ⟨s_VO, f_VO, z_VO⟩ := VO.open
      obtain ⟨s_VD, f_VD, z_VD⟩ := VD.open
      have Bo := B
      clear s_VO f_VO z_VO s_VD f_VD z_VD
      go_wp2
      go_roundw
      case rel => exact ⟨j + 1, by omega, by go_num, B⟩
      case measure => first | (simp [intOf]; done) | (simp [intOf]; omega)
    · obtain rfl : j = k1 := by omega
      have VO8 := Hid.mk VO
      have VD8 := Hid.mk VD
      have RD8 := Hid.mk RD
      have B8 := Hid.mk (thenB B9.out bj)
      clear RO RD
      obtain ⟨s_VO, f_VO, z_VO⟩ := VO.open
      obtain ⟨s_VD, f_VD, z_VD⟩ := VD.open
      go_wp2
      clear s_VO f_VO z_VO s_VD f_VD z_VD
      clear VO VD bj
      obtain ⟨wl, hwl⟩ : ∃ wl, wr = wl := ⟨_, rfl⟩
      rw [hwl] at VO8 VD8 RD8 B8 ⊢
      clear hwl
      go_loopw [8] (fun i wr => ∃ i' : Nat, i' ≤ m ∧ i = .int .i64 i' ∧ Below wl.heap.size wl wr) (fun i _ => m - (intOf i).toNat)
      case atStart => exact ⟨0, Nat.zero_le _, rfl, Below.refl _ _⟩
      case round =>
        obtain ⟨i, hi, rfl, bi⟩ := hrel
        have VD := VD8.out.kept bi
        have RD := RD8.out.kept bi
        have B := thenB B8.out bi
        by_cases hlt2 : i < m
        · have hi1 : (i : Int) < (m : Int) := by omega
          obtain ⟨x, hx⟩ : ∃ x, xs.getD i zTerm = x := ⟨_, rfl⟩
          obtain ⟨⟨hv1, hv2⟩, hw3, hw5, hw4, hw6, hw1⟩ := hways.out i (by have := HLN.out; omega) x hx
          obtain ⟨ho1, ho7⟩ := hop.out i (by have := HLN.out; omega) x hx
          rcases HR.out.kept B with h0 | ⟨b1, o1, rfl, hca⟩
          · have := HLN.out; rw [h0] at this; simp at this; omega
          obtain ⟨p0, p1, p2, p3⟩ := RdTerm.cells hca i (by have := HLN.out; omega) x hx
          clear hca hx
          obtain ⟨xo, xa, xb, xn⟩ := x
          simp only at *
          have CV1 := Hid.mk (CV.out (i : Int))
          have CW1 := Hid.mk (CW.out (i : Int))
          have CH1 := Hid.mk (CH.out c2 d3 (i : Int))
          have CHA := Hid.mk (CH.out c2 d3 xa)
          have CHB := Hid.mk (CH.out c2 d3 xb)
          rw [hv1] at CV1
          rw [hv2] at CW1
          clear hv1 hv2
          obtain ⟨cn, hcn⟩ : ∃ v, inL D (i : Int) = v := ⟨_, rfl⟩
          obtain ⟨va, hva⟩ : ∃ v, inL D xa = v := ⟨_, rfl⟩
          obtain ⟨vb, hvb⟩ : ∃ v, inL D xb = v := ⟨_, rfl⟩
          rw [hcn] at CV1 CW1 CH1
          rw [hva] at CHA
          rw [hvb] at CHB
          rw [hcn, hva, hvb] at hw3
          rw [hcn, hva, hvb] at hw5
          rw [hcn, hva, hvb] at hw4
          rw [hcn, hva] at hw6
          rw [hcn] at hw1
          clear hcn hva hvb
          cases cn
          · skip
            have B9 := B
            clear B9
            replace B := bi
            replace VD := VD.kept (belowA wr (.cells #[.int .i64 xo, .int .i64 xa, .int .i64 xb, .int .i64 xn] 34))
            replace RD := RD.kept (belowA wr (.cells #[.int .i64 xo, .int .i64 xa, .int .i64 xb, .int .i64 xn] 34))
            replace B := thenB B (belowA wr (.cells #[.int .i64 xo, .int .i64 xa, .int .i64 xb, .int .i64 xn] 34))
            have VT := V.new wr [.int .i64 xo, .int .i64 xa, .int .i64 xb, .int .i64 xn] 34
            obtain ⟨s_VD, f_VD, z_VD⟩ := VD.open
            obtain ⟨s_VT, f_VT, z_VT⟩ := VT.open
            have Bo := B
            have B0x := thenB B8.out B
            clear B0x
            go_wp2_with fail
            refine (CH1.out _ RD).mono ?_
            rintro e w601 ⟨rfl, b601⟩
            clear s_VD f_VD z_VD s_VT f_VT z_VT
            have S601 := b601.size
            simp only [World.size_alloc] at S601
            replace VD := VD.kept b601
            replace VT := VT.kept b601
            replace RD := RD.kept b601
            replace B := thenB B b601
            clear b601
            obtain ⟨s_VD, f_VD, z_VD⟩ := VD.open
            obtain ⟨s_VT, f_VT, z_VT⟩ := VT.open
            have Bo := B
            go_wp2_with fail
            refine (CV1.out _ (HR.out.kept (thenB B8.out B)) (HK.out.kept (thenB B8.out B))).mono ?_
            rintro e w602 ⟨rfl, b602⟩
            clear s_VD f_VD z_VD s_VT f_VT z_VT
            have S602 := b602.size
            replace VD := VD.kept b602
            replace VT := VT.kept b602
            replace RD := RD.kept b602
            replace B := thenB B b602
            clear b602
            obtain ⟨s_VD, f_VD, z_VD⟩ := VD.open
            obtain ⟨s_VT, f_VT, z_VT⟩ := VT.open
            have Bo := B
            go_wp2_with fail
            refine (CW1.out _ (HR.out.kept (thenB B8.out B)) (HK.out.kept (thenB B8.out B))).mono ?_
            rintro e w603 ⟨rfl, b603⟩
            clear s_VD f_VD z_VD s_VT f_VT z_VT
            have S603 := b603.size
            replace VD := VD.kept b603
            replace VT := VT.kept b603
            replace RD := RD.kept b603
            replace B := thenB B b603
            clear b603
            obtain ⟨s_VD, f_VD, z_VD⟩ := VD.open
            obtain ⟨s_VT, f_VT, z_VT⟩ := VT.open
            have Bo := B
            go_wp2_with fail
            refine (CHA.out _ RD).mono ?_
            rintro e w604 ⟨rfl, b604⟩
            clear s_VD f_VD z_VD s_VT f_VT z_VT
            have S604 := b604.size
            replace VD := VD.kept b604
            replace VT := VT.kept b604
            replace RD := RD.kept b604
            replace B := thenB B b604
            clear b604
            obtain ⟨s_VD, f_VD, z_VD⟩ := VD.open
            obtain ⟨s_VT, f_VT, z_VT⟩ := VT.open
            have Bo := B
            go_wp2_with fail
            refine (CHB.out _ RD).mono ?_
            rintro e w605 ⟨rfl, b605⟩
            clear s_VD f_VD z_VD s_VT f_VT z_VT
            have S605 := b605.size
            replace VD := VD.kept b605
            replace VT := VT.kept b605
            replace RD := RD.kept b605
            replace B := thenB B b605
            clear b605
            obtain ⟨s_VD, f_VD, z_VD⟩ := VD.open
            obtain ⟨s_VT, f_VT, z_VT⟩ := VT.open
            have Bo := B
            clear CV1 CW1 CH1 CHA CHB
            rcases (show xo = 1 ∨ xo = 2 ∨ xo = 3 ∨ xo = 4 ∨ xo = 5 ∨ xo = 6 ∨ xo = 7 by omega) with rfl | rfl | rfl | rfl | rfl | rfl | rfl
            · skip
              exact absurd (hw1 rfl) (by decide)
            · skip
              clear hw1 hw3 hw4 hw5 hw6
              go_wp2
              go_roundw
              case rel => exact ⟨i + 1, by omega, by go_num, B⟩
              case measure => first | (simp [intOf]; done) | (simp [intOf]; omega)
            · skip
              have hh := hw3 rfl
              clear hw1 hw3 hw4 hw5 hw6
              cases va
              · cases vb
                · clear hh
                  go_wp2
                  go_roundw
                  case rel => exact ⟨i + 1, by omega, by go_num, B⟩
                  case measure => first | (simp [intOf]; done) | (simp [intOf]; omega)
                · clear hh
                  go_wp2
                  go_roundw
                  case rel => exact ⟨i + 1, by omega, by go_num, B⟩
                  case measure => first | (simp [intOf]; done) | (simp [intOf]; omega)
              · cases vb
                · clear hh
                  go_wp2
                  go_roundw
                  case rel => exact ⟨i + 1, by omega, by go_num, B⟩
                  case measure => first | (simp [intOf]; done) | (simp [intOf]; omega)
                · simp at hh
            · skip
              have hh := hw4 rfl
              clear hw1 hw3 hw4 hw5 hw6
              cases va
              · cases vb
                · clear hh
                  go_wp2
                  go_roundw
                  case rel => exact ⟨i + 1, by omega, by go_num, B⟩
                  case measure => first | (simp [intOf]; done) | (simp [intOf]; omega)
                · clear hh
                  go_wp2
                  go_roundw
                  case rel => exact ⟨i + 1, by omega, by go_num, B⟩
                  case measure => first | (simp [intOf]; done) | (simp [intOf]; omega)
              · cases vb
                · clear hh
                  go_wp2
                  go_roundw
                  case rel => exact ⟨i + 1, by omega, by go_num, B⟩
                  case measure => first | (simp [intOf]; done) | (simp [intOf]; omega)
                · simp at hh
            · skip
              have hh := hw5 rfl
              clear hw1 hw3 hw4 hw5 hw6
              cases va
              · cases vb
                · clear hh
                  go_wp2
                  go_roundw
                  case rel => exact ⟨i + 1, by omega, by go_num, B⟩
                  case measure => first | (simp [intOf]; done) | (simp [intOf]; omega)
                · clear hh
                  go_wp2
                  go_roundw
                  case rel => exact ⟨i + 1, by omega, by go_num, B⟩
                  case measure => first | (simp [intOf]; done) | (simp [intOf]; omega)
              · cases vb
                · clear hh
                  go_wp2
                  go_roundw
                  case rel => exact ⟨i + 1, by omega, by go_num, B⟩
                  case measure => first | (simp [intOf]; done) | (simp [intOf]; omega)
                · simp at hh
            · skip
              have hh := hw6 rfl
              clear hw1 hw3 hw4 hw5 hw6
              cases va
              · cases vb
                · clear hh
                  go_wp2
                  go_roundw
                  case rel => exact ⟨i + 1, by omega, by go_num, B⟩
                  case measure => first | (simp [intOf]; done) | (simp [intOf]; omega)
                · clear hh
                  go_wp2
                  go_roundw
                  case rel => exact ⟨i + 1, by omega, by go_num, B⟩
                  case measure => first | (simp [intOf]; done) | (simp [intOf]; omega)
              · cases vb
                · simp at hh
                · simp at hh
            · skip
              clear hw1 hw3 hw4 hw5 hw6
              go_wp2
              go_roundw
              case rel => exact ⟨i + 1, by omega, by go_num, B⟩
              case measure => first | (simp [intOf]; done) | (simp [intOf]; omega)
          · skip
            have B9 := B
            clear B9
            replace B := bi
            replace VD := VD.kept (belowA wr (.cells #[.int .i64 xo, .int .i64 xa, .int .i64 xb, .int .i64 xn] 34))
            replace RD := RD.kept (belowA wr (.cells #[.int .i64 xo, .int .i64 xa, .int .i64 xb, .int .i64 xn] 34))
            replace B := thenB B (belowA wr (.cells #[.int .i64 xo, .int .i64 xa, .int .i64 xb, .int .i64 xn] 34))
            have VT := V.new wr [.int .i64 xo, .int .i64 xa, .int .i64 xb, .int .i64 xn] 34
            obtain ⟨s_VD, f_VD, z_VD⟩ := VD.open
            obtain ⟨s_VT, f_VT, z_VT⟩ := VT.open
            have Bo := B
            have B0x := thenB B8.out B
            clear B0x
            go_wp2_with fail
            refine (CH1.out _ RD).mono ?_
            rintro e w651 ⟨rfl, b651⟩
            clear s_VD f_VD z_VD s_VT f_VT z_VT
            have S651 := b651.size
            simp only [World.size_alloc] at S651
            replace VD := VD.kept b651
            replace VT := VT.kept b651
            replace RD := RD.kept b651
            replace B := thenB B b651
            clear b651
            obtain ⟨s_VD, f_VD, z_VD⟩ := VD.open
            obtain ⟨s_VT, f_VT, z_VT⟩ := VT.open
            have Bo := B
            go_wp2_with fail
            refine (CV1.out _ (HR.out.kept (thenB B8.out B)) (HK.out.kept (thenB B8.out B))).mono ?_
            rintro e w652 ⟨rfl, b652⟩
            clear s_VD f_VD z_VD s_VT f_VT z_VT
            have S652 := b652.size
            replace VD := VD.kept b652
            replace VT := VT.kept b652
            replace RD := RD.kept b652
            replace B := thenB B b652
            clear b652
            obtain ⟨s_VD, f_VD, z_VD⟩ := VD.open
            obtain ⟨s_VT, f_VT, z_VT⟩ := VT.open
            have Bo := B
            go_wp2_with fail
            refine (CW1.out _ (HR.out.kept (thenB B8.out B)) (HK.out.kept (thenB B8.out B))).mono ?_
            rintro e w653 ⟨rfl, b653⟩
            clear s_VD f_VD z_VD s_VT f_VT z_VT
            have S653 := b653.size
            replace VD := VD.kept b653
            replace VT := VT.kept b653
            replace RD := RD.kept b653
            replace B := thenB B b653
            clear b653
            obtain ⟨s_VD, f_VD, z_VD⟩ := VD.open
            obtain ⟨s_VT, f_VT, z_VT⟩ := VT.open
            have Bo := B
            go_wp2_with fail
            refine (CHA.out _ RD).mono ?_
            rintro e w654 ⟨rfl, b654⟩
            clear s_VD f_VD z_VD s_VT f_VT z_VT
            have S654 := b654.size
            replace VD := VD.kept b654
            replace VT := VT.kept b654
            replace RD := RD.kept b654
            replace B := thenB B b654
            clear b654
            obtain ⟨s_VD, f_VD, z_VD⟩ := VD.open
            obtain ⟨s_VT, f_VT, z_VT⟩ := VT.open
            have Bo := B
            go_wp2_with fail
            refine (CHB.out _ RD).mono ?_
            rintro e w655 ⟨rfl, b655⟩
            clear s_VD f_VD z_VD s_VT f_VT z_VT
            have S655 := b655.size
            replace VD := VD.kept b655
            replace VT := VT.kept b655
            replace RD := RD.kept b655
            replace B := thenB B b655
            clear b655
            obtain ⟨s_VD, f_VD, z_VD⟩ := VD.open
            obtain ⟨s_VT, f_VT, z_VT⟩ := VT.open
            have Bo := B
            clear CV1 CW1 CH1 CHA CHB
            rcases (show xo = 1 ∨ xo = 2 ∨ xo = 3 ∨ xo = 4 ∨ xo = 5 ∨ xo = 6 ∨ xo = 7 by omega) with rfl | rfl | rfl | rfl | rfl | rfl | rfl
            · skip
              clear hw1 hw3 hw4 hw5 hw6
              go_wp2
              go_roundw
              case rel => exact ⟨i + 1, by omega, by go_num, B⟩
              case measure => first | (simp [intOf]; done) | (simp [intOf]; omega)
            · skip
              clear hw1 hw3 hw4 hw5 hw6
              go_wp2
              go_roundw
              case rel => exact ⟨i + 1, by omega, by go_num, B⟩
              case measure => first | (simp [intOf]; done) | (simp [intOf]; omega)
            · skip
              have hh := hw3 rfl
              clear hw1 hw3 hw4 hw5 hw6
              cases va
              · cases vb
                · simp at hh
                · simp at hh
              · cases vb
                · simp at hh
                · clear hh
                  go_wp2
                  go_roundw
                  case rel => exact ⟨i + 1, by omega, by go_num, B⟩
                  case measure => first | (simp [intOf]; done) | (simp [intOf]; omega)
            · skip
              have hh := hw4 rfl
              clear hw1 hw3 hw4 hw5 hw6
              cases va
              · cases vb
                · clear hh
                  go_wp2
                  go_roundw
                  case rel => exact ⟨i + 1, by omega, by go_num, B⟩
                  case measure => first | (simp [intOf]; done) | (simp [intOf]; omega)
                · clear hh
                  go_wp2
                  go_roundw
                  case rel => exact ⟨i + 1, by omega, by go_num, B⟩
                  case measure => first | (simp [intOf]; done) | (simp [intOf]; omega)
              · cases vb
                · clear hh
                  go_wp2
                  go_roundw
                  case rel => exact ⟨i + 1, by omega, by go_num, B⟩
                  case measure => first | (simp [intOf]; done) | (simp [intOf]; omega)
                · clear hh
                  go_wp2
                  go_roundw
                  case rel => exact ⟨i + 1, by omega, by go_num, B⟩
                  case measure => first | (simp [intOf]; done) | (simp [intOf]; omega)
            · skip
              have hh := hw5 rfl
              clear hw1 hw3 hw4 hw5 hw6
              cases va
              · cases vb
                · clear hh
                  go_wp2
                  go_roundw
                  case rel => exact ⟨i + 1, by omega, by go_num, B⟩
                  case measure => first | (simp [intOf]; done) | (simp [intOf]; omega)
                · clear hh
                  go_wp2
                  go_roundw
                  case rel => exact ⟨i + 1, by omega, by go_num, B⟩
                  case measure => first | (simp [intOf]; done) | (simp [intOf]; omega)
              · cases vb
                · simp at hh
                · clear hh
                  go_wp2
                  go_roundw
                  case rel => exact ⟨i + 1, by omega, by go_num, B⟩
                  case measure => first | (simp [intOf]; done) | (simp [intOf]; omega)
            · skip
              have hh := hw6 rfl
              clear hw1 hw3 hw4 hw5 hw6
              cases va
              · cases vb
                · clear hh
                  go_wp2
                  go_roundw
                  case rel => exact ⟨i + 1, by omega, by go_num, B⟩
                  case measure => first | (simp [intOf]; done) | (simp [intOf]; omega)
                · clear hh
                  go_wp2
                  go_roundw
                  case rel => exact ⟨i + 1, by omega, by go_num, B⟩
                  case measure => first | (simp [intOf]; done) | (simp [intOf]; omega)
              · cases vb
                · clear hh
                  go_wp2
                  go_roundw
                  case rel => exact ⟨i + 1, by omega, by go_num, B⟩
                  case measure => first | (simp [intOf]; done) | (simp [intOf]; omega)
                · clear hh
                  go_wp2
                  go_roundw
                  case rel => exact ⟨i + 1, by omega, by go_num, B⟩
                  case measure => first | (simp [intOf]; done) | (simp [intOf]; omega)
            · skip
              clear hw1 hw3 hw4 hw5 hw6
              go_wp2
              go_roundw
              case rel => exact ⟨i + 1, by omega, by go_num, B⟩
              case measure => first | (simp [intOf]; done) | (simp [intOf]; omega)
        · obtain rfl : i = m := by omega
          go_wp2
          go_ret
          exact ⟨rfl, HB0.out.trans (B.mono HB0.out.size)⟩

end Go.Proofs.Yteeoodbmgheikaa
