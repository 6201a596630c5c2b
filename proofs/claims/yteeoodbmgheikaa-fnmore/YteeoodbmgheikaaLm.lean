/- Put together: LwK, XMore. -/
import Derived.Test.YteeoodbmgheikaaOcA
import Derived.Test.YteeoodbmgheikaaIntH
import Derived.Test.YteeoodbmgheikaaKF
import Derived.Deep.DeepCutAuto
import Derived.Test.YteeoodbmgheikaaDb

/- Lists of numbers in the laws; a number put into what is known. -/
namespace Go.Proofs.Yteeoodbmgheikaa
open Go.RowKit

set_option maxHeartbeats 1000000 in
theorem lwHas_ok (a : Option Addr) (n ca : Nat) (zs : List Int) (v : Int) (w : World) (ha : Rd .i64 w a zs) (hn : zs.length = n) (hx : n ≤ maxLen) :
    Calls Try.prog 18 #[.slice a n ca, .int .i64 v] w fun e w' => e = .returned (.bool (inL zs v)) ∧ Below w.heap.size w w' := by
  unfold maxLen at hx
  go_enter Try.func18, Try.ntmps18
  go_wp2
  go_loopw [5] (fun i wr => ∃ k : Nat, k ≤ n ∧ i = .int .i64 k ∧ inL (zs.drop k) v = inL zs v ∧ Below w.heap.size w wr) (fun i _ => n - (intOf i).toNat)
  case atStart => exact ⟨0, Nat.zero_le _, rfl, rfl, Below.refl _ _⟩
  case round =>
    obtain ⟨k, hk, rfl, hdr, B⟩ := hrel
    by_cases hlt : k < n
    · obtain ⟨z, hz⟩ : ∃ z, zs.getD k 0 = z := ⟨_, rfl⟩
      have hk1 : (k : Int) < (n : Int) := by omega
      have hs := inL_drop zs v k (by omega) hz
      rw [hdr] at hs
      replace ha := ha.kept B
      rcases ha with ha | ⟨b1, o1, rfl, hca⟩
      · simp [ha] at hn; omega
      have p0 := hca k (by omega)
      rw [hz] at p0
      clear hca hz hdr
      cases hg : (z == v)
      · rw [hg, Bool.false_or] at hs
        have HS := Hid.mk hs
        clear hs
        go_wp2
        go_roundw
        case rel => exact ⟨k + 1, by omega, by go_num, HS.out.symm, B⟩
        case measure => simp [intOf]; omega
      · rw [hg, Bool.true_or] at hs
        have HS := Hid.mk hs
        clear hs
        go_wp2
        go_ret
        exact ⟨ret_bool HS.out.symm, B⟩
    · have hkn : k = n := by omega
      subst hkn
      rw [List.drop_of_length_le (by omega)] at hdr
      have HS := Hid.mk hdr
      clear hdr
      go_wp2
      go_ret
      exact ⟨ret_bool HS.out, B⟩

set_option maxHeartbeats 1000000 in
theorem lwNums_ok (a b : Option Addr) (n ca cb : Nat) (xs : List Int) (w : World) (ha : Rd .i64 w a xs) (hb : Rd .i64 w b xs) (hn : xs.length = n) (hx : n ≤ maxLen) :
    Calls Try.prog 16 #[.slice a n ca, .slice b n cb] w fun e w' => e = .returned (.bool true) ∧ Below w.heap.size w w' := by
  unfold maxLen at hx
  go_enter Try.func16, Try.ntmps16
  go_wp2
  go_loopw [5] (fun i wr => ∃ k : Nat, k ≤ n ∧ i = .int .i64 k ∧ Below w.heap.size w wr) (fun i _ => n - (intOf i).toNat)
  case atStart => exact ⟨0, Nat.zero_le _, rfl, Below.refl _ _⟩
  case round =>
    obtain ⟨k, hk, rfl, hbel⟩ := hrel
    by_cases hlt : k < n
    · replace ha := ha.kept hbel
      replace hb := hb.kept hbel
      rcases ha with ha | ⟨b1, o1, rfl, hca⟩
      · simp [ha] at hn; omega
      rcases hb with hb | ⟨b2, o2, rfl, hcb⟩
      · simp [hb] at hn; omega
      have p0 := hca k (by omega)
      have p1 := hcb k (by omega)
      have hk1 : (k : Int) < (n : Int) := by omega
      clear hca hcb
      generalize xs.getD k 0 = z at *
      replace hbel := Hid.mk hbel
      go_wp2
      go_quiet (fail)
      go_wp2
      go_roundw
      case rel => exact ⟨k + 1, by omega, by go_num, belowN hbel.out _⟩
      case measure => simp [intOf]; omega
    · have hkn : k = n := by omega
      subst hkn
      go_wp2
      go_ret
      exact ⟨rfl, hbel⟩

theorem inL_iff {zs : List Int} {v : Int} : inL zs v = true ↔ v ∈ zs := by
  unfold inL
  simp only [List.any_eq_true, beq_iff_eq]
  exact ⟨fun ⟨x, hx, e⟩ => e ▸ hx, fun h => ⟨v, h, rfl⟩⟩

theorem flg_dv (xs : List T4) (kn : List Int) (z : Int) : flg (dvF xs kn) z = drv xs kn z := by
  unfold dvF drv der flg can
  by_cases h0 : 0 ≤ z
  · by_cases h1 : z < xs.length
    · simp [h0, h1]
    · have : (canL xs (isIn (openL xs kn))).getD z.toNat false = false := by
        rw [List.getD_eq_getElem?_getD, List.getElem?_eq_none (by rw [canL_len]; omega)]; rfl
      rw [this]
      simp [h1]
  · simp [h0]

theorem ds_mem {xs : List T4} {kn : List Int} (h : knC xs kn = 0) {z : Int} : z ∈ dsL xs kn ↔ drv xs kn z = true := by
  unfold dsL
  rw [if_pos h, plcs_mem, flg_dv]

theorem ds_in {xs : List T4} {kn : List Int} (h : knC xs kn = 0) {z : Int} (hz : z ∈ dsL xs kn) : 0 ≤ z ∧ z < xs.length := by
  unfold dsL at hz
  rw [if_pos h, plcs_mem] at hz
  have := flg_in hz
  rwa [dvF_len] at this

theorem ds_rising {xs : List T4} {kn : List Int} (h : knC xs kn = 0) : Rising (dsL xs kn) := by
  unfold dsL
  rw [if_pos h]
  exact plcs_rising _

theorem rise_places {xs : List T4} {kn : List Int} (h : knC xs kn = 0) {q : Nat} (hq : q < xs.length) : ∀ z ∈ rise kn q, 0 ≤ z ∧ z < xs.length := fun z hz => by
  rcases rise_mem.1 hz with rfl | hz
  · omega
  · exact (knC_zero h).2.2.1 z hz

/-- Who knows one thing more. -/
theorem more_ways {xs : List T4} {kn : List Int} (h : knC xs kn = 0) {q : Nat} (hq : q < xs.length) :
    knC xs (rise kn q) = 0 ∧ inL (dsL xs (rise kn q)) q = true ∧ (∀ z ∈ dsL xs kn, inL (dsL xs (rise kn q)) z = true) ∧ (dvB xs kn q = true → dsL xs (rise kn q) = dsL xs kn) := by
  obtain ⟨h1, h2, h3, h4⟩ := knC_zero h
  have hp := rise_places h hq
  have hr := rise_rising (v := (q : Int)) h4
  have h0 := knC_ok h1 hp hr
  have hA := tfC_ahead h1
  have hk : ∀ z ∈ kn, z ∈ rise kn q := fun z hz => rise_mem.2 (.inr hz)
  have hdrv : ∀ z ∈ dsL xs kn, z ∈ dsL xs (rise kn q) := fun z hz => by
    obtain ⟨z0, z1⟩ := ds_in h hz
    obtain ⟨k, rfl⟩ := Int.eq_ofNat_of_zero_le z0
    rw [ds_mem h0]
    rw [ds_mem h] at hz
    exact drv_more hA h4 h3 hr hp hk (by omega) hz
  refine ⟨h0, ?_, fun z hz => inL_iff.2 (hdrv z hz), fun hd => ?_⟩
  · rw [inL_iff, ds_mem h0]
    exact drv_known hA hq ((openL_open hA hr hp).way.has _ (rise_mem.2 (.inl rfl)))
  · have hd2 : drv xs kn q = true := by
      unfold dvB at hd
      rw [Bool.and_eq_true, flg_dv] at hd
      exact hd.2
    refine rising_eq _ _ (ds_rising h0) (ds_rising h) fun z => ⟨fun hz => ?_, hdrv z⟩
    obtain ⟨z0, z1⟩ := ds_in h0 hz
    obtain ⟨k, rfl⟩ := Int.eq_ofNat_of_zero_le z0
    rw [ds_mem h]
    rw [ds_mem h0] at hz
    refine drv_same hA h4 h3 hr hp (fun y hy => ?_) (by omega) hz
    rcases rise_mem.1 hy with rfl | hy
    · exact hd2
    · obtain ⟨y0, y1⟩ := h3 y hy
      obtain ⟨i, rfl⟩ := Int.eq_ofNat_of_zero_le y0
      exact drv_known hA (by omega) ((openL_open hA h4 h3).way.has _ hy)

/-- A list that is built of what is known and one number more, the first j gone through. -/
def MoS (kn : List Int) (q : Int) (j : Nat) (l : List Int) (p : Bool) : Prop :=
  (p = false ∧ l = kn.take j ∧ ∀ z ∈ kn.take j, z < q) ∨ (p = true ∧ l = rise (kn.take j) q ∧ ∃ z ∈ kn.take j, q ≤ z)

theorem rise_last {l : List Int} (h : Rising l) {q : Int} (hq : ∀ z ∈ l, z < q) : rise l q = l ++ [q] := by
  have hr : Rising (l ++ [q]) := by
    rw [Rising, List.pairwise_append]
    exact ⟨h, List.pairwise_singleton _ _, fun a ha b hb => by simp only [List.mem_singleton] at hb; subst hb; exact hq a ha⟩
  refine rising_eq _ _ (rise_rising h) hr fun z => ?_
  rw [rise_mem, List.mem_append, List.mem_singleton]
  exact ⟨fun h => h.symm, fun h => h.symm⟩

theorem rise_snoc {l : List Int} {z q : Int} (h : Rising (l ++ [z])) (hq : q < z) : rise (l ++ [z]) q = rise l q ++ [z] := by
  obtain ⟨h1, _, h3⟩ := List.pairwise_append.1 h
  have hr : Rising (rise l q ++ [z]) := by
    rw [Rising, List.pairwise_append]
    refine ⟨rise_rising h1, List.pairwise_singleton _ _, fun a ha b hb => ?_⟩
    simp only [List.mem_singleton] at hb
    subst hb
    rcases rise_mem.1 ha with rfl | ha
    · exact hq
    · exact h3 a ha b (by simp)
  refine rising_eq _ _ (rise_rising h) hr fun y => ?_
  rw [rise_mem, List.mem_append, List.mem_append, rise_mem, List.mem_singleton]
  exact ⟨fun h => by rcases h with h | h | h <;> simp [h], fun h => by rcases h with (h | h) | h <;> simp [h]⟩

theorem take_up {kn : List Int} {j : Nat} (hj : j < kn.length) {z : Int} (hz : kn.getD j 0 = z) : kn.take (j + 1) = kn.take j ++ [z] := by rw [take_snoc kn j hj, hz]

theorem take_lt {kn : List Int} (h : Rising kn) {j : Nat} (hj : j < kn.length) {z : Int} (hz : kn.getD j 0 = z) : ∀ y ∈ kn.take j, y < z := fun y hy => by
  obtain ⟨i, hi, rfl⟩ := List.getElem_of_mem hy
  rw [List.length_take] at hi
  have := rising_at h (i := i) (j := j) (by omega) hj
  rw [List.getElem_take, ← hz]
  simpa [List.getD, show i < kn.length by omega] using this

theorem mo_start (kn : List Int) (q : Int) : MoS kn q 0 [] false := .inl ⟨rfl, by simp, by simp⟩

theorem mo_lt {kn : List Int} {q : Int} {j : Nat} {l : List Int} (h : MoS kn q j l false) (hj : j < kn.length) {z : Int} (hz : kn.getD j 0 = z) (hq : z < q) : MoS kn q (j + 1) (l ++ [z]) false := by
  rcases h with ⟨_, rfl, h2⟩ | ⟨h, _⟩
  · refine .inl ⟨rfl, (take_up hj hz).symm, fun y hy => ?_⟩
    rw [take_up hj hz, List.mem_append, List.mem_singleton] at hy
    rcases hy with hy | rfl
    · exact h2 y hy
    · exact hq
  · cases h

theorem mo_eq {kn : List Int} (_hr : Rising kn) {q : Int} {j : Nat} {l : List Int} (h : MoS kn q j l false) (hj : j < kn.length) (hz : kn.getD j 0 = q) : MoS kn q (j + 1) (l ++ [q]) true := by
  rcases h with ⟨_, rfl, h2⟩ | ⟨h, _⟩
  · refine .inr ⟨rfl, ?_, q, ?_, by omega⟩
    · rw [take_up hj hz, rise_in (by simp)]
    · rw [take_up hj hz]; simp
  · cases h

theorem mo_gt {kn : List Int} (hr : Rising kn) {q : Int} {j : Nat} {l : List Int} (h : MoS kn q j l false) (hj : j < kn.length) {z : Int} (hz : kn.getD j 0 = z) (hq : q < z) : MoS kn q (j + 1) (l ++ [q] ++ [z]) true := by
  have ht : Rising (kn.take j ++ [z]) := by rw [← take_up hj hz]; exact hr.sublist (List.take_sublist _ _)
  rcases h with ⟨_, rfl, h2⟩ | ⟨h, _⟩
  · refine .inr ⟨rfl, ?_, z, ?_, by omega⟩
    · rw [take_up hj hz, rise_snoc ht hq, rise_last (hr.sublist (List.take_sublist _ _)) h2]
    · rw [take_up hj hz]; simp
  · cases h

theorem mo_put {kn : List Int} (hr : Rising kn) {q : Int} {j : Nat} {l : List Int} (h : MoS kn q j l true) (hj : j < kn.length) {z : Int} (hz : kn.getD j 0 = z) : q < z ∧ MoS kn q (j + 1) (l ++ [z]) true := by
  have ht : Rising (kn.take j ++ [z]) := by rw [← take_up hj hz]; exact hr.sublist (List.take_sublist _ _)
  rcases h with ⟨h, _⟩ | ⟨_, rfl, y, hy, hqy⟩
  · cases h
  · have h1 := take_lt hr hj hz y hy
    refine ⟨by omega, .inr ⟨rfl, ?_, y, ?_, hqy⟩⟩
    · rw [take_up hj hz, rise_snoc ht (by omega)]
    · rw [take_up hj hz]; simp [hy]

theorem mo_end {kn : List Int} (hr : Rising kn) {q : Int} {l : List Int} {p : Bool} (h : MoS kn q kn.length l p) : (p = false → l ++ [q] = rise kn q) ∧ (p = true → l = rise kn q) := by
  rw [MoS, List.take_length] at h
  rcases h with ⟨rfl, rfl, h2⟩ | ⟨rfl, rfl, _⟩
  · refine ⟨fun _ => (rise_last hr h2).symm, fun h => ?_⟩
    cases h
  · refine ⟨fun h => ?_, fun _ => rfl⟩
    cases h

theorem mo_len {kn : List Int} {q : Int} {j : Nat} {l : List Int} {p : Bool} (hr : Rising kn) (h : MoS kn q j l p) : l.length ≤ j + 1 := by
  rcases h with ⟨_, rfl, _⟩ | ⟨_, rfl, _⟩
  · rw [List.length_take]; omega
  · have := rise_len (kn.take j) q (hr.sublist (List.take_sublist _ _))
    rw [List.length_take] at this; omega

end Go.Proofs.Yteeoodbmgheikaa

/- The law FnMore: its walk. -/
namespace Go.Proofs.Yteeoodbmgheikaa
open Go.RowKit

set_option maxRecDepth 20000 in
set_option maxHeartbeats 16000000 in
theorem xMore_walk (a : Option Addr) (n ca : Nat) (zs : List Int) (w : World) (ha : Rd .u8 w a zs) (hb : Bytes zs) (hn : zs.length = n) :
    Calls Try.prog 4 #[.slice a n ca] w fun e w' => e = .returned (.bool true) ∧ Below w.heap.size w w' := by
  by_cases hbig : 1048576 < n
  · have h1 : (1048576 : Int) < (n : Int) := by omega
    go_enter Try.func4, Try.ntmps4
    go_wp2_with (first | (go_at_call 11; go_in) | fail)
    go_ret
    exact ⟨rfl, Below.refl _ _⟩
  have h1 : ¬ (1048576 : Int) < (n : Int) := by omega
  have CD := Hid.mk (drawDerives_ok a n ca zs w ha hb hn (by omega))
  clear ha hb hn hbig
  go_enter Try.func4, Try.ntmps4
  go_wp2_with (first | (go_at_call 11; go_in) | fail)
  refine CD.out.mono ?_
  rintro e wA ⟨c, d, m, xs, g, d2, k2, kn, v, rfl, hxs, hkn, hv, RX, RK, B0⟩
  obtain ⟨hlen, hm, hcap, hnc, hok⟩ := hxs
  obtain ⟨hk2, hk2m, hkr⟩ := hkn
  have e0 := extractK0
  have e1 := extractK1
  have e2 := extractK2
  have CI := Hid.mk (fun w h h2 => implDerivesSome_ok c m d xs (some ⟨g, 0, none⟩) k2 d2 kn w h hlen (by unfold maxLen; omega) hok h2 hk2 (by unfold maxLen; omega))
  have CS := Hid.mk (fun w h h2 => specDerivesSome_ok c m d xs (some ⟨g, 0, none⟩) k2 d2 kn w h hlen (by unfold maxLen; omega) hcap h2 hk2 (by unfold maxLen; omega) (fun h => by cases h))
  have HB0 := Hid.mk B0
  have HR := Hid.mk RX
  have HK := Hid.mk RK
  clear B0 CD RX RK hcap hnc
  have B := Below.refl wA.heap.size wA
  by_cases hc : knC xs kn = 0
  rotate_left
  · have h3 : (knC xs kn != 0) = true := by simp [hc]
    have h4 : (knC xs kn == knC xs kn) = true := by simp
    clear hc hok hlen hkr
    generalize knC xs kn = kc at *
    have qf : ∀ (c : Option Addr) (k d : Nat) (w : World), (Instr.field 29 (.agg #[.int .i64 kc, .slice c k d]) 0).run Try.prog w = .ok (.int .i64 kc) w := fun c k d w => by kernel_rfl
    go_wp2_with fail
    refine (CI.out _ (HR.out.kept B) (HK.out.kept B)).mono ?_
    rintro e w1 ⟨c1, d1, k1, rfl, hk1, O1, b1⟩
    have S1 := b1.size
    replace B := thenB B b1
    clear b1
    have Bo := B
    clear hk1 O1
    replace B := thenB B (belowA w1 (.cells #[.int .i64 kc, .slice c1 k1 d1] 29))
    have VR := V.new w1 [.int .i64 kc, .slice c1 k1 d1] 29
    obtain ⟨s_VR, f_VR, z_VR⟩ := VR.open
    have Bo2 := B
    go_upto_region 6 with fail
    clear s_VR f_VR z_VR
    have K : ∀ w' : World, Below (w1.alloc (.cells #[.int .i64 kc, .slice c1 k1 d1] 29)).heap.size (w1.alloc (.cells #[.int .i64 kc, .slice c1 k1 d1] 29)) w' → (w'.cell? ⟨w1.heap.size, 0, none⟩ = some (.int .i64 kc) ∧ w'.cell? ⟨w1.heap.size, 1, none⟩ = some (.slice c1 k1 d1)) := fun w' h => ⟨(VR.kept h).2.1 0 (by simp), (VR.kept h).2.1 1 (by simp)⟩
    have K := Hid.mk K
    refine wp_region_held_drew (S := (fun w' => w'.cell? ⟨w1.heap.size, 0, none⟩ = some (.int .i64 kc) ∧ w'.cell? ⟨w1.heap.size, 1, none⟩ = some (.slice c1 k1 d1))) (by kernel_rfl) (K.out _ (Below.refl _ _).drew) (fun hHeld => ?_)
    refine wpAnyH_take (i := 0) (oi := _) (v := ?vz1u1) rfl (by kernel_rfl) (by kernel_rfl) (by kernel_rfl) (fun _ _ _ h => h) (Or.inl ⟨by kernel_rfl, ?hyz1u1⟩) hHeld ?restz1u1
    case hyz1u1 => (intro w hSw; (try dsimp only at hSw); go_simp; first | done | with_reducible rfl)
    try simp only [Act.put, List.getElem_toArray, List.getElem_cons_zero, List.setIfInBounds_toArray, List.set_cons_zero, List.set_cons_succ]
    refine wpAnyH_take (i := 1) (oi := _) (v := ?vz1u2) rfl (by kernel_rfl) (by kernel_rfl) (by kernel_rfl) (fun _ _ _ h => h) (Or.inl ⟨by kernel_rfl, ?hyz1u2⟩) hHeld ?restz1u2
    case hyz1u2 => (intro w hSw; (try dsimp only at hSw); go_simp; first | done | with_reducible rfl)
    try simp only [Act.put, List.getElem_toArray, List.getElem_cons_zero, List.getElem_cons_succ, List.setIfInBounds_toArray, List.set_cons_zero, List.set_cons_succ]
    refine wpAnyH_take (i := 4) (oi := _) (v := ?vz1u3) rfl (by kernel_rfl) (by kernel_rfl) (by kernel_rfl) (fun _ _ _ h => h) (Or.inl ⟨by kernel_rfl, ?hyz1u3⟩) hHeld ?restz1u3
    case hyz1u3 => (intro w hSw; (try dsimp only at hSw); go_simp; first | done | with_reducible rfl)
    try simp only [Act.put, List.getElem_toArray, List.getElem_cons_zero, List.getElem_cons_succ, List.setIfInBounds_toArray, List.set_cons_zero, List.set_cons_succ]
    refine wpAnyH_take (i := 5) (oi := _) (v := ?vz1u4) rfl (by kernel_rfl) (by kernel_rfl) (by kernel_rfl) (fun _ _ _ h => h) (Or.inl ⟨by kernel_rfl, ?hyz1u4⟩) hHeld ?restz1u4
    case hyz1u4 => (intro w hSw; (try dsimp only at hSw); go_simp; first | done | with_reducible rfl)
    try simp only [Act.put, List.getElem_toArray, List.getElem_cons_zero, List.getElem_cons_succ, List.setIfInBounds_toArray, List.set_cons_zero, List.set_cons_succ]
    refine wpAnyH_ready (rs := [2]) (by kernel_rfl) (by simp) ?_
    refine AllReadyH.cons (o := _) rfl (fun K0 hK0 => ?_) AllReadyH.nil
    go_simp
    go_at_call 17
    refine (CS.out _ ((HR.out.kept B).kept (Below.refl _ _).drew) ((HK.out.kept B).kept (Below.refl _ _).drew)).mono ?_
    rintro e wz1v5 ⟨c2, d3, k5, rfl, _, _, bz1v5⟩
    refine hK0.out _ _ (K.out _ (thenB (Below.refl _ _).drew bz1v5)) (fun hHeld => ?_)
    clear hK0 K0
    try simp only [Act.put, List.getElem_toArray, List.getElem_cons_zero, List.getElem_cons_succ, List.setIfInBounds_toArray, List.set_cons_zero, List.set_cons_succ]
    refine wpAnyH_take (i := 3) (oi := _) (v := ?vz1u6) rfl (by kernel_rfl) (by kernel_rfl) (by kernel_rfl) (fun _ _ _ h => h) (Or.inl ⟨by kernel_rfl, ?hyz1u6⟩) hHeld ?restz1u6
    case hyz1u6 => (intro w hSw; (try dsimp only at hSw); go_simp; first | done | with_reducible rfl)
    try simp only [Act.put, List.getElem_toArray, List.getElem_cons_zero, List.getElem_cons_succ, List.setIfInBounds_toArray, List.set_cons_zero, List.set_cons_succ]
    refine wpAnyH_take (i := 6) (oi := _) (v := ?vz1u7) rfl (by kernel_rfl) (by kernel_rfl) (by kernel_rfl) (fun _ _ _ h => h) (Or.inl ⟨by kernel_rfl, ?hyz1u7⟩) hHeld ?restz1u7
    case hyz1u7 => (intro w hSw; (try dsimp only at hSw); go_simp; first | done | with_reducible rfl)
    try simp only [Act.put, List.getElem_toArray, List.getElem_cons_zero, List.getElem_cons_succ, List.setIfInBounds_toArray, List.set_cons_zero, List.set_cons_succ]
    refine wpAnyH_take (i := 7) (oi := _) (v := ?vz1u8) rfl (by kernel_rfl) (by kernel_rfl) (by kernel_rfl) (fun _ _ _ h => h) (Or.inl ⟨by kernel_rfl, ?hyz1u8⟩) hHeld ?restz1u8
    case hyz1u8 => (intro w hSw; (try dsimp only at hSw); go_simp; first | done | with_reducible rfl)
    try simp only [Act.put, List.getElem_toArray, List.getElem_cons_zero, List.getElem_cons_succ, List.setIfInBounds_toArray, List.set_cons_zero, List.set_cons_succ]
    refine wpAnyH_done (by kernel_rfl) ?_ _
    clear K hHeld
    have bacc : Below (w1.alloc (.cells #[.int .i64 kc, .slice c1 k1 d1] 29)).heap.size (w1.alloc (.cells #[.int .i64 kc, .slice c1 k1 d1] 29)) wz1v5 := (thenB (Below.refl _ _).drew bz1v5)
    replace VR := VR.kept bacc
    replace B := thenB B bacc
    have Sz1 := (bacc).size
    clear bacc
    simp only [World.size_alloc] at Sz1
    clear bz1v5
    obtain ⟨s_VR, f_VR, z_VR⟩ := VR.open
    have Bo := B
    go_wp2
    go_ret
    exact ⟨rfl, HB0.out.trans (B.mono HB0.out.size)⟩
  rw [hc] at CI CS
  by_cases hv0 : v < 0
  · clear hok hlen hkr hc
    have qf : ∀ (c : Option Addr) (k d : Nat) (w : World), (Instr.field 29 (.agg #[.int .i64 0, .slice c k d]) 0).run Try.prog w = .ok (.int .i64 0) w := fun c k d w => by kernel_rfl
    go_wp2_with fail
    refine (CI.out _ (HR.out.kept B) (HK.out.kept B)).mono ?_
    rintro e w101 ⟨c1, d1, k1, rfl, hk1, O1, b101⟩
    have S101 := b101.size
    replace B := thenB B b101
    clear b101
    have Bo := B
    clear hk1 O1
    replace B := thenB B (belowA w101 (.cells #[.int .i64 0, .slice c1 k1 d1] 29))
    have VR := V.new w101 [.int .i64 0, .slice c1 k1 d1] 29
    obtain ⟨s_VR, f_VR, z_VR⟩ := VR.open
    have Bo2 := B
    go_upto_region 6 with fail
    clear s_VR f_VR z_VR
    have K : ∀ w' : World, Below (w101.alloc (.cells #[.int .i64 0, .slice c1 k1 d1] 29)).heap.size (w101.alloc (.cells #[.int .i64 0, .slice c1 k1 d1] 29)) w' → (w'.cell? ⟨w101.heap.size, 0, none⟩ = some (.int .i64 0) ∧ w'.cell? ⟨w101.heap.size, 1, none⟩ = some (.slice c1 k1 d1)) := fun w' h => ⟨(VR.kept h).2.1 0 (by simp), (VR.kept h).2.1 1 (by simp)⟩
    have K := Hid.mk K
    refine wp_region_held_drew (S := (fun w' => w'.cell? ⟨w101.heap.size, 0, none⟩ = some (.int .i64 0) ∧ w'.cell? ⟨w101.heap.size, 1, none⟩ = some (.slice c1 k1 d1))) (by kernel_rfl) (K.out _ (Below.refl _ _).drew) (fun hHeld => ?_)
    refine wpAnyH_take (i := 0) (oi := _) (v := ?vz101u1) rfl (by kernel_rfl) (by kernel_rfl) (by kernel_rfl) (fun _ _ _ h => h) (Or.inl ⟨by kernel_rfl, ?hyz101u1⟩) hHeld ?restz101u1
    case hyz101u1 => (intro w hSw; (try dsimp only at hSw); go_simp; first | done | with_reducible rfl)
    try simp only [Act.put, List.getElem_toArray, List.getElem_cons_zero, List.setIfInBounds_toArray, List.set_cons_zero, List.set_cons_succ]
    refine wpAnyH_take (i := 1) (oi := _) (v := ?vz101u2) rfl (by kernel_rfl) (by kernel_rfl) (by kernel_rfl) (fun _ _ _ h => h) (Or.inl ⟨by kernel_rfl, ?hyz101u2⟩) hHeld ?restz101u2
    case hyz101u2 => (intro w hSw; (try dsimp only at hSw); go_simp; first | done | with_reducible rfl)
    try simp only [Act.put, List.getElem_toArray, List.getElem_cons_zero, List.getElem_cons_succ, List.setIfInBounds_toArray, List.set_cons_zero, List.set_cons_succ]
    refine wpAnyH_take (i := 4) (oi := _) (v := ?vz101u3) rfl (by kernel_rfl) (by kernel_rfl) (by kernel_rfl) (fun _ _ _ h => h) (Or.inl ⟨by kernel_rfl, ?hyz101u3⟩) hHeld ?restz101u3
    case hyz101u3 => (intro w hSw; (try dsimp only at hSw); go_simp; first | done | with_reducible rfl)
    try simp only [Act.put, List.getElem_toArray, List.getElem_cons_zero, List.getElem_cons_succ, List.setIfInBounds_toArray, List.set_cons_zero, List.set_cons_succ]
    refine wpAnyH_take (i := 5) (oi := _) (v := ?vz101u4) rfl (by kernel_rfl) (by kernel_rfl) (by kernel_rfl) (fun _ _ _ h => h) (Or.inl ⟨by kernel_rfl, ?hyz101u4⟩) hHeld ?restz101u4
    case hyz101u4 => (intro w hSw; (try dsimp only at hSw); go_simp; first | done | with_reducible rfl)
    try simp only [Act.put, List.getElem_toArray, List.getElem_cons_zero, List.getElem_cons_succ, List.setIfInBounds_toArray, List.set_cons_zero, List.set_cons_succ]
    refine wpAnyH_ready (rs := [2]) (by kernel_rfl) (by simp) ?_
    refine AllReadyH.cons (o := _) rfl (fun K0 hK0 => ?_) AllReadyH.nil
    go_simp
    go_at_call 17
    refine (CS.out _ ((HR.out.kept B).kept (Below.refl _ _).drew) ((HK.out.kept B).kept (Below.refl _ _).drew)).mono ?_
    rintro e wz101v5 ⟨c2, d3, k5, rfl, _, _, bz101v5⟩
    refine hK0.out _ _ (K.out _ (thenB (Below.refl _ _).drew bz101v5)) (fun hHeld => ?_)
    clear hK0 K0
    try simp only [Act.put, List.getElem_toArray, List.getElem_cons_zero, List.getElem_cons_succ, List.setIfInBounds_toArray, List.set_cons_zero, List.set_cons_succ]
    refine wpAnyH_take (i := 3) (oi := _) (v := ?vz101u6) rfl (by kernel_rfl) (by kernel_rfl) (by kernel_rfl) (fun _ _ _ h => h) (Or.inl ⟨by kernel_rfl, ?hyz101u6⟩) hHeld ?restz101u6
    case hyz101u6 => (intro w hSw; (try dsimp only at hSw); go_simp; first | done | with_reducible rfl)
    try simp only [Act.put, List.getElem_toArray, List.getElem_cons_zero, List.getElem_cons_succ, List.setIfInBounds_toArray, List.set_cons_zero, List.set_cons_succ]
    refine wpAnyH_take (i := 6) (oi := _) (v := ?vz101u7) rfl (by kernel_rfl) (by kernel_rfl) (by kernel_rfl) (fun _ _ _ h => h) (Or.inl ⟨by kernel_rfl, ?hyz101u7⟩) hHeld ?restz101u7
    case hyz101u7 => (intro w hSw; (try dsimp only at hSw); go_simp; first | done | with_reducible rfl)
    try simp only [Act.put, List.getElem_toArray, List.getElem_cons_zero, List.getElem_cons_succ, List.setIfInBounds_toArray, List.set_cons_zero, List.set_cons_succ]
    refine wpAnyH_take (i := 7) (oi := _) (v := ?vz101u8) rfl (by kernel_rfl) (by kernel_rfl) (by kernel_rfl) (fun _ _ _ h => h) (Or.inl ⟨by kernel_rfl, ?hyz101u8⟩) hHeld ?restz101u8
    case hyz101u8 => (intro w hSw; (try dsimp only at hSw); go_simp; first | done | with_reducible rfl)
    try simp only [Act.put, List.getElem_toArray, List.getElem_cons_zero, List.getElem_cons_succ, List.setIfInBounds_toArray, List.set_cons_zero, List.set_cons_succ]
    refine wpAnyH_done (by kernel_rfl) ?_ _
    clear K hHeld
    have bacc : Below (w101.alloc (.cells #[.int .i64 0, .slice c1 k1 d1] 29)).heap.size (w101.alloc (.cells #[.int .i64 0, .slice c1 k1 d1] 29)) wz101v5 := (thenB (Below.refl _ _).drew bz101v5)
    replace VR := VR.kept bacc
    replace B := thenB B bacc
    have Sz101 := (bacc).size
    clear bacc
    simp only [World.size_alloc] at Sz101
    clear bz101v5
    obtain ⟨s_VR, f_VR, z_VR⟩ := VR.open
    have Bo := B
    go_wp2
    go_ret
    exact ⟨rfl, HB0.out.trans (B.mono HB0.out.size)⟩
  by_cases hv1 : (m : Int) ≤ v
  · clear hok hlen hkr hc
    have qf : ∀ (c : Option Addr) (k d : Nat) (w : World), (Instr.field 29 (.agg #[.int .i64 0, .slice c k d]) 0).run Try.prog w = .ok (.int .i64 0) w := fun c k d w => by kernel_rfl
    go_wp2_with fail
    refine (CI.out _ (HR.out.kept B) (HK.out.kept B)).mono ?_
    rintro e w201 ⟨c1, d1, k1, rfl, hk1, O1, b201⟩
    have S201 := b201.size
    replace B := thenB B b201
    clear b201
    have Bo := B
    clear hk1 O1
    replace B := thenB B (belowA w201 (.cells #[.int .i64 0, .slice c1 k1 d1] 29))
    have VR := V.new w201 [.int .i64 0, .slice c1 k1 d1] 29
    obtain ⟨s_VR, f_VR, z_VR⟩ := VR.open
    have Bo2 := B
    go_upto_region 6 with fail
    clear s_VR f_VR z_VR
    have K : ∀ w' : World, Below (w201.alloc (.cells #[.int .i64 0, .slice c1 k1 d1] 29)).heap.size (w201.alloc (.cells #[.int .i64 0, .slice c1 k1 d1] 29)) w' → (w'.cell? ⟨w201.heap.size, 0, none⟩ = some (.int .i64 0) ∧ w'.cell? ⟨w201.heap.size, 1, none⟩ = some (.slice c1 k1 d1)) := fun w' h => ⟨(VR.kept h).2.1 0 (by simp), (VR.kept h).2.1 1 (by simp)⟩
    have K := Hid.mk K
    refine wp_region_held_drew (S := (fun w' => w'.cell? ⟨w201.heap.size, 0, none⟩ = some (.int .i64 0) ∧ w'.cell? ⟨w201.heap.size, 1, none⟩ = some (.slice c1 k1 d1))) (by kernel_rfl) (K.out _ (Below.refl _ _).drew) (fun hHeld => ?_)
    refine wpAnyH_take (i := 0) (oi := _) (v := ?vz201u1) rfl (by kernel_rfl) (by kernel_rfl) (by kernel_rfl) (fun _ _ _ h => h) (Or.inl ⟨by kernel_rfl, ?hyz201u1⟩) hHeld ?restz201u1
    case hyz201u1 => (intro w hSw; (try dsimp only at hSw); go_simp; first | done | with_reducible rfl)
    try simp only [Act.put, List.getElem_toArray, List.getElem_cons_zero, List.setIfInBounds_toArray, List.set_cons_zero, List.set_cons_succ]
    refine wpAnyH_take (i := 1) (oi := _) (v := ?vz201u2) rfl (by kernel_rfl) (by kernel_rfl) (by kernel_rfl) (fun _ _ _ h => h) (Or.inl ⟨by kernel_rfl, ?hyz201u2⟩) hHeld ?restz201u2
    case hyz201u2 => (intro w hSw; (try dsimp only at hSw); go_simp; first | done | with_reducible rfl)
    try simp only [Act.put, List.getElem_toArray, List.getElem_cons_zero, List.getElem_cons_succ, List.setIfInBounds_toArray, List.set_cons_zero, List.set_cons_succ]
    refine wpAnyH_take (i := 4) (oi := _) (v := ?vz201u3) rfl (by kernel_rfl) (by kernel_rfl) (by kernel_rfl) (fun _ _ _ h => h) (Or.inl ⟨by kernel_rfl, ?hyz201u3⟩) hHeld ?restz201u3
    case hyz201u3 => (intro w hSw; (try dsimp only at hSw); go_simp; first | done | with_reducible rfl)
    try simp only [Act.put, List.getElem_toArray, List.getElem_cons_zero, List.getElem_cons_succ, List.setIfInBounds_toArray, List.set_cons_zero, List.set_cons_succ]
    refine wpAnyH_take (i := 5) (oi := _) (v := ?vz201u4) rfl (by kernel_rfl) (by kernel_rfl) (by kernel_rfl) (fun _ _ _ h => h) (Or.inl ⟨by kernel_rfl, ?hyz201u4⟩) hHeld ?restz201u4
    case hyz201u4 => (intro w hSw; (try dsimp only at hSw); go_simp; first | done | with_reducible rfl)
    try simp only [Act.put, List.getElem_toArray, List.getElem_cons_zero, List.getElem_cons_succ, List.setIfInBounds_toArray, List.set_cons_zero, List.set_cons_succ]
    refine wpAnyH_ready (rs := [2]) (by kernel_rfl) (by simp) ?_
    refine AllReadyH.cons (o := _) rfl (fun K0 hK0 => ?_) AllReadyH.nil
    go_simp
    go_at_call 17
    refine (CS.out _ ((HR.out.kept B).kept (Below.refl _ _).drew) ((HK.out.kept B).kept (Below.refl _ _).drew)).mono ?_
    rintro e wz201v5 ⟨c2, d3, k5, rfl, _, _, bz201v5⟩
    refine hK0.out _ _ (K.out _ (thenB (Below.refl _ _).drew bz201v5)) (fun hHeld => ?_)
    clear hK0 K0
    try simp only [Act.put, List.getElem_toArray, List.getElem_cons_zero, List.getElem_cons_succ, List.setIfInBounds_toArray, List.set_cons_zero, List.set_cons_succ]
    refine wpAnyH_take (i := 3) (oi := _) (v := ?vz201u6) rfl (by kernel_rfl) (by kernel_rfl) (by kernel_rfl) (fun _ _ _ h => h) (Or.inl ⟨by kernel_rfl, ?hyz201u6⟩) hHeld ?restz201u6
    case hyz201u6 => (intro w hSw; (try dsimp only at hSw); go_simp; first | done | with_reducible rfl)
    try simp only [Act.put, List.getElem_toArray, List.getElem_cons_zero, List.getElem_cons_succ, List.setIfInBounds_toArray, List.set_cons_zero, List.set_cons_succ]
    refine wpAnyH_take (i := 6) (oi := _) (v := ?vz201u7) rfl (by kernel_rfl) (by kernel_rfl) (by kernel_rfl) (fun _ _ _ h => h) (Or.inl ⟨by kernel_rfl, ?hyz201u7⟩) hHeld ?restz201u7
    case hyz201u7 => (intro w hSw; (try dsimp only at hSw); go_simp; first | done | with_reducible rfl)
    try simp only [Act.put, List.getElem_toArray, List.getElem_cons_zero, List.getElem_cons_succ, List.setIfInBounds_toArray, List.set_cons_zero, List.set_cons_succ]
    refine wpAnyH_take (i := 7) (oi := _) (v := ?vz201u8) rfl (by kernel_rfl) (by kernel_rfl) (by kernel_rfl) (fun _ _ _ h => h) (Or.inl ⟨by kernel_rfl, ?hyz201u8⟩) hHeld ?restz201u8
    case hyz201u8 => (intro w hSw; (try dsimp only at hSw); go_simp; first | done | with_reducible rfl)
    try simp only [Act.put, List.getElem_toArray, List.getElem_cons_zero, List.getElem_cons_succ, List.setIfInBounds_toArray, List.set_cons_zero, List.set_cons_succ]
    refine wpAnyH_done (by kernel_rfl) ?_ _
    clear K hHeld
    have bacc : Below (w201.alloc (.cells #[.int .i64 0, .slice c1 k1 d1] 29)).heap.size (w201.alloc (.cells #[.int .i64 0, .slice c1 k1 d1] 29)) wz201v5 := (thenB (Below.refl _ _).drew bz201v5)
    replace VR := VR.kept bacc
    replace B := thenB B bacc
    have Sz201 := (bacc).size
    clear bacc
    simp only [World.size_alloc] at Sz201
    clear bz201v5
    obtain ⟨s_VR, f_VR, z_VR⟩ := VR.open
    have Bo := B
    go_wp2
    go_ret
    exact ⟨rfl, HB0.out.trans (B.mono HB0.out.size)⟩
  obtain ⟨q, rfl⟩ := Int.eq_ofNat_of_zero_le (show 0 ≤ v by omega)
  have hqm : q < m := by omega
  clear CS
  obtain ⟨hkF, hE1, hE2, hE3⟩ := more_ways hc (q := q) (by omega)
  have hri := (knC_zero hc).2.2.2
  obtain ⟨ML, hML⟩ : ∃ l, rise kn q = l := ⟨_, rfl⟩
  have hmoE := Hid.mk (fun l p (h : MoS kn q kn.length l p) => mo_end hri h)
  rw [hML] at hkF hE1 hE2 hE3 hmoE
  obtain ⟨mk, hmk⟩ : ∃ k, ML.length = k := ⟨_, rfl⟩
  have hmk4 : mk ≤ 403 := by have := rise_len kn q hri; rw [hML] at this; omega
  have CE := Hid.mk (fun g8 d8 w h h2 => implDerivesSome_ok c m d xs (some ⟨g8, 0, none⟩) mk d8 ML w h hlen (by unfold maxLen; omega) hok h2 hmk (by unfold maxLen; omega))
  rw [hkF] at CE
  have CV := Hid.mk (fun w h h2 => implDerives_ok c m d xs (some ⟨g, 0, none⟩) k2 d2 kn (q : Int) w h hlen (by unfold maxLen; omega) hok h2 hk2 (by unfold maxLen; omega))
  obtain ⟨D, hD⟩ : ∃ l, dsL xs kn = l := ⟨_, rfl⟩
  obtain ⟨F, hF⟩ : ∃ l, dsL xs ML = l := ⟨_, rfl⟩
  obtain ⟨bv, hbv⟩ : ∃ b, dvB xs kn q = b := ⟨_, rfl⟩
  have hD4 : D.length ≤ 400 := by rw [← hD]; have := plcs_len (dvF xs kn); have h5 := (tfC_zero (knC_zero hc).1).1; unfold dsL; rw [if_pos hc]; rw [dvF_len] at this; omega
  have hF4 : F.length ≤ 400 := by rw [← hF]; have := plcs_len (dvF xs ML); have h5 := (tfC_zero (knC_zero hc).1).1; unfold dsL; rw [if_pos hkF]; rw [dvF_len] at this; omega
  rw [hD] at CI hE2 hE3
  rw [hF] at CE hE1 hE2 hE3
  rw [hbv] at CV hE3
  have HE1 := Hid.mk hE1
  have HE2 := Hid.mk hE2
  have HE3 := Hid.mk hE3
  have hri2 := Hid.mk hri
  have hmk2 := Hid.mk hmk
  clear hc hkF hE1 hE2 hE3 hD hF hbv hok hlen hML hri hmk hkr
  have hqv : ¬ ((q : Int) < 0) := by omega
  have hkq : ¬ ((m : Int) ≤ (q : Int)) := by omega
  have hkq2 : ¬ (m ≤ q) := by omega
  have dkq : decide (m ≤ q) = false := by simp; omega
  go_wp2_with fail
  refine (CI.out _ (HR.out.kept B) (HK.out.kept B)).mono ?_
  rintro e w301 ⟨c1, d1, k1, rfl, hk1, O1, b301⟩
  have S301 := b301.size
  replace B := thenB B b301
  clear b301
  have Bo := B
  replace O1 := O1.kept (belowA w301 (.cells #[.int .i64 0, .slice c1 k1 d1] 29))
  replace B := thenB B (belowA w301 (.cells #[.int .i64 0, .slice c1 k1 d1] 29))
  have VD := V.new w301 [.int .i64 0, .slice c1 k1 d1] 29
  obtain ⟨s_VD, f_VD, z_VD⟩ := VD.open
  have Bo2 := B
  clear s_VD f_VD z_VD
  have RD := O1.rd
  have O7 := OwnI.lit (w301.alloc (.cells #[.int .i64 0, .slice c1 k1 d1] 29)) [] [] rfl (Nat.zero_le _)
  have b7 := belowA (w301.alloc (.cells #[.int .i64 0, .slice c1 k1 d1] 29)) (.cells #[] 2)
  have hz7 : ((w301.alloc (.cells #[.int .i64 0, .slice c1 k1 d1] 29))).heap.size = w301.heap.size + 1 := by simp
  simp only [World.size_alloc] at O7
  have RD2 := Hid.mk RD
  have B2 := Hid.mk B
  have VD2 := Hid.mk VD
  have b72 := Hid.mk b7
  have O72 := Hid.mk O7
  clear O1 RD B b7 O7 CI
  obtain ⟨s_VD, f_VD, z_VD⟩ := VD.open
  clear VD
  go_wp2
  clear s_VD f_VD z_VD
  generalize hW7 : (w301.alloc (.cells #[.int .i64 0, .slice c1 k1 d1] 29)) = W7 at *
  clear hW7 Bo Bo2
  go_loopw [7, 8, 9] (fun s pv i wr => ∃ (j g7 d7 m7 : Nat) (l : List Int) (p : Bool), j ≤ k2 ∧ s = .slice (some ⟨g7, 0, none⟩) m7 d7 ∧ pv = .bool p ∧ i = .int .i64 j ∧ Hid (l.length = m7) ∧ Hid (MoS kn q j l p) ∧ Own .i64 2 wr (w301.heap.size + 1) (some ⟨g7, 0, none⟩) d7 l ∧ Below W7.heap.size W7 wr) (fun _ _ i _ => k2 - (intOf i).toNat)
  case atStart => exact ⟨0, _, 0, 0, [], false, Nat.zero_le _, rfl, rfl, rfl, Hid.mk rfl, Hid.mk (mo_start kn q), O72.out, b72.out⟩
  case round =>
    obtain ⟨j, g7, d7, m7, l, p, hj, rfl, rfl, rfl, hl7, hmo, O, b7⟩ := hrel
    have hl4 : m7 ≤ 1000 := by have := mo_len hri2.out hmo.out; have := hl7.out; omega
    by_cases hlt : j < k2
    · have hj1 : (j : Int) < (k2 : Int) := by omega
      obtain ⟨z, hz⟩ : ∃ z, kn.getD j 0 = z := ⟨_, rfl⟩
      have hjk : j < kn.length := by omega
      rcases (HK.out.kept B2.out).kept b7 with h0 | ⟨bb, oo, h0, hc⟩
      · rw [h0] at hk2; simp at hk2; omega
      simp only [Option.some.injEq, Addr.mk.injEq, and_true] at h0
      obtain ⟨rfl, rfl⟩ := h0
      have p0 := hc j hjk
      rw [Nat.zero_add, hz] at p0
      have sg := World.block_lt_of_cell? _ _ p0
      simp only at sg
      have hz2 := Hid.mk hz
      clear hc
      cases p
      rotate_left
      · obtain ⟨hqz, hmo2⟩ := mo_put hri2.out hmo.out hjk hz
        have hmo3 := Hid.mk hmo2
        have dz : (z != (q : Int)) = true := by simp; omega
        have bL1 := belowA wr (.cells #[.int .i64 z] 2)
        have OP1 := Hid.mk ((O).kept bL1)
        have bP1 := Hid.mk (thenB b7 bL1)
        have TL1 : w301.heap.size + 1 ≤ (wr.alloc (.cells #[.int .i64 z] 2)).heap.size := by have h1 := (thenB b7 bL1).size; omega
        clear bL1
        clear O b7 hmo hmo2 hz hqz
        go_wp2_with (at_builtin; go_loud (refine wpList_putI _ rfl _ _ rfl (w301.heap.size + 1) _ d7 (l) (m7) hl7.out rfl OP1.out _ 1 z rfl (cell_one' _ _ _ 0 _ rfl) (by omega) TL1 ?_))
        intro c501 d501 w501 O501 hg501 hx501
        obtain ⟨g501, rfl, _⟩ := hx501.out
        have B501 := belowG bP1.out hg501 (by have := bP1.out.size; omega) (fun bb hb => by have := OP1.out.lt bb hb; omega)
        clear OP1 bP1 TL1 hg501 hx501
        replace O501 := Hid.mk O501
        replace B501 := Hid.mk B501
        go_wp2
        go_roundw
        case rel => exact ⟨j + 1, g501, d501, m7 + 1, _, true, by omega, rfl, rfl, by go_num, Hid.mk (by rw [List.length_append, hl7.out]; rfl), hmo3, O501.out, B501.out⟩
        case measure => first | (simp [intOf]; done) | (simp [intOf]; omega)
      · rcases Int.lt_trichotomy z q with hzq | hzq | hzq
        · have hmo3 := Hid.mk (mo_lt hmo.out hjk hz hzq)
          have dz : (z != (q : Int)) = true := by simp; omega
          have dq : ¬ ((q : Int) ≤ z) := by omega
          have dq2 : decide ((q : Int) ≤ z) = false := by simp; omega
          have bL2 := belowA wr (.cells #[.int .i64 z] 2)
          have OP2 := Hid.mk ((O).kept bL2)
          have bP2 := Hid.mk (thenB b7 bL2)
          have TL2 : w301.heap.size + 1 ≤ (wr.alloc (.cells #[.int .i64 z] 2)).heap.size := by have h1 := (thenB b7 bL2).size; omega
          clear bL2
          clear O b7 hmo hz hzq
          go_wp2_with (at_builtin; go_loud (refine wpList_putI _ rfl _ _ rfl (w301.heap.size + 1) _ d7 (l) (m7) hl7.out rfl OP2.out _ 1 z rfl (cell_one' _ _ _ 0 _ rfl) (by omega) TL2 ?_))
          intro c502 d502 w502 O502 hg502 hx502
          obtain ⟨g502, rfl, _⟩ := hx502.out
          have B502 := belowG bP2.out hg502 (by have := bP2.out.size; omega) (fun bb hb => by have := OP2.out.lt bb hb; omega)
          clear OP2 bP2 TL2 hg502 hx502
          replace O502 := Hid.mk O502
          replace B502 := Hid.mk B502
          go_wp2
          go_roundw
          case rel => exact ⟨j + 1, g502, d502, m7 + 1, _, false, by omega, rfl, rfl, by go_num, Hid.mk (by rw [List.length_append, hl7.out]; rfl), hmo3, O502.out, B502.out⟩
          case measure => first | (simp [intOf]; done) | (simp [intOf]; omega)
        · subst hzq
          have hmo3 := Hid.mk (mo_eq hri2.out hmo.out hjk hz)
          have dz : ((q : Int) != (q : Int)) = false := by simp
          have dq : (q : Int) ≤ (q : Int) := by omega
          have bL3 := belowA wr (.cells #[.int .i64 (q : Int)] 2)
          have OP3 := Hid.mk ((O).kept bL3)
          have bP3 := Hid.mk (thenB b7 bL3)
          have TL3 : w301.heap.size + 1 ≤ (wr.alloc (.cells #[.int .i64 (q : Int)] 2)).heap.size := by have h1 := (thenB b7 bL3).size; omega
          clear bL3
          clear O b7 hmo hz
          go_wp2_with (at_builtin; go_loud (refine wpList_putI _ rfl _ _ rfl (w301.heap.size + 1) _ d7 (l) (m7) hl7.out rfl OP3.out _ 1 (q : Int) rfl (cell_one' _ _ _ 0 _ rfl) (by omega) TL3 ?_))
          intro c503 d503 w503 O503 hg503 hx503
          obtain ⟨g503, rfl, _⟩ := hx503.out
          have B503 := belowG bP3.out hg503 (by have := bP3.out.size; omega) (fun bb hb => by have := OP3.out.lt bb hb; omega)
          clear OP3 bP3 TL3 hg503 hx503
          have p1 : w503.cell? ⟨g, j, none⟩ = some (.int .i64 (q : Int)) := by
            rcases (HK.out.kept B2.out).kept B503 with h0 | ⟨bb, oo, h0, hc⟩
            · rw [h0] at hjk; simp at hjk
            simp only [Option.some.injEq, Addr.mk.injEq, and_true] at h0
            obtain ⟨rfl, rfl⟩ := h0
            have := hc j hjk
            rwa [Nat.zero_add, hz2.out] at this
          replace O503 := Hid.mk O503
          replace B503 := Hid.mk B503
          go_wp2
          go_roundw
          case rel => exact ⟨j + 1, g503, d503, m7 + 1, _, true, by omega, rfl, rfl, by go_num, Hid.mk (by rw [List.length_append, hl7.out]; rfl), hmo3, O503.out, B503.out⟩
          case measure => first | (simp [intOf]; done) | (simp [intOf]; omega)
        · have hmo3 : Hid (MoS kn q (j + 1) (l ++ [(q : Int), z]) true) := Hid.mk (by have h := mo_gt hri2.out hmo.out hjk hz hzq; rwa [List.append_assoc, List.singleton_append] at h)
          have dz : (z != (q : Int)) = true := by simp; omega
          have dq : (q : Int) ≤ z := by omega
          have bL4 := belowA wr (.cells #[.int .i64 (q : Int)] 2)
          have OP4 := Hid.mk ((O).kept bL4)
          have bP4 := Hid.mk (thenB b7 bL4)
          have TL4 : w301.heap.size + 1 ≤ (wr.alloc (.cells #[.int .i64 (q : Int)] 2)).heap.size := by have h1 := (thenB b7 bL4).size; omega
          clear bL4
          clear O b7 hmo hz hzq
          go_wp2_with (at_builtin; go_loud (refine wpList_putI _ rfl _ _ rfl (w301.heap.size + 1) _ d7 (l) (m7) hl7.out rfl OP4.out _ 1 (q : Int) rfl (cell_one' _ _ _ 0 _ rfl) (by omega) TL4 ?_))
          intro c504 d504 w504 O504 hg504 hx504
          obtain ⟨g504, rfl, _⟩ := hx504.out
          have B504 := belowG bP4.out hg504 (by have := bP4.out.size; omega) (fun bb hb => by have := OP4.out.lt bb hb; omega)
          clear OP4 bP4 TL4 hg504 hx504
          have p1 : w504.cell? ⟨g, j, none⟩ = some (.int .i64 z) := by
            rcases (HK.out.kept B2.out).kept B504 with h0 | ⟨bb, oo, h0, hc⟩
            · rw [h0] at hjk; simp at hjk
            simp only [Option.some.injEq, Addr.mk.injEq, and_true] at h0
            obtain ⟨rfl, rfl⟩ := h0
            have := hc j hjk
            rwa [Nat.zero_add, hz2.out] at this
          have bL5 := belowA w504 (.cells #[.int .i64 z] 2)
          have OP5 := Hid.mk ((O504).kept bL5)
          have bP5 := Hid.mk (thenB B504 bL5)
          have TL5 : w301.heap.size + 1 ≤ (w504.alloc (.cells #[.int .i64 z] 2)).heap.size := by have h1 := (thenB B504 bL5).size; omega
          clear bL5
          clear O504 B504
          go_wp2_with (at_builtin; go_loud (refine wpList_putI _ rfl _ _ rfl (w301.heap.size + 1) _ d504 (l ++ [(q : Int)]) (m7 + 1) (by rw [List.length_append, hl7.out]; rfl) rfl OP5.out _ 1 z rfl (cell_one' _ _ _ 0 _ rfl) (by omega) TL5 ?_))
          intro c505 d505 w505 O505 hg505 hx505
          obtain ⟨g505, rfl, _⟩ := hx505.out
          have B505 := belowG bP5.out hg505 (by have := bP5.out.size; omega) (fun bb hb => by have := OP5.out.lt bb hb; omega)
          clear OP5 bP5 TL5 hg505 hx505
          replace O505 := Hid.mk O505
          replace B505 := Hid.mk B505
          go_wp2
          go_roundw
          case rel => exact ⟨j + 1, g505, d505, m7 + 1 + 1, _, true, by omega, rfl, rfl, by go_num, Hid.mk (by rw [List.length_append, hl7.out]; rfl), hmo3, O505.out, B505.out⟩
          case measure => first | (simp [intOf]; done) | (simp [intOf]; omega)
    · obtain rfl : j = k2 := by omega
      have hfin := Hid.mk (hmoE.out l p (hk2.symm ▸ hmo.out))
      cases p
      · have hmq := hfin.out.1 rfl
        have bL6 := belowA wr (.cells #[.int .i64 (q : Int)] 2)
        have OP6 := Hid.mk ((O).kept bL6)
        have bP6 := Hid.mk (thenB b7 bL6)
        have TL6 : w301.heap.size + 1 ≤ (wr.alloc (.cells #[.int .i64 (q : Int)] 2)).heap.size := by have h1 := (thenB b7 bL6).size; omega
        clear bL6
        clear O b7 hmo hfin
        go_wp2_with (at_builtin; go_loud (refine wpList_putI _ rfl _ _ rfl (w301.heap.size + 1) _ d7 (l) (m7) hl7.out rfl OP6.out _ 1 (q : Int) rfl (cell_one' _ _ _ 0 _ rfl) (by omega) TL6 ?_))
        intro c506 d506 w506 O506 hg506 hx506
        obtain ⟨g506, rfl, _⟩ := hx506.out
        have B506 := belowG bP6.out hg506 (by have := bP6.out.size; omega) (fun bb hb => by have := OP6.out.lt bb hb; omega)
        clear OP6 bP6 TL6 hg506 hx506
        try rw [hmq] at O506
        have hm8 : m7 + 1 = mk := by have h1 := congrArg List.length hmq; rw [List.length_append, hl7.out, hmk2.out] at h1; exact h1
        rw [hm8]
        have B := thenB B2.out B506
        have VD := VD2.out.kept B506
        have RD := RD2.out.kept B506
        have R8 := (O506).rd
        have hBs := B.size
        have bs8 := (B506).size
        obtain ⟨s_VD, f_VD, z_VD⟩ := VD.open
        have Bo := B
        go_wp2_with fail
        refine (CE.out _ _ _ (HR.out.kept B) R8).mono ?_
        rintro e w709 ⟨c9, d9, k9, rfl, hk9, O9, b709⟩
        clear s_VD f_VD z_VD
        have S709 := b709.size
        replace VD := VD.kept b709
        replace RD := RD.kept b709
        replace R8 := R8.kept b709
        replace B := thenB B b709
        clear b709
        obtain ⟨s_VD, f_VD, z_VD⟩ := VD.open
        have Bo := B
        replace VD := VD.kept (belowA w709 (.cells #[.int .i64 0, .slice c9 k9 d9] 29))
        replace RD := RD.kept (belowA w709 (.cells #[.int .i64 0, .slice c9 k9 d9] 29))
        replace R8 := R8.kept (belowA w709 (.cells #[.int .i64 0, .slice c9 k9 d9] 29))
        replace O9 := O9.kept (belowA w709 (.cells #[.int .i64 0, .slice c9 k9 d9] 29))
        replace B := thenB B (belowA w709 (.cells #[.int .i64 0, .slice c9 k9 d9] 29))
        have VE := V.new w709 [.int .i64 0, .slice c9 k9 d9] 29
        clear s_VD f_VD z_VD
        obtain ⟨s_VD, f_VD, z_VD⟩ := VD.open
        obtain ⟨s_VE, f_VE, z_VE⟩ := VE.open
        have Bo2 := B
        have RE := O9.rd
        clear O9
        have CH1 := Hid.mk (fun w h => lwHas_ok c9 k9 d9 F (q : Int) w h hk9 (by unfold maxLen; omega))
        rw [HE1.out] at CH1
        go_wp2_with fail
        refine (CH1.out _ RE).mono ?_
        rintro e w710 ⟨rfl, b710⟩
        clear s_VD f_VD z_VD s_VE f_VE z_VE
        have S710 := b710.size
        simp only [World.size_alloc] at S710
        replace VD := VD.kept b710
        replace VE := VE.kept b710
        replace RD := RD.kept b710
        replace R8 := R8.kept b710
        replace RE := RE.kept b710
        replace B := thenB B b710
        clear b710
        obtain ⟨s_VD, f_VD, z_VD⟩ := VD.open
        obtain ⟨s_VE, f_VE, z_VE⟩ := VE.open
        have Bo := B
        clear s_VD f_VD z_VD s_VE f_VE z_VE
        have hVE := VE.1
        have sz := B.size
        have VD9 := Hid.mk VD
        have VE9 := Hid.mk VE
        have RD9 := Hid.mk RD
        have RE9 := Hid.mk RE
        have B9 := Hid.mk B
        obtain ⟨s_VD, f_VD, z_VD⟩ := VD.open
        obtain ⟨s_VE, f_VE, z_VE⟩ := VE.open
        clear VD VE RD RE B Bo
        go_wp2
        clear s_VD f_VD z_VD s_VE f_VE z_VE
        go_loopw [11] (fun i wr => ∃ j : Nat, j ≤ k1 ∧ i = .int .i64 j ∧ Below w710.heap.size w710 wr) (fun i _ => k1 - (intOf i).toNat)
        case atStart => exact ⟨0, Nat.zero_le _, rfl, Below.refl _ _⟩
        case round =>
          obtain ⟨j, hj, rfl, bj⟩ := hrel
          have VD := VD9.out.kept bj
          have VE := VE9.out.kept bj
          have RD := RD9.out.kept bj
          have RE := RE9.out.kept bj
          have B := thenB B9.out bj
          by_cases hlt : j < k1
          · have hj1 : (j : Int) < (k1 : Int) := by omega
            obtain ⟨z, hz⟩ : ∃ z, D.getD j 0 = z := ⟨_, rfl⟩
            have hzD : z ∈ D := by rw [← hz]; exact igetD_mem (by omega)
            have CH2 := Hid.mk (fun w h => lwHas_ok c9 k9 d9 F z w h hk9 (by unfold maxLen; omega))
            rw [HE2.out z hzD] at CH2
            rcases RD with h0 | ⟨b3, o3, rfl, hc⟩
            · rw [h0] at hk1; simp at hk1; omega
            have p0 := hc j (by omega)
            rw [hz] at p0
            have hb3 := World.block_lt_of_cell? _ _ p0
            simp only at hb3
            clear hc hz hzD
            replace B := bj
            obtain ⟨s_VD, f_VD, z_VD⟩ := VD.open
            obtain ⟨s_VE, f_VE, z_VE⟩ := VE.open
            have Bo := B
            go_upto_region 25 with fail
            clear s_VD f_VD z_VD s_VE f_VE z_VE
            have K : ∀ w' : World, Below wr.heap.size wr w' → (w'.cell? ⟨w301.heap.size, 0, none⟩ = some (.int .i64 0) ∧ w'.cell? ⟨w301.heap.size, 1, none⟩ = some (.slice (some ⟨b3, o3, none⟩) k1 d1) ∧ w'.cell? ⟨w709.heap.size, 0, none⟩ = some (.int .i64 0) ∧ w'.cell? ⟨w709.heap.size, 1, none⟩ = some (.slice c9 k9 d9) ∧ w'.cell? ⟨b3, o3 + j, none⟩ = some (.int .i64 z)) := fun w' h => ⟨(VD.kept h).2.1 0 (by simp), (VD.kept h).2.1 1 (by simp), (VE.kept h).2.1 0 (by simp), (VE.kept h).2.1 1 (by simp), ((bcell h).1 _ _ hb3).trans p0⟩
            have K := Hid.mk K
            clear p0
            refine wp_region_held_drew (S := (fun w' => w'.cell? ⟨w301.heap.size, 0, none⟩ = some (.int .i64 0) ∧ w'.cell? ⟨w301.heap.size, 1, none⟩ = some (.slice (some ⟨b3, o3, none⟩) k1 d1) ∧ w'.cell? ⟨w709.heap.size, 0, none⟩ = some (.int .i64 0) ∧ w'.cell? ⟨w709.heap.size, 1, none⟩ = some (.slice c9 k9 d9) ∧ w'.cell? ⟨b3, o3 + j, none⟩ = some (.int .i64 z))) (by kernel_rfl) (K.out _ (Below.refl _ _).drew) (fun hHeld => ?_)
            refine wpAnyH_take (i := 0) (oi := _) (v := ?vz981u1) rfl (by kernel_rfl) (by kernel_rfl) (by kernel_rfl) (fun _ _ _ h => h) (Or.inl ⟨by kernel_rfl, ?hyz981u1⟩) hHeld ?restz981u1
            case hyz981u1 => (intro w hSw; (try dsimp only at hSw); go_simp; first | done | with_reducible rfl)
            try simp only [Act.put, List.getElem_toArray, List.getElem_cons_zero, List.setIfInBounds_toArray, List.set_cons_zero, List.set_cons_succ]
            refine wpAnyH_take (i := 1) (oi := _) (v := ?vz981u2) rfl (by kernel_rfl) (by kernel_rfl) (by kernel_rfl) (fun _ _ _ h => h) (Or.inl ⟨by kernel_rfl, ?hyz981u2⟩) hHeld ?restz981u2
            case hyz981u2 => (intro w hSw; (try dsimp only at hSw); go_simp; first | done | with_reducible rfl)
            try simp only [Act.put, List.getElem_toArray, List.getElem_cons_zero, List.getElem_cons_succ, List.setIfInBounds_toArray, List.set_cons_zero, List.set_cons_succ]
            refine wpAnyH_take (i := 2) (oi := _) (v := ?vz981u3) rfl (by kernel_rfl) (by kernel_rfl) (by kernel_rfl) (fun _ _ _ h => h) (Or.inl ⟨by kernel_rfl, ?hyz981u3⟩) hHeld ?restz981u3
            case hyz981u3 => (intro w hSw; (try dsimp only at hSw); go_simp; first | done | with_reducible rfl)
            try simp only [Act.put, List.getElem_toArray, List.getElem_cons_zero, List.getElem_cons_succ, List.setIfInBounds_toArray, List.set_cons_zero, List.set_cons_succ]
            refine wpAnyH_take (i := 3) (oi := _) (v := ?vz981u4) rfl (by kernel_rfl) (by kernel_rfl) (by kernel_rfl) (fun _ _ _ h => h) (Or.inl ⟨by kernel_rfl, ?hyz981u4⟩) hHeld ?restz981u4
            case hyz981u4 => (intro w hSw; (try dsimp only at hSw); go_simp; first | done | with_reducible rfl)
            try simp only [Act.put, List.getElem_toArray, List.getElem_cons_zero, List.getElem_cons_succ, List.setIfInBounds_toArray, List.set_cons_zero, List.set_cons_succ]
            refine wpAnyH_take (i := 4) (oi := _) (v := ?vz981u5) rfl (by kernel_rfl) (by kernel_rfl) (by kernel_rfl) (fun _ _ _ h => h) (Or.inl ⟨by kernel_rfl, ?hyz981u5⟩) hHeld ?restz981u5
            case hyz981u5 => (intro w hSw; (try dsimp only at hSw); go_simp; first | done | with_reducible rfl)
            try simp only [Act.put, List.getElem_toArray, List.getElem_cons_zero, List.getElem_cons_succ, List.setIfInBounds_toArray, List.set_cons_zero, List.set_cons_succ]
            refine wpAnyH_take (i := 5) (oi := _) (v := ?vz981u6) rfl (by kernel_rfl) (by kernel_rfl) (by kernel_rfl) (fun _ _ _ h => h) (Or.inl ⟨by kernel_rfl, ?hyz981u6⟩) hHeld ?restz981u6
            case hyz981u6 => (intro w hSw; (try dsimp only at hSw); go_simp; first | done | with_reducible rfl)
            try simp only [Act.put, List.getElem_toArray, List.getElem_cons_zero, List.getElem_cons_succ, List.setIfInBounds_toArray, List.set_cons_zero, List.set_cons_succ]
            refine wpAnyH_take (i := 6) (oi := _) (v := ?vz981u7) rfl (by kernel_rfl) (by kernel_rfl) (by kernel_rfl) (fun _ _ _ h => h) (Or.inl ⟨by kernel_rfl, ?hyz981u7⟩) hHeld ?restz981u7
            case hyz981u7 => (intro w hSw; (try dsimp only at hSw); go_simp; first | done | with_reducible rfl)
            try simp only [Act.put, List.getElem_toArray, List.getElem_cons_zero, List.getElem_cons_succ, List.setIfInBounds_toArray, List.set_cons_zero, List.set_cons_succ]
            refine wpAnyH_ready (rs := [7]) (by kernel_rfl) (by simp) ?_
            refine AllReadyH.cons (o := _) rfl (fun K0 hK0 => ?_) AllReadyH.nil
            go_simp
            go_at_call 18
            refine (CH2.out _ (RE.kept (Below.refl _ _).drew)).mono ?_
            rintro e wz981v8 ⟨rfl, bz981v8⟩
            refine hK0.out _ _ (K.out _ (thenB (Below.refl _ _).drew bz981v8)) (fun hHeld => ?_)
            clear hK0 K0
            try simp only [Act.put, List.getElem_toArray, List.getElem_cons_zero, List.getElem_cons_succ, List.setIfInBounds_toArray, List.set_cons_zero, List.set_cons_succ]
            refine wpAnyH_take (i := 8) (oi := _) (v := ?vz981u9) rfl (by kernel_rfl) (by kernel_rfl) (by kernel_rfl) (fun _ _ _ h => h) (Or.inl ⟨by kernel_rfl, ?hyz981u9⟩) hHeld ?restz981u9
            case hyz981u9 => (intro w hSw; (try dsimp only at hSw); go_simp; first | done | with_reducible rfl)
            try simp only [Act.put, List.getElem_toArray, List.getElem_cons_zero, List.getElem_cons_succ, List.setIfInBounds_toArray, List.set_cons_zero, List.set_cons_succ]
            refine wpAnyH_done (by kernel_rfl) ?_ _
            clear K hHeld
            replace VD := VD.kept (thenB (Below.refl _ _).drew bz981v8)
            replace VE := VE.kept (thenB (Below.refl _ _).drew bz981v8)
            replace RE := RE.kept (thenB (Below.refl _ _).drew bz981v8)
            replace B := thenB B (thenB (Below.refl _ _).drew bz981v8)
            have Sz981 := ((thenB (Below.refl _ _).drew bz981v8)).size
            clear bz981v8
            obtain ⟨s_VD, f_VD, z_VD⟩ := VD.open
            obtain ⟨s_VE, f_VE, z_VE⟩ := VE.open
            have Bo := B
            clear s_VD f_VD z_VD s_VE f_VE z_VE
            go_wp2
            go_roundw
            case rel => exact ⟨j + 1, by omega, by go_num, B⟩
            case measure => first | (simp [intOf]; done) | (simp [intOf]; omega)
          · obtain rfl : j = k1 := by omega
            obtain ⟨s_VD, f_VD, z_VD⟩ := VD.open
            obtain ⟨s_VE, f_VE, z_VE⟩ := VE.open
            have Bo := B
            go_wp2_with fail
            refine (CV.out _ (HR.out.kept B) (HK.out.kept B)).mono ?_
            rintro e w1601 ⟨rfl, b1601⟩
            clear s_VD f_VD z_VD s_VE f_VE z_VE
            have S1601 := b1601.size
            replace VD := VD.kept b1601
            replace VE := VE.kept b1601
            replace RD := RD.kept b1601
            replace RE := RE.kept b1601
            replace B := thenB B b1601
            clear b1601
            obtain ⟨s_VD, f_VD, z_VD⟩ := VD.open
            obtain ⟨s_VE, f_VE, z_VE⟩ := VE.open
            have Bo := B
            cases bv
            · go_wp2
              go_ret
              exact ⟨rfl, HB0.out.trans (B.mono HB0.out.size)⟩
            · have hFD := HE3.out rfl
              subst hFD
              obtain rfl : k9 = j := by omega
              have CL := Hid.mk (fun w h h2 => lwNums_ok c1 c9 k9 d1 d9 F w h h2 hk9 (by unfold maxLen; omega))
              go_wp2_with fail
              refine (CL.out _ RD RE).mono ?_
              rintro e w1751 ⟨rfl, b1751⟩
              have S1751 := b1751.size
              replace VD := VD.kept b1751
              replace VE := VE.kept b1751
              replace RD := RD.kept b1751
              replace RE := RE.kept b1751
              replace B := thenB B b1751
              clear b1751
              obtain ⟨s_VD, f_VD, z_VD⟩ := VD.open
              obtain ⟨s_VE, f_VE, z_VE⟩ := VE.open
              have Bo := B
              go_wp2
              go_ret
              exact ⟨rfl, HB0.out.trans (B.mono HB0.out.size)⟩
      · have hmq := hfin.out.2 rfl
        subst hmq
        obtain rfl : m7 = mk := by have := hl7.out; have := hmk2.out; omega
        clear hmo hfin
        have B := thenB B2.out b7
        have VD := VD2.out.kept b7
        have RD := RD2.out.kept b7
        have R8 := (O).rd
        have hBs := B.size
        have bs8 := (b7).size
        obtain ⟨s_VD, f_VD, z_VD⟩ := VD.open
        have Bo := B
        go_wp2_with fail
        refine (CE.out _ _ _ (HR.out.kept B) R8).mono ?_
        rintro e w709 ⟨c9, d9, k9, rfl, hk9, O9, b709⟩
        clear s_VD f_VD z_VD
        have S709 := b709.size
        replace VD := VD.kept b709
        replace RD := RD.kept b709
        replace R8 := R8.kept b709
        replace B := thenB B b709
        clear b709
        obtain ⟨s_VD, f_VD, z_VD⟩ := VD.open
        have Bo := B
        replace VD := VD.kept (belowA w709 (.cells #[.int .i64 0, .slice c9 k9 d9] 29))
        replace RD := RD.kept (belowA w709 (.cells #[.int .i64 0, .slice c9 k9 d9] 29))
        replace R8 := R8.kept (belowA w709 (.cells #[.int .i64 0, .slice c9 k9 d9] 29))
        replace O9 := O9.kept (belowA w709 (.cells #[.int .i64 0, .slice c9 k9 d9] 29))
        replace B := thenB B (belowA w709 (.cells #[.int .i64 0, .slice c9 k9 d9] 29))
        have VE := V.new w709 [.int .i64 0, .slice c9 k9 d9] 29
        clear s_VD f_VD z_VD
        obtain ⟨s_VD, f_VD, z_VD⟩ := VD.open
        obtain ⟨s_VE, f_VE, z_VE⟩ := VE.open
        have Bo2 := B
        have RE := O9.rd
        clear O9
        have CH1 := Hid.mk (fun w h => lwHas_ok c9 k9 d9 F (q : Int) w h hk9 (by unfold maxLen; omega))
        rw [HE1.out] at CH1
        go_wp2_with fail
        refine (CH1.out _ RE).mono ?_
        rintro e w710 ⟨rfl, b710⟩
        clear s_VD f_VD z_VD s_VE f_VE z_VE
        have S710 := b710.size
        simp only [World.size_alloc] at S710
        replace VD := VD.kept b710
        replace VE := VE.kept b710
        replace RD := RD.kept b710
        replace R8 := R8.kept b710
        replace RE := RE.kept b710
        replace B := thenB B b710
        clear b710
        obtain ⟨s_VD, f_VD, z_VD⟩ := VD.open
        obtain ⟨s_VE, f_VE, z_VE⟩ := VE.open
        have Bo := B
        clear s_VD f_VD z_VD s_VE f_VE z_VE
        have hVE := VE.1
        have sz := B.size
        have VD9 := Hid.mk VD
        have VE9 := Hid.mk VE
        have RD9 := Hid.mk RD
        have RE9 := Hid.mk RE
        have B9 := Hid.mk B
        obtain ⟨s_VD, f_VD, z_VD⟩ := VD.open
        obtain ⟨s_VE, f_VE, z_VE⟩ := VE.open
        clear VD VE RD RE B Bo
        go_wp2
        clear s_VD f_VD z_VD s_VE f_VE z_VE
        go_loopw [11] (fun i wr => ∃ j : Nat, j ≤ k1 ∧ i = .int .i64 j ∧ Below w710.heap.size w710 wr) (fun i _ => k1 - (intOf i).toNat)
        case atStart => exact ⟨0, Nat.zero_le _, rfl, Below.refl _ _⟩
        case round =>
          obtain ⟨j, hj, rfl, bj⟩ := hrel
          have VD := VD9.out.kept bj
          have VE := VE9.out.kept bj
          have RD := RD9.out.kept bj
          have RE := RE9.out.kept bj
          have B := thenB B9.out bj
          by_cases hlt : j < k1
          · have hj1 : (j : Int) < (k1 : Int) := by omega
            obtain ⟨z, hz⟩ : ∃ z, D.getD j 0 = z := ⟨_, rfl⟩
            have hzD : z ∈ D := by rw [← hz]; exact igetD_mem (by omega)
            have CH2 := Hid.mk (fun w h => lwHas_ok c9 k9 d9 F z w h hk9 (by unfold maxLen; omega))
            rw [HE2.out z hzD] at CH2
            rcases RD with h0 | ⟨b3, o3, rfl, hc⟩
            · rw [h0] at hk1; simp at hk1; omega
            have p0 := hc j (by omega)
            rw [hz] at p0
            have hb3 := World.block_lt_of_cell? _ _ p0
            simp only at hb3
            clear hc hz hzD
            replace B := bj
            obtain ⟨s_VD, f_VD, z_VD⟩ := VD.open
            obtain ⟨s_VE, f_VE, z_VE⟩ := VE.open
            have Bo := B
            go_upto_region 25 with fail
            clear s_VD f_VD z_VD s_VE f_VE z_VE
            have K : ∀ w' : World, Below wr.heap.size wr w' → (w'.cell? ⟨w301.heap.size, 0, none⟩ = some (.int .i64 0) ∧ w'.cell? ⟨w301.heap.size, 1, none⟩ = some (.slice (some ⟨b3, o3, none⟩) k1 d1) ∧ w'.cell? ⟨w709.heap.size, 0, none⟩ = some (.int .i64 0) ∧ w'.cell? ⟨w709.heap.size, 1, none⟩ = some (.slice c9 k9 d9) ∧ w'.cell? ⟨b3, o3 + j, none⟩ = some (.int .i64 z)) := fun w' h => ⟨(VD.kept h).2.1 0 (by simp), (VD.kept h).2.1 1 (by simp), (VE.kept h).2.1 0 (by simp), (VE.kept h).2.1 1 (by simp), ((bcell h).1 _ _ hb3).trans p0⟩
            have K := Hid.mk K
            clear p0
            refine wp_region_held_drew (S := (fun w' => w'.cell? ⟨w301.heap.size, 0, none⟩ = some (.int .i64 0) ∧ w'.cell? ⟨w301.heap.size, 1, none⟩ = some (.slice (some ⟨b3, o3, none⟩) k1 d1) ∧ w'.cell? ⟨w709.heap.size, 0, none⟩ = some (.int .i64 0) ∧ w'.cell? ⟨w709.heap.size, 1, none⟩ = some (.slice c9 k9 d9) ∧ w'.cell? ⟨b3, o3 + j, none⟩ = some (.int .i64 z))) (by kernel_rfl) (K.out _ (Below.refl _ _).drew) (fun hHeld => ?_)
            refine wpAnyH_take (i := 0) (oi := _) (v := ?vz1021u1) rfl (by kernel_rfl) (by kernel_rfl) (by kernel_rfl) (fun _ _ _ h => h) (Or.inl ⟨by kernel_rfl, ?hyz1021u1⟩) hHeld ?restz1021u1
            case hyz1021u1 => (intro w hSw; (try dsimp only at hSw); go_simp; first | done | with_reducible rfl)
            try simp only [Act.put, List.getElem_toArray, List.getElem_cons_zero, List.setIfInBounds_toArray, List.set_cons_zero, List.set_cons_succ]
            refine wpAnyH_take (i := 1) (oi := _) (v := ?vz1021u2) rfl (by kernel_rfl) (by kernel_rfl) (by kernel_rfl) (fun _ _ _ h => h) (Or.inl ⟨by kernel_rfl, ?hyz1021u2⟩) hHeld ?restz1021u2
            case hyz1021u2 => (intro w hSw; (try dsimp only at hSw); go_simp; first | done | with_reducible rfl)
            try simp only [Act.put, List.getElem_toArray, List.getElem_cons_zero, List.getElem_cons_succ, List.setIfInBounds_toArray, List.set_cons_zero, List.set_cons_succ]
            refine wpAnyH_take (i := 2) (oi := _) (v := ?vz1021u3) rfl (by kernel_rfl) (by kernel_rfl) (by kernel_rfl) (fun _ _ _ h => h) (Or.inl ⟨by kernel_rfl, ?hyz1021u3⟩) hHeld ?restz1021u3
            case hyz1021u3 => (intro w hSw; (try dsimp only at hSw); go_simp; first | done | with_reducible rfl)
            try simp only [Act.put, List.getElem_toArray, List.getElem_cons_zero, List.getElem_cons_succ, List.setIfInBounds_toArray, List.set_cons_zero, List.set_cons_succ]
            refine wpAnyH_take (i := 3) (oi := _) (v := ?vz1021u4) rfl (by kernel_rfl) (by kernel_rfl) (by kernel_rfl) (fun _ _ _ h => h) (Or.inl ⟨by kernel_rfl, ?hyz1021u4⟩) hHeld ?restz1021u4
            case hyz1021u4 => (intro w hSw; (try dsimp only at hSw); go_simp; first | done | with_reducible rfl)
            try simp only [Act.put, List.getElem_toArray, List.getElem_cons_zero, List.getElem_cons_succ, List.setIfInBounds_toArray, List.set_cons_zero, List.set_cons_succ]
            refine wpAnyH_take (i := 4) (oi := _) (v := ?vz1021u5) rfl (by kernel_rfl) (by kernel_rfl) (by kernel_rfl) (fun _ _ _ h => h) (Or.inl ⟨by kernel_rfl, ?hyz1021u5⟩) hHeld ?restz1021u5
            case hyz1021u5 => (intro w hSw; (try dsimp only at hSw); go_simp; first | done | with_reducible rfl)
            try simp only [Act.put, List.getElem_toArray, List.getElem_cons_zero, List.getElem_cons_succ, List.setIfInBounds_toArray, List.set_cons_zero, List.set_cons_succ]
            refine wpAnyH_take (i := 5) (oi := _) (v := ?vz1021u6) rfl (by kernel_rfl) (by kernel_rfl) (by kernel_rfl) (fun _ _ _ h => h) (Or.inl ⟨by kernel_rfl, ?hyz1021u6⟩) hHeld ?restz1021u6
            case hyz1021u6 => (intro w hSw; (try dsimp only at hSw); go_simp; first | done | with_reducible rfl)
            try simp only [Act.put, List.getElem_toArray, List.getElem_cons_zero, List.getElem_cons_succ, List.setIfInBounds_toArray, List.set_cons_zero, List.set_cons_succ]
            refine wpAnyH_take (i := 6) (oi := _) (v := ?vz1021u7) rfl (by kernel_rfl) (by kernel_rfl) (by kernel_rfl) (fun _ _ _ h => h) (Or.inl ⟨by kernel_rfl, ?hyz1021u7⟩) hHeld ?restz1021u7
            case hyz1021u7 => (intro w hSw; (try dsimp only at hSw); go_simp; first | done | with_reducible rfl)
            try simp only [Act.put, List.getElem_toArray, List.getElem_cons_zero, List.getElem_cons_succ, List.setIfInBounds_toArray, List.set_cons_zero, List.set_cons_succ]
            refine wpAnyH_ready (rs := [7]) (by kernel_rfl) (by simp) ?_
            refine AllReadyH.cons (o := _) rfl (fun K0 hK0 => ?_) AllReadyH.nil
            go_simp
            go_at_call 18
            refine (CH2.out _ (RE.kept (Below.refl _ _).drew)).mono ?_
            rintro e wz1021v8 ⟨rfl, bz1021v8⟩
            refine hK0.out _ _ (K.out _ (thenB (Below.refl _ _).drew bz1021v8)) (fun hHeld => ?_)
            clear hK0 K0
            try simp only [Act.put, List.getElem_toArray, List.getElem_cons_zero, List.getElem_cons_succ, List.setIfInBounds_toArray, List.set_cons_zero, List.set_cons_succ]
            refine wpAnyH_take (i := 8) (oi := _) (v := ?vz1021u9) rfl (by kernel_rfl) (by kernel_rfl) (by kernel_rfl) (fun _ _ _ h => h) (Or.inl ⟨by kernel_rfl, ?hyz1021u9⟩) hHeld ?restz1021u9
            case hyz1021u9 => (intro w hSw; (try dsimp only at hSw); go_simp; first | done | with_reducible rfl)
            try simp only [Act.put, List.getElem_toArray, List.getElem_cons_zero, List.getElem_cons_succ, List.setIfInBounds_toArray, List.set_cons_zero, List.set_cons_succ]
            refine wpAnyH_done (by kernel_rfl) ?_ _
            clear K hHeld
            replace VD := VD.kept (thenB (Below.refl _ _).drew bz1021v8)
            replace VE := VE.kept (thenB (Below.refl _ _).drew bz1021v8)
            replace RE := RE.kept (thenB (Below.refl _ _).drew bz1021v8)
            replace B := thenB B (thenB (Below.refl _ _).drew bz1021v8)
            have Sz1021 := ((thenB (Below.refl _ _).drew bz1021v8)).size
            clear bz1021v8
            obtain ⟨s_VD, f_VD, z_VD⟩ := VD.open
            obtain ⟨s_VE, f_VE, z_VE⟩ := VE.open
            have Bo := B
            clear s_VD f_VD z_VD s_VE f_VE z_VE
            go_wp2
            go_roundw
            case rel => exact ⟨j + 1, by omega, by go_num, B⟩
            case measure => first | (simp [intOf]; done) | (simp [intOf]; omega)
          · obtain rfl : j = k1 := by omega
            obtain ⟨s_VD, f_VD, z_VD⟩ := VD.open
            obtain ⟨s_VE, f_VE, z_VE⟩ := VE.open
            have Bo := B
            go_wp2_with fail
            refine (CV.out _ (HR.out.kept B) (HK.out.kept B)).mono ?_
            rintro e w1801 ⟨rfl, b1801⟩
            clear s_VD f_VD z_VD s_VE f_VE z_VE
            have S1801 := b1801.size
            replace VD := VD.kept b1801
            replace VE := VE.kept b1801
            replace RD := RD.kept b1801
            replace RE := RE.kept b1801
            replace B := thenB B b1801
            clear b1801
            obtain ⟨s_VD, f_VD, z_VD⟩ := VD.open
            obtain ⟨s_VE, f_VE, z_VE⟩ := VE.open
            have Bo := B
            cases bv
            · go_wp2
              go_ret
              exact ⟨rfl, HB0.out.trans (B.mono HB0.out.size)⟩
            · have hFD := HE3.out rfl
              subst hFD
              obtain rfl : k9 = j := by omega
              have CL := Hid.mk (fun w h h2 => lwNums_ok c1 c9 k9 d1 d9 F w h h2 hk9 (by unfold maxLen; omega))
              go_wp2_with fail
              refine (CL.out _ RD RE).mono ?_
              rintro e w1951 ⟨rfl, b1951⟩
              have S1951 := b1951.size
              replace VD := VD.kept b1951
              replace VE := VE.kept b1951
              replace RD := RD.kept b1951
              replace RE := RE.kept b1951
              replace B := thenB B b1951
              clear b1951
              obtain ⟨s_VD, f_VD, z_VD⟩ := VD.open
              obtain ⟨s_VE, f_VE, z_VE⟩ := VE.open
              have Bo := B
              go_wp2
              go_ret
              exact ⟨rfl, HB0.out.trans (B.mono HB0.out.size)⟩

end Go.Proofs.Yteeoodbmgheikaa
