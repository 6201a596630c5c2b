/- OccursIn: both sides. -/
import Derived.Test.YtedippfnlaiapaaOcA
import Derived.Test.YtedippfnlaiapaaXTmQ
namespace Go.Proofs.Ytedippfnlaiapaa
open Go.RowKit

/-- Whether a term is a part of another. -/
@[irreducible] def occ (xs : List T4) (s b : Int) : Bool := if akC xs s = 0 then (if akC xs b = 0 then inL (prL xs b.toNat) s else false) else false

theorem occ_ways (xs : List T4) (s b : Int) : (akC xs s ≠ 0 ∧ occ xs s b = false) ∨ (akC xs s = 0 ∧ akC xs b ≠ 0 ∧ occ xs s b = false) ∨ (akC xs s = 0 ∧ akC xs b = 0 ∧ occ xs s b = inL (prL xs b.toNat) s) := by
  unfold occ
  by_cases h1 : akC xs s = 0
  · by_cases h2 : akC xs b = 0
    · exact .inr (.inr ⟨h1, h2, by rw [if_pos h1, if_pos h2]⟩)
    · exact .inr (.inl ⟨h1, h2, by rw [if_pos h1, if_neg h2]⟩)
  · exact .inl ⟨h1, by rw [if_neg h1]⟩

theorem prL_range {xs : List T4} {r : Nat} {z : Int} (h : z ∈ prL xs r) : 0 ≤ z ∧ z ≤ r := by
  unfold prL at h
  simp only [List.mem_map, List.mem_filter, List.mem_range] at h
  obtain ⟨i, ⟨h1, _⟩, rfl⟩ := h
  omega

theorem inL_mem {zs : List Int} {v : Int} : inL zs v = true ↔ v ∈ zs := by
  unfold inL
  simp

theorem occ_parts (xs : List T4) (s b : Int) : inL (paL xs b) s = occ xs s b := by
  rcases pa_ways xs b with ⟨h1, h⟩ | ⟨h1, h⟩
  · rw [h]
    rcases occ_ways xs s b with ⟨_, h2⟩ | ⟨_, _, h2⟩ | ⟨_, h3, _⟩
    · rw [h2]; rfl
    · rw [h2]; rfl
    · exact absurd h3 h1
  · rw [h]
    rcases occ_ways xs s b with ⟨h3, h2⟩ | ⟨_, h3, _⟩ | ⟨_, _, h2⟩
    · rw [h2]
      cases hi : inL (prL xs b.toNat) s
      · rfl
      · have hm := prL_range (inL_mem.1 hi)
        obtain ⟨hv, hq0, hq1⟩ := ak_zero h1
        rcases ak_ways xs s with ⟨h4, _⟩ | ⟨_, h4, _⟩ | ⟨_, _, h4⟩
        · exact absurd hv h4
        · have : btw s 0 ((xs.length : Int) - 1) = true := btw_iff.2 ⟨by omega, by omega⟩
          rw [this] at h4; cases h4
        · exact absurd h4 h3
    · exact absurd h1 h3
    · rw [h2]

theorem field_is (k : Int) (c : Option Addr) (n d : Nat) (w : World) : (Instr.field 58 (.agg #[.int .i64 k, .slice c n d]) 1).run Try.prog w = .ok (.slice c n d) w := by kernel_rfl

set_option maxRecDepth 20000 in
set_option maxHeartbeats 4000000 in
theorem specOccursIn_ok (a : Option Addr) (n ca : Nat) (xs : List T4) (s b : Int) (w : World) (ha : RdTerm w a xs) (hn : xs.length = n) (hx : n ≤ maxLen) (hca : n ≤ ca) (hlow : Hid (∀ b : Addr, a = some b → b.block < w.heap.size)) :
    Calls Try.prog 42 #[.slice a n ca, .int .i64 s, .int .i64 b] w fun e w' => e = .returned (.bool (occ xs s b)) ∧ Below w.heap.size w w' := by
  have CA := Hid.mk (fun w h => l5Asked_ok a n ca xs s w h hn hx hca)
  have CB := Hid.mk (fun w h => l5Asked_ok a n ca xs b w h hn hx hca)
  rcases occ_ways xs s b with ⟨h1, hr⟩ | ⟨h1, h2, hr⟩ | ⟨h1, h2, hr⟩
  · rw [hr]
    have h2 : (akC xs s == 0) = false := by simpa using h1
    clear hr h1
    generalize akC xs s = kk at *
    go_enter Try.func42, Try.ntmps42
    have B := Below.refl w.heap.size w
    have Bo := B
    go_wp2_with fail
    refine (CA.out _ ha).mono ?_
    rintro e w1 ⟨rfl, b1⟩
    have S1 := b1.size
    replace ha := ha.kept b1
    replace B := thenB B b1
    clear b1
    have Bo := B
    go_wp2
    go_ret
    exact ⟨rfl, Bo⟩
  · rw [hr]
    have h4 : (akC xs b == 0) = false := by simpa using h2
    rw [h1] at CA
    clear hr h1 h2
    generalize akC xs b = kk at *
    go_enter Try.func42, Try.ntmps42
    have B := Below.refl w.heap.size w
    have Bo := B
    go_wp2_with fail
    refine (CA.out _ ha).mono ?_
    rintro e w11 ⟨rfl, b11⟩
    have S11 := b11.size
    replace ha := ha.kept b11
    replace B := thenB B b11
    clear b11
    have Bo := B
    go_wp2_with fail
    refine (CB.out _ ha).mono ?_
    rintro e w12 ⟨rfl, b12⟩
    have S12 := b12.size
    replace ha := ha.kept b12
    replace B := thenB B b12
    clear b12
    have Bo := B
    go_wp2
    go_ret
    exact ⟨rfl, Bo⟩
  · rw [hr]
    rw [h1] at CA
    rw [h2] at CB
    obtain ⟨hv, hq0, hq1⟩ := ak_zero h2
    obtain ⟨m, rfl⟩ : ∃ m : Nat, b = (m : Int) := ⟨b.toNat, by omega⟩
    rw [Int.toNat_natCast]
    have hm := prL_len xs m
    have hm2 := (tfC_zero hv).1
    have CP := Hid.mk (fun w h hl => l5Parts_ok a n ca xs m w h hn hv (by omega) hl)
    have CC := Hid.mk (fun c k d w h hk => l1Has_ok c k d (prL xs m) s w h hk (by unfold maxLen; omega))
    clear hr h1 h2 hq0 hq1 hv
    go_enter Try.func42, Try.ntmps42
    have B := Below.refl w.heap.size w
    have Bo := B
    go_wp2_with fail
    refine (CA.out _ ha).mono ?_
    rintro e w21 ⟨rfl, b21⟩
    have S21 := b21.size
    replace ha := ha.kept b21
    replace B := thenB B b21
    clear b21
    have Bo := B
    go_wp2_with fail
    refine (CB.out _ ha).mono ?_
    rintro e w22 ⟨rfl, b22⟩
    have S22 := b22.size
    replace ha := ha.kept b22
    replace B := thenB B b22
    clear b22
    have Bo := B
    go_wp2_with fail
    refine (CP.out _ ha (Hid.mk (fun b hb => by have := hlow.out b hb; have := B.size; omega))).mono ?_
    rintro e w23 ⟨c, d, k, rfl, hk, O, b23⟩
    have S23 := b23.size
    replace ha := ha.kept b23
    replace B := thenB B b23
    clear b23
    have Bo := B
    have OR := Hid.mk (Own.rd O)
    have hk := Hid.mk hk
    go_wp2_with fail
    refine (CC.out _ _ _ _ OR.out hk.out).mono ?_
    rintro e w24 ⟨rfl, b24⟩
    have S24 := b24.size
    replace ha := ha.kept b24
    replace O := O.kept b24
    replace B := thenB B b24
    clear b24
    have Bo := B
    go_wp2
    go_ret
    exact ⟨rfl, Bo⟩

set_option maxRecDepth 20000 in
set_option maxHeartbeats 4000000 in
theorem implOccursIn_ok (a : Option Addr) (n ca : Nat) (xs : List T4) (s b : Int) (w : World) (ha : RdTerm w a xs) (hn : xs.length = n) (hx : n ≤ maxLen) (hok : ∀ t ∈ xs, okT t) :
    Calls Try.prog 43 #[.slice a n ca, .int .i64 s, .int .i64 b] w fun e w' => e = .returned (.bool (occ xs s b)) ∧ Below w.heap.size w w' := by
  have q1 := field_is
  rw [← occ_parts]
  have hm := pa_len xs b
  have CP := Hid.mk (fun w h => implPartsOf_ok a n ca xs b w h hn hx hok)
  have CC := Hid.mk (fun c k d w h hk => contains_ok c k d (paL xs b) s w h hk (by unfold maxLen; omega))
  generalize akC xs b = kk at *
  generalize paL xs b = zs at *
  clear hm
  go_enter Try.func43, Try.ntmps43
  have B := Below.refl w.heap.size w
  have Bo := B
  go_wp2_with fail
  refine (CP.out _ ha).mono ?_
  rintro e w41 ⟨c, d, k, rfl, hk, O, b41⟩
  have S41 := b41.size
  replace ha := ha.kept b41
  replace B := thenB B b41
  clear b41
  have Bo := B
  have OR := Hid.mk (Own.rd O)
  have hk := Hid.mk hk
  go_wp2_with fail
  refine (CC.out _ _ _ _ OR.out hk.out).mono ?_
  rintro e w42 ⟨rfl, b42⟩
  have S42 := b42.size
  replace ha := ha.kept b42
  replace O := O.kept b42
  replace B := thenB B b42
  clear b42
  have Bo := B
  go_wp2
  go_ret
  exact ⟨rfl, Bo⟩

end Go.Proofs.Ytedippfnlaiapaa
