/- Terms: the small functions of both sides. -/
import Derived.Test.YthjaehcfakjemaaDoorTmD
import Derived.Test.YthjaehcfakjemaaDoorIntA
import Derived.Laws.StructEq
namespace Go.Proofs.YthjaehcfakjemaaDoor
open Go.RowKit

/-- A term held against another. -/
@[irreducible] def teq (x y : T4) : Bool := decide (x = y)

theorem teq_iff {x y : T4} : teq x y = true ↔ x = y := by unfold teq; simp

theorem teq_no {x y : T4} : teq x y = false ↔ x ≠ y := by unfold teq; simp

theorem eqTm (d : Nat) (x y : T4) (w : World) : (Op.equalIn (d + 2) 70 (.agg #[.int .i64 x.o, .int .i64 x.a, .int .i64 x.b, .int .i64 x.n]) (.agg #[.int .i64 y.o, .int .i64 y.a, .int .i64 y.b, .int .i64 y.n])).run Tryd.prog w = .ok (teq x y) w := by
  have u3 := Tryd.underlying2
  have a3 := Tryd.isAgg2
  have z3 := Tryd.sizeOf2
  have hS : Tryd.prog.underlying 70 = some (.struct (Tryd.prog.fieldsOf 70)) := by kernel_rfl
  rw [run_equalIn_agg w (d + 1) 70 _ _ hS (by kernel_rfl)]
  obtain ⟨a, b, c, e⟩ := x
  obtain ⟨a', b', c', e'⟩ := y
  unfold teq
  simp only [Program.fieldsOf, Tryd.underlying70]
  go_simp
  by_cases h1 : a = a' <;> by_cases h2 : b = b' <;> by_cases h3 : c = c' <;> by_cases h4 : e = e' <;> simp [h1, h2, h3, h4]

theorem eqTm0 (x y : T4) (w : World) : (Op.equalIn 10000 70 (.agg #[.int .i64 x.o, .int .i64 x.a, .int .i64 x.b, .int .i64 x.n]) (.agg #[.int .i64 y.o, .int .i64 y.a, .int .i64 y.b, .int .i64 y.n])).run Tryd.prog w = .ok (teq x y) w := eqTm 9998 x y w

set_option maxHeartbeats 400000 in
theorem l5Kids_ok (o : Int) (w : World) : Calls Tryd.prog 54 #[.int .i64 o] w fun e w' => e = .returned (.int .i64 (kids o)) ∧ w' = w := by
  rcases kids_ways o with ⟨h, hr⟩ | ⟨h, hr⟩ | ⟨h, hr⟩ | ⟨h, hr⟩ | ⟨h, hr⟩ | ⟨h3, h4, h5, h7, h6, hr⟩
  iterate 5
    · rw [hr]
      subst h
      clear hr
      go_enter Tryd.func54, Tryd.ntmps54
      go_wp2
      go_ret
      exact ⟨rfl, rfl⟩
  · rw [hr]
    have d3 : (o == 3) = false := by simp [h3]
    have d4 : (o == 4) = false := by simp [h4]
    have d5 : (o == 5) = false := by simp [h5]
    have d7 : (o == 7) = false := by simp [h7]
    have d6 : (o == 6) = false := by simp [h6]
    clear hr h3 h4 h5 h7 h6
    go_enter Tryd.func54, Tryd.ntmps54
    go_wp2
    go_ret
    exact ⟨rfl, rfl⟩

theorem ofSec_ways (o : Int) : ((o == 6) = true ∧ ofSec o = true) ∨ ((o == 6) = false ∧ (o == 7) = true ∧ ofSec o = true) ∨ ((o == 6) = false ∧ (o == 7) = false ∧ ofSec o = false) := by
  unfold ofSec
  cases h : (o == 6) <;> cases h2 : (o == 7) <;> simp

set_option maxHeartbeats 400000 in
theorem isOfSecrets_ok (o : Int) (w : World) : Calls Tryd.prog 67 #[.int .i64 o] w fun e w' => e = .returned (.bool (ofSec o)) ∧ w' = w := by
  rcases ofSec_ways o with ⟨h1, hr⟩ | ⟨h1, h2, hr⟩ | ⟨h1, h2, hr⟩
  all_goals
    rw [hr]
    clear hr
    go_enter Tryd.func67, Tryd.ntmps67
    go_wp2
    go_ret
    exact ⟨rfl, rfl⟩

/-- What the Op of a term names, and no more. -/
@[irreducible] def brT (t : T4) : T4 := if t.o = 1 then ⟨t.o, 0, 0, t.n⟩ else if t.o = 2 then ⟨t.o, 0, 0, t.n⟩ else if t.o = 6 then ⟨t.o, t.a, 0, 0⟩ else ⟨t.o, t.a, t.b, 0⟩

theorem op_ways (o : Int) : o = 1 ∨ ((o == 1) = false ∧ o = 2) ∨ ((o == 1) = false ∧ (o == 2) = false ∧ o = 6) ∨ ((o == 1) = false ∧ (o == 2) = false ∧ (o == 6) = false) := by
  simp only [beq_eq_false_iff_ne]; omega

theorem brT_form {t : T4} (h : btw t.o 1 7 = true) : (teq t (brT t)) = !tmForm t := by
  rw [btw_iff] at h
  obtain ⟨o, a, b, n⟩ := t
  unfold teq brT tmForm
  simp only at *
  rcases kids_ways o with ⟨e, hk⟩ | ⟨e, hk⟩ | ⟨e, hk⟩ | ⟨e, hk⟩ | ⟨e, hk⟩ | ⟨h3, h4, h5, h7, h6, hk⟩
  iterate 5
    · subst e
      rw [hk, Bool.eq_iff_iff]
      simp <;> omega
  · have e : o = 1 ∨ o = 2 := by omega
    rcases e with rfl | rfl
    · rw [hk, Bool.eq_iff_iff]; simp
    · rw [hk, Bool.eq_iff_iff]; simp

theorem build_t1 (o n : Int) (w : World) : (Instr.build 70 #[(0, .int .i64 o), (3, .int .i64 n)]).run Tryd.prog w = .ok (.agg #[.int .i64 o, .int .i64 0, .int .i64 0, .int .i64 n]) w := run_build w 70 _ _ (by kernel_rfl)
theorem build_t2 (o a : Int) (w : World) : (Instr.build 70 #[(0, .int .i64 o), (1, .int .i64 a)]).run Tryd.prog w = .ok (.agg #[.int .i64 o, .int .i64 a, .int .i64 0, .int .i64 0]) w := run_build w 70 _ _ (by kernel_rfl)
theorem build_t3 (o a b : Int) (w : World) : (Instr.build 70 #[(0, .int .i64 o), (1, .int .i64 a), (2, .int .i64 b)]).run Tryd.prog w = .ok (.agg #[.int .i64 o, .int .i64 a, .int .i64 b, .int .i64 0]) w := run_build w 70 _ _ (by kernel_rfl)

set_option maxHeartbeats 1000000 in
theorem bareTerm_ok (t : T4) (w : World) : Calls Tryd.prog 66 #[.agg #[.int .i64 t.o, .int .i64 t.a, .int .i64 t.b, .int .i64 t.n]] w fun e w' => ∃ r : T4, r = brT t ∧ e = .returned (.agg #[.int .i64 r.o, .int .i64 r.a, .int .i64 r.b, .int .i64 r.n]) ∧ Below w.heap.size w w' := by
  obtain ⟨r, hr⟩ : ∃ r, r = brT t := ⟨_, rfl⟩
  have q1 := build_t1
  have q2 := build_t2
  have q3 := build_t3
  rcases op_ways t.o with h1 | ⟨h1, h2⟩ | ⟨h1, h2, h3⟩ | ⟨h1, h2, h3⟩
  · have e : brT t = ⟨1, 0, 0, t.n⟩ := by unfold brT; simp [h1]
    obtain ⟨o, a, b, n⟩ := t
    simp only at h1 e
    subst h1
    go_enter Tryd.func66, Tryd.ntmps66
    go_wp2
    refine bodyPost_ret (v := .agg #[.int .i64 1, .int .i64 0, .int .i64 0, .int .i64 n]) (by simp [results, Tryd.results66, go_sem]) rfl ⟨_, e.symm, rfl, ?_⟩
    repeat' (first | exact Below.refl _ _ | refine Below.alloc ?_ (by simp) _ | refine Below.setCell ?_ (by simp) _ | refine Below.drew ?_)
  · have e : brT t = ⟨2, 0, 0, t.n⟩ := by unfold brT; simp [h2]
    obtain ⟨o, a, b, n⟩ := t
    simp only at h1 h2 e
    subst h2
    go_enter Tryd.func66, Tryd.ntmps66
    go_wp2
    refine bodyPost_ret (v := .agg #[.int .i64 2, .int .i64 0, .int .i64 0, .int .i64 n]) (by simp [results, Tryd.results66, go_sem]) rfl ⟨_, e.symm, rfl, ?_⟩
    repeat' (first | exact Below.refl _ _ | refine Below.alloc ?_ (by simp) _ | refine Below.setCell ?_ (by simp) _ | refine Below.drew ?_)
  · have e : brT t = ⟨6, t.a, 0, 0⟩ := by unfold brT; simp [h3]
    obtain ⟨o, a, b, n⟩ := t
    simp only at h1 h2 h3 e
    subst h3
    go_enter Tryd.func66, Tryd.ntmps66
    go_wp2
    refine bodyPost_ret (v := .agg #[.int .i64 6, .int .i64 a, .int .i64 0, .int .i64 0]) (by simp [results, Tryd.results66, go_sem]) rfl ⟨_, e.symm, rfl, ?_⟩
    repeat' (first | exact Below.refl _ _ | refine Below.alloc ?_ (by simp) _ | refine Below.setCell ?_ (by simp) _ | refine Below.drew ?_)
  · have e : brT t = ⟨t.o, t.a, t.b, 0⟩ := by
      unfold brT; simp at h1 h2 h3; simp [h1, h2, h3]
    go_enter Tryd.func66, Tryd.ntmps66
    go_wp2
    refine bodyPost_ret (v := .agg #[.int .i64 t.o, .int .i64 t.a, .int .i64 t.b, .int .i64 0]) (by simp [results, Tryd.results66, go_sem]) rfl ⟨_, e.symm, rfl, ?_⟩
    repeat' (first | exact Below.refl _ _ | refine Below.alloc ?_ (by simp) _ | refine Below.setCell ?_ (by simp) _ | refine Below.drew ?_)

theorem plc_ways {t : T4} (h : 1 ≤ t.o ∧ t.o ≤ 7) : (t.o = 1 ∧ plc t = []) ∨ ((t.o == 1) = false ∧ t.o = 2 ∧ plc t = []) ∨ ((t.o == 1) = false ∧ (t.o == 2) = false ∧ t.o = 6 ∧ plc t = [t.a]) ∨ ((t.o == 1) = false ∧ (t.o == 2) = false ∧ (t.o == 6) = false ∧ plc t = [t.a, t.b]) := by
  simp only [beq_eq_false_iff_ne]
  unfold plc
  rcases kids_ways t.o with ⟨e, hk⟩ | ⟨e, hk⟩ | ⟨e, hk⟩ | ⟨e, hk⟩ | ⟨e, hk⟩ | ⟨h3, h4, h5, h7, h6, hk⟩
  iterate 4
    · exact .inr (.inr (.inr ⟨by omega, by omega, by omega, by rw [hk]; simp⟩))
  · exact .inr (.inr (.inl ⟨by omega, by omega, e, by rw [hk]; simp⟩))
  · have e : t.o = 1 ∨ t.o = 2 := by omega
    rcases e with e | e
    · exact .inl ⟨e, by rw [hk]; simp⟩
    · exact .inr (.inl ⟨by omega, e, by rw [hk]; simp⟩)

set_option maxHeartbeats 1000000 in
theorem placesIn_ok (t : T4) (h : 1 ≤ t.o ∧ t.o ≤ 7) (w : World) : Calls Tryd.prog 60 #[.agg #[.int .i64 t.o, .int .i64 t.a, .int .i64 t.b, .int .i64 t.n]] w fun e w' => ∃ c d, e = .returned (.slice c (plc t).length d) ∧ Own .i64 2 w' w.heap.size c d (plc t) ∧ Below w.heap.size w w' := by
  rcases plc_ways h with ⟨h1, hr⟩ | ⟨h1, h2, hr⟩ | ⟨h1, h2, h3, hr⟩ | ⟨h1, h2, h3, hr⟩
  · rw [hr]
    obtain ⟨o, a, b, n⟩ := t
    simp only at h1
    clear h hr
    subst h1
    go_enter Tryd.func60, Tryd.ntmps60
    go_wp2
    go_ret
    exact ⟨none, 0, rfl, own_none, belowA _ _⟩
  · rw [hr]
    obtain ⟨o, a, b, n⟩ := t
    simp only at h1 h2
    clear h hr
    subst h2
    go_enter Tryd.func60, Tryd.ntmps60
    go_wp2
    go_ret
    exact ⟨none, 0, rfl, own_none, belowA _ _⟩
  · rw [hr]
    obtain ⟨o, a, b, n⟩ := t
    simp only at h1 h2 h3
    clear h hr
    subst h3
    go_enter Tryd.func60, Tryd.ntmps60
    go_wp2
    go_ret
    have O := (OwnI.lit (w.alloc (.cells #[.int .i64 6, .int .i64 a, .int .i64 b, .int .i64 n] 70)) [a] [.int .i64 a] rfl (by unfold maxLen; simp)).mono (base' := w.heap.size) (by simp)
    rw [World.size_alloc] at O
    exact ⟨_, _, rfl, O, belowA2 _ _ _⟩
  · rw [hr]
    clear h hr
    go_enter Tryd.func60, Tryd.ntmps60
    go_wp2
    go_ret
    have O := (OwnI.lit (w.alloc (.cells #[.int .i64 t.o, .int .i64 t.a, .int .i64 t.b, .int .i64 t.n] 70)) [t.a, t.b] [.int .i64 t.a, .int .i64 t.b] rfl (by unfold maxLen; simp)).mono (base' := w.heap.size) (by simp)
    rw [World.size_alloc] at O
    exact ⟨_, _, rfl, O, belowA2 _ _ _⟩

/-- All numbers are places of a list of 'm'. -/
@[irreducible] def plsOk (m : Nat) (zs : List Int) : Bool := zs.all fun z => btw z 0 ((m : Int) - 1)

theorem plsOk_step (m : Nat) (zs : List Int) (k : Nat) (h : k < zs.length) {z : Int} (hz : zs.getD k 0 = z) : plsOk m (zs.drop k) = (btw z 0 ((m : Int) - 1) && plsOk m (zs.drop (k + 1))) := by
  unfold plsOk
  rw [List.drop_eq_getElem_cons h, List.all_cons]
  have e : zs[k] = z := by rw [← hz]; simp [List.getD, h]
  rw [e]

theorem plsOk_iff {m : Nat} {zs : List Int} : plsOk m zs = true ↔ ∀ z ∈ zs, 0 ≤ z ∧ z < m := by
  unfold plsOk
  rw [List.all_eq_true]
  exact ⟨fun h z hz => by have := btw_iff.1 (h z hz); omega, fun h z hz => btw_iff.2 (by have := h z hz; omega)⟩

set_option maxHeartbeats 1000000 in
theorem arePlaces_ok (a : Option Addr) (m ca : Nat) (c : Option Addr) (n d : Nat) (zs : List Int) (w : World) (hR : Rd .i64 w c zs) (hn : zs.length = n) (hm : m ≤ maxLen) (hx : n ≤ maxLen) :
    Calls Tryd.prog 23 #[.slice a m ca, .slice c n d] w fun e w' => e = .returned (.bool (plsOk m zs)) ∧ w' = w := by
  unfold maxLen at hx hm
  go_enter Tryd.func23, Tryd.ntmps23
  go_wp2
  go_loopw [9] (fun i wr => ∃ k : Nat, k ≤ n ∧ i = .int .i64 k ∧ plsOk m (zs.drop k) = plsOk m zs ∧ wr = w) (fun i _ => n - (intOf i).toNat)
  case atStart => exact ⟨0, Nat.zero_le _, rfl, rfl, rfl⟩
  case round =>
    obtain ⟨k, hk, rfl, hdr, rfl⟩ := hrel
    by_cases hlt : k < n
    · obtain ⟨z, hz⟩ : ∃ z, zs.getD k 0 = z := ⟨_, rfl⟩
      have hk1 : (k : Int) < (n : Int) := by omega
      have hs := plsOk_step m zs k (by omega) hz
      rw [hdr] at hs
      rcases hR with hR | ⟨b1, o1, rfl, hca⟩
      · simp [hR] at hn; omega
      have p0 := hca k (by omega)
      rw [hz] at p0
      clear hca hz hdr
      have CI := Hid.mk (isBetween_ok z 0 ((m : Int) - 1))
      cases hg : btw z 0 ((m : Int) - 1)
      · rw [hg] at hs CI
        have HS := Hid.mk hs
        clear hs hg
        go_wp2_with fail
        refine (CI.out _).mono ?_
        rintro e wr ⟨rfl, rfl⟩
        go_wp2
        go_ret
        exact ⟨ret_bool HS.out.symm, rfl⟩
      · rw [hg, Bool.true_and] at hs
        rw [hg] at CI
        have HS := Hid.mk hs
        clear hs hg
        go_wp2_with fail
        refine (CI.out _).mono ?_
        rintro e wr ⟨rfl, rfl⟩
        go_wp2
        go_roundw
        case rel => exact ⟨k + 1, by omega, by go_num, HS.out.symm, by trivial⟩
        case measure => simp [intOf]; omega
    · have hkn : k = n := by omega
      subst hkn
      rw [List.drop_of_length_le (by omega)] at hdr
      have HS := Hid.mk hdr
      clear hdr
      go_wp2
      go_ret
      refine ⟨ret_bool (HS.out.symm.trans (by unfold plsOk; rfl)).symm, rfl⟩

end Go.Proofs.YthjaehcfakjemaaDoor
