/- A policy's text: as bytes; the model. -/
import Derived.Test.YtngkahchhioncaaDoorAdrT
import Derived.Test.YtngkahchhioncaaDoorPolF
import Derived.Test.YtngkahchhioncaaDoorPur2
import Derived.Test.YtngkahchhioncaaDoorFill
import Derived.Deep.DeepCutAuto
namespace Go.Proofs.YtngkahchhioncaaDoor
open Go.RowKit

/-- A number's text. -/
@[irreducible] def dcB (n : Int) : ByteArray := ⟨(Lib.decDigits n.toNat).toArray⟩
/-- An action's word. -/
@[irreducible] def wdB (p : Int) : ByteArray := if p = 1 then ⟨#[100, 114, 111, 112]⟩ else if p = 2 then ⟨#[112, 97, 115, 115]⟩ else ⟨#[115, 101, 97, 108]⟩
/-- The ends of a range of addresses. -/
@[irreducible] def enB (a b : Int) : ByteArray := adV a ++ ⟨#[45]⟩ ++ adV b
/-- A rule's line, and its peer's part. -/
@[irreducible] def bodyB (x : R11) : ByteArray := wdB x.p ++ ⟨#[32]⟩ ++ enB x.s.a x.s.b ++ ⟨#[32]⟩ ++ enB x.s.c x.s.d ++ ⟨#[32]⟩ ++ dcB x.s.r ++ ⟨#[32]⟩ ++ dcB x.s.g ++ ⟨#[45]⟩ ++ dcB x.s.h
@[irreducible] def lnB (x : R11) : ByteArray := if x.p = 3 then bodyB x ++ ⟨#[32]⟩ ++ dcB x.q ++ ⟨#[10]⟩ else bodyB x ++ ⟨#[10]⟩
/-- The lines of the first 'k' rules. -/
def ptB (xs : List R11) : Nat → ByteArray
  | 0 => ⟨#[]⟩
  | k + 1 => ptB xs k ++ lnB (xs.getD k zRule)

theorem dcB_size {n : Int} (h0 : 0 ≤ n) (h1 : n ≤ 65535) : (dcB n).size ≤ 20 := by
  unfold dcB
  show (Lib.decDigits n.toNat).toArray.size ≤ 20
  rw [List.size_toArray]
  exact dd_len _ (by omega)

theorem adV_size (a : Int) : (adV a).size ≤ 84 := by
  unfold adV
  split
  · show (adr (putN a 4) 4).toArray.size ≤ 84
    rw [List.size_toArray]; exact adr_len _ (putN_bytes a 4) 4
  · exact Nat.zero_le _

theorem enB_size (a b : Int) : (enB a b).size ≤ 169 := by
  unfold enB
  have h1 := adV_size a
  have h2 := adV_size b
  have h3 : ((⟨#[45]⟩ : ByteArray)).size = 1 := rfl
  rw [ByteArray.size_append, ByteArray.size_append]; omega

theorem wdB_size (p : Int) : (wdB p).size = 4 := by unfold wdB; split; rfl; split <;> rfl

theorem line_nums {x : R11} (h : ruC x = 0) : (0 ≤ x.s.r ∧ x.s.r ≤ 65535) ∧ (0 ≤ x.s.g ∧ x.s.g ≤ 65535) ∧ (0 ≤ x.s.h ∧ x.s.h ≤ 65535) ∧ (0 ≤ x.q ∧ x.q ≤ 65535) ∧ 1 ≤ x.p ∧ x.p ≤ 3 := by
  obtain ⟨h1, h2, h3, h4⟩ := ru_zero h
  have fx := fitS_iff.1 (sfC_zero h1).1
  omega

theorem bodyB_size {x : R11} (h : ruC x = 0) : (bodyB x).size ≤ 440 := by
  obtain ⟨⟨a1, a2⟩, ⟨b1, b2⟩, ⟨c1, c2⟩, _⟩ := line_nums h
  have h1 := wdB_size x.p
  have h2 := enB_size x.s.a x.s.b
  have h3 := enB_size x.s.c x.s.d
  have h4 := dcB_size a1 a2
  have h5 := dcB_size b1 b2
  have h6 := dcB_size c1 c2
  have h7 : ((⟨#[45]⟩ : ByteArray)).size = 1 := rfl
  have h8 : ((⟨#[32]⟩ : ByteArray)).size = 1 := rfl
  unfold bodyB
  simp only [ByteArray.size_append, h7, h8]; omega

theorem lnB_size {x : R11} (h : ruC x = 0) : (lnB x).size ≤ 470 := by
  have h1 := bodyB_size h
  obtain ⟨_, _, _, ⟨d1, d2⟩, _⟩ := line_nums h
  have h2 := dcB_size d1 d2
  have h7 : ((⟨#[10]⟩ : ByteArray)).size = 1 := rfl
  have h8 : ((⟨#[32]⟩ : ByteArray)).size = 1 := rfl
  unfold lnB
  split <;> simp only [ByteArray.size_append, h7, h8] <;> omega

theorem ptB_size {xs : List R11} (h : ∀ x ∈ xs, ruC x = 0) (k : Nat) (hk : k ≤ xs.length) : (ptB xs k).size ≤ 470 * k := by
  induction k with
  | zero => exact Nat.zero_le _
  | succ k ih =>
    have h1 := ih (by omega)
    have h2 := lnB_size (h _ (getDRule_mem (xs := xs) (k := k) (by omega)))
    rw [ptB, ByteArray.size_append]; omega

theorem digInt_ok (n : Int) (h0 : 0 ≤ n) (h1 : n ≤ 65535) (w : World) :
    Calls Tryd.prog 88 #[.int .i64 n] w fun e w' => e = .returned (.string (dcB n)) ∧ Below w.heap.size w w' := by
  obtain ⟨k, rfl⟩ := Int.eq_ofNat_of_zero_le h0
  unfold dcB
  exact digits_ok k (by omega) w

theorem fieldTr (k v : Value) (w : World) : (Instr.field 76 (.agg #[k, v]) 1).run Tryd.prog w = .ok v w := by kernel_rfl

set_option maxRecDepth 20000 in
set_option maxHeartbeats 2000000 in
theorem l4Ends_ok (a b : Int) (w : World) :
    Calls Tryd.prog 87 #[.agg #[.int .i64 a, .int .i64 b]] w fun e w' => e = .returned (.string (enB a b)) ∧ Below w.heap.size w w' := by
  have CA := Hid.mk (fun w => specAddressText_ok a w)
  have CB := Hid.mk (fun w => specAddressText_ok b w)
  have s1 := adV_size a
  have s2 := adV_size b
  have q1 := fieldTr
  unfold enB
  generalize adV a = A at *
  generalize adV b = C at *
  generalize adC a = ka at *
  generalize adC b = kb at *
  have z1 : ¬ 9223372036854775807 < A.size + 1 := by omega
  have z2 : ¬ 9223372036854775807 < A.size + 1 + C.size := by omega
  go_enter Tryd.func87, Tryd.ntmps87
  have B := Below.refl w.heap.size w
  replace B := thenB B (belowA w (.cells #[.int .i64 a, .int .i64 b] 30))
  have VX := V.new w [.int .i64 a, .int .i64 b] 30
  obtain ⟨s_VX, f_VX, z_VX⟩ := VX.open
  have Bo := B
  clear s_VX f_VX z_VX
  have K : ∀ w' : World, Below (w.alloc (.cells #[.int .i64 a, .int .i64 b] 30)).heap.size (w.alloc (.cells #[.int .i64 a, .int .i64 b] 30)) w' → (w'.cell? ⟨w.heap.size, 0, none⟩ = some (.int .i64 a) ∧ w'.cell? ⟨w.heap.size, 1, none⟩ = some (.int .i64 b)) := fun w' h => ⟨(VX.kept h).2.1 0 (by simp), (VX.kept h).2.1 1 (by simp)⟩
  have K := Hid.mk K
  go_wp2_with fail
  refine wp_region_held_drew (S := (fun w' => w'.cell? ⟨w.heap.size, 0, none⟩ = some (.int .i64 a) ∧ w'.cell? ⟨w.heap.size, 1, none⟩ = some (.int .i64 b))) (by kernel_rfl) (K.out _ (Below.refl _ _).drew) (fun hHeld => ?_)
  refine wpAnyH_take (i := 0) (oi := _) (v := ?vz1u1) rfl (by kernel_rfl) (by kernel_rfl) (by kernel_rfl) (fun _ _ _ h => h) (Or.inl ⟨by rfl, ?hyz1u1⟩) hHeld ?restz1u1
  case hyz1u1 => (intro w hSw; (try dsimp only at hSw); go_simp; first | done | with_reducible rfl)
  try simp only [Act.put, List.getElem_toArray, List.getElem_cons_zero, List.setIfInBounds_toArray, List.set_cons_zero, List.set_cons_succ]
  refine wpAnyH_take (i := 1) (oi := _) (v := ?vz1u2) rfl (by kernel_rfl) (by kernel_rfl) (by kernel_rfl) (fun _ _ _ h => h) (Or.inl ⟨by rfl, ?hyz1u2⟩) hHeld ?restz1u2
  case hyz1u2 => (intro w hSw; (try dsimp only at hSw); go_simp; first | done | with_reducible rfl)
  try simp only [Act.put, List.getElem_toArray, List.getElem_cons_zero, List.getElem_cons_succ, List.setIfInBounds_toArray, List.set_cons_zero, List.set_cons_succ]
  refine wpAnyH_take (i := 5) (oi := _) (v := ?vz1u3) rfl (by kernel_rfl) (by kernel_rfl) (by kernel_rfl) (fun _ _ _ h => h) (Or.inl ⟨by rfl, ?hyz1u3⟩) hHeld ?restz1u3
  case hyz1u3 => (intro w hSw; (try dsimp only at hSw); go_simp; first | done | with_reducible rfl)
  try simp only [Act.put, List.getElem_toArray, List.getElem_cons_zero, List.getElem_cons_succ, List.setIfInBounds_toArray, List.set_cons_zero, List.set_cons_succ]
  refine wpAnyH_take (i := 6) (oi := _) (v := ?vz1u4) rfl (by kernel_rfl) (by kernel_rfl) (by kernel_rfl) (fun _ _ _ h => h) (Or.inl ⟨by rfl, ?hyz1u4⟩) hHeld ?restz1u4
  case hyz1u4 => (intro w hSw; (try dsimp only at hSw); go_simp; first | done | with_reducible rfl)
  try simp only [Act.put, List.getElem_toArray, List.getElem_cons_zero, List.getElem_cons_succ, List.setIfInBounds_toArray, List.set_cons_zero, List.set_cons_succ]
  refine wpAnyH_ready (rs := [2]) (by kernel_rfl) (by simp) ?_
  refine AllReadyH.cons (o := _) rfl (fun K0 hK0 => ?_) AllReadyH.nil
  go_simp
  go_at_call 123
  refine (CA.out _).mono ?_
  rintro e wz1v5 ⟨rfl, bz1v5⟩
  refine hK0.out _ _ (K.out _ (thenB (Below.refl _ _).drew bz1v5)) (fun hHeld => ?_)
  clear hK0 K0
  try simp only [Act.put, List.getElem_toArray, List.getElem_cons_zero, List.getElem_cons_succ, List.setIfInBounds_toArray, List.set_cons_zero, List.set_cons_succ]
  refine wpAnyH_take (i := 3) (oi := _) (v := ?vz1u6) rfl (by kernel_rfl) (by kernel_rfl) (by kernel_rfl) (fun _ _ _ h => h) (Or.inl ⟨by rfl, ?hyz1u6⟩) hHeld ?restz1u6
  case hyz1u6 => (intro w hSw; (try dsimp only at hSw); go_simp; first | done | with_reducible rfl)
  try simp only [Act.put, List.getElem_toArray, List.getElem_cons_zero, List.getElem_cons_succ, List.setIfInBounds_toArray, List.set_cons_zero, List.set_cons_succ]
  refine wpAnyH_take (i := 4) (oi := _) (v := ?vz1u7) rfl (by kernel_rfl) (by kernel_rfl) (by kernel_rfl) (fun _ _ _ h => h) (Or.inl ⟨by rfl, ?hyz1u7⟩) hHeld ?restz1u7
  case hyz1u7 => (intro w hSw; (try dsimp only at hSw); go_simp; first | done | with_reducible rfl)
  try simp only [Act.put, List.getElem_toArray, List.getElem_cons_zero, List.getElem_cons_succ, List.setIfInBounds_toArray, List.set_cons_zero, List.set_cons_succ]
  refine wpAnyH_ready (rs := [7]) (by kernel_rfl) (by simp) ?_
  refine AllReadyH.cons (o := _) rfl (fun K0 hK0 => ?_) AllReadyH.nil
  go_simp
  go_at_call 123
  refine (CB.out _).mono ?_
  rintro e wz1v8 ⟨rfl, bz1v8⟩
  refine hK0.out _ _ (K.out _ (thenB (thenB (Below.refl _ _).drew bz1v5) bz1v8)) (fun hHeld => ?_)
  clear hK0 K0
  try simp only [Act.put, List.getElem_toArray, List.getElem_cons_zero, List.getElem_cons_succ, List.setIfInBounds_toArray, List.set_cons_zero, List.set_cons_succ]
  refine wpAnyH_take (i := 8) (oi := _) (v := ?vz1u9) rfl (by kernel_rfl) (by kernel_rfl) (by kernel_rfl) (fun _ _ _ h => h) (Or.inl ⟨by rfl, ?hyz1u9⟩) hHeld ?restz1u9
  case hyz1u9 => (intro w hSw; (try dsimp only at hSw); go_simp; first | done | with_reducible rfl)
  try simp only [Act.put, List.getElem_toArray, List.getElem_cons_zero, List.getElem_cons_succ, List.setIfInBounds_toArray, List.set_cons_zero, List.set_cons_succ]
  refine wpAnyH_take (i := 9) (oi := _) (v := ?vz1u10) rfl (by kernel_rfl) (by kernel_rfl) (by kernel_rfl) (fun _ _ _ h => h) (Or.inl ⟨by rfl, ?hyz1u10⟩) hHeld ?restz1u10
  case hyz1u10 => (intro w hSw; (try dsimp only at hSw); go_simp; first | done | with_reducible rfl)
  try simp only [Act.put, List.getElem_toArray, List.getElem_cons_zero, List.getElem_cons_succ, List.setIfInBounds_toArray, List.set_cons_zero, List.set_cons_succ]
  refine wpAnyH_take (i := 10) (oi := _) (v := ?vz1u11) rfl (by kernel_rfl) (by kernel_rfl) (by kernel_rfl) (fun _ _ _ h => h) (Or.inl ⟨by rfl, ?hyz1u11⟩) hHeld ?restz1u11
  case hyz1u11 => (intro w hSw; (try dsimp only at hSw); go_simp; first | done | with_reducible rfl)
  try simp only [Act.put, List.getElem_toArray, List.getElem_cons_zero, List.getElem_cons_succ, List.setIfInBounds_toArray, List.set_cons_zero, List.set_cons_succ]
  refine wpAnyH_done (by kernel_rfl) ?_ _
  clear K hHeld
  replace VX := VX.kept (thenB (thenB (Below.refl _ _).drew bz1v5) bz1v8)
  replace B := thenB B (thenB (thenB (Below.refl _ _).drew bz1v5) bz1v8)
  have Sz1 := ((thenB (thenB (Below.refl _ _).drew bz1v5) bz1v8)).size
  simp only [World.size_alloc] at Sz1
  clear bz1v5 bz1v8
  obtain ⟨s_VX, f_VX, z_VX⟩ := VX.open
  have Bo := B
  go_wp2
  go_ret
  exact ⟨rfl, B⟩

theorem build_tr0 (k : Int) (w : World) : (Instr.build 76 #[(0, .int .i64 k)]).run Tryd.prog w = .ok (.agg #[.int .i64 k, .string ⟨#[]⟩]) w := run_build w 76 _ _ (by kernel_rfl)

theorem build_tr1 (s : ByteArray) (w : World) : (Instr.build 76 #[(1, .string s)]).run Tryd.prog w = .ok (.agg #[.int .i64 0, .string s]) w := run_build w 76 _ _ (by kernel_rfl)

/-- What 'PolicyText' answers beside its code. -/
@[irreducible] def pxB (xs : List R11) : ByteArray := if pyC xs = 0 then ptB xs xs.length else ⟨#[]⟩

theorem px_ways (xs : List R11) : ((pyC xs != 0) = true ∧ pxB xs = ⟨#[]⟩) ∨ (pyC xs = 0 ∧ pxB xs = ptB xs xs.length) := by
  unfold pxB
  by_cases h : pyC xs = 0
  · exact .inr ⟨h, by rw [if_pos h]⟩
  · exact .inl ⟨by simp [h], by rw [if_neg h]⟩

end Go.Proofs.YtngkahchhioncaaDoor
