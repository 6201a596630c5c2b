/- What 'ParsePacket' answers: plain facts on bytes. -/
import Derived.Test.YthjaehcfakjemaaTake
import Derived.Test.YthjaehcfakjemaaSum
import Derived.Test.YthjaehcfakjemaaSame
import Derived.Test.YthjaehcfakjemaaZl
namespace Go.Proofs.Ythjaehcfakjemaa
open Go.RowKit

theorem takeN_one (zs : List Int) (p : Nat) : takeN zs p 1 = zs.getD p 0 := by simp [takeN, List.range_succ]

theorem ofNat_inj {a b : Int} (ha : 0 ≤ a ∧ a < 256) (hb : 0 ≤ b ∧ b < 256) (h : UInt8.ofNat a.toNat = UInt8.ofNat b.toNat) : a = b := by
  have h1 := congrArg UInt8.toNat h
  simp at h1
  omega

theorem eqB_iff {xs ys : List Int} (hx : Bytes xs) (hy : Bytes ys) : eqB xs ys = true ↔ xs = ys := by
  unfold eqB
  rw [beq_iff_eq]
  constructor
  · intro h
    have h2 : (xs.map fun n => UInt8.ofNat n.toNat) = ys.map fun n => UInt8.ofNat n.toNat := by
      have e : ∀ zs : List Int, (strOfNums zs).toList = zs.map fun n => UInt8.ofNat n.toNat := fun zs => by simp [strOfNums]
      rw [← e, ← e, h]
    clear h
    induction xs generalizing ys with
    | nil => cases ys <;> simp_all
    | cons x xs ih =>
      cases ys with
      | nil => simp at h2
      | cons y ys =>
        simp only [List.map_cons, List.cons.injEq] at h2
        rw [ofNat_inj (hx x (by simp)) (hy y (by simp)) h2.1, ih (fun z hz => hx z (by simp [hz])) (fun z hz => hy z (by simp [hz])) h2.2]
  · rintro rfl; rfl

/-- Four bytes at a place make 16384 just where they are 0, 0, 64, 0. -/
theorem mark_iff {zs : List Int} (hb : Bytes zs) (h : 8 ≤ zs.length) : takeN zs 4 4 = 16384 ↔ eqB ((zs.drop 4).take 4) [0, 0, 64, 0] = true := by
  have hd : (zs.drop 4).take 4 = [zs.getD 4 0, zs.getD 5 0, zs.getD 6 0, zs.getD 7 0] := by
    apply List.ext_getElem
    · simp; omega
    · intro i h1 h2
      simp at h2
      have : i = 0 ∨ i = 1 ∨ i = 2 ∨ i = 3 := by omega
      rcases this with rfl | rfl | rfl | rfl <;> simp [List.getD, show (4:Nat) < zs.length by omega, show (5:Nat) < zs.length by omega, show (6:Nat) < zs.length by omega, show (7:Nat) < zs.length by omega]
  have b4 := hb.at 4
  have b5 := hb.at 5
  have b6 := hb.at 6
  have b7 := hb.at 7
  rw [hd, eqB_iff (by intro z hz; simp only [List.mem_cons, List.not_mem_nil, or_false] at hz; rcases hz with rfl | rfl | rfl | rfl <;> assumption) (by intro z hz; simp only [List.mem_cons, List.not_mem_nil, or_false] at hz; rcases hz with rfl | rfl | rfl | rfl <;> decide)]
  have e : takeN zs 4 4 = ((zs.getD 4 0 * 256 + zs.getD 5 0) * 256 + zs.getD 6 0) * 256 + zs.getD 7 0 := by simp [takeN, List.range_succ]
  rw [e]
  simp only [List.cons.injEq, and_true]
  omega

@[irreducible] def lowB (zs : List Int) : Bool := decide (20 ≤ (zs.length : Int))
@[irreducible] def topB (zs : List Int) : Bool := decide ((zs.length : Int) ≤ 224)
@[irreducible] def verB (zs : List Int) : Bool := zs.getD 0 0 == 69
@[irreducible] def nulB (zs : List Int) : Bool := zs.getD 1 0 == 0
@[irreducible] def mrkB (zs : List Int) : Bool := eqB ((zs.drop 4).take 4) [0, 0, 64, 0]
@[irreducible] def lenB (zs : List Int) : Bool := takeN zs 2 2 == (zs.length : Int)

/-- The head is one. -/
@[irreducible] def hdB (zs : List Int) : Bool := lowB zs && (topB zs && (verB zs && (nulB zs && (mrkB zs && lenB zs))))

/-- The code of 'ParsePacket'. -/
@[irreducible] def psC (zs : List Int) : Int :=
  if hdB zs = true then
    if sumWords (zs.take 20) = 0 then
      if zs.getD 8 0 = 0 ∨ zs.getD 9 0 = 0 then 3
      else if portsP (zs.getD 9 0) = true then (if zs.length < 24 then 5 else 0)
      else if 220 < zs.length then 2 else 0
    else 6
  else 5

@[irreducible] def psAt (zs : List Int) : Nat := if portsP (zs.getD 9 0) = true then 24 else 20
@[irreducible] def psX (zs : List Int) : Int := if portsP (zs.getD 9 0) = true then takeN zs 20 2 else 0
@[irreducible] def psY (zs : List Int) : Int := if portsP (zs.getD 9 0) = true then takeN zs 22 2 else 0

theorem ps_cases (zs : List Int) :
    (hdB zs = false ∧ Hid (psC zs = 5)) ∨
    (hdB zs = true ∧ (sumWords (zs.take 20) == 0) = false ∧ Hid (psC zs = 6)) ∨
    (hdB zs = true ∧ (sumWords (zs.take 20) == 0) = true ∧ (zs.getD 8 0 != 0) = false ∧ Hid (psC zs = 3)) ∨
    (hdB zs = true ∧ (sumWords (zs.take 20) == 0) = true ∧ (zs.getD 8 0 != 0) = true ∧ (zs.getD 9 0 != 0) = false ∧ Hid (psC zs = 3)) ∨
    (hdB zs = true ∧ (sumWords (zs.take 20) == 0) = true ∧ (zs.getD 8 0 != 0) = true ∧ (zs.getD 9 0 != 0) = true ∧ portsP (zs.getD 9 0) = true ∧ zs.length < 24 ∧ Hid (psC zs = 5)) ∨
    (hdB zs = true ∧ (sumWords (zs.take 20) == 0) = true ∧ (zs.getD 8 0 != 0) = true ∧ (zs.getD 9 0 != 0) = true ∧ portsP (zs.getD 9 0) = true ∧ 24 ≤ zs.length ∧ Hid (psC zs = 0)) ∨
    (hdB zs = true ∧ (sumWords (zs.take 20) == 0) = true ∧ (zs.getD 8 0 != 0) = true ∧ (zs.getD 9 0 != 0) = true ∧ portsP (zs.getD 9 0) = false ∧ zs.length ≤ 220 ∧ Hid (psC zs = 0)) ∨
    (hdB zs = true ∧ (sumWords (zs.take 20) == 0) = true ∧ (zs.getD 8 0 != 0) = true ∧ (zs.getD 9 0 != 0) = true ∧ portsP (zs.getD 9 0) = false ∧ 220 < zs.length ∧ Hid (psC zs = 2)) := by
  unfold psC Hid
  generalize hdB zs = a
  generalize sumWords (zs.take 20) = s
  generalize zs.getD 8 0 = l
  generalize zs.getD 9 0 = r
  generalize portsP r = p
  generalize zs.length = n
  by_cases h1 : s = 0 <;> by_cases h2 : l = 0 <;> by_cases h3 : r = 0 <;> by_cases h4 : n < 24 <;> by_cases h5 : 220 < n <;> cases a <;> cases p <;> simp [h1, h2, h3, h4, h5] <;> omega

theorem hdB_len {zs : List Int} (h : hdB zs = true) : 20 ≤ zs.length ∧ zs.length ≤ 224 := by
  unfold hdB lowB topB at h
  simp only [Bool.and_eq_true, decide_eq_true_eq] at h
  omega

end Go.Proofs.Ythjaehcfakjemaa
