/- Frames as bytes (math). -/
import Derived.Test.YtfldgeokigcokaaGreatPut
import Derived.Test.YtfldgeokigcokaaGreatTake
import Derived.Test.YtfldgeokigcokaaGreatWrA
namespace Go.Proofs.YtfldgeokigcokaaGreat
open Go.RowKit

theorem putN_of2 (n : Int) : putN n 2 = [n / 256 % 256, n % 256] := by
  simp [putN, digitN, List.range_succ]
theorem putN_of4 (n : Int) : putN n 4 = [n / 16777216 % 256, n / 65536 % 256, n / 256 % 256, n % 256] := by
  simp [putN, digitN, List.range_succ]

/-- A frame's bytes. -/
@[irreducible] def frmP (kind a b n : Int) (body : List Int) : List Int := (((([32, kind] ++ putN a 4) ++ putN b 4) ++ putN n 4) ++ putN (body.length : Int) 2) ++ body

/-- The fault of a frame. -/
@[irreducible] def frmC (kind a b n : Int) (body : List Int) : Int :=
  if btw kind 1 9 = true ∧ btw a 0 4294967295 = true ∧ btw b 0 4294967295 = true ∧ btw n 0 4294967295 = true then (if body.length ≤ 300 then 0 else 2) else 3

@[irreducible] def frmB (kind a b n : Int) (body : List Int) : List Int := if frmC kind a b n body = 0 then frmP kind a b n body else []

theorem fr_ways (kind a b n : Int) (body : List Int) :
    (btw kind 1 9 = false ∧ frmC kind a b n body = 3 ∧ frmB kind a b n body = [])
    ∨ (btw kind 1 9 = true ∧ btw a 0 4294967295 = false ∧ frmC kind a b n body = 3 ∧ frmB kind a b n body = [])
    ∨ (btw kind 1 9 = true ∧ btw a 0 4294967295 = true ∧ btw b 0 4294967295 = false ∧ frmC kind a b n body = 3 ∧ frmB kind a b n body = [])
    ∨ (btw kind 1 9 = true ∧ btw a 0 4294967295 = true ∧ btw b 0 4294967295 = true ∧ btw n 0 4294967295 = false ∧ frmC kind a b n body = 3 ∧ frmB kind a b n body = [])
    ∨ (btw kind 1 9 = true ∧ btw a 0 4294967295 = true ∧ btw b 0 4294967295 = true ∧ btw n 0 4294967295 = true ∧ 300 < body.length ∧ frmC kind a b n body = 2 ∧ frmB kind a b n body = [])
    ∨ (btw kind 1 9 = true ∧ btw a 0 4294967295 = true ∧ btw b 0 4294967295 = true ∧ btw n 0 4294967295 = true ∧ body.length ≤ 300 ∧ frmC kind a b n body = 0 ∧ frmB kind a b n body = frmP kind a b n body) := by
  unfold frmB frmC
  cases btw kind 1 9 <;> cases btw a 0 4294967295 <;> cases btw b 0 4294967295 <;> cases btw n 0 4294967295 <;> simp
  by_cases h : body.length ≤ 300
  · simp [h]; omega
  · simp [h]; omega

theorem frmP_len (kind a b n : Int) (body : List Int) : (frmP kind a b n body).length = 16 + body.length := by
  unfold frmP; simp [length_putN]; omega

/-- Bytes that are a frame. -/
@[irreducible] def fdB (ds : List Int) : Bool := btw (ds.length : Int) 16 316 && ((ds.getD 0 0 == 32) && (btw (ds.getD 1 0) 1 9 && (takeN ds 14 2 == (ds.length : Int) - 16)))

theorem fd_iff {ds : List Int} : fdB ds = true ↔ (16 ≤ ds.length ∧ ds.length ≤ 316) ∧ ds.getD 0 0 = 32 ∧ btw (ds.getD 1 0) 1 9 = true ∧ takeN ds 14 2 = (ds.length : Int) - 16 := by
  unfold fdB
  simp only [Bool.and_eq_true, btw_iff, beq_iff_eq]
  constructor
  · rintro ⟨⟨h1, h2⟩, h3, h4, h5⟩; exact ⟨⟨by omega, by omega⟩, h3, h4, h5⟩
  · rintro ⟨⟨h1, h2⟩, h3, h4, h5⟩; exact ⟨⟨by omega, by omega⟩, h3, h4, h5⟩

theorem takeN_four (zs : List Int) (p : Nat) : takeN zs p 4 = ((zs.getD p 0 * 256 + zs.getD (p + 1) 0) * 256 + zs.getD (p + 2) 0) * 256 + zs.getD (p + 3) 0 := by
  rw [takeN_succ, takeN_succ, takeN_succ, takeN_succ]; simp [takeN]

theorem takeN_twice (zs : List Int) (p : Nat) : takeN zs p 2 = zs.getD p 0 * 256 + zs.getD (p + 1) 0 := by
  rw [takeN_succ, takeN_succ]; simp [takeN]

/-- What is written is read. -/
theorem fr_there {kind a b n : Int} {body : List Int} (h : frmC kind a b n body = 0) :
    fdB (frmP kind a b n body) = true ∧ (frmP kind a b n body).getD 1 0 = kind ∧ takeN (frmP kind a b n body) 2 4 = a ∧ takeN (frmP kind a b n body) 6 4 = b ∧ takeN (frmP kind a b n body) 10 4 = n ∧ (frmP kind a b n body).drop 16 = body := by
  rcases fr_ways kind a b n body with ⟨_, e, _⟩ | ⟨_, _, e, _⟩ | ⟨_, _, _, e, _⟩ | ⟨_, _, _, _, e, _⟩ | ⟨_, _, _, _, _, e, _⟩ | ⟨h1, h2, h3, h4, h5, _, _⟩
  iterate 5 omega
  have g2 := btw_iff.1 h2
  have g3 := btw_iff.1 h3
  have g4 := btw_iff.1 h4
  have hl := frmP_len kind a b n body
  have e : frmP kind a b n body = 32 :: kind :: (a / 16777216 % 256) :: (a / 65536 % 256) :: (a / 256 % 256) :: (a % 256) :: (b / 16777216 % 256) :: (b / 65536 % 256) :: (b / 256 % 256) :: (b % 256) :: (n / 16777216 % 256) :: (n / 65536 % 256) :: (n / 256 % 256) :: (n % 256) :: ((body.length : Int) / 256 % 256) :: ((body.length : Int) % 256) :: body := by
    unfold frmP; rw [putN_of4, putN_of4, putN_of4, putN_of2]; rfl
  rw [fd_iff, takeN_four, takeN_four, takeN_four, takeN_twice, hl, e]
  simp only [List.getD_cons_succ, List.getD_cons_zero, List.drop_succ_cons, List.drop_zero]
  refine ⟨⟨⟨by omega, by omega⟩, trivial, h1, by omega⟩, trivial, by omega, by omega, by omega, trivial⟩

theorem head_16 {ds : List Int} (h : 16 ≤ ds.length) : ds = ds.getD 0 0 :: ds.getD 1 0 :: ds.getD 2 0 :: ds.getD 3 0 :: ds.getD 4 0 :: ds.getD 5 0 :: ds.getD 6 0 :: ds.getD 7 0 :: ds.getD 8 0 :: ds.getD 9 0 :: ds.getD 10 0 :: ds.getD 11 0 :: ds.getD 12 0 :: ds.getD 13 0 :: ds.getD 14 0 :: ds.getD 15 0 :: ds.drop 16 := by
  have step : ∀ k, k < ds.length → ds.drop k = ds.getD k 0 :: ds.drop (k + 1) := fun k hk => drop_get ds k hk
  conv => lhs; rw [← List.drop_zero (l := ds), step 0 (by omega), step 1 (by omega), step 2 (by omega), step 3 (by omega), step 4 (by omega), step 5 (by omega), step 6 (by omega), step 7 (by omega), step 8 (by omega), step 9 (by omega), step 10 (by omega), step 11 (by omega), step 12 (by omega), step 13 (by omega), step 14 (by omega), step 15 (by omega)]

/-- What is read is written back. -/
theorem fr_back {ds : List Int} (hb : ∀ x ∈ ds, 0 ≤ x ∧ x < 256) (h : fdB ds = true) :
    frmC (ds.getD 1 0) (takeN ds 2 4) (takeN ds 6 4) (takeN ds 10 4) (ds.drop 16) = 0 ∧ frmP (ds.getD 1 0) (takeN ds 2 4) (takeN ds 6 4) (takeN ds 10 4) (ds.drop 16) = ds := by
  obtain ⟨⟨l1, l2⟩, h0, h1, h2⟩ := fd_iff.1 h
  have byte : ∀ i, 0 ≤ ds.getD i 0 ∧ ds.getD i 0 < 256 := fun i => by
    by_cases hi : i < ds.length
    · have : ds.getD i 0 ∈ ds := by simp [List.getD, hi]
      exact hb _ this
    · simp [List.getD, List.getElem?_eq_none (Nat.le_of_not_lt hi)]
  rw [takeN_twice] at h2
  rw [takeN_four, takeN_four, takeN_four]
  have b2 := byte 2
  have b3 := byte 3
  have b4 := byte 4
  have b5 := byte 5
  have b6 := byte 6
  have b7 := byte 7
  have b8 := byte 8
  have b9 := byte 9
  have b10 := byte 10
  have b11 := byte 11
  have b12 := byte 12
  have b13 := byte 13
  have b14 := byte 14
  have b15 := byte 15
  simp only [Nat.reduceAdd] at *
  constructor
  · unfold frmC
    rw [if_pos ⟨h1, btw_iff.2 (by omega), btw_iff.2 (by omega), btw_iff.2 (by omega)⟩, if_pos (by simp; omega)]
  · have hd : ((ds.drop 16).length : Int) = ds.length - 16 := by simp; omega
    have H := head_16 l1
    unfold frmP
    rw [putN_of4, putN_of4, putN_of4, putN_of2, hd]
    conv => rhs; rw [H]
    simp only [List.cons_append, List.nil_append, List.cons.injEq, and_true, true_and]
    exact ⟨h0.symm, by omega⟩

end Go.Proofs.YtfldgeokigcokaaGreat
