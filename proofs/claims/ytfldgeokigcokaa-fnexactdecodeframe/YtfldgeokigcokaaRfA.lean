/- A reader of bytes, by how far it has come; a frame written again. -/
import Derived.Test.YtfldgeokigcokaaDFj
import Derived.Test.YtfldgeokigcokaaDFe
import Derived.Test.YtfldgeokigcokaaDFg
namespace Go.Proofs.Ytfldgeokigcokaa
open Go.RowKit

theorem Sm.wider {X Y : Nat → Prop} {w w' : World} (h : Sm X w w') (hx : ∀ k, X k → Y k) : Sm Y w w' := ⟨h.os, h.tape, h.output, h.size, fun k hk hn => h.block k hk (fun e => hn (hx k e))⟩

theorem takeN_drop (ds : List Int) (off s : Nat) : takeN (ds.drop off) 0 s = takeN ds off s := by
  unfold takeN
  congr 1
  funext n i
  rw [getD_drop, Nat.zero_add]

theorem takeN_byte (ds : List Int) (off : Nat) : takeN ds off 1 = ds.getD off 0 := by
  rw [show (1 : Nat) = 0 + 1 from rfl, takeN_succ]; simp [takeN]

/-- The reader at P has come so far. -/
def RdAt (w : World) (P : Nat) (bk : Value) (bx : Nat) (ds : List Int) (off : Nat) : Prop := ∃ x d, Rdr w P bk bx x (ds.length - off) d (ds.drop off) ∧ x ≠ none

theorem RdAt.sm {X : Nat → Prop} {w w' : World} {P : Nat} {bk : Value} {bx : Nat} {ds : List Int} {off : Nat} (h : RdAt w P bk bx ds off) (s : Sm X w w') (hP : ¬ X P) (hb : ¬ X bx) : RdAt w' P bk bx ds off := by
  obtain ⟨x, d, R, hn⟩ := h; exact ⟨x, d, R.sm s hP hb, hn⟩

theorem RdAt.kept {w w' : World} {P : Nat} {bk : Value} {bx : Nat} {ds : List Int} {off : Nat} (h : RdAt w P bk bx ds off) (b : Below w.heap.size w w') : RdAt w' P bk bx ds off := by
  obtain ⟨x, d, R, hn⟩ := h; exact ⟨x, d, R.kept b, hn⟩

theorem numAt_no (P : Nat) (bk : Value) (bx : Nat) (ds : List Int) (off s : Nat) (w : World) (R : RdAt w P bk bx ds off) (hb : Bytes ds) (hs : ds.length < off + s) (h1 : 1 ≤ s) :
    Calls Try.prog 75 #[.pointer (some ⟨P, 0, none⟩), .int .i64 (s : Int)] w fun e w' => e = stop 5 ∧ Below w.heap.size w w' := by
  obtain ⟨x, d, R, _⟩ := R
  exact number_no P bk bx x _ d (ds.drop off) s w R (fun z hz => hb z (List.mem_of_mem_drop hz)) (by omega)

theorem numAt_ok (P : Nat) (bk : Value) (bx : Nat) (ds : List Int) (off s : Nat) (w : World) (R : RdAt w P bk bx ds off) (hb : Bytes ds) (hs : off + s ≤ ds.length) (h1 : 1 ≤ s) (h7 : s ≤ 7) (hne : ds = [] ∨ bx ≠ P) :
    Calls Try.prog 75 #[.pointer (some ⟨P, 0, none⟩), .int .i64 (s : Int)] w fun e w' => e = .returned (.int .i64 (takeN ds off s)) ∧ Sm (fun k => k = P) w w' ∧ RdAt w' P bk bx ds (off + s) := by
  have hne : bx ≠ P := by
    rcases hne with h | h
    · subst h; simp at hs; omega
    · exact h
  obtain ⟨x, d, R, _⟩ := R
  refine (number_some P bk bx x _ d (ds.drop off) s w R (fun z hz => hb z (List.mem_of_mem_drop hz)) h1 h7 (by omega) hne).mono ?_
  rintro e w' ⟨rfl, S, x', R', hn⟩
  refine ⟨by rw [takeN_drop], S, x', d - s, ?_, hn⟩
  rw [List.drop_drop, show ds.length - off - s = ds.length - (off + s) by omega] at R'
  exact R'

theorem fd_short {ds : List Int} (h : ds.length < 16) : fdB ds = false := by
  cases hf : fdB ds with
  | false => rfl
  | true => have := (fd_iff.1 hf).1; omega

/-- Bytes are a frame where the same bytes come of writing it again. -/
theorem fr_again {ds : List Int} (hb : Bytes ds) (hl : 16 ≤ ds.length) : frmB (ds.getD 1 0) (takeN ds 2 4) (takeN ds 6 4) (takeN ds 10 4) (ds.drop 16) = ds ↔ fdB ds = true := by
  constructor
  · intro h
    have hc : frmC (ds.getD 1 0) (takeN ds 2 4) (takeN ds 6 4) (takeN ds 10 4) (ds.drop 16) = 0 ∧ frmP (ds.getD 1 0) (takeN ds 2 4) (takeN ds 6 4) (takeN ds 10 4) (ds.drop 16) = ds := by
      have hne : ds ≠ [] := by intro e; rw [e] at hl; simp at hl
      rcases fr_ways (ds.getD 1 0) (takeN ds 2 4) (takeN ds 6 4) (takeN ds 10 4) (ds.drop 16) with ⟨_, _, e⟩ | ⟨_, _, _, e⟩ | ⟨_, _, _, _, e⟩ | ⟨_, _, _, _, _, e⟩ | ⟨_, _, _, _, _, _, e⟩ | ⟨_, _, _, _, _, c, e⟩
      · exact absurd (h.symm.trans e) hne
      · exact absurd (h.symm.trans e) hne
      · exact absurd (h.symm.trans e) hne
      · exact absurd (h.symm.trans e) hne
      · exact absurd (h.symm.trans e) hne
      · exact ⟨c, e.symm.trans h⟩
    have := (fr_there hc.1).1
    rw [hc.2] at this
    exact this
  · intro h
    obtain ⟨h1, h2⟩ := fr_back hb h
    unfold frmB
    rw [if_pos h1]; exact h2

theorem frmB_bytes {kind a b n : Int} {body : List Int} (hb : Bytes body) : Bytes (frmB kind a b n body) := by
  rcases fr_ways kind a b n body with ⟨_, _, e⟩ | ⟨_, _, _, e⟩ | ⟨_, _, _, _, e⟩ | ⟨_, _, _, _, _, e⟩ | ⟨_, _, _, _, _, _, e⟩ | ⟨h1, _, _, _, _, _, e⟩ <;> rw [e]
  iterate 5 (· intro z hz; simp at hz)
  have hk := btw_iff.1 h1
  have hp : ∀ (x : Int) (s : Nat), Bytes (putN x s) := fun x s z hz => by
    simp only [putN, List.mem_map] at hz
    obtain ⟨i, _, rfl⟩ := hz
    unfold digitN
    omega
  unfold frmP
  intro z hz
  simp only [List.mem_append, List.mem_cons, List.not_mem_nil, or_false] at hz
  rcases hz with ((((h | h) | h) | h) | h) | h
  · omega
  · exact hp _ _ z h
  · exact hp _ _ z h
  · exact hp _ _ z h
  · exact hp _ _ z h
  · exact hb z h

end Go.Proofs.Ytfldgeokigcokaa
