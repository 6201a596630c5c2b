/- Maps from terms to numbers: keys. -/
import Derived.Test.YthjaehcfakjemaaDoorTmM
import Derived.Maps.OwnSet
import Derived.DeepKeys4
namespace Go.Proofs.YthjaehcfakjemaaDoor
open Go.RowKit

open Go.Maps (Keyed)

/-- A number is an int64's. -/
def okI (x : Int) : Prop := (Lit.int .i64 x).wf = true

/-- Each number of a term is an int64's. -/
def okT (t : T4) : Prop := okI t.o ∧ okI t.a ∧ okI t.b ∧ okI t.n

theorem okI_of {x : Int} (h0 : -9223372036854775808 ≤ x) (h1 : x ≤ 9223372036854775807) : okI x := by
  unfold okI
  simp only [Lit.wf, Bool.and_eq_true, decide_eq_true_iff]
  have e1 : IntKind.i64.min = -9223372036854775808 := by rfl
  have e2 : IntKind.i64.max = 9223372036854775807 := by rfl
  rw [e1, e2]
  exact ⟨h0, h1⟩

theorem okI_in {x : Int} (h : okI x) : -9223372036854775808 ≤ x ∧ x ≤ 9223372036854775807 := wfI64 h

theorem Tryd.laidOut : laidOutB Tryd.prog = true := by kernel_rfl
theorem rowTm : (70 : TypeId) < Tryd.prog.types.size := of_decide_eq_true (by kernel_rfl)
theorem cellsTm : Tryd.prog.cellsOf 70 = 4 := by kernel_rfl
theorem cellsI : Tryd.prog.cellsOf 2 = 1 := by kernel_rfl
theorem keyTypeTm : Tryd.prog.keyType 70 = true := by kernel_rfl
theorem klTm : WideMaps.KeyLaw Tryd.prog 70 := deep_law_laid Tryd.laidOut (m := 2) (by decide) rowTm (by kernel_rfl) (by kernel_rfl)
theorem lawTm : Keyed Tryd.prog 70 := Keyed.of_law klTm
theorem structTm : Tryd.prog.underlying 70 = some (.struct (Tryd.prog.fieldsOf 70)) := by kernel_rfl
theorem formedTm (t : T4) : (Value.agg #[.int .i64 t.o, .int .i64 t.a, .int .i64 t.b, .int .i64 t.n]).formed Tryd.prog 70 = true := by
  obtain ⟨fs, hu⟩ : ∃ fs, Tryd.prog.underlying 70 = some (.struct fs) := ⟨_, structTm⟩
  simp [Value.formed, hu, cellsTm]

/-- What a term reads as, as a key. -/
def keyL (t : T4) : Lit := .string (keyBytes [.int .i64 t.o, .int .i64 t.a, .int .i64 t.b, .int .i64 t.n])

theorem litsI (n : Nat) {x : Int} (h : okI x) : Tryd.prog.keyLits (n + 1) 2 [.int .i64 x] = some [.int .i64 x] := by
  unfold okI at h
  simp [Program.keyLits, Tryd.underlying2, h]

theorem fieldsTm : (Tryd.prog.fieldsOf 70).toList.map (fun f => (f.type, f.offset)) = [(2, 0), (2, 1), (2, 2), (2, 3)] := by kernel_rfl

theorem namesTm : (Tryd.prog.fieldsOf 70).all (·.name != "_") = true := by kernel_rfl

theorem mapM_fields {f : TypeId × Nat → Option (List Lit)} : ∀ (fs : List Field), fs.mapM (fun x => f (x.type, x.offset)) = (fs.map fun x => (x.type, x.offset)).mapM f
  | [] => rfl
  | x :: r => by simp [List.mapM_cons, mapM_fields r]

theorem litsTm (n : Nat) {t : T4} (h : okT t) : Tryd.prog.keyLits (n + 2) 70 [.int .i64 t.o, .int .i64 t.a, .int .i64 t.b, .int .i64 t.n] = some [.int .i64 t.o, .int .i64 t.a, .int .i64 t.b, .int .i64 t.n] := by
  obtain ⟨h1, h2, h3, h4⟩ := h
  unfold Program.keyLits
  rw [structTm]
  have hl : ([.int .i64 t.o, .int .i64 t.a, .int .i64 t.b, .int .i64 t.n] : List Value).length = Tryd.prog.cellsOf 70 ∧ (Tryd.prog.fieldsOf 70).all (·.name != "_") = true := ⟨by rw [cellsTm]; rfl, namesTm⟩
  simp only [hl, and_self, if_true]
  have e := mapM_fields (f := fun x => Tryd.prog.keyLits (n + 1) x.1 (List.take (Tryd.prog.cellsOf x.1) (List.drop x.2 [.int .i64 t.o, .int .i64 t.a, .int .i64 t.b, .int .i64 t.n]))) (Tryd.prog.fieldsOf 70).toList
  simp only at e
  rw [e, fieldsTm]
  simp [cellsI, litsI n h1, litsI n h2, litsI n h3, litsI n h4]

theorem keyL_of {t : T4} (h : okT t) : keyOf Tryd.prog 70 (.agg #[.int .i64 t.o, .int .i64 t.a, .int .i64 t.b, .int .i64 t.n]) = some (keyL t) := by
  unfold keyOf
  rw [structTm]
  simp only [keyTypeTm, formedTm, Bool.and_self, if_true]
  have e : Tryd.prog.types.size + 1 = (Tryd.prog.types.size - 1) + 2 := by
    have h0 : 0 < Tryd.prog.types.size := of_decide_eq_true (by kernel_rfl)
    omega
  rw [e]
  show (Tryd.prog.keyLits _ 70 [.int .i64 t.o, .int .i64 t.a, .int .i64 t.b, .int .i64 t.n]).map _ = _
  rw [litsTm _ h]
  rfl

theorem keyL_isKey {t : T4} (h : okT t) : WideAt.IsKeyLit (keyL t) := lawTm.key (keyL_of h)

theorem keyL_inj {s t : T4} (hs : okT s) (ht : okT t) (h : keyL s = keyL t) : s = t := by
  have e := lawTm.inj (keyL_of hs) (h ▸ keyL_of ht)
  obtain ⟨a, b, c, d⟩ := s
  obtain ⟨a', b', c', d'⟩ := t
  simpa using e

end Go.Proofs.YthjaehcfakjemaaDoor
