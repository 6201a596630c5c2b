/- Maps from terms to numbers: what is looked up, stored, struck, counted. -/
import Derived.Test.YthjaehcfakjemaaDoorTmB
namespace Go.Proofs.YthjaehcfakjemaaDoor
open Go.RowKit

open Go.Maps (Keyed)

/-- Block b is a map of c terms: M says which number each has. -/
def TM (w : World) (b : Nat) (M : T4 → Option Int) (c : Nat) : Prop :=
  ∃ (D : DataW Unit) (n : Nat), w.ownsMap Tryd.prog 70 (plainElem Tryd.prog 2) b n D ∧ Maps.size D = c ∧ ∀ t, okT t → Maps.has D (keyL t) = (M t).isSome ∧ D.atKey (keyL t) (.lit (.int .i64 0)) = .lit (.int .i64 ((M t).getD 0))

theorem TM.lt {w : World} {b : Nat} {M : T4 → Option Int} {c : Nat} (h : TM w b M c) : b < w.heap.size := by
  obtain ⟨D, n, h, _⟩ := h; exact h.lt

theorem TM.grown {w w' : World} {b : Nat} {M : T4 → Option Int} {c : Nat} {row : Option Nat} (h : TM w b M c) (hg : w.grownBy w' row) (hne : some b ≠ row) : TM w' b M c := by
  obtain ⟨D, n, h, r⟩ := h; exact ⟨D, n, h.kept hg hne, r⟩

theorem TM.kept {w w' : World} {b : Nat} {M : T4 → Option Int} {c : Nat} (h : TM w b M c) (hb : Below w.heap.size w w') : TM w' b M c := h.grown (Below.grownBy hb none) (by simp)

theorem TM.other {w : World} {b : Nat} {M : T4 → Option Int} {c : Nat} (h : TM w b M c) {p : Addr} (hp : b ≠ p.block) (v : Value) : TM (w.setCell p v) b M c := by
  obtain ⟨D, n, h, r⟩ := h; exact ⟨D, n, h.setCell hp v, r⟩

theorem TM.apart {w : World} {b : Nat} {M : T4 → Option Int} {c : Nat} (h : TM w b M c) {B : Nat} (hp : b ≠ B) (o : Nat) (vs : List Value) : TM (w.setCells B o vs) b M c := by
  induction vs generalizing w o with
  | nil => exact h
  | cons v vs ih => exact ih (w := w.setCell ⟨B, o, .none⟩ v) (h.other (p := ⟨B, o, .none⟩) hp v) (o + 1)

theorem TM.new (w : World) : TM (w.alloc (.map #[] 0)) w.heap.size (fun _ => none) 0 :=
  ⟨.map [], 0, World.ownsMap_made _ _ _ _, rfl, fun _ _ => ⟨rfl, rfl⟩⟩

theorem TM.eq {w : World} {b : Nat} {M M' : T4 → Option Int} {c : Nat} (h : TM w b M c) (he : ∀ t, okT t → M t = M' t) : TM w b M' c := by
  obtain ⟨D, n, h, hs, r⟩ := h; exact ⟨D, n, h, hs, fun t ht => by rw [← he t ht]; exact r t ht⟩

theorem zeroI (w : World) : (zeroValue 2).run Tryd.prog w = .ok (.int .i64 0) w := by kernel_rfl

theorem TM.look {w : World} {b : Nat} {M : T4 → Option Int} {c : Nat} (h : TM w b M c) {t : T4} (ht : okT t) (d : Nat) : (Instr.lookup 56 (.map (some b)) (.agg #[.int .i64 t.o, .int .i64 t.a, .int .i64 t.b, .int .i64 t.n]) true).run Tryd.prog (w.drewN d) = .ok (.tuple #[.int .i64 ((M t).getD 0), .bool (M t).isSome]) (w.drewN d) := by
  have h := h.kept (belowN (Below.refl _ _) d)
  obtain ⟨D, n, h, _, r⟩ := h
  obtain ⟨v, ps, hrun, hv⟩ := h.look_ok lawTm Tryd.underlying56 (zeroI _) (plainElem_int Tryd.underlying2 (by decide)) (keyL_of ht)
  obtain ⟨x, rfl, hx, _⟩ := plainElem_int_inv Tryd.underlying2 hv
  rw [(r t ht).1] at hrun
  rw [hrun]
  have e := congrArg Prod.fst hx
  rw [(r t ht).2] at e
  simp only [DataW.lit.injEq, Lit.int.injEq, true_and] at e
  rw [e]

/-- One more. -/
def updM (M : T4 → Option Int) (t : T4) (v : Int) : T4 → Option Int := fun s => if s = t then some v else M s

/-- One less. -/
def delM (M : T4 → Option Int) (t : T4) : T4 → Option Int := fun s => if s = t then none else M s

theorem TM.store {w : World} {b : Nat} {M : T4 → Option Int} {c : Nat} (h : TM w b M c) {t : T4} (ht : okT t) {v : Int} (hv : okI v) (h0 : M t = none) (hc : c ≤ 1000000) :
    ∃ w', (Instr.mapUpdate 56 (.map (some b)) (.agg #[.int .i64 t.o, .int .i64 t.a, .int .i64 t.b, .int .i64 t.n]) (.int .i64 v)).run Tryd.prog w = .ok () w' ∧ TM w' b (updM M t v) (c + 1) ∧ w.mapTurned w' b := by
  obtain ⟨D, n, h, hs, r⟩ := h
  have h2 : w.ownsMap Tryd.prog 70 (plainElem Tryd.prog 2) b c D := by
    obtain ⟨es, clock, hb, F, _, hD⟩ := h
    refine ⟨es, clock, hb, F, ?_, hD⟩
    rw [← hs, hD]
    simp [Maps.size, length_sorted]
  obtain ⟨w', hrun, h', ht'⟩ := h2.store lawTm Tryd.underlying56 (by unfold maxLen; omega) (keyL_of ht) (plainElem_int Tryd.underlying2 hv)
  refine ⟨w', hrun, ⟨_, _, h', ?_, fun s hk => ?_⟩, ht'⟩
  · rw [Maps.size_put (h2.tidy lawTm), (r t ht).1, h0, hs]; rfl
  · by_cases e : s = t
    · subst e
      rw [Maps.has_put_same h2.isMap (keyL_isKey ht), Maps.atKey_put_same h2.isMap (keyL_isKey ht)]
      simp [updM]
    · have hne : keyL s ≠ keyL t := fun e' => e (keyL_inj hk ht e')
      rw [Maps.has_put_other hne, Maps.atKey_put_other hne]
      simp only [updM, if_neg e]
      exact r s hk

theorem TM.drop {w : World} {b : Nat} {M : T4 → Option Int} {c : Nat} (h : TM w b M c) {t : T4} (ht : okT t) (ty : TypeId) :
    ∃ w' c', (Builtin.delete_ #[56, 70] ty #[.map (some b), .agg #[.int .i64 t.o, .int .i64 t.a, .int .i64 t.b, .int .i64 t.n]]).run Tryd.prog w = .ok (.tuple #[]) w' ∧ TM w' b (delM M t) c' ∧ w.mapTurned w' b := by
  obtain ⟨D, n, h, hs, r⟩ := h
  obtain ⟨w', hrun, h', ht'⟩ := h.drop lawTm Tryd.underlying56 (keyL_of ht) ty
  refine ⟨w', _, hrun, ⟨_, _, h', rfl, fun s hk => ?_⟩, ht'⟩
  by_cases e : s = t
  · subst e
    rw [Maps.has_del_same, Maps.atKey_del_same]
    simp [delM]
  · have hne : keyL s ≠ keyL t := fun e' => e (keyL_inj hk ht e')
    rw [Maps.has_del_other hne, Maps.atKey_del_other hne]
    simp only [delM, if_neg e]
    exact r s hk

theorem TM.len {w : World} {b : Nat} {M : T4 → Option Int} {c : Nat} (h : TM w b M c) (ty : TypeId) (d : Nat) : (Builtin.len_ #[56] ty #[.map (some b)]).run Tryd.prog (w.drewN d) = .ok (.int .i64 c) (w.drewN d) := by
  have h := h.kept (belowN (Below.refl _ _) d)
  obtain ⟨D, n, h, hs, _⟩ := h
  rw [h.len Tryd.underlying56 ty, hs]

/-- 'm[t] = v', at one operation. -/
theorem wp_TMstore {o : Oper} {a : Act} {K : Act → World → Prop} {Q : Exit → Act → World → Prop} (w : World) (m x v : Operand) (hop : o.op = Op.mapUpdate 56 m x v)
    (b : Nat) (M : T4 → Option Int) (c : Nat) (h : TM w b M c) (t : T4) (ht : okT t) (z : Int) (hz : okI z) (h0 : M t = none) (hc : c ≤ 1000000) (hm : a.eval m = .map (some b)) (hx : a.eval x = .agg #[.int .i64 t.o, .int .i64 t.a, .int .i64 t.b, .int .i64 t.n]) (hv : a.eval v = .int .i64 z)
    (hK : ∀ w', TM w' b (updM M t z) (c + 1) → w.mapTurned w' b → K (a.put o.dst undef) w') : o.wp Tryd.prog a w K Q := by
  obtain ⟨w', hrun, r1, r2⟩ := h.store ht hz h0 hc
  unfold Oper.wp
  simp [execOp, hop, hm, hx, hv, hrun, Result.andThen]
  exact hK w' r1 r2

theorem wpList_TMstore {ops : Array Oper} {rest : List Oper} {o : Oper} {a : Act} {Q : Exit → Act → World → Prop} (w : World) (hgd : o.guard = none) (m x v : Operand) (hop : o.op = Op.mapUpdate 56 m x v)
    (b : Nat) (M : T4 → Option Int) (c : Nat) (h : TM w b M c) (t : T4) (ht : okT t) (z : Int) (hz : okI z) (h0 : M t = none) (hc : c ≤ 1000000) (hm : a.eval m = .map (some b)) (hx : a.eval x = .agg #[.int .i64 t.o, .int .i64 t.a, .int .i64 t.b, .int .i64 t.n]) (hv : a.eval v = .int .i64 z)
    (hK : ∀ w', TM w' b (updM M t z) (c + 1) → w.mapTurned w' b → wpList Tryd.prog ops Q rest (a.put o.dst undef) w') : wpList Tryd.prog ops Q (o :: rest) a w :=
  wpList_plain hgd fun _ hK' => wp_TMstore w m x v hop b M c h t ht z hz h0 hc hm hx hv fun w' r1 r2 => hK' _ _ (hK w' r1 r2)

theorem wpList_TMdrop {ops : Array Oper} {rest : List Oper} {o : Oper} {a : Act} {Q : Exit → Act → World → Prop} (w : World) (hgd : o.guard = none) (m x : Operand) (hop : o.op = Op.call { callee := Callee.builtin Builtin.delete, args := #[m, x], argTypes := #[56, 70] })
    (b : Nat) (M : T4 → Option Int) (c : Nat) (h : TM w b M c) (t : T4) (ht : okT t) (hm : a.eval m = .map (some b)) (hx : a.eval x = .agg #[.int .i64 t.o, .int .i64 t.a, .int .i64 t.b, .int .i64 t.n])
    (hK : ∀ w' c', TM w' b (delM M t) c' → w.mapTurned w' b → wpList Tryd.prog ops Q rest (a.put o.dst (.tuple #[])) w') : wpList Tryd.prog ops Q (o :: rest) a w := by
  refine wpList_plain hgd fun K' hK' => ?_
  obtain ⟨w', c', hrun, r1, r2⟩ := h.drop ht o.type
  unfold Oper.wp
  simp [execOp, hop, resolve, invoke, builtin, hm, hx, hrun, Result.andThen]
  exact hK' _ _ (hK w' c' r1 r2)

/-- The places of the terms of a table. -/
def tmM (xs : List T4) : T4 → Option Int := fun t => if t ∈ xs then some (tmIdx xs t : Nat) else none

theorem tmM_snoc {xs : List T4} {t : T4} (h : t ∉ xs) : updM (tmM xs) t (xs.length : Nat) = tmM (xs ++ [t]) := by
  funext s
  unfold updM tmM
  by_cases e : s = t
  · subst e
    rw [if_pos rfl, if_pos (by simp)]
    congr 1
    have : tmIdx (xs ++ [s]) s = xs.length := by
      unfold tmIdx
      rw [List.findIdx_append]
      have h1 : List.findIdx (fun x => x == s) xs = xs.length := tmIdx_out h
      rw [h1]; simp
    rw [this]
  · rw [if_neg e]
    by_cases hm : s ∈ xs
    · rw [if_pos hm, if_pos (by simp [hm])]
      have h1 := tmIdx_lt hm
      have : tmIdx (xs ++ [t]) s = tmIdx xs s := by
        unfold tmIdx at *
        rw [List.findIdx_append, if_pos h1]
      rw [this]
    · rw [if_neg hm, if_neg (by simp [hm, e])]

theorem tmM_nil : tmM [] = fun _ => none := by funext s; simp [tmM]

end Go.Proofs.YthjaehcfakjemaaDoor
