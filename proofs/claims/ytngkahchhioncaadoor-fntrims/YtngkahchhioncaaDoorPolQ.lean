/- Rules and answers compared with themselves; lengths told by name. -/
import Derived.Test.YtngkahchhioncaaDoorPolP
import Derived.Test.YtngkahchhioncaaDoorPolM
namespace Go.Proofs.YtngkahchhioncaaDoor
open Go.RowKit

theorem eqSelIn (x : S9) (w : World) : (Op.equalIn 9999 32 (.agg #[.int .i64 x.a, .int .i64 x.b, .int .i64 x.c, .int .i64 x.d, .int .i64 x.e, .int .i64 x.f, .int .i64 x.g, .int .i64 x.h, .int .i64 x.r]) (.agg #[.int .i64 x.a, .int .i64 x.b, .int .i64 x.c, .int .i64 x.d, .int .i64 x.e, .int .i64 x.f, .int .i64 x.g, .int .i64 x.h, .int .i64 x.r])).run Tryd.prog w = .ok true w := by
  have u3 := Tryd.underlying2
  have a3 := Tryd.isAgg2
  have z3 := Tryd.sizeOf2
  have ga := Tryd.isAgg30
  have gz := Tryd.sizeOf30
  have q := fun a b c e w => eqRng 9996 a b c e w
  have hS : Tryd.prog.underlying 32 = some (.struct (Tryd.prog.fieldsOf 32)) := by kernel_rfl
  rw [show (9999 : Nat) = 9998 + 1 from rfl, run_equalIn_agg w 9998 32 _ _ hS (by kernel_rfl)]
  simp only [Program.fieldsOf, Tryd.underlying32]
  go_simp

theorem eqRuleSelf (x : R11) (w : World) : (Op.equalIn 10000 34 (.agg #[.int .i64 x.s.a, .int .i64 x.s.b, .int .i64 x.s.c, .int .i64 x.s.d, .int .i64 x.s.e, .int .i64 x.s.f, .int .i64 x.s.g, .int .i64 x.s.h, .int .i64 x.s.r, .int .i64 x.p, .int .i64 x.q]) (.agg #[.int .i64 x.s.a, .int .i64 x.s.b, .int .i64 x.s.c, .int .i64 x.s.d, .int .i64 x.s.e, .int .i64 x.s.f, .int .i64 x.s.g, .int .i64 x.s.h, .int .i64 x.s.r, .int .i64 x.p, .int .i64 x.q])).run Tryd.prog w = .ok true w := by
  have u3 := Tryd.underlying2
  have a3 := Tryd.isAgg2
  have z3 := Tryd.sizeOf2
  have ga := Tryd.isAgg32
  have gz := Tryd.sizeOf32
  have q := eqSelIn
  have hS : Tryd.prog.underlying 34 = some (.struct (Tryd.prog.fieldsOf 34)) := by kernel_rfl
  rw [show (10000 : Nat) = 9999 + 1 from rfl, run_equalIn_agg w 9999 34 _ _ hS (by kernel_rfl)]
  simp only [Program.fieldsOf, Tryd.underlying34]
  go_simp

theorem neqRuleSelf (x : R11) (w : World) : (binOp .neq 34 (.agg #[.int .i64 x.s.a, .int .i64 x.s.b, .int .i64 x.s.c, .int .i64 x.s.d, .int .i64 x.s.e, .int .i64 x.s.f, .int .i64 x.s.g, .int .i64 x.s.h, .int .i64 x.s.r, .int .i64 x.p, .int .i64 x.q]) (.agg #[.int .i64 x.s.a, .int .i64 x.s.b, .int .i64 x.s.c, .int .i64 x.s.d, .int .i64 x.s.e, .int .i64 x.s.f, .int .i64 x.s.g, .int .i64 x.s.h, .int .i64 x.s.r, .int .i64 x.p, .int .i64 x.q])).run Tryd.prog w = .ok (.bool false) w := by
  rw [run_neq_struct, eqRuleSelf]
  rfl

theorem eqIrSelf (a b : Int) (w : World) : (Op.equalIn 10000 39 (.agg #[.int .i64 a, .int .i64 b]) (.agg #[.int .i64 a, .int .i64 b])).run Tryd.prog w = .ok true w := by
  have u3 := Tryd.underlying2
  have a3 := Tryd.isAgg2
  have z3 := Tryd.sizeOf2
  have hS : Tryd.prog.underlying 39 = some (.struct (Tryd.prog.fieldsOf 39)) := by kernel_rfl
  rw [show (10000 : Nat) = 9999 + 1 from rfl, run_equalIn_agg w 9999 39 _ _ hS (by kernel_rfl)]
  simp only [Program.fieldsOf, Tryd.underlying39]
  go_simp

theorem neqIrSelf (a b : Int) (w : World) : (binOp .neq 39 (.agg #[.int .i64 a, .int .i64 b]) (.agg #[.int .i64 a, .int .i64 b])).run Tryd.prog w = .ok (.bool false) w := by
  rw [run_neq_struct, eqIrSelf]
  rfl

theorem implShad_fix (a : Option Addr) (n ca : Nat) (xs : List R11) (K : Nat) (w : World) (ha : RdRule w a xs) (hn : xs.length = n) (hx : n ≤ maxLen) (hK : (srL xs).length = K) :
    Calls Tryd.prog 24 #[.slice a n ca] w fun e w' => ∃ (c : Option Addr) (d : Nat), e = .returned (.agg #[.int .i64 (pyC xs), .slice c K d]) ∧ Below w.heap.size w w' := by
  refine (implShadowedRules_ok a n ca xs w ha hn hx).mono ?_
  rintro e w' ⟨c, d, k, he, hk, _, hb⟩
  exact ⟨c, d, by rw [he, ← hK, hk], hb⟩

theorem specTrim_fix (a : Option Addr) (n ca : Nat) (xs : List R11) (K : Nat) (w : World) (ha : RdRule w a xs) (hn : xs.length = n) (hx : n ≤ maxLen) (hK : (tpL xs).length = K) :
    Calls Tryd.prog 21 #[.slice a n ca] w fun e w' => ∃ (c : Option Addr) (d : Nat), e = .returned (.agg #[.int .i64 (pyC xs), .slice c K d]) ∧ Below w.heap.size w w' := by
  refine (specTrimPolicy_ok a n ca xs w ha hn hx).mono ?_
  rintro e w' ⟨c, d, k, he, hk, _, hb⟩
  exact ⟨c, d, by rw [he, ← hK, hk], hb⟩

theorem specSwap_fix (a : Option Addr) (n ca : Nat) (xs : List R11) (t : Int) (K : Nat) (w : World) (ha : RdRule w a xs) (hn : xs.length = n) (hx : n ≤ maxLen) (ht : -9223372036854775808 ≤ t ∧ t ≤ 9223372036854775807) (hK : (swL xs t).length = K) :
    Calls Tryd.prog 23 #[.slice a n ca, .int .i64 t] w fun e w' => ∃ (c : Option Addr) (d : Nat), e = .returned (.agg #[.int .i64 (swC xs t), .slice c K d]) ∧ Below w.heap.size w w' := by
  refine (specSwapRules_ok a n ca xs t w ha hn hx ht).mono ?_
  rintro e w' ⟨c, d, k, he, hk, _, hb⟩
  exact ⟨c, d, by rw [he, ← hK, hk], hb⟩

theorem implTrim_fix (a : Option Addr) (n ca : Nat) (xs : List R11) (K : Nat) (w : World) (ha : RdRule w a xs) (hn : xs.length = n) (hx : n ≤ maxLen) (hK : (tpL xs).length = K) :
    Calls Tryd.prog 20 #[.slice a n ca] w fun e w' => ∃ (c : Option Addr) (d : Nat), e = .returned (.agg #[.int .i64 (pyC xs), .slice c K d]) ∧ RdRule w' c (tpL xs) ∧ Below w.heap.size w w' := by
  refine (implTrimPolicy_ok a n ca xs w ha hn hx).mono ?_
  rintro e w' ⟨c, d, k, he, hk, ho, hb⟩
  exact ⟨c, d, by rw [he, ← hK, hk], ho.rd, hb⟩

theorem implSwap_fix (a : Option Addr) (n ca : Nat) (xs : List R11) (t : Int) (K : Nat) (w : World) (ha : RdRule w a xs) (hn : xs.length = n) (hx : n ≤ maxLen) (ht : -9223372036854775808 ≤ t ∧ t ≤ 9223372036854775807) (hK : (swL xs t).length = K) :
    Calls Tryd.prog 22 #[.slice a n ca, .int .i64 t] w fun e w' => ∃ (c : Option Addr) (d : Nat), e = .returned (.agg #[.int .i64 (swC xs t), .slice c K d]) ∧ RdRule w' c (swL xs t) ∧ Below w.heap.size w w' := by
  refine (implSwapRules_ok a n ca xs t w ha hn hx ht).mono ?_
  rintro e w' ⟨c, d, k, he, hk, ho, hb⟩
  exact ⟨c, d, by rw [he, ← hK, hk], ho.rd, hb⟩

theorem fieldRs0 (k v : Value) (w : World) : (Instr.field 45 (.agg #[k, v]) 0).run Tryd.prog w = .ok k w := by kernel_rfl
theorem fieldRs1 (k v : Value) (w : World) : (Instr.field 45 (.agg #[k, v]) 1).run Tryd.prog w = .ok v w := by kernel_rfl
theorem fieldIs1 (k v : Value) (w : World) : (Instr.field 50 (.agg #[k, v]) 1).run Tryd.prog w = .ok v w := by kernel_rfl

end Go.Proofs.YtngkahchhioncaaDoor
