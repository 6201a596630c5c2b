/- Names and lists from a literal. -/
import Derived.Test.YthkmoabkeblbjaaMc
namespace Go.Proofs.Ythkmoabkeblbjaa
open Go.RowKit

theorem mkE_mono {m : Mk} {zs : List Int} (h : (mkE m zs).1.c = 0) : m.c = 0 := by
  by_cases h1 : m.c = 0
  · exact h1
  · rw [mkE_bad h1] at h; exact absurd h h1

theorem mkV_mono {m : Mk} {ns : List Int} (h : (mkV m ns).1.c = 0) : m.c = 0 := mkNs_mono (mkE_mono h)

theorem names_lit (b0 Q : Nat) (Of : Nat → Prop) (m : Mk) (ns : List Int) (w : World) (h : MP w b0 Of Q m) (hn : ns.length ≤ 1048576) (hok : ∀ z ∈ ns, okI z) :
    Calls Try.prog 73 #[.pointer (some ⟨Q, 0, none⟩), .slice (some ⟨w.heap.size, 0, none⟩) ns.length ns.length] (w.alloc (.cells (ns.map (Value.int .i64)).toArray 2)) fun e w' => ∃ v, e = .returned (.int .i64 v) ∧ (0 ≤ v ∧ v ≤ 400) ∧ ((mkV m ns).1.c = 0 → v = (mkV m ns).2) ∧ MP w' b0 Of Q (mkV m ns).1 ∧ Sm (fun k => ¬ Of k) w w' := by
  have b := belowA w (.cells (ns.map (Value.int .i64)).toArray 2)
  have M := h.more b (Nat.le_refl _) (by rw [World.size_alloc]; omega)
  refine (names_ok b0 Q _ m _ ns.length ns.length ns _ M (Rd.litI w ns) rfl hn hok (fun q hq => by simp only [Option.some.injEq] at hq; subst hq; exact .inr rfl)).mono ?_
  rintro e w' ⟨v, he, hv, hve, M2, S⟩
  exact ⟨v, he, hv, hve, M2.less (fun k hk => .inl hk), (Sm.below (X := fun k => ¬ Of k) b).trans (S.wide (fun k hk h2 => hk (.inl h2)))⟩

theorem list_lit (b0 Q : Nat) (Of : Nat → Prop) (m : Mk) (zs zs' : List Int) (w : World) (h : MP w b0 Of Q m) (hn : zs'.length ≤ 1048576) (hz : ∀ z ∈ zs', 0 ≤ z ∧ z ≤ 400) (ez : m.c = 0 → zs' = zs) :
    Calls Try.prog 68 #[.pointer (some ⟨Q, 0, none⟩), .slice (some ⟨w.heap.size, 0, none⟩) zs'.length zs'.length] (w.alloc (.cells (zs'.map (Value.int .i64)).toArray 2)) fun e w' => ∃ v, e = .returned (.int .i64 v) ∧ (0 ≤ v ∧ v ≤ 400) ∧ ((mkE m zs).1.c = 0 → v = (mkE m zs).2) ∧ MP w' b0 Of Q (mkE m zs).1 ∧ Sm (fun k => ¬ Of k) w w' := by
  have b := belowA w (.cells (zs'.map (Value.int .i64)).toArray 2)
  have M := h.more b (Nat.le_refl _) (by rw [World.size_alloc]; omega)
  refine (list_ok b0 Q _ m _ zs'.length zs'.length zs zs' _ M (Rd.litI w zs') rfl (by unfold maxLen; omega) hz ez (fun q hq => by simp only [Option.some.injEq] at hq; subst hq; exact .inr rfl)).mono ?_
  rintro e w' ⟨v, he, hv, hve, M2, S⟩
  exact ⟨v, he, hv, hve, M2.less (fun k hk => .inl hk), (Sm.below (X := fun k => ¬ Of k) b).trans (S.wide (fun k hk h2 => hk (.inl h2)))⟩

end Go.Proofs.Ythkmoabkeblbjaa
