/- 'TakeParts', the model's and the program's, by contracts. -/
import Derived.Test.YtnclfbliimcpgaaLots
import Derived.Test.YtnclfbliimcpgaaApp
import Derived.WalkSpells
namespace Go.Proofs.Ytnclfbliimcpgaa
open Go.RowKit

/-- The parts that bytes are made of: at most so many. -/
def cutN : Nat → List Int → Option (List (List Int))
  | _, [] => some []
  | 0, _ :: _ => none
  | n + 1, z :: r => if z.toNat ≤ r.length then (cutN n (r.drop z.toNat)).map (r.take z.toNat :: ·) else none

theorem cutN_nil (n : Nat) : cutN n [] = some [] := by cases n <;> rfl

theorem cutN_full (z : Int) (r : List Int) : cutN 0 (z :: r) = none := rfl

theorem cutN_over (n : Nat) (z : Int) (r : List Int) (h : ¬ z.toNat ≤ r.length) : cutN n (z :: r) = none := by
  cases n with
  | zero => rfl
  | succ n => simp [cutN, h]

theorem cutN_next (n : Nat) (z : Int) (r : List Int) (h : z.toNat ≤ r.length) : cutN (n + 1) (z :: r) = (cutN n (r.drop z.toNat)).map (r.take z.toNat :: ·) := by
  simp [cutN, h]

/-- The code and the parts that 'TakeParts' answers. -/
def tpOf (zs : List Int) (k : Int) (zss : List (List Int)) : Prop :=
  (400 < zs.length → k = 2 ∧ zss = []) ∧ (zs.length ≤ 400 → cutN 20 zs = none → k = 5 ∧ zss = []) ∧ (zs.length ≤ 400 → ∀ r, cutN 20 zs = some r → k = 0 ∧ zss = r)

theorem tp_is (zs : List Int) : ∃ k zss, tpOf zs k zss := by
  by_cases h : 400 < zs.length
  · exact ⟨2, [], fun _ => ⟨rfl, rfl⟩, fun h' => by omega, fun h' => by omega⟩
  · cases hc : cutN 20 zs with
    | none => exact ⟨5, [], fun h' => absurd h' h, fun _ _ => ⟨rfl, rfl⟩, fun _ r hr => by rw [hc] at hr; cases hr⟩
    | some r => exact ⟨0, r, fun h' => absurd h' h, fun _ h' => (by rw [hc] at h'; cases h'), fun _ r' hr => (by rw [hc] at hr; simp at hr; exact ⟨rfl, hr⟩)⟩

theorem Rd.off {k : IntKind} {w : World} {b off : Nat} {zs : List Int} (h : ∀ i, i < zs.length → w.cell? ⟨b, off + i, none⟩ = some (.int k (zs.getD i 0))) (p m : Nat) : Rd k w (some ⟨b, off + p, none⟩) ((zs.drop p).take m) := by
  refine .inr ⟨b, off + p, rfl, fun i hi => ?_⟩
  have hi' : i < m ∧ p + i < zs.length := by simp at hi; omega
  rw [Nat.add_assoc, h (p + i) (by omega)]
  simp [List.getD, hi'.1, List.getElem?_drop]

theorem clone_ok (x : Addr) (m cap : Nat) (zs : List Int) (w : World) (ha : Rd .u8 w (some x) zs) (hm : zs.length = m) (hx : m ≤ 1048576) :
    Calls Try.prog 47 #[.slice (some x) m cap] w fun e w' => ∃ c d, e = .returned (.slice c m d) ∧ Own .u8 5 w' w.heap.size c d zs ∧ Below w.heap.size w w' := by
  obtain ⟨i0, hi, g0, g1, g2⟩ := info_parts Try.info_u8
  have hmade : (w.alloc (.cells #[] 5)).ownsRow w.heap.size 5 1 (.slice (some ⟨w.heap.size, 0, none⟩) 0 0) 0 (([] : List Int).map (Value.int .u8)) := by
    simpa using World.ownsRow_made (base := w.heap.size) (e := 5) (size := 1) w #[] 0 (Nat.le_refl _) (Nat.zero_le _) rfl
  have hx2 : 0 + m ≤ 140737488355328 := by omega
  have hR := ha.kept (belowA w (.cells #[] 5))
  have qT : ∀ w : World, (binOp .eql 22 (.slice (some x) m cap) (.slice none 0 0)).run Try.prog w = .ok (.bool false) w := fun w => Lib.run_eql_slice_nil w _ _ _ _ _ _ _ Try.underlying22
  go_enter Try.func47, Try.ntmps47
  go_wp2_with (at_builtin; refine wpList_append_rd _ rfl _ _ 22 rfl w.heap.size 5 i0 Try.underlying22 hi g0 g1 g2 _ 0 [] rfl hmade (some x) m cap zs rfl hR hm (fun h => by cases h) hx2 (by simp) ?_)
  intro v1 w1 hown hg
  have hb := (belowA w (.cells #[] 5)).grown hg (by simp) (by simp [Value.ownBlock])
  have hown' : w1.ownsRow w.heap.size 5 1 v1 m (zs.map (Value.int .u8)) := by simpa using hown
  obtain ⟨c, d, rfl⟩ := ownsRow_shape hown'
  have HO := Hid.mk (Own.mk hown' hm)
  clear hown hown' hg
  go_wp2
  go_ret
  exact ⟨c, d, rfl, HO.out, hb⟩

end Go.Proofs.Ytnclfbliimcpgaa
