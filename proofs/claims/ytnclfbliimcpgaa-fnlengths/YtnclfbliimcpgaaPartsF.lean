/- Facts on parts and on what 'PutParts' and 'TakeParts' answer. No walk stands here. -/
import Derived.Test.YtnclfbliimcpgaaParts
import Derived.Test.YtnclfbliimcpgaaCut
namespace Go.Proofs.Ytnclfbliimcpgaa
open Go.RowKit

theorem mem_total {zss : List (List Int)} {z : List Int} (h : z ∈ zss) : z.length ≤ total zss := by
  induction zss with
  | nil => cases h
  | cons a r ih =>
    rcases List.mem_cons.1 h with rfl | h
    · simp [total]
    · have := ih h; simp [total]; omega

theorem pp_small {zss : List (List Int)} {k : Int} {bs : List Int} (h : ppOf zss k bs) : bs.length ≤ 400 := by
  by_cases hf : fits zss
  · rw [(h.1 hf).2, length_joinN]; exact hf.2.2
  · rw [(h.2 hf).2]; simp

theorem pp_is (zss : List (List Int)) : ∃ k bs, ppOf zss k bs := by
  by_cases hf : fits zss
  · exact ⟨0, joinN zss, fun _ => ⟨rfl, rfl⟩, fun h => absurd hf h⟩
  · exact ⟨2, [], fun h => absurd h hf, fun _ => ⟨rfl, rfl⟩⟩

theorem total_few (zss : List (List Int)) (m : Nat) (h : ∀ z ∈ zss, z.length ≤ m) : total zss ≤ m * zss.length := by
  induction zss with
  | nil => simp [total]
  | cons a r ih =>
    have h1 := h a (by simp)
    have h2 := ih fun z hz => h z (by simp [hz])
    simp [total, Nat.mul_add]
    omega

theorem bytes_joinN {zss : List (List Int)} (h1 : ∀ z ∈ zss, z.length ≤ 255) (h2 : ∀ z ∈ zss, Bytes z) : Bytes (joinN zss) := by
  intro x hx
  simp only [joinN, List.mem_flatMap] at hx
  obtain ⟨z, hz, hx⟩ := hx
  rcases List.mem_cons.1 hx with rfl | hx
  · have := h1 z hz; omega
  · exact h2 z hz x hx

theorem pp_bytes {zss : List (List Int)} {k : Int} {bs : List Int} (h : ppOf zss k bs) (h2 : ∀ z ∈ zss, Bytes z) : Bytes bs := by
  by_cases hf : fits zss
  · rw [(h.1 hf).2]; exact bytes_joinN hf.2.1 h2
  · rw [(h.2 hf).2]; intro x hx; cases hx

/-- What is put together is taken apart. -/
theorem cutN_joinN : ∀ (n : Nat) (zss : List (List Int)), zss.length ≤ n → cutN n (joinN zss) = some zss
  | n, [], _ => cutN_nil n
  | 0, _ :: _, h => by simp at h
  | n + 1, z :: r, h => by
    have e : joinN (z :: r) = (z.length : Int) :: (z ++ joinN r) := by simp [joinN]
    rw [e, cutN_next _ _ _ (by simp)]
    have h1 := cutN_joinN n r (by simpa using h)
    simp [h1]

/-- What is taken apart is put together. -/
theorem joinN_cutN : ∀ (n : Nat) (zs : List Int) (r : List (List Int)), Bytes zs → cutN n zs = some r → joinN r = zs ∧ r.length ≤ n ∧ (∀ z ∈ r, z.length ≤ 255) ∧ r.length + total r = zs.length
  | n, [], r, _, h => by rw [cutN_nil] at h; simp at h; subst h; simp [joinN, total]
  | 0, _ :: _, r, _, h => by simp [cutN] at h
  | n + 1, z :: zs, r, hb, h => by
    have hz1 := hb z (by simp)
    by_cases hz : z.toNat ≤ zs.length
    · rw [cutN_next _ _ _ hz] at h
      cases hc : cutN n (zs.drop z.toNat) with
      | none => rw [hc] at h; cases h
      | some r' =>
        rw [hc] at h
        simp at h
        subst h
        obtain ⟨h1, h2, h3, h4⟩ := joinN_cutN n _ r' (fun y hy => hb y (by simp [List.mem_of_mem_drop hy])) hc
        have e : joinN (zs.take z.toNat :: r') = ((zs.take z.toNat).length : Int) :: (zs.take z.toNat ++ joinN r') := by simp [joinN]
        have el : (zs.take z.toNat).length = z.toNat := by simp; omega
        refine ⟨?_, by simp; omega, fun y hy => ?_, ?_⟩
        · rw [e, h1, List.take_append_drop, el, Int.toNat_of_nonneg hz1.1]
        · rcases List.mem_cons.1 hy with rfl | hy
          · omega
          · exact h3 y hy
        · simp [total] at h4 ⊢
          omega
    · rw [cutN_over _ _ _ hz] at h; cases h

end Go.Proofs.Ytnclfbliimcpgaa
