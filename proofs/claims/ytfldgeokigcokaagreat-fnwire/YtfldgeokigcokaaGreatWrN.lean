/- What the model reads of bytes: all ways. -/
import Derived.Test.YtfldgeokigcokaaGreatWrH
import Derived.Test.YtfldgeokigcokaaGreatWrJ
import Derived.Test.YtfldgeokigcokaaGreatWrK
import Derived.Test.YtfldgeokigcokaaGreatWrL
import Derived.Test.YtfldgeokigcokaaGreatWrM
namespace Go.Proofs.YtfldgeokigcokaaGreat
open Go.RowKit

theorem takeN_two (zs : List Int) (p : Nat) : takeN zs p 2 = zs.getD p 0 * 256 + zs.getD (p + 1) 0 := by
  rw [show (2 : Nat) = 0 + 1 + 1 from rfl, takeN_succ, takeN_succ]
  simp [takeN]

theorem kids_nz {o : Int} (h : o = 3 ∨ o = 4 ∨ o = 5 ∨ o = 6 ∨ o = 7) : (kids o == 0) = false := by
  rcases h with rfl | rfl | rfl | rfl | rfl <;> (unfold kids; rfl)

theorem kids_tw {o : Int} (h : o = 3 ∨ o = 4 ∨ o = 5 ∨ o = 7) : kids o = 2 := by
  rcases h with rfl | rfl | rfl | rfl <;> (unfold kids; rfl)

/-- What the model reads. -/
theorem l7Decode_ok (b : Option Addr) (m cb : Nat) (ds : List Int) (hb : Bytes ds) (hm : ds.length = m) (hm4 : m ≤ 400) :
    ∀ (f : Nat), f ≤ 30 → ∀ (k : Nat) (a : Option Addr) (n ca : Nat) (xs : List T4) (w : World), RdTerm w a xs → xs.length = n → tfC xs = 0 → (a = none → ca = 0) → Rd .u8 w b ds → ∀ dp : Int, dp = 31 - f →
      Calls Tryz.prog 24 #[.slice a n ca, .slice b m cb, .int .i64 (k : Int), .int .i64 dp] w (Reads w (dcd f xs ds k)) := by
  intro f
  induction f with
  | zero =>
    intro _ k a n ca xs w ha hn ht hca hr dp hdp
    have e : dcd 0 xs ds k = (⟨0, 0, []⟩, -1) := by rw [dcd]
    rw [e]
    exact l7Decode_low b m cb k a n ca w dp (by omega) (.inr (by omega))
  | succ f ih =>
    intro hf k a n ca xs w ha hn ht hca hr dp hdp
    have h4 := (tfC_zero ht).1
    by_cases hk : m ≤ k
    · have e : dcd (f + 1) xs ds k = (⟨0, 0, []⟩, -1) := by rw [dcd, if_neg (fun h => by have := h.1; omega)]
      rw [e]
      exact l7Decode_low b m cb k a n ca w dp (by omega) (.inl hk)
    have hk : k < m := by omega
    obtain ⟨b2, o2, rfl⟩ : ∃ b2 o2, b = some ⟨b2, o2, none⟩ := by
      rcases hr with h | ⟨b2, o2, rfl, _⟩
      · subst h; simp at hm; omega
      · exact ⟨_, _, rfl⟩
    have CA : ∀ w : World, RdTerm w a xs → Rd .u8 w (some ⟨b2, o2, none⟩) ds → Calls Tryz.prog 24 #[.slice a n ca, .slice (some ⟨b2, o2, none⟩) m cb, .int .i64 ((k : Int) + 1), .int .i64 (dp + 1)] w (Reads w (dcd f xs ds (k + 1))) := fun w h1 h2 => by
      have := ih (by omega) (k + 1) a n ca xs w h1 hn ht hca h2 (dp + 1) (by omega)
      rw [Int.natCast_add, Int.natCast_one] at this
      exact this
    obtain ⟨A, hA⟩ : ∃ A, dcd f xs ds (k + 1) = A := ⟨_, rfl⟩
    obtain ⟨D, hD⟩ : ∃ D, dcd f A.1.l ds A.2.toNat = D := ⟨_, rfl⟩
    have CB : Well ds A → ∀ (c : Option Addr) (d : Nat) (w : World), RdTerm w c A.1.l → (c = none → d = 0) → Rd .u8 w (some ⟨b2, o2, none⟩) ds → Calls Tryz.prog 24 #[.slice c A.1.l.length d, .slice (some ⟨b2, o2, none⟩) m cb, .int .i64 A.2, .int .i64 (dp + 1)] w (Reads w D) := fun W c d w h1 hc h2 => by
      have := ih (by omega) A.2.toNat c A.1.l.length d A.1.l w h1 rfl W.right hc h2 (dp + 1) (by omega)
      rw [hD, Int.toNat_of_nonneg W.e0] at this
      exact this
    rw [hA] at CA
    obtain ⟨o, ho⟩ : ∃ o, ds.getD k 0 = o := ⟨_, rfl⟩
    obtain ⟨nn, hnn⟩ : ∃ nn, takeN ds (k + 1) 2 = nn := ⟨_, rfl⟩
    have hnn2 := hnn
    rw [takeN_two] at hnn2
    obtain ⟨E, hE⟩ : ∃ E, dcd (f + 1) xs ds k = E := ⟨_, rfl⟩
    have P := dcd_paths f xs ds k hb ht o nn ho hnn2 A D E hA hD hE
    rw [hE]
    clear hE hnn2 ih hA hD
    rcases P with P | P | P | P | P | P | P | P | P | P | P | P | P | P | P | P
    · omega
    · obtain ⟨_, h1, rfl⟩ := P
      exact l7Decode_noop b2 o2 m cb ds hb hm hm4 k a n ca xs w ha hn (by omega) hca hr dp (by omega) hk o ho h1
    · obtain ⟨_, h1, h2, rfl⟩ := P
      rcases h1 with rfl | rfl
      · exact l7Decode_leaf1cut b2 o2 m cb ds hb hm hm4 k a n ca xs w ha hn (by omega) hca hr dp (by omega) hk ho (by omega)
      · exact l7Decode_leaf2cut b2 o2 m cb ds hb hm hm4 k a n ca xs w ha hn (by omega) hca hr dp (by omega) hk ho (by omega)
    · obtain ⟨h0, h1, h2, rfl⟩ := P
      rcases h1 with rfl | rfl
      · exact l7Decode_leaf1big b2 o2 m cb ds hb hm hm4 k a n ca xs w ha hn (by omega) hca hr dp (by omega) hk ho nn hnn (by omega) h2
      · exact l7Decode_leaf2big b2 o2 m cb ds hb hm hm4 k a n ca xs w ha hn (by omega) hca hr dp (by omega) hk ho nn hnn (by omega) h2
    · obtain ⟨h0, h1, h2, rfl⟩ := P
      rcases h1 with rfl | rfl
      · exact l7Decode_leaf1put b2 o2 m cb ds hb hm hm4 k a n ca xs w ha hn (by omega) hca hr dp (by omega) hk ho nn hnn (by omega) h2.1 h2.2
      · exact l7Decode_leaf2put b2 o2 m cb ds hb hm hm4 k a n ca xs w ha hn (by omega) hca hr dp (by omega) hk ho nn hnn (by omega) h2.1 h2.2
    · obtain ⟨_, h1, h2, rfl⟩ := P
      exact l7Decode_stop_none b2 o2 m cb ds hb hm hm4 k a n ca xs w ha hn (by omega) hca hr dp (by omega) hk o ho (btw_iff.2 (by omega)) _ rfl (kids_nz h1) _ CA h2
    · obtain ⟨_, h1, h2, h3, rfl⟩ := P
      have h3 : 0 ≤ E.2 ∧ (E.1.c != 0) = true := ⟨h2, by simp [h3]⟩
      exact l7Decode_stop_full b2 o2 m cb ds hb hm hm4 k a n ca xs w ha hn (by omega) hca hr dp (by omega) hk o ho (btw_iff.2 (by omega)) _ rfl (kids_nz h1) _ CA h3
    · obtain ⟨_, W, rfl, h2, rfl⟩ := P
      exact l7Decode_half_no b2 o2 m cb ds hb hm hm4 k a n ca xs w ha hn (by omega) hca hr dp (by omega) hk ho A CA W (by simp [h2])
    · obtain ⟨_, W, rfl, h2, rfl⟩ := P
      exact l7Decode_half b2 o2 m cb ds hb hm hm4 k a n ca xs w ha hn (by omega) hca hr dp (by omega) hk ho A CA W h2
    · obtain ⟨_, W, h1, h2, rfl⟩ := P
      have CB := CB W
      exact l7Decode_stop2_none b2 o2 m cb ds hb hm hm4 k a n ca xs w ha hn (by omega) hca hr dp (by omega) hk o ho (btw_iff.2 (by omega)) (kids_tw h1) A CA W _ CB h2
    · obtain ⟨_, W, h1, h2, h3, rfl⟩ := P
      have CB := CB W
      have h3 : 0 ≤ E.2 ∧ (E.1.c != 0) = true := ⟨h2, by simp [h3]⟩
      exact l7Decode_stop2_full b2 o2 m cb ds hb hm hm4 k a n ca xs w ha hn (by omega) hca hr dp (by omega) hk o ho (btw_iff.2 (by omega)) (kids_tw h1) A CA W _ CB h3
    · obtain ⟨_, W, W2, h1, h2, rfl⟩ := P
      have CB := CB W
      exact l7Decode_two b2 o2 m cb ds hb hm hm4 k a n ca xs w ha hn (by omega) hca hr dp (by omega) hk o ho (btw_iff.2 (by omega)) (kids_tw (by omega)) (by simp; omega) (by simp; omega) A CA W D CB W2 h1
    · obtain ⟨_, W, W2, h1, rfl, h2, rfl⟩ := P
      exact l7Decode_both_x b2 o2 m cb ds hb hm hm4 k a n ca xs w ha hn (by omega) hca hr dp (by omega) hk ho A CA W D (CB W) W2 h1 (by simp [h2])
    · obtain ⟨_, W, W2, h1, rfl, h2, h3, rfl⟩ := P
      exact l7Decode_both_y b2 o2 m cb ds hb hm hm4 k a n ca xs w ha hn (by omega) hca hr dp (by omega) hk ho A CA W D (CB W) W2 h1 h2 (by simp [h3])
    · obtain ⟨_, W, W2, h1, rfl, h2, h3, h4, rfl⟩ := P
      exact l7Decode_both_z b2 o2 m cb ds hb hm hm4 k a n ca xs w ha hn (by omega) hca hr dp (by omega) hk ho A CA W D (CB W) W2 h1 h2 h3 h4
    · obtain ⟨_, W, W2, h1, rfl, h2, h3, h4, rfl⟩ := P
      exact l7Decode_both_ok b2 o2 m cb ds hb hm hm4 k a n ca xs w ha hn (by omega) hca hr dp (by omega) hk ho A CA W D (CB W) W2 h1 h2 h3 h4

end Go.Proofs.YtfldgeokigcokaaGreat
