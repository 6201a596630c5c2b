/- 'PutParts', the model's and the program's, by contracts. -/
import Derived.Test.YtnclfbliimcpgaaSlicesD
import Derived.Test.YtnclfbliimcpgaaApp
import Derived.Deep.RegionHeld3
namespace Go.Proofs.Ytnclfbliimcpgaa
open Go.RowKit

/-- Parts with their lengths ahead. -/
def joinN (zss : List (List Int)) : List Int := zss.flatMap fun z => (z.length : Int) :: z

theorem joinN_append (a b : List (List Int)) : joinN (a ++ b) = joinN a ++ joinN b := by simp [joinN]

theorem joinN_one (z : List Int) : joinN [z] = (z.length : Int) :: z := by simp [joinN]

theorem length_joinN : ∀ zss : List (List Int), (joinN zss).length = zss.length + total zss
  | [] => rfl
  | z :: r => by
    have h := length_joinN r
    rw [show z :: r = [z] ++ r from rfl, joinN_append, joinN_one]
    simp [total, h]
    omega

def fits (zss : List (List Int)) : Prop := zss.length ≤ 20 ∧ (∀ z ∈ zss, z.length ≤ 255) ∧ zss.length + total zss ≤ 400

set_option maxHeartbeats 1000000 in
theorem partsFit_ok (a : Option Addr) (n ca : Nat) (zss : List (List Int)) (w : World) (ha : RdR w a zss) (hn : zss.length = n) (hx : n ≤ 1048576) (ht : total zss ≤ 1048576) :
    Calls Try.prog 48 #[.slice a n ca] w fun e w' => ∃ r : Bool, e = .returned (.bool r) ∧ (r = true ↔ fits zss) ∧ w' = w := by
  by_cases h0 : n ≤ 20
  · have hr : (n : Int) ≤ 20 := by omega
    go_enter Try.func48, Try.ntmps48
    go_wp2
    go_loopw [3, 11] (fun t i wr => ∃ k : Nat, k ≤ n ∧ i = .int .i64 k ∧ t = .int .i64 ((k : Int) + (total (zss.take k) : Int)) ∧ (∀ z ∈ zss.take k, z.length ≤ 255) ∧ wr = w) (fun _ i _ => n - (intOf i).toNat)
    case atStart => exact ⟨0, Nat.zero_le _, rfl, by simp [total], by simp, rfl⟩
    case round =>
      obtain ⟨k, hk, rfl, rfl, hall, rfl⟩ := hrel
      by_cases hlt : k < n
      · rcases ha with ha | ⟨b1, o1, rfl, hca⟩
        · simp [ha] at hn; omega
        obtain ⟨c, d, h1, _, _⟩ := hca k (by omega)
        have hk1 : (k : Int) < (n : Int) := by omega
        have hT := Hid.mk (total_take zss k (by omega))
        have hTl := total_le zss k
        have hTm := total_le zss (k + 1)
        rw [hT.out] at hTm
        have hTk := Hid.mk (take_next' zss k (by omega))
        have hmem : zss.getD k [] ∈ zss := by rw [show zss.getD k [] = zss[k] by simp [List.getD, show k < zss.length by omega]]; exact List.getElem_mem _
        have HA := Hid.mk hall
        have HM := Hid.mk hmem
        clear hca hall hmem
        obtain ⟨m, hm⟩ : ∃ m, (zss.getD k []).length = m := ⟨_, rfl⟩
        have HL := Hid.mk hm
        rw [hm] at h1 hTm hT
        clear hm
        generalize total (zss.take k) = T at *
        by_cases hbig : 255 < m
        · have hb1 : (255 : Int) < (m : Int) := by omega
          go_wp2
          go_ret
          exact ⟨false, rfl, ⟨fun h => absurd h (by simp), fun h => by have := h.2.1 _ HM.out; have := HL.out; omega⟩, rfl⟩
        · have hb1 : (m : Int) ≤ 255 := by omega
          clear hbig
          go_wp2
          go_roundw
          case rel => exact ⟨k + 1, by omega, by go_num, by rw [hT.out]; exact congrArg (Value.int IntKind.i64) (by omega), by
            rw [hTk.out]
            intro z hz
            rcases List.mem_append.1 hz with h | h
            · exact HA.out z h
            · simp at h; subst h; have := HL.out; simp [List.getD] at this ⊢; omega, by trivial⟩
          case measure => simp [intOf]; omega
      · have hkn : k = n := by omega
        subst hkn
        have e := Hid.mk (show zss.take k = zss by rw [List.take_of_length_le (by omega)])
        rw [e.out] at hall
        have HA := Hid.mk hall
        have e2 := Hid.mk (show total (zss.take k) = total zss by rw [e.out])
        clear hall
        generalize total (zss.take k) = T at *
        have hTl : T ≤ 1048576 := by rw [e2.out]; exact ht
        go_wp2
        go_ret
        refine ⟨_, rfl, ?_, rfl⟩
        rw [decide_eq_true_iff]
        constructor
        · intro h
          exact ⟨by omega, HA.out, by have := e2.out; omega⟩
        · intro h
          have := h.2.2
          have := e2.out
          omega
  · have hr : (20 : Int) < (n : Int) := by omega
    go_enter Try.func48, Try.ntmps48
    go_wp2
    go_ret
    exact ⟨false, rfl, ⟨fun h => absurd h (by simp), fun h => by have := h.1; omega⟩, rfl⟩

set_option maxHeartbeats 2000000 in
theorem joinParts_ok (a : Option Addr) (n ca : Nat) (zss : List (List Int)) (w : World) (ha : RdR w a zss) (hn : zss.length = n) (hf : fits zss) :
    Calls Try.prog 49 #[.slice a n ca] w fun e w' => ∃ c d, e = .returned (.slice c (joinN zss).length d) ∧ Own .u8 5 w' w.heap.size c d (joinN zss) ∧ Below w.heap.size w w' := by
  obtain ⟨i0, hi, g0, g1, g2⟩ := info_parts Try.info_u8
  have hx : n ≤ 20 := by have := hf.1; omega
  have hfl := Hid.mk hf.2.1
  have hft := hf.2.2
  go_enter Try.func49, Try.ntmps49
  go_wp2
  go_loopw [3, 8] (fun v i wr => ∃ (k d : Nat) (c : Option Addr), k ≤ n ∧ i = .int .i64 k ∧ v = .slice c (joinN (zss.take k)).length d ∧ wr.ownsRow w.heap.size 5 1 v (joinN (zss.take k)).length ((joinN (zss.take k)).map (Value.int .u8)) ∧ Below w.heap.size w wr) (fun _ i _ => n - (intOf i).toNat)
  case atStart => exact ⟨0, 0, none, Nat.zero_le _, rfl, rfl, World.ownsRow_nil _ _ _ _, Below.refl _ _⟩
  case round =>
    obtain ⟨k, d, c, hk, rfl, rfl, hown, hb⟩ := hrel
    by_cases hlt : k < n
    · rcases ha with ha | ⟨b1, o1, rfl, hca⟩
      · simp [ha] at hn; omega
      obtain ⟨c1, d1, h0, r1, q1⟩ := hca k (by omega)
      have h1 := (hb.cell (World.block_lt_of_cell? (a := ⟨b1, o1 + k, none⟩) w h0)).trans h0
      clear h0
      have hk1 : (k : Int) < (n : Int) := by omega
      have hJ := Hid.mk (show joinN (zss.take (k + 1)) = joinN (zss.take k) ++ ((zss.getD k []).length : Int) :: zss.getD k [] by rw [take_next' zss k (by omega), joinN_append, joinN_one])
      have hlen := length_joinN (zss.take k)
      have hTl := total_le zss k
      rw [List.length_take] at hlen
      have hm255 : (zss.getD k []).length ≤ 255 := hfl.out _ (by rw [show zss.getD k [] = zss[k] by simp [List.getD, show k < zss.length by omega]]; exact List.getElem_mem _)
      clear hca hf
      generalize zss.getD k [] = zs at *
      obtain ⟨m, hm⟩ : ∃ m, zs.length = m := ⟨_, rfl⟩
      rw [hm] at h1 hJ hm255
      have HM := Hid.mk hm
      have R1 := Hid.mk r1
      have Q1 := Hid.mk q1
      clear hm r1 q1
      obtain ⟨L, hL⟩ : ∃ L, joinN (zss.take k) = L := ⟨_, rfl⟩
      rw [hL] at hown hJ hlen ⊢
      clear hL
      obtain ⟨ll, hll⟩ : ∃ ll, L.length = ll := ⟨_, rfl⟩
      have HLL := Hid.mk hll
      rw [hll] at hown hlen ⊢
      clear hll
      have hmi : (m : Int) ≤ 255 := by omega
      have hlle : ll ≤ 400 := by omega
      have hsz := hb.size
      clear hlen hTl hft
      go_wp2_with (at_builtin; refine wpList_append_own _ rfl _ _ 22 rfl w.heap.size 5 i0 (.int .u8 0) 1 1 Try.underlying22 hi g0 g1 g2 rfl (by decide) _ _ _ rfl (hown.alloc _) ⟨wr.heap.size, 0, none⟩ 1 1 [.int .u8 (m : Int)] rfl rfl (cell_one' _ _ _) ?_ (by unfold maxLen; omega) (by omega) (by simp; omega) ?_)
      · intro u hu; simp at hu; subst hu; rfl
      intro v1 w1 hown1 hgrow1 _
      obtain ⟨hown2, hb2⟩ := appended hown hb hsz hown1 hgrow1
      have R2 := R1.out.kept hb2
      clear hown hown1 hgrow1
      go_wp2_with (at_builtin; refine wpList_append_rd _ rfl _ _ 22 rfl w.heap.size 5 i0 Try.underlying22 hi g0 g1 g2 _ _ _ rfl hown2 c1 m d1 zs rfl R2 HM.out Q1.out (by omega) (by have := hb2.size; omega) ?_)
      intro v3 w3 hown3 hgrow3
      have hb3 := hb2.grown hgrow3 (by have := hb2.size; omega) fun i hi => (hown2.lt i hi).1
      have e3 : (L ++ (m : Int) :: zs).length = ll + 1 + m := by simp [HLL.out, HM.out]; omega
      have hown4 : w3.ownsRow w.heap.size 5 1 v3 (L ++ (m : Int) :: zs).length ((L ++ (m : Int) :: zs).map (Value.int .u8)) := by rw [e3]; simpa using hown3
      obtain ⟨c', d', rfl⟩ := ownsRow_shape hown4
      rw [← hJ.out] at hown4 e3
      have HO := Hid.mk hown4
      clear hown4 hown3 hown2 hgrow3 e3 R2
      go_wp2
      go_roundw
      case rel => exact ⟨k + 1, d', c', by omega, by go_num, by rw [hJ.out], by rw [← hJ.out]; exact HO.out, hb3⟩
      case measure => simp [intOf]; omega
    · have hkn : k = n := by omega
      subst hkn
      rw [List.take_of_length_le (by omega)] at hown ⊢
      have HO := Hid.mk (Own.mk hown rfl)
      clear hown
      go_wp2
      go_ret
      exact ⟨_, _, rfl, HO.out, hb⟩

/-- The code and the bytes that 'PutParts' answers. -/
def ppOf (zss : List (List Int)) (k : Int) (bs : List Int) : Prop := (fits zss → k = 0 ∧ bs = joinN zss) ∧ (¬ fits zss → k = 2 ∧ bs = [])

set_option maxHeartbeats 1000000 in
theorem implPutParts_ok (a : Option Addr) (n ca : Nat) (zss : List (List Int)) (k : Int) (bs : List Int) (hk : ppOf zss k bs) (w : World) (ha : RdR w a zss) (hn : zss.length = n) (hx : n ≤ 1048576) (ht : total zss ≤ 1048576) :
    Calls Try.prog 22 #[.slice a n ca] w fun e w' => ∃ c d, e = .returned (.agg #[.int .i64 k, .slice c bs.length d]) ∧ Own .u8 5 w' w.heap.size c d bs ∧ Below w.heap.size w w' := by
  by_cases hf : fits zss
  · obtain ⟨rfl, hbs⟩ := hk.1 hf
    have JP := Hid.mk (fun wx hw => joinParts_ok a n ca zss wx hw hn hf)
    rw [← hbs] at JP
    obtain ⟨m, hm⟩ : ∃ m, bs.length = m := ⟨_, rfl⟩
    rw [hm] at JP ⊢
    clear hk hbs hm
    go_enter Try.func22, Try.ntmps22
    go_wp2_with fail
    refine (partsFit_ok a n ca zss _ (ha.kept (belowA _ _)) hn hx ht).mono ?_
    rintro e w1 ⟨r, rfl, hr, rfl⟩
    obtain rfl : r = true := hr.2 hf
    go_wp2_with fail
    refine (JP.out _ (ha.kept (belowA _ _))).mono ?_
    rintro e w2 ⟨c, d, rfl, o2, b2⟩
    obtain ⟨hc1, hf1⟩ := bcell b2
    have hz1 := b2.size
    clear hf hr
    go_wp2
    refine bodyPost_ret (v := .agg #[.int .i64 0, .slice c m d]) (by simp [results, Try.results22, go_sem, hc1]) rfl ⟨c, d, rfl, ?_, ?_⟩
    · exact ((o2.below (by simp) _).below (by simp) _).mono (by simp)
    · exact (((belowA _ _).trans (b2.mono (by simp))).setCell (by simp) _).setCell (by simp) _
  · obtain ⟨rfl, rfl⟩ := hk.2 hf
    go_enter Try.func22, Try.ntmps22
    go_wp2_with fail
    refine (partsFit_ok a n ca zss _ (ha.kept (belowA _ _)) hn hx ht).mono ?_
    rintro e w1 ⟨r, rfl, hr, rfl⟩
    obtain rfl : r = false := by
      cases r
      · rfl
      · exact absurd (hr.1 rfl) hf
    go_wp2
    refine bodyPost_ret (v := .agg #[.int .i64 2, .slice none 0 0]) (by simp [results, Try.results22, go_sem]) rfl ⟨none, 0, rfl, own_none, belowA _ _⟩

end Go.Proofs.Ytnclfbliimcpgaa
