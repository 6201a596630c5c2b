/- 'PutParts', the model's, by its contract. -/
import Derived.Test.YtnclfbliimcpgaaParts
import Derived.Deep.AppendLies
namespace Go.Proofs.Ytnclfbliimcpgaa
open Go.RowKit

set_option maxHeartbeats 2000000 in
theorem specPutParts_ok (a : Option Addr) (n ca : Nat) (zss : List (List Int)) (kk : Int) (bs : List Int) (hkk : ppOf zss kk bs) (w : World) (ha : RdR w a zss) (hn : zss.length = n) (hx : n ≤ 1048576) (ht : total zss ≤ 1048576) :
    Calls Try.prog 25 #[.slice a n ca] w fun e w' => ∃ c d, e = .returned (.agg #[.int .i64 kk, .slice c bs.length d]) ∧ Own .u8 5 w' w.heap.size c d bs ∧ Below w.heap.size w w' := by
  obtain ⟨i0, hi, g0, g1, g2⟩ := info_parts Try.info_u8
  have HK := Hid.mk hkk
  clear hkk
  by_cases h20 : n ≤ 20
  · have hr : (n : Int) ≤ 20 := by omega
    go_enter Try.func25, Try.ntmps25
    go_wp2
    go_loopw [3, 4] (fun v i wr => ∃ (k d : Nat) (c : Option Addr), k ≤ n ∧ i = .int .i64 k ∧ (∀ z ∈ zss.take k, z.length ≤ 255) ∧ v = .slice c (joinN (zss.take k)).length d ∧ wr.ownsRow (w.heap.size + 1) 5 1 v (joinN (zss.take k)).length ((joinN (zss.take k)).map (Value.int .u8)) ∧ Below (w.heap.size + 1) (w.alloc (.cells #[.int .i64 0, .slice none 0 0] 27)) wr) (fun _ i _ => n - (intOf i).toNat)
    case atStart => exact ⟨0, 0, _, Nat.zero_le _, rfl, by simp, rfl, by simpa [joinN] using World.ownsRow_made (base := w.heap.size + 1) (e := 5) (size := 1) (w.alloc (.cells #[.int .i64 0, .slice none 0 0] 27)) #[] 0 (by simp) (Nat.zero_le _) rfl, (Below.refl _ _).alloc (by simp) _⟩
    case round =>
      obtain ⟨k, d, c, hk, rfl, hall, rfl, hown, hb⟩ := hrel
      have hB : Below w.heap.size w wr := (belowA w _).trans (hb.mono (by omega))
      obtain ⟨hc1, hf1⟩ := bcell (W := w.alloc (.cells #[.int .i64 0, .slice none 0 0] 27)) (w1 := wr) (by simpa using hb)
      have hz1 : w.heap.size + 1 ≤ wr.heap.size := by have := hb.size; simpa using this
      by_cases hlt : k < n
      · rcases ha with ha | ⟨b1, o1, rfl, hca⟩
        · simp [ha] at hn; omega
        obtain ⟨c1, d1, h0, r1, q1⟩ := hca k (by omega)
        have hlt1 : b1 < w.heap.size := World.block_lt_of_cell? (a := ⟨b1, o1 + k, none⟩) w h0
        have h1 := (hB.cell (p := ⟨b1, o1 + k, none⟩) hlt1).trans h0
        have hk1 : (k : Int) < (n : Int) := by omega
        have hJ := Hid.mk (show joinN (zss.take (k + 1)) = joinN (zss.take k) ++ ((zss.getD k []).length : Int) :: zss.getD k [] by rw [take_next' zss k (by omega), joinN_append, joinN_one])
        have hTk := Hid.mk (take_next' zss k (by omega))
        have hlen := length_joinN (zss.take k)
        have hTl := total_le zss k
        rw [List.length_take] at hlen
        have hmem := Hid.mk (show zss.getD k [] ∈ zss by rw [show zss.getD k [] = zss[k] by simp [List.getD, show k < zss.length by omega]]; exact List.getElem_mem _)
        have HA := Hid.mk hall
        clear hca hall
        generalize zss.getD k [] = zs at *
        obtain ⟨m, hm⟩ : ∃ m, zs.length = m := ⟨_, rfl⟩
        rw [hm] at h1 hJ h0
        have HM := Hid.mk hm
        have R1 := Hid.mk r1
        have Q1 := Hid.mk q1
        have H0 := Hid.mk h0
        clear hm r1 q1 h0
        obtain ⟨L, hL⟩ : ∃ L, joinN (zss.take k) = L := ⟨_, rfl⟩
        rw [hL] at hown hJ hlen ⊢
        clear hL
        obtain ⟨ll, hll⟩ : ∃ ll, L.length = ll := ⟨_, rfl⟩
        have HLL := Hid.mk hll
        rw [hll] at hown hlen ⊢
        clear hll
        have hlle : ll ≤ 2000000 := by omega
        clear hlen hTl
        by_cases hbig : 255 < m
        · have hb1 : (255 : Int) < (m : Int) := by omega
          have hnf : ¬ fits zss := fun h => by have h1 := h.2.1 _ hmem.out; have h2 := HM.out; omega
          obtain ⟨rfl, rfl⟩ := HK.out.2 hnf
          have h0 := H0.out
          clear hnf hown h1
          go_wp2
          refine bodyPost_ret (v := .agg #[.int .i64 2, .slice none 0 0]) (by simp [results, Try.results25, go_sem, hc1]) rfl ⟨none, 0, rfl, own_none, (hB.setCell (by simp) _).setCell (by simp) _⟩
        · have hb1 : (m : Int) ≤ 255 := by omega
          have hmn : m ≤ 255 := by omega
          have hwr : IntKind.u8.wrap (m : Int) = (m : Int) := by rw [IntKind.wrap_u8]; omega
          clear hbig hc1 hf1
          go_wp2
          go_region_held3 (fun w' => w'.cell? ⟨b1, o1 + k, none⟩ = some (.slice c1 m d1)) (first | go_keep | exact (hB3.cell (p := ⟨b1, o1 + k, none⟩) hlt1).trans H0.out | exact (hB2.cell (p := ⟨b1, o1 + k, none⟩) hlt1).trans H0.out) ((first | (refine step_append_lies _ (by rfl) (.tmp 23) (.tmp 30) 22 (by rfl) (w.heap.size + 1) 5 i0 (.int .u8 0) 1 1 Try.underlying22 hi g0 g1 g2 rfl (by decide) (.slice c ll d) ll (L.map (Value.int .u8)) (by simp [Act.eval]) (by exact hown.alloc _) ⟨wr.heap.size, 0, none⟩ 1 1 [.int .u8 (m : Int)] (by simp [Act.eval]) rfl (by exact cell_one' _ _ _) (by intro u hu; simp at hu; subst hu; rfl) (by omega) (by unfold maxLen; omega) (by omega) (by simp; omega) (wr.heap.size + 1) (by simp) ?_; intro g cap w2 hown2 hgrow2 hat2 hlt2; have hb2 : Below (w.heap.size + 1) (w.alloc (.cells #[.int .i64 0, .slice none 0 0] 27)) w2 := Below.grown ((hb.alloc (by omega) _).drew) hgrow2 (by simp; omega) (fun i hi => (hown.lt i hi).1); have hB2 : Below w.heap.size w w2 := (belowA w _).trans (hb2.mono (by omega)); have hown2' : w2.ownsRow (w.heap.size + 1) 5 1 (.slice (some ⟨g, 0, none⟩) (ll + 1) cap) (ll + 1) ((L ++ [(m : Int)]).map (Value.int .u8)) := by simpa using hown2) | (refine step_append_rd _ (by rfl) (.tmp 31) (.tmp 35) 22 (by rfl) (w.heap.size + 1) 5 i0 Try.underlying22 hi g0 g1 g2 _ _ _ (by simp [Act.eval]) hown2' c1 m d1 zs (by simp [Act.eval]) (R1.out.kept hB2) HM.out Q1.out (by omega) (by have := hb2.size; simp at this; omega) ?_; intro v3 w3 hown3 hgrow3; have hb3 := hb2.grown hgrow3 (by have := hb2.size; simp at this; omega) (fun i hi => (hown2'.lt i hi).1); have hB3 : Below w.heap.size w w3 := (belowA w _).trans (hb3.mono (by omega)))))
          have e3 : (L ++ (m : Int) :: zs).length = ll + 1 + m := by simp [HLL.out, HM.out]; omega
          have hown4 : w3.ownsRow (w.heap.size + 1) 5 1 v3 (L ++ (m : Int) :: zs).length ((L ++ (m : Int) :: zs).map (Value.int .u8)) := by rw [e3]; simpa using hown3
          obtain ⟨c', d', rfl⟩ := ownsRow_shape hown4
          rw [← hJ.out] at hown4 e3
          have HO := Hid.mk hown4
          clear hown4 hown3 hown2 hown2' hgrow3 hgrow2 e3 hat2 hown
          go_wp2
          go_roundw
          case rel => exact ⟨k + 1, d', c', by omega, by go_num, by
            rw [hTk.out]
            intro z hz
            rcases List.mem_append.1 hz with h | h
            · exact HA.out z h
            · simp at h; subst h; have := HM.out; omega, by rw [hJ.out], by rw [← hJ.out]; exact HO.out, hb3⟩
          case measure => simp [intOf]; omega
      · have hkn : k = n := by omega
        subst hkn
        rw [List.take_of_length_le (by omega)] at hown hall ⊢
        have hlen := length_joinN zss
        have HA := Hid.mk hall
        have HN := Hid.mk hn
        obtain ⟨jl, hjl⟩ : ∃ jl, (joinN zss).length = jl := ⟨_, rfl⟩
        have HJL := Hid.mk hjl
        have hHL := Hid.mk hlen
        have hjb : jl ≤ 2000000 := by omega
        rw [hjl] at hown ⊢
        clear hall hlen hjl hn
        by_cases hbig : 400 < jl
        · have hb1 : (400 : Int) < (jl : Int) := by omega
          have hnf : ¬ fits zss := fun h => by have h1 := h.2.2; have h2 := HJL.out; have h3 := hHL.out; omega
          obtain ⟨rfl, rfl⟩ := HK.out.2 hnf
          clear hnf hown
          go_wp2
          refine bodyPost_ret (v := .agg #[.int .i64 2, .slice none 0 0]) (by simp [results, Try.results25, go_sem, hc1]) rfl ⟨none, 0, rfl, own_none, (hB.setCell (by simp) _).setCell (by simp) _⟩
        · have hb1 : (jl : Int) ≤ 400 := by omega
          have hf : fits zss := ⟨by have := HN.out; omega, HA.out, by have h2 := HJL.out; have h3 := hHL.out; omega⟩
          obtain ⟨rfl, rfl⟩ := HK.out.1 hf
          have HO := Hid.mk (Own.mk hown HJL.out)
          clear hf hown hbig
          go_wp2
          refine bodyPost_ret (v := .agg #[.int .i64 0, .slice c jl d]) (by simp [results, Try.results25, go_sem, hc1]) rfl ⟨c, d, by rw [HJL.out], ?_, ?_⟩
          · exact ((HO.out.below (by simp) _).below (by simp) _).mono (by simp)
          · exact (hB.setCell (by simp) _).setCell (by simp) _
  · have hr : (20 : Int) < (n : Int) := by omega
    have hnf : ¬ fits zss := fun h => by have := h.1; omega
    obtain ⟨rfl, rfl⟩ := HK.out.2 hnf
    go_enter Try.func25, Try.ntmps25
    go_wp2
    refine bodyPost_ret (v := .agg #[.int .i64 2, .slice none 0 0]) (by simp [results, Try.results25, go_sem]) rfl ⟨none, 0, rfl, own_none, belowA _ _⟩

end Go.Proofs.Ytnclfbliimcpgaa
