/- The law on 'PutParts': its walk. -/
import Derived.Test.YtnclfbliimcpgabHeldR
import Derived.Test.YtnclfbliimcpgabSlices2
import Derived.Test.YtnclfbliimcpgabPartsS
namespace Go.Proofs.Ytnclfbliimcpgab
open Go.RowKit

theorem MarkR.kept {w w' : World} {G n lo hi : Nat} {g ln : Nat → Nat} (h : MarkR w G n lo hi g ln) (hb : Below w.heap.size w w') : MarkR w' G n lo hi g ln :=
  ⟨fun i hi => (hb.cell (World.block_lt_of_cell? (a := ⟨G, i, none⟩) w (h.1 i hi))).trans (h.1 i hi),
   fun i hi => by
    obtain ⟨a1, a2, a3, a4, xs, a5, a6⟩ := h.2.1 i hi
    exact ⟨a1, a2, a3, a4, xs, a5, a6.kept hb⟩, h.2.2⟩

theorem mem_total {zss : List (List Int)} {z : List Int} (h : z ∈ zss) : z.length ≤ total zss := by
  induction zss with
  | nil => cases h
  | cons a r ih =>
    rcases List.mem_cons.1 h with rfl | h
    · simp [total]
    · have := ih h; simp [total]; omega

theorem pp_small {zss : List (List Int)} {k : Int} {bs : List Int} (h : ppOf zss k bs) : bs.length ≤ 400 := by
  by_cases hf : fits zss
  · rw [(h.1 hf).2, length_joinN]; exact hf.2.2
  · rw [(h.2 hf).2]; simp

theorem pp_is (zss : List (List Int)) : ∃ k bs, ppOf zss k bs := by
  by_cases hf : fits zss
  · exact ⟨0, joinN zss, fun _ => ⟨rfl, rfl⟩, fun h => absurd hf h⟩
  · exact ⟨2, [], fun h => absurd h hf, fun _ => ⟨rfl, rfl⟩⟩

set_option maxHeartbeats 2000000 in
theorem xParts_walk (a : Option Addr) (n ca : Nat) (zss : List (List Int)) (w : World) (hR : RdR w a zss) (hn : zss.length = n) (hx : n ≤ maxLen) (hl : ∀ z ∈ zss, z.length ≤ maxLen) :
    Calls Try.prog 5 #[.slice a n ca] w fun e w' => e = .returned (.bool true) ∧ Below w.heap.size w w' := by
  go_enter Try.func5, Try.ntmps5
  go_wp2_with fail
  refine (szByteSS_ok a n ca zss _ hR hn hx hl).mono ?_
  rintro e w0 ⟨v, rfl, hv, rfl⟩
  rcases hv with hv | ⟨hv, hn2, ht⟩
  · go_wp2
    go_ret
    exact ⟨rfl, Below.refl _ _⟩
  obtain ⟨k, bs, hpp⟩ := pp_is zss
  have hsm := pp_small hpp
  obtain ⟨m, hm⟩ : ∃ m, bs.length = m := ⟨_, rfl⟩
  have CS := Hid.mk (fun c d wx h => specPutParts_ok c n d zss k bs hpp wx h hn hn2 ht)
  have CI := Hid.mk (fun c d wx h => implPutParts_ok c n d zss k bs hpp wx h hn hn2 ht)
  rw [hm] at CS CI hsm
  have HM := Hid.mk hm
  have hx' : m ≤ maxLen := by unfold maxLen; omega
  clear hpp hm
  go_wp2_with fail
  refine (toByteSS_ok a n ca zss _ hR hn hn2 ht).mono ?_
  rintro e w1 ⟨ps1, rfl, hz1, o1, b1⟩
  go_wp2_with fail
  refine (CS.out _ _ _ (by have := o1.rd; rwa [hz1] at this)).mono ?_
  rintro e w2 ⟨c1, d1, rfl, r1, b2⟩
  have B2 := thenB b1 b2
  have A0 := At.new2 w2 (.int .i64 k) (.slice c1 m d1) 34
  have B2' := thenB B2 (belowA w2 (.cells #[.int .i64 k, .slice c1 m d1] 34))
  have r1lt : ∀ b, c1 = some b → b.block < w2.heap.size := fun b hb => (r1.lt b hb).2
  have r1' := r1.kept (belowA w2 (.cells #[.int .i64 k, .slice c1 m d1] 34))
  go_wp2_with fail
  refine (toByteSS_ok a n ca zss _ (hR.kept B2') hn hn2 ht).mono ?_
  rintro e w3 ⟨ps3, rfl, hz3, o3, b3⟩
  have B3 := thenB B2' b3
  have A0 := A0.kept b3
  have r1 := r1'.kept b3
  have hlo : w2.heap.size + 1 ≤ w3.heap.size := by have := b3.size; simpa using this
  have hps : ps3.length = n := by rw [← hn, ← hz3]; simp [rowsOf]
  have M3 := o3.marks (n := n) (hi := w3.heap.size) hps (by simp) (Nat.le_refl _) (fun p hp => by
    have h1 : p.2 ∈ zss := by rw [← hz3]; exact List.mem_map_of_mem hp
    have := mem_total h1
    omega)
  simp only [World.size_alloc] at M3
  have o3r : RdR w3 (some ⟨w2.heap.size + 1, 0, none⟩) zss := by
    have h := o3.rd
    rw [hz3] at h
    simpa only [World.size_alloc] using h
  go_wp2_with fail
  refine (CI.out _ _ _ o3r).mono ?_
  rintro e w4 ⟨c2, d2, rfl, r2, b4⟩
  have B4 := thenB B3 b4
  have A0 := (A0.kept b4).kept (belowA w4 (.cells #[.int .i64 k, .slice c2 m d2] 34))
  have r1 := (r1.kept b4).kept (belowA w4 (.cells #[.int .i64 k, .slice c2 m d2] 34))
  have M4 := (M3.kept b4).kept (belowA w4 (.cells #[.int .i64 k, .slice c2 m d2] 34))
  have X4 := (o3r.kept b4).kept (belowA w4 (.cells #[.int .i64 k, .slice c2 m d2] 34))
  have r2lo : ∀ b, c2 = some b → w3.heap.size ≤ b.block ∧ b.block < w4.heap.size := fun b hb => r2.lt b hb
  have r2' := r2.kept (belowA w4 (.cells #[.int .i64 k, .slice c2 m d2] 34))
  have A1 := At.new2 w4 (.int .i64 k) (.slice c2 m d2) 34
  have B4' := thenB B4 (belowA w4 (.cells #[.int .i64 k, .slice c2 m d2] 34))
  have h34 := b4.size
  obtain ⟨f1, f2, f3⟩ := A0.two
  go_wp2_with fail
  refine (eqBytesResult_ok k c2 c1 m d2 d1 bs _ r2'.rd r1.rd HM.out hx').mono ?_
  rintro e w5 ⟨rfl, b5⟩
  clear f1 f2 f3
  have B5 := thenB B4' b5
  have A0 := A0.kept b5
  have A1 := A1.kept b5
  have r1 := r1.kept b5
  have r2 := r2'.kept b5
  have M5 := M4.kept b5
  have X5 := X4.kept b5
  go_wp2_with fail
  refine (toByteSS_ok a n ca zss _ (hR.kept B5) hn hn2 ht).mono ?_
  rintro e w6 ⟨ps6, rfl, hz6, o6, b6⟩
  have o6r := o6.rd
  rw [hz6] at o6r
  go_wp2_with fail
  refine (eqByteSS_ok _ _ n _ _ zss _ (X5.kept b6) o6r hn hx hl).mono ?_
  rintro e w7 ⟨rfl, b7⟩
  have B7 := thenB (thenB B5 b6) b7
  have A0 := (A0.kept b6).kept b7
  have A1 := (A1.kept b6).kept b7
  have r1 := (r1.kept b6).kept b7
  have r2 := (r2.kept b6).kept b7
  have M7 := (M5.kept b6).kept b7
  go_wp2_with fail
  refine (markByteSS_ok _ n _ _ _ _ _ M7 hn2).mono ?_
  rintro e w8 ⟨kk, rfl, hkk, W8⟩
  have B8 : Below w0.heap.size w0 w8 := B7.trans (W8.below (by have := B2.size; omega) (by have := B7.size; have := b7.size; have := b6.size; have := b5.size; simp at *; omega))
  have A0 := A0.within W8 (.inl (by omega))
  have A1 := A1.within W8 (.inr (by omega))
  have r1 := r1.within W8 fun b hb => .inl (by have := r1lt b hb; omega)
  have r2 := r2.within W8 fun b hb => .inr (r2lo b hb).1
  clear M3 M4 M5 M7 X4 X5 o1 o3 o6 o6r o3r
  obtain ⟨f1, f2, f3⟩ := A0.two
  obtain ⟨f4, f5, f6⟩ := A1.two
  go_wp2_with fail
  refine (eqBytesResult_ok k c2 c1 m d2 d1 bs _ r2.rd r1.rd HM.out hx').mono ?_
  rintro e w9 ⟨rfl, b9⟩
  clear f1 f2 f3 f4 f5 f6
  have A0 := A0.kept b9
  have A1 := A1.kept b9
  have r1 := r1.kept b9
  have r2 := r2.kept b9
  have B9 := thenB B8 b9
  have n0 : c2.map Addr.block ≠ some w2.heap.size := row_ne fun b hb => by have := r2lo b hb; omega
  have n1 : c2.map Addr.block ≠ some w4.heap.size := row_ne fun b hb => by have := r2lo b hb; omega
  have n2 : ∀ b, c1 = some b → c2.map Addr.block ≠ some b.block := fun b hb => row_ne fun b' hb' => by have := r2lo b' hb'; have := r1lt b hb; omega
  obtain ⟨f4, f5, f6⟩ := A1.two
  go_wp2_with fail
  refine (markBytesResult_ok k c2 m d2 _ bs 1 _ r2 HM.out (by omega) (by omega)).mono ?_
  rintro e w10 ⟨rfl, r2, g10⟩
  clear f4 f5 f6
  have B10 := belowG B9 g10 B9.size fun b hb => by have := r2lo b hb; have := B3.size; omega
  have A0 := A0.grown g10 n0
  have A1 := A1.grown g10 n1
  have r1 := r1.grown g10 n2
  obtain ⟨f4, f5, f6⟩ := A1.two
  go_wp2_with fail
  refine (heldBytesResult_ok k c2 m d2 1 _ r2.rd (by omega) (by omega)).mono ?_
  rintro e w11 ⟨rfl, b11⟩
  clear f4 f5 f6
  have A0 := A0.kept b11
  have A1 := A1.kept b11
  have r1 := r1.kept b11
  have r2 := r2.kept b11
  have B11 := thenB B10 b11
  have hq : 0 ≤ 1 + (m : Int) := by omega
  go_wp2_with fail
  refine (toByteSS_ok a n ca zss _ (hR.kept B11) hn hn2 ht).mono ?_
  rintro e w12 ⟨ps12, rfl, hz12, o12, b12⟩
  have o12r := o12.rd
  rw [hz12] at o12r
  have B12 := thenB B11 b12
  go_wp2_with fail
  refine (CI.out _ _ _ o12r).mono ?_
  rintro e w13 ⟨c3, d3, rfl, r3, b13⟩
  have B13 := thenB (thenB B12 b13) (belowA w13 (.cells #[.int .i64 k, .slice c3 m d3] 34))
  have A0 := ((A0.kept b12).kept b13).kept (belowA w13 (.cells #[.int .i64 k, .slice c3 m d3] 34))
  have A1 := ((A1.kept b12).kept b13).kept (belowA w13 (.cells #[.int .i64 k, .slice c3 m d3] 34))
  have r1 := ((r1.kept b12).kept b13).kept (belowA w13 (.cells #[.int .i64 k, .slice c3 m d3] 34))
  have r2 := ((r2.kept b12).kept b13).kept (belowA w13 (.cells #[.int .i64 k, .slice c3 m d3] 34))
  have r3' := r3.kept (belowA w13 (.cells #[.int .i64 k, .slice c3 m d3] 34))
  obtain ⟨f1, f2, f3⟩ := A0.two
  go_wp2_with fail
  refine (eqBytesResult_ok k c3 c1 m d3 d1 bs _ r3'.rd r1.rd HM.out hx').mono ?_
  rintro e w14 ⟨rfl, b14⟩
  clear f1 f2 f3
  have A1 := A1.kept b14
  have r2 := r2.kept b14
  obtain ⟨f1, f2, f3⟩ := A1.two
  go_wp2_with fail
  refine (heldBytesResult_ok k c2 m d2 1 _ r2.rd (by omega) (by omega)).mono ?_
  rintro e w15 ⟨rfl, b15⟩
  clear f1 f2 f3
  go_wp2
  go_ret
  exact ⟨rfl, thenB (thenB B13 b14) b15⟩

end Go.Proofs.Ytnclfbliimcpgab
