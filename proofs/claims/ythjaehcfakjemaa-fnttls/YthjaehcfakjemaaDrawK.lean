/- The draws of packets, by contracts. -/
import Derived.Test.YthjaehcfakjemaaVar
import Derived.Test.YthjaehcfakjemaaPkt
import Derived.Test.YthjaehcfakjemaaDrawS
namespace Go.Proofs.Ythjaehcfakjemaa
open Go.RowKit

theorem V.grownB {w w' : World} {B B' : Nat} {vs : List Value} (h : V w B' vs) (hg : w.grownBy w' (some B)) (hne : B' ≠ B) : V w' B' vs := by
  have hb : ∀ i, w'.cell? ⟨B', i, none⟩ = w.cell? ⟨B', i, none⟩ := fun i => World.cell?_of_block (hg.block B' h.1 (by intro e; simp at e; exact hne e))
  have hf : ∀ i, w'.frozen? ⟨B', i, none⟩ = w.frozen? ⟨B', i, none⟩ := fun i => World.frozen?_of_block (hg.block B' h.1 (by intro e; simp at e; exact hne e))
  exact ⟨Nat.lt_of_lt_of_le h.1 hg.size, fun i hi => (hb i).trans (h.2.1 i hi), fun o => (hf o).trans (h.2.2 o)⟩

set_option maxHeartbeats 1000000 in
theorem l2DrawAddress_ok (B : Nat) (a : Option Addr) (n ca : Nat) (zs : List Int) (t : Nat) (w : World) (hs : Src w B a n ca zs t) (hb : Bytes zs) (hn : zs.length = n) (hx : n ≤ 1048577) (ht : t ≤ 10000) :
    Calls Try.prog 55 #[.pointer (some ⟨B, 0, none⟩)] w fun e w' => ∃ v : Int, e = .returned (.int .i64 v) ∧ (0 ≤ v ∧ v ≤ 4294967295) ∧ Src w' B a n ca zs (t + 4) ∧ w.grownBy w' (some B) := by
  go_enter Try.func55, Try.ntmps55
  go_wp2_with fail
  refine (l1Next_ok B a n ca zs t 6 _ hs hb hn hx (by omega) (by omega)).mono ?_
  rintro e w1 ⟨v1, rfl, h1, _, S1, g1⟩
  have h1 := h1 (by omega)
  go_wp2_with fail
  refine (l1Next_ok B a n ca zs (t + 1) 6 _ S1 hb hn hx (by omega) (by omega)).mono ?_
  rintro e w2 ⟨v2, rfl, h2, _, S2, g2⟩
  have h2 := h2 (by omega)
  go_wp2_with fail
  refine (l1Next_ok B a n ca zs (t + 2) 4 _ S2 hb hn hx (by omega) (by omega)).mono ?_
  rintro e w3 ⟨v3, rfl, h3, _, S3, g3⟩
  have h3 := h3 (by omega)
  have hB := S3.1.1
  go_wp2_with fail
  refine (l1Pick_ok B a n ca zs (t + 3) w3.heap.size 5 5 [167772160 + v1, 167772160 + v2, 167838000 + v3, 0, 4294967295] _ (S3.kept (belowA _ _)) hb hn hx (by omega) rfl (by omega) (by omega) (fun i hi => ?_) (by omega)).mono ?_
  · exact lit_cells w3 [167772160 + v1, 167772160 + v2, 167838000 + v3, 0, 4294967295] _ _ (by simp) i hi
  rintro e w4 ⟨v, rfl, hv, S4, g4⟩
  have hv2 : 0 ≤ v ∧ v ≤ 4294967295 := by
    simp only [List.mem_cons, List.not_mem_nil, or_false] at hv
    omega
  clear hv
  go_wp2
  go_ret
  exact ⟨v, rfl, hv2, S4, grownBy_trans (grown_alloc (grownBy_trans (grownBy_trans g1 g2) g3) _) g4⟩

theorem grownSet (w : World) (p : Addr) (v : Value) : w.grownBy (w.setCell p v) (some p.block) :=
  ⟨rfl, rfl, rfl, by simp [World.setCell], fun k _ hk => Below.heap_setCell _ _ _ _ (fun e => hk (by rw [e]))⟩

theorem Src.other {w : World} {B : Nat} {a : Option Addr} {n ca : Nat} {zs : List Int} {t : Nat} {p : Addr} (h : Src w B a n ca zs t) (hp : B < p.block) (v : Value) : Src (w.setCell p v) B a n ca zs t :=
  h.grownAway (grownSet w p v) (by intro k hk; simp at hk; omega)

theorem grownSet' {w w' : World} {row : Option Nat} (h : w.grownBy w' row) {p : Addr} (hp : w.heap.size ≤ p.block) (v : Value) : w.grownBy (w'.setCell p v) row :=
  ⟨h.os, h.tape, h.output, by simpa [World.setCell] using h.size, fun k hk hr => (Below.heap_setCell _ _ _ _ (by omega)).trans (h.block k hk hr)⟩

/-- A drawn packet is right. -/
def rightP (f t r l x y : Int) (m : Nat) : Prop := (0 ≤ f ∧ f ≤ 4294967295) ∧ (0 ≤ t ∧ t ≤ 4294967295) ∧ (1 ≤ r ∧ r ≤ 255) ∧ (1 ≤ l ∧ l ≤ 255) ∧ (0 ≤ x ∧ x ≤ 65535) ∧ (0 ≤ y ∧ y ≤ 65535) ∧ (portsP r = false → x = 0 ∧ y = 0) ∧ m ≤ 8

set_option maxHeartbeats 2000000 in
theorem l2Packet_ok (B : Nat) (a : Option Addr) (n ca : Nat) (zs : List Int) (t : Nat) (w : World) (hs : Src w B a n ca zs t) (hb : Bytes zs) (hn : zs.length = n) (hx : n ≤ 1048577) (ht : t ≤ 1000) :
    Calls Try.prog 40 #[.pointer (some ⟨B, 0, none⟩)] w fun e w' => ∃ (f t' r l x y : Int) (c d m : Nat) (ys : List Int) (q : Nat), e = .returned (.agg #[.int .i64 f, .int .i64 t', .int .i64 r, .int .i64 l, .int .i64 x, .int .i64 y, .slice (some ⟨c, 0, none⟩) m d]) ∧
      rightP f t' r l x y m ∧ ys.length = m ∧ Bytes ys ∧ Own .u8 5 w' w.heap.size (some ⟨c, 0, none⟩) d ys ∧ q ≤ t + 60 ∧ Src w' B a n ca zs q ∧ w.grownBy w' (some B) := by
  have hB := hs.1.1
  go_enter Try.func40, Try.ntmps40
  have VR := V.new w [.int .i64 0, .int .i64 0, .int .i64 0, .int .i64 0, .int .i64 0, .int .i64 0, .slice none 0 0] 26
  have S := hs.kept (belowA w (.cells #[.int .i64 0, .int .i64 0, .int .i64 0, .int .i64 0, .int .i64 0, .int .i64 0, .slice none 0 0] 26))
  have G := grown_alloc (World.grownBy.refl w (some B)) (.cells #[.int .i64 0, .int .i64 0, .int .i64 0, .int .i64 0, .int .i64 0, .int .i64 0, .slice none 0 0] 26)
  have Z := G.size
  go_wp2_with fail
  refine (l2DrawAddress_ok B a n ca zs t _ S hb hn hx (by omega)).mono ?_
  rintro e w1 ⟨f, rfl, hf, S1, g1⟩
  replace VR := VR.grownB g1 (by omega)
  replace G := grownBy_trans G g1
  have Z1 := g1.size
  try simp only [World.size_alloc] at Z1
  go_wp2_with fail
  refine (l2DrawAddress_ok B a n ca zs (t + 4) _ S1 hb hn hx (by omega)).mono ?_
  rintro e w2 ⟨t', rfl, ht', S2, g2⟩
  replace VR := VR.grownB g2 (by omega)
  replace G := grownBy_trans G g2
  have Z2 := g2.size
  try simp only [World.size_alloc] at Z2
  replace VR := VR.kept (belowA w2 (.cells #[.int .i64 6, .int .i64 17, .int .i64 6, .int .i64 17, .int .i64 1, .int .i64 50] 2))
  replace G := grown_alloc G (.cells #[.int .i64 6, .int .i64 17, .int .i64 6, .int .i64 17, .int .i64 1, .int .i64 50] 2)
  go_wp2_with fail
  refine (l1Pick_ok B a n ca zs (t + 8) w2.heap.size 6 6 [6, 17, 6, 17, 1, 50] _ (S2.kept (belowA _ _)) hb hn hx (by omega) rfl (by omega) (by omega) (fun i hi => ?_) (by omega)).mono ?_
  · exact lit_cells w2 [6, 17, 6, 17, 1, 50] _ _ (by simp) i hi
  rintro e w3 ⟨r, rfl, hr, S3, g3⟩
  replace VR := VR.grownB g3 (by omega)
  replace G := grownBy_trans G g3
  have Z3 := g3.size
  try simp only [World.size_alloc] at Z3
  simp only [List.mem_cons, List.not_mem_nil, or_false] at hr
  have hr1 : 1 ≤ r ∧ r ≤ 255 := by omega
  have hr := Hid.mk hr
  replace VR := VR.kept (belowA w3 (.cells #[.int .i64 64, .int .i64 1, .int .i64 2, .int .i64 255] 2))
  replace G := grown_alloc G (.cells #[.int .i64 64, .int .i64 1, .int .i64 2, .int .i64 255] 2)
  go_wp2_with fail
  refine (l1Pick_ok B a n ca zs (t + 9) w3.heap.size 4 4 [64, 1, 2, 255] _ (S3.kept (belowA _ _)) hb hn hx (by omega) rfl (by omega) (by omega) (fun i hi => ?_) (by omega)).mono ?_
  · exact lit_cells w3 [64, 1, 2, 255] _ _ (by simp) i hi
  rintro e w4 ⟨l, rfl, hl, S4, g4⟩
  replace VR := VR.grownB g4 (by omega)
  replace G := grownBy_trans G g4
  have Z4 := g4.size
  try simp only [World.size_alloc] at Z4
  simp only [List.mem_cons, List.not_mem_nil, or_false] at hl
  have hl1 : 1 ≤ l ∧ l ≤ 255 := by omega
  have hl := Hid.mk hl
  go_wp2_with fail
  refine (l1Next_ok B a n ca zs (t + 10) 9 _ S4 hb hn hx (by omega) (by omega)).mono ?_
  rintro e w5 ⟨m, rfl, hm, _, S5, g5⟩
  replace VR := VR.grownB g5 (by omega)
  replace G := grownBy_trans G g5
  have Z5 := g5.size
  try simp only [World.size_alloc] at Z5
  obtain ⟨hm1, hm2⟩ := hm (by omega)
  obtain ⟨m, rfl⟩ := Int.eq_ofNat_of_zero_le hm1
  have hm8 : m ≤ 8 := by omega
  go_wp2_with fail
  refine (l1Some_ok B a n ca zs (t + 11) m _ S5 hb hn hx (by omega) (by omega)).mono ?_
  rintro e w6 ⟨c, d, ys, rfl, hys, hby, O, S6, g6⟩
  replace VR := VR.grownB g6 (by omega)
  replace G := grownBy_trans G g6
  have Z6 := g6.size
  try simp only [World.size_alloc] at Z6
  have Oc : c < w6.heap.size := (O.lt _ rfl).2
  have VR0 := VR
  have O6 := Hid.mk O
  have G6 := G
  replace VR := VR.kept (belowA w6 (.cells #[.int .i64 f, .int .i64 t', .int .i64 r, .int .i64 l, .int .i64 0, .int .i64 0, .slice (some ⟨c, 0, none⟩) m d] 26))
  replace O := O.kept (belowA w6 (.cells #[.int .i64 f, .int .i64 t', .int .i64 r, .int .i64 l, .int .i64 0, .int .i64 0, .slice (some ⟨c, 0, none⟩) m d] 26))
  replace G := grown_alloc G (.cells #[.int .i64 f, .int .i64 t', .int .i64 r, .int .i64 l, .int .i64 0, .int .i64 0, .slice (some ⟨c, 0, none⟩) m d] 26)
  have S7 := S6.kept (belowA w6 (.cells #[.int .i64 f, .int .i64 t', .int .i64 r, .int .i64 l, .int .i64 0, .int .i64 0, .slice (some ⟨c, 0, none⟩) m d] 26))
  have VP := V.new w6 [.int .i64 f, .int .i64 t', .int .i64 r, .int .i64 l, .int .i64 0, .int .i64 0, .slice (some ⟨c, 0, none⟩) m d] 26
  have hp : portsP r = true ∨ portsP r = false := bool_cases
  rcases hp with hp | hp
  · go_wp2_with (first | (go_at_call 28; refine (specHasPorts_ok _ _).mono ?_; rintro e w9 ⟨rfl, rfl⟩) | fail)
    refine (l1Next_ok B a n ca zs (t + 11 + 3 * m) 65536 _ S7 hb hn hx (by omega) (by omega)).mono ?_
    rintro e w8 ⟨v8, rfl, h8, _, S8, g8⟩
    replace VR := VR.grownB g8 (by omega)
    replace VP := VP.grownB g8 (by omega)
    replace O := O.past g8 (by omega)
    replace G := grownBy_trans G g8
    have Z8 := g8.size
    try simp only [World.size_alloc] at Z8
    have h8 := h8 (by omega)
    obtain ⟨s_VP, f_VP, z_VP⟩ := VP.open
    replace VR := VR.kept (belowA w8 (.cells #[.int .i64 80, .int .i64 443, .int .i64 v8, .int .i64 0] 2))
    replace VP := VP.kept (belowA w8 (.cells #[.int .i64 80, .int .i64 443, .int .i64 v8, .int .i64 0] 2))
    replace O := O.kept (belowA w8 (.cells #[.int .i64 80, .int .i64 443, .int .i64 v8, .int .i64 0] 2))
    replace G := grown_alloc G (.cells #[.int .i64 80, .int .i64 443, .int .i64 v8, .int .i64 0] 2)
    go_wp2_with fail
    refine (l1Pick_ok B a n ca zs (t + 11 + 3 * m + 1) w8.heap.size 4 4 [80, 443, v8, 0] _ (S8.kept (belowA _ _)) hb hn hx (by omega) rfl (by omega) (by omega) (fun i hi => ?_) (by omega)).mono ?_
    · exact lit_cells w8 [80, 443, v8, 0] _ _ (by simp) i hi
    rintro e w9 ⟨x, rfl, hx9, S9, g9⟩
    replace VR := VR.grownB g9 (by omega)
    replace VP := VP.grownB g9 (by omega)
    replace O := O.past g9 (by omega)
    replace G := grownBy_trans G g9
    have Z9 := g9.size
    try simp only [World.size_alloc] at Z9
    simp only [List.mem_cons, List.not_mem_nil, or_false] at hx9
    have hx1 : 0 ≤ x ∧ x ≤ 65535 := by omega
    have hx9 := Hid.mk hx9
    clear s_VP f_VP z_VP
    obtain ⟨s_VP, f_VP, z_VP⟩ := VP.open
    go_wp2_with fail
    have gs := grownSet w9 (⟨w6.heap.size, 4, none⟩ : Addr) (.int .i64 x)
    have S9' := S9.grownAway gs (by intro k hk; simp at hk; omega)
    replace O := O.grown gs (by intro b hb; simp at hb; subst hb; simp; omega)
    replace VR := VR.other (p := ⟨w6.heap.size, 4, none⟩) (by simp; omega) (.int .i64 x)
    replace VP := VP.set (i := 4) (by simp) (.int .i64 x)
    simp only [List.set_cons_zero, List.set_cons_succ] at VP
    replace G := grownSet' G (p := ⟨w6.heap.size, 4, none⟩) (by simp; omega) (.int .i64 x)
    clear gs
    clear s_VP f_VP z_VP
    refine (l1Next_ok B a n ca zs (t + 11 + 3 * m + 1 + 1) 65536 _ S9' hb hn hx (by omega) (by omega)).mono ?_
    rintro e w10 ⟨v10, rfl, h10, _, S10, g10⟩
    replace VR := VR.grownB g10 (by omega)
    replace VP := VP.grownB g10 (by omega)
    replace O := O.past g10 (by omega)
    replace G := grownBy_trans G g10
    have Z10 := g10.size
    try simp only [World.size_alloc] at Z10
    have h10 := h10 (by omega)
    obtain ⟨s_VP, f_VP, z_VP⟩ := VP.open
    replace VR := VR.kept (belowA w10 (.cells #[.int .i64 80, .int .i64 443, .int .i64 v10, .int .i64 22] 2))
    replace VP := VP.kept (belowA w10 (.cells #[.int .i64 80, .int .i64 443, .int .i64 v10, .int .i64 22] 2))
    replace O := O.kept (belowA w10 (.cells #[.int .i64 80, .int .i64 443, .int .i64 v10, .int .i64 22] 2))
    replace G := grown_alloc G (.cells #[.int .i64 80, .int .i64 443, .int .i64 v10, .int .i64 22] 2)
    go_wp2_with fail
    refine (l1Pick_ok B a n ca zs (t + 11 + 3 * m + 1 + 1 + 1) w10.heap.size 4 4 [80, 443, v10, 22] _ (S10.kept (belowA _ _)) hb hn hx (by omega) rfl (by omega) (by omega) (fun i hi => ?_) (by omega)).mono ?_
    · exact lit_cells w10 [80, 443, v10, 22] _ _ (by simp) i hi
    rintro e w11 ⟨y, rfl, hy9, S11, g11⟩
    replace VR := VR.grownB g11 (by omega)
    replace VP := VP.grownB g11 (by omega)
    replace O := O.past g11 (by omega)
    replace G := grownBy_trans G g11
    have Z11 := g11.size
    try simp only [World.size_alloc] at Z11
    simp only [List.mem_cons, List.not_mem_nil, or_false] at hy9
    have hy1 : 0 ≤ y ∧ y ≤ 65535 := by omega
    have hy9 := Hid.mk hy9
    clear s_VP f_VP z_VP
    obtain ⟨s_VP, f_VP, z_VP⟩ := VP.open
    obtain ⟨s_VR, f_VR, z_VR⟩ := VR.open
    have gs := grownSet w11 (⟨w6.heap.size, 5, none⟩ : Addr) (.int .i64 y)
    have S11' := S11.grownAway gs (by intro k hk; simp at hk; omega)
    replace O := O.grown gs (by intro b hb; simp at hb; subst hb; simp; omega)
    replace VR := VR.other (p := ⟨w6.heap.size, 5, none⟩) (by simp; omega) (.int .i64 y)
    replace VP := VP.set (i := 5) (by simp) (.int .i64 y)
    simp only [List.set_cons_zero, List.set_cons_succ] at VP
    replace G := grownSet' G (p := ⟨w6.heap.size, 5, none⟩) (by simp; omega) (.int .i64 y)
    clear gs
    have O11 := Hid.mk O
    have SQ := S11'
    have hG := G.size
    have hxy : portsP r = false → x = 0 ∧ y = 0 := by rw [hp]; intro h; cases h
    go_wp2
    refine bodyPost_ret (v := .agg #[.int .i64 f, .int .i64 t', .int .i64 r, .int .i64 l, .int .i64 x, .int .i64 y, .slice (some ⟨c, 0, none⟩) m d]) (by simp [results, Try.results40, go_sem, f_VR]) rfl ⟨f, t', r, l, x, y, c, d, m, ys, t + 11 + 3 * m + 1 + 1 + 1 + 1, rfl, ⟨hf, ht', hr1, hl1, hx1, hy1, hxy, hm8⟩, hys, hby, ?_, by omega, ?_, ?_⟩
    · refine Own.mono (base := w5.heap.size) ?_ (by omega)
      repeat' first | with_reducible exact O11.out | with_reducible refine Own.below ?_ ?_ _ | (simp; try omega)
    · repeat' first | with_reducible exact SQ | with_reducible refine Src.other ?_ ?_ _ | (simp; try omega)
    · repeat' first | with_reducible exact G | with_reducible refine grownSet' ?_ ?_ _ | (simp; try omega)
  · obtain ⟨s_VR, f_VR, z_VR⟩ := VR0.open
    have hne : w.heap.size < w6.heap.size := by omega
    go_wp2_with (first | (go_at_call 28; refine (specHasPorts_ok _ _).mono ?_; rintro e w9 ⟨rfl, rfl⟩) | fail)
    have hxy : portsP r = false → (0 : Int) = 0 ∧ (0 : Int) = 0 := fun _ => ⟨rfl, rfl⟩
    have hG := G6.size
    refine bodyPost_ret (v := .agg #[.int .i64 f, .int .i64 t', .int .i64 r, .int .i64 l, .int .i64 0, .int .i64 0, .slice (some ⟨c, 0, none⟩) m d]) (by simp [results, Try.results40, go_sem, f_VR, s_VR]) rfl ⟨f, t', r, l, 0, 0, c, d, m, ys, t + 11 + 3 * m, rfl, ⟨hf, ht', hr1, hl1, by decide, by decide, hxy, hm8⟩, hys, hby, ?_, by omega, ?_, ?_⟩
    · refine Own.mono (base := w5.heap.size) ?_ (by omega)
      repeat' first | with_reducible exact O6.out | with_reducible refine Own.below ?_ ?_ _ | with_reducible refine Own.alloc ?_ _ | (simp; try omega)
    · repeat' first | with_reducible exact S6 | with_reducible refine Src.other ?_ ?_ _ | with_reducible refine Src.kept ?_ (belowA _ _) | (simp; try omega)
    · repeat' first | with_reducible exact G6 | with_reducible refine grownSet' ?_ ?_ _ | with_reducible refine grown_alloc ?_ _ | (simp; try omega)

end Go.Proofs.Ythjaehcfakjemaa
