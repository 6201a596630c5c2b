/- The draw of a window. -/
import Derived.Test.YtkpdbdcfimdnjaaWnI
import Derived.Test.YtkpdbdcfimdnjaaDrawK
import Derived.Test.YtkpdbdcfimdnjaaDrawC
namespace Go.Proofs.Ytkpdbdcfimdnjaa
open Go.RowKit

theorem srcCellsW {w : World} {B : Nat} {a : Option Addr} {n ca : Nat} {zs : List Int} {t : Nat} (h : Src w B a n ca zs t) {b : Nat} (hb : B < b) (o : Nat) (vs : List Value) : Src (w.setCells b o vs) B a n ca zs t := by
  induction vs generalizing w o with
  | nil => exact h
  | cons v vs ih => exact ih (h.other (p := ⟨b, o, none⟩) hb v) (o + 1)

theorem grownCellsW {w w' : World} {row : Option Nat} (h : w.grownBy w' row) {b : Nat} (hb : w.heap.size ≤ b) (o : Nat) (vs : List Value) : w.grownBy (w'.setCells b o vs) row := by
  induction vs generalizing w' o with
  | nil => exact h
  | cons v vs ih => exact ih (grownSet' h (p := ⟨b, o, none⟩) hb v) (o + 1)

/-- The state of a draw that has a window: the result's cells, the window's, the source. -/
structure Dw (w : World) (B : Nat) (a : Option Addr) (n ca : Nat) (zs : List Int) (A P : Nat) (y : Wn) (q : Nat) (wx : World) : Prop where
  res : V wx A [.int .i64 0, .int .i64 0]
  var : V wx P [.int .i64 y.t, .int .i64 y.b]
  src : Src wx B a n ca zs q
  gro : w.grownBy wx (some B)
  sep : A ≠ B ∧ B < P ∧ A < P ∧ w.heap.size ≤ A

theorem Dw.kept {w : World} {B : Nat} {a : Option Addr} {n ca : Nat} {zs : List Int} {A P : Nat} {y : Wn} {q : Nat} {wx w' : World} (h : Dw w B a n ca zs A P y q wx) (b : Below wx.heap.size wx w') : Dw w B a n ca zs A P y q w' :=
  ⟨h.res.kept b, h.var.kept b, h.src.kept b, grownBy_trans h.gro (Below.grownBy b _), h.sep⟩

theorem Dw.drawn {w : World} {B : Nat} {a : Option Addr} {n ca : Nat} {zs : List Int} {A P : Nat} {y : Wn} {q q' : Nat} {wx w' : World} (h : Dw w B a n ca zs A P y q wx) (g : wx.grownBy w' (some B)) (s : Src w' B a n ca zs q') : Dw w B a n ca zs A P y q' w' :=
  ⟨h.res.grownB g h.sep.1, h.var.grownB g (by have := h.sep; omega), s, grownBy_trans h.gro g, h.sep⟩

theorem Dw.stroke {w : World} {B : Nat} {a : Option Addr} {n ca : Nat} {zs : List Int} {A P : Nat} {y : Wn} {q : Nat} {wx : World} (h : Dw w B a n ca zs A P y q wx) (u : Wn) : Dw w B a n ca zs A P u q (wx.setCells P 0 [.int .i64 u.t, .int .i64 u.b]) :=
  ⟨h.res.apart (by have := h.sep; omega) 0 _, h.var.filled _ rfl, srcCellsW h.src (by have := h.sep; omega) 0 _, grownCellsW h.gro (by have := h.sep; omega) 0 _, h.sep⟩

theorem Dw.apart {w : World} {B : Nat} {a : Option Addr} {n ca : Nat} {zs : List Int} {A P : Nat} {y : Wn} {q : Nat} {wx : World} (h : Dw w B a n ca zs A P y q wx) {G : Nat} (hG : P < G) (vs : List Value) : Dw w B a n ca zs A P y q (wx.setCells G 0 vs) :=
  ⟨h.res.apart (by have := h.sep; omega) 0 _, h.var.apart (by omega) 0 _, srcCellsW h.src (by have := h.sep; omega) 0 _, grownCellsW h.gro (by have := h.sep; omega) 0 _, h.sep⟩

theorem Dw.top {w : World} {B : Nat} {a : Option Addr} {n ca : Nat} {zs : List Int} {A P : Nat} {y : Wn} {q : Nat} {wx : World} (h : Dw w B a n ca zs A P y q wx) (v : Int) : Dw w B a n ca zs A P ⟨v, y.b⟩ q (wx.setCell ⟨P, 0, none⟩ (.int .i64 v)) :=
  ⟨h.res.other (by have := h.sep; simp only; omega) _, by have h1 := h.var.set (i := 0) (by simp) (.int .i64 v); simpa only [List.set_cons_zero] using h1, h.src.other (by have := h.sep; simp only; omega) _, grownSet' h.gro (by have := h.sep; simp only; omega) _, h.sep⟩

theorem Dw.bits {w : World} {B : Nat} {a : Option Addr} {n ca : Nat} {zs : List Int} {A P : Nat} {y : Wn} {q : Nat} {wx : World} (h : Dw w B a n ca zs A P y q wx) (v : Int) : Dw w B a n ca zs A P ⟨y.t, v⟩ q (wx.setCell ⟨P, 1, none⟩ (.int .i64 v)) :=
  ⟨h.res.other (by have := h.sep; simp only; omega) _, by have h1 := h.var.set (i := 1) (by simp) (.int .i64 v); simpa only [List.set_cons_zero, List.set_cons_succ] using h1, h.src.other (by have := h.sep; simp only; omega) _, grownSet' h.gro (by have := h.sep; simp only; omega) _, h.sep⟩

/-- A drawn window's bounds. -/
def okY (y : Wn) : Prop := (-1 ≤ y.t ∧ y.t ≤ 1099511627777) ∧ (-1 ≤ y.b ∧ y.b ≤ 4294967296)

theorem okY_of {y : Wn} (h : wF y = 0) : okY y := by
  obtain ⟨i1, i2, i3, i4⟩ := (wF_ok.mp h).1
  unfold okY
  omega

theorem build_w0 (w : World) : (Instr.build 25 #[]).run Try.prog w = .ok (.agg #[.int .i64 0, .int .i64 0]) w := run_build w 25 _ _ (by kernel_rfl)

theorem wrapW {e : Int} (h1 : -9223372036854775808 ≤ e) (h2 : e ≤ 9223372036854775807) : IntKind.i64.wrap e = e := by
  simp [IntKind.wrap, IntKind.bits, IntKind.signed]; omega

theorem wF_none : wF ⟨0, 0⟩ = 0 := by decide

set_option maxRecDepth 20000 in
set_option maxHeartbeats 16000000 in
theorem l10Window_ok (B : Nat) (a : Option Addr) (n ca : Nat) (zs : List Int) (t : Nat) (w : World) (hs : Src w B a n ca zs t) (hb : Bytes zs) (hn : zs.length = n) (hx : n ≤ 1048577) (ht : t ≤ 9000) :
    Calls Try.prog 40 #[.pointer (some ⟨B, 0, none⟩)] w fun e w' => ∃ (y : Wn) (q : Nat), e = .returned (.agg #[.int .i64 y.t, .int .i64 y.b]) ∧ okY y ∧ q ≤ t + 20 ∧ Src w' B a n ca zs q ∧ w.grownBy w' (some B) := by
  have qb := build_w0
  have hB := hs.1.1
  have D0 : Dw w B a n ca zs w.heap.size (w.heap.size + 1) ⟨0, 0⟩ t ((w.alloc (.cells #[.int .i64 0, .int .i64 0] 25)).alloc (.cells #[.int .i64 0, .int .i64 0] 25)) :=
    ⟨(V.newAt _ _ _ _ rfl).kept (belowA _ _), V.newAt _ _ _ _ (by simp), (hs.kept (belowA _ _)).kept (belowA _ _), grown_alloc (grown_alloc (World.grownBy.refl _ _) _) _, by omega⟩
  clear hs
  go_enter Try.func40, Try.ntmps40
  go_upto_region 2 with fail
  generalize hW1 : (w.alloc (.cells #[.int .i64 0, .int .i64 0] 25)).alloc (.cells #[.int .i64 0, .int .i64 0] 25) = W1 at *
  clear hW1
  go_wp2_with fail
  refine (l1Pick_ok B a n ca zs t W1.heap.size 6 6 [0, 0, 5, 4294967276, 8589934589, 1099511627736] _ (D0.src.kept (belowA _ _)) hb hn hx (by omega) rfl (by omega) (by omega) (fun i hi => ?_) (by have := D0.src.1.1; omega)).mono ?_
  · exact lit_cells W1 [0, 0, 5, 4294967276, 8589934589, 1099511627736] _ _ (by simp) i hi
  rintro e w1 ⟨b0, rfl, hb0, S1, g1⟩
  have D1 := (D0.kept (belowA W1 (.cells #[.int .i64 0, .int .i64 0, .int .i64 5, .int .i64 4294967276, .int .i64 8589934589, .int .i64 1099511627736] 2))).drawn g1 S1
  have hb1 : 0 ≤ b0 ∧ b0 ≤ 1099511627736 := by simp only [List.mem_cons, List.not_mem_nil, or_false] at hb0; omega
  obtain ⟨hb1, hb2⟩ := hb1
  clear D0 S1 g1 hb0
  go_wp2_with fail
  refine (l1Next_ok B a n ca zs (t + 1) 12 _ D1.src hb hn hx (by omega) (by omega)).mono ?_
  rintro e w2 ⟨v, rfl, hv, _, S2, g2⟩
  obtain ⟨hv1, hv2⟩ := hv (by omega)
  obtain ⟨K, rfl⟩ := Int.eq_ofNat_of_zero_le hv1
  have D2 := Hid.mk (D1.drawn g2 S2)
  clear D1 S2 g2 hv
  go_wp2
  go_loopw [5] (fun i wr => ∃ (k : Nat) (y : Wn) (q : Nat), k ≤ 11 ∧ i = .int .i64 k ∧ q + k ≤ t + 13 ∧ wF y = 0 ∧ Dw w B a n ca zs w.heap.size (w.heap.size + 1) y q wr) (fun i _ => (intOf i).toNat)
  case atStart => exact ⟨K, ⟨0, 0⟩, t + 1 + 1, by omega, rfl, by omega, wF_none, D2.out⟩
  case round =>
    clear D2 hv1 hv2
    obtain ⟨k, y, q, hk, rfl, hq, hy, DP⟩ := hrel
    by_cases hk0 : 0 < k
    · have hki : (0 : Int) < (k : Int) := by omega
      have hiy := (wF_ok.mp hy).1
      go_upto_region 6 with fail
      go_cut [6] (fun p wx => ∃ (G : Nat) (v : Int), p = .pointer (some ⟨G, 0, none⟩) ∧ 0 ≤ v ∧ v < 40 ∧ V wx G [.int .i64 (tkR y (b0 + 1 + v)).1, .int .i64 (tkR y (b0 + 1 + v)).2.1, .int .i64 (tkR y (b0 + 1 + v)).2.2.t, .int .i64 (tkR y (b0 + 1 + v)).2.2.b] ∧ w.heap.size + 1 < G ∧ Dw w B a n ca zs w.heap.size (w.heap.size + 1) y (q + 1) wx)
      case first =>
        have DD := DP.kept (Below.refl _ _).drew
        clear DP
        have hb11 : -9223372036854775808 ≤ b0 + 1 := by omega
        have hb12 : b0 + 1 ≤ 1099511627737 := by omega
        have hwr1 : IntKind.i64.wrap (b0 + 1) = b0 + 1 := wrapW (by omega) (by omega)
        refine wp_region_held_drew (S := (fun w' => w'.cell? ⟨w.heap.size + 1, 0, none⟩ = some (.int .i64 y.t) ∧ w'.cell? ⟨w.heap.size + 1, 1, none⟩ = some (.int .i64 y.b))) (by kernel_rfl) ⟨DD.var.2.1 0 (by simp), DD.var.2.1 1 (by simp)⟩ (fun hHeld => ?_)
        generalize hwd : World.drew _ = wd at *
        clear hwd
        refine wpAnyH_take (i := 0) (oi := _) (v := ?vjw1) rfl (by kernel_rfl) (by kernel_rfl) (by kernel_rfl) (fun _ _ _ h => h) (Or.inl ⟨by rfl, ?hyjw1⟩) hHeld ?restjw1
        case hyjw1 => (intro w hSw; (try dsimp only at hSw); go_simp; first | done | with_reducible rfl)
        try simp only [Act.put, List.getElem_toArray, List.getElem_cons_zero, List.setIfInBounds_toArray, List.set_cons_zero, List.set_cons_succ]
        refine wpAnyH_take (i := 1) (oi := _) (v := ?vjw2) rfl (by kernel_rfl) (by kernel_rfl) (by kernel_rfl) (fun _ _ _ h => h) (Or.inl ⟨by rfl, ?hyjw2⟩) hHeld ?restjw2
        case hyjw2 => (intro w hSw; (try dsimp only at hSw); go_simp; first | done | with_reducible rfl)
        try simp only [Act.put, List.getElem_toArray, List.getElem_cons_zero, List.getElem_cons_succ, List.setIfInBounds_toArray, List.set_cons_zero, List.set_cons_succ]
        refine wpAnyH_take (i := 2) (oi := _) (v := ?vjw3) rfl (by kernel_rfl) (by kernel_rfl) (by kernel_rfl) (fun _ _ _ h => h) (Or.inl ⟨by rfl, ?hyjw3⟩) hHeld ?restjw3
        case hyjw3 => (intro w hSw; (try dsimp only at hSw); go_simp; first | done | with_reducible rfl)
        try simp only [Act.put, List.getElem_toArray, List.getElem_cons_zero, List.getElem_cons_succ, List.setIfInBounds_toArray, List.set_cons_zero, List.set_cons_succ]
        refine wpAnyH_take (i := 3) (oi := _) (v := ?vjw4) rfl (by kernel_rfl) (by kernel_rfl) (by kernel_rfl) (fun _ _ _ h => h) (Or.inl ⟨by rfl, ?hyjw4⟩) hHeld ?restjw4
        case hyjw4 => (intro w hSw; (try dsimp only at hSw); go_simp; first | done | with_reducible rfl)
        try simp only [Act.put, List.getElem_toArray, List.getElem_cons_zero, List.getElem_cons_succ, List.setIfInBounds_toArray, List.set_cons_zero, List.set_cons_succ]
        refine wpAnyH_ready (rs := [4, 7]) (by kernel_rfl) (by simp) ?_
        refine AllReadyH.cons (o := _) rfl (fun K0 hK0 => ?_) (AllReadyH.cons (o := _) rfl (fun K0 hK0 => ?_) AllReadyH.nil)
        · skip
          go_simp
          go_at_call 41
          refine (l1Next_ok B a n ca zs q 40 _ DD.src hb hn hx (by omega) (by omega)).mono ?_
          rintro e wa5 ⟨v, rfl, hv, _, S9, g9⟩
          obtain ⟨hv1, hv2⟩ := hv (by omega)
          replace DD := DD.drawn g9 S9
          clear hv g9 S9
          refine hK0.out _ _ ⟨DD.var.2.1 0 (by simp), DD.var.2.1 1 (by simp)⟩ (fun hHeld => ?_)
          clear hK0 K0
          try simp only [Act.put, List.getElem_toArray, List.getElem_cons_zero, List.getElem_cons_succ, List.setIfInBounds_toArray, List.set_cons_zero, List.set_cons_succ]
          have hwr2 : IntKind.i64.wrap (b0 + 1 + v) = b0 + 1 + v := wrapW (by omega) (by omega)
          refine wpAnyH_take (i := 5) (oi := _) (v := ?vjw6) rfl (by kernel_rfl) (by kernel_rfl) (by kernel_rfl) (fun _ _ _ h => h) (Or.inl ⟨by rfl, ?hyjw6⟩) hHeld ?restjw6
          case hyjw6 => (intro w hSw; (try dsimp only at hSw); go_simp; first | done | with_reducible rfl)
          try simp only [Act.put, List.getElem_toArray, List.getElem_cons_zero, List.getElem_cons_succ, List.setIfInBounds_toArray, List.set_cons_zero, List.set_cons_succ]
          refine wpAnyH_ready (rs := [6, 7]) (by kernel_rfl) (by simp) ?_
          refine AllReadyH.cons (o := _) rfl (fun K0 hK0 => ?_) (AllReadyH.cons (o := _) rfl (fun K0 hK0 => ?_) AllReadyH.nil)
          · skip
            go_simp
            go_at_call 44
            refine (l10Take_ok y hiy (b0 + 1 + v) (by omega) _).mono ?_
            rintro e wb7 ⟨rfl, b6⟩
            replace DD := DD.kept b6
            clear b6
            refine hK0.out _ _ ⟨DD.var.2.1 0 (by simp), DD.var.2.1 1 (by simp)⟩ (fun hHeld => ?_)
            clear hK0 K0
            try simp only [Act.put, List.getElem_toArray, List.getElem_cons_zero, List.getElem_cons_succ, List.setIfInBounds_toArray, List.set_cons_zero, List.set_cons_succ]
            refine wpAnyH_ready (rs := [7]) (by kernel_rfl) (by simp) ?_
            refine AllReadyH.cons (o := _) rfl (fun K0 hK0 => ?_) AllReadyH.nil
            go_simp
            have bq := belowA wb7 (.cells #[.int .i64 0, .int .i64 0, .int .i64 0, .int .i64 0] 35)
            have VG : V (wb7.alloc (.cells #[.int .i64 0, .int .i64 0, .int .i64 0, .int .i64 0] 35)) wb7.heap.size [.int .i64 0, .int .i64 0, .int .i64 0, .int .i64 0] := V.new _ _ _
            have hG : w.heap.size + 1 < wb7.heap.size := DD.var.1
            replace DD := DD.kept bq
            clear bq
            refine hK0.out _ _ ⟨DD.var.2.1 0 (by simp), DD.var.2.1 1 (by simp)⟩ (fun hHeld => ?_)
            clear hK0 K0
            try simp only [Act.put, List.getElem_toArray, List.getElem_cons_zero, List.getElem_cons_succ, List.setIfInBounds_toArray, List.set_cons_zero, List.set_cons_succ]
            generalize hQ8 : wb7.heap.size = G8 at *
            generalize wb7.alloc (.cells #[.int .i64 0, .int .i64 0, .int .i64 0, .int .i64 0] 35) = wc8 at *
            clear hQ8
            have HT := Hid.mk VG.there
            have VF := VG.filled [.int .i64 (tkR y (b0 + 1 + v)).1, .int .i64 (tkR y (b0 + 1 + v)).2.1, .int .i64 (tkR y (b0 + 1 + v)).2.2.t, .int .i64 (tkR y (b0 + 1 + v)).2.2.b] rfl
            have D6 := DD.apart (G := G8) hG [.int .i64 (tkR y (b0 + 1 + v)).1, .int .i64 (tkR y (b0 + 1 + v)).2.1, .int .i64 (tkR y (b0 + 1 + v)).2.2.t, .int .i64 (tkR y (b0 + 1 + v)).2.2.b]
            obtain ⟨w6, hw6⟩ : ∃ w6, wc8.setCells G8 0 [.int .i64 (tkR y (b0 + 1 + v)).1, .int .i64 (tkR y (b0 + 1 + v)).2.1, .int .i64 (tkR y (b0 + 1 + v)).2.2.t, .int .i64 (tkR y (b0 + 1 + v)).2.2.b] = w6 := ⟨_, rfl⟩
            rw [hw6] at VF D6
            replace hw6 := Hid.mk hw6
            clear DD VG
            refine wpAnyH_ready (rs := [8]) (by kernel_rfl) (by simp) ?_
            refine AllReadyH.cons (o := _) rfl (fun K0 hK0 => ?_) AllReadyH.nil
            rw [if_pos (by rfl)]
            refine wp_strokeG w6 35 _ _ rfl G8 0 #[.int .i64 (tkR y (b0 + 1 + v)).1, .int .i64 (tkR y (b0 + 1 + v)).2.1, .int .i64 (tkR y (b0 + 1 + v)).2.2.t, .int .i64 (tkR y (b0 + 1 + v)).2.2.b] rfl rfl HT.out (by kernel_rfl) (by kernel_rfl) hw6.out ?_
            refine hK0.out _ _ ⟨D6.var.2.1 0 (by simp), D6.var.2.1 1 (by simp)⟩ (fun hHeld => ?_)
            clear hK0 K0 hHeld HT
            refine wpAnyH_done (by kernel_rfl) ?_ _
            replace VF := Hid.mk VF
            replace D6 := Hid.mk D6
            go_wp2_with fail
            go_meet
            exact ⟨G8, v, rfl, hv1, hv2, VF.out, hG, D6.out⟩
          · skip
            go_simp
            have bq := belowA wa5 (.cells #[.int .i64 0, .int .i64 0, .int .i64 0, .int .i64 0] 35)
            have VG : V (wa5.alloc (.cells #[.int .i64 0, .int .i64 0, .int .i64 0, .int .i64 0] 35)) wa5.heap.size [.int .i64 0, .int .i64 0, .int .i64 0, .int .i64 0] := V.new _ _ _
            have hG : w.heap.size + 1 < wa5.heap.size := DD.var.1
            replace DD := DD.kept bq
            clear bq
            refine hK0.out _ _ ⟨DD.var.2.1 0 (by simp), DD.var.2.1 1 (by simp)⟩ (fun hHeld => ?_)
            clear hK0 K0
            try simp only [Act.put, List.getElem_toArray, List.getElem_cons_zero, List.getElem_cons_succ, List.setIfInBounds_toArray, List.set_cons_zero, List.set_cons_succ]
            generalize hQ9 : wa5.heap.size = G9 at *
            generalize wa5.alloc (.cells #[.int .i64 0, .int .i64 0, .int .i64 0, .int .i64 0] 35) = wc9 at *
            clear hQ9
            refine wpAnyH_ready (rs := [6]) (by kernel_rfl) (by simp) ?_
            refine AllReadyH.cons (o := _) rfl (fun K0 hK0 => ?_) AllReadyH.nil
            go_simp
            go_at_call 44
            refine (l10Take_ok y hiy (b0 + 1 + v) (by omega) _).mono ?_
            rintro e wb10 ⟨rfl, b6⟩
            replace DD := DD.kept b6
            replace VG := VG.kept b6
            clear b6
            refine hK0.out _ _ ⟨DD.var.2.1 0 (by simp), DD.var.2.1 1 (by simp)⟩ (fun hHeld => ?_)
            clear hK0 K0
            try simp only [Act.put, List.getElem_toArray, List.getElem_cons_zero, List.getElem_cons_succ, List.setIfInBounds_toArray, List.set_cons_zero, List.set_cons_succ]
            have HT := Hid.mk VG.there
            have VF := VG.filled [.int .i64 (tkR y (b0 + 1 + v)).1, .int .i64 (tkR y (b0 + 1 + v)).2.1, .int .i64 (tkR y (b0 + 1 + v)).2.2.t, .int .i64 (tkR y (b0 + 1 + v)).2.2.b] rfl
            have D6 := DD.apart (G := G9) hG [.int .i64 (tkR y (b0 + 1 + v)).1, .int .i64 (tkR y (b0 + 1 + v)).2.1, .int .i64 (tkR y (b0 + 1 + v)).2.2.t, .int .i64 (tkR y (b0 + 1 + v)).2.2.b]
            obtain ⟨w6, hw6⟩ : ∃ w6, wb10.setCells G9 0 [.int .i64 (tkR y (b0 + 1 + v)).1, .int .i64 (tkR y (b0 + 1 + v)).2.1, .int .i64 (tkR y (b0 + 1 + v)).2.2.t, .int .i64 (tkR y (b0 + 1 + v)).2.2.b] = w6 := ⟨_, rfl⟩
            rw [hw6] at VF D6
            replace hw6 := Hid.mk hw6
            clear DD VG
            refine wpAnyH_ready (rs := [8]) (by kernel_rfl) (by simp) ?_
            refine AllReadyH.cons (o := _) rfl (fun K0 hK0 => ?_) AllReadyH.nil
            rw [if_pos (by rfl)]
            refine wp_strokeG w6 35 _ _ rfl G9 0 #[.int .i64 (tkR y (b0 + 1 + v)).1, .int .i64 (tkR y (b0 + 1 + v)).2.1, .int .i64 (tkR y (b0 + 1 + v)).2.2.t, .int .i64 (tkR y (b0 + 1 + v)).2.2.b] rfl rfl HT.out (by kernel_rfl) (by kernel_rfl) hw6.out ?_
            refine hK0.out _ _ ⟨D6.var.2.1 0 (by simp), D6.var.2.1 1 (by simp)⟩ (fun hHeld => ?_)
            clear hK0 K0 hHeld HT
            refine wpAnyH_done (by kernel_rfl) ?_ _
            replace VF := Hid.mk VF
            replace D6 := Hid.mk D6
            go_wp2_with fail
            go_meet
            exact ⟨G9, v, rfl, hv1, hv2, VF.out, hG, D6.out⟩
        · skip
          go_simp
          have bq := belowA wd (.cells #[.int .i64 0, .int .i64 0, .int .i64 0, .int .i64 0] 35)
          have VG : V (wd.alloc (.cells #[.int .i64 0, .int .i64 0, .int .i64 0, .int .i64 0] 35)) wd.heap.size [.int .i64 0, .int .i64 0, .int .i64 0, .int .i64 0] := V.new _ _ _
          have hG : w.heap.size + 1 < wd.heap.size := DD.var.1
          replace DD := DD.kept bq
          clear bq
          refine hK0.out _ _ ⟨DD.var.2.1 0 (by simp), DD.var.2.1 1 (by simp)⟩ (fun hHeld => ?_)
          clear hK0 K0
          try simp only [Act.put, List.getElem_toArray, List.getElem_cons_zero, List.getElem_cons_succ, List.setIfInBounds_toArray, List.set_cons_zero, List.set_cons_succ]
          generalize hQ11 : wd.heap.size = G11 at *
          generalize wd.alloc (.cells #[.int .i64 0, .int .i64 0, .int .i64 0, .int .i64 0] 35) = wc11 at *
          clear hQ11
          refine wpAnyH_ready (rs := [4]) (by kernel_rfl) (by simp) ?_
          refine AllReadyH.cons (o := _) rfl (fun K0 hK0 => ?_) AllReadyH.nil
          go_simp
          go_at_call 41
          refine (l1Next_ok B a n ca zs q 40 _ DD.src hb hn hx (by omega) (by omega)).mono ?_
          rintro e wa12 ⟨v, rfl, hv, _, S9, g9⟩
          obtain ⟨hv1, hv2⟩ := hv (by omega)
          replace DD := DD.drawn g9 S9
          replace VG := VG.grownB g9 (by have := DD.sep; omega)
          clear hv g9 S9
          refine hK0.out _ _ ⟨DD.var.2.1 0 (by simp), DD.var.2.1 1 (by simp)⟩ (fun hHeld => ?_)
          clear hK0 K0
          try simp only [Act.put, List.getElem_toArray, List.getElem_cons_zero, List.getElem_cons_succ, List.setIfInBounds_toArray, List.set_cons_zero, List.set_cons_succ]
          have hwr2 : IntKind.i64.wrap (b0 + 1 + v) = b0 + 1 + v := wrapW (by omega) (by omega)
          refine wpAnyH_take (i := 5) (oi := _) (v := ?vjw13) rfl (by kernel_rfl) (by kernel_rfl) (by kernel_rfl) (fun _ _ _ h => h) (Or.inl ⟨by rfl, ?hyjw13⟩) hHeld ?restjw13
          case hyjw13 => (intro w hSw; (try dsimp only at hSw); go_simp; first | done | with_reducible rfl)
          try simp only [Act.put, List.getElem_toArray, List.getElem_cons_zero, List.getElem_cons_succ, List.setIfInBounds_toArray, List.set_cons_zero, List.set_cons_succ]
          refine wpAnyH_ready (rs := [6]) (by kernel_rfl) (by simp) ?_
          refine AllReadyH.cons (o := _) rfl (fun K0 hK0 => ?_) AllReadyH.nil
          go_simp
          go_at_call 44
          refine (l10Take_ok y hiy (b0 + 1 + v) (by omega) _).mono ?_
          rintro e wb14 ⟨rfl, b6⟩
          replace DD := DD.kept b6
          replace VG := VG.kept b6
          clear b6
          refine hK0.out _ _ ⟨DD.var.2.1 0 (by simp), DD.var.2.1 1 (by simp)⟩ (fun hHeld => ?_)
          clear hK0 K0
          try simp only [Act.put, List.getElem_toArray, List.getElem_cons_zero, List.getElem_cons_succ, List.setIfInBounds_toArray, List.set_cons_zero, List.set_cons_succ]
          have HT := Hid.mk VG.there
          have VF := VG.filled [.int .i64 (tkR y (b0 + 1 + v)).1, .int .i64 (tkR y (b0 + 1 + v)).2.1, .int .i64 (tkR y (b0 + 1 + v)).2.2.t, .int .i64 (tkR y (b0 + 1 + v)).2.2.b] rfl
          have D6 := DD.apart (G := G11) hG [.int .i64 (tkR y (b0 + 1 + v)).1, .int .i64 (tkR y (b0 + 1 + v)).2.1, .int .i64 (tkR y (b0 + 1 + v)).2.2.t, .int .i64 (tkR y (b0 + 1 + v)).2.2.b]
          obtain ⟨w6, hw6⟩ : ∃ w6, wb14.setCells G11 0 [.int .i64 (tkR y (b0 + 1 + v)).1, .int .i64 (tkR y (b0 + 1 + v)).2.1, .int .i64 (tkR y (b0 + 1 + v)).2.2.t, .int .i64 (tkR y (b0 + 1 + v)).2.2.b] = w6 := ⟨_, rfl⟩
          rw [hw6] at VF D6
          replace hw6 := Hid.mk hw6
          clear DD VG
          refine wpAnyH_ready (rs := [8]) (by kernel_rfl) (by simp) ?_
          refine AllReadyH.cons (o := _) rfl (fun K0 hK0 => ?_) AllReadyH.nil
          rw [if_pos (by rfl)]
          refine wp_strokeG w6 35 _ _ rfl G11 0 #[.int .i64 (tkR y (b0 + 1 + v)).1, .int .i64 (tkR y (b0 + 1 + v)).2.1, .int .i64 (tkR y (b0 + 1 + v)).2.2.t, .int .i64 (tkR y (b0 + 1 + v)).2.2.b] rfl rfl HT.out (by kernel_rfl) (by kernel_rfl) hw6.out ?_
          refine hK0.out _ _ ⟨D6.var.2.1 0 (by simp), D6.var.2.1 1 (by simp)⟩ (fun hHeld => ?_)
          clear hK0 K0 hHeld HT
          refine wpAnyH_done (by kernel_rfl) ?_ _
          replace VF := Hid.mk VF
          replace D6 := Hid.mk D6
          go_wp2_with fail
          go_meet
          exact ⟨G11, v, rfl, hv1, hv2, VF.out, hG, D6.out⟩
      case rest =>
        clear DP
        obtain ⟨G, v, rfl, hv1, hv2, VG, hG, DP⟩ := hcut
        obtain ⟨s, hse⟩ : ∃ s, b0 + 1 + v = s := ⟨_, rfl⟩
        rw [hse] at VG
        clear hse
        by_cases hc0 : tkC y s = 0
        · rw [tkR_yes hc0] at VG
          have hnx := Hid.mk (nx_ok hy hc0)
          generalize nxW y s = u at *
          simp only at VG
          have HT := Hid.mk DP.var.there
          have DU := DP.stroke u
          obtain ⟨w6, hw6⟩ : ∃ w6, wc.setCells (w.heap.size + 1) 0 [.int .i64 u.t, .int .i64 u.b] = w6 := ⟨_, rfl⟩
          rw [hw6] at DU
          replace hw6 := Hid.mk hw6
          replace DU := Hid.mk DU
          have hVG := VG.1
          obtain ⟨s_VG, f_VG, z_VG⟩ := VG.open
          clear DP hc0
          go_upto_region 8 with fail
          go_wp2_with (refine wpList_stroke w6 rfl 25 _ _ rfl (w.heap.size + 1) 0 #[.int .i64 u.t, .int .i64 u.b] rfl rfl HT.out (by kernel_rfl) (by kernel_rfl) hw6.out ?_)
          go_roundw
          case rel => exact ⟨k - 1, u, q + 1, by omega, by first | (go_num; done) | (simp; omega), by omega, hnx.out, DU.out⟩
          case measure => simp [intOf] <;> omega
        · rw [tkR_no hc0] at VG
          have hne : (tkC y s == 0) = false := by simpa using hc0
          generalize tkC y s = kk at *
          simp only at VG
          have hVG := VG.1
          obtain ⟨s_VG, f_VG, z_VG⟩ := VG.open
          replace DP := Hid.mk DP
          clear hc0
          go_wp2
          go_roundw
          case rel => exact ⟨k - 1, y, q + 1, by omega, by first | (go_num; done) | (simp; omega), by omega, hy, DP.out⟩
          case measure => simp [intOf] <;> omega
    · obtain rfl : k = 0 := by omega
      go_wp2_with fail
      refine (l1Next_ok B a n ca zs q 20 _ DP.src hb hn hx (by omega) (by omega)).mono ?_
      rintro e w7 ⟨u, rfl, hv, _, S7, g7⟩
      obtain ⟨hu1, hu2⟩ := hv (by omega)
      have D7 := DP.drawn g7 S7
      have hoy := okY_of hy
      clear DP hv S7 g7 hy
      go_upto_block 2 with fail
      go_cut [] (fun wx => ∃ (y : Wn) (q' : Nat), okY y ∧ q' ≤ t + 20 ∧ Dw w B a n ca zs w.heap.size (w.heap.size + 1) y q' wx)
      case first =>
        rcases (by omega : u = 0 ∨ u = 1 ∨ 2 ≤ u) with rfl | rfl | hu3
        · go_wp2_with fail
          refine (l1Pick_ok B a n ca zs (q + 1) w7.heap.size 5 5 [-1, 0, 1, 1099511627776, 1099511627777] _ (D7.src.kept (belowA _ _)) hb hn hx (by omega) rfl (by omega) (by omega) (fun i hi => ?_) (by have := D7.src.1.1; omega)).mono ?_
          · exact lit_cells w7 [-1, 0, 1, 1099511627776, 1099511627777] _ _ (by simp) _ hi
          rintro e w8 ⟨z, rfl, hz, S8, g8⟩
          have hz2 : -1 ≤ z ∧ z ≤ 1099511627777 := by simp only [List.mem_cons, List.not_mem_nil, or_false] at hz; omega
          have D8 := (D7.kept (belowA w7 (.cells #[.int .i64 (-1), .int .i64 0, .int .i64 1, .int .i64 1099511627776, .int .i64 1099511627777] 2))).drawn g8 S8
          obtain ⟨s_V, f_V, z_V⟩ := D8.var.open
          have D9 := Hid.mk (D8.top z)
          clear D7 D8 hz S8 g8
          go_wp2_with fail
          go_meet
          exact ⟨⟨z, y.b⟩, _, ⟨hz2, hoy.2⟩, by omega, D9.out⟩
        · go_wp2_with fail
          refine (l1Pick_ok B a n ca zs (q + 1) w7.heap.size 5 5 [0, -1, 4294967295, 4294967296, 5] _ (D7.src.kept (belowA _ _)) hb hn hx (by omega) rfl (by omega) (by omega) (fun i hi => ?_) (by have := D7.src.1.1; omega)).mono ?_
          · exact lit_cells w7 [0, -1, 4294967295, 4294967296, 5] _ _ (by simp) _ hi
          rintro e w8 ⟨z, rfl, hz, S8, g8⟩
          have hz2 : -1 ≤ z ∧ z ≤ 4294967296 := by simp only [List.mem_cons, List.not_mem_nil, or_false] at hz; omega
          have D8 := (D7.kept (belowA w7 (.cells #[.int .i64 0, .int .i64 (-1), .int .i64 4294967295, .int .i64 4294967296, .int .i64 5] 2))).drawn g8 S8
          obtain ⟨s_V, f_V, z_V⟩ := D8.var.open
          have D9 := Hid.mk (D8.bits z)
          clear D7 D8 hz S8 g8
          go_wp2_with fail
          go_meet
          exact ⟨⟨y.t, z⟩, _, ⟨hoy.1, hz2⟩, by omega, D9.out⟩
        · have u0 : (u == 0) = false := by simp; omega
          have u1 : (u == 1) = false := by simp; omega
          replace D7 := Hid.mk D7
          go_wp2_with fail
          go_meet
          exact ⟨y, _, hoy, by omega, D7.out⟩
      case rest =>
        clear D7 hoy hu1 hu2
        obtain ⟨y, r, hoy, hr, DP⟩ := hcut
        obtain ⟨s_V, f_V, z_V⟩ := DP.var.open
        have HT := Hid.mk DP.res.there
        have VF := Hid.mk (DP.res.filled [.int .i64 y.t, .int .i64 y.b] rfl)
        have SR := Hid.mk (srcCellsW DP.src (b := w.heap.size) hB 0 [.int .i64 y.t, .int .i64 y.b])
        have GR := Hid.mk (grownCellsW DP.gro (Nat.le_refl _) 0 [.int .i64 y.t, .int .i64 y.b])
        clear DP
        go_wp2_with (refine wpList_store_mid rfl 25 _ _ rfl w.heap.size 0 #[.int .i64 y.t, .int .i64 y.b] rfl rfl HT.out (by kernel_rfl) (by kernel_rfl) ?_)
        refine bodyPost_ret (v := .agg #[.int .i64 y.t, .int .i64 y.b]) (results_row Try.results40 _ _ w.heap.size [.int .i64 y.t, .int .i64 y.b] _ rfl VF.out Try.underlying25 rfl (by kernel_rfl)) rfl ⟨y, r, rfl, hoy, hr, SR.out, GR.out⟩

end Go.Proofs.Ytkpdbdcfimdnjaa
