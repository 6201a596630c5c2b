/- The draw of a table. -/
import Derived.Test.YthkmoabkeblbjaaDrawK
import Derived.Test.YthkmoabkeblbjaaDrawP
import Derived.Test.YthkmoabkeblbjaaDrawC
import Derived.Test.YthkmoabkeblbjaaTmU
import Derived.Test.YthkmoabkeblbjaaTmS
namespace Go.Proofs.Ythkmoabkeblbjaa
open Go.RowKit

theorem build_t123 (o a b : Int) (w : World) : (Instr.build 36 #[(0, .int .i64 o), (1, .int .i64 a), (2, .int .i64 b)]).run Try.prog w = .ok (.agg #[.int .i64 o, .int .i64 a, .int .i64 b, .int .i64 0]) w := run_build w 36 _ _ (by kernel_rfl)

theorem put_more {xs : List T4} {t : T4} (h : ∀ x ∈ xs, okT x) (ht : okT t) : (put xs t).l.length ≤ xs.length + 1 ∧ ∀ y ∈ (put xs t).l, okT y := by
  rcases put_ways xs t with ⟨_, e⟩ | ⟨_, _, e⟩ | ⟨_, _, _, e⟩ | ⟨_, _, _, e⟩ <;> rw [e]
  · exact ⟨Nat.zero_le _, fun y hy => by simp at hy⟩
  · exact ⟨by simp only; omega, h⟩
  · exact ⟨Nat.zero_le _, fun y hy => by simp at hy⟩
  · refine ⟨by simp, fun y hy => ?_⟩
    simp only [List.mem_append, List.mem_singleton] at hy
    rcases hy with hy | rfl
    · exact h y hy
    · exact ht

theorem srcCells {w : World} {B : Nat} {a : Option Addr} {n ca : Nat} {zs : List Int} {t : Nat} (h : Src w B a n ca zs t) {b : Nat} (hb : B < b) (o : Nat) (vs : List Value) : Src (w.setCells b o vs) B a n ca zs t := by
  induction vs generalizing w o with
  | nil => exact h
  | cons v vs ih => exact ih (h.other (p := ⟨b, o, none⟩) hb v) (o + 1)

theorem grownCells {w w' : World} {row : Option Nat} (h : w.grownBy w' row) {b : Nat} (hb : w.heap.size ≤ b) (o : Nat) (vs : List Value) : w.grownBy (w'.setCells b o vs) row := by
  induction vs generalizing w' o with
  | nil => exact h
  | cons v vs ih => exact ih (grownSet' h (p := ⟨b, o, none⟩) hb v) (o + 1)

/-- What the draw of a table leaves. -/
def Grew (B : Nat) (a : Option Addr) (n ca : Nat) (zs : List Int) (t m : Nat) (w : World) (e : Ending) (w' : World) : Prop :=
  ∃ (c : Option Addr) (d k : Nat) (xs : List T4) (q : Nat), e = .returned (.slice c k d) ∧ xs.length = k ∧ k ≤ m ∧ (∀ x ∈ xs, okT x) ∧ OwnTerm w' w.heap.size c d xs ∧ q ≤ t + 4 * m ∧ Src w' B a n ca zs q ∧ w.grownBy w' (some B)

set_option maxRecDepth 20000 in
set_option maxHeartbeats 2000000 in
theorem l5Grow_ok (B : Nat) (a : Option Addr) (n ca : Nat) (zs : List Int) (t m : Nat) (w : World) (hs : Src w B a n ca zs t) (hb : Bytes zs) (hn : zs.length = n) (hx : n ≤ 1048577) (ht : t ≤ 1000) (hm : m ≤ 100) :
    Calls Try.prog 105 #[.pointer (some ⟨B, 0, none⟩), .int .i64 m] w (Grew B a n ca zs t m w) := by
  have q1 := build_t123
  have q2 := build_t1
  have hB0 : B < w.heap.size := hs.1.1
  have OL := OwnTerm.lit w [] [] rfl (Nat.zero_le _)
  have S0 := Hid.mk (hs.kept (belowA w (.cells #[] 36)))
  have G0 := Hid.mk (grown_alloc (World.grownBy.refl w (some B)) (.cells #[] 36))
  replace OL := Hid.mk OL
  clear hs
  go_enter Try.func105, Try.ntmps105
  go_wp2
  go_loopw [1, 5] (fun i s wr => ∃ (j : Nat) (c : Option Addr) (d k : Nat) (xs : List T4) (q : Nat), j ≤ m ∧ i = .int .i64 ((m : Int) - (j : Int)) ∧ s = .slice c k d ∧ Hid (xs.length = k ∧ k ≤ j ∧ ∀ x ∈ xs, okT x) ∧ OwnTerm wr w.heap.size c d xs ∧ Hid (q ≤ t + 4 * j) ∧ Src wr B a n ca zs q ∧ Hid (w.grownBy wr (some B))) (fun i _ _ => (intOf i).toNat)
  case atStart => exact ⟨0, some ⟨w.heap.size, 0, none⟩, 0, 0, [], t, Nat.zero_le _, by simp, rfl, Hid.mk ⟨rfl, Nat.le_refl _, fun x hx => by simp at hx⟩, OL.out, Hid.mk (by omega), S0.out, G0⟩
  case round =>
    clear OL S0 G0
    obtain ⟨j, c, d, k, xs, q, hj, rfl, rfl, hxs, O, hq, S, G0⟩ := hrel
    by_cases hlt : j < m
    · have hgt : (0 : Int) < (m : Int) - (j : Int) := by omega
      have hq0 := hq.out
      have hk0 := hxs.out.2.1
      obtain ⟨K, hK⟩ : ∃ K, max (1 : Int) (k : Int) = K := ⟨_, rfl⟩
      have hK1 : 1 ≤ K ∧ K ≤ 101 := by omega
      have CM := Hid.mk (fun w => l1Max_ok 1 (k : Int) w)
      rw [hK] at CM
      have hBw : B < wr.heap.size := S.1.1
      have hOB : Hid (∀ b : Addr, c = some b → some B ≠ some b.block) := Hid.mk (fun b hb e => by have := (O.lt b hb).1; simp at e; omega)
      have hsw := Hid.mk G0.out.size
      have hnc := Hid.mk (ownTerm_nocap O)
      have HO := Hid.mk O
      have CP := Hid.mk (fun t c d w h hc => l5Put_ok c k d xs t w h hxs.out.1 (by omega) hc)
      have CB := Hid.mk (fun x y c d w h hc => l5Both_ok c k d xs x y w h hxs.out.1 (by omega) hc)
      have HPM := Hid.mk (fun t (h : okT t) => put_more (xs := xs) (t := t) hxs.out.2.2 h)
      have G := World.grownBy.refl wr (some B)
      clear O hK
      go_wp2_with fail
      refine (CM.out _).mono ?_
      rintro e wq ⟨rfl, hwq⟩
      rw [hwq]
      clear hwq
      go_wp2_with fail
      replace G := grown_alloc G (.cells #[.int .i64 1, .int .i64 2, .int .i64 3, .int .i64 4, .int .i64 5, .int .i64 6, .int .i64 7, .int .i64 3, .int .i64 5] 2)
      refine (l1Pick_ok B a n ca zs (q) wr.heap.size 9 9 [1, 2, 3, 4, 5, 6, 7, 3, 5] _ (S.kept (belowA _ _)) hb hn hx (by omega) rfl (by omega) (by omega) (fun i hi => ?_) (by have := S.1.1; omega)).mono ?_
      · exact lit_cells wr [1, 2, 3, 4, 5, 6, 7, 3, 5] _ _ (by simp) i hi
      rintro e w1 ⟨o, rfl, ho, S1, g1⟩
      replace G := grownBy_trans G g1
      have Z1 := g1.size
      try simp only [World.size_alloc] at Z1
      replace S := S1
      clear g1 S1
      have hoi : okI o := by simp only [List.mem_cons, List.not_mem_nil, or_false] at ho; exact okI_of (by omega) (by omega)
      clear ho
      go_wp2_with fail
      refine (l1Next_ok B a n ca zs (q + 1) K _ S hb hn hx (by omega) (by omega)).mono ?_
      rintro e w2 ⟨v, rfl, hv, _, S2, g2⟩
      obtain ⟨hv1, hv2⟩ := hv (by omega)
      replace G := grownBy_trans G g2
      have Z2 := g2.size
      replace S := S2
      clear g2 S2
      go_wp2_with fail
      refine (l1Next_ok B a n ca zs (q + 1 + 1) K _ S hb hn hx (by omega) (by omega)).mono ?_
      rintro e w3 ⟨u, rfl, hu, _, S3, g3⟩
      obtain ⟨hu1, hu2⟩ := hu (by omega)
      replace G := grownBy_trans G g3
      have Z3 := g3.size
      replace S := S3
      clear g3 S3
      have hvi : okI v := okI_of (by omega) (by omega)
      have hui : okI u := okI_of (by omega) (by omega)
      have hzi : okI 0 := okI_of (by decide) (by decide)
      have CK := Hid.mk (fun w => l5Kids_ok o w)
      go_wp2_with fail
      refine (CK.out _).mono ?_
      rintro e wq ⟨rfl, rfl⟩
      clear CK
      rcases (show kids o = 0 ∨ (kids o = 1 ∧ (o == 7) = false) ∨ (kids o = 2 ∧ (o == 7) = false) ∨ (kids o = 2 ∧ o = 7) by rcases kids_ways o with ⟨e, h⟩ | ⟨e, h⟩ | ⟨e, h⟩ | ⟨e, h⟩ | ⟨e, h⟩ | ⟨_, _, _, e, _, h⟩ <;> simp only [beq_eq_false_iff_ne] <;> omega) with hk | ⟨hk, h7⟩ | ⟨hk, h7⟩ | ⟨hk, h7⟩
      · skip
        have h7 : (o == 7) = false := by rcases kids_ways o with ⟨e, h⟩ | ⟨e, h⟩ | ⟨e, h⟩ | ⟨e, h⟩ | ⟨e, h⟩ | ⟨_, _, _, e, _, h⟩ <;> simp only [beq_eq_false_iff_ne] <;> omega
        rw [hk]
        go_upto_region 8 with fail
        replace S := S.kept (belowA w3 (.cells #[.int .i64 o, .int .i64 v, .int .i64 u, .int .i64 0] 36))
        replace G := grown_alloc G (.cells #[.int .i64 o, .int .i64 v, .int .i64 u, .int .i64 0] 36)
        have VX : V (w3.alloc (.cells #[.int .i64 o, .int .i64 v, .int .i64 u, .int .i64 0] 36)) (w3.heap.size) [.int .i64 o, .int .i64 v, .int .i64 u, .int .i64 0] := V.newAt _ _ _ _ (by simp)
        have SD := S.kept (Below.refl _ _).drew
        have VD := VX.kept (Below.refl _ _).drew
        have GD := grownBy_trans G (Below.grownBy (Below.refl _ _).drew (some B))
        have hvx := VX.1
        clear S VX G
        refine wp_region_held_drew (S := (fun w' => w'.cell? ⟨w3.heap.size, 0, none⟩ = some (.int .i64 o))) (by kernel_rfl) (VD.2.1 0 (by simp)) (fun hHeld => ?_)
        generalize World.drew (w3.alloc (.cells #[.int .i64 o, .int .i64 v, .int .i64 u, .int .i64 0] 36)) = wd at *
        refine wpAnyH_take (i := 0) (oi := _) (v := ?vdg0) rfl (by kernel_rfl) (by kernel_rfl) (by kernel_rfl) (fun _ _ _ h => h) (Or.inl ⟨by rfl, ?hydg0⟩) hHeld ?restdg0
        case hydg0 => (intro w hSw; (try dsimp only at hSw); go_simp; first | done | with_reducible rfl)
        try simp only [Act.put, List.getElem_toArray, List.getElem_cons_zero, List.setIfInBounds_toArray, List.set_cons_zero, List.set_cons_succ]
        refine wpAnyH_take (i := 1) (oi := _) (v := ?vdg1) rfl (by kernel_rfl) (by kernel_rfl) (by kernel_rfl) (fun _ _ _ h => h) (Or.inl ⟨by rfl, ?hydg1⟩) hHeld ?restdg1
        case hydg1 => (intro w hSw; (try dsimp only at hSw); go_simp; first | done | with_reducible rfl)
        try simp only [Act.put, List.getElem_toArray, List.getElem_cons_zero, List.getElem_cons_succ, List.setIfInBounds_toArray, List.set_cons_zero, List.set_cons_succ]
        refine wpAnyH_take (i := 2) (oi := _) (v := ?vdg2) rfl (by kernel_rfl) (by kernel_rfl) (by kernel_rfl) (fun _ _ _ h => h) (Or.inl ⟨by rfl, ?hydg2⟩) hHeld ?restdg2
        case hydg2 => (intro w hSw; (try dsimp only at hSw); go_simp; first | done | with_reducible rfl)
        try simp only [Act.put, List.getElem_toArray, List.getElem_cons_zero, List.getElem_cons_succ, List.setIfInBounds_toArray, List.set_cons_zero, List.set_cons_succ]
        refine wpAnyH_ready (rs := [3]) (by kernel_rfl) (by simp) ?_
        refine AllReadyH.cons (o := _) rfl (fun K0 hK0 => ?_) AllReadyH.nil
        go_simp
        go_at_call 65
        refine (l1Next_ok B a n ca zs (q + 1 + 1 + 1) 6 _ SD hb hn hx (by omega) (by omega)).mono ?_
        rintro e w9 ⟨z, rfl, hz, _, S9, g9⟩
        obtain ⟨hz1, hz2⟩ := hz (by omega)
        have V9 := VD.grownB g9 (by (try simp); (try omega))
        have G9 := grownBy_trans GD g9
        have hzz9 := g9.size
        clear g9 SD VD GD
        refine hK0.out _ _ (V9.2.1 0 (by simp)) (fun hHeld => ?_)
        clear hK0 K0
        try simp only [Act.put, List.getElem_toArray, List.getElem_cons_zero, List.getElem_cons_succ, List.setIfInBounds_toArray, List.set_cons_zero, List.set_cons_succ]
        refine wpAnyH_take (i := 4) (oi := _) (v := ?vdg4) rfl (by kernel_rfl) (by kernel_rfl) (by kernel_rfl) (fun _ _ _ h => h) (Or.inl ⟨by rfl, ?hydg4⟩) hHeld ?restdg4
        case hydg4 => (intro w hSw; (try dsimp only at hSw); go_simp; first | done | with_reducible rfl)
        try simp only [Act.put, List.getElem_toArray, List.getElem_cons_zero, List.getElem_cons_succ, List.setIfInBounds_toArray, List.set_cons_zero, List.set_cons_succ]
        have HT := Hid.mk V9.there
        have VF := V9.filled [.int .i64 o, .int .i64 0, .int .i64 0, .int .i64 z] rfl
        have SF := srcCells S9 (show B < w3.heap.size by first | omega | (simp; omega)) 0 [.int .i64 o, .int .i64 0, .int .i64 0, .int .i64 z]
        have GF := grownCells G9 (show wr.heap.size ≤ w3.heap.size by first | omega | (simp; omega)) 0 [.int .i64 o, .int .i64 0, .int .i64 0, .int .i64 z]
        obtain ⟨w6, hw6⟩ : ∃ w6, w9.setCells (w3.heap.size) 0 [.int .i64 o, .int .i64 0, .int .i64 0, .int .i64 z] = w6 := ⟨_, rfl⟩
        rw [hw6] at VF SF GF
        replace hw6 := Hid.mk hw6
        have VX := VF
        have S := SF
        have G := GF
        clear VF SF GF V9 S9 G9
        refine wpAnyH_ready (rs := [5]) (by kernel_rfl) (by simp) ?_
        refine AllReadyH.cons (o := _) rfl (fun K0 hK0 => ?_) AllReadyH.nil
        rw [if_pos (by rfl)]
        refine wp_stroke w6 36 _ _ rfl (w3.heap.size) 0 #[.int .i64 o, .int .i64 0, .int .i64 0, .int .i64 z] rfl rfl HT.out (by kernel_rfl) (by kernel_rfl) hw6.out ?_
        refine hK0.out _ _ (VX.2.1 0 (by simp)) (fun hHeld => ?_)
        clear hK0 K0 hHeld HT
        refine wpAnyH_done (by kernel_rfl) ?_ _
        have hzi2 : okI z := okI_of (by omega) (by omega)
        have hw6l := VX.1
        obtain ⟨s_VX, f_VX, z_VX⟩ := VX.open
        go_wp2_with fail
        clear s_VX f_VX z_VX
        have HPX := Hid.mk (HPM.out ⟨o, 0, 0, z⟩ ⟨hoi, hzi, hzi, hzi2⟩)
        replace CP := Hid.mk (fun c d w h hc => CP.out ⟨o, 0, 0, z⟩ c d w h hc)
        generalize put xs ⟨o, 0, 0, z⟩ = P at *
        obtain ⟨kc, kk, ls⟩ := P
        simp only at *
        obtain ⟨kl, hkl⟩ : ∃ q, ls.length = q := ⟨_, rfl⟩
        rw [hkl] at CP HPX
        replace hkl := Hid.mk hkl
        have hzz := G.size
        refine (CP.out c d _ (HO.out.grown G hOB.out).rd hnc.out).mono ?_
        rintro e w101 ⟨c6, d6, rfl, O6, b6⟩
        have Y6 := b6.size
        replace VX := VX.kept b6
        replace S := S.kept b6
        replace G := grownBy_trans G (Below.grownBy b6 _)
        clear b6
        have hO6 := Hid.mk (fun b (hb : c6 = some b) => (O6.lt b hb))
        replace O6 := O6.kept (belowA w101 (.cells #[.int .i64 kc, .int .i64 kk, .slice c6 kl d6] 33))
        replace VX := VX.kept (belowA w101 (.cells #[.int .i64 kc, .int .i64 kk, .slice c6 kl d6] 33))
        replace S := S.kept (belowA w101 (.cells #[.int .i64 kc, .int .i64 kk, .slice c6 kl d6] 33))
        replace G := grown_alloc G (.cells #[.int .i64 kc, .int .i64 kk, .slice c6 kl d6] 33)
        have VW : V (w101.alloc (.cells #[.int .i64 kc, .int .i64 kk, .slice c6 kl d6] 33)) (w101.heap.size) [.int .i64 kc, .int .i64 kk, .slice c6 kl d6] := V.newAt _ _ _ _ (by simp)
        obtain ⟨s_VX, f_VX, z_VX⟩ := VX.open
        obtain ⟨s_VW, f_VW, z_VW⟩ := VW.open
        have hG1 := G.size
        try simp only [World.size_alloc] at hG1
        have Gt := Hid.mk (grownBy_trans G0.out G)
        have St := Hid.mk S
        have hqq : Hid (q + 1 + 1 + 1 + 1 ≤ t + 4 * (j + 1)) := Hid.mk (by omega)
        have OA := Hid.mk (HO.out.grown G hOB.out)
        have OB := Hid.mk (O6.mono (base' := w.heap.size) (by have := hsw.out; first | omega | (simp; omega)))
        clear G S O6
        by_cases hc : kc = 0
        · have hcc : (kc == 0) = true := by simp [hc]
          clear hc
          go_wp2
          go_roundw
          case rel => exact ⟨j + 1, c6, d6, kl, ls, q + 1 + 1 + 1 + 1, by omega, congrArg (Value.int IntKind.i64) (by omega), rfl, Hid.mk ⟨hkl.out, by have h1 := HPX.out.1; have h2 := hxs.out; omega, HPX.out.2⟩, OB.out, hqq, St.out, Gt⟩
          case measure => (first | (simp [intOf]; done) | (simp [intOf]; omega))
        · have hcc : (kc == 0) = false := by simp [hc]
          clear hc
          go_wp2
          go_roundw
          case rel => exact ⟨j + 1, c, d, k, xs, q + 1 + 1 + 1 + 1, by omega, congrArg (Value.int IntKind.i64) (by omega), rfl, Hid.mk ⟨hxs.out.1, by omega, hxs.out.2.2⟩, OA.out, hqq, St.out, Gt⟩
          case measure => (first | (simp [intOf]; done) | (simp [intOf]; omega))
      · skip
        rw [hk]
        go_wp2_with fail
        replace S := S.kept (belowA w3 (.cells #[.int .i64 o, .int .i64 v, .int .i64 0, .int .i64 0] 36))
        replace G := grown_alloc G (.cells #[.int .i64 o, .int .i64 v, .int .i64 0, .int .i64 0] 36)
        have VX : V (w3.alloc (.cells #[.int .i64 o, .int .i64 v, .int .i64 0, .int .i64 0] 36)) (w3.heap.size) [.int .i64 o, .int .i64 v, .int .i64 0, .int .i64 0] := V.newAt _ _ _ _ (by simp)
        have HPX := Hid.mk (HPM.out ⟨o, v, 0, 0⟩ ⟨hoi, hvi, hzi, hzi⟩)
        replace CP := Hid.mk (fun c d w h hc => CP.out ⟨o, v, 0, 0⟩ c d w h hc)
        generalize put xs ⟨o, v, 0, 0⟩ = P at *
        obtain ⟨kc, kk, ls⟩ := P
        simp only at *
        obtain ⟨kl, hkl⟩ : ∃ q, ls.length = q := ⟨_, rfl⟩
        rw [hkl] at CP HPX
        replace hkl := Hid.mk hkl
        have hzz := G.size
        try simp only [World.size_alloc] at hzz
        refine (CP.out c d _ (HO.out.grown G hOB.out).rd hnc.out).mono ?_
        rintro e w201 ⟨c6, d6, rfl, O6, b6⟩
        have Y6 := b6.size
        try simp only [World.size_alloc] at Y6
        replace VX := VX.kept b6
        replace S := S.kept b6
        replace G := grownBy_trans G (Below.grownBy b6 _)
        clear b6
        have hO6 := Hid.mk (fun b (hb : c6 = some b) => (O6.lt b hb))
        replace O6 := O6.kept (belowA w201 (.cells #[.int .i64 kc, .int .i64 kk, .slice c6 kl d6] 33))
        replace VX := VX.kept (belowA w201 (.cells #[.int .i64 kc, .int .i64 kk, .slice c6 kl d6] 33))
        replace S := S.kept (belowA w201 (.cells #[.int .i64 kc, .int .i64 kk, .slice c6 kl d6] 33))
        replace G := grown_alloc G (.cells #[.int .i64 kc, .int .i64 kk, .slice c6 kl d6] 33)
        have VW : V (w201.alloc (.cells #[.int .i64 kc, .int .i64 kk, .slice c6 kl d6] 33)) (w201.heap.size) [.int .i64 kc, .int .i64 kk, .slice c6 kl d6] := V.newAt _ _ _ _ (by simp)
        obtain ⟨s_VX, f_VX, z_VX⟩ := VX.open
        obtain ⟨s_VW, f_VW, z_VW⟩ := VW.open
        have hG1 := G.size
        try simp only [World.size_alloc] at hG1
        have Gt := Hid.mk (grownBy_trans G0.out G)
        have St := Hid.mk S
        have hqq : Hid (q + 1 + 1 + 1 ≤ t + 4 * (j + 1)) := Hid.mk (by omega)
        have OA := Hid.mk (HO.out.grown G hOB.out)
        have OB := Hid.mk (O6.mono (base' := w.heap.size) (by have := hsw.out; first | omega | (simp; omega)))
        clear G S O6
        by_cases hc : kc = 0
        · have hcc : (kc == 0) = true := by simp [hc]
          clear hc
          go_wp2
          go_roundw
          case rel => exact ⟨j + 1, c6, d6, kl, ls, q + 1 + 1 + 1, by omega, congrArg (Value.int IntKind.i64) (by omega), rfl, Hid.mk ⟨hkl.out, by have h1 := HPX.out.1; have h2 := hxs.out; omega, HPX.out.2⟩, OB.out, hqq, St.out, Gt⟩
          case measure => (first | (simp [intOf]; done) | (simp [intOf]; omega))
        · have hcc : (kc == 0) = false := by simp [hc]
          clear hc
          go_wp2
          go_roundw
          case rel => exact ⟨j + 1, c, d, k, xs, q + 1 + 1 + 1, by omega, congrArg (Value.int IntKind.i64) (by omega), rfl, Hid.mk ⟨hxs.out.1, by omega, hxs.out.2.2⟩, OA.out, hqq, St.out, Gt⟩
          case measure => (first | (simp [intOf]; done) | (simp [intOf]; omega))
      · skip
        rw [hk]
        go_wp2_with fail
        replace S := S.kept (belowA w3 (.cells #[.int .i64 o, .int .i64 v, .int .i64 u, .int .i64 0] 36))
        replace G := grown_alloc G (.cells #[.int .i64 o, .int .i64 v, .int .i64 u, .int .i64 0] 36)
        have VX : V (w3.alloc (.cells #[.int .i64 o, .int .i64 v, .int .i64 u, .int .i64 0] 36)) (w3.heap.size) [.int .i64 o, .int .i64 v, .int .i64 u, .int .i64 0] := V.newAt _ _ _ _ (by simp)
        have HPX := Hid.mk (HPM.out ⟨o, v, u, 0⟩ ⟨hoi, hvi, hui, hzi⟩)
        replace CP := Hid.mk (fun c d w h hc => CP.out ⟨o, v, u, 0⟩ c d w h hc)
        generalize put xs ⟨o, v, u, 0⟩ = P at *
        obtain ⟨kc, kk, ls⟩ := P
        simp only at *
        obtain ⟨kl, hkl⟩ : ∃ q, ls.length = q := ⟨_, rfl⟩
        rw [hkl] at CP HPX
        replace hkl := Hid.mk hkl
        have hzz := G.size
        try simp only [World.size_alloc] at hzz
        refine (CP.out c d _ (HO.out.grown G hOB.out).rd hnc.out).mono ?_
        rintro e w301 ⟨c6, d6, rfl, O6, b6⟩
        have Y6 := b6.size
        try simp only [World.size_alloc] at Y6
        replace VX := VX.kept b6
        replace S := S.kept b6
        replace G := grownBy_trans G (Below.grownBy b6 _)
        clear b6
        have hO6 := Hid.mk (fun b (hb : c6 = some b) => (O6.lt b hb))
        replace O6 := O6.kept (belowA w301 (.cells #[.int .i64 kc, .int .i64 kk, .slice c6 kl d6] 33))
        replace VX := VX.kept (belowA w301 (.cells #[.int .i64 kc, .int .i64 kk, .slice c6 kl d6] 33))
        replace S := S.kept (belowA w301 (.cells #[.int .i64 kc, .int .i64 kk, .slice c6 kl d6] 33))
        replace G := grown_alloc G (.cells #[.int .i64 kc, .int .i64 kk, .slice c6 kl d6] 33)
        have VW : V (w301.alloc (.cells #[.int .i64 kc, .int .i64 kk, .slice c6 kl d6] 33)) (w301.heap.size) [.int .i64 kc, .int .i64 kk, .slice c6 kl d6] := V.newAt _ _ _ _ (by simp)
        obtain ⟨s_VX, f_VX, z_VX⟩ := VX.open
        obtain ⟨s_VW, f_VW, z_VW⟩ := VW.open
        have hG1 := G.size
        try simp only [World.size_alloc] at hG1
        have Gt := Hid.mk (grownBy_trans G0.out G)
        have St := Hid.mk S
        have hqq : Hid (q + 1 + 1 + 1 ≤ t + 4 * (j + 1)) := Hid.mk (by omega)
        have OA := Hid.mk (HO.out.grown G hOB.out)
        have OB := Hid.mk (O6.mono (base' := w.heap.size) (by have := hsw.out; first | omega | (simp; omega)))
        clear G S O6
        by_cases hc : kc = 0
        · have hcc : (kc == 0) = true := by simp [hc]
          clear hc
          go_wp2
          go_roundw
          case rel => exact ⟨j + 1, c6, d6, kl, ls, q + 1 + 1 + 1, by omega, congrArg (Value.int IntKind.i64) (by omega), rfl, Hid.mk ⟨hkl.out, by have h1 := HPX.out.1; have h2 := hxs.out; omega, HPX.out.2⟩, OB.out, hqq, St.out, Gt⟩
          case measure => (first | (simp [intOf]; done) | (simp [intOf]; omega))
        · have hcc : (kc == 0) = false := by simp [hc]
          clear hc
          go_wp2
          go_roundw
          case rel => exact ⟨j + 1, c, d, k, xs, q + 1 + 1 + 1, by omega, congrArg (Value.int IntKind.i64) (by omega), rfl, Hid.mk ⟨hxs.out.1, by omega, hxs.out.2.2⟩, OA.out, hqq, St.out, Gt⟩
          case measure => (first | (simp [intOf]; done) | (simp [intOf]; omega))
      · skip
        subst h7
        rw [hk]
        go_wp2_with fail
        replace S := S.kept (belowA w3 (.cells #[.int .i64 7, .int .i64 v, .int .i64 u, .int .i64 0] 36))
        replace G := grown_alloc G (.cells #[.int .i64 7, .int .i64 v, .int .i64 u, .int .i64 0] 36)
        have VX : V (w3.alloc (.cells #[.int .i64 7, .int .i64 v, .int .i64 u, .int .i64 0] 36)) (w3.heap.size) [.int .i64 7, .int .i64 v, .int .i64 u, .int .i64 0] := V.newAt _ _ _ _ (by simp)
        have HPX := Hid.mk (HPM.out (bothT v u) (okT_both hvi hui))
        replace CP := Hid.mk (fun c d w h hc => CP.out ⟨7, v, u, 0⟩ c d w h hc)
        replace CB := Hid.mk (fun c d w h hc => CB.out v u c d w h hc)
        generalize put xs (bothT v u) = P at *
        generalize put xs ⟨7, v, u, 0⟩ = P0 at *
        obtain ⟨kc0, kk0, ls0⟩ := P0
        obtain ⟨kc, kk, ls⟩ := P
        simp only at *
        obtain ⟨kl, hkl⟩ : ∃ q, ls.length = q := ⟨_, rfl⟩
        rw [hkl] at CB HPX
        replace hkl := Hid.mk hkl
        obtain ⟨kl0, hkl0⟩ : ∃ q, ls0.length = q := ⟨_, rfl⟩
        rw [hkl0] at CP
        have hzz := G.size
        try simp only [World.size_alloc] at hzz
        refine (CP.out c d _ (HO.out.grown G hOB.out).rd hnc.out).mono ?_
        rintro e w401 ⟨c6, d6, rfl, O6, b6⟩
        have Y6 := b6.size
        try simp only [World.size_alloc] at Y6
        replace VX := VX.kept b6
        replace S := S.kept b6
        replace G := grownBy_trans G (Below.grownBy b6 _)
        clear b6
        have hO6 := Hid.mk (fun b (hb : c6 = some b) => (O6.lt b hb))
        replace O6 := O6.kept (belowA w401 (.cells #[.int .i64 kc0, .int .i64 kk0, .slice c6 kl0 d6] 33))
        replace VX := VX.kept (belowA w401 (.cells #[.int .i64 kc0, .int .i64 kk0, .slice c6 kl0 d6] 33))
        replace S := S.kept (belowA w401 (.cells #[.int .i64 kc0, .int .i64 kk0, .slice c6 kl0 d6] 33))
        replace G := grown_alloc G (.cells #[.int .i64 kc0, .int .i64 kk0, .slice c6 kl0 d6] 33)
        have VW : V (w401.alloc (.cells #[.int .i64 kc0, .int .i64 kk0, .slice c6 kl0 d6] 33)) (w401.heap.size) [.int .i64 kc0, .int .i64 kk0, .slice c6 kl0 d6] := V.newAt _ _ _ _ (by simp)
        obtain ⟨s_VX, f_VX, z_VX⟩ := VX.open
        obtain ⟨s_VW, f_VW, z_VW⟩ := VW.open
        go_wp2_with fail
        clear s_VX f_VX z_VX s_VW f_VW z_VW
        refine (CB.out c d _ (HO.out.grown G hOB.out).rd hnc.out).mono ?_
        rintro e w402 ⟨c7, d7, rfl, O7, b7⟩
        have Y7 := b7.size
        try simp only [World.size_alloc] at Y7
        replace VX := VX.kept b7
        replace VW := VW.kept b7
        replace S := S.kept b7
        replace G := grownBy_trans G (Below.grownBy b7 _)
        clear b7 O6
        have hO7 := Hid.mk (fun b (hb : c7 = some b) => (O7.lt b hb))
        have HT := Hid.mk VW.there
        have VF := VW.filled [.int .i64 kc, .int .i64 kk, .slice c7 kl d7] rfl
        have AX := VX.apart (B := w401.heap.size) (by first | omega | (simp; omega)) 0 [.int .i64 kc, .int .i64 kk, .slice c7 kl d7]
        have AO := O7.apart (B := w401.heap.size) (by intro b hb; have := (hO7.out b hb).1; first | omega | (simp at this; omega)) 0 [.int .i64 kc, .int .i64 kk, .slice c7 kl d7]
        have SF := srcCells S (show B < w401.heap.size by first | omega | (simp; omega)) 0 [.int .i64 kc, .int .i64 kk, .slice c7 kl d7]
        have GF := grownCells G (show wr.heap.size ≤ w401.heap.size by first | omega | (simp; omega)) 0 [.int .i64 kc, .int .i64 kk, .slice c7 kl d7]
        obtain ⟨w9, hw9⟩ : ∃ w9, World.setCells w402 (w401.heap.size) 0 [.int .i64 kc, .int .i64 kk, .slice c7 kl d7] = w9 := ⟨_, rfl⟩
        rw [hw9] at VF AX AO SF GF
        replace hw9 := Hid.mk hw9
        clear VX VW O7 S G
        have VX := AX
        have VW := VF
        have O7 := AO
        have S := SF
        have G := GF
        clear AX VF AO SF GF
        obtain ⟨s_VX, f_VX, z_VX⟩ := VX.open
        obtain ⟨s_VW, f_VW, z_VW⟩ := VW.open
        have hG1 := G.size
        have Gt := Hid.mk (grownBy_trans G0.out G)
        have St := Hid.mk S
        have hqq : Hid (q + 1 + 1 + 1 ≤ t + 4 * (j + 1)) := Hid.mk (by omega)
        have OA := Hid.mk (HO.out.grown G hOB.out)
        have OB := Hid.mk (O7.mono (base' := w.heap.size) (by have := hsw.out; first | omega | (simp; omega)))
        clear G S O7
        by_cases hc : kc = 0
        · have hcc : (kc == 0) = true := by simp [hc]
          clear hc
          go_wp2_with (refine wpList_stroke w9 rfl 33 _ _ rfl (w401.heap.size) 0 #[.int .i64 kc, .int .i64 kk, .slice c7 kl d7] rfl rfl HT.out (by kernel_rfl) (by kernel_rfl) hw9.out ?_)
          go_roundw
          case rel => exact ⟨j + 1, c7, d7, kl, ls, q + 1 + 1 + 1, by omega, congrArg (Value.int IntKind.i64) (by omega), rfl, Hid.mk ⟨hkl.out, by have h1 := HPX.out.1; have h2 := hxs.out; omega, HPX.out.2⟩, OB.out, hqq, St.out, Gt⟩
          case measure => (first | (simp [intOf]; done) | (simp [intOf]; omega))
        · have hcc : (kc == 0) = false := by simp [hc]
          clear hc
          go_wp2_with (refine wpList_stroke w9 rfl 33 _ _ rfl (w401.heap.size) 0 #[.int .i64 kc, .int .i64 kk, .slice c7 kl d7] rfl rfl HT.out (by kernel_rfl) (by kernel_rfl) hw9.out ?_)
          go_roundw
          case rel => exact ⟨j + 1, c, d, k, xs, q + 1 + 1 + 1, by omega, congrArg (Value.int IntKind.i64) (by omega), rfl, Hid.mk ⟨hxs.out.1, by omega, hxs.out.2.2⟩, OA.out, hqq, St.out, Gt⟩
          case measure => (first | (simp [intOf]; done) | (simp [intOf]; omega))
    · obtain rfl : j = m := by omega
      have hgt : ¬ ((0 : Int) < (j : Int) - (j : Int)) := by omega
      have HO := Hid.mk O
      have HS := Hid.mk S
      clear O S
      go_wp2
      go_ret
      exact ⟨c, d, k, xs, q, rfl, hxs.out.1, hxs.out.2.1, hxs.out.2.2, HO.out, hq.out, HS.out, G0.out⟩

end Go.Proofs.Ythkmoabkeblbjaa
