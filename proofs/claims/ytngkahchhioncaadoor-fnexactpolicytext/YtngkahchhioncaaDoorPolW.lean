/- A rule's line: the program. -/
import Derived.Test.YtngkahchhioncaaDoorPolV
import Derived.Test.YtngkahchhioncaaDoorPolG
import Derived.Test.YtngkahchhioncaaDoorStrA
import Derived.Lib.Join
import Derived.Deep.DeepCutAuto
namespace Go.Proofs.YtngkahchhioncaaDoor
open Go.RowKit

/-- The functions that go with an action. -/
@[irreducible] def gF (p : Int) : Nat := if p = 3 then 93 else 141
@[irreducible] def pF (p : Int) : Nat := if p = 3 then 143 else 142

theorem kindOf_any (p : Int) (h1 : 1 ≤ p) (h3 : p ≤ 3) (w : World) :
    Calls Tryd.prog 117 #[.int .i64 p] w fun e w' => e = .returned (.agg #[.string (wdB p), .func (.func (gF p)) #[] #[], .func (.func (pF p)) #[] #[]]) ∧ Below w.heap.size w w' := by
  rcases (show p = 1 ∨ p = 2 ∨ p = 3 by omega) with rfl | rfl | rfl
  · have h := kindOf_drop w; unfold wdB gF pF; exact h
  · have h := kindOf_pass w; unfold wdB gF pF; exact h
  · have h := kindOf_seal w; unfold wdB gF pF; exact h

theorem noWords_ok (q : Int) (w : World) :
    Calls Tryd.prog 142 #[.int .i64 q] w fun e w' => e = .returned (.slice none 0 0) ∧ w' = w := by
  go_enter Tryd.func142, Tryd.ntmps142
  go_wp2
  go_ret
  exact ⟨rfl, rfl⟩

theorem numberWord_ok (q : Int) (h0 : 0 ≤ q) (h1 : q ≤ 65535) (w : World) (htab : Lib.TabIs Tryd.prog w (Rows.fnExactPolicyTextRow.laid.getD 2 ("", .nil)).1 .u64 Lib.pow10Tab) :
    Calls Tryd.prog 143 #[.int .i64 q] w fun e w' => ∃ c : Nat, e = .returned (.slice (some ⟨c, 0, none⟩) 1 1) ∧ w'.cell? ⟨c, 0, none⟩ = some (.string (dcB q)) ∧ Below w.heap.size w w' := by
  have CF := Hid.mk (decimal_ok q h0 h1 w htab)
  clear htab
  generalize dcB q = D at *
  go_enter Tryd.func143, Tryd.ntmps143
  go_wp2_with fail
  refine CF.out.mono ?_
  rintro e w1 ⟨rfl, b1⟩
  have hc := cell_one w1 9 (.string D) 0 _ rfl
  replace hc := Hid.mk hc
  go_wp2
  go_ret
  exact ⟨w1.heap.size, rfl, hc.out, thenB b1 (belowA _ _)⟩

theorem toList_append (a b : ByteArray) : (a ++ b).data.toList = a.data.toList ++ b.data.toList := by
  simp

theorem mk_toList (a : ByteArray) : (⟨a.data.toList.toArray⟩ : ByteArray) = a := by
  cases a; simp

theorem join_bytes (x : ByteArray) (xs : List ByteArray) : (⟨(Lib.join ((x :: xs).map (·.data.toList)) [32]).toArray⟩ : ByteArray) = xs.foldl (fun a b => a ++ ⟨#[32]⟩ ++ b) x := by
  induction xs generalizing x with
  | nil => simp [Lib.join, List.intercalate]
  | cons y ys ih =>
    rw [List.foldl_cons, ← ih]
    congr 2
    simp [Lib.join, List.intercalate]
    cases ys <;> simp

set_option maxRecDepth 20000 in
set_option maxHeartbeats 8000000 in
theorem ruleLine_ok (x : R11) (hru : ruC x = 0) (w : World) (htab : Lib.TabIs Tryd.prog w (Rows.fnExactPolicyTextRow.laid.getD 2 ("", .nil)).1 .u64 Lib.pow10Tab) :
    Calls Tryd.prog 90 #[.agg #[.int .i64 x.s.a, .int .i64 x.s.b, .int .i64 x.s.c, .int .i64 x.s.d, .int .i64 x.s.e, .int .i64 x.s.f, .int .i64 x.s.g, .int .i64 x.s.h, .int .i64 x.s.r, .int .i64 x.p, .int .i64 x.q]] w fun e w' => e = .returned (.string (lnB x)) ∧ Below w.heap.size w w' := by
  have hT := Hid.mk (Lib.tabBelow_of_tabIs htab)
  obtain ⟨⟨a1, a2⟩, ⟨b1', b2'⟩, ⟨c1, c2⟩, ⟨d1, d2⟩, g1, g2⟩ := line_nums hru
  have CK := Hid.mk (fun w => kindOf_any x.p g1 g2 w)
  have CR1 := Hid.mk (fun w h => rangeDotted_ok x.s.a x.s.b w h)
  have CR2 := Hid.mk (fun w h => rangeDotted_ok x.s.c x.s.d w h)
  have CR3 := Hid.mk (fun w h => decimal_ok x.s.r a1 a2 w h)
  have CR4 := Hid.mk (fun w h => rangeDecimal_ok x.s.g x.s.h b1' b2' c1 c2 w h)
  have CN := Hid.mk (fun w h => numberWord_ok x.q d1 d2 w h)
  have e1 := enB_size x.s.a x.s.b
  have e2 := enB_size x.s.c x.s.d
  have e3 := dcB_size a1 a2
  have e4 := dcB_size b1' b2'
  have e5 := dcB_size c1 c2
  have e6 := dcB_size d1 d2
  have e7 := wdB_size x.p
  have hbody : bodyB x = wdB x.p ++ ⟨#[32]⟩ ++ enB x.s.a x.s.b ++ ⟨#[32]⟩ ++ enB x.s.c x.s.d ++ ⟨#[32]⟩ ++ dcB x.s.r ++ ⟨#[32]⟩ ++ (dcB x.s.g ++ ⟨#[45]⟩ ++ dcB x.s.h) := by unfold bodyB; simp only [ByteArray.append_assoc]
  have hl1 : x.p = 3 → lnB x = bodyB x ++ ⟨#[32]⟩ ++ dcB x.q ++ ⟨#[10]⟩ := fun h => by unfold lnB; rw [if_pos h]
  have hl2 : x.p ≠ 3 → lnB x = bodyB x ++ ⟨#[10]⟩ := fun h => by unfold lnB; rw [if_neg h]
  rw [hbody] at hl1 hl2
  have hpf1 : x.p = 3 → pF x.p = 143 := fun h => by unfold pF; rw [if_pos h]
  have hpf2 : x.p ≠ 3 → pF x.p = 142 := fun h => by unfold pF; rw [if_neg h]
  have e8 : (dcB x.s.g ++ ⟨#[45]⟩ ++ dcB x.s.h).size ≤ 41 := by
    have h7 : ((⟨#[45]⟩ : ByteArray)).size = 1 := rfl
    rw [ByteArray.size_append, ByteArray.size_append, h7]; omega
  clear htab hbody a1 a2 b1' b2' c1 c2 d1 d2 g1 g2 e4 e5 hru
  generalize lnB x = LN at *
  generalize enB x.s.a x.s.b = E1 at *
  generalize enB x.s.c x.s.d = E2 at *
  generalize dcB x.s.r = D1 at *
  generalize dcB x.s.g ++ ⟨#[45]⟩ ++ dcB x.s.h = D2 at *
  generalize dcB x.q = D4 at *
  generalize wdB x.p = W0 at *
  generalize gF x.p = gf at *
  generalize pF x.p = pf at *
  replace hl1 := Hid.mk hl1
  replace hl2 := Hid.mk hl2
  replace hpf1 := Hid.mk hpf1
  replace hpf2 := Hid.mk hpf2
  go_enter Tryd.func90, Tryd.ntmps90
  have B := Below.refl w.heap.size w
  replace B := thenB B (belowA w (.cells #[.int .i64 x.s.a, .int .i64 x.s.b, .int .i64 x.s.c, .int .i64 x.s.d, .int .i64 x.s.e, .int .i64 x.s.f, .int .i64 x.s.g, .int .i64 x.s.h, .int .i64 x.s.r, .int .i64 x.p, .int .i64 x.q] 34))
  have VX := V.new w [.int .i64 x.s.a, .int .i64 x.s.b, .int .i64 x.s.c, .int .i64 x.s.d, .int .i64 x.s.e, .int .i64 x.s.f, .int .i64 x.s.g, .int .i64 x.s.h, .int .i64 x.s.r, .int .i64 x.p, .int .i64 x.q] 34
  obtain ⟨s_VX, f_VX, z_VX⟩ := VX.open
  have Bo := B
  clear s_VX f_VX z_VX
  have K : ∀ w' : World, Below (w.alloc (.cells #[.int .i64 x.s.a, .int .i64 x.s.b, .int .i64 x.s.c, .int .i64 x.s.d, .int .i64 x.s.e, .int .i64 x.s.f, .int .i64 x.s.g, .int .i64 x.s.h, .int .i64 x.s.r, .int .i64 x.p, .int .i64 x.q] 34)).heap.size (w.alloc (.cells #[.int .i64 x.s.a, .int .i64 x.s.b, .int .i64 x.s.c, .int .i64 x.s.d, .int .i64 x.s.e, .int .i64 x.s.f, .int .i64 x.s.g, .int .i64 x.s.h, .int .i64 x.s.r, .int .i64 x.p, .int .i64 x.q] 34)) w' → (w'.cell? ⟨w.heap.size, 0, none⟩ = some (.int .i64 x.s.a) ∧ w'.cell? ⟨w.heap.size, 1, none⟩ = some (.int .i64 x.s.b) ∧ w'.cell? ⟨w.heap.size, 2, none⟩ = some (.int .i64 x.s.c) ∧ w'.cell? ⟨w.heap.size, 3, none⟩ = some (.int .i64 x.s.d) ∧ w'.cell? ⟨w.heap.size, 4, none⟩ = some (.int .i64 x.s.e) ∧ w'.cell? ⟨w.heap.size, 5, none⟩ = some (.int .i64 x.s.f) ∧ w'.cell? ⟨w.heap.size, 6, none⟩ = some (.int .i64 x.s.g) ∧ w'.cell? ⟨w.heap.size, 7, none⟩ = some (.int .i64 x.s.h) ∧ w'.cell? ⟨w.heap.size, 8, none⟩ = some (.int .i64 x.s.r) ∧ w'.cell? ⟨w.heap.size, 9, none⟩ = some (.int .i64 x.p) ∧ w'.cell? ⟨w.heap.size, 10, none⟩ = some (.int .i64 x.q)) := fun w' h => ⟨(VX.kept h).2.1 0 (by simp), (VX.kept h).2.1 1 (by simp), (VX.kept h).2.1 2 (by simp), (VX.kept h).2.1 3 (by simp), (VX.kept h).2.1 4 (by simp), (VX.kept h).2.1 5 (by simp), (VX.kept h).2.1 6 (by simp), (VX.kept h).2.1 7 (by simp), (VX.kept h).2.1 8 (by simp), (VX.kept h).2.1 9 (by simp), (VX.kept h).2.1 10 (by simp)⟩
  have K := Hid.mk K
  clear Bo
  go_upto_region 1 with fail
  go_cut [3, 4] (fun v3 v4 wx => ∃ P1 P2 : Nat, v3 = .pointer (some ⟨P1, 0, none⟩) ∧ v4 = .pointer (some ⟨P2, 0, none⟩) ∧ V wx P1 [.string W0, .func (.func gf) #[] #[], .func (.func pf) #[] #[]] ∧ V wx P2 [.int .i64 x.s.a, .int .i64 x.s.b, .int .i64 x.s.c, .int .i64 x.s.d, .int .i64 x.s.e, .int .i64 x.s.f, .int .i64 x.s.g, .int .i64 x.s.h, .int .i64 x.s.r] ∧ V wx (w.heap.size) [.int .i64 x.s.a, .int .i64 x.s.b, .int .i64 x.s.c, .int .i64 x.s.d, .int .i64 x.s.e, .int .i64 x.s.f, .int .i64 x.s.g, .int .i64 x.s.h, .int .i64 x.s.r, .int .i64 x.p, .int .i64 x.q] ∧ Below w.heap.size w wx)
  case first =>
    refine wp_region_held_drew (S := (fun w' => w'.cell? ⟨w.heap.size, 0, none⟩ = some (.int .i64 x.s.a) ∧ w'.cell? ⟨w.heap.size, 1, none⟩ = some (.int .i64 x.s.b) ∧ w'.cell? ⟨w.heap.size, 2, none⟩ = some (.int .i64 x.s.c) ∧ w'.cell? ⟨w.heap.size, 3, none⟩ = some (.int .i64 x.s.d) ∧ w'.cell? ⟨w.heap.size, 4, none⟩ = some (.int .i64 x.s.e) ∧ w'.cell? ⟨w.heap.size, 5, none⟩ = some (.int .i64 x.s.f) ∧ w'.cell? ⟨w.heap.size, 6, none⟩ = some (.int .i64 x.s.g) ∧ w'.cell? ⟨w.heap.size, 7, none⟩ = some (.int .i64 x.s.h) ∧ w'.cell? ⟨w.heap.size, 8, none⟩ = some (.int .i64 x.s.r) ∧ w'.cell? ⟨w.heap.size, 9, none⟩ = some (.int .i64 x.p) ∧ w'.cell? ⟨w.heap.size, 10, none⟩ = some (.int .i64 x.q))) (by kernel_rfl) (K.out _ (Below.refl _ _).drew) (fun hHeld => ?_)
    have bd : Below (w.alloc (.cells #[.int .i64 x.s.a, .int .i64 x.s.b, .int .i64 x.s.c, .int .i64 x.s.d, .int .i64 x.s.e, .int .i64 x.s.f, .int .i64 x.s.g, .int .i64 x.s.h, .int .i64 x.s.r, .int .i64 x.p, .int .i64 x.q] 34)).heap.size (w.alloc (.cells #[.int .i64 x.s.a, .int .i64 x.s.b, .int .i64 x.s.c, .int .i64 x.s.d, .int .i64 x.s.e, .int .i64 x.s.f, .int .i64 x.s.g, .int .i64 x.s.h, .int .i64 x.s.r, .int .i64 x.p, .int .i64 x.q] 34)) (w.alloc (.cells #[.int .i64 x.s.a, .int .i64 x.s.b, .int .i64 x.s.c, .int .i64 x.s.d, .int .i64 x.s.e, .int .i64 x.s.f, .int .i64 x.s.g, .int .i64 x.s.h, .int .i64 x.s.r, .int .i64 x.p, .int .i64 x.q] 34)).drew := (Below.refl _ _).drew
    generalize (w.alloc (.cells #[.int .i64 x.s.a, .int .i64 x.s.b, .int .i64 x.s.c, .int .i64 x.s.d, .int .i64 x.s.e, .int .i64 x.s.f, .int .i64 x.s.g, .int .i64 x.s.h, .int .i64 x.s.r, .int .i64 x.p, .int .i64 x.q] 34)).drew = wd at *
    refine wpAnyH_take (i := 0) (oi := _) (v := ?vrl1) rfl (by kernel_rfl) (by kernel_rfl) (by kernel_rfl) (fun _ _ _ h => h) (Or.inl ⟨by rfl, ?hyrl1⟩) hHeld ?restrl1
    case hyrl1 => (intro w hSw; (try dsimp only at hSw); go_simp; first | done | with_reducible rfl)
    try simp only [Act.put, List.getElem_toArray, List.getElem_cons_zero, List.setIfInBounds_toArray, List.set_cons_zero, List.set_cons_succ]
    refine wpAnyH_take (i := 1) (oi := _) (v := ?vrl2) rfl (by kernel_rfl) (by kernel_rfl) (by kernel_rfl) (fun _ _ _ h => h) (Or.inl ⟨by rfl, ?hyrl2⟩) hHeld ?restrl2
    case hyrl2 => (intro w hSw; (try dsimp only at hSw); go_simp; first | done | with_reducible rfl)
    try simp only [Act.put, List.getElem_toArray, List.getElem_cons_zero, List.getElem_cons_succ, List.setIfInBounds_toArray, List.set_cons_zero, List.set_cons_succ]
    refine wpAnyH_take (i := 3) (oi := _) (v := ?vrl3) rfl (by kernel_rfl) (by kernel_rfl) (by kernel_rfl) (fun _ _ _ h => h) (Or.inl ⟨by rfl, ?hyrl3⟩) hHeld ?restrl3
    case hyrl3 => (intro w hSw; (try dsimp only at hSw); go_simp; first | done | with_reducible rfl)
    try simp only [Act.put, List.getElem_toArray, List.getElem_cons_zero, List.getElem_cons_succ, List.setIfInBounds_toArray, List.set_cons_zero, List.set_cons_succ]
    refine wpAnyH_take (i := 4) (oi := _) (v := ?vrl4) rfl (by kernel_rfl) (by kernel_rfl) (by kernel_rfl) (fun _ _ _ h => h) (Or.inl ⟨by rfl, ?hyrl4⟩) hHeld ?restrl4
    case hyrl4 => (intro w hSw; (try dsimp only at hSw); go_simp; first | done | with_reducible rfl)
    try simp only [Act.put, List.getElem_toArray, List.getElem_cons_zero, List.getElem_cons_succ, List.setIfInBounds_toArray, List.set_cons_zero, List.set_cons_succ]
    refine wpAnyH_ready (rs := [2, 5, 6]) (by kernel_rfl) (by simp) ?_
    refine AllReadyH.cons (o := _) rfl (fun K0 hK0 => ?_) (AllReadyH.cons (o := _) rfl (fun K0 hK0 => ?_) (AllReadyH.cons (o := _) rfl (fun K0 hK0 => ?_) AllReadyH.nil))
    · skip
      go_simp
      go_at_call 117
      refine (CK.out _).mono ?_
      rintro e wc5 ⟨rfl, bc5⟩
      refine hK0.out _ _ (K.out _ (thenB bd bc5)) (fun hHeld => ?_)
      clear hK0 K0
      try simp only [Act.put, List.getElem_toArray, List.getElem_cons_zero, List.getElem_cons_succ, List.setIfInBounds_toArray, List.set_cons_zero, List.set_cons_succ]
      refine wpAnyH_ready (rs := [5, 6]) (by kernel_rfl) (by simp) ?_
      refine AllReadyH.cons (o := _) rfl (fun K0 hK0 => ?_) (AllReadyH.cons (o := _) rfl (fun K0 hK0 => ?_) AllReadyH.nil)
      · skip
        go_simp
        refine hK0.out _ _ (K.out _ (thenB (thenB bd bc5) (belowA wc5 (.cells #[.string ⟨#[]⟩, .nilFunc, .nilFunc] 156)))) (fun hHeld => ?_)
        clear hK0 K0
        try simp only [Act.put, List.getElem_toArray, List.getElem_cons_zero, List.getElem_cons_succ, List.setIfInBounds_toArray, List.set_cons_zero, List.set_cons_succ]
        have VK : V (wc5.alloc (.cells #[.string ⟨#[]⟩, .nilFunc, .nilFunc] 156)) wc5.heap.size [.string ⟨#[]⟩, .nilFunc, .nilFunc] := V.new _ _ _
        have bq6 := belowA wc5 (.cells #[.string ⟨#[]⟩, .nilFunc, .nilFunc] 156)
        generalize wc5.alloc (.cells #[.string ⟨#[]⟩, .nilFunc, .nilFunc] 156) = wq6 at *
        refine wpAnyH_ready (rs := [6]) (by kernel_rfl) (by simp) ?_
        refine AllReadyH.cons (o := _) rfl (fun K0 hK0 => ?_) AllReadyH.nil
        go_simp
        refine hK0.out _ _ (K.out _ (thenB (thenB (thenB bd bc5) bq6) (belowA wq6 (.cells #[.int .i64 0, .int .i64 0, .int .i64 0, .int .i64 0, .int .i64 0, .int .i64 0, .int .i64 0, .int .i64 0, .int .i64 0] 32)))) (fun hHeld => ?_)
        clear hK0 K0
        try simp only [Act.put, List.getElem_toArray, List.getElem_cons_zero, List.getElem_cons_succ, List.setIfInBounds_toArray, List.set_cons_zero, List.set_cons_succ]
        have hne : wc5.heap.size < wq6.heap.size := VK.1
        replace VK := VK.kept (belowA wq6 (.cells #[.int .i64 0, .int .i64 0, .int .i64 0, .int .i64 0, .int .i64 0, .int .i64 0, .int .i64 0, .int .i64 0, .int .i64 0] 32))
        have VS : V (wq6.alloc (.cells #[.int .i64 0, .int .i64 0, .int .i64 0, .int .i64 0, .int .i64 0, .int .i64 0, .int .i64 0, .int .i64 0, .int .i64 0] 32)) wq6.heap.size [.int .i64 0, .int .i64 0, .int .i64 0, .int .i64 0, .int .i64 0, .int .i64 0, .int .i64 0, .int .i64 0, .int .i64 0] := V.new _ _ _
        have bq7 := belowA wq6 (.cells #[.int .i64 0, .int .i64 0, .int .i64 0, .int .i64 0, .int .i64 0, .int .i64 0, .int .i64 0, .int .i64 0, .int .i64 0] 32)
        generalize wq6.alloc (.cells #[.int .i64 0, .int .i64 0, .int .i64 0, .int .i64 0, .int .i64 0, .int .i64 0, .int .i64 0, .int .i64 0, .int .i64 0] 32) = wq7 at *
        refine wpAnyH_ready (rs := [7]) (by kernel_rfl) (by simp) ?_
        refine AllReadyH.cons (o := _) rfl (fun K0 hK0 => ?_) AllReadyH.nil
        rw [if_pos (by rfl)]
        have hT7 := VK.there
        have hle7 := ((thenB bd bc5)).size
        have bF7 := belowCells ((thenB (thenB (thenB bd bc5) bq6) bq7)) hle7 0 [.string W0, .func (.func gf) #[] #[], .func (.func pf) #[] #[]]
        have VK' := VK.filled [.string W0, .func (.func gf) #[] #[], .func (.func pf) #[] #[]] rfl
        have VS' := VS.apart (B := wc5.heap.size) (by omega) 0 [.string W0, .func (.func gf) #[] #[], .func (.func pf) #[] #[]]
        refine wp_store_mid _ _ _ rfl (wc5.heap.size) 0 #[.string W0, .func (.func gf) #[] #[], .func (.func pf) #[] #[]] rfl rfl hT7 (by kernel_rfl) (by kernel_rfl) ?_
        obtain ⟨ws8, hw8⟩ : ∃ z, wq7.setCells (wc5.heap.size) 0 [.string W0, .func (.func gf) #[] #[], .func (.func pf) #[] #[]] = z := ⟨_, rfl⟩
        rw [hw8] at VK' VS' bF7
        change K0 _ (wq7.setCells (wc5.heap.size) 0 [.string W0, .func (.func gf) #[] #[], .func (.func pf) #[] #[]])
        rw [hw8]
        clear VK VS hT7 hw8
        have VK := VK'
        have VS := VS'
        clear VK' VS'
        refine hK0.out _ _ (K.out _ bF7) (fun hHeld => ?_)
        clear hK0 K0
        refine wpAnyH_ready (rs := [8]) (by kernel_rfl) (by simp) ?_
        refine AllReadyH.cons (o := _) rfl (fun K0 hK0 => ?_) AllReadyH.nil
        rw [if_pos (by rfl)]
        have hT8 := VS.there
        have hle8 := ((thenB (thenB bd bc5) bq6)).size
        have bF8 := belowCells (bF7) hle8 0 [.int .i64 x.s.a, .int .i64 x.s.b, .int .i64 x.s.c, .int .i64 x.s.d, .int .i64 x.s.e, .int .i64 x.s.f, .int .i64 x.s.g, .int .i64 x.s.h, .int .i64 x.s.r]
        have VS' := VS.filled [.int .i64 x.s.a, .int .i64 x.s.b, .int .i64 x.s.c, .int .i64 x.s.d, .int .i64 x.s.e, .int .i64 x.s.f, .int .i64 x.s.g, .int .i64 x.s.h, .int .i64 x.s.r] rfl
        have VK' := VK.apart (B := wq6.heap.size) (by omega) 0 [.int .i64 x.s.a, .int .i64 x.s.b, .int .i64 x.s.c, .int .i64 x.s.d, .int .i64 x.s.e, .int .i64 x.s.f, .int .i64 x.s.g, .int .i64 x.s.h, .int .i64 x.s.r]
        refine wp_store_mid _ _ _ rfl (wq6.heap.size) 0 #[.int .i64 x.s.a, .int .i64 x.s.b, .int .i64 x.s.c, .int .i64 x.s.d, .int .i64 x.s.e, .int .i64 x.s.f, .int .i64 x.s.g, .int .i64 x.s.h, .int .i64 x.s.r] rfl rfl hT8 (by kernel_rfl) (by kernel_rfl) ?_
        obtain ⟨ws9, hw9⟩ : ∃ z, ws8.setCells (wq6.heap.size) 0 [.int .i64 x.s.a, .int .i64 x.s.b, .int .i64 x.s.c, .int .i64 x.s.d, .int .i64 x.s.e, .int .i64 x.s.f, .int .i64 x.s.g, .int .i64 x.s.h, .int .i64 x.s.r] = z := ⟨_, rfl⟩
        rw [hw9] at VS' VK' bF8
        change K0 _ (ws8.setCells (wq6.heap.size) 0 [.int .i64 x.s.a, .int .i64 x.s.b, .int .i64 x.s.c, .int .i64 x.s.d, .int .i64 x.s.e, .int .i64 x.s.f, .int .i64 x.s.g, .int .i64 x.s.h, .int .i64 x.s.r])
        rw [hw9]
        clear VS VK hT8 hw9
        have VS := VS'
        have VK := VK'
        clear VS' VK'
        refine hK0.out _ _ (K.out _ bF8) (fun hHeld => ?_)
        clear hK0 K0
        refine wpAnyH_done (by kernel_rfl) ?_ _
        go_wp2_with fail
        go_meet
        exact ⟨wc5.heap.size, wq6.heap.size, rfl, rfl, VK, VS, VX.kept bF8, thenB B bF8⟩
      · skip
        go_simp
        refine hK0.out _ _ (K.out _ (thenB (thenB bd bc5) (belowA wc5 (.cells #[.int .i64 0, .int .i64 0, .int .i64 0, .int .i64 0, .int .i64 0, .int .i64 0, .int .i64 0, .int .i64 0, .int .i64 0] 32)))) (fun hHeld => ?_)
        clear hK0 K0
        try simp only [Act.put, List.getElem_toArray, List.getElem_cons_zero, List.getElem_cons_succ, List.setIfInBounds_toArray, List.set_cons_zero, List.set_cons_succ]
        have VS : V (wc5.alloc (.cells #[.int .i64 0, .int .i64 0, .int .i64 0, .int .i64 0, .int .i64 0, .int .i64 0, .int .i64 0, .int .i64 0, .int .i64 0] 32)) wc5.heap.size [.int .i64 0, .int .i64 0, .int .i64 0, .int .i64 0, .int .i64 0, .int .i64 0, .int .i64 0, .int .i64 0, .int .i64 0] := V.new _ _ _
        have bq10 := belowA wc5 (.cells #[.int .i64 0, .int .i64 0, .int .i64 0, .int .i64 0, .int .i64 0, .int .i64 0, .int .i64 0, .int .i64 0, .int .i64 0] 32)
        generalize wc5.alloc (.cells #[.int .i64 0, .int .i64 0, .int .i64 0, .int .i64 0, .int .i64 0, .int .i64 0, .int .i64 0, .int .i64 0, .int .i64 0] 32) = wq10 at *
        refine wpAnyH_ready (rs := [5]) (by kernel_rfl) (by simp) ?_
        refine AllReadyH.cons (o := _) rfl (fun K0 hK0 => ?_) AllReadyH.nil
        go_simp
        refine hK0.out _ _ (K.out _ (thenB (thenB (thenB bd bc5) bq10) (belowA wq10 (.cells #[.string ⟨#[]⟩, .nilFunc, .nilFunc] 156)))) (fun hHeld => ?_)
        clear hK0 K0
        try simp only [Act.put, List.getElem_toArray, List.getElem_cons_zero, List.getElem_cons_succ, List.setIfInBounds_toArray, List.set_cons_zero, List.set_cons_succ]
        have hne : wc5.heap.size < wq10.heap.size := VS.1
        replace VS := VS.kept (belowA wq10 (.cells #[.string ⟨#[]⟩, .nilFunc, .nilFunc] 156))
        have VK : V (wq10.alloc (.cells #[.string ⟨#[]⟩, .nilFunc, .nilFunc] 156)) wq10.heap.size [.string ⟨#[]⟩, .nilFunc, .nilFunc] := V.new _ _ _
        have bq11 := belowA wq10 (.cells #[.string ⟨#[]⟩, .nilFunc, .nilFunc] 156)
        generalize wq10.alloc (.cells #[.string ⟨#[]⟩, .nilFunc, .nilFunc] 156) = wq11 at *
        refine wpAnyH_ready (rs := [7]) (by kernel_rfl) (by simp) ?_
        refine AllReadyH.cons (o := _) rfl (fun K0 hK0 => ?_) AllReadyH.nil
        rw [if_pos (by rfl)]
        have hT7 := VK.there
        have hle7 := ((thenB (thenB bd bc5) bq10)).size
        have bF7 := belowCells ((thenB (thenB (thenB bd bc5) bq10) bq11)) hle7 0 [.string W0, .func (.func gf) #[] #[], .func (.func pf) #[] #[]]
        have VK' := VK.filled [.string W0, .func (.func gf) #[] #[], .func (.func pf) #[] #[]] rfl
        have VS' := VS.apart (B := wq10.heap.size) (by omega) 0 [.string W0, .func (.func gf) #[] #[], .func (.func pf) #[] #[]]
        refine wp_store_mid _ _ _ rfl (wq10.heap.size) 0 #[.string W0, .func (.func gf) #[] #[], .func (.func pf) #[] #[]] rfl rfl hT7 (by kernel_rfl) (by kernel_rfl) ?_
        obtain ⟨ws12, hw12⟩ : ∃ z, wq11.setCells (wq10.heap.size) 0 [.string W0, .func (.func gf) #[] #[], .func (.func pf) #[] #[]] = z := ⟨_, rfl⟩
        rw [hw12] at VK' VS' bF7
        change K0 _ (wq11.setCells (wq10.heap.size) 0 [.string W0, .func (.func gf) #[] #[], .func (.func pf) #[] #[]])
        rw [hw12]
        clear VK VS hT7 hw12
        have VK := VK'
        have VS := VS'
        clear VK' VS'
        refine hK0.out _ _ (K.out _ bF7) (fun hHeld => ?_)
        clear hK0 K0
        refine wpAnyH_ready (rs := [8]) (by kernel_rfl) (by simp) ?_
        refine AllReadyH.cons (o := _) rfl (fun K0 hK0 => ?_) AllReadyH.nil
        rw [if_pos (by rfl)]
        have hT8 := VS.there
        have hle8 := ((thenB bd bc5)).size
        have bF8 := belowCells (bF7) hle8 0 [.int .i64 x.s.a, .int .i64 x.s.b, .int .i64 x.s.c, .int .i64 x.s.d, .int .i64 x.s.e, .int .i64 x.s.f, .int .i64 x.s.g, .int .i64 x.s.h, .int .i64 x.s.r]
        have VS' := VS.filled [.int .i64 x.s.a, .int .i64 x.s.b, .int .i64 x.s.c, .int .i64 x.s.d, .int .i64 x.s.e, .int .i64 x.s.f, .int .i64 x.s.g, .int .i64 x.s.h, .int .i64 x.s.r] rfl
        have VK' := VK.apart (B := wc5.heap.size) (by omega) 0 [.int .i64 x.s.a, .int .i64 x.s.b, .int .i64 x.s.c, .int .i64 x.s.d, .int .i64 x.s.e, .int .i64 x.s.f, .int .i64 x.s.g, .int .i64 x.s.h, .int .i64 x.s.r]
        refine wp_store_mid _ _ _ rfl (wc5.heap.size) 0 #[.int .i64 x.s.a, .int .i64 x.s.b, .int .i64 x.s.c, .int .i64 x.s.d, .int .i64 x.s.e, .int .i64 x.s.f, .int .i64 x.s.g, .int .i64 x.s.h, .int .i64 x.s.r] rfl rfl hT8 (by kernel_rfl) (by kernel_rfl) ?_
        obtain ⟨ws13, hw13⟩ : ∃ z, ws12.setCells (wc5.heap.size) 0 [.int .i64 x.s.a, .int .i64 x.s.b, .int .i64 x.s.c, .int .i64 x.s.d, .int .i64 x.s.e, .int .i64 x.s.f, .int .i64 x.s.g, .int .i64 x.s.h, .int .i64 x.s.r] = z := ⟨_, rfl⟩
        rw [hw13] at VS' VK' bF8
        change K0 _ (ws12.setCells (wc5.heap.size) 0 [.int .i64 x.s.a, .int .i64 x.s.b, .int .i64 x.s.c, .int .i64 x.s.d, .int .i64 x.s.e, .int .i64 x.s.f, .int .i64 x.s.g, .int .i64 x.s.h, .int .i64 x.s.r])
        rw [hw13]
        clear VS VK hT8 hw13
        have VS := VS'
        have VK := VK'
        clear VS' VK'
        refine hK0.out _ _ (K.out _ bF8) (fun hHeld => ?_)
        clear hK0 K0
        refine wpAnyH_done (by kernel_rfl) ?_ _
        go_wp2_with fail
        go_meet
        exact ⟨wq10.heap.size, wc5.heap.size, rfl, rfl, VK, VS, VX.kept bF8, thenB B bF8⟩
    · skip
      go_simp
      refine hK0.out _ _ (K.out _ (thenB bd (belowA wd (.cells #[.string ⟨#[]⟩, .nilFunc, .nilFunc] 156)))) (fun hHeld => ?_)
      clear hK0 K0
      try simp only [Act.put, List.getElem_toArray, List.getElem_cons_zero, List.getElem_cons_succ, List.setIfInBounds_toArray, List.set_cons_zero, List.set_cons_succ]
      have VK : V (wd.alloc (.cells #[.string ⟨#[]⟩, .nilFunc, .nilFunc] 156)) wd.heap.size [.string ⟨#[]⟩, .nilFunc, .nilFunc] := V.new _ _ _
      have bq14 := belowA wd (.cells #[.string ⟨#[]⟩, .nilFunc, .nilFunc] 156)
      generalize wd.alloc (.cells #[.string ⟨#[]⟩, .nilFunc, .nilFunc] 156) = wq14 at *
      refine wpAnyH_ready (rs := [2, 6]) (by kernel_rfl) (by simp) ?_
      refine AllReadyH.cons (o := _) rfl (fun K0 hK0 => ?_) (AllReadyH.cons (o := _) rfl (fun K0 hK0 => ?_) AllReadyH.nil)
      · skip
        go_simp
        go_at_call 117
        refine (CK.out _).mono ?_
        rintro e wc15 ⟨rfl, bc15⟩
        replace VK := VK.kept bc15
        refine hK0.out _ _ (K.out _ (thenB (thenB bd bq14) bc15)) (fun hHeld => ?_)
        clear hK0 K0
        try simp only [Act.put, List.getElem_toArray, List.getElem_cons_zero, List.getElem_cons_succ, List.setIfInBounds_toArray, List.set_cons_zero, List.set_cons_succ]
        refine wpAnyH_ready (rs := [6]) (by kernel_rfl) (by simp) ?_
        refine AllReadyH.cons (o := _) rfl (fun K0 hK0 => ?_) AllReadyH.nil
        go_simp
        refine hK0.out _ _ (K.out _ (thenB (thenB (thenB bd bq14) bc15) (belowA wc15 (.cells #[.int .i64 0, .int .i64 0, .int .i64 0, .int .i64 0, .int .i64 0, .int .i64 0, .int .i64 0, .int .i64 0, .int .i64 0] 32)))) (fun hHeld => ?_)
        clear hK0 K0
        try simp only [Act.put, List.getElem_toArray, List.getElem_cons_zero, List.getElem_cons_succ, List.setIfInBounds_toArray, List.set_cons_zero, List.set_cons_succ]
        have hne : wd.heap.size < wc15.heap.size := VK.1
        replace VK := VK.kept (belowA wc15 (.cells #[.int .i64 0, .int .i64 0, .int .i64 0, .int .i64 0, .int .i64 0, .int .i64 0, .int .i64 0, .int .i64 0, .int .i64 0] 32))
        have VS : V (wc15.alloc (.cells #[.int .i64 0, .int .i64 0, .int .i64 0, .int .i64 0, .int .i64 0, .int .i64 0, .int .i64 0, .int .i64 0, .int .i64 0] 32)) wc15.heap.size [.int .i64 0, .int .i64 0, .int .i64 0, .int .i64 0, .int .i64 0, .int .i64 0, .int .i64 0, .int .i64 0, .int .i64 0] := V.new _ _ _
        have bq16 := belowA wc15 (.cells #[.int .i64 0, .int .i64 0, .int .i64 0, .int .i64 0, .int .i64 0, .int .i64 0, .int .i64 0, .int .i64 0, .int .i64 0] 32)
        generalize wc15.alloc (.cells #[.int .i64 0, .int .i64 0, .int .i64 0, .int .i64 0, .int .i64 0, .int .i64 0, .int .i64 0, .int .i64 0, .int .i64 0] 32) = wq16 at *
        refine wpAnyH_ready (rs := [7]) (by kernel_rfl) (by simp) ?_
        refine AllReadyH.cons (o := _) rfl (fun K0 hK0 => ?_) AllReadyH.nil
        rw [if_pos (by rfl)]
        have hT7 := VK.there
        have hle7 := (bd).size
        have bF7 := belowCells ((thenB (thenB (thenB bd bq14) bc15) bq16)) hle7 0 [.string W0, .func (.func gf) #[] #[], .func (.func pf) #[] #[]]
        have VK' := VK.filled [.string W0, .func (.func gf) #[] #[], .func (.func pf) #[] #[]] rfl
        have VS' := VS.apart (B := wd.heap.size) (by omega) 0 [.string W0, .func (.func gf) #[] #[], .func (.func pf) #[] #[]]
        refine wp_store_mid _ _ _ rfl (wd.heap.size) 0 #[.string W0, .func (.func gf) #[] #[], .func (.func pf) #[] #[]] rfl rfl hT7 (by kernel_rfl) (by kernel_rfl) ?_
        obtain ⟨ws17, hw17⟩ : ∃ z, wq16.setCells (wd.heap.size) 0 [.string W0, .func (.func gf) #[] #[], .func (.func pf) #[] #[]] = z := ⟨_, rfl⟩
        rw [hw17] at VK' VS' bF7
        change K0 _ (wq16.setCells (wd.heap.size) 0 [.string W0, .func (.func gf) #[] #[], .func (.func pf) #[] #[]])
        rw [hw17]
        clear VK VS hT7 hw17
        have VK := VK'
        have VS := VS'
        clear VK' VS'
        refine hK0.out _ _ (K.out _ bF7) (fun hHeld => ?_)
        clear hK0 K0
        refine wpAnyH_ready (rs := [8]) (by kernel_rfl) (by simp) ?_
        refine AllReadyH.cons (o := _) rfl (fun K0 hK0 => ?_) AllReadyH.nil
        rw [if_pos (by rfl)]
        have hT8 := VS.there
        have hle8 := ((thenB (thenB bd bq14) bc15)).size
        have bF8 := belowCells (bF7) hle8 0 [.int .i64 x.s.a, .int .i64 x.s.b, .int .i64 x.s.c, .int .i64 x.s.d, .int .i64 x.s.e, .int .i64 x.s.f, .int .i64 x.s.g, .int .i64 x.s.h, .int .i64 x.s.r]
        have VS' := VS.filled [.int .i64 x.s.a, .int .i64 x.s.b, .int .i64 x.s.c, .int .i64 x.s.d, .int .i64 x.s.e, .int .i64 x.s.f, .int .i64 x.s.g, .int .i64 x.s.h, .int .i64 x.s.r] rfl
        have VK' := VK.apart (B := wc15.heap.size) (by omega) 0 [.int .i64 x.s.a, .int .i64 x.s.b, .int .i64 x.s.c, .int .i64 x.s.d, .int .i64 x.s.e, .int .i64 x.s.f, .int .i64 x.s.g, .int .i64 x.s.h, .int .i64 x.s.r]
        refine wp_store_mid _ _ _ rfl (wc15.heap.size) 0 #[.int .i64 x.s.a, .int .i64 x.s.b, .int .i64 x.s.c, .int .i64 x.s.d, .int .i64 x.s.e, .int .i64 x.s.f, .int .i64 x.s.g, .int .i64 x.s.h, .int .i64 x.s.r] rfl rfl hT8 (by kernel_rfl) (by kernel_rfl) ?_
        obtain ⟨ws18, hw18⟩ : ∃ z, ws17.setCells (wc15.heap.size) 0 [.int .i64 x.s.a, .int .i64 x.s.b, .int .i64 x.s.c, .int .i64 x.s.d, .int .i64 x.s.e, .int .i64 x.s.f, .int .i64 x.s.g, .int .i64 x.s.h, .int .i64 x.s.r] = z := ⟨_, rfl⟩
        rw [hw18] at VS' VK' bF8
        change K0 _ (ws17.setCells (wc15.heap.size) 0 [.int .i64 x.s.a, .int .i64 x.s.b, .int .i64 x.s.c, .int .i64 x.s.d, .int .i64 x.s.e, .int .i64 x.s.f, .int .i64 x.s.g, .int .i64 x.s.h, .int .i64 x.s.r])
        rw [hw18]
        clear VS VK hT8 hw18
        have VS := VS'
        have VK := VK'
        clear VS' VK'
        refine hK0.out _ _ (K.out _ bF8) (fun hHeld => ?_)
        clear hK0 K0
        refine wpAnyH_done (by kernel_rfl) ?_ _
        go_wp2_with fail
        go_meet
        exact ⟨wd.heap.size, wc15.heap.size, rfl, rfl, VK, VS, VX.kept bF8, thenB B bF8⟩
      · skip
        go_simp
        refine hK0.out _ _ (K.out _ (thenB (thenB bd bq14) (belowA wq14 (.cells #[.int .i64 0, .int .i64 0, .int .i64 0, .int .i64 0, .int .i64 0, .int .i64 0, .int .i64 0, .int .i64 0, .int .i64 0] 32)))) (fun hHeld => ?_)
        clear hK0 K0
        try simp only [Act.put, List.getElem_toArray, List.getElem_cons_zero, List.getElem_cons_succ, List.setIfInBounds_toArray, List.set_cons_zero, List.set_cons_succ]
        have hne : wd.heap.size < wq14.heap.size := VK.1
        replace VK := VK.kept (belowA wq14 (.cells #[.int .i64 0, .int .i64 0, .int .i64 0, .int .i64 0, .int .i64 0, .int .i64 0, .int .i64 0, .int .i64 0, .int .i64 0] 32))
        have VS : V (wq14.alloc (.cells #[.int .i64 0, .int .i64 0, .int .i64 0, .int .i64 0, .int .i64 0, .int .i64 0, .int .i64 0, .int .i64 0, .int .i64 0] 32)) wq14.heap.size [.int .i64 0, .int .i64 0, .int .i64 0, .int .i64 0, .int .i64 0, .int .i64 0, .int .i64 0, .int .i64 0, .int .i64 0] := V.new _ _ _
        have bq19 := belowA wq14 (.cells #[.int .i64 0, .int .i64 0, .int .i64 0, .int .i64 0, .int .i64 0, .int .i64 0, .int .i64 0, .int .i64 0, .int .i64 0] 32)
        generalize wq14.alloc (.cells #[.int .i64 0, .int .i64 0, .int .i64 0, .int .i64 0, .int .i64 0, .int .i64 0, .int .i64 0, .int .i64 0, .int .i64 0] 32) = wq19 at *
        refine wpAnyH_ready (rs := [2]) (by kernel_rfl) (by simp) ?_
        refine AllReadyH.cons (o := _) rfl (fun K0 hK0 => ?_) AllReadyH.nil
        go_simp
        go_at_call 117
        refine (CK.out _).mono ?_
        rintro e wc20 ⟨rfl, bc20⟩
        replace VK := VK.kept bc20
        replace VS := VS.kept bc20
        refine hK0.out _ _ (K.out _ (thenB (thenB (thenB bd bq14) bq19) bc20)) (fun hHeld => ?_)
        clear hK0 K0
        try simp only [Act.put, List.getElem_toArray, List.getElem_cons_zero, List.getElem_cons_succ, List.setIfInBounds_toArray, List.set_cons_zero, List.set_cons_succ]
        refine wpAnyH_ready (rs := [7]) (by kernel_rfl) (by simp) ?_
        refine AllReadyH.cons (o := _) rfl (fun K0 hK0 => ?_) AllReadyH.nil
        rw [if_pos (by rfl)]
        have hT7 := VK.there
        have hle7 := (bd).size
        have bF7 := belowCells ((thenB (thenB (thenB bd bq14) bq19) bc20)) hle7 0 [.string W0, .func (.func gf) #[] #[], .func (.func pf) #[] #[]]
        have VK' := VK.filled [.string W0, .func (.func gf) #[] #[], .func (.func pf) #[] #[]] rfl
        have VS' := VS.apart (B := wd.heap.size) (by omega) 0 [.string W0, .func (.func gf) #[] #[], .func (.func pf) #[] #[]]
        refine wp_store_mid _ _ _ rfl (wd.heap.size) 0 #[.string W0, .func (.func gf) #[] #[], .func (.func pf) #[] #[]] rfl rfl hT7 (by kernel_rfl) (by kernel_rfl) ?_
        obtain ⟨ws21, hw21⟩ : ∃ z, wc20.setCells (wd.heap.size) 0 [.string W0, .func (.func gf) #[] #[], .func (.func pf) #[] #[]] = z := ⟨_, rfl⟩
        rw [hw21] at VK' VS' bF7
        change K0 _ (wc20.setCells (wd.heap.size) 0 [.string W0, .func (.func gf) #[] #[], .func (.func pf) #[] #[]])
        rw [hw21]
        clear VK VS hT7 hw21
        have VK := VK'
        have VS := VS'
        clear VK' VS'
        refine hK0.out _ _ (K.out _ bF7) (fun hHeld => ?_)
        clear hK0 K0
        refine wpAnyH_ready (rs := [8]) (by kernel_rfl) (by simp) ?_
        refine AllReadyH.cons (o := _) rfl (fun K0 hK0 => ?_) AllReadyH.nil
        rw [if_pos (by rfl)]
        have hT8 := VS.there
        have hle8 := ((thenB bd bq14)).size
        have bF8 := belowCells (bF7) hle8 0 [.int .i64 x.s.a, .int .i64 x.s.b, .int .i64 x.s.c, .int .i64 x.s.d, .int .i64 x.s.e, .int .i64 x.s.f, .int .i64 x.s.g, .int .i64 x.s.h, .int .i64 x.s.r]
        have VS' := VS.filled [.int .i64 x.s.a, .int .i64 x.s.b, .int .i64 x.s.c, .int .i64 x.s.d, .int .i64 x.s.e, .int .i64 x.s.f, .int .i64 x.s.g, .int .i64 x.s.h, .int .i64 x.s.r] rfl
        have VK' := VK.apart (B := wq14.heap.size) (by omega) 0 [.int .i64 x.s.a, .int .i64 x.s.b, .int .i64 x.s.c, .int .i64 x.s.d, .int .i64 x.s.e, .int .i64 x.s.f, .int .i64 x.s.g, .int .i64 x.s.h, .int .i64 x.s.r]
        refine wp_store_mid _ _ _ rfl (wq14.heap.size) 0 #[.int .i64 x.s.a, .int .i64 x.s.b, .int .i64 x.s.c, .int .i64 x.s.d, .int .i64 x.s.e, .int .i64 x.s.f, .int .i64 x.s.g, .int .i64 x.s.h, .int .i64 x.s.r] rfl rfl hT8 (by kernel_rfl) (by kernel_rfl) ?_
        obtain ⟨ws22, hw22⟩ : ∃ z, ws21.setCells (wq14.heap.size) 0 [.int .i64 x.s.a, .int .i64 x.s.b, .int .i64 x.s.c, .int .i64 x.s.d, .int .i64 x.s.e, .int .i64 x.s.f, .int .i64 x.s.g, .int .i64 x.s.h, .int .i64 x.s.r] = z := ⟨_, rfl⟩
        rw [hw22] at VS' VK' bF8
        change K0 _ (ws21.setCells (wq14.heap.size) 0 [.int .i64 x.s.a, .int .i64 x.s.b, .int .i64 x.s.c, .int .i64 x.s.d, .int .i64 x.s.e, .int .i64 x.s.f, .int .i64 x.s.g, .int .i64 x.s.h, .int .i64 x.s.r])
        rw [hw22]
        clear VS VK hT8 hw22
        have VS := VS'
        have VK := VK'
        clear VS' VK'
        refine hK0.out _ _ (K.out _ bF8) (fun hHeld => ?_)
        clear hK0 K0
        refine wpAnyH_done (by kernel_rfl) ?_ _
        go_wp2_with fail
        go_meet
        exact ⟨wd.heap.size, wq14.heap.size, rfl, rfl, VK, VS, VX.kept bF8, thenB B bF8⟩
    · skip
      go_simp
      refine hK0.out _ _ (K.out _ (thenB bd (belowA wd (.cells #[.int .i64 0, .int .i64 0, .int .i64 0, .int .i64 0, .int .i64 0, .int .i64 0, .int .i64 0, .int .i64 0, .int .i64 0] 32)))) (fun hHeld => ?_)
      clear hK0 K0
      try simp only [Act.put, List.getElem_toArray, List.getElem_cons_zero, List.getElem_cons_succ, List.setIfInBounds_toArray, List.set_cons_zero, List.set_cons_succ]
      have VS : V (wd.alloc (.cells #[.int .i64 0, .int .i64 0, .int .i64 0, .int .i64 0, .int .i64 0, .int .i64 0, .int .i64 0, .int .i64 0, .int .i64 0] 32)) wd.heap.size [.int .i64 0, .int .i64 0, .int .i64 0, .int .i64 0, .int .i64 0, .int .i64 0, .int .i64 0, .int .i64 0, .int .i64 0] := V.new _ _ _
      have bq23 := belowA wd (.cells #[.int .i64 0, .int .i64 0, .int .i64 0, .int .i64 0, .int .i64 0, .int .i64 0, .int .i64 0, .int .i64 0, .int .i64 0] 32)
      generalize wd.alloc (.cells #[.int .i64 0, .int .i64 0, .int .i64 0, .int .i64 0, .int .i64 0, .int .i64 0, .int .i64 0, .int .i64 0, .int .i64 0] 32) = wq23 at *
      refine wpAnyH_ready (rs := [2, 5]) (by kernel_rfl) (by simp) ?_
      refine AllReadyH.cons (o := _) rfl (fun K0 hK0 => ?_) (AllReadyH.cons (o := _) rfl (fun K0 hK0 => ?_) AllReadyH.nil)
      · skip
        go_simp
        go_at_call 117
        refine (CK.out _).mono ?_
        rintro e wc24 ⟨rfl, bc24⟩
        replace VS := VS.kept bc24
        refine hK0.out _ _ (K.out _ (thenB (thenB bd bq23) bc24)) (fun hHeld => ?_)
        clear hK0 K0
        try simp only [Act.put, List.getElem_toArray, List.getElem_cons_zero, List.getElem_cons_succ, List.setIfInBounds_toArray, List.set_cons_zero, List.set_cons_succ]
        refine wpAnyH_ready (rs := [5]) (by kernel_rfl) (by simp) ?_
        refine AllReadyH.cons (o := _) rfl (fun K0 hK0 => ?_) AllReadyH.nil
        go_simp
        refine hK0.out _ _ (K.out _ (thenB (thenB (thenB bd bq23) bc24) (belowA wc24 (.cells #[.string ⟨#[]⟩, .nilFunc, .nilFunc] 156)))) (fun hHeld => ?_)
        clear hK0 K0
        try simp only [Act.put, List.getElem_toArray, List.getElem_cons_zero, List.getElem_cons_succ, List.setIfInBounds_toArray, List.set_cons_zero, List.set_cons_succ]
        have hne : wd.heap.size < wc24.heap.size := VS.1
        replace VS := VS.kept (belowA wc24 (.cells #[.string ⟨#[]⟩, .nilFunc, .nilFunc] 156))
        have VK : V (wc24.alloc (.cells #[.string ⟨#[]⟩, .nilFunc, .nilFunc] 156)) wc24.heap.size [.string ⟨#[]⟩, .nilFunc, .nilFunc] := V.new _ _ _
        have bq25 := belowA wc24 (.cells #[.string ⟨#[]⟩, .nilFunc, .nilFunc] 156)
        generalize wc24.alloc (.cells #[.string ⟨#[]⟩, .nilFunc, .nilFunc] 156) = wq25 at *
        refine wpAnyH_ready (rs := [7]) (by kernel_rfl) (by simp) ?_
        refine AllReadyH.cons (o := _) rfl (fun K0 hK0 => ?_) AllReadyH.nil
        rw [if_pos (by rfl)]
        have hT7 := VK.there
        have hle7 := ((thenB (thenB bd bq23) bc24)).size
        have bF7 := belowCells ((thenB (thenB (thenB bd bq23) bc24) bq25)) hle7 0 [.string W0, .func (.func gf) #[] #[], .func (.func pf) #[] #[]]
        have VK' := VK.filled [.string W0, .func (.func gf) #[] #[], .func (.func pf) #[] #[]] rfl
        have VS' := VS.apart (B := wc24.heap.size) (by omega) 0 [.string W0, .func (.func gf) #[] #[], .func (.func pf) #[] #[]]
        refine wp_store_mid _ _ _ rfl (wc24.heap.size) 0 #[.string W0, .func (.func gf) #[] #[], .func (.func pf) #[] #[]] rfl rfl hT7 (by kernel_rfl) (by kernel_rfl) ?_
        obtain ⟨ws26, hw26⟩ : ∃ z, wq25.setCells (wc24.heap.size) 0 [.string W0, .func (.func gf) #[] #[], .func (.func pf) #[] #[]] = z := ⟨_, rfl⟩
        rw [hw26] at VK' VS' bF7
        change K0 _ (wq25.setCells (wc24.heap.size) 0 [.string W0, .func (.func gf) #[] #[], .func (.func pf) #[] #[]])
        rw [hw26]
        clear VK VS hT7 hw26
        have VK := VK'
        have VS := VS'
        clear VK' VS'
        refine hK0.out _ _ (K.out _ bF7) (fun hHeld => ?_)
        clear hK0 K0
        refine wpAnyH_ready (rs := [8]) (by kernel_rfl) (by simp) ?_
        refine AllReadyH.cons (o := _) rfl (fun K0 hK0 => ?_) AllReadyH.nil
        rw [if_pos (by rfl)]
        have hT8 := VS.there
        have hle8 := (bd).size
        have bF8 := belowCells (bF7) hle8 0 [.int .i64 x.s.a, .int .i64 x.s.b, .int .i64 x.s.c, .int .i64 x.s.d, .int .i64 x.s.e, .int .i64 x.s.f, .int .i64 x.s.g, .int .i64 x.s.h, .int .i64 x.s.r]
        have VS' := VS.filled [.int .i64 x.s.a, .int .i64 x.s.b, .int .i64 x.s.c, .int .i64 x.s.d, .int .i64 x.s.e, .int .i64 x.s.f, .int .i64 x.s.g, .int .i64 x.s.h, .int .i64 x.s.r] rfl
        have VK' := VK.apart (B := wd.heap.size) (by omega) 0 [.int .i64 x.s.a, .int .i64 x.s.b, .int .i64 x.s.c, .int .i64 x.s.d, .int .i64 x.s.e, .int .i64 x.s.f, .int .i64 x.s.g, .int .i64 x.s.h, .int .i64 x.s.r]
        refine wp_store_mid _ _ _ rfl (wd.heap.size) 0 #[.int .i64 x.s.a, .int .i64 x.s.b, .int .i64 x.s.c, .int .i64 x.s.d, .int .i64 x.s.e, .int .i64 x.s.f, .int .i64 x.s.g, .int .i64 x.s.h, .int .i64 x.s.r] rfl rfl hT8 (by kernel_rfl) (by kernel_rfl) ?_
        obtain ⟨ws27, hw27⟩ : ∃ z, ws26.setCells (wd.heap.size) 0 [.int .i64 x.s.a, .int .i64 x.s.b, .int .i64 x.s.c, .int .i64 x.s.d, .int .i64 x.s.e, .int .i64 x.s.f, .int .i64 x.s.g, .int .i64 x.s.h, .int .i64 x.s.r] = z := ⟨_, rfl⟩
        rw [hw27] at VS' VK' bF8
        change K0 _ (ws26.setCells (wd.heap.size) 0 [.int .i64 x.s.a, .int .i64 x.s.b, .int .i64 x.s.c, .int .i64 x.s.d, .int .i64 x.s.e, .int .i64 x.s.f, .int .i64 x.s.g, .int .i64 x.s.h, .int .i64 x.s.r])
        rw [hw27]
        clear VS VK hT8 hw27
        have VS := VS'
        have VK := VK'
        clear VS' VK'
        refine hK0.out _ _ (K.out _ bF8) (fun hHeld => ?_)
        clear hK0 K0
        refine wpAnyH_done (by kernel_rfl) ?_ _
        go_wp2_with fail
        go_meet
        exact ⟨wc24.heap.size, wd.heap.size, rfl, rfl, VK, VS, VX.kept bF8, thenB B bF8⟩
      · skip
        go_simp
        refine hK0.out _ _ (K.out _ (thenB (thenB bd bq23) (belowA wq23 (.cells #[.string ⟨#[]⟩, .nilFunc, .nilFunc] 156)))) (fun hHeld => ?_)
        clear hK0 K0
        try simp only [Act.put, List.getElem_toArray, List.getElem_cons_zero, List.getElem_cons_succ, List.setIfInBounds_toArray, List.set_cons_zero, List.set_cons_succ]
        have hne : wd.heap.size < wq23.heap.size := VS.1
        replace VS := VS.kept (belowA wq23 (.cells #[.string ⟨#[]⟩, .nilFunc, .nilFunc] 156))
        have VK : V (wq23.alloc (.cells #[.string ⟨#[]⟩, .nilFunc, .nilFunc] 156)) wq23.heap.size [.string ⟨#[]⟩, .nilFunc, .nilFunc] := V.new _ _ _
        have bq28 := belowA wq23 (.cells #[.string ⟨#[]⟩, .nilFunc, .nilFunc] 156)
        generalize wq23.alloc (.cells #[.string ⟨#[]⟩, .nilFunc, .nilFunc] 156) = wq28 at *
        refine wpAnyH_ready (rs := [2]) (by kernel_rfl) (by simp) ?_
        refine AllReadyH.cons (o := _) rfl (fun K0 hK0 => ?_) AllReadyH.nil
        go_simp
        go_at_call 117
        refine (CK.out _).mono ?_
        rintro e wc29 ⟨rfl, bc29⟩
        replace VK := VK.kept bc29
        replace VS := VS.kept bc29
        refine hK0.out _ _ (K.out _ (thenB (thenB (thenB bd bq23) bq28) bc29)) (fun hHeld => ?_)
        clear hK0 K0
        try simp only [Act.put, List.getElem_toArray, List.getElem_cons_zero, List.getElem_cons_succ, List.setIfInBounds_toArray, List.set_cons_zero, List.set_cons_succ]
        refine wpAnyH_ready (rs := [7]) (by kernel_rfl) (by simp) ?_
        refine AllReadyH.cons (o := _) rfl (fun K0 hK0 => ?_) AllReadyH.nil
        rw [if_pos (by rfl)]
        have hT7 := VK.there
        have hle7 := ((thenB bd bq23)).size
        have bF7 := belowCells ((thenB (thenB (thenB bd bq23) bq28) bc29)) hle7 0 [.string W0, .func (.func gf) #[] #[], .func (.func pf) #[] #[]]
        have VK' := VK.filled [.string W0, .func (.func gf) #[] #[], .func (.func pf) #[] #[]] rfl
        have VS' := VS.apart (B := wq23.heap.size) (by omega) 0 [.string W0, .func (.func gf) #[] #[], .func (.func pf) #[] #[]]
        refine wp_store_mid _ _ _ rfl (wq23.heap.size) 0 #[.string W0, .func (.func gf) #[] #[], .func (.func pf) #[] #[]] rfl rfl hT7 (by kernel_rfl) (by kernel_rfl) ?_
        obtain ⟨ws30, hw30⟩ : ∃ z, wc29.setCells (wq23.heap.size) 0 [.string W0, .func (.func gf) #[] #[], .func (.func pf) #[] #[]] = z := ⟨_, rfl⟩
        rw [hw30] at VK' VS' bF7
        change K0 _ (wc29.setCells (wq23.heap.size) 0 [.string W0, .func (.func gf) #[] #[], .func (.func pf) #[] #[]])
        rw [hw30]
        clear VK VS hT7 hw30
        have VK := VK'
        have VS := VS'
        clear VK' VS'
        refine hK0.out _ _ (K.out _ bF7) (fun hHeld => ?_)
        clear hK0 K0
        refine wpAnyH_ready (rs := [8]) (by kernel_rfl) (by simp) ?_
        refine AllReadyH.cons (o := _) rfl (fun K0 hK0 => ?_) AllReadyH.nil
        rw [if_pos (by rfl)]
        have hT8 := VS.there
        have hle8 := (bd).size
        have bF8 := belowCells (bF7) hle8 0 [.int .i64 x.s.a, .int .i64 x.s.b, .int .i64 x.s.c, .int .i64 x.s.d, .int .i64 x.s.e, .int .i64 x.s.f, .int .i64 x.s.g, .int .i64 x.s.h, .int .i64 x.s.r]
        have VS' := VS.filled [.int .i64 x.s.a, .int .i64 x.s.b, .int .i64 x.s.c, .int .i64 x.s.d, .int .i64 x.s.e, .int .i64 x.s.f, .int .i64 x.s.g, .int .i64 x.s.h, .int .i64 x.s.r] rfl
        have VK' := VK.apart (B := wd.heap.size) (by omega) 0 [.int .i64 x.s.a, .int .i64 x.s.b, .int .i64 x.s.c, .int .i64 x.s.d, .int .i64 x.s.e, .int .i64 x.s.f, .int .i64 x.s.g, .int .i64 x.s.h, .int .i64 x.s.r]
        refine wp_store_mid _ _ _ rfl (wd.heap.size) 0 #[.int .i64 x.s.a, .int .i64 x.s.b, .int .i64 x.s.c, .int .i64 x.s.d, .int .i64 x.s.e, .int .i64 x.s.f, .int .i64 x.s.g, .int .i64 x.s.h, .int .i64 x.s.r] rfl rfl hT8 (by kernel_rfl) (by kernel_rfl) ?_
        obtain ⟨ws31, hw31⟩ : ∃ z, ws30.setCells (wd.heap.size) 0 [.int .i64 x.s.a, .int .i64 x.s.b, .int .i64 x.s.c, .int .i64 x.s.d, .int .i64 x.s.e, .int .i64 x.s.f, .int .i64 x.s.g, .int .i64 x.s.h, .int .i64 x.s.r] = z := ⟨_, rfl⟩
        rw [hw31] at VS' VK' bF8
        change K0 _ (ws30.setCells (wd.heap.size) 0 [.int .i64 x.s.a, .int .i64 x.s.b, .int .i64 x.s.c, .int .i64 x.s.d, .int .i64 x.s.e, .int .i64 x.s.f, .int .i64 x.s.g, .int .i64 x.s.h, .int .i64 x.s.r])
        rw [hw31]
        clear VS VK hT8 hw31
        have VS := VS'
        have VK := VK'
        clear VS' VK'
        refine hK0.out _ _ (K.out _ bF8) (fun hHeld => ?_)
        clear hK0 K0
        refine wpAnyH_done (by kernel_rfl) ?_ _
        go_wp2_with fail
        go_meet
        exact ⟨wq23.heap.size, wd.heap.size, rfl, rfl, VK, VS, VX.kept bF8, thenB B bF8⟩
  case rest =>
    clear VX B K
    obtain ⟨P1, P2, rfl, rfl, VK, VS, VX, B⟩ := hcut
    obtain ⟨s_VX, f_VX, z_VX⟩ := VX.open
    obtain ⟨s_VK, f_VK, z_VK⟩ := VK.open
    obtain ⟨s_VS, f_VS, z_VS⟩ := VS.open
    have Bo := B
    clear s_VX f_VX z_VX s_VK f_VK z_VK s_VS f_VS z_VS
    have K : ∀ w' : World, Below wc.heap.size wc w' → (w'.cell? ⟨P1, 0, none⟩ = some (.string W0) ∧ w'.cell? ⟨P1, 1, none⟩ = some (.func (.func gf) #[] #[]) ∧ w'.cell? ⟨P1, 2, none⟩ = some (.func (.func pf) #[] #[]) ∧ w'.cell? ⟨P2, 0, none⟩ = some (.int .i64 x.s.a) ∧ w'.cell? ⟨P2, 1, none⟩ = some (.int .i64 x.s.b) ∧ w'.cell? ⟨P2, 2, none⟩ = some (.int .i64 x.s.c) ∧ w'.cell? ⟨P2, 3, none⟩ = some (.int .i64 x.s.d) ∧ w'.cell? ⟨P2, 4, none⟩ = some (.int .i64 x.s.e) ∧ w'.cell? ⟨P2, 5, none⟩ = some (.int .i64 x.s.f) ∧ w'.cell? ⟨P2, 6, none⟩ = some (.int .i64 x.s.g) ∧ w'.cell? ⟨P2, 7, none⟩ = some (.int .i64 x.s.h) ∧ w'.cell? ⟨P2, 8, none⟩ = some (.int .i64 x.s.r)) := fun w' h => ⟨(VK.kept h).2.1 0 (by simp), (VK.kept h).2.1 1 (by simp), (VK.kept h).2.1 2 (by simp), (VS.kept h).2.1 0 (by simp), (VS.kept h).2.1 1 (by simp), (VS.kept h).2.1 2 (by simp), (VS.kept h).2.1 3 (by simp), (VS.kept h).2.1 4 (by simp), (VS.kept h).2.1 5 (by simp), (VS.kept h).2.1 6 (by simp), (VS.kept h).2.1 7 (by simp), (VS.kept h).2.1 8 (by simp)⟩
    have K := Hid.mk K
    go_wp2_with fail
    refine wp_region_held_drew (S := (fun w' => w'.cell? ⟨P1, 0, none⟩ = some (.string W0) ∧ w'.cell? ⟨P1, 1, none⟩ = some (.func (.func gf) #[] #[]) ∧ w'.cell? ⟨P1, 2, none⟩ = some (.func (.func pf) #[] #[]) ∧ w'.cell? ⟨P2, 0, none⟩ = some (.int .i64 x.s.a) ∧ w'.cell? ⟨P2, 1, none⟩ = some (.int .i64 x.s.b) ∧ w'.cell? ⟨P2, 2, none⟩ = some (.int .i64 x.s.c) ∧ w'.cell? ⟨P2, 3, none⟩ = some (.int .i64 x.s.d) ∧ w'.cell? ⟨P2, 4, none⟩ = some (.int .i64 x.s.e) ∧ w'.cell? ⟨P2, 5, none⟩ = some (.int .i64 x.s.f) ∧ w'.cell? ⟨P2, 6, none⟩ = some (.int .i64 x.s.g) ∧ w'.cell? ⟨P2, 7, none⟩ = some (.int .i64 x.s.h) ∧ w'.cell? ⟨P2, 8, none⟩ = some (.int .i64 x.s.r))) (by kernel_rfl) (K.out _ (Below.refl _ _).drew) (fun hHeld => ?_)
    refine wpAnyH_take (i := 0) (oi := _) (v := ?vz1u1) rfl (by kernel_rfl) (by kernel_rfl) (by kernel_rfl) (fun _ _ _ h => h) (Or.inl ⟨by rfl, ?hyz1u1⟩) hHeld ?restz1u1
    case hyz1u1 => (intro w hSw; (try dsimp only at hSw); go_simp; first | done | with_reducible rfl)
    try simp only [Act.put, List.getElem_toArray, List.getElem_cons_zero, List.setIfInBounds_toArray, List.set_cons_zero, List.set_cons_succ]
    refine wpAnyH_take (i := 1) (oi := _) (v := ?vz1u2) rfl (by kernel_rfl) (by kernel_rfl) (by kernel_rfl) (fun _ _ _ h => h) (Or.inl ⟨by rfl, ?hyz1u2⟩) hHeld ?restz1u2
    case hyz1u2 => (intro w hSw; (try dsimp only at hSw); go_simp; first | done | with_reducible rfl)
    try simp only [Act.put, List.getElem_toArray, List.getElem_cons_zero, List.getElem_cons_succ, List.setIfInBounds_toArray, List.set_cons_zero, List.set_cons_succ]
    refine wpAnyH_take (i := 2) (oi := _) (v := ?vz1u3) rfl (by kernel_rfl) (by kernel_rfl) (by kernel_rfl) (fun _ _ _ h => h) (Or.inl ⟨by rfl, ?hyz1u3⟩) hHeld ?restz1u3
    case hyz1u3 => (intro w hSw; (try dsimp only at hSw); go_simp; first | done | with_reducible rfl)
    try simp only [Act.put, List.getElem_toArray, List.getElem_cons_zero, List.getElem_cons_succ, List.setIfInBounds_toArray, List.set_cons_zero, List.set_cons_succ]
    refine wpAnyH_take (i := 3) (oi := _) (v := ?vz1u4) rfl (by kernel_rfl) (by kernel_rfl) (by kernel_rfl) (fun _ _ _ h => h) (Or.inl ⟨by rfl, ?hyz1u4⟩) hHeld ?restz1u4
    case hyz1u4 => (intro w hSw; (try dsimp only at hSw); go_simp; first | done | with_reducible rfl)
    try simp only [Act.put, List.getElem_toArray, List.getElem_cons_zero, List.getElem_cons_succ, List.setIfInBounds_toArray, List.set_cons_zero, List.set_cons_succ]
    refine wpAnyH_take (i := 5) (oi := _) (v := ?vz1u5) rfl (by kernel_rfl) (by kernel_rfl) (by kernel_rfl) (fun _ _ _ h => h) (Or.inl ⟨by rfl, ?hyz1u5⟩) hHeld ?restz1u5
    case hyz1u5 => (intro w hSw; (try dsimp only at hSw); go_simp; first | done | with_reducible rfl)
    try simp only [Act.put, List.getElem_toArray, List.getElem_cons_zero, List.getElem_cons_succ, List.setIfInBounds_toArray, List.set_cons_zero, List.set_cons_succ]
    refine wpAnyH_take (i := 6) (oi := _) (v := ?vz1u6) rfl (by kernel_rfl) (by kernel_rfl) (by kernel_rfl) (fun _ _ _ h => h) (Or.inl ⟨by rfl, ?hyz1u6⟩) hHeld ?restz1u6
    case hyz1u6 => (intro w hSw; (try dsimp only at hSw); go_simp; first | done | with_reducible rfl)
    try simp only [Act.put, List.getElem_toArray, List.getElem_cons_zero, List.getElem_cons_succ, List.setIfInBounds_toArray, List.set_cons_zero, List.set_cons_succ]
    refine wpAnyH_take (i := 8) (oi := _) (v := ?vz1u7) rfl (by kernel_rfl) (by kernel_rfl) (by kernel_rfl) (fun _ _ _ h => h) (Or.inl ⟨by rfl, ?hyz1u7⟩) hHeld ?restz1u7
    case hyz1u7 => (intro w hSw; (try dsimp only at hSw); go_simp; first | done | with_reducible rfl)
    try simp only [Act.put, List.getElem_toArray, List.getElem_cons_zero, List.getElem_cons_succ, List.setIfInBounds_toArray, List.set_cons_zero, List.set_cons_succ]
    refine wpAnyH_take (i := 9) (oi := _) (v := ?vz1u8) rfl (by kernel_rfl) (by kernel_rfl) (by kernel_rfl) (fun _ _ _ h => h) (Or.inl ⟨by rfl, ?hyz1u8⟩) hHeld ?restz1u8
    case hyz1u8 => (intro w hSw; (try dsimp only at hSw); go_simp; first | done | with_reducible rfl)
    try simp only [Act.put, List.getElem_toArray, List.getElem_cons_zero, List.getElem_cons_succ, List.setIfInBounds_toArray, List.set_cons_zero, List.set_cons_succ]
    refine wpAnyH_take (i := 11) (oi := _) (v := ?vz1u9) rfl (by kernel_rfl) (by kernel_rfl) (by kernel_rfl) (fun _ _ _ h => h) (Or.inl ⟨by rfl, ?hyz1u9⟩) hHeld ?restz1u9
    case hyz1u9 => (intro w hSw; (try dsimp only at hSw); go_simp; first | done | with_reducible rfl)
    try simp only [Act.put, List.getElem_toArray, List.getElem_cons_zero, List.getElem_cons_succ, List.setIfInBounds_toArray, List.set_cons_zero, List.set_cons_succ]
    refine wpAnyH_take (i := 12) (oi := _) (v := ?vz1u10) rfl (by kernel_rfl) (by kernel_rfl) (by kernel_rfl) (fun _ _ _ h => h) (Or.inl ⟨by rfl, ?hyz1u10⟩) hHeld ?restz1u10
    case hyz1u10 => (intro w hSw; (try dsimp only at hSw); go_simp; first | done | with_reducible rfl)
    try simp only [Act.put, List.getElem_toArray, List.getElem_cons_zero, List.getElem_cons_succ, List.setIfInBounds_toArray, List.set_cons_zero, List.set_cons_succ]
    refine wpAnyH_ready (rs := [4]) (by kernel_rfl) (by simp) ?_
    refine AllReadyH.cons (o := _) rfl (fun K0 hK0 => ?_) AllReadyH.nil
    go_simp
    go_at_call 125
    refine (CR1.out _ (hT.out _ (thenB B (Below.refl _ _).drew))).mono ?_
    rintro e wz1v11 ⟨rfl, bz1v11⟩
    refine hK0.out _ _ (K.out _ (thenB (Below.refl _ _).drew bz1v11)) (fun hHeld => ?_)
    clear hK0 K0
    try simp only [Act.put, List.getElem_toArray, List.getElem_cons_zero, List.getElem_cons_succ, List.setIfInBounds_toArray, List.set_cons_zero, List.set_cons_succ]
    refine wpAnyH_ready (rs := [7]) (by kernel_rfl) (by simp) ?_
    refine AllReadyH.cons (o := _) rfl (fun K0 hK0 => ?_) AllReadyH.nil
    go_simp
    go_at_call 125
    refine (CR2.out _ (hT.out _ (thenB B (thenB (Below.refl _ _).drew bz1v11)))).mono ?_
    rintro e wz1v12 ⟨rfl, bz1v12⟩
    refine hK0.out _ _ (K.out _ (thenB (thenB (Below.refl _ _).drew bz1v11) bz1v12)) (fun hHeld => ?_)
    clear hK0 K0
    try simp only [Act.put, List.getElem_toArray, List.getElem_cons_zero, List.getElem_cons_succ, List.setIfInBounds_toArray, List.set_cons_zero, List.set_cons_succ]
    refine wpAnyH_ready (rs := [10]) (by kernel_rfl) (by simp) ?_
    refine AllReadyH.cons (o := _) rfl (fun K0 hK0 => ?_) AllReadyH.nil
    go_simp
    go_at_call 127
    refine (CR3.out _ (hT.out _ (thenB B (thenB (thenB (Below.refl _ _).drew bz1v11) bz1v12)))).mono ?_
    rintro e wz1v13 ⟨rfl, bz1v13⟩
    refine hK0.out _ _ (K.out _ (thenB (thenB (thenB (Below.refl _ _).drew bz1v11) bz1v12) bz1v13)) (fun hHeld => ?_)
    clear hK0 K0
    try simp only [Act.put, List.getElem_toArray, List.getElem_cons_zero, List.getElem_cons_succ, List.setIfInBounds_toArray, List.set_cons_zero, List.set_cons_succ]
    refine wpAnyH_ready (rs := [13]) (by kernel_rfl) (by simp) ?_
    refine AllReadyH.cons (o := _) rfl (fun K0 hK0 => ?_) AllReadyH.nil
    go_simp
    go_at_call 125
    refine (CR4.out _ (hT.out _ (thenB B (thenB (thenB (thenB (Below.refl _ _).drew bz1v11) bz1v12) bz1v13)))).mono ?_
    rintro e wz1v14 ⟨rfl, bz1v14⟩
    refine hK0.out _ _ (K.out _ (thenB (thenB (thenB (thenB (Below.refl _ _).drew bz1v11) bz1v12) bz1v13) bz1v14)) (fun hHeld => ?_)
    clear hK0 K0
    try simp only [Act.put, List.getElem_toArray, List.getElem_cons_zero, List.getElem_cons_succ, List.setIfInBounds_toArray, List.set_cons_zero, List.set_cons_succ]
    refine wpAnyH_ready (rs := [14]) (by kernel_rfl) (by simp) ?_
    refine AllReadyH.cons (o := _) rfl (fun K0 hK0 => ?_) AllReadyH.nil
    go_simp
    refine hK0.out _ _ (K.out _ (thenB (thenB (thenB (thenB (thenB (Below.refl _ _).drew bz1v11) bz1v12) bz1v13) bz1v14) (belowA _ _))) (fun hHeld => ?_)
    clear hK0 K0
    try simp only [Act.put, List.getElem_toArray, List.getElem_cons_zero, List.getElem_cons_succ, List.setIfInBounds_toArray, List.set_cons_zero, List.set_cons_succ]
    refine wpAnyH_take (i := 15) (oi := _) (v := ?vz1u15) rfl (by kernel_rfl) (by kernel_rfl) (by kernel_rfl) (fun _ _ _ h => h) (Or.inl ⟨by rfl, ?hyz1u15⟩) hHeld ?restz1u15
    case hyz1u15 => (intro w hSw; (try dsimp only at hSw); go_simp; first | done | with_reducible rfl)
    try simp only [Act.put, List.getElem_toArray, List.getElem_cons_zero, List.getElem_cons_succ, List.setIfInBounds_toArray, List.set_cons_zero, List.set_cons_succ]
    refine wpAnyH_done (by kernel_rfl) ?_ _
    clear K hHeld
    replace VX := VX.kept (thenB (thenB (thenB (thenB (Below.refl _ _).drew bz1v11) bz1v12) bz1v13) bz1v14)
    replace VK := VK.kept (thenB (thenB (thenB (thenB (Below.refl _ _).drew bz1v11) bz1v12) bz1v13) bz1v14)
    replace VS := VS.kept (thenB (thenB (thenB (thenB (Below.refl _ _).drew bz1v11) bz1v12) bz1v13) bz1v14)
    replace B := thenB B (thenB (thenB (thenB (thenB (Below.refl _ _).drew bz1v11) bz1v12) bz1v13) bz1v14)
    have Sz1 := ((thenB (thenB (thenB (thenB (Below.refl _ _).drew bz1v11) bz1v12) bz1v13) bz1v14)).size
    clear bz1v11 bz1v12 bz1v13 bz1v14
    obtain ⟨s_VX, f_VX, z_VX⟩ := VX.open
    obtain ⟨s_VK, f_VK, z_VK⟩ := VK.open
    obtain ⟨s_VS, f_VS, z_VS⟩ := VS.open
    have Bo := B
    clear s_VX f_VX z_VX s_VK f_VK z_VK s_VS f_VS z_VS
    have hwl : w.heap.size ≤ wz1v14.heap.size := B.size
    have OW : OwnSt (wz1v14.alloc (.cells #[.string W0, .string E1, .string E2, .string D1, .string D2] 9)) wz1v14.heap.size (some ⟨wz1v14.heap.size, 0, none⟩) 5 [W0, E1, E2, D1, D2] := OwnSt.lit wz1v14 [W0, E1, E2, D1, D2] [.string W0, .string E1, .string E2, .string D1, .string D2] rfl (by simp [maxLen])
    replace VX := VX.kept (belowA wz1v14 (.cells #[.string W0, .string E1, .string E2, .string D1, .string D2] 9))
    replace VK := VK.kept (belowA wz1v14 (.cells #[.string W0, .string E1, .string E2, .string D1, .string D2] 9))
    replace VS := VS.kept (belowA wz1v14 (.cells #[.string W0, .string E1, .string E2, .string D1, .string D2] 9))
    replace B := thenB B (belowA wz1v14 (.cells #[.string W0, .string E1, .string E2, .string D1, .string D2] 9))
    clear Bo
    generalize hwn : wz1v14.alloc (.cells #[.string W0, .string E1, .string E2, .string D1, .string D2] 9) = wn at *
    generalize hbn : wz1v14.heap.size = bn at *
    by_cases h3 : x.p = 3
    · skip
      have hpf := hpf1.out h3
      subst hpf
      have hfin := Hid.mk (hl1.out h3)
      obtain ⟨s_VX, f_VX, z_VX⟩ := VX.open
      obtain ⟨s_VK, f_VK, z_VK⟩ := VK.open
      obtain ⟨s_VS, f_VS, z_VS⟩ := VS.open
      have Bo := B
      go_wp2_with fail
      refine (CN.out _ (hT.out _ B)).mono ?_
      rintro e w1 ⟨c9, rfl, hc9, b1⟩
      clear s_VX f_VX z_VX s_VK f_VK z_VK s_VS f_VS z_VS
      have S1 := b1.size
      replace VX := VX.kept b1
      replace VK := VK.kept b1
      replace VS := VS.kept b1
      replace OW := OW.kept b1
      replace B := thenB B b1
      clear b1
      obtain ⟨s_VX, f_VX, z_VX⟩ := VX.open
      obtain ⟨s_VK, f_VK, z_VK⟩ := VK.open
      obtain ⟨s_VS, f_VS, z_VS⟩ := VS.open
      have Bo := B
      have OWL := OW.lt _ rfl
      simp only at OWL
      have TL : bn ≤ w1.heap.size := by omega
      go_wp2_with (at_builtin; go_loud (refine wpList_putSt _ rfl _ _ rfl bn (some ⟨bn, 0, none⟩) 5 [W0, E1, E2, D1, D2] 5 rfl rfl OW (⟨c9, 0, none⟩) 1 D4 rfl (by rw [Addr.add_lit]; exact hc9) (by omega) TL ?_))
      intro c6 d6 w6 O6 hg6 hx6
      obtain ⟨c7, rfl, _, _⟩ := hx6.out
      have B6 := belowG (c := some ⟨bn, 0, none⟩) B hg6 (by have := B.size; omega) (fun b hb => by simp only [Option.some.injEq] at hb; subst hb; simp only; omega)
      skip
      have hjl : (Lib.join ([W0, E1, E2, D1, D2, D4].map (·.data.toList)) [32]).length ≤ 140737488355328 := by
        have hz1 : ∀ s : ByteArray, s.data.toList.length = s.size := fun s => by rw [Array.length_toList]; rfl
        simp only [Lib.join, List.intercalate, List.map_cons, List.map_nil, List.intersperse, List.flatten_cons, List.flatten_nil, List.length_append, List.length_cons, List.length_nil, hz1]
        omega
      have CJ := Hid.mk (join_any c7 0 d6 [W0, E1, E2, D1, D2, D4] ⟨#[32]⟩ w6 O6.cells (O6.lt _ rfl).2 (by simp) O6.cap hjl)
      rw [join_bytes] at CJ
      simp only [List.foldl_cons, List.foldl_nil, List.length_cons, List.length_nil, Nat.zero_add, Nat.reduceAdd] at CJ
      have zz : ¬ 9223372036854775807 < W0.size + 1 + E1.size + 1 + E2.size + 1 + D1.size + 1 + D2.size + 1 + D4.size + 1 := by omega
      clear hjl e1 e2 e3 e6 e7 e8 hg6 hx6 OW O6 hc9
      clear s_VX f_VX z_VX s_VK f_VK z_VK s_VS f_VS z_VS
      clear VX VK VS B Bo
      go_wp2_with fail
      refine CJ.out.mono ?_
      rintro e wj ⟨rfl, bj⟩
      have HB := Hid.mk (thenB B6 bj)
      clear B6
      go_wp2
      go_ret
      exact ⟨by rw [hfin.out]; rfl, HB.out⟩
    · skip
      have hpf := hpf2.out h3
      subst hpf
      have hfin := Hid.mk (hl2.out h3)
      have hjl : (Lib.join ([W0, E1, E2, D1, D2].map (·.data.toList)) [32]).length ≤ 140737488355328 := by
        have hz1 : ∀ s : ByteArray, s.data.toList.length = s.size := fun s => by rw [Array.length_toList]; rfl
        simp only [Lib.join, List.intercalate, List.map_cons, List.map_nil, List.intersperse, List.flatten_cons, List.flatten_nil, List.length_append, List.length_cons, List.length_nil, hz1]
        omega
      have CJ := Hid.mk (join_any bn 0 5 [W0, E1, E2, D1, D2] ⟨#[32]⟩ wn OW.cells (OW.lt _ rfl).2 (by simp) OW.cap hjl)
      rw [join_bytes] at CJ
      simp only [List.foldl_cons, List.foldl_nil, List.length_cons, List.length_nil, Nat.zero_add, Nat.reduceAdd] at CJ
      have zz : ¬ 9223372036854775807 < W0.size + 1 + E1.size + 1 + E2.size + 1 + D1.size + 1 + D2.size + 1 := by omega
      clear hjl e1 e2 e3 e6 e7 e8
      obtain ⟨s_VX, f_VX, z_VX⟩ := VX.open
      obtain ⟨s_VK, f_VK, z_VK⟩ := VK.open
      obtain ⟨s_VS, f_VS, z_VS⟩ := VS.open
      have Bo := B
      go_wp2_with fail
      refine (noWords_ok _ _).mono ?_
      rintro e wm ⟨rfl, rfl⟩
      go_wp2_with fail
      refine CJ.out.mono ?_
      rintro e wj ⟨rfl, bj⟩
      have HB := Hid.mk (thenB B bj)
      clear B Bo
      go_wp2
      go_ret
      exact ⟨by rw [hfin.out]; rfl, HB.out⟩

end Go.Proofs.YtngkahchhioncaaDoor
