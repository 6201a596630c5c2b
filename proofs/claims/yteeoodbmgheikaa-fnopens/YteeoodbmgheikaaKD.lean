/- A region that draws its order, within a round of a loop over a function: by what holds of it outside of one. All that lies open is opened: the program. -/
import Derived.Test.YteeoodbmgheikaaHeld
import Derived.Deep.RegionHeld
import Derived.RangeFuncCalls
import Derived.OrdersIn
import Derived.Test.YteeoodbmgheikaaKB
import Derived.Test.YteeoodbmgheikaaKC
namespace Go.Proofs.Yteeoodbmgheikaa
section
open Go.RowKit

/-- It goes on, in one way alone. -/
def goesOn (Q : Exit → Act → World → Prop) : Exit → Act → World → Prop
  | .normal, a, w => Q .normal a w
  | _, _, _ => False

variable {P : Program} {ops : Array Oper} {Q : Exit → Act → World → Prop}

theorem letsOut_no (h : LetsOut (goesOn Q)) : False := by obtain ⟨_, _, h⟩ := h; exact h

theorem wpOpsIn_round {l n : Nat} (hd : ∀ (i : Nat) (o : Oper), ops[i]? = some o → ∀ c, o.op ≠ .defer c) : ∀ (order : List Nat) (a : Act) (w : World), wpOps P ops (goesOn Q) order a w → wpOpsIn (Fence.wide.inRound l) n P ops Q order a w
  | [], _, _, h => h
  | i :: rest, a, w, h => by
    unfold wpOps at h
    unfold wpOpsIn
    cases ho : ops[i]? with
    | none => rw [ho] at h; exact wpOpsIn_round hd rest a w h
    | some o =>
      rw [ho] at h
      simp only at h ⊢
      split
      · rename_i hw
        rw [if_pos hw] at h
        rcases h with h | ⟨_, h⟩
        · unfold Oper.wp at h
          unfold Oper.wpIn
          refine ⟨fun _ _ => trivial, ?_⟩
          rw [Oper.semAt_eq _ _ _ (hd i o ho)]
          generalize (execOp a.eval o).run P w = r at *
          cases r with
          | ok x w' =>
            cases x <;> simp only [Oper.upon, Oper.uponIn] at h ⊢
            case value v => exact wpOpsIn_round hd rest _ _ h
            case skip => exact wpOpsIn_round hd rest _ _ h
            case defer d => exact wpOpsIn_round hd rest _ _ h
            case enter f args =>
              refine ⟨fun h => by simp [Fence.wide, Fence.inRound] at h, CallsIn.mono (CallsIn.inRound l (callsIn_wide.2 h)) fun e w'' he => ?_⟩
              cases e with
              | returned v => exact wpOpsIn_round hd rest _ _ he
              | panicked c => exact absurd he id
              | outgrown => exact (letsOut_no he).elim
            case row row args =>
              exact ⟨fun h => by simp [Fence.wide, Fence.inRound] at h, fun c cs _ => by
                obtain ⟨v, w'', hr, hs⟩ := h c cs
                exact ⟨v, w'', wpOpsIn_round hd rest _ _ hr, stepsIn_wide.2 hs⟩⟩
          | halt x w' => cases x <;> simp only [Oper.upon] at h <;> exact absurd h id
        · exact (letsOut_no h).elim
      · rename_i hw
        rw [if_neg hw] at h
        exact ⟨fun _ _ => trivial, wpOpsIn_round hd rest _ _ h⟩

theorem wpIn_region_round {id : Nat} {S : World → Prop} {a : Act} {w : World} {l n : Nat} (hm : P.follows .mixedOrders = true) (hd : ops.all (fun o => match o.op with | .defer _ => false | _ => true) = true) (hS : S w.drew)
    (h : S w.drew → wpAnyH P .any ops (goesOn Q) S ops.size (Array.replicate ops.size false) a w.drew) : (Code.region id ops true).wpIn (Fence.wide.inRound l) n P Q a w :=
  wpIn_region_draw fun t => by
    simp only [Region.schedule, hm, Bool.true_or, if_true]
    refine wpOpsIn_round (fun i o ho c e => ?_) _ _ _ (wpAny_sound ops.size t _ a _ (wpAny_of_held _ _ _ _ (h hS)))
    obtain ⟨hi, hio⟩ := Array.getElem?_eq_some_iff.1 ho
    have := Array.all_eq_true.1 hd i hi
    rw [hio, e] at this
    cases this
end

section
open Go.RowKit Go.Shelf

theorem Fl.unique {w : World} {base Q n : Nat} {M M' : List Bool} (h : Fl w base Q n M) (h' : Fl w base Q n M') : M = M' := by
  have h1 := h.1
  have h2 := h'.1
  apply List.ext_getElem
  · omega
  · intro i hi hi'
    have := (h.cell (j := i) (by omega)).symm.trans (h'.cell (j := i) (by omega))
    simpa [List.getD, hi, hi'] using this

theorem set_same {M : List Bool} {j : Nat} (h : M.getD j false = true) : M.set j true = M := by
  apply List.ext_getElem
  · simp
  · intro i h1 h2
    rw [List.getElem_set]
    split
    · rename_i e; subst e; simpa [List.getD, h2] using h.symm
    · rfl

/-- Between two parts: the marks, and whether something came of what lies open. -/
structure Om (xs : List T4) (kn : List Int) (base Q n B : Nat) (M : List Bool) (w : World) (M2 : List Bool) (b : Bool) : Prop where
  f : Fl w base Q n M2
  way : Way xs kn M2
  up : ∀ z, flg M z = true → flg M2 z = true
  v : V w B [.bool b]
  no : b = false → M2 = M
  yes : b = true → left M2 < left M

theorem Om.sm {X : Nat → Prop} {xs : List T4} {kn : List Int} {base Q n B : Nat} {M M2 : List Bool} {w w' : World} {b : Bool} (h : Om xs kn base Q n B M w M2 b) (s : Sm X w w') (h1 : ¬ X Q) (h2 : ¬ X B) : Om xs kn base Q n B M w' M2 b :=
  ⟨h.f.sm s h1, h.way, h.up, h.v.sm s h2, h.no, h.yes⟩

theorem Om.mark {xs : List T4} {kn : List Int} {base Q n B : Nat} {M M2 : List Bool} {w : World} {b : Bool} (h : Om xs kn base Q n B M w M2 b) (hn : xs.length = n) (hne : Q ≠ B) {j : Nat} (hj : Lst xs kn j) :
    Om xs kn base Q n B M ((w.setCell ⟨B, 0, none⟩ (.bool (b || !M2.getD j false))).setCell ⟨Q, j, none⟩ (.bool true)) (M2.set j true) (b || !M2.getD j false) := by
  have hl : j < M2.length := by have := hj.1; rw [h.way.len]; omega
  refine ⟨(h.f.other (p := ⟨B, 0, none⟩) (Ne.symm hne) _).set j true, h.way.set hj, fun z hz => (flg_set hl z).2 (.inr (h.up z hz)), ?_, fun hb => ?_, fun hb => ?_⟩
  · have := (h.v.set (i := 0) (by simp) (.bool (b || !M2.getD j false))).other (p := ⟨Q, j, none⟩) hne (.bool true)
    simpa using this
  · cases hb0 : b with
    | true => rw [hb0] at hb; simp at hb
    | false =>
      rw [hb0, Bool.false_or] at hb
      have hm : M2.getD j false = true := by simpa using hb
      rw [set_same hm]; exact h.no hb0
  · cases hm : M2.getD j false with
    | true =>
      rw [set_same hm]
      rw [hm] at hb
      exact h.yes (by simpa using hb)
    | false =>
      have h1 := left_set hl hm
      cases hb0 : b with
      | true => have := h.yes hb0; omega
      | false => rw [h.no hb0] at h1 ⊢; exact h1

/-- Between two rounds. -/
def OmI (xs : List T4) (kn : List Int) (base Q n B : Nat) (M : List Bool) (W0 : World) (pre : List (Pl (Lst xs kn))) (W : World) : Prop :=
  ∃ M2 b, Om xs kn base Q n B M W M2 b ∧ (∀ x ∈ vals pre, ∀ z ∈ told (canL xs (flg M)) (tmAt xs x), flg M2 z = true) ∧ Sm (fun k => k = Q ∨ k = B) W0 W

theorem OmI.from {xs : List T4} {kn : List Int} {base Q n B : Nat} {M : List Bool} {W0 : World} (h1 : Q < W0.heap.size) (h2 : B < W0.heap.size) : OwnFrom W0.heap.size (OmI xs kn base Q n B M W0) := by
  rintro pre A A' row ⟨M2, b, h, ht, s⟩ hg hr
  have s2 : Sm (fun k => row = some k) A A' := Sm.grown hg (fun k e => e)
  exact ⟨M2, b, h.sm s2 (fun e => by have := (hr _ e).1; omega) (fun e => by have := (hr _ e).1; omega), ht, s2.less s.size (fun k hk e => by have := (hr _ e).1; omega) s⟩

attribute [local go_sem] Oper.semAt_some

set_option maxRecDepth 100000 in
set_option maxHeartbeats 8000000 in
theorem openMore_ok (base kb p g : Nat) (c : Option Addr) (d Q n : Nat) (xs : List T4) (kn : List Int) (M : List Bool) (w : World) (H : Kn w base kb p g c d Q xs M) (hn : xs.length = n) (ht : tfC xs = 0) (hW : Way xs kn M) :
    Calls Try.prog 57 #[.pointer (some ⟨kb, 0, none⟩)] w fun e w' => ∃ (b : Bool) (M2 : List Bool), e = .returned (.bool b) ∧ Kn w' base kb p g c d Q xs M2 ∧ Way xs kn M2 ∧ (b = false → M2 = M ∧ IsOpen xs kn (plcs M)) ∧ (b = true → left M2 < left M) ∧ Sm (fun k => k = Q) w w' := by
  have hn4 : n ≤ 400 := by have := (tfC_zero ht).1; omega
  have HN := Hid.mk hn
  have HT := Hid.mk ht
  have H0 := H
  have bA := belowA w (.cells #[.pointer (some ⟨kb, 0, none⟩)] 50)
  have CM := Hid.mk (makeable_ok base kb p g c d Q n xs M _ (H.kept bA) hn ht)
  have CF := Hid.mk (fun w => fromLast_ok (some ⟨Q, 0, none⟩) n n w)
  have VB := V.new w [.pointer (some ⟨kb, 0, none⟩)] 50
  replace H := H.kept bA
  have hQw : Q < w.heap.size + 1 := by have := H.f.lt.2; simpa using this
  have hQw2 : Q ≠ w.heap.size := fun e => by have h1 := H0.f.lt.2; omega
  have hkw : kb < w.heap.size := H0.v.1
  refine (callsIn_wide (n := 20)).1 ?_
  refine callsIn_of_wp_marks Try.func57 rfl trivial ?_ rfl
  simp only [Try.ntmps57, List.size_toArray, List.length_cons, List.length_nil, Nat.reduceAdd, Nat.reduceSub, Array.replicate_succ, Array.replicate_zero, List.push_toArray, List.append_toArray, List.nil_append, List.cons_append]
  gi_wp2_with (first
    | (refine ⟨trivial, ?_⟩; gi_at_call 53; refine (callsIn_wide.2 CM.out).mono ?_; rintro e w1 ⟨Q2, rfl, HC, b1⟩; (have H1 := H.kept b1); (have VB1 := VB.kept b1); (have VK1 := H1.v); rw [HN.out] at VK1; obtain ⟨s_VB, f_VB, z_VB⟩ := VB1.open; obtain ⟨s_VK, f_VK, z_VK⟩ := VK1.open)
    | (refine ⟨trivial, ?_⟩; gi_at_call 59; refine (callsIn_wide.2 (CF.out _)).mono ?_; rintro e w2 ⟨rfl, rfl⟩)
    | gi_in)
  clear CM CF s_VB f_VB z_VB s_VK f_VK z_VK
  have hs1 := b1.size
  have bw0 := thenB bA b1
  simp only [World.size_alloc] at hs1 HC
  have hQ2 := HC.lt
  -- the world in which the loop begins
  have V3 := V.new w1 [.slice (some ⟨Q2, 0, none⟩) n n] 55
  have V4 := V.new (w1.alloc (.cells #[.slice (some ⟨Q2, 0, none⟩) n n] 55)) [.bool false] 4
  have V5 := V.new ((w1.alloc (.cells #[.slice (some ⟨Q2, 0, none⟩) n n] 55)).alloc (.cells #[.bool false] 4)) [.slice (some ⟨Q, 0, none⟩) n n] 55
  have b3 := belowA3 w1 (.cells #[.slice (some ⟨Q2, 0, none⟩) n n] 55) (.cells #[.bool false] 4) (.cells #[.slice (some ⟨Q, 0, none⟩) n n] 55)
  replace V3 := V3.kept (belowA2 _ (.cells #[.bool false] 4) (.cells #[.slice (some ⟨Q, 0, none⟩) n n] 55))
  replace V4 := V4.kept (belowA _ (.cells #[.slice (some ⟨Q, 0, none⟩) n n] 55))
  have H2 := H1.kept b3
  have VB2 := VB1.kept b3
  have HC2 := HC.kept b3
  have bw := thenB bw0 b3
  have hs3 := b3.size
  simp only [World.size_alloc] at V4 V5
  obtain ⟨W0, hW0⟩ : ∃ W0, ((w1.alloc (.cells #[.slice (some ⟨Q2, 0, none⟩) n n] 55)).alloc (.cells #[.bool false] 4)).alloc (.cells #[.slice (some ⟨Q, 0, none⟩) n n] 55) = W0 := ⟨_, rfl⟩
  have hsz : W0.heap.size = w1.heap.size + 3 := by rw [← hW0]; simp
  rw [hW0] at V3 V4 V5 H2 VB2 HC2 bw ⊢
  clear b3 hs3 hW0 H1 VB1 VK1 HC b1 bw0
  have hQ3 : Q < W0.heap.size := by omega
  have hQw3 : Q < w.heap.size := by omega
  obtain ⟨hQ2a, hQ2b⟩ := hQ2
  refine wpIn_rangeFunc_ownG (α := Pl (Lst xs kn)) (w0 := W0) rfl (by decide) (gf := 75) (lb := #[.pointer (some ⟨w1.heap.size + 1 + 1, 0, none⟩)]) rfl trivial (enters_of Try.func75 (by kernel_rfl) rfl)
    (fromLast_stops (20 - 1) (by decide) (w1.heap.size + 1 + 1) base Q n hn4 (Lst xs kn) M W0 V5 (HN.out ▸ H2.f) hW.least) KpF.trans (KpF.put (by omega) hQ3) (Below.refl _ _) (fun _ => rfl)
    (OmI xs kn base Q n (w1.heap.size + 1) M W0)
    (fun _ _ _ => False)
    (OmI.from hQ3 (by omega))
    (fun _ _ _ _ _ hs _ _ => hs)
    ⟨M, false, ⟨HN.out ▸ H2.f, hW, fun _ h => h, V4, fun _ => rfl, fun h => by cases h⟩, fun x hx => by simp [vals] at hx, Sm.refl _ _⟩
    (fun x => { tmps := #[.pointer (some ⟨kb, 0, none⟩), .pointer (some ⟨w.heap.size, 0, none⟩), .bool false, .pointer (some ⟨w1.heap.size, 0, none⟩), .pointer (some ⟨w1.heap.size + 1, 0, none⟩), .int .i64 x.1, undef, undef, .pointer (some ⟨kb, 0, none⟩), .slice (some ⟨Q2, 0, none⟩) n n, .pointer (some ⟨kb, 0, none⟩), .pointer (some ⟨kb, 0, none⟩), .pointer (some ⟨kb, 1, none⟩), .slice (some ⟨Q, 0, none⟩) n n, .func (.func 75) #[] #[.pointer (some ⟨w1.heap.size + 1 + 1, 0, none⟩)], .int .i64 x.1, undef, undef, undef, undef, undef, undef, undef, undef, undef, undef, undef, undef, undef, undef, undef, undef, undef, undef, undef, undef, undef, undef, undef, undef, undef, undef, undef, undef, undef, undef, undef, undef, undef, undef, undef, undef], defers := [] }) ?assign ?body ?done ?stop
  case assign =>
    intro l x W K hK
    gi_wp2
    exact hK
  case body =>
    rintro l pre ⟨xv, hA⟩ W ⟨M1, b, hO, hT, hSm⟩ hlt
    dsimp only
    have hAx := hA.1
    obtain ⟨j, rfl⟩ := Int.eq_ofNat_of_zero_le hAx.1
    have hj : j < n := by have := HN.out; omega
    have hj1 : (j : Int) < (n : Int) := by omega
    have hpn : p < w.heap.size := (H0.bk.lt _ (.inl rfl)).2
    have VBW := VB2.sm hSm (by omega)
    have VKW := H2.v.sm hSm (by have := H2.ne; omega)
    have VPW := H2.bk.v.sm hSm (by have h3 : Q ≠ p := fun e => H2.qx (.inl e); omega)
    have V3W := V3.sm hSm (by omega)
    have HCW := HC2.sm hSm (by omega)
    rw [HN.out] at VKW VPW
    obtain ⟨t, ht1⟩ : ∃ t, xs.getD j zTerm = t := ⟨_, rfl⟩
    have hta : tmAt xs (j : Int) = t := by unfold tmAt; rw [Int.toNat_natCast, ht1]
    obtain ⟨pa, -⟩ := tfC_ahead HT.out j (by have := HN.out; omega)
    rw [ht1] at pa
    have OW := H2.bk.o.sm hSm (fun bb hb hx => by
      have h1 := (H0.bk.lt _ (.inr (.inr ⟨bb, hb, rfl⟩))).2
      have h2 := fun e => H2.qx (.inr (.inr ⟨bb, hb, e⟩))
      rcases hx with hx | hx
      · exact h2 hx.symm
      · omega)
    rcases ownT_cells OW with h0 | ⟨b1, o1, rfl, s1, hca⟩
    · have := HN.out; rw [h0] at this; simp at this; omega
    obtain ⟨q0, q1, q2, q3⟩ := hca j (by have := HN.out; omega) t ht1
    have CP := Hid.mk (fun wz (bz : Below W.heap.size W wz) => partsTold_ok n (w.heap.size + 1) Q2 (canL xs (flg M)) t wz (HCW.kept bz) hn4 (fun h5 => by have := pa (by rw [h5, kids5]; decide); omega))
    have K : ∀ w' : World, Below W.heap.size W w' → w'.cell? ⟨w.heap.size, 0, none⟩ = some (.pointer (some ⟨kb, 0, none⟩)) ∧ w'.cell? ⟨kb, 0, none⟩ = some (.pointer (some ⟨p, 0, none⟩)) ∧ w'.cell? ⟨p, 0, none⟩ = some (.slice (some ⟨b1, o1, none⟩) n d) ∧ w'.cell? ⟨b1, o1 + j * 4, none⟩ = some (.int .i64 t.o) ∧ w'.cell? ⟨b1, o1 + j * 4 + 1, none⟩ = some (.int .i64 t.a) ∧ w'.cell? ⟨b1, o1 + j * 4 + 2, none⟩ = some (.int .i64 t.b) ∧ w'.cell? ⟨b1, o1 + j * 4 + 3, none⟩ = some (.int .i64 t.n) ∧ w'.cell? ⟨w1.heap.size, 0, none⟩ = some (.slice (some ⟨Q2, 0, none⟩) n n) := by
      intro w' bz
      have v1 := (VBW.kept bz).2.1 0 (by simp)
      have v2 := (VKW.kept bz).2.1 0 (by simp)
      have v3 := (VPW.kept bz).2.1 0 (by simp)
      have v4 := (V3W.kept bz).2.1 0 (by simp)
      have hc := (bcell bz).1
      exact ⟨v1, v2, v3, (hc _ _ s1).trans q0, (hc _ _ s1).trans q1, (hc _ _ s1).trans q2, (hc _ _ s1).trans q3, v4⟩
    replace K := Hid.mk K
    clear hca pa hAx
    gi_wp2_with fail
    refine wpIn_region_round (S := (fun w' => w'.cell? ⟨w.heap.size, 0, none⟩ = some (.pointer (some ⟨kb, 0, none⟩)) ∧ w'.cell? ⟨kb, 0, none⟩ = some (.pointer (some ⟨p, 0, none⟩)) ∧ w'.cell? ⟨p, 0, none⟩ = some (.slice (some ⟨b1, o1, none⟩) n d) ∧ w'.cell? ⟨b1, o1 + j * 4, none⟩ = some (.int .i64 t.o) ∧ w'.cell? ⟨b1, o1 + j * 4 + 1, none⟩ = some (.int .i64 t.a) ∧ w'.cell? ⟨b1, o1 + j * 4 + 2, none⟩ = some (.int .i64 t.b) ∧ w'.cell? ⟨b1, o1 + j * 4 + 3, none⟩ = some (.int .i64 t.n) ∧ w'.cell? ⟨w1.heap.size, 0, none⟩ = some (.slice (some ⟨Q2, 0, none⟩) n n))) (by kernel_rfl) (by kernel_rfl) (K.out _ (Below.refl _ _).drew) (fun hHeld => ?_)
    refine wpAnyH_take (i := 0) (oi := _) (v := ?vzu1) rfl (by kernel_rfl) (by kernel_rfl) (by kernel_rfl) (fun _ _ _ h => h) (Or.inl ⟨by kernel_rfl, ?hyzu1⟩) hHeld ?restzu1
    case hyzu1 => (intro w hSw; (try dsimp only at hSw); go_simp; first | done | with_reducible rfl)
    try simp only [Act.put, List.getElem_toArray, List.getElem_cons_zero, List.setIfInBounds_toArray, List.set_cons_zero, List.set_cons_succ]
    refine wpAnyH_take (i := 1) (oi := _) (v := ?vzu2) rfl (by kernel_rfl) (by kernel_rfl) (by kernel_rfl) (fun _ _ _ h => h) (Or.inl ⟨by kernel_rfl, ?hyzu2⟩) hHeld ?restzu2
    case hyzu2 => (intro w hSw; (try dsimp only at hSw); go_simp; first | done | with_reducible rfl)
    try simp only [Act.put, List.getElem_toArray, List.getElem_cons_zero, List.getElem_cons_succ, List.setIfInBounds_toArray, List.set_cons_zero, List.set_cons_succ]
    refine wpAnyH_take (i := 2) (oi := _) (v := ?vzu3) rfl (by kernel_rfl) (by kernel_rfl) (by kernel_rfl) (fun _ _ _ h => h) (Or.inl ⟨by kernel_rfl, ?hyzu3⟩) hHeld ?restzu3
    case hyzu3 => (intro w hSw; (try dsimp only at hSw); go_simp; first | done | with_reducible rfl)
    try simp only [Act.put, List.getElem_toArray, List.getElem_cons_zero, List.getElem_cons_succ, List.setIfInBounds_toArray, List.set_cons_zero, List.set_cons_succ]
    refine wpAnyH_take (i := 3) (oi := _) (v := ?vzu4) rfl (by kernel_rfl) (by kernel_rfl) (by kernel_rfl) (fun _ _ _ h => h) (Or.inl ⟨by kernel_rfl, ?hyzu4⟩) hHeld ?restzu4
    case hyzu4 => (intro w hSw; (try dsimp only at hSw); go_simp; first | done | with_reducible rfl)
    try simp only [Act.put, List.getElem_toArray, List.getElem_cons_zero, List.getElem_cons_succ, List.setIfInBounds_toArray, List.set_cons_zero, List.set_cons_succ]
    refine wpAnyH_take (i := 4) (oi := _) (v := ?vzu5) rfl (by kernel_rfl) (by kernel_rfl) (by kernel_rfl) (fun _ _ _ h => h) (Or.inl ⟨by kernel_rfl, ?hyzu5⟩) hHeld ?restzu5
    case hyzu5 => (intro w hSw; (try dsimp only at hSw); go_simp; first | done | with_reducible rfl)
    try simp only [Act.put, List.getElem_toArray, List.getElem_cons_zero, List.getElem_cons_succ, List.setIfInBounds_toArray, List.set_cons_zero, List.set_cons_succ]
    refine wpAnyH_take (i := 5) (oi := _) (v := ?vzu6) rfl (by kernel_rfl) (by kernel_rfl) (by kernel_rfl) (fun _ _ _ h => h) (Or.inl ⟨by kernel_rfl, ?hyzu6⟩) hHeld ?restzu6
    case hyzu6 => (intro w hSw; (try dsimp only at hSw); go_simp; first | done | with_reducible rfl)
    try simp only [Act.put, List.getElem_toArray, List.getElem_cons_zero, List.getElem_cons_succ, List.setIfInBounds_toArray, List.set_cons_zero, List.set_cons_succ]
    refine wpAnyH_take (i := 6) (oi := _) (v := ?vzu7) rfl (by kernel_rfl) (by kernel_rfl) (by kernel_rfl) (fun _ _ _ h => h) (Or.inl ⟨by kernel_rfl, ?hyzu7⟩) hHeld ?restzu7
    case hyzu7 => (intro w hSw; (try dsimp only at hSw); go_simp; first | done | with_reducible rfl)
    try simp only [Act.put, List.getElem_toArray, List.getElem_cons_zero, List.getElem_cons_succ, List.setIfInBounds_toArray, List.set_cons_zero, List.set_cons_succ]
    refine wpAnyH_take (i := 7) (oi := _) (v := ?vzu8) rfl (by kernel_rfl) (by kernel_rfl) (by kernel_rfl) (fun _ _ _ h => h) (Or.inl ⟨by kernel_rfl, ?hyzu8⟩) hHeld ?restzu8
    case hyzu8 => (intro w hSw; (try dsimp only at hSw); go_simp; first | done | with_reducible rfl)
    try simp only [Act.put, List.getElem_toArray, List.getElem_cons_zero, List.getElem_cons_succ, List.setIfInBounds_toArray, List.set_cons_zero, List.set_cons_succ]
    refine wpAnyH_take (i := 8) (oi := _) (v := ?vzu9) rfl (by kernel_rfl) (by kernel_rfl) (by kernel_rfl) (fun _ _ _ h => h) (Or.inl ⟨by kernel_rfl, ?hyzu9⟩) hHeld ?restzu9
    case hyzu9 => (intro w hSw; (try dsimp only at hSw); go_simp; first | done | with_reducible rfl)
    try simp only [Act.put, List.getElem_toArray, List.getElem_cons_zero, List.getElem_cons_succ, List.setIfInBounds_toArray, List.set_cons_zero, List.set_cons_succ]
    refine wpAnyH_take (i := 9) (oi := _) (v := ?vzu10) rfl (by kernel_rfl) (by kernel_rfl) (by kernel_rfl) (fun _ _ _ h => h) (Or.inl ⟨by kernel_rfl, ?hyzu10⟩) hHeld ?restzu10
    case hyzu10 => (intro w hSw; (try dsimp only at hSw); go_simp; first | done | with_reducible rfl)
    try simp only [Act.put, List.getElem_toArray, List.getElem_cons_zero, List.getElem_cons_succ, List.setIfInBounds_toArray, List.set_cons_zero, List.set_cons_succ]
    refine wpAnyH_take (i := 10) (oi := _) (v := ?vzu11) rfl (by kernel_rfl) (by kernel_rfl) (by kernel_rfl) (fun _ _ _ h => h) (Or.inl ⟨by kernel_rfl, ?hyzu11⟩) hHeld ?restzu11
    case hyzu11 => (intro w hSw; (try dsimp only at hSw); go_simp; first | done | with_reducible rfl)
    try simp only [Act.put, List.getElem_toArray, List.getElem_cons_zero, List.getElem_cons_succ, List.setIfInBounds_toArray, List.set_cons_zero, List.set_cons_succ]
    refine wpAnyH_take (i := 13) (oi := _) (v := ?vzu12) rfl (by kernel_rfl) (by kernel_rfl) (by kernel_rfl) (fun _ _ _ h => h) (Or.inl ⟨by kernel_rfl, ?hyzu12⟩) hHeld ?restzu12
    case hyzu12 => (intro w hSw; (try dsimp only at hSw); go_simp; first | done | with_reducible rfl)
    try simp only [Act.put, List.getElem_toArray, List.getElem_cons_zero, List.getElem_cons_succ, List.setIfInBounds_toArray, List.set_cons_zero, List.set_cons_succ]
    refine wpAnyH_ready (rs := [11]) (by kernel_rfl) (by simp) ?_
    refine AllReadyH.cons (o := _) rfl (fun K0 hK0 => ?_) AllReadyH.nil
    go_simp
    go_at_call 72
    refine (CP.out _ (Below.refl _ _).drew).mono ?_
    rintro e wzv13 ⟨c3, k3, d3, rfl, hk3, hO3, bzv13⟩
    refine hK0.out _ _ (K.out _ (thenB (Below.refl _ _).drew bzv13)) (fun hHeld => ?_)
    clear hK0 K0
    try simp only [Act.put, List.getElem_toArray, List.getElem_cons_zero, List.getElem_cons_succ, List.setIfInBounds_toArray, List.set_cons_zero, List.set_cons_succ]
    refine wpAnyH_take (i := 12) (oi := _) (v := ?vzu14) rfl (by kernel_rfl) (by kernel_rfl) (by kernel_rfl) (fun _ _ _ h => h) (Or.inl ⟨by kernel_rfl, ?hyzu14⟩) hHeld ?restzu14
    case hyzu14 => (intro w hSw; (try dsimp only at hSw); go_simp; first | done | with_reducible rfl)
    try simp only [Act.put, List.getElem_toArray, List.getElem_cons_zero, List.getElem_cons_succ, List.setIfInBounds_toArray, List.set_cons_zero, List.set_cons_succ]
    refine wpAnyH_done (by kernel_rfl) ?_ _
    have BZ : Below W.heap.size W wzv13 := (thenB (Below.refl _ _).drew bzv13)
    clear K hHeld CP bzv13 s1 q0 q1 q2 q3
    have VBZ := VBW.kept BZ
    have VKZ := VKW.kept BZ
    have OMZ := hO.sm (X := fun _ => False) (Sm.below BZ) id id
    have hRd := hO3.rd
    have hfr : ∀ bb : Addr, c3 = some bb → W.heap.size ≤ bb.block := fun bb hb => (hO3.lt bb hb).1
    have hL : ∀ z ∈ told (canL xs (flg M)) t, Lst xs kn z := fun z hz => told_lst (tfC_ahead HT.out) hW hA (by rw [hta]; exact hz)
    obtain ⟨T, hTT⟩ : ∃ T, told (canL xs (flg M)) t = T := ⟨_, rfl⟩
    rw [hTT] at hRd hL hk3
    have hT3 : told (canL xs (flg M)) (tmAt xs (j : Int)) = T := by rw [hta, hTT]
    have hWs := hSm.size
    have hk4 : k3 ≤ 2 := by rw [← hk3, ← hTT]; unfold told; split <;> (try split) <;> simp
    simp only [goesOn]
    clear hO3 OW VPW V3W HCW VBW VKW hTT hta ht1
    replace hRd := Hid.mk hRd
    replace hT3 := Hid.mk hT3
    replace hT := Hid.mk hT
    gi_wp2
    gi_loopw [29] (fun i wr => ∃ (k : Nat) (M2 : List Bool) (b2 : Bool), k ≤ k3 ∧ i = .int .i64 k ∧ Om xs kn base Q n (w1.heap.size + 1) M wr M2 b2 ∧ (∀ z, flg M1 z = true → flg M2 z = true) ∧ (∀ z ∈ T.take k, flg M2 z = true) ∧ Sm (fun k => k = Q ∨ k = w1.heap.size + 1) wzv13 wr) (fun i _ => k3 - (intOf i).toNat)
    case atStart => exact ⟨0, M1, b, Nat.zero_le _, rfl, OMZ, fun _ h => h, by simp, Sm.refl _ _⟩
    case round =>
      obtain ⟨k, M2, b2, hk, rfl, hOm, hup, hTk, hS2⟩ := hrel
      by_cases hkl : k < k3
      · have hk1 : (k : Int) < (k3 : Int) := by omega
        obtain ⟨z, hz1⟩ : ∃ z, T.getD k 0 = z := ⟨_, rfl⟩
        have hzT : z ∈ T := by rw [← hz1]; exact igetD_mem (by omega)
        have hLz := hL z hzT
        obtain ⟨jz, rfl⟩ := Int.eq_ofNat_of_zero_le hLz.1.1
        have hjz : jz < n := by have := HN.out; have := hLz.1.2; omega
        have hjz1 : (jz : Int) < (n : Int) := by omega
        have VBr := VBZ.sm hS2 (by omega)
        have VKr := VKZ.sm hS2 (by have := H2.ne; omega)
        have hRr := hRd.out.sm hS2 (fun bb hb hx => by have := hfr bb hb; rcases hx with hx | hx <;> omega)
        rcases hRr with h0 | ⟨b3, o3, rfl, hcb⟩
        · rw [h0] at hk3; simp at hk3; omega
        have p3 := hcb k (by omega)
        rw [hz1] at p3
        have hv := hOm.v
        have cz := hOm.f.cell hjz
        have fz := hOm.f.frozen jz
        have ht2 : T.take k ++ [(jz : Int)] = T.take (k + 1) := by rw [take_snoc T k (by omega), hz1]
        have hne : Q ≠ w1.heap.size + 1 := by omega
        have hl2 : jz < M2.length := by rw [hOm.f.1]; exact hjz
        have HM2 := Hid.mk (hOm.mark HN.out hne hLz)
        have hup2 : ∀ z, flg M1 z = true → flg (M2.set jz true) z = true := fun z hz => (flg_set hl2 z).2 (.inr (hup z hz))
        have hTk2 : ∀ z ∈ T.take (k + 1), flg (M2.set jz true) z = true := fun z hz => by
          rw [← ht2, List.mem_append] at hz
          rcases hz with hz | hz
          · exact (flg_set hl2 z).2 (.inr (hTk z hz))
          · exact (flg_set hl2 z).2 (.inl (by simpa using hz))
        have hS3 := Hid.mk (fun v : Bool => hS2.trans ((Sm.cell (X := fun k => k = Q ∨ k = w1.heap.size + 1) (w := wr) (p := ⟨w1.heap.size + 1, 0, none⟩) (.inr rfl) (.bool v)).trans (Sm.cell (p := ⟨Q, jz, none⟩) (.inl rfl) (.bool true))))
        have FO := Hid.mk (fun v : Bool => hOm.f.other (p := ⟨w1.heap.size + 1, 0, none⟩) (Ne.symm hne) (.bool v))
        have VBO := Hid.mk (fun v : Bool => VBr.other (p := ⟨w1.heap.size + 1, 0, none⟩) (by simp only; omega) (.bool v))
        have VKO := Hid.mk (fun v : Bool => VKr.other (p := ⟨w1.heap.size + 1, 0, none⟩) (by simp only; omega) (.bool v))
        obtain ⟨s_B, f_B, z_B⟩ := VBr.open
        obtain ⟨s_K, f_K, z_K⟩ := VKr.open
        obtain ⟨s_V, f_V, z_V⟩ := hv.open
        clear hcb ht2 hOm hup hTk hLz hzT hz1 hL hRd OMZ hO hSm BZ VBZ VKZ hS2
        generalize hm : M2.getD jz false = m at *
        cases b2
        · cases m
          all_goals
            simp only [Bool.false_or, Bool.not_false, Bool.not_true] at HM2
          · have FO4 := FO.out true
            have cz4 := FO4.cell hjz
            have fz4 := FO4.frozen jz
            rw [hm] at cz4
            obtain ⟨s_B4, f_B4, z_B4⟩ := (VBO.out true).open
            obtain ⟨s_K4, f_K4, z_K4⟩ := (VKO.out true).open
            clear FO4 hm
            gi_wp2
            go_roundw
            case rel => exact ⟨k + 1, _, _, by omega, by go_num, HM2.out, hup2, hTk2, hS3.out true⟩
            case measure => first | (simp [intOf]; done) | (simp [intOf]; omega)
          · have FO4 := FO.out false
            have cz4 := FO4.cell hjz
            have fz4 := FO4.frozen jz
            rw [hm] at cz4
            obtain ⟨s_B4, f_B4, z_B4⟩ := (VBO.out false).open
            obtain ⟨s_K4, f_K4, z_K4⟩ := (VKO.out false).open
            clear FO4 hm
            gi_wp2
            go_roundw
            case rel => exact ⟨k + 1, _, _, by omega, by go_num, HM2.out, hup2, hTk2, hS3.out false⟩
            case measure => first | (simp [intOf]; done) | (simp [intOf]; omega)
        · simp only [Bool.true_or] at HM2
          have FO4 := FO.out true
          have cz4 := FO4.cell hjz
          have fz4 := FO4.frozen jz
          obtain ⟨s_B4, f_B4, z_B4⟩ := (VBO.out true).open
          obtain ⟨s_K4, f_K4, z_K4⟩ := (VKO.out true).open
          clear FO4 hm
          gi_wp2
          go_roundw
          case rel => exact ⟨k + 1, _, _, by omega, by go_num, HM2.out, hup2, hTk2, hS3.out true⟩
          case measure => first | (simp [intOf]; done) | (simp [intOf]; omega)
      · obtain rfl : k = k3 := by omega
        have hTl : T.take k = T := List.take_of_length_le (by omega)
        rw [hTl] at hTk
        have S2 : Sm (fun k => k = Q ∨ k = w1.heap.size + 1) W wr := Sm.trans (Sm.below BZ) hS2
        have hkf : KeepsFrom W0.heap.size W wr := ⟨S2.size, fun i o hB hi _ => by
          have hlt2 := (Array.getElem?_eq_some_iff.1 hi).1
          exact (S2.block i hlt2 (by omega)).trans hi⟩
        have hkp : KpF (w1.heap.size + 1 + 1) base Q n (Lst xs kn) W wr := ⟨fun vs v => v.sm S2 (by omega), fun M' f hA' => by
          have e := Fl.unique hO.f f
          subst e
          exact ⟨M2, hOm.f, hOm.way.least, hup⟩⟩
        have hmi : OmI xs kn base Q n (w1.heap.size + 1) M W0 (pre ++ [⟨(j : Int), hA⟩]) wr := ⟨M2, b2, hOm, fun x hx z hz => by
          rw [show vals (pre ++ [⟨(j : Int), hA⟩]) = vals pre ++ [(j : Int)] from by simp [vals], List.mem_append] at hx
          rcases hx with hx | hx
          · exact hup z (hT.out x hx z hz)
          · obtain rfl : x = (j : Int) := by simpa using hx
            rw [hT3.out] at hz
            exact hTk z hz, hSm.trans S2⟩
        gi_wp2
        exact ⟨hkf, hkp, hmi⟩

  case done =>
    rintro D ys W hD hS ⟨M2, b, hO, hT, hSm⟩ hK
    have hv := hO.v
    obtain ⟨s_V, f_V, z_V⟩ := hv.open
    gi_wp2
    refine ⟨by simp, .inl ⟨_, _, rfl, run_takeDeferred hK, ?_⟩⟩
    have sD := sm_putObj W D (.deferred none)
    have S1 : Sm (fun k => k = Q) w W := Sm.less bw.size hSm (fun k hk hx => by rcases hx with rfl | rfl <;> omega) (Sm.below bw)
    have S2 : Sm (fun k => k = Q) w (W.putObj D (.deferred none)) := Sm.less S1.size sD (fun k hk hx => by omega) S1
    have hO2 := hO.sm sD (by omega) (by omega)
    refine ⟨_, results_tmp rfl _ _ _, b, M2, rfl, ?_, hO.way, fun hb => ⟨hO.no hb, ?_⟩, hO.yes, S2⟩
    · have e := HN.out
      refine ⟨(H2.bk.sm hSm ?_).sm sD ?_, (H2.v.sm hSm ?_).sm sD ?_, e ▸ hO2.f, H2.bb, H2.kx, H2.qx, H2.ne⟩
      · rintro k (rfl | rfl) hx
        · exact H2.qx hx
        · have := H0.bk.lt _ hx; omega
      · rintro k rfl hx
        have := H0.bk.lt _ hx; omega
      · rintro (hx | hx)
        · exact H2.ne hx.symm
        · omega
      · omega
    · have e := hO.no hb
      subst e
      exact hW.done fun i hi z hz => hT i (hS.all i hi (flg_in hi).1) z hz
  case stop =>
    rintro D c pre W _ _ h _
    exact h.elim
end

end Go.Proofs.Yteeoodbmgheikaa
