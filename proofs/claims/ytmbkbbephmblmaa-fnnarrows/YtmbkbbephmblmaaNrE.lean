/- Lists of selectors narrowed: the model's walk. -/
import Derived.Test.YtmbkbbephmblmaaNrA
import Derived.Test.YtmbkbbephmblmaaNewC
import Derived.Test.YtmbkbbephmblmaaMtF
import Derived.Test.YtmbkbbephmblmaaSelX
import Derived.Deep.RegionHeld3
import Derived.Deep.DeepCutAuto
namespace Go.Proofs.Ytmbkbbephmblmaa
open Go.RowKit

theorem l3CommonR_ok (x y : S9) (w : World) (hx : sfC x = 0) (hy : sfC y = 0) :
    Calls Try.prog 48 #[.agg #[.int .i64 x.a, .int .i64 x.b, .int .i64 x.c, .int .i64 x.d, .int .i64 x.e, .int .i64 x.f, .int .i64 x.g, .int .i64 x.h, .int .i64 x.r], .agg #[.int .i64 y.a, .int .i64 y.b, .int .i64 y.c, .int .i64 y.d, .int .i64 y.e, .int .i64 y.f, .int .i64 y.g, .int .i64 y.h, .int .i64 y.r]] w fun e w' => e = .returned (.tuple #[.agg #[.int .i64 (mtS x y).a, .int .i64 (mtS x y).b, .int .i64 (mtS x y).c, .int .i64 (mtS x y).d, .int .i64 (mtS x y).e, .int .i64 (mtS x y).f, .int .i64 (mtS x y).g, .int .i64 (mtS x y).h, .int .i64 (mtS x y).r], .int .i64 (mtC x y)]) ∧ Below w.heap.size w w' := by
  obtain ⟨h1, h2⟩ := mtC_right hx hy
  have hV := meet_hV x y hx hy _ (mtC x y) (mtS x y) _ _ _ _ _ _ _ _ rfl rfl rfl rfl rfl rfl rfl rfl rfl h1 (by rw [h2, h1])
  exact l3Common_ok x y _ _ _ _ _ _ _ _ _ rfl rfl rfl rfl rfl rfl rfl rfl rfl (mtC x y) (mtS x y) hV.1 hV.2 w

theorem extractE0 (u v : Value) (w : World) : (Instr.extract (.tuple #[u, v]) 0).run Try.prog w = .ok u w := by kernel_rfl
theorem extractE1 (u v : Value) (w : World) : (Instr.extract (.tuple #[u, v]) 1).run Try.prog w = .ok v w := by kernel_rfl

theorem OwnL.away {w : World} {base : Nat} {a : Option Addr} {cap : Nat} {xs : List S9} {p : Addr} (h : OwnL w base a cap xs) (hp : ∀ b : Addr, a = some b → b.block ≠ p.block) (u : Value) : OwnL (w.setCell p u) base a cap xs :=
  h.grown (row := some p.block) ⟨rfl, rfl, rfl, by simp [World.setCell], fun k _ hk => Below.heap_setCell _ _ _ _ (fun e => hk (by rw [e]))⟩ fun b hb e => hp b hb (by simpa using e.symm)

set_option maxRecDepth 20000 in
set_option maxHeartbeats 16000000 in
theorem l3Narrow_ok (a b : Option Addr) (n m ca cb : Nat) (xs ys full : List S9) (w : World) (ha : RdL w a xs) (hb : RdL w b ys) (hn : xs.length = n) (hm : ys.length = m) (hxn : n ≤ 12) (hxm : m ≤ 12)
    (hrx : ∀ o ∈ xs, sfC o = 0) (hry : ∀ o ∈ ys, sfC o = 0) (hfull : nall ys xs [] = full) :
    Calls Try.prog 65 #[.slice a n ca, .slice b m cb] w fun e w' => ∃ (c : Option Addr) (d k : Nat), e = .returned (.tuple #[.slice c k d, .int .i64 (nrK full)]) ∧ (nrZ full).length = k ∧ OwnL w' w.heap.size c d (nrZ full) ∧ Below w.heap.size w w' := by
  replace ha := Hid.mk ha
  replace hb := Hid.mk hb
  replace hrx := Hid.mk hrx
  replace hry := Hid.mk hry
  have hw := nr_ways full
  generalize nrK full = kkk at *
  generalize nrZ full = zzz at *
  replace hw := Hid.mk hw
  have e0 := extractE0
  have e1 := extractE1
  go_enter Try.func65, Try.ntmps65
  go_wp2
  go_loopw [6, 7] (fun met i wr => ∃ (k nout d : Nat) (c : Option Addr) (out : List S9), k ≤ n ∧ i = .int .i64 k ∧ met = .slice c nout d ∧ out.length = nout ∧ nout ≤ 12 * k ∧ OwnL wr w.heap.size c d out ∧ nall ys (xs.drop k) out = full ∧ Below w.heap.size w wr) (fun _ i _ => n - (intOf i).toNat)
  case atStart => exact ⟨0, 0, 0, _, [], Nat.zero_le _, rfl, rfl, rfl, Nat.zero_le _, OwnL.lit _ [] [] rfl (by decide), hfull, belowA _ _⟩
  case round =>
    clear hfull
    obtain ⟨k, nout, d, c, out, hk, rfl, rfl, hno, ho12, O, hna, B⟩ := hrel
    by_cases hlt : k < n
    · obtain ⟨x, hx1⟩ : ∃ x, xs.getD k z9 = x := ⟨_, rfl⟩
      have hsx : sfC x = 0 := hrx.out x (by rw [← hx1]; exact getD_mem (by omega))
      have hna2 := nall_next hna (by omega) hx1
      have hk1 : (k : Int) < (n : Int) := by omega
      clear hna
      replace hna2 := Hid.mk hna2
      have HO := Hid.mk hno
      replace O := Hid.mk O
      replace B := Hid.mk B
      replace hx1 := Hid.mk hx1
      clear hno
      go_wp2
      go_loopw [6, 8] (fun met i wr2 => ∃ (j nout d : Nat) (c : Option Addr) (out : List S9), j ≤ m ∧ i = .int .i64 j ∧ met = .slice c nout d ∧ out.length = nout ∧ nout ≤ 12 * k + j ∧ OwnL wr2 w.heap.size c d out ∧ nall ys (xs.drop (k + 1)) (nrow x (ys.drop j) out) = full ∧ Below w.heap.size w wr2) (fun _ i _ => m - (intOf i).toNat)
      case atStart => exact ⟨0, nout, d, c, out, Nat.zero_le _, rfl, rfl, HO.out, by omega, O.out, hna2.out, B.out⟩
      case round =>
        clear hna2 HO O B ho12
        obtain ⟨j, nout, d, c, out, hj, rfl, rfl, hno, ho12, O, hna, B⟩ := hrel
        by_cases hlt : j < m
        · obtain ⟨y, hy1⟩ : ∃ y, ys.getD j z9 = y := ⟨_, rfl⟩
          have hsy : sfC y = 0 := hry.out y (by rw [← hy1]; exact getD_mem (by omega))
          rw [nrow_next (by omega) hy1] at hna
          have hbc := hb.out.kept B
          rcases hbc with h0 | ⟨b2, o2, rfl, hcb⟩
          · simp [h0] at hm; omega
          obtain ⟨q0, q1, q2, q3, q4, q5, q6, q7, q8⟩ := RdL.nine hcb j (by omega) y hy1
          have hac := ha.out.kept B
          rcases hac with h0 | ⟨b1, o1, rfl, hca⟩
          · simp [h0] at hn; omega
          obtain ⟨p0, p1, p2, p3, p4, p5, p6, p7, p8⟩ := RdL.nine hca k (by omega) x hx1.out
          have hj1 : (j : Int) < (m : Int) := by omega
          clear hcb hy1 hca
          replace hna := Hid.mk hna
          have HO := Hid.mk hno
          have CM := Hid.mk (fun w => l3CommonR_ok x y w hsx hsy)
          have hp0 := Hid.mk (fun h => nstep_no (x := x) (y := y) (out := out) h)
          have hp1 := Hid.mk (fun h h2 => nstep_put (x := x) (y := y) (out := out) h h2)
          have hp2 := Hid.mk (fun h => nstep_in (x := x) (y := y) (out := out) h)
          generalize mtS x y = z at *
          generalize mtC x y = kk at *
          have hba := World.block_lt_of_cell? (a := ⟨b1, o1 + k * 9, none⟩) wr p0
          have hbb := World.block_lt_of_cell? (a := ⟨b2, o2 + j * 9, none⟩) wr q0
          simp only at hba hbb
          clear hno
          have K : ∀ w' : World, Below wr.heap.size wr w' → (w'.cell? ⟨b1, o1 + k * 9, none⟩ = some (.int .i64 x.a) ∧ w'.cell? ⟨b1, o1 + k * 9 + 1, none⟩ = some (.int .i64 x.b) ∧ w'.cell? ⟨b1, o1 + k * 9 + 2, none⟩ = some (.int .i64 x.c) ∧ w'.cell? ⟨b1, o1 + k * 9 + 3, none⟩ = some (.int .i64 x.d) ∧ w'.cell? ⟨b1, o1 + k * 9 + 4, none⟩ = some (.int .i64 x.e) ∧ w'.cell? ⟨b1, o1 + k * 9 + 5, none⟩ = some (.int .i64 x.f) ∧ w'.cell? ⟨b1, o1 + k * 9 + 6, none⟩ = some (.int .i64 x.g) ∧ w'.cell? ⟨b1, o1 + k * 9 + 7, none⟩ = some (.int .i64 x.h) ∧ w'.cell? ⟨b1, o1 + k * 9 + 8, none⟩ = some (.int .i64 x.r) ∧ w'.cell? ⟨b2, o2 + j * 9, none⟩ = some (.int .i64 y.a) ∧ w'.cell? ⟨b2, o2 + j * 9 + 1, none⟩ = some (.int .i64 y.b) ∧ w'.cell? ⟨b2, o2 + j * 9 + 2, none⟩ = some (.int .i64 y.c) ∧ w'.cell? ⟨b2, o2 + j * 9 + 3, none⟩ = some (.int .i64 y.d) ∧ w'.cell? ⟨b2, o2 + j * 9 + 4, none⟩ = some (.int .i64 y.e) ∧ w'.cell? ⟨b2, o2 + j * 9 + 5, none⟩ = some (.int .i64 y.f) ∧ w'.cell? ⟨b2, o2 + j * 9 + 6, none⟩ = some (.int .i64 y.g) ∧ w'.cell? ⟨b2, o2 + j * 9 + 7, none⟩ = some (.int .i64 y.h) ∧ w'.cell? ⟨b2, o2 + j * 9 + 8, none⟩ = some (.int .i64 y.r)) := fun w' h => ⟨((bcell h).1 _ _ hba).trans p0, ((bcell h).1 _ _ hba).trans p1, ((bcell h).1 _ _ hba).trans p2, ((bcell h).1 _ _ hba).trans p3, ((bcell h).1 _ _ hba).trans p4, ((bcell h).1 _ _ hba).trans p5, ((bcell h).1 _ _ hba).trans p6, ((bcell h).1 _ _ hba).trans p7, ((bcell h).1 _ _ hba).trans p8, ((bcell h).1 _ _ hbb).trans q0, ((bcell h).1 _ _ hbb).trans q1, ((bcell h).1 _ _ hbb).trans q2, ((bcell h).1 _ _ hbb).trans q3, ((bcell h).1 _ _ hbb).trans q4, ((bcell h).1 _ _ hbb).trans q5, ((bcell h).1 _ _ hbb).trans q6, ((bcell h).1 _ _ hbb).trans q7, ((bcell h).1 _ _ hbb).trans q8⟩
          have K := Hid.mk K
          clear p0 p1 p2 p3 p4 p5 p6 p7 p8 q0 q1 q2 q3 q4 q5 q6 q7 q8
          go_upto_region 8 with fail
          go_cut [9, 10] (fun p q wx => ∃ P, p = .pointer (some ⟨P, 0, none⟩) ∧ q = .int .i64 kk ∧ V wx P [.int .i64 z.a, .int .i64 z.b, .int .i64 z.c, .int .i64 z.d, .int .i64 z.e, .int .i64 z.f, .int .i64 z.g, .int .i64 z.h, .int .i64 z.r] ∧ OwnL wx w.heap.size c d out ∧ Below w.heap.size w wx ∧ (∀ b : Addr, c = some b → b.block ≠ P))
          case first =>
            go_region_held3 (fun w' => w'.cell? ⟨b1, o1 + k * 9, none⟩ = some (.int .i64 x.a) ∧ w'.cell? ⟨b1, o1 + k * 9 + 1, none⟩ = some (.int .i64 x.b) ∧ w'.cell? ⟨b1, o1 + k * 9 + 2, none⟩ = some (.int .i64 x.c) ∧ w'.cell? ⟨b1, o1 + k * 9 + 3, none⟩ = some (.int .i64 x.d) ∧ w'.cell? ⟨b1, o1 + k * 9 + 4, none⟩ = some (.int .i64 x.e) ∧ w'.cell? ⟨b1, o1 + k * 9 + 5, none⟩ = some (.int .i64 x.f) ∧ w'.cell? ⟨b1, o1 + k * 9 + 6, none⟩ = some (.int .i64 x.g) ∧ w'.cell? ⟨b1, o1 + k * 9 + 7, none⟩ = some (.int .i64 x.h) ∧ w'.cell? ⟨b1, o1 + k * 9 + 8, none⟩ = some (.int .i64 x.r) ∧ w'.cell? ⟨b2, o2 + j * 9, none⟩ = some (.int .i64 y.a) ∧ w'.cell? ⟨b2, o2 + j * 9 + 1, none⟩ = some (.int .i64 y.b) ∧ w'.cell? ⟨b2, o2 + j * 9 + 2, none⟩ = some (.int .i64 y.c) ∧ w'.cell? ⟨b2, o2 + j * 9 + 3, none⟩ = some (.int .i64 y.d) ∧ w'.cell? ⟨b2, o2 + j * 9 + 4, none⟩ = some (.int .i64 y.e) ∧ w'.cell? ⟨b2, o2 + j * 9 + 5, none⟩ = some (.int .i64 y.f) ∧ w'.cell? ⟨b2, o2 + j * 9 + 6, none⟩ = some (.int .i64 y.g) ∧ w'.cell? ⟨b2, o2 + j * 9 + 7, none⟩ = some (.int .i64 y.h) ∧ w'.cell? ⟨b2, o2 + j * 9 + 8, none⟩ = some (.int .i64 y.r)) ((refine K.out _ ?_; (repeat' first | with_reducible exact Below.refl _ _ | with_reducible refine Below.drew ?_ | with_reducible refine Below.setCell ?_ ?_ _ | with_reducible refine thenB ?_ ba | with_reducible refine thenB ?_ (belowA _ _) | (simp; done) | (simp; omega)))) ((go_at_call 48; refine (CM.out _).mono ?_; rintro e wa ⟨rfl, ba⟩; obtain ⟨hca, hfa⟩ := bcell ba; have hsa := ba.size; (try simp at hsa); (try have hsa2 : wr.heap.size < wa.heap.size := by omega)))
            all_goals
              go_wp2_with fail
              go_meet
              have hOl : ∀ b : Addr, c = some b → b.block < wr.heap.size := fun b hb => (O.lt b hb).2
              refine ⟨_, rfl, rfl, ?_, ?_, ?_, ?_⟩
              · first | with_reducible exact V.new _ _ _ | with_reducible refine V.fill9 (z0 := .int .i64 0) (z1 := .int .i64 0) (z2 := .int .i64 0) (z3 := .int .i64 0) (z4 := .int .i64 0) (z5 := .int .i64 0) (z6 := .int .i64 0) (z7 := .int .i64 0) (z8 := .int .i64 0) ?_ _ _ _ _ _ _ _ _ _
                all_goals (try (repeat' first | with_reducible exact V.new _ _ _ | with_reducible refine V.kept ?_ ba | with_reducible refine V.kept ?_ ((Below.refl _ _).drew)))
              · refine O.kept ?_
                repeat' first | with_reducible exact Below.refl _ _ | with_reducible refine Below.drew ?_ | with_reducible refine Below.setCell ?_ ?_ _ | with_reducible refine thenB ?_ ba | with_reducible refine thenB ?_ (belowA _ _) | (simp; done) | (simp; omega)
              · refine thenB B ?_
                repeat' first | with_reducible exact Below.refl _ _ | with_reducible refine Below.drew ?_ | with_reducible refine Below.setCell ?_ ?_ _ | with_reducible refine thenB ?_ ba | with_reducible refine thenB ?_ (belowA _ _) | (simp; done) | (simp; omega)
              · intro b hb
                have := hOl b hb
                first | (simp; done) | (simp; omega) | omega
          case rest =>
            clear O B K hba hbb
            obtain ⟨P, rfl, rfl, VZ, O, B, hne⟩ := hcut
            obtain ⟨T, hT⟩ : ∃ T, ((kk != 0) || nin out z) = T := ⟨_, rfl⟩
            have hT2 := hT
            unfold nin at hT2
            replace hT := Hid.mk hT
            have OH := Hid.mk O
            replace hne := Hid.mk hne
            replace VH := Hid.mk VZ
            replace BH := Hid.mk B
            clear VZ B
            go_wp2
            go_loopw [11, 12] (fun q i wq => ∃ (t : Nat) (th : Bool), t ≤ nout ∧ i = .int .i64 t ∧ q = .bool th ∧ (th || (out.drop t).any fun o => inW z o) = T ∧ V wq P [.int .i64 z.a, .int .i64 z.b, .int .i64 z.c, .int .i64 z.d, .int .i64 z.e, .int .i64 z.f, .int .i64 z.g, .int .i64 z.h, .int .i64 z.r] ∧ OwnL wq w.heap.size c d out ∧ Below w.heap.size w wq) (fun _ i _ => nout - (intOf i).toNat)
            case atStart => exact ⟨0, _, Nat.zero_le _, rfl, rfl, hT2, VH.out, OH.out, BH.out⟩
            case round =>
              clear hT2 VH OH BH O
              obtain ⟨t, th, ht, rfl, rfl, hany, VZ, O, B⟩ := hrel
              by_cases hlt : t < nout
              · obtain ⟨o, ho1⟩ : ∃ o, out.getD t z9 = o := ⟨_, rfl⟩
                have hs := any_dropS (fun o => inW z o) out t (by rw [HO.out]; omega) ho1
                rcases O.rd with h0 | ⟨b3, o3, rfl, hco⟩
                · have := HO.out; simp [h0] at this; omega
                obtain ⟨r0, r1, r2, r3, r4, r5, r6, r7, r8⟩ := RdL.nine hco t (by rw [HO.out]; omega) o ho1
                have ht1 : (t : Int) < (nout : Int) := by omega
                have hbo := World.block_lt_of_cell? (a := ⟨b3, o3 + t * 9, none⟩) wr r0
                simp only at hbo
                clear hco ho1
                rw [hs] at hany
                clear hs
                replace hany := Hid.mk hany
                cases th
                · skip
                  replace hany := hany.out
                  rw [Bool.false_or] at hany
                  replace hany := Hid.mk hany
                  have CW := Hid.mk (fun w => l3Within_ok z o w)
                  generalize inW z o = bb at *
                  have K : ∀ w' : World, Below wr.heap.size wr w' → (w'.cell? ⟨P, 0, none⟩ = some (.int .i64 z.a) ∧ w'.cell? ⟨P, 1, none⟩ = some (.int .i64 z.b) ∧ w'.cell? ⟨P, 2, none⟩ = some (.int .i64 z.c) ∧ w'.cell? ⟨P, 3, none⟩ = some (.int .i64 z.d) ∧ w'.cell? ⟨P, 4, none⟩ = some (.int .i64 z.e) ∧ w'.cell? ⟨P, 5, none⟩ = some (.int .i64 z.f) ∧ w'.cell? ⟨P, 6, none⟩ = some (.int .i64 z.g) ∧ w'.cell? ⟨P, 7, none⟩ = some (.int .i64 z.h) ∧ w'.cell? ⟨P, 8, none⟩ = some (.int .i64 z.r) ∧ w'.cell? ⟨b3, o3 + t * 9, none⟩ = some (.int .i64 o.a) ∧ w'.cell? ⟨b3, o3 + t * 9 + 1, none⟩ = some (.int .i64 o.b) ∧ w'.cell? ⟨b3, o3 + t * 9 + 2, none⟩ = some (.int .i64 o.c) ∧ w'.cell? ⟨b3, o3 + t * 9 + 3, none⟩ = some (.int .i64 o.d) ∧ w'.cell? ⟨b3, o3 + t * 9 + 4, none⟩ = some (.int .i64 o.e) ∧ w'.cell? ⟨b3, o3 + t * 9 + 5, none⟩ = some (.int .i64 o.f) ∧ w'.cell? ⟨b3, o3 + t * 9 + 6, none⟩ = some (.int .i64 o.g) ∧ w'.cell? ⟨b3, o3 + t * 9 + 7, none⟩ = some (.int .i64 o.h) ∧ w'.cell? ⟨b3, o3 + t * 9 + 8, none⟩ = some (.int .i64 o.r)) := fun w' h => ⟨(VZ.kept h).2.1 0 (by simp), (VZ.kept h).2.1 1 (by simp), (VZ.kept h).2.1 2 (by simp), (VZ.kept h).2.1 3 (by simp), (VZ.kept h).2.1 4 (by simp), (VZ.kept h).2.1 5 (by simp), (VZ.kept h).2.1 6 (by simp), (VZ.kept h).2.1 7 (by simp), (VZ.kept h).2.1 8 (by simp), ((bcell h).1 _ _ hbo).trans r0, ((bcell h).1 _ _ hbo).trans r1, ((bcell h).1 _ _ hbo).trans r2, ((bcell h).1 _ _ hbo).trans r3, ((bcell h).1 _ _ hbo).trans r4, ((bcell h).1 _ _ hbo).trans r5, ((bcell h).1 _ _ hbo).trans r6, ((bcell h).1 _ _ hbo).trans r7, ((bcell h).1 _ _ hbo).trans r8⟩
                  have K := Hid.mk K
                  clear r0 r1 r2 r3 r4 r5 r6 r7 r8
                  go_wp2
                  refine wp_region_held_drew (S := (fun w' => w'.cell? ⟨P, 0, none⟩ = some (.int .i64 z.a) ∧ w'.cell? ⟨P, 1, none⟩ = some (.int .i64 z.b) ∧ w'.cell? ⟨P, 2, none⟩ = some (.int .i64 z.c) ∧ w'.cell? ⟨P, 3, none⟩ = some (.int .i64 z.d) ∧ w'.cell? ⟨P, 4, none⟩ = some (.int .i64 z.e) ∧ w'.cell? ⟨P, 5, none⟩ = some (.int .i64 z.f) ∧ w'.cell? ⟨P, 6, none⟩ = some (.int .i64 z.g) ∧ w'.cell? ⟨P, 7, none⟩ = some (.int .i64 z.h) ∧ w'.cell? ⟨P, 8, none⟩ = some (.int .i64 z.r) ∧ w'.cell? ⟨b3, o3 + t * 9, none⟩ = some (.int .i64 o.a) ∧ w'.cell? ⟨b3, o3 + t * 9 + 1, none⟩ = some (.int .i64 o.b) ∧ w'.cell? ⟨b3, o3 + t * 9 + 2, none⟩ = some (.int .i64 o.c) ∧ w'.cell? ⟨b3, o3 + t * 9 + 3, none⟩ = some (.int .i64 o.d) ∧ w'.cell? ⟨b3, o3 + t * 9 + 4, none⟩ = some (.int .i64 o.e) ∧ w'.cell? ⟨b3, o3 + t * 9 + 5, none⟩ = some (.int .i64 o.f) ∧ w'.cell? ⟨b3, o3 + t * 9 + 6, none⟩ = some (.int .i64 o.g) ∧ w'.cell? ⟨b3, o3 + t * 9 + 7, none⟩ = some (.int .i64 o.h) ∧ w'.cell? ⟨b3, o3 + t * 9 + 8, none⟩ = some (.int .i64 o.r))) (by kernel_rfl) (K.out _ (Below.refl _ _).drew) (fun hHeld => ?_)
                  refine wpAnyH_take (i := 0) (oi := _) (v := ?ve0u1) rfl (by kernel_rfl) (by kernel_rfl) (by kernel_rfl) (fun _ _ _ h => h) (Or.inl ⟨by rfl, ?hye0u1⟩) hHeld ?reste0u1
                  case hye0u1 => (intro w hSw; (try dsimp only at hSw); go_simp; first | done | with_reducible rfl)
                  try simp only [Act.put, List.getElem_toArray, List.getElem_cons_zero, List.setIfInBounds_toArray, List.set_cons_zero, List.set_cons_succ]
                  refine wpAnyH_take (i := 1) (oi := _) (v := ?ve0u2) rfl (by kernel_rfl) (by kernel_rfl) (by kernel_rfl) (fun _ _ _ h => h) (Or.inl ⟨by rfl, ?hye0u2⟩) hHeld ?reste0u2
                  case hye0u2 => (intro w hSw; (try dsimp only at hSw); go_simp; first | done | with_reducible rfl)
                  try simp only [Act.put, List.getElem_toArray, List.getElem_cons_zero, List.getElem_cons_succ, List.setIfInBounds_toArray, List.set_cons_zero, List.set_cons_succ]
                  refine wpAnyH_take (i := 2) (oi := _) (v := ?ve0u3) rfl (by kernel_rfl) (by kernel_rfl) (by kernel_rfl) (fun _ _ _ h => h) (Or.inl ⟨by rfl, ?hye0u3⟩) hHeld ?reste0u3
                  case hye0u3 => (intro w hSw; (try dsimp only at hSw); go_simp; first | done | with_reducible rfl)
                  try simp only [Act.put, List.getElem_toArray, List.getElem_cons_zero, List.getElem_cons_succ, List.setIfInBounds_toArray, List.set_cons_zero, List.set_cons_succ]
                  refine wpAnyH_take (i := 3) (oi := _) (v := ?ve0u4) rfl (by kernel_rfl) (by kernel_rfl) (by kernel_rfl) (fun _ _ _ h => h) (Or.inl ⟨by rfl, ?hye0u4⟩) hHeld ?reste0u4
                  case hye0u4 => (intro w hSw; (try dsimp only at hSw); go_simp; first | done | with_reducible rfl)
                  try simp only [Act.put, List.getElem_toArray, List.getElem_cons_zero, List.getElem_cons_succ, List.setIfInBounds_toArray, List.set_cons_zero, List.set_cons_succ]
                  refine wpAnyH_take (i := 4) (oi := _) (v := ?ve0u5) rfl (by kernel_rfl) (by kernel_rfl) (by kernel_rfl) (fun _ _ _ h => h) (Or.inl ⟨by rfl, ?hye0u5⟩) hHeld ?reste0u5
                  case hye0u5 => (intro w hSw; (try dsimp only at hSw); go_simp; first | done | with_reducible rfl)
                  try simp only [Act.put, List.getElem_toArray, List.getElem_cons_zero, List.getElem_cons_succ, List.setIfInBounds_toArray, List.set_cons_zero, List.set_cons_succ]
                  refine wpAnyH_take (i := 5) (oi := _) (v := ?ve0u6) rfl (by kernel_rfl) (by kernel_rfl) (by kernel_rfl) (fun _ _ _ h => h) (Or.inl ⟨by rfl, ?hye0u6⟩) hHeld ?reste0u6
                  case hye0u6 => (intro w hSw; (try dsimp only at hSw); go_simp; first | done | with_reducible rfl)
                  try simp only [Act.put, List.getElem_toArray, List.getElem_cons_zero, List.getElem_cons_succ, List.setIfInBounds_toArray, List.set_cons_zero, List.set_cons_succ]
                  refine wpAnyH_take (i := 6) (oi := _) (v := ?ve0u7) rfl (by kernel_rfl) (by kernel_rfl) (by kernel_rfl) (fun _ _ _ h => h) (Or.inl ⟨by rfl, ?hye0u7⟩) hHeld ?reste0u7
                  case hye0u7 => (intro w hSw; (try dsimp only at hSw); go_simp; first | done | with_reducible rfl)
                  try simp only [Act.put, List.getElem_toArray, List.getElem_cons_zero, List.getElem_cons_succ, List.setIfInBounds_toArray, List.set_cons_zero, List.set_cons_succ]
                  refine wpAnyH_ready (rs := [7]) (by kernel_rfl) (by simp) ?_
                  refine AllReadyH.cons (o := _) rfl (fun K0 hK0 => ?_) AllReadyH.nil
                  go_simp
                  go_at_call 60
                  refine (CW.out _).mono ?_
                  rintro e we0v8 ⟨rfl, be0v8⟩
                  refine hK0.out _ _ (K.out _ (thenB (Below.refl _ _).drew be0v8)) (fun hHeld => ?_)
                  clear hK0 K0
                  try simp only [Act.put, List.getElem_toArray, List.getElem_cons_zero, List.getElem_cons_succ, List.setIfInBounds_toArray, List.set_cons_zero, List.set_cons_succ]
                  refine wpAnyH_take (i := 8) (oi := _) (v := ?ve0u9) rfl (by kernel_rfl) (by kernel_rfl) (by kernel_rfl) (fun _ _ _ h => h) (Or.inl ⟨by rfl, ?hye0u9⟩) hHeld ?reste0u9
                  case hye0u9 => (intro w hSw; (try dsimp only at hSw); go_simp; first | done | with_reducible rfl)
                  try simp only [Act.put, List.getElem_toArray, List.getElem_cons_zero, List.getElem_cons_succ, List.setIfInBounds_toArray, List.set_cons_zero, List.set_cons_succ]
                  refine wpAnyH_take (i := 9) (oi := _) (v := ?ve0u10) rfl (by kernel_rfl) (by kernel_rfl) (by kernel_rfl) (fun _ _ _ h => h) (Or.inl ⟨by rfl, ?hye0u10⟩) hHeld ?reste0u10
                  case hye0u10 => (intro w hSw; (try dsimp only at hSw); go_simp; first | done | with_reducible rfl)
                  try simp only [Act.put, List.getElem_toArray, List.getElem_cons_zero, List.getElem_cons_succ, List.setIfInBounds_toArray, List.set_cons_zero, List.set_cons_succ]
                  refine wpAnyH_done (by kernel_rfl) ?_ _
                  clear K hHeld
                  replace VZ := VZ.kept (thenB (Below.refl _ _).drew be0v8)
                  replace O := O.kept (thenB (Below.refl _ _).drew be0v8)
                  replace B := thenB B (thenB (Below.refl _ _).drew be0v8)
                  clear be0v8
                  replace VZ := Hid.mk VZ
                  replace O := Hid.mk O
                  replace B := Hid.mk B
                  go_wp2
                  go_roundw
                  case rel => exact ⟨t + 1, bb, by omega, by go_num, rfl, hany.out, VZ.out, O.out, B.out⟩
                  case measure => simp [intOf]; omega
                · skip
                  replace hany := hany.out
                  rw [Bool.true_or] at hany
                  replace hany := Hid.mk hany
                  have K : ∀ w' : World, Below wr.heap.size wr w' → (w'.cell? ⟨P, 0, none⟩ = some (.int .i64 z.a) ∧ w'.cell? ⟨P, 1, none⟩ = some (.int .i64 z.b) ∧ w'.cell? ⟨P, 2, none⟩ = some (.int .i64 z.c) ∧ w'.cell? ⟨P, 3, none⟩ = some (.int .i64 z.d) ∧ w'.cell? ⟨P, 4, none⟩ = some (.int .i64 z.e) ∧ w'.cell? ⟨P, 5, none⟩ = some (.int .i64 z.f) ∧ w'.cell? ⟨P, 6, none⟩ = some (.int .i64 z.g) ∧ w'.cell? ⟨P, 7, none⟩ = some (.int .i64 z.h) ∧ w'.cell? ⟨P, 8, none⟩ = some (.int .i64 z.r) ∧ w'.cell? ⟨b3, o3 + t * 9, none⟩ = some (.int .i64 o.a) ∧ w'.cell? ⟨b3, o3 + t * 9 + 1, none⟩ = some (.int .i64 o.b) ∧ w'.cell? ⟨b3, o3 + t * 9 + 2, none⟩ = some (.int .i64 o.c) ∧ w'.cell? ⟨b3, o3 + t * 9 + 3, none⟩ = some (.int .i64 o.d) ∧ w'.cell? ⟨b3, o3 + t * 9 + 4, none⟩ = some (.int .i64 o.e) ∧ w'.cell? ⟨b3, o3 + t * 9 + 5, none⟩ = some (.int .i64 o.f) ∧ w'.cell? ⟨b3, o3 + t * 9 + 6, none⟩ = some (.int .i64 o.g) ∧ w'.cell? ⟨b3, o3 + t * 9 + 7, none⟩ = some (.int .i64 o.h) ∧ w'.cell? ⟨b3, o3 + t * 9 + 8, none⟩ = some (.int .i64 o.r)) := fun w' h => ⟨(VZ.kept h).2.1 0 (by simp), (VZ.kept h).2.1 1 (by simp), (VZ.kept h).2.1 2 (by simp), (VZ.kept h).2.1 3 (by simp), (VZ.kept h).2.1 4 (by simp), (VZ.kept h).2.1 5 (by simp), (VZ.kept h).2.1 6 (by simp), (VZ.kept h).2.1 7 (by simp), (VZ.kept h).2.1 8 (by simp), ((bcell h).1 _ _ hbo).trans r0, ((bcell h).1 _ _ hbo).trans r1, ((bcell h).1 _ _ hbo).trans r2, ((bcell h).1 _ _ hbo).trans r3, ((bcell h).1 _ _ hbo).trans r4, ((bcell h).1 _ _ hbo).trans r5, ((bcell h).1 _ _ hbo).trans r6, ((bcell h).1 _ _ hbo).trans r7, ((bcell h).1 _ _ hbo).trans r8⟩
                  have K := Hid.mk K
                  clear r0 r1 r2 r3 r4 r5 r6 r7 r8
                  go_wp2
                  refine wp_region_held_drew (S := (fun w' => w'.cell? ⟨P, 0, none⟩ = some (.int .i64 z.a) ∧ w'.cell? ⟨P, 1, none⟩ = some (.int .i64 z.b) ∧ w'.cell? ⟨P, 2, none⟩ = some (.int .i64 z.c) ∧ w'.cell? ⟨P, 3, none⟩ = some (.int .i64 z.d) ∧ w'.cell? ⟨P, 4, none⟩ = some (.int .i64 z.e) ∧ w'.cell? ⟨P, 5, none⟩ = some (.int .i64 z.f) ∧ w'.cell? ⟨P, 6, none⟩ = some (.int .i64 z.g) ∧ w'.cell? ⟨P, 7, none⟩ = some (.int .i64 z.h) ∧ w'.cell? ⟨P, 8, none⟩ = some (.int .i64 z.r) ∧ w'.cell? ⟨b3, o3 + t * 9, none⟩ = some (.int .i64 o.a) ∧ w'.cell? ⟨b3, o3 + t * 9 + 1, none⟩ = some (.int .i64 o.b) ∧ w'.cell? ⟨b3, o3 + t * 9 + 2, none⟩ = some (.int .i64 o.c) ∧ w'.cell? ⟨b3, o3 + t * 9 + 3, none⟩ = some (.int .i64 o.d) ∧ w'.cell? ⟨b3, o3 + t * 9 + 4, none⟩ = some (.int .i64 o.e) ∧ w'.cell? ⟨b3, o3 + t * 9 + 5, none⟩ = some (.int .i64 o.f) ∧ w'.cell? ⟨b3, o3 + t * 9 + 6, none⟩ = some (.int .i64 o.g) ∧ w'.cell? ⟨b3, o3 + t * 9 + 7, none⟩ = some (.int .i64 o.h) ∧ w'.cell? ⟨b3, o3 + t * 9 + 8, none⟩ = some (.int .i64 o.r))) (by kernel_rfl) (K.out _ (Below.refl _ _).drew) (fun hHeld => ?_)
                  refine wpAnyH_take (i := 0) (oi := _) (v := ?ve1u1) rfl (by kernel_rfl) (by kernel_rfl) (by kernel_rfl) (fun _ _ _ h => h) (Or.inl ⟨by rfl, ?hye1u1⟩) hHeld ?reste1u1
                  case hye1u1 => (intro w hSw; (try dsimp only at hSw); go_simp; first | done | with_reducible rfl)
                  try simp only [Act.put, List.getElem_toArray, List.getElem_cons_zero, List.setIfInBounds_toArray, List.set_cons_zero, List.set_cons_succ]
                  refine wpAnyH_take (i := 1) (oi := _) (v := ?ve1u2) rfl (by kernel_rfl) (by kernel_rfl) (by kernel_rfl) (fun _ _ _ h => h) (Or.inl ⟨by rfl, ?hye1u2⟩) hHeld ?reste1u2
                  case hye1u2 => (intro w hSw; (try dsimp only at hSw); go_simp; first | done | with_reducible rfl)
                  try simp only [Act.put, List.getElem_toArray, List.getElem_cons_zero, List.getElem_cons_succ, List.setIfInBounds_toArray, List.set_cons_zero, List.set_cons_succ]
                  refine wpAnyH_take (i := 2) (oi := _) (v := undef) rfl (by kernel_rfl) (by kernel_rfl) (by kernel_rfl) (fun _ _ _ h => h) (Or.inr ⟨by rfl, rfl⟩) hHeld ?_
                  try simp only [Act.put, List.getElem_toArray, List.getElem_cons_zero, List.getElem_cons_succ, List.setIfInBounds_toArray, List.set_cons_zero, List.set_cons_succ]
                  refine wpAnyH_take (i := 3) (oi := _) (v := undef) rfl (by kernel_rfl) (by kernel_rfl) (by kernel_rfl) (fun _ _ _ h => h) (Or.inr ⟨by rfl, rfl⟩) hHeld ?_
                  try simp only [Act.put, List.getElem_toArray, List.getElem_cons_zero, List.getElem_cons_succ, List.setIfInBounds_toArray, List.set_cons_zero, List.set_cons_succ]
                  refine wpAnyH_take (i := 4) (oi := _) (v := undef) rfl (by kernel_rfl) (by kernel_rfl) (by kernel_rfl) (fun _ _ _ h => h) (Or.inr ⟨by rfl, rfl⟩) hHeld ?_
                  try simp only [Act.put, List.getElem_toArray, List.getElem_cons_zero, List.getElem_cons_succ, List.setIfInBounds_toArray, List.set_cons_zero, List.set_cons_succ]
                  refine wpAnyH_take (i := 5) (oi := _) (v := undef) rfl (by kernel_rfl) (by kernel_rfl) (by kernel_rfl) (fun _ _ _ h => h) (Or.inr ⟨by rfl, rfl⟩) hHeld ?_
                  try simp only [Act.put, List.getElem_toArray, List.getElem_cons_zero, List.getElem_cons_succ, List.setIfInBounds_toArray, List.set_cons_zero, List.set_cons_succ]
                  refine wpAnyH_take (i := 6) (oi := _) (v := undef) rfl (by kernel_rfl) (by kernel_rfl) (by kernel_rfl) (fun _ _ _ h => h) (Or.inr ⟨by rfl, rfl⟩) hHeld ?_
                  try simp only [Act.put, List.getElem_toArray, List.getElem_cons_zero, List.getElem_cons_succ, List.setIfInBounds_toArray, List.set_cons_zero, List.set_cons_succ]
                  refine wpAnyH_take (i := 7) (oi := _) (v := undef) rfl (by kernel_rfl) (by kernel_rfl) (by kernel_rfl) (fun _ _ _ h => h) (Or.inr ⟨by rfl, rfl⟩) hHeld ?_
                  try simp only [Act.put, List.getElem_toArray, List.getElem_cons_zero, List.getElem_cons_succ, List.setIfInBounds_toArray, List.set_cons_zero, List.set_cons_succ]
                  refine wpAnyH_take (i := 8) (oi := _) (v := ?ve1u3) rfl (by kernel_rfl) (by kernel_rfl) (by kernel_rfl) (fun _ _ _ h => h) (Or.inl ⟨by rfl, ?hye1u3⟩) hHeld ?reste1u3
                  case hye1u3 => (intro w hSw; (try dsimp only at hSw); go_simp; first | done | with_reducible rfl)
                  try simp only [Act.put, List.getElem_toArray, List.getElem_cons_zero, List.getElem_cons_succ, List.setIfInBounds_toArray, List.set_cons_zero, List.set_cons_succ]
                  refine wpAnyH_take (i := 9) (oi := _) (v := ?ve1u4) rfl (by kernel_rfl) (by kernel_rfl) (by kernel_rfl) (fun _ _ _ h => h) (Or.inl ⟨by rfl, ?hye1u4⟩) hHeld ?reste1u4
                  case hye1u4 => (intro w hSw; (try dsimp only at hSw); go_simp; first | done | with_reducible rfl)
                  try simp only [Act.put, List.getElem_toArray, List.getElem_cons_zero, List.getElem_cons_succ, List.setIfInBounds_toArray, List.set_cons_zero, List.set_cons_succ]
                  refine wpAnyH_done (by kernel_rfl) ?_ _
                  clear K hHeld
                  replace VZ := VZ.kept (Below.refl _ _).drew
                  replace O := O.kept (Below.refl _ _).drew
                  replace B := thenB B (Below.refl _ _).drew
                  replace VZ := Hid.mk VZ
                  replace O := Hid.mk O
                  replace B := Hid.mk B
                  go_wp2
                  go_roundw
                  case rel => exact ⟨t + 1, true, by omega, by go_num, rfl, (by rw [Bool.true_or]; exact hany.out), VZ.out, O.out, B.out⟩
                  case measure => simp [intOf]; omega
              · have htn : t = nout := by omega
                subst htn
                rw [List.drop_of_length_le (by rw [HO.out]; omega), List.any_nil, Bool.or_false] at hany
                subst hany
                replace hT := hT.out
                cases th
                · skip
                  obtain ⟨hk0, hn0⟩ : (kk != 0) = false ∧ nin out z = false := by rwa [Bool.or_eq_false_iff] at hT
                  have hk00 : kk = 0 := by simpa using hk0
                  replace hna := hna.out
                  rw [hp1.out hk00 hn0] at hna
                  replace hna := Hid.mk hna
                  clear hT hk0 hn0 hk00 hp0 hp1 hp2
                  have VX := VZ
                  obtain ⟨s_VX, f_VX, z_VX⟩ := VX.open
                  have hBs := B.size
                  have OL := O.kept (belowA wr (.cells #[.int .i64 z.a, .int .i64 z.b, .int .i64 z.c, .int .i64 z.d, .int .i64 z.e, .int .i64 z.f, .int .i64 z.g, .int .i64 z.h, .int .i64 z.r] 27))
                  have BL := thenB B (belowA wr (.cells #[.int .i64 z.a, .int .i64 z.b, .int .i64 z.c, .int .i64 z.d, .int .i64 z.e, .int .i64 z.f, .int .i64 z.g, .int .i64 z.h, .int .i64 z.r] 27))
                  have TL := BL.size
                  replace BL := Hid.mk BL
                  clear B O
                  go_wp2_with (at_builtin; go_loud (refine wpList_putL _ rfl _ _ rfl w.heap.size c d out t HO.out rfl OL _ 1 z rfl (newCells _ _ (rowV z)) (by omega) TL ?_))
                  intro c4 d4 w4 O4 hg4 hx4
                  clear hx4
                  have B4 := belowG BL.out hg4 TL (fun b hb => (OL.lt b hb).1)
                  have hl4 : (out ++ [z]).length = t + 1 := by rw [List.length_append, HO.out]; rfl
                  clear OL BL TL hg4 VX s_VX f_VX z_VX VZ
                  replace hl4 := Hid.mk hl4
                  replace B4 := Hid.mk B4
                  replace O4 := Hid.mk O4
                  go_wp2
                  go_roundw
                  case rel => exact ⟨j + 1, t + 1, d4, c4, out ++ [z], by omega, by go_num, rfl, hl4.out, by omega, O4.out, hna.out, B4.out⟩
                  case measure => simp [intOf]; omega
                · skip
                  have hst : nstep x y out = out := by
                    rw [Bool.or_eq_true] at hT
                    rcases hT with h | h
                    · exact hp0.out (by simpa using h)
                    · exact hp2.out h
                  replace hna := hna.out
                  rw [hst] at hna
                  replace hna := Hid.mk hna
                  clear hT hst hp0 hp1 hp2
                  replace O := Hid.mk O
                  replace B := Hid.mk B
                  go_wp2
                  go_roundw
                  case rel => exact ⟨j + 1, t, d, c, out, by omega, by go_num, rfl, HO.out, by omega, O.out, hna.out, B.out⟩
                  case measure => simp [intOf]; omega
        · have hjm : j = m := by omega
          subst hjm
          rw [nrow_end (by omega)] at hna
          replace hna := Hid.mk hna
          replace hno := Hid.mk hno
          go_wp2
          go_roundw
          case rel => exact ⟨k + 1, nout, d, c, out, by omega, by go_num, rfl, hno.out, by omega, O, hna.out, B⟩
          case measure => simp [intOf]; omega
    · have hkn : k = n := by omega
      subst hkn
      rw [nall_end (by omega)] at hna
      subst hna
      replace hw := hw.out
      rw [hno] at hw
      have HO := Hid.mk hno
      clear hno
      rcases hw with ⟨h1, rfl, rfl⟩ | ⟨h1, h2, rfl, rfl⟩ | ⟨h1, h2, rfl, hzz⟩
      · subst h1
        go_wp2
        refine bodyPost_ret (v := .tuple #[.slice none 0 0, .int .i64 4]) (by simp [results, Try.results65, go_sem]) rfl ⟨none, 0, 0, rfl, rfl, OwnL.none, B⟩
      · have t1 : ((nout : Int) == 0) = false := by rw [beq_eq_false_iff_ne]; omega
        have t2 : (12 : Int) < (nout : Int) := by omega
        go_wp2
        refine bodyPost_ret (v := .tuple #[.slice none 0 0, .int .i64 2]) (by simp [results, Try.results65, go_sem]) rfl ⟨none, 0, 0, rfl, rfl, OwnL.none, B⟩
      · have t1 : ((nout : Int) == 0) = false := by rw [beq_eq_false_iff_ne]; omega
        have t2 : ¬ (12 : Int) < (nout : Int) := by omega
        subst hzz
        go_wp2
        refine bodyPost_ret (v := .tuple #[.slice c nout d, .int .i64 0]) (by simp [results, Try.results65, go_sem]) rfl ⟨c, d, nout, rfl, HO.out, O, B⟩

end Go.Proofs.Ytmbkbbephmblmaa
