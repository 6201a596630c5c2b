/- TakeAll: program and model. -/
import Derived.Test.YtkpdbdcfimdnjaaWnG
import Derived.Deep.DeepCutAuto
import Derived.Deep.RegionHeld3
namespace Go.Proofs.Ytkpdbdcfimdnjaa
open Go.RowKit

theorem wp_putIw {o : Oper} {a : Act} {K : Act → World → Prop} {Q : Exit → Act → World → Prop} (w : World) (s x : Operand)
    (ho : o.op = .call { callee := .builtin .append, args := #[s, x], argTypes := #[26, 26] })
    (base : Nat) (c : Option Addr) (d : Nat) (xs : List Int) (n : Nat) (hn : xs.length = n) (hs : a.eval s = .slice c n d) (hown : Own .i64 2 w base c d xs)
    (ad : Addr) (cc : Nat) (p : Int) (hx : a.eval x = .slice (some ad) 1 cc) (hp : w.cell? (ad.add 0) = some (.int .i64 p))
    (hlen : n ≤ 1000000) (hbase : base ≤ w.heap.size)
    (h : ∀ c' d' w', Own .i64 2 w' base c' d' (xs ++ [p]) → w.grownBy w' (c.map Addr.block) → Hid (∃ g, c' = some ⟨g, 0, none⟩ ∧ ((∃ a, c = some a ∧ a.block = g) ∨ g = w.heap.size) ∧ g < w'.heap.size) → K (a.put o.dst (.slice c' (n + 1) d')) w') : o.wp Try.prog a w K Q := by
  subst hn
  obtain ⟨i, hi, hz, hsz, hby⟩ : ∃ i, Try.prog.info? 2 = some i ∧ i.zero = some (.int .i64 0) ∧ i.size = 1 ∧ i.bytes = 8 := by
    have h := Try.infoI64
    cases he : Try.prog.info? 2 with
    | none => rw [he] at h; cases h
    | some i =>
      rw [he] at h
      simp only [Option.map_some, Option.some.injEq, Prod.mk.injEq] at h
      exact ⟨i, rfl, h.1, h.2.1, h.2.2⟩
  refine wp_append_lies w s x 26 ho base 2 i _ 1 8 Try.underlying26 hi hz hsz hby (by rfl) (by decide) (.slice c xs.length d) xs.length (xs.map (Value.int .i64)) hs hown ad 1 cc [.int .i64 p] hx rfl (fun j u hj => ?_) ?_ (by decide) (by unfold maxLen; omega) (by omega) hbase _ rfl ?_
  · match j, hj with
    | 0, hj => simp only [List.getElem?_cons_zero, Option.some.injEq] at hj; rw [← hj]; exact hp
  · intro u hu
    simp only [List.mem_cons, List.not_mem_nil, or_false] at hu
    subst hu; rfl
  · intro g cap w' h1 h2 h3 h4
    have e1 : (xs ++ [p]).length = xs.length + 1 := by simp
    have h2' : w.grownBy w' (c.map Addr.block) := by cases c <;> exact h2
    refine h _ _ w' ?_ h2' (Hid.mk ⟨g, rfl, ?_, h4⟩)
    · unfold Own; rw [e1, List.map_append]; exact h1
    · rcases h3 with h3 | h3
      · left; cases c with
        | none => cases h3
        | some b => exact ⟨b, rfl, by simpa [Value.ownBlock] using h3⟩
      · exact .inr h3

/-- What 'TakeAll' answers. -/
@[irreducible] def taC (x : Wn) (zs : List Int) : Int := if wF x = 0 then (if 100 < zs.length then 2 else 0) else wF x

@[irreducible] def taL (x : Wn) (zs : List Int) : List Int := if wF x = 0 then (if 100 < zs.length then [] else (tkA x zs).2) else []

theorem ta_ways (x : Wn) (zs : List Int) : (¬ wF x = 0 ∧ taC x zs = wF x ∧ taL x zs = []) ∨ (wF x = 0 ∧ 100 < zs.length ∧ taC x zs = 2 ∧ taL x zs = []) ∨ (wF x = 0 ∧ zs.length ≤ 100 ∧ taC x zs = 0 ∧ taL x zs = (tkA x zs).2) := by
  unfold taC taL
  by_cases h : wF x = 0
  · by_cases g : 100 < zs.length
    · exact .inr (.inl ⟨h, g, by simp [h, g], by simp [h, g]⟩)
    · exact .inr (.inr ⟨h, by omega, by simp [h, g], by simp [h, g]⟩)
  · exact .inl ⟨h, by simp [h], by simp [h]⟩

theorem taL_len (x : Wn) (zs : List Int) : (taL x zs).length ≤ 100 := by
  rcases ta_ways x zs with ⟨_, _, e⟩ | ⟨_, _, _, e⟩ | ⟨_, h, _, e⟩
  · rw [e]; simp
  · rw [e]; simp
  · rw [e]
    have := tkA_len zs x
    omega

theorem tk_whole {y : Wn} {s : Int} (h : wF y = 0) : tsC y s = tkC y s ∧ tsR y s = tkR y s := by
  rcases ts_ways y s with ⟨h1, _⟩ | ⟨_, h1, h2⟩
  · exact absurd h h1
  · exact ⟨h1, h2⟩

/-- One step further. -/
theorem tkA_step {zs : List Int} {k : Nat} {x y : Wn} {os : List Int} {s : Int} (hk : k < zs.length) (hs : zs.getD k 0 = s) (h : tkA x (zs.take k) = (y, os)) : (tkC y s = 0 → tkA x (zs.take (k + 1)) = (nxW y s, os ++ [s])) ∧ (¬ tkC y s = 0 → tkA x (zs.take (k + 1)) = (y, os)) := by
  have h1 := tkA_take (x := x) hk hs
  rw [h] at h1
  exact h1

set_option maxRecDepth 20000 in
set_option maxHeartbeats 16000000 in
theorem implAll_ok (x : Wn) (a : Option Addr) (n ca : Nat) (zs : List Int) (hz : ∀ z ∈ zs, -9223372036854775808 ≤ z ∧ z ≤ 9223372036854775807) (w : World) (ha : Rd .i64 w a zs) (hn : zs.length = n) (hx : n ≤ 1048576) :
    Calls Try.prog 14 #[.agg #[.int .i64 x.t, .int .i64 x.b], .slice a n ca] w fun e w' => ∃ c d, e = .returned (.agg #[.int .i64 (taC x zs), .slice c (taL x zs).length d]) ∧ Own .i64 2 w' w.heap.size c d (taL x zs) ∧ Below w.heap.size w w' := by
  have CF := Hid.mk (fun w => implWF_ok x w)
  have q0 := build_iw0
  have q1 := build_iw1
  have qz := build_iwZ
  rcases ta_ways x zs with ⟨h1, e0, e1⟩ | ⟨h1, h2, e0, e1⟩ | ⟨h1, h2, e0, e1⟩
  · have hne : (wF x != 0) = true := by simp [h1]
    rw [e0, e1]
    generalize wF x = kc at *
    clear h1 e0 e1 ha hz
    go_enter Try.func14, Try.ntmps14
    have B := Below.refl w.heap.size w
    have Bo := B
    replace B := thenB B (belowA w (.cells #[.int .i64 x.t, .int .i64 x.b] 25))
    have VA := V.new w [.int .i64 x.t, .int .i64 x.b] 25
    replace VA := VA.kept (belowA (w.alloc (.cells #[.int .i64 x.t, .int .i64 x.b] 25)) (.cells #[.int .i64 0, .slice none 0 0] 30))
    replace B := thenB B (belowA (w.alloc (.cells #[.int .i64 x.t, .int .i64 x.b] 25)) (.cells #[.int .i64 0, .slice none 0 0] 30))
    have VR : V ((w.alloc (.cells #[.int .i64 x.t, .int .i64 x.b] 25)).alloc (.cells #[.int .i64 0, .slice none 0 0] 30)) (w.heap.size + 1) [.int .i64 0, .slice none 0 0] := V.newAt _ _ _ _ (by simp)
    obtain ⟨s_VA, f_VA, z_VA⟩ := VA.open
    obtain ⟨s_VR, f_VR, z_VR⟩ := VR.open
    have Bo := B
    go_wp2_with fail
    refine (CF.out _).mono ?_
    rintro e w1 ⟨rfl, b1⟩
    clear s_VA f_VA z_VA s_VR f_VR z_VR
    have S1 := b1.size
    simp only [World.size_alloc] at S1
    replace VA := VA.kept b1
    replace VR := VR.kept b1
    replace B := thenB B b1
    clear b1
    obtain ⟨s_VA, f_VA, z_VA⟩ := VA.open
    obtain ⟨s_VR, f_VR, z_VR⟩ := VR.open
    have Bo := B
    clear s_VA f_VA z_VA s_VR f_VR z_VR
    have VF := Hid.mk (VR.filled [.int .i64 kc, .slice none 0 0] rfl)
    have BR := belowCells B (show w.heap.size ≤ w.heap.size + 1 by (first | omega | (simp; done) | (simp; omega))) 0 [.int .i64 kc, .slice none 0 0]
    have HT := Hid.mk VR.there
    replace BR := Hid.mk BR
    obtain ⟨s_VA, f_VA, z_VA⟩ := VA.open
    obtain ⟨s_VR, f_VR, z_VR⟩ := VR.open
    go_wp2_with (refine wpList_store_mid rfl 30 _ _ rfl (w.heap.size + 1) 0 #[.int .i64 kc, .slice none 0 0] rfl rfl HT.out (by kernel_rfl) (by kernel_rfl) ?_)
    refine bodyPost_ret (v := .agg #[.int .i64 kc, .slice none 0 0]) (results_row Try.results14 _ _ (w.heap.size + 1) [.int .i64 kc, .slice none 0 0] _ rfl VF.out Try.underlying30 rfl (by kernel_rfl)) rfl ⟨none, 0, rfl, own_none, BR.out⟩
  · rw [e0, e1]
    rw [hn] at h2
    have hd : decide (100 < (n : Int)) = true := by simp; omega
    simp only [h1] at CF
    clear h1 h2 e0 e1 ha hz
    go_enter Try.func14, Try.ntmps14
    have B := Below.refl w.heap.size w
    have Bo := B
    replace B := thenB B (belowA w (.cells #[.int .i64 x.t, .int .i64 x.b] 25))
    have VA := V.new w [.int .i64 x.t, .int .i64 x.b] 25
    replace VA := VA.kept (belowA (w.alloc (.cells #[.int .i64 x.t, .int .i64 x.b] 25)) (.cells #[.int .i64 0, .slice none 0 0] 30))
    replace B := thenB B (belowA (w.alloc (.cells #[.int .i64 x.t, .int .i64 x.b] 25)) (.cells #[.int .i64 0, .slice none 0 0] 30))
    have VR : V ((w.alloc (.cells #[.int .i64 x.t, .int .i64 x.b] 25)).alloc (.cells #[.int .i64 0, .slice none 0 0] 30)) (w.heap.size + 1) [.int .i64 0, .slice none 0 0] := V.newAt _ _ _ _ (by simp)
    obtain ⟨s_VA, f_VA, z_VA⟩ := VA.open
    obtain ⟨s_VR, f_VR, z_VR⟩ := VR.open
    have Bo := B
    go_wp2_with fail
    refine (CF.out _).mono ?_
    rintro e w1 ⟨rfl, b1⟩
    clear s_VA f_VA z_VA s_VR f_VR z_VR
    have S1 := b1.size
    simp only [World.size_alloc] at S1
    replace VA := VA.kept b1
    replace VR := VR.kept b1
    replace B := thenB B b1
    clear b1
    obtain ⟨s_VA, f_VA, z_VA⟩ := VA.open
    obtain ⟨s_VR, f_VR, z_VR⟩ := VR.open
    have Bo := B
    clear s_VA f_VA z_VA s_VR f_VR z_VR
    have VF := Hid.mk (VR.filled [.int .i64 2, .slice none 0 0] rfl)
    have BR := belowCells B (show w.heap.size ≤ w.heap.size + 1 by (first | omega | (simp; done) | (simp; omega))) 0 [.int .i64 2, .slice none 0 0]
    have HT := Hid.mk VR.there
    replace BR := Hid.mk BR
    obtain ⟨s_VA, f_VA, z_VA⟩ := VA.open
    obtain ⟨s_VR, f_VR, z_VR⟩ := VR.open
    go_wp2_with (refine wpList_store_mid rfl 30 _ _ rfl (w.heap.size + 1) 0 #[.int .i64 2, .slice none 0 0] rfl rfl HT.out (by kernel_rfl) (by kernel_rfl) ?_)
    refine bodyPost_ret (v := .agg #[.int .i64 2, .slice none 0 0]) (results_row Try.results14 _ _ (w.heap.size + 1) [.int .i64 2, .slice none 0 0] _ rfl VF.out Try.underlying30 rfl (by kernel_rfl)) rfl ⟨none, 0, rfl, own_none, BR.out⟩
  · rw [e0, e1]
    rw [hn] at h2
    have hd : decide (100 < (n : Int)) = false := by simp; omega
    simp only [h1] at CF
    have HR := Hid.mk ha
    replace h1 := Hid.mk h1
    replace hz := Hid.mk hz
    clear e0 e1 ha
    go_enter Try.func14, Try.ntmps14
    have B := Below.refl w.heap.size w
    have Bo := B
    replace B := thenB B (belowA w (.cells #[.int .i64 x.t, .int .i64 x.b] 25))
    have VA := V.new w [.int .i64 x.t, .int .i64 x.b] 25
    replace VA := VA.kept (belowA (w.alloc (.cells #[.int .i64 x.t, .int .i64 x.b] 25)) (.cells #[.int .i64 0, .slice none 0 0] 30))
    replace B := thenB B (belowA (w.alloc (.cells #[.int .i64 x.t, .int .i64 x.b] 25)) (.cells #[.int .i64 0, .slice none 0 0] 30))
    have VR : V ((w.alloc (.cells #[.int .i64 x.t, .int .i64 x.b] 25)).alloc (.cells #[.int .i64 0, .slice none 0 0] 30)) (w.heap.size + 1) [.int .i64 0, .slice none 0 0] := V.newAt _ _ _ _ (by simp)
    obtain ⟨s_VA, f_VA, z_VA⟩ := VA.open
    obtain ⟨s_VR, f_VR, z_VR⟩ := VR.open
    have Bo := B
    go_wp2_with fail
    refine (CF.out _).mono ?_
    rintro e w1 ⟨rfl, b1⟩
    clear s_VA f_VA z_VA s_VR f_VR z_VR
    have S1 := b1.size
    simp only [World.size_alloc] at S1
    replace VA := VA.kept b1
    replace VR := VR.kept b1
    replace B := thenB B b1
    clear b1
    obtain ⟨s_VA, f_VA, z_VA⟩ := VA.open
    obtain ⟨s_VR, f_VR, z_VR⟩ := VR.open
    have Bo := B
    clear s_VA f_VA z_VA s_VR f_VR z_VR
    have hs2 : w.heap.size + 1 < w1.heap.size := VR.1
    have VA1 := Hid.mk VA
    have VR1 := Hid.mk VR
    have B1 := Hid.mk B
    clear B VR VA Bo CF
    go_wp2
    go_loopw [6, 22] (fun m i wr => ∃ (k j d : Nat) (c : Option Addr) (os : List Int) (y : Wn), k ≤ n ∧ m = .slice c j d ∧ i = .int .i64 k ∧ tkA x (zs.take k) = (y, os) ∧ os.length = j ∧ j ≤ k ∧ Own .i64 2 wr (w.heap.size + 2) c d os ∧ V wr w.heap.size [.int .i64 y.t, .int .i64 y.b] ∧ V wr (w.heap.size + 1) [.int .i64 0, .slice none 0 0] ∧ Below w.heap.size w wr) (fun _ i _ => n - (intOf i).toNat)
    case atStart => exact ⟨0, 0, 0, none, [], x, Nat.zero_le _, rfl, rfl, rfl, rfl, Nat.le_refl _, own_none, VA1.out, VR1.out, B1.out⟩
    case round =>
      clear VA1 VR1 B1
      obtain ⟨k, j, d, c, os, y, hk, rfl, rfl, hos, hj, hjk, O, VA, VR, B⟩ := hrel
      by_cases hlt : k < n
      · obtain ⟨z, hz0⟩ : ∃ z, zs.getD k 0 = z := ⟨_, rfl⟩
        have hki : (k : Int) < (n : Int) := by omega
        have hyw : wF y = 0 := by have h9 := tkA_ok (zs.take k) x h1.out; rw [hos] at h9; exact h9
        have hzb : -9223372036854775808 ≤ z ∧ z ≤ 9223372036854775807 := hz.out z (by rw [← hz0, getD_eq zs k (by omega)]; exact List.getElem_mem _)
        have hst := tkA_step (by omega) hz0 hos
        obtain ⟨t1, t2⟩ := tk_whole (s := z) hyw
        have CT := Hid.mk (fun w => implTake_ok y z hzb w)
        rw [t2] at CT
        rcases HR.out.kept B with h0 | ⟨b1, o1, rfl, hc⟩
        · rw [h0] at hn; simp at hn; omega
        have p0 := hc k (by omega)
        rw [hz0] at p0
        have hb1 := World.block_lt_of_cell? (a := ⟨b1, o1 + k, none⟩) _ p0
        simp only at hb1
        have HJ := Hid.mk hj
        have hOl := O.lt
        have F2 : Hid (∀ b : Addr, c = some b → b.block ≠ w.heap.size) := Hid.mk (fun b hb => by have := (hOl b hb).1; omega)
        have F3 : Hid (∀ b : Addr, c = some b → b.block ≠ w.heap.size + 1) := Hid.mk (fun b hb => by have := (hOl b hb).1; omega)
        have hj100 : j ≤ 1000 := by omega
        clear hj hOl hos hc hyw t1 t2 hzb
        by_cases hc0 : tkC y z = 0

        · skip
          have hst0 := Hid.mk (hst.1 hc0)
          simp only [tkR_yes hc0] at CT
          clear hst hc0
          obtain ⟨s_VA, f_VA, z_VA⟩ := VA.open
          obtain ⟨s_VR, f_VR, z_VR⟩ := VR.open
          have Bo := B
          go_wp2_with fail
          refine (CT.out _).mono ?_
          rintro e w41 ⟨rfl, b41⟩
          clear s_VA f_VA z_VA s_VR f_VR z_VR
          have S41 := b41.size
          replace VA := VA.kept b41
          replace VR := VR.kept b41
          replace O := O.kept b41
          replace B := thenB B b41
          clear b41
          obtain ⟨s_VA, f_VA, z_VA⟩ := VA.open
          obtain ⟨s_VR, f_VR, z_VR⟩ := VR.open
          have Bo := B
          clear p0
          generalize nxW y z = v at *
          have F4 : ∀ b : Addr, c = some b → b.block ≠ w41.heap.size := fun b hb => by have := (O.lt b hb).2; omega
          replace VA := VA.kept (belowA w41 (.cells #[.int .i64 0, .int .i64 z, .int .i64 v.t, .int .i64 v.b] 35))
          replace VR := VR.kept (belowA w41 (.cells #[.int .i64 0, .int .i64 z, .int .i64 v.t, .int .i64 v.b] 35))
          replace O := O.kept (belowA w41 (.cells #[.int .i64 0, .int .i64 z, .int .i64 v.t, .int .i64 v.b] 35))
          replace B := thenB B (belowA w41 (.cells #[.int .i64 0, .int .i64 z, .int .i64 v.t, .int .i64 v.b] 35))
          have VG := V.new w41 [.int .i64 0, .int .i64 z, .int .i64 v.t, .int .i64 v.b] 35
          clear s_VA f_VA z_VA s_VR f_VR z_VR
          generalize hQ : w41.heap.size = Q at *
          replace F4 := Hid.mk F4
          obtain ⟨s_VG, f_VG, z_VG⟩ := VG.open
          go_upto_region 12 with fail
          clear s_VG f_VG z_VG Bo
          refine wp_region_any (by kernel_rfl) ?_
          change wpAny _ _ _ _ _ _ _ (w41.alloc (.cells #[.int .i64 0, .int .i64 z, .int .i64 v.t, .int .i64 v.b] 35)).drew
          have bd : Below (w41.alloc (.cells #[.int .i64 0, .int .i64 z, .int .i64 v.t, .int .i64 v.b] 35)).heap.size (w41.alloc (.cells #[.int .i64 0, .int .i64 z, .int .i64 v.t, .int .i64 v.b] 35)) (w41.alloc (.cells #[.int .i64 0, .int .i64 z, .int .i64 v.t, .int .i64 v.b] 35)).drew := (Below.refl _ _).drew
          replace O := O.kept bd
          replace VA := VA.kept bd
          replace VR := VR.kept bd
          replace VG := VG.kept bd
          replace B := thenB B bd
          clear bd
          generalize (w41.alloc (.cells #[.int .i64 0, .int .i64 z, .int .i64 v.t, .int .i64 v.b] 35)).drew = wd at *
          have hVA := VA.1
          have hVR := VR.1
          have hVG := VG.1
          refine wpAny_take (i := 0) (oi := _) (v := ?vtk0) rfl (by kernel_rfl) (by kernel_rfl) (by kernel_rfl) (fun _ _ _ h => h) (Or.inl ⟨by rfl, ?hytk0⟩) ?resttk0
          case hytk0 => (intro w; go_simp; first | done | with_reducible rfl)
          try simp only [Act.put, List.getElem_toArray, List.getElem_cons_zero, List.setIfInBounds_toArray, List.set_cons_zero, List.set_cons_succ]
          refine wpAny_take (i := 2) (oi := _) (v := ?vtk2) rfl (by kernel_rfl) (by kernel_rfl) (by kernel_rfl) (fun _ _ _ h => h) (Or.inl ⟨by rfl, ?hytk2⟩) ?resttk2
          case hytk2 => (intro w; go_simp; first | done | with_reducible rfl)
          try simp only [Act.put, List.getElem_toArray, List.getElem_cons_zero, List.getElem_cons_succ, List.setIfInBounds_toArray, List.set_cons_zero, List.set_cons_succ]
          refine wpAny_take (i := 3) (oi := _) (v := ?vtk3) rfl (by kernel_rfl) (by kernel_rfl) (by kernel_rfl) (fun _ _ _ h => h) (Or.inl ⟨by rfl, ?hytk3⟩) ?resttk3
          case hytk3 => (intro w; go_simp; first | done | with_reducible rfl)
          try simp only [Act.put, List.getElem_toArray, List.getElem_cons_zero, List.getElem_cons_succ, List.setIfInBounds_toArray, List.set_cons_zero, List.set_cons_succ]
          refine wpAny_ready (rs := [1, 4]) (by kernel_rfl) (by simp) ?_
          refine AllReady.cons (o := _) rfl (fun K0 hK0 => ?_) (AllReady.cons (o := _) rfl (fun K0 hK0 => ?_) AllReady.nil)
          · skip
            obtain ⟨s_VG, f_VG, z_VG⟩ := VG.open
            go_simp
            refine hK0 _ _ ?_
            clear hK0 K0 s_VG f_VG z_VG
            try simp only [Act.put, List.getElem_toArray, List.getElem_cons_zero, List.getElem_cons_succ, List.setIfInBounds_toArray, List.set_cons_zero, List.set_cons_succ]
            refine wpAny_ready (rs := [4]) (by kernel_rfl) (by simp) ?_
            refine AllReady.cons (o := _) rfl (fun K0 hK0 => ?_) AllReady.nil
            go_simp
            refine hK0 _ _ ?_
            clear hK0 K0
            try simp only [Act.put, List.getElem_toArray, List.getElem_cons_zero, List.getElem_cons_succ, List.setIfInBounds_toArray, List.set_cons_zero, List.set_cons_succ]
            have bq := belowA wd (.cells #[.int .i64 z] 2)
            have HNC := cell_one' wd 2 (.int .i64 z) 0 _ rfl
            replace O := O.kept bq
            replace VA := VA.kept bq
            replace VR := VR.kept bq
            replace VG := VG.kept bq
            replace B := thenB B bq
            change (wd.alloc (.cells #[.int .i64 z] 2)).cell? ((⟨wd.heap.size, 0, none⟩ : Addr).add 0) = some (.int .i64 z) at HNC
            have hsq : (wd.alloc (.cells #[.int .i64 z] 2)).heap.size = wd.heap.size + 1 := by simp
            generalize wd.alloc (.cells #[.int .i64 z] 2) = wq at *
            replace HNC := Hid.mk HNC
            refine wpAny_ready (rs := [5]) (by kernel_rfl) (by simp) ?_
            refine AllReady.cons (o := _) rfl (fun K0 hK0 => ?_) AllReady.nil
            have OLT := Hid.mk O.lt
            have TL : w.heap.size + 2 ≤ wq.heap.size := by omega
            rw [if_pos (by rfl)]
            refine wp_putIw _ _ _ rfl (w.heap.size + 2) c d os j HJ.out rfl O (⟨wd.heap.size, 0, none⟩) 1 z rfl HNC.out (by omega) TL ?_
            intro c4 d4 w4 O4 hg4 hx4
            have VA4 := VA.grownR hg4 (row_ne F2.out)
            have VR4 := VR.grownR hg4 (row_ne F3.out)
            have VG4 := VG.grownR hg4 (row_ne F4.out)
            have B4 := belowG B hg4 (by omega) (fun b hb => by have := (OLT.out b hb).1; omega)
            have O4L := Hid.mk O4.lt
            refine hK0 _ _ ?_
            clear hK0 K0 O VA VR VG B hg4 hx4 OLT TL HNC
            try simp only [Act.put, List.getElem_toArray, List.getElem_cons_zero, List.getElem_cons_succ, List.setIfInBounds_toArray, List.set_cons_zero, List.set_cons_succ]
            replace VG := VG4
            refine wpAny_ready (rs := [6]) (by kernel_rfl) (by simp) ?_
            refine AllReady.cons (o := _) rfl (fun K0 hK0 => ?_) AllReady.nil
            have HT := VA4.there
            have VF := VA4.filled [.int .i64 v.t, .int .i64 v.b] rfl
            have VR6 := VR4.apart (B := w.heap.size) (by omega) 0 [.int .i64 v.t, .int .i64 v.b]
            have O6 := ownCellsW O4 (B := w.heap.size) (by intro b hb; have := (O4L.out b hb).1; omega) 0 [.int .i64 v.t, .int .i64 v.b]
            have B6 := belowCells B4 (Nat.le_refl w.heap.size) 0 [.int .i64 v.t, .int .i64 v.b]
            obtain ⟨w6, hw6⟩ : ∃ w6, World.setCells w4 w.heap.size 0 [.int .i64 v.t, .int .i64 v.b] = w6 := ⟨_, rfl⟩
            rw [hw6] at VF VR6 O6 B6
            refine wp_strokeG w6 25 _ _ rfl (w.heap.size) 0 #[.int .i64 v.t, .int .i64 v.b] rfl rfl HT (by kernel_rfl) (by kernel_rfl) hw6 ?_
            refine hK0 _ _ ?_
            clear hK0 K0 HT VA4 VR4 VG4 VG O4 B4 hw6
            try simp only [Act.put, List.getElem_toArray, List.getElem_cons_zero, List.getElem_cons_succ]
            refine wpAny_take (i := 7) (oi := _) (v := ?vtz1) rfl (by kernel_rfl) (by kernel_rfl) (by kernel_rfl) (fun _ _ _ h => h) (Or.inl ⟨by rfl, ?hytz1⟩) ?resttz1
            case hytz1 => (intro w; go_simp; first | done | with_reducible rfl)
            try simp only [Act.put, List.getElem_toArray, List.getElem_cons_zero, List.getElem_cons_succ, List.setIfInBounds_toArray, List.set_cons_zero, List.set_cons_succ]
            refine wpAny_done (by kernel_rfl) ?_ _
            replace VF := Hid.mk VF
            replace VR6 := Hid.mk VR6
            replace O6 := Hid.mk O6
            replace B6 := Hid.mk B6
            have hl6 : Hid ((os ++ [z]).length = j + 1) := Hid.mk (by rw [List.length_append, HJ.out]; rfl)
            go_wp2
            go_roundw
            case rel => exact ⟨k + 1, j + 1, d4, c4, _, v, by omega, rfl, by go_num, hst0.out, hl6.out, by omega, O6.out, VF.out, VR6.out, B6.out⟩
            case measure => simp [intOf]; omega
          · skip
            go_simp
            refine hK0 _ _ ?_
            clear hK0 K0
            try simp only [Act.put, List.getElem_toArray, List.getElem_cons_zero, List.getElem_cons_succ, List.setIfInBounds_toArray, List.set_cons_zero, List.set_cons_succ]
            have bq := belowA wd (.cells #[.int .i64 z] 2)
            have HNC := cell_one' wd 2 (.int .i64 z) 0 _ rfl
            replace O := O.kept bq
            replace VA := VA.kept bq
            replace VR := VR.kept bq
            replace VG := VG.kept bq
            replace B := thenB B bq
            change (wd.alloc (.cells #[.int .i64 z] 2)).cell? ((⟨wd.heap.size, 0, none⟩ : Addr).add 0) = some (.int .i64 z) at HNC
            have hsq : (wd.alloc (.cells #[.int .i64 z] 2)).heap.size = wd.heap.size + 1 := by simp
            generalize wd.alloc (.cells #[.int .i64 z] 2) = wq at *
            replace HNC := Hid.mk HNC
            refine wpAny_ready (rs := [1, 5]) (by kernel_rfl) (by simp) ?_
            refine AllReady.cons (o := _) rfl (fun K0 hK0 => ?_) (AllReady.cons (o := _) rfl (fun K0 hK0 => ?_) AllReady.nil)
            · skip
              obtain ⟨s_VG, f_VG, z_VG⟩ := VG.open
              go_simp
              refine hK0 _ _ ?_
              clear hK0 K0 s_VG f_VG z_VG
              try simp only [Act.put, List.getElem_toArray, List.getElem_cons_zero, List.getElem_cons_succ, List.setIfInBounds_toArray, List.set_cons_zero, List.set_cons_succ]
              refine wpAny_ready (rs := [5]) (by kernel_rfl) (by simp) ?_
              refine AllReady.cons (o := _) rfl (fun K0 hK0 => ?_) AllReady.nil
              have OLT := Hid.mk O.lt
              have TL : w.heap.size + 2 ≤ wq.heap.size := by omega
              rw [if_pos (by rfl)]
              refine wp_putIw _ _ _ rfl (w.heap.size + 2) c d os j HJ.out rfl O (⟨wd.heap.size, 0, none⟩) 1 z rfl HNC.out (by omega) TL ?_
              intro c4 d4 w4 O4 hg4 hx4
              have VA4 := VA.grownR hg4 (row_ne F2.out)
              have VR4 := VR.grownR hg4 (row_ne F3.out)
              have VG4 := VG.grownR hg4 (row_ne F4.out)
              have B4 := belowG B hg4 (by omega) (fun b hb => by have := (OLT.out b hb).1; omega)
              have O4L := Hid.mk O4.lt
              refine hK0 _ _ ?_
              clear hK0 K0 O VA VR VG B hg4 hx4 OLT TL HNC
              try simp only [Act.put, List.getElem_toArray, List.getElem_cons_zero, List.getElem_cons_succ, List.setIfInBounds_toArray, List.set_cons_zero, List.set_cons_succ]
              replace VG := VG4
              refine wpAny_ready (rs := [6]) (by kernel_rfl) (by simp) ?_
              refine AllReady.cons (o := _) rfl (fun K0 hK0 => ?_) AllReady.nil
              have HT := VA4.there
              have VF := VA4.filled [.int .i64 v.t, .int .i64 v.b] rfl
              have VR6 := VR4.apart (B := w.heap.size) (by omega) 0 [.int .i64 v.t, .int .i64 v.b]
              have O6 := ownCellsW O4 (B := w.heap.size) (by intro b hb; have := (O4L.out b hb).1; omega) 0 [.int .i64 v.t, .int .i64 v.b]
              have B6 := belowCells B4 (Nat.le_refl w.heap.size) 0 [.int .i64 v.t, .int .i64 v.b]
              obtain ⟨w6, hw6⟩ : ∃ w6, World.setCells w4 w.heap.size 0 [.int .i64 v.t, .int .i64 v.b] = w6 := ⟨_, rfl⟩
              rw [hw6] at VF VR6 O6 B6
              refine wp_strokeG w6 25 _ _ rfl (w.heap.size) 0 #[.int .i64 v.t, .int .i64 v.b] rfl rfl HT (by kernel_rfl) (by kernel_rfl) hw6 ?_
              refine hK0 _ _ ?_
              clear hK0 K0 HT VA4 VR4 VG4 VG O4 B4 hw6
              try simp only [Act.put, List.getElem_toArray, List.getElem_cons_zero, List.getElem_cons_succ]
              refine wpAny_take (i := 7) (oi := _) (v := ?vtz2) rfl (by kernel_rfl) (by kernel_rfl) (by kernel_rfl) (fun _ _ _ h => h) (Or.inl ⟨by rfl, ?hytz2⟩) ?resttz2
              case hytz2 => (intro w; go_simp; first | done | with_reducible rfl)
              try simp only [Act.put, List.getElem_toArray, List.getElem_cons_zero, List.getElem_cons_succ, List.setIfInBounds_toArray, List.set_cons_zero, List.set_cons_succ]
              refine wpAny_done (by kernel_rfl) ?_ _
              replace VF := Hid.mk VF
              replace VR6 := Hid.mk VR6
              replace O6 := Hid.mk O6
              replace B6 := Hid.mk B6
              have hl6 : Hid ((os ++ [z]).length = j + 1) := Hid.mk (by rw [List.length_append, HJ.out]; rfl)
              go_wp2
              go_roundw
              case rel => exact ⟨k + 1, j + 1, d4, c4, _, v, by omega, rfl, by go_num, hst0.out, hl6.out, by omega, O6.out, VF.out, VR6.out, B6.out⟩
              case measure => simp [intOf]; omega
            · skip
              have OLT := Hid.mk O.lt
              have TL : w.heap.size + 2 ≤ wq.heap.size := by omega
              rw [if_pos (by rfl)]
              refine wp_putIw _ _ _ rfl (w.heap.size + 2) c d os j HJ.out rfl O (⟨wd.heap.size, 0, none⟩) 1 z rfl HNC.out (by omega) TL ?_
              intro c4 d4 w4 O4 hg4 hx4
              have VA4 := VA.grownR hg4 (row_ne F2.out)
              have VR4 := VR.grownR hg4 (row_ne F3.out)
              have VG4 := VG.grownR hg4 (row_ne F4.out)
              have B4 := belowG B hg4 (by omega) (fun b hb => by have := (OLT.out b hb).1; omega)
              have O4L := Hid.mk O4.lt
              refine hK0 _ _ ?_
              clear hK0 K0 O VA VR VG B hg4 hx4 OLT TL HNC
              try simp only [Act.put, List.getElem_toArray, List.getElem_cons_zero, List.getElem_cons_succ, List.setIfInBounds_toArray, List.set_cons_zero, List.set_cons_succ]
              replace VG := VG4
              refine wpAny_ready (rs := [1]) (by kernel_rfl) (by simp) ?_
              refine AllReady.cons (o := _) rfl (fun K0 hK0 => ?_) AllReady.nil
              obtain ⟨s_VG, f_VG, z_VG⟩ := VG.open
              go_simp
              refine hK0 _ _ ?_
              clear hK0 K0 s_VG f_VG z_VG
              try simp only [Act.put, List.getElem_toArray, List.getElem_cons_zero, List.getElem_cons_succ, List.setIfInBounds_toArray, List.set_cons_zero, List.set_cons_succ]
              refine wpAny_ready (rs := [6]) (by kernel_rfl) (by simp) ?_
              refine AllReady.cons (o := _) rfl (fun K0 hK0 => ?_) AllReady.nil
              have HT := VA4.there
              have VF := VA4.filled [.int .i64 v.t, .int .i64 v.b] rfl
              have VR6 := VR4.apart (B := w.heap.size) (by omega) 0 [.int .i64 v.t, .int .i64 v.b]
              have O6 := ownCellsW O4 (B := w.heap.size) (by intro b hb; have := (O4L.out b hb).1; omega) 0 [.int .i64 v.t, .int .i64 v.b]
              have B6 := belowCells B4 (Nat.le_refl w.heap.size) 0 [.int .i64 v.t, .int .i64 v.b]
              obtain ⟨w6, hw6⟩ : ∃ w6, World.setCells w4 w.heap.size 0 [.int .i64 v.t, .int .i64 v.b] = w6 := ⟨_, rfl⟩
              rw [hw6] at VF VR6 O6 B6
              refine wp_strokeG w6 25 _ _ rfl (w.heap.size) 0 #[.int .i64 v.t, .int .i64 v.b] rfl rfl HT (by kernel_rfl) (by kernel_rfl) hw6 ?_
              refine hK0 _ _ ?_
              clear hK0 K0 HT VA4 VR4 VG4 VG O4 B4 hw6
              try simp only [Act.put, List.getElem_toArray, List.getElem_cons_zero, List.getElem_cons_succ]
              refine wpAny_take (i := 7) (oi := _) (v := ?vtz3) rfl (by kernel_rfl) (by kernel_rfl) (by kernel_rfl) (fun _ _ _ h => h) (Or.inl ⟨by rfl, ?hytz3⟩) ?resttz3
              case hytz3 => (intro w; go_simp; first | done | with_reducible rfl)
              try simp only [Act.put, List.getElem_toArray, List.getElem_cons_zero, List.getElem_cons_succ, List.setIfInBounds_toArray, List.set_cons_zero, List.set_cons_succ]
              refine wpAny_done (by kernel_rfl) ?_ _
              replace VF := Hid.mk VF
              replace VR6 := Hid.mk VR6
              replace O6 := Hid.mk O6
              replace B6 := Hid.mk B6
              have hl6 : Hid ((os ++ [z]).length = j + 1) := Hid.mk (by rw [List.length_append, HJ.out]; rfl)
              go_wp2
              go_roundw
              case rel => exact ⟨k + 1, j + 1, d4, c4, _, v, by omega, rfl, by go_num, hst0.out, hl6.out, by omega, O6.out, VF.out, VR6.out, B6.out⟩
              case measure => simp [intOf]; omega
        · skip
          have hst0 := Hid.mk (hst.2 hc0)
          simp only [tkR_no hc0] at CT
          have hne : (tkC y z == 0) = false := by simpa using hc0
          generalize tkC y z = kk at *
          clear hst hc0
          obtain ⟨s_VA, f_VA, z_VA⟩ := VA.open
          obtain ⟨s_VR, f_VR, z_VR⟩ := VR.open
          have Bo := B
          go_wp2_with fail
          refine (CT.out _).mono ?_
          rintro e w71 ⟨rfl, b71⟩
          clear s_VA f_VA z_VA s_VR f_VR z_VR
          have S71 := b71.size
          replace VA := VA.kept b71
          replace VR := VR.kept b71
          replace O := O.kept b71
          replace B := thenB B b71
          clear b71
          obtain ⟨s_VA, f_VA, z_VA⟩ := VA.open
          obtain ⟨s_VR, f_VR, z_VR⟩ := VR.open
          have Bo := B
          clear p0
          replace VA := VA.kept (belowA w71 (.cells #[.int .i64 kk, .int .i64 0, .int .i64 0, .int .i64 0] 35))
          replace VR := VR.kept (belowA w71 (.cells #[.int .i64 kk, .int .i64 0, .int .i64 0, .int .i64 0] 35))
          replace O := O.kept (belowA w71 (.cells #[.int .i64 kk, .int .i64 0, .int .i64 0, .int .i64 0] 35))
          replace B := thenB B (belowA w71 (.cells #[.int .i64 kk, .int .i64 0, .int .i64 0, .int .i64 0] 35))
          have VG := V.new w71 [.int .i64 kk, .int .i64 0, .int .i64 0, .int .i64 0] 35
          clear s_VA f_VA z_VA s_VR f_VR z_VR
          obtain ⟨s_VA, f_VA, z_VA⟩ := VA.open
          obtain ⟨s_VR, f_VR, z_VR⟩ := VR.open
          obtain ⟨s_VG, f_VG, z_VG⟩ := VG.open
          have Bo := B
          replace O := Hid.mk O
          replace VA := Hid.mk VA
          replace VR := Hid.mk VR
          replace B := Hid.mk B
          clear Bo VG
          go_wp2
          go_roundw
          case rel => exact ⟨k + 1, j, d, c, os, y, by omega, rfl, by go_num, hst0.out, HJ.out, by omega, O.out, VA.out, VR.out, B.out⟩
          case measure => simp [intOf]; omega
      · obtain rfl : k = n := by omega
        have hk1 : ¬ ((k : Int) < (k : Int)) := by omega
        have hos2 : (tkA x zs).2 = os := by rw [← hn, List.take_length] at hos; rw [hos]
        have HO := Hid.mk (O.mono (show w.heap.size ≤ _ by omega))
        have HC := Hid.mk (fun b hb => (O.lt b hb).1)
        have HJ := Hid.mk hj
        have HOS := Hid.mk hos2
        clear O hj hos hos2
        obtain ⟨s_VA, f_VA, z_VA⟩ := VA.open
        obtain ⟨s_VR, f_VR, z_VR⟩ := VR.open
        have Bo := B
        clear s_VA f_VA z_VA s_VR f_VR z_VR
        have VF := Hid.mk (VR.filled [.int .i64 0, .slice c j d] rfl)
        have BR := belowCells B (show w.heap.size ≤ w.heap.size + 1 by (first | omega | (simp; done) | (simp; omega))) 0 [.int .i64 0, .slice c j d]
        have HT := Hid.mk VR.there
        replace BR := Hid.mk BR
        obtain ⟨s_VA, f_VA, z_VA⟩ := VA.open
        obtain ⟨s_VR, f_VR, z_VR⟩ := VR.open
        go_wp2_with (refine wpList_store_mid rfl 30 _ _ rfl (w.heap.size + 1) 0 #[.int .i64 0, .slice c j d] rfl rfl HT.out (by kernel_rfl) (by kernel_rfl) ?_)
        refine bodyPost_ret (v := .agg #[.int .i64 0, .slice c j d]) (results_row Try.results14 _ _ (w.heap.size + 1) [.int .i64 0, .slice c j d] _ rfl VF.out Try.underlying30 rfl (by kernel_rfl)) rfl ⟨c, d, by rw [HOS.out, HJ.out], HOS.out.symm ▸ ownCellsW HO.out (by intro b hb; have := HC.out b hb; omega) _ _, BR.out⟩

set_option maxRecDepth 20000 in
set_option maxHeartbeats 16000000 in
theorem specAll_ok (x : Wn) (a : Option Addr) (n ca : Nat) (zs : List Int) (hz : ∀ z ∈ zs, -9223372036854775808 ≤ z ∧ z ≤ 9223372036854775807) (w : World) (ha : Rd .i64 w a zs) (hn : zs.length = n) (hx : n ≤ 1048576) :
    Calls Try.prog 15 #[.agg #[.int .i64 x.t, .int .i64 x.b], .slice a n ca] w fun e w' => ∃ c d, e = .returned (.agg #[.int .i64 (taC x zs), .slice c (taL x zs).length d]) ∧ Own .i64 2 w' w.heap.size c d (taL x zs) ∧ Below w.heap.size w w' := by
  have CF := Hid.mk (fun w => specWF_ok x w)
  have q0 := build_iw0
  have q1 := build_iw1
  have qz := build_iwZ
  rcases ta_ways x zs with ⟨h1, e0, e1⟩ | ⟨h1, h2, e0, e1⟩ | ⟨h1, h2, e0, e1⟩
  · have hne : (wF x != 0) = true := by simp [h1]
    rw [e0, e1]
    generalize wF x = kc at *
    clear h1 e0 e1 ha hz
    go_enter Try.func15, Try.ntmps15
    have B := Below.refl w.heap.size w
    have Bo := B
    replace B := thenB B (belowA w (.cells #[.int .i64 x.t, .int .i64 x.b] 25))
    have VA := V.new w [.int .i64 x.t, .int .i64 x.b] 25
    replace VA := VA.kept (belowA (w.alloc (.cells #[.int .i64 x.t, .int .i64 x.b] 25)) (.cells #[.int .i64 0, .slice none 0 0] 30))
    replace B := thenB B (belowA (w.alloc (.cells #[.int .i64 x.t, .int .i64 x.b] 25)) (.cells #[.int .i64 0, .slice none 0 0] 30))
    have VR : V ((w.alloc (.cells #[.int .i64 x.t, .int .i64 x.b] 25)).alloc (.cells #[.int .i64 0, .slice none 0 0] 30)) (w.heap.size + 1) [.int .i64 0, .slice none 0 0] := V.newAt _ _ _ _ (by simp)
    obtain ⟨s_VA, f_VA, z_VA⟩ := VA.open
    obtain ⟨s_VR, f_VR, z_VR⟩ := VR.open
    have Bo := B
    go_wp2_with fail
    refine (CF.out _).mono ?_
    rintro e w1 ⟨rfl, b1⟩
    clear s_VA f_VA z_VA s_VR f_VR z_VR
    have S1 := b1.size
    simp only [World.size_alloc] at S1
    replace VA := VA.kept b1
    replace VR := VR.kept b1
    replace B := thenB B b1
    clear b1
    obtain ⟨s_VA, f_VA, z_VA⟩ := VA.open
    obtain ⟨s_VR, f_VR, z_VR⟩ := VR.open
    have Bo := B
    clear s_VA f_VA z_VA s_VR f_VR z_VR
    have VF := Hid.mk (VR.filled [.int .i64 kc, .slice none 0 0] rfl)
    have BR := belowCells B (show w.heap.size ≤ w.heap.size + 1 by (first | omega | (simp; done) | (simp; omega))) 0 [.int .i64 kc, .slice none 0 0]
    have HT := Hid.mk VR.there
    replace BR := Hid.mk BR
    obtain ⟨s_VA, f_VA, z_VA⟩ := VA.open
    obtain ⟨s_VR, f_VR, z_VR⟩ := VR.open
    go_wp2_with (refine wpList_store_mid rfl 30 _ _ rfl (w.heap.size + 1) 0 #[.int .i64 kc, .slice none 0 0] rfl rfl HT.out (by kernel_rfl) (by kernel_rfl) ?_)
    refine bodyPost_ret (v := .agg #[.int .i64 kc, .slice none 0 0]) (results_row Try.results15 _ _ (w.heap.size + 1) [.int .i64 kc, .slice none 0 0] _ rfl VF.out Try.underlying30 rfl (by kernel_rfl)) rfl ⟨none, 0, rfl, own_none, BR.out⟩
  · rw [e0, e1]
    rw [hn] at h2
    have hd : decide (100 < (n : Int)) = true := by simp; omega
    simp only [h1] at CF
    clear h1 h2 e0 e1 ha hz
    go_enter Try.func15, Try.ntmps15
    have B := Below.refl w.heap.size w
    have Bo := B
    replace B := thenB B (belowA w (.cells #[.int .i64 x.t, .int .i64 x.b] 25))
    have VA := V.new w [.int .i64 x.t, .int .i64 x.b] 25
    replace VA := VA.kept (belowA (w.alloc (.cells #[.int .i64 x.t, .int .i64 x.b] 25)) (.cells #[.int .i64 0, .slice none 0 0] 30))
    replace B := thenB B (belowA (w.alloc (.cells #[.int .i64 x.t, .int .i64 x.b] 25)) (.cells #[.int .i64 0, .slice none 0 0] 30))
    have VR : V ((w.alloc (.cells #[.int .i64 x.t, .int .i64 x.b] 25)).alloc (.cells #[.int .i64 0, .slice none 0 0] 30)) (w.heap.size + 1) [.int .i64 0, .slice none 0 0] := V.newAt _ _ _ _ (by simp)
    obtain ⟨s_VA, f_VA, z_VA⟩ := VA.open
    obtain ⟨s_VR, f_VR, z_VR⟩ := VR.open
    have Bo := B
    go_wp2_with fail
    refine (CF.out _).mono ?_
    rintro e w1 ⟨rfl, b1⟩
    clear s_VA f_VA z_VA s_VR f_VR z_VR
    have S1 := b1.size
    simp only [World.size_alloc] at S1
    replace VA := VA.kept b1
    replace VR := VR.kept b1
    replace B := thenB B b1
    clear b1
    obtain ⟨s_VA, f_VA, z_VA⟩ := VA.open
    obtain ⟨s_VR, f_VR, z_VR⟩ := VR.open
    have Bo := B
    clear s_VA f_VA z_VA s_VR f_VR z_VR
    have VF := Hid.mk (VR.filled [.int .i64 2, .slice none 0 0] rfl)
    have BR := belowCells B (show w.heap.size ≤ w.heap.size + 1 by (first | omega | (simp; done) | (simp; omega))) 0 [.int .i64 2, .slice none 0 0]
    have HT := Hid.mk VR.there
    replace BR := Hid.mk BR
    obtain ⟨s_VA, f_VA, z_VA⟩ := VA.open
    obtain ⟨s_VR, f_VR, z_VR⟩ := VR.open
    go_wp2_with (refine wpList_store_mid rfl 30 _ _ rfl (w.heap.size + 1) 0 #[.int .i64 2, .slice none 0 0] rfl rfl HT.out (by kernel_rfl) (by kernel_rfl) ?_)
    refine bodyPost_ret (v := .agg #[.int .i64 2, .slice none 0 0]) (results_row Try.results15 _ _ (w.heap.size + 1) [.int .i64 2, .slice none 0 0] _ rfl VF.out Try.underlying30 rfl (by kernel_rfl)) rfl ⟨none, 0, rfl, own_none, BR.out⟩
  · rw [e0, e1]
    rw [hn] at h2
    have hd : decide (100 < (n : Int)) = false := by simp; omega
    simp only [h1] at CF
    have HR := Hid.mk ha
    replace h1 := Hid.mk h1
    replace hz := Hid.mk hz
    clear e0 e1 ha
    go_enter Try.func15, Try.ntmps15
    have B := Below.refl w.heap.size w
    have Bo := B
    replace B := thenB B (belowA w (.cells #[.int .i64 x.t, .int .i64 x.b] 25))
    have VA := V.new w [.int .i64 x.t, .int .i64 x.b] 25
    replace VA := VA.kept (belowA (w.alloc (.cells #[.int .i64 x.t, .int .i64 x.b] 25)) (.cells #[.int .i64 0, .slice none 0 0] 30))
    replace B := thenB B (belowA (w.alloc (.cells #[.int .i64 x.t, .int .i64 x.b] 25)) (.cells #[.int .i64 0, .slice none 0 0] 30))
    have VR : V ((w.alloc (.cells #[.int .i64 x.t, .int .i64 x.b] 25)).alloc (.cells #[.int .i64 0, .slice none 0 0] 30)) (w.heap.size + 1) [.int .i64 0, .slice none 0 0] := V.newAt _ _ _ _ (by simp)
    obtain ⟨s_VA, f_VA, z_VA⟩ := VA.open
    obtain ⟨s_VR, f_VR, z_VR⟩ := VR.open
    have Bo := B
    go_wp2_with fail
    refine (CF.out _).mono ?_
    rintro e w1 ⟨rfl, b1⟩
    clear s_VA f_VA z_VA s_VR f_VR z_VR
    have S1 := b1.size
    simp only [World.size_alloc] at S1
    replace VA := VA.kept b1
    replace VR := VR.kept b1
    replace B := thenB B b1
    clear b1
    obtain ⟨s_VA, f_VA, z_VA⟩ := VA.open
    obtain ⟨s_VR, f_VR, z_VR⟩ := VR.open
    have Bo := B
    replace VA := VA.kept (belowA w1 (.cells #[.int .i64 0, .slice none 0 0] 30))
    replace VR := VR.kept (belowA w1 (.cells #[.int .i64 0, .slice none 0 0] 30))
    replace B := thenB B (belowA w1 (.cells #[.int .i64 0, .slice none 0 0] 30))
    have VO := V.new w1 [.int .i64 0, .slice none 0 0] 30
    clear s_VA f_VA z_VA s_VR f_VR z_VR
    obtain ⟨s_VA, f_VA, z_VA⟩ := VA.open
    obtain ⟨s_VR, f_VR, z_VR⟩ := VR.open
    obtain ⟨s_VO, f_VO, z_VO⟩ := VO.open
    have Bo := B
    clear s_VA f_VA z_VA s_VR f_VR z_VR s_VO f_VO z_VO
    have hs2 : w.heap.size + 1 < w1.heap.size := by have := S1; omega
    generalize hQ : w1.heap.size = Q at *
    obtain ⟨s_VA, f_VA, z_VA⟩ := VA.open
    have VA1 := Hid.mk VA
    have VR1 := Hid.mk VR
    have VO1 := Hid.mk VO
    have B1 := Hid.mk B
    clear B VR VA VO Bo CF s_VA f_VA z_VA
    go_wp2
    go_loopw [7] (fun i wr => ∃ (k j d : Nat) (c : Option Addr) (os : List Int) (y : Wn), k ≤ n ∧ i = .int .i64 k ∧ tkA x (zs.take k) = (y, os) ∧ os.length = j ∧ j ≤ k ∧ Own .i64 2 wr (Q + 1) c d os ∧ V wr w.heap.size [.int .i64 y.t, .int .i64 y.b] ∧ V wr (w.heap.size + 1) [.int .i64 0, .slice none 0 0] ∧ V wr Q [.int .i64 0, .slice c j d] ∧ Below w.heap.size w wr) (fun i _ => n - (intOf i).toNat)
    case atStart => exact ⟨0, 0, 0, none, [], x, Nat.zero_le _, rfl, rfl, rfl, Nat.le_refl _, own_none, VA1.out, VR1.out, VO1.out, B1.out⟩
    case round =>
      clear VA1 VR1 VO1 B1
      obtain ⟨k, j, d, c, os, y, hk, rfl, hos, hj, hjk, O, VA, VR, VO, B⟩ := hrel
      by_cases hlt : k < n
      · obtain ⟨z, hz0⟩ : ∃ z, zs.getD k 0 = z := ⟨_, rfl⟩
        have hki : (k : Int) < (n : Int) := by omega
        have hyw : wF y = 0 := by have h9 := tkA_ok (zs.take k) x h1.out; rw [hos] at h9; exact h9
        have hzb : -9223372036854775808 ≤ z ∧ z ≤ 9223372036854775807 := hz.out z (by rw [← hz0, getD_eq zs k (by omega)]; exact List.getElem_mem _)
        have hst := tkA_step (by omega) hz0 hos
        obtain ⟨t1, t2⟩ := tk_whole (s := z) hyw
        have CT := Hid.mk (fun w => l10Take_ok y (wF_ok.mp hyw).1 z hzb w)
        clear t1 t2
        have hwr : w.heap.size + 1 < wr.heap.size := VR.1
        rcases HR.out.kept B with h0 | ⟨b1, o1, rfl, hc⟩
        · rw [h0] at hn; simp at hn; omega
        have p0 := hc k (by omega)
        rw [hz0] at p0
        have hb1 := World.block_lt_of_cell? (a := ⟨b1, o1 + k, none⟩) _ p0
        simp only at hb1
        have HJ := Hid.mk hj
        have hOl := O.lt
        have F2 : Hid (∀ b : Addr, c = some b → b.block ≠ w.heap.size) := Hid.mk (fun b hb => by have := (hOl b hb).1; omega)
        have F3 : Hid (∀ b : Addr, c = some b → b.block ≠ w.heap.size + 1) := Hid.mk (fun b hb => by have := (hOl b hb).1; omega)
        have F5 : Hid (∀ b : Addr, c = some b → b.block ≠ Q) := Hid.mk (fun b hb => by have := (hOl b hb).1; omega)
        have hj100 : j ≤ 1000 := by omega
        clear hj hOl hos hc hyw hzb
        by_cases hc0 : tkC y z = 0

        · skip
          have hst0 := Hid.mk (hst.1 hc0)
          simp only [tkR_yes hc0] at CT
          clear hst hc0
          generalize nxW y z = v at *
          have OL0 := Hid.mk O.lt
          have HZ := Hid.mk hz0
          clear hz0
          have K : ∀ w' : World, Below wr.heap.size wr w' → (w'.cell? ⟨w.heap.size, 0, none⟩ = some (.int .i64 y.t) ∧ w'.cell? ⟨w.heap.size, 1, none⟩ = some (.int .i64 y.b) ∧ w'.cell? ⟨b1, o1 + k, none⟩ = some (.int .i64 z)) := fun w' h => ⟨(VA.kept h).2.1 0 (by simp), (VA.kept h).2.1 1 (by simp), ((bcell h).1 _ _ hb1).trans p0⟩
          have K := Hid.mk K
          clear p0
          go_upto_region 10 with fail
          go_cut [8] (fun p wx => ∃ G, p = .pointer (some ⟨G, 0, none⟩) ∧ V wx G [.int .i64 0, .int .i64 z, .int .i64 v.t, .int .i64 v.b] ∧ V wx (w.heap.size) [.int .i64 y.t, .int .i64 y.b] ∧ V wx ((w.heap.size + 1)) [.int .i64 0, .slice none 0 0] ∧ V wx (Q) [.int .i64 0, .slice c j d] ∧ Below w.heap.size w wx ∧ Below wr.heap.size wr wx ∧ wr.heap.size ≤ G)
          case first =>
            refine wp_region_held_drew (S := (fun w' => w'.cell? ⟨w.heap.size, 0, none⟩ = some (.int .i64 y.t) ∧ w'.cell? ⟨w.heap.size, 1, none⟩ = some (.int .i64 y.b) ∧ w'.cell? ⟨b1, o1 + k, none⟩ = some (.int .i64 z))) (by kernel_rfl) (K.out _ (Below.refl _ _).drew) (fun hHeld => ?_)
            have bd : Below wr.heap.size wr wr.drew := (Below.refl _ _).drew
            generalize wr.drew = wd at *
            refine wpAnyH_take (i := 0) (oi := _) (v := ?vmk41u1) rfl (by kernel_rfl) (by kernel_rfl) (by kernel_rfl) (fun _ _ _ h => h) (Or.inl ⟨by rfl, ?hymk41u1⟩) hHeld ?restmk41u1
            case hymk41u1 => (intro w hSw; (try dsimp only at hSw); go_simp; first | done | with_reducible rfl)
            try simp only [Act.put, List.getElem_toArray, List.getElem_cons_zero, List.setIfInBounds_toArray, List.set_cons_zero, List.set_cons_succ]
            refine wpAnyH_take (i := 1) (oi := _) (v := ?vmk41u2) rfl (by kernel_rfl) (by kernel_rfl) (by kernel_rfl) (fun _ _ _ h => h) (Or.inl ⟨by rfl, ?hymk41u2⟩) hHeld ?restmk41u2
            case hymk41u2 => (intro w hSw; (try dsimp only at hSw); go_simp; first | done | with_reducible rfl)
            try simp only [Act.put, List.getElem_toArray, List.getElem_cons_zero, List.getElem_cons_succ, List.setIfInBounds_toArray, List.set_cons_zero, List.set_cons_succ]
            refine wpAnyH_take (i := 2) (oi := _) (v := ?vmk41u3) rfl (by kernel_rfl) (by kernel_rfl) (by kernel_rfl) (fun _ _ _ h => h) (Or.inl ⟨by rfl, ?hymk41u3⟩) hHeld ?restmk41u3
            case hymk41u3 => (intro w hSw; (try dsimp only at hSw); go_simp; first | done | with_reducible rfl)
            try simp only [Act.put, List.getElem_toArray, List.getElem_cons_zero, List.getElem_cons_succ, List.setIfInBounds_toArray, List.set_cons_zero, List.set_cons_succ]
            refine wpAnyH_take (i := 3) (oi := _) (v := ?vmk41u4) rfl (by kernel_rfl) (by kernel_rfl) (by kernel_rfl) (fun _ _ _ h => h) (Or.inl ⟨by rfl, ?hymk41u4⟩) hHeld ?restmk41u4
            case hymk41u4 => (intro w hSw; (try dsimp only at hSw); go_simp; first | done | with_reducible rfl)
            try simp only [Act.put, List.getElem_toArray, List.getElem_cons_zero, List.getElem_cons_succ, List.setIfInBounds_toArray, List.set_cons_zero, List.set_cons_succ]
            refine wpAnyH_take (i := 4) (oi := _) (v := ?vmk41u5) rfl (by kernel_rfl) (by kernel_rfl) (by kernel_rfl) (fun _ _ _ h => h) (Or.inl ⟨by rfl, ?hymk41u5⟩) hHeld ?restmk41u5
            case hymk41u5 => (intro w hSw; (try dsimp only at hSw); go_simp; first | done | with_reducible rfl)
            try simp only [Act.put, List.getElem_toArray, List.getElem_cons_zero, List.getElem_cons_succ, List.setIfInBounds_toArray, List.set_cons_zero, List.set_cons_succ]
            refine wpAnyH_ready (rs := [5, 6]) (by kernel_rfl) (by simp) ?_
            refine AllReadyH.cons (o := _) rfl (fun K0 hK0 => ?_) (AllReadyH.cons (o := _) rfl (fun K0 hK0 => ?_) AllReadyH.nil)
            · skip
              go_simp
              go_at_call 44
              refine (CT.out _).mono ?_
              rintro e wmk416 ⟨rfl, bmk416⟩
              refine hK0.out _ _ (K.out _ (thenB bd bmk416)) (fun hHeld => ?_)
              clear hK0 K0
              try simp only [Act.put, List.getElem_toArray, List.getElem_cons_zero, List.getElem_cons_succ, List.setIfInBounds_toArray, List.set_cons_zero, List.set_cons_succ]
              refine wpAnyH_ready (rs := [6]) (by kernel_rfl) (by simp) ?_
              refine AllReadyH.cons (o := _) rfl (fun K0 hK0 => ?_) AllReadyH.nil
              go_simp
              refine hK0.out _ _ (K.out _ (thenB (thenB bd bmk416) (belowA wmk416 (.cells #[.int .i64 0, .int .i64 0, .int .i64 0, .int .i64 0] 35)))) (fun hHeld => ?_)
              clear hK0 K0
              try simp only [Act.put, List.getElem_toArray, List.getElem_cons_zero, List.getElem_cons_succ, List.setIfInBounds_toArray, List.set_cons_zero, List.set_cons_succ]
              have VN : V (wmk416.alloc (.cells #[.int .i64 0, .int .i64 0, .int .i64 0, .int .i64 0] 35)) wmk416.heap.size [.int .i64 0, .int .i64 0, .int .i64 0, .int .i64 0] := V.new _ _ _
              have bqmk417 := belowA wmk416 (.cells #[.int .i64 0, .int .i64 0, .int .i64 0, .int .i64 0] 35)
              generalize wmk416.alloc (.cells #[.int .i64 0, .int .i64 0, .int .i64 0, .int .i64 0] 35) = wqmk417 at *
              refine wpAnyH_ready (rs := [7]) (by kernel_rfl) (by simp) ?_
              refine AllReadyH.cons (o := _) rfl (fun K0 hK0 => ?_) AllReadyH.nil
              rw [if_pos (by rfl)]
              have hT := VN.there
              have VF := VN.filled [.int .i64 0, .int .i64 z, .int .i64 v.t, .int .i64 v.b] rfl
              have hle := ((thenB bd bmk416)).size
              have bF := belowCells ((thenB (thenB bd bmk416) bqmk417)) hle 0 [.int .i64 0, .int .i64 z, .int .i64 v.t, .int .i64 v.b]
              refine wp_store_mid _ _ _ rfl (wmk416.heap.size) 0 #[.int .i64 0, .int .i64 z, .int .i64 v.t, .int .i64 v.b] rfl rfl hT (by kernel_rfl) (by kernel_rfl) ?_
              refine hK0.out _ _ (K.out _ bF) (fun hHeld => ?_)
              clear hK0 K0
              refine wpAnyH_done (by kernel_rfl) ?_ _
              go_wp2_with fail
              go_meet
              exact ⟨wmk416.heap.size, rfl, VF, VA.kept bF, VR.kept bF, VO.kept bF, thenB B bF, bF, hle⟩
            · skip
              go_simp
              refine hK0.out _ _ (K.out _ (thenB bd (belowA wd (.cells #[.int .i64 0, .int .i64 0, .int .i64 0, .int .i64 0] 35)))) (fun hHeld => ?_)
              clear hK0 K0
              try simp only [Act.put, List.getElem_toArray, List.getElem_cons_zero, List.getElem_cons_succ, List.setIfInBounds_toArray, List.set_cons_zero, List.set_cons_succ]
              have VN : V (wd.alloc (.cells #[.int .i64 0, .int .i64 0, .int .i64 0, .int .i64 0] 35)) wd.heap.size [.int .i64 0, .int .i64 0, .int .i64 0, .int .i64 0] := V.new _ _ _
              have bqmk418 := belowA wd (.cells #[.int .i64 0, .int .i64 0, .int .i64 0, .int .i64 0] 35)
              generalize wd.alloc (.cells #[.int .i64 0, .int .i64 0, .int .i64 0, .int .i64 0] 35) = wqmk418 at *
              refine wpAnyH_ready (rs := [5]) (by kernel_rfl) (by simp) ?_
              refine AllReadyH.cons (o := _) rfl (fun K0 hK0 => ?_) AllReadyH.nil
              go_simp
              go_at_call 44
              refine (CT.out _).mono ?_
              rintro e wmk419 ⟨rfl, bmk419⟩
              replace VN := VN.kept bmk419
              refine hK0.out _ _ (K.out _ (thenB (thenB bd bqmk418) bmk419)) (fun hHeld => ?_)
              clear hK0 K0
              try simp only [Act.put, List.getElem_toArray, List.getElem_cons_zero, List.getElem_cons_succ, List.setIfInBounds_toArray, List.set_cons_zero, List.set_cons_succ]
              refine wpAnyH_ready (rs := [7]) (by kernel_rfl) (by simp) ?_
              refine AllReadyH.cons (o := _) rfl (fun K0 hK0 => ?_) AllReadyH.nil
              rw [if_pos (by rfl)]
              have hT := VN.there
              have VF := VN.filled [.int .i64 0, .int .i64 z, .int .i64 v.t, .int .i64 v.b] rfl
              have hle := (bd).size
              have bF := belowCells ((thenB (thenB bd bqmk418) bmk419)) hle 0 [.int .i64 0, .int .i64 z, .int .i64 v.t, .int .i64 v.b]
              refine wp_store_mid _ _ _ rfl (wd.heap.size) 0 #[.int .i64 0, .int .i64 z, .int .i64 v.t, .int .i64 v.b] rfl rfl hT (by kernel_rfl) (by kernel_rfl) ?_
              refine hK0.out _ _ (K.out _ bF) (fun hHeld => ?_)
              clear hK0 K0
              refine wpAnyH_done (by kernel_rfl) ?_ _
              go_wp2_with fail
              go_meet
              exact ⟨wd.heap.size, rfl, VF, VA.kept bF, VR.kept bF, VO.kept bF, thenB B bF, bF, hle⟩
          case rest =>
            clear VA VR VO B K
            obtain ⟨G, rfl, VG, VA, VR, VO, B, BQ, hG⟩ := hcut
            replace O := O.kept BQ
            obtain ⟨s_VA, f_VA, z_VA⟩ := VA.open
            obtain ⟨s_VR, f_VR, z_VR⟩ := VR.open
            obtain ⟨s_VO, f_VO, z_VO⟩ := VO.open
            obtain ⟨s_VG, f_VG, z_VG⟩ := VG.open
            have Bo := B
            have F4 : Hid (∀ b : Addr, c = some b → b.block ≠ G) := Hid.mk (fun b hb => by have := (OL0.out b hb).2; omega)
            clear s_VA f_VA z_VA s_VR f_VR z_VR s_VO f_VO z_VO s_VG f_VG z_VG
            have hVA := VA.1
            have hVR := VR.1
            have hVO := VO.1
            have hVG := VG.1
            have HT := Hid.mk VA.there
            have VF := VA.filled [.int .i64 v.t, .int .i64 v.b] rfl
            have VR6 := VR.apart (B := w.heap.size) (by omega) 0 [.int .i64 v.t, .int .i64 v.b]
            have VO6 := VO.apart (B := w.heap.size) (by omega) 0 [.int .i64 v.t, .int .i64 v.b]
            have VG6 := VG.apart (B := w.heap.size) (by omega) 0 [.int .i64 v.t, .int .i64 v.b]
            have O6 := ownCellsW O (B := w.heap.size) F2.out 0 [.int .i64 v.t, .int .i64 v.b]
            have B6 := belowCells B (Nat.le_refl w.heap.size) 0 [.int .i64 v.t, .int .i64 v.b]
            obtain ⟨w6, hw6⟩ : ∃ w6, World.setCells wc w.heap.size 0 [.int .i64 v.t, .int .i64 v.b] = w6 := ⟨_, rfl⟩
            rw [hw6] at VF VR6 VO6 VG6 O6 B6
            replace hw6 := Hid.mk hw6
            have c0 := VG.2.1 0 (by simp)
            have c2 := VG.2.1 2 (by simp)
            have c3 := VG.2.1 3 (by simp)
            simp only [List.getElem?_cons_zero, List.getElem?_cons_succ] at c0 c2 c3
            skip
            go_upto_region 12 with fail
            go_wp2_with (refine wpList_stroke w6 rfl 25 _ _ rfl (w.heap.size) 0 #[.int .i64 v.t, .int .i64 v.b] rfl rfl HT.out (by kernel_rfl) (by kernel_rfl) hw6.out ?_)
            clear c0 c2 c3 hw6 HT VA VR VO VG O B Bo hVA hVR hVO hVG
            have VA := VF
            have VR := VR6
            have VO := VO6
            have O := O6
            have B := B6
            clear VF VR6 VO6 VG6 O6 B6
            go_upto_region 13 with fail
            refine wp_region_any (by kernel_rfl) ?_
            change wpAny _ _ _ _ _ _ _ w6.drew
            have bd : Below w6.heap.size w6 w6.drew := (Below.refl _ _).drew
            replace O := O.kept bd
            replace VA := VA.kept bd
            replace VR := VR.kept bd
            replace VO := VO.kept bd
            replace B := thenB B bd
            clear bd
            generalize w6.drew = wd at *
            have hVA := VA.1
            have hVR := VR.1
            have hVO := VO.1
            rcases HR.out.kept B with h0 | ⟨b2, o2, e2, hc⟩
            · rw [h0] at hn; simp at hn; omega
            simp only [Option.some.injEq, Addr.mk.injEq, and_true] at e2
            obtain ⟨rfl, rfl⟩ := e2
            have p0 := hc k (by omega)
            rw [HZ.out] at p0
            clear hc
            refine wpAny_take (i := 0) (oi := _) (v := ?vtk0) rfl (by kernel_rfl) (by kernel_rfl) (by kernel_rfl) (fun _ _ _ h => h) (Or.inl ⟨by rfl, ?hytk0⟩) ?resttk0
            case hytk0 => (intro w; go_simp; first | done | with_reducible rfl)
            try simp only [Act.put, List.getElem_toArray, List.getElem_cons_zero, List.setIfInBounds_toArray, List.set_cons_zero, List.set_cons_succ]
            refine wpAny_take (i := 2) (oi := _) (v := ?vtk2) rfl (by kernel_rfl) (by kernel_rfl) (by kernel_rfl) (fun _ _ _ h => h) (Or.inl ⟨by rfl, ?hytk2⟩) ?resttk2
            case hytk2 => (intro w; go_simp; first | done | with_reducible rfl)
            try simp only [Act.put, List.getElem_toArray, List.getElem_cons_zero, List.getElem_cons_succ, List.setIfInBounds_toArray, List.set_cons_zero, List.set_cons_succ]
            refine wpAny_take (i := 3) (oi := _) (v := ?vtk3) rfl (by kernel_rfl) (by kernel_rfl) (by kernel_rfl) (fun _ _ _ h => h) (Or.inl ⟨by rfl, ?hytk3⟩) ?resttk3
            case hytk3 => (intro w; go_simp; first | done | with_reducible rfl)
            try simp only [Act.put, List.getElem_toArray, List.getElem_cons_zero, List.getElem_cons_succ, List.setIfInBounds_toArray, List.set_cons_zero, List.set_cons_succ]
            refine wpAny_take (i := 4) (oi := _) (v := ?vtk4) rfl (by kernel_rfl) (by kernel_rfl) (by kernel_rfl) (fun _ _ _ h => h) (Or.inl ⟨by rfl, ?hytk4⟩) ?resttk4
            case hytk4 => (intro w; go_simp; first | done | with_reducible rfl)
            try simp only [Act.put, List.getElem_toArray, List.getElem_cons_zero, List.getElem_cons_succ, List.setIfInBounds_toArray, List.set_cons_zero, List.set_cons_succ]
            refine wpAny_ready (rs := [1, 5]) (by kernel_rfl) (by simp) ?_
            refine AllReady.cons (o := _) rfl (fun K0 hK0 => ?_) (AllReady.cons (o := _) rfl (fun K0 hK0 => ?_) AllReady.nil)
            · skip
              obtain ⟨s_VO, f_VO, z_VO⟩ := VO.open
              go_simp
              refine hK0 _ _ ?_
              clear hK0 K0 s_VO f_VO z_VO
              try simp only [Act.put, List.getElem_toArray, List.getElem_cons_zero, List.getElem_cons_succ, List.setIfInBounds_toArray, List.set_cons_zero, List.set_cons_succ]
              refine wpAny_ready (rs := [5]) (by kernel_rfl) (by simp) ?_
              refine AllReady.cons (o := _) rfl (fun K0 hK0 => ?_) AllReady.nil
              go_simp
              refine hK0 _ _ ?_
              clear hK0 K0 p0
              try simp only [Act.put, List.getElem_toArray, List.getElem_cons_zero, List.getElem_cons_succ, List.setIfInBounds_toArray, List.set_cons_zero, List.set_cons_succ]
              refine wpAny_ready (rs := [6]) (by kernel_rfl) (by simp) ?_
              refine AllReady.cons (o := _) rfl (fun K0 hK0 => ?_) AllReady.nil
              go_simp
              refine hK0 _ _ ?_
              clear hK0 K0
              try simp only [Act.put, List.getElem_toArray, List.getElem_cons_zero, List.getElem_cons_succ, List.setIfInBounds_toArray, List.set_cons_zero, List.set_cons_succ]
              have bq := belowA wd (.cells #[.int .i64 z] 2)
              have HNC := cell_one' wd 2 (.int .i64 z) 0 _ rfl
              replace O := O.kept bq
              replace VA := VA.kept bq
              replace VR := VR.kept bq
              replace VO := VO.kept bq
              replace B := thenB B bq
              change (wd.alloc (.cells #[.int .i64 z] 2)).cell? ((⟨wd.heap.size, 0, none⟩ : Addr).add 0) = some (.int .i64 z) at HNC
              have hsq : (wd.alloc (.cells #[.int .i64 z] 2)).heap.size = wd.heap.size + 1 := by simp
              generalize wd.alloc (.cells #[.int .i64 z] 2) = wq at *
              replace HNC := Hid.mk HNC
              refine wpAny_ready (rs := [7]) (by kernel_rfl) (by simp) ?_
              refine AllReady.cons (o := _) rfl (fun K0 hK0 => ?_) AllReady.nil
              have OLT := Hid.mk O.lt
              have TL : Q + 1 ≤ wq.heap.size := by omega
              rw [if_pos (by rfl)]
              refine wp_putIw _ _ _ rfl (Q + 1) c d os j HJ.out rfl O (⟨wd.heap.size, 0, none⟩) 1 z rfl HNC.out (by omega) TL ?_
              intro c4 d4 w4 O4 hg4 hx4
              have VA4 := VA.grownR hg4 (row_ne F2.out)
              have VR4 := VR.grownR hg4 (row_ne F3.out)
              have VO4 := VO.grownR hg4 (row_ne F5.out)
              have B4 := belowG B hg4 (by omega) (fun b hb => by have := (OLT.out b hb).1; omega)
              refine hK0 _ _ ?_
              clear hK0 K0 O VA VR VO B hg4 hx4 OLT TL HNC
              try simp only [Act.put, List.getElem_toArray, List.getElem_cons_zero, List.getElem_cons_succ, List.setIfInBounds_toArray, List.set_cons_zero, List.set_cons_succ]
              refine wpAny_take (i := 8) (oi := _) (v := ?vtz1) rfl (by kernel_rfl) (by kernel_rfl) (by kernel_rfl) (fun _ _ _ h => h) (Or.inl ⟨by rfl, ?hytz1⟩) ?resttz1
              case hytz1 => (intro w; go_simp; first | done | with_reducible rfl)
              try simp only [Act.put, List.getElem_toArray, List.getElem_cons_zero, List.getElem_cons_succ, List.setIfInBounds_toArray, List.set_cons_zero, List.set_cons_succ]
              refine wpAny_ready (rs := [9]) (by kernel_rfl) (by simp) ?_
              refine AllReady.cons (o := _) rfl (fun K0 hK0 => ?_) AllReady.nil
              obtain ⟨s_VO, f_VO, z_VO⟩ := VO4.open
              go_simp
              refine hK0 _ _ ?_
              clear hK0 K0 s_VO f_VO z_VO
              refine wpAny_done (by kernel_rfl) ?_ _
              have VO5 := VO4.set (i := 1) (by simp) (.slice c4 (j + 1) d4)
              simp only [List.set_cons_zero, List.set_cons_succ] at VO5
              have O7 := Hid.mk (O4.below (p := ⟨Q, 1, none⟩) (Nat.lt_succ_self _) (.slice c4 (j + 1) d4))
              have VA7 := Hid.mk (VA4.other (p := ⟨Q, 1, none⟩) (by simp only; omega) (.slice c4 (j + 1) d4))
              have VR7 := Hid.mk (VR4.other (p := ⟨Q, 1, none⟩) (by simp only; omega) (.slice c4 (j + 1) d4))
              have B7 := Hid.mk (B4.setCell (p := ⟨Q, 1, none⟩) (by simp only; omega) (.slice c4 (j + 1) d4))
              have VO7 := Hid.mk VO5
              have hl6 : Hid ((os ++ [z]).length = j + 1) := Hid.mk (by rw [List.length_append, HJ.out]; rfl)
              clear VO5 O4 VA4 VR4 B4 VO4
              go_wp2
              go_roundw
              case rel => exact ⟨k + 1, j + 1, d4, c4, _, v, by omega, by go_num, hst0.out, hl6.out, by omega, O7.out, VA7.out, VR7.out, VO7.out, B7.out⟩
              case measure => simp [intOf]; omega
            · skip
              go_simp
              refine hK0 _ _ ?_
              clear hK0 K0 p0
              try simp only [Act.put, List.getElem_toArray, List.getElem_cons_zero, List.getElem_cons_succ, List.setIfInBounds_toArray, List.set_cons_zero, List.set_cons_succ]
              refine wpAny_ready (rs := [1, 6]) (by kernel_rfl) (by simp) ?_
              refine AllReady.cons (o := _) rfl (fun K0 hK0 => ?_) (AllReady.cons (o := _) rfl (fun K0 hK0 => ?_) AllReady.nil)
              · skip
                obtain ⟨s_VO, f_VO, z_VO⟩ := VO.open
                go_simp
                refine hK0 _ _ ?_
                clear hK0 K0 s_VO f_VO z_VO
                try simp only [Act.put, List.getElem_toArray, List.getElem_cons_zero, List.getElem_cons_succ, List.setIfInBounds_toArray, List.set_cons_zero, List.set_cons_succ]
                refine wpAny_ready (rs := [6]) (by kernel_rfl) (by simp) ?_
                refine AllReady.cons (o := _) rfl (fun K0 hK0 => ?_) AllReady.nil
                go_simp
                refine hK0 _ _ ?_
                clear hK0 K0
                try simp only [Act.put, List.getElem_toArray, List.getElem_cons_zero, List.getElem_cons_succ, List.setIfInBounds_toArray, List.set_cons_zero, List.set_cons_succ]
                have bq := belowA wd (.cells #[.int .i64 z] 2)
                have HNC := cell_one' wd 2 (.int .i64 z) 0 _ rfl
                replace O := O.kept bq
                replace VA := VA.kept bq
                replace VR := VR.kept bq
                replace VO := VO.kept bq
                replace B := thenB B bq
                change (wd.alloc (.cells #[.int .i64 z] 2)).cell? ((⟨wd.heap.size, 0, none⟩ : Addr).add 0) = some (.int .i64 z) at HNC
                have hsq : (wd.alloc (.cells #[.int .i64 z] 2)).heap.size = wd.heap.size + 1 := by simp
                generalize wd.alloc (.cells #[.int .i64 z] 2) = wq at *
                replace HNC := Hid.mk HNC
                refine wpAny_ready (rs := [7]) (by kernel_rfl) (by simp) ?_
                refine AllReady.cons (o := _) rfl (fun K0 hK0 => ?_) AllReady.nil
                have OLT := Hid.mk O.lt
                have TL : Q + 1 ≤ wq.heap.size := by omega
                rw [if_pos (by rfl)]
                refine wp_putIw _ _ _ rfl (Q + 1) c d os j HJ.out rfl O (⟨wd.heap.size, 0, none⟩) 1 z rfl HNC.out (by omega) TL ?_
                intro c4 d4 w4 O4 hg4 hx4
                have VA4 := VA.grownR hg4 (row_ne F2.out)
                have VR4 := VR.grownR hg4 (row_ne F3.out)
                have VO4 := VO.grownR hg4 (row_ne F5.out)
                have B4 := belowG B hg4 (by omega) (fun b hb => by have := (OLT.out b hb).1; omega)
                refine hK0 _ _ ?_
                clear hK0 K0 O VA VR VO B hg4 hx4 OLT TL HNC
                try simp only [Act.put, List.getElem_toArray, List.getElem_cons_zero, List.getElem_cons_succ, List.setIfInBounds_toArray, List.set_cons_zero, List.set_cons_succ]
                refine wpAny_take (i := 8) (oi := _) (v := ?vtz2) rfl (by kernel_rfl) (by kernel_rfl) (by kernel_rfl) (fun _ _ _ h => h) (Or.inl ⟨by rfl, ?hytz2⟩) ?resttz2
                case hytz2 => (intro w; go_simp; first | done | with_reducible rfl)
                try simp only [Act.put, List.getElem_toArray, List.getElem_cons_zero, List.getElem_cons_succ, List.setIfInBounds_toArray, List.set_cons_zero, List.set_cons_succ]
                refine wpAny_ready (rs := [9]) (by kernel_rfl) (by simp) ?_
                refine AllReady.cons (o := _) rfl (fun K0 hK0 => ?_) AllReady.nil
                obtain ⟨s_VO, f_VO, z_VO⟩ := VO4.open
                go_simp
                refine hK0 _ _ ?_
                clear hK0 K0 s_VO f_VO z_VO
                refine wpAny_done (by kernel_rfl) ?_ _
                have VO5 := VO4.set (i := 1) (by simp) (.slice c4 (j + 1) d4)
                simp only [List.set_cons_zero, List.set_cons_succ] at VO5
                have O7 := Hid.mk (O4.below (p := ⟨Q, 1, none⟩) (Nat.lt_succ_self _) (.slice c4 (j + 1) d4))
                have VA7 := Hid.mk (VA4.other (p := ⟨Q, 1, none⟩) (by simp only; omega) (.slice c4 (j + 1) d4))
                have VR7 := Hid.mk (VR4.other (p := ⟨Q, 1, none⟩) (by simp only; omega) (.slice c4 (j + 1) d4))
                have B7 := Hid.mk (B4.setCell (p := ⟨Q, 1, none⟩) (by simp only; omega) (.slice c4 (j + 1) d4))
                have VO7 := Hid.mk VO5
                have hl6 : Hid ((os ++ [z]).length = j + 1) := Hid.mk (by rw [List.length_append, HJ.out]; rfl)
                clear VO5 O4 VA4 VR4 B4 VO4
                go_wp2
                go_roundw
                case rel => exact ⟨k + 1, j + 1, d4, c4, _, v, by omega, by go_num, hst0.out, hl6.out, by omega, O7.out, VA7.out, VR7.out, VO7.out, B7.out⟩
                case measure => simp [intOf]; omega
              · skip
                go_simp
                refine hK0 _ _ ?_
                clear hK0 K0
                try simp only [Act.put, List.getElem_toArray, List.getElem_cons_zero, List.getElem_cons_succ, List.setIfInBounds_toArray, List.set_cons_zero, List.set_cons_succ]
                have bq := belowA wd (.cells #[.int .i64 z] 2)
                have HNC := cell_one' wd 2 (.int .i64 z) 0 _ rfl
                replace O := O.kept bq
                replace VA := VA.kept bq
                replace VR := VR.kept bq
                replace VO := VO.kept bq
                replace B := thenB B bq
                change (wd.alloc (.cells #[.int .i64 z] 2)).cell? ((⟨wd.heap.size, 0, none⟩ : Addr).add 0) = some (.int .i64 z) at HNC
                have hsq : (wd.alloc (.cells #[.int .i64 z] 2)).heap.size = wd.heap.size + 1 := by simp
                generalize wd.alloc (.cells #[.int .i64 z] 2) = wq at *
                replace HNC := Hid.mk HNC
                refine wpAny_ready (rs := [1]) (by kernel_rfl) (by simp) ?_
                refine AllReady.cons (o := _) rfl (fun K0 hK0 => ?_) AllReady.nil
                obtain ⟨s_VO, f_VO, z_VO⟩ := VO.open
                go_simp
                refine hK0 _ _ ?_
                clear hK0 K0 s_VO f_VO z_VO
                try simp only [Act.put, List.getElem_toArray, List.getElem_cons_zero, List.getElem_cons_succ, List.setIfInBounds_toArray, List.set_cons_zero, List.set_cons_succ]
                refine wpAny_ready (rs := [7]) (by kernel_rfl) (by simp) ?_
                refine AllReady.cons (o := _) rfl (fun K0 hK0 => ?_) AllReady.nil
                have OLT := Hid.mk O.lt
                have TL : Q + 1 ≤ wq.heap.size := by omega
                rw [if_pos (by rfl)]
                refine wp_putIw _ _ _ rfl (Q + 1) c d os j HJ.out rfl O (⟨wd.heap.size, 0, none⟩) 1 z rfl HNC.out (by omega) TL ?_
                intro c4 d4 w4 O4 hg4 hx4
                have VA4 := VA.grownR hg4 (row_ne F2.out)
                have VR4 := VR.grownR hg4 (row_ne F3.out)
                have VO4 := VO.grownR hg4 (row_ne F5.out)
                have B4 := belowG B hg4 (by omega) (fun b hb => by have := (OLT.out b hb).1; omega)
                refine hK0 _ _ ?_
                clear hK0 K0 O VA VR VO B hg4 hx4 OLT TL HNC
                try simp only [Act.put, List.getElem_toArray, List.getElem_cons_zero, List.getElem_cons_succ, List.setIfInBounds_toArray, List.set_cons_zero, List.set_cons_succ]
                refine wpAny_take (i := 8) (oi := _) (v := ?vtz3) rfl (by kernel_rfl) (by kernel_rfl) (by kernel_rfl) (fun _ _ _ h => h) (Or.inl ⟨by rfl, ?hytz3⟩) ?resttz3
                case hytz3 => (intro w; go_simp; first | done | with_reducible rfl)
                try simp only [Act.put, List.getElem_toArray, List.getElem_cons_zero, List.getElem_cons_succ, List.setIfInBounds_toArray, List.set_cons_zero, List.set_cons_succ]
                refine wpAny_ready (rs := [9]) (by kernel_rfl) (by simp) ?_
                refine AllReady.cons (o := _) rfl (fun K0 hK0 => ?_) AllReady.nil
                obtain ⟨s_VO, f_VO, z_VO⟩ := VO4.open
                go_simp
                refine hK0 _ _ ?_
                clear hK0 K0 s_VO f_VO z_VO
                refine wpAny_done (by kernel_rfl) ?_ _
                have VO5 := VO4.set (i := 1) (by simp) (.slice c4 (j + 1) d4)
                simp only [List.set_cons_zero, List.set_cons_succ] at VO5
                have O7 := Hid.mk (O4.below (p := ⟨Q, 1, none⟩) (Nat.lt_succ_self _) (.slice c4 (j + 1) d4))
                have VA7 := Hid.mk (VA4.other (p := ⟨Q, 1, none⟩) (by simp only; omega) (.slice c4 (j + 1) d4))
                have VR7 := Hid.mk (VR4.other (p := ⟨Q, 1, none⟩) (by simp only; omega) (.slice c4 (j + 1) d4))
                have B7 := Hid.mk (B4.setCell (p := ⟨Q, 1, none⟩) (by simp only; omega) (.slice c4 (j + 1) d4))
                have VO7 := Hid.mk VO5
                have hl6 : Hid ((os ++ [z]).length = j + 1) := Hid.mk (by rw [List.length_append, HJ.out]; rfl)
                clear VO5 O4 VA4 VR4 B4 VO4
                go_wp2
                go_roundw
                case rel => exact ⟨k + 1, j + 1, d4, c4, _, v, by omega, by go_num, hst0.out, hl6.out, by omega, O7.out, VA7.out, VR7.out, VO7.out, B7.out⟩
                case measure => simp [intOf]; omega
        · skip
          have hst0 := Hid.mk (hst.2 hc0)
          simp only [tkR_no hc0] at CT
          have hne : (tkC y z == 0) = false := by simpa using hc0
          generalize tkC y z = kk at *
          clear hst hc0
          have HZ := Hid.mk hz0
          clear hz0
          have K : ∀ w' : World, Below wr.heap.size wr w' → (w'.cell? ⟨w.heap.size, 0, none⟩ = some (.int .i64 y.t) ∧ w'.cell? ⟨w.heap.size, 1, none⟩ = some (.int .i64 y.b) ∧ w'.cell? ⟨b1, o1 + k, none⟩ = some (.int .i64 z)) := fun w' h => ⟨(VA.kept h).2.1 0 (by simp), (VA.kept h).2.1 1 (by simp), ((bcell h).1 _ _ hb1).trans p0⟩
          have K := Hid.mk K
          clear p0
          go_upto_region 10 with fail
          go_cut [8] (fun p wx => ∃ G, p = .pointer (some ⟨G, 0, none⟩) ∧ V wx G [.int .i64 kk, .int .i64 0, .int .i64 0, .int .i64 0] ∧ V wx (w.heap.size) [.int .i64 y.t, .int .i64 y.b] ∧ V wx ((w.heap.size + 1)) [.int .i64 0, .slice none 0 0] ∧ V wx (Q) [.int .i64 0, .slice c j d] ∧ Below w.heap.size w wx ∧ Below wr.heap.size wr wx ∧ wr.heap.size ≤ G)
          case first =>
            refine wp_region_held_drew (S := (fun w' => w'.cell? ⟨w.heap.size, 0, none⟩ = some (.int .i64 y.t) ∧ w'.cell? ⟨w.heap.size, 1, none⟩ = some (.int .i64 y.b) ∧ w'.cell? ⟨b1, o1 + k, none⟩ = some (.int .i64 z))) (by kernel_rfl) (K.out _ (Below.refl _ _).drew) (fun hHeld => ?_)
            have bd : Below wr.heap.size wr wr.drew := (Below.refl _ _).drew
            generalize wr.drew = wd at *
            refine wpAnyH_take (i := 0) (oi := _) (v := ?vmk71u1) rfl (by kernel_rfl) (by kernel_rfl) (by kernel_rfl) (fun _ _ _ h => h) (Or.inl ⟨by rfl, ?hymk71u1⟩) hHeld ?restmk71u1
            case hymk71u1 => (intro w hSw; (try dsimp only at hSw); go_simp; first | done | with_reducible rfl)
            try simp only [Act.put, List.getElem_toArray, List.getElem_cons_zero, List.setIfInBounds_toArray, List.set_cons_zero, List.set_cons_succ]
            refine wpAnyH_take (i := 1) (oi := _) (v := ?vmk71u2) rfl (by kernel_rfl) (by kernel_rfl) (by kernel_rfl) (fun _ _ _ h => h) (Or.inl ⟨by rfl, ?hymk71u2⟩) hHeld ?restmk71u2
            case hymk71u2 => (intro w hSw; (try dsimp only at hSw); go_simp; first | done | with_reducible rfl)
            try simp only [Act.put, List.getElem_toArray, List.getElem_cons_zero, List.getElem_cons_succ, List.setIfInBounds_toArray, List.set_cons_zero, List.set_cons_succ]
            refine wpAnyH_take (i := 2) (oi := _) (v := ?vmk71u3) rfl (by kernel_rfl) (by kernel_rfl) (by kernel_rfl) (fun _ _ _ h => h) (Or.inl ⟨by rfl, ?hymk71u3⟩) hHeld ?restmk71u3
            case hymk71u3 => (intro w hSw; (try dsimp only at hSw); go_simp; first | done | with_reducible rfl)
            try simp only [Act.put, List.getElem_toArray, List.getElem_cons_zero, List.getElem_cons_succ, List.setIfInBounds_toArray, List.set_cons_zero, List.set_cons_succ]
            refine wpAnyH_take (i := 3) (oi := _) (v := ?vmk71u4) rfl (by kernel_rfl) (by kernel_rfl) (by kernel_rfl) (fun _ _ _ h => h) (Or.inl ⟨by rfl, ?hymk71u4⟩) hHeld ?restmk71u4
            case hymk71u4 => (intro w hSw; (try dsimp only at hSw); go_simp; first | done | with_reducible rfl)
            try simp only [Act.put, List.getElem_toArray, List.getElem_cons_zero, List.getElem_cons_succ, List.setIfInBounds_toArray, List.set_cons_zero, List.set_cons_succ]
            refine wpAnyH_take (i := 4) (oi := _) (v := ?vmk71u5) rfl (by kernel_rfl) (by kernel_rfl) (by kernel_rfl) (fun _ _ _ h => h) (Or.inl ⟨by rfl, ?hymk71u5⟩) hHeld ?restmk71u5
            case hymk71u5 => (intro w hSw; (try dsimp only at hSw); go_simp; first | done | with_reducible rfl)
            try simp only [Act.put, List.getElem_toArray, List.getElem_cons_zero, List.getElem_cons_succ, List.setIfInBounds_toArray, List.set_cons_zero, List.set_cons_succ]
            refine wpAnyH_ready (rs := [5, 6]) (by kernel_rfl) (by simp) ?_
            refine AllReadyH.cons (o := _) rfl (fun K0 hK0 => ?_) (AllReadyH.cons (o := _) rfl (fun K0 hK0 => ?_) AllReadyH.nil)
            · skip
              go_simp
              go_at_call 44
              refine (CT.out _).mono ?_
              rintro e wmk716 ⟨rfl, bmk716⟩
              refine hK0.out _ _ (K.out _ (thenB bd bmk716)) (fun hHeld => ?_)
              clear hK0 K0
              try simp only [Act.put, List.getElem_toArray, List.getElem_cons_zero, List.getElem_cons_succ, List.setIfInBounds_toArray, List.set_cons_zero, List.set_cons_succ]
              refine wpAnyH_ready (rs := [6]) (by kernel_rfl) (by simp) ?_
              refine AllReadyH.cons (o := _) rfl (fun K0 hK0 => ?_) AllReadyH.nil
              go_simp
              refine hK0.out _ _ (K.out _ (thenB (thenB bd bmk716) (belowA wmk716 (.cells #[.int .i64 0, .int .i64 0, .int .i64 0, .int .i64 0] 35)))) (fun hHeld => ?_)
              clear hK0 K0
              try simp only [Act.put, List.getElem_toArray, List.getElem_cons_zero, List.getElem_cons_succ, List.setIfInBounds_toArray, List.set_cons_zero, List.set_cons_succ]
              have VN : V (wmk716.alloc (.cells #[.int .i64 0, .int .i64 0, .int .i64 0, .int .i64 0] 35)) wmk716.heap.size [.int .i64 0, .int .i64 0, .int .i64 0, .int .i64 0] := V.new _ _ _
              have bqmk717 := belowA wmk716 (.cells #[.int .i64 0, .int .i64 0, .int .i64 0, .int .i64 0] 35)
              generalize wmk716.alloc (.cells #[.int .i64 0, .int .i64 0, .int .i64 0, .int .i64 0] 35) = wqmk717 at *
              refine wpAnyH_ready (rs := [7]) (by kernel_rfl) (by simp) ?_
              refine AllReadyH.cons (o := _) rfl (fun K0 hK0 => ?_) AllReadyH.nil
              rw [if_pos (by rfl)]
              have hT := VN.there
              have VF := VN.filled [.int .i64 kk, .int .i64 0, .int .i64 0, .int .i64 0] rfl
              have hle := ((thenB bd bmk716)).size
              have bF := belowCells ((thenB (thenB bd bmk716) bqmk717)) hle 0 [.int .i64 kk, .int .i64 0, .int .i64 0, .int .i64 0]
              refine wp_store_mid _ _ _ rfl (wmk716.heap.size) 0 #[.int .i64 kk, .int .i64 0, .int .i64 0, .int .i64 0] rfl rfl hT (by kernel_rfl) (by kernel_rfl) ?_
              refine hK0.out _ _ (K.out _ bF) (fun hHeld => ?_)
              clear hK0 K0
              refine wpAnyH_done (by kernel_rfl) ?_ _
              go_wp2_with fail
              go_meet
              exact ⟨wmk716.heap.size, rfl, VF, VA.kept bF, VR.kept bF, VO.kept bF, thenB B bF, bF, hle⟩
            · skip
              go_simp
              refine hK0.out _ _ (K.out _ (thenB bd (belowA wd (.cells #[.int .i64 0, .int .i64 0, .int .i64 0, .int .i64 0] 35)))) (fun hHeld => ?_)
              clear hK0 K0
              try simp only [Act.put, List.getElem_toArray, List.getElem_cons_zero, List.getElem_cons_succ, List.setIfInBounds_toArray, List.set_cons_zero, List.set_cons_succ]
              have VN : V (wd.alloc (.cells #[.int .i64 0, .int .i64 0, .int .i64 0, .int .i64 0] 35)) wd.heap.size [.int .i64 0, .int .i64 0, .int .i64 0, .int .i64 0] := V.new _ _ _
              have bqmk718 := belowA wd (.cells #[.int .i64 0, .int .i64 0, .int .i64 0, .int .i64 0] 35)
              generalize wd.alloc (.cells #[.int .i64 0, .int .i64 0, .int .i64 0, .int .i64 0] 35) = wqmk718 at *
              refine wpAnyH_ready (rs := [5]) (by kernel_rfl) (by simp) ?_
              refine AllReadyH.cons (o := _) rfl (fun K0 hK0 => ?_) AllReadyH.nil
              go_simp
              go_at_call 44
              refine (CT.out _).mono ?_
              rintro e wmk719 ⟨rfl, bmk719⟩
              replace VN := VN.kept bmk719
              refine hK0.out _ _ (K.out _ (thenB (thenB bd bqmk718) bmk719)) (fun hHeld => ?_)
              clear hK0 K0
              try simp only [Act.put, List.getElem_toArray, List.getElem_cons_zero, List.getElem_cons_succ, List.setIfInBounds_toArray, List.set_cons_zero, List.set_cons_succ]
              refine wpAnyH_ready (rs := [7]) (by kernel_rfl) (by simp) ?_
              refine AllReadyH.cons (o := _) rfl (fun K0 hK0 => ?_) AllReadyH.nil
              rw [if_pos (by rfl)]
              have hT := VN.there
              have VF := VN.filled [.int .i64 kk, .int .i64 0, .int .i64 0, .int .i64 0] rfl
              have hle := (bd).size
              have bF := belowCells ((thenB (thenB bd bqmk718) bmk719)) hle 0 [.int .i64 kk, .int .i64 0, .int .i64 0, .int .i64 0]
              refine wp_store_mid _ _ _ rfl (wd.heap.size) 0 #[.int .i64 kk, .int .i64 0, .int .i64 0, .int .i64 0] rfl rfl hT (by kernel_rfl) (by kernel_rfl) ?_
              refine hK0.out _ _ (K.out _ bF) (fun hHeld => ?_)
              clear hK0 K0
              refine wpAnyH_done (by kernel_rfl) ?_ _
              go_wp2_with fail
              go_meet
              exact ⟨wd.heap.size, rfl, VF, VA.kept bF, VR.kept bF, VO.kept bF, thenB B bF, bF, hle⟩
          case rest =>
            clear VA VR VO B K
            obtain ⟨G, rfl, VG, VA, VR, VO, B, BQ, hG⟩ := hcut
            replace O := O.kept BQ
            obtain ⟨s_VA, f_VA, z_VA⟩ := VA.open
            obtain ⟨s_VR, f_VR, z_VR⟩ := VR.open
            obtain ⟨s_VO, f_VO, z_VO⟩ := VO.open
            obtain ⟨s_VG, f_VG, z_VG⟩ := VG.open
            have Bo := B
            replace O := Hid.mk O
            replace VA := Hid.mk VA
            replace VR := Hid.mk VR
            replace VO := Hid.mk VO
            replace B := Hid.mk B
            clear Bo
            go_wp2
            go_roundw
            case rel => exact ⟨k + 1, j, d, c, os, y, by omega, by go_num, hst0.out, HJ.out, by omega, O.out, VA.out, VR.out, VO.out, B.out⟩
            case measure => simp [intOf]; omega
      · obtain rfl : k = n := by omega
        have hk1 : ¬ ((k : Int) < (k : Int)) := by omega
        have hos2 : (tkA x zs).2 = os := by rw [← hn, List.take_length] at hos; rw [hos]
        have HO := Hid.mk (O.mono (show w.heap.size ≤ _ by omega))
        have HC := Hid.mk (fun b hb => (O.lt b hb).1)
        have HJ := Hid.mk hj
        have HOS := Hid.mk hos2
        clear O hj hos hos2
        obtain ⟨s_VA, f_VA, z_VA⟩ := VA.open
        obtain ⟨s_VR, f_VR, z_VR⟩ := VR.open
        obtain ⟨s_VO, f_VO, z_VO⟩ := VO.open
        have Bo := B
        clear s_VA f_VA z_VA s_VR f_VR z_VR s_VO f_VO z_VO
        have VF := Hid.mk (VR.filled [.int .i64 0, .slice c j d] rfl)
        have BR := belowCells B (show w.heap.size ≤ w.heap.size + 1 by (first | omega | (simp; done) | (simp; omega))) 0 [.int .i64 0, .slice c j d]
        have HT := Hid.mk VR.there
        replace BR := Hid.mk BR
        obtain ⟨s_VA, f_VA, z_VA⟩ := VA.open
        obtain ⟨s_VR, f_VR, z_VR⟩ := VR.open
        obtain ⟨s_VO, f_VO, z_VO⟩ := VO.open
        go_wp2_with (refine wpList_store_mid rfl 30 _ _ rfl (w.heap.size + 1) 0 #[.int .i64 0, .slice c j d] rfl rfl HT.out (by kernel_rfl) (by kernel_rfl) ?_)
        refine bodyPost_ret (v := .agg #[.int .i64 0, .slice c j d]) (results_row Try.results15 _ _ (w.heap.size + 1) [.int .i64 0, .slice c j d] _ rfl VF.out Try.underlying30 rfl (by kernel_rfl)) rfl ⟨c, d, by rw [HOS.out, HJ.out], HOS.out.symm ▸ ownCellsW HO.out (by intro b hb; have := HC.out b hb; omega) _ _, BR.out⟩

end Go.Proofs.Ytkpdbdcfimdnjaa
