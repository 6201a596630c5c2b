/- The law FnWindows: its walk. -/
import Derived.Test.YtkpdbdcfimdnjaaWnL
namespace Go.Proofs.Ytkpdbdcfimdnjaa
open Go.RowKit

/-- Is a number in a list? -/
def hasW (zs : List Int) (v : Int) : Bool := zs.any (fun z => z == v)

theorem hasW_drop (zs : List Int) (v : Int) (k : Nat) (h : k < zs.length) {z : Int} (hz : zs.getD k 0 = z) : hasW (zs.drop k) v = ((z == v) || hasW (zs.drop (k + 1)) v) := by
  have e : zs[k] = z := by rw [← hz, getD_eq zs k h]
  unfold hasW
  rw [List.drop_eq_getElem_cons h, e]
  rfl

theorem hasW_once {zs : List Int} (h : zs.Nodup) {k : Nat} (hk : k < zs.length) {z : Int} (hz : zs.getD k 0 = z) : hasW (zs.take k) z = false := by
  have e : zs[k] = z := by rw [← hz, getD_eq zs k hk]
  unfold hasW
  rw [List.any_eq_false]
  intro x hx
  obtain ⟨i, hi, rfl⟩ := List.getElem_of_mem hx
  have hi2 : i < k := by rw [List.length_take] at hi; omega
  rw [List.getElem_take]
  have h2 := (List.pairwise_iff_getElem.mp h) i k (by omega) hk hi2
  rw [e] at h2
  simpa using h2

theorem Rd.takeW {k : IntKind} {w : World} {a : Option Addr} {zs : List Int} (h : Rd k w a zs) (n : Nat) : Rd k w a (zs.take n) := by
  rcases h with h | ⟨b, off, e, hc⟩
  · left; rw [h]; simp
  · refine .inr ⟨b, off, e, fun i hi => ?_⟩
    have hi2 : i < zs.length ∧ i < n := by rw [List.length_take] at hi; omega
    rw [hc i hi2.1]
    simp [List.getD, hi2.2]

set_option maxHeartbeats 1000000 in
theorem lwHasW_ok (a : Option Addr) (n ca : Nat) (zs : List Int) (v : Int) (w : World) (ha : Rd .i64 w a zs) (hn : zs.length = n) (hx : n ≤ maxLen) :
    Calls Try.prog 16 #[.slice a n ca, .int .i64 v] w fun e w' => e = .returned (.bool (hasW zs v)) ∧ Below w.heap.size w w' := by
  unfold maxLen at hx
  go_enter Try.func16, Try.ntmps16
  go_wp2
  go_loopw [5] (fun i wr => ∃ k : Nat, k ≤ n ∧ i = .int .i64 k ∧ hasW (zs.drop k) v = hasW zs v ∧ Below w.heap.size w wr) (fun i _ => n - (intOf i).toNat)
  case atStart => exact ⟨0, Nat.zero_le _, rfl, rfl, Below.refl _ _⟩
  case round =>
    obtain ⟨k, hk, rfl, hdr, B⟩ := hrel
    by_cases hlt : k < n
    · obtain ⟨z, hz⟩ : ∃ z, zs.getD k 0 = z := ⟨_, rfl⟩
      have hk1 : (k : Int) < (n : Int) := by omega
      have hs := hasW_drop zs v k (by omega) hz
      rw [hdr] at hs
      replace ha := ha.kept B
      rcases ha with ha | ⟨b1, o1, rfl, hca⟩
      · simp [ha] at hn; omega
      have p0 := hca k (by omega)
      rw [hz] at p0
      clear hca hz hdr
      cases hg : (z == v)
      · rw [hg, Bool.false_or] at hs
        have HS := Hid.mk hs
        clear hs
        go_wp2
        go_roundw
        case rel => exact ⟨k + 1, by omega, by go_num, HS.out.symm, B⟩
        case measure => simp [intOf]; omega
      · rw [hg, Bool.true_or] at hs
        have HS := Hid.mk hs
        clear hs
        go_wp2
        go_ret
        exact ⟨ret_bool HS.out.symm, B⟩
    · have hkn : k = n := by omega
      subst hkn
      rw [List.drop_of_length_le (by omega)] at hdr
      have HS := Hid.mk hdr
      clear hdr
      go_wp2
      go_ret
      exact ⟨ret_bool HS.out, B⟩

theorem fieldNR0 (a b : Value) (w : World) : (Instr.field 30 (.agg #[a, b]) 0).run Try.prog w = .ok a w := by kernel_rfl

theorem fieldNR1 (a b : Value) (w : World) : (Instr.field 30 (.agg #[a, b]) 1).run Try.prog w = .ok b w := by kernel_rfl

/-- What the law asks of a number that was taken. -/
theorem taken_seen {y : Wn} {s : Int} (hw : wF y = 0) (hc : tkC y s = 0) : seenW (nxW y s) s = true ∧ wF (nxW y s) = 0 ∧ ¬ tsC (nxW y s) s = 0 ∧ ¬ (nxW y s).t < y.t := by
  have h1 := nx_seen hw (.inl rfl : s = s ∨ seenW y s = true)
  refine ⟨h1, nx_ok hw hc, seen_code h1, ?_⟩
  rw [nx_top]
  omega

set_option maxRecDepth 20000 in
set_option maxHeartbeats 32000000 in
theorem xWnw_walk (a : Option Addr) (n ca : Nat) (zs : List Int) (w : World) (ha : Rd .u8 w a zs) (hb : Bytes zs) (hn : zs.length = n) :
    Calls Try.prog 3 #[.slice a n ca] w fun e w' => e = .returned (.bool true) ∧ Below w.heap.size w w' := by
  by_cases hbig : 1048576 < n
  · have h1 : (1048576 : Int) < (n : Int) := by omega
    go_enter Try.func3, Try.ntmps3
    go_wp2_with (first | (go_at_call 12; go_in) | fail)
    go_ret
    exact ⟨rfl, Below.refl _ _⟩
  have h1 : ¬ (1048576 : Int) < (n : Int) := by omega
  have CD := Hid.mk (drawTakeAll_ok a n ca zs w ha hb hn (by omega))
  clear ha hb hn hbig
  go_enter Try.func3, Try.ntmps3
  go_wp2_with (first | (go_at_call 12; go_in) | fail)
  refine CD.out.mono ?_
  rintro e wA ⟨y, c, d, j, ls, rfl, hy, ⟨hlj, hj101, hz⟩, RL, HB⟩
  have HB0 := Hid.mk HB
  have e0 := extractW0
  have e1 := extractW1
  have qf := fieldWR0
  have qn0 := fieldNR0
  have qn1 := fieldNR1
  have CAi := Hid.mk (fun w h => implAll_ok y (some ⟨c, 0, none⟩) j d ls hz w h hlj (by omega))
  have CAs := Hid.mk (fun w h => specAll_ok y (some ⟨c, 0, none⟩) j d ls hz w h hlj (by omega))
  have HL := Hid.mk RL
  have hzb : Hid (∀ z ∈ (tkA y ls).2, -9223372036854775808 ≤ z ∧ z ≤ 9223372036854775807) := Hid.mk (fun q hq => hz q (by
    have hsub : ∀ (l : List Int) (x : Wn), ∀ v ∈ (tkA x l).2, v ∈ l := by
      intro l
      induction l with
      | nil => intro x v hv; simp [tkA] at hv
      | cons z l ih =>
        intro x v hv
        by_cases h : tkC x z = 0
        · rw [tkA_yes _ h] at hv
          rcases List.mem_cons.mp hv with h2 | h2
          · rw [h2]; exact List.mem_cons_self
          · exact List.mem_cons_of_mem _ (ih _ v h2)
        · rw [tkA_no _ h] at hv
          exact List.mem_cons_of_mem _ (ih _ v hv)
    exact hsub ls y q hq))
  have hways := ta_ways y ls
  have htl := taL_len y ls
  obtain ⟨kl, hkl⟩ : ∃ m, (taL y ls).length = m := ⟨_, rfl⟩
  rw [hkl] at CAi CAs htl
  clear CD HB RL hz hlj
  have B := Below.refl wA.heap.size wA
  by_cases hc : taC y ls = 0
  · skip
    have hw : wF y = 0 := by rcases hways with ⟨h, h2, _⟩ | ⟨h, _⟩ | ⟨h, _⟩; exact absurd (h2 ▸ hc) h; exact h; exact h
    have hta : taL y ls = (tkA y ls).2 := by
      rcases hways with ⟨h, _⟩ | ⟨_, _, h, _⟩ | ⟨_, _, _, h⟩
      · exact absurd hw h
      · rw [h] at hc; omega
      · exact h
    simp only [hc] at CAi CAs
    rw [hta] at hkl
    simp only [hta] at CAi CAs
    have hone := Hid.mk (tkA_once ls y hw)
    have hnew := Hid.mk (tkA_new ls y hw)
    have hmi : miL y = misL y := by rcases mi_ways y with ⟨h, _⟩ | ⟨_, h⟩; exact absurd hw h; exact h
    have hml := miL_len y
    have hmis := Hid.mk (misL_in hw)
    have CMi := Hid.mk (fun w => implMissing_ok y w)
    simp only [hw, hmi] at CMi
    rw [hmi] at hml
    have hMB : Hid (∀ q ∈ misL y, -9223372036854775808 ≤ q ∧ q ≤ 9223372036854775807) := Hid.mk (fun q hq => by
      have h1 := (misL_in hw q hq).2
      have h2 := (wF_ok.mp hw).1.2.1
      have h3 : frW y ≤ q := by
        unfold misL misK at hq
        rw [List.mem_filter, List.mem_map] at hq
        obtain ⟨⟨i, _, rfl⟩, _⟩ := hq
        omega
      unfold frW at h3
      omega)
    generalize misL y = ms at *
    obtain ⟨ml, hmlen⟩ : ∃ m, ms.length = m := ⟨_, rfl⟩
    rw [hmlen] at CMi hml
    generalize (tkA y ls).2 = os at *
    replace hw := Hid.mk hw
    replace hkl := Hid.mk hkl
    replace hmlen := Hid.mk hmlen
    clear hc hta hways hmi
    replace B := thenB B (belowA wA (.cells #[.int .i64 y.t, .int .i64 y.b] 25))
    have VA := V.new wA [.int .i64 y.t, .int .i64 y.b] 25
    obtain ⟨s_VA, f_VA, z_VA⟩ := VA.open
    have Bo := B
    go_wp2_with fail
    refine (CAi.out _ (HL.out.kept B)).mono ?_
    rintro e w101 ⟨c1, d1, rfl, O, b101⟩
    clear s_VA f_VA z_VA
    have S101 := b101.size
    simp only [World.size_alloc] at S101
    replace VA := VA.kept b101
    replace B := thenB B b101
    clear b101
    obtain ⟨s_VA, f_VA, z_VA⟩ := VA.open
    have Bo := B
    have hOQ : Hid (∀ b : Addr, c1 = some b → b.block < w101.heap.size) := Hid.mk (fun b hb => (O.lt b hb).2)
    replace VA := VA.kept (belowA w101 (.cells #[.int .i64 0, .slice c1 kl d1] 30))
    replace O := O.kept (belowA w101 (.cells #[.int .i64 0, .slice c1 kl d1] 30))
    replace B := thenB B (belowA w101 (.cells #[.int .i64 0, .slice c1 kl d1] 30))
    have VR := V.new w101 [.int .i64 0, .slice c1 kl d1] 30
    clear s_VA f_VA z_VA
    obtain ⟨s_VA, f_VA, z_VA⟩ := VA.open
    obtain ⟨s_VR, f_VR, z_VR⟩ := VR.open
    have Bo := B
    clear s_VA f_VA z_VA s_VR f_VR z_VR
    have hAQ : wA.heap.size < w101.heap.size := by have h9 := VA.1; have h8 := VR.1; (try simp only [World.size_alloc] at h9 h8); omega
    generalize hQ : w101.heap.size = Q at *
    obtain ⟨s_VA, f_VA, z_VA⟩ := VA.open
    obtain ⟨s_VR, f_VR, z_VR⟩ := VR.open
    have VA1 := Hid.mk VA
    have VR1 := Hid.mk VR
    have O1 := Hid.mk O
    have B1 := Hid.mk B
    clear B VA VR O Bo
    go_wp2
    go_loopw [6] (fun i wr => ∃ k : Nat, k ≤ kl ∧ i = .int .i64 k ∧ Own .i64 2 wr (wA.heap.size + 1) c1 d1 os ∧ V wr wA.heap.size [.int .i64 y.t, .int .i64 y.b] ∧ V wr Q [.int .i64 0, .slice c1 kl d1] ∧ Below wA.heap.size wA wr) (fun i _ => kl - (intOf i).toNat)
    case atStart => exact ⟨0, Nat.zero_le _, rfl, by first | exact O1.out | exact O1.out.mono (by omega) | exact O1.out.mono (by simp), VA1.out, VR1.out, B1.out⟩
    case round =>
      clear O1 VA1 VR1 B1 s_VA f_VA z_VA s_VR f_VR z_VR
      obtain ⟨k, hk, rfl, O, VA, VR, B⟩ := hrel
      by_cases hlt : k < kl
      · obtain ⟨z, hz0⟩ : ∃ z, os.getD k 0 = z := ⟨_, rfl⟩
        have hlen := hkl.out
        have hki : (k : Int) < (kl : Int) := by omega
        have hmem : z ∈ os := by rw [← hz0, getD_eq os k (by omega)]; exact List.getElem_mem _
        have hzz := hzb.out z hmem
        have hcap : os.length ≤ d1 := O.cap
        have hkd : (k : Int) ≤ (d1 : Int) := by omega
        have hsn : seenW y z = false := hnew.out z hmem
        have hhs := hasW_once hone.out (by omega) hz0
        have CH := Hid.mk (fun a ca w h => lwHasW_ok a k ca (os.take k) z w h (by rw [List.length_take]; omega) (by unfold maxLen; omega))
        rw [hhs] at CH
        have CSn := Hid.mk (fun w => implSeen_ok y z hzz w)
        simp only [hsn] at CSn
        obtain ⟨b1, rfl, _⟩ := O.some_of (by omega)
        have hcx := O.rd
        rcases hcx with h0 | ⟨b2, o2, e2, hca⟩
        · rw [h0] at hlen; simp at hlen; omega
        simp only [Option.some.injEq, Addr.mk.injEq, and_true] at e2
        obtain ⟨rfl, rfl⟩ := e2
        have p0 := hca k (by omega)
        rw [hz0, Nat.zero_add] at p0
        have hb1 := World.block_lt_of_cell? (a := ⟨b1, k, none⟩) _ p0
        simp only at hb1
        have HZV := Hid.mk hz0
        have CTk := Hid.mk (fun w => implTake_ok y z hzz w)
        obtain ⟨_, htr⟩ := tk_whole (s := z) hw.out
        rw [htr] at CTk
        clear hca hz0 hhs hsn hcap hlen htr hmem
        obtain ⟨s_VA, f_VA, z_VA⟩ := VA.open
        obtain ⟨s_VR, f_VR, z_VR⟩ := VR.open
        have Bo := B
        go_upto_region 10 with fail
        clear s_VA f_VA z_VA s_VR f_VR z_VR
        have K : ∀ w' : World, Below wr.heap.size wr w' → (w'.cell? ⟨wA.heap.size, 0, none⟩ = some (.int .i64 y.t) ∧ w'.cell? ⟨wA.heap.size, 1, none⟩ = some (.int .i64 y.b) ∧ w'.cell? ⟨Q, 0, none⟩ = some (.int .i64 0) ∧ w'.cell? ⟨Q, 1, none⟩ = some (.slice (some ⟨b1, 0, none⟩) kl d1) ∧ w'.cell? ⟨b1, k, none⟩ = some (.int .i64 z)) := fun w' h => ⟨(VA.kept h).2.1 0 (by simp), (VA.kept h).2.1 1 (by simp), (VR.kept h).2.1 0 (by simp), (VR.kept h).2.1 1 (by simp), ((bcell h).1 _ _ hb1).trans p0⟩
        have K := Hid.mk K
        clear p0
        refine wp_region_held_drew (S := (fun w' => w'.cell? ⟨wA.heap.size, 0, none⟩ = some (.int .i64 y.t) ∧ w'.cell? ⟨wA.heap.size, 1, none⟩ = some (.int .i64 y.b) ∧ w'.cell? ⟨Q, 0, none⟩ = some (.int .i64 0) ∧ w'.cell? ⟨Q, 1, none⟩ = some (.slice (some ⟨b1, 0, none⟩) kl d1) ∧ w'.cell? ⟨b1, k, none⟩ = some (.int .i64 z))) (by kernel_rfl) (K.out _ (Below.refl _ _).drew) (fun hHeld => ?_)
        refine wpAnyH_take (i := 0) (oi := _) (v := ?vz201u1) rfl (by kernel_rfl) (by kernel_rfl) (by kernel_rfl) (fun _ _ _ h => h) (Or.inl ⟨by kernel_rfl, ?hyz201u1⟩) hHeld ?restz201u1
        case hyz201u1 => (intro w hSw; (try dsimp only at hSw); go_simp; first | done | with_reducible rfl)
        try simp only [Act.put, List.getElem_toArray, List.getElem_cons_zero, List.setIfInBounds_toArray, List.set_cons_zero, List.set_cons_succ]
        refine wpAnyH_take (i := 1) (oi := _) (v := ?vz201u2) rfl (by kernel_rfl) (by kernel_rfl) (by kernel_rfl) (fun _ _ _ h => h) (Or.inl ⟨by kernel_rfl, ?hyz201u2⟩) hHeld ?restz201u2
        case hyz201u2 => (intro w hSw; (try dsimp only at hSw); go_simp; first | done | with_reducible rfl)
        try simp only [Act.put, List.getElem_toArray, List.getElem_cons_zero, List.getElem_cons_succ, List.setIfInBounds_toArray, List.set_cons_zero, List.set_cons_succ]
        refine wpAnyH_take (i := 2) (oi := _) (v := ?vz201u3) rfl (by kernel_rfl) (by kernel_rfl) (by kernel_rfl) (fun _ _ _ h => h) (Or.inl ⟨by kernel_rfl, ?hyz201u3⟩) hHeld ?restz201u3
        case hyz201u3 => (intro w hSw; (try dsimp only at hSw); go_simp; first | done | with_reducible rfl)
        try simp only [Act.put, List.getElem_toArray, List.getElem_cons_zero, List.getElem_cons_succ, List.setIfInBounds_toArray, List.set_cons_zero, List.set_cons_succ]
        refine wpAnyH_take (i := 3) (oi := _) (v := ?vz201u4) rfl (by kernel_rfl) (by kernel_rfl) (by kernel_rfl) (fun _ _ _ h => h) (Or.inl ⟨by kernel_rfl, ?hyz201u4⟩) hHeld ?restz201u4
        case hyz201u4 => (intro w hSw; (try dsimp only at hSw); go_simp; first | done | with_reducible rfl)
        try simp only [Act.put, List.getElem_toArray, List.getElem_cons_zero, List.getElem_cons_succ, List.setIfInBounds_toArray, List.set_cons_zero, List.set_cons_succ]
        refine wpAnyH_take (i := 4) (oi := _) (v := ?vz201u5) rfl (by kernel_rfl) (by kernel_rfl) (by kernel_rfl) (fun _ _ _ h => h) (Or.inl ⟨by kernel_rfl, ?hyz201u5⟩) hHeld ?restz201u5
        case hyz201u5 => (intro w hSw; (try dsimp only at hSw); go_simp; first | done | with_reducible rfl)
        try simp only [Act.put, List.getElem_toArray, List.getElem_cons_zero, List.getElem_cons_succ, List.setIfInBounds_toArray, List.set_cons_zero, List.set_cons_succ]
        refine wpAnyH_take (i := 5) (oi := _) (v := ?vz201u6) rfl (by kernel_rfl) (by kernel_rfl) (by kernel_rfl) (fun _ _ _ h => h) (Or.inl ⟨by kernel_rfl, ?hyz201u6⟩) hHeld ?restz201u6
        case hyz201u6 => (intro w hSw; (try dsimp only at hSw); go_simp; first | done | with_reducible rfl)
        try simp only [Act.put, List.getElem_toArray, List.getElem_cons_zero, List.getElem_cons_succ, List.setIfInBounds_toArray, List.set_cons_zero, List.set_cons_succ]
        refine wpAnyH_take (i := 6) (oi := _) (v := ?vz201u7) rfl (by kernel_rfl) (by kernel_rfl) (by kernel_rfl) (fun _ _ _ h => h) (Or.inl ⟨by kernel_rfl, ?hyz201u7⟩) hHeld ?restz201u7
        case hyz201u7 => (intro w hSw; (try dsimp only at hSw); go_simp; first | done | with_reducible rfl)
        try simp only [Act.put, List.getElem_toArray, List.getElem_cons_zero, List.getElem_cons_succ, List.setIfInBounds_toArray, List.set_cons_zero, List.set_cons_succ]
        refine wpAnyH_take (i := 7) (oi := _) (v := ?vz201u8) rfl (by kernel_rfl) (by kernel_rfl) (by kernel_rfl) (fun _ _ _ h => h) (Or.inl ⟨by kernel_rfl, ?hyz201u8⟩) hHeld ?restz201u8
        case hyz201u8 => (intro w hSw; (try dsimp only at hSw); go_simp; first | done | with_reducible rfl)
        try simp only [Act.put, List.getElem_toArray, List.getElem_cons_zero, List.getElem_cons_succ, List.setIfInBounds_toArray, List.set_cons_zero, List.set_cons_succ]
        refine wpAnyH_take (i := 8) (oi := _) (v := ?vz201u9) rfl (by kernel_rfl) (by kernel_rfl) (by kernel_rfl) (fun _ _ _ h => h) (Or.inl ⟨by kernel_rfl, ?hyz201u9⟩) hHeld ?restz201u9
        case hyz201u9 => (intro w hSw; (try dsimp only at hSw); go_simp; first | done | with_reducible rfl)
        try simp only [Act.put, List.getElem_toArray, List.getElem_cons_zero, List.getElem_cons_succ, List.setIfInBounds_toArray, List.set_cons_zero, List.set_cons_succ]
        refine wpAnyH_ready (rs := [9]) (by kernel_rfl) (by simp) ?_
        refine AllReadyH.cons (o := _) rfl (fun K0 hK0 => ?_) AllReadyH.nil
        go_simp
        go_at_call 16
        refine (CH.out _ _ _ ((O.kept (Below.refl _ _).drew).rd.takeW k)).mono ?_
        rintro e wz201v10 ⟨rfl, bz201v10⟩
        refine hK0.out _ _ (K.out _ (thenB (Below.refl _ _).drew bz201v10)) (fun hHeld => ?_)
        clear hK0 K0
        try simp only [Act.put, List.getElem_toArray, List.getElem_cons_zero, List.getElem_cons_succ, List.setIfInBounds_toArray, List.set_cons_zero, List.set_cons_succ]
        refine wpAnyH_take (i := 10) (oi := _) (v := ?vz201u11) rfl (by kernel_rfl) (by kernel_rfl) (by kernel_rfl) (fun _ _ _ h => h) (Or.inl ⟨by kernel_rfl, ?hyz201u11⟩) hHeld ?restz201u11
        case hyz201u11 => (intro w hSw; (try dsimp only at hSw); go_simp; first | done | with_reducible rfl)
        try simp only [Act.put, List.getElem_toArray, List.getElem_cons_zero, List.getElem_cons_succ, List.setIfInBounds_toArray, List.set_cons_zero, List.set_cons_succ]
        refine wpAnyH_take (i := 11) (oi := _) (v := ?vz201u12) rfl (by kernel_rfl) (by kernel_rfl) (by kernel_rfl) (fun _ _ _ h => h) (Or.inl ⟨by kernel_rfl, ?hyz201u12⟩) hHeld ?restz201u12
        case hyz201u12 => (intro w hSw; (try dsimp only at hSw); go_simp; first | done | with_reducible rfl)
        try simp only [Act.put, List.getElem_toArray, List.getElem_cons_zero, List.getElem_cons_succ, List.setIfInBounds_toArray, List.set_cons_zero, List.set_cons_succ]
        refine wpAnyH_take (i := 12) (oi := _) (v := ?vz201u13) rfl (by kernel_rfl) (by kernel_rfl) (by kernel_rfl) (fun _ _ _ h => h) (Or.inl ⟨by kernel_rfl, ?hyz201u13⟩) hHeld ?restz201u13
        case hyz201u13 => (intro w hSw; (try dsimp only at hSw); go_simp; first | done | with_reducible rfl)
        try simp only [Act.put, List.getElem_toArray, List.getElem_cons_zero, List.getElem_cons_succ, List.setIfInBounds_toArray, List.set_cons_zero, List.set_cons_succ]
        refine wpAnyH_take (i := 13) (oi := _) (v := ?vz201u14) rfl (by kernel_rfl) (by kernel_rfl) (by kernel_rfl) (fun _ _ _ h => h) (Or.inl ⟨by kernel_rfl, ?hyz201u14⟩) hHeld ?restz201u14
        case hyz201u14 => (intro w hSw; (try dsimp only at hSw); go_simp; first | done | with_reducible rfl)
        try simp only [Act.put, List.getElem_toArray, List.getElem_cons_zero, List.getElem_cons_succ, List.setIfInBounds_toArray, List.set_cons_zero, List.set_cons_succ]
        refine wpAnyH_take (i := 14) (oi := _) (v := ?vz201u15) rfl (by kernel_rfl) (by kernel_rfl) (by kernel_rfl) (fun _ _ _ h => h) (Or.inl ⟨by kernel_rfl, ?hyz201u15⟩) hHeld ?restz201u15
        case hyz201u15 => (intro w hSw; (try dsimp only at hSw); go_simp; first | done | with_reducible rfl)
        try simp only [Act.put, List.getElem_toArray, List.getElem_cons_zero, List.getElem_cons_succ, List.setIfInBounds_toArray, List.set_cons_zero, List.set_cons_succ]
        refine wpAnyH_take (i := 15) (oi := _) (v := ?vz201u16) rfl (by kernel_rfl) (by kernel_rfl) (by kernel_rfl) (fun _ _ _ h => h) (Or.inl ⟨by kernel_rfl, ?hyz201u16⟩) hHeld ?restz201u16
        case hyz201u16 => (intro w hSw; (try dsimp only at hSw); go_simp; first | done | with_reducible rfl)
        try simp only [Act.put, List.getElem_toArray, List.getElem_cons_zero, List.getElem_cons_succ, List.setIfInBounds_toArray, List.set_cons_zero, List.set_cons_succ]
        refine wpAnyH_take (i := 16) (oi := _) (v := ?vz201u17) rfl (by kernel_rfl) (by kernel_rfl) (by kernel_rfl) (fun _ _ _ h => h) (Or.inl ⟨by kernel_rfl, ?hyz201u17⟩) hHeld ?restz201u17
        case hyz201u17 => (intro w hSw; (try dsimp only at hSw); go_simp; first | done | with_reducible rfl)
        try simp only [Act.put, List.getElem_toArray, List.getElem_cons_zero, List.getElem_cons_succ, List.setIfInBounds_toArray, List.set_cons_zero, List.set_cons_succ]
        refine wpAnyH_ready (rs := [17]) (by kernel_rfl) (by simp) ?_
        refine AllReadyH.cons (o := _) rfl (fun K0 hK0 => ?_) AllReadyH.nil
        go_simp
        go_at_call 17
        refine (CSn.out _).mono ?_
        rintro e wz201v18 ⟨rfl, bz201v18⟩
        refine hK0.out _ _ (K.out _ (thenB (thenB (Below.refl _ _).drew bz201v10) bz201v18)) (fun hHeld => ?_)
        clear hK0 K0
        try simp only [Act.put, List.getElem_toArray, List.getElem_cons_zero, List.getElem_cons_succ, List.setIfInBounds_toArray, List.set_cons_zero, List.set_cons_succ]
        refine wpAnyH_take (i := 18) (oi := _) (v := ?vz201u19) rfl (by kernel_rfl) (by kernel_rfl) (by kernel_rfl) (fun _ _ _ h => h) (Or.inl ⟨by kernel_rfl, ?hyz201u19⟩) hHeld ?restz201u19
        case hyz201u19 => (intro w hSw; (try dsimp only at hSw); go_simp; first | done | with_reducible rfl)
        try simp only [Act.put, List.getElem_toArray, List.getElem_cons_zero, List.getElem_cons_succ, List.setIfInBounds_toArray, List.set_cons_zero, List.set_cons_succ]
        refine wpAnyH_done (by kernel_rfl) ?_ _
        clear K hHeld
        replace VA := VA.kept (thenB (thenB (Below.refl _ _).drew bz201v10) bz201v18)
        replace VR := VR.kept (thenB (thenB (Below.refl _ _).drew bz201v10) bz201v18)
        replace O := O.kept (thenB (thenB (Below.refl _ _).drew bz201v10) bz201v18)
        replace B := thenB B (thenB (thenB (Below.refl _ _).drew bz201v10) bz201v18)
        have Sz201 := ((thenB (thenB (Below.refl _ _).drew bz201v10) bz201v18)).size
        clear bz201v10 bz201v18
        obtain ⟨s_VA, f_VA, z_VA⟩ := VA.open
        obtain ⟨s_VR, f_VR, z_VR⟩ := VR.open
        have Bo := B
        have p0 : wz201v18.cell? ⟨b1, k, none⟩ = some (.int .i64 z) := by
          rcases O.rd with h0 | ⟨b2, o2, e2, hca⟩
          · have h9 := hkl.out; rw [h0] at h9; simp at h9; omega
          · simp only [Option.some.injEq, Addr.mk.injEq, and_true] at e2
            obtain ⟨rfl, rfl⟩ := e2
            have h7 := hca k (by have h9 := hkl.out; omega)
            rw [Nat.zero_add] at h7
            rw [h7, HZV.out]
        have hb1 := World.block_lt_of_cell? (a := ⟨b1, k, none⟩) _ p0
        simp only at hb1
        have hQW : Q < wz201v18.heap.size := VR.1
        by_cases hc0 : tkC y z = 0
        · obtain ⟨hu1, hu2, hu3, hu4⟩ := taken_seen hw.out hc0
          have CU1 := Hid.mk (fun w => implSeen_ok (nxW y z) z hzz w)
          have CU2 := Hid.mk (fun w => implWF_ok (nxW y z) w)
          have CU3 := Hid.mk (fun w => implTake_ok (nxW y z) z hzz w)
          simp only [hu1] at CU1
          simp only [hu2] at CU2
          rw [tsR_no hu3] at CU3
          rw [tkR_yes hc0] at CTk
          have hd9 : decide ((nxW y z).t < y.t) = false := by simpa using hu4
          have hne9 : (tsC (nxW y z) z == 0) = false := by simpa using hu3
          generalize tsC (nxW y z) z = tc at *
          generalize nxW y z = u at *
          simp only at CTk CU3
          clear hu1 hu2 hu3 hu4 hc0
          clear s_VA f_VA z_VA s_VR f_VR z_VR
          have K : ∀ w' : World, Below wz201v18.heap.size wz201v18 w' → (w'.cell? ⟨wA.heap.size, 0, none⟩ = some (.int .i64 y.t) ∧ w'.cell? ⟨wA.heap.size, 1, none⟩ = some (.int .i64 y.b) ∧ w'.cell? ⟨Q, 0, none⟩ = some (.int .i64 0) ∧ w'.cell? ⟨Q, 1, none⟩ = some (.slice (some ⟨b1, 0, none⟩) kl d1) ∧ w'.cell? ⟨b1, k, none⟩ = some (.int .i64 z)) := fun w' h => ⟨(VA.kept h).2.1 0 (by simp), (VA.kept h).2.1 1 (by simp), (VR.kept h).2.1 0 (by simp), (VR.kept h).2.1 1 (by simp), ((bcell h).1 _ _ hb1).trans p0⟩
          have K := Hid.mk K
          clear p0
          go_upto_region 12 with fail
          go_cut [7] (fun p wx => ∃ G, p = .pointer (some ⟨G, 0, none⟩) ∧ V wx G [.int .i64 0, .int .i64 z, .int .i64 u.t, .int .i64 u.b] ∧ V wx (wA.heap.size) [.int .i64 y.t, .int .i64 y.b] ∧ V wx (Q) [.int .i64 0, .slice (some ⟨b1, 0, none⟩) kl d1] ∧ Below wA.heap.size wA wx ∧ Below wz201v18.heap.size wz201v18 wx ∧ wz201v18.heap.size ≤ G)
          case first =>
            refine wp_region_held_drew (S := (fun w' => w'.cell? ⟨wA.heap.size, 0, none⟩ = some (.int .i64 y.t) ∧ w'.cell? ⟨wA.heap.size, 1, none⟩ = some (.int .i64 y.b) ∧ w'.cell? ⟨Q, 0, none⟩ = some (.int .i64 0) ∧ w'.cell? ⟨Q, 1, none⟩ = some (.slice (some ⟨b1, 0, none⟩) kl d1) ∧ w'.cell? ⟨b1, k, none⟩ = some (.int .i64 z))) (by kernel_rfl) (K.out _ (Below.refl _ _).drew) (fun hHeld => ?_)
            have bd : Below wz201v18.heap.size wz201v18 wz201v18.drew := (Below.refl _ _).drew
            generalize wz201v18.drew = wd at *
            refine wpAnyH_take (i := 0) (oi := _) (v := ?vmk301u1) rfl (by kernel_rfl) (by kernel_rfl) (by kernel_rfl) (fun _ _ _ h => h) (Or.inl ⟨by rfl, ?hymk301u1⟩) hHeld ?restmk301u1
            case hymk301u1 => (intro w hSw; (try dsimp only at hSw); go_simp; first | done | with_reducible rfl)
            try simp only [Act.put, List.getElem_toArray, List.getElem_cons_zero, List.setIfInBounds_toArray, List.set_cons_zero, List.set_cons_succ]
            refine wpAnyH_take (i := 1) (oi := _) (v := ?vmk301u2) rfl (by kernel_rfl) (by kernel_rfl) (by kernel_rfl) (fun _ _ _ h => h) (Or.inl ⟨by rfl, ?hymk301u2⟩) hHeld ?restmk301u2
            case hymk301u2 => (intro w hSw; (try dsimp only at hSw); go_simp; first | done | with_reducible rfl)
            try simp only [Act.put, List.getElem_toArray, List.getElem_cons_zero, List.getElem_cons_succ, List.setIfInBounds_toArray, List.set_cons_zero, List.set_cons_succ]
            refine wpAnyH_take (i := 2) (oi := _) (v := ?vmk301u3) rfl (by kernel_rfl) (by kernel_rfl) (by kernel_rfl) (fun _ _ _ h => h) (Or.inl ⟨by rfl, ?hymk301u3⟩) hHeld ?restmk301u3
            case hymk301u3 => (intro w hSw; (try dsimp only at hSw); go_simp; first | done | with_reducible rfl)
            try simp only [Act.put, List.getElem_toArray, List.getElem_cons_zero, List.getElem_cons_succ, List.setIfInBounds_toArray, List.set_cons_zero, List.set_cons_succ]
            refine wpAnyH_take (i := 3) (oi := _) (v := ?vmk301u4) rfl (by kernel_rfl) (by kernel_rfl) (by kernel_rfl) (fun _ _ _ h => h) (Or.inl ⟨by rfl, ?hymk301u4⟩) hHeld ?restmk301u4
            case hymk301u4 => (intro w hSw; (try dsimp only at hSw); go_simp; first | done | with_reducible rfl)
            try simp only [Act.put, List.getElem_toArray, List.getElem_cons_zero, List.getElem_cons_succ, List.setIfInBounds_toArray, List.set_cons_zero, List.set_cons_succ]
            refine wpAnyH_take (i := 4) (oi := _) (v := ?vmk301u5) rfl (by kernel_rfl) (by kernel_rfl) (by kernel_rfl) (fun _ _ _ h => h) (Or.inl ⟨by rfl, ?hymk301u5⟩) hHeld ?restmk301u5
            case hymk301u5 => (intro w hSw; (try dsimp only at hSw); go_simp; first | done | with_reducible rfl)
            try simp only [Act.put, List.getElem_toArray, List.getElem_cons_zero, List.getElem_cons_succ, List.setIfInBounds_toArray, List.set_cons_zero, List.set_cons_succ]
            refine wpAnyH_take (i := 5) (oi := _) (v := ?vmk301u6) rfl (by kernel_rfl) (by kernel_rfl) (by kernel_rfl) (fun _ _ _ h => h) (Or.inl ⟨by rfl, ?hymk301u6⟩) hHeld ?restmk301u6
            case hymk301u6 => (intro w hSw; (try dsimp only at hSw); go_simp; first | done | with_reducible rfl)
            try simp only [Act.put, List.getElem_toArray, List.getElem_cons_zero, List.getElem_cons_succ, List.setIfInBounds_toArray, List.set_cons_zero, List.set_cons_succ]
            refine wpAnyH_ready (rs := [6, 7]) (by kernel_rfl) (by simp) ?_
            refine AllReadyH.cons (o := _) rfl (fun K0 hK0 => ?_) (AllReadyH.cons (o := _) rfl (fun K0 hK0 => ?_) AllReadyH.nil)
            · skip
              go_simp
              go_at_call 18
              refine (CTk.out _).mono ?_
              rintro e wmk3017 ⟨rfl, bmk3017⟩
              refine hK0.out _ _ (K.out _ (thenB bd bmk3017)) (fun hHeld => ?_)
              clear hK0 K0
              try simp only [Act.put, List.getElem_toArray, List.getElem_cons_zero, List.getElem_cons_succ, List.setIfInBounds_toArray, List.set_cons_zero, List.set_cons_succ]
              refine wpAnyH_ready (rs := [7]) (by kernel_rfl) (by simp) ?_
              refine AllReadyH.cons (o := _) rfl (fun K0 hK0 => ?_) AllReadyH.nil
              go_simp
              refine hK0.out _ _ (K.out _ (thenB (thenB bd bmk3017) (belowA wmk3017 (.cells #[.int .i64 0, .int .i64 0, .int .i64 0, .int .i64 0] 35)))) (fun hHeld => ?_)
              clear hK0 K0
              try simp only [Act.put, List.getElem_toArray, List.getElem_cons_zero, List.getElem_cons_succ, List.setIfInBounds_toArray, List.set_cons_zero, List.set_cons_succ]
              have VN : V (wmk3017.alloc (.cells #[.int .i64 0, .int .i64 0, .int .i64 0, .int .i64 0] 35)) wmk3017.heap.size [.int .i64 0, .int .i64 0, .int .i64 0, .int .i64 0] := V.new _ _ _
              have bqmk3018 := belowA wmk3017 (.cells #[.int .i64 0, .int .i64 0, .int .i64 0, .int .i64 0] 35)
              generalize wmk3017.alloc (.cells #[.int .i64 0, .int .i64 0, .int .i64 0, .int .i64 0] 35) = wqmk3018 at *
              refine wpAnyH_ready (rs := [8]) (by kernel_rfl) (by simp) ?_
              refine AllReadyH.cons (o := _) rfl (fun K0 hK0 => ?_) AllReadyH.nil
              rw [if_pos (by rfl)]
              have hT := VN.there
              have VF := VN.filled [.int .i64 0, .int .i64 z, .int .i64 u.t, .int .i64 u.b] rfl
              have hle := ((thenB bd bmk3017)).size
              have bF := belowCells ((thenB (thenB bd bmk3017) bqmk3018)) hle 0 [.int .i64 0, .int .i64 z, .int .i64 u.t, .int .i64 u.b]
              refine wp_store_mid _ _ _ rfl (wmk3017.heap.size) 0 #[.int .i64 0, .int .i64 z, .int .i64 u.t, .int .i64 u.b] rfl rfl hT (by kernel_rfl) (by kernel_rfl) ?_
              refine hK0.out _ _ (K.out _ bF) (fun hHeld => ?_)
              clear hK0 K0
              refine wpAnyH_done (by kernel_rfl) ?_ _
              go_wp2_with fail
              go_meet
              exact ⟨wmk3017.heap.size, rfl, VF, VA.kept bF, VR.kept bF, thenB B bF, bF, hle⟩
            · skip
              go_simp
              refine hK0.out _ _ (K.out _ (thenB bd (belowA wd (.cells #[.int .i64 0, .int .i64 0, .int .i64 0, .int .i64 0] 35)))) (fun hHeld => ?_)
              clear hK0 K0
              try simp only [Act.put, List.getElem_toArray, List.getElem_cons_zero, List.getElem_cons_succ, List.setIfInBounds_toArray, List.set_cons_zero, List.set_cons_succ]
              have VN : V (wd.alloc (.cells #[.int .i64 0, .int .i64 0, .int .i64 0, .int .i64 0] 35)) wd.heap.size [.int .i64 0, .int .i64 0, .int .i64 0, .int .i64 0] := V.new _ _ _
              have bqmk3019 := belowA wd (.cells #[.int .i64 0, .int .i64 0, .int .i64 0, .int .i64 0] 35)
              generalize wd.alloc (.cells #[.int .i64 0, .int .i64 0, .int .i64 0, .int .i64 0] 35) = wqmk3019 at *
              refine wpAnyH_ready (rs := [6]) (by kernel_rfl) (by simp) ?_
              refine AllReadyH.cons (o := _) rfl (fun K0 hK0 => ?_) AllReadyH.nil
              go_simp
              go_at_call 18
              refine (CTk.out _).mono ?_
              rintro e wmk30110 ⟨rfl, bmk30110⟩
              replace VN := VN.kept bmk30110
              refine hK0.out _ _ (K.out _ (thenB (thenB bd bqmk3019) bmk30110)) (fun hHeld => ?_)
              clear hK0 K0
              try simp only [Act.put, List.getElem_toArray, List.getElem_cons_zero, List.getElem_cons_succ, List.setIfInBounds_toArray, List.set_cons_zero, List.set_cons_succ]
              refine wpAnyH_ready (rs := [8]) (by kernel_rfl) (by simp) ?_
              refine AllReadyH.cons (o := _) rfl (fun K0 hK0 => ?_) AllReadyH.nil
              rw [if_pos (by rfl)]
              have hT := VN.there
              have VF := VN.filled [.int .i64 0, .int .i64 z, .int .i64 u.t, .int .i64 u.b] rfl
              have hle := (bd).size
              have bF := belowCells ((thenB (thenB bd bqmk3019) bmk30110)) hle 0 [.int .i64 0, .int .i64 z, .int .i64 u.t, .int .i64 u.b]
              refine wp_store_mid _ _ _ rfl (wd.heap.size) 0 #[.int .i64 0, .int .i64 z, .int .i64 u.t, .int .i64 u.b] rfl rfl hT (by kernel_rfl) (by kernel_rfl) ?_
              refine hK0.out _ _ (K.out _ bF) (fun hHeld => ?_)
              clear hK0 K0
              refine wpAnyH_done (by kernel_rfl) ?_ _
              go_wp2_with fail
              go_meet
              exact ⟨wd.heap.size, rfl, VF, VA.kept bF, VR.kept bF, thenB B bF, bF, hle⟩
          case rest =>
            clear VA VR B K
            obtain ⟨G, rfl, VG, VA, VR, B, BQ, hG⟩ := hcut
            replace O := O.kept BQ
            obtain ⟨s_VA, f_VA, z_VA⟩ := VA.open
            obtain ⟨s_VR, f_VR, z_VR⟩ := VR.open
            obtain ⟨s_VG, f_VG, z_VG⟩ := VG.open
            have Bo := B
            have p0 : wc.cell? ⟨b1, k, none⟩ = some (.int .i64 z) := by
              rcases O.rd with h0 | ⟨b2, o2, e2, hca⟩
              · have h9 := hkl.out; rw [h0] at h9; simp at h9; omega
              · simp only [Option.some.injEq, Addr.mk.injEq, and_true] at e2
                obtain ⟨rfl, rfl⟩ := e2
                have h7 := hca k (by have h9 := hkl.out; omega)
                rw [Nat.zero_add] at h7
                rw [h7, HZV.out]
            have hb1 := World.block_lt_of_cell? (a := ⟨b1, k, none⟩) _ p0
            simp only at hb1
            go_upto_region 13 with fail
            clear s_VA f_VA z_VA s_VR f_VR z_VR s_VG f_VG z_VG
            have K : ∀ w' : World, Below wc.heap.size wc w' → (w'.cell? ⟨wA.heap.size, 0, none⟩ = some (.int .i64 y.t) ∧ w'.cell? ⟨wA.heap.size, 1, none⟩ = some (.int .i64 y.b) ∧ w'.cell? ⟨Q, 0, none⟩ = some (.int .i64 0) ∧ w'.cell? ⟨Q, 1, none⟩ = some (.slice (some ⟨b1, 0, none⟩) kl d1) ∧ w'.cell? ⟨G, 0, none⟩ = some (.int .i64 0) ∧ w'.cell? ⟨G, 1, none⟩ = some (.int .i64 z) ∧ w'.cell? ⟨G, 2, none⟩ = some (.int .i64 u.t) ∧ w'.cell? ⟨G, 3, none⟩ = some (.int .i64 u.b) ∧ w'.cell? ⟨b1, k, none⟩ = some (.int .i64 z)) := fun w' h => ⟨(VA.kept h).2.1 0 (by simp), (VA.kept h).2.1 1 (by simp), (VR.kept h).2.1 0 (by simp), (VR.kept h).2.1 1 (by simp), (VG.kept h).2.1 0 (by simp), (VG.kept h).2.1 1 (by simp), (VG.kept h).2.1 2 (by simp), (VG.kept h).2.1 3 (by simp), ((bcell h).1 _ _ hb1).trans p0⟩
            have K := Hid.mk K
            clear p0
            refine wp_region_held_drew (S := (fun w' => w'.cell? ⟨wA.heap.size, 0, none⟩ = some (.int .i64 y.t) ∧ w'.cell? ⟨wA.heap.size, 1, none⟩ = some (.int .i64 y.b) ∧ w'.cell? ⟨Q, 0, none⟩ = some (.int .i64 0) ∧ w'.cell? ⟨Q, 1, none⟩ = some (.slice (some ⟨b1, 0, none⟩) kl d1) ∧ w'.cell? ⟨G, 0, none⟩ = some (.int .i64 0) ∧ w'.cell? ⟨G, 1, none⟩ = some (.int .i64 z) ∧ w'.cell? ⟨G, 2, none⟩ = some (.int .i64 u.t) ∧ w'.cell? ⟨G, 3, none⟩ = some (.int .i64 u.b) ∧ w'.cell? ⟨b1, k, none⟩ = some (.int .i64 z))) (by kernel_rfl) (K.out _ (Below.refl _ _).drew) (fun hHeld => ?_)
            refine wpAnyH_take (i := 0) (oi := _) (v := ?vz302u1) rfl (by kernel_rfl) (by kernel_rfl) (by kernel_rfl) (fun _ _ _ h => h) (Or.inl ⟨by kernel_rfl, ?hyz302u1⟩) hHeld ?restz302u1
            case hyz302u1 => (intro w hSw; (try dsimp only at hSw); go_simp; first | done | with_reducible rfl)
            try simp only [Act.put, List.getElem_toArray, List.getElem_cons_zero, List.setIfInBounds_toArray, List.set_cons_zero, List.set_cons_succ]
            refine wpAnyH_take (i := 1) (oi := _) (v := ?vz302u2) rfl (by kernel_rfl) (by kernel_rfl) (by kernel_rfl) (fun _ _ _ h => h) (Or.inl ⟨by kernel_rfl, ?hyz302u2⟩) hHeld ?restz302u2
            case hyz302u2 => (intro w hSw; (try dsimp only at hSw); go_simp; first | done | with_reducible rfl)
            try simp only [Act.put, List.getElem_toArray, List.getElem_cons_zero, List.getElem_cons_succ, List.setIfInBounds_toArray, List.set_cons_zero, List.set_cons_succ]
            refine wpAnyH_take (i := 2) (oi := _) (v := ?vz302u3) rfl (by kernel_rfl) (by kernel_rfl) (by kernel_rfl) (fun _ _ _ h => h) (Or.inl ⟨by kernel_rfl, ?hyz302u3⟩) hHeld ?restz302u3
            case hyz302u3 => (intro w hSw; (try dsimp only at hSw); go_simp; first | done | with_reducible rfl)
            try simp only [Act.put, List.getElem_toArray, List.getElem_cons_zero, List.getElem_cons_succ, List.setIfInBounds_toArray, List.set_cons_zero, List.set_cons_succ]
            refine wpAnyH_take (i := 3) (oi := _) (v := ?vz302u4) rfl (by kernel_rfl) (by kernel_rfl) (by kernel_rfl) (fun _ _ _ h => h) (Or.inl ⟨by kernel_rfl, ?hyz302u4⟩) hHeld ?restz302u4
            case hyz302u4 => (intro w hSw; (try dsimp only at hSw); go_simp; first | done | with_reducible rfl)
            try simp only [Act.put, List.getElem_toArray, List.getElem_cons_zero, List.getElem_cons_succ, List.setIfInBounds_toArray, List.set_cons_zero, List.set_cons_succ]
            refine wpAnyH_take (i := 4) (oi := _) (v := ?vz302u5) rfl (by kernel_rfl) (by kernel_rfl) (by kernel_rfl) (fun _ _ _ h => h) (Or.inl ⟨by kernel_rfl, ?hyz302u5⟩) hHeld ?restz302u5
            case hyz302u5 => (intro w hSw; (try dsimp only at hSw); go_simp; first | done | with_reducible rfl)
            try simp only [Act.put, List.getElem_toArray, List.getElem_cons_zero, List.getElem_cons_succ, List.setIfInBounds_toArray, List.set_cons_zero, List.set_cons_succ]
            refine wpAnyH_take (i := 5) (oi := _) (v := ?vz302u6) rfl (by kernel_rfl) (by kernel_rfl) (by kernel_rfl) (fun _ _ _ h => h) (Or.inl ⟨by kernel_rfl, ?hyz302u6⟩) hHeld ?restz302u6
            case hyz302u6 => (intro w hSw; (try dsimp only at hSw); go_simp; first | done | with_reducible rfl)
            try simp only [Act.put, List.getElem_toArray, List.getElem_cons_zero, List.getElem_cons_succ, List.setIfInBounds_toArray, List.set_cons_zero, List.set_cons_succ]
            refine wpAnyH_take (i := 6) (oi := _) (v := ?vz302u7) rfl (by kernel_rfl) (by kernel_rfl) (by kernel_rfl) (fun _ _ _ h => h) (Or.inl ⟨by kernel_rfl, ?hyz302u7⟩) hHeld ?restz302u7
            case hyz302u7 => (intro w hSw; (try dsimp only at hSw); go_simp; first | done | with_reducible rfl)
            try simp only [Act.put, List.getElem_toArray, List.getElem_cons_zero, List.getElem_cons_succ, List.setIfInBounds_toArray, List.set_cons_zero, List.set_cons_succ]
            refine wpAnyH_take (i := 7) (oi := _) (v := ?vz302u8) rfl (by kernel_rfl) (by kernel_rfl) (by kernel_rfl) (fun _ _ _ h => h) (Or.inl ⟨by kernel_rfl, ?hyz302u8⟩) hHeld ?restz302u8
            case hyz302u8 => (intro w hSw; (try dsimp only at hSw); go_simp; first | done | with_reducible rfl)
            try simp only [Act.put, List.getElem_toArray, List.getElem_cons_zero, List.getElem_cons_succ, List.setIfInBounds_toArray, List.set_cons_zero, List.set_cons_succ]
            refine wpAnyH_take (i := 8) (oi := _) (v := ?vz302u9) rfl (by kernel_rfl) (by kernel_rfl) (by kernel_rfl) (fun _ _ _ h => h) (Or.inl ⟨by kernel_rfl, ?hyz302u9⟩) hHeld ?restz302u9
            case hyz302u9 => (intro w hSw; (try dsimp only at hSw); go_simp; first | done | with_reducible rfl)
            try simp only [Act.put, List.getElem_toArray, List.getElem_cons_zero, List.getElem_cons_succ, List.setIfInBounds_toArray, List.set_cons_zero, List.set_cons_succ]
            refine wpAnyH_take (i := 9) (oi := _) (v := ?vz302u10) rfl (by kernel_rfl) (by kernel_rfl) (by kernel_rfl) (fun _ _ _ h => h) (Or.inl ⟨by kernel_rfl, ?hyz302u10⟩) hHeld ?restz302u10
            case hyz302u10 => (intro w hSw; (try dsimp only at hSw); go_simp; first | done | with_reducible rfl)
            try simp only [Act.put, List.getElem_toArray, List.getElem_cons_zero, List.getElem_cons_succ, List.setIfInBounds_toArray, List.set_cons_zero, List.set_cons_succ]
            refine wpAnyH_take (i := 10) (oi := _) (v := ?vz302u11) rfl (by kernel_rfl) (by kernel_rfl) (by kernel_rfl) (fun _ _ _ h => h) (Or.inl ⟨by kernel_rfl, ?hyz302u11⟩) hHeld ?restz302u11
            case hyz302u11 => (intro w hSw; (try dsimp only at hSw); go_simp; first | done | with_reducible rfl)
            try simp only [Act.put, List.getElem_toArray, List.getElem_cons_zero, List.getElem_cons_succ, List.setIfInBounds_toArray, List.set_cons_zero, List.set_cons_succ]
            refine wpAnyH_ready (rs := [11]) (by kernel_rfl) (by simp) ?_
            refine AllReadyH.cons (o := _) rfl (fun K0 hK0 => ?_) AllReadyH.nil
            go_simp
            go_at_call 17
            refine (CU1.out _).mono ?_
            rintro e wz302v12 ⟨rfl, bz302v12⟩
            refine hK0.out _ _ (K.out _ (thenB (Below.refl _ _).drew bz302v12)) (fun hHeld => ?_)
            clear hK0 K0
            try simp only [Act.put, List.getElem_toArray, List.getElem_cons_zero, List.getElem_cons_succ, List.setIfInBounds_toArray, List.set_cons_zero, List.set_cons_succ]
            refine wpAnyH_take (i := 12) (oi := _) (v := ?vz302u13) rfl (by kernel_rfl) (by kernel_rfl) (by kernel_rfl) (fun _ _ _ h => h) (Or.inl ⟨by kernel_rfl, ?hyz302u13⟩) hHeld ?restz302u13
            case hyz302u13 => (intro w hSw; (try dsimp only at hSw); go_simp; first | done | with_reducible rfl)
            try simp only [Act.put, List.getElem_toArray, List.getElem_cons_zero, List.getElem_cons_succ, List.setIfInBounds_toArray, List.set_cons_zero, List.set_cons_succ]
            refine wpAnyH_take (i := 13) (oi := _) (v := ?vz302u14) rfl (by kernel_rfl) (by kernel_rfl) (by kernel_rfl) (fun _ _ _ h => h) (Or.inl ⟨by kernel_rfl, ?hyz302u14⟩) hHeld ?restz302u14
            case hyz302u14 => (intro w hSw; (try dsimp only at hSw); go_simp; first | done | with_reducible rfl)
            try simp only [Act.put, List.getElem_toArray, List.getElem_cons_zero, List.getElem_cons_succ, List.setIfInBounds_toArray, List.set_cons_zero, List.set_cons_succ]
            refine wpAnyH_take (i := 14) (oi := _) (v := ?vz302u15) rfl (by kernel_rfl) (by kernel_rfl) (by kernel_rfl) (fun _ _ _ h => h) (Or.inl ⟨by kernel_rfl, ?hyz302u15⟩) hHeld ?restz302u15
            case hyz302u15 => (intro w hSw; (try dsimp only at hSw); go_simp; first | done | with_reducible rfl)
            try simp only [Act.put, List.getElem_toArray, List.getElem_cons_zero, List.getElem_cons_succ, List.setIfInBounds_toArray, List.set_cons_zero, List.set_cons_succ]
            refine wpAnyH_take (i := 15) (oi := _) (v := ?vz302u16) rfl (by kernel_rfl) (by kernel_rfl) (by kernel_rfl) (fun _ _ _ h => h) (Or.inl ⟨by kernel_rfl, ?hyz302u16⟩) hHeld ?restz302u16
            case hyz302u16 => (intro w hSw; (try dsimp only at hSw); go_simp; first | done | with_reducible rfl)
            try simp only [Act.put, List.getElem_toArray, List.getElem_cons_zero, List.getElem_cons_succ, List.setIfInBounds_toArray, List.set_cons_zero, List.set_cons_succ]
            refine wpAnyH_ready (rs := [16]) (by kernel_rfl) (by simp) ?_
            refine AllReadyH.cons (o := _) rfl (fun K0 hK0 => ?_) AllReadyH.nil
            go_simp
            go_at_call 19
            refine (CU2.out _).mono ?_
            rintro e wz302v17 ⟨rfl, bz302v17⟩
            refine hK0.out _ _ (K.out _ (thenB (thenB (Below.refl _ _).drew bz302v12) bz302v17)) (fun hHeld => ?_)
            clear hK0 K0
            try simp only [Act.put, List.getElem_toArray, List.getElem_cons_zero, List.getElem_cons_succ, List.setIfInBounds_toArray, List.set_cons_zero, List.set_cons_succ]
            refine wpAnyH_take (i := 17) (oi := _) (v := ?vz302u18) rfl (by kernel_rfl) (by kernel_rfl) (by kernel_rfl) (fun _ _ _ h => h) (Or.inl ⟨by kernel_rfl, ?hyz302u18⟩) hHeld ?restz302u18
            case hyz302u18 => (intro w hSw; (try dsimp only at hSw); go_simp; first | done | with_reducible rfl)
            try simp only [Act.put, List.getElem_toArray, List.getElem_cons_zero, List.getElem_cons_succ, List.setIfInBounds_toArray, List.set_cons_zero, List.set_cons_succ]
            refine wpAnyH_take (i := 18) (oi := _) (v := ?vz302u19) rfl (by kernel_rfl) (by kernel_rfl) (by kernel_rfl) (fun _ _ _ h => h) (Or.inl ⟨by kernel_rfl, ?hyz302u19⟩) hHeld ?restz302u19
            case hyz302u19 => (intro w hSw; (try dsimp only at hSw); go_simp; first | done | with_reducible rfl)
            try simp only [Act.put, List.getElem_toArray, List.getElem_cons_zero, List.getElem_cons_succ, List.setIfInBounds_toArray, List.set_cons_zero, List.set_cons_succ]
            refine wpAnyH_take (i := 19) (oi := _) (v := ?vz302u20) rfl (by kernel_rfl) (by kernel_rfl) (by kernel_rfl) (fun _ _ _ h => h) (Or.inl ⟨by kernel_rfl, ?hyz302u20⟩) hHeld ?restz302u20
            case hyz302u20 => (intro w hSw; (try dsimp only at hSw); go_simp; first | done | with_reducible rfl)
            try simp only [Act.put, List.getElem_toArray, List.getElem_cons_zero, List.getElem_cons_succ, List.setIfInBounds_toArray, List.set_cons_zero, List.set_cons_succ]
            refine wpAnyH_take (i := 20) (oi := _) (v := ?vz302u21) rfl (by kernel_rfl) (by kernel_rfl) (by kernel_rfl) (fun _ _ _ h => h) (Or.inl ⟨by kernel_rfl, ?hyz302u21⟩) hHeld ?restz302u21
            case hyz302u21 => (intro w hSw; (try dsimp only at hSw); go_simp; first | done | with_reducible rfl)
            try simp only [Act.put, List.getElem_toArray, List.getElem_cons_zero, List.getElem_cons_succ, List.setIfInBounds_toArray, List.set_cons_zero, List.set_cons_succ]
            refine wpAnyH_take (i := 21) (oi := _) (v := ?vz302u22) rfl (by kernel_rfl) (by kernel_rfl) (by kernel_rfl) (fun _ _ _ h => h) (Or.inl ⟨by kernel_rfl, ?hyz302u22⟩) hHeld ?restz302u22
            case hyz302u22 => (intro w hSw; (try dsimp only at hSw); go_simp; first | done | with_reducible rfl)
            try simp only [Act.put, List.getElem_toArray, List.getElem_cons_zero, List.getElem_cons_succ, List.setIfInBounds_toArray, List.set_cons_zero, List.set_cons_succ]
            refine wpAnyH_take (i := 22) (oi := _) (v := ?vz302u23) rfl (by kernel_rfl) (by kernel_rfl) (by kernel_rfl) (fun _ _ _ h => h) (Or.inl ⟨by kernel_rfl, ?hyz302u23⟩) hHeld ?restz302u23
            case hyz302u23 => (intro w hSw; (try dsimp only at hSw); go_simp; first | done | with_reducible rfl)
            try simp only [Act.put, List.getElem_toArray, List.getElem_cons_zero, List.getElem_cons_succ, List.setIfInBounds_toArray, List.set_cons_zero, List.set_cons_succ]
            refine wpAnyH_take (i := 23) (oi := _) (v := ?vz302u24) rfl (by kernel_rfl) (by kernel_rfl) (by kernel_rfl) (fun _ _ _ h => h) (Or.inl ⟨by kernel_rfl, ?hyz302u24⟩) hHeld ?restz302u24
            case hyz302u24 => (intro w hSw; (try dsimp only at hSw); go_simp; first | done | with_reducible rfl)
            try simp only [Act.put, List.getElem_toArray, List.getElem_cons_zero, List.getElem_cons_succ, List.setIfInBounds_toArray, List.set_cons_zero, List.set_cons_succ]
            refine wpAnyH_take (i := 24) (oi := _) (v := ?vz302u25) rfl (by kernel_rfl) (by kernel_rfl) (by kernel_rfl) (fun _ _ _ h => h) (Or.inl ⟨by kernel_rfl, ?hyz302u25⟩) hHeld ?restz302u25
            case hyz302u25 => (intro w hSw; (try dsimp only at hSw); go_simp; first | done | with_reducible rfl)
            try simp only [Act.put, List.getElem_toArray, List.getElem_cons_zero, List.getElem_cons_succ, List.setIfInBounds_toArray, List.set_cons_zero, List.set_cons_succ]
            refine wpAnyH_take (i := 25) (oi := _) (v := ?vz302u26) rfl (by kernel_rfl) (by kernel_rfl) (by kernel_rfl) (fun _ _ _ h => h) (Or.inl ⟨by kernel_rfl, ?hyz302u26⟩) hHeld ?restz302u26
            case hyz302u26 => (intro w hSw; (try dsimp only at hSw); go_simp; first | done | with_reducible rfl)
            try simp only [Act.put, List.getElem_toArray, List.getElem_cons_zero, List.getElem_cons_succ, List.setIfInBounds_toArray, List.set_cons_zero, List.set_cons_succ]
            refine wpAnyH_take (i := 26) (oi := _) (v := ?vz302u27) rfl (by kernel_rfl) (by kernel_rfl) (by kernel_rfl) (fun _ _ _ h => h) (Or.inl ⟨by kernel_rfl, ?hyz302u27⟩) hHeld ?restz302u27
            case hyz302u27 => (intro w hSw; (try dsimp only at hSw); go_simp; first | done | with_reducible rfl)
            try simp only [Act.put, List.getElem_toArray, List.getElem_cons_zero, List.getElem_cons_succ, List.setIfInBounds_toArray, List.set_cons_zero, List.set_cons_succ]
            refine wpAnyH_ready (rs := [27]) (by kernel_rfl) (by simp) ?_
            refine AllReadyH.cons (o := _) rfl (fun K0 hK0 => ?_) AllReadyH.nil
            go_simp
            go_at_call 18
            refine (CU3.out _).mono ?_
            rintro e wz302v28 ⟨rfl, bz302v28⟩
            refine hK0.out _ _ (K.out _ (thenB (thenB (thenB (Below.refl _ _).drew bz302v12) bz302v17) bz302v28)) (fun hHeld => ?_)
            clear hK0 K0
            try simp only [Act.put, List.getElem_toArray, List.getElem_cons_zero, List.getElem_cons_succ, List.setIfInBounds_toArray, List.set_cons_zero, List.set_cons_succ]
            refine wpAnyH_take (i := 28) (oi := _) (v := ?vz302u29) rfl (by kernel_rfl) (by kernel_rfl) (by kernel_rfl) (fun _ _ _ h => h) (Or.inl ⟨by kernel_rfl, ?hyz302u29⟩) hHeld ?restz302u29
            case hyz302u29 => (intro w hSw; (try dsimp only at hSw); go_simp; first | done | with_reducible rfl)
            try simp only [Act.put, List.getElem_toArray, List.getElem_cons_zero, List.getElem_cons_succ, List.setIfInBounds_toArray, List.set_cons_zero, List.set_cons_succ]
            refine wpAnyH_take (i := 29) (oi := _) (v := ?vz302u30) rfl (by kernel_rfl) (by kernel_rfl) (by kernel_rfl) (fun _ _ _ h => h) (Or.inl ⟨by kernel_rfl, ?hyz302u30⟩) hHeld ?restz302u30
            case hyz302u30 => (intro w hSw; (try dsimp only at hSw); go_simp; first | done | with_reducible rfl)
            try simp only [Act.put, List.getElem_toArray, List.getElem_cons_zero, List.getElem_cons_succ, List.setIfInBounds_toArray, List.set_cons_zero, List.set_cons_succ]
            refine wpAnyH_take (i := 30) (oi := _) (v := ?vz302u31) rfl (by kernel_rfl) (by kernel_rfl) (by kernel_rfl) (fun _ _ _ h => h) (Or.inl ⟨by kernel_rfl, ?hyz302u31⟩) hHeld ?restz302u31
            case hyz302u31 => (intro w hSw; (try dsimp only at hSw); go_simp; first | done | with_reducible rfl)
            try simp only [Act.put, List.getElem_toArray, List.getElem_cons_zero, List.getElem_cons_succ, List.setIfInBounds_toArray, List.set_cons_zero, List.set_cons_succ]
            refine wpAnyH_take (i := 31) (oi := _) (v := ?vz302u32) rfl (by kernel_rfl) (by kernel_rfl) (by kernel_rfl) (fun _ _ _ h => h) (Or.inl ⟨by kernel_rfl, ?hyz302u32⟩) hHeld ?restz302u32
            case hyz302u32 => (intro w hSw; (try dsimp only at hSw); go_simp; first | done | with_reducible rfl)
            try simp only [Act.put, List.getElem_toArray, List.getElem_cons_zero, List.getElem_cons_succ, List.setIfInBounds_toArray, List.set_cons_zero, List.set_cons_succ]
            refine wpAnyH_take (i := 32) (oi := _) (v := ?vz302u33) rfl (by kernel_rfl) (by kernel_rfl) (by kernel_rfl) (fun _ _ _ h => h) (Or.inl ⟨by kernel_rfl, ?hyz302u33⟩) hHeld ?restz302u33
            case hyz302u33 => (intro w hSw; (try dsimp only at hSw); go_simp; first | done | with_reducible rfl)
            try simp only [Act.put, List.getElem_toArray, List.getElem_cons_zero, List.getElem_cons_succ, List.setIfInBounds_toArray, List.set_cons_zero, List.set_cons_succ]
            refine wpAnyH_take (i := 33) (oi := _) (v := ?vz302u34) rfl (by kernel_rfl) (by kernel_rfl) (by kernel_rfl) (fun _ _ _ h => h) (Or.inl ⟨by kernel_rfl, ?hyz302u34⟩) hHeld ?restz302u34
            case hyz302u34 => (intro w hSw; (try dsimp only at hSw); go_simp; first | done | with_reducible rfl)
            try simp only [Act.put, List.getElem_toArray, List.getElem_cons_zero, List.getElem_cons_succ, List.setIfInBounds_toArray, List.set_cons_zero, List.set_cons_succ]
            refine wpAnyH_take (i := 34) (oi := _) (v := ?vz302u35) rfl (by kernel_rfl) (by kernel_rfl) (by kernel_rfl) (fun _ _ _ h => h) (Or.inl ⟨by kernel_rfl, ?hyz302u35⟩) hHeld ?restz302u35
            case hyz302u35 => (intro w hSw; (try dsimp only at hSw); go_simp; first | done | with_reducible rfl)
            try simp only [Act.put, List.getElem_toArray, List.getElem_cons_zero, List.getElem_cons_succ, List.setIfInBounds_toArray, List.set_cons_zero, List.set_cons_succ]
            refine wpAnyH_take (i := 35) (oi := _) (v := ?vz302u36) rfl (by kernel_rfl) (by kernel_rfl) (by kernel_rfl) (fun _ _ _ h => h) (Or.inl ⟨by kernel_rfl, ?hyz302u36⟩) hHeld ?restz302u36
            case hyz302u36 => (intro w hSw; (try dsimp only at hSw); go_simp; first | done | with_reducible rfl)
            try simp only [Act.put, List.getElem_toArray, List.getElem_cons_zero, List.getElem_cons_succ, List.setIfInBounds_toArray, List.set_cons_zero, List.set_cons_succ]
            refine wpAnyH_take (i := 36) (oi := _) (v := ?vz302u37) rfl (by kernel_rfl) (by kernel_rfl) (by kernel_rfl) (fun _ _ _ h => h) (Or.inl ⟨by kernel_rfl, ?hyz302u37⟩) hHeld ?restz302u37
            case hyz302u37 => (intro w hSw; (try dsimp only at hSw); go_simp; first | done | with_reducible rfl)
            try simp only [Act.put, List.getElem_toArray, List.getElem_cons_zero, List.getElem_cons_succ, List.setIfInBounds_toArray, List.set_cons_zero, List.set_cons_succ]
            refine wpAnyH_take (i := 37) (oi := _) (v := ?vz302u38) rfl (by kernel_rfl) (by kernel_rfl) (by kernel_rfl) (fun _ _ _ h => h) (Or.inl ⟨by kernel_rfl, ?hyz302u38⟩) hHeld ?restz302u38
            case hyz302u38 => (intro w hSw; (try dsimp only at hSw); go_simp; first | done | with_reducible rfl)
            try simp only [Act.put, List.getElem_toArray, List.getElem_cons_zero, List.getElem_cons_succ, List.setIfInBounds_toArray, List.set_cons_zero, List.set_cons_succ]
            refine wpAnyH_take (i := 38) (oi := _) (v := ?vz302u39) rfl (by kernel_rfl) (by kernel_rfl) (by kernel_rfl) (fun _ _ _ h => h) (Or.inl ⟨by kernel_rfl, ?hyz302u39⟩) hHeld ?restz302u39
            case hyz302u39 => (intro w hSw; (try dsimp only at hSw); go_simp; first | done | with_reducible rfl)
            try simp only [Act.put, List.getElem_toArray, List.getElem_cons_zero, List.getElem_cons_succ, List.setIfInBounds_toArray, List.set_cons_zero, List.set_cons_succ]
            refine wpAnyH_take (i := 39) (oi := _) (v := ?vz302u40) rfl (by kernel_rfl) (by kernel_rfl) (by kernel_rfl) (fun _ _ _ h => h) (Or.inl ⟨by kernel_rfl, ?hyz302u40⟩) hHeld ?restz302u40
            case hyz302u40 => (intro w hSw; (try dsimp only at hSw); go_simp; first | done | with_reducible rfl)
            try simp only [Act.put, List.getElem_toArray, List.getElem_cons_zero, List.getElem_cons_succ, List.setIfInBounds_toArray, List.set_cons_zero, List.set_cons_succ]
            refine wpAnyH_done (by kernel_rfl) ?_ _
            clear K hHeld
            replace VA := VA.kept (thenB (thenB (thenB (Below.refl _ _).drew bz302v12) bz302v17) bz302v28)
            replace VR := VR.kept (thenB (thenB (thenB (Below.refl _ _).drew bz302v12) bz302v17) bz302v28)
            replace VG := VG.kept (thenB (thenB (thenB (Below.refl _ _).drew bz302v12) bz302v17) bz302v28)
            replace O := O.kept (thenB (thenB (thenB (Below.refl _ _).drew bz302v12) bz302v17) bz302v28)
            replace B := thenB B (thenB (thenB (thenB (Below.refl _ _).drew bz302v12) bz302v17) bz302v28)
            have Sz302 := ((thenB (thenB (thenB (Below.refl _ _).drew bz302v12) bz302v17) bz302v28)).size
            clear bz302v12 bz302v17 bz302v28
            obtain ⟨s_VA, f_VA, z_VA⟩ := VA.open
            obtain ⟨s_VR, f_VR, z_VR⟩ := VR.open
            obtain ⟨s_VG, f_VG, z_VG⟩ := VG.open
            have Bo := B
            replace O := Hid.mk O
            replace VA := Hid.mk VA
            replace VR := Hid.mk VR
            replace B := Hid.mk B
            clear Bo VG
            go_wp2
            go_roundw
            case rel => exact ⟨k + 1, by omega, by go_num, O.out, VA.out, VR.out, B.out⟩
            case measure => simp [intOf]; omega
        · rw [tkR_no hc0] at CTk
          have hne9 : (tkC y z == 0) = false := by simpa using hc0
          generalize tkC y z = pc at *
          simp only at CTk
          clear hc0
          clear s_VA f_VA z_VA s_VR f_VR z_VR
          have K : ∀ w' : World, Below wz201v18.heap.size wz201v18 w' → (w'.cell? ⟨wA.heap.size, 0, none⟩ = some (.int .i64 y.t) ∧ w'.cell? ⟨wA.heap.size, 1, none⟩ = some (.int .i64 y.b) ∧ w'.cell? ⟨Q, 0, none⟩ = some (.int .i64 0) ∧ w'.cell? ⟨Q, 1, none⟩ = some (.slice (some ⟨b1, 0, none⟩) kl d1) ∧ w'.cell? ⟨b1, k, none⟩ = some (.int .i64 z)) := fun w' h => ⟨(VA.kept h).2.1 0 (by simp), (VA.kept h).2.1 1 (by simp), (VR.kept h).2.1 0 (by simp), (VR.kept h).2.1 1 (by simp), ((bcell h).1 _ _ hb1).trans p0⟩
          have K := Hid.mk K
          clear p0
          go_upto_region 12 with fail
          go_cut [7] (fun p wx => ∃ G, p = .pointer (some ⟨G, 0, none⟩) ∧ V wx G [.int .i64 pc, .int .i64 0, .int .i64 0, .int .i64 0] ∧ V wx (wA.heap.size) [.int .i64 y.t, .int .i64 y.b] ∧ V wx (Q) [.int .i64 0, .slice (some ⟨b1, 0, none⟩) kl d1] ∧ Below wA.heap.size wA wx ∧ Below wz201v18.heap.size wz201v18 wx ∧ wz201v18.heap.size ≤ G)
          case first =>
            refine wp_region_held_drew (S := (fun w' => w'.cell? ⟨wA.heap.size, 0, none⟩ = some (.int .i64 y.t) ∧ w'.cell? ⟨wA.heap.size, 1, none⟩ = some (.int .i64 y.b) ∧ w'.cell? ⟨Q, 0, none⟩ = some (.int .i64 0) ∧ w'.cell? ⟨Q, 1, none⟩ = some (.slice (some ⟨b1, 0, none⟩) kl d1) ∧ w'.cell? ⟨b1, k, none⟩ = some (.int .i64 z))) (by kernel_rfl) (K.out _ (Below.refl _ _).drew) (fun hHeld => ?_)
            have bd : Below wz201v18.heap.size wz201v18 wz201v18.drew := (Below.refl _ _).drew
            generalize wz201v18.drew = wd at *
            refine wpAnyH_take (i := 0) (oi := _) (v := ?vmk401u1) rfl (by kernel_rfl) (by kernel_rfl) (by kernel_rfl) (fun _ _ _ h => h) (Or.inl ⟨by rfl, ?hymk401u1⟩) hHeld ?restmk401u1
            case hymk401u1 => (intro w hSw; (try dsimp only at hSw); go_simp; first | done | with_reducible rfl)
            try simp only [Act.put, List.getElem_toArray, List.getElem_cons_zero, List.setIfInBounds_toArray, List.set_cons_zero, List.set_cons_succ]
            refine wpAnyH_take (i := 1) (oi := _) (v := ?vmk401u2) rfl (by kernel_rfl) (by kernel_rfl) (by kernel_rfl) (fun _ _ _ h => h) (Or.inl ⟨by rfl, ?hymk401u2⟩) hHeld ?restmk401u2
            case hymk401u2 => (intro w hSw; (try dsimp only at hSw); go_simp; first | done | with_reducible rfl)
            try simp only [Act.put, List.getElem_toArray, List.getElem_cons_zero, List.getElem_cons_succ, List.setIfInBounds_toArray, List.set_cons_zero, List.set_cons_succ]
            refine wpAnyH_take (i := 2) (oi := _) (v := ?vmk401u3) rfl (by kernel_rfl) (by kernel_rfl) (by kernel_rfl) (fun _ _ _ h => h) (Or.inl ⟨by rfl, ?hymk401u3⟩) hHeld ?restmk401u3
            case hymk401u3 => (intro w hSw; (try dsimp only at hSw); go_simp; first | done | with_reducible rfl)
            try simp only [Act.put, List.getElem_toArray, List.getElem_cons_zero, List.getElem_cons_succ, List.setIfInBounds_toArray, List.set_cons_zero, List.set_cons_succ]
            refine wpAnyH_take (i := 3) (oi := _) (v := ?vmk401u4) rfl (by kernel_rfl) (by kernel_rfl) (by kernel_rfl) (fun _ _ _ h => h) (Or.inl ⟨by rfl, ?hymk401u4⟩) hHeld ?restmk401u4
            case hymk401u4 => (intro w hSw; (try dsimp only at hSw); go_simp; first | done | with_reducible rfl)
            try simp only [Act.put, List.getElem_toArray, List.getElem_cons_zero, List.getElem_cons_succ, List.setIfInBounds_toArray, List.set_cons_zero, List.set_cons_succ]
            refine wpAnyH_take (i := 4) (oi := _) (v := ?vmk401u5) rfl (by kernel_rfl) (by kernel_rfl) (by kernel_rfl) (fun _ _ _ h => h) (Or.inl ⟨by rfl, ?hymk401u5⟩) hHeld ?restmk401u5
            case hymk401u5 => (intro w hSw; (try dsimp only at hSw); go_simp; first | done | with_reducible rfl)
            try simp only [Act.put, List.getElem_toArray, List.getElem_cons_zero, List.getElem_cons_succ, List.setIfInBounds_toArray, List.set_cons_zero, List.set_cons_succ]
            refine wpAnyH_take (i := 5) (oi := _) (v := ?vmk401u6) rfl (by kernel_rfl) (by kernel_rfl) (by kernel_rfl) (fun _ _ _ h => h) (Or.inl ⟨by rfl, ?hymk401u6⟩) hHeld ?restmk401u6
            case hymk401u6 => (intro w hSw; (try dsimp only at hSw); go_simp; first | done | with_reducible rfl)
            try simp only [Act.put, List.getElem_toArray, List.getElem_cons_zero, List.getElem_cons_succ, List.setIfInBounds_toArray, List.set_cons_zero, List.set_cons_succ]
            refine wpAnyH_ready (rs := [6, 7]) (by kernel_rfl) (by simp) ?_
            refine AllReadyH.cons (o := _) rfl (fun K0 hK0 => ?_) (AllReadyH.cons (o := _) rfl (fun K0 hK0 => ?_) AllReadyH.nil)
            · skip
              go_simp
              go_at_call 18
              refine (CTk.out _).mono ?_
              rintro e wmk4017 ⟨rfl, bmk4017⟩
              refine hK0.out _ _ (K.out _ (thenB bd bmk4017)) (fun hHeld => ?_)
              clear hK0 K0
              try simp only [Act.put, List.getElem_toArray, List.getElem_cons_zero, List.getElem_cons_succ, List.setIfInBounds_toArray, List.set_cons_zero, List.set_cons_succ]
              refine wpAnyH_ready (rs := [7]) (by kernel_rfl) (by simp) ?_
              refine AllReadyH.cons (o := _) rfl (fun K0 hK0 => ?_) AllReadyH.nil
              go_simp
              refine hK0.out _ _ (K.out _ (thenB (thenB bd bmk4017) (belowA wmk4017 (.cells #[.int .i64 0, .int .i64 0, .int .i64 0, .int .i64 0] 35)))) (fun hHeld => ?_)
              clear hK0 K0
              try simp only [Act.put, List.getElem_toArray, List.getElem_cons_zero, List.getElem_cons_succ, List.setIfInBounds_toArray, List.set_cons_zero, List.set_cons_succ]
              have VN : V (wmk4017.alloc (.cells #[.int .i64 0, .int .i64 0, .int .i64 0, .int .i64 0] 35)) wmk4017.heap.size [.int .i64 0, .int .i64 0, .int .i64 0, .int .i64 0] := V.new _ _ _
              have bqmk4018 := belowA wmk4017 (.cells #[.int .i64 0, .int .i64 0, .int .i64 0, .int .i64 0] 35)
              generalize wmk4017.alloc (.cells #[.int .i64 0, .int .i64 0, .int .i64 0, .int .i64 0] 35) = wqmk4018 at *
              refine wpAnyH_ready (rs := [8]) (by kernel_rfl) (by simp) ?_
              refine AllReadyH.cons (o := _) rfl (fun K0 hK0 => ?_) AllReadyH.nil
              rw [if_pos (by rfl)]
              have hT := VN.there
              have VF := VN.filled [.int .i64 pc, .int .i64 0, .int .i64 0, .int .i64 0] rfl
              have hle := ((thenB bd bmk4017)).size
              have bF := belowCells ((thenB (thenB bd bmk4017) bqmk4018)) hle 0 [.int .i64 pc, .int .i64 0, .int .i64 0, .int .i64 0]
              refine wp_store_mid _ _ _ rfl (wmk4017.heap.size) 0 #[.int .i64 pc, .int .i64 0, .int .i64 0, .int .i64 0] rfl rfl hT (by kernel_rfl) (by kernel_rfl) ?_
              refine hK0.out _ _ (K.out _ bF) (fun hHeld => ?_)
              clear hK0 K0
              refine wpAnyH_done (by kernel_rfl) ?_ _
              go_wp2_with fail
              go_meet
              exact ⟨wmk4017.heap.size, rfl, VF, VA.kept bF, VR.kept bF, thenB B bF, bF, hle⟩
            · skip
              go_simp
              refine hK0.out _ _ (K.out _ (thenB bd (belowA wd (.cells #[.int .i64 0, .int .i64 0, .int .i64 0, .int .i64 0] 35)))) (fun hHeld => ?_)
              clear hK0 K0
              try simp only [Act.put, List.getElem_toArray, List.getElem_cons_zero, List.getElem_cons_succ, List.setIfInBounds_toArray, List.set_cons_zero, List.set_cons_succ]
              have VN : V (wd.alloc (.cells #[.int .i64 0, .int .i64 0, .int .i64 0, .int .i64 0] 35)) wd.heap.size [.int .i64 0, .int .i64 0, .int .i64 0, .int .i64 0] := V.new _ _ _
              have bqmk4019 := belowA wd (.cells #[.int .i64 0, .int .i64 0, .int .i64 0, .int .i64 0] 35)
              generalize wd.alloc (.cells #[.int .i64 0, .int .i64 0, .int .i64 0, .int .i64 0] 35) = wqmk4019 at *
              refine wpAnyH_ready (rs := [6]) (by kernel_rfl) (by simp) ?_
              refine AllReadyH.cons (o := _) rfl (fun K0 hK0 => ?_) AllReadyH.nil
              go_simp
              go_at_call 18
              refine (CTk.out _).mono ?_
              rintro e wmk40110 ⟨rfl, bmk40110⟩
              replace VN := VN.kept bmk40110
              refine hK0.out _ _ (K.out _ (thenB (thenB bd bqmk4019) bmk40110)) (fun hHeld => ?_)
              clear hK0 K0
              try simp only [Act.put, List.getElem_toArray, List.getElem_cons_zero, List.getElem_cons_succ, List.setIfInBounds_toArray, List.set_cons_zero, List.set_cons_succ]
              refine wpAnyH_ready (rs := [8]) (by kernel_rfl) (by simp) ?_
              refine AllReadyH.cons (o := _) rfl (fun K0 hK0 => ?_) AllReadyH.nil
              rw [if_pos (by rfl)]
              have hT := VN.there
              have VF := VN.filled [.int .i64 pc, .int .i64 0, .int .i64 0, .int .i64 0] rfl
              have hle := (bd).size
              have bF := belowCells ((thenB (thenB bd bqmk4019) bmk40110)) hle 0 [.int .i64 pc, .int .i64 0, .int .i64 0, .int .i64 0]
              refine wp_store_mid _ _ _ rfl (wd.heap.size) 0 #[.int .i64 pc, .int .i64 0, .int .i64 0, .int .i64 0] rfl rfl hT (by kernel_rfl) (by kernel_rfl) ?_
              refine hK0.out _ _ (K.out _ bF) (fun hHeld => ?_)
              clear hK0 K0
              refine wpAnyH_done (by kernel_rfl) ?_ _
              go_wp2_with fail
              go_meet
              exact ⟨wd.heap.size, rfl, VF, VA.kept bF, VR.kept bF, thenB B bF, bF, hle⟩
          case rest =>
            clear VA VR B K
            obtain ⟨G, rfl, VG, VA, VR, B, BQ, hG⟩ := hcut
            replace O := O.kept BQ
            obtain ⟨s_VA, f_VA, z_VA⟩ := VA.open
            obtain ⟨s_VR, f_VR, z_VR⟩ := VR.open
            obtain ⟨s_VG, f_VG, z_VG⟩ := VG.open
            have Bo := B
            have p0 : wc.cell? ⟨b1, k, none⟩ = some (.int .i64 z) := by
              rcases O.rd with h0 | ⟨b2, o2, e2, hca⟩
              · have h9 := hkl.out; rw [h0] at h9; simp at h9; omega
              · simp only [Option.some.injEq, Addr.mk.injEq, and_true] at e2
                obtain ⟨rfl, rfl⟩ := e2
                have h7 := hca k (by have h9 := hkl.out; omega)
                rw [Nat.zero_add] at h7
                rw [h7, HZV.out]
            have hb1 := World.block_lt_of_cell? (a := ⟨b1, k, none⟩) _ p0
            simp only at hb1
            go_upto_region 13 with fail
            clear s_VA f_VA z_VA s_VR f_VR z_VR s_VG f_VG z_VG
            have K : ∀ w' : World, Below wc.heap.size wc w' → (w'.cell? ⟨wA.heap.size, 0, none⟩ = some (.int .i64 y.t) ∧ w'.cell? ⟨wA.heap.size, 1, none⟩ = some (.int .i64 y.b) ∧ w'.cell? ⟨Q, 0, none⟩ = some (.int .i64 0) ∧ w'.cell? ⟨Q, 1, none⟩ = some (.slice (some ⟨b1, 0, none⟩) kl d1) ∧ w'.cell? ⟨G, 0, none⟩ = some (.int .i64 pc) ∧ w'.cell? ⟨G, 1, none⟩ = some (.int .i64 0) ∧ w'.cell? ⟨G, 2, none⟩ = some (.int .i64 0) ∧ w'.cell? ⟨G, 3, none⟩ = some (.int .i64 0) ∧ w'.cell? ⟨b1, k, none⟩ = some (.int .i64 z)) := fun w' h => ⟨(VA.kept h).2.1 0 (by simp), (VA.kept h).2.1 1 (by simp), (VR.kept h).2.1 0 (by simp), (VR.kept h).2.1 1 (by simp), (VG.kept h).2.1 0 (by simp), (VG.kept h).2.1 1 (by simp), (VG.kept h).2.1 2 (by simp), (VG.kept h).2.1 3 (by simp), ((bcell h).1 _ _ hb1).trans p0⟩
            have K := Hid.mk K
            clear p0
            refine wp_region_held_drew (S := (fun w' => w'.cell? ⟨wA.heap.size, 0, none⟩ = some (.int .i64 y.t) ∧ w'.cell? ⟨wA.heap.size, 1, none⟩ = some (.int .i64 y.b) ∧ w'.cell? ⟨Q, 0, none⟩ = some (.int .i64 0) ∧ w'.cell? ⟨Q, 1, none⟩ = some (.slice (some ⟨b1, 0, none⟩) kl d1) ∧ w'.cell? ⟨G, 0, none⟩ = some (.int .i64 pc) ∧ w'.cell? ⟨G, 1, none⟩ = some (.int .i64 0) ∧ w'.cell? ⟨G, 2, none⟩ = some (.int .i64 0) ∧ w'.cell? ⟨G, 3, none⟩ = some (.int .i64 0) ∧ w'.cell? ⟨b1, k, none⟩ = some (.int .i64 z))) (by kernel_rfl) (K.out _ (Below.refl _ _).drew) (fun hHeld => ?_)
            refine wpAnyH_take (i := 0) (oi := _) (v := ?vz402u1) rfl (by kernel_rfl) (by kernel_rfl) (by kernel_rfl) (fun _ _ _ h => h) (Or.inl ⟨by kernel_rfl, ?hyz402u1⟩) hHeld ?restz402u1
            case hyz402u1 => (intro w hSw; (try dsimp only at hSw); go_simp; first | done | with_reducible rfl)
            try simp only [Act.put, List.getElem_toArray, List.getElem_cons_zero, List.setIfInBounds_toArray, List.set_cons_zero, List.set_cons_succ]
            refine wpAnyH_take (i := 1) (oi := _) (v := ?vz402u2) rfl (by kernel_rfl) (by kernel_rfl) (by kernel_rfl) (fun _ _ _ h => h) (Or.inl ⟨by kernel_rfl, ?hyz402u2⟩) hHeld ?restz402u2
            case hyz402u2 => (intro w hSw; (try dsimp only at hSw); go_simp; first | done | with_reducible rfl)
            try simp only [Act.put, List.getElem_toArray, List.getElem_cons_zero, List.getElem_cons_succ, List.setIfInBounds_toArray, List.set_cons_zero, List.set_cons_succ]
            refine wpAnyH_take (i := 2) (oi := _) (v := ?vz402u3) rfl (by kernel_rfl) (by kernel_rfl) (by kernel_rfl) (fun _ _ _ h => h) (Or.inl ⟨by kernel_rfl, ?hyz402u3⟩) hHeld ?restz402u3
            case hyz402u3 => (intro w hSw; (try dsimp only at hSw); go_simp; first | done | with_reducible rfl)
            try simp only [Act.put, List.getElem_toArray, List.getElem_cons_zero, List.getElem_cons_succ, List.setIfInBounds_toArray, List.set_cons_zero, List.set_cons_succ]
            refine wpAnyH_take (i := 3) (oi := _) (v := ?vz402u4) rfl (by kernel_rfl) (by kernel_rfl) (by kernel_rfl) (fun _ _ _ h => h) (Or.inl ⟨by kernel_rfl, ?hyz402u4⟩) hHeld ?restz402u4
            case hyz402u4 => (intro w hSw; (try dsimp only at hSw); go_simp; first | done | with_reducible rfl)
            try simp only [Act.put, List.getElem_toArray, List.getElem_cons_zero, List.getElem_cons_succ, List.setIfInBounds_toArray, List.set_cons_zero, List.set_cons_succ]
            refine wpAnyH_take (i := 4) (oi := _) (v := undef) rfl (by kernel_rfl) (by kernel_rfl) (by kernel_rfl) (fun _ _ _ h => h) (Or.inr ⟨by rfl, rfl⟩) hHeld ?_
            try simp only [Act.put, List.getElem_toArray, List.getElem_cons_zero, List.getElem_cons_succ, List.setIfInBounds_toArray, List.set_cons_zero, List.set_cons_succ]
            refine wpAnyH_take (i := 5) (oi := _) (v := undef) rfl (by kernel_rfl) (by kernel_rfl) (by kernel_rfl) (fun _ _ _ h => h) (Or.inr ⟨by rfl, rfl⟩) hHeld ?_
            try simp only [Act.put, List.getElem_toArray, List.getElem_cons_zero, List.getElem_cons_succ, List.setIfInBounds_toArray, List.set_cons_zero, List.set_cons_succ]
            refine wpAnyH_take (i := 6) (oi := _) (v := undef) rfl (by kernel_rfl) (by kernel_rfl) (by kernel_rfl) (fun _ _ _ h => h) (Or.inr ⟨by rfl, rfl⟩) hHeld ?_
            try simp only [Act.put, List.getElem_toArray, List.getElem_cons_zero, List.getElem_cons_succ, List.setIfInBounds_toArray, List.set_cons_zero, List.set_cons_succ]
            refine wpAnyH_take (i := 7) (oi := _) (v := undef) rfl (by kernel_rfl) (by kernel_rfl) (by kernel_rfl) (fun _ _ _ h => h) (Or.inr ⟨by rfl, rfl⟩) hHeld ?_
            try simp only [Act.put, List.getElem_toArray, List.getElem_cons_zero, List.getElem_cons_succ, List.setIfInBounds_toArray, List.set_cons_zero, List.set_cons_succ]
            refine wpAnyH_take (i := 8) (oi := _) (v := undef) rfl (by kernel_rfl) (by kernel_rfl) (by kernel_rfl) (fun _ _ _ h => h) (Or.inr ⟨by rfl, rfl⟩) hHeld ?_
            try simp only [Act.put, List.getElem_toArray, List.getElem_cons_zero, List.getElem_cons_succ, List.setIfInBounds_toArray, List.set_cons_zero, List.set_cons_succ]
            refine wpAnyH_take (i := 9) (oi := _) (v := undef) rfl (by kernel_rfl) (by kernel_rfl) (by kernel_rfl) (fun _ _ _ h => h) (Or.inr ⟨by rfl, rfl⟩) hHeld ?_
            try simp only [Act.put, List.getElem_toArray, List.getElem_cons_zero, List.getElem_cons_succ, List.setIfInBounds_toArray, List.set_cons_zero, List.set_cons_succ]
            refine wpAnyH_take (i := 10) (oi := _) (v := undef) rfl (by kernel_rfl) (by kernel_rfl) (by kernel_rfl) (fun _ _ _ h => h) (Or.inr ⟨by rfl, rfl⟩) hHeld ?_
            try simp only [Act.put, List.getElem_toArray, List.getElem_cons_zero, List.getElem_cons_succ, List.setIfInBounds_toArray, List.set_cons_zero, List.set_cons_succ]
            refine wpAnyH_take (i := 11) (oi := _) (v := undef) rfl (by kernel_rfl) (by kernel_rfl) (by kernel_rfl) (fun _ _ _ h => h) (Or.inr ⟨by rfl, rfl⟩) hHeld ?_
            try simp only [Act.put, List.getElem_toArray, List.getElem_cons_zero, List.getElem_cons_succ, List.setIfInBounds_toArray, List.set_cons_zero, List.set_cons_succ]
            refine wpAnyH_take (i := 12) (oi := _) (v := undef) rfl (by kernel_rfl) (by kernel_rfl) (by kernel_rfl) (fun _ _ _ h => h) (Or.inr ⟨by rfl, rfl⟩) hHeld ?_
            try simp only [Act.put, List.getElem_toArray, List.getElem_cons_zero, List.getElem_cons_succ, List.setIfInBounds_toArray, List.set_cons_zero, List.set_cons_succ]
            refine wpAnyH_take (i := 13) (oi := _) (v := undef) rfl (by kernel_rfl) (by kernel_rfl) (by kernel_rfl) (fun _ _ _ h => h) (Or.inr ⟨by rfl, rfl⟩) hHeld ?_
            try simp only [Act.put, List.getElem_toArray, List.getElem_cons_zero, List.getElem_cons_succ, List.setIfInBounds_toArray, List.set_cons_zero, List.set_cons_succ]
            refine wpAnyH_take (i := 14) (oi := _) (v := undef) rfl (by kernel_rfl) (by kernel_rfl) (by kernel_rfl) (fun _ _ _ h => h) (Or.inr ⟨by rfl, rfl⟩) hHeld ?_
            try simp only [Act.put, List.getElem_toArray, List.getElem_cons_zero, List.getElem_cons_succ, List.setIfInBounds_toArray, List.set_cons_zero, List.set_cons_succ]
            refine wpAnyH_take (i := 15) (oi := _) (v := undef) rfl (by kernel_rfl) (by kernel_rfl) (by kernel_rfl) (fun _ _ _ h => h) (Or.inr ⟨by rfl, rfl⟩) hHeld ?_
            try simp only [Act.put, List.getElem_toArray, List.getElem_cons_zero, List.getElem_cons_succ, List.setIfInBounds_toArray, List.set_cons_zero, List.set_cons_succ]
            refine wpAnyH_take (i := 16) (oi := _) (v := undef) rfl (by kernel_rfl) (by kernel_rfl) (by kernel_rfl) (fun _ _ _ h => h) (Or.inr ⟨by rfl, rfl⟩) hHeld ?_
            try simp only [Act.put, List.getElem_toArray, List.getElem_cons_zero, List.getElem_cons_succ, List.setIfInBounds_toArray, List.set_cons_zero, List.set_cons_succ]
            refine wpAnyH_take (i := 17) (oi := _) (v := undef) rfl (by kernel_rfl) (by kernel_rfl) (by kernel_rfl) (fun _ _ _ h => h) (Or.inr ⟨by rfl, rfl⟩) hHeld ?_
            try simp only [Act.put, List.getElem_toArray, List.getElem_cons_zero, List.getElem_cons_succ, List.setIfInBounds_toArray, List.set_cons_zero, List.set_cons_succ]
            refine wpAnyH_take (i := 18) (oi := _) (v := undef) rfl (by kernel_rfl) (by kernel_rfl) (by kernel_rfl) (fun _ _ _ h => h) (Or.inr ⟨by rfl, rfl⟩) hHeld ?_
            try simp only [Act.put, List.getElem_toArray, List.getElem_cons_zero, List.getElem_cons_succ, List.setIfInBounds_toArray, List.set_cons_zero, List.set_cons_succ]
            refine wpAnyH_take (i := 19) (oi := _) (v := undef) rfl (by kernel_rfl) (by kernel_rfl) (by kernel_rfl) (fun _ _ _ h => h) (Or.inr ⟨by rfl, rfl⟩) hHeld ?_
            try simp only [Act.put, List.getElem_toArray, List.getElem_cons_zero, List.getElem_cons_succ, List.setIfInBounds_toArray, List.set_cons_zero, List.set_cons_succ]
            refine wpAnyH_take (i := 20) (oi := _) (v := undef) rfl (by kernel_rfl) (by kernel_rfl) (by kernel_rfl) (fun _ _ _ h => h) (Or.inr ⟨by rfl, rfl⟩) hHeld ?_
            try simp only [Act.put, List.getElem_toArray, List.getElem_cons_zero, List.getElem_cons_succ, List.setIfInBounds_toArray, List.set_cons_zero, List.set_cons_succ]
            refine wpAnyH_take (i := 21) (oi := _) (v := undef) rfl (by kernel_rfl) (by kernel_rfl) (by kernel_rfl) (fun _ _ _ h => h) (Or.inr ⟨by rfl, rfl⟩) hHeld ?_
            try simp only [Act.put, List.getElem_toArray, List.getElem_cons_zero, List.getElem_cons_succ, List.setIfInBounds_toArray, List.set_cons_zero, List.set_cons_succ]
            refine wpAnyH_take (i := 22) (oi := _) (v := undef) rfl (by kernel_rfl) (by kernel_rfl) (by kernel_rfl) (fun _ _ _ h => h) (Or.inr ⟨by rfl, rfl⟩) hHeld ?_
            try simp only [Act.put, List.getElem_toArray, List.getElem_cons_zero, List.getElem_cons_succ, List.setIfInBounds_toArray, List.set_cons_zero, List.set_cons_succ]
            refine wpAnyH_take (i := 23) (oi := _) (v := undef) rfl (by kernel_rfl) (by kernel_rfl) (by kernel_rfl) (fun _ _ _ h => h) (Or.inr ⟨by rfl, rfl⟩) hHeld ?_
            try simp only [Act.put, List.getElem_toArray, List.getElem_cons_zero, List.getElem_cons_succ, List.setIfInBounds_toArray, List.set_cons_zero, List.set_cons_succ]
            refine wpAnyH_take (i := 24) (oi := _) (v := undef) rfl (by kernel_rfl) (by kernel_rfl) (by kernel_rfl) (fun _ _ _ h => h) (Or.inr ⟨by rfl, rfl⟩) hHeld ?_
            try simp only [Act.put, List.getElem_toArray, List.getElem_cons_zero, List.getElem_cons_succ, List.setIfInBounds_toArray, List.set_cons_zero, List.set_cons_succ]
            refine wpAnyH_take (i := 25) (oi := _) (v := undef) rfl (by kernel_rfl) (by kernel_rfl) (by kernel_rfl) (fun _ _ _ h => h) (Or.inr ⟨by rfl, rfl⟩) hHeld ?_
            try simp only [Act.put, List.getElem_toArray, List.getElem_cons_zero, List.getElem_cons_succ, List.setIfInBounds_toArray, List.set_cons_zero, List.set_cons_succ]
            refine wpAnyH_take (i := 26) (oi := _) (v := undef) rfl (by kernel_rfl) (by kernel_rfl) (by kernel_rfl) (fun _ _ _ h => h) (Or.inr ⟨by rfl, rfl⟩) hHeld ?_
            try simp only [Act.put, List.getElem_toArray, List.getElem_cons_zero, List.getElem_cons_succ, List.setIfInBounds_toArray, List.set_cons_zero, List.set_cons_succ]
            refine wpAnyH_take (i := 27) (oi := _) (v := undef) rfl (by kernel_rfl) (by kernel_rfl) (by kernel_rfl) (fun _ _ _ h => h) (Or.inr ⟨by rfl, rfl⟩) hHeld ?_
            try simp only [Act.put, List.getElem_toArray, List.getElem_cons_zero, List.getElem_cons_succ, List.setIfInBounds_toArray, List.set_cons_zero, List.set_cons_succ]
            refine wpAnyH_take (i := 28) (oi := _) (v := undef) rfl (by kernel_rfl) (by kernel_rfl) (by kernel_rfl) (fun _ _ _ h => h) (Or.inr ⟨by rfl, rfl⟩) hHeld ?_
            try simp only [Act.put, List.getElem_toArray, List.getElem_cons_zero, List.getElem_cons_succ, List.setIfInBounds_toArray, List.set_cons_zero, List.set_cons_succ]
            refine wpAnyH_take (i := 29) (oi := _) (v := undef) rfl (by kernel_rfl) (by kernel_rfl) (by kernel_rfl) (fun _ _ _ h => h) (Or.inr ⟨by rfl, rfl⟩) hHeld ?_
            try simp only [Act.put, List.getElem_toArray, List.getElem_cons_zero, List.getElem_cons_succ, List.setIfInBounds_toArray, List.set_cons_zero, List.set_cons_succ]
            refine wpAnyH_take (i := 30) (oi := _) (v := undef) rfl (by kernel_rfl) (by kernel_rfl) (by kernel_rfl) (fun _ _ _ h => h) (Or.inr ⟨by rfl, rfl⟩) hHeld ?_
            try simp only [Act.put, List.getElem_toArray, List.getElem_cons_zero, List.getElem_cons_succ, List.setIfInBounds_toArray, List.set_cons_zero, List.set_cons_succ]
            refine wpAnyH_take (i := 31) (oi := _) (v := undef) rfl (by kernel_rfl) (by kernel_rfl) (by kernel_rfl) (fun _ _ _ h => h) (Or.inr ⟨by rfl, rfl⟩) hHeld ?_
            try simp only [Act.put, List.getElem_toArray, List.getElem_cons_zero, List.getElem_cons_succ, List.setIfInBounds_toArray, List.set_cons_zero, List.set_cons_succ]
            refine wpAnyH_take (i := 32) (oi := _) (v := undef) rfl (by kernel_rfl) (by kernel_rfl) (by kernel_rfl) (fun _ _ _ h => h) (Or.inr ⟨by rfl, rfl⟩) hHeld ?_
            try simp only [Act.put, List.getElem_toArray, List.getElem_cons_zero, List.getElem_cons_succ, List.setIfInBounds_toArray, List.set_cons_zero, List.set_cons_succ]
            refine wpAnyH_take (i := 33) (oi := _) (v := undef) rfl (by kernel_rfl) (by kernel_rfl) (by kernel_rfl) (fun _ _ _ h => h) (Or.inr ⟨by rfl, rfl⟩) hHeld ?_
            try simp only [Act.put, List.getElem_toArray, List.getElem_cons_zero, List.getElem_cons_succ, List.setIfInBounds_toArray, List.set_cons_zero, List.set_cons_succ]
            refine wpAnyH_take (i := 34) (oi := _) (v := undef) rfl (by kernel_rfl) (by kernel_rfl) (by kernel_rfl) (fun _ _ _ h => h) (Or.inr ⟨by rfl, rfl⟩) hHeld ?_
            try simp only [Act.put, List.getElem_toArray, List.getElem_cons_zero, List.getElem_cons_succ, List.setIfInBounds_toArray, List.set_cons_zero, List.set_cons_succ]
            refine wpAnyH_take (i := 35) (oi := _) (v := undef) rfl (by kernel_rfl) (by kernel_rfl) (by kernel_rfl) (fun _ _ _ h => h) (Or.inr ⟨by rfl, rfl⟩) hHeld ?_
            try simp only [Act.put, List.getElem_toArray, List.getElem_cons_zero, List.getElem_cons_succ, List.setIfInBounds_toArray, List.set_cons_zero, List.set_cons_succ]
            refine wpAnyH_take (i := 36) (oi := _) (v := undef) rfl (by kernel_rfl) (by kernel_rfl) (by kernel_rfl) (fun _ _ _ h => h) (Or.inr ⟨by rfl, rfl⟩) hHeld ?_
            try simp only [Act.put, List.getElem_toArray, List.getElem_cons_zero, List.getElem_cons_succ, List.setIfInBounds_toArray, List.set_cons_zero, List.set_cons_succ]
            refine wpAnyH_take (i := 37) (oi := _) (v := undef) rfl (by kernel_rfl) (by kernel_rfl) (by kernel_rfl) (fun _ _ _ h => h) (Or.inr ⟨by rfl, rfl⟩) hHeld ?_
            try simp only [Act.put, List.getElem_toArray, List.getElem_cons_zero, List.getElem_cons_succ, List.setIfInBounds_toArray, List.set_cons_zero, List.set_cons_succ]
            refine wpAnyH_take (i := 38) (oi := _) (v := undef) rfl (by kernel_rfl) (by kernel_rfl) (by kernel_rfl) (fun _ _ _ h => h) (Or.inr ⟨by rfl, rfl⟩) hHeld ?_
            try simp only [Act.put, List.getElem_toArray, List.getElem_cons_zero, List.getElem_cons_succ, List.setIfInBounds_toArray, List.set_cons_zero, List.set_cons_succ]
            refine wpAnyH_take (i := 39) (oi := _) (v := ?vz402u5) rfl (by kernel_rfl) (by kernel_rfl) (by kernel_rfl) (fun _ _ _ h => h) (Or.inl ⟨by kernel_rfl, ?hyz402u5⟩) hHeld ?restz402u5
            case hyz402u5 => (intro w hSw; (try dsimp only at hSw); go_simp; first | done | with_reducible rfl)
            try simp only [Act.put, List.getElem_toArray, List.getElem_cons_zero, List.getElem_cons_succ, List.setIfInBounds_toArray, List.set_cons_zero, List.set_cons_succ]
            refine wpAnyH_done (by kernel_rfl) ?_ _
            have bdr : Below wc.heap.size wc (wc.drew) := (Below.refl _ _).drew
            clear K hHeld
            replace VA := VA.kept bdr
            replace VR := VR.kept bdr
            replace VG := VG.kept bdr
            replace O := O.kept bdr
            replace B := thenB B bdr
            clear bdr
            obtain ⟨s_VA, f_VA, z_VA⟩ := VA.open
            obtain ⟨s_VR, f_VR, z_VR⟩ := VR.open
            obtain ⟨s_VG, f_VG, z_VG⟩ := VG.open
            have Bo := B
            replace O := Hid.mk O
            replace VA := Hid.mk VA
            replace VR := Hid.mk VR
            replace B := Hid.mk B
            clear Bo VG
            go_wp2
            go_roundw
            case rel => exact ⟨k + 1, by omega, by go_num, O.out, VA.out, VR.out, B.out⟩
            case measure => simp [intOf]; omega
      · obtain rfl : k = kl := by omega
        have hk1 : ¬ ((k : Int) < (k : Int)) := by omega
        clear O
        obtain ⟨s_VA, f_VA, z_VA⟩ := VA.open
        obtain ⟨s_VR, f_VR, z_VR⟩ := VR.open
        have Bo := B
        have hAW : wA.heap.size < wr.heap.size := VA.1
        go_wp2_with fail
        refine (CMi.out _).mono ?_
        rintro e w501 ⟨c3, d3, rfl, OM, b501⟩
        clear s_VA f_VA z_VA s_VR f_VR z_VR
        have S501 := b501.size
        replace VA := VA.kept b501
        replace VR := VR.kept b501
        replace B := thenB B b501
        clear b501
        obtain ⟨s_VA, f_VA, z_VA⟩ := VA.open
        obtain ⟨s_VR, f_VR, z_VR⟩ := VR.open
        have Bo := B
        have hQ3 : Q < w501.heap.size := VR.1
        replace VA := VA.kept (belowA w501 (.cells #[.int .i64 0, .slice c3 ml d3] 30))
        replace VR := VR.kept (belowA w501 (.cells #[.int .i64 0, .slice c3 ml d3] 30))
        replace OM := OM.kept (belowA w501 (.cells #[.int .i64 0, .slice c3 ml d3] 30))
        replace B := thenB B (belowA w501 (.cells #[.int .i64 0, .slice c3 ml d3] 30))
        have VM := V.new w501 [.int .i64 0, .slice c3 ml d3] 30
        clear s_VA f_VA z_VA s_VR f_VR z_VR
        obtain ⟨s_VA, f_VA, z_VA⟩ := VA.open
        obtain ⟨s_VR, f_VR, z_VR⟩ := VR.open
        obtain ⟨s_VM, f_VM, z_VM⟩ := VM.open
        have Bo := B
        clear s_VA f_VA z_VA s_VR f_VR z_VR s_VM f_VM z_VM
        generalize hP3 : w501.heap.size = Q3 at *
        obtain ⟨s_VR, f_VR, z_VR⟩ := VR.open
        obtain ⟨s_VM, f_VM, z_VM⟩ := VM.open
        have VA1 := Hid.mk VA
        have VR1 := Hid.mk VR
        have VM1 := Hid.mk VM
        have O1 := Hid.mk OM
        have B1 := Hid.mk B
        clear B VA VR VM OM Bo
        go_wp2
        go_loopw [9] (fun i wr => ∃ q : Nat, q ≤ ml ∧ i = .int .i64 q ∧ Own .i64 2 wr (wA.heap.size + 1) c3 d3 ms ∧ V wr wA.heap.size [.int .i64 y.t, .int .i64 y.b] ∧ V wr Q [.int .i64 0, .slice c1 k d1] ∧ V wr Q3 [.int .i64 0, .slice c3 ml d3] ∧ Below wA.heap.size wA wr) (fun i _ => ml - (intOf i).toNat)
        case atStart => exact ⟨0, Nat.zero_le _, rfl, O1.out.mono (by omega), VA1.out, VR1.out, VM1.out, B1.out⟩
        case round =>
          clear O1 VA1 VR1 VM1 B1 s_VR f_VR z_VR s_VM f_VM z_VM
          obtain ⟨q, hq, rfl, OM, VA, VR, VM, B⟩ := hrel
          by_cases hlt : q < ml
          · obtain ⟨z, hz0⟩ : ∃ z, ms.getD q 0 = z := ⟨_, rfl⟩
            have hlen := hmlen.out
            have hki : (q : Int) < (ml : Int) := by omega
            have hmem : z ∈ ms := by rw [← hz0, getD_eq ms q (by omega)]; exact List.getElem_mem _
            have hzz := hMB.out z hmem
            obtain ⟨hsn, hlt2⟩ := hmis.out z hmem
            have hd9 : decide (y.t ≤ z) = false := by simp; omega
            have CSn := Hid.mk (fun w => implSeen_ok y z hzz w)
            simp only [hsn] at CSn
            rcases OM.rd with h0 | ⟨b2, o2, rfl, hca⟩
            · rw [h0] at hlen; simp at hlen; omega
            have p0 := hca q (by omega)
            rw [hz0] at p0
            have hb1 := World.block_lt_of_cell? (a := ⟨b2, o2 + q, none⟩) _ p0
            simp only at hb1
            clear hca hz0 hsn hlen hmem hlt2
            obtain ⟨s_VA, f_VA, z_VA⟩ := VA.open
            obtain ⟨s_VR, f_VR, z_VR⟩ := VR.open
            obtain ⟨s_VM, f_VM, z_VM⟩ := VM.open
            have Bo := B
            go_upto_region 19 with fail
            clear s_VA f_VA z_VA s_VR f_VR z_VR s_VM f_VM z_VM
            have K : ∀ w' : World, Below wr.heap.size wr w' → (w'.cell? ⟨wA.heap.size, 0, none⟩ = some (.int .i64 y.t) ∧ w'.cell? ⟨wA.heap.size, 1, none⟩ = some (.int .i64 y.b) ∧ w'.cell? ⟨Q3, 0, none⟩ = some (.int .i64 0) ∧ w'.cell? ⟨Q3, 1, none⟩ = some (.slice (some ⟨b2, o2, none⟩) ml d3) ∧ w'.cell? ⟨b2, o2 + q, none⟩ = some (.int .i64 z)) := fun w' h => ⟨(VA.kept h).2.1 0 (by simp), (VA.kept h).2.1 1 (by simp), (VM.kept h).2.1 0 (by simp), (VM.kept h).2.1 1 (by simp), ((bcell h).1 _ _ hb1).trans p0⟩
            have K := Hid.mk K
            clear p0
            refine wp_region_held_drew (S := (fun w' => w'.cell? ⟨wA.heap.size, 0, none⟩ = some (.int .i64 y.t) ∧ w'.cell? ⟨wA.heap.size, 1, none⟩ = some (.int .i64 y.b) ∧ w'.cell? ⟨Q3, 0, none⟩ = some (.int .i64 0) ∧ w'.cell? ⟨Q3, 1, none⟩ = some (.slice (some ⟨b2, o2, none⟩) ml d3) ∧ w'.cell? ⟨b2, o2 + q, none⟩ = some (.int .i64 z))) (by kernel_rfl) (K.out _ (Below.refl _ _).drew) (fun hHeld => ?_)
            refine wpAnyH_take (i := 0) (oi := _) (v := ?vz601u1) rfl (by kernel_rfl) (by kernel_rfl) (by kernel_rfl) (fun _ _ _ h => h) (Or.inl ⟨by kernel_rfl, ?hyz601u1⟩) hHeld ?restz601u1
            case hyz601u1 => (intro w hSw; (try dsimp only at hSw); go_simp; first | done | with_reducible rfl)
            try simp only [Act.put, List.getElem_toArray, List.getElem_cons_zero, List.setIfInBounds_toArray, List.set_cons_zero, List.set_cons_succ]
            refine wpAnyH_take (i := 1) (oi := _) (v := ?vz601u2) rfl (by kernel_rfl) (by kernel_rfl) (by kernel_rfl) (fun _ _ _ h => h) (Or.inl ⟨by kernel_rfl, ?hyz601u2⟩) hHeld ?restz601u2
            case hyz601u2 => (intro w hSw; (try dsimp only at hSw); go_simp; first | done | with_reducible rfl)
            try simp only [Act.put, List.getElem_toArray, List.getElem_cons_zero, List.getElem_cons_succ, List.setIfInBounds_toArray, List.set_cons_zero, List.set_cons_succ]
            refine wpAnyH_take (i := 2) (oi := _) (v := ?vz601u3) rfl (by kernel_rfl) (by kernel_rfl) (by kernel_rfl) (fun _ _ _ h => h) (Or.inl ⟨by kernel_rfl, ?hyz601u3⟩) hHeld ?restz601u3
            case hyz601u3 => (intro w hSw; (try dsimp only at hSw); go_simp; first | done | with_reducible rfl)
            try simp only [Act.put, List.getElem_toArray, List.getElem_cons_zero, List.getElem_cons_succ, List.setIfInBounds_toArray, List.set_cons_zero, List.set_cons_succ]
            refine wpAnyH_take (i := 3) (oi := _) (v := ?vz601u4) rfl (by kernel_rfl) (by kernel_rfl) (by kernel_rfl) (fun _ _ _ h => h) (Or.inl ⟨by kernel_rfl, ?hyz601u4⟩) hHeld ?restz601u4
            case hyz601u4 => (intro w hSw; (try dsimp only at hSw); go_simp; first | done | with_reducible rfl)
            try simp only [Act.put, List.getElem_toArray, List.getElem_cons_zero, List.getElem_cons_succ, List.setIfInBounds_toArray, List.set_cons_zero, List.set_cons_succ]
            refine wpAnyH_take (i := 4) (oi := _) (v := ?vz601u5) rfl (by kernel_rfl) (by kernel_rfl) (by kernel_rfl) (fun _ _ _ h => h) (Or.inl ⟨by kernel_rfl, ?hyz601u5⟩) hHeld ?restz601u5
            case hyz601u5 => (intro w hSw; (try dsimp only at hSw); go_simp; first | done | with_reducible rfl)
            try simp only [Act.put, List.getElem_toArray, List.getElem_cons_zero, List.getElem_cons_succ, List.setIfInBounds_toArray, List.set_cons_zero, List.set_cons_succ]
            refine wpAnyH_take (i := 5) (oi := _) (v := ?vz601u6) rfl (by kernel_rfl) (by kernel_rfl) (by kernel_rfl) (fun _ _ _ h => h) (Or.inl ⟨by kernel_rfl, ?hyz601u6⟩) hHeld ?restz601u6
            case hyz601u6 => (intro w hSw; (try dsimp only at hSw); go_simp; first | done | with_reducible rfl)
            try simp only [Act.put, List.getElem_toArray, List.getElem_cons_zero, List.getElem_cons_succ, List.setIfInBounds_toArray, List.set_cons_zero, List.set_cons_succ]
            refine wpAnyH_ready (rs := [6]) (by kernel_rfl) (by simp) ?_
            refine AllReadyH.cons (o := _) rfl (fun K0 hK0 => ?_) AllReadyH.nil
            go_simp
            go_at_call 17
            refine (CSn.out _).mono ?_
            rintro e wz601v7 ⟨rfl, bz601v7⟩
            refine hK0.out _ _ (K.out _ (thenB (Below.refl _ _).drew bz601v7)) (fun hHeld => ?_)
            clear hK0 K0
            try simp only [Act.put, List.getElem_toArray, List.getElem_cons_zero, List.getElem_cons_succ, List.setIfInBounds_toArray, List.set_cons_zero, List.set_cons_succ]
            refine wpAnyH_take (i := 7) (oi := _) (v := ?vz601u8) rfl (by kernel_rfl) (by kernel_rfl) (by kernel_rfl) (fun _ _ _ h => h) (Or.inl ⟨by kernel_rfl, ?hyz601u8⟩) hHeld ?restz601u8
            case hyz601u8 => (intro w hSw; (try dsimp only at hSw); go_simp; first | done | with_reducible rfl)
            try simp only [Act.put, List.getElem_toArray, List.getElem_cons_zero, List.getElem_cons_succ, List.setIfInBounds_toArray, List.set_cons_zero, List.set_cons_succ]
            refine wpAnyH_take (i := 8) (oi := _) (v := ?vz601u9) rfl (by kernel_rfl) (by kernel_rfl) (by kernel_rfl) (fun _ _ _ h => h) (Or.inl ⟨by kernel_rfl, ?hyz601u9⟩) hHeld ?restz601u9
            case hyz601u9 => (intro w hSw; (try dsimp only at hSw); go_simp; first | done | with_reducible rfl)
            try simp only [Act.put, List.getElem_toArray, List.getElem_cons_zero, List.getElem_cons_succ, List.setIfInBounds_toArray, List.set_cons_zero, List.set_cons_succ]
            refine wpAnyH_take (i := 9) (oi := _) (v := ?vz601u10) rfl (by kernel_rfl) (by kernel_rfl) (by kernel_rfl) (fun _ _ _ h => h) (Or.inl ⟨by kernel_rfl, ?hyz601u10⟩) hHeld ?restz601u10
            case hyz601u10 => (intro w hSw; (try dsimp only at hSw); go_simp; first | done | with_reducible rfl)
            try simp only [Act.put, List.getElem_toArray, List.getElem_cons_zero, List.getElem_cons_succ, List.setIfInBounds_toArray, List.set_cons_zero, List.set_cons_succ]
            refine wpAnyH_take (i := 10) (oi := _) (v := ?vz601u11) rfl (by kernel_rfl) (by kernel_rfl) (by kernel_rfl) (fun _ _ _ h => h) (Or.inl ⟨by kernel_rfl, ?hyz601u11⟩) hHeld ?restz601u11
            case hyz601u11 => (intro w hSw; (try dsimp only at hSw); go_simp; first | done | with_reducible rfl)
            try simp only [Act.put, List.getElem_toArray, List.getElem_cons_zero, List.getElem_cons_succ, List.setIfInBounds_toArray, List.set_cons_zero, List.set_cons_succ]
            refine wpAnyH_take (i := 11) (oi := _) (v := ?vz601u12) rfl (by kernel_rfl) (by kernel_rfl) (by kernel_rfl) (fun _ _ _ h => h) (Or.inl ⟨by kernel_rfl, ?hyz601u12⟩) hHeld ?restz601u12
            case hyz601u12 => (intro w hSw; (try dsimp only at hSw); go_simp; first | done | with_reducible rfl)
            try simp only [Act.put, List.getElem_toArray, List.getElem_cons_zero, List.getElem_cons_succ, List.setIfInBounds_toArray, List.set_cons_zero, List.set_cons_succ]
            refine wpAnyH_take (i := 12) (oi := _) (v := ?vz601u13) rfl (by kernel_rfl) (by kernel_rfl) (by kernel_rfl) (fun _ _ _ h => h) (Or.inl ⟨by kernel_rfl, ?hyz601u13⟩) hHeld ?restz601u13
            case hyz601u13 => (intro w hSw; (try dsimp only at hSw); go_simp; first | done | with_reducible rfl)
            try simp only [Act.put, List.getElem_toArray, List.getElem_cons_zero, List.getElem_cons_succ, List.setIfInBounds_toArray, List.set_cons_zero, List.set_cons_succ]
            refine wpAnyH_take (i := 13) (oi := _) (v := ?vz601u14) rfl (by kernel_rfl) (by kernel_rfl) (by kernel_rfl) (fun _ _ _ h => h) (Or.inl ⟨by kernel_rfl, ?hyz601u14⟩) hHeld ?restz601u14
            case hyz601u14 => (intro w hSw; (try dsimp only at hSw); go_simp; first | done | with_reducible rfl)
            try simp only [Act.put, List.getElem_toArray, List.getElem_cons_zero, List.getElem_cons_succ, List.setIfInBounds_toArray, List.set_cons_zero, List.set_cons_succ]
            refine wpAnyH_take (i := 14) (oi := _) (v := ?vz601u15) rfl (by kernel_rfl) (by kernel_rfl) (by kernel_rfl) (fun _ _ _ h => h) (Or.inl ⟨by kernel_rfl, ?hyz601u15⟩) hHeld ?restz601u15
            case hyz601u15 => (intro w hSw; (try dsimp only at hSw); go_simp; first | done | with_reducible rfl)
            try simp only [Act.put, List.getElem_toArray, List.getElem_cons_zero, List.getElem_cons_succ, List.setIfInBounds_toArray, List.set_cons_zero, List.set_cons_succ]
            refine wpAnyH_take (i := 15) (oi := _) (v := ?vz601u16) rfl (by kernel_rfl) (by kernel_rfl) (by kernel_rfl) (fun _ _ _ h => h) (Or.inl ⟨by kernel_rfl, ?hyz601u16⟩) hHeld ?restz601u16
            case hyz601u16 => (intro w hSw; (try dsimp only at hSw); go_simp; first | done | with_reducible rfl)
            try simp only [Act.put, List.getElem_toArray, List.getElem_cons_zero, List.getElem_cons_succ, List.setIfInBounds_toArray, List.set_cons_zero, List.set_cons_succ]
            refine wpAnyH_take (i := 16) (oi := _) (v := ?vz601u17) rfl (by kernel_rfl) (by kernel_rfl) (by kernel_rfl) (fun _ _ _ h => h) (Or.inl ⟨by kernel_rfl, ?hyz601u17⟩) hHeld ?restz601u17
            case hyz601u17 => (intro w hSw; (try dsimp only at hSw); go_simp; first | done | with_reducible rfl)
            try simp only [Act.put, List.getElem_toArray, List.getElem_cons_zero, List.getElem_cons_succ, List.setIfInBounds_toArray, List.set_cons_zero, List.set_cons_succ]
            refine wpAnyH_done (by kernel_rfl) ?_ _
            clear K hHeld
            replace VA := VA.kept (thenB (Below.refl _ _).drew bz601v7)
            replace VR := VR.kept (thenB (Below.refl _ _).drew bz601v7)
            replace VM := VM.kept (thenB (Below.refl _ _).drew bz601v7)
            replace OM := OM.kept (thenB (Below.refl _ _).drew bz601v7)
            replace B := thenB B (thenB (Below.refl _ _).drew bz601v7)
            have Sz601 := ((thenB (Below.refl _ _).drew bz601v7)).size
            clear bz601v7
            obtain ⟨s_VA, f_VA, z_VA⟩ := VA.open
            obtain ⟨s_VR, f_VR, z_VR⟩ := VR.open
            obtain ⟨s_VM, f_VM, z_VM⟩ := VM.open
            have Bo := B
            replace OM := Hid.mk OM
            replace VA := Hid.mk VA
            replace VR := Hid.mk VR
            replace VM := Hid.mk VM
            replace B := Hid.mk B
            clear Bo
            go_wp2
            go_roundw
            case rel => exact ⟨q + 1, by omega, by go_num, OM.out, VA.out, VR.out, VM.out, B.out⟩
            case measure => simp [intOf]; omega
          · obtain rfl : q = ml := by omega
            have hk2 : ¬ ((q : Int) < (q : Int)) := by omega
            have hkk : ((k : Int) == (k : Int)) = true := by simp
            clear OM
            obtain ⟨s_VA, f_VA, z_VA⟩ := VA.open
            obtain ⟨s_VR, f_VR, z_VR⟩ := VR.open
            obtain ⟨s_VM, f_VM, z_VM⟩ := VM.open
            have Bo := B
            go_upto_region 21 with fail
            clear s_VA f_VA z_VA s_VR f_VR z_VR s_VM f_VM z_VM
            have K : ∀ w' : World, Below wr.heap.size wr w' → (w'.cell? ⟨wA.heap.size, 0, none⟩ = some (.int .i64 y.t) ∧ w'.cell? ⟨wA.heap.size, 1, none⟩ = some (.int .i64 y.b) ∧ w'.cell? ⟨Q, 0, none⟩ = some (.int .i64 0) ∧ w'.cell? ⟨Q, 1, none⟩ = some (.slice c1 k d1) ∧ w'.cell? ⟨Q3, 0, none⟩ = some (.int .i64 0) ∧ w'.cell? ⟨Q3, 1, none⟩ = some (.slice c3 q d3)) := fun w' h => ⟨(VA.kept h).2.1 0 (by simp), (VA.kept h).2.1 1 (by simp), (VR.kept h).2.1 0 (by simp), (VR.kept h).2.1 1 (by simp), (VM.kept h).2.1 0 (by simp), (VM.kept h).2.1 1 (by simp)⟩
            have K := Hid.mk K
            refine wp_region_held_drew (S := (fun w' => w'.cell? ⟨wA.heap.size, 0, none⟩ = some (.int .i64 y.t) ∧ w'.cell? ⟨wA.heap.size, 1, none⟩ = some (.int .i64 y.b) ∧ w'.cell? ⟨Q, 0, none⟩ = some (.int .i64 0) ∧ w'.cell? ⟨Q, 1, none⟩ = some (.slice c1 k d1) ∧ w'.cell? ⟨Q3, 0, none⟩ = some (.int .i64 0) ∧ w'.cell? ⟨Q3, 1, none⟩ = some (.slice c3 q d3))) (by kernel_rfl) (K.out _ (Below.refl _ _).drew) (fun hHeld => ?_)
            refine wpAnyH_take (i := 0) (oi := _) (v := ?vz701u1) rfl (by kernel_rfl) (by kernel_rfl) (by kernel_rfl) (fun _ _ _ h => h) (Or.inl ⟨by kernel_rfl, ?hyz701u1⟩) hHeld ?restz701u1
            case hyz701u1 => (intro w hSw; (try dsimp only at hSw); go_simp; first | done | with_reducible rfl)
            try simp only [Act.put, List.getElem_toArray, List.getElem_cons_zero, List.setIfInBounds_toArray, List.set_cons_zero, List.set_cons_succ]
            refine wpAnyH_take (i := 1) (oi := _) (v := ?vz701u2) rfl (by kernel_rfl) (by kernel_rfl) (by kernel_rfl) (fun _ _ _ h => h) (Or.inl ⟨by kernel_rfl, ?hyz701u2⟩) hHeld ?restz701u2
            case hyz701u2 => (intro w hSw; (try dsimp only at hSw); go_simp; first | done | with_reducible rfl)
            try simp only [Act.put, List.getElem_toArray, List.getElem_cons_zero, List.getElem_cons_succ, List.setIfInBounds_toArray, List.set_cons_zero, List.set_cons_succ]
            refine wpAnyH_take (i := 2) (oi := _) (v := ?vz701u3) rfl (by kernel_rfl) (by kernel_rfl) (by kernel_rfl) (fun _ _ _ h => h) (Or.inl ⟨by kernel_rfl, ?hyz701u3⟩) hHeld ?restz701u3
            case hyz701u3 => (intro w hSw; (try dsimp only at hSw); go_simp; first | done | with_reducible rfl)
            try simp only [Act.put, List.getElem_toArray, List.getElem_cons_zero, List.getElem_cons_succ, List.setIfInBounds_toArray, List.set_cons_zero, List.set_cons_succ]
            refine wpAnyH_take (i := 3) (oi := _) (v := ?vz701u4) rfl (by kernel_rfl) (by kernel_rfl) (by kernel_rfl) (fun _ _ _ h => h) (Or.inl ⟨by kernel_rfl, ?hyz701u4⟩) hHeld ?restz701u4
            case hyz701u4 => (intro w hSw; (try dsimp only at hSw); go_simp; first | done | with_reducible rfl)
            try simp only [Act.put, List.getElem_toArray, List.getElem_cons_zero, List.getElem_cons_succ, List.setIfInBounds_toArray, List.set_cons_zero, List.set_cons_succ]
            refine wpAnyH_take (i := 4) (oi := _) (v := ?vz701u5) rfl (by kernel_rfl) (by kernel_rfl) (by kernel_rfl) (fun _ _ _ h => h) (Or.inl ⟨by kernel_rfl, ?hyz701u5⟩) hHeld ?restz701u5
            case hyz701u5 => (intro w hSw; (try dsimp only at hSw); go_simp; first | done | with_reducible rfl)
            try simp only [Act.put, List.getElem_toArray, List.getElem_cons_zero, List.getElem_cons_succ, List.setIfInBounds_toArray, List.set_cons_zero, List.set_cons_succ]
            refine wpAnyH_ready (rs := [5]) (by kernel_rfl) (by simp) ?_
            refine AllReadyH.cons (o := _) rfl (fun K0 hK0 => ?_) AllReadyH.nil
            go_simp
            go_at_call 15
            refine (CAs.out _ ((HL.out.kept B).kept (Below.refl _ _).drew)).mono ?_
            rintro e wz701v6 ⟨c5, d5, rfl, _, bz701v6⟩
            refine hK0.out _ _ (K.out _ (thenB (Below.refl _ _).drew bz701v6)) (fun hHeld => ?_)
            clear hK0 K0
            try simp only [Act.put, List.getElem_toArray, List.getElem_cons_zero, List.getElem_cons_succ, List.setIfInBounds_toArray, List.set_cons_zero, List.set_cons_succ]
            refine wpAnyH_take (i := 6) (oi := _) (v := ?vz701u7) rfl (by kernel_rfl) (by kernel_rfl) (by kernel_rfl) (fun _ _ _ h => h) (Or.inl ⟨by kernel_rfl, ?hyz701u7⟩) hHeld ?restz701u7
            case hyz701u7 => (intro w hSw; (try dsimp only at hSw); go_simp; first | done | with_reducible rfl)
            try simp only [Act.put, List.getElem_toArray, List.getElem_cons_zero, List.getElem_cons_succ, List.setIfInBounds_toArray, List.set_cons_zero, List.set_cons_succ]
            refine wpAnyH_take (i := 7) (oi := _) (v := ?vz701u8) rfl (by kernel_rfl) (by kernel_rfl) (by kernel_rfl) (fun _ _ _ h => h) (Or.inl ⟨by kernel_rfl, ?hyz701u8⟩) hHeld ?restz701u8
            case hyz701u8 => (intro w hSw; (try dsimp only at hSw); go_simp; first | done | with_reducible rfl)
            try simp only [Act.put, List.getElem_toArray, List.getElem_cons_zero, List.getElem_cons_succ, List.setIfInBounds_toArray, List.set_cons_zero, List.set_cons_succ]
            refine wpAnyH_take (i := 8) (oi := _) (v := ?vz701u9) rfl (by kernel_rfl) (by kernel_rfl) (by kernel_rfl) (fun _ _ _ h => h) (Or.inl ⟨by kernel_rfl, ?hyz701u9⟩) hHeld ?restz701u9
            case hyz701u9 => (intro w hSw; (try dsimp only at hSw); go_simp; first | done | with_reducible rfl)
            try simp only [Act.put, List.getElem_toArray, List.getElem_cons_zero, List.getElem_cons_succ, List.setIfInBounds_toArray, List.set_cons_zero, List.set_cons_succ]
            refine wpAnyH_take (i := 9) (oi := _) (v := ?vz701u10) rfl (by kernel_rfl) (by kernel_rfl) (by kernel_rfl) (fun _ _ _ h => h) (Or.inl ⟨by kernel_rfl, ?hyz701u10⟩) hHeld ?restz701u10
            case hyz701u10 => (intro w hSw; (try dsimp only at hSw); go_simp; first | done | with_reducible rfl)
            try simp only [Act.put, List.getElem_toArray, List.getElem_cons_zero, List.getElem_cons_succ, List.setIfInBounds_toArray, List.set_cons_zero, List.set_cons_succ]
            refine wpAnyH_take (i := 10) (oi := _) (v := ?vz701u11) rfl (by kernel_rfl) (by kernel_rfl) (by kernel_rfl) (fun _ _ _ h => h) (Or.inl ⟨by kernel_rfl, ?hyz701u11⟩) hHeld ?restz701u11
            case hyz701u11 => (intro w hSw; (try dsimp only at hSw); go_simp; first | done | with_reducible rfl)
            try simp only [Act.put, List.getElem_toArray, List.getElem_cons_zero, List.getElem_cons_succ, List.setIfInBounds_toArray, List.set_cons_zero, List.set_cons_succ]
            refine wpAnyH_take (i := 11) (oi := _) (v := ?vz701u12) rfl (by kernel_rfl) (by kernel_rfl) (by kernel_rfl) (fun _ _ _ h => h) (Or.inl ⟨by kernel_rfl, ?hyz701u12⟩) hHeld ?restz701u12
            case hyz701u12 => (intro w hSw; (try dsimp only at hSw); go_simp; first | done | with_reducible rfl)
            try simp only [Act.put, List.getElem_toArray, List.getElem_cons_zero, List.getElem_cons_succ, List.setIfInBounds_toArray, List.set_cons_zero, List.set_cons_succ]
            refine wpAnyH_take (i := 12) (oi := _) (v := ?vz701u13) rfl (by kernel_rfl) (by kernel_rfl) (by kernel_rfl) (fun _ _ _ h => h) (Or.inl ⟨by kernel_rfl, ?hyz701u13⟩) hHeld ?restz701u13
            case hyz701u13 => (intro w hSw; (try dsimp only at hSw); go_simp; first | done | with_reducible rfl)
            try simp only [Act.put, List.getElem_toArray, List.getElem_cons_zero, List.getElem_cons_succ, List.setIfInBounds_toArray, List.set_cons_zero, List.set_cons_succ]
            refine wpAnyH_take (i := 13) (oi := _) (v := ?vz701u14) rfl (by kernel_rfl) (by kernel_rfl) (by kernel_rfl) (fun _ _ _ h => h) (Or.inl ⟨by kernel_rfl, ?hyz701u14⟩) hHeld ?restz701u14
            case hyz701u14 => (intro w hSw; (try dsimp only at hSw); go_simp; first | done | with_reducible rfl)
            try simp only [Act.put, List.getElem_toArray, List.getElem_cons_zero, List.getElem_cons_succ, List.setIfInBounds_toArray, List.set_cons_zero, List.set_cons_succ]
            refine wpAnyH_take (i := 14) (oi := _) (v := ?vz701u15) rfl (by kernel_rfl) (by kernel_rfl) (by kernel_rfl) (fun _ _ _ h => h) (Or.inl ⟨by kernel_rfl, ?hyz701u15⟩) hHeld ?restz701u15
            case hyz701u15 => (intro w hSw; (try dsimp only at hSw); go_simp; first | done | with_reducible rfl)
            try simp only [Act.put, List.getElem_toArray, List.getElem_cons_zero, List.getElem_cons_succ, List.setIfInBounds_toArray, List.set_cons_zero, List.set_cons_succ]
            refine wpAnyH_done (by kernel_rfl) ?_ _
            clear K hHeld
            have bacc : Below wr.heap.size wr wz701v6 := (thenB (Below.refl _ _).drew bz701v6)
            replace VA := VA.kept bacc
            replace VR := VR.kept bacc
            replace VM := VM.kept bacc
            replace B := thenB B bacc
            have Sz701 := (bacc).size
            clear bacc
            clear bz701v6
            obtain ⟨s_VA, f_VA, z_VA⟩ := VA.open
            obtain ⟨s_VR, f_VR, z_VR⟩ := VR.open
            obtain ⟨s_VM, f_VM, z_VM⟩ := VM.open
            have Bo := B
            go_wp2
            go_ret
            exact ⟨rfl, HB0.out.trans (Bo.mono HB0.out.size)⟩
  · generalize taC y ls = kc at *
    have hne : (kc != 0) = true := by simp [hc]
    have hkk : (kc == kc) = true := by simp
    clear hc hways hkl
    replace B := thenB B (belowA wA (.cells #[.int .i64 y.t, .int .i64 y.b] 25))
    have VA := V.new wA [.int .i64 y.t, .int .i64 y.b] 25
    obtain ⟨s_VA, f_VA, z_VA⟩ := VA.open
    have Bo := B
    go_wp2_with fail
    refine (CAi.out _ (HL.out.kept B)).mono ?_
    rintro e w11 ⟨c1, d1, rfl, O, b11⟩
    clear s_VA f_VA z_VA
    have S11 := b11.size
    simp only [World.size_alloc] at S11
    replace VA := VA.kept b11
    replace B := thenB B b11
    clear b11
    obtain ⟨s_VA, f_VA, z_VA⟩ := VA.open
    have Bo := B
    have hOQ : Hid (∀ b : Addr, c1 = some b → b.block < w11.heap.size) := Hid.mk (fun b hb => (O.lt b hb).2)
    replace VA := VA.kept (belowA w11 (.cells #[.int .i64 kc, .slice c1 kl d1] 30))
    replace O := O.kept (belowA w11 (.cells #[.int .i64 kc, .slice c1 kl d1] 30))
    replace B := thenB B (belowA w11 (.cells #[.int .i64 kc, .slice c1 kl d1] 30))
    have VR := V.new w11 [.int .i64 kc, .slice c1 kl d1] 30
    clear s_VA f_VA z_VA
    obtain ⟨s_VA, f_VA, z_VA⟩ := VA.open
    obtain ⟨s_VR, f_VR, z_VR⟩ := VR.open
    have Bo := B
    go_upto_region 6 with fail
    clear s_VA f_VA z_VA s_VR f_VR z_VR
    have K : ∀ w' : World, Below (w11.alloc (.cells #[.int .i64 kc, .slice c1 kl d1] 30)).heap.size (w11.alloc (.cells #[.int .i64 kc, .slice c1 kl d1] 30)) w' → (w'.cell? ⟨wA.heap.size, 0, none⟩ = some (.int .i64 y.t) ∧ w'.cell? ⟨wA.heap.size, 1, none⟩ = some (.int .i64 y.b) ∧ w'.cell? ⟨w11.heap.size, 0, none⟩ = some (.int .i64 kc) ∧ w'.cell? ⟨w11.heap.size, 1, none⟩ = some (.slice c1 kl d1)) := fun w' h => ⟨(VA.kept h).2.1 0 (by simp), (VA.kept h).2.1 1 (by simp), (VR.kept h).2.1 0 (by simp), (VR.kept h).2.1 1 (by simp)⟩
    have K := Hid.mk K
    refine wp_region_held_drew (S := (fun w' => w'.cell? ⟨wA.heap.size, 0, none⟩ = some (.int .i64 y.t) ∧ w'.cell? ⟨wA.heap.size, 1, none⟩ = some (.int .i64 y.b) ∧ w'.cell? ⟨w11.heap.size, 0, none⟩ = some (.int .i64 kc) ∧ w'.cell? ⟨w11.heap.size, 1, none⟩ = some (.slice c1 kl d1))) (by kernel_rfl) (K.out _ (Below.refl _ _).drew) (fun hHeld => ?_)
    refine wpAnyH_take (i := 0) (oi := _) (v := ?vz11u1) rfl (by kernel_rfl) (by kernel_rfl) (by kernel_rfl) (fun _ _ _ h => h) (Or.inl ⟨by kernel_rfl, ?hyz11u1⟩) hHeld ?restz11u1
    case hyz11u1 => (intro w hSw; (try dsimp only at hSw); go_simp; first | done | with_reducible rfl)
    try simp only [Act.put, List.getElem_toArray, List.getElem_cons_zero, List.setIfInBounds_toArray, List.set_cons_zero, List.set_cons_succ]
    refine wpAnyH_take (i := 1) (oi := _) (v := ?vz11u2) rfl (by kernel_rfl) (by kernel_rfl) (by kernel_rfl) (fun _ _ _ h => h) (Or.inl ⟨by kernel_rfl, ?hyz11u2⟩) hHeld ?restz11u2
    case hyz11u2 => (intro w hSw; (try dsimp only at hSw); go_simp; first | done | with_reducible rfl)
    try simp only [Act.put, List.getElem_toArray, List.getElem_cons_zero, List.getElem_cons_succ, List.setIfInBounds_toArray, List.set_cons_zero, List.set_cons_succ]
    refine wpAnyH_take (i := 4) (oi := _) (v := ?vz11u3) rfl (by kernel_rfl) (by kernel_rfl) (by kernel_rfl) (fun _ _ _ h => h) (Or.inl ⟨by kernel_rfl, ?hyz11u3⟩) hHeld ?restz11u3
    case hyz11u3 => (intro w hSw; (try dsimp only at hSw); go_simp; first | done | with_reducible rfl)
    try simp only [Act.put, List.getElem_toArray, List.getElem_cons_zero, List.getElem_cons_succ, List.setIfInBounds_toArray, List.set_cons_zero, List.set_cons_succ]
    refine wpAnyH_take (i := 5) (oi := _) (v := ?vz11u4) rfl (by kernel_rfl) (by kernel_rfl) (by kernel_rfl) (fun _ _ _ h => h) (Or.inl ⟨by kernel_rfl, ?hyz11u4⟩) hHeld ?restz11u4
    case hyz11u4 => (intro w hSw; (try dsimp only at hSw); go_simp; first | done | with_reducible rfl)
    try simp only [Act.put, List.getElem_toArray, List.getElem_cons_zero, List.getElem_cons_succ, List.setIfInBounds_toArray, List.set_cons_zero, List.set_cons_succ]
    refine wpAnyH_ready (rs := [2]) (by kernel_rfl) (by simp) ?_
    refine AllReadyH.cons (o := _) rfl (fun K0 hK0 => ?_) AllReadyH.nil
    go_simp
    go_at_call 15
    refine (CAs.out _ ((HL.out.kept B).kept (Below.refl _ _).drew)).mono ?_
    rintro e wz11v5 ⟨c2, d2, rfl, _, bz11v5⟩
    refine hK0.out _ _ (K.out _ (thenB (Below.refl _ _).drew bz11v5)) (fun hHeld => ?_)
    clear hK0 K0
    try simp only [Act.put, List.getElem_toArray, List.getElem_cons_zero, List.getElem_cons_succ, List.setIfInBounds_toArray, List.set_cons_zero, List.set_cons_succ]
    refine wpAnyH_take (i := 3) (oi := _) (v := ?vz11u6) rfl (by kernel_rfl) (by kernel_rfl) (by kernel_rfl) (fun _ _ _ h => h) (Or.inl ⟨by kernel_rfl, ?hyz11u6⟩) hHeld ?restz11u6
    case hyz11u6 => (intro w hSw; (try dsimp only at hSw); go_simp; first | done | with_reducible rfl)
    try simp only [Act.put, List.getElem_toArray, List.getElem_cons_zero, List.getElem_cons_succ, List.setIfInBounds_toArray, List.set_cons_zero, List.set_cons_succ]
    refine wpAnyH_take (i := 6) (oi := _) (v := ?vz11u7) rfl (by kernel_rfl) (by kernel_rfl) (by kernel_rfl) (fun _ _ _ h => h) (Or.inl ⟨by kernel_rfl, ?hyz11u7⟩) hHeld ?restz11u7
    case hyz11u7 => (intro w hSw; (try dsimp only at hSw); go_simp; first | done | with_reducible rfl)
    try simp only [Act.put, List.getElem_toArray, List.getElem_cons_zero, List.getElem_cons_succ, List.setIfInBounds_toArray, List.set_cons_zero, List.set_cons_succ]
    refine wpAnyH_take (i := 7) (oi := _) (v := ?vz11u8) rfl (by kernel_rfl) (by kernel_rfl) (by kernel_rfl) (fun _ _ _ h => h) (Or.inl ⟨by kernel_rfl, ?hyz11u8⟩) hHeld ?restz11u8
    case hyz11u8 => (intro w hSw; (try dsimp only at hSw); go_simp; first | done | with_reducible rfl)
    try simp only [Act.put, List.getElem_toArray, List.getElem_cons_zero, List.getElem_cons_succ, List.setIfInBounds_toArray, List.set_cons_zero, List.set_cons_succ]
    refine wpAnyH_done (by kernel_rfl) ?_ _
    clear K hHeld
    have bacc : Below (w11.alloc (.cells #[.int .i64 kc, .slice c1 kl d1] 30)).heap.size (w11.alloc (.cells #[.int .i64 kc, .slice c1 kl d1] 30)) wz11v5 := (thenB (Below.refl _ _).drew bz11v5)
    replace VA := VA.kept bacc
    replace VR := VR.kept bacc
    replace O := O.kept bacc
    replace B := thenB B bacc
    have Sz11 := (bacc).size
    clear bacc
    simp only [World.size_alloc] at Sz11
    clear bz11v5
    obtain ⟨s_VA, f_VA, z_VA⟩ := VA.open
    obtain ⟨s_VR, f_VR, z_VR⟩ := VR.open
    have Bo := B
    go_wp2
    go_ret
    exact ⟨rfl, HB0.out.trans (Bo.mono HB0.out.size)⟩

end Go.Proofs.Ytkpdbdcfimdnjaa
