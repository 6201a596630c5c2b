/- 'ParsePacket' of the program by readOrFault. -/
import Derived.Test.YthjaehcfakjemaaPrsC
import Derived.Test.YthjaehcfakjemaaFill
import Derived.Test.YthjaehcfakjemaaNewC
namespace Go.Proofs.Ythjaehcfakjemaa
open Go.RowKit

theorem catchOn_Packet (C : Nat) (k : Int) (w : World) (hv : V w C [.int .i64 0]) :
    CallsD Try.prog 44 #[.pointer (some ⟨C, 0, none⟩)] (.panicking [{ v := .iface 69 (.int .i64 k), recovered := false }]) w fun e u' w' =>
      e = .returned (.tuple #[]) ∧ u' = .panicking [{ v := .iface 69 (.int .i64 k), recovered := true }] ∧ V w' C [.int .i64 k] ∧ Below C w w' := by
  refine callsD_of_wpS Try.func44 rfl fun c₀ cs hu => ?_
  apply wpS_seq
  apply wpS_region
  simp [wpOpsS, go_sem, recoverD, hu, Try.ntmps44, Exit.thenS]
  refine wpS_of_wp ?_
  change Code.wp _ _ _ { tmps := #[.pointer (some ⟨C, 0, none⟩), .iface 69 (.int .i64 k), .iface 69 (.int .i64 k), undef, undef, undef, undef], defers := [] } _
  obtain ⟨s0, f0, z0⟩ := hv.open
  go_wp2_with (go_at_call 45; refine (faultCode_ok k _).mono ?_; rintro e w2 ⟨rfl, rfl⟩)
  have hv8 := hv.set (i := 0) (by simp) (.int .i64 k)
  simp only [List.set_cons_zero] at hv8
  have HV := Hid.mk hv8
  have HB := Hid.mk ((Below.refl C w2).setCell (p := ⟨C, 0, none⟩) (Nat.le_refl _) (.int .i64 k))
  clear hv8 hv f0 z0
  simp [bodyPostS, results, Try.results44]
  exact ⟨HV.out, HB.out⟩

theorem catchOff_Packet (C : Nat) (w : World) :
    CallsD Try.prog 44 #[.pointer (some ⟨C, 0, none⟩)] .returning w fun e u' w' => e = .returned (.tuple #[]) ∧ u' = .returning ∧ w' = w := by
  refine callsD_of_wpS Try.func44 rfl fun c₀ cs hu => ?_
  apply wpS_seq
  apply wpS_region
  simp [wpOpsS, go_sem, recoverD, hu, Try.ntmps44, Exit.thenS]
  refine wpS_of_wp ?_
  change Code.wp _ _ _ { tmps := #[.pointer (some ⟨C, 0, none⟩), .nilIface, .nilIface, undef, undef, undef, undef], defers := [] } _
  go_wp2
  cases c₀
  simp_all [bodyPostS, results, Try.results44]

set_option maxHeartbeats 1000000 in
theorem rofNo_Packet (D : Nat) (k : Int) (w : World)
    (C : Hid (Calls Try.prog 22 #[.pointer (some ⟨D, 0, none⟩)] ((w.alloc (.cells #[.int .i64 0, .int .i64 0, .int .i64 0, .int .i64 0, .int .i64 0, .int .i64 0, .slice none 0 0] 26)).alloc (.cells #[.int .i64 0] 2)) fun e w' => e = stop k ∧ Below (w.heap.size + 2) ((w.alloc (.cells #[.int .i64 0, .int .i64 0, .int .i64 0, .int .i64 0, .int .i64 0, .int .i64 0, .slice none 0 0] 26)).alloc (.cells #[.int .i64 0] 2)) w')) :
    Calls Try.prog 21 #[.func (.func 22) #[] #[.pointer (some ⟨D, 0, none⟩)]] w fun e w' => e = .returned (.tuple #[.agg #[.int .i64 0, .int .i64 0, .int .i64 0, .int .i64 0, .int .i64 0, .int .i64 0, .slice none 0 0], .int .i64 k]) ∧ Below w.heap.size w w' := by
  have hmf : ∀ (fn : Fn) (first cap : Array Value) (w : World), (Instr.makeFunc fn first cap).run Try.prog w = .ok (.func fn first cap) w := fun _ _ _ _ => rfl
  go_enter_defers Try.func21, Try.ntmps21
  go_wp2_with fail
  refine C.out.mono ?_
  rintro e w1 ⟨rfl, b1⟩
  have VT := ((V.new w [.int .i64 0, .int .i64 0, .int .i64 0, .int .i64 0, .int .i64 0, .int .i64 0, .slice none 0 0] 26).kept (belowA _ (.cells #[.int .i64 0] 2))).keptB (base := w.heap.size + 2) (by omega) b1
  have VC : V ((w.alloc (.cells #[.int .i64 0, .int .i64 0, .int .i64 0, .int .i64 0, .int .i64 0, .int .i64 0, .slice none 0 0] 26)).alloc (.cells #[.int .i64 0] 2)) (w.heap.size + 1) [.int .i64 0] := V.newAt _ _ _ _ (by simp)
  replace VC := VC.keptB (base := w.heap.size + 2) (by omega) b1
  have B := (belowA2 w _ _).trans (b1.mono (by omega))
  clear b1
  go_wp2
  refine leaves_cons (f := 44) (args := #[.pointer (some ⟨w.heap.size + 1, 0, none⟩)]) (by simp) (by simp [go_sem]) ?_
  refine (catchOn_Packet (w.heap.size + 1) k _ VC).mono ?_
  rintro e u' w2 ⟨rfl, rfl, V2, b2⟩
  have VT2 := VT.keptB (base := w.heap.size + 1) (by omega) b2
  obtain ⟨s0, f0, z0⟩ := V2.open
  obtain ⟨s1, f1, z1⟩ := VT2.open
  have B2 := B.trans (b2.mono (by omega))
  simp [Leaves, settle, results, Try.results21, go_sem, f0, f1]
  exact B2

set_option maxHeartbeats 1000000 in
theorem rofYes_Packet (D : Nat) (F T r l x y : Int) (n : Nat) (ys : List Int) (w : World)
    (C : Hid (Calls Try.prog 22 #[.pointer (some ⟨D, 0, none⟩)] ((w.alloc (.cells #[.int .i64 0, .int .i64 0, .int .i64 0, .int .i64 0, .int .i64 0, .int .i64 0, .slice none 0 0] 26)).alloc (.cells #[.int .i64 0] 2)) fun e w' => ∃ c d, e = .returned (.agg #[.int .i64 F, .int .i64 T, .int .i64 r, .int .i64 l, .int .i64 x, .int .i64 y, .slice c n d]) ∧ Own .u8 5 w' (w.heap.size + 2) c d ys ∧ Below (w.heap.size + 2) ((w.alloc (.cells #[.int .i64 0, .int .i64 0, .int .i64 0, .int .i64 0, .int .i64 0, .int .i64 0, .slice none 0 0] 26)).alloc (.cells #[.int .i64 0] 2)) w')) :
    Calls Try.prog 21 #[.func (.func 22) #[] #[.pointer (some ⟨D, 0, none⟩)]] w fun e w' => ∃ c d, e = .returned (.tuple #[.agg #[.int .i64 F, .int .i64 T, .int .i64 r, .int .i64 l, .int .i64 x, .int .i64 y, .slice c n d], .int .i64 0]) ∧ Own .u8 5 w' w.heap.size c d ys ∧ Below w.heap.size w w' := by
  have hmf : ∀ (fn : Fn) (first cap : Array Value) (w : World), (Instr.makeFunc fn first cap).run Try.prog w = .ok (.func fn first cap) w := fun _ _ _ _ => rfl
  go_enter_defers Try.func21, Try.ntmps21
  go_wp2_with fail
  refine C.out.mono ?_
  rintro e w1 ⟨c, d, rfl, o, b1⟩
  have VT := ((V.new w [.int .i64 0, .int .i64 0, .int .i64 0, .int .i64 0, .int .i64 0, .int .i64 0, .slice none 0 0] 26).kept (belowA _ (.cells #[.int .i64 0] 2))).keptB (base := w.heap.size + 2) (by omega) b1
  have VC : V ((w.alloc (.cells #[.int .i64 0, .int .i64 0, .int .i64 0, .int .i64 0, .int .i64 0, .int .i64 0, .slice none 0 0] 26)).alloc (.cells #[.int .i64 0] 2)) (w.heap.size + 1) [.int .i64 0] := V.newAt _ _ _ _ (by simp)
  replace VC := VC.keptB (base := w.heap.size + 2) (by omega) b1
  have B := (belowA2 w _ _).trans (b1.mono (by omega))
  have O := Hid.mk o
  obtain ⟨s0, f0, z0⟩ := VT.open
  obtain ⟨s1, f1, z1⟩ := VC.open
  clear b1 o
  go_wp2
  refine leaves_cons (f := 44) (args := #[.pointer (some ⟨w.heap.size + 1, 0, none⟩)]) (by simp) (by simp [go_sem]) ?_
  refine (catchOff_Packet (w.heap.size + 1) _).mono ?_
  rintro e u' w2 ⟨rfl, rfl, rfl⟩
  simp [Leaves, settle, results, Try.results21, go_sem, f0, f1]
  refine ⟨c, d, ⟨rfl, rfl⟩, ?_, ?_⟩
  · refine Own.mono (base := w.heap.size + 2) ?_ (by omega)
    repeat' first | with_reducible exact O.out | with_reducible refine Own.below ?_ ?_ _ | (simp; try omega)
  · repeat' first | with_reducible exact B | with_reducible refine Below.setCell ?_ ?_ _ | (simp; try omega)

theorem own_apart8 {w : World} {base : Nat} {a : Option Addr} {cap : Nat} {zs : List Int} {B : Nat} (h : Own .u8 5 w base a cap zs) (hB : B < base) (o : Nat) (vs : List Value) : Own .u8 5 (w.setCells B o vs) base a cap zs := by
  induction vs generalizing w o with
  | nil => exact h
  | cons v vs ih => exact ih (h.below (p := ⟨B, o, .none⟩) hB v) (o + 1)

set_option maxRecDepth 20000 in
set_option maxHeartbeats 2000000 in
theorem pkt1_no (D : Nat) (a : Option Addr) (n ca : Nat) (zs : List Int) (k : Int) (w : World) (VD : V w D [.slice a n ca]) (hr : Rd .u8 w a zs) (C : Hid (∀ w, Rd .u8 w a zs → Calls Try.prog 23 #[.slice a n ca] w fun e w' => e = stop k ∧ Below w.heap.size w w')) :
    Calls Try.prog 22 #[.pointer (some ⟨D, 0, none⟩)] w fun e w' => e = stop k ∧ Below w.heap.size w w' := by
  go_enter Try.func22, Try.ntmps22
  have B := Below.refl w.heap.size w
  replace VD := VD.kept (belowA w (.cells #[.int .i64 0, .int .i64 0, .int .i64 0, .int .i64 0, .int .i64 0, .int .i64 0, .slice none 0 0] 26))
  replace hr := hr.kept (belowA w (.cells #[.int .i64 0, .int .i64 0, .int .i64 0, .int .i64 0, .int .i64 0, .int .i64 0, .slice none 0 0] 26))
  replace B := thenB B (belowA w (.cells #[.int .i64 0, .int .i64 0, .int .i64 0, .int .i64 0, .int .i64 0, .int .i64 0, .slice none 0 0] 26))
  have VR := V.new w [.int .i64 0, .int .i64 0, .int .i64 0, .int .i64 0, .int .i64 0, .int .i64 0, .slice none 0 0] 26
  obtain ⟨s_VD, f_VD, z_VD⟩ := VD.open
  obtain ⟨s_VR, f_VR, z_VR⟩ := VR.open
  have Bo := B
  go_wp2_with fail
  refine (C.out _ hr).mono ?_
  rintro e w2 ⟨rfl, b2⟩
  exact ⟨rfl, rfl, thenB B b2⟩

set_option maxRecDepth 20000 in
set_option maxHeartbeats 2000000 in
theorem pkt1_yes (D : Nat) (a : Option Addr) (n ca : Nat) (zs : List Int) (F T r l x y : Int) (m : Nat) (ys : List Int) (w : World) (VD : V w D [.slice a n ca]) (hr : Rd .u8 w a zs) (C : Hid (∀ w, Rd .u8 w a zs → Calls Try.prog 23 #[.slice a n ca] w fun e w' => ∃ c d, e = .returned (.agg #[.int .i64 F, .int .i64 T, .int .i64 r, .int .i64 l, .int .i64 x, .int .i64 y, .slice c m d]) ∧ Own .u8 5 w' w.heap.size c d ys ∧ Below w.heap.size w w')) :
    Calls Try.prog 22 #[.pointer (some ⟨D, 0, none⟩)] w fun e w' => ∃ c d, e = .returned (.agg #[.int .i64 F, .int .i64 T, .int .i64 r, .int .i64 l, .int .i64 x, .int .i64 y, .slice c m d]) ∧ Own .u8 5 w' w.heap.size c d ys ∧ Below w.heap.size w w' := by
  go_enter Try.func22, Try.ntmps22
  have B := Below.refl w.heap.size w
  replace VD := VD.kept (belowA w (.cells #[.int .i64 0, .int .i64 0, .int .i64 0, .int .i64 0, .int .i64 0, .int .i64 0, .slice none 0 0] 26))
  replace hr := hr.kept (belowA w (.cells #[.int .i64 0, .int .i64 0, .int .i64 0, .int .i64 0, .int .i64 0, .int .i64 0, .slice none 0 0] 26))
  replace B := thenB B (belowA w (.cells #[.int .i64 0, .int .i64 0, .int .i64 0, .int .i64 0, .int .i64 0, .int .i64 0, .slice none 0 0] 26))
  have VR := V.new w [.int .i64 0, .int .i64 0, .int .i64 0, .int .i64 0, .int .i64 0, .int .i64 0, .slice none 0 0] 26
  obtain ⟨s_VD, f_VD, z_VD⟩ := VD.open
  obtain ⟨s_VR, f_VR, z_VR⟩ := VR.open
  have Bo := B
  go_wp2_with fail
  refine (C.out _ hr).mono ?_
  rintro e w2 ⟨c, d, rfl, O, b2⟩
  clear s_VD f_VD z_VD s_VR f_VR z_VR
  have S2 := b2.size
  simp only [World.size_alloc] at S2
  replace VD := VD.kept b2
  replace VR := VR.kept b2
  replace hr := hr.kept b2
  replace B := thenB B b2
  clear b2
  have OL := Hid.mk (fun b hb => (O.lt b hb).1)
  obtain ⟨s_VD, f_VD, z_VD⟩ := VD.open
  obtain ⟨s_VR, f_VR, z_VR⟩ := VR.open
  have Bo := B
  clear s_VD f_VD z_VD s_VR f_VR z_VR
  have VF := Hid.mk (VR.filled [.int .i64 F, .int .i64 T, .int .i64 r, .int .i64 l, .int .i64 x, .int .i64 y, .slice c m d] rfl)
  have HT := Hid.mk VR.there
  have BR := belowCells B (show w.heap.size ≤ w.heap.size by (first | omega | (simp; done) | (simp; omega))) 0 [.int .i64 F, .int .i64 T, .int .i64 r, .int .i64 l, .int .i64 x, .int .i64 y, .slice c m d]
  replace BR := Hid.mk BR
  have HO := Hid.mk (Own.mono (own_apart8 O (B := w.heap.size) (by first | omega | (simp; done) | (simp; omega)) 0 [.int .i64 F, .int .i64 T, .int .i64 r, .int .i64 l, .int .i64 x, .int .i64 y, .slice c m d]) (show w.heap.size ≤ _ by first | omega | (simp; done) | (simp; omega)))
  obtain ⟨s_VD, f_VD, z_VD⟩ := VD.open
  obtain ⟨s_VR, f_VR, z_VR⟩ := VR.open
  go_wp2_with (refine wpList_store_mid rfl 26 _ _ rfl (w.heap.size) 0 #[.int .i64 F, .int .i64 T, .int .i64 r, .int .i64 l, .int .i64 x, .int .i64 y, .slice c m d] rfl rfl HT.out (by kernel_rfl) (by kernel_rfl) ?_)
  refine bodyPost_ret (v := .agg #[.int .i64 F, .int .i64 T, .int .i64 r, .int .i64 l, .int .i64 x, .int .i64 y, .slice c m d]) (results_row Try.results22 _ _ (w.heap.size) [.int .i64 F, .int .i64 T, .int .i64 r, .int .i64 l, .int .i64 x, .int .i64 y, .slice c m d] _ rfl VF.out Try.underlying26 rfl (by kernel_rfl)) rfl ⟨c, d, rfl, HO.out, BR.out⟩

theorem rofP_no (D : Nat) (a : Option Addr) (n ca : Nat) (zs : List Int) (k : Int) (w : World) (VD : V w D [.slice a n ca]) (hr : Rd .u8 w a zs) (C : Hid (∀ w, Rd .u8 w a zs → Calls Try.prog 23 #[.slice a n ca] w fun e w' => e = stop k ∧ Below w.heap.size w w')) :
    Calls Try.prog 21 #[.func (.func 22) #[] #[.pointer (some ⟨D, 0, none⟩)]] w fun e w' => e = .returned (.tuple #[.agg #[.int .i64 0, .int .i64 0, .int .i64 0, .int .i64 0, .int .i64 0, .int .i64 0, .slice none 0 0], .int .i64 k]) ∧ Below w.heap.size w w' := by
  have b1 := belowA2 w (.cells #[.int .i64 0, .int .i64 0, .int .i64 0, .int .i64 0, .int .i64 0, .int .i64 0, .slice none 0 0] 26) (.cells #[.int .i64 0] 2)
  have hsz : ((w.alloc (.cells #[.int .i64 0, .int .i64 0, .int .i64 0, .int .i64 0, .int .i64 0, .int .i64 0, .slice none 0 0] 26)).alloc (.cells #[.int .i64 0] 2)).heap.size = w.heap.size + 2 := by simp
  have h := pkt1_no D a n ca zs k _ (VD.kept b1) (hr.kept b1) C
  rw [hsz] at h
  exact rofNo_Packet D k w (Hid.mk h)

theorem rofP_yes (D : Nat) (a : Option Addr) (n ca : Nat) (zs : List Int) (F T r l x y : Int) (m : Nat) (ys : List Int) (w : World) (VD : V w D [.slice a n ca]) (hr : Rd .u8 w a zs) (C : Hid (∀ w, Rd .u8 w a zs → Calls Try.prog 23 #[.slice a n ca] w fun e w' => ∃ c d, e = .returned (.agg #[.int .i64 F, .int .i64 T, .int .i64 r, .int .i64 l, .int .i64 x, .int .i64 y, .slice c m d]) ∧ Own .u8 5 w' w.heap.size c d ys ∧ Below w.heap.size w w')) :
    Calls Try.prog 21 #[.func (.func 22) #[] #[.pointer (some ⟨D, 0, none⟩)]] w fun e w' => ∃ c d, e = .returned (.tuple #[.agg #[.int .i64 F, .int .i64 T, .int .i64 r, .int .i64 l, .int .i64 x, .int .i64 y, .slice c m d], .int .i64 0]) ∧ Own .u8 5 w' w.heap.size c d ys ∧ Below w.heap.size w w' := by
  have b1 := belowA2 w (.cells #[.int .i64 0, .int .i64 0, .int .i64 0, .int .i64 0, .int .i64 0, .int .i64 0, .slice none 0 0] 26) (.cells #[.int .i64 0] 2)
  have hsz : ((w.alloc (.cells #[.int .i64 0, .int .i64 0, .int .i64 0, .int .i64 0, .int .i64 0, .int .i64 0, .slice none 0 0] 26)).alloc (.cells #[.int .i64 0] 2)).heap.size = w.heap.size + 2 := by simp
  have h := pkt1_yes D a n ca zs F T r l x y m ys _ (VD.kept b1) (hr.kept b1) C
  rw [hsz] at h
  exact rofYes_Packet D F T r l x y m ys w (Hid.mk h)

theorem psX_yes {zs : List Int} (h : portsP (zs.getD 9 0) = true) : psX zs = takeN zs 20 2 ∧ psY zs = takeN zs 22 2 ∧ psAt zs = 24 := by
  unfold psX psY psAt; simp only [h, if_true, and_self]
theorem psX_no {zs : List Int} (h : portsP (zs.getD 9 0) = false) : psX zs = 0 ∧ psY zs = 0 ∧ psAt zs = 20 := by
  unfold psX psY psAt; simp only [h, Bool.false_eq_true, if_false, and_self]

/-- What 'ParsePacket' answers, for a code, the numbers and the load. -/
def psAns (k F T r l x y : Int) (m : Nat) (c : Option Addr) (d : Nat) : Value := .agg #[.int .i64 k, .int .i64 F, .int .i64 T, .int .i64 r, .int .i64 l, .int .i64 x, .int .i64 y, .slice c m d]

/-- .. at the bytes zs. -/
def psIs (zs : List Int) (k F T r l x y : Int) (ys : List Int) : Prop :=
  psC zs = k ∧ z0 k (takeN zs 12 4) = F ∧ z0 k (takeN zs 16 4) = T ∧ z0 k (zs.getD 9 0) = r ∧ z0 k (zs.getD 8 0) = l ∧ z0 k (psX zs) = x ∧ z0 k (psY zs) = y ∧ zl k (zs.drop (psAt zs)) = ys

theorem psIs_no {zs : List Int} {k : Int} (h : psC zs = k) (hk : k ≠ 0) : psIs zs k 0 0 0 0 0 0 [] := by
  unfold psIs; simp only [z0_1 hk, zl_1 hk, and_true]; exact h

theorem psIs_inj {zs : List Int} {k F T r l x y k' F' T' r' l' x' y' : Int} {ys ys' : List Int} (h : psIs zs k F T r l x y ys) (h' : psIs zs k' F' T' r' l' x' y' ys') :
    k = k' ∧ F = F' ∧ T = T' ∧ r = r' ∧ l = l' ∧ x = x' ∧ y = y' ∧ ys = ys' := by
  obtain ⟨rfl, rfl, rfl, rfl, rfl, rfl, rfl, rfl⟩ := h
  obtain ⟨rfl, rfl, rfl, rfl, rfl, rfl, rfl, rfl⟩ := h'
  exact ⟨rfl, rfl, rfl, rfl, rfl, rfl, rfl, rfl⟩

theorem psIs_ex (zs : List Int) : ∃ k F T r l x y ys, psIs zs k F T r l x y ys := ⟨_, _, _, _, _, _, _, _, rfl, rfl, rfl, rfl, rfl, rfl, rfl, rfl⟩

set_option maxHeartbeats 1000000 in
theorem pofR_ok (D : Nat) (a : Option Addr) (n ca : Nat) (zs : List Int) (k F T r l x y : Int) (ys : List Int) (m : Nat) (hI : psIs zs k F T r l x y ys) (hm : ys.length = m) (w : World) (VD : V w D [.slice a n ca]) (ha : Rd .u8 w a zs) (hb : Bytes zs) (hn : zs.length = n) (hx : n ≤ 1048576) (hca : n ≤ ca) :
    Calls Try.prog 21 #[.func (.func 22) #[] #[.pointer (some ⟨D, 0, none⟩)]] w fun e w' => ∃ c d, e = .returned (.tuple #[.agg #[.int .i64 F, .int .i64 T, .int .i64 r, .int .i64 l, .int .i64 x, .int .i64 y, .slice c m d], .int .i64 k]) ∧ Own .u8 5 w' w.heap.size c d ys ∧ Below w.heap.size w w' := by
  have no : ∀ q, psC zs = q → q ≠ 0 → (∀ w, Rd .u8 w a zs → Calls Try.prog 23 #[.slice a n ca] w fun e w' => e = stop q ∧ Below w.heap.size w w') →
      Calls Try.prog 21 #[.func (.func 22) #[] #[.pointer (some ⟨D, 0, none⟩)]] w fun e w' => ∃ c d, e = .returned (.tuple #[.agg #[.int .i64 F, .int .i64 T, .int .i64 r, .int .i64 l, .int .i64 x, .int .i64 y, .slice c m d], .int .i64 k]) ∧ Own .u8 5 w' w.heap.size c d ys ∧ Below w.heap.size w w' := by
    intro q hq hq0 C
    obtain ⟨rfl, rfl, rfl, rfl, rfl, rfl, rfl, rfl⟩ := psIs_inj hI (psIs_no hq hq0)
    subst hm
    refine (rofP_no D a n ca zs k w VD ha (Hid.mk C)).mono ?_
    rintro e w1 ⟨rfl, b1⟩
    exact ⟨none, 0, rfl, own_none, b1⟩
  rcases ps_cases zs with ⟨h1, hr⟩ | hr
  · exact no 5 hr.out (by decide) (fun w h => readPacket_A a n ca zs w h hb hn hx hca h1)
  have hh : hdB zs = true := by rcases hr with h | h | h | h | h | h | h <;> exact h.1
  have hlen := hdB_len hh
  rcases ha with ha | ⟨b1, o1, rfl, hcl⟩
  · simp [ha] at hlen
  have hR : Rd .u8 w (some ⟨b1, o1, none⟩) zs := .inr ⟨b1, o1, rfl, hcl⟩
  rcases hr with ⟨h1, h2, hr⟩ | ⟨h1, h2, h3, hr⟩ | ⟨h1, h2, h3, h4, hr⟩ | ⟨h1, h2, h3, h4, h5, h6, hr⟩ | ⟨h1, h2, h3, h4, h5, h6, hr⟩ | ⟨h1, h2, h3, h4, h5, h6, hr⟩ | ⟨h1, h2, h3, h4, h5, h6, hr⟩
  · exact no 6 hr.out (by decide) (fun w h => readPacket_B b1 o1 n ca zs w h hb hn hx hca h1 h2)
  · exact no 3 hr.out (by decide) (fun w h => readPacket_C b1 o1 _ _ _ _ n ca zs w h hb hn hx hca rfl rfl rfl rfl h1 h2 h3)
  · exact no 3 hr.out (by decide) (fun w h => readPacket_D b1 o1 _ _ _ _ n ca zs w h hb hn hx hca rfl rfl rfl rfl h1 h2 h3 h4)
  · exact no 5 hr.out (by decide) (fun w h => readPacket_E b1 o1 _ _ _ _ _ n ca zs w h hb hn hx hca rfl rfl rfl rfl rfl h1 h2 h3 h4 h5 (by omega))
  · obtain ⟨e1, e2, e3⟩ := psX_yes h5
    have I : psIs zs 0 (takeN zs 12 4) (takeN zs 16 4) (zs.getD 9 0) (zs.getD 8 0) (takeN zs 20 2) (takeN zs 22 2) (zs.drop 24) := by
      unfold psIs; rw [hr.out, e1, e2, e3]; simp only [z0_0, zl_0, and_self]
    obtain ⟨rfl, rfl, rfl, rfl, rfl, rfl, rfl, rfl⟩ := psIs_inj hI I
    subst hm
    exact rofP_yes D _ n ca zs _ _ _ _ _ _ _ _ w VD hR (Hid.mk (fun w h => readPacket_F b1 o1 _ _ _ _ _ _ n ca zs w h hb hn hx hca rfl rfl rfl rfl rfl rfl h1 h2 h3 h4 h5 (by omega)))
  · obtain ⟨e1, e2, e3⟩ := psX_no h5
    have I : psIs zs 0 (takeN zs 12 4) (takeN zs 16 4) (zs.getD 9 0) (zs.getD 8 0) 0 0 (zs.drop 20) := by
      unfold psIs; rw [hr.out, e1, e2, e3]; simp only [z0_0, zl_0, and_self]
    obtain ⟨rfl, rfl, rfl, rfl, rfl, rfl, rfl, rfl⟩ := psIs_inj hI I
    subst hm
    exact rofP_yes D _ n ca zs _ _ _ _ _ _ _ _ w VD hR (Hid.mk (fun w h => readPacket_G b1 o1 _ _ _ _ n ca zs w h hb hn hx hca rfl rfl rfl rfl h1 h2 h3 h4 h5 (by omega)))
  · exact no 2 hr.out (by decide) (fun w h => readPacket_H b1 o1 _ _ _ _ n ca zs w h hb hn hx hca rfl rfl rfl rfl h1 h2 h3 h4 h5 (by omega))

theorem build_pkr (k F T r l x y : Int) (c : Option Addr) (m d : Nat) (w : World) : (Instr.build 28 #[(0, .int .i64 k), (1, .agg #[.int .i64 F, .int .i64 T, .int .i64 r, .int .i64 l, .int .i64 x, .int .i64 y, .slice c m d])]).run Try.prog w = .ok (.agg #[.int .i64 k, .int .i64 F, .int .i64 T, .int .i64 r, .int .i64 l, .int .i64 x, .int .i64 y, .slice c m d]) w := run_build w 28 _ _ (by kernel_rfl)

set_option maxRecDepth 20000 in
set_option maxHeartbeats 2000000 in
theorem implParsePacket_ok (a : Option Addr) (n ca : Nat) (zs : List Int) (k F T r l x y : Int) (ys : List Int) (m : Nat) (hI : psIs zs k F T r l x y ys) (hm : ys.length = m) (w : World) (ha : Rd .u8 w a zs) (hb : Bytes zs) (hn : zs.length = n) (hx : n ≤ 1048576) (hca : n ≤ ca) :
    Calls Try.prog 7 #[.slice a n ca] w fun e w' => ∃ c d, e = .returned (.agg #[.int .i64 k, .int .i64 F, .int .i64 T, .int .i64 r, .int .i64 l, .int .i64 x, .int .i64 y, .slice c m d]) ∧ Own .u8 5 w' w.heap.size c d ys ∧ Below w.heap.size w w' := by
  have C := Hid.mk (fun D w VD ha => pofR_ok D a n ca zs k F T r l x y ys m hI hm w VD ha hb hn hx hca)
  have q := build_pkr
  have hmf : ∀ (fn : Fn) (first cap : Array Value) (w : World), (Instr.makeFunc fn first cap).run Try.prog w = .ok (.func fn first cap) w := fun _ _ _ _ => rfl
  clear hI hm
  go_enter Try.func7, Try.ntmps7
  have B := Below.refl w.heap.size w
  replace ha := ha.kept (belowA w (.cells #[.slice a n ca] 22))
  replace B := thenB B (belowA w (.cells #[.slice a n ca] 22))
  have VD := V.new w [.slice a n ca] 22
  replace VD := VD.kept (belowA (w.alloc (.cells #[.slice a n ca] 22)) (.cells #[.int .i64 0, .int .i64 0, .int .i64 0, .int .i64 0, .int .i64 0, .int .i64 0, .int .i64 0, .slice none 0 0] 28))
  replace ha := ha.kept (belowA (w.alloc (.cells #[.slice a n ca] 22)) (.cells #[.int .i64 0, .int .i64 0, .int .i64 0, .int .i64 0, .int .i64 0, .int .i64 0, .int .i64 0, .slice none 0 0] 28))
  replace B := thenB B (belowA (w.alloc (.cells #[.slice a n ca] 22)) (.cells #[.int .i64 0, .int .i64 0, .int .i64 0, .int .i64 0, .int .i64 0, .int .i64 0, .int .i64 0, .slice none 0 0] 28))
  have VR : V ((w.alloc (.cells #[.slice a n ca] 22)).alloc (.cells #[.int .i64 0, .int .i64 0, .int .i64 0, .int .i64 0, .int .i64 0, .int .i64 0, .int .i64 0, .slice none 0 0] 28)) (w.heap.size + 1) [.int .i64 0, .int .i64 0, .int .i64 0, .int .i64 0, .int .i64 0, .int .i64 0, .int .i64 0, .slice none 0 0] := V.newAt _ _ _ _ (by simp)
  obtain ⟨s_VD, f_VD, z_VD⟩ := VD.open
  obtain ⟨s_VR, f_VR, z_VR⟩ := VR.open
  have Bo := B
  go_wp2_with fail
  refine (C.out w.heap.size _ VD ha).mono ?_
  rintro e w41 ⟨c, d, rfl, O, b41⟩
  clear s_VD f_VD z_VD s_VR f_VR z_VR
  have S41 := b41.size
  simp only [World.size_alloc] at S41
  replace VD := VD.kept b41
  replace VR := VR.kept b41
  replace ha := ha.kept b41
  replace B := thenB B b41
  clear b41
  obtain ⟨s_VD, f_VD, z_VD⟩ := VD.open
  obtain ⟨s_VR, f_VR, z_VR⟩ := VR.open
  have Bo := B
  have OL := Hid.mk (fun b hb => (O.lt b hb).1)
  replace VD := VD.kept (belowA w41 (.cells #[.int .i64 F, .int .i64 T, .int .i64 r, .int .i64 l, .int .i64 x, .int .i64 y, .slice c m d] 26))
  replace VR := VR.kept (belowA w41 (.cells #[.int .i64 F, .int .i64 T, .int .i64 r, .int .i64 l, .int .i64 x, .int .i64 y, .slice c m d] 26))
  replace O := O.kept (belowA w41 (.cells #[.int .i64 F, .int .i64 T, .int .i64 r, .int .i64 l, .int .i64 x, .int .i64 y, .slice c m d] 26))
  replace B := thenB B (belowA w41 (.cells #[.int .i64 F, .int .i64 T, .int .i64 r, .int .i64 l, .int .i64 x, .int .i64 y, .slice c m d] 26))
  have VB := V.new w41 [.int .i64 F, .int .i64 T, .int .i64 r, .int .i64 l, .int .i64 x, .int .i64 y, .slice c m d] 26
  clear s_VD f_VD z_VD s_VR f_VR z_VR
  obtain ⟨s_VD, f_VD, z_VD⟩ := VD.open
  obtain ⟨s_VR, f_VR, z_VR⟩ := VR.open
  obtain ⟨s_VB, f_VB, z_VB⟩ := VB.open
  have Bo := B
  clear s_VD f_VD z_VD s_VR f_VR z_VR s_VB f_VB z_VB
  have VF := Hid.mk (VR.filled [.int .i64 k, .int .i64 F, .int .i64 T, .int .i64 r, .int .i64 l, .int .i64 x, .int .i64 y, .slice c m d] rfl)
  have HT := Hid.mk VR.there
  have BR := belowCells B (show w.heap.size ≤ w.heap.size + 1 by (first | omega | (simp; done) | (simp; omega))) 0 [.int .i64 k, .int .i64 F, .int .i64 T, .int .i64 r, .int .i64 l, .int .i64 x, .int .i64 y, .slice c m d]
  replace BR := Hid.mk BR
  have HO := Hid.mk (Own.mono (own_apart8 O (B := w.heap.size + 1) (by first | omega | (simp; done) | (simp; omega)) 0 [.int .i64 k, .int .i64 F, .int .i64 T, .int .i64 r, .int .i64 l, .int .i64 x, .int .i64 y, .slice c m d]) (show w.heap.size ≤ _ by first | omega | (simp; done) | (simp; omega)))
  obtain ⟨s_VD, f_VD, z_VD⟩ := VD.open
  obtain ⟨s_VR, f_VR, z_VR⟩ := VR.open
  obtain ⟨s_VB, f_VB, z_VB⟩ := VB.open
  go_wp2_with (refine wpList_store_mid rfl 28 _ _ rfl (w.heap.size + 1) 0 #[.int .i64 k, .int .i64 F, .int .i64 T, .int .i64 r, .int .i64 l, .int .i64 x, .int .i64 y, .slice c m d] rfl rfl HT.out (by kernel_rfl) (by kernel_rfl) ?_)
  refine bodyPost_ret (v := .agg #[.int .i64 k, .int .i64 F, .int .i64 T, .int .i64 r, .int .i64 l, .int .i64 x, .int .i64 y, .slice c m d]) (results_row Try.results7 _ _ (w.heap.size + 1) [.int .i64 k, .int .i64 F, .int .i64 T, .int .i64 r, .int .i64 l, .int .i64 x, .int .i64 y, .slice c m d] _ rfl VF.out Try.underlying28 rfl (by kernel_rfl)) rfl ⟨c, d, rfl, HO.out, BR.out⟩

end Go.Proofs.Ythjaehcfakjemaa
