/- A book of terms: one is added. -/
import Derived.Test.YthjaehcfakjemaaDoorTmG
import Derived.Deep.DeepCutAuto
namespace Go.Proofs.YthjaehcfakjemaaDoor
open Go.RowKit

set_option maxRecDepth 20000 in
set_option maxHeartbeats 8000000 in
theorem add_ok (base p g : Nat) (c : Option Addr) (d : Nat) (xs : List T4) (t : T4) (w : World) (H : Bk w base p g c d xs) (ht : okT t) (hn : t ∉ xs) (hl : xs.length ≤ 1000) :
    Calls Tryd.prog 45 #[.pointer (some ⟨p, 0, none⟩), .agg #[.int .i64 t.o, .int .i64 t.a, .int .i64 t.b, .int .i64 t.n]] w fun e w' => ∃ c' d', e = .returned (.int .i64 xs.length) ∧ Bk w' base p g c' d' (xs ++ [t]) ∧ Sm (BkX p g c) w w' ∧ ∀ k, BkX p g c' k → k < w.heap.size → BkX p g c k := by
  have hM : Hid (tmM xs t = none) := Hid.mk (by unfold tmM; rw [if_neg hn])
  have HL := Hid.mk H.lt
  have HX : Hid (∀ k, BkX p g c k → k < w.heap.size) := Hid.mk fun k hk => (HL.out k hk).2
  obtain ⟨n, hnn⟩ : ∃ n, xs.length = n := ⟨_, rfl⟩
  have HN := Hid.mk hnn
  rw [hnn]
  go_enter Tryd.func45, Tryd.ntmps45
  have S : Sm (BkX p g c) w (w.alloc (.cells #[.int .i64 t.o, .int .i64 t.a, .int .i64 t.b, .int .i64 t.n] 70)) := Sm.below (belowA w _)
  have VX := V.new w [.int .i64 t.o, .int .i64 t.a, .int .i64 t.b, .int .i64 t.n] 70
  have H1 := H.kept (belowA w (.cells #[.int .i64 t.o, .int .i64 t.a, .int .i64 t.b, .int .i64 t.n] 70))
  go_upto_region 1 with fail
  generalize w.alloc (.cells #[.int .i64 t.o, .int .i64 t.a, .int .i64 t.b, .int .i64 t.n] 70) = wa at *
  have hpx : p ≠ w.heap.size := by have := HX.out p (.inl rfl); omega
  have hgx : g ≠ w.heap.size := by have := HX.out g (.inr (.inl rfl)); omega
  have hcx : Hid (∀ b : Addr, c = some b → b.block ≠ w.heap.size) := Hid.mk fun b hb => by have := HX.out b.block (.inr (.inr ⟨b, hb, rfl⟩)); omega
  obtain ⟨VP, O, TMM, hbp, hbg, hne, hcp, hcg⟩ := H1
  replace hcp := Hid.mk hcp
  replace hcg := Hid.mk hcg
  have hbase : base ≤ wa.heap.size := by have := VP.1; omega
  rw [hnn] at VP TMM hl
  clear H HL hnn
  obtain ⟨s_VP, f_VP, z_VP⟩ := VP.open
  go_upto_region 2 with fail
  clear s_VP f_VP z_VP
  refine wp_region_any (by kernel_rfl) ?_
  change wpAny _ _ _ _ _ _ _ wa.drew
  have bd : Below wa.heap.size wa wa.drew := (Below.refl _ _).drew
  replace VP := VP.kept bd
  replace VX := VX.kept bd
  replace O := O.kept bd
  replace TMM := TMM.kept bd
  replace S := S.trans (Sm.below bd)
  have hbase2 : base ≤ wa.drew.heap.size := hbase
  clear bd hbase
  generalize wa.drew = wd at *
  refine wpAny_take (i := 0) (oi := _) (v := ?vtt1) rfl (by kernel_rfl) (by kernel_rfl) (by kernel_rfl) (fun _ _ _ h => h) (Or.inl ⟨by rfl, ?hytt1⟩) ?resttt1
  case hytt1 => (intro w; go_simp; first | done | with_reducible rfl)
  try simp only [Act.put, List.getElem_toArray, List.getElem_cons_zero, List.setIfInBounds_toArray, List.set_cons_zero, List.set_cons_succ]
  refine wpAny_take (i := 1) (oi := _) (v := ?vtt2) rfl (by kernel_rfl) (by kernel_rfl) (by kernel_rfl) (fun _ _ _ h => h) (Or.inl ⟨by rfl, ?hytt2⟩) ?resttt2
  case hytt2 => (intro w; go_simp; first | done | with_reducible rfl)
  try simp only [Act.put, List.getElem_toArray, List.getElem_cons_zero, List.getElem_cons_succ, List.setIfInBounds_toArray, List.set_cons_zero, List.set_cons_succ]
  refine wpAny_take (i := 2) (oi := _) (v := ?vtt3) rfl (by kernel_rfl) (by kernel_rfl) (by kernel_rfl) (fun _ _ _ h => h) (Or.inl ⟨by rfl, ?hytt3⟩) ?resttt3
  case hytt3 => (intro w; go_simp; first | done | with_reducible rfl)
  try simp only [Act.put, List.getElem_toArray, List.getElem_cons_zero, List.getElem_cons_succ, List.setIfInBounds_toArray, List.set_cons_zero, List.set_cons_succ]
  refine wpAny_take (i := 3) (oi := _) (v := ?vtt4) rfl (by kernel_rfl) (by kernel_rfl) (by kernel_rfl) (fun _ _ _ h => h) (Or.inl ⟨by rfl, ?hytt4⟩) ?resttt4
  case hytt4 => (intro w; go_simp; first | done | with_reducible rfl)
  try simp only [Act.put, List.getElem_toArray, List.getElem_cons_zero, List.getElem_cons_succ, List.setIfInBounds_toArray, List.set_cons_zero, List.set_cons_succ]
  refine wpAny_ready (rs := [4, 5]) (by kernel_rfl) (by simp) ?_
  refine AllReady.cons (o := _) rfl (fun K0 hK0 => ?_) (AllReady.cons (o := _) rfl (fun K0 hK0 => ?_) AllReady.nil)
  · skip
    obtain ⟨s_VP, f_VP, z_VP⟩ := VP.open
    go_simp
    refine hK0 _ _ ?_
    clear hK0 K0 s_VP f_VP z_VP
    try simp only [Act.put, List.getElem_toArray, List.getElem_cons_zero, List.getElem_cons_succ, List.setIfInBounds_toArray, List.set_cons_zero, List.set_cons_succ]
    refine wpAny_ready (rs := [5]) (by kernel_rfl) (by simp) ?_
    refine AllReady.cons (o := _) rfl (fun K0 hK0 => ?_) AllReady.nil
    obtain ⟨s_VX, f_VX, z_VX⟩ := VX.open
    go_simp
    refine hK0 _ _ ?_
    clear hK0 K0 s_VX f_VX z_VX
    try simp only [Act.put, List.getElem_toArray, List.getElem_cons_zero, List.getElem_cons_succ, List.setIfInBounds_toArray, List.set_cons_zero, List.set_cons_succ]
    refine wpAny_ready (rs := [6]) (by kernel_rfl) (by simp) ?_
    refine AllReady.cons (o := _) rfl (fun K0 hK0 => ?_) AllReady.nil
    go_simp
    refine hK0 _ _ ?_
    clear hK0 K0
    try simp only [Act.put, List.getElem_toArray, List.getElem_cons_zero, List.getElem_cons_succ, List.setIfInBounds_toArray, List.set_cons_zero, List.set_cons_succ]
    have bq := belowA wd (.cells #[.int .i64 t.o, .int .i64 t.a, .int .i64 t.b, .int .i64 t.n] 70)
    have HNC := newCells wd 70 (rowTerm t)
    replace VP := VP.kept bq
    replace VX := VX.kept bq
    replace O := O.kept bq
    replace TMM := TMM.kept bq
    replace S := S.trans (Sm.below bq)
    have hb3 : base ≤ (wd.alloc (.cells #[.int .i64 t.o, .int .i64 t.a, .int .i64 t.b, .int .i64 t.n] 70)).heap.size := Nat.le_trans hbase2 bq.size
    clear bq hbase2
    change ∀ j u, (rowTerm t)[j]? = some u → (wd.alloc (.cells #[.int .i64 t.o, .int .i64 t.a, .int .i64 t.b, .int .i64 t.n] 70)).cell? ((⟨wd.heap.size, 0, none⟩ : Addr).add j) = some u at HNC
    generalize wd.alloc (.cells #[.int .i64 t.o, .int .i64 t.a, .int .i64 t.b, .int .i64 t.n] 70) = wq at *
    have hbase2 := hb3
    clear hb3
    replace HNC := Hid.mk HNC
    refine wpAny_ready (rs := [7]) (by kernel_rfl) (by simp) ?_
    refine AllReady.cons (o := _) rfl (fun K0 hK0 => ?_) AllReady.nil
    rw [if_pos (by rfl)]
    have OLT := Hid.mk O.lt
    have VXS := Hid.mk VX.1
    refine wp_putTerm _ _ _ rfl base c d xs n HN.out rfl O (⟨wd.heap.size, 0, none⟩) 1 t rfl HNC.out (by omega) hbase2 ?_
    intro c4 d4 w4 O4 hg4 hx4
    replace VP := VP.grownR hg4 (row_ne hcp.out)
    replace VX := VX.grownR hg4 (row_ne hcx.out)
    replace TMM := TMM.grown hg4 (fun e => row_ne hcg.out e.symm)
    replace S := S.trans (Sm.grown hg4 (fun k hk => bkx_row hk))
    have hc4 := Hid.mk (row_from (by obtain ⟨g', h0, h1, _⟩ := hx4.out; exact ⟨g', h0, h1, VXS.out⟩))
    have hcp4 := Hid.mk (row_off hc4.out hcp.out (HX.out p (.inl rfl)))
    have hcg4 := Hid.mk (row_off hc4.out hcg.out (HX.out g (.inr (.inl rfl))))
    refine hK0 _ _ ?_
    clear hK0 K0 O hg4 hx4 OLT HNC hbase2
    try simp only [Act.put, List.getElem_toArray, List.getElem_cons_zero, List.getElem_cons_succ, List.setIfInBounds_toArray, List.set_cons_zero, List.set_cons_succ]
    refine wpAny_take (i := 8) (oi := _) (v := ?vtt5) rfl (by kernel_rfl) (by kernel_rfl) (by kernel_rfl) (fun _ _ _ h => h) (Or.inl ⟨by rfl, ?hytt5⟩) ?resttt5
    case hytt5 => (intro w; go_simp; first | done | with_reducible rfl)
    try simp only [Act.put, List.getElem_toArray, List.getElem_cons_zero, List.getElem_cons_succ, List.setIfInBounds_toArray, List.set_cons_zero, List.set_cons_succ]
    refine wpAny_take (i := 9) (oi := _) (v := ?vtt6) rfl (by kernel_rfl) (by kernel_rfl) (by kernel_rfl) (fun _ _ _ h => h) (Or.inl ⟨by rfl, ?hytt6⟩) ?resttt6
    case hytt6 => (intro w; go_simp; first | done | with_reducible rfl)
    try simp only [Act.put, List.getElem_toArray, List.getElem_cons_zero, List.getElem_cons_succ, List.setIfInBounds_toArray, List.set_cons_zero, List.set_cons_succ]
    refine wpAny_ready (rs := [10]) (by kernel_rfl) (by simp) ?_
    refine AllReady.cons (o := _) rfl (fun K0 hK0 => ?_) AllReady.nil
    obtain ⟨s_VP, f_VP, z_VP⟩ := VP.open
    go_simp
    refine hK0 _ _ ?_
    clear hK0 K0 s_VP f_VP z_VP
    refine wpAny_done (by kernel_rfl) ?_ _
    have VP5 := VP.set (i := 0) (by simp) (.slice c4 (n + 1) d4)
    simp only [List.set_cons_zero] at VP5
    have O5 := O4.away (p := ⟨p, 0, none⟩) hcp4.out (.slice c4 (n + 1) d4)
    have VX5 := VX.other (p := ⟨p, 0, none⟩) (by simp only; exact hpx) (.slice c4 (n + 1) d4)
    have TM5 := TMM.other (p := ⟨p, 0, none⟩) (by simp only; exact hne.symm) (.slice c4 (n + 1) d4)
    have S5 := S.trans (Sm.cell (p := ⟨p, 0, none⟩) (.inl rfl) (.slice c4 (n + 1) d4))
    generalize w4.setCell ⟨p, 0, none⟩ (.slice c4 (n + 1) d4) = w5 at *
    clear VP O4 VX TMM S
    replace O5 := Hid.mk O5
    replace S5 := Hid.mk S5
    obtain ⟨s_VP, f_VP, z_VP⟩ := VP5.open
    obtain ⟨s_VX, f_VX, z_VX⟩ := VX5.open
    go_upto_region 3 with fail
    clear s_VP f_VP z_VP s_VX f_VX z_VX
    refine wp_region_any (by kernel_rfl) ?_
    change wpAny _ _ _ _ _ _ _ w5.drew
    have bd : Below w5.heap.size w5 w5.drew := (Below.refl _ _).drew
    replace VP5 := VP5.kept bd
    replace VX5 := VX5.kept bd
    replace TM5 := TM5.kept bd
    replace O5 := Hid.mk (O5.out.kept bd)
    replace S5 := Hid.mk (S5.out.trans (Sm.below bd))
    clear bd
    generalize w5.drew = we at *
    refine wpAny_take (i := 0) (oi := _) (v := ?vtt7) rfl (by kernel_rfl) (by kernel_rfl) (by kernel_rfl) (fun _ _ _ h => h) (Or.inl ⟨by rfl, ?hytt7⟩) ?resttt7
    case hytt7 => (intro w; go_simp; first | done | with_reducible rfl)
    try simp only [Act.put, List.getElem_toArray, List.getElem_cons_zero, List.setIfInBounds_toArray, List.set_cons_zero, List.set_cons_succ]
    refine wpAny_take (i := 1) (oi := _) (v := ?vtt8) rfl (by kernel_rfl) (by kernel_rfl) (by kernel_rfl) (fun _ _ _ h => h) (Or.inl ⟨by rfl, ?hytt8⟩) ?resttt8
    case hytt8 => (intro w; go_simp; first | done | with_reducible rfl)
    try simp only [Act.put, List.getElem_toArray, List.getElem_cons_zero, List.getElem_cons_succ, List.setIfInBounds_toArray, List.set_cons_zero, List.set_cons_succ]
    refine wpAny_take (i := 2) (oi := _) (v := ?vtt9) rfl (by kernel_rfl) (by kernel_rfl) (by kernel_rfl) (fun _ _ _ h => h) (Or.inl ⟨by rfl, ?hytt9⟩) ?resttt9
    case hytt9 => (intro w; go_simp; first | done | with_reducible rfl)
    try simp only [Act.put, List.getElem_toArray, List.getElem_cons_zero, List.getElem_cons_succ, List.setIfInBounds_toArray, List.set_cons_zero, List.set_cons_succ]
    refine wpAny_take (i := 5) (oi := _) (v := ?vtt10) rfl (by kernel_rfl) (by kernel_rfl) (by kernel_rfl) (fun _ _ _ h => h) (Or.inl ⟨by rfl, ?hytt10⟩) ?resttt10
    case hytt10 => (intro w; go_simp; first | done | with_reducible rfl)
    try simp only [Act.put, List.getElem_toArray, List.getElem_cons_zero, List.getElem_cons_succ, List.setIfInBounds_toArray, List.set_cons_zero, List.set_cons_succ]
    refine wpAny_ready (rs := [3, 4]) (by kernel_rfl) (by simp) ?_
    refine AllReady.cons (o := _) rfl (fun K0 hK0 => ?_) (AllReady.cons (o := _) rfl (fun K0 hK0 => ?_) AllReady.nil)
    · skip
      obtain ⟨s_VP, f_VP, z_VP⟩ := VP5.open
      go_simp
      refine hK0 _ _ ?_
      clear hK0 K0 s_VP f_VP z_VP
      try simp only [Act.put, List.getElem_toArray, List.getElem_cons_zero, List.getElem_cons_succ, List.setIfInBounds_toArray, List.set_cons_zero, List.set_cons_succ]
      refine wpAny_ready (rs := [4]) (by kernel_rfl) (by simp) ?_
      refine AllReady.cons (o := _) rfl (fun K0 hK0 => ?_) AllReady.nil
      obtain ⟨s_VX, f_VX, z_VX⟩ := VX5.open
      go_simp
      refine hK0 _ _ ?_
      clear hK0 K0 s_VX f_VX z_VX
      try simp only [Act.put, List.getElem_toArray, List.getElem_cons_zero, List.getElem_cons_succ, List.setIfInBounds_toArray, List.set_cons_zero, List.set_cons_succ]
      refine wpAny_ready (rs := [6]) (by kernel_rfl) (by simp) ?_
      refine AllReady.cons (o := _) rfl (fun K0 hK0 => ?_) AllReady.nil
      rw [if_pos (by rfl)]
      refine wp_TMstore _ _ _ _ rfl g (tmM xs) n TM5 t ht n (okI_of (by omega) (by omega)) hM.out (by omega) rfl rfl rfl ?_
      intro w6 TM6 hturn
      refine hK0 _ _ ?_
      clear hK0 K0
      refine wpAny_done (by kernel_rfl) ?_ _
      have S6 := Hid.mk (S5.out.trans (Sm.turn hturn (.inr (.inl rfl))))
      have sg := hturn.grown
      have VP6 := Hid.mk (VP5.grownR sg (fun e => hne (by simpa using e.symm)))
      have O6 := Hid.mk (O5.out.grown sg (fun b hb e => hcg4.out b hb (by simpa using e.symm)))
      have TM7 := Hid.mk TM6
      clear TM6 hturn sg VP5 VX5 TM5 O5 S5
      go_wp2
      go_ret
      refine ⟨c4, d4, rfl, ⟨?_, O6.out, ?_, hbp, hbg, hne, hcp4.out, hcg4.out⟩, S6.out, ?_⟩
      · have := VP6.out; rw [show (xs ++ [t]).length = n + 1 by rw [List.length_append, HN.out]; rfl]; exact this
      · have := TM7.out; rw [← HN.out, tmM_snoc hn] at this; rw [show (xs ++ [t]).length = xs.length + 1 by simp]; exact this
      · intro k hk hlt
        rcases hk with h | h | ⟨b, hb, rfl⟩
        · exact .inl h
        · exact .inr (.inl h)
        · rcases hc4.out b hb with ⟨a, ha, e⟩ | h
          · exact .inr (.inr ⟨a, ha, e.symm⟩)
          · omega
    · skip
      obtain ⟨s_VX, f_VX, z_VX⟩ := VX5.open
      go_simp
      refine hK0 _ _ ?_
      clear hK0 K0 s_VX f_VX z_VX
      try simp only [Act.put, List.getElem_toArray, List.getElem_cons_zero, List.getElem_cons_succ, List.setIfInBounds_toArray, List.set_cons_zero, List.set_cons_succ]
      refine wpAny_ready (rs := [3]) (by kernel_rfl) (by simp) ?_
      refine AllReady.cons (o := _) rfl (fun K0 hK0 => ?_) AllReady.nil
      obtain ⟨s_VP, f_VP, z_VP⟩ := VP5.open
      go_simp
      refine hK0 _ _ ?_
      clear hK0 K0 s_VP f_VP z_VP
      try simp only [Act.put, List.getElem_toArray, List.getElem_cons_zero, List.getElem_cons_succ, List.setIfInBounds_toArray, List.set_cons_zero, List.set_cons_succ]
      refine wpAny_ready (rs := [6]) (by kernel_rfl) (by simp) ?_
      refine AllReady.cons (o := _) rfl (fun K0 hK0 => ?_) AllReady.nil
      rw [if_pos (by rfl)]
      refine wp_TMstore _ _ _ _ rfl g (tmM xs) n TM5 t ht n (okI_of (by omega) (by omega)) hM.out (by omega) rfl rfl rfl ?_
      intro w6 TM6 hturn
      refine hK0 _ _ ?_
      clear hK0 K0
      refine wpAny_done (by kernel_rfl) ?_ _
      have S6 := Hid.mk (S5.out.trans (Sm.turn hturn (.inr (.inl rfl))))
      have sg := hturn.grown
      have VP6 := Hid.mk (VP5.grownR sg (fun e => hne (by simpa using e.symm)))
      have O6 := Hid.mk (O5.out.grown sg (fun b hb e => hcg4.out b hb (by simpa using e.symm)))
      have TM7 := Hid.mk TM6
      clear TM6 hturn sg VP5 VX5 TM5 O5 S5
      go_wp2
      go_ret
      refine ⟨c4, d4, rfl, ⟨?_, O6.out, ?_, hbp, hbg, hne, hcp4.out, hcg4.out⟩, S6.out, ?_⟩
      · have := VP6.out; rw [show (xs ++ [t]).length = n + 1 by rw [List.length_append, HN.out]; rfl]; exact this
      · have := TM7.out; rw [← HN.out, tmM_snoc hn] at this; rw [show (xs ++ [t]).length = xs.length + 1 by simp]; exact this
      · intro k hk hlt
        rcases hk with h | h | ⟨b, hb, rfl⟩
        · exact .inl h
        · exact .inr (.inl h)
        · rcases hc4.out b hb with ⟨a, ha, e⟩ | h
          · exact .inr (.inr ⟨a, ha, e.symm⟩)
          · omega
  · skip
    obtain ⟨s_VX, f_VX, z_VX⟩ := VX.open
    go_simp
    refine hK0 _ _ ?_
    clear hK0 K0 s_VX f_VX z_VX
    try simp only [Act.put, List.getElem_toArray, List.getElem_cons_zero, List.getElem_cons_succ, List.setIfInBounds_toArray, List.set_cons_zero, List.set_cons_succ]
    refine wpAny_ready (rs := [4, 6]) (by kernel_rfl) (by simp) ?_
    refine AllReady.cons (o := _) rfl (fun K0 hK0 => ?_) (AllReady.cons (o := _) rfl (fun K0 hK0 => ?_) AllReady.nil)
    · skip
      obtain ⟨s_VP, f_VP, z_VP⟩ := VP.open
      go_simp
      refine hK0 _ _ ?_
      clear hK0 K0 s_VP f_VP z_VP
      try simp only [Act.put, List.getElem_toArray, List.getElem_cons_zero, List.getElem_cons_succ, List.setIfInBounds_toArray, List.set_cons_zero, List.set_cons_succ]
      refine wpAny_ready (rs := [6]) (by kernel_rfl) (by simp) ?_
      refine AllReady.cons (o := _) rfl (fun K0 hK0 => ?_) AllReady.nil
      go_simp
      refine hK0 _ _ ?_
      clear hK0 K0
      try simp only [Act.put, List.getElem_toArray, List.getElem_cons_zero, List.getElem_cons_succ, List.setIfInBounds_toArray, List.set_cons_zero, List.set_cons_succ]
      have bq := belowA wd (.cells #[.int .i64 t.o, .int .i64 t.a, .int .i64 t.b, .int .i64 t.n] 70)
      have HNC := newCells wd 70 (rowTerm t)
      replace VP := VP.kept bq
      replace VX := VX.kept bq
      replace O := O.kept bq
      replace TMM := TMM.kept bq
      replace S := S.trans (Sm.below bq)
      have hb3 : base ≤ (wd.alloc (.cells #[.int .i64 t.o, .int .i64 t.a, .int .i64 t.b, .int .i64 t.n] 70)).heap.size := Nat.le_trans hbase2 bq.size
      clear bq hbase2
      change ∀ j u, (rowTerm t)[j]? = some u → (wd.alloc (.cells #[.int .i64 t.o, .int .i64 t.a, .int .i64 t.b, .int .i64 t.n] 70)).cell? ((⟨wd.heap.size, 0, none⟩ : Addr).add j) = some u at HNC
      generalize wd.alloc (.cells #[.int .i64 t.o, .int .i64 t.a, .int .i64 t.b, .int .i64 t.n] 70) = wq at *
      have hbase2 := hb3
      clear hb3
      replace HNC := Hid.mk HNC
      refine wpAny_ready (rs := [7]) (by kernel_rfl) (by simp) ?_
      refine AllReady.cons (o := _) rfl (fun K0 hK0 => ?_) AllReady.nil
      rw [if_pos (by rfl)]
      have OLT := Hid.mk O.lt
      have VXS := Hid.mk VX.1
      refine wp_putTerm _ _ _ rfl base c d xs n HN.out rfl O (⟨wd.heap.size, 0, none⟩) 1 t rfl HNC.out (by omega) hbase2 ?_
      intro c4 d4 w4 O4 hg4 hx4
      replace VP := VP.grownR hg4 (row_ne hcp.out)
      replace VX := VX.grownR hg4 (row_ne hcx.out)
      replace TMM := TMM.grown hg4 (fun e => row_ne hcg.out e.symm)
      replace S := S.trans (Sm.grown hg4 (fun k hk => bkx_row hk))
      have hc4 := Hid.mk (row_from (by obtain ⟨g', h0, h1, _⟩ := hx4.out; exact ⟨g', h0, h1, VXS.out⟩))
      have hcp4 := Hid.mk (row_off hc4.out hcp.out (HX.out p (.inl rfl)))
      have hcg4 := Hid.mk (row_off hc4.out hcg.out (HX.out g (.inr (.inl rfl))))
      refine hK0 _ _ ?_
      clear hK0 K0 O hg4 hx4 OLT HNC hbase2
      try simp only [Act.put, List.getElem_toArray, List.getElem_cons_zero, List.getElem_cons_succ, List.setIfInBounds_toArray, List.set_cons_zero, List.set_cons_succ]
      refine wpAny_take (i := 8) (oi := _) (v := ?vtt11) rfl (by kernel_rfl) (by kernel_rfl) (by kernel_rfl) (fun _ _ _ h => h) (Or.inl ⟨by rfl, ?hytt11⟩) ?resttt11
      case hytt11 => (intro w; go_simp; first | done | with_reducible rfl)
      try simp only [Act.put, List.getElem_toArray, List.getElem_cons_zero, List.getElem_cons_succ, List.setIfInBounds_toArray, List.set_cons_zero, List.set_cons_succ]
      refine wpAny_take (i := 9) (oi := _) (v := ?vtt12) rfl (by kernel_rfl) (by kernel_rfl) (by kernel_rfl) (fun _ _ _ h => h) (Or.inl ⟨by rfl, ?hytt12⟩) ?resttt12
      case hytt12 => (intro w; go_simp; first | done | with_reducible rfl)
      try simp only [Act.put, List.getElem_toArray, List.getElem_cons_zero, List.getElem_cons_succ, List.setIfInBounds_toArray, List.set_cons_zero, List.set_cons_succ]
      refine wpAny_ready (rs := [10]) (by kernel_rfl) (by simp) ?_
      refine AllReady.cons (o := _) rfl (fun K0 hK0 => ?_) AllReady.nil
      obtain ⟨s_VP, f_VP, z_VP⟩ := VP.open
      go_simp
      refine hK0 _ _ ?_
      clear hK0 K0 s_VP f_VP z_VP
      refine wpAny_done (by kernel_rfl) ?_ _
      have VP5 := VP.set (i := 0) (by simp) (.slice c4 (n + 1) d4)
      simp only [List.set_cons_zero] at VP5
      have O5 := O4.away (p := ⟨p, 0, none⟩) hcp4.out (.slice c4 (n + 1) d4)
      have VX5 := VX.other (p := ⟨p, 0, none⟩) (by simp only; exact hpx) (.slice c4 (n + 1) d4)
      have TM5 := TMM.other (p := ⟨p, 0, none⟩) (by simp only; exact hne.symm) (.slice c4 (n + 1) d4)
      have S5 := S.trans (Sm.cell (p := ⟨p, 0, none⟩) (.inl rfl) (.slice c4 (n + 1) d4))
      generalize w4.setCell ⟨p, 0, none⟩ (.slice c4 (n + 1) d4) = w5 at *
      clear VP O4 VX TMM S
      replace O5 := Hid.mk O5
      replace S5 := Hid.mk S5
      obtain ⟨s_VP, f_VP, z_VP⟩ := VP5.open
      obtain ⟨s_VX, f_VX, z_VX⟩ := VX5.open
      go_upto_region 3 with fail
      clear s_VP f_VP z_VP s_VX f_VX z_VX
      refine wp_region_any (by kernel_rfl) ?_
      change wpAny _ _ _ _ _ _ _ w5.drew
      have bd : Below w5.heap.size w5 w5.drew := (Below.refl _ _).drew
      replace VP5 := VP5.kept bd
      replace VX5 := VX5.kept bd
      replace TM5 := TM5.kept bd
      replace O5 := Hid.mk (O5.out.kept bd)
      replace S5 := Hid.mk (S5.out.trans (Sm.below bd))
      clear bd
      generalize w5.drew = we at *
      refine wpAny_take (i := 0) (oi := _) (v := ?vtt13) rfl (by kernel_rfl) (by kernel_rfl) (by kernel_rfl) (fun _ _ _ h => h) (Or.inl ⟨by rfl, ?hytt13⟩) ?resttt13
      case hytt13 => (intro w; go_simp; first | done | with_reducible rfl)
      try simp only [Act.put, List.getElem_toArray, List.getElem_cons_zero, List.setIfInBounds_toArray, List.set_cons_zero, List.set_cons_succ]
      refine wpAny_take (i := 1) (oi := _) (v := ?vtt14) rfl (by kernel_rfl) (by kernel_rfl) (by kernel_rfl) (fun _ _ _ h => h) (Or.inl ⟨by rfl, ?hytt14⟩) ?resttt14
      case hytt14 => (intro w; go_simp; first | done | with_reducible rfl)
      try simp only [Act.put, List.getElem_toArray, List.getElem_cons_zero, List.getElem_cons_succ, List.setIfInBounds_toArray, List.set_cons_zero, List.set_cons_succ]
      refine wpAny_take (i := 2) (oi := _) (v := ?vtt15) rfl (by kernel_rfl) (by kernel_rfl) (by kernel_rfl) (fun _ _ _ h => h) (Or.inl ⟨by rfl, ?hytt15⟩) ?resttt15
      case hytt15 => (intro w; go_simp; first | done | with_reducible rfl)
      try simp only [Act.put, List.getElem_toArray, List.getElem_cons_zero, List.getElem_cons_succ, List.setIfInBounds_toArray, List.set_cons_zero, List.set_cons_succ]
      refine wpAny_take (i := 5) (oi := _) (v := ?vtt16) rfl (by kernel_rfl) (by kernel_rfl) (by kernel_rfl) (fun _ _ _ h => h) (Or.inl ⟨by rfl, ?hytt16⟩) ?resttt16
      case hytt16 => (intro w; go_simp; first | done | with_reducible rfl)
      try simp only [Act.put, List.getElem_toArray, List.getElem_cons_zero, List.getElem_cons_succ, List.setIfInBounds_toArray, List.set_cons_zero, List.set_cons_succ]
      refine wpAny_ready (rs := [3, 4]) (by kernel_rfl) (by simp) ?_
      refine AllReady.cons (o := _) rfl (fun K0 hK0 => ?_) (AllReady.cons (o := _) rfl (fun K0 hK0 => ?_) AllReady.nil)
      · skip
        obtain ⟨s_VP, f_VP, z_VP⟩ := VP5.open
        go_simp
        refine hK0 _ _ ?_
        clear hK0 K0 s_VP f_VP z_VP
        try simp only [Act.put, List.getElem_toArray, List.getElem_cons_zero, List.getElem_cons_succ, List.setIfInBounds_toArray, List.set_cons_zero, List.set_cons_succ]
        refine wpAny_ready (rs := [4]) (by kernel_rfl) (by simp) ?_
        refine AllReady.cons (o := _) rfl (fun K0 hK0 => ?_) AllReady.nil
        obtain ⟨s_VX, f_VX, z_VX⟩ := VX5.open
        go_simp
        refine hK0 _ _ ?_
        clear hK0 K0 s_VX f_VX z_VX
        try simp only [Act.put, List.getElem_toArray, List.getElem_cons_zero, List.getElem_cons_succ, List.setIfInBounds_toArray, List.set_cons_zero, List.set_cons_succ]
        refine wpAny_ready (rs := [6]) (by kernel_rfl) (by simp) ?_
        refine AllReady.cons (o := _) rfl (fun K0 hK0 => ?_) AllReady.nil
        rw [if_pos (by rfl)]
        refine wp_TMstore _ _ _ _ rfl g (tmM xs) n TM5 t ht n (okI_of (by omega) (by omega)) hM.out (by omega) rfl rfl rfl ?_
        intro w6 TM6 hturn
        refine hK0 _ _ ?_
        clear hK0 K0
        refine wpAny_done (by kernel_rfl) ?_ _
        have S6 := Hid.mk (S5.out.trans (Sm.turn hturn (.inr (.inl rfl))))
        have sg := hturn.grown
        have VP6 := Hid.mk (VP5.grownR sg (fun e => hne (by simpa using e.symm)))
        have O6 := Hid.mk (O5.out.grown sg (fun b hb e => hcg4.out b hb (by simpa using e.symm)))
        have TM7 := Hid.mk TM6
        clear TM6 hturn sg VP5 VX5 TM5 O5 S5
        go_wp2
        go_ret
        refine ⟨c4, d4, rfl, ⟨?_, O6.out, ?_, hbp, hbg, hne, hcp4.out, hcg4.out⟩, S6.out, ?_⟩
        · have := VP6.out; rw [show (xs ++ [t]).length = n + 1 by rw [List.length_append, HN.out]; rfl]; exact this
        · have := TM7.out; rw [← HN.out, tmM_snoc hn] at this; rw [show (xs ++ [t]).length = xs.length + 1 by simp]; exact this
        · intro k hk hlt
          rcases hk with h | h | ⟨b, hb, rfl⟩
          · exact .inl h
          · exact .inr (.inl h)
          · rcases hc4.out b hb with ⟨a, ha, e⟩ | h
            · exact .inr (.inr ⟨a, ha, e.symm⟩)
            · omega
      · skip
        obtain ⟨s_VX, f_VX, z_VX⟩ := VX5.open
        go_simp
        refine hK0 _ _ ?_
        clear hK0 K0 s_VX f_VX z_VX
        try simp only [Act.put, List.getElem_toArray, List.getElem_cons_zero, List.getElem_cons_succ, List.setIfInBounds_toArray, List.set_cons_zero, List.set_cons_succ]
        refine wpAny_ready (rs := [3]) (by kernel_rfl) (by simp) ?_
        refine AllReady.cons (o := _) rfl (fun K0 hK0 => ?_) AllReady.nil
        obtain ⟨s_VP, f_VP, z_VP⟩ := VP5.open
        go_simp
        refine hK0 _ _ ?_
        clear hK0 K0 s_VP f_VP z_VP
        try simp only [Act.put, List.getElem_toArray, List.getElem_cons_zero, List.getElem_cons_succ, List.setIfInBounds_toArray, List.set_cons_zero, List.set_cons_succ]
        refine wpAny_ready (rs := [6]) (by kernel_rfl) (by simp) ?_
        refine AllReady.cons (o := _) rfl (fun K0 hK0 => ?_) AllReady.nil
        rw [if_pos (by rfl)]
        refine wp_TMstore _ _ _ _ rfl g (tmM xs) n TM5 t ht n (okI_of (by omega) (by omega)) hM.out (by omega) rfl rfl rfl ?_
        intro w6 TM6 hturn
        refine hK0 _ _ ?_
        clear hK0 K0
        refine wpAny_done (by kernel_rfl) ?_ _
        have S6 := Hid.mk (S5.out.trans (Sm.turn hturn (.inr (.inl rfl))))
        have sg := hturn.grown
        have VP6 := Hid.mk (VP5.grownR sg (fun e => hne (by simpa using e.symm)))
        have O6 := Hid.mk (O5.out.grown sg (fun b hb e => hcg4.out b hb (by simpa using e.symm)))
        have TM7 := Hid.mk TM6
        clear TM6 hturn sg VP5 VX5 TM5 O5 S5
        go_wp2
        go_ret
        refine ⟨c4, d4, rfl, ⟨?_, O6.out, ?_, hbp, hbg, hne, hcp4.out, hcg4.out⟩, S6.out, ?_⟩
        · have := VP6.out; rw [show (xs ++ [t]).length = n + 1 by rw [List.length_append, HN.out]; rfl]; exact this
        · have := TM7.out; rw [← HN.out, tmM_snoc hn] at this; rw [show (xs ++ [t]).length = xs.length + 1 by simp]; exact this
        · intro k hk hlt
          rcases hk with h | h | ⟨b, hb, rfl⟩
          · exact .inl h
          · exact .inr (.inl h)
          · rcases hc4.out b hb with ⟨a, ha, e⟩ | h
            · exact .inr (.inr ⟨a, ha, e.symm⟩)
            · omega
    · skip
      go_simp
      refine hK0 _ _ ?_
      clear hK0 K0
      try simp only [Act.put, List.getElem_toArray, List.getElem_cons_zero, List.getElem_cons_succ, List.setIfInBounds_toArray, List.set_cons_zero, List.set_cons_succ]
      have bq := belowA wd (.cells #[.int .i64 t.o, .int .i64 t.a, .int .i64 t.b, .int .i64 t.n] 70)
      have HNC := newCells wd 70 (rowTerm t)
      replace VP := VP.kept bq
      replace VX := VX.kept bq
      replace O := O.kept bq
      replace TMM := TMM.kept bq
      replace S := S.trans (Sm.below bq)
      have hb3 : base ≤ (wd.alloc (.cells #[.int .i64 t.o, .int .i64 t.a, .int .i64 t.b, .int .i64 t.n] 70)).heap.size := Nat.le_trans hbase2 bq.size
      clear bq hbase2
      change ∀ j u, (rowTerm t)[j]? = some u → (wd.alloc (.cells #[.int .i64 t.o, .int .i64 t.a, .int .i64 t.b, .int .i64 t.n] 70)).cell? ((⟨wd.heap.size, 0, none⟩ : Addr).add j) = some u at HNC
      generalize wd.alloc (.cells #[.int .i64 t.o, .int .i64 t.a, .int .i64 t.b, .int .i64 t.n] 70) = wq at *
      have hbase2 := hb3
      clear hb3
      replace HNC := Hid.mk HNC
      refine wpAny_ready (rs := [4]) (by kernel_rfl) (by simp) ?_
      refine AllReady.cons (o := _) rfl (fun K0 hK0 => ?_) AllReady.nil
      obtain ⟨s_VP, f_VP, z_VP⟩ := VP.open
      go_simp
      refine hK0 _ _ ?_
      clear hK0 K0 s_VP f_VP z_VP
      try simp only [Act.put, List.getElem_toArray, List.getElem_cons_zero, List.getElem_cons_succ, List.setIfInBounds_toArray, List.set_cons_zero, List.set_cons_succ]
      refine wpAny_ready (rs := [7]) (by kernel_rfl) (by simp) ?_
      refine AllReady.cons (o := _) rfl (fun K0 hK0 => ?_) AllReady.nil
      rw [if_pos (by rfl)]
      have OLT := Hid.mk O.lt
      have VXS := Hid.mk VX.1
      refine wp_putTerm _ _ _ rfl base c d xs n HN.out rfl O (⟨wd.heap.size, 0, none⟩) 1 t rfl HNC.out (by omega) hbase2 ?_
      intro c4 d4 w4 O4 hg4 hx4
      replace VP := VP.grownR hg4 (row_ne hcp.out)
      replace VX := VX.grownR hg4 (row_ne hcx.out)
      replace TMM := TMM.grown hg4 (fun e => row_ne hcg.out e.symm)
      replace S := S.trans (Sm.grown hg4 (fun k hk => bkx_row hk))
      have hc4 := Hid.mk (row_from (by obtain ⟨g', h0, h1, _⟩ := hx4.out; exact ⟨g', h0, h1, VXS.out⟩))
      have hcp4 := Hid.mk (row_off hc4.out hcp.out (HX.out p (.inl rfl)))
      have hcg4 := Hid.mk (row_off hc4.out hcg.out (HX.out g (.inr (.inl rfl))))
      refine hK0 _ _ ?_
      clear hK0 K0 O hg4 hx4 OLT HNC hbase2
      try simp only [Act.put, List.getElem_toArray, List.getElem_cons_zero, List.getElem_cons_succ, List.setIfInBounds_toArray, List.set_cons_zero, List.set_cons_succ]
      refine wpAny_take (i := 8) (oi := _) (v := ?vtt17) rfl (by kernel_rfl) (by kernel_rfl) (by kernel_rfl) (fun _ _ _ h => h) (Or.inl ⟨by rfl, ?hytt17⟩) ?resttt17
      case hytt17 => (intro w; go_simp; first | done | with_reducible rfl)
      try simp only [Act.put, List.getElem_toArray, List.getElem_cons_zero, List.getElem_cons_succ, List.setIfInBounds_toArray, List.set_cons_zero, List.set_cons_succ]
      refine wpAny_take (i := 9) (oi := _) (v := ?vtt18) rfl (by kernel_rfl) (by kernel_rfl) (by kernel_rfl) (fun _ _ _ h => h) (Or.inl ⟨by rfl, ?hytt18⟩) ?resttt18
      case hytt18 => (intro w; go_simp; first | done | with_reducible rfl)
      try simp only [Act.put, List.getElem_toArray, List.getElem_cons_zero, List.getElem_cons_succ, List.setIfInBounds_toArray, List.set_cons_zero, List.set_cons_succ]
      refine wpAny_ready (rs := [10]) (by kernel_rfl) (by simp) ?_
      refine AllReady.cons (o := _) rfl (fun K0 hK0 => ?_) AllReady.nil
      obtain ⟨s_VP, f_VP, z_VP⟩ := VP.open
      go_simp
      refine hK0 _ _ ?_
      clear hK0 K0 s_VP f_VP z_VP
      refine wpAny_done (by kernel_rfl) ?_ _
      have VP5 := VP.set (i := 0) (by simp) (.slice c4 (n + 1) d4)
      simp only [List.set_cons_zero] at VP5
      have O5 := O4.away (p := ⟨p, 0, none⟩) hcp4.out (.slice c4 (n + 1) d4)
      have VX5 := VX.other (p := ⟨p, 0, none⟩) (by simp only; exact hpx) (.slice c4 (n + 1) d4)
      have TM5 := TMM.other (p := ⟨p, 0, none⟩) (by simp only; exact hne.symm) (.slice c4 (n + 1) d4)
      have S5 := S.trans (Sm.cell (p := ⟨p, 0, none⟩) (.inl rfl) (.slice c4 (n + 1) d4))
      generalize w4.setCell ⟨p, 0, none⟩ (.slice c4 (n + 1) d4) = w5 at *
      clear VP O4 VX TMM S
      replace O5 := Hid.mk O5
      replace S5 := Hid.mk S5
      obtain ⟨s_VP, f_VP, z_VP⟩ := VP5.open
      obtain ⟨s_VX, f_VX, z_VX⟩ := VX5.open
      go_upto_region 3 with fail
      clear s_VP f_VP z_VP s_VX f_VX z_VX
      refine wp_region_any (by kernel_rfl) ?_
      change wpAny _ _ _ _ _ _ _ w5.drew
      have bd : Below w5.heap.size w5 w5.drew := (Below.refl _ _).drew
      replace VP5 := VP5.kept bd
      replace VX5 := VX5.kept bd
      replace TM5 := TM5.kept bd
      replace O5 := Hid.mk (O5.out.kept bd)
      replace S5 := Hid.mk (S5.out.trans (Sm.below bd))
      clear bd
      generalize w5.drew = we at *
      refine wpAny_take (i := 0) (oi := _) (v := ?vtt19) rfl (by kernel_rfl) (by kernel_rfl) (by kernel_rfl) (fun _ _ _ h => h) (Or.inl ⟨by rfl, ?hytt19⟩) ?resttt19
      case hytt19 => (intro w; go_simp; first | done | with_reducible rfl)
      try simp only [Act.put, List.getElem_toArray, List.getElem_cons_zero, List.setIfInBounds_toArray, List.set_cons_zero, List.set_cons_succ]
      refine wpAny_take (i := 1) (oi := _) (v := ?vtt20) rfl (by kernel_rfl) (by kernel_rfl) (by kernel_rfl) (fun _ _ _ h => h) (Or.inl ⟨by rfl, ?hytt20⟩) ?resttt20
      case hytt20 => (intro w; go_simp; first | done | with_reducible rfl)
      try simp only [Act.put, List.getElem_toArray, List.getElem_cons_zero, List.getElem_cons_succ, List.setIfInBounds_toArray, List.set_cons_zero, List.set_cons_succ]
      refine wpAny_take (i := 2) (oi := _) (v := ?vtt21) rfl (by kernel_rfl) (by kernel_rfl) (by kernel_rfl) (fun _ _ _ h => h) (Or.inl ⟨by rfl, ?hytt21⟩) ?resttt21
      case hytt21 => (intro w; go_simp; first | done | with_reducible rfl)
      try simp only [Act.put, List.getElem_toArray, List.getElem_cons_zero, List.getElem_cons_succ, List.setIfInBounds_toArray, List.set_cons_zero, List.set_cons_succ]
      refine wpAny_take (i := 5) (oi := _) (v := ?vtt22) rfl (by kernel_rfl) (by kernel_rfl) (by kernel_rfl) (fun _ _ _ h => h) (Or.inl ⟨by rfl, ?hytt22⟩) ?resttt22
      case hytt22 => (intro w; go_simp; first | done | with_reducible rfl)
      try simp only [Act.put, List.getElem_toArray, List.getElem_cons_zero, List.getElem_cons_succ, List.setIfInBounds_toArray, List.set_cons_zero, List.set_cons_succ]
      refine wpAny_ready (rs := [3, 4]) (by kernel_rfl) (by simp) ?_
      refine AllReady.cons (o := _) rfl (fun K0 hK0 => ?_) (AllReady.cons (o := _) rfl (fun K0 hK0 => ?_) AllReady.nil)
      · skip
        obtain ⟨s_VP, f_VP, z_VP⟩ := VP5.open
        go_simp
        refine hK0 _ _ ?_
        clear hK0 K0 s_VP f_VP z_VP
        try simp only [Act.put, List.getElem_toArray, List.getElem_cons_zero, List.getElem_cons_succ, List.setIfInBounds_toArray, List.set_cons_zero, List.set_cons_succ]
        refine wpAny_ready (rs := [4]) (by kernel_rfl) (by simp) ?_
        refine AllReady.cons (o := _) rfl (fun K0 hK0 => ?_) AllReady.nil
        obtain ⟨s_VX, f_VX, z_VX⟩ := VX5.open
        go_simp
        refine hK0 _ _ ?_
        clear hK0 K0 s_VX f_VX z_VX
        try simp only [Act.put, List.getElem_toArray, List.getElem_cons_zero, List.getElem_cons_succ, List.setIfInBounds_toArray, List.set_cons_zero, List.set_cons_succ]
        refine wpAny_ready (rs := [6]) (by kernel_rfl) (by simp) ?_
        refine AllReady.cons (o := _) rfl (fun K0 hK0 => ?_) AllReady.nil
        rw [if_pos (by rfl)]
        refine wp_TMstore _ _ _ _ rfl g (tmM xs) n TM5 t ht n (okI_of (by omega) (by omega)) hM.out (by omega) rfl rfl rfl ?_
        intro w6 TM6 hturn
        refine hK0 _ _ ?_
        clear hK0 K0
        refine wpAny_done (by kernel_rfl) ?_ _
        have S6 := Hid.mk (S5.out.trans (Sm.turn hturn (.inr (.inl rfl))))
        have sg := hturn.grown
        have VP6 := Hid.mk (VP5.grownR sg (fun e => hne (by simpa using e.symm)))
        have O6 := Hid.mk (O5.out.grown sg (fun b hb e => hcg4.out b hb (by simpa using e.symm)))
        have TM7 := Hid.mk TM6
        clear TM6 hturn sg VP5 VX5 TM5 O5 S5
        go_wp2
        go_ret
        refine ⟨c4, d4, rfl, ⟨?_, O6.out, ?_, hbp, hbg, hne, hcp4.out, hcg4.out⟩, S6.out, ?_⟩
        · have := VP6.out; rw [show (xs ++ [t]).length = n + 1 by rw [List.length_append, HN.out]; rfl]; exact this
        · have := TM7.out; rw [← HN.out, tmM_snoc hn] at this; rw [show (xs ++ [t]).length = xs.length + 1 by simp]; exact this
        · intro k hk hlt
          rcases hk with h | h | ⟨b, hb, rfl⟩
          · exact .inl h
          · exact .inr (.inl h)
          · rcases hc4.out b hb with ⟨a, ha, e⟩ | h
            · exact .inr (.inr ⟨a, ha, e.symm⟩)
            · omega
      · skip
        obtain ⟨s_VX, f_VX, z_VX⟩ := VX5.open
        go_simp
        refine hK0 _ _ ?_
        clear hK0 K0 s_VX f_VX z_VX
        try simp only [Act.put, List.getElem_toArray, List.getElem_cons_zero, List.getElem_cons_succ, List.setIfInBounds_toArray, List.set_cons_zero, List.set_cons_succ]
        refine wpAny_ready (rs := [3]) (by kernel_rfl) (by simp) ?_
        refine AllReady.cons (o := _) rfl (fun K0 hK0 => ?_) AllReady.nil
        obtain ⟨s_VP, f_VP, z_VP⟩ := VP5.open
        go_simp
        refine hK0 _ _ ?_
        clear hK0 K0 s_VP f_VP z_VP
        try simp only [Act.put, List.getElem_toArray, List.getElem_cons_zero, List.getElem_cons_succ, List.setIfInBounds_toArray, List.set_cons_zero, List.set_cons_succ]
        refine wpAny_ready (rs := [6]) (by kernel_rfl) (by simp) ?_
        refine AllReady.cons (o := _) rfl (fun K0 hK0 => ?_) AllReady.nil
        rw [if_pos (by rfl)]
        refine wp_TMstore _ _ _ _ rfl g (tmM xs) n TM5 t ht n (okI_of (by omega) (by omega)) hM.out (by omega) rfl rfl rfl ?_
        intro w6 TM6 hturn
        refine hK0 _ _ ?_
        clear hK0 K0
        refine wpAny_done (by kernel_rfl) ?_ _
        have S6 := Hid.mk (S5.out.trans (Sm.turn hturn (.inr (.inl rfl))))
        have sg := hturn.grown
        have VP6 := Hid.mk (VP5.grownR sg (fun e => hne (by simpa using e.symm)))
        have O6 := Hid.mk (O5.out.grown sg (fun b hb e => hcg4.out b hb (by simpa using e.symm)))
        have TM7 := Hid.mk TM6
        clear TM6 hturn sg VP5 VX5 TM5 O5 S5
        go_wp2
        go_ret
        refine ⟨c4, d4, rfl, ⟨?_, O6.out, ?_, hbp, hbg, hne, hcp4.out, hcg4.out⟩, S6.out, ?_⟩
        · have := VP6.out; rw [show (xs ++ [t]).length = n + 1 by rw [List.length_append, HN.out]; rfl]; exact this
        · have := TM7.out; rw [← HN.out, tmM_snoc hn] at this; rw [show (xs ++ [t]).length = xs.length + 1 by simp]; exact this
        · intro k hk hlt
          rcases hk with h | h | ⟨b, hb, rfl⟩
          · exact .inl h
          · exact .inr (.inl h)
          · rcases hc4.out b hb with ⟨a, ha, e⟩ | h
            · exact .inr (.inr ⟨a, ha, e.symm⟩)
            · omega

end Go.Proofs.YthjaehcfakjemaaDoor
