/- Put together: TmH, TmI, TmJ, RofT. -/
import Derived.Test.YtfldgeokigcokaaGreatFWv
import Derived.Deep.DeepCutAuto
import Derived.Test.YtfldgeokigcokaaGreatFWm
import Derived.Test.YtfldgeokigcokaaGreatNewC

/- A book of terms: one is added. -/
namespace Go.Proofs.YtfldgeokigcokaaGreat
open Go.RowKit

set_option maxRecDepth 20000 in
set_option maxHeartbeats 8000000 in
theorem add_ok (base p g : Nat) (c : Option Addr) (d : Nat) (xs : List T4) (t : T4) (w : World) (H : Bk w base p g c d xs) (ht : okT t) (hn : t ∉ xs) (hl : xs.length ≤ 1000) :
    Calls Tryz.prog 65 #[.pointer (some ⟨p, 0, none⟩), .agg #[.int .i64 t.o, .int .i64 t.a, .int .i64 t.b, .int .i64 t.n]] w fun e w' => ∃ c' d', e = .returned (.int .i64 xs.length) ∧ Bk w' base p g c' d' (xs ++ [t]) ∧ Sm (BkX p g c) w w' ∧ ∀ k, BkX p g c' k → k < w.heap.size → BkX p g c k := by
  have hM : Hid (tmM xs t = none) := Hid.mk (by unfold tmM; rw [if_neg hn])
  have HL := Hid.mk H.lt
  have HX : Hid (∀ k, BkX p g c k → k < w.heap.size) := Hid.mk fun k hk => (HL.out k hk).2
  obtain ⟨n, hnn⟩ : ∃ n, xs.length = n := ⟨_, rfl⟩
  have HN := Hid.mk hnn
  rw [hnn]
  go_enter Tryz.func65, Tryz.ntmps65
  have S : Sm (BkX p g c) w (w.alloc (.cells #[.int .i64 t.o, .int .i64 t.a, .int .i64 t.b, .int .i64 t.n] 70)) := Sm.below (belowA w _)
  have VX := V.new w [.int .i64 t.o, .int .i64 t.a, .int .i64 t.b, .int .i64 t.n] 70
  have H1 := H.kept (belowA w (.cells #[.int .i64 t.o, .int .i64 t.a, .int .i64 t.b, .int .i64 t.n] 70))
  go_upto_region 1 with fail
  generalize w.alloc (.cells #[.int .i64 t.o, .int .i64 t.a, .int .i64 t.b, .int .i64 t.n] 70) = wa at *
  have hpx : p ≠ w.heap.size := by have := HX.out p (.inl rfl); omega
  have hgx : g ≠ w.heap.size := by have := HX.out g (.inr (.inl rfl)); omega
  have hcx : Hid (∀ b : Addr, c = some b → b.block ≠ w.heap.size) := Hid.mk fun b hb => by have := HX.out b.block (.inr (.inr ⟨b, hb, rfl⟩)); omega
  obtain ⟨VP, O, TMM, hbp, hbg, hne, hcp, hcg⟩ := H1
  replace hcp := Hid.mk hcp
  replace hcg := Hid.mk hcg
  have hbase : base ≤ wa.heap.size := by have := VP.1; omega
  rw [hnn] at VP TMM hl
  clear H HL hnn
  obtain ⟨s_VP, f_VP, z_VP⟩ := VP.open
  go_upto_region 2 with fail
  clear s_VP f_VP z_VP
  refine wp_region_any (by kernel_rfl) ?_
  change wpAny _ _ _ _ _ _ _ wa.drew
  have bd : Below wa.heap.size wa wa.drew := (Below.refl _ _).drew
  replace VP := VP.kept bd
  replace VX := VX.kept bd
  replace O := O.kept bd
  replace TMM := TMM.kept bd
  replace S := S.trans (Sm.below bd)
  have hbase2 : base ≤ wa.drew.heap.size := hbase
  clear bd hbase
  generalize wa.drew = wd at *
  refine wpAny_take (i := 0) (oi := _) (v := ?vtt1) rfl (by kernel_rfl) (by kernel_rfl) (by kernel_rfl) (fun _ _ _ h => h) (Or.inl ⟨by rfl, ?hytt1⟩) ?resttt1
  case hytt1 => (intro w; go_simp; first | done | with_reducible rfl)
  try simp only [Act.put, List.getElem_toArray, List.getElem_cons_zero, List.setIfInBounds_toArray, List.set_cons_zero, List.set_cons_succ]
  refine wpAny_take (i := 1) (oi := _) (v := ?vtt2) rfl (by kernel_rfl) (by kernel_rfl) (by kernel_rfl) (fun _ _ _ h => h) (Or.inl ⟨by rfl, ?hytt2⟩) ?resttt2
  case hytt2 => (intro w; go_simp; first | done | with_reducible rfl)
  try simp only [Act.put, List.getElem_toArray, List.getElem_cons_zero, List.getElem_cons_succ, List.setIfInBounds_toArray, List.set_cons_zero, List.set_cons_succ]
  refine wpAny_take (i := 2) (oi := _) (v := ?vtt3) rfl (by kernel_rfl) (by kernel_rfl) (by kernel_rfl) (fun _ _ _ h => h) (Or.inl ⟨by rfl, ?hytt3⟩) ?resttt3
  case hytt3 => (intro w; go_simp; first | done | with_reducible rfl)
  try simp only [Act.put, List.getElem_toArray, List.getElem_cons_zero, List.getElem_cons_succ, List.setIfInBounds_toArray, List.set_cons_zero, List.set_cons_succ]
  refine wpAny_take (i := 3) (oi := _) (v := ?vtt4) rfl (by kernel_rfl) (by kernel_rfl) (by kernel_rfl) (fun _ _ _ h => h) (Or.inl ⟨by rfl, ?hytt4⟩) ?resttt4
  case hytt4 => (intro w; go_simp; first | done | with_reducible rfl)
  try simp only [Act.put, List.getElem_toArray, List.getElem_cons_zero, List.getElem_cons_succ, List.setIfInBounds_toArray, List.set_cons_zero, List.set_cons_succ]
  refine wpAny_ready (rs := [4, 5]) (by kernel_rfl) (by simp) ?_
  refine AllReady.cons (o := _) rfl (fun K0 hK0 => ?_) (AllReady.cons (o := _) rfl (fun K0 hK0 => ?_) AllReady.nil)
  · skip
    obtain ⟨s_VP, f_VP, z_VP⟩ := VP.open
    go_simp
    refine hK0 _ _ ?_
    clear hK0 K0 s_VP f_VP z_VP
    try simp only [Act.put, List.getElem_toArray, List.getElem_cons_zero, List.getElem_cons_succ, List.setIfInBounds_toArray, List.set_cons_zero, List.set_cons_succ]
    refine wpAny_ready (rs := [5]) (by kernel_rfl) (by simp) ?_
    refine AllReady.cons (o := _) rfl (fun K0 hK0 => ?_) AllReady.nil
    obtain ⟨s_VX, f_VX, z_VX⟩ := VX.open
    go_simp
    refine hK0 _ _ ?_
    clear hK0 K0 s_VX f_VX z_VX
    try simp only [Act.put, List.getElem_toArray, List.getElem_cons_zero, List.getElem_cons_succ, List.setIfInBounds_toArray, List.set_cons_zero, List.set_cons_succ]
    refine wpAny_ready (rs := [6]) (by kernel_rfl) (by simp) ?_
    refine AllReady.cons (o := _) rfl (fun K0 hK0 => ?_) AllReady.nil
    go_simp
    refine hK0 _ _ ?_
    clear hK0 K0
    try simp only [Act.put, List.getElem_toArray, List.getElem_cons_zero, List.getElem_cons_succ, List.setIfInBounds_toArray, List.set_cons_zero, List.set_cons_succ]
    have bq := belowA wd (.cells #[.int .i64 t.o, .int .i64 t.a, .int .i64 t.b, .int .i64 t.n] 70)
    have HNC := newCells wd 70 (rowTerm t)
    replace VP := VP.kept bq
    replace VX := VX.kept bq
    replace O := O.kept bq
    replace TMM := TMM.kept bq
    replace S := S.trans (Sm.below bq)
    have hb3 : base ≤ (wd.alloc (.cells #[.int .i64 t.o, .int .i64 t.a, .int .i64 t.b, .int .i64 t.n] 70)).heap.size := Nat.le_trans hbase2 bq.size
    clear bq hbase2
    change ∀ j u, (rowTerm t)[j]? = some u → (wd.alloc (.cells #[.int .i64 t.o, .int .i64 t.a, .int .i64 t.b, .int .i64 t.n] 70)).cell? ((⟨wd.heap.size, 0, none⟩ : Addr).add j) = some u at HNC
    generalize wd.alloc (.cells #[.int .i64 t.o, .int .i64 t.a, .int .i64 t.b, .int .i64 t.n] 70) = wq at *
    have hbase2 := hb3
    clear hb3
    replace HNC := Hid.mk HNC
    refine wpAny_ready (rs := [7]) (by kernel_rfl) (by simp) ?_
    refine AllReady.cons (o := _) rfl (fun K0 hK0 => ?_) AllReady.nil
    rw [if_pos (by rfl)]
    have OLT := Hid.mk O.lt
    have VXS := Hid.mk VX.1
    refine wp_putTerm _ _ _ rfl base c d xs n HN.out rfl O (⟨wd.heap.size, 0, none⟩) 1 t rfl HNC.out (by omega) hbase2 ?_
    intro c4 d4 w4 O4 hg4 hx4
    replace VP := VP.grownR hg4 (row_ne hcp.out)
    replace VX := VX.grownR hg4 (row_ne hcx.out)
    replace TMM := TMM.grown hg4 (fun e => row_ne hcg.out e.symm)
    replace S := S.trans (Sm.grown hg4 (fun k hk => bkx_row hk))
    have hc4 := Hid.mk (row_from (by obtain ⟨g', h0, h1, _⟩ := hx4.out; exact ⟨g', h0, h1, VXS.out⟩))
    have hcp4 := Hid.mk (row_off hc4.out hcp.out (HX.out p (.inl rfl)))
    have hcg4 := Hid.mk (row_off hc4.out hcg.out (HX.out g (.inr (.inl rfl))))
    refine hK0 _ _ ?_
    clear hK0 K0 O hg4 hx4 OLT HNC hbase2
    try simp only [Act.put, List.getElem_toArray, List.getElem_cons_zero, List.getElem_cons_succ, List.setIfInBounds_toArray, List.set_cons_zero, List.set_cons_succ]
    refine wpAny_take (i := 8) (oi := _) (v := ?vtt5) rfl (by kernel_rfl) (by kernel_rfl) (by kernel_rfl) (fun _ _ _ h => h) (Or.inl ⟨by rfl, ?hytt5⟩) ?resttt5
    case hytt5 => (intro w; go_simp; first | done | with_reducible rfl)
    try simp only [Act.put, List.getElem_toArray, List.getElem_cons_zero, List.getElem_cons_succ, List.setIfInBounds_toArray, List.set_cons_zero, List.set_cons_succ]
    refine wpAny_take (i := 9) (oi := _) (v := ?vtt6) rfl (by kernel_rfl) (by kernel_rfl) (by kernel_rfl) (fun _ _ _ h => h) (Or.inl ⟨by rfl, ?hytt6⟩) ?resttt6
    case hytt6 => (intro w; go_simp; first | done | with_reducible rfl)
    try simp only [Act.put, List.getElem_toArray, List.getElem_cons_zero, List.getElem_cons_succ, List.setIfInBounds_toArray, List.set_cons_zero, List.set_cons_succ]
    refine wpAny_ready (rs := [10]) (by kernel_rfl) (by simp) ?_
    refine AllReady.cons (o := _) rfl (fun K0 hK0 => ?_) AllReady.nil
    obtain ⟨s_VP, f_VP, z_VP⟩ := VP.open
    go_simp
    refine hK0 _ _ ?_
    clear hK0 K0 s_VP f_VP z_VP
    refine wpAny_done (by kernel_rfl) ?_ _
    have VP5 := VP.set (i := 0) (by simp) (.slice c4 (n + 1) d4)
    simp only [List.set_cons_zero] at VP5
    have O5 := O4.away (p := ⟨p, 0, none⟩) hcp4.out (.slice c4 (n + 1) d4)
    have VX5 := VX.other (p := ⟨p, 0, none⟩) (by simp only; exact hpx) (.slice c4 (n + 1) d4)
    have TM5 := TMM.other (p := ⟨p, 0, none⟩) (by simp only; exact hne.symm) (.slice c4 (n + 1) d4)
    have S5 := S.trans (Sm.cell (p := ⟨p, 0, none⟩) (.inl rfl) (.slice c4 (n + 1) d4))
    generalize w4.setCell ⟨p, 0, none⟩ (.slice c4 (n + 1) d4) = w5 at *
    clear VP O4 VX TMM S
    replace O5 := Hid.mk O5
    replace S5 := Hid.mk S5
    obtain ⟨s_VP, f_VP, z_VP⟩ := VP5.open
    obtain ⟨s_VX, f_VX, z_VX⟩ := VX5.open
    go_upto_region 3 with fail
    clear s_VP f_VP z_VP s_VX f_VX z_VX
    refine wp_region_any (by kernel_rfl) ?_
    change wpAny _ _ _ _ _ _ _ w5.drew
    have bd : Below w5.heap.size w5 w5.drew := (Below.refl _ _).drew
    replace VP5 := VP5.kept bd
    replace VX5 := VX5.kept bd
    replace TM5 := TM5.kept bd
    replace O5 := Hid.mk (O5.out.kept bd)
    replace S5 := Hid.mk (S5.out.trans (Sm.below bd))
    clear bd
    generalize w5.drew = we at *
    refine wpAny_take (i := 0) (oi := _) (v := ?vtt7) rfl (by kernel_rfl) (by kernel_rfl) (by kernel_rfl) (fun _ _ _ h => h) (Or.inl ⟨by rfl, ?hytt7⟩) ?resttt7
    case hytt7 => (intro w; go_simp; first | done | with_reducible rfl)
    try simp only [Act.put, List.getElem_toArray, List.getElem_cons_zero, List.setIfInBounds_toArray, List.set_cons_zero, List.set_cons_succ]
    refine wpAny_take (i := 1) (oi := _) (v := ?vtt8) rfl (by kernel_rfl) (by kernel_rfl) (by kernel_rfl) (fun _ _ _ h => h) (Or.inl ⟨by rfl, ?hytt8⟩) ?resttt8
    case hytt8 => (intro w; go_simp; first | done | with_reducible rfl)
    try simp only [Act.put, List.getElem_toArray, List.getElem_cons_zero, List.getElem_cons_succ, List.setIfInBounds_toArray, List.set_cons_zero, List.set_cons_succ]
    refine wpAny_take (i := 2) (oi := _) (v := ?vtt9) rfl (by kernel_rfl) (by kernel_rfl) (by kernel_rfl) (fun _ _ _ h => h) (Or.inl ⟨by rfl, ?hytt9⟩) ?resttt9
    case hytt9 => (intro w; go_simp; first | done | with_reducible rfl)
    try simp only [Act.put, List.getElem_toArray, List.getElem_cons_zero, List.getElem_cons_succ, List.setIfInBounds_toArray, List.set_cons_zero, List.set_cons_succ]
    refine wpAny_take (i := 5) (oi := _) (v := ?vtt10) rfl (by kernel_rfl) (by kernel_rfl) (by kernel_rfl) (fun _ _ _ h => h) (Or.inl ⟨by rfl, ?hytt10⟩) ?resttt10
    case hytt10 => (intro w; go_simp; first | done | with_reducible rfl)
    try simp only [Act.put, List.getElem_toArray, List.getElem_cons_zero, List.getElem_cons_succ, List.setIfInBounds_toArray, List.set_cons_zero, List.set_cons_succ]
    refine wpAny_ready (rs := [3, 4]) (by kernel_rfl) (by simp) ?_
    refine AllReady.cons (o := _) rfl (fun K0 hK0 => ?_) (AllReady.cons (o := _) rfl (fun K0 hK0 => ?_) AllReady.nil)
    · skip
      obtain ⟨s_VP, f_VP, z_VP⟩ := VP5.open
      go_simp
      refine hK0 _ _ ?_
      clear hK0 K0 s_VP f_VP z_VP
      try simp only [Act.put, List.getElem_toArray, List.getElem_cons_zero, List.getElem_cons_succ, List.setIfInBounds_toArray, List.set_cons_zero, List.set_cons_succ]
      refine wpAny_ready (rs := [4]) (by kernel_rfl) (by simp) ?_
      refine AllReady.cons (o := _) rfl (fun K0 hK0 => ?_) AllReady.nil
      obtain ⟨s_VX, f_VX, z_VX⟩ := VX5.open
      go_simp
      refine hK0 _ _ ?_
      clear hK0 K0 s_VX f_VX z_VX
      try simp only [Act.put, List.getElem_toArray, List.getElem_cons_zero, List.getElem_cons_succ, List.setIfInBounds_toArray, List.set_cons_zero, List.set_cons_succ]
      refine wpAny_ready (rs := [6]) (by kernel_rfl) (by simp) ?_
      refine AllReady.cons (o := _) rfl (fun K0 hK0 => ?_) AllReady.nil
      rw [if_pos (by rfl)]
      refine wp_TMstore _ _ _ _ rfl g (tmM xs) n TM5 t ht n (okI_of (by omega) (by omega)) hM.out (by omega) rfl rfl rfl ?_
      intro w6 TM6 hturn
      refine hK0 _ _ ?_
      clear hK0 K0
      refine wpAny_done (by kernel_rfl) ?_ _
      have S6 := Hid.mk (S5.out.trans (Sm.turn hturn (.inr (.inl rfl))))
      have sg := hturn.grown
      have VP6 := Hid.mk (VP5.grownR sg (fun e => hne (by simpa using e.symm)))
      have O6 := Hid.mk (O5.out.grown sg (fun b hb e => hcg4.out b hb (by simpa using e.symm)))
      have TM7 := Hid.mk TM6
      clear TM6 hturn sg VP5 VX5 TM5 O5 S5
      go_wp2
      go_ret
      refine ⟨c4, d4, rfl, ⟨?_, O6.out, ?_, hbp, hbg, hne, hcp4.out, hcg4.out⟩, S6.out, ?_⟩
      · have := VP6.out; rw [show (xs ++ [t]).length = n + 1 by rw [List.length_append, HN.out]; rfl]; exact this
      · have := TM7.out; rw [← HN.out, tmM_snoc hn] at this; rw [show (xs ++ [t]).length = xs.length + 1 by simp]; exact this
      · intro k hk hlt
        rcases hk with h | h | ⟨b, hb, rfl⟩
        · exact .inl h
        · exact .inr (.inl h)
        · rcases hc4.out b hb with ⟨a, ha, e⟩ | h
          · exact .inr (.inr ⟨a, ha, e.symm⟩)
          · omega
    · skip
      obtain ⟨s_VX, f_VX, z_VX⟩ := VX5.open
      go_simp
      refine hK0 _ _ ?_
      clear hK0 K0 s_VX f_VX z_VX
      try simp only [Act.put, List.getElem_toArray, List.getElem_cons_zero, List.getElem_cons_succ, List.setIfInBounds_toArray, List.set_cons_zero, List.set_cons_succ]
      refine wpAny_ready (rs := [3]) (by kernel_rfl) (by simp) ?_
      refine AllReady.cons (o := _) rfl (fun K0 hK0 => ?_) AllReady.nil
      obtain ⟨s_VP, f_VP, z_VP⟩ := VP5.open
      go_simp
      refine hK0 _ _ ?_
      clear hK0 K0 s_VP f_VP z_VP
      try simp only [Act.put, List.getElem_toArray, List.getElem_cons_zero, List.getElem_cons_succ, List.setIfInBounds_toArray, List.set_cons_zero, List.set_cons_succ]
      refine wpAny_ready (rs := [6]) (by kernel_rfl) (by simp) ?_
      refine AllReady.cons (o := _) rfl (fun K0 hK0 => ?_) AllReady.nil
      rw [if_pos (by rfl)]
      refine wp_TMstore _ _ _ _ rfl g (tmM xs) n TM5 t ht n (okI_of (by omega) (by omega)) hM.out (by omega) rfl rfl rfl ?_
      intro w6 TM6 hturn
      refine hK0 _ _ ?_
      clear hK0 K0
      refine wpAny_done (by kernel_rfl) ?_ _
      have S6 := Hid.mk (S5.out.trans (Sm.turn hturn (.inr (.inl rfl))))
      have sg := hturn.grown
      have VP6 := Hid.mk (VP5.grownR sg (fun e => hne (by simpa using e.symm)))
      have O6 := Hid.mk (O5.out.grown sg (fun b hb e => hcg4.out b hb (by simpa using e.symm)))
      have TM7 := Hid.mk TM6
      clear TM6 hturn sg VP5 VX5 TM5 O5 S5
      go_wp2
      go_ret
      refine ⟨c4, d4, rfl, ⟨?_, O6.out, ?_, hbp, hbg, hne, hcp4.out, hcg4.out⟩, S6.out, ?_⟩
      · have := VP6.out; rw [show (xs ++ [t]).length = n + 1 by rw [List.length_append, HN.out]; rfl]; exact this
      · have := TM7.out; rw [← HN.out, tmM_snoc hn] at this; rw [show (xs ++ [t]).length = xs.length + 1 by simp]; exact this
      · intro k hk hlt
        rcases hk with h | h | ⟨b, hb, rfl⟩
        · exact .inl h
        · exact .inr (.inl h)
        · rcases hc4.out b hb with ⟨a, ha, e⟩ | h
          · exact .inr (.inr ⟨a, ha, e.symm⟩)
          · omega
  · skip
    obtain ⟨s_VX, f_VX, z_VX⟩ := VX.open
    go_simp
    refine hK0 _ _ ?_
    clear hK0 K0 s_VX f_VX z_VX
    try simp only [Act.put, List.getElem_toArray, List.getElem_cons_zero, List.getElem_cons_succ, List.setIfInBounds_toArray, List.set_cons_zero, List.set_cons_succ]
    refine wpAny_ready (rs := [4, 6]) (by kernel_rfl) (by simp) ?_
    refine AllReady.cons (o := _) rfl (fun K0 hK0 => ?_) (AllReady.cons (o := _) rfl (fun K0 hK0 => ?_) AllReady.nil)
    · skip
      obtain ⟨s_VP, f_VP, z_VP⟩ := VP.open
      go_simp
      refine hK0 _ _ ?_
      clear hK0 K0 s_VP f_VP z_VP
      try simp only [Act.put, List.getElem_toArray, List.getElem_cons_zero, List.getElem_cons_succ, List.setIfInBounds_toArray, List.set_cons_zero, List.set_cons_succ]
      refine wpAny_ready (rs := [6]) (by kernel_rfl) (by simp) ?_
      refine AllReady.cons (o := _) rfl (fun K0 hK0 => ?_) AllReady.nil
      go_simp
      refine hK0 _ _ ?_
      clear hK0 K0
      try simp only [Act.put, List.getElem_toArray, List.getElem_cons_zero, List.getElem_cons_succ, List.setIfInBounds_toArray, List.set_cons_zero, List.set_cons_succ]
      have bq := belowA wd (.cells #[.int .i64 t.o, .int .i64 t.a, .int .i64 t.b, .int .i64 t.n] 70)
      have HNC := newCells wd 70 (rowTerm t)
      replace VP := VP.kept bq
      replace VX := VX.kept bq
      replace O := O.kept bq
      replace TMM := TMM.kept bq
      replace S := S.trans (Sm.below bq)
      have hb3 : base ≤ (wd.alloc (.cells #[.int .i64 t.o, .int .i64 t.a, .int .i64 t.b, .int .i64 t.n] 70)).heap.size := Nat.le_trans hbase2 bq.size
      clear bq hbase2
      change ∀ j u, (rowTerm t)[j]? = some u → (wd.alloc (.cells #[.int .i64 t.o, .int .i64 t.a, .int .i64 t.b, .int .i64 t.n] 70)).cell? ((⟨wd.heap.size, 0, none⟩ : Addr).add j) = some u at HNC
      generalize wd.alloc (.cells #[.int .i64 t.o, .int .i64 t.a, .int .i64 t.b, .int .i64 t.n] 70) = wq at *
      have hbase2 := hb3
      clear hb3
      replace HNC := Hid.mk HNC
      refine wpAny_ready (rs := [7]) (by kernel_rfl) (by simp) ?_
      refine AllReady.cons (o := _) rfl (fun K0 hK0 => ?_) AllReady.nil
      rw [if_pos (by rfl)]
      have OLT := Hid.mk O.lt
      have VXS := Hid.mk VX.1
      refine wp_putTerm _ _ _ rfl base c d xs n HN.out rfl O (⟨wd.heap.size, 0, none⟩) 1 t rfl HNC.out (by omega) hbase2 ?_
      intro c4 d4 w4 O4 hg4 hx4
      replace VP := VP.grownR hg4 (row_ne hcp.out)
      replace VX := VX.grownR hg4 (row_ne hcx.out)
      replace TMM := TMM.grown hg4 (fun e => row_ne hcg.out e.symm)
      replace S := S.trans (Sm.grown hg4 (fun k hk => bkx_row hk))
      have hc4 := Hid.mk (row_from (by obtain ⟨g', h0, h1, _⟩ := hx4.out; exact ⟨g', h0, h1, VXS.out⟩))
      have hcp4 := Hid.mk (row_off hc4.out hcp.out (HX.out p (.inl rfl)))
      have hcg4 := Hid.mk (row_off hc4.out hcg.out (HX.out g (.inr (.inl rfl))))
      refine hK0 _ _ ?_
      clear hK0 K0 O hg4 hx4 OLT HNC hbase2
      try simp only [Act.put, List.getElem_toArray, List.getElem_cons_zero, List.getElem_cons_succ, List.setIfInBounds_toArray, List.set_cons_zero, List.set_cons_succ]
      refine wpAny_take (i := 8) (oi := _) (v := ?vtt11) rfl (by kernel_rfl) (by kernel_rfl) (by kernel_rfl) (fun _ _ _ h => h) (Or.inl ⟨by rfl, ?hytt11⟩) ?resttt11
      case hytt11 => (intro w; go_simp; first | done | with_reducible rfl)
      try simp only [Act.put, List.getElem_toArray, List.getElem_cons_zero, List.getElem_cons_succ, List.setIfInBounds_toArray, List.set_cons_zero, List.set_cons_succ]
      refine wpAny_take (i := 9) (oi := _) (v := ?vtt12) rfl (by kernel_rfl) (by kernel_rfl) (by kernel_rfl) (fun _ _ _ h => h) (Or.inl ⟨by rfl, ?hytt12⟩) ?resttt12
      case hytt12 => (intro w; go_simp; first | done | with_reducible rfl)
      try simp only [Act.put, List.getElem_toArray, List.getElem_cons_zero, List.getElem_cons_succ, List.setIfInBounds_toArray, List.set_cons_zero, List.set_cons_succ]
      refine wpAny_ready (rs := [10]) (by kernel_rfl) (by simp) ?_
      refine AllReady.cons (o := _) rfl (fun K0 hK0 => ?_) AllReady.nil
      obtain ⟨s_VP, f_VP, z_VP⟩ := VP.open
      go_simp
      refine hK0 _ _ ?_
      clear hK0 K0 s_VP f_VP z_VP
      refine wpAny_done (by kernel_rfl) ?_ _
      have VP5 := VP.set (i := 0) (by simp) (.slice c4 (n + 1) d4)
      simp only [List.set_cons_zero] at VP5
      have O5 := O4.away (p := ⟨p, 0, none⟩) hcp4.out (.slice c4 (n + 1) d4)
      have VX5 := VX.other (p := ⟨p, 0, none⟩) (by simp only; exact hpx) (.slice c4 (n + 1) d4)
      have TM5 := TMM.other (p := ⟨p, 0, none⟩) (by simp only; exact hne.symm) (.slice c4 (n + 1) d4)
      have S5 := S.trans (Sm.cell (p := ⟨p, 0, none⟩) (.inl rfl) (.slice c4 (n + 1) d4))
      generalize w4.setCell ⟨p, 0, none⟩ (.slice c4 (n + 1) d4) = w5 at *
      clear VP O4 VX TMM S
      replace O5 := Hid.mk O5
      replace S5 := Hid.mk S5
      obtain ⟨s_VP, f_VP, z_VP⟩ := VP5.open
      obtain ⟨s_VX, f_VX, z_VX⟩ := VX5.open
      go_upto_region 3 with fail
      clear s_VP f_VP z_VP s_VX f_VX z_VX
      refine wp_region_any (by kernel_rfl) ?_
      change wpAny _ _ _ _ _ _ _ w5.drew
      have bd : Below w5.heap.size w5 w5.drew := (Below.refl _ _).drew
      replace VP5 := VP5.kept bd
      replace VX5 := VX5.kept bd
      replace TM5 := TM5.kept bd
      replace O5 := Hid.mk (O5.out.kept bd)
      replace S5 := Hid.mk (S5.out.trans (Sm.below bd))
      clear bd
      generalize w5.drew = we at *
      refine wpAny_take (i := 0) (oi := _) (v := ?vtt13) rfl (by kernel_rfl) (by kernel_rfl) (by kernel_rfl) (fun _ _ _ h => h) (Or.inl ⟨by rfl, ?hytt13⟩) ?resttt13
      case hytt13 => (intro w; go_simp; first | done | with_reducible rfl)
      try simp only [Act.put, List.getElem_toArray, List.getElem_cons_zero, List.setIfInBounds_toArray, List.set_cons_zero, List.set_cons_succ]
      refine wpAny_take (i := 1) (oi := _) (v := ?vtt14) rfl (by kernel_rfl) (by kernel_rfl) (by kernel_rfl) (fun _ _ _ h => h) (Or.inl ⟨by rfl, ?hytt14⟩) ?resttt14
      case hytt14 => (intro w; go_simp; first | done | with_reducible rfl)
      try simp only [Act.put, List.getElem_toArray, List.getElem_cons_zero, List.getElem_cons_succ, List.setIfInBounds_toArray, List.set_cons_zero, List.set_cons_succ]
      refine wpAny_take (i := 2) (oi := _) (v := ?vtt15) rfl (by kernel_rfl) (by kernel_rfl) (by kernel_rfl) (fun _ _ _ h => h) (Or.inl ⟨by rfl, ?hytt15⟩) ?resttt15
      case hytt15 => (intro w; go_simp; first | done | with_reducible rfl)
      try simp only [Act.put, List.getElem_toArray, List.getElem_cons_zero, List.getElem_cons_succ, List.setIfInBounds_toArray, List.set_cons_zero, List.set_cons_succ]
      refine wpAny_take (i := 5) (oi := _) (v := ?vtt16) rfl (by kernel_rfl) (by kernel_rfl) (by kernel_rfl) (fun _ _ _ h => h) (Or.inl ⟨by rfl, ?hytt16⟩) ?resttt16
      case hytt16 => (intro w; go_simp; first | done | with_reducible rfl)
      try simp only [Act.put, List.getElem_toArray, List.getElem_cons_zero, List.getElem_cons_succ, List.setIfInBounds_toArray, List.set_cons_zero, List.set_cons_succ]
      refine wpAny_ready (rs := [3, 4]) (by kernel_rfl) (by simp) ?_
      refine AllReady.cons (o := _) rfl (fun K0 hK0 => ?_) (AllReady.cons (o := _) rfl (fun K0 hK0 => ?_) AllReady.nil)
      · skip
        obtain ⟨s_VP, f_VP, z_VP⟩ := VP5.open
        go_simp
        refine hK0 _ _ ?_
        clear hK0 K0 s_VP f_VP z_VP
        try simp only [Act.put, List.getElem_toArray, List.getElem_cons_zero, List.getElem_cons_succ, List.setIfInBounds_toArray, List.set_cons_zero, List.set_cons_succ]
        refine wpAny_ready (rs := [4]) (by kernel_rfl) (by simp) ?_
        refine AllReady.cons (o := _) rfl (fun K0 hK0 => ?_) AllReady.nil
        obtain ⟨s_VX, f_VX, z_VX⟩ := VX5.open
        go_simp
        refine hK0 _ _ ?_
        clear hK0 K0 s_VX f_VX z_VX
        try simp only [Act.put, List.getElem_toArray, List.getElem_cons_zero, List.getElem_cons_succ, List.setIfInBounds_toArray, List.set_cons_zero, List.set_cons_succ]
        refine wpAny_ready (rs := [6]) (by kernel_rfl) (by simp) ?_
        refine AllReady.cons (o := _) rfl (fun K0 hK0 => ?_) AllReady.nil
        rw [if_pos (by rfl)]
        refine wp_TMstore _ _ _ _ rfl g (tmM xs) n TM5 t ht n (okI_of (by omega) (by omega)) hM.out (by omega) rfl rfl rfl ?_
        intro w6 TM6 hturn
        refine hK0 _ _ ?_
        clear hK0 K0
        refine wpAny_done (by kernel_rfl) ?_ _
        have S6 := Hid.mk (S5.out.trans (Sm.turn hturn (.inr (.inl rfl))))
        have sg := hturn.grown
        have VP6 := Hid.mk (VP5.grownR sg (fun e => hne (by simpa using e.symm)))
        have O6 := Hid.mk (O5.out.grown sg (fun b hb e => hcg4.out b hb (by simpa using e.symm)))
        have TM7 := Hid.mk TM6
        clear TM6 hturn sg VP5 VX5 TM5 O5 S5
        go_wp2
        go_ret
        refine ⟨c4, d4, rfl, ⟨?_, O6.out, ?_, hbp, hbg, hne, hcp4.out, hcg4.out⟩, S6.out, ?_⟩
        · have := VP6.out; rw [show (xs ++ [t]).length = n + 1 by rw [List.length_append, HN.out]; rfl]; exact this
        · have := TM7.out; rw [← HN.out, tmM_snoc hn] at this; rw [show (xs ++ [t]).length = xs.length + 1 by simp]; exact this
        · intro k hk hlt
          rcases hk with h | h | ⟨b, hb, rfl⟩
          · exact .inl h
          · exact .inr (.inl h)
          · rcases hc4.out b hb with ⟨a, ha, e⟩ | h
            · exact .inr (.inr ⟨a, ha, e.symm⟩)
            · omega
      · skip
        obtain ⟨s_VX, f_VX, z_VX⟩ := VX5.open
        go_simp
        refine hK0 _ _ ?_
        clear hK0 K0 s_VX f_VX z_VX
        try simp only [Act.put, List.getElem_toArray, List.getElem_cons_zero, List.getElem_cons_succ, List.setIfInBounds_toArray, List.set_cons_zero, List.set_cons_succ]
        refine wpAny_ready (rs := [3]) (by kernel_rfl) (by simp) ?_
        refine AllReady.cons (o := _) rfl (fun K0 hK0 => ?_) AllReady.nil
        obtain ⟨s_VP, f_VP, z_VP⟩ := VP5.open
        go_simp
        refine hK0 _ _ ?_
        clear hK0 K0 s_VP f_VP z_VP
        try simp only [Act.put, List.getElem_toArray, List.getElem_cons_zero, List.getElem_cons_succ, List.setIfInBounds_toArray, List.set_cons_zero, List.set_cons_succ]
        refine wpAny_ready (rs := [6]) (by kernel_rfl) (by simp) ?_
        refine AllReady.cons (o := _) rfl (fun K0 hK0 => ?_) AllReady.nil
        rw [if_pos (by rfl)]
        refine wp_TMstore _ _ _ _ rfl g (tmM xs) n TM5 t ht n (okI_of (by omega) (by omega)) hM.out (by omega) rfl rfl rfl ?_
        intro w6 TM6 hturn
        refine hK0 _ _ ?_
        clear hK0 K0
        refine wpAny_done (by kernel_rfl) ?_ _
        have S6 := Hid.mk (S5.out.trans (Sm.turn hturn (.inr (.inl rfl))))
        have sg := hturn.grown
        have VP6 := Hid.mk (VP5.grownR sg (fun e => hne (by simpa using e.symm)))
        have O6 := Hid.mk (O5.out.grown sg (fun b hb e => hcg4.out b hb (by simpa using e.symm)))
        have TM7 := Hid.mk TM6
        clear TM6 hturn sg VP5 VX5 TM5 O5 S5
        go_wp2
        go_ret
        refine ⟨c4, d4, rfl, ⟨?_, O6.out, ?_, hbp, hbg, hne, hcp4.out, hcg4.out⟩, S6.out, ?_⟩
        · have := VP6.out; rw [show (xs ++ [t]).length = n + 1 by rw [List.length_append, HN.out]; rfl]; exact this
        · have := TM7.out; rw [← HN.out, tmM_snoc hn] at this; rw [show (xs ++ [t]).length = xs.length + 1 by simp]; exact this
        · intro k hk hlt
          rcases hk with h | h | ⟨b, hb, rfl⟩
          · exact .inl h
          · exact .inr (.inl h)
          · rcases hc4.out b hb with ⟨a, ha, e⟩ | h
            · exact .inr (.inr ⟨a, ha, e.symm⟩)
            · omega
    · skip
      go_simp
      refine hK0 _ _ ?_
      clear hK0 K0
      try simp only [Act.put, List.getElem_toArray, List.getElem_cons_zero, List.getElem_cons_succ, List.setIfInBounds_toArray, List.set_cons_zero, List.set_cons_succ]
      have bq := belowA wd (.cells #[.int .i64 t.o, .int .i64 t.a, .int .i64 t.b, .int .i64 t.n] 70)
      have HNC := newCells wd 70 (rowTerm t)
      replace VP := VP.kept bq
      replace VX := VX.kept bq
      replace O := O.kept bq
      replace TMM := TMM.kept bq
      replace S := S.trans (Sm.below bq)
      have hb3 : base ≤ (wd.alloc (.cells #[.int .i64 t.o, .int .i64 t.a, .int .i64 t.b, .int .i64 t.n] 70)).heap.size := Nat.le_trans hbase2 bq.size
      clear bq hbase2
      change ∀ j u, (rowTerm t)[j]? = some u → (wd.alloc (.cells #[.int .i64 t.o, .int .i64 t.a, .int .i64 t.b, .int .i64 t.n] 70)).cell? ((⟨wd.heap.size, 0, none⟩ : Addr).add j) = some u at HNC
      generalize wd.alloc (.cells #[.int .i64 t.o, .int .i64 t.a, .int .i64 t.b, .int .i64 t.n] 70) = wq at *
      have hbase2 := hb3
      clear hb3
      replace HNC := Hid.mk HNC
      refine wpAny_ready (rs := [4]) (by kernel_rfl) (by simp) ?_
      refine AllReady.cons (o := _) rfl (fun K0 hK0 => ?_) AllReady.nil
      obtain ⟨s_VP, f_VP, z_VP⟩ := VP.open
      go_simp
      refine hK0 _ _ ?_
      clear hK0 K0 s_VP f_VP z_VP
      try simp only [Act.put, List.getElem_toArray, List.getElem_cons_zero, List.getElem_cons_succ, List.setIfInBounds_toArray, List.set_cons_zero, List.set_cons_succ]
      refine wpAny_ready (rs := [7]) (by kernel_rfl) (by simp) ?_
      refine AllReady.cons (o := _) rfl (fun K0 hK0 => ?_) AllReady.nil
      rw [if_pos (by rfl)]
      have OLT := Hid.mk O.lt
      have VXS := Hid.mk VX.1
      refine wp_putTerm _ _ _ rfl base c d xs n HN.out rfl O (⟨wd.heap.size, 0, none⟩) 1 t rfl HNC.out (by omega) hbase2 ?_
      intro c4 d4 w4 O4 hg4 hx4
      replace VP := VP.grownR hg4 (row_ne hcp.out)
      replace VX := VX.grownR hg4 (row_ne hcx.out)
      replace TMM := TMM.grown hg4 (fun e => row_ne hcg.out e.symm)
      replace S := S.trans (Sm.grown hg4 (fun k hk => bkx_row hk))
      have hc4 := Hid.mk (row_from (by obtain ⟨g', h0, h1, _⟩ := hx4.out; exact ⟨g', h0, h1, VXS.out⟩))
      have hcp4 := Hid.mk (row_off hc4.out hcp.out (HX.out p (.inl rfl)))
      have hcg4 := Hid.mk (row_off hc4.out hcg.out (HX.out g (.inr (.inl rfl))))
      refine hK0 _ _ ?_
      clear hK0 K0 O hg4 hx4 OLT HNC hbase2
      try simp only [Act.put, List.getElem_toArray, List.getElem_cons_zero, List.getElem_cons_succ, List.setIfInBounds_toArray, List.set_cons_zero, List.set_cons_succ]
      refine wpAny_take (i := 8) (oi := _) (v := ?vtt17) rfl (by kernel_rfl) (by kernel_rfl) (by kernel_rfl) (fun _ _ _ h => h) (Or.inl ⟨by rfl, ?hytt17⟩) ?resttt17
      case hytt17 => (intro w; go_simp; first | done | with_reducible rfl)
      try simp only [Act.put, List.getElem_toArray, List.getElem_cons_zero, List.getElem_cons_succ, List.setIfInBounds_toArray, List.set_cons_zero, List.set_cons_succ]
      refine wpAny_take (i := 9) (oi := _) (v := ?vtt18) rfl (by kernel_rfl) (by kernel_rfl) (by kernel_rfl) (fun _ _ _ h => h) (Or.inl ⟨by rfl, ?hytt18⟩) ?resttt18
      case hytt18 => (intro w; go_simp; first | done | with_reducible rfl)
      try simp only [Act.put, List.getElem_toArray, List.getElem_cons_zero, List.getElem_cons_succ, List.setIfInBounds_toArray, List.set_cons_zero, List.set_cons_succ]
      refine wpAny_ready (rs := [10]) (by kernel_rfl) (by simp) ?_
      refine AllReady.cons (o := _) rfl (fun K0 hK0 => ?_) AllReady.nil
      obtain ⟨s_VP, f_VP, z_VP⟩ := VP.open
      go_simp
      refine hK0 _ _ ?_
      clear hK0 K0 s_VP f_VP z_VP
      refine wpAny_done (by kernel_rfl) ?_ _
      have VP5 := VP.set (i := 0) (by simp) (.slice c4 (n + 1) d4)
      simp only [List.set_cons_zero] at VP5
      have O5 := O4.away (p := ⟨p, 0, none⟩) hcp4.out (.slice c4 (n + 1) d4)
      have VX5 := VX.other (p := ⟨p, 0, none⟩) (by simp only; exact hpx) (.slice c4 (n + 1) d4)
      have TM5 := TMM.other (p := ⟨p, 0, none⟩) (by simp only; exact hne.symm) (.slice c4 (n + 1) d4)
      have S5 := S.trans (Sm.cell (p := ⟨p, 0, none⟩) (.inl rfl) (.slice c4 (n + 1) d4))
      generalize w4.setCell ⟨p, 0, none⟩ (.slice c4 (n + 1) d4) = w5 at *
      clear VP O4 VX TMM S
      replace O5 := Hid.mk O5
      replace S5 := Hid.mk S5
      obtain ⟨s_VP, f_VP, z_VP⟩ := VP5.open
      obtain ⟨s_VX, f_VX, z_VX⟩ := VX5.open
      go_upto_region 3 with fail
      clear s_VP f_VP z_VP s_VX f_VX z_VX
      refine wp_region_any (by kernel_rfl) ?_
      change wpAny _ _ _ _ _ _ _ w5.drew
      have bd : Below w5.heap.size w5 w5.drew := (Below.refl _ _).drew
      replace VP5 := VP5.kept bd
      replace VX5 := VX5.kept bd
      replace TM5 := TM5.kept bd
      replace O5 := Hid.mk (O5.out.kept bd)
      replace S5 := Hid.mk (S5.out.trans (Sm.below bd))
      clear bd
      generalize w5.drew = we at *
      refine wpAny_take (i := 0) (oi := _) (v := ?vtt19) rfl (by kernel_rfl) (by kernel_rfl) (by kernel_rfl) (fun _ _ _ h => h) (Or.inl ⟨by rfl, ?hytt19⟩) ?resttt19
      case hytt19 => (intro w; go_simp; first | done | with_reducible rfl)
      try simp only [Act.put, List.getElem_toArray, List.getElem_cons_zero, List.setIfInBounds_toArray, List.set_cons_zero, List.set_cons_succ]
      refine wpAny_take (i := 1) (oi := _) (v := ?vtt20) rfl (by kernel_rfl) (by kernel_rfl) (by kernel_rfl) (fun _ _ _ h => h) (Or.inl ⟨by rfl, ?hytt20⟩) ?resttt20
      case hytt20 => (intro w; go_simp; first | done | with_reducible rfl)
      try simp only [Act.put, List.getElem_toArray, List.getElem_cons_zero, List.getElem_cons_succ, List.setIfInBounds_toArray, List.set_cons_zero, List.set_cons_succ]
      refine wpAny_take (i := 2) (oi := _) (v := ?vtt21) rfl (by kernel_rfl) (by kernel_rfl) (by kernel_rfl) (fun _ _ _ h => h) (Or.inl ⟨by rfl, ?hytt21⟩) ?resttt21
      case hytt21 => (intro w; go_simp; first | done | with_reducible rfl)
      try simp only [Act.put, List.getElem_toArray, List.getElem_cons_zero, List.getElem_cons_succ, List.setIfInBounds_toArray, List.set_cons_zero, List.set_cons_succ]
      refine wpAny_take (i := 5) (oi := _) (v := ?vtt22) rfl (by kernel_rfl) (by kernel_rfl) (by kernel_rfl) (fun _ _ _ h => h) (Or.inl ⟨by rfl, ?hytt22⟩) ?resttt22
      case hytt22 => (intro w; go_simp; first | done | with_reducible rfl)
      try simp only [Act.put, List.getElem_toArray, List.getElem_cons_zero, List.getElem_cons_succ, List.setIfInBounds_toArray, List.set_cons_zero, List.set_cons_succ]
      refine wpAny_ready (rs := [3, 4]) (by kernel_rfl) (by simp) ?_
      refine AllReady.cons (o := _) rfl (fun K0 hK0 => ?_) (AllReady.cons (o := _) rfl (fun K0 hK0 => ?_) AllReady.nil)
      · skip
        obtain ⟨s_VP, f_VP, z_VP⟩ := VP5.open
        go_simp
        refine hK0 _ _ ?_
        clear hK0 K0 s_VP f_VP z_VP
        try simp only [Act.put, List.getElem_toArray, List.getElem_cons_zero, List.getElem_cons_succ, List.setIfInBounds_toArray, List.set_cons_zero, List.set_cons_succ]
        refine wpAny_ready (rs := [4]) (by kernel_rfl) (by simp) ?_
        refine AllReady.cons (o := _) rfl (fun K0 hK0 => ?_) AllReady.nil
        obtain ⟨s_VX, f_VX, z_VX⟩ := VX5.open
        go_simp
        refine hK0 _ _ ?_
        clear hK0 K0 s_VX f_VX z_VX
        try simp only [Act.put, List.getElem_toArray, List.getElem_cons_zero, List.getElem_cons_succ, List.setIfInBounds_toArray, List.set_cons_zero, List.set_cons_succ]
        refine wpAny_ready (rs := [6]) (by kernel_rfl) (by simp) ?_
        refine AllReady.cons (o := _) rfl (fun K0 hK0 => ?_) AllReady.nil
        rw [if_pos (by rfl)]
        refine wp_TMstore _ _ _ _ rfl g (tmM xs) n TM5 t ht n (okI_of (by omega) (by omega)) hM.out (by omega) rfl rfl rfl ?_
        intro w6 TM6 hturn
        refine hK0 _ _ ?_
        clear hK0 K0
        refine wpAny_done (by kernel_rfl) ?_ _
        have S6 := Hid.mk (S5.out.trans (Sm.turn hturn (.inr (.inl rfl))))
        have sg := hturn.grown
        have VP6 := Hid.mk (VP5.grownR sg (fun e => hne (by simpa using e.symm)))
        have O6 := Hid.mk (O5.out.grown sg (fun b hb e => hcg4.out b hb (by simpa using e.symm)))
        have TM7 := Hid.mk TM6
        clear TM6 hturn sg VP5 VX5 TM5 O5 S5
        go_wp2
        go_ret
        refine ⟨c4, d4, rfl, ⟨?_, O6.out, ?_, hbp, hbg, hne, hcp4.out, hcg4.out⟩, S6.out, ?_⟩
        · have := VP6.out; rw [show (xs ++ [t]).length = n + 1 by rw [List.length_append, HN.out]; rfl]; exact this
        · have := TM7.out; rw [← HN.out, tmM_snoc hn] at this; rw [show (xs ++ [t]).length = xs.length + 1 by simp]; exact this
        · intro k hk hlt
          rcases hk with h | h | ⟨b, hb, rfl⟩
          · exact .inl h
          · exact .inr (.inl h)
          · rcases hc4.out b hb with ⟨a, ha, e⟩ | h
            · exact .inr (.inr ⟨a, ha, e.symm⟩)
            · omega
      · skip
        obtain ⟨s_VX, f_VX, z_VX⟩ := VX5.open
        go_simp
        refine hK0 _ _ ?_
        clear hK0 K0 s_VX f_VX z_VX
        try simp only [Act.put, List.getElem_toArray, List.getElem_cons_zero, List.getElem_cons_succ, List.setIfInBounds_toArray, List.set_cons_zero, List.set_cons_succ]
        refine wpAny_ready (rs := [3]) (by kernel_rfl) (by simp) ?_
        refine AllReady.cons (o := _) rfl (fun K0 hK0 => ?_) AllReady.nil
        obtain ⟨s_VP, f_VP, z_VP⟩ := VP5.open
        go_simp
        refine hK0 _ _ ?_
        clear hK0 K0 s_VP f_VP z_VP
        try simp only [Act.put, List.getElem_toArray, List.getElem_cons_zero, List.getElem_cons_succ, List.setIfInBounds_toArray, List.set_cons_zero, List.set_cons_succ]
        refine wpAny_ready (rs := [6]) (by kernel_rfl) (by simp) ?_
        refine AllReady.cons (o := _) rfl (fun K0 hK0 => ?_) AllReady.nil
        rw [if_pos (by rfl)]
        refine wp_TMstore _ _ _ _ rfl g (tmM xs) n TM5 t ht n (okI_of (by omega) (by omega)) hM.out (by omega) rfl rfl rfl ?_
        intro w6 TM6 hturn
        refine hK0 _ _ ?_
        clear hK0 K0
        refine wpAny_done (by kernel_rfl) ?_ _
        have S6 := Hid.mk (S5.out.trans (Sm.turn hturn (.inr (.inl rfl))))
        have sg := hturn.grown
        have VP6 := Hid.mk (VP5.grownR sg (fun e => hne (by simpa using e.symm)))
        have O6 := Hid.mk (O5.out.grown sg (fun b hb e => hcg4.out b hb (by simpa using e.symm)))
        have TM7 := Hid.mk TM6
        clear TM6 hturn sg VP5 VX5 TM5 O5 S5
        go_wp2
        go_ret
        refine ⟨c4, d4, rfl, ⟨?_, O6.out, ?_, hbp, hbg, hne, hcp4.out, hcg4.out⟩, S6.out, ?_⟩
        · have := VP6.out; rw [show (xs ++ [t]).length = n + 1 by rw [List.length_append, HN.out]; rfl]; exact this
        · have := TM7.out; rw [← HN.out, tmM_snoc hn] at this; rw [show (xs ++ [t]).length = xs.length + 1 by simp]; exact this
        · intro k hk hlt
          rcases hk with h | h | ⟨b, hb, rfl⟩
          · exact .inl h
          · exact .inr (.inl h)
          · rcases hc4.out b hb with ⟨a, ha, e⟩ | h
            · exact .inr (.inr ⟨a, ha, e.symm⟩)
            · omega

end Go.Proofs.YtfldgeokigcokaaGreat

/- A book of terms: one is put. -/
namespace Go.Proofs.YtfldgeokigcokaaGreat
open Go.RowKit

theorem build_irc (k : Int) (w : World) : (Instr.build 37 #[(0, .int .i64 k)]).run Tryz.prog w = .ok (.agg #[.int .i64 k, .int .i64 0]) w := run_build w 37 _ _ (by kernel_rfl)

theorem build_irv (k : Int) (w : World) : (Instr.build 37 #[(1, .int .i64 k)]).run Tryz.prog w = .ok (.agg #[.int .i64 0, .int .i64 k]) w := run_build w 37 _ _ (by kernel_rfl)

/-- What a table is behind a put. -/
@[irreducible] def putL (xs : List T4) (t : T4) : List T4 := if (put xs t).c = 0 then (put xs t).l else xs

set_option maxRecDepth 20000 in
set_option maxHeartbeats 8000000 in
theorem put_ok (base p g : Nat) (c : Option Addr) (d : Nat) (xs : List T4) (t : T4) (w : World) (H : Bk w base p g c d xs) (ht : okT t) (hl : xs.length ≤ 400) :
    Calls Tryz.prog 68 #[.pointer (some ⟨p, 0, none⟩), .agg #[.int .i64 t.o, .int .i64 t.a, .int .i64 t.b, .int .i64 t.n]] w fun e w' => ∃ c' d', e = .returned (.agg #[.int .i64 (put xs t).c, .int .i64 (put xs t).k]) ∧ Bk w' base p g c' d' (putL xs t) ∧ Sm (BkX p g c) w w' ∧ ∀ k, BkX p g c' k → k < w.heap.size → BkX p g c k := by
  have q1 := build_irc
  have q2 := build_irv
  obtain ⟨n, hnn⟩ : ∃ n, xs.length = n := ⟨_, rfl⟩
  have CF := Hid.mk (fun w h => termFault_ok c n d xs t w h hnn (by unfold maxLen; omega))
  have HX : Hid (∀ k, BkX p g c k → k < w.heap.size) := Hid.mk fun k hk => (H.lt k hk).2
  have hM1 : t ∈ xs → tmM xs t = some ((tmIdx xs t : Nat) : Int) := fun h => by unfold tmM; rw [if_pos h]
  have hM0 : t ∉ xs → tmM xs t = none := fun h => by unfold tmM; rw [if_neg h]
  have VP := H.v
  rw [hnn] at VP hl
  have HW := put_ways xs t
  rw [hnn] at HW
  replace hnn := Hid.mk hnn
  rcases HW with ⟨h1, hr⟩ | ⟨h1, h2, hr⟩ | ⟨h1, h2, h3, hr⟩ | ⟨h1, h2, h3, hr⟩
  · have HE := Hid.mk (show tmC xs t ≠ 0 from h1)
    have h2 : (tmC xs t != 0) = true := by simp [h1]
    have PE : Hid (put xs t = ⟨tmC xs t, 0, []⟩) := Hid.mk hr
    have PL : Hid (putL xs t = xs) := Hid.mk (by unfold putL; rw [hr, if_neg h1])
    clear hr h1
    generalize tmC xs t = kk at *
    go_enter Tryz.func68, Tryz.ntmps68
    have S := Sm.refl (BkX p g c) w
    replace VP := VP.kept (belowA w (.cells #[.int .i64 t.o, .int .i64 t.a, .int .i64 t.b, .int .i64 t.n] 70))
    replace H := H.kept (belowA w (.cells #[.int .i64 t.o, .int .i64 t.a, .int .i64 t.b, .int .i64 t.n] 70))
    replace S := S.trans (Sm.below (belowA w (.cells #[.int .i64 t.o, .int .i64 t.a, .int .i64 t.b, .int .i64 t.n] 70)))
    have VX := V.new w [.int .i64 t.o, .int .i64 t.a, .int .i64 t.b, .int .i64 t.n] 70
    replace VP := VP.kept (belowA (w.alloc (.cells #[.int .i64 t.o, .int .i64 t.a, .int .i64 t.b, .int .i64 t.n] 70)) (.cells #[.int .i64 0, .int .i64 0] 37))
    replace VX := VX.kept (belowA (w.alloc (.cells #[.int .i64 t.o, .int .i64 t.a, .int .i64 t.b, .int .i64 t.n] 70)) (.cells #[.int .i64 0, .int .i64 0] 37))
    replace H := H.kept (belowA (w.alloc (.cells #[.int .i64 t.o, .int .i64 t.a, .int .i64 t.b, .int .i64 t.n] 70)) (.cells #[.int .i64 0, .int .i64 0] 37))
    replace S := S.trans (Sm.below (belowA (w.alloc (.cells #[.int .i64 t.o, .int .i64 t.a, .int .i64 t.b, .int .i64 t.n] 70)) (.cells #[.int .i64 0, .int .i64 0] 37)))
    have VR : V ((w.alloc (.cells #[.int .i64 t.o, .int .i64 t.a, .int .i64 t.b, .int .i64 t.n] 70)).alloc (.cells #[.int .i64 0, .int .i64 0] 37)) (w.heap.size + 1) [.int .i64 0, .int .i64 0] := V.newAt _ _ _ _ (by simp)
    obtain ⟨s_VP, f_VP, z_VP⟩ := VP.open
    obtain ⟨s_VX, f_VX, z_VX⟩ := VX.open
    obtain ⟨s_VR, f_VR, z_VR⟩ := VR.open
    clear s_VP f_VP z_VP s_VX f_VX z_VX s_VR f_VR z_VR
    have K : ∀ w' : World, Below ((w.alloc (.cells #[.int .i64 t.o, .int .i64 t.a, .int .i64 t.b, .int .i64 t.n] 70)).alloc (.cells #[.int .i64 0, .int .i64 0] 37)).heap.size ((w.alloc (.cells #[.int .i64 t.o, .int .i64 t.a, .int .i64 t.b, .int .i64 t.n] 70)).alloc (.cells #[.int .i64 0, .int .i64 0] 37)) w' → (w'.cell? ⟨w.heap.size, 0, none⟩ = some (.int .i64 t.o) ∧ w'.cell? ⟨w.heap.size, 1, none⟩ = some (.int .i64 t.a) ∧ w'.cell? ⟨w.heap.size, 2, none⟩ = some (.int .i64 t.b) ∧ w'.cell? ⟨w.heap.size, 3, none⟩ = some (.int .i64 t.n) ∧ w'.cell? ⟨p, 0, none⟩ = some (.slice c n d) ∧ w'.cell? ⟨p, 1, none⟩ = some (.map (some g))) := fun w' h => ⟨(VX.kept h).2.1 0 (by simp), (VX.kept h).2.1 1 (by simp), (VX.kept h).2.1 2 (by simp), (VX.kept h).2.1 3 (by simp), (VP.kept h).2.1 0 (by simp), (VP.kept h).2.1 1 (by simp)⟩
    have K := Hid.mk K
    go_wp2_with fail
    refine wp_region_held_drew (S := (fun w' => w'.cell? ⟨w.heap.size, 0, none⟩ = some (.int .i64 t.o) ∧ w'.cell? ⟨w.heap.size, 1, none⟩ = some (.int .i64 t.a) ∧ w'.cell? ⟨w.heap.size, 2, none⟩ = some (.int .i64 t.b) ∧ w'.cell? ⟨w.heap.size, 3, none⟩ = some (.int .i64 t.n) ∧ w'.cell? ⟨p, 0, none⟩ = some (.slice c n d) ∧ w'.cell? ⟨p, 1, none⟩ = some (.map (some g)))) (by kernel_rfl) (K.out _ (Below.refl _ _).drew) (fun hHeld => ?_)
    refine wpAnyH_take (i := 0) (oi := _) (v := ?vz1u1) rfl (by kernel_rfl) (by kernel_rfl) (by kernel_rfl) (fun _ _ _ h => h) (Or.inl ⟨by rfl, ?hyz1u1⟩) hHeld ?restz1u1
    case hyz1u1 => (intro w hSw; (try dsimp only at hSw); go_simp; first | done | with_reducible rfl)
    try simp only [Act.put, List.getElem_toArray, List.getElem_cons_zero, List.setIfInBounds_toArray, List.set_cons_zero, List.set_cons_succ]
    refine wpAnyH_take (i := 1) (oi := _) (v := ?vz1u2) rfl (by kernel_rfl) (by kernel_rfl) (by kernel_rfl) (fun _ _ _ h => h) (Or.inl ⟨by rfl, ?hyz1u2⟩) hHeld ?restz1u2
    case hyz1u2 => (intro w hSw; (try dsimp only at hSw); go_simp; first | done | with_reducible rfl)
    try simp only [Act.put, List.getElem_toArray, List.getElem_cons_zero, List.getElem_cons_succ, List.setIfInBounds_toArray, List.set_cons_zero, List.set_cons_succ]
    refine wpAnyH_take (i := 2) (oi := _) (v := ?vz1u3) rfl (by kernel_rfl) (by kernel_rfl) (by kernel_rfl) (fun _ _ _ h => h) (Or.inl ⟨by rfl, ?hyz1u3⟩) hHeld ?restz1u3
    case hyz1u3 => (intro w hSw; (try dsimp only at hSw); go_simp; first | done | with_reducible rfl)
    try simp only [Act.put, List.getElem_toArray, List.getElem_cons_zero, List.getElem_cons_succ, List.setIfInBounds_toArray, List.set_cons_zero, List.set_cons_succ]
    refine wpAnyH_take (i := 3) (oi := _) (v := ?vz1u4) rfl (by kernel_rfl) (by kernel_rfl) (by kernel_rfl) (fun _ _ _ h => h) (Or.inl ⟨by rfl, ?hyz1u4⟩) hHeld ?restz1u4
    case hyz1u4 => (intro w hSw; (try dsimp only at hSw); go_simp; first | done | with_reducible rfl)
    try simp only [Act.put, List.getElem_toArray, List.getElem_cons_zero, List.getElem_cons_succ, List.setIfInBounds_toArray, List.set_cons_zero, List.set_cons_succ]
    refine wpAnyH_take (i := 4) (oi := _) (v := ?vz1u5) rfl (by kernel_rfl) (by kernel_rfl) (by kernel_rfl) (fun _ _ _ h => h) (Or.inl ⟨by rfl, ?hyz1u5⟩) hHeld ?restz1u5
    case hyz1u5 => (intro w hSw; (try dsimp only at hSw); go_simp; first | done | with_reducible rfl)
    try simp only [Act.put, List.getElem_toArray, List.getElem_cons_zero, List.getElem_cons_succ, List.setIfInBounds_toArray, List.set_cons_zero, List.set_cons_succ]
    refine wpAnyH_ready (rs := [5]) (by kernel_rfl) (by simp) ?_
    refine AllReadyH.cons (o := _) rfl (fun K0 hK0 => ?_) AllReadyH.nil
    go_simp
    go_at_call 64
    refine (CF.out _ (H.o.rd.kept (Below.refl _ _).drew)).mono ?_
    rintro e wz1v6 ⟨rfl, bz1v6⟩
    refine hK0.out _ _ (K.out _ (thenB (Below.refl _ _).drew bz1v6)) (fun hHeld => ?_)
    clear hK0 K0
    try simp only [Act.put, List.getElem_toArray, List.getElem_cons_zero, List.getElem_cons_succ, List.setIfInBounds_toArray, List.set_cons_zero, List.set_cons_succ]
    refine wpAnyH_take (i := 6) (oi := _) (v := ?vz1u7) rfl (by kernel_rfl) (by kernel_rfl) (by kernel_rfl) (fun _ _ _ h => h) (Or.inl ⟨by rfl, ?hyz1u7⟩) hHeld ?restz1u7
    case hyz1u7 => (intro w hSw; (try dsimp only at hSw); go_simp; first | done | with_reducible rfl)
    try simp only [Act.put, List.getElem_toArray, List.getElem_cons_zero, List.getElem_cons_succ, List.setIfInBounds_toArray, List.set_cons_zero, List.set_cons_succ]
    refine wpAnyH_done (by kernel_rfl) ?_ _
    clear K hHeld
    replace VP := VP.kept (thenB (Below.refl _ _).drew bz1v6)
    replace VX := VX.kept (thenB (Below.refl _ _).drew bz1v6)
    replace VR := VR.kept (thenB (Below.refl _ _).drew bz1v6)
    replace H := H.kept (thenB (Below.refl _ _).drew bz1v6)
    replace S := S.trans (Sm.below (thenB (Below.refl _ _).drew bz1v6))
    have Sz1 := ((thenB (Below.refl _ _).drew bz1v6)).size
    simp only [World.size_alloc] at Sz1
    clear bz1v6
    obtain ⟨s_VP, f_VP, z_VP⟩ := VP.open
    obtain ⟨s_VX, f_VX, z_VX⟩ := VX.open
    obtain ⟨s_VR, f_VR, z_VR⟩ := VR.open
    clear s_VP f_VP z_VP s_VX f_VX z_VX s_VR f_VR z_VR
    have VF := Hid.mk (VR.filled [.int .i64 kk, .int .i64 0] rfl)
    have HT := Hid.mk VR.there
    have SR := Hid.mk (Sm.newCells S (show w.heap.size ≤ w.heap.size + 1 by (first | omega | (simp; done) | (simp; omega))) 0 [.int .i64 kk, .int .i64 0])
    have HH := Hid.mk (H.apart (B := w.heap.size + 1) (by intro k hk; have := HX.out k hk; omega) 0 [.int .i64 kk, .int .i64 0])
    obtain ⟨s_VP, f_VP, z_VP⟩ := VP.open
    obtain ⟨s_VX, f_VX, z_VX⟩ := VX.open
    obtain ⟨s_VR, f_VR, z_VR⟩ := VR.open
    go_wp2_with (refine wpList_store_mid rfl 37 _ _ rfl (w.heap.size + 1) 0 #[.int .i64 kk, .int .i64 0] rfl rfl HT.out (by kernel_rfl) (by kernel_rfl) ?_)
    refine bodyPost_ret (v := .agg #[.int .i64 kk, .int .i64 0]) (results_row Tryz.results68 _ _ (w.heap.size + 1) [.int .i64 kk, .int .i64 0] _ rfl VF.out Tryz.underlying37 rfl (by kernel_rfl)) rfl ⟨c, d, by rw [PE.out], by rw [PL.out]; exact HH.out, SR.out, fun _ h _ => h⟩
  · have HM := hM1 h2
    have PE : Hid (put xs t = ⟨0, (tmIdx xs t : Nat), xs⟩) := Hid.mk hr
    have PL : Hid (putL xs t = xs) := Hid.mk (by unfold putL; rw [hr]; rfl)
    rw [h1] at CF
    clear hr h1 h2
    generalize tmIdx xs t = ix at *
    go_enter Tryz.func68, Tryz.ntmps68
    have S := Sm.refl (BkX p g c) w
    replace VP := VP.kept (belowA w (.cells #[.int .i64 t.o, .int .i64 t.a, .int .i64 t.b, .int .i64 t.n] 70))
    replace H := H.kept (belowA w (.cells #[.int .i64 t.o, .int .i64 t.a, .int .i64 t.b, .int .i64 t.n] 70))
    replace S := S.trans (Sm.below (belowA w (.cells #[.int .i64 t.o, .int .i64 t.a, .int .i64 t.b, .int .i64 t.n] 70)))
    have VX := V.new w [.int .i64 t.o, .int .i64 t.a, .int .i64 t.b, .int .i64 t.n] 70
    replace VP := VP.kept (belowA (w.alloc (.cells #[.int .i64 t.o, .int .i64 t.a, .int .i64 t.b, .int .i64 t.n] 70)) (.cells #[.int .i64 0, .int .i64 0] 37))
    replace VX := VX.kept (belowA (w.alloc (.cells #[.int .i64 t.o, .int .i64 t.a, .int .i64 t.b, .int .i64 t.n] 70)) (.cells #[.int .i64 0, .int .i64 0] 37))
    replace H := H.kept (belowA (w.alloc (.cells #[.int .i64 t.o, .int .i64 t.a, .int .i64 t.b, .int .i64 t.n] 70)) (.cells #[.int .i64 0, .int .i64 0] 37))
    replace S := S.trans (Sm.below (belowA (w.alloc (.cells #[.int .i64 t.o, .int .i64 t.a, .int .i64 t.b, .int .i64 t.n] 70)) (.cells #[.int .i64 0, .int .i64 0] 37)))
    have VR : V ((w.alloc (.cells #[.int .i64 t.o, .int .i64 t.a, .int .i64 t.b, .int .i64 t.n] 70)).alloc (.cells #[.int .i64 0, .int .i64 0] 37)) (w.heap.size + 1) [.int .i64 0, .int .i64 0] := V.newAt _ _ _ _ (by simp)
    obtain ⟨s_VP, f_VP, z_VP⟩ := VP.open
    obtain ⟨s_VX, f_VX, z_VX⟩ := VX.open
    obtain ⟨s_VR, f_VR, z_VR⟩ := VR.open
    clear s_VP f_VP z_VP s_VX f_VX z_VX s_VR f_VR z_VR
    have K : ∀ w' : World, Below ((w.alloc (.cells #[.int .i64 t.o, .int .i64 t.a, .int .i64 t.b, .int .i64 t.n] 70)).alloc (.cells #[.int .i64 0, .int .i64 0] 37)).heap.size ((w.alloc (.cells #[.int .i64 t.o, .int .i64 t.a, .int .i64 t.b, .int .i64 t.n] 70)).alloc (.cells #[.int .i64 0, .int .i64 0] 37)) w' → (w'.cell? ⟨w.heap.size, 0, none⟩ = some (.int .i64 t.o) ∧ w'.cell? ⟨w.heap.size, 1, none⟩ = some (.int .i64 t.a) ∧ w'.cell? ⟨w.heap.size, 2, none⟩ = some (.int .i64 t.b) ∧ w'.cell? ⟨w.heap.size, 3, none⟩ = some (.int .i64 t.n) ∧ w'.cell? ⟨p, 0, none⟩ = some (.slice c n d) ∧ w'.cell? ⟨p, 1, none⟩ = some (.map (some g))) := fun w' h => ⟨(VX.kept h).2.1 0 (by simp), (VX.kept h).2.1 1 (by simp), (VX.kept h).2.1 2 (by simp), (VX.kept h).2.1 3 (by simp), (VP.kept h).2.1 0 (by simp), (VP.kept h).2.1 1 (by simp)⟩
    have K := Hid.mk K
    go_wp2_with fail
    refine wp_region_held_drew (S := (fun w' => w'.cell? ⟨w.heap.size, 0, none⟩ = some (.int .i64 t.o) ∧ w'.cell? ⟨w.heap.size, 1, none⟩ = some (.int .i64 t.a) ∧ w'.cell? ⟨w.heap.size, 2, none⟩ = some (.int .i64 t.b) ∧ w'.cell? ⟨w.heap.size, 3, none⟩ = some (.int .i64 t.n) ∧ w'.cell? ⟨p, 0, none⟩ = some (.slice c n d) ∧ w'.cell? ⟨p, 1, none⟩ = some (.map (some g)))) (by kernel_rfl) (K.out _ (Below.refl _ _).drew) (fun hHeld => ?_)
    refine wpAnyH_take (i := 0) (oi := _) (v := ?vz21u1) rfl (by kernel_rfl) (by kernel_rfl) (by kernel_rfl) (fun _ _ _ h => h) (Or.inl ⟨by rfl, ?hyz21u1⟩) hHeld ?restz21u1
    case hyz21u1 => (intro w hSw; (try dsimp only at hSw); go_simp; first | done | with_reducible rfl)
    try simp only [Act.put, List.getElem_toArray, List.getElem_cons_zero, List.setIfInBounds_toArray, List.set_cons_zero, List.set_cons_succ]
    refine wpAnyH_take (i := 1) (oi := _) (v := ?vz21u2) rfl (by kernel_rfl) (by kernel_rfl) (by kernel_rfl) (fun _ _ _ h => h) (Or.inl ⟨by rfl, ?hyz21u2⟩) hHeld ?restz21u2
    case hyz21u2 => (intro w hSw; (try dsimp only at hSw); go_simp; first | done | with_reducible rfl)
    try simp only [Act.put, List.getElem_toArray, List.getElem_cons_zero, List.getElem_cons_succ, List.setIfInBounds_toArray, List.set_cons_zero, List.set_cons_succ]
    refine wpAnyH_take (i := 2) (oi := _) (v := ?vz21u3) rfl (by kernel_rfl) (by kernel_rfl) (by kernel_rfl) (fun _ _ _ h => h) (Or.inl ⟨by rfl, ?hyz21u3⟩) hHeld ?restz21u3
    case hyz21u3 => (intro w hSw; (try dsimp only at hSw); go_simp; first | done | with_reducible rfl)
    try simp only [Act.put, List.getElem_toArray, List.getElem_cons_zero, List.getElem_cons_succ, List.setIfInBounds_toArray, List.set_cons_zero, List.set_cons_succ]
    refine wpAnyH_take (i := 3) (oi := _) (v := ?vz21u4) rfl (by kernel_rfl) (by kernel_rfl) (by kernel_rfl) (fun _ _ _ h => h) (Or.inl ⟨by rfl, ?hyz21u4⟩) hHeld ?restz21u4
    case hyz21u4 => (intro w hSw; (try dsimp only at hSw); go_simp; first | done | with_reducible rfl)
    try simp only [Act.put, List.getElem_toArray, List.getElem_cons_zero, List.getElem_cons_succ, List.setIfInBounds_toArray, List.set_cons_zero, List.set_cons_succ]
    refine wpAnyH_take (i := 4) (oi := _) (v := ?vz21u5) rfl (by kernel_rfl) (by kernel_rfl) (by kernel_rfl) (fun _ _ _ h => h) (Or.inl ⟨by rfl, ?hyz21u5⟩) hHeld ?restz21u5
    case hyz21u5 => (intro w hSw; (try dsimp only at hSw); go_simp; first | done | with_reducible rfl)
    try simp only [Act.put, List.getElem_toArray, List.getElem_cons_zero, List.getElem_cons_succ, List.setIfInBounds_toArray, List.set_cons_zero, List.set_cons_succ]
    refine wpAnyH_ready (rs := [5]) (by kernel_rfl) (by simp) ?_
    refine AllReadyH.cons (o := _) rfl (fun K0 hK0 => ?_) AllReadyH.nil
    go_simp
    go_at_call 64
    refine (CF.out _ (H.o.rd.kept (Below.refl _ _).drew)).mono ?_
    rintro e wz21v6 ⟨rfl, bz21v6⟩
    refine hK0.out _ _ (K.out _ (thenB (Below.refl _ _).drew bz21v6)) (fun hHeld => ?_)
    clear hK0 K0
    try simp only [Act.put, List.getElem_toArray, List.getElem_cons_zero, List.getElem_cons_succ, List.setIfInBounds_toArray, List.set_cons_zero, List.set_cons_succ]
    refine wpAnyH_take (i := 6) (oi := _) (v := ?vz21u7) rfl (by kernel_rfl) (by kernel_rfl) (by kernel_rfl) (fun _ _ _ h => h) (Or.inl ⟨by rfl, ?hyz21u7⟩) hHeld ?restz21u7
    case hyz21u7 => (intro w hSw; (try dsimp only at hSw); go_simp; first | done | with_reducible rfl)
    try simp only [Act.put, List.getElem_toArray, List.getElem_cons_zero, List.getElem_cons_succ, List.setIfInBounds_toArray, List.set_cons_zero, List.set_cons_succ]
    refine wpAnyH_done (by kernel_rfl) ?_ _
    clear K hHeld
    replace VP := VP.kept (thenB (Below.refl _ _).drew bz21v6)
    replace VX := VX.kept (thenB (Below.refl _ _).drew bz21v6)
    replace VR := VR.kept (thenB (Below.refl _ _).drew bz21v6)
    replace H := H.kept (thenB (Below.refl _ _).drew bz21v6)
    replace S := S.trans (Sm.below (thenB (Below.refl _ _).drew bz21v6))
    have Sz21 := ((thenB (Below.refl _ _).drew bz21v6)).size
    simp only [World.size_alloc] at Sz21
    clear bz21v6
    obtain ⟨s_VP, f_VP, z_VP⟩ := VP.open
    obtain ⟨s_VX, f_VX, z_VX⟩ := VX.open
    obtain ⟨s_VR, f_VR, z_VR⟩ := VR.open
    have QL := fun dd => H.m.look ht dd
    rw [HM] at QL
    simp only [Option.isSome_some, Option.getD_some] at QL
    go_wp2_with fail
    go_quiet (fail)
    clear s_VP f_VP z_VP s_VX f_VX z_VX s_VR f_VR z_VR
    have bq := belowN (Below.refl (wz21v6).heap.size (wz21v6)) nq
    replace VP := VP.kept bq
    replace VX := VX.kept bq
    replace VR := VR.kept bq
    replace H := H.kept bq
    replace S := S.trans (Sm.below bq)
    clear bq
    generalize World.drewN wz21v6 nq = wn21 at *
    obtain ⟨s_VP, f_VP, z_VP⟩ := VP.open
    obtain ⟨s_VX, f_VX, z_VX⟩ := VX.open
    obtain ⟨s_VR, f_VR, z_VR⟩ := VR.open
    clear QL
    clear s_VP f_VP z_VP s_VX f_VX z_VX s_VR f_VR z_VR
    have VF := Hid.mk (VR.filled [.int .i64 0, .int .i64 ix] rfl)
    have HT := Hid.mk VR.there
    have SR := Hid.mk (Sm.newCells S (show w.heap.size ≤ w.heap.size + 1 by (first | omega | (simp; done) | (simp; omega))) 0 [.int .i64 0, .int .i64 ix])
    have HH := Hid.mk (H.apart (B := w.heap.size + 1) (by intro k hk; have := HX.out k hk; omega) 0 [.int .i64 0, .int .i64 ix])
    obtain ⟨s_VP, f_VP, z_VP⟩ := VP.open
    obtain ⟨s_VX, f_VX, z_VX⟩ := VX.open
    obtain ⟨s_VR, f_VR, z_VR⟩ := VR.open
    go_wp2_with (refine wpList_store_mid rfl 37 _ _ rfl (w.heap.size + 1) 0 #[.int .i64 0, .int .i64 ix] rfl rfl HT.out (by kernel_rfl) (by kernel_rfl) ?_)
    refine bodyPost_ret (v := .agg #[.int .i64 0, .int .i64 ix]) (results_row Tryz.results68 _ _ (w.heap.size + 1) [.int .i64 0, .int .i64 ix] _ rfl VF.out Tryz.underlying37 rfl (by kernel_rfl)) rfl ⟨c, d, by rw [PE.out], by rw [PL.out]; exact HH.out, SR.out, fun _ h _ => h⟩
  · have HM := hM0 h2
    have h4 : n = 400 := by omega
    subst h4
    have PE : Hid (put xs t = ⟨2, 0, []⟩) := Hid.mk hr
    have PL : Hid (putL xs t = xs) := Hid.mk (by unfold putL; rw [hr, if_neg (by decide)])
    rw [h1] at CF
    clear hr h1 h2
    go_enter Tryz.func68, Tryz.ntmps68
    have S := Sm.refl (BkX p g c) w
    replace VP := VP.kept (belowA w (.cells #[.int .i64 t.o, .int .i64 t.a, .int .i64 t.b, .int .i64 t.n] 70))
    replace H := H.kept (belowA w (.cells #[.int .i64 t.o, .int .i64 t.a, .int .i64 t.b, .int .i64 t.n] 70))
    replace S := S.trans (Sm.below (belowA w (.cells #[.int .i64 t.o, .int .i64 t.a, .int .i64 t.b, .int .i64 t.n] 70)))
    have VX := V.new w [.int .i64 t.o, .int .i64 t.a, .int .i64 t.b, .int .i64 t.n] 70
    replace VP := VP.kept (belowA (w.alloc (.cells #[.int .i64 t.o, .int .i64 t.a, .int .i64 t.b, .int .i64 t.n] 70)) (.cells #[.int .i64 0, .int .i64 0] 37))
    replace VX := VX.kept (belowA (w.alloc (.cells #[.int .i64 t.o, .int .i64 t.a, .int .i64 t.b, .int .i64 t.n] 70)) (.cells #[.int .i64 0, .int .i64 0] 37))
    replace H := H.kept (belowA (w.alloc (.cells #[.int .i64 t.o, .int .i64 t.a, .int .i64 t.b, .int .i64 t.n] 70)) (.cells #[.int .i64 0, .int .i64 0] 37))
    replace S := S.trans (Sm.below (belowA (w.alloc (.cells #[.int .i64 t.o, .int .i64 t.a, .int .i64 t.b, .int .i64 t.n] 70)) (.cells #[.int .i64 0, .int .i64 0] 37)))
    have VR : V ((w.alloc (.cells #[.int .i64 t.o, .int .i64 t.a, .int .i64 t.b, .int .i64 t.n] 70)).alloc (.cells #[.int .i64 0, .int .i64 0] 37)) (w.heap.size + 1) [.int .i64 0, .int .i64 0] := V.newAt _ _ _ _ (by simp)
    obtain ⟨s_VP, f_VP, z_VP⟩ := VP.open
    obtain ⟨s_VX, f_VX, z_VX⟩ := VX.open
    obtain ⟨s_VR, f_VR, z_VR⟩ := VR.open
    clear s_VP f_VP z_VP s_VX f_VX z_VX s_VR f_VR z_VR
    have K : ∀ w' : World, Below ((w.alloc (.cells #[.int .i64 t.o, .int .i64 t.a, .int .i64 t.b, .int .i64 t.n] 70)).alloc (.cells #[.int .i64 0, .int .i64 0] 37)).heap.size ((w.alloc (.cells #[.int .i64 t.o, .int .i64 t.a, .int .i64 t.b, .int .i64 t.n] 70)).alloc (.cells #[.int .i64 0, .int .i64 0] 37)) w' → (w'.cell? ⟨w.heap.size, 0, none⟩ = some (.int .i64 t.o) ∧ w'.cell? ⟨w.heap.size, 1, none⟩ = some (.int .i64 t.a) ∧ w'.cell? ⟨w.heap.size, 2, none⟩ = some (.int .i64 t.b) ∧ w'.cell? ⟨w.heap.size, 3, none⟩ = some (.int .i64 t.n) ∧ w'.cell? ⟨p, 0, none⟩ = some (.slice c 400 d) ∧ w'.cell? ⟨p, 1, none⟩ = some (.map (some g))) := fun w' h => ⟨(VX.kept h).2.1 0 (by simp), (VX.kept h).2.1 1 (by simp), (VX.kept h).2.1 2 (by simp), (VX.kept h).2.1 3 (by simp), (VP.kept h).2.1 0 (by simp), (VP.kept h).2.1 1 (by simp)⟩
    have K := Hid.mk K
    go_wp2_with fail
    refine wp_region_held_drew (S := (fun w' => w'.cell? ⟨w.heap.size, 0, none⟩ = some (.int .i64 t.o) ∧ w'.cell? ⟨w.heap.size, 1, none⟩ = some (.int .i64 t.a) ∧ w'.cell? ⟨w.heap.size, 2, none⟩ = some (.int .i64 t.b) ∧ w'.cell? ⟨w.heap.size, 3, none⟩ = some (.int .i64 t.n) ∧ w'.cell? ⟨p, 0, none⟩ = some (.slice c 400 d) ∧ w'.cell? ⟨p, 1, none⟩ = some (.map (some g)))) (by kernel_rfl) (K.out _ (Below.refl _ _).drew) (fun hHeld => ?_)
    refine wpAnyH_take (i := 0) (oi := _) (v := ?vz41u1) rfl (by kernel_rfl) (by kernel_rfl) (by kernel_rfl) (fun _ _ _ h => h) (Or.inl ⟨by rfl, ?hyz41u1⟩) hHeld ?restz41u1
    case hyz41u1 => (intro w hSw; (try dsimp only at hSw); go_simp; first | done | with_reducible rfl)
    try simp only [Act.put, List.getElem_toArray, List.getElem_cons_zero, List.setIfInBounds_toArray, List.set_cons_zero, List.set_cons_succ]
    refine wpAnyH_take (i := 1) (oi := _) (v := ?vz41u2) rfl (by kernel_rfl) (by kernel_rfl) (by kernel_rfl) (fun _ _ _ h => h) (Or.inl ⟨by rfl, ?hyz41u2⟩) hHeld ?restz41u2
    case hyz41u2 => (intro w hSw; (try dsimp only at hSw); go_simp; first | done | with_reducible rfl)
    try simp only [Act.put, List.getElem_toArray, List.getElem_cons_zero, List.getElem_cons_succ, List.setIfInBounds_toArray, List.set_cons_zero, List.set_cons_succ]
    refine wpAnyH_take (i := 2) (oi := _) (v := ?vz41u3) rfl (by kernel_rfl) (by kernel_rfl) (by kernel_rfl) (fun _ _ _ h => h) (Or.inl ⟨by rfl, ?hyz41u3⟩) hHeld ?restz41u3
    case hyz41u3 => (intro w hSw; (try dsimp only at hSw); go_simp; first | done | with_reducible rfl)
    try simp only [Act.put, List.getElem_toArray, List.getElem_cons_zero, List.getElem_cons_succ, List.setIfInBounds_toArray, List.set_cons_zero, List.set_cons_succ]
    refine wpAnyH_take (i := 3) (oi := _) (v := ?vz41u4) rfl (by kernel_rfl) (by kernel_rfl) (by kernel_rfl) (fun _ _ _ h => h) (Or.inl ⟨by rfl, ?hyz41u4⟩) hHeld ?restz41u4
    case hyz41u4 => (intro w hSw; (try dsimp only at hSw); go_simp; first | done | with_reducible rfl)
    try simp only [Act.put, List.getElem_toArray, List.getElem_cons_zero, List.getElem_cons_succ, List.setIfInBounds_toArray, List.set_cons_zero, List.set_cons_succ]
    refine wpAnyH_take (i := 4) (oi := _) (v := ?vz41u5) rfl (by kernel_rfl) (by kernel_rfl) (by kernel_rfl) (fun _ _ _ h => h) (Or.inl ⟨by rfl, ?hyz41u5⟩) hHeld ?restz41u5
    case hyz41u5 => (intro w hSw; (try dsimp only at hSw); go_simp; first | done | with_reducible rfl)
    try simp only [Act.put, List.getElem_toArray, List.getElem_cons_zero, List.getElem_cons_succ, List.setIfInBounds_toArray, List.set_cons_zero, List.set_cons_succ]
    refine wpAnyH_ready (rs := [5]) (by kernel_rfl) (by simp) ?_
    refine AllReadyH.cons (o := _) rfl (fun K0 hK0 => ?_) AllReadyH.nil
    go_simp
    go_at_call 64
    refine (CF.out _ (H.o.rd.kept (Below.refl _ _).drew)).mono ?_
    rintro e wz41v6 ⟨rfl, bz41v6⟩
    refine hK0.out _ _ (K.out _ (thenB (Below.refl _ _).drew bz41v6)) (fun hHeld => ?_)
    clear hK0 K0
    try simp only [Act.put, List.getElem_toArray, List.getElem_cons_zero, List.getElem_cons_succ, List.setIfInBounds_toArray, List.set_cons_zero, List.set_cons_succ]
    refine wpAnyH_take (i := 6) (oi := _) (v := ?vz41u7) rfl (by kernel_rfl) (by kernel_rfl) (by kernel_rfl) (fun _ _ _ h => h) (Or.inl ⟨by rfl, ?hyz41u7⟩) hHeld ?restz41u7
    case hyz41u7 => (intro w hSw; (try dsimp only at hSw); go_simp; first | done | with_reducible rfl)
    try simp only [Act.put, List.getElem_toArray, List.getElem_cons_zero, List.getElem_cons_succ, List.setIfInBounds_toArray, List.set_cons_zero, List.set_cons_succ]
    refine wpAnyH_done (by kernel_rfl) ?_ _
    clear K hHeld
    replace VP := VP.kept (thenB (Below.refl _ _).drew bz41v6)
    replace VX := VX.kept (thenB (Below.refl _ _).drew bz41v6)
    replace VR := VR.kept (thenB (Below.refl _ _).drew bz41v6)
    replace H := H.kept (thenB (Below.refl _ _).drew bz41v6)
    replace S := S.trans (Sm.below (thenB (Below.refl _ _).drew bz41v6))
    have Sz41 := ((thenB (Below.refl _ _).drew bz41v6)).size
    simp only [World.size_alloc] at Sz41
    clear bz41v6
    obtain ⟨s_VP, f_VP, z_VP⟩ := VP.open
    obtain ⟨s_VX, f_VX, z_VX⟩ := VX.open
    obtain ⟨s_VR, f_VR, z_VR⟩ := VR.open
    have QL := fun dd => H.m.look ht dd
    rw [HM] at QL
    simp only [Option.isSome_none, Option.getD_none] at QL
    go_wp2_with fail
    go_quiet (fail)
    clear s_VP f_VP z_VP s_VX f_VX z_VX s_VR f_VR z_VR
    have bq := belowN (Below.refl (wz41v6).heap.size (wz41v6)) nq
    replace VP := VP.kept bq
    replace VX := VX.kept bq
    replace VR := VR.kept bq
    replace H := H.kept bq
    replace S := S.trans (Sm.below bq)
    clear bq
    generalize World.drewN wz41v6 nq = wn41 at *
    obtain ⟨s_VP, f_VP, z_VP⟩ := VP.open
    obtain ⟨s_VX, f_VX, z_VX⟩ := VX.open
    obtain ⟨s_VR, f_VR, z_VR⟩ := VR.open
    clear QL
    clear s_VP f_VP z_VP s_VX f_VX z_VX s_VR f_VR z_VR
    have VF := Hid.mk (VR.filled [.int .i64 2, .int .i64 0] rfl)
    have HT := Hid.mk VR.there
    have SR := Hid.mk (Sm.newCells S (show w.heap.size ≤ w.heap.size + 1 by (first | omega | (simp; done) | (simp; omega))) 0 [.int .i64 2, .int .i64 0])
    have HH := Hid.mk (H.apart (B := w.heap.size + 1) (by intro k hk; have := HX.out k hk; omega) 0 [.int .i64 2, .int .i64 0])
    obtain ⟨s_VP, f_VP, z_VP⟩ := VP.open
    obtain ⟨s_VX, f_VX, z_VX⟩ := VX.open
    obtain ⟨s_VR, f_VR, z_VR⟩ := VR.open
    go_wp2_with (refine wpList_store_mid rfl 37 _ _ rfl (w.heap.size + 1) 0 #[.int .i64 2, .int .i64 0] rfl rfl HT.out (by kernel_rfl) (by kernel_rfl) ?_)
    refine bodyPost_ret (v := .agg #[.int .i64 2, .int .i64 0]) (results_row Tryz.results68 _ _ (w.heap.size + 1) [.int .i64 2, .int .i64 0] _ rfl VF.out Tryz.underlying37 rfl (by kernel_rfl)) rfl ⟨c, d, by rw [PE.out], by rw [PL.out]; exact HH.out, SR.out, fun _ h _ => h⟩
  · have HM := hM0 h2
    have h4 : ((n : Int) == 400) = false := by rw [beq_eq_false_iff_ne]; omega
    have PE : Hid (put xs t = ⟨0, (n : Nat), xs ++ [t]⟩) := Hid.mk hr
    have PL : Hid (putL xs t = xs ++ [t]) := Hid.mk (by unfold putL; rw [hr]; rfl)
    have CA := Hid.mk (fun w h => add_ok base p g c d xs t w h ht h2 (by have := hnn.out; omega))
    rw [hnn.out] at CA
    rw [h1] at CF
    clear hr h1 h2
    go_enter Tryz.func68, Tryz.ntmps68
    have S := Sm.refl (BkX p g c) w
    replace VP := VP.kept (belowA w (.cells #[.int .i64 t.o, .int .i64 t.a, .int .i64 t.b, .int .i64 t.n] 70))
    replace H := H.kept (belowA w (.cells #[.int .i64 t.o, .int .i64 t.a, .int .i64 t.b, .int .i64 t.n] 70))
    replace S := S.trans (Sm.below (belowA w (.cells #[.int .i64 t.o, .int .i64 t.a, .int .i64 t.b, .int .i64 t.n] 70)))
    have VX := V.new w [.int .i64 t.o, .int .i64 t.a, .int .i64 t.b, .int .i64 t.n] 70
    replace VP := VP.kept (belowA (w.alloc (.cells #[.int .i64 t.o, .int .i64 t.a, .int .i64 t.b, .int .i64 t.n] 70)) (.cells #[.int .i64 0, .int .i64 0] 37))
    replace VX := VX.kept (belowA (w.alloc (.cells #[.int .i64 t.o, .int .i64 t.a, .int .i64 t.b, .int .i64 t.n] 70)) (.cells #[.int .i64 0, .int .i64 0] 37))
    replace H := H.kept (belowA (w.alloc (.cells #[.int .i64 t.o, .int .i64 t.a, .int .i64 t.b, .int .i64 t.n] 70)) (.cells #[.int .i64 0, .int .i64 0] 37))
    replace S := S.trans (Sm.below (belowA (w.alloc (.cells #[.int .i64 t.o, .int .i64 t.a, .int .i64 t.b, .int .i64 t.n] 70)) (.cells #[.int .i64 0, .int .i64 0] 37)))
    have VR : V ((w.alloc (.cells #[.int .i64 t.o, .int .i64 t.a, .int .i64 t.b, .int .i64 t.n] 70)).alloc (.cells #[.int .i64 0, .int .i64 0] 37)) (w.heap.size + 1) [.int .i64 0, .int .i64 0] := V.newAt _ _ _ _ (by simp)
    obtain ⟨s_VP, f_VP, z_VP⟩ := VP.open
    obtain ⟨s_VX, f_VX, z_VX⟩ := VX.open
    obtain ⟨s_VR, f_VR, z_VR⟩ := VR.open
    clear s_VP f_VP z_VP s_VX f_VX z_VX s_VR f_VR z_VR
    have K : ∀ w' : World, Below ((w.alloc (.cells #[.int .i64 t.o, .int .i64 t.a, .int .i64 t.b, .int .i64 t.n] 70)).alloc (.cells #[.int .i64 0, .int .i64 0] 37)).heap.size ((w.alloc (.cells #[.int .i64 t.o, .int .i64 t.a, .int .i64 t.b, .int .i64 t.n] 70)).alloc (.cells #[.int .i64 0, .int .i64 0] 37)) w' → (w'.cell? ⟨w.heap.size, 0, none⟩ = some (.int .i64 t.o) ∧ w'.cell? ⟨w.heap.size, 1, none⟩ = some (.int .i64 t.a) ∧ w'.cell? ⟨w.heap.size, 2, none⟩ = some (.int .i64 t.b) ∧ w'.cell? ⟨w.heap.size, 3, none⟩ = some (.int .i64 t.n) ∧ w'.cell? ⟨p, 0, none⟩ = some (.slice c n d) ∧ w'.cell? ⟨p, 1, none⟩ = some (.map (some g))) := fun w' h => ⟨(VX.kept h).2.1 0 (by simp), (VX.kept h).2.1 1 (by simp), (VX.kept h).2.1 2 (by simp), (VX.kept h).2.1 3 (by simp), (VP.kept h).2.1 0 (by simp), (VP.kept h).2.1 1 (by simp)⟩
    have K := Hid.mk K
    go_wp2_with fail
    refine wp_region_held_drew (S := (fun w' => w'.cell? ⟨w.heap.size, 0, none⟩ = some (.int .i64 t.o) ∧ w'.cell? ⟨w.heap.size, 1, none⟩ = some (.int .i64 t.a) ∧ w'.cell? ⟨w.heap.size, 2, none⟩ = some (.int .i64 t.b) ∧ w'.cell? ⟨w.heap.size, 3, none⟩ = some (.int .i64 t.n) ∧ w'.cell? ⟨p, 0, none⟩ = some (.slice c n d) ∧ w'.cell? ⟨p, 1, none⟩ = some (.map (some g)))) (by kernel_rfl) (K.out _ (Below.refl _ _).drew) (fun hHeld => ?_)
    refine wpAnyH_take (i := 0) (oi := _) (v := ?vz61u1) rfl (by kernel_rfl) (by kernel_rfl) (by kernel_rfl) (fun _ _ _ h => h) (Or.inl ⟨by rfl, ?hyz61u1⟩) hHeld ?restz61u1
    case hyz61u1 => (intro w hSw; (try dsimp only at hSw); go_simp; first | done | with_reducible rfl)
    try simp only [Act.put, List.getElem_toArray, List.getElem_cons_zero, List.setIfInBounds_toArray, List.set_cons_zero, List.set_cons_succ]
    refine wpAnyH_take (i := 1) (oi := _) (v := ?vz61u2) rfl (by kernel_rfl) (by kernel_rfl) (by kernel_rfl) (fun _ _ _ h => h) (Or.inl ⟨by rfl, ?hyz61u2⟩) hHeld ?restz61u2
    case hyz61u2 => (intro w hSw; (try dsimp only at hSw); go_simp; first | done | with_reducible rfl)
    try simp only [Act.put, List.getElem_toArray, List.getElem_cons_zero, List.getElem_cons_succ, List.setIfInBounds_toArray, List.set_cons_zero, List.set_cons_succ]
    refine wpAnyH_take (i := 2) (oi := _) (v := ?vz61u3) rfl (by kernel_rfl) (by kernel_rfl) (by kernel_rfl) (fun _ _ _ h => h) (Or.inl ⟨by rfl, ?hyz61u3⟩) hHeld ?restz61u3
    case hyz61u3 => (intro w hSw; (try dsimp only at hSw); go_simp; first | done | with_reducible rfl)
    try simp only [Act.put, List.getElem_toArray, List.getElem_cons_zero, List.getElem_cons_succ, List.setIfInBounds_toArray, List.set_cons_zero, List.set_cons_succ]
    refine wpAnyH_take (i := 3) (oi := _) (v := ?vz61u4) rfl (by kernel_rfl) (by kernel_rfl) (by kernel_rfl) (fun _ _ _ h => h) (Or.inl ⟨by rfl, ?hyz61u4⟩) hHeld ?restz61u4
    case hyz61u4 => (intro w hSw; (try dsimp only at hSw); go_simp; first | done | with_reducible rfl)
    try simp only [Act.put, List.getElem_toArray, List.getElem_cons_zero, List.getElem_cons_succ, List.setIfInBounds_toArray, List.set_cons_zero, List.set_cons_succ]
    refine wpAnyH_take (i := 4) (oi := _) (v := ?vz61u5) rfl (by kernel_rfl) (by kernel_rfl) (by kernel_rfl) (fun _ _ _ h => h) (Or.inl ⟨by rfl, ?hyz61u5⟩) hHeld ?restz61u5
    case hyz61u5 => (intro w hSw; (try dsimp only at hSw); go_simp; first | done | with_reducible rfl)
    try simp only [Act.put, List.getElem_toArray, List.getElem_cons_zero, List.getElem_cons_succ, List.setIfInBounds_toArray, List.set_cons_zero, List.set_cons_succ]
    refine wpAnyH_ready (rs := [5]) (by kernel_rfl) (by simp) ?_
    refine AllReadyH.cons (o := _) rfl (fun K0 hK0 => ?_) AllReadyH.nil
    go_simp
    go_at_call 64
    refine (CF.out _ (H.o.rd.kept (Below.refl _ _).drew)).mono ?_
    rintro e wz61v6 ⟨rfl, bz61v6⟩
    refine hK0.out _ _ (K.out _ (thenB (Below.refl _ _).drew bz61v6)) (fun hHeld => ?_)
    clear hK0 K0
    try simp only [Act.put, List.getElem_toArray, List.getElem_cons_zero, List.getElem_cons_succ, List.setIfInBounds_toArray, List.set_cons_zero, List.set_cons_succ]
    refine wpAnyH_take (i := 6) (oi := _) (v := ?vz61u7) rfl (by kernel_rfl) (by kernel_rfl) (by kernel_rfl) (fun _ _ _ h => h) (Or.inl ⟨by rfl, ?hyz61u7⟩) hHeld ?restz61u7
    case hyz61u7 => (intro w hSw; (try dsimp only at hSw); go_simp; first | done | with_reducible rfl)
    try simp only [Act.put, List.getElem_toArray, List.getElem_cons_zero, List.getElem_cons_succ, List.setIfInBounds_toArray, List.set_cons_zero, List.set_cons_succ]
    refine wpAnyH_done (by kernel_rfl) ?_ _
    clear K hHeld
    replace VP := VP.kept (thenB (Below.refl _ _).drew bz61v6)
    replace VX := VX.kept (thenB (Below.refl _ _).drew bz61v6)
    replace VR := VR.kept (thenB (Below.refl _ _).drew bz61v6)
    replace H := H.kept (thenB (Below.refl _ _).drew bz61v6)
    replace S := S.trans (Sm.below (thenB (Below.refl _ _).drew bz61v6))
    have Sz61 := ((thenB (Below.refl _ _).drew bz61v6)).size
    simp only [World.size_alloc] at Sz61
    clear bz61v6
    obtain ⟨s_VP, f_VP, z_VP⟩ := VP.open
    obtain ⟨s_VX, f_VX, z_VX⟩ := VX.open
    obtain ⟨s_VR, f_VR, z_VR⟩ := VR.open
    have QL := fun dd => H.m.look ht dd
    rw [HM] at QL
    simp only [Option.isSome_none, Option.getD_none] at QL
    go_wp2_with fail
    go_quiet (fail)
    clear s_VP f_VP z_VP s_VX f_VX z_VX s_VR f_VR z_VR
    have bq := belowN (Below.refl (wz61v6).heap.size (wz61v6)) nq
    replace VP := VP.kept bq
    replace VX := VX.kept bq
    replace VR := VR.kept bq
    replace H := H.kept bq
    replace S := S.trans (Sm.below bq)
    clear bq
    generalize World.drewN wz61v6 nq = wn61 at *
    obtain ⟨s_VP, f_VP, z_VP⟩ := VP.open
    obtain ⟨s_VX, f_VX, z_VX⟩ := VX.open
    obtain ⟨s_VR, f_VR, z_VR⟩ := VR.open
    clear QL
    have VRl := VR.1
    go_wp2_with fail
    refine (CA.out _ H).mono ?_
    rintro e w9 ⟨c9, d9, rfl, H9, S9, hx9⟩
    clear s_VP f_VP z_VP s_VX f_VX z_VX s_VR f_VR z_VR
    replace VR := VR.sm S9 (fun e => by have := HX.out _ e; omega)
    have SL := S.size
    replace S := S.trans S9
    have hx9o := hx9
    have hsz9 : w.heap.size + 1 < w9.heap.size := VR.1
    replace hx9 : Hid (∀ k, BkX p g c9 k → k < w.heap.size → BkX p g c k) := Hid.mk (fun k hk hl => hx9 k hk (by omega))
    have hvr := VR.1
    have HX9 : Hid (∀ k, BkX p g c9 k → k ≠ w.heap.size + 1) := Hid.mk (fun k hk e => by have := HX.out k (hx9o k hk (by omega)); omega)
    clear S9 H VP VX
    have VF := Hid.mk (VR.filled [.int .i64 0, .int .i64 n] rfl)
    have HT := Hid.mk VR.there
    have SR := Hid.mk (Sm.newCells S (show w.heap.size ≤ w.heap.size + 1 by (first | omega | (simp; done) | (simp; omega))) 0 [.int .i64 0, .int .i64 n])
    have HH := Hid.mk (H9.apart (B := w.heap.size + 1) HX9.out 0 [.int .i64 0, .int .i64 n])
    clear H9
    obtain ⟨s_VR, f_VR, z_VR⟩ := VR.open
    go_wp2_with (refine wpList_store_mid rfl 37 _ _ rfl (w.heap.size + 1) 0 #[.int .i64 0, .int .i64 n] rfl rfl HT.out (by kernel_rfl) (by kernel_rfl) ?_)
    refine bodyPost_ret (v := .agg #[.int .i64 0, .int .i64 n]) (results_row Tryz.results68 _ _ (w.heap.size + 1) [.int .i64 0, .int .i64 n] _ rfl VF.out Tryz.underlying37 rfl (by kernel_rfl)) rfl ⟨c9, d9, by rw [PE.out], by rw [PL.out]; exact HH.out, SR.out, hx9.out⟩

end Go.Proofs.YtfldgeokigcokaaGreat

/- A book of terms: the answer. -/
namespace Go.Proofs.YtfldgeokigcokaaGreat
open Go.RowKit

theorem build_tr0' (k : Int) (w : World) : (Instr.build 28 #[(0, .int .i64 k)]).run Tryz.prog w = .ok (.agg #[.int .i64 k, .int .i64 0, .slice none 0 0]) w := run_build w 28 _ _ (by kernel_rfl)

theorem build_tr12 (k : Int) (c : Option Addr) (n d : Nat) (w : World) : (Instr.build 28 #[(1, .int .i64 k), (2, .slice c n d)]).run Tryz.prog w = .ok (.agg #[.int .i64 0, .int .i64 k, .slice c n d]) w := run_build w 28 _ _ (by kernel_rfl)

set_option maxRecDepth 20000 in
set_option maxHeartbeats 4000000 in
theorem answer_no (p g : Nat) (c : Option Addr) (n d : Nat) (k : Int) (hk : k ≠ 0) (w : World) (VP : V w p [.slice c n d, .map (some g)]) :
    Calls Tryz.prog 46 #[.pointer (some ⟨p, 0, none⟩), .agg #[.int .i64 k, .int .i64 0]] w fun e w' => e = .returned (.agg #[.int .i64 k, .int .i64 0, .slice none 0 0]) ∧ Below w.heap.size w w' := by
  have q1 := build_tr0'
  have h1 : (k != 0) = true := by simp [hk]
  clear hk
  go_enter Tryz.func46, Tryz.ntmps46
  have B := Below.refl w.heap.size w
  replace VP := VP.kept (belowA w (.cells #[.int .i64 k, .int .i64 0] 37))
  replace B := thenB B (belowA w (.cells #[.int .i64 k, .int .i64 0] 37))
  have VX := V.new w [.int .i64 k, .int .i64 0] 37
  replace VP := VP.kept (belowA (w.alloc (.cells #[.int .i64 k, .int .i64 0] 37)) (.cells #[.int .i64 0, .int .i64 0, .slice none 0 0] 28))
  replace VX := VX.kept (belowA (w.alloc (.cells #[.int .i64 k, .int .i64 0] 37)) (.cells #[.int .i64 0, .int .i64 0, .slice none 0 0] 28))
  replace B := thenB B (belowA (w.alloc (.cells #[.int .i64 k, .int .i64 0] 37)) (.cells #[.int .i64 0, .int .i64 0, .slice none 0 0] 28))
  have VR : V ((w.alloc (.cells #[.int .i64 k, .int .i64 0] 37)).alloc (.cells #[.int .i64 0, .int .i64 0, .slice none 0 0] 28)) (w.heap.size + 1) [.int .i64 0, .int .i64 0, .slice none 0 0] := V.newAt _ _ _ _ (by simp)
  obtain ⟨s_VP, f_VP, z_VP⟩ := VP.open
  obtain ⟨s_VX, f_VX, z_VX⟩ := VX.open
  obtain ⟨s_VR, f_VR, z_VR⟩ := VR.open
  have Bo := B
  clear s_VP f_VP z_VP s_VX f_VX z_VX s_VR f_VR z_VR
  have VF := Hid.mk (VR.filled [.int .i64 k, .int .i64 0, .slice none 0 0] rfl)
  have HT := Hid.mk VR.there
  have BR := belowCells B (show w.heap.size ≤ w.heap.size + 1 by (first | omega | (simp; done) | (simp; omega))) 0 [.int .i64 k, .int .i64 0, .slice none 0 0]
  replace BR := Hid.mk BR
  obtain ⟨s_VP, f_VP, z_VP⟩ := VP.open
  obtain ⟨s_VX, f_VX, z_VX⟩ := VX.open
  obtain ⟨s_VR, f_VR, z_VR⟩ := VR.open
  go_wp2_with (refine wpList_store_mid rfl 28 _ _ rfl (w.heap.size + 1) 0 #[.int .i64 k, .int .i64 0, .slice none 0 0] rfl rfl HT.out (by kernel_rfl) (by kernel_rfl) ?_)
  refine bodyPost_ret (v := .agg #[.int .i64 k, .int .i64 0, .slice none 0 0]) (results_row Tryz.results46 _ _ (w.heap.size + 1) [.int .i64 k, .int .i64 0, .slice none 0 0] _ rfl VF.out Tryz.underlying28 rfl (by kernel_rfl)) rfl ⟨rfl, BR.out⟩

set_option maxRecDepth 20000 in
set_option maxHeartbeats 4000000 in
theorem answer_yes (p g : Nat) (c : Option Addr) (n d : Nat) (v : Int) (w : World) (VP : V w p [.slice c n d, .map (some g)]) :
    Calls Tryz.prog 46 #[.pointer (some ⟨p, 0, none⟩), .agg #[.int .i64 0, .int .i64 v]] w fun e w' => e = .returned (.agg #[.int .i64 0, .int .i64 v, .slice c n d]) ∧ Below w.heap.size w w' := by
  have q2 := build_tr12
  have hpw := VP.1
  go_enter Tryz.func46, Tryz.ntmps46
  have B := Below.refl w.heap.size w
  replace VP := VP.kept (belowA w (.cells #[.int .i64 0, .int .i64 v] 37))
  replace B := thenB B (belowA w (.cells #[.int .i64 0, .int .i64 v] 37))
  have VX := V.new w [.int .i64 0, .int .i64 v] 37
  replace VP := VP.kept (belowA (w.alloc (.cells #[.int .i64 0, .int .i64 v] 37)) (.cells #[.int .i64 0, .int .i64 0, .slice none 0 0] 28))
  replace VX := VX.kept (belowA (w.alloc (.cells #[.int .i64 0, .int .i64 v] 37)) (.cells #[.int .i64 0, .int .i64 0, .slice none 0 0] 28))
  replace B := thenB B (belowA (w.alloc (.cells #[.int .i64 0, .int .i64 v] 37)) (.cells #[.int .i64 0, .int .i64 0, .slice none 0 0] 28))
  have VR : V ((w.alloc (.cells #[.int .i64 0, .int .i64 v] 37)).alloc (.cells #[.int .i64 0, .int .i64 0, .slice none 0 0] 28)) (w.heap.size + 1) [.int .i64 0, .int .i64 0, .slice none 0 0] := V.newAt _ _ _ _ (by simp)
  obtain ⟨s_VP, f_VP, z_VP⟩ := VP.open
  obtain ⟨s_VX, f_VX, z_VX⟩ := VX.open
  obtain ⟨s_VR, f_VR, z_VR⟩ := VR.open
  have Bo := B
  clear s_VP f_VP z_VP s_VX f_VX z_VX s_VR f_VR z_VR
  have K : ∀ w' : World, Below ((w.alloc (.cells #[.int .i64 0, .int .i64 v] 37)).alloc (.cells #[.int .i64 0, .int .i64 0, .slice none 0 0] 28)).heap.size ((w.alloc (.cells #[.int .i64 0, .int .i64 v] 37)).alloc (.cells #[.int .i64 0, .int .i64 0, .slice none 0 0] 28)) w' → (w'.cell? ⟨w.heap.size, 0, none⟩ = some (.int .i64 0) ∧ w'.cell? ⟨w.heap.size, 1, none⟩ = some (.int .i64 v) ∧ w'.cell? ⟨p, 0, none⟩ = some (.slice c n d) ∧ w'.cell? ⟨p, 1, none⟩ = some (.map (some g))) := fun w' h => ⟨(VX.kept h).2.1 0 (by simp), (VX.kept h).2.1 1 (by simp), (VP.kept h).2.1 0 (by simp), (VP.kept h).2.1 1 (by simp)⟩
  have K := Hid.mk K
  have bd : Below ((w.alloc (.cells #[.int .i64 0, .int .i64 v] 37)).alloc (.cells #[.int .i64 0, .int .i64 0, .slice none 0 0] 28)).heap.size ((w.alloc (.cells #[.int .i64 0, .int .i64 v] 37)).alloc (.cells #[.int .i64 0, .int .i64 0, .slice none 0 0] 28)) ((w.alloc (.cells #[.int .i64 0, .int .i64 v] 37)).alloc (.cells #[.int .i64 0, .int .i64 0, .slice none 0 0] 28)).drew := (Below.refl _ _).drew
  have VD := VR.kept bd
  have HT := Hid.mk VD.there
  have VF := VD.filled [.int .i64 0, .int .i64 v, .slice c n d] rfl
  have A_VX := (VX.kept bd).apart (B := w.heap.size + 1) (by first | omega | (simp; omega)) 0 [.int .i64 0, .int .i64 v, .slice c n d]
  have A_VP := (VP.kept bd).apart (B := w.heap.size + 1) (by first | omega | (simp; omega)) 0 [.int .i64 0, .int .i64 v, .slice c n d]
  have BR := belowCells (thenB B bd) (show w.heap.size ≤ w.heap.size + 1 by (first | omega | (simp; done) | (simp; omega))) 0 [.int .i64 0, .int .i64 v, .slice c n d]
  obtain ⟨w6, hw6⟩ : ∃ w6, (World.drew ((w.alloc (.cells #[.int .i64 0, .int .i64 v] 37)).alloc (.cells #[.int .i64 0, .int .i64 0, .slice none 0 0] 28))).setCells (w.heap.size + 1) 0 [.int .i64 0, .int .i64 v, .slice c n d] = w6 := ⟨_, rfl⟩
  rw [hw6] at VF A_VX A_VP BR
  replace hw6 := Hid.mk hw6
  replace VF := Hid.mk VF
  replace BR := Hid.mk BR
  have KA : w6.cell? ⟨w.heap.size, 0, none⟩ = some (.int .i64 0) ∧ w6.cell? ⟨w.heap.size, 1, none⟩ = some (.int .i64 v) ∧ w6.cell? ⟨p, 0, none⟩ = some (.slice c n d) ∧ w6.cell? ⟨p, 1, none⟩ = some (.map (some g)) := ⟨A_VX.2.1 0 (by simp), A_VX.2.1 1 (by simp), A_VP.2.1 0 (by simp), A_VP.2.1 1 (by simp)⟩
  replace KA := Hid.mk KA
  clear A_VX A_VP bd VD
  obtain ⟨s_VP, f_VP, z_VP⟩ := VP.open
  obtain ⟨s_VX, f_VX, z_VX⟩ := VX.open
  obtain ⟨s_VR, f_VR, z_VR⟩ := VR.open
  go_wp2_with fail
  refine wp_region_held_drew (S := (fun w' => w'.cell? ⟨w.heap.size, 0, none⟩ = some (.int .i64 0) ∧ w'.cell? ⟨w.heap.size, 1, none⟩ = some (.int .i64 v) ∧ w'.cell? ⟨p, 0, none⟩ = some (.slice c n d) ∧ w'.cell? ⟨p, 1, none⟩ = some (.map (some g)))) (by kernel_rfl) (K.out _ (Below.refl _ _).drew) (fun hHeld => ?_)
  clear s_VP f_VP z_VP s_VX f_VX z_VX s_VR f_VR z_VR
  refine wpAnyH_take (i := 0) (oi := _) (v := ?vy21v0) rfl (by kernel_rfl) (by kernel_rfl) (by kernel_rfl) (fun _ _ _ h => h) (Or.inl ⟨by rfl, ?hyy21v0⟩) hHeld ?resty21v0
  case hyy21v0 => (intro w hSw; (try dsimp only at hSw); go_simp; first | done | with_reducible rfl)
  try simp only [Act.put, List.getElem_toArray, List.getElem_cons_zero, List.setIfInBounds_toArray, List.set_cons_zero, List.set_cons_succ]
  refine wpAnyH_take (i := 1) (oi := _) (v := ?vy21v1) rfl (by kernel_rfl) (by kernel_rfl) (by kernel_rfl) (fun _ _ _ h => h) (Or.inl ⟨by rfl, ?hyy21v1⟩) hHeld ?resty21v1
  case hyy21v1 => (intro w hSw; (try dsimp only at hSw); go_simp; first | done | with_reducible rfl)
  try simp only [Act.put, List.getElem_toArray, List.getElem_cons_zero, List.getElem_cons_succ, List.setIfInBounds_toArray, List.set_cons_zero, List.set_cons_succ]
  refine wpAnyH_take (i := 2) (oi := _) (v := ?vy21v2) rfl (by kernel_rfl) (by kernel_rfl) (by kernel_rfl) (fun _ _ _ h => h) (Or.inl ⟨by rfl, ?hyy21v2⟩) hHeld ?resty21v2
  case hyy21v2 => (intro w hSw; (try dsimp only at hSw); go_simp; first | done | with_reducible rfl)
  try simp only [Act.put, List.getElem_toArray, List.getElem_cons_zero, List.getElem_cons_succ, List.setIfInBounds_toArray, List.set_cons_zero, List.set_cons_succ]
  refine wpAnyH_take (i := 3) (oi := _) (v := ?vy21v3) rfl (by kernel_rfl) (by kernel_rfl) (by kernel_rfl) (fun _ _ _ h => h) (Or.inl ⟨by rfl, ?hyy21v3⟩) hHeld ?resty21v3
  case hyy21v3 => (intro w hSw; (try dsimp only at hSw); go_simp; first | done | with_reducible rfl)
  try simp only [Act.put, List.getElem_toArray, List.getElem_cons_zero, List.getElem_cons_succ, List.setIfInBounds_toArray, List.set_cons_zero, List.set_cons_succ]
  refine wpAnyH_take (i := 4) (oi := _) (v := ?vy21v4) rfl (by kernel_rfl) (by kernel_rfl) (by kernel_rfl) (fun _ _ _ h => h) (Or.inl ⟨by rfl, ?hyy21v4⟩) hHeld ?resty21v4
  case hyy21v4 => (intro w hSw; (try dsimp only at hSw); go_simp; first | done | with_reducible rfl)
  try simp only [Act.put, List.getElem_toArray, List.getElem_cons_zero, List.getElem_cons_succ, List.setIfInBounds_toArray, List.set_cons_zero, List.set_cons_succ]
  refine wpAnyH_take (i := 5) (oi := _) (v := ?vy21v5) rfl (by kernel_rfl) (by kernel_rfl) (by kernel_rfl) (fun _ _ _ h => h) (Or.inl ⟨by rfl, ?hyy21v5⟩) hHeld ?resty21v5
  case hyy21v5 => (intro w hSw; (try dsimp only at hSw); go_simp; first | done | with_reducible rfl)
  try simp only [Act.put, List.getElem_toArray, List.getElem_cons_zero, List.getElem_cons_succ, List.setIfInBounds_toArray, List.set_cons_zero, List.set_cons_succ]
  refine wpAnyH_take (i := 6) (oi := _) (v := ?vy21v6) rfl (by kernel_rfl) (by kernel_rfl) (by kernel_rfl) (fun _ _ _ h => h) (Or.inl ⟨by rfl, ?hyy21v6⟩) hHeld ?resty21v6
  case hyy21v6 => (intro w hSw; (try dsimp only at hSw); go_simp; first | done | with_reducible rfl)
  try simp only [Act.put, List.getElem_toArray, List.getElem_cons_zero, List.getElem_cons_succ, List.setIfInBounds_toArray, List.set_cons_zero, List.set_cons_succ]
  refine wpAnyH_ready (rs := [7]) (by kernel_rfl) (by simp) ?_
  refine AllReadyH.cons (o := _) rfl (fun K0 hK0 => ?_) AllReadyH.nil
  rw [if_pos (by rfl)]
  refine wp_stroke w6 28 _ _ rfl (w.heap.size + 1) 0 #[.int .i64 0, .int .i64 v, .slice c n d] rfl rfl HT.out (by kernel_rfl) (by kernel_rfl) hw6.out ?_
  refine hK0.out _ _ KA.out (fun hHeld => ?_)
  clear hK0 K0
  refine wpAnyH_done (by kernel_rfl) ?_ _
  go_wp2
  refine bodyPost_ret (v := .agg #[.int .i64 0, .int .i64 v, .slice c n d]) (results_row Tryz.results46 _ _ (w.heap.size + 1) [.int .i64 0, .int .i64 v, .slice c n d] _ rfl VF.out Tryz.underlying28 rfl (by kernel_rfl)) rfl ⟨rfl, BR.out⟩

end Go.Proofs.YtfldgeokigcokaaGreat

/- readOrFault: a term. -/
namespace Go.Proofs.YtfldgeokigcokaaGreat
open Go.RowKit

theorem catchOn_TermResult (C : Nat) (k : Int) (w : World) (hv : V w C [.int .i64 0]) :
    CallsD Tryz.prog 40 #[.pointer (some ⟨C, 0, none⟩)] (.panicking [{ v := .iface 105 (.int .i64 k), recovered := false }]) w fun e u' w' =>
      e = .returned (.tuple #[]) ∧ u' = .panicking [{ v := .iface 105 (.int .i64 k), recovered := true }] ∧ V w' C [.int .i64 k] ∧ Below C w w' := by
  refine callsD_of_wpS Tryz.func40 rfl fun c₀ cs hu => ?_
  apply wpS_seq
  apply wpS_region
  simp [wpOpsS, go_sem, recoverD, hu, Tryz.ntmps40, Exit.thenS]
  refine wpS_of_wp ?_
  change Code.wp _ _ _ { tmps := #[.pointer (some ⟨C, 0, none⟩), .iface 105 (.int .i64 k), .iface 105 (.int .i64 k), undef, undef, undef, undef], defers := [] } _
  obtain ⟨s0, f0, z0⟩ := hv.open
  go_wp2_with (go_at_call 41; refine (faultCode_ok k _).mono ?_; rintro e w2 ⟨rfl, rfl⟩)
  have hv8 := hv.set (i := 0) (by simp) (.int .i64 k)
  simp only [List.set_cons_zero] at hv8
  have HV := Hid.mk hv8
  have HB := Hid.mk ((Below.refl C w2).setCell (p := ⟨C, 0, none⟩) (Nat.le_refl _) (.int .i64 k))
  clear hv8 hv f0 z0
  simp [bodyPostS, results, Tryz.results40]
  exact ⟨HV.out, HB.out⟩

theorem catchOff_TermResult (C : Nat) (w : World) :
    CallsD Tryz.prog 40 #[.pointer (some ⟨C, 0, none⟩)] .returning w fun e u' w' => e = .returned (.tuple #[]) ∧ u' = .returning ∧ w' = w := by
  refine callsD_of_wpS Tryz.func40 rfl fun c₀ cs hu => ?_
  apply wpS_seq
  apply wpS_region
  simp [wpOpsS, go_sem, recoverD, hu, Tryz.ntmps40, Exit.thenS]
  refine wpS_of_wp ?_
  change Code.wp _ _ _ { tmps := #[.pointer (some ⟨C, 0, none⟩), .nilIface, .nilIface, undef, undef, undef, undef], defers := [] } _
  go_wp2
  cases c₀
  simp_all [bodyPostS, results, Tryz.results40]

set_option maxHeartbeats 1000000 in
theorem rofNo_TermResult (D : Nat) (k : Int) (w : World)
    (C : Hid (Calls Tryz.prog 20 #[.pointer (some ⟨D, 0, none⟩)] ((w.alloc (.cells #[.int .i64 0, .int .i64 0, .slice none 0 0] 28)).alloc (.cells #[.int .i64 0] 2)) fun e w' => e = stop k ∧ Below (w.heap.size + 2) ((w.alloc (.cells #[.int .i64 0, .int .i64 0, .slice none 0 0] 28)).alloc (.cells #[.int .i64 0] 2)) w')) :
    Calls Tryz.prog 19 #[.func (.func 20) #[] #[.pointer (some ⟨D, 0, none⟩)]] w fun e w' => e = .returned (.tuple #[.agg #[.int .i64 0, .int .i64 0, .slice none 0 0], .int .i64 k]) ∧ Below w.heap.size w w' := by
  have hmf : ∀ (fn : Fn) (first cap : Array Value) (w : World), (Instr.makeFunc fn first cap).run Tryz.prog w = .ok (.func fn first cap) w := fun _ _ _ _ => rfl
  go_enter_defers Tryz.func19, Tryz.ntmps19
  go_wp2_with fail
  refine C.out.mono ?_
  rintro e w1 ⟨rfl, b1⟩
  have VT := ((V.new w [.int .i64 0, .int .i64 0, .slice none 0 0] 28).kept (belowA _ (.cells #[.int .i64 0] 2))).keptB (base := w.heap.size + 2) (by omega) b1
  have VC : V ((w.alloc (.cells #[.int .i64 0, .int .i64 0, .slice none 0 0] 28)).alloc (.cells #[.int .i64 0] 2)) (w.heap.size + 1) [.int .i64 0] := V.newAt _ _ _ _ (by simp)
  replace VC := VC.keptB (base := w.heap.size + 2) (by omega) b1
  have B := (belowA2 w _ _).trans (b1.mono (by omega))
  clear b1
  go_wp2
  refine leaves_cons (f := 40) (args := #[.pointer (some ⟨w.heap.size + 1, 0, none⟩)]) (by simp) (by simp [go_sem]) ?_
  refine (catchOn_TermResult (w.heap.size + 1) k _ VC).mono ?_
  rintro e u' w2 ⟨rfl, rfl, V2, b2⟩
  have VT2 := VT.keptB (base := w.heap.size + 1) (by omega) b2
  obtain ⟨s0, f0, z0⟩ := V2.open
  obtain ⟨s1, f1, z1⟩ := VT2.open
  have B2 := B.trans (b2.mono (by omega))
  simp [Leaves, settle, results, Tryz.results19, go_sem, f0, f1]
  exact B2

set_option maxHeartbeats 1000000 in
theorem rofYes_TermResult (D : Nat) (kc kk : Int) (n : Nat) (l : List T4) (w : World)
    (C : Hid (Calls Tryz.prog 20 #[.pointer (some ⟨D, 0, none⟩)] ((w.alloc (.cells #[.int .i64 0, .int .i64 0, .slice none 0 0] 28)).alloc (.cells #[.int .i64 0] 2)) fun e w' => ∃ c d, e = .returned (.agg #[.int .i64 kc, .int .i64 kk, .slice c n d]) ∧ OwnTerm w' (w.heap.size + 2) c d l ∧ Below (w.heap.size + 2) ((w.alloc (.cells #[.int .i64 0, .int .i64 0, .slice none 0 0] 28)).alloc (.cells #[.int .i64 0] 2)) w')) :
    Calls Tryz.prog 19 #[.func (.func 20) #[] #[.pointer (some ⟨D, 0, none⟩)]] w fun e w' => ∃ c d, e = .returned (.tuple #[.agg #[.int .i64 kc, .int .i64 kk, .slice c n d], .int .i64 0]) ∧ OwnTerm w' w.heap.size c d l ∧ Below w.heap.size w w' := by
  have hmf : ∀ (fn : Fn) (first cap : Array Value) (w : World), (Instr.makeFunc fn first cap).run Tryz.prog w = .ok (.func fn first cap) w := fun _ _ _ _ => rfl
  go_enter_defers Tryz.func19, Tryz.ntmps19
  go_wp2_with fail
  refine C.out.mono ?_
  rintro e w1 ⟨c, d, rfl, o, b1⟩
  have VT := ((V.new w [.int .i64 0, .int .i64 0, .slice none 0 0] 28).kept (belowA _ (.cells #[.int .i64 0] 2))).keptB (base := w.heap.size + 2) (by omega) b1
  have VC : V ((w.alloc (.cells #[.int .i64 0, .int .i64 0, .slice none 0 0] 28)).alloc (.cells #[.int .i64 0] 2)) (w.heap.size + 1) [.int .i64 0] := V.newAt _ _ _ _ (by simp)
  replace VC := VC.keptB (base := w.heap.size + 2) (by omega) b1
  have B := (belowA2 w _ _).trans (b1.mono (by omega))
  have O := Hid.mk o
  obtain ⟨s0, f0, z0⟩ := VT.open
  obtain ⟨s1, f1, z1⟩ := VC.open
  clear b1 o
  go_wp2
  refine leaves_cons (f := 40) (args := #[.pointer (some ⟨w.heap.size + 1, 0, none⟩)]) (by simp) (by simp [go_sem]) ?_
  refine (catchOff_TermResult (w.heap.size + 1) _).mono ?_
  rintro e u' w2 ⟨rfl, rfl, rfl⟩
  simp [Leaves, settle, results, Tryz.results19, go_sem, f0, f1]
  refine ⟨c, d, ⟨rfl, rfl⟩, ?_, ?_⟩
  · refine OwnTerm.mono (base := w.heap.size + 2) ?_ (by omega)
    repeat' first | with_reducible exact O.out | with_reducible refine OwnTerm.below ?_ ?_ _ | (simp; try omega)
  · repeat' first | with_reducible exact B | with_reducible refine Below.setCell ?_ ?_ _ | (simp; try omega)

end Go.Proofs.YtfldgeokigcokaaGreat
