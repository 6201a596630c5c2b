/- A number put into a rising list; the fault of what is known: the model. The fault of what is known; what can be made: the model. What can be made of what is known: the model. All that lies open is opened: the model. -/
import Derived.Test.YteeoodbmgheikaaKA
import Derived.Test.YteeoodbmgheikaaTmW
import Derived.Test.YteeoodbmgheikaaHeld
import Derived.Test.YteeoodbmgheikaaIntA
import Derived.Deep.RegionHeld
import Derived.Test.YteeoodbmgheikaaKB
import Derived.Deep.CutBlock
namespace Go.Proofs.Yteeoodbmgheikaa
section
open Go.RowKit

/-- Numbers from wherever put behind an own row. -/
theorem wp_appI {o : Oper} {a : Act} {K : Act → World → Prop} {Q : Exit → Act → World → Prop} (w : World) (s x : Operand)
    (ho : o.op = .call { callee := .builtin .append, args := #[s, x], argTypes := #[25, 25] })
    (base : Nat) (g d : Nat) (xs : List Int) (n : Nat) (hn : xs.length = n) (hs : a.eval s = .slice (some ⟨g, 0, none⟩) n d) (hown : Own .i64 2 w base (some ⟨g, 0, none⟩) d xs)
    (ad : Addr) (m cc : Nat) (zs : List Int) (hm : zs.length = m) (hx : a.eval x = .slice (some ad) m cc) (hr : Rd .i64 w (some ad) zs) (hlen : n + m ≤ 1000000) (hbase : base ≤ w.heap.size)
    (h : ∀ g' d' w', Own .i64 2 w' base (some ⟨g', 0, none⟩) d' (xs ++ zs) → w.grownBy w' (some g) → K (a.put o.dst (.slice (some ⟨g', 0, none⟩) (n + m) d')) w') : o.wp Try.prog a w K Q := by
  subst hn hm
  obtain ⟨i, hi, hz, hsz, hby⟩ := info_parts Try.infoI64
  refine wp_append_own w s x 25 ho base 2 i _ 1 8 Try.underlying25 hi hz hsz hby (by rfl) (by decide) (.slice (some ⟨g, 0, none⟩) xs.length d) xs.length (xs.map (Value.int .i64)) hs hown ad zs.length cc (zs.map (Value.int .i64)) hx (by simp) (fun j u hj => ?_) (ints_oneCell _ _) (by unfold maxLen; omega) (by omega) hbase fun v' w' h1 h2 h3 => ?_
  · rcases hr with h0 | ⟨b, off, h0, hcell⟩
    · subst h0; simp at hj
    · simp only [Option.some.injEq] at h0
      subst h0
      have hj' : j < zs.length := by
        rcases Nat.lt_or_ge j zs.length with h | h
        · exact h
        · simp [List.getElem?_eq_none h] at hj
      rw [Addr.add_lit, hcell j hj']
      simp [hj'] at hj
      subst hj
      simp [List.getD, hj']
  · have e1 : xs.map (Value.int .i64) ++ zs.map (Value.int .i64) = (xs ++ zs).map (Value.int .i64) := by simp
    rw [e1] at h1
    rcases h1.2 with ⟨h4, _⟩ | ⟨g', cap', cur, h4, _⟩
    · rw [h3] at h4; simp at h4
    · subst h4
      refine h g' cap' w' ?_ h2
      unfold Own
      rw [List.length_append]
      exact h1

theorem step_appI {ops : Array Oper} {o : Oper} {a : Act} {K : Act → World → Prop} {Q : Exit → Act → World → Prop} {E : Prop} (w : World) (hgd : o.guard = none) (s x : Operand)
    (ho : o.op = .call { callee := .builtin .append, args := #[s, x], argTypes := #[25, 25] })
    (base : Nat) (g d : Nat) (xs : List Int) (n : Nat) (hn : xs.length = n) (hs : a.eval s = .slice (some ⟨g, 0, none⟩) n d) (hown : Own .i64 2 w base (some ⟨g, 0, none⟩) d xs)
    (ad : Addr) (m cc : Nat) (zs : List Int) (hm : zs.length = m) (hx : a.eval x = .slice (some ad) m cc) (hr : Rd .i64 w (some ad) zs) (hlen : n + m ≤ 1000000) (hbase : base ≤ w.heap.size)
    (h : ∀ g' d' w', Own .i64 2 w' base (some ⟨g', 0, none⟩) d' (xs ++ zs) → w.grownBy w' (some g) → K (a.put o.dst (.slice (some ⟨g', 0, none⟩) (n + m) d')) w') :
    if Region.wanted o (yielded ops a.tmps) = true then Oper.wp Try.prog o a w K Q else E := by
  have hw : Region.wanted o (yielded ops a.tmps) = true := by simp [Region.wanted, hgd]
  rw [if_pos hw]
  exact wp_appI w s x ho base g d xs n hn hs hown ad m cc zs hm hx hr hlen hbase h

theorem wpList_appI {ops : Array Oper} {rest : List Oper} {o : Oper} {a : Act} {Q : Exit → Act → World → Prop} (w : World) (hgd : o.guard = none) (s x : Operand)
    (ho : o.op = .call { callee := .builtin .append, args := #[s, x], argTypes := #[25, 25] })
    (base : Nat) (g d : Nat) (xs : List Int) (n : Nat) (hn : xs.length = n) (hs : a.eval s = .slice (some ⟨g, 0, none⟩) n d) (hown : Own .i64 2 w base (some ⟨g, 0, none⟩) d xs)
    (ad : Addr) (m cc : Nat) (zs : List Int) (hm : zs.length = m) (hx : a.eval x = .slice (some ad) m cc) (hr : Rd .i64 w (some ad) zs) (hlen : n + m ≤ 1000000) (hbase : base ≤ w.heap.size)
    (h : ∀ g' d' w', Own .i64 2 w' base (some ⟨g', 0, none⟩) d' (xs ++ zs) → w.grownBy w' (some g) → wpList Try.prog ops Q rest (a.put o.dst (.slice (some ⟨g', 0, none⟩) (n + m) d')) w') : wpList Try.prog ops Q (o :: rest) a w :=
  wpList_plain hgd fun _ hK => wp_appI w s x ho base g d xs n hn hs hown ad m cc zs hm hx hr hlen hbase fun g' d' w' h2 h3 => hK _ _ (h g' d' w' h2 h3)

theorem Rd.part {k : IntKind} {w : World} {b off : Nat} {l : List Int} (h : Rd k w (some ⟨b, off, none⟩) l) (p : Nat) : Rd k w (some ⟨b, off, none⟩) (l.take p) ∧ Rd k w (some ⟨b, off + p, none⟩) (l.drop p) := by
  rcases h with rfl | ⟨b', o', h0, hc⟩
  · exact ⟨.inl (by simp), .inl (by simp)⟩
  · simp only [Option.some.injEq, Addr.mk.injEq, and_true] at h0
    obtain ⟨rfl, rfl⟩ := h0
    refine ⟨.inr ⟨b, off, rfl, fun i hi => ?_⟩, .inr ⟨b, off + p, rfl, fun i hi => ?_⟩⟩
    · rw [List.length_take] at hi
      rw [hc i (by omega)]
      simp [List.getD, show i < p by omega]
    · rw [List.length_drop] at hi
      rw [Nat.add_assoc, hc (p + i) (by omega)]
      simp [List.getD, List.getElem?_drop]

theorem Rd.grownI {w w' : World} {b : Nat} {zs : List Int} {g : Nat} (h : Rd .i64 w (some ⟨b, 0, none⟩) zs) (hg : w.grownBy w' (some g)) (hne : b ≠ g) : Rd .i64 w' (some ⟨b, 0, none⟩) zs :=
  h.sm (X := fun k => k = g) (Sm.grown hg (fun k e => by cases e; rfl)) (fun bb hb e => by cases hb; exact hne e)

theorem belowG1 {B : Nat} {a w w' : World} {g : Nat} (h : Below B a w) (hg : w.grownBy w' (some g)) (hB : B ≤ w.heap.size) (hc : B ≤ g) : Below B a w' := h.grown hg hB fun k hk => by cases hk; exact hc

theorem rise_len (l : List Int) (v : Int) (h : Rising l) : (rise l v).length ≤ l.length + 1 := by
  have := nodup_sub_int (rise l v) (v :: l) (rise_rising h).nodup (fun x hx => by
    rcases rise_mem.1 hx with rfl | hx
    · simp
    · simp [hx])
  simpa using this

set_option maxRecDepth 20000 in
set_option maxHeartbeats 8000000 in
theorem l1Rise_ok (base g d : Nat) (l : List Int) (n : Nat) (v : Int) (w : World) (O : Own .i64 2 w base (some ⟨g, 0, none⟩) d l) (hn : l.length = n) (hr : Rising l) (hlen : n ≤ 500) :
    Calls Try.prog 60 #[.slice (some ⟨g, 0, none⟩) n d, .int .i64 v] w fun e w' => ∃ g2 d2 k, e = .returned (.slice (some ⟨g2, 0, none⟩) k d2) ∧ (rise l v).length = k ∧ Own .i64 2 w' base (some ⟨g2, 0, none⟩) d2 (rise l v) ∧ Below w.heap.size w w' := by
  have hcap := O.cap
  rw [hn] at hcap
  have hgl := O.lt _ rfl
  simp only at hgl
  have ha := O.rd
  replace O := Hid.mk O
  have hca : ∀ i, i < n → w.cell? ⟨g, i, none⟩ = some (.int .i64 (l.getD i 0)) := by
    intro i hi
    rcases ha with h0 | ⟨b, o, h0, hc⟩
    · rw [h0] at hn; simp at hn; omega
    · simp only [Option.some.injEq, Addr.mk.injEq, and_true] at h0
      obtain ⟨rfl, rfl⟩ := h0
      have := hc i (by omega)
      rwa [Nat.zero_add] at this
  replace ha := Hid.mk ha
  replace hca := Hid.mk hca
  obtain ⟨R, hR⟩ : ∃ R, rise l v = R := ⟨_, rfl⟩
  rw [hR]
  go_enter Try.func60, Try.ntmps60
  go_wp2
  go_loopw [5] (fun i wr => ∃ p : Nat, p ≤ n ∧ i = .int .i64 p ∧ (∀ i, i < p → l.getD i 0 < v) ∧ w = wr) (fun i _ => n - (intOf i).toNat)
  case atStart => exact ⟨0, Nat.zero_le _, rfl, fun i hi => by omega, rfl⟩
  case round =>
    obtain ⟨p, hp, rfl, hlo, rfl⟩ := hrel
    have hd1 : (p : Int) ≤ (d : Int) := by omega
    have hd2 : (p : Int) ≤ (n : Int) := by omega
    by_cases hlt : p < n
    · have hp1 : (p : Int) < (n : Int) := by omega
      obtain ⟨z, hz⟩ : ∃ z, l.getD p 0 = z := ⟨_, rfl⟩
      have p0 := hca.out p hlt
      rw [hz] at p0
      by_cases hzv : z < v
      · have dz : decide (z < v) = true := by simp [hzv]
        have hlo2 : ∀ i, i < p + 1 → l.getD i 0 < v := fun i hi => by
          by_cases e : i = p
          · subst e; rw [hz]; exact hzv
          · exact hlo i (by omega)
        replace hlo2 := Hid.mk hlo2
        clear hlo hz hzv
        go_wp2
        go_roundw
        case rel => exact ⟨p + 1, by omega, by go_num, hlo2.out, by trivial⟩
        case measure => first | (simp [intOf]; done) | (simp [intOf]; omega)
      · have dz : decide (z < v) = false := by simp; omega
        by_cases he : z = v
        · have hri := rise_here (l := l) (p := p) (by omega) (show l.getD p 0 = v by omega)
          have HR := Hid.mk (hR.symm.trans hri)
          have de : (z == v) = true := by simp [he]
          clear hlo hz hzv hri he
          go_wp2
          go_ret
          exact ⟨g, d, n, rfl, by rw [HR.out]; exact hn, by rw [HR.out]; exact O.out, Below.refl _ _⟩
        · have hri := rise_at hr (p := p) (v := v) (by omega) hlo (fun _ => by omega)
          have de : (z == v) = false := by simp [he]
          have HR := Hid.mk (hR.symm.trans hri)
          clear hlo hz hzv hri he hR
          obtain ⟨ad, hadE, hadR⟩ : ∃ ad : Addr, (if d = p then (some ⟨g, 0, none⟩ : Option Addr) else some ⟨g, p, none⟩) = some ad ∧ Hid (∀ w' : World, Below w.heap.size w w' → Rd .i64 w' (some ad) (l.drop p)) := by
            by_cases e : d = p
            · exact ⟨_, if_pos e, Hid.mk (fun w' _ => .inl (List.drop_of_length_le (by omega)))⟩
            · refine ⟨_, if_neg e, Hid.mk (fun w' bz => ?_)⟩
              have := (Rd.part (ha.out.kept bz) p).2
              rwa [Nat.zero_add] at this
          go_upto_region 6 with fail
          refine wp_region_any (by kernel_rfl) ?_
          change wpAny _ _ _ _ _ _ _ w.drew
          have bd : Below w.heap.size w w.drew := (Below.refl _ _).drew
          have B := bd
          clear bd
          generalize w.drew = wd at *
          refine wpAny_take (i := 1) (oi := _) (v := ?vtt1) rfl (by kernel_rfl) (by kernel_rfl) (by kernel_rfl) (fun _ _ _ h => h) (Or.inl ⟨by rfl, ?hytt1⟩) ?resttt1
          case hytt1 => (intro w; go_simp; first | done | with_reducible rfl)
          try simp only [Act.put, List.getElem_toArray, List.getElem_cons_zero, List.getElem_cons_succ, List.setIfInBounds_toArray, List.set_cons_zero, List.set_cons_succ]
          refine wpAny_take (i := 2) (oi := _) (v := ?vtt2) rfl (by kernel_rfl) (by kernel_rfl) (by kernel_rfl) (fun _ _ _ h => h) (Or.inl ⟨by rfl, ?hytt2⟩) ?resttt2
          case hytt2 => (intro w; go_simp; first | done | with_reducible rfl)
          try simp only [Act.put, List.getElem_toArray, List.getElem_cons_zero, List.getElem_cons_succ, List.setIfInBounds_toArray, List.set_cons_zero, List.set_cons_succ]
          refine wpAny_take (i := 3) (oi := _) (v := ?vtt3) rfl (by kernel_rfl) (by kernel_rfl) (by kernel_rfl) (fun _ _ _ h => h) (Or.inl ⟨by rfl, ?hytt3⟩) ?resttt3
          case hytt3 => (intro w; go_simp; first | done | with_reducible rfl)
          try simp only [Act.put, List.getElem_toArray, List.getElem_cons_zero, List.getElem_cons_succ, List.setIfInBounds_toArray, List.set_cons_zero, List.set_cons_succ]
          refine wpAny_take (i := 5) (oi := _) (v := ?vtt4) rfl (by kernel_rfl) (by kernel_rfl) (by kernel_rfl) (fun _ _ _ h => h) (Or.inl ⟨by rfl, ?hytt4⟩) ?resttt4
          case hytt4 => (intro w; go_simp; first | done | with_reducible rfl)
          try simp only [Act.put, List.getElem_toArray, List.getElem_cons_zero, List.getElem_cons_succ, List.setIfInBounds_toArray, List.set_cons_zero, List.set_cons_succ]
          refine wpAny_take (i := 8) (oi := _) (v := ?vtt5) rfl (by kernel_rfl) (by kernel_rfl) (by kernel_rfl) (fun _ _ _ h => h) (Or.inl ⟨by rfl, ?hytt5⟩) ?resttt5
          case hytt5 => (intro w; go_simp; first | done | with_reducible rfl)
          try simp only [Act.put, List.getElem_toArray, List.getElem_cons_zero, List.getElem_cons_succ, List.setIfInBounds_toArray, List.set_cons_zero, List.set_cons_succ]
          refine wpAny_take (i := 9) (oi := _) (v := ?vtt6) rfl (by kernel_rfl) (by kernel_rfl) (by kernel_rfl) (fun _ _ _ h => h) (Or.inl ⟨by rfl, ?hytt6⟩) ?resttt6
          case hytt6 => (intro w; go_simp; first | done | with_reducible rfl)
          try simp only [Act.put, List.getElem_toArray, List.getElem_cons_zero, List.getElem_cons_succ, List.setIfInBounds_toArray, List.set_cons_zero, List.set_cons_succ]
          refine wpAny_take (i := 10) (oi := _) (v := ?vtt7) rfl (by kernel_rfl) (by kernel_rfl) (by kernel_rfl) (fun _ _ _ h => h) (Or.inl ⟨by rfl, ?hytt7⟩) ?resttt7
          case hytt7 => (intro w; go_simp; first | done | with_reducible rfl)
          try simp only [Act.put, List.getElem_toArray, List.getElem_cons_zero, List.getElem_cons_succ, List.setIfInBounds_toArray, List.set_cons_zero, List.set_cons_succ]
          try rw [hadE]
          refine wpAny_ready (rs := [0, 6]) (by kernel_rfl) (by simp) ?_
          refine AllReady.cons (o := _) rfl (fun K0 hK0 => ?_) (AllReady.cons (o := _) rfl (fun K0 hK0 => ?_) AllReady.nil)
          · skip
            go_simp
            have bb := belowA wd (.cells #[] 2)
            have O1 := (OwnI.lit wd [] [] rfl (Nat.zero_le _)).mono (base' := w.heap.size) (by have := B.size; omega)
            replace B := thenB B bb
            refine hK0 _ _ ?_
            clear hK0 K0 bb
            try simp only [Act.put, List.getElem_toArray, List.getElem_cons_zero, List.getElem_cons_succ, List.setIfInBounds_toArray, List.set_cons_zero, List.set_cons_succ]
            have z0 : (wd.alloc (.cells #[] 2)).heap.size = wd.heap.size + 1 := by simp
            obtain ⟨g0, hg0⟩ : ∃ g, wd.heap.size = g := ⟨_, rfl⟩
            have hb0 := O1.lt _ rfl
            rw [hg0] at O1 z0 hb0 ⊢
            simp only at hb0
            generalize wd.alloc (.cells #[] 2) = w0 at *
            replace z0 := Hid.mk z0
            replace hg0 := Hid.mk hg0
            refine wpAny_ready (rs := [4, 6]) (by kernel_rfl) (by simp) ?_
            refine AllReady.cons (o := _) rfl (fun K0 hK0 => ?_) (AllReady.cons (o := _) rfl (fun K0 hK0 => ?_) AllReady.nil)
            · skip
              refine step_appI w0 (by rfl) (.tmp 33) (.tmp 36) (by rfl) w.heap.size g0 _ [] 0 rfl (by rfl) O1 ⟨g, 0, none⟩ p d (l.take p) (by rw [List.length_take]; omega) (by rfl) (Rd.part (ha.out.kept B) p).1 (by omega) (by have := B.size; omega) ?_
              intro g4 d4 w4 O4 hg4
              have bs := B.size
              replace B := belowG1 B hg4 bs hb0.1
              refine hK0 _ _ ?_
              clear hK0 K0 O1 hg4 bs
              try simp only [Act.put, List.getElem_toArray, List.getElem_cons_zero, List.getElem_cons_succ, List.setIfInBounds_toArray, List.set_cons_zero, List.set_cons_succ]
              simp only [List.nil_append] at O4
              try simp only [Nat.zero_add]
              have O1 := O4
              clear O4
              refine wpAny_ready (rs := [6]) (by kernel_rfl) (by simp) ?_
              refine AllReady.cons (o := _) rfl (fun K0 hK0 => ?_) AllReady.nil
              go_simp
              have bb := belowA w4 (.cells #[.int .i64 v] 2)
              have Ov := (OwnI.lit w4 [v] [.int .i64 v] rfl (by unfold maxLen; simp)).rd
              replace O1 := O1.kept bb
              replace B := thenB B bb
              refine hK0 _ _ ?_
              clear hK0 K0 bb
              try simp only [Act.put, List.getElem_toArray, List.getElem_cons_zero, List.getElem_cons_succ, List.setIfInBounds_toArray, List.set_cons_zero, List.set_cons_succ]
              have z6 : (w4.alloc (.cells #[.int .i64 v] 2)).heap.size = w4.heap.size + 1 := by simp
              obtain ⟨gv, hgv⟩ : ∃ g, w4.heap.size = g := ⟨_, rfl⟩
              rw [hgv] at Ov z6 ⊢
              generalize w4.alloc (.cells #[.int .i64 v] 2) = w6 at *
              replace z6 := Hid.mk z6
              replace hgv := Hid.mk hgv
              refine wpAny_ready (rs := [7]) (by kernel_rfl) (by simp) ?_
              refine AllReady.cons (o := _) rfl (fun K0 hK0 => ?_) AllReady.nil
              refine step_appI w6 (by rfl) (.tmp 37) (.tmp 39) (by rfl) w.heap.size g4 _ (l.take p) p (by rw [List.length_take]; omega) (by rfl) O1 ⟨gv, 0, none⟩ 1 1 [v] rfl (by rfl) Ov (by omega) (by have := B.size; omega) ?_
              intro g7 d7 w7 O7 hg7
              have bs := B.size
              replace B := belowG1 B hg7 bs (O1.lt _ rfl).1
              refine hK0 _ _ ?_
              clear hK0 K0 O1 hg7 bs Ov
              try simp only [Act.put, List.getElem_toArray, List.getElem_cons_zero, List.getElem_cons_succ, List.setIfInBounds_toArray, List.set_cons_zero, List.set_cons_succ]
              refine wpAny_ready (rs := [11]) (by kernel_rfl) (by simp) ?_
              refine AllReady.cons (o := _) rfl (fun K0 hK0 => ?_) AllReady.nil
              refine step_appI w7 (by rfl) (.tmp 40) (.tmp 43) (by rfl) w.heap.size g7 _ (l.take p ++ [v]) (p + 1) (by rw [List.length_append, List.length_take]; simp; omega) (by rfl) O7 ad (n - p) (d - p) (l.drop p) (by rw [List.length_drop]; omega) (by rfl) (hadR.out w7 B) (by omega) (by have := B.size; omega) ?_
              intro g9 d9 w9 O9 hg9
              have bs := B.size
              replace B := belowG1 B hg9 bs (O7.lt _ rfl).1
              refine hK0 _ _ ?_
              clear hK0 K0 O7 hg9 bs
              try simp only [Act.put, List.getElem_toArray, List.getElem_cons_zero, List.getElem_cons_succ, List.setIfInBounds_toArray, List.set_cons_zero, List.set_cons_succ]
              refine wpAny_take (i := 12) (oi := _) (v := ?vtt8) rfl (by kernel_rfl) (by kernel_rfl) (by kernel_rfl) (fun _ _ _ h => h) (Or.inl ⟨by rfl, ?hytt8⟩) ?resttt8
              case hytt8 => (intro w; go_simp; first | done | with_reducible rfl)
              try simp only [Act.put, List.getElem_toArray, List.getElem_cons_zero, List.getElem_cons_succ, List.setIfInBounds_toArray, List.set_cons_zero, List.set_cons_succ]
              refine wpAny_done (by kernel_rfl) ?_ _
              go_wp2
              go_ret
              rw [List.append_assoc, List.singleton_append, ← HR.out] at O9
              refine ⟨g9, d9, _, rfl, ?_, O9.mono (by omega), B⟩
              rw [HR.out, List.length_append, List.length_cons, List.length_take, List.length_drop]; omega
            · skip
              go_simp
              have bb := belowA w0 (.cells #[.int .i64 v] 2)
              have Ov := (OwnI.lit w0 [v] [.int .i64 v] rfl (by unfold maxLen; simp)).rd
              replace O1 := O1.kept bb
              replace B := thenB B bb
              refine hK0 _ _ ?_
              clear hK0 K0 bb
              try simp only [Act.put, List.getElem_toArray, List.getElem_cons_zero, List.getElem_cons_succ, List.setIfInBounds_toArray, List.set_cons_zero, List.set_cons_succ]
              have z6 : (w0.alloc (.cells #[.int .i64 v] 2)).heap.size = w0.heap.size + 1 := by simp
              obtain ⟨gv, hgv⟩ : ∃ g, w0.heap.size = g := ⟨_, rfl⟩
              rw [hgv] at Ov z6 ⊢
              generalize w0.alloc (.cells #[.int .i64 v] 2) = w6 at *
              replace z6 := Hid.mk z6
              replace hgv := Hid.mk hgv
              refine wpAny_ready (rs := [4]) (by kernel_rfl) (by simp) ?_
              refine AllReady.cons (o := _) rfl (fun K0 hK0 => ?_) AllReady.nil
              refine step_appI w6 (by rfl) (.tmp 33) (.tmp 36) (by rfl) w.heap.size g0 _ [] 0 rfl (by rfl) O1 ⟨g, 0, none⟩ p d (l.take p) (by rw [List.length_take]; omega) (by rfl) (Rd.part (ha.out.kept B) p).1 (by omega) (by have := B.size; omega) ?_
              intro g4 d4 w4 O4 hg4
              have bs := B.size
              replace Ov := Ov.grownI hg4 (by have := z0.out; have := z6.out; have := hg0.out; have := hgv.out; omega)
              replace B := belowG1 B hg4 bs hb0.1
              refine hK0 _ _ ?_
              clear hK0 K0 O1 hg4 bs
              try simp only [Act.put, List.getElem_toArray, List.getElem_cons_zero, List.getElem_cons_succ, List.setIfInBounds_toArray, List.set_cons_zero, List.set_cons_succ]
              simp only [List.nil_append] at O4
              try simp only [Nat.zero_add]
              have O1 := O4
              clear O4
              refine wpAny_ready (rs := [7]) (by kernel_rfl) (by simp) ?_
              refine AllReady.cons (o := _) rfl (fun K0 hK0 => ?_) AllReady.nil
              refine step_appI w4 (by rfl) (.tmp 37) (.tmp 39) (by rfl) w.heap.size g4 _ (l.take p) p (by rw [List.length_take]; omega) (by rfl) O1 ⟨gv, 0, none⟩ 1 1 [v] rfl (by rfl) Ov (by omega) (by have := B.size; omega) ?_
              intro g7 d7 w7 O7 hg7
              have bs := B.size
              replace B := belowG1 B hg7 bs (O1.lt _ rfl).1
              refine hK0 _ _ ?_
              clear hK0 K0 O1 hg7 bs Ov
              try simp only [Act.put, List.getElem_toArray, List.getElem_cons_zero, List.getElem_cons_succ, List.setIfInBounds_toArray, List.set_cons_zero, List.set_cons_succ]
              refine wpAny_ready (rs := [11]) (by kernel_rfl) (by simp) ?_
              refine AllReady.cons (o := _) rfl (fun K0 hK0 => ?_) AllReady.nil
              refine step_appI w7 (by rfl) (.tmp 40) (.tmp 43) (by rfl) w.heap.size g7 _ (l.take p ++ [v]) (p + 1) (by rw [List.length_append, List.length_take]; simp; omega) (by rfl) O7 ad (n - p) (d - p) (l.drop p) (by rw [List.length_drop]; omega) (by rfl) (hadR.out w7 B) (by omega) (by have := B.size; omega) ?_
              intro g9 d9 w9 O9 hg9
              have bs := B.size
              replace B := belowG1 B hg9 bs (O7.lt _ rfl).1
              refine hK0 _ _ ?_
              clear hK0 K0 O7 hg9 bs
              try simp only [Act.put, List.getElem_toArray, List.getElem_cons_zero, List.getElem_cons_succ, List.setIfInBounds_toArray, List.set_cons_zero, List.set_cons_succ]
              refine wpAny_take (i := 12) (oi := _) (v := ?vtt9) rfl (by kernel_rfl) (by kernel_rfl) (by kernel_rfl) (fun _ _ _ h => h) (Or.inl ⟨by rfl, ?hytt9⟩) ?resttt9
              case hytt9 => (intro w; go_simp; first | done | with_reducible rfl)
              try simp only [Act.put, List.getElem_toArray, List.getElem_cons_zero, List.getElem_cons_succ, List.setIfInBounds_toArray, List.set_cons_zero, List.set_cons_succ]
              refine wpAny_done (by kernel_rfl) ?_ _
              go_wp2
              go_ret
              rw [List.append_assoc, List.singleton_append, ← HR.out] at O9
              refine ⟨g9, d9, _, rfl, ?_, O9.mono (by omega), B⟩
              rw [HR.out, List.length_append, List.length_cons, List.length_take, List.length_drop]; omega
          · skip
            go_simp
            have bb := belowA wd (.cells #[.int .i64 v] 2)
            have Ov := (OwnI.lit wd [v] [.int .i64 v] rfl (by unfold maxLen; simp)).rd
            replace B := thenB B bb
            refine hK0 _ _ ?_
            clear hK0 K0 bb
            try simp only [Act.put, List.getElem_toArray, List.getElem_cons_zero, List.getElem_cons_succ, List.setIfInBounds_toArray, List.set_cons_zero, List.set_cons_succ]
            have z6 : (wd.alloc (.cells #[.int .i64 v] 2)).heap.size = wd.heap.size + 1 := by simp
            obtain ⟨gv, hgv⟩ : ∃ g, wd.heap.size = g := ⟨_, rfl⟩
            rw [hgv] at Ov z6 ⊢
            generalize wd.alloc (.cells #[.int .i64 v] 2) = w6 at *
            replace z6 := Hid.mk z6
            replace hgv := Hid.mk hgv
            refine wpAny_ready (rs := [0]) (by kernel_rfl) (by simp) ?_
            refine AllReady.cons (o := _) rfl (fun K0 hK0 => ?_) AllReady.nil
            go_simp
            have bb := belowA w6 (.cells #[] 2)
            have O1 := (OwnI.lit w6 [] [] rfl (Nat.zero_le _)).mono (base' := w.heap.size) (by have := B.size; omega)
            replace Ov := Ov.kept bb
            replace B := thenB B bb
            refine hK0 _ _ ?_
            clear hK0 K0 bb
            try simp only [Act.put, List.getElem_toArray, List.getElem_cons_zero, List.getElem_cons_succ, List.setIfInBounds_toArray, List.set_cons_zero, List.set_cons_succ]
            have z0 : (w6.alloc (.cells #[] 2)).heap.size = w6.heap.size + 1 := by simp
            obtain ⟨g0, hg0⟩ : ∃ g, w6.heap.size = g := ⟨_, rfl⟩
            have hb0 := O1.lt _ rfl
            rw [hg0] at O1 z0 hb0 ⊢
            simp only at hb0
            generalize w6.alloc (.cells #[] 2) = w60 at *
            replace z0 := Hid.mk z0
            replace hg0 := Hid.mk hg0
            refine wpAny_ready (rs := [4]) (by kernel_rfl) (by simp) ?_
            refine AllReady.cons (o := _) rfl (fun K0 hK0 => ?_) AllReady.nil
            refine step_appI w60 (by rfl) (.tmp 33) (.tmp 36) (by rfl) w.heap.size g0 _ [] 0 rfl (by rfl) O1 ⟨g, 0, none⟩ p d (l.take p) (by rw [List.length_take]; omega) (by rfl) (Rd.part (ha.out.kept B) p).1 (by omega) (by have := B.size; omega) ?_
            intro g4 d4 w4 O4 hg4
            have bs := B.size
            replace Ov := Ov.grownI hg4 (by have := z0.out; have := z6.out; have := hg0.out; have := hgv.out; omega)
            replace B := belowG1 B hg4 bs hb0.1
            refine hK0 _ _ ?_
            clear hK0 K0 O1 hg4 bs
            try simp only [Act.put, List.getElem_toArray, List.getElem_cons_zero, List.getElem_cons_succ, List.setIfInBounds_toArray, List.set_cons_zero, List.set_cons_succ]
            simp only [List.nil_append] at O4
            try simp only [Nat.zero_add]
            have O1 := O4
            clear O4
            refine wpAny_ready (rs := [7]) (by kernel_rfl) (by simp) ?_
            refine AllReady.cons (o := _) rfl (fun K0 hK0 => ?_) AllReady.nil
            refine step_appI w4 (by rfl) (.tmp 37) (.tmp 39) (by rfl) w.heap.size g4 _ (l.take p) p (by rw [List.length_take]; omega) (by rfl) O1 ⟨gv, 0, none⟩ 1 1 [v] rfl (by rfl) Ov (by omega) (by have := B.size; omega) ?_
            intro g7 d7 w7 O7 hg7
            have bs := B.size
            replace B := belowG1 B hg7 bs (O1.lt _ rfl).1
            refine hK0 _ _ ?_
            clear hK0 K0 O1 hg7 bs Ov
            try simp only [Act.put, List.getElem_toArray, List.getElem_cons_zero, List.getElem_cons_succ, List.setIfInBounds_toArray, List.set_cons_zero, List.set_cons_succ]
            refine wpAny_ready (rs := [11]) (by kernel_rfl) (by simp) ?_
            refine AllReady.cons (o := _) rfl (fun K0 hK0 => ?_) AllReady.nil
            refine step_appI w7 (by rfl) (.tmp 40) (.tmp 43) (by rfl) w.heap.size g7 _ (l.take p ++ [v]) (p + 1) (by rw [List.length_append, List.length_take]; simp; omega) (by rfl) O7 ad (n - p) (d - p) (l.drop p) (by rw [List.length_drop]; omega) (by rfl) (hadR.out w7 B) (by omega) (by have := B.size; omega) ?_
            intro g9 d9 w9 O9 hg9
            have bs := B.size
            replace B := belowG1 B hg9 bs (O7.lt _ rfl).1
            refine hK0 _ _ ?_
            clear hK0 K0 O7 hg9 bs
            try simp only [Act.put, List.getElem_toArray, List.getElem_cons_zero, List.getElem_cons_succ, List.setIfInBounds_toArray, List.set_cons_zero, List.set_cons_succ]
            refine wpAny_take (i := 12) (oi := _) (v := ?vtt10) rfl (by kernel_rfl) (by kernel_rfl) (by kernel_rfl) (fun _ _ _ h => h) (Or.inl ⟨by rfl, ?hytt10⟩) ?resttt10
            case hytt10 => (intro w; go_simp; first | done | with_reducible rfl)
            try simp only [Act.put, List.getElem_toArray, List.getElem_cons_zero, List.getElem_cons_succ, List.setIfInBounds_toArray, List.set_cons_zero, List.set_cons_succ]
            refine wpAny_done (by kernel_rfl) ?_ _
            go_wp2
            go_ret
            rw [List.append_assoc, List.singleton_append, ← HR.out] at O9
            refine ⟨g9, d9, _, rfl, ?_, O9.mono (by omega), B⟩
            rw [HR.out, List.length_append, List.length_cons, List.length_take, List.length_drop]; omega
    · obtain rfl : p = n := by omega
      have hri := rise_at hr (p := p) (v := v) (by omega) hlo (fun h => by omega)
      have HR := Hid.mk (hR.symm.trans hri)
      clear hlo hri hR
      obtain ⟨ad, hadE, hadR⟩ : ∃ ad : Addr, (if d = p then (some ⟨g, 0, none⟩ : Option Addr) else some ⟨g, p, none⟩) = some ad ∧ Hid (∀ w' : World, Below w.heap.size w w' → Rd .i64 w' (some ad) (l.drop p)) := by
        by_cases e : d = p
        · exact ⟨_, if_pos e, Hid.mk (fun w' _ => .inl (List.drop_of_length_le (by omega)))⟩
        · refine ⟨_, if_neg e, Hid.mk (fun w' bz => ?_)⟩
          have := (Rd.part (ha.out.kept bz) p).2
          rwa [Nat.zero_add] at this
      go_upto_region 6 with fail
      refine wp_region_any (by kernel_rfl) ?_
      change wpAny _ _ _ _ _ _ _ w.drew
      have bd : Below w.heap.size w w.drew := (Below.refl _ _).drew
      have B := bd
      clear bd
      generalize w.drew = wd at *
      refine wpAny_take (i := 1) (oi := _) (v := ?vtt11) rfl (by kernel_rfl) (by kernel_rfl) (by kernel_rfl) (fun _ _ _ h => h) (Or.inl ⟨by rfl, ?hytt11⟩) ?resttt11
      case hytt11 => (intro w; go_simp; first | done | with_reducible rfl)
      try simp only [Act.put, List.getElem_toArray, List.getElem_cons_zero, List.getElem_cons_succ, List.setIfInBounds_toArray, List.set_cons_zero, List.set_cons_succ]
      refine wpAny_take (i := 2) (oi := _) (v := ?vtt12) rfl (by kernel_rfl) (by kernel_rfl) (by kernel_rfl) (fun _ _ _ h => h) (Or.inl ⟨by rfl, ?hytt12⟩) ?resttt12
      case hytt12 => (intro w; go_simp; first | done | with_reducible rfl)
      try simp only [Act.put, List.getElem_toArray, List.getElem_cons_zero, List.getElem_cons_succ, List.setIfInBounds_toArray, List.set_cons_zero, List.set_cons_succ]
      refine wpAny_take (i := 3) (oi := _) (v := ?vtt13) rfl (by kernel_rfl) (by kernel_rfl) (by kernel_rfl) (fun _ _ _ h => h) (Or.inl ⟨by rfl, ?hytt13⟩) ?resttt13
      case hytt13 => (intro w; go_simp; first | done | with_reducible rfl)
      try simp only [Act.put, List.getElem_toArray, List.getElem_cons_zero, List.getElem_cons_succ, List.setIfInBounds_toArray, List.set_cons_zero, List.set_cons_succ]
      refine wpAny_take (i := 5) (oi := _) (v := ?vtt14) rfl (by kernel_rfl) (by kernel_rfl) (by kernel_rfl) (fun _ _ _ h => h) (Or.inl ⟨by rfl, ?hytt14⟩) ?resttt14
      case hytt14 => (intro w; go_simp; first | done | with_reducible rfl)
      try simp only [Act.put, List.getElem_toArray, List.getElem_cons_zero, List.getElem_cons_succ, List.setIfInBounds_toArray, List.set_cons_zero, List.set_cons_succ]
      refine wpAny_take (i := 8) (oi := _) (v := ?vtt15) rfl (by kernel_rfl) (by kernel_rfl) (by kernel_rfl) (fun _ _ _ h => h) (Or.inl ⟨by rfl, ?hytt15⟩) ?resttt15
      case hytt15 => (intro w; go_simp; first | done | with_reducible rfl)
      try simp only [Act.put, List.getElem_toArray, List.getElem_cons_zero, List.getElem_cons_succ, List.setIfInBounds_toArray, List.set_cons_zero, List.set_cons_succ]
      refine wpAny_take (i := 9) (oi := _) (v := ?vtt16) rfl (by kernel_rfl) (by kernel_rfl) (by kernel_rfl) (fun _ _ _ h => h) (Or.inl ⟨by rfl, ?hytt16⟩) ?resttt16
      case hytt16 => (intro w; go_simp; first | done | with_reducible rfl)
      try simp only [Act.put, List.getElem_toArray, List.getElem_cons_zero, List.getElem_cons_succ, List.setIfInBounds_toArray, List.set_cons_zero, List.set_cons_succ]
      refine wpAny_take (i := 10) (oi := _) (v := ?vtt17) rfl (by kernel_rfl) (by kernel_rfl) (by kernel_rfl) (fun _ _ _ h => h) (Or.inl ⟨by rfl, ?hytt17⟩) ?resttt17
      case hytt17 => (intro w; go_simp; first | done | with_reducible rfl)
      try simp only [Act.put, List.getElem_toArray, List.getElem_cons_zero, List.getElem_cons_succ, List.setIfInBounds_toArray, List.set_cons_zero, List.set_cons_succ]
      try rw [hadE]
      refine wpAny_ready (rs := [0, 6]) (by kernel_rfl) (by simp) ?_
      refine AllReady.cons (o := _) rfl (fun K0 hK0 => ?_) (AllReady.cons (o := _) rfl (fun K0 hK0 => ?_) AllReady.nil)
      · skip
        go_simp
        have bb := belowA wd (.cells #[] 2)
        have O1 := (OwnI.lit wd [] [] rfl (Nat.zero_le _)).mono (base' := w.heap.size) (by have := B.size; omega)
        replace B := thenB B bb
        refine hK0 _ _ ?_
        clear hK0 K0 bb
        try simp only [Act.put, List.getElem_toArray, List.getElem_cons_zero, List.getElem_cons_succ, List.setIfInBounds_toArray, List.set_cons_zero, List.set_cons_succ]
        have z0 : (wd.alloc (.cells #[] 2)).heap.size = wd.heap.size + 1 := by simp
        obtain ⟨g0, hg0⟩ : ∃ g, wd.heap.size = g := ⟨_, rfl⟩
        have hb0 := O1.lt _ rfl
        rw [hg0] at O1 z0 hb0 ⊢
        simp only at hb0
        generalize wd.alloc (.cells #[] 2) = w0 at *
        replace z0 := Hid.mk z0
        replace hg0 := Hid.mk hg0
        refine wpAny_ready (rs := [4, 6]) (by kernel_rfl) (by simp) ?_
        refine AllReady.cons (o := _) rfl (fun K0 hK0 => ?_) (AllReady.cons (o := _) rfl (fun K0 hK0 => ?_) AllReady.nil)
        · skip
          refine step_appI w0 (by rfl) (.tmp 33) (.tmp 36) (by rfl) w.heap.size g0 _ [] 0 rfl (by rfl) O1 ⟨g, 0, none⟩ p d (l.take p) (by rw [List.length_take]; omega) (by rfl) (Rd.part (ha.out.kept B) p).1 (by omega) (by have := B.size; omega) ?_
          intro g4 d4 w4 O4 hg4
          have bs := B.size
          replace B := belowG1 B hg4 bs hb0.1
          refine hK0 _ _ ?_
          clear hK0 K0 O1 hg4 bs
          try simp only [Act.put, List.getElem_toArray, List.getElem_cons_zero, List.getElem_cons_succ, List.setIfInBounds_toArray, List.set_cons_zero, List.set_cons_succ]
          simp only [List.nil_append] at O4
          try simp only [Nat.zero_add]
          have O1 := O4
          clear O4
          refine wpAny_ready (rs := [6]) (by kernel_rfl) (by simp) ?_
          refine AllReady.cons (o := _) rfl (fun K0 hK0 => ?_) AllReady.nil
          go_simp
          have bb := belowA w4 (.cells #[.int .i64 v] 2)
          have Ov := (OwnI.lit w4 [v] [.int .i64 v] rfl (by unfold maxLen; simp)).rd
          replace O1 := O1.kept bb
          replace B := thenB B bb
          refine hK0 _ _ ?_
          clear hK0 K0 bb
          try simp only [Act.put, List.getElem_toArray, List.getElem_cons_zero, List.getElem_cons_succ, List.setIfInBounds_toArray, List.set_cons_zero, List.set_cons_succ]
          have z6 : (w4.alloc (.cells #[.int .i64 v] 2)).heap.size = w4.heap.size + 1 := by simp
          obtain ⟨gv, hgv⟩ : ∃ g, w4.heap.size = g := ⟨_, rfl⟩
          rw [hgv] at Ov z6 ⊢
          generalize w4.alloc (.cells #[.int .i64 v] 2) = w6 at *
          replace z6 := Hid.mk z6
          replace hgv := Hid.mk hgv
          refine wpAny_ready (rs := [7]) (by kernel_rfl) (by simp) ?_
          refine AllReady.cons (o := _) rfl (fun K0 hK0 => ?_) AllReady.nil
          refine step_appI w6 (by rfl) (.tmp 37) (.tmp 39) (by rfl) w.heap.size g4 _ (l.take p) p (by rw [List.length_take]; omega) (by rfl) O1 ⟨gv, 0, none⟩ 1 1 [v] rfl (by rfl) Ov (by omega) (by have := B.size; omega) ?_
          intro g7 d7 w7 O7 hg7
          have bs := B.size
          replace B := belowG1 B hg7 bs (O1.lt _ rfl).1
          refine hK0 _ _ ?_
          clear hK0 K0 O1 hg7 bs Ov
          try simp only [Act.put, List.getElem_toArray, List.getElem_cons_zero, List.getElem_cons_succ, List.setIfInBounds_toArray, List.set_cons_zero, List.set_cons_succ]
          refine wpAny_ready (rs := [11]) (by kernel_rfl) (by simp) ?_
          refine AllReady.cons (o := _) rfl (fun K0 hK0 => ?_) AllReady.nil
          refine step_appI w7 (by rfl) (.tmp 40) (.tmp 43) (by rfl) w.heap.size g7 _ (l.take p ++ [v]) (p + 1) (by rw [List.length_append, List.length_take]; simp; omega) (by rfl) O7 ad 0 (d - p) (l.drop p) (by rw [List.length_drop]; omega) (by rfl) (hadR.out w7 B) (by omega) (by have := B.size; omega) ?_
          intro g9 d9 w9 O9 hg9
          have bs := B.size
          replace B := belowG1 B hg9 bs (O7.lt _ rfl).1
          refine hK0 _ _ ?_
          clear hK0 K0 O7 hg9 bs
          try simp only [Act.put, List.getElem_toArray, List.getElem_cons_zero, List.getElem_cons_succ, List.setIfInBounds_toArray, List.set_cons_zero, List.set_cons_succ]
          refine wpAny_take (i := 12) (oi := _) (v := ?vtt18) rfl (by kernel_rfl) (by kernel_rfl) (by kernel_rfl) (fun _ _ _ h => h) (Or.inl ⟨by rfl, ?hytt18⟩) ?resttt18
          case hytt18 => (intro w; go_simp; first | done | with_reducible rfl)
          try simp only [Act.put, List.getElem_toArray, List.getElem_cons_zero, List.getElem_cons_succ, List.setIfInBounds_toArray, List.set_cons_zero, List.set_cons_succ]
          refine wpAny_done (by kernel_rfl) ?_ _
          go_wp2
          go_ret
          rw [List.append_assoc, List.singleton_append, ← HR.out] at O9
          refine ⟨g9, d9, _, rfl, ?_, O9.mono (by omega), B⟩
          rw [HR.out, List.length_append, List.length_cons, List.length_take, List.length_drop]; omega
        · skip
          go_simp
          have bb := belowA w0 (.cells #[.int .i64 v] 2)
          have Ov := (OwnI.lit w0 [v] [.int .i64 v] rfl (by unfold maxLen; simp)).rd
          replace O1 := O1.kept bb
          replace B := thenB B bb
          refine hK0 _ _ ?_
          clear hK0 K0 bb
          try simp only [Act.put, List.getElem_toArray, List.getElem_cons_zero, List.getElem_cons_succ, List.setIfInBounds_toArray, List.set_cons_zero, List.set_cons_succ]
          have z6 : (w0.alloc (.cells #[.int .i64 v] 2)).heap.size = w0.heap.size + 1 := by simp
          obtain ⟨gv, hgv⟩ : ∃ g, w0.heap.size = g := ⟨_, rfl⟩
          rw [hgv] at Ov z6 ⊢
          generalize w0.alloc (.cells #[.int .i64 v] 2) = w6 at *
          replace z6 := Hid.mk z6
          replace hgv := Hid.mk hgv
          refine wpAny_ready (rs := [4]) (by kernel_rfl) (by simp) ?_
          refine AllReady.cons (o := _) rfl (fun K0 hK0 => ?_) AllReady.nil
          refine step_appI w6 (by rfl) (.tmp 33) (.tmp 36) (by rfl) w.heap.size g0 _ [] 0 rfl (by rfl) O1 ⟨g, 0, none⟩ p d (l.take p) (by rw [List.length_take]; omega) (by rfl) (Rd.part (ha.out.kept B) p).1 (by omega) (by have := B.size; omega) ?_
          intro g4 d4 w4 O4 hg4
          have bs := B.size
          replace Ov := Ov.grownI hg4 (by have := z0.out; have := z6.out; have := hg0.out; have := hgv.out; omega)
          replace B := belowG1 B hg4 bs hb0.1
          refine hK0 _ _ ?_
          clear hK0 K0 O1 hg4 bs
          try simp only [Act.put, List.getElem_toArray, List.getElem_cons_zero, List.getElem_cons_succ, List.setIfInBounds_toArray, List.set_cons_zero, List.set_cons_succ]
          simp only [List.nil_append] at O4
          try simp only [Nat.zero_add]
          have O1 := O4
          clear O4
          refine wpAny_ready (rs := [7]) (by kernel_rfl) (by simp) ?_
          refine AllReady.cons (o := _) rfl (fun K0 hK0 => ?_) AllReady.nil
          refine step_appI w4 (by rfl) (.tmp 37) (.tmp 39) (by rfl) w.heap.size g4 _ (l.take p) p (by rw [List.length_take]; omega) (by rfl) O1 ⟨gv, 0, none⟩ 1 1 [v] rfl (by rfl) Ov (by omega) (by have := B.size; omega) ?_
          intro g7 d7 w7 O7 hg7
          have bs := B.size
          replace B := belowG1 B hg7 bs (O1.lt _ rfl).1
          refine hK0 _ _ ?_
          clear hK0 K0 O1 hg7 bs Ov
          try simp only [Act.put, List.getElem_toArray, List.getElem_cons_zero, List.getElem_cons_succ, List.setIfInBounds_toArray, List.set_cons_zero, List.set_cons_succ]
          refine wpAny_ready (rs := [11]) (by kernel_rfl) (by simp) ?_
          refine AllReady.cons (o := _) rfl (fun K0 hK0 => ?_) AllReady.nil
          refine step_appI w7 (by rfl) (.tmp 40) (.tmp 43) (by rfl) w.heap.size g7 _ (l.take p ++ [v]) (p + 1) (by rw [List.length_append, List.length_take]; simp; omega) (by rfl) O7 ad 0 (d - p) (l.drop p) (by rw [List.length_drop]; omega) (by rfl) (hadR.out w7 B) (by omega) (by have := B.size; omega) ?_
          intro g9 d9 w9 O9 hg9
          have bs := B.size
          replace B := belowG1 B hg9 bs (O7.lt _ rfl).1
          refine hK0 _ _ ?_
          clear hK0 K0 O7 hg9 bs
          try simp only [Act.put, List.getElem_toArray, List.getElem_cons_zero, List.getElem_cons_succ, List.setIfInBounds_toArray, List.set_cons_zero, List.set_cons_succ]
          refine wpAny_take (i := 12) (oi := _) (v := ?vtt19) rfl (by kernel_rfl) (by kernel_rfl) (by kernel_rfl) (fun _ _ _ h => h) (Or.inl ⟨by rfl, ?hytt19⟩) ?resttt19
          case hytt19 => (intro w; go_simp; first | done | with_reducible rfl)
          try simp only [Act.put, List.getElem_toArray, List.getElem_cons_zero, List.getElem_cons_succ, List.setIfInBounds_toArray, List.set_cons_zero, List.set_cons_succ]
          refine wpAny_done (by kernel_rfl) ?_ _
          go_wp2
          go_ret
          rw [List.append_assoc, List.singleton_append, ← HR.out] at O9
          refine ⟨g9, d9, _, rfl, ?_, O9.mono (by omega), B⟩
          rw [HR.out, List.length_append, List.length_cons, List.length_take, List.length_drop]; omega
      · skip
        go_simp
        have bb := belowA wd (.cells #[.int .i64 v] 2)
        have Ov := (OwnI.lit wd [v] [.int .i64 v] rfl (by unfold maxLen; simp)).rd
        replace B := thenB B bb
        refine hK0 _ _ ?_
        clear hK0 K0 bb
        try simp only [Act.put, List.getElem_toArray, List.getElem_cons_zero, List.getElem_cons_succ, List.setIfInBounds_toArray, List.set_cons_zero, List.set_cons_succ]
        have z6 : (wd.alloc (.cells #[.int .i64 v] 2)).heap.size = wd.heap.size + 1 := by simp
        obtain ⟨gv, hgv⟩ : ∃ g, wd.heap.size = g := ⟨_, rfl⟩
        rw [hgv] at Ov z6 ⊢
        generalize wd.alloc (.cells #[.int .i64 v] 2) = w6 at *
        replace z6 := Hid.mk z6
        replace hgv := Hid.mk hgv
        refine wpAny_ready (rs := [0]) (by kernel_rfl) (by simp) ?_
        refine AllReady.cons (o := _) rfl (fun K0 hK0 => ?_) AllReady.nil
        go_simp
        have bb := belowA w6 (.cells #[] 2)
        have O1 := (OwnI.lit w6 [] [] rfl (Nat.zero_le _)).mono (base' := w.heap.size) (by have := B.size; omega)
        replace Ov := Ov.kept bb
        replace B := thenB B bb
        refine hK0 _ _ ?_
        clear hK0 K0 bb
        try simp only [Act.put, List.getElem_toArray, List.getElem_cons_zero, List.getElem_cons_succ, List.setIfInBounds_toArray, List.set_cons_zero, List.set_cons_succ]
        have z0 : (w6.alloc (.cells #[] 2)).heap.size = w6.heap.size + 1 := by simp
        obtain ⟨g0, hg0⟩ : ∃ g, w6.heap.size = g := ⟨_, rfl⟩
        have hb0 := O1.lt _ rfl
        rw [hg0] at O1 z0 hb0 ⊢
        simp only at hb0
        generalize w6.alloc (.cells #[] 2) = w60 at *
        replace z0 := Hid.mk z0
        replace hg0 := Hid.mk hg0
        refine wpAny_ready (rs := [4]) (by kernel_rfl) (by simp) ?_
        refine AllReady.cons (o := _) rfl (fun K0 hK0 => ?_) AllReady.nil
        refine step_appI w60 (by rfl) (.tmp 33) (.tmp 36) (by rfl) w.heap.size g0 _ [] 0 rfl (by rfl) O1 ⟨g, 0, none⟩ p d (l.take p) (by rw [List.length_take]; omega) (by rfl) (Rd.part (ha.out.kept B) p).1 (by omega) (by have := B.size; omega) ?_
        intro g4 d4 w4 O4 hg4
        have bs := B.size
        replace Ov := Ov.grownI hg4 (by have := z0.out; have := z6.out; have := hg0.out; have := hgv.out; omega)
        replace B := belowG1 B hg4 bs hb0.1
        refine hK0 _ _ ?_
        clear hK0 K0 O1 hg4 bs
        try simp only [Act.put, List.getElem_toArray, List.getElem_cons_zero, List.getElem_cons_succ, List.setIfInBounds_toArray, List.set_cons_zero, List.set_cons_succ]
        simp only [List.nil_append] at O4
        try simp only [Nat.zero_add]
        have O1 := O4
        clear O4
        refine wpAny_ready (rs := [7]) (by kernel_rfl) (by simp) ?_
        refine AllReady.cons (o := _) rfl (fun K0 hK0 => ?_) AllReady.nil
        refine step_appI w4 (by rfl) (.tmp 37) (.tmp 39) (by rfl) w.heap.size g4 _ (l.take p) p (by rw [List.length_take]; omega) (by rfl) O1 ⟨gv, 0, none⟩ 1 1 [v] rfl (by rfl) Ov (by omega) (by have := B.size; omega) ?_
        intro g7 d7 w7 O7 hg7
        have bs := B.size
        replace B := belowG1 B hg7 bs (O1.lt _ rfl).1
        refine hK0 _ _ ?_
        clear hK0 K0 O1 hg7 bs Ov
        try simp only [Act.put, List.getElem_toArray, List.getElem_cons_zero, List.getElem_cons_succ, List.setIfInBounds_toArray, List.set_cons_zero, List.set_cons_succ]
        refine wpAny_ready (rs := [11]) (by kernel_rfl) (by simp) ?_
        refine AllReady.cons (o := _) rfl (fun K0 hK0 => ?_) AllReady.nil
        refine step_appI w7 (by rfl) (.tmp 40) (.tmp 43) (by rfl) w.heap.size g7 _ (l.take p ++ [v]) (p + 1) (by rw [List.length_append, List.length_take]; simp; omega) (by rfl) O7 ad 0 (d - p) (l.drop p) (by rw [List.length_drop]; omega) (by rfl) (hadR.out w7 B) (by omega) (by have := B.size; omega) ?_
        intro g9 d9 w9 O9 hg9
        have bs := B.size
        replace B := belowG1 B hg9 bs (O7.lt _ rfl).1
        refine hK0 _ _ ?_
        clear hK0 K0 O7 hg9 bs
        try simp only [Act.put, List.getElem_toArray, List.getElem_cons_zero, List.getElem_cons_succ, List.setIfInBounds_toArray, List.set_cons_zero, List.set_cons_succ]
        refine wpAny_take (i := 12) (oi := _) (v := ?vtt20) rfl (by kernel_rfl) (by kernel_rfl) (by kernel_rfl) (fun _ _ _ h => h) (Or.inl ⟨by rfl, ?hytt20⟩) ?resttt20
        case hytt20 => (intro w; go_simp; first | done | with_reducible rfl)
        try simp only [Act.put, List.getElem_toArray, List.getElem_cons_zero, List.getElem_cons_succ, List.setIfInBounds_toArray, List.set_cons_zero, List.set_cons_succ]
        refine wpAny_done (by kernel_rfl) ?_ _
        go_wp2
        go_ret
        rw [List.append_assoc, List.singleton_append, ← HR.out] at O9
        refine ⟨g9, d9, _, rfl, ?_, O9.mono (by omega), B⟩
        rw [HR.out, List.length_append, List.length_cons, List.length_take, List.length_drop]; omega
end

section
open Go.RowKit

set_option maxRecDepth 20000 in
set_option maxHeartbeats 8000000 in
theorem specKnownFault_ok (a : Option Addr) (n ca : Nat) (xs : List T4) (a2 : Option Addr) (n2 ca2 : Nat) (kn : List Int) (w : World) (ha : RdTerm w a xs) (hn : xs.length = n) (hx : n ≤ maxLen) (hca : n ≤ ca) (ha2 : Rd .i64 w a2 kn) (hn2 : kn.length = n2) (hx2 : n2 ≤ maxLen) :
    Calls Try.prog 23 #[.slice a n ca, .slice a2 n2 ca2] w fun e w' => e = .returned (.int .i64 (knC xs kn)) ∧ Below w.heap.size w w' := by
  have CT := Hid.mk (specTermsFault_ok a n ca xs w ha hn hx hca)
  have CA := Hid.mk (fun q w => l5At_ok a n ca q w hx)
  unfold maxLen at hx2
  by_cases ht : tfC xs = 0
  rotate_left
  · have hr := knC_tf kn ht
    rw [hr]
    have h2 : (tfC xs != 0) = true := by simp [ht]
    clear hr ht ha ha2
    generalize tfC xs = kk at *
    go_enter Try.func23, Try.ntmps23
    go_wp2_with fail
    refine CT.out.mono ?_
    rintro e w1 ⟨rfl, b1⟩
    go_wp2
    go_ret
    exact ⟨rfl, b1⟩
  have hn4 : n ≤ 400 := by have := (tfC_zero ht).1; omega
  rw [ht] at CT
  by_cases h2 : 400 < n2
  · have hr := knC_many (kn := kn) ht (by omega)
    rw [hr]
    have d2 : decide ((400 : Int) < n2) = true := by simp; omega
    clear hr ht ha ha2 h2
    go_enter Try.func23, Try.ntmps23
    go_wp2_with fail
    refine CT.out.mono ?_
    rintro e w1 ⟨rfl, b1⟩
    go_wp2
    go_ret
    exact ⟨rfl, b1⟩
  have d2 : decide ((400 : Int) < n2) = false := by simp; omega
  have hr := knC_k (kn := kn) ht (by omega)
  rw [hn] at hr
  rw [hr]
  clear hr ha
  obtain ⟨F, hF⟩ : ∃ F, knK (n : Int) kn 0 = F := ⟨_, rfl⟩
  rw [hF]
  replace hF := Hid.mk hF
  replace ha2 := Hid.mk ha2
  go_enter Try.func23, Try.ntmps23
  go_wp2_with fail
  refine CT.out.mono ?_
  rintro e w1 ⟨rfl, b1⟩
  go_wp2
  clear d2
  go_loopw [6] (fun i wr => ∃ k : Nat, k ≤ n2 ∧ i = .int .i64 k ∧ Hid (knK n kn k = F) ∧ Below w.heap.size w wr) (fun i _ => n2 - (intOf i).toNat)
  case atStart => exact ⟨0, Nat.zero_le _, rfl, hF, b1⟩
  case round =>
    clear hF b1
    obtain ⟨k, hk, rfl, hdr, B⟩ := hrel
    by_cases hlt : k < n2
    · obtain ⟨z, hz⟩ : ∃ z, kn.getD k 0 = z := ⟨_, rfl⟩
      have hk1 : (k : Int) < (n2 : Int) := by omega
      have hs := knK_step (n := (n : Int)) (kn := kn) (k := k) (by omega) hz
      rw [hdr.out] at hs
      rcases ha2.out.kept B with h0 | ⟨b4, o4, rfl, hca4⟩
      · rw [h0] at hn2; simp at hn2; omega
      have p0 := hca4 k (by omega)
      rw [hz] at p0
      have pm := hca4 (k - 1) (by omega)
      clear hca4 hz
      cases hb : btw z 0 ((n : Int) - 1)
      · rw [if_pos (by rw [← Bool.not_eq_true] at hb; rw [btw_iff] at hb; omega)] at hs
        have HS := Hid.mk hs
        clear hs pm
        go_wp2_with fail
        refine (CA.out _ _).mono ?_
        rintro e wq ⟨rfl, rfl⟩
        rw [hb]
        go_wp2
        go_ret
        exact ⟨ret_int HS.out.symm, B⟩
      · have hzr := btw_iff.1 hb
        rw [if_neg (by omega)] at hs
        clear hzr
        rcases Nat.eq_zero_or_pos k with h0 | h0
        · rw [if_neg (by omega)] at hs
          have HS := Hid.mk hs
          have d0 : decide (0 < k) = false := by simp; omega
          clear hs pm h0
          go_wp2_with fail
          refine (CA.out _ _).mono ?_
          rintro e wq ⟨rfl, rfl⟩
          rw [hb]
          go_wp2_with fail
          go_quiet (fail)
          have bq := belowN (Below.refl wq.heap.size wq) nq
          replace B := thenB B bq
          clear bq
          generalize World.drewN wq nq = wn at *
          go_wp2
          go_roundw
          case rel => exact ⟨k + 1, by omega, by go_num, Hid.mk HS.out.symm, B⟩
          case measure => first | (simp [intOf]; done) | (simp [intOf]; omega)
        · obtain ⟨j, hj⟩ : ∃ j, k - 1 = j := ⟨_, rfl⟩
          rw [hj] at pm hs
          have hkm : (k : Int) - 1 = (j : Int) := by omega
          have hj1 : (j : Int) < (n2 : Int) := by omega
          have d0 : decide (0 < k) = true := by simp; omega
          generalize kn.getD j 0 = v at *
          by_cases hv : z ≤ v
          · rw [if_pos ⟨h0, hv⟩] at hs
            have HS := Hid.mk hs
            have dv : decide (z ≤ v) = true := by simp; omega
            clear hs h0 hj hv
            go_wp2_with fail
            refine (CA.out _ _).mono ?_
            rintro e wq ⟨rfl, rfl⟩
            rw [hb]
            go_wp2_with fail
            go_quiet (fail)
            have bq := belowN (Below.refl wq.heap.size wq) nq
            replace B := thenB B bq
            clear bq
            generalize World.drewN wq nq = wn at *
            go_wp2
            go_ret
            exact ⟨ret_int HS.out.symm, B⟩
          · rw [if_neg (by omega)] at hs
            have HS := Hid.mk hs
            have dv : decide (z ≤ v) = false := by simp; omega
            clear hs h0 hj hv
            go_wp2_with fail
            refine (CA.out _ _).mono ?_
            rintro e wq ⟨rfl, rfl⟩
            rw [hb]
            go_wp2_with fail
            go_quiet (fail)
            have bq := belowN (Below.refl wq.heap.size wq) nq
            replace B := thenB B bq
            clear bq
            generalize World.drewN wq nq = wn at *
            go_wp2
            go_roundw
            case rel => exact ⟨k + 1, by omega, by go_num, Hid.mk HS.out.symm, B⟩
            case measure => first | (simp [intOf]; done) | (simp [intOf]; omega)
    · obtain rfl : k = n2 := by omega
      rw [knK_end (by omega)] at hdr
      have hF0 := hdr.out
      have HS := Hid.mk hF0
      clear hF0 hdr
      go_wp2
      go_ret
      exact ⟨ret_int HS.out, B⟩
end

section
open Go.RowKit

theorem cn1_1 (H : Int → Bool) (L : List Bool) (kn : Bool) {t : T4} (h : t.o = 1) : cn1 H L kn t = true := by unfold cn1; rw [if_pos h]

theorem cn1_2 (H : Int → Bool) (L : List Bool) (kn : Bool) {t : T4} (h : t.o = 2) : cn1 H L kn t = kn := by unfold cn1; simp [h]

theorem cn1_3 (H : Int → Bool) (L : List Bool) (kn : Bool) {t : T4} (h : t.o = 3 ∨ t.o = 4 ∨ t.o = 5) : cn1 H L kn t = (kn || (atB L t.a && atB L t.b)) := by unfold cn1; rw [if_neg (by omega), if_pos h]

theorem cn1_6 (H : Int → Bool) (L : List Bool) (kn : Bool) {t : T4} (h : t.o = 6) : cn1 H L kn t = (kn || atB L t.a) := by unfold cn1; simp [h]

theorem cn1_7 (H : Int → Bool) (L : List Bool) (kn : Bool) {t : T4} (h : t.o = 7) : cn1 H L kn t = (kn || ((atB L t.a && (atB L t.b || H t.b)) || (atB L t.b && H t.a))) := by unfold cn1; simp [h]

theorem mkM_in {xs : List T4} (h : tfC xs = 0) {M : List Bool} (hm : M.length = xs.length) {k : Nat} (hk : k < xs.length) {x : T4} (hx : xs.getD k zTerm = x) :
    mkM xs M (k + 1) = (mkM xs M k).set k (cn1 (fun j => atB (hfK xs M xs.length) j) (mkM xs M k) ((mkM xs M k).getD k false) x) := by
  rw [mkM_step h hm hk hx]
  obtain ⟨pa, pb⟩ := tfC_ahead h k hk
  rw [hx] at pa pb
  congr 1
  exact cn1_half (fun q => (hfK_end (pa q).1 (by have := (pa q).2; omega)).symm) (fun q => (hfK_end (pb q).1 (by have := (pb q).2; omega)).symm)

set_option maxRecDepth 20000 in
set_option maxHeartbeats 16000000 in
theorem l6Make_ok (a : Option Addr) (n ca : Nat) (xs : List T4) (a2 : Option Addr) (n2 ca2 : Nat) (kn : List Int) (w : World) (ha : RdTerm w a xs) (hn : xs.length = n) (ht : tfC xs = 0) (ha2 : Rd .i64 w a2 kn) (hn2 : kn.length = n2) (hx2 : n2 ≤ 1000) (hp : ∀ z ∈ kn, 0 ≤ z ∧ z < n) :
    Calls Try.prog 52 #[.slice a n ca, .slice a2 n2 ca2] w fun e w' => ∃ Q, e = .returned (.slice (some ⟨Q, 0, none⟩) n n) ∧ Fl w' w.heap.size Q n (canL xs (isIn kn)) ∧ Below w.heap.size w w' := by
  have hn4 : n ≤ 400 := by have := (tfC_zero ht).1; omega
  obtain ⟨i0, hi, hz0, hz1, hz2⟩ := info_parts Try.infoMark
  have HA := Hid.mk ha
  have HA2 := Hid.mk ha2
  rw [← mrk_isIn hp]
  obtain ⟨M, hM⟩ : ∃ M, mrk n kn = M := ⟨_, rfl⟩
  have hMl : M.length = n := by rw [← hM, mrk_len]
  rw [hM]
  have HM := Hid.mk hM
  clear ha ha2 hM
  go_enter Try.func52, Try.ntmps52
  go_wp2_with (at_make; go_loud (refine wpList_make_full _ rfl _ _ 54 rfl w.heap.size 4 i0 (.bool false) 1 Try.underlying54 hi hz0 hz1 .i64 .i64 _ _ n rfl rfl (by omega) (by omega) (by rw [hz2]; omega) (by unfold maxLen; omega) (Nat.le_refl _) ?_))
  intro w1 hown hgrow
  have F1 : Fl w1 w.heap.size w.heap.size n (mrk n (kn.take 0)) := by rw [List.take_zero, mrk_nil]; exact Fl.made (by simpa [toList_madeCells_one] using hown)
  have B1 : Below w.heap.size w w1 := (Below.refl _ w).grown hgrow (Nat.le_refl _) (by intro k hk; cases hk)
  replace F1 := Hid.mk F1
  replace B1 := Hid.mk B1
  clear hown hgrow
  go_wp2
  -- what is known
  go_loopw [6] (fun i wr => ∃ k : Nat, k ≤ n2 ∧ i = .int .i64 k ∧ Fl wr w.heap.size w.heap.size n (mrk n (kn.take k)) ∧ Below w.heap.size w wr) (fun i _ => n2 - (intOf i).toNat)
  case atStart => exact ⟨0, Nat.zero_le _, rfl, F1.out, B1.out⟩
  case round =>
    clear F1 B1 hi hz0 hz1 hz2
    obtain ⟨k, hk, rfl, HF, B⟩ := hrel
    by_cases hlt : k < n2
    · obtain ⟨z, hz⟩ : ∃ z, kn.getD k 0 = z := ⟨_, rfl⟩
      have hk1 : (k : Int) < (n2 : Int) := by omega
      have ht2 : kn.take k ++ [z] = kn.take (k + 1) := by rw [take_snoc kn k (by omega), hz]
      have hzr := hp z (by rw [← hz]; exact igetD_mem (by omega))
      obtain ⟨jz, rfl⟩ := Int.eq_ofNat_of_zero_le hzr.1
      have hjz : jz < n := by omega
      have hjz1 : (jz : Int) < (n : Int) := by omega
      rcases HA2.out.kept B with h0 | ⟨b4, o4, rfl, hca⟩
      · rw [h0] at hn2; simp at hn2; omega
      have p0 := hca k (by omega)
      rw [hz] at p0
      have cz := HF.cell hjz
      have fz := HF.frozen jz
      have sQ := HF.lt.2
      have HF2 := HF.set jz true
      rw [← mrk_snoc (l := kn.take k) hjz, ht2] at HF2
      have B2 := B.setCell (p := ⟨w.heap.size, jz, none⟩) (Nat.le_refl _) (.bool true)
      replace HF2 := Hid.mk HF2
      replace B2 := Hid.mk B2
      clear hca hz HF B ht2 hzr
      go_wp2
      go_roundw
      case rel => exact ⟨k + 1, by omega, by go_num, HF2.out, B2.out⟩
      case measure => first | (simp [intOf]; done) | (simp [intOf]; omega)
    · obtain rfl : k = n2 := by omega
      rw [List.take_of_length_le (by omega), HM.out] at HF
      replace HF := Hid.mk HF
      replace B := Hid.mk B
      obtain ⟨i0, hi, hz0, hz1, hz2⟩ := info_parts Try.infoMark
      have hle := B.out.size
      go_wp2_with (at_make; go_loud (refine wpList_make_full _ rfl _ _ 54 rfl wr.heap.size 4 i0 (.bool false) 1 Try.underlying54 hi hz0 hz1 .i64 .i64 _ _ n rfl rfl (by omega) (by omega) (by rw [hz2]; omega) (by unfold maxLen; omega) (Nat.le_refl _) ?_))
      intro w2 hown hgrow
      have G2 : Fl w2 wr.heap.size wr.heap.size n (hfK xs M 0) := by rw [hfK_zero, hn]; exact Fl.made (by simpa [toList_madeCells_one] using hown)
      have B2 : Below wr.heap.size wr w2 := (Below.refl _ wr).grown hgrow (Nat.le_refl _) (by intro k hk; cases hk)
      have F2 := HF.out.kept B2
      have hqp := HF.out.lt.2
      have B3 := thenB B.out B2
      obtain ⟨Q2, hQ2⟩ : ∃ Q, wr.heap.size = Q := ⟨_, rfl⟩
      rw [hQ2] at G2 hle hqp ⊢
      replace G2 := Hid.mk G2
      replace F2 := Hid.mk F2
      replace B3 := Hid.mk B3
      clear hown hgrow B2 B HF hi hz0 hz1 hz2 hQ2
      go_wp2
      -- the halves that are known
      go_loopw [8] (fun i wr => ∃ k : Nat, k ≤ n ∧ i = .int .i64 k ∧ Fl wr w.heap.size w.heap.size n M ∧ Fl wr Q2 Q2 n (hfK xs M k) ∧ Below w.heap.size w wr) (fun i _ => n - (intOf i).toNat)
      case atStart => exact ⟨0, Nat.zero_le _, rfl, F2.out, G2.out, B3.out⟩
      case round =>
        clear F2 G2 B3
        obtain ⟨k, hk, rfl, HF, HG, B⟩ := hrel
        by_cases hlt : k < n
        · obtain ⟨x, hx⟩ : ∃ x, xs.getD k zTerm = x := ⟨_, rfl⟩
          have hk1 : (k : Int) < (n : Int) := by omega
          rcases HA.out.kept B with h0 | ⟨b1, o1, rfl, hca⟩
          · rw [h0] at hn; simp at hn; omega
          obtain ⟨p0, p1, p2, p3⟩ := RdTerm.cells hca k (by omega) x hx
          have c1 := HF.cell (j := k) hlt
          have hno := hfK_no (M := M) hx
          have hyes := hfK_yes (M := M) hx
          by_cases ho : x.o = 6
          · rw [ho] at p0
            obtain ⟨pa, -⟩ := tfC_ahead ht k (by omega)
            rw [hx] at pa
            have pa := pa (by rw [ho, kids6]; decide)
            obtain ⟨ja, hja⟩ : ∃ j : Nat, x.a = (j : Int) := ⟨x.a.toNat, by omega⟩
            rw [hja] at p1
            have hjan : ja < n := by omega
            have hja1 : (ja : Int) < (n : Int) := by omega
            cases hm : M.getD k false
            · rw [hm] at c1
              rw [← hno (fun h => by rw [hm] at h; cases h.2)] at HG
              replace HF := Hid.mk HF
              replace HG := Hid.mk HG
              clear hca hx hno hyes hm pa
              go_wp2
              go_roundw
              case rel => exact ⟨k + 1, by omega, by go_num, HF.out, HG.out, B⟩
              case measure => first | (simp [intOf]; done) | (simp [intOf]; omega)
            · rw [hm] at c1
              have hy := hyes ho hm hja
              have cz := HG.cell hjan
              have fz := HG.frozen ja
              have HG2 := HG.set ja true
              rw [← hy] at HG2
              have HF2 := HF.other (p := ⟨Q2, ja, none⟩) (by simp only; omega) (.bool true)
              have B2 := B.setCell (p := ⟨Q2, ja, none⟩) hle (.bool true)
              replace HF2 := Hid.mk HF2
              replace HG2 := Hid.mk HG2
              replace B2 := Hid.mk B2
              clear hca hx hno hyes hm pa hy HF HG B
              go_wp2
              go_roundw
              case rel => exact ⟨k + 1, by omega, by go_num, HF2.out, HG2.out, B2.out⟩
              case measure => first | (simp [intOf]; done) | (simp [intOf]; omega)
          · have e6 : (x.o == 6) = false := by simp [ho]
            rw [← hno (fun h => ho h.1)] at HG
            replace HF := Hid.mk HF
            replace HG := Hid.mk HG
            clear hca hx hno hyes ho c1
            go_wp2
            go_roundw
            case rel => exact ⟨k + 1, by omega, by go_num, HF.out, HG.out, B⟩
            case measure => first | (simp [intOf]; done) | (simp [intOf]; omega)
        · obtain rfl : k = n := by omega
          have F3 : Fl wr w.heap.size w.heap.size k (mkM xs M 0) := by rw [mkM_zero]; exact HF
          replace F3 := Hid.mk F3
          replace HG := Hid.mk HG
          replace B := Hid.mk B
          clear HF
          go_wp2
          -- the terms
          go_loopw [9] (fun i wr => ∃ j : Nat, j ≤ k ∧ i = .int .i64 j ∧ Fl wr w.heap.size w.heap.size k (mkM xs M j) ∧ Fl wr Q2 Q2 k (hfK xs M k) ∧ Below w.heap.size w wr) (fun i _ => k - (intOf i).toNat)
          case atStart => exact ⟨0, Nat.zero_le _, rfl, F3.out, HG.out, B.out⟩
          case round =>
            clear F3 HG B
            obtain ⟨j, hj, rfl, HF, HG, B⟩ := hrel
            by_cases hlt2 : j < k
            · obtain ⟨x, hx⟩ : ∃ x, xs.getD j zTerm = x := ⟨_, rfl⟩
              have hj1 : (j : Int) < (k : Int) := by omega
              have hs := mkM_in ht (M := M) (by omega) (k := j) (by omega) hx
              rw [hn] at hs
              obtain ⟨ho1, ho7⟩ := op_in ht (k := j) (by omega) hx
              obtain ⟨pa, pb⟩ := tfC_ahead ht j (by omega)
              rw [hx] at pa pb
              rcases HA.out.kept B with h0 | ⟨b1, o1, rfl, hca⟩
              · rw [h0] at hn; simp at hn; omega
              obtain ⟨p0, p1, p2, p3⟩ := RdTerm.cells hca j (by omega) x hx
              have c1 := HF.cell (j := j) hlt2
              have z1 := HF.frozen j
              have s1 := HF.lt.2
              have s2 := HG.lt.2
              have FS := Hid.mk (fun b : Bool => (HF.set j b).kept (belowA (wr.setCell ⟨w.heap.size, j, none⟩ (.bool b)) (.cells #[.int .i64 x.o, .int .i64 x.a, .int .i64 x.b, .int .i64 x.n] 34)))
              have GS := Hid.mk (fun b : Bool => (HG.other (p := ⟨w.heap.size, j, none⟩) (by simp only; omega) (.bool b)).kept (belowA (wr.setCell ⟨w.heap.size, j, none⟩ (.bool b)) (.cells #[.int .i64 x.o, .int .i64 x.a, .int .i64 x.b, .int .i64 x.n] 34)))
              have BS := Hid.mk (fun b : Bool => thenB (B.setCell (p := ⟨w.heap.size, j, none⟩) (Nat.le_refl _) (.bool b)) (belowA (wr.setCell ⟨w.heap.size, j, none⟩ (.bool b)) (.cells #[.int .i64 x.o, .int .i64 x.a, .int .i64 x.b, .int .i64 x.n] 34)))
              have sb := World.block_lt_of_cell? _ _ p0
              simp only at sb
              rcases (show x.o = 1 ∨ x.o = 2 ∨ (x.o = 3 ∨ x.o = 4 ∨ x.o = 5) ∨ x.o = 6 ∨ x.o = 7 by omega) with ho | ho | ho | ho | ho
              · rw [cn1_1 _ _ _ ho] at hs
                rw [ho] at p0 FS GS BS
                have FE := FS.out (true)
                have GE := GS.out (true)
                have BE := BS.out (true)
                rw [← hs] at FE
                replace FE := Hid.mk FE
                replace GE := Hid.mk GE
                replace BE := Hid.mk BE
                clear FS GS BS hs HF HG B hca hx pa pb ho1 ho7
                go_wp2
                go_roundw
                case rel => exact ⟨j + 1, by omega, by go_num, FE.out, GE.out, BE.out⟩
                case measure => first | (simp [intOf]; done) | (simp [intOf]; omega)
              · rw [cn1_2 _ _ _ ho] at hs
                rw [ho] at p0
                rw [← mkM_same (xs := xs) (M := M) (by omega) (by omega) hs] at HF
                have bA := belowA wr (.cells #[.int .i64 2, .int .i64 x.a, .int .i64 x.b, .int .i64 x.n] 34)
                have FE := Hid.mk (HF.kept bA)
                have GE := Hid.mk (HG.kept bA)
                have BE := Hid.mk (thenB B bA)
                clear FS GS BS hs HF HG B hca hx pa pb ho1 ho7 bA
                go_wp2
                go_roundw
                case rel => exact ⟨j + 1, by omega, by go_num, FE.out, GE.out, BE.out⟩
                case measure => first | (simp [intOf]; done) | (simp [intOf]; omega)
              · rw [cn1_3 _ _ _ ho] at hs
                have kk : kids x.o = 2 := by rcases ho with e | e | e <;> rw [e] <;> first | exact kids3 | exact kids4 | exact kids5
                have pa := pa (by omega)
                have pb := pb (by omega)
                obtain ⟨ja, hja⟩ : ∃ j : Nat, x.a = (j : Int) := ⟨x.a.toNat, by omega⟩
                obtain ⟨jb, hjb⟩ : ∃ j : Nat, x.b = (j : Int) := ⟨x.b.toNat, by omega⟩
                have qa := HF.cell (j := ja) (by omega)
                have qb := HF.cell (j := jb) (by omega)
                have la : (ja : Int) < (k : Int) := by omega
                have lb : (jb : Int) < (k : Int) := by omega
                rw [hja, hjb, atB_nat, atB_nat] at hs
                rw [hja] at p1 FS GS BS
                rw [hjb] at p2 FS GS BS
                have e1 : (x.o == 1) = false := by simp; omega
                clear kk pa pb
                generalize hva : (mkM xs M j).getD ja false = va at *
                generalize hvb : (mkM xs M j).getD jb false = vb at *
                generalize hvk : (mkM xs M j).getD j false = vk at *
                clear hva hvb hvk
                have pa : True := trivial
                have pb : True := trivial
                rcases ho with ho | ho | ho
                all_goals
                  rw [ho] at p0 FS GS BS
                  clear e1
                  cases vk
                  · cases va
                    · simp only [Bool.false_or, Bool.false_and] at hs
                      have FE := FS.out (false)
                      have GE := GS.out (false)
                      have BE := BS.out (false)
                      rw [← hs] at FE
                      replace FE := Hid.mk FE
                      replace GE := Hid.mk GE
                      replace BE := Hid.mk BE
                      clear FS GS BS hs HF HG B hca hx pa pb ho1 ho7
                      go_wp2
                      go_roundw
                      case rel => exact ⟨j + 1, by omega, by go_num, FE.out, GE.out, BE.out⟩
                      case measure => first | (simp [intOf]; done) | (simp [intOf]; omega)
                    · simp only [Bool.false_or, Bool.true_and] at hs
                      have FE := FS.out (vb)
                      have GE := GS.out (vb)
                      have BE := BS.out (vb)
                      rw [← hs] at FE
                      replace FE := Hid.mk FE
                      replace GE := Hid.mk GE
                      replace BE := Hid.mk BE
                      clear FS GS BS hs HF HG B hca hx pa pb ho1 ho7
                      go_wp2
                      go_roundw
                      case rel => exact ⟨j + 1, by omega, by go_num, FE.out, GE.out, BE.out⟩
                      case measure => first | (simp [intOf]; done) | (simp [intOf]; omega)
                  · simp only [Bool.true_or] at hs
                    have FE := FS.out (true)
                    have GE := GS.out (true)
                    have BE := BS.out (true)
                    rw [← hs] at FE
                    replace FE := Hid.mk FE
                    replace GE := Hid.mk GE
                    replace BE := Hid.mk BE
                    clear FS GS BS hs HF HG B hca hx pa pb ho1 ho7
                    go_wp2
                    go_roundw
                    case rel => exact ⟨j + 1, by omega, by go_num, FE.out, GE.out, BE.out⟩
                    case measure => first | (simp [intOf]; done) | (simp [intOf]; omega)
              · rw [cn1_6 _ _ _ ho] at hs
                have pa := pa (by rw [ho, kids6]; decide)
                obtain ⟨ja, hja⟩ : ∃ j : Nat, x.a = (j : Int) := ⟨x.a.toNat, by omega⟩
                have qa := HF.cell (j := ja) (by omega)
                have la : (ja : Int) < (k : Int) := by omega
                rw [hja, atB_nat] at hs
                rw [ho] at p0 FS GS BS
                rw [hja] at p1 FS GS BS
                generalize hva : (mkM xs M j).getD ja false = va at *
                generalize hvk : (mkM xs M j).getD j false = vk at *
                clear hva hvk
                cases vk
                · simp only [Bool.false_or] at hs
                  have FE := FS.out (va)
                  have GE := GS.out (va)
                  have BE := BS.out (va)
                  rw [← hs] at FE
                  replace FE := Hid.mk FE
                  replace GE := Hid.mk GE
                  replace BE := Hid.mk BE
                  clear FS GS BS hs HF HG B hca hx pa pb ho1 ho7
                  go_wp2
                  go_roundw
                  case rel => exact ⟨j + 1, by omega, by go_num, FE.out, GE.out, BE.out⟩
                  case measure => first | (simp [intOf]; done) | (simp [intOf]; omega)
                · simp only [Bool.true_or] at hs
                  have FE := FS.out (true)
                  have GE := GS.out (true)
                  have BE := BS.out (true)
                  rw [← hs] at FE
                  replace FE := Hid.mk FE
                  replace GE := Hid.mk GE
                  replace BE := Hid.mk BE
                  clear FS GS BS hs HF HG B hca hx pa pb ho1 ho7
                  go_wp2
                  go_roundw
                  case rel => exact ⟨j + 1, by omega, by go_num, FE.out, GE.out, BE.out⟩
                  case measure => first | (simp [intOf]; done) | (simp [intOf]; omega)
              · rw [cn1_7 _ _ _ ho] at hs
                have pa := pa (by rw [ho, kids7]; decide)
                have pb := pb (by rw [ho, kids7]; decide)
                obtain ⟨ja, hja⟩ : ∃ j : Nat, x.a = (j : Int) := ⟨x.a.toNat, by omega⟩
                obtain ⟨jb, hjb⟩ : ∃ j : Nat, x.b = (j : Int) := ⟨x.b.toNat, by omega⟩
                have qa := HF.cell (j := ja) (by omega)
                have qb := HF.cell (j := jb) (by omega)
                have ha' := HG.cell (j := ja) (by omega)
                have hb' := HG.cell (j := jb) (by omega)
                have la : (ja : Int) < (k : Int) := by omega
                have lb : (jb : Int) < (k : Int) := by omega
                rw [hja, hjb, atB_nat, atB_nat, atB_nat, atB_nat] at hs
                rw [ho] at p0 FS GS BS
                rw [hja] at p1 FS GS BS
                rw [hjb] at p2 FS GS BS
                generalize hva : (mkM xs M j).getD ja false = va at *
                generalize hvb : (mkM xs M j).getD jb false = vb at *
                generalize hvk : (mkM xs M j).getD j false = vk at *
                generalize hwa : (hfK xs M k).getD ja false = wa at *
                generalize hwb : (hfK xs M k).getD jb false = wb at *
                clear hva hvb hvk hwa hwb
                cases vk
                · cases va
                  · cases vb
                    · replace hs : mkM xs M (j + 1) = (mkM xs M j).set j (false) := by simpa using hs
                      have FE := FS.out (false)
                      have GE := GS.out (false)
                      have BE := BS.out (false)
                      rw [← hs] at FE
                      replace FE := Hid.mk FE
                      replace GE := Hid.mk GE
                      replace BE := Hid.mk BE
                      clear FS GS BS hs HF HG B hca hx pa pb ho1 ho7
                      go_wp2
                      go_roundw
                      case rel => exact ⟨j + 1, by omega, by go_num, FE.out, GE.out, BE.out⟩
                      case measure => first | (simp [intOf]; done) | (simp [intOf]; omega)
                    · replace hs : mkM xs M (j + 1) = (mkM xs M j).set j (wa) := by simpa using hs
                      have FE := FS.out (wa)
                      have GE := GS.out (wa)
                      have BE := BS.out (wa)
                      rw [← hs] at FE
                      replace FE := Hid.mk FE
                      replace GE := Hid.mk GE
                      replace BE := Hid.mk BE
                      clear FS GS BS hs HF HG B hca hx pa pb ho1 ho7
                      go_wp2
                      go_roundw
                      case rel => exact ⟨j + 1, by omega, by go_num, FE.out, GE.out, BE.out⟩
                      case measure => first | (simp [intOf]; done) | (simp [intOf]; omega)
                  · cases vb
                    · cases wb
                      · replace hs : mkM xs M (j + 1) = (mkM xs M j).set j (false) := by simpa using hs
                        have FE := FS.out (false)
                        have GE := GS.out (false)
                        have BE := BS.out (false)
                        rw [← hs] at FE
                        replace FE := Hid.mk FE
                        replace GE := Hid.mk GE
                        replace BE := Hid.mk BE
                        clear FS GS BS hs HF HG B hca hx pa pb ho1 ho7
                        go_wp2
                        go_roundw
                        case rel => exact ⟨j + 1, by omega, by go_num, FE.out, GE.out, BE.out⟩
                        case measure => first | (simp [intOf]; done) | (simp [intOf]; omega)
                      · replace hs : mkM xs M (j + 1) = (mkM xs M j).set j (true) := by simpa using hs
                        have FE := FS.out (true)
                        have GE := GS.out (true)
                        have BE := BS.out (true)
                        rw [← hs] at FE
                        replace FE := Hid.mk FE
                        replace GE := Hid.mk GE
                        replace BE := Hid.mk BE
                        clear FS GS BS hs HF HG B hca hx pa pb ho1 ho7
                        go_wp2
                        go_roundw
                        case rel => exact ⟨j + 1, by omega, by go_num, FE.out, GE.out, BE.out⟩
                        case measure => first | (simp [intOf]; done) | (simp [intOf]; omega)
                    · replace hs : mkM xs M (j + 1) = (mkM xs M j).set j (true) := by simpa using hs
                      have FE := FS.out (true)
                      have GE := GS.out (true)
                      have BE := BS.out (true)
                      rw [← hs] at FE
                      replace FE := Hid.mk FE
                      replace GE := Hid.mk GE
                      replace BE := Hid.mk BE
                      clear FS GS BS hs HF HG B hca hx pa pb ho1 ho7
                      go_wp2
                      go_roundw
                      case rel => exact ⟨j + 1, by omega, by go_num, FE.out, GE.out, BE.out⟩
                      case measure => first | (simp [intOf]; done) | (simp [intOf]; omega)
                · replace hs : mkM xs M (j + 1) = (mkM xs M j).set j (true) := by simpa using hs
                  have FE := FS.out (true)
                  have GE := GS.out (true)
                  have BE := BS.out (true)
                  rw [← hs] at FE
                  replace FE := Hid.mk FE
                  replace GE := Hid.mk GE
                  replace BE := Hid.mk BE
                  clear FS GS BS hs HF HG B hca hx pa pb ho1 ho7
                  go_wp2
                  go_roundw
                  case rel => exact ⟨j + 1, by omega, by go_num, FE.out, GE.out, BE.out⟩
                  case measure => first | (simp [intOf]; done) | (simp [intOf]; omega)
            · obtain rfl : j = k := by omega
              have he := mkM_end (xs := xs) (M := M) (by omega)
              rw [hn] at he
              rw [he] at HF
              replace HF := Hid.mk HF
              replace HG := Hid.mk HG
              go_wp2
              go_ret
              exact ⟨_, rfl, HF.out, B⟩
end

section
open Go.RowKit

theorem wpList_appA {ops : Array Oper} {rest : List Oper} {o : Oper} {a : Act} {Q : Exit → Act → World → Prop} (w : World) (hgd : o.guard = none) (s x : Operand)
    (ho : o.op = .call { callee := .builtin .append, args := #[s, x], argTypes := #[25, 25] })
    (base : Nat) (g d : Nat) (xs : List Int) (n : Nat) (hn : xs.length = n) (hs : a.eval s = .slice (some ⟨g, 0, none⟩) n d) (hown : Own .i64 2 w base (some ⟨g, 0, none⟩) d xs)
    (ad : Option Addr) (m cc : Nat) (zs : List Int) (hm : zs.length = m) (hx : a.eval x = .slice ad m cc) (hr : Rd .i64 w ad zs) (hc : ad = none → cc = 0) (hlen : n + m ≤ 1000000) (hbase : base ≤ w.heap.size)
    (h : ∀ g' d' w', Own .i64 2 w' base (some ⟨g', 0, none⟩) d' (xs ++ zs) → w.grownBy w' (some g) → wpList Try.prog ops Q rest (a.put o.dst (.slice (some ⟨g', 0, none⟩) (n + m) d')) w') : wpList Try.prog ops Q (o :: rest) a w := by
  cases ad with
  | some ad => exact wpList_appI w hgd s x ho base g d xs n hn hs hown ad m cc zs hm hx hr hlen hbase h
  | none =>
    have hcc := hc rfl
    subst hcc
    have hz : zs = [] := by
      rcases hr with h0 | ⟨b, o, h0, _⟩
      · exact h0
      · cases h0
    subst hz
    subst hn
    obtain rfl : m = 0 := by simpa using hm.symm
    refine wpList_plain hgd fun _ hK => ?_
    obtain ⟨i, hi, _, _, _⟩ := info_parts Try.infoI64
    have hr2 := run_append_owned_none (P := Try.prog) w base 25 o.type 2 i 1 Try.underlying25 hi (.slice (some ⟨g, 0, none⟩) xs.length d) xs.length (xs.map (Value.int .i64)) hown
    unfold Oper.wp execOp
    simp only [ho, resolve, invoke, builtin, Sem.run_bind, Sem.run_pure, Result.andThen_ok, List.map_toArray, List.map_cons, List.map_nil, hs, hx, hr2]
    exact hK _ _ (h g d w (by simpa using hown) (World.grownBy.refl _ _))

def lenV : Value → Nat
  | .slice _ n _ => n
  | _ => 0

theorem gives_3 {xs : List T4} {C : Int → Bool} {nx : List Int} {i : Int} (h : (tmAt xs i).o = 3) : gives xs C nx i = rise (rise nx (tmAt xs i).a) (tmAt xs i).b := by unfold gives; rw [if_pos h]

theorem gives_5 {xs : List T4} {C : Int → Bool} {nx : List Int} {i : Int} (h : (tmAt xs i).o = 5) (hc : C (tmAt xs i).a = true) : gives xs C nx i = rise nx (tmAt xs i).b := by unfold gives; rw [if_neg (by omega), if_pos ⟨h, hc⟩]

theorem gives_no {xs : List T4} {C : Int → Bool} {nx : List Int} {i : Int} (h3 : (tmAt xs i).o ≠ 3) (h5 : ¬ ((tmAt xs i).o = 5 ∧ C (tmAt xs i).a = true)) : gives xs C nx i = nx := by unfold gives; rw [if_neg h3, if_neg h5]

set_option maxRecDepth 20000 in
set_option maxHeartbeats 16000000 in
theorem l6Open_ok (a : Option Addr) (n ca : Nat) (xs : List T4) (a2 : Option Addr) (n2 ca2 : Nat) (kn : List Int) (w : World) (ha : RdTerm w a xs) (hn : xs.length = n) (ha2 : Rd .i64 w a2 kn) (hn2 : kn.length = n2) (hc2 : a2 = none → ca2 = 0) (hk0 : knC xs kn = 0) :
    Calls Try.prog 42 #[.slice a n ca, .slice a2 n2 ca2] w fun e w' => ∃ g d k, e = .returned (.slice (some ⟨g, 0, none⟩) k d) ∧ (openL xs kn).length = k ∧ Own .i64 2 w' w.heap.size (some ⟨g, 0, none⟩) d (openL xs kn) ∧ Below w.heap.size w w' := by
  obtain ⟨ht, hk4, hpl, hri⟩ := knC_zero hk0
  have hn4 : n ≤ 400 := by have := (tfC_zero ht).1; omega
  have hA := tfC_ahead ht
  obtain ⟨OL, hOL⟩ : ∃ L, openL xs kn = L := ⟨_, rfl⟩
  have HOL := Hid.mk (fun s (hs : IsOpen xs kn s) => (openL_is hA hri hpl hs).trans hOL)
  rw [hOL]
  clear hOL
  have HA := Hid.mk ha
  have bA := belowA w (.cells #[] 2)
  have O0 := (OwnI.lit w [] [] rfl (Nat.zero_le _))
  replace ha2 := ha2.kept bA
  have HST := Hid.mk (OnWay.start hri hpl)
  clear ha
  go_enter Try.func42, Try.ntmps42
  go_wp2_with (at_builtin; refine wpList_appA _ rfl _ _ rfl w.heap.size _ _ [] 0 rfl rfl O0 a2 n2 ca2 kn hn2 rfl ha2 hc2 (by omega) (by simp) ?_)
  intro g0 d0 w0 O1 hg0
  have B1 := belowG1 bA hg0 (by simp) (Nat.le_refl _)
  try simp only [List.nil_append] at O1
  try simp only [Nat.zero_add]
  replace O1 := Hid.mk O1
  replace B1 := Hid.mk B1
  clear O0 bA hg0 ha2
  have CM := Hid.mk (fun (g d m : Nat) (l : List Int) w ha (R : Rd .i64 w (some ⟨g, 0, none⟩) l) (hm : l.length = m) (hW : OnWay xs kn l) => l6Make_ok a n ca xs (some ⟨g, 0, none⟩) m d l w ha hn ht R hm (by have := hW.len; omega) (fun z hz => by have := hW.places z hz; omega))
  go_wp2
  go_loopw [5] (fun o wr => ∃ (g d m : Nat) (l : List Int), o = .slice (some ⟨g, 0, none⟩) m d ∧ l.length = m ∧ Own .i64 2 wr w.heap.size (some ⟨g, 0, none⟩) d l ∧ OnWay xs kn l ∧ Below w.heap.size w wr) (fun o _ => n + 1 - lenV o)
  case atStart => exact ⟨g0, d0, n2, kn, rfl, hn2, O1.out, HST.out, B1.out⟩
  case round =>
    clear O1 B1 HST
    obtain ⟨g, d, m, l, rfl, hm, O, hW, B⟩ := hrel
    have hmn : m ≤ n := by have := hW.len; omega
    have ha := HA.out.kept B
    have hCM := Hid.mk (CM.out g d m l _ ha O.rd hm hW)
    go_wp2_with fail
    refine hCM.out.mono ?_
    rintro e wz ⟨Qc, rfl, HC, bz⟩
    have Oz := O.kept bz
    have Bz := thenB B bz
    clear hCM O B ha bz
    obtain ⟨C, hC⟩ : ∃ C, canL xs (isIn l) = C := ⟨_, rfl⟩
    have hCI : ∀ j, canI xs (isIn l) j = atB C j := fun j => by rw [← hC]; rfl
    rw [hC] at HC
    have hw0 := Bz.size
    have hCI := Hid.mk hCI
    clear hC
    go_wp2
    go_loopw [7, 8] (fun s i wr => ∃ (k g2 d2 m2 : Nat) (l2 : List Int), k ≤ m ∧ i = .int .i64 k ∧ s = .slice (some ⟨g2, 0, none⟩) m2 d2 ∧ l2.length = m2 ∧ Hid (rnd xs l k = l2) ∧ Own .i64 2 wr w.heap.size (some ⟨g2, 0, none⟩) d2 l2 ∧ Below wz.heap.size wz wr) (fun _ i _ => m - (intOf i).toNat)
    case atStart => exact ⟨0, g, d, m, l, Nat.zero_le _, rfl, rfl, hm, Hid.mk (rnd_zero xs l), Oz, Below.refl _ _⟩
    case round =>
      obtain ⟨k, g2, d2, m2, l2, hk, rfl, rfl, hm2, hrn, O2, B2⟩ := hrel
      have hW2 : OnWay xs kn l2 := by rw [← hrn.out]; exact rnd_way hA hW k
      have hm2n : m2 ≤ n := by have := hW2.len; omega
      by_cases hlt : k < m
      · obtain ⟨z, hz⟩ : ∃ z, l.getD k 0 = z := ⟨_, rfl⟩
        have hk1 : (k : Int) < (m : Int) := by omega
        have hzr := hW.places z (by rw [← hz]; exact igetD_mem (by omega))
        obtain ⟨jz, rfl⟩ := Int.eq_ofNat_of_zero_le hzr.1
        have hjz : jz < n := by omega
        have hjz1 : (jz : Int) < (n : Int) := by omega
        have hst := rnd_step (xs := xs) (out := l) (k := k) (by omega) hz
        rw [hrn.out] at hst
        have pz : wr.cell? ⟨g, k, none⟩ = some (.int .i64 (jz : Int)) := by
          rcases (Oz.kept B2).rd with h0 | ⟨b, o, h0, hc⟩
          · rw [h0] at hm; simp at hm; omega
          · simp only [Option.some.injEq, Addr.mk.injEq, and_true] at h0
            obtain ⟨rfl, rfl⟩ := h0
            have := hc k (by omega)
            rwa [Nat.zero_add, hz] at this
        obtain ⟨x, hx⟩ : ∃ x, xs.getD jz zTerm = x := ⟨_, rfl⟩
        have hta : tmAt xs (jz : Int) = x := by unfold tmAt; rw [Int.toNat_natCast, hx]
        rcases HA.out.kept (thenB Bz B2) with h0 | ⟨b1, o1, rfl, hca⟩
        · rw [h0] at hn; simp at hn; omega
        obtain ⟨p0, p1, p2, p3⟩ := RdTerm.cells hca jz (by omega) x hx
        obtain ⟨pa, -⟩ := hA jz (by omega)
        rw [hx] at pa
        have hg3 := gives_3 (xs := xs) (C := canI xs (isIn l)) (nx := l2) (i := (jz : Int))
        have hg5 := gives_5 (xs := xs) (C := canI xs (isIn l)) (nx := l2) (i := (jz : Int))
        have hgn := gives_no (xs := xs) (C := canI xs (isIn l)) (nx := l2) (i := (jz : Int))
        rw [hta] at hg3 hg5 hgn
        rw [hCI.out] at hg5 hgn
        have bA := belowA wr (.cells #[.int .i64 x.o, .int .i64 x.a, .int .i64 x.b, .int .i64 x.n] 34)
        have VX := V.new wr [.int .i64 x.o, .int .i64 x.a, .int .i64 x.b, .int .i64 x.n] 34
        have OA := O2.kept bA
        have BA := thenB B2 bA
        have hri2 := hW2.rising
        clear hca hz hzr hta hx hW2
        by_cases ho3 : x.o = 3
        · rw [hg3 ho3] at hst
          have e5 : (x.o == 5) = false := by simp [ho3]
          clear hg3 hg5 hgn pa
          rw [ho3] at p0 VX bA OA BA
          have C3 := Hid.mk (fun w' (bz : Below (wr.alloc (.cells #[.int .i64 3, .int .i64 x.a, .int .i64 x.b, .int .i64 x.n] 34)).heap.size (wr.alloc (.cells #[.int .i64 3, .int .i64 x.a, .int .i64 x.b, .int .i64 x.n] 34)) w') => l1Rise_ok w.heap.size g2 d2 l2 m2 x.a w' (OA.kept bz) hm2 hri2 (by omega))
          have C6 := Hid.mk (fun g d k w' O hk => l1Rise_ok w.heap.size g d (rise l2 x.a) k x.b w' O hk (rise_rising hri2) (by have := rise_len l2 x.a hri2; omega))
          have K : ∀ w' : World, Below (wr.alloc (.cells #[.int .i64 3, .int .i64 x.a, .int .i64 x.b, .int .i64 x.n] 34)).heap.size (wr.alloc (.cells #[.int .i64 3, .int .i64 x.a, .int .i64 x.b, .int .i64 x.n] 34)) w' → w'.cell? ⟨wr.heap.size, 1, none⟩ = some (.int .i64 x.a) ∧ w'.cell? ⟨wr.heap.size, 2, none⟩ = some (.int .i64 x.b) := fun w' bz => ⟨(VX.kept bz).2.1 1 (by simp), (VX.kept bz).2.1 2 (by simp)⟩
          replace K := Hid.mk K
          obtain ⟨s_VX, f_VX, z_VX⟩ := VX.open
          go_wp2_with fail
          refine wp_region_held_drew (S := (fun w' => w'.cell? ⟨wr.heap.size, 1, none⟩ = some (.int .i64 x.a) ∧ w'.cell? ⟨wr.heap.size, 2, none⟩ = some (.int .i64 x.b))) (by kernel_rfl) (K.out _ (Below.refl _ _).drew) (fun hHeld => ?_)
          refine wpAnyH_take (i := 0) (oi := _) (v := ?vzu1) rfl (by kernel_rfl) (by kernel_rfl) (by kernel_rfl) (fun _ _ _ h => h) (Or.inl ⟨by kernel_rfl, ?hyzu1⟩) hHeld ?restzu1
          case hyzu1 => (intro w hSw; (try dsimp only at hSw); go_simp; first | done | with_reducible rfl)
          try simp only [Act.put, List.getElem_toArray, List.getElem_cons_zero, List.setIfInBounds_toArray, List.set_cons_zero, List.set_cons_succ]
          refine wpAnyH_take (i := 1) (oi := _) (v := ?vzu2) rfl (by kernel_rfl) (by kernel_rfl) (by kernel_rfl) (fun _ _ _ h => h) (Or.inl ⟨by kernel_rfl, ?hyzu2⟩) hHeld ?restzu2
          case hyzu2 => (intro w hSw; (try dsimp only at hSw); go_simp; first | done | with_reducible rfl)
          try simp only [Act.put, List.getElem_toArray, List.getElem_cons_zero, List.getElem_cons_succ, List.setIfInBounds_toArray, List.set_cons_zero, List.set_cons_succ]
          refine wpAnyH_take (i := 2) (oi := _) (v := ?vzu3) rfl (by kernel_rfl) (by kernel_rfl) (by kernel_rfl) (fun _ _ _ h => h) (Or.inl ⟨by kernel_rfl, ?hyzu3⟩) hHeld ?restzu3
          case hyzu3 => (intro w hSw; (try dsimp only at hSw); go_simp; first | done | with_reducible rfl)
          try simp only [Act.put, List.getElem_toArray, List.getElem_cons_zero, List.getElem_cons_succ, List.setIfInBounds_toArray, List.set_cons_zero, List.set_cons_succ]
          refine wpAnyH_take (i := 4) (oi := _) (v := ?vzu4) rfl (by kernel_rfl) (by kernel_rfl) (by kernel_rfl) (fun _ _ _ h => h) (Or.inl ⟨by kernel_rfl, ?hyzu4⟩) hHeld ?restzu4
          case hyzu4 => (intro w hSw; (try dsimp only at hSw); go_simp; first | done | with_reducible rfl)
          try simp only [Act.put, List.getElem_toArray, List.getElem_cons_zero, List.getElem_cons_succ, List.setIfInBounds_toArray, List.set_cons_zero, List.set_cons_succ]
          refine wpAnyH_take (i := 5) (oi := _) (v := ?vzu5) rfl (by kernel_rfl) (by kernel_rfl) (by kernel_rfl) (fun _ _ _ h => h) (Or.inl ⟨by kernel_rfl, ?hyzu5⟩) hHeld ?restzu5
          case hyzu5 => (intro w hSw; (try dsimp only at hSw); go_simp; first | done | with_reducible rfl)
          try simp only [Act.put, List.getElem_toArray, List.getElem_cons_zero, List.getElem_cons_succ, List.setIfInBounds_toArray, List.set_cons_zero, List.set_cons_succ]
          refine wpAnyH_ready (rs := [3]) (by kernel_rfl) (by simp) ?_
          refine AllReadyH.cons (o := _) rfl (fun K0 hK0 => ?_) AllReadyH.nil
          go_simp
          go_at_call 60
          refine (C3.out _ (Below.refl _ _).drew).mono ?_
          rintro e wzv6 ⟨g3, d3, k3, rfl, hk3, O3, bzv6⟩
          refine hK0.out _ _ (K.out _ (thenB (Below.refl _ _).drew bzv6)) (fun hHeld => ?_)
          clear hK0 K0
          try simp only [Act.put, List.getElem_toArray, List.getElem_cons_zero, List.getElem_cons_succ, List.setIfInBounds_toArray, List.set_cons_zero, List.set_cons_succ]
          refine wpAnyH_ready (rs := [6]) (by kernel_rfl) (by simp) ?_
          refine AllReadyH.cons (o := _) rfl (fun K0 hK0 => ?_) AllReadyH.nil
          go_simp
          go_at_call 60
          refine (C6.out _ _ _ _ O3 hk3).mono ?_
          rintro e wzv7 ⟨g6, d6, k6, rfl, hk6, O6, bzv7⟩
          refine hK0.out _ _ (K.out _ (thenB (thenB (Below.refl _ _).drew bzv6) bzv7)) (fun hHeld => ?_)
          clear hK0 K0
          try simp only [Act.put, List.getElem_toArray, List.getElem_cons_zero, List.getElem_cons_succ, List.setIfInBounds_toArray, List.set_cons_zero, List.set_cons_succ]
          refine wpAnyH_take (i := 7) (oi := _) (v := ?vzu8) rfl (by kernel_rfl) (by kernel_rfl) (by kernel_rfl) (fun _ _ _ h => h) (Or.inl ⟨by kernel_rfl, ?hyzu8⟩) hHeld ?restzu8
          case hyzu8 => (intro w hSw; (try dsimp only at hSw); go_simp; first | done | with_reducible rfl)
          try simp only [Act.put, List.getElem_toArray, List.getElem_cons_zero, List.getElem_cons_succ, List.setIfInBounds_toArray, List.set_cons_zero, List.set_cons_succ]
          refine wpAnyH_done (by kernel_rfl) ?_ _
          have B6 := thenB BA (thenB (thenB (Below.refl _ _).drew bzv6) bzv7)
          replace hst := Hid.mk hst
          have VZ := VX.kept (thenB (thenB (Below.refl _ _).drew bzv6) bzv7)
          clear K hHeld C3 C6 VX s_VX f_VX z_VX O3 hk3
          obtain ⟨s_VZ, f_VZ, z_VZ⟩ := VZ.open
          go_wp2
          go_roundw
          case rel => exact ⟨k + 1, g6, d6, k6, _, by omega, by go_num, rfl, hk6, hst, O6, B6⟩
          case measure => first | (simp [intOf]; done) | (simp [intOf]; omega)
        · have e3 : (x.o == 3) = false := by simp [ho3]
          by_cases ho5 : x.o = 5
          · have pa := pa (by rw [ho5, kids5]; decide)
            obtain ⟨ja, hja⟩ : ∃ j : Nat, x.a = (j : Int) := ⟨x.a.toNat, by omega⟩
            have hjan : ja < n := by omega
            have hja1 : (ja : Int) < (n : Int) := by omega
            have cc := (HC.kept B2).cell hjan
            have sq := (HC.kept B2).lt.2
            rw [hja, atB_nat] at hg5 hgn
            rw [ho5, hja] at VX bA OA BA
            rw [ho5] at p0
            rw [hja] at p1
            clear hg3 e3
            cases hcv : C.getD ja false
            · rw [hgn ho3 (fun h => by rw [hcv] at h; cases h.2)] at hst
              rw [hcv] at cc
              replace hst := Hid.mk hst
              clear hg5 hgn hcv pa hja VX ho3 ho5
              replace OA := Hid.mk OA
              replace BA := Hid.mk BA
              clear bA O2 B2
              go_wp2
              go_roundw
              case rel => exact ⟨k + 1, g2, d2, m2, l2, by omega, by go_num, rfl, hm2, hst, OA.out, BA.out⟩
              case measure => first | (simp [intOf]; done) | (simp [intOf]; omega)
            · rw [hg5 ho5 hcv] at hst
              rw [hcv] at cc
              have C1 := Hid.mk (l1Rise_ok w.heap.size g2 d2 l2 m2 x.b _ OA hm2 hri2 (by omega))
              replace hst := Hid.mk hst
              clear hg5 hgn hcv pa hja VX ho3 ho5
              replace BA := Hid.mk BA
              clear bA O2 B2 OA
              go_wp2_with fail
              refine C1.out.mono ?_
              rintro e w6 ⟨g6, d6, k6, rfl, hk6, O6, b6⟩
              have B6 := thenB BA.out b6
              go_wp2
              go_roundw
              case rel => exact ⟨k + 1, g6, d6, k6, _, by omega, by go_num, rfl, hk6, hst, O6, B6⟩
              case measure => first | (simp [intOf]; done) | (simp [intOf]; omega)
          · have e5 : (x.o == 5) = false := by simp [ho5]
            rw [hgn ho3 (fun h => ho5 h.1)] at hst
            replace hst := Hid.mk hst
            clear hg3 hg5 hgn pa VX ho3 ho5
            replace OA := Hid.mk OA
            replace BA := Hid.mk BA
            clear bA O2 B2
            go_wp2
            go_roundw
            case rel => exact ⟨k + 1, g2, d2, m2, l2, by omega, by go_num, rfl, hm2, hst, OA.out, BA.out⟩
            case measure => first | (simp [intOf]; done) | (simp [intOf]; omega)
      · obtain rfl : k = m := by omega
        have hre : roundL xs l = l2 := by
          have := rnd_end xs l
          rw [hm] at this
          rw [← this]; exact hrn.out
        have B3 := thenB Bz B2
        by_cases hmm : m2 = k
        · subst hmm
          have hfin : l = OL := HOL.out l ⟨hW, hW.done (by rw [hre, hm, hm2])⟩
          have OZ := Oz.kept B2
          have HF := Hid.mk hfin
          clear hre hrn O2 B2 HC Oz Bz hW hW2 hfin
          go_wp2
          go_ret
          exact ⟨g, d, m2, rfl, by rw [← HF.out]; exact hm, by rw [← HF.out]; exact OZ, B3⟩
        · have hlt2 : k < m2 := by
            have := roundL_len (xs := xs) hW.rising
            rw [hre, hm, hm2] at this
            omega
          have hne : ((m2 : Int) == (k : Int)) = false := by simp; omega
          clear hre hrn B2 HC Oz Bz hW
          go_wp2
          go_roundw
          case rel => exact ⟨g2, d2, m2, l2, rfl, hm2, O2, hW2, B3⟩
          case measure => simp only [lenV]; omega
end

end Go.Proofs.Yteeoodbmgheikaa
