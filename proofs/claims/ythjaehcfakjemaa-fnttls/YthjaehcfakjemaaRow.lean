/- 'append' and 'copy' over a row of bytes of the call's own, in this place's words. -/
import Derived.Test.YthjaehcfakjemaaVar
import Derived.Test.YthjaehcfakjemaaApp
import Derived.Laws.CopyOwn
namespace Go.Proofs.Ythjaehcfakjemaa
open Go.RowKit

section
variable {P : Program} (w : World)

theorem wpList_app {ops : Array Oper} {rest : List Oper} {o : Oper} {a : Act} {Q : Exit → Act → World → Prop} (hgd : o.guard = none) (s x : Operand) (t : TypeId)
    (ho : o.op = .call { callee := .builtin .append, args := #[s, x], argTypes := #[t, t] })
    (base : Nat) (e : TypeId) (i : TypeInfo) (ht : P.underlying t = some (.slice e)) (hi : P.info? e = some i) (hz : i.zero = some (.int .u8 0)) (hsize : i.size = 1) (hby : i.bytes = 1)
    (c0 : Option Addr) (cap n : Nat) (l : List Int) (hs : a.eval s = .slice c0 n cap) (hown : Own .u8 e w base c0 cap l) (hn : l.length = n)
    (c : Option Addr) (m d : Nat) (zs : List Int) (hx : a.eval x = .slice c m d) (hr : Rd .u8 w c zs) (hm : zs.length = m) (hc : c = none → d = 0)
    (h63 : n + m ≤ 140737488355328) (hbase : base ≤ w.heap.size)
    (h : ∀ c' d' w', Own .u8 e w' base c' d' (l ++ zs) → w.grownBy w' (c0.map Addr.block) → Below base w w' → wpList P ops Q rest (a.put o.dst (.slice c' (n + m) d')) w') : wpList P ops Q (o :: rest) a w := by
  refine wpList_append_rd w hgd s x t ho base e i ht hi hz hsize hby _ n l hs (hown.row hn) c m d zs hx hr hm hc h63 hbase fun v' w' h1 h2 => ?_
  obtain ⟨c', d', rfl⟩ := ownsRow_shape h1
  have e0 : (Value.slice c0 n cap).ownBlock = c0.map Addr.block := by cases c0 <;> rfl
  rw [e0] at h2
  refine h c' d' w' (Own.mk h1 (by simp [hn, hm])) h2 ((Below.refl base w).grown h2 hbase fun k hk => ?_)
  have := hown.lt
  cases c0 with
  | none => cases hk
  | some b => simp at hk; subst hk; exact (this b rfl).1

theorem step_app {ops : Array Oper} {o : Oper} {a : Act} {K : Act → World → Prop} {Q : Exit → Act → World → Prop} {E : Prop} (hgd : o.guard = none) (s x : Operand) (t : TypeId)
    (ho : o.op = .call { callee := .builtin .append, args := #[s, x], argTypes := #[t, t] })
    (base : Nat) (e : TypeId) (i : TypeInfo) (ht : P.underlying t = some (.slice e)) (hi : P.info? e = some i) (hz : i.zero = some (.int .u8 0)) (hsize : i.size = 1) (hby : i.bytes = 1)
    (c0 : Option Addr) (cap n : Nat) (l : List Int) (hs : a.eval s = .slice c0 n cap) (hown : Own .u8 e w base c0 cap l) (hn : l.length = n)
    (c : Option Addr) (m d : Nat) (zs : List Int) (hx : a.eval x = .slice c m d) (hr : Rd .u8 w c zs) (hm : zs.length = m) (hc : c = none → d = 0)
    (h63 : n + m ≤ 140737488355328) (hbase : base ≤ w.heap.size)
    (h : ∀ c' d' w', Own .u8 e w' base c' d' (l ++ zs) → w.grownBy w' (c0.map Addr.block) → Below base w w' → K (a.put o.dst (.slice c' (n + m) d')) w') :
    if Region.wanted o (yielded ops a.tmps) = true then Oper.wp P o a w K Q else E := by
  refine step_append_rd w hgd s x t ho base e i ht hi hz hsize hby _ n l hs (hown.row hn) c m d zs hx hr hm hc h63 hbase fun v' w' h1 h2 => ?_
  obtain ⟨c', d', rfl⟩ := ownsRow_shape h1
  have e0 : (Value.slice c0 n cap).ownBlock = c0.map Addr.block := by cases c0 <;> rfl
  rw [e0] at h2
  refine h c' d' w' (Own.mk h1 (by simp [hn, hm])) h2 ((Below.refl base w).grown h2 hbase fun k hk => ?_)
  have := hown.lt
  cases c0 with
  | none => cases hk
  | some b => simp at hk; subst hk; exact (this b rfl).1

theorem wpList_put {ops : Array Oper} {rest : List Oper} {o : Oper} {a : Act} {Q : Exit → Act → World → Prop} (hgd : o.guard = none) (s x : Operand) (t : TypeId)
    (ho : o.op = .call { callee := .builtin .append, args := #[s, x], argTypes := #[t, t] })
    (base : Nat) (e : TypeId) (i : TypeInfo) (ht : P.underlying t = some (.slice e)) (hi : P.info? e = some i) (hz : i.zero = some (.int .u8 0)) (hsize : i.size = 1) (hby : i.bytes = 1)
    (c0 : Option Addr) (cap n : Nat) (l : List Int) (hs : a.eval s = .slice c0 n cap) (hown : Own .u8 e w base c0 cap l) (hn : l.length = n)
    (c : Option Addr) (m d : Nat) (zs : List Int) (hx : a.eval x = .slice c m d) (hr : Rd .u8 w c zs) (hm : zs.length = m) (hc : c = none → d = 0)
    (k : Nat) (l' : List Int) (hk : n + m = k) (hl' : l ++ zs = l') (h63 : n + m ≤ 140737488355328) (hbase : base ≤ w.heap.size)
    (h : ∀ c' d' w', Own .u8 e w' base c' d' l' → Below base w w' → wpList P ops Q rest (a.put o.dst (.slice c' k d')) w') : wpList P ops Q (o :: rest) a w := by
  subst hk
  subst hl'
  exact wpList_app w hgd s x t ho base e i ht hi hz hsize hby c0 cap n l hs hown hn c m d zs hx hr hm hc h63 hbase fun c' d' w' h1 _ h3 => h c' d' w' h1 h3

theorem step_put {ops : Array Oper} {o : Oper} {a : Act} {K : Act → World → Prop} {Q : Exit → Act → World → Prop} {E : Prop} (hgd : o.guard = none) (s x : Operand) (t : TypeId)
    (ho : o.op = .call { callee := .builtin .append, args := #[s, x], argTypes := #[t, t] })
    (base : Nat) (e : TypeId) (i : TypeInfo) (ht : P.underlying t = some (.slice e)) (hi : P.info? e = some i) (hz : i.zero = some (.int .u8 0)) (hsize : i.size = 1) (hby : i.bytes = 1)
    (c0 : Option Addr) (cap n : Nat) (l : List Int) (hs : a.eval s = .slice c0 n cap) (hown : Own .u8 e w base c0 cap l) (hn : l.length = n)
    (c : Option Addr) (m d : Nat) (zs : List Int) (hx : a.eval x = .slice c m d) (hr : Rd .u8 w c zs) (hm : zs.length = m) (hc : c = none → d = 0)
    (k : Nat) (l' : List Int) (hk : n + m = k) (hl' : l ++ zs = l') (h63 : n + m ≤ 140737488355328) (hbase : base ≤ w.heap.size)
    (h : ∀ c' d' w', Own .u8 e w' base c' d' l' → Below base w w' → K (a.put o.dst (.slice c' k d')) w') :
    if Region.wanted o (yielded ops a.tmps) = true then Oper.wp P o a w K Q else E := by
  subst hk
  subst hl'
  exact step_app w hgd s x t ho base e i ht hi hz hsize hby c0 cap n l hs hown hn c m d zs hx hr hm hc h63 hbase fun c' d' w' h1 _ h3 => h c' d' w' h1 h3

theorem Rd.keptB {k : IntKind} {w w' : World} {top : Nat} {a : Option Addr} {zs : List Int} (h : Rd k w a zs) (hlt : ∀ b, a = some b → b.block < top) (hb : Below top w w') : Rd k w' a zs := by
  rcases h with h | ⟨b, off, rfl, hc⟩
  · exact .inl h
  · exact .inr ⟨b, off, rfl, fun i hi => (hb.cell (p := ⟨b, off + i, none⟩) (show b < top from hlt ⟨b, off, none⟩ rfl)).trans (hc i hi)⟩

theorem splice_map {α β : Type} (f : α → β) (l : List α) (off : Nat) (cs : List α) : (splice l off cs).map f = splice (l.map f) off (cs.map f) := by
  simp [splice, List.map_take, List.map_drop]

theorem splice_take {α : Type} (l : List α) (off n : Nat) (cs : List α) (h : off + cs.length ≤ n) (hn : n ≤ l.length) : (splice l off cs).take n = splice (l.take n) off cs := by
  unfold splice
  have h1 : (l.take n).take off = l.take off := by rw [List.take_take, Nat.min_eq_left (by omega)]
  have h2 : (l.take n).drop (off + cs.length) = (l.drop (off + cs.length)).take (n - (off + cs.length)) := by rw [List.drop_take]
  rw [h1, h2]
  have e : n = (l.take off).length + (cs.length + (n - (off + cs.length))) := by simp; omega
  conv => lhs; rw [e]
  rw [List.take_length_add_append, List.take_length_add_append]

theorem step_copy {ops : Array Oper} {o : Oper} {a : Act} {K : Act → World → Prop} {Q : Exit → Act → World → Prop} {E : Prop} (hgd : o.guard = none) (d s : Operand) (dT sT : TypeId)
    (ho : o.op = .call { callee := .builtin .copy, args := #[d, s], argTypes := #[dT, sT] }) (e : TypeId) (hu : P.underlying dT = some (.slice e)) (hsz : (P.info? e).map (·.size) = some 1)
    (g off dLen dCap m sCap cap base : Nat) (sp : Option Addr) (l zs : List Int) (hd : a.eval d = .slice (some ⟨g, off, none⟩) dLen dCap) (hs : a.eval s = .slice sp m sCap)
    (hown : Own .u8 e w base (some ⟨g, 0, none⟩) cap l) (hr : Rd .u8 w sp zs) (hm : zs.length = m) (hmd : m ≤ dLen) (hfit : off + m ≤ l.length)
    (h : ∀ w', Own .u8 e w' base (some ⟨g, 0, none⟩) cap (splice l off zs) → w.grownBy w' (some g) → Below base w w' → K (a.put o.dst (goInt m)) w') :
    if Region.wanted o (yielded ops a.tmps) = true then Oper.wp P o a w K Q else E := by
  obtain ⟨h1, h2⟩ := hown
  rcases h2 with ⟨h2, _⟩ | ⟨g', cap', cur, hv, hg, hb, hc, hcm, hcs, htk⟩
  · simp at h2
  simp only [Value.slice.injEq, Option.some.injEq, Addr.mk.injEq, and_true, true_and] at hv
  obtain ⟨rfl, rfl⟩ := hv
  simp only [Nat.mul_one] at hcs htk
  have hbelow : Below base w w := Below.refl base w
  obtain ⟨cur, rfl⟩ : ∃ c : List Value, cur = c.toArray := ⟨cur.toList, by simp⟩
  simp only [List.size_toArray] at hcs
  have hw : Region.wanted o (yielded ops a.tmps) = true := by simp [Region.wanted, hgd]
  rw [if_pos hw]
  have hlen : (zs.map (Value.int .u8)).length = m := by simp [hm]
  have hfin : ∀ w', w'.heap[g]? = some (.cells (splice cur off (zs.map (Value.int .u8))).toArray e (0, 0)) → Own .u8 e w' base (some ⟨g, 0, none⟩) cap (splice l off zs) := by
    intro w' hw'
    have hl : (splice l off zs).length = l.length := length_splice _ _ _ (by omega)
    refine ⟨by simp, .inr ⟨g, cap, (splice cur off (zs.map (Value.int .u8))).toArray, rfl, hg, hw', by omega, hcm, ?_, ?_⟩⟩
    · simp only [List.size_toArray, Nat.mul_one]; rw [length_splice _ _ _ (by simp; omega)]; omega
    · simp only [Nat.mul_one]
      rw [hl, splice_map, splice_take _ _ _ _ (by simp; omega) (by omega), htk]
  by_cases h0 : m = 0
  · have hz : zs = [] := List.eq_nil_of_length_eq_zero (by omega)
    subst hz
    have hrun := run_copy_none (P := P) w dT sT o.type e (some ⟨g, off, none⟩) sp dLen dCap m sCap hu hsz (by simp [h0])
    unfold Oper.wp
    simp [execOp, ho, resolve, invoke, builtin, hd, hs, hrun, Result.andThen]
    subst h0
    exact h w (hfin w (by simpa [splice] using hb)) (World.grownBy.refl _ _) hbelow
  · rcases hr with hr | ⟨b2, o2, rfl, hcell⟩
    · subst hr; simp at hm; omega
    have hrun := run_copy_row (P := P) w dT sT o.type e g off dLen dCap ⟨b2, o2, none⟩ m sCap cur.toArray e (zs.map (Value.int .u8)) hu hsz hb (by rw [hlen]; exact (Nat.min_eq_left hmd).symm) (fun j v hj => by
      have hj' : j < zs.length := by
        rcases Nat.lt_or_ge j zs.length with h | h
        · exact h
        · simp [List.getElem?_eq_none h] at hj
      rw [Addr.add_lit, hcell j hj']
      simp [hj'] at hj
      subst hj
      simp [List.getD, hj']) (by simp; omega) (ints_oneCell _ _)
    unfold Oper.wp
    simp [execOp, ho, resolve, invoke, builtin, hd, hs, hrun, Result.andThen, hm]
    refine h _ (hfin _ (by simpa [splice, hm] using setRow_heap w g _ (cur.take off ++ (zs.map (Value.int .u8) ++ cur.drop (off + m))).toArray e _ hb)) ⟨rfl, rfl, rfl, by simp [World.setRow], fun k _ hk => setRow_other w g k _ (fun e => hk (by rw [e]))⟩ ?_
    exact below_setRow hbelow hg _

end

end Go.Proofs.Ythjaehcfakjemaa
