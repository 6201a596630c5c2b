/- Put together: Row, Zl, PrsF, NbA. -/
import Derived.Test.YtfldgeokigcokaaVar
import Derived.Test.YtfldgeokigcokaaApp
import Derived.Laws.CopyOwn
import Derived.Test.YtfldgeokigcokaaTake
import Derived.Test.YtfldgeokigcokaaSum
import Derived.Test.YtfldgeokigcokaaFFe
import Derived.Test.YtfldgeokigcokaaPkt
import Derived.Test.YtfldgeokigcokaaPut

/- 'append' and 'copy' over a row of bytes of the call's own, in this place's words. -/
namespace Go.Proofs.Ytfldgeokigcokaa
open Go.RowKit

section
variable {P : Program} (w : World)

theorem wpList_app {ops : Array Oper} {rest : List Oper} {o : Oper} {a : Act} {Q : Exit → Act → World → Prop} (hgd : o.guard = none) (s x : Operand) (t : TypeId)
    (ho : o.op = .call { callee := .builtin .append, args := #[s, x], argTypes := #[t, t] })
    (base : Nat) (e : TypeId) (i : TypeInfo) (ht : P.underlying t = some (.slice e)) (hi : P.info? e = some i) (hz : i.zero = some (.int .u8 0)) (hsize : i.size = 1) (hby : i.bytes = 1)
    (c0 : Option Addr) (cap n : Nat) (l : List Int) (hs : a.eval s = .slice c0 n cap) (hown : Own .u8 e w base c0 cap l) (hn : l.length = n)
    (c : Option Addr) (m d : Nat) (zs : List Int) (hx : a.eval x = .slice c m d) (hr : Rd .u8 w c zs) (hm : zs.length = m) (hc : c = none → d = 0)
    (h63 : n + m ≤ 140737488355328) (hbase : base ≤ w.heap.size)
    (h : ∀ c' d' w', Own .u8 e w' base c' d' (l ++ zs) → w.grownBy w' (c0.map Addr.block) → Below base w w' → wpList P ops Q rest (a.put o.dst (.slice c' (n + m) d')) w') : wpList P ops Q (o :: rest) a w := by
  refine wpList_append_rd w hgd s x t ho base e i ht hi hz hsize hby _ n l hs (hown.row hn) c m d zs hx hr hm hc h63 hbase fun v' w' h1 h2 => ?_
  obtain ⟨c', d', rfl⟩ := ownsRow_shape h1
  have e0 : (Value.slice c0 n cap).ownBlock = c0.map Addr.block := by cases c0 <;> rfl
  rw [e0] at h2
  refine h c' d' w' (Own.mk h1 (by simp [hn, hm])) h2 ((Below.refl base w).grown h2 hbase fun k hk => ?_)
  have := hown.lt
  cases c0 with
  | none => cases hk
  | some b => simp at hk; subst hk; exact (this b rfl).1

theorem step_app {ops : Array Oper} {o : Oper} {a : Act} {K : Act → World → Prop} {Q : Exit → Act → World → Prop} {E : Prop} (hgd : o.guard = none) (s x : Operand) (t : TypeId)
    (ho : o.op = .call { callee := .builtin .append, args := #[s, x], argTypes := #[t, t] })
    (base : Nat) (e : TypeId) (i : TypeInfo) (ht : P.underlying t = some (.slice e)) (hi : P.info? e = some i) (hz : i.zero = some (.int .u8 0)) (hsize : i.size = 1) (hby : i.bytes = 1)
    (c0 : Option Addr) (cap n : Nat) (l : List Int) (hs : a.eval s = .slice c0 n cap) (hown : Own .u8 e w base c0 cap l) (hn : l.length = n)
    (c : Option Addr) (m d : Nat) (zs : List Int) (hx : a.eval x = .slice c m d) (hr : Rd .u8 w c zs) (hm : zs.length = m) (hc : c = none → d = 0)
    (h63 : n + m ≤ 140737488355328) (hbase : base ≤ w.heap.size)
    (h : ∀ c' d' w', Own .u8 e w' base c' d' (l ++ zs) → w.grownBy w' (c0.map Addr.block) → Below base w w' → K (a.put o.dst (.slice c' (n + m) d')) w') :
    if Region.wanted o (yielded ops a.tmps) = true then Oper.wp P o a w K Q else E := by
  refine step_append_rd w hgd s x t ho base e i ht hi hz hsize hby _ n l hs (hown.row hn) c m d zs hx hr hm hc h63 hbase fun v' w' h1 h2 => ?_
  obtain ⟨c', d', rfl⟩ := ownsRow_shape h1
  have e0 : (Value.slice c0 n cap).ownBlock = c0.map Addr.block := by cases c0 <;> rfl
  rw [e0] at h2
  refine h c' d' w' (Own.mk h1 (by simp [hn, hm])) h2 ((Below.refl base w).grown h2 hbase fun k hk => ?_)
  have := hown.lt
  cases c0 with
  | none => cases hk
  | some b => simp at hk; subst hk; exact (this b rfl).1

theorem wpList_put {ops : Array Oper} {rest : List Oper} {o : Oper} {a : Act} {Q : Exit → Act → World → Prop} (hgd : o.guard = none) (s x : Operand) (t : TypeId)
    (ho : o.op = .call { callee := .builtin .append, args := #[s, x], argTypes := #[t, t] })
    (base : Nat) (e : TypeId) (i : TypeInfo) (ht : P.underlying t = some (.slice e)) (hi : P.info? e = some i) (hz : i.zero = some (.int .u8 0)) (hsize : i.size = 1) (hby : i.bytes = 1)
    (c0 : Option Addr) (cap n : Nat) (l : List Int) (hs : a.eval s = .slice c0 n cap) (hown : Own .u8 e w base c0 cap l) (hn : l.length = n)
    (c : Option Addr) (m d : Nat) (zs : List Int) (hx : a.eval x = .slice c m d) (hr : Rd .u8 w c zs) (hm : zs.length = m) (hc : c = none → d = 0)
    (k : Nat) (l' : List Int) (hk : n + m = k) (hl' : l ++ zs = l') (h63 : n + m ≤ 140737488355328) (hbase : base ≤ w.heap.size)
    (h : ∀ c' d' w', Own .u8 e w' base c' d' l' → Below base w w' → wpList P ops Q rest (a.put o.dst (.slice c' k d')) w') : wpList P ops Q (o :: rest) a w := by
  subst hk
  subst hl'
  exact wpList_app w hgd s x t ho base e i ht hi hz hsize hby c0 cap n l hs hown hn c m d zs hx hr hm hc h63 hbase fun c' d' w' h1 _ h3 => h c' d' w' h1 h3

theorem step_put {ops : Array Oper} {o : Oper} {a : Act} {K : Act → World → Prop} {Q : Exit → Act → World → Prop} {E : Prop} (hgd : o.guard = none) (s x : Operand) (t : TypeId)
    (ho : o.op = .call { callee := .builtin .append, args := #[s, x], argTypes := #[t, t] })
    (base : Nat) (e : TypeId) (i : TypeInfo) (ht : P.underlying t = some (.slice e)) (hi : P.info? e = some i) (hz : i.zero = some (.int .u8 0)) (hsize : i.size = 1) (hby : i.bytes = 1)
    (c0 : Option Addr) (cap n : Nat) (l : List Int) (hs : a.eval s = .slice c0 n cap) (hown : Own .u8 e w base c0 cap l) (hn : l.length = n)
    (c : Option Addr) (m d : Nat) (zs : List Int) (hx : a.eval x = .slice c m d) (hr : Rd .u8 w c zs) (hm : zs.length = m) (hc : c = none → d = 0)
    (k : Nat) (l' : List Int) (hk : n + m = k) (hl' : l ++ zs = l') (h63 : n + m ≤ 140737488355328) (hbase : base ≤ w.heap.size)
    (h : ∀ c' d' w', Own .u8 e w' base c' d' l' → Below base w w' → K (a.put o.dst (.slice c' k d')) w') :
    if Region.wanted o (yielded ops a.tmps) = true then Oper.wp P o a w K Q else E := by
  subst hk
  subst hl'
  exact step_app w hgd s x t ho base e i ht hi hz hsize hby c0 cap n l hs hown hn c m d zs hx hr hm hc h63 hbase fun c' d' w' h1 _ h3 => h c' d' w' h1 h3

theorem Rd.keptB {k : IntKind} {w w' : World} {top : Nat} {a : Option Addr} {zs : List Int} (h : Rd k w a zs) (hlt : ∀ b, a = some b → b.block < top) (hb : Below top w w') : Rd k w' a zs := by
  rcases h with h | ⟨b, off, rfl, hc⟩
  · exact .inl h
  · exact .inr ⟨b, off, rfl, fun i hi => (hb.cell (p := ⟨b, off + i, none⟩) (show b < top from hlt ⟨b, off, none⟩ rfl)).trans (hc i hi)⟩

theorem splice_map {α β : Type} (f : α → β) (l : List α) (off : Nat) (cs : List α) : (splice l off cs).map f = splice (l.map f) off (cs.map f) := by
  simp [splice, List.map_take, List.map_drop]

theorem splice_take {α : Type} (l : List α) (off n : Nat) (cs : List α) (h : off + cs.length ≤ n) (hn : n ≤ l.length) : (splice l off cs).take n = splice (l.take n) off cs := by
  unfold splice
  have h1 : (l.take n).take off = l.take off := by rw [List.take_take, Nat.min_eq_left (by omega)]
  have h2 : (l.take n).drop (off + cs.length) = (l.drop (off + cs.length)).take (n - (off + cs.length)) := by rw [List.drop_take]
  rw [h1, h2]
  have e : n = (l.take off).length + (cs.length + (n - (off + cs.length))) := by simp; omega
  conv => lhs; rw [e]
  rw [List.take_length_add_append, List.take_length_add_append]

theorem step_copy {ops : Array Oper} {o : Oper} {a : Act} {K : Act → World → Prop} {Q : Exit → Act → World → Prop} {E : Prop} (hgd : o.guard = none) (d s : Operand) (dT sT : TypeId)
    (ho : o.op = .call { callee := .builtin .copy, args := #[d, s], argTypes := #[dT, sT] }) (e : TypeId) (hu : P.underlying dT = some (.slice e)) (hsz : (P.info? e).map (·.size) = some 1)
    (g off dLen dCap m sCap cap base : Nat) (sp : Option Addr) (l zs : List Int) (hd : a.eval d = .slice (some ⟨g, off, none⟩) dLen dCap) (hs : a.eval s = .slice sp m sCap)
    (hown : Own .u8 e w base (some ⟨g, 0, none⟩) cap l) (hr : Rd .u8 w sp zs) (hm : zs.length = m) (hmd : m ≤ dLen) (hfit : off + m ≤ l.length)
    (h : ∀ w', Own .u8 e w' base (some ⟨g, 0, none⟩) cap (splice l off zs) → w.grownBy w' (some g) → Below base w w' → K (a.put o.dst (goInt m)) w') :
    if Region.wanted o (yielded ops a.tmps) = true then Oper.wp P o a w K Q else E := by
  obtain ⟨h1, h2⟩ := hown
  rcases h2 with ⟨h2, _⟩ | ⟨g', cap', cur, hv, hg, hb, hc, hcm, hcs, htk⟩
  · simp at h2
  simp only [Value.slice.injEq, Option.some.injEq, Addr.mk.injEq, and_true, true_and] at hv
  obtain ⟨rfl, rfl⟩ := hv
  simp only [Nat.mul_one] at hcs htk
  have hbelow : Below base w w := Below.refl base w
  obtain ⟨cur, rfl⟩ : ∃ c : List Value, cur = c.toArray := ⟨cur.toList, by simp⟩
  simp only [List.size_toArray] at hcs
  have hw : Region.wanted o (yielded ops a.tmps) = true := by simp [Region.wanted, hgd]
  rw [if_pos hw]
  have hlen : (zs.map (Value.int .u8)).length = m := by simp [hm]
  have hfin : ∀ w', w'.heap[g]? = some (.cells (splice cur off (zs.map (Value.int .u8))).toArray e (0, 0)) → Own .u8 e w' base (some ⟨g, 0, none⟩) cap (splice l off zs) := by
    intro w' hw'
    have hl : (splice l off zs).length = l.length := length_splice _ _ _ (by omega)
    refine ⟨by simp, .inr ⟨g, cap, (splice cur off (zs.map (Value.int .u8))).toArray, rfl, hg, hw', by omega, hcm, ?_, ?_⟩⟩
    · simp only [List.size_toArray, Nat.mul_one]; rw [length_splice _ _ _ (by simp; omega)]; omega
    · simp only [Nat.mul_one]
      rw [hl, splice_map, splice_take _ _ _ _ (by simp; omega) (by omega), htk]
  by_cases h0 : m = 0
  · have hz : zs = [] := List.eq_nil_of_length_eq_zero (by omega)
    subst hz
    have hrun := run_copy_none (P := P) w dT sT o.type e (some ⟨g, off, none⟩) sp dLen dCap m sCap hu hsz (by simp [h0])
    unfold Oper.wp
    simp [execOp, ho, resolve, invoke, builtin, hd, hs, hrun, Result.andThen]
    subst h0
    exact h w (hfin w (by simpa [splice] using hb)) (World.grownBy.refl _ _) hbelow
  · rcases hr with hr | ⟨b2, o2, rfl, hcell⟩
    · subst hr; simp at hm; omega
    have hrun := run_copy_row (P := P) w dT sT o.type e g off dLen dCap ⟨b2, o2, none⟩ m sCap cur.toArray e (zs.map (Value.int .u8)) hu hsz hb (by rw [hlen]; exact (Nat.min_eq_left hmd).symm) (fun j v hj => by
      have hj' : j < zs.length := by
        rcases Nat.lt_or_ge j zs.length with h | h
        · exact h
        · simp [List.getElem?_eq_none h] at hj
      rw [Addr.add_lit, hcell j hj']
      simp [hj'] at hj
      subst hj
      simp [List.getD, hj']) (by simp; omega) (ints_oneCell _ _)
    unfold Oper.wp
    simp [execOp, ho, resolve, invoke, builtin, hd, hs, hrun, Result.andThen, hm]
    refine h _ (hfin _ (by simpa [splice, hm] using setRow_heap w g _ (cur.take off ++ (zs.map (Value.int .u8) ++ cur.drop (off + m))).toArray e _ hb)) ⟨rfl, rfl, rfl, by simp [World.setRow], fun k _ hk => setRow_other w g k _ (fun e => hk (by rw [e]))⟩ ?_
    exact below_setRow hbelow hg _

end

end Go.Proofs.Ytfldgeokigcokaa

/- What is answered beside a code. -/
namespace Go.Proofs.Ytfldgeokigcokaa
open Go.RowKit

/-- What is answered beside a code: nothing, if there is one. -/
@[irreducible] def z0 (k v : Int) : Int := if k = 0 then v else 0
@[irreducible] def zl (k : Int) (xs : List Int) : List Int := if k = 0 then xs else []

theorem z0_0 (v : Int) : z0 0 v = v := by unfold z0; simp
theorem zl_0 (xs : List Int) : zl 0 xs = xs := by unfold zl; simp
theorem z0_1 {k : Int} (h : k ≠ 0) (v : Int) : z0 k v = 0 := by unfold z0; simp [h]
theorem zl_1 {k : Int} (h : k ≠ 0) (xs : List Int) : zl k xs = [] := by unfold zl; simp [h]
theorem zl_len (k : Int) (xs : List Int) : (zl k xs).length ≤ xs.length := by unfold zl; split <;> simp

theorem Own.nocap {k : IntKind} {e : TypeId} {w : World} {base : Nat} {a : Option Addr} {cap : Nat} {zs : List Int} (h : Own k e w base a cap zs) : a = none → cap = 0 := by
  intro ha
  subst ha
  rcases h.2 with ⟨h0, _⟩ | ⟨g, cap', cur, hv, _⟩
  · simp only [Value.slice.injEq] at h0; exact h0.2.2
  · simp at hv

end Go.Proofs.Ytfldgeokigcokaa

/- What 'ParsePacket' answers: plain facts on bytes. -/
namespace Go.Proofs.Ytfldgeokigcokaa
open Go.RowKit

theorem takeN_one (zs : List Int) (p : Nat) : takeN zs p 1 = zs.getD p 0 := by simp [takeN, List.range_succ]

theorem ofNat_inj {a b : Int} (ha : 0 ≤ a ∧ a < 256) (hb : 0 ≤ b ∧ b < 256) (h : UInt8.ofNat a.toNat = UInt8.ofNat b.toNat) : a = b := by
  have h1 := congrArg UInt8.toNat h
  simp at h1
  omega

theorem eqB_iff {xs ys : List Int} (hx : Bytes xs) (hy : Bytes ys) : eqB xs ys = true ↔ xs = ys := by
  unfold eqB
  rw [beq_iff_eq]
  constructor
  · intro h
    have h2 : (xs.map fun n => UInt8.ofNat n.toNat) = ys.map fun n => UInt8.ofNat n.toNat := by
      have e : ∀ zs : List Int, (strOfNums zs).toList = zs.map fun n => UInt8.ofNat n.toNat := fun zs => by simp [strOfNums]
      rw [← e, ← e, h]
    clear h
    induction xs generalizing ys with
    | nil => cases ys <;> simp_all
    | cons x xs ih =>
      cases ys with
      | nil => simp at h2
      | cons y ys =>
        simp only [List.map_cons, List.cons.injEq] at h2
        rw [ofNat_inj (hx x (by simp)) (hy y (by simp)) h2.1, ih (fun z hz => hx z (by simp [hz])) (fun z hz => hy z (by simp [hz])) h2.2]
  · rintro rfl; rfl

/-- Four bytes at a place make 16384 just where they are 0, 0, 64, 0. -/
theorem mark_iff {zs : List Int} (hb : Bytes zs) (h : 8 ≤ zs.length) : takeN zs 4 4 = 16384 ↔ eqB ((zs.drop 4).take 4) [0, 0, 64, 0] = true := by
  have hd : (zs.drop 4).take 4 = [zs.getD 4 0, zs.getD 5 0, zs.getD 6 0, zs.getD 7 0] := by
    apply List.ext_getElem
    · simp; omega
    · intro i h1 h2
      simp at h2
      have : i = 0 ∨ i = 1 ∨ i = 2 ∨ i = 3 := by omega
      rcases this with rfl | rfl | rfl | rfl <;> simp [List.getD, show (4:Nat) < zs.length by omega, show (5:Nat) < zs.length by omega, show (6:Nat) < zs.length by omega, show (7:Nat) < zs.length by omega]
  have b4 := hb.at 4
  have b5 := hb.at 5
  have b6 := hb.at 6
  have b7 := hb.at 7
  rw [hd, eqB_iff (by intro z hz; simp only [List.mem_cons, List.not_mem_nil, or_false] at hz; rcases hz with rfl | rfl | rfl | rfl <;> assumption) (by intro z hz; simp only [List.mem_cons, List.not_mem_nil, or_false] at hz; rcases hz with rfl | rfl | rfl | rfl <;> decide)]
  have e : takeN zs 4 4 = ((zs.getD 4 0 * 256 + zs.getD 5 0) * 256 + zs.getD 6 0) * 256 + zs.getD 7 0 := by simp [takeN, List.range_succ]
  rw [e]
  simp only [List.cons.injEq, and_true]
  omega

@[irreducible] def lowB (zs : List Int) : Bool := decide (20 ≤ (zs.length : Int))
@[irreducible] def topB (zs : List Int) : Bool := decide ((zs.length : Int) ≤ 224)
@[irreducible] def verB (zs : List Int) : Bool := zs.getD 0 0 == 69
@[irreducible] def nulB (zs : List Int) : Bool := zs.getD 1 0 == 0
@[irreducible] def mrkB (zs : List Int) : Bool := eqB ((zs.drop 4).take 4) [0, 0, 64, 0]
@[irreducible] def lenB (zs : List Int) : Bool := takeN zs 2 2 == (zs.length : Int)

/-- The head is one. -/
@[irreducible] def hdB (zs : List Int) : Bool := lowB zs && (topB zs && (verB zs && (nulB zs && (mrkB zs && lenB zs))))

/-- The code of 'ParsePacket'. -/
@[irreducible] def psC (zs : List Int) : Int :=
  if hdB zs = true then
    if sumWords (zs.take 20) = 0 then
      if zs.getD 8 0 = 0 ∨ zs.getD 9 0 = 0 then 3
      else if portsP (zs.getD 9 0) = true then (if zs.length < 24 then 5 else 0)
      else if 220 < zs.length then 2 else 0
    else 6
  else 5

@[irreducible] def psAt (zs : List Int) : Nat := if portsP (zs.getD 9 0) = true then 24 else 20
@[irreducible] def psX (zs : List Int) : Int := if portsP (zs.getD 9 0) = true then takeN zs 20 2 else 0
@[irreducible] def psY (zs : List Int) : Int := if portsP (zs.getD 9 0) = true then takeN zs 22 2 else 0

theorem ps_cases (zs : List Int) :
    (hdB zs = false ∧ Hid (psC zs = 5)) ∨
    (hdB zs = true ∧ (sumWords (zs.take 20) == 0) = false ∧ Hid (psC zs = 6)) ∨
    (hdB zs = true ∧ (sumWords (zs.take 20) == 0) = true ∧ (zs.getD 8 0 != 0) = false ∧ Hid (psC zs = 3)) ∨
    (hdB zs = true ∧ (sumWords (zs.take 20) == 0) = true ∧ (zs.getD 8 0 != 0) = true ∧ (zs.getD 9 0 != 0) = false ∧ Hid (psC zs = 3)) ∨
    (hdB zs = true ∧ (sumWords (zs.take 20) == 0) = true ∧ (zs.getD 8 0 != 0) = true ∧ (zs.getD 9 0 != 0) = true ∧ portsP (zs.getD 9 0) = true ∧ zs.length < 24 ∧ Hid (psC zs = 5)) ∨
    (hdB zs = true ∧ (sumWords (zs.take 20) == 0) = true ∧ (zs.getD 8 0 != 0) = true ∧ (zs.getD 9 0 != 0) = true ∧ portsP (zs.getD 9 0) = true ∧ 24 ≤ zs.length ∧ Hid (psC zs = 0)) ∨
    (hdB zs = true ∧ (sumWords (zs.take 20) == 0) = true ∧ (zs.getD 8 0 != 0) = true ∧ (zs.getD 9 0 != 0) = true ∧ portsP (zs.getD 9 0) = false ∧ zs.length ≤ 220 ∧ Hid (psC zs = 0)) ∨
    (hdB zs = true ∧ (sumWords (zs.take 20) == 0) = true ∧ (zs.getD 8 0 != 0) = true ∧ (zs.getD 9 0 != 0) = true ∧ portsP (zs.getD 9 0) = false ∧ 220 < zs.length ∧ Hid (psC zs = 2)) := by
  unfold psC Hid
  generalize hdB zs = a
  generalize sumWords (zs.take 20) = s
  generalize zs.getD 8 0 = l
  generalize zs.getD 9 0 = r
  generalize portsP r = p
  generalize zs.length = n
  by_cases h1 : s = 0 <;> by_cases h2 : l = 0 <;> by_cases h3 : r = 0 <;> by_cases h4 : n < 24 <;> by_cases h5 : 220 < n <;> cases a <;> cases p <;> simp [h1, h2, h3, h4, h5] <;> omega

theorem hdB_len {zs : List Int} (h : hdB zs = true) : 20 ≤ zs.length ∧ zs.length ≤ 224 := by
  unfold hdB lowB topB at h
  simp only [Bool.and_eq_true, decide_eq_true_eq] at h
  omega

end Go.Proofs.Ytfldgeokigcokaa

/- 'numberBytes', by its contract. -/
namespace Go.Proofs.Ytfldgeokigcokaa
open Go.RowKit

theorem ptVal_of {n : Int} {s : Nat} (h : ptIn n s) : ptVal n s = putN n s := by
  unfold ptVal; rw [if_pos h]; rfl

theorem numberBytes_ok (n : Int) (s : Nat) (w : World) (h : ptIn n s) :
    Calls Try.prog 80 #[.int .i64 n, .int .i64 (s : Int)] w fun e w' => ∃ c d, e = .returned (.slice c s d) ∧ Own .u8 5 w' w.heap.size c d (putN n s) ∧ Below w.heap.size w w' := by
  have C := Hid.mk (fun w => implPutNumber_ok n s w)
  rw [ptVal_of h, length_putN] at C
  go_enter Try.func80, Try.ntmps80
  go_wp2_with fail
  refine (C.out _).mono ?_
  rintro e w1 ⟨c, d, rfl, o1, b1⟩
  have O1 := Hid.mk o1
  clear o1
  have hfd : ∀ wx : World, (Instr.field 29 (.agg #[.int .i64 (ptCode n s), .slice c s d]) 1).run Try.prog wx = .ok (.slice c s d) wx := fun _ => by kernel_rfl
  go_wp2
  go_ret
  exact ⟨c, d, rfl, O1.out, b1⟩

end Go.Proofs.Ytfldgeokigcokaa
