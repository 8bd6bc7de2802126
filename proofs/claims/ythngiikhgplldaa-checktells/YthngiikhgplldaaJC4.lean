/- Texts of this claim, one behind the other. -/
import Derived.Maps.OwnSet
import Derived.Maps.OwnOps
import Derived.StringKeys
import Derived.Test.YthngiikhgplldaaJC1
import Derived.Test.YthngiikhgplldaaJC3
/- Maps of texts that a call makes: sets of texts, and texts' numbers. Nothing of the program. -/
namespace Go.Proofs.Ythngiikhgplldaa
open Go.RowKit Go.Sort Go.Maps

theorem owns_block {H : Type} {P : Program} {k : TypeId} {R : Value → Option (DataW H × List MemPlace)} {w w' : World} {b n : Nat} {D : DataW H} (h : w.ownsMap P k R b n D) (e : w'.heap[b]? = w.heap[b]?) : w'.ownsMap P k R b n D := by
  obtain ⟨es, clock, hb, F, hs, hD⟩ := h
  exact ⟨es, clock, e.trans hb, F, hs, hD⟩

theorem key_mk {P : Program} {K : TypeId} (hk : P.underlying K = some .string) {s : Bs} (hs : s.length ≤ maxLen) : keyOf P K (.string (bs s)) = some (.string s) := by
  have := WideMaps.keyOf_string_mk (P := P) (k := K) hk (s := bs s) (by rw [size_bs]; exact hs)
  rw [this]; rfl

theorem keyS (s : Bs) : WideAt.IsKeyLit (.string s) := trivial
theorem str_ne {s t : Bs} (h : t ≠ s) : Lit.string t ≠ Lit.string s := fun e => h (by injection e)

/-- Block b is a set of texts: those of which f says so. -/
def SetM (P : Program) (K : TypeId) (w : World) (b n : Nat) (f : Bs → Bool) : Prop := ∃ D : DataW Unit, w.ownsMap P K unitElem b n D ∧ ∀ s, Maps.has D (.string s) = f s

theorem SetM.made (P : Program) (K : TypeId) (w : World) : SetM P K (w.alloc (.map #[] 0)) w.heap.size 0 (fun _ => false) := ⟨.map [], World.ownsMap_made _ _ _ _, fun _ => rfl⟩

section
variable {P : Program} {K : TypeId} {w w' : World} {b n : Nat} {f : Bs → Bool}
theorem SetM.lt (h : SetM P K w b n f) : b < w.heap.size := by obtain ⟨D, h, _⟩ := h; exact h.lt
theorem SetM.block (h : SetM P K w b n f) (e : w'.heap[b]? = w.heap[b]?) : SetM P K w' b n f := by obtain ⟨D, h, hf⟩ := h; exact ⟨D, owns_block h e, hf⟩
theorem SetM.later (h : SetM P K w b n f) (k : Later w w') : SetM P K w' b n f := h.block (k.block h.lt)
theorem SetM.below (h : SetM P K w b n f) (k : Below w.heap.size w w') : SetM P K w' b n f := h.block (k.block b h.lt)
theorem SetM.grown {row : Option Nat} (h : SetM P K w b n f) (k : w.grownBy w' row) (hne : some b ≠ row) : SetM P K w' b n f := h.block (k.block b h.lt hne)
theorem SetM.mono (h : SetM P K w b n f) {n' : Nat} (hn : n ≤ n') : SetM P K w b n' f := by obtain ⟨D, h, hf⟩ := h; exact ⟨D, h.mono hn, hf⟩
theorem SetM.congr {g : Bs → Bool} (h : SetM P K w b n f) (e : ∀ s, f s = g s) : SetM P K w b n g := by obtain ⟨D, h, hf⟩ := h; exact ⟨D, h, fun s => (hf s).trans (e s)⟩
end

/-- Block b holds numbers of texts. -/
def NumM (P : Program) (K E : TypeId) (w : World) (b n : Nat) (m : Nums) : Prop := ∃ D : DataW Unit, w.ownsMap P K (plainElem P E) b n D ∧ ∀ s, Maps.has D (.string s) = (m s).isSome ∧ D.atKey (.string s) (.lit (.int .i64 0)) = .lit (.int .i64 (numOf m s))

theorem NumM.made (P : Program) (K E : TypeId) (w : World) : NumM P K E (w.alloc (.map #[] 0)) w.heap.size 0 (fun _ => none) := ⟨.map [], World.ownsMap_made _ _ _ _, fun _ => ⟨rfl, rfl⟩⟩

section
variable {P : Program} {K E : TypeId} {w w' : World} {b n : Nat} {m : Nums}
theorem NumM.lt (h : NumM P K E w b n m) : b < w.heap.size := by obtain ⟨D, h, _⟩ := h; exact h.lt
theorem NumM.block (h : NumM P K E w b n m) (e : w'.heap[b]? = w.heap[b]?) : NumM P K E w' b n m := by obtain ⟨D, h, hf⟩ := h; exact ⟨D, owns_block h e, hf⟩
theorem NumM.later (h : NumM P K E w b n m) (k : Later w w') : NumM P K E w' b n m := h.block (k.block h.lt)
theorem NumM.below (h : NumM P K E w b n m) (k : Below w.heap.size w w') : NumM P K E w' b n m := h.block (k.block b h.lt)
theorem NumM.grown {row : Option Nat} (h : NumM P K E w b n m) (k : w.grownBy w' row) (hne : some b ≠ row) : NumM P K E w' b n m := h.block (k.block b h.lt hne)
theorem NumM.mono (h : NumM P K E w b n m) {n' : Nat} (hn : n ≤ n') : NumM P K E w b n' m := by obtain ⟨D, h, hf⟩ := h; exact ⟨D, h.mono hn, hf⟩
end

/-! ### the runs -/
section
variable {P : Program} {K E T : TypeId} {w : World} {b n : Nat}
theorem SetM.has {f : Bs → Bool} (h : SetM P K w b n f) (hk : P.underlying K = some .string) (ht : P.underlying T = some (.map K E)) (hz : (zeroValue E).run P w = .ok (.agg #[]) w) {s : Bs} (hs : s.length ≤ maxLen) :
    (Instr.lookup T (.map (some b)) (.string (bs s)) true).run P w = .ok (.tuple #[.agg #[], .bool (f s)]) w := by
  obtain ⟨D, hown, hf⟩ := h
  obtain ⟨v, ps, hrun, hv⟩ := hown.look_ok (string_keyed hk) ht hz (zd := .agg []) (zp := []) unitElem_mk (key_mk hk hs)
  obtain ⟨rfl, _⟩ := unitElem_inv hv
  rw [hrun, hf]

theorem SetM.add {f : Bs → Bool} (h : SetM P K w b n f) (hk : P.underlying K = some .string) (ht : P.underlying T = some (.map K E)) (hn : n < maxLen) {s : Bs} (hs : s.length ≤ maxLen) :
    ∃ w', (Instr.mapUpdate T (.map (some b)) (.string (bs s)) (.agg #[])).run P w = .ok () w' ∧ SetM P K w' b (n + 1) (fun t => f t || decide (t = s)) ∧ w.grownBy w' (some b) := by
  obtain ⟨D, hown, hf⟩ := h
  obtain ⟨w', hrun, r1, r2⟩ := hown.update (string_keyed hk) ht hn (key_mk hk hs) (d := .agg []) (ps := []) unitElem_mk
  refine ⟨w', hrun, ⟨_, r1, fun t => ?_⟩, r2⟩
  by_cases e : t = s
  · subst e
    rw [has_put_same hown.isMap (keyS _)]; simp
  · rw [has_put_other (str_ne e), hf]; simp [e]

theorem NumM.look {m : Nums} (h : NumM P K E w b n m) (hk : P.underlying K = some .string) (he : P.underlying E = some (.int .i64)) (ht : P.underlying T = some (.map K E)) (hz : (zeroValue E).run P w = .ok (.int .i64 0) w) {s : Bs} (hs : s.length ≤ maxLen) :
    (Instr.lookup T (.map (some b)) (.string (bs s)) false).run P w = .ok (.int .i64 (numOf m s)) w := by
  obtain ⟨D, hown, hf⟩ := h
  obtain ⟨c, hrun, hat, _⟩ := hown.lookup_int (string_keyed hk) ht he hz (key_mk hk hs)
  rw [(hf s).2] at hat
  injection hat with hat
  injection hat with _ hat
  rw [hrun, hat]

theorem NumM.lookOk {m : Nums} (h : NumM P K E w b n m) (hk : P.underlying K = some .string) (he : P.underlying E = some (.int .i64)) (ht : P.underlying T = some (.map K E)) (hz : (zeroValue E).run P w = .ok (.int .i64 0) w) {s : Bs} (hs : s.length ≤ maxLen) :
    (Instr.lookup T (.map (some b)) (.string (bs s)) true).run P w = .ok (.tuple #[.int .i64 (numOf m s), .bool (m s).isSome]) w := by
  obtain ⟨D, hown, hf⟩ := h
  obtain ⟨v, ps, hrun, hv⟩ := hown.look_ok (string_keyed hk) ht hz (plainElem_int he (by decide)) (key_mk hk hs)
  rw [(hf s).2] at hv
  obtain ⟨c, rfl, hc, _⟩ := plainElem_int_inv he hv
  simp only [Prod.mk.injEq] at hc
  have hc := hc.1
  injection hc with hc
  injection hc with _ hc
  rw [hrun, (hf s).1, ← hc]

theorem NumM.store {m : Nums} (h : NumM P K E w b n m) (hk : P.underlying K = some .string) (he : P.underlying E = some (.int .i64)) (ht : P.underlying T = some (.map K E)) (hn : n < maxLen) {s : Bs} (hs : s.length ≤ maxLen) {x : Nat} (hx : (Lit.int .i64 (x : Int)).wf = true) :
    ∃ w', (Instr.mapUpdate T (.map (some b)) (.string (bs s)) (.int .i64 (x : Int))).run P w = .ok () w' ∧ NumM P K E w' b (n + 1) (m.put s x) ∧ w.grownBy w' (some b) := by
  obtain ⟨D, hown, hf⟩ := h
  obtain ⟨w', hrun, r1, r2⟩ := hown.update (string_keyed hk) ht hn (key_mk hk hs) (plainElem_int he hx)
  refine ⟨w', hrun, ⟨_, r1, fun t => ?_⟩, r2⟩
  by_cases e : t = s
  · subst e
    refine ⟨by rw [has_put_same hown.isMap (keyS _)]; simp [Nums.put], ?_⟩
    rw [atKey_put_same hown.isMap (keyS _), numOf_put, if_pos rfl]
  · refine ⟨by rw [has_put_other (str_ne e), (hf t).1]; simp [Nums.put, e], ?_⟩
    rw [atKey_put_other (str_ne e), (hf t).2, numOf_put, if_neg e]
end

/-! ### at the operation, for the walk -/
section
variable {P : Program} (w : World) {ops : Array Oper} {rest : List Oper} {o : Oper} {a : Act} {Q : Exit → Act → World → Prop}
theorem wpList_run_lookup (hg : o.guard = none) (m x : Operand) (t : TypeId) (c : Bool) (hop : o.op = Op.lookup t m x c) (vm vx v : Value) (hm : a.eval m = vm) (hx : a.eval x = vx) (hrun : (Instr.lookup t vm vx c).run P w = .ok v w)
    (hK : wpList P ops Q rest (a.put o.dst v) w) : wpList P ops Q (o :: rest) a w := by
  refine wpList_plain hg fun K' hK' => ?_
  unfold Oper.wp
  simp [execOp, hop, hm, hx, hrun, Result.andThen]
  exact hK' _ _ hK
theorem wpList_run_update (hg : o.guard = none) (m x v : Operand) (t : TypeId) (hop : o.op = Op.mapUpdate t m x v) (vm vx vv : Value) (w' : World) (hm : a.eval m = vm) (hx : a.eval x = vx) (hv : a.eval v = vv) (hrun : (Instr.mapUpdate t vm vx vv).run P w = .ok () w')
    (hK : wpList P ops Q rest (a.put o.dst undef) w') : wpList P ops Q (o :: rest) a w := by
  refine wpList_plain hg fun K' hK' => ?_
  unfold Oper.wp
  simp [execOp, hop, hm, hx, hv, hrun, Result.andThen]
  exact hK' _ _ hK
end

end Go.Proofs.Ythngiikhgplldaa

/- The walks of check's sets of names. -/
namespace Go.Proofs.Ythngiikhgplldaa
open Go.RowKit Go.Sort Go.Maps

abbrev NamesM (w : World) (b n : Nat) (f : Bs → Bool) : Prop := SetM Try.prog 9 w b n f
theorem zeroUnit (w : World) : (zeroValue 62).run Try.prog w = .ok (.agg #[]) w := by kernel_rfl
theorem zeroInt (w : World) : (zeroValue 3).run Try.prog w = .ok (.int .i64 0) w := by kernel_rfl

theorem Tn.of_grown {p : Nat} {a b : World} (h : a.grownBy b (some p)) : Tn p a b := ⟨h.os, h.tape, h.output, h.size, fun k hk ho => h.block k hk (by simpa using ho)⟩

/-- An element's cells, and where they may lie. -/
theorem Kind.sl_atB {α : Type} {K : Kind α} {B : Nat → Prop} {w : World} {a : Option Addr} {n cap i : Nat} {l : List α} {x : α} (h : K.sl B w (.slice a n cap) l) (hi : l[i]? = some x) :
    ∃ b off c, a = some ⟨b, off, none⟩ ∧ b < w.heap.size ∧ B b ∧ K.is B w c x ∧ ∀ j u, c[j]? = some u → w.cell? ⟨b, off + i * K.size + j, none⟩ = some u := by
  obtain ⟨_, a', cap', e, h1⟩ := h
  simp only [Value.slice.injEq] at e
  obtain ⟨rfl, _, _⟩ := e
  obtain ⟨b, off, rfl, hB, hb, hc⟩ := h1 (by intro e; rw [e] at hi; simp at hi)
  obtain ⟨c, c1, c2⟩ := hc i x hi
  exact ⟨b, off, c, rfl, hb, hB, c1, c2⟩

set_option maxHeartbeats 400000 in
theorem hasC (b n : Nat) (f : Bs → Bool) (s : Bs) (w : World) (h : NamesM w b n f) (hs : s.length ≤ maxLen) :
    Calls Try.prog 16 #[.map (some b), .string (bs s)] w fun e w' => e = .returned (.bool (f s)) ∧ Later w w' := by
  have hr := SetM.has (T := 49) (E := 62) h Try.underlying9 Try.underlying49 (zeroUnit w) hs
  generalize f s = r at *
  generalize bs s = k at *
  go_enter Try.func16, Try.ntmps16
  go_wp2
  go_ret
  exact ⟨rfl, (Later.refl _).alloc _⟩

theorem contains_take {l : List Bs} {j : Nat} {x : Bs} (h : l[j]? = some x) (s : Bs) : (l.take (j + 1)).contains s = ((l.take j).contains s || decide (s = x)) := by
  rw [List.take_add_one, h]
  rw [Bool.eq_iff_iff]
  simp

set_option maxHeartbeats 1000000 in
theorem addC (b n : Nat) (f : Bs → Bool) (v : Value) (l : List Bs) (w : World) (h : NamesM w b n f) (hv : strK.sl (fun k => k ≠ b) w v l) (hn : n + l.length < maxLen) (hs : ∀ s ∈ l, s.length ≤ maxLen) :
    Calls Try.prog 17 #[.map (some b), v] w fun e w' => e = .returned (.tuple #[]) ∧ NamesM w' b (n + l.length) (fun s => f s || l.contains s) ∧ Tn b w w' := by
  obtain ⟨a, cap, rfl⟩ := Kind.slice hv
  have HV := hide hv
  have hl := hv.1.1
  clear hv
  have H0 : Hid (NamesM w b (n + 0) (fun s => f s || (l.take 0).contains s)) := h.congr fun s => by simp
  clear h
  go_enter Try.func17, Try.ntmps17
  go_wp2
  go_loopg [8] l.length (fun k i wr => ∃ j : Nat, j + k = l.length ∧ i = .int .i64 j ∧ Hid (NamesM wr b (n + j) (fun s => f s || (l.take j).contains s)) ∧ Hid (Tn b w wr))
  case atStart => exact ⟨0, by omega, rfl, H0, Tn.refl _ _⟩
  case round =>
    obtain ⟨j, hj, rfl, HM, HT⟩ := hrel
    by_cases hlt : j < l.length
    · obtain ⟨x, hx⟩ : ∃ x, l[j]? = some x := ⟨_, List.getElem?_eq_getElem hlt⟩
      obtain ⟨b1, o1, _, rfl, hb1, hne, rfl, hc⟩ := Kind.sl_atB HV.out hx
      have d0 : wr.cell? ⟨b1, o1 + j, none⟩ = some (.string (bs x)) := by rw [HT.out.cell hb1 hne]; simpa [strK] using hc 0 _ rfl
      obtain ⟨w1, hr, hm, hg⟩ := SetM.add (T := 49) (E := 62) HM.out Try.underlying9 Try.underlying49 (by omega) (hs x (List.mem_of_getElem? hx))
      have HM1 : Hid (NamesM w1 b (n + (j + 1)) (fun s => f s || (l.take (j + 1)).contains s)) := hm.congr fun s => by rw [contains_take hx]; simp [Bool.or_assoc]
      have HT1 : Hid (Tn b w w1) := HT.out.trans (Tn.of_grown hg)
      clear hc hm hg hx HM HT
      generalize bs x = k at *
      go_wp2_with (first
        | (at_mapUpdate; refine wpList_run_update _ rfl _ _ _ _ rfl _ _ _ _ rfl rfl rfl hr ?_)
        | go_in)
      go_roundg (l.length - (j + 1))
      case measure => omega
      case rel => exact ⟨j + 1, by omega, by go_num, HM1, HT1⟩
    · have e : j = l.length := by omega
      subst e
      go_wp2
      go_end0
      exact ⟨rfl, by simpa using HM.out, HT.out⟩

set_option maxHeartbeats 1000000 in
theorem hasAllC (b n : Nat) (f : Bs → Bool) (v : Value) (l : List Bs) (w : World) (h : NamesM w b n f) (hv : strK.sl Anyw w v l) (hs : ∀ s ∈ l, s.length ≤ maxLen) :
    Calls Try.prog 20 #[.map (some b), v] w fun e w' => e = .returned (.bool (l.all f)) ∧ Later w w' := by
  obtain ⟨a, cap, rfl⟩ := Kind.slice hv
  have HV := hide hv
  have hl := hv.1.1
  clear hv
  have H0 := hide h
  clear h
  go_enter Try.func20, Try.ntmps20
  go_wp2
  go_loopg [9] l.length (fun k i wr => ∃ j : Nat, j + k = l.length ∧ i = .int .i64 j ∧ Hid (Later w wr) ∧ Hid (l.all f = (l.drop j).all f))
  case atStart => exact ⟨0, by omega, rfl, Later.refl _, (rfl : _ = _)⟩
  case round =>
    obtain ⟨j, hj, rfl, HL, HF⟩ := hrel
    by_cases hlt : j < l.length
    · obtain ⟨x, hx⟩ : ∃ x, l[j]? = some x := ⟨_, List.getElem?_eq_getElem hlt⟩
      obtain ⟨b1, o1, _, rfl, hb1, rfl, hc⟩ := Kind.sl_at HV.out hx
      have d0 : wr.cell? ⟨b1, o1 + j, none⟩ = some (.string (bs x)) := by rw [HL.out.cell hb1]; simpa [strK] using hc 0 _ rfl
      have hC := hasC b n f x wr (H0.out.later HL.out) (hs x (List.mem_of_getElem? hx))
      have HC := hide hC
      have hd : (l.drop j).all f = (f x && (l.drop (j + 1)).all f) := by
        obtain ⟨h1, e1⟩ := List.getElem?_eq_some_iff.1 hx
        rw [List.drop_eq_getElem_cons h1, e1]; rfl
      clear hc hx hC
      generalize bs x = k at *
      cases hf : f x
      · have F : Hid (l.all f = false) := by show _ = _; rw [HF.out, hd, hf]; rfl
        rw [hf] at HC
        clear hd HF
        go_wp2_with (go_at_call 16; refine HC.out.mono ?_; rintro e w' ⟨rfl, hL⟩; replace hL := hide hL)
        go_ret
        exact ⟨ret_bool F.out.symm, HL.out.trans (unhide hL)⟩
      · have F : Hid (l.all f = (l.drop (j + 1)).all f) := by show _ = _; rw [HF.out, hd, hf]; rfl
        rw [hf] at HC
        clear hd HF
        go_wp2_with (go_at_call 16; refine HC.out.mono ?_; rintro e w' ⟨rfl, hL⟩; replace hL := hide hL)
        go_roundg (l.length - (j + 1))
        case measure => omega
        case rel => exact ⟨j + 1, by omega, by go_num, HL.out.trans (unhide hL), F⟩
    · have F : Hid (l.all f = true) := by show _ = _; rw [HF.out, List.drop_eq_nil_of_le (by omega)]; rfl
      go_wp2
      go_ret
      exact ⟨ret_bool F.out.symm, HL.out⟩

end Go.Proofs.Ythngiikhgplldaa

/- The walk of syntax.Variable. -/
namespace Go.Proofs.Ythngiikhgplldaa
open Go.RowKit Go.Sort

theorem isVar_long {l : Bs} (h : l = [] ∨ 12 < l.length) : isVar l = false := by
  rcases h with h | h
  · subst h; rfl
  · unfold isVar; rw [decide_eq_false (by omega)]; rfl

theorem isVar_in {s : ByteArray} (h0 : 0 < s.size) (h1 : s.size ≤ 12) : isVar (raw s) = (greatB (s[0].toNat) && decide ((bs ((raw s).takeWhile isSign)).size = s.size)) := by
  have hl := length_raw s
  unfold isVar
  rw [size_bs, ← hl, takeWhile_len, decide_eq_true (by omega)]
  have hl' : 0 < (raw s).length := by omega
  have e : raw s = (s[0]'h0) :: (raw s).drop 1 := by
    have := List.drop_eq_getElem_cons hl'
    rw [List.drop_zero, getRaw h0 hl'] at this
    exact this
  generalize (raw s).all isSign = q
  rw [e]
  rfl

set_option maxHeartbeats 1000000 in
theorem variableC (s : ByteArray) (w : World) : Calls Try.prog 36 #[.string s] w fun e w' => e = .returned (.bool (isVar (raw s))) ∧ w' = w := by
  by_cases h0 : 0 < s.size
  · have h0' : ((s.size : Int) == 0) = false := by rw [beq_eq_false_iff_ne]; omega
    by_cases h1 : s.size ≤ 12
    · have F := hide (isVar_in h0 h1)
      generalize hx : bs ((raw s).takeWhile isSign) = x at F
      have HX := hide hx
      clear hx
      generalize hc : (s[0]'h0).toNat = c at F
      by_cases ha : c < 65
      · have G : Hid (greatB c = false) := by show _ = _; unfold greatB; exact decide_eq_false (by omega)
        have ha' : (c : Int) < 65 := by omega
        go_enter Try.func36, Try.ntmps36
        go_wp2
        go_ret
        exact ⟨ret_bool (by rw [F.out, G.out]; rfl), rfl⟩
      · by_cases hz : 90 < c
        · have G : Hid (greatB c = false) := by show _ = _; unfold greatB; exact decide_eq_false (by omega)
          have ha' : ¬ (c : Int) < 65 := by omega
          have hz' : 90 < (c : Int) := by omega
          go_enter Try.func36, Try.ntmps36
          go_wp2
          go_ret
          exact ⟨ret_bool (by rw [F.out, G.out]; rfl), rfl⟩
        · have G : Hid (greatB c = true) := by show _ = _; unfold greatB; exact decide_eq_true (by omega)
          have ha' : ¬ (c : Int) < 65 := by omega
          have hz' : ¬ 90 < (c : Int) := by omega
          go_enter Try.func36, Try.ntmps36
          go_wp2_with (go_at_call 34; refine (wordC _ _ (by omega)).mono ?_; rintro e w' ⟨rfl, rfl⟩; rw [HX.out])
          go_ret
          refine ⟨ret_bool ?_, rfl⟩
          rw [F.out, G.out, Bool.eq_iff_iff]
          simp
          omega
    · have F : Hid (isVar (raw s) = false) := isVar_long (Or.inr (by rw [length_raw]; omega))
      go_enter Try.func36, Try.ntmps36
      go_wp2
      go_ret
      exact ⟨ret_bool F.out.symm, rfl⟩
  · have F : Hid (isVar (raw s) = false) := isVar_long (Or.inl (List.eq_nil_of_length_eq_zero (by rw [length_raw]; omega)))
    have h0' : ((s.size : Int) == 0) = true := by rw [beq_iff_eq]; omega
    go_enter Try.func36, Try.ntmps36
    go_wp2
    go_ret
    exact ⟨ret_bool F.out.symm, rfl⟩

end Go.Proofs.Ythngiikhgplldaa

/- The walks of check.wrongTerm and check.wrongAtom. -/
namespace Go.Proofs.Ythngiikhgplldaa
open Go.RowKit Go.Sort

theorem namedBs (l : Bs) (w : World) : Calls Try.prog 27 #[.string (bs l)] w fun e w' => e = .returned (.bool (isNamed l)) ∧ w' = w := by
  have := named (bs l) w
  rw [namedB_eq, raw_bs] at this
  exact this
theorem variableBs (l : Bs) (w : World) : Calls Try.prog 36 #[.string (bs l)] w fun e w' => e = .returned (.bool (isVar l)) ∧ w' = w := by
  have := variableC (bs l) w
  rw [raw_bs] at this
  exact this

set_option maxHeartbeats 400000 in
theorem wrongTermC (t : TermD) (w : World) : Calls Try.prog 29 #[.agg #[.bool t.1, .string (bs t.2)]] w fun e w' => e = .returned (.bool (wrongTerm t)) ∧ Later w w' := by
  obtain ⟨v, s⟩ := t
  unfold wrongTerm
  dsimp only
  have HN : Hid (∀ w, Calls Try.prog 27 #[.string (bs s)] w fun e w' => e = .returned (.bool (isNamed s)) ∧ w' = w) := fun w => namedBs s w
  have HV : Hid (∀ w, Calls Try.prog 36 #[.string (bs s)] w fun e w' => e = .returned (.bool (isVar s)) ∧ w' = w) := fun w => variableBs s w
  generalize isNamed s = x at *
  generalize isVar s = y at *
  generalize bs s = k at *
  cases v
  all_goals
    go_enter Try.func29, Try.ntmps29
    go_wp2_with (first
      | (go_at_call 27; refine (HN.out _).mono ?_; rintro e w' ⟨rfl, rfl⟩)
      | (go_at_call 36; refine (HV.out _).mono ?_; rintro e w' ⟨rfl, rfl⟩))
    go_ret
    exact ⟨rfl, (Later.refl _).alloc _⟩

theorem any_step {α : Type} {l : List α} {j : Nat} {x : α} (h : l[j]? = some x) (f : α → Bool) : (l.drop j).any f = (f x || (l.drop (j + 1)).any f) := by
  obtain ⟨h1, e1⟩ := List.getElem?_eq_some_iff.1 h
  rw [List.drop_eq_getElem_cons h1, e1]; rfl
theorem all_step {α : Type} {l : List α} {j : Nat} {x : α} (h : l[j]? = some x) (f : α → Bool) : (l.drop j).all f = (f x && (l.drop (j + 1)).all f) := by
  obtain ⟨h1, e1⟩ := List.getElem?_eq_some_iff.1 h
  rw [List.drop_eq_getElem_cons h1, e1]; rfl

set_option maxHeartbeats 1000000 in
/-- slices.IndexFunc at terms, with wrongTerm: at or above 0 just where one is wrong. -/
theorem indexTerm (v : Value) (l : List TermD) (w : World) (hv : termK.sl Anyw w v l) :
    Calls Try.prog 35 #[v, .func (.func 29) #[] #[]] w fun e w' => ∃ n : Int, e = .returned (.int .i64 n) ∧ decide (0 ≤ n) = l.any wrongTerm ∧ Later w w' := by
  obtain ⟨a, cap, rfl⟩ := Kind.slice hv
  have HV := hide hv
  have hl := hv.1.1
  clear hv
  go_enter Try.func35, Try.ntmps35
  go_wp2
  go_loopg [8] l.length (fun k i wr => ∃ j : Nat, j + k = l.length ∧ i = .int .i64 j ∧ Hid (Later w wr) ∧ Hid (l.any wrongTerm = (l.drop j).any wrongTerm))
  case atStart => exact ⟨0, by omega, rfl, Later.refl _, (rfl : _ = _)⟩
  case round =>
    obtain ⟨j, hj, rfl, HL, HF⟩ := hrel
    by_cases hlt : j < l.length
    · obtain ⟨x, hx⟩ : ∃ x, l[j]? = some x := ⟨_, List.getElem?_eq_getElem hlt⟩
      obtain ⟨b1, o1, _, rfl, hb1, rfl, hc⟩ := Kind.sl_at HV.out hx
      have d0 : wr.cell? ⟨b1, o1 + j * 2, none⟩ = some (.bool x.1) := by rw [HL.out.cell hb1]; exact hc 0 _ rfl
      have d1 : wr.cell? ⟨b1, o1 + j * 2 + 1, none⟩ = some (.string (bs x.2)) := by rw [HL.out.cell hb1]; exact hc 1 _ rfl
      have HC := hide (wrongTermC x wr)
      have hd := any_step hx wrongTerm
      clear hc hx
      cases hf : wrongTerm x
      · have F : Hid (l.any wrongTerm = (l.drop (j + 1)).any wrongTerm) := by show _ = _; rw [HF.out, hd, hf]; rfl
        rw [hf] at HC
        clear hd HF hf
        go_wp2_with (go_at_call 29; refine HC.out.mono ?_; rintro e w' ⟨rfl, hL⟩; replace hL := hide hL)
        go_roundg (l.length - (j + 1))
        case measure => omega
        case rel => exact ⟨j + 1, by omega, by go_num, HL.out.trans (unhide hL), F⟩
      · have F : Hid (l.any wrongTerm = true) := by show _ = _; rw [HF.out, hd, hf]; rfl
        rw [hf] at HC
        clear hd HF hf
        go_wp2_with (go_at_call 29; refine HC.out.mono ?_; rintro e w' ⟨rfl, hL⟩; replace hL := hide hL)
        go_ret
        exact ⟨_, rfl, by rw [F.out]; simp, HL.out.trans (unhide hL)⟩
    · have F : Hid (l.any wrongTerm = false) := by show _ = _; rw [HF.out, List.drop_eq_nil_of_le (by omega)]; rfl
      go_wp2
      go_ret
      exact ⟨_, rfl, by rw [F.out]; simp, HL.out⟩

set_option maxHeartbeats 400000 in
theorem containsTerm (v : Value) (l : List TermD) (w : World) (hv : termK.sl Anyw w v l) :
    Calls Try.prog 28 #[v, .func (.func 29) #[] #[]] w fun e w' => e = .returned (.bool (l.any wrongTerm)) ∧ Later w w' := by
  have HI := hide (indexTerm v l w hv)
  obtain ⟨a, cap, rfl⟩ := Kind.slice hv
  clear hv
  go_enter Try.func28, Try.ntmps28
  go_wp2_with (go_at_call 35; refine HI.out.mono ?_; rintro e w' ⟨n, rfl, hn, hL⟩; replace hn := hide hn; replace hL := hide hL)
  go_ret
  exact ⟨ret_bool (unhide hn), unhide hL⟩

set_option maxHeartbeats 1000000 in
theorem wrongAtomC (a : AtomD) (v : Value) (w : World) (hv : termK.sl Anyw w v a.terms) :
    Calls Try.prog 18 #[.agg #[.bool a.no, .string (bs a.name), v]] w fun e w' => e = .returned (.int .i64 (wrongAtom a)) ∧ Later w w' := by
  have HC : Hid (∀ w', Later w w' → Calls Try.prog 28 #[v, .func (.func 29) #[] #[]] w' fun e w'' => e = .returned (.bool (a.terms.any wrongTerm)) ∧ Later w' w'') := fun w' hw => containsTerm v a.terms w' (Kind.sl_later hv hw)
  have HN : Hid (∀ w, Calls Try.prog 27 #[.string (bs a.name)] w fun e w' => e = .returned (.bool (isNamed a.name)) ∧ w' = w) := fun w => namedBs a.name w
  have l0 := hv.1.1
  obtain ⟨a1, c1, rfl⟩ := Kind.slice hv
  clear hv
  obtain ⟨no, n, x⟩ := a
  unfold wrongAtom
  dsimp only at *
  generalize hn : isNamed n = q at *
  clear hn
  generalize bs n = s at *
  cases q
  · rw [if_pos rfl]
    go_enter Try.func18, Try.ntmps18
    go_wp2_with (go_at_call 27; refine (HN.out _).mono ?_; rintro e w' ⟨rfl, rfl⟩)
    go_ret
    exact ⟨rfl, (Later.refl _).alloc _⟩
  · rw [if_neg (by simp)]
    by_cases h4 : 4 < x.length
    · rw [if_pos h4]
      go_enter Try.func18, Try.ntmps18
      go_wp2_with (go_at_call 27; refine (HN.out _).mono ?_; rintro e w' ⟨rfl, rfl⟩)
      go_ret
      exact ⟨rfl, (Later.refl _).alloc _⟩
    · rw [if_neg h4]
      generalize x.any wrongTerm = r at *
      cases r
      all_goals
        go_enter Try.func18, Try.ntmps18
        go_wp2_with (first
          | (go_at_call 27; refine (HN.out _).mono ?_; rintro e w' ⟨rfl, rfl⟩)
          | (go_at_call 28; refine (HC.out _ ((Later.refl _).alloc _)).mono ?_; rintro e w' ⟨rfl, hL⟩; replace hL := hide hL))
        go_ret
        exact ⟨rfl, ((Later.refl _).alloc _).trans (unhide hL)⟩

end Go.Proofs.Ythngiikhgplldaa
