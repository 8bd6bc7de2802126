/- Maps of texts that a call makes: sets of texts, and texts' numbers. Nothing of the program. -/
import Derived.Maps.OwnSet
import Derived.Maps.OwnOps
import Derived.StringKeys
import Derived.Test.YthogickpeldhlaaBase
import Derived.Test.YthogickpeldhlaaChk
namespace Go.Proofs.Ythogickpeldhlaa
open Go.RowKit Go.Sort Go.Maps

theorem owns_block {H : Type} {P : Program} {k : TypeId} {R : Value → Option (DataW H × List MemPlace)} {w w' : World} {b n : Nat} {D : DataW H} (h : w.ownsMap P k R b n D) (e : w'.heap[b]? = w.heap[b]?) : w'.ownsMap P k R b n D := by
  obtain ⟨es, clock, hb, F, hs, hD⟩ := h
  exact ⟨es, clock, e.trans hb, F, hs, hD⟩

theorem key_mk {P : Program} {K : TypeId} (hk : P.underlying K = some .string) {s : Bs} (hs : s.length ≤ maxLen) : keyOf P K (.string (bs s)) = some (.string s) := by
  have := WideMaps.keyOf_string_mk (P := P) (k := K) hk (s := bs s) (by rw [size_bs]; exact hs)
  rw [this]; rfl

theorem keyS (s : Bs) : WideAt.IsKeyLit (.string s) := trivial
theorem str_ne {s t : Bs} (h : t ≠ s) : Lit.string t ≠ Lit.string s := fun e => h (by injection e)

/-- Block b is a set of texts: those of which f says so. -/
def SetM (P : Program) (K : TypeId) (w : World) (b n : Nat) (f : Bs → Bool) : Prop := ∃ D : DataW Unit, w.ownsMap P K unitElem b n D ∧ ∀ s, Maps.has D (.string s) = f s

theorem SetM.made (P : Program) (K : TypeId) (w : World) : SetM P K (w.alloc (.map #[] 0)) w.heap.size 0 (fun _ => false) := ⟨.map [], World.ownsMap_made _ _ _ _, fun _ => rfl⟩

section
variable {P : Program} {K : TypeId} {w w' : World} {b n : Nat} {f : Bs → Bool}
theorem SetM.lt (h : SetM P K w b n f) : b < w.heap.size := by obtain ⟨D, h, _⟩ := h; exact h.lt
theorem SetM.block (h : SetM P K w b n f) (e : w'.heap[b]? = w.heap[b]?) : SetM P K w' b n f := by obtain ⟨D, h, hf⟩ := h; exact ⟨D, owns_block h e, hf⟩
theorem SetM.later (h : SetM P K w b n f) (k : Later w w') : SetM P K w' b n f := h.block (k.block h.lt)
theorem SetM.below (h : SetM P K w b n f) (k : Below w.heap.size w w') : SetM P K w' b n f := h.block (k.block b h.lt)
theorem SetM.grown {row : Option Nat} (h : SetM P K w b n f) (k : w.grownBy w' row) (hne : some b ≠ row) : SetM P K w' b n f := h.block (k.block b h.lt hne)
theorem SetM.mono (h : SetM P K w b n f) {n' : Nat} (hn : n ≤ n') : SetM P K w b n' f := by obtain ⟨D, h, hf⟩ := h; exact ⟨D, h.mono hn, hf⟩
theorem SetM.congr {g : Bs → Bool} (h : SetM P K w b n f) (e : ∀ s, f s = g s) : SetM P K w b n g := by obtain ⟨D, h, hf⟩ := h; exact ⟨D, h, fun s => (hf s).trans (e s)⟩
end

/-- Block b holds numbers of texts. -/
def NumM (P : Program) (K E : TypeId) (w : World) (b n : Nat) (m : Nums) : Prop := ∃ D : DataW Unit, w.ownsMap P K (plainElem P E) b n D ∧ ∀ s, Maps.has D (.string s) = (m s).isSome ∧ D.atKey (.string s) (.lit (.int .i64 0)) = .lit (.int .i64 (numOf m s))

theorem NumM.made (P : Program) (K E : TypeId) (w : World) : NumM P K E (w.alloc (.map #[] 0)) w.heap.size 0 (fun _ => none) := ⟨.map [], World.ownsMap_made _ _ _ _, fun _ => ⟨rfl, rfl⟩⟩

section
variable {P : Program} {K E : TypeId} {w w' : World} {b n : Nat} {m : Nums}
theorem NumM.lt (h : NumM P K E w b n m) : b < w.heap.size := by obtain ⟨D, h, _⟩ := h; exact h.lt
theorem NumM.block (h : NumM P K E w b n m) (e : w'.heap[b]? = w.heap[b]?) : NumM P K E w' b n m := by obtain ⟨D, h, hf⟩ := h; exact ⟨D, owns_block h e, hf⟩
theorem NumM.later (h : NumM P K E w b n m) (k : Later w w') : NumM P K E w' b n m := h.block (k.block h.lt)
theorem NumM.below (h : NumM P K E w b n m) (k : Below w.heap.size w w') : NumM P K E w' b n m := h.block (k.block b h.lt)
theorem NumM.grown {row : Option Nat} (h : NumM P K E w b n m) (k : w.grownBy w' row) (hne : some b ≠ row) : NumM P K E w' b n m := h.block (k.block b h.lt hne)
theorem NumM.mono (h : NumM P K E w b n m) {n' : Nat} (hn : n ≤ n') : NumM P K E w b n' m := by obtain ⟨D, h, hf⟩ := h; exact ⟨D, h.mono hn, hf⟩
end

/-! ### the runs -/
section
variable {P : Program} {K E T : TypeId} {w : World} {b n : Nat}
theorem SetM.has {f : Bs → Bool} (h : SetM P K w b n f) (hk : P.underlying K = some .string) (ht : P.underlying T = some (.map K E)) (hz : (zeroValue E).run P w = .ok (.agg #[]) w) {s : Bs} (hs : s.length ≤ maxLen) :
    (Instr.lookup T (.map (some b)) (.string (bs s)) true).run P w = .ok (.tuple #[.agg #[], .bool (f s)]) w := by
  obtain ⟨D, hown, hf⟩ := h
  obtain ⟨v, ps, hrun, hv⟩ := hown.look_ok (string_keyed hk) ht hz (zd := .agg []) (zp := []) unitElem_mk (key_mk hk hs)
  obtain ⟨rfl, _⟩ := unitElem_inv hv
  rw [hrun, hf]

theorem SetM.add {f : Bs → Bool} (h : SetM P K w b n f) (hk : P.underlying K = some .string) (ht : P.underlying T = some (.map K E)) (hn : n < maxLen) {s : Bs} (hs : s.length ≤ maxLen) :
    ∃ w', (Instr.mapUpdate T (.map (some b)) (.string (bs s)) (.agg #[])).run P w = .ok () w' ∧ SetM P K w' b (n + 1) (fun t => f t || decide (t = s)) ∧ w.grownBy w' (some b) := by
  obtain ⟨D, hown, hf⟩ := h
  obtain ⟨w', hrun, r1, r2⟩ := hown.update (string_keyed hk) ht hn (key_mk hk hs) (d := .agg []) (ps := []) unitElem_mk
  refine ⟨w', hrun, ⟨_, r1, fun t => ?_⟩, r2⟩
  by_cases e : t = s
  · subst e
    rw [has_put_same hown.isMap (keyS _)]; simp
  · rw [has_put_other (str_ne e), hf]; simp [e]

theorem NumM.look {m : Nums} (h : NumM P K E w b n m) (hk : P.underlying K = some .string) (he : P.underlying E = some (.int .i64)) (ht : P.underlying T = some (.map K E)) (hz : (zeroValue E).run P w = .ok (.int .i64 0) w) {s : Bs} (hs : s.length ≤ maxLen) :
    (Instr.lookup T (.map (some b)) (.string (bs s)) false).run P w = .ok (.int .i64 (numOf m s)) w := by
  obtain ⟨D, hown, hf⟩ := h
  obtain ⟨c, hrun, hat, _⟩ := hown.lookup_int (string_keyed hk) ht he hz (key_mk hk hs)
  rw [(hf s).2] at hat
  injection hat with hat
  injection hat with _ hat
  rw [hrun, hat]

theorem NumM.lookOk {m : Nums} (h : NumM P K E w b n m) (hk : P.underlying K = some .string) (he : P.underlying E = some (.int .i64)) (ht : P.underlying T = some (.map K E)) (hz : (zeroValue E).run P w = .ok (.int .i64 0) w) {s : Bs} (hs : s.length ≤ maxLen) :
    (Instr.lookup T (.map (some b)) (.string (bs s)) true).run P w = .ok (.tuple #[.int .i64 (numOf m s), .bool (m s).isSome]) w := by
  obtain ⟨D, hown, hf⟩ := h
  obtain ⟨v, ps, hrun, hv⟩ := hown.look_ok (string_keyed hk) ht hz (plainElem_int he (by decide)) (key_mk hk hs)
  rw [(hf s).2] at hv
  obtain ⟨c, rfl, hc, _⟩ := plainElem_int_inv he hv
  simp only [Prod.mk.injEq] at hc
  have hc := hc.1
  injection hc with hc
  injection hc with _ hc
  rw [hrun, (hf s).1, ← hc]

theorem NumM.store {m : Nums} (h : NumM P K E w b n m) (hk : P.underlying K = some .string) (he : P.underlying E = some (.int .i64)) (ht : P.underlying T = some (.map K E)) (hn : n < maxLen) {s : Bs} (hs : s.length ≤ maxLen) {x : Nat} (hx : (Lit.int .i64 (x : Int)).wf = true) :
    ∃ w', (Instr.mapUpdate T (.map (some b)) (.string (bs s)) (.int .i64 (x : Int))).run P w = .ok () w' ∧ NumM P K E w' b (n + 1) (m.put s x) ∧ w.grownBy w' (some b) := by
  obtain ⟨D, hown, hf⟩ := h
  obtain ⟨w', hrun, r1, r2⟩ := hown.update (string_keyed hk) ht hn (key_mk hk hs) (plainElem_int he hx)
  refine ⟨w', hrun, ⟨_, r1, fun t => ?_⟩, r2⟩
  by_cases e : t = s
  · subst e
    refine ⟨by rw [has_put_same hown.isMap (keyS _)]; simp [Nums.put], ?_⟩
    rw [atKey_put_same hown.isMap (keyS _), numOf_put, if_pos rfl]
  · refine ⟨by rw [has_put_other (str_ne e), (hf t).1]; simp [Nums.put, e], ?_⟩
    rw [atKey_put_other (str_ne e), (hf t).2, numOf_put, if_neg e]
end

/-! ### at the operation, for the walk -/
section
variable {P : Program} (w : World) {ops : Array Oper} {rest : List Oper} {o : Oper} {a : Act} {Q : Exit → Act → World → Prop}
theorem wpList_run_lookup (hg : o.guard = none) (m x : Operand) (t : TypeId) (c : Bool) (hop : o.op = Op.lookup t m x c) (vm vx v : Value) (hm : a.eval m = vm) (hx : a.eval x = vx) (hrun : (Instr.lookup t vm vx c).run P w = .ok v w)
    (hK : wpList P ops Q rest (a.put o.dst v) w) : wpList P ops Q (o :: rest) a w := by
  refine wpList_plain hg fun K' hK' => ?_
  unfold Oper.wp
  simp [execOp, hop, hm, hx, hrun, Result.andThen]
  exact hK' _ _ hK
theorem wpList_run_update (hg : o.guard = none) (m x v : Operand) (t : TypeId) (hop : o.op = Op.mapUpdate t m x v) (vm vx vv : Value) (w' : World) (hm : a.eval m = vm) (hx : a.eval x = vx) (hv : a.eval v = vv) (hrun : (Instr.mapUpdate t vm vx vv).run P w = .ok () w')
    (hK : wpList P ops Q rest (a.put o.dst undef) w') : wpList P ops Q (o :: rest) a w := by
  refine wpList_plain hg fun K' hK' => ?_
  unfold Oper.wp
  simp [execOp, hop, hm, hx, hv, hrun, Result.andThen]
  exact hK' _ _ hK
end

end Go.Proofs.Ythogickpeldhlaa
