/- Maps from pairs of texts to whether. -/
import Derived.Test.YthogickpeldhlaaBoolE
import Derived.Test.YthogickpeldhlaaChkG
import Derived.DeepKeys4
namespace Go.Proofs.Ythogickpeldhlaa
open Go.RowKit Go.Sort Go.Maps

set_option maxRecDepth 100000 in
theorem pair_law : Keyed Try.prog 123 := Keyed.of_law (deep_law_laid (m := 3) (by kernel_rfl) (by decide) (of_decide_eq_true (by kernel_rfl)) (by kernel_rfl) (by kernel_rfl))

theorem cellsPair : Try.prog.cellsOf 123 = 2 := by kernel_rfl
theorem cellsStr2 : Try.prog.cellsOf 9 = 1 := by kernel_rfl
theorem keyPair : Try.prog.keyType 123 = true := by kernel_rfl

/-- A pair, as a key. -/
def pv (a b : Bs) : Value := .agg #[.string (bs a), .string (bs b)]
def pl (a b : Bs) : Lit := .string (keyBytes [.string a, .string b])

set_option maxRecDepth 100000 in
theorem pair_key {a b : Bs} (ha : a.length ≤ maxLen) (hb : b.length ≤ maxLen) : keyOf Try.prog 123 (pv a b) = some (pl a b) := by
  have hf : (pv a b).formed Try.prog 123 = true := by
    unfold pv Value.formed
    rw [Try.underlying123, cellsPair]; rfl
  have hu : Try.prog.underlying 123 = some (.array 2 9) := Try.underlying123
  have hs : Try.prog.underlying 9 = some .string := Try.underlying9
  have hpos : 0 < Try.prog.types.size := of_decide_eq_true (by kernel_rfl)
  obtain ⟨N, hN⟩ : ∃ N, Try.prog.types.size = N + 1 := ⟨Try.prog.types.size - 1, by omega⟩
  have h1 : (bs a).size ≤ maxLen := by rw [size_bs]; exact ha
  have h2 : (bs b).size ≤ maxLen := by rw [size_bs]; exact hb
  have hl : Try.prog.keyLits (Try.prog.types.size + 1) 123 (pv a b).cells.toList = some [.string a, .string b] := by
    rw [hN]
    show Try.prog.keyLits (N + 1 + 1) 123 [.string (bs a), .string (bs b)] = _
    have r : List.range 2 = [0, 1] := rfl
    simp only [Program.keyLits, hu, hs, cellsPair, cellsStr2, List.length_cons, List.length_nil, if_true, r, List.mapM_cons, List.mapM_nil, Nat.mul_one, List.drop_zero, List.drop_succ_cons, List.take_succ_cons, List.take_zero]
    rw [if_pos h1, if_pos h2]
    simp [bs]
  unfold keyOf
  rw [hu, keyPair, hf]
  simp only [Bool.and_self, if_true, hl, Option.map_some]
  rfl

theorem pv_inj {a b c d : Bs} (h : pv a b = pv c d) : a = c ∧ b = d := by
  unfold pv at h
  simp only [Value.agg.injEq, Array.mk.injEq, List.cons.injEq, Value.string.injEq, and_true] at h
  exact ⟨bs_inj h.1, bs_inj h.2⟩

theorem pl_ne {a b c d : Bs} (ha : a.length ≤ maxLen) (hb : b.length ≤ maxLen) (hc : c.length ≤ maxLen) (hd : d.length ≤ maxLen) (h : ¬ (c = a ∧ d = b)) : pl c d ≠ pl a b := fun e => by
  have h1 := pair_key ha hb
  have h2 := pair_key hc hd
  rw [e] at h2
  exact h (pv_inj (pair_law.inj h2 h1))

/-- Block b holds true at just those pairs (of texts no longer than Go's) of which f says so. -/
def RelM (w : World) (b n : Nat) (f : Rel) : Prop := ∃ D : DataW Unit, w.ownsMap Try.prog 123 (plainElem Try.prog 4) b n D ∧ ∀ x y : Bs, x.length ≤ maxLen → y.length ≤ maxLen → D.atKey (pl x y) (.lit (.bool false)) = .lit (.bool (f x y))

theorem RelM.made (w : World) : RelM (w.alloc (.map #[] 0)) w.heap.size 0 (fun _ _ => false) := ⟨.map [], World.ownsMap_made _ _ _ _, fun _ _ _ _ => rfl⟩
theorem RelM.lt {w : World} {b n : Nat} {f : Rel} (h : RelM w b n f) : b < w.heap.size := by obtain ⟨D, h, _⟩ := h; exact h.lt
theorem RelM.block {w w' : World} {b n : Nat} {f : Rel} (h : RelM w b n f) (e : w'.heap[b]? = w.heap[b]?) : RelM w' b n f := by obtain ⟨D, h, hf⟩ := h; exact ⟨D, owns_block h e, hf⟩
theorem RelM.later {w w' : World} {b n : Nat} {f : Rel} (h : RelM w b n f) (k : Later w w') : RelM w' b n f := h.block (k.block h.lt)
theorem RelM.mono {w : World} {b n m : Nat} {f : Rel} (h : RelM w b n f) (hn : n ≤ m) : RelM w b m f := by obtain ⟨D, h, hf⟩ := h; exact ⟨D, h.mono hn, hf⟩

set_option maxRecDepth 100000 in
theorem RelM.look {w : World} {b n : Nat} {f : Rel} (h : RelM w b n f) {x y : Bs} (hx : x.length ≤ maxLen) (hy : y.length ≤ maxLen) : (Instr.lookup 122 (.map (some b)) (pv x y) false).run Try.prog w = .ok (.bool (f x y)) w := by
  obtain ⟨D, hown, hf⟩ := h
  obtain ⟨v, ps, hrun, hv⟩ := hown.lookup pair_law Try.underlying122 (zeroBool w) (plainElem_bool Try.underlying4 false) (pair_key hx hy)
  rw [hf x y hx hy] at hv
  obtain ⟨z, rfl, hz⟩ := plainElem_bool_inv hv
  simp only [Prod.mk.injEq] at hz
  have hz := hz.1
  injection hz with hz
  injection hz with hz
  rw [hrun, hz]

theorem keyPl (a b : Bs) : WideAt.IsKeyLit (pl a b) := trivial

set_option maxRecDepth 100000 in
theorem RelM.store {w : World} {b n : Nat} {f : Rel} (h : RelM w b n f) (hn : n < maxLen) {x y : Bs} (hx : x.length ≤ maxLen) (hy : y.length ≤ maxLen) :
    ∃ w', (Instr.mapUpdate 122 (.map (some b)) (pv x y) (.bool true)).run Try.prog w = .ok () w' ∧ RelM w' b (n + 1) (f.put x y) ∧ w.grownBy w' (some b) := by
  obtain ⟨D, hown, hf⟩ := h
  obtain ⟨w', hrun, r1, r2⟩ := hown.update pair_law Try.underlying122 hn (pair_key hx hy) (plainElem_bool Try.underlying4 true)
  refine ⟨w', hrun, ⟨_, r1, fun s t hs ht => ?_⟩, r2⟩
  by_cases e : s = x ∧ t = y
  · obtain ⟨rfl, rfl⟩ := e
    rw [atKey_put_same hown.isMap (keyPl _ _), put_same]
  · rw [atKey_put_other (pl_ne hx hy hs ht e), hf s t hs ht]
    unfold Rel.put
    have : (decide (s = x) && decide (t = y)) = false := by
      rw [Bool.and_eq_false_iff]
      by_cases h1 : s = x
      · exact Or.inr (by simpa using fun h2 => e ⟨h1, h2⟩)
      · exact Or.inl (by simpa using h1)
    rw [this, Bool.or_false]

/-- Of what was there only these blocks may have turned. -/
structure But (S : Nat → Prop) (w w' : World) : Prop where
  os : w'.os = w.os
  tape : w'.tape = w.tape
  output : w'.output = w.output
  size : w.heap.size ≤ w'.heap.size
  block : ∀ k, k < w.heap.size → ¬ S k → w'.heap[k]? = w.heap[k]?

theorem But.refl (S : Nat → Prop) (w : World) : But S w w := ⟨rfl, rfl, rfl, Nat.le_refl _, fun _ _ _ => rfl⟩
theorem But.trans {S : Nat → Prop} {a b c : World} (h : But S a b) (k : But S b c) : But S a c :=
  ⟨k.os.trans h.os, k.tape.trans h.tape, k.output.trans h.output, Nat.le_trans h.size k.size, fun i hi ho => (k.block i (Nat.lt_of_lt_of_le hi h.size) ho).trans (h.block i hi ho)⟩
theorem But.of_below {S : Nat → Prop} {a b : World} (h : Below a.heap.size a b) : But S a b := ⟨h.os, h.tape, h.output, h.size, fun k hk _ => h.block k hk⟩
theorem But.of_grown {S : Nat → Prop} {p : Nat} {a b : World} (h : a.grownBy b (some p)) (hp : S p) : But S a b := ⟨h.os, h.tape, h.output, h.size, fun k hk hS => h.block k hk (fun e => by injection e with e; exact hS (e ▸ hp))⟩
theorem But.cell {S : Nat → Prop} {a b : World} (h : But S a b) {x : Addr} (hx : x.block < a.heap.size) (ho : ¬ S x.block) : b.cell? x = a.cell? x := World.cell?_of_block (w := a) (h.block _ hx ho)
theorem But.below {S : Nat → Prop} {n : Nat} {w a b : World} (h : But S a b) (hb : Below n w a) (hS : ∀ k, S k → n ≤ k) (hn : n ≤ a.heap.size) : Below n w b :=
  ⟨h.os.trans hb.os, h.tape.trans hb.tape, h.output.trans hb.output, Nat.le_trans hb.size h.size, fun k hk => (h.block k (by omega) (fun e => by have := hS k e; omega)).trans (hb.block k hk)⟩

end Go.Proofs.Ythogickpeldhlaa
