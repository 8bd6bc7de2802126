/- append of many elements onto a row of a call's own. -/
import Derived.Test.YthogickpeldhlaaCells
namespace Go.Proofs.Ythogickpeldhlaa
open Go.RowKit Go.Sort

theorem flat_get {size : Nat} : ∀ (cs : List (List Value)), (∀ c ∈ cs, c.length = size) → ∀ i c j, cs[i]? = some c → j < size → cs.flatten[i * size + j]? = c[j]?
  | [], _, i, c, j, h, _ => by simp at h
  | d :: cs, hl, i, c, j, h, hj => by
    have hd : d.length = size := hl d (by simp)
    cases i with
    | zero =>
      simp at h; subst h
      rw [List.flatten_cons, Nat.zero_mul, Nat.zero_add, List.getElem?_append_left (by omega)]
    | succ i =>
      have ih := flat_get cs (fun c hc => hl c (by simp [hc])) i c j (by simpa using h) hj
      rw [List.flatten_cons, List.getElem?_append_right (by rw [Nat.add_mul]; omega), show (i + 1) * size + j - d.length = i * size + j by rw [Nat.add_mul]; omega]
      exact ih

theorem flat_len {size : Nat} : ∀ (cs : List (List Value)), (∀ c ∈ cs, c.length = size) → cs.flatten.length = cs.length * size
  | [], _ => by simp
  | d :: cs, hl => by
    have := flat_len cs (fun c hc => hl c (by simp [hc]))
    have hd : d.length = size := hl d (by simp)
    rw [List.flatten_cons, List.length_append, this, hd, List.length_cons, Nat.add_mul]; omega

theorem Kind.sl_cells {α : Type} {K : Kind α} {B : Nat → Prop} {w : World} {a : Addr} {n cap : Nat} {m : List α} (h : K.sl B w (.slice (some a) n cap) m) (hsz : 0 < K.size) :
    ∃ cs : List (List Value), cs.length = m.length ∧ (∀ c ∈ cs, c.length = K.size) ∧ (∀ c ∈ cs, ∀ u ∈ c, u.oneCell' = true) ∧ (∀ (j : Nat) (u : Value), cs.flatten[j]? = some u → w.cell? (a.add j) = some u) ∧ ∀ (i : Nat) (c : List Value) (x : α), cs[i]? = some c → m[i]? = some x → K.is B w c x := by
  by_cases hm : m = []
  · subst hm
    exact ⟨[], rfl, by simp, by simp, by simp, fun i c x h => by simp at h⟩
  obtain ⟨_, a', cap', e, h1⟩ := h
  simp only [Value.slice.injEq] at e
  obtain ⟨rfl, _, _⟩ := e
  obtain ⟨b, off, e, _, hb, hc⟩ := h1 hm
  simp only [Option.some.injEq] at e
  subst e
  have key : ∀ i : Fin m.length, ∃ c, K.is B w c m[i.1] ∧ ∀ j u, c[j]? = some u → w.cell? ⟨b, off + i.1 * K.size + j, none⟩ = some u := fun i => hc i.1 _ (List.getElem?_eq_getElem i.2)
  have get : ∀ i, (List.ofFn fun i : Fin m.length => Classical.choose (key i))[i]? = if h : i < m.length then some (Classical.choose (key ⟨i, h⟩)) else none := fun i => by rw [List.getElem?_ofFn]
  have hl : ∀ c ∈ List.ofFn fun i : Fin m.length => Classical.choose (key i), c.length = K.size := fun c hc => by
    rw [List.mem_ofFn] at hc
    obtain ⟨i, rfl⟩ := hc
    exact K.len (Classical.choose_spec (key i)).1
  refine ⟨List.ofFn fun i : Fin m.length => Classical.choose (key i), by simp, hl, fun c hc => ?_, fun j u hu => ?_, fun i c x hi hx => ?_⟩
  · rw [List.mem_ofFn] at hc
    obtain ⟨i, rfl⟩ := hc
    exact K.one (Classical.choose_spec (key i)).1
  · have hj := (List.getElem?_eq_some_iff.1 hu).1
    rw [flat_len _ hl, List.length_ofFn] at hj
    have hq : j / K.size < m.length := (Nat.div_lt_iff_lt_mul hsz).2 hj
    have hr : j % K.size < K.size := Nat.mod_lt _ hsz
    have hjq : j / K.size * K.size + j % K.size = j := by rw [Nat.mul_comm]; exact Nat.div_add_mod j K.size
    have hg := get (j / K.size)
    rw [dif_pos hq] at hg
    have := flat_get _ hl _ _ (j % K.size) hg hr
    rw [hjq, hu] at this
    have hcell := (Classical.choose_spec (key ⟨j / K.size, hq⟩)).2 _ u this.symm
    rw [Addr.add_lit]
    rw [show off + j / K.size * K.size + j % K.size = off + j by omega] at hcell
    exact hcell
  · rw [get] at hi
    split at hi
    · rename_i h
      rw [List.getElem?_eq_getElem h] at hx
      cases hi; cases hx
      exact (Classical.choose_spec (key ⟨i, h⟩)).1
    · cases hi

/-- append of a slice of such elements onto such a row. -/
theorem Kind.own_appends {α : Type} {P : Program} {K : Kind α} {t ty e' : TypeId} {lo bytes : Nat} {w : World} {v : Value} {l m : List α} {a : Option Addr} {cap : Nat} (h : K.own ty lo w v l) {i : TypeInfo} {z : Value}
    (ht : P.underlying t = some (.slice ty)) (hi : P.info? ty = some i) (hz : i.zero = some z) (hsize : i.size = K.size) (hby : i.bytes = bytes) (hzs : z.cells.size = K.size) (hsz : 0 < K.size) (hb : bytes ≤ 100)
    (hs : K.sl (fun k => lo ≤ k ∧ v.ownBlock ≠ some k) w (.slice a m.length cap) m) (hl : l.length + m.length ≤ 1099511627776) (hlo : lo ≤ w.heap.size) (_ : e' = t) :
    ∃ v' w', (Builtin.append_ #[t, t] t #[v, .slice a m.length cap]).run P w = .ok v' w' ∧ K.own ty lo w' v' (l ++ m) ∧ w.grownBy w' v.ownBlock ∧ ∀ k, v'.ownBlock = some k → v.ownBlock = some k ∨ w.heap.size ≤ k := by
  cases a with
  | none =>
    have hm : m = [] := by
      refine Classical.byContradiction fun hne => ?_
      obtain ⟨_, a', _, e, h1⟩ := hs
      simp only [Value.slice.injEq] at e
      obtain ⟨b, off, e', _⟩ := h1 hne
      rw [e'] at e; cases e.1
    subst hm
    refine ⟨v, w, ?_, by rw [List.append_nil]; exact h, ⟨rfl, rfl, rfl, Nat.le_refl _, fun _ _ _ => rfl⟩, fun k hk => Or.inl hk⟩
    obtain ⟨xs, ho, _⟩ := h
    rcases ho.2 with ⟨rfl, e0⟩ | ⟨g, c, cur, rfl, _, _, hnc, _⟩
    · simp [Builtin.append_, run_underlying ht, sizeOf, typeInfo, hi, Builtin.lenOf, Builtin.firstCells]
    · simp [Builtin.append_, run_underlying ht, sizeOf, typeInfo, hi, Builtin.lenOf, Builtin.firstCells, hnc, storeCells]
  | some a =>
    obtain ⟨cs, cl, clen, cone, ccell, cis⟩ := Kind.sl_cells hs hsz
    obtain ⟨xs, ho, hx⟩ := h
    have hxl : xs.length = l.length * K.size := ho.1
    obtain ⟨v', w', hrun, r1, r2, r3, r4⟩ := append_own (P := P) w lo t t ty i z K.size bytes ht hi hz hsize hby hzs hsz v l.length xs ho a m.length cap cs.flatten (by rw [flat_len _ clen, cl]) ccell
      (fun u hu => by rw [List.mem_flatten] at hu; obtain ⟨c, hc, hu⟩ := hu; exact cone c hc u hu) (by simp only [maxLen]; omega) (Nat.le_trans (Nat.mul_le_mul hl hb) (by omega)) hlo
    have own' : ∀ k, k < w.heap.size → v'.ownBlock = some k → v.ownBlock = some k := fun k hk e => (r4 k e).elim id fun h => by omega
    have keep : ∀ k, k < w.heap.size → (lo ≤ k ∧ v.ownBlock ≠ some k) → w'.heap[k]? = w.heap[k]? := fun k hk hB => r2.block k hk (fun e => hB.2 e.symm)
    have move : ∀ {c : List Value} {y : α}, K.is (fun k => lo ≤ k ∧ v.ownBlock ≠ some k) w c y → K.is (fun k => lo ≤ k ∧ v'.ownBlock ≠ some k) w' c y := fun {c y} hy =>
      K.kept (K.mono hy fun k hk hB => (⟨⟨hB.1, fun e => hB.2 (own' k hk e)⟩, hB⟩ : (lo ≤ k ∧ v'.ownBlock ≠ some k) ∧ (lo ≤ k ∧ v.ownBlock ≠ some k))) r2.size (fun k hk hB => keep k hk hB.2) |> fun h => K.mono h fun _ _ hB => hB.1
    refine ⟨v', w', hrun, ⟨xs ++ cs.flatten, by rw [List.length_append]; exact r1, fun j y hj => ?_⟩, r2, r4⟩
    by_cases hjl : j < l.length
    · rw [List.getElem?_append_left hjl] at hj
      obtain ⟨d, d1, d2⟩ := hx j y hj
      refine ⟨d, move d1, fun q u hu => ?_⟩
      have := d2 q u hu
      rw [List.getElem?_append_left (List.getElem?_eq_some_iff.1 this).1]; exact this
    · rw [List.getElem?_append_right (by omega)] at hj
      have hjm := (List.getElem?_eq_some_iff.1 hj).1
      have hc : cs[j - l.length]? = some (cs[j - l.length]'(by omega)) := List.getElem?_eq_getElem (by omega)
      refine ⟨_, move (cis _ _ y hc hj), fun q u hu => ?_⟩
      have hq : q < K.size := by rw [← clen _ (List.getElem_mem (by omega : j - l.length < cs.length))]; exact (List.getElem?_eq_some_iff.1 hu).1
      have := flat_get cs clen _ _ q hc hq
      rw [List.getElem?_append_right (by rw [hxl]; have := Nat.mul_le_mul_right K.size (Nat.le_of_not_lt hjl); omega), hxl,
        show j * K.size + q - l.length * K.size = (j - l.length) * K.size + q by rw [Nat.sub_mul]; have := Nat.mul_le_mul_right K.size (Nat.le_of_not_lt hjl); omega, this]
      exact hu

end Go.Proofs.Ythogickpeldhlaa
