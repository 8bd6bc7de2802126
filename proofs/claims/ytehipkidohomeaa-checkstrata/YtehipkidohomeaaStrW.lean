/- Maps from numbers to whether; what a program's strata are good for. -/
import Derived.Test.YtehipkidohomeaaLessW
namespace Go.Proofs.Ytehipkidohomeaa
open Go.RowKit Go.Sort Go.Maps

/-! ### numbers, each once -/
def addN (l : List Nat) (x : Nat) : List Nat := if l.contains x then l else l ++ [x]
def onceN (l : List Nat) : List Nat := l.foldl addN []
theorem onceN_snoc (l : List Nat) (x : Nat) : onceN (l ++ [x]) = addN (onceN l) x := by simp [onceN, List.foldl_append]
theorem onceN_take {l : List Nat} {j x : Nat} (h : l[j]? = some x) : onceN (l.take (j + 1)) = addN (onceN (l.take j)) x := by rw [List.take_add_one, h]; exact onceN_snoc _ _
theorem addN_mem (l : List Nat) (x y : Nat) : y ∈ addN l x ↔ y ∈ l ∨ y = x := by
  unfold addN
  split
  · rename_i h
    have : x ∈ l := by simpa using h
    exact ⟨Or.inl, fun h => h.elim id fun e => by rw [e]; exact this⟩
  · simp
theorem addN_nodup {l : List Nat} (h : l.Nodup) (x : Nat) : (addN l x).Nodup := by
  unfold addN
  split
  · exact h
  · rename_i hx
    have hx' : x ∉ l := by simpa using hx
    rw [List.nodup_append]
    exact ⟨h, by simp, fun a ha b hb => by simp at hb; subst hb; exact fun e => hx' (e ▸ ha)⟩
theorem foldN_mem (l : List Nat) : ∀ (a : List Nat) (y : Nat), y ∈ l.foldl addN a ↔ y ∈ a ∨ y ∈ l := by
  induction l with
  | nil => intro a y; simp
  | cons x l ih => intro a y; rw [List.foldl_cons, ih, addN_mem, List.mem_cons]; exact or_assoc
theorem onceN_mem (l : List Nat) (y : Nat) : y ∈ onceN l ↔ y ∈ l := by unfold onceN; rw [foldN_mem]; simp
theorem foldN_nodup (l : List Nat) : ∀ a : List Nat, a.Nodup → (l.foldl addN a).Nodup := by
  induction l with
  | nil => intro a h; exact h
  | cons x l ih => intro a h; exact ih _ (addN_nodup h x)
theorem onceN_nodup (l : List Nat) : (onceN l).Nodup := foldN_nodup l [] List.nodup_nil
theorem addN_len (l : List Nat) (x : Nat) : (addN l x).length ≤ l.length + 1 := by unfold addN; split <;> simp
theorem nodup_lt : ∀ (N : Nat) (A : List Nat), A.Nodup → (∀ x ∈ A, x < N) → A.length ≤ N := by
  intro N
  induction N with
  | zero =>
    intro A _ h
    cases A with
    | nil => simp
    | cons x A => exact absurd (h x (by simp)) (Nat.not_lt_zero _)
  | succ N ih =>
    intro A hA h
    have h1 := ih (A.erase N) (hA.erase N) (fun x hx => by
      rw [hA.mem_erase_iff] at hx
      have := h x hx.2
      omega)
    by_cases hN : N ∈ A
    · rw [List.length_erase_of_mem hN] at h1; omega
    · rw [List.erase_of_not_mem hN] at h1; omega

/-! ### a map from numbers to whether -/
/-- Block b holds true at just these numbers. -/
def TrueM (w : World) (b n : Nat) (A : List Nat) : Prop := ∃ D : DataW Unit, w.ownsMap Try.prog 3 (plainElem Try.prog 4) b n D ∧ Maps.size D = A.length ∧ ∀ k : Nat, Maps.has D (.int .i64 (k : Int)) = A.contains k ∧ D.atKey (.int .i64 (k : Int)) (.lit (.bool false)) = .lit (.bool (A.contains k))

theorem TrueM.made (w : World) : TrueM (w.alloc (.map #[] 0)) w.heap.size 0 [] := ⟨.map [], World.ownsMap_made _ _ _ _, rfl, fun _ => ⟨rfl, rfl⟩⟩
theorem TrueM.lt {w : World} {b n : Nat} {A : List Nat} (h : TrueM w b n A) : b < w.heap.size := by obtain ⟨D, h, _⟩ := h; exact h.lt
theorem TrueM.later {w w' : World} {b n : Nat} {A : List Nat} (h : TrueM w b n A) (k : Later w w') : TrueM w' b n A := by
  have hlt := h.lt
  obtain ⟨D, h, hf⟩ := h
  exact ⟨D, owns_block h (k.block hlt), hf⟩
theorem int_ne {x k : Nat} (h : k ≠ x) : Lit.int .i64 (k : Int) ≠ Lit.int .i64 (x : Int) := fun e => h (by injection e with _ e; omega)
theorem keyI (x : Nat) : WideAt.IsKeyLit (.int .i64 (x : Int)) := trivial
set_option maxRecDepth 100000 in
theorem plainElem_bool_inv {v : Value} {z : DataW Unit × List MemPlace} (h : plainElem Try.prog 4 v = some z) : ∃ x, v = .bool x ∧ z = (.lit (.bool x), []) := by
  unfold plainElem at h
  rw [Try.underlying4] at h
  cases v <;> simp at h
  exact ⟨_, rfl, h.symm⟩
theorem zeroBool (w : World) : (zeroValue 4).run Try.prog w = .ok (.bool false) w := by kernel_rfl

set_option maxRecDepth 100000 in
theorem TrueM.store {w : World} {b n : Nat} {A : List Nat} (h : TrueM w b n A) (hn : n < maxLen) {x : Nat} (hx : (Lit.int .i64 (x : Int)).wf = true) :
    ∃ w', (Instr.mapUpdate 67 (.map (some b)) (.int .i64 (x : Int)) (.bool true)).run Try.prog w = .ok () w' ∧ TrueM w' b (n + 1) (addN A x) ∧ w.grownBy w' (some b) := by
  obtain ⟨D, hown, hsz, hf⟩ := h
  obtain ⟨w', hrun, r1, r2⟩ := hown.update (int_keyed Try.underlying3) Try.underlying67 hn (keyOf_int_mk Try.underlying3 hx) (plainElem_bool Try.underlying4 true)
  refine ⟨w', hrun, ⟨_, r1, ?_, fun k => ?_⟩, r2⟩
  · rw [size_put (hown.tidy (int_keyed Try.underlying3)), (hf x).1, hsz]
    unfold addN
    split <;> simp
  · have hc : (addN A x).contains k = (A.contains k || decide (k = x)) := by
      rw [Bool.eq_iff_iff]
      simp [addN_mem]
    rw [hc]
    by_cases e : k = x
    · subst e
      refine ⟨by rw [has_put_same hown.isMap (keyI _)]; simp, ?_⟩
      rw [atKey_put_same hown.isMap (keyI _)]; simp
    · refine ⟨by rw [has_put_other (int_ne e), (hf k).1]; simp [e], ?_⟩
      rw [atKey_put_other (int_ne e), (hf k).2]; simp [e]

set_option maxRecDepth 100000 in
theorem TrueM.look {w : World} {b n : Nat} {A : List Nat} (h : TrueM w b n A) {k : Nat} (hx : (Lit.int .i64 (k : Int)).wf = true) :
    (Instr.lookup 67 (.map (some b)) (.int .i64 (k : Int)) false).run Try.prog w = .ok (.bool (A.contains k)) w := by
  obtain ⟨D, hown, hsz, hf⟩ := h
  obtain ⟨v, ps, hrun, hv⟩ := hown.lookup (int_keyed Try.underlying3) Try.underlying67 (zeroBool w) (plainElem_bool Try.underlying4 false) (keyOf_int_mk Try.underlying3 hx)
  rw [(hf k).2] at hv
  obtain ⟨x, rfl, hz⟩ := plainElem_bool_inv hv
  simp only [Prod.mk.injEq] at hz
  have hz := hz.1
  injection hz with hz
  injection hz with hz
  rw [hrun, hz]

set_option maxRecDepth 100000 in
theorem TrueM.len {w : World} {b n : Nat} {A : List Nat} (h : TrueM w b n A) (ty : TypeId) : (Builtin.len_ #[67] ty #[.map (some b)]).run Try.prog w = .ok (.int .i64 (A.length : Nat)) w := by
  obtain ⟨D, hown, hsz, hf⟩ := h
  rw [hown.len Try.underlying67 ty, hsz]

/-! ### what a program's strata are good for -/
structure Good (p : List RuleD) (l : List Nat) : Prop where
  len : l.length = p.length
  alike : ∀ (i j : Nat) r q x y, p[i]? = some r → p[j]? = some q → l[i]? = some x → l[j]? = some y → q.head.name = r.head.name → y = x
  below : ∀ (i j : Nat) r q x y a, p[i]? = some r → p[j]? = some q → l[i]? = some x → l[j]? = some y → a ∈ r.body → a.name = q.head.name → y + step a ≤ x
  full : ∀ k, k < (onceN l).length → k ∈ onceN l
  small : ∀ x ∈ l, x < 16

theorem good_of {p : List RuleD} {l : List Nat} {k : Nat} (h : strataP p = (l, 0, k)) : Good p l := by
  obtain ⟨h0, m, rfl, hd, hl, hs⟩ := strataP_ok h
  have at_ : ∀ {i : Nat} {r : RuleD} {x : Nat}, p[i]? = some r → (each m p)[i]? = some x → x = numOf m r.head.name := fun hr hx => by
    unfold each at hx
    rw [List.getElem?_map, hr] at hx
    simpa using hx.symm
  have full : ∀ k, k < (onceN (each m p)).length → k ∈ onceN (each m p) := fun k hk => by
    refine Classical.byContradiction fun hno => ?_
    rw [onceN_mem] at hno
    have hgap := no_gap hl hs k (fun r hr e => hno (by unfold each; exact List.mem_map.2 ⟨r, hr, e⟩))
    have := nodup_lt k (onceN (each m p)) (onceN_nodup _) (fun x hx => by
      rw [onceN_mem] at hx
      unfold each at hx
      obtain ⟨r, hr, rfl⟩ := List.mem_map.1 hx
      exact hgap r hr)
    omega
  refine ⟨by simp [each], fun i j r q x y hr hq hx hy e => ?_, fun i j r q x y a hr hq hx hy ha e => ?_, full, fun x hx => ?_⟩
  · rw [at_ hr hx, at_ hq hy, e]
  · rw [at_ hr hx, at_ hq hy, ← e]
    exact hs r (List.mem_of_getElem? hr) a ha ⟨q, List.mem_of_getElem? hq, e.symm⟩
  · -- a stratum x has all below it
    have hx' : x ∈ onceN (each m p) := (onceN_mem _ _).2 hx
    refine Classical.byContradiction fun hge => ?_
    have hlen : (onceN (each m p)).length ≤ 16 := by
      have h1 := (wrongP_fine h0).1
      have : ∀ (q : List Nat) (a : List Nat), (q.foldl addN a).length ≤ a.length + q.length := by
        intro q
        induction q with
        | nil => intro a; simp
        | cons y q ih => intro a; have := ih (addN a y); have := addN_len a y; rw [List.foldl_cons, List.length_cons]; omega
      have := this (each m p) []
      simp [each] at this
      unfold onceN
      simp [each]
      omega
    -- some number below 16 that is no stratum: then no gap
    by_cases hall : ∀ j, j < x → j ∈ each m p
    · have hsub : (List.range (x + 1)).length ≤ (onceN (each m p)).length := by
        have : ∀ (N : Nat) (A : List Nat), A.Nodup → (∀ j, j < N → j ∈ A) → N ≤ A.length := by
          intro N
          induction N with
          | zero => intro A _ _; exact Nat.zero_le _
          | succ N ih =>
            intro A hA h
            have h1 := ih (A.erase N) (hA.erase N) (fun j hj => by rw [hA.mem_erase_iff]; exact ⟨by omega, h j (by omega)⟩)
            have h2 := List.length_erase_of_mem (h N (by omega))
            have h3 : 0 < A.length := List.length_pos_of_mem (h N (by omega))
            omega
        rw [List.length_range]
        refine this (x + 1) _ (onceN_nodup _) (fun j hj => ?_)
        by_cases e : j = x
        · rw [e]; exact hx'
        · rw [onceN_mem]; exact hall j (by omega)
      rw [List.length_range] at hsub
      omega
    · refine hall fun j hj => Classical.byContradiction fun hno => ?_
      have hgap := no_gap hl hs j (fun r hr e => hno (by unfold each; exact List.mem_map.2 ⟨r, hr, e⟩))
      unfold each at hx
      obtain ⟨r, hr, rfl⟩ := List.mem_map.1 hx
      have := hgap r hr
      omega

end Go.Proofs.Ytehipkidohomeaa
