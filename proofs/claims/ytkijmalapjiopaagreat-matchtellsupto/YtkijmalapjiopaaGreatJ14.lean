/- Texts of this claim, one behind the other. -/
import Derived.Test.YtkijmalapjiopaaGreatJ13
import Derived.Test.YtkijmalapjiopaaGreatJ12
import Derived.Test.YtkijmalapjiopaaGreatJ3
import Derived.BigQuiet
import Derived.Laws.Cover3
/- What all that follows is good for, plain: no rule makes anything more; each fact was told, or is made of what is there; told more there is no less; rules in whatever order. Nothing of the program. -/
namespace Go.Proofs.YtkijmalapjiopaaGreat

/-- A fact with which nothing is wrong. -/
def RightF (f : FactB) : Prop := isNamed (raw f.1) = true ∧ f.2.length ≤ 4 ∧ ∀ s ∈ f.2, isNamed (raw s) = true

theorem atom_zero {a : AtomD} (h : wrongAtom a = 0) : isNamed a.name = true ∧ a.terms.length ≤ 4 ∧ ∀ t ∈ a.terms, wrongTerm t = false := by
  unfold wrongAtom at h
  split at h
  · cases h
  · rename_i h1
    split at h
    · cases h
    · rename_i h2
      split at h
      · cases h
      · rename_i h3
        refine ⟨by simpa using h1, by omega, fun t ht => ?_⟩
        cases e : wrongTerm t with
        | false => rfl
        | true => exact absurd (List.any_eq_true.2 ⟨t, ht, e⟩) h3

/-- Facts with which nothing is wrong, and that go with a program. -/
structure GoodS (p : List RuleD) (L : List FactB) : Prop where
  up : Up L
  right : ∀ f ∈ L, RightF f
  few : L.length ≤ 200
  fit : ∀ f ∈ L, fitF p f = true

/-! ### one round -/

/-! ### a stratum -/

inductive Walks (p : List RuleD) (ss : List Nat) (n : Int) : List FactB → List FactB → Prop
  | stop {L : List FactB} : onceP p ss n L = (0, L) → Walks p ss n L L
  | go {L L' M : List FactB} : onceP p ss n L = (0, L') → Walks p ss n L' M → Walks p ss n L M

/-! ### all strata -/

/-- What holds on the way: n: the strata that are closed; m: those of which there may be something. -/
structure Way (p : List RuleD) (τ : Bs → Nat) (l : List FactB) (n m : Nat) (L : List FactB) : Prop where
  told : ∀ f ∈ l, f ∈ L
  of : ∀ f ∈ L, f ∉ l → ∃ r ∈ p, τ r.head.name < m ∧ f.1 = bs r.head.name
  closed : ∀ r ∈ p, τ r.head.name < n → ∀ env f, FitsB (fun _ => L) r.body env → fillB r.head env = some f → f ∈ L
  made : ∀ f ∈ L, f ∉ l → ∃ r ∈ p, τ r.head.name < m ∧ ∃ env, FitsB (fun _ => L) r.body env ∧ fillB r.head env = some f

/-! ### told more -/

/-! ### rules in whatever order -/

end Go.Proofs.YtkijmalapjiopaaGreat

/- Lists of what variables stand for, in the reference: rows of maps. -/
namespace Go.Proofs.YtkijmalapjiopaaGreat
open Go.RowKit Go.Sort Go.Maps

/-- A list of binds, as a map in a cell. -/
def envK (n : Nat) : Kind (List BindD) where
  size := 1
  is := fun B w c l => ∃ b, c = [.map (some b)] ∧ B b ∧ EnvM w b n l
  len := fun ⟨b, h, _, _⟩ => by subst h; rfl
  one := fun ⟨b, h, _, _⟩ u hu => by subst h; simp at hu; subst hu; rfl
  kept := fun ⟨b, h, hB, he⟩ _ h2 => ⟨b, h, hB, he.block (h2 b he.lt hB)⟩
  mono := fun ⟨b, h, hB, he⟩ h1 => ⟨b, h, h1 b he.lt hB, he⟩

theorem envK_more {n m : Nat} {B : Nat → Prop} {w : World} {v : Value} {L : List (List BindD)} (h : (envK n).sl B w v L) (hn : n ≤ m) : (envK m).sl B w v L := by
  obtain ⟨h0, a, cap, e, h1⟩ := h
  refine ⟨h0, a, cap, e, fun hl => ?_⟩
  obtain ⟨b, off, ea, hB, hb, hc⟩ := h1 hl
  refine ⟨b, off, ea, hB, hb, fun i x hx => ?_⟩
  obtain ⟨c, ⟨b', hc1, hB', he⟩, hc2⟩ := hc i x hx
  exact ⟨c, ⟨b', hc1, hB', he.mono hn⟩, hc2⟩

theorem infoEnv : ∃ i, Tryz.prog.info? 32 = some i ∧ i.zero = some (.map none) ∧ i.size = 1 ∧ i.bytes = 8 := ⟨Tryz.t32, by kernel_rfl, by kernel_rfl, by kernel_rfl, by kernel_rfl⟩

theorem own_rowcells {α : Type} {K : Kind α} {ty : TypeId} {lo : Nat} {w : World} {v : Value} {l : List α} (h : K.own ty lo w v l) {k : Nat} (hk : v.ownBlock = some k) : ∃ cs, w.heap[k]? = some (.cells cs ty (0, 0)) := by
  obtain ⟨xs, ho, _⟩ := h
  rcases ho.2 with ⟨rfl, _⟩ | ⟨g, cap, cur, rfl, _, hg, _⟩
  · simp [Value.ownBlock] at hk
  · simp only [Value.ownBlock, Option.some.injEq] at hk
    subst hk
    exact ⟨cur, hg⟩

theorem env_not_row {α : Type} {K : Kind α} {ty : TypeId} {lo : Nat} {w : World} {v : Value} {l : List α} (h : K.own ty lo w v l) {b n : Nat} {e : List BindD} (he : EnvM w b n e) : v.ownBlock ≠ some b := fun hk => by
  obtain ⟨cs, h1⟩ := own_rowcells h hk
  obtain ⟨es, c, h2⟩ := he.isMap
  rw [h1] at h2
  cases h2

/-- One more. -/
theorem appendEnv {n lo : Nat} {w : World} {v : Value} {L : List (List BindD)} (h : (envK n).own 32 lo w v L) {b : Nat} {l : List BindD} (he : EnvM w b n l) (hb : lo ≤ b) (hl : L.length + 1 ≤ 10000000) (hlo : lo ≤ w.heap.size) :
    ∃ v' w', (Builtin.append_ #[63, 63] 63 #[v, .slice (some ⟨w.heap.size, 0, none⟩) 1 1]).run Tryz.prog (w.alloc (.cells #[.map (some b)] 32)) = .ok v' w' ∧ (envK n).own 32 lo w' v' (L ++ [l]) ∧ (w.alloc (.cells #[.map (some b)] 32)).grownBy w' v.ownBlock ∧ w.drawn ≤ w'.drawn ∧
      ∀ k, v'.ownBlock = some k → v.ownBlock = some k ∨ w.heap.size < k := by
  obtain ⟨i, i1, i2, i3, i4⟩ := infoEnv
  exact Kind.own_more h Tryz.underlying63 i1 i2 i3 i4 rfl (Nat.one_pos) (c := [.map (some b)]) ⟨b, rfl, ⟨hb, env_not_row h he⟩, he⟩ (by omega) (by simp [maxLen]; omega) hlo

set_option maxRecDepth 100000 in
set_option maxHeartbeats 400000 in
/-- Of which facts an atom is met. -/
theorem rPick (B : Nat) (i at_ : Int) (fa oa : Option Addr) (fn fc on oc : Nat) (w : World) (h0 : w.cell? ⟨B, 0, none⟩ = some (.slice fa fn fc)) (h1 : w.cell? ⟨B + 1, 0, none⟩ = some (.int .i64 at_)) (h2 : w.cell? ⟨B + 2, 0, none⟩ = some (.slice oa on oc)) :
    Calls Tryz.prog 48 #[.int .i64 i, .pointer (some ⟨B + 1, 0, none⟩), .pointer (some ⟨B + 2, 0, none⟩), .pointer (some ⟨B, 0, none⟩)] w fun e w' => e = .returned (if i = at_ then .slice oa on oc else .slice fa fn fc) ∧ w' = w := by
  by_cases h : i = at_
  · subst h
    have hq : (i == i) = true := by simp
    go_enter Tryz.func48, Tryz.ntmps48
    go_wp2
    go_ret
    exact ⟨by simp, rfl⟩
  · have hq : (i == at_) = false := by simpa using h
    go_enter Tryz.func48, Tryz.ntmps48
    go_wp2
    go_ret
    exact ⟨rfl, rfl⟩

/-! ### plain steps -/

theorem metAt_step {pick : Nat → List FactB} {body : List AtomD} {j : Nat} {a : AtomD} {ms : List (List BindD)} (h : body[j]? = some a) :
    metGo pick j (body.drop j) ms = if a.no then metGo pick (j + 1) (body.drop (j + 1)) ms else if 20000 < (meetAllB a (pick j) ms).length then none else metGo pick (j + 1) (body.drop (j + 1)) (meetAllB a (pick j) ms) := by
  have h1 : body.drop j = a :: body.drop (j + 1) := by
    obtain ⟨h, e⟩ := List.getElem?_eq_some_iff.1 h
    rw [List.drop_eq_getElem_cons h, e]
  rw [h1]
  rfl

theorem meetAll_take {a : AtomD} {fs : List FactB} {ms : List (List BindD)} {p : Nat} {l : List BindD} (h : ms[p]? = some l) : meetAllB a fs (ms.take (p + 1)) = meetAllB a fs (ms.take p) ++ fs.filterMap fun f => meetB a f l := by
  rw [List.take_add_one, h]
  unfold meetAllB
  rw [List.flatMap_append]
  simp

theorem filterMap_take {α β : Type} {g : α → Option β} {fs : List α} {q : Nat} {x : α} (h : fs[q]? = some x) : (fs.take (q + 1)).filterMap g = (fs.take q).filterMap g ++ (g x).toList := by
  rw [List.take_add_one, h, List.filterMap_append]
  simp only [Option.toList_some, List.filterMap_cons, List.filterMap_nil]
  cases g x <;> rfl

theorem meetAll_len {a : AtomD} {fs : List FactB} (hf : fs.length ≤ 200) : ∀ (ms : List (List BindD)), (meetAllB a fs ms).length ≤ 200 * ms.length
  | [] => by simp [meetAllB]
  | l :: ms => by
    have h1 := meetAll_len (a := a) hf ms
    have h2 : (fs.filterMap fun f => meetB a f l).length ≤ fs.length := List.length_filterMap_le _ _
    unfold meetAllB at *
    rw [List.flatMap_cons, List.length_append, List.length_cons]; omega

theorem barred_take {pick : Nat → List FactB} {l : List BindD} : ∀ (ats : List AtomD) (n i : Nat) {a : AtomD}, ats[i]? = some a →
    barredB pick n (ats.take (i + 1)) l = (barredB pick n (ats.take i) l || (a.no && (match fillB a l with | some f => inB (pick (n + i)) f | none => false)))
  | [], _, _, _, h => by simp at h
  | x :: ats, n, 0, a, h => by
    simp at h
    subst h
    simp only [List.take_succ_cons, List.take_zero, barredB, Bool.or_false, Bool.false_or, Nat.add_zero]
    rfl
  | x :: ats, n, i + 1, a, h => by
    have := barred_take (pick := pick) (l := l) ats (n + 1) i (a := a) (by simpa using h)
    rw [List.take_succ_cons, List.take_succ_cons]
    simp only [barredB]
    rw [this, Bool.or_assoc, show n + 1 + i = n + (i + 1) by omega]

end Go.Proofs.YtkijmalapjiopaaGreat

/- What Wrong says of a fact, plain. -/
namespace Go.Proofs.YtkijmalapjiopaaGreat
open Go.RowKit Go.Sort

theorem wrongF_right {f : FactB} : wrongF f = 0 ↔ RightF f := by
  unfold wrongF RightF
  rw [namedB_eq]
  constructor
  · intro h
    split at h
    · simp at h
    · rename_i h1
      split at h
      · simp at h
      · rename_i h2
        split at h
        · simp at h
        · rename_i h3
          refine ⟨by simpa using h1, by omega, fun s hs => ?_⟩
          cases e : isNamed (raw s) with
          | true => rfl
          | false =>
            exfalso
            refine h3 ?_
            unfold noName
            rw [List.drop_zero, List.any_eq_true]
            exact ⟨s, hs, by rw [namedB_eq, e]; rfl⟩
  · rintro ⟨h1, h2, h3⟩
    rw [if_neg (by simp [h1]), if_neg (by omega), if_neg]
    intro h
    unfold noName at h
    rw [List.drop_zero, List.any_eq_true] at h
    obtain ⟨s, hs, hn⟩ := h
    rw [namedB_eq, h3 s hs] at hn
    cases hn

end Go.Proofs.YtkijmalapjiopaaGreat

/- The walk of the reference's Envs. -/
namespace Go.Proofs.YtkijmalapjiopaaGreat
open Go.RowKit Go.Sort Go.Maps

/-- What Envs tells. -/
def EnvsM (w : World) (v : Value) (er : Int) (pick : Nat → List FactB) (body : List AtomD) : Option (List (List BindD)) → Prop
  | none => v = .slice none 0 0 ∧ er = 4
  | some ms => er = 0 ∧ (envK 20).sl Anyw w v (ms.filter fun l => !barredB pick 0 body l)

theorem term_short {t : TermD} (h : wrongTerm t = false) : t.2.length ≤ 12 := by
  unfold wrongTerm at h
  split at h
  · simp only [Bool.not_eq_false'] at h
    unfold isVar at h
    simp only [Bool.and_eq_true, decide_eq_true_eq] at h
    exact h.1.1
  · simp only [Bool.not_eq_false'] at h
    unfold isNamed at h
    simp only [Bool.and_eq_true, decide_eq_true_eq] at h
    exact h.1.1

theorem fact_short {fs : List FactD} (h : (setFault fs).1 = 0) : fs.length ≤ 200 ∧ ∀ f ∈ fs, ∀ s ∈ f.2, s.size ≤ maxLen := by
  obtain ⟨h1, _, h3⟩ := set_right h
  refine ⟨h1, fun f hf s hs => ?_⟩
  have h4 := h3 f hf
  have h5 : isNamed (raw s) = true := (wrongF_right.1 h4).2.2 s hs
  unfold isNamed at h5
  simp only [Bool.and_eq_true, decide_eq_true_eq] at h5
  have := h5.1.1
  rw [length_raw] at this
  unfold maxLen; omega

set_option maxRecDepth 100000 in
set_option maxHeartbeats 1000000 in
theorem rEnvs (body : List AtomD) (facts other : List FactD) (at_ : Int) (bv fv ov : Value) (w : World) (hb : atomK.sl Anyw w bv body) (hf : Facts w fv facts) (ho : Facts w ov other) (hw : wrongBody body = 0) (hfs : (setFault facts).1 = 0) (hos : (setFault other).1 = 0) :
    Calls Tryz.prog 23 #[bv, fv, .int .i64 at_, ov] w fun e w' => ∃ v er, e = .returned (.tuple #[v, .int .i64 er]) ∧ EnvsM w' v er (pickB facts at_ other) body (metGo (pickB facts at_ other) 0 body [[]]) ∧ Below w.heap.size w w' := by
  obtain ⟨ba, bc, rfl⟩ := Kind.slice hb
  obtain ⟨fa, fc, rfl⟩ := sliceFacts hf
  obtain ⟨oa, oc, rfl⟩ := sliceFacts ho
  obtain ⟨h5, hat⟩ := body_right hw
  obtain ⟨hfl, hfS⟩ := fact_short hfs
  obtain ⟨hol, hoS⟩ := fact_short hos
  have hpl : ∀ n, (pickB facts at_ other n).length ≤ 200 := fun n => by unfold pickB; split <;> assumption
  have hpS : ∀ n, ∀ f ∈ pickB facts at_ other n, ∀ s ∈ f.2, s.size ≤ maxLen := fun n f => by unfold pickB; split; exact hoS f; exact hfS f
  obtain ⟨wb, hwb⟩ : ∃ wb, wb = ((w.alloc (.cells #[.slice fa facts.length fc] 23)).alloc (.cells #[.int .i64 at_] 3)).alloc (.cells #[.slice oa other.length oc] 23) := ⟨_, rfl⟩
  have hLb : Later w wb := by rw [hwb]; exact (((Later.refl w).alloc _).alloc _).alloc _
  have hsb : wb.heap.size = w.heap.size + 3 := by rw [hwb]; simp
  have hr0 : wb.heap[w.heap.size]? = some (.cells #[.slice fa facts.length fc] 23 (0, 0)) := by
    rw [hwb]; simp only [heap_at, World.size_alloc]
    repeat (first | rw [if_pos trivial] | rw [if_pos (by omega)] | rw [if_neg (by omega)])
  have hr1 : wb.heap[w.heap.size + 1]? = some (.cells #[.int .i64 at_] 3 (0, 0)) := by
    rw [hwb]; simp only [heap_at, World.size_alloc]
    repeat (first | rw [if_pos trivial] | rw [if_pos (by omega)] | rw [if_neg (by omega)])
  have hr2 : wb.heap[w.heap.size + 2]? = some (.cells #[.slice oa other.length oc] 23 (0, 0)) := by
    rw [hwb]; simp only [heap_at, World.size_alloc]
    repeat (first | rw [if_pos trivial] | rw [if_pos (by omega)] | rw [if_neg (by omega)])
  have HPk : Hid (∀ (i : Nat), ∃ a c, ∀ (w' : World), Below wb.heap.size wb w' → Calls Tryz.prog 48 #[.int .i64 (i : Int), .pointer (some ⟨w.heap.size + 1, 0, none⟩), .pointer (some ⟨w.heap.size + 2, 0, none⟩), .pointer (some ⟨w.heap.size, 0, none⟩)] w' (fun e w'' => e = .returned (.slice a (pickB facts at_ other i).length c) ∧ w'' = w') ∧ Facts w' (.slice a (pickB facts at_ other i).length c) (pickB facts at_ other i)) := fun i => by
    have key : ∀ w', Below wb.heap.size wb w' → Calls Tryz.prog 48 #[.int .i64 (i : Int), .pointer (some ⟨w.heap.size + 1, 0, none⟩), .pointer (some ⟨w.heap.size + 2, 0, none⟩), .pointer (some ⟨w.heap.size, 0, none⟩)] w' (fun e w'' => e = .returned (if (i : Int) = at_ then .slice oa other.length oc else .slice fa facts.length fc) ∧ w'' = w') := fun w' hB => by
      have k0 : w'.cell? ⟨w.heap.size, 0, none⟩ = some (.slice fa facts.length fc) := by rw [hB.cell (p := ⟨w.heap.size, 0, none⟩) (by show w.heap.size < _; omega), cell_of_row _ _ _ _ _ _ hr0]; rfl
      have k1 : w'.cell? ⟨w.heap.size + 1, 0, none⟩ = some (.int .i64 at_) := by rw [hB.cell (p := ⟨w.heap.size + 1, 0, none⟩) (by show w.heap.size + 1 < _; omega), cell_of_row _ _ _ _ _ _ hr1]; rfl
      have k2 : w'.cell? ⟨w.heap.size + 2, 0, none⟩ = some (.slice oa other.length oc) := by rw [hB.cell (p := ⟨w.heap.size + 2, 0, none⟩) (by show w.heap.size + 2 < _; omega), cell_of_row _ _ _ _ _ _ hr2]; rfl
      exact rPick w.heap.size (i : Int) at_ fa oa facts.length fc other.length oc w' k0 k1 k2
    unfold pickB
    by_cases h : (i : Int) = at_
    · simp only [h, if_true] at key ⊢
      exact ⟨oa, oc, fun w' hB => ⟨key w' hB, (ho.later hLb).below hB⟩⟩
    · simp only [h, if_false] at key ⊢
      exact ⟨fa, fc, fun w' hB => ⟨key w' hB, (hf.later hLb).below hB⟩⟩
  have HBd := hide (Kind.sl_later hb hLb)
  have HAt := hide hat
  have HPl := hide hpl
  have HPS := hide hpS
  have HLb := hide hLb
  have hmm := @run_makeMap Tryz.prog
  have hmf : ∀ (fn : Fn) (first cap : Array Value) (w : World), (Instr.makeFunc fn first cap).run Tryz.prog w = .ok (.func fn first cap) w := fun _ _ _ _ => rfl
  have HCov := hide (covers_of hw)
  obtain ⟨w1, hw1⟩ : ∃ w1, w1 = (wb.alloc (.map #[] 0)).alloc (.cells #[.map (some (w.heap.size + 3))] 32) := ⟨_, rfl⟩
  have hE0 : (envK (4 * 0)).sl (From wb.heap.size) w1 (.slice (some ⟨w.heap.size + 4, 0, none⟩) 1 1) [[]] := by
    have he := EnvM.made wb
    rw [hsb] at he
    have h1 : (envK (4 * 0)).is (From wb.heap.size) (wb.alloc (.map #[] 0)) [.map (some (w.heap.size + 3))] [] := ⟨_, rfl, by show wb.heap.size ≤ _; omega, he⟩
    have := Kind.own_one (ty := 32) (lo := wb.heap.size) h1 (by simp)
    have h2 := Kind.own_sl this (by simp)
    rw [World.size_alloc] at h2
    rw [hw1, show w.heap.size + 4 = wb.heap.size + 1 by omega]
    exact h2
  have hB1 : Below wb.heap.size wb w1 := by rw [hw1]; exact (((Later.refl wb).alloc _).alloc _).below
  have HE0 := hide hE0
  have HB1 := hide hB1
  rw [hwb] at hw1
  have HW1 := hide hw1
  generalize hM : metGo (pickB facts at_ other) 0 body [[]] = M at *
  have HM : Hid (M = metGo (pickB facts at_ other) 0 (body.drop 0) [[]]) := hM.symm
  have HM0 : Hid (M = metGo (pickB facts at_ other) 0 body [[]]) := hM.symm
  generalize pickB facts at_ other = pick at *
  clear hb hf ho hw hfs hos hat hfl hfS hol hoS hpl hpS hwb hLb hr0 hr1 hr2 hE0 hB1 hw1 hM
  go_enter Tryz.func23, Tryz.ntmps23
  go_wp2
  rw [← HW1.out]
  go_loopg [10, 33] body.length (fun g v10 i wr => ∃ j : Nat, j + g = body.length ∧ i = .int .i64 j ∧ ∃ ms : List (List BindD), Hid ((envK (4 * j)).sl (From wb.heap.size) wr v10 ms) ∧ ms.length ≤ 20000 ∧ Hid (M = metGo pick j (body.drop j) ms) ∧ Hid (Below wb.heap.size wb wr))
  case atStart => exact ⟨0, by omega, rfl, [[]], HE0, by simp, HM, HB1⟩
  case round =>
    clear HE0 HM HB1 HW1
    obtain ⟨j, hj, rfl, ms, HEs, hml, HM, HBr⟩ := hrel
    obtain ⟨ea, ec, hev⟩ := Kind.slice HEs.out
    subst hev
    by_cases hlt : j < body.length
    · obtain ⟨a, ha⟩ : ∃ a, body[j]? = some a := ⟨_, List.getElem?_eq_getElem hlt⟩
      have ham := List.mem_of_getElem? ha
      obtain ⟨hz1, hz2, hz3⟩ := atom_zero (HAt.out a ham)
      obtain ⟨b1, o1, _, rfl, hb1, ⟨tv, rfl, htv⟩, hc⟩ := Kind.sl_at HBd.out ha
      have d0 : wr.cell? ⟨b1, o1 + j * 3, none⟩ = some (.bool a.no) := by rw [HBr.out.cell (p := ⟨b1, o1 + j * 3, none⟩) hb1]; exact hc 0 _ rfl
      have d1 : wr.cell? ⟨b1, o1 + j * 3 + 1, none⟩ = some (.string (bs a.name)) := by rw [HBr.out.cell (p := ⟨b1, o1 + j * 3 + 1, none⟩) hb1]; exact hc 1 _ rfl
      have d2 : wr.cell? ⟨b1, o1 + j * 3 + 2, none⟩ = some tv := by rw [HBr.out.cell (p := ⟨b1, o1 + j * 3 + 2, none⟩) hb1]; exact hc 2 _ rfl
      obtain ⟨ta, tc, rfl⟩ := Kind.slice htv
      have hbr : b1 < wr.heap.size := Nat.lt_of_lt_of_le hb1 HBr.out.size
      obtain ⟨wa, hwa⟩ : ∃ wa, wa = wr.alloc (.cells #[.bool a.no, .string (bs a.name), .slice ta a.terms.length tc] 38) := ⟨_, rfl⟩
      have hLa : Later wr wa := by rw [hwa]; exact (Later.refl _).alloc _
      have hra : wa.heap[wr.heap.size]? = some (.cells #[.bool a.no, .string (bs a.name), .slice ta a.terms.length tc] 38 (0, 0)) := by rw [hwa]; exact heap_alloc_new wr _
      have hsa : wa.heap.size = wr.heap.size + 1 := by rw [hwa]; simp
      have hBa : Below wb.heap.size wb wa := below_trans HBr.out hLa.below HBr.out.size
      have hstep := metAt_step (pick := pick) (ms := ms) ha
      rw [← HM.out] at hstep
      have HTa := hide (Kind.sl_below htv hBa)
      have HEa := hide (Kind.sl_kept HEs.out hLa.size fun k hk _ => hLa.block hk)
      have HRa := hide hra
      have HBa := hide hBa
      have HWa := hide hwa
      have HTs : Hid (∀ t ∈ a.terms, t.2.length ≤ maxLen) := fun t ht => by have := term_short (hz3 t ht); unfold maxLen; omega
      clear hc ha ham hz1 hz3 htv hwa hLa hra hBa
      cases hno : a.no
      · rw [hno] at hstep d0
        rw [hno] at HRa HWa
        simp only [Bool.false_eq_true, if_false] at hstep
        have HStep := hide hstep
        obtain ⟨pa, pc, hPk⟩ := HPk.out j
        have HPj := hide hPk
        have hpl := HPl.out j
        have hps := HPS.out j
        have HPSj := hide hps
        clear hstep hPk hps
        generalize hnm : bs a.name = nm at *
        have HNm := hide hnm
        clear hnm
        go_wp2
        rw [← HWa.out]
        clear HWa d0 d1 d2 HEs HBr hbr hb1
        generalize hA : wr.heap.size = A at *
        clear hA
        go_loopg [14, 42] ms.length (fun g o i wr2 => ∃ p : Nat, p + g = ms.length ∧ i = .int .i64 p ∧ Hid ((envK (4 * j + 4)).own 32 wa.heap.size wr2 o (meetAllB a (pick j) (ms.take p))) ∧ Hid (Below wa.heap.size wa wr2))
        case atStart => exact ⟨0, by omega, rfl, Kind.own_nil _ _ _ _, Below.refl _ _⟩
        case round =>
          obtain ⟨p, hp, rfl, HO, HB2⟩ := hrel
          obtain ⟨oa', on', oc', hov⟩ : ∃ a n c, u14 = .slice a n c := by obtain ⟨a, c, e⟩ := Kind.own_slice HO.out; exact ⟨a, _, c, e⟩
          subst hov
          by_cases hlp : p < ms.length
          · obtain ⟨l, hl⟩ : ∃ l, ms[p]? = some l := ⟨_, List.getElem?_eq_getElem hlp⟩
            obtain ⟨b3, o3, _, e3, hb3, ⟨bl, rfl, _, hel⟩, hc3⟩ := Kind.sl_at HEa.out hl
            subst e3
            have d3 : wr.cell? ⟨b3, o3 + p, none⟩ = some (.map (some bl)) := by rw [HB2.out.cell (p := ⟨b3, o3 + p, none⟩) hb3]; simpa [envK] using hc3 0 _ rfl
            have hBb2 := below_trans HBa.out HB2.out HBa.out.size
            obtain ⟨hPc, _⟩ := HPj.out wr hBb2
            have HPc := hide hPc
            have HEl := hide hel
            have HTk := hide (meetAll_take (a := a) (fs := pick j) hl)
            have hml2 : (meetAllB a (pick j) (ms.take p)).length ≤ 200 * p := by
              have := meetAll_len (a := a) hpl (ms.take p)
              rw [List.length_take] at this; omega
            clear hc3 hl hel hPc hBb2
            go_wp2_with fail
            refine HPc.out.mono ?_
            rintro e w3 ⟨rfl, rfl⟩
            clear HPc
            go_wp2
            go_loopg [14, 50] (pick j).length (fun g o i wr3 => ∃ q : Nat, q + g = (pick j).length ∧ i = .int .i64 q ∧ Hid ((envK (4 * j + 4)).own 32 wa.heap.size wr3 o (meetAllB a (pick j) (ms.take p) ++ ((pick j).take q).filterMap fun f => meetB a f l)) ∧ Hid (Below wa.heap.size wa wr3))
            case atStart => exact ⟨0, by omega, rfl, (by show (envK _).own _ _ _ _ _; simpa using HO.out), HB2⟩
            case round =>
              clear HO HB2 d3
              obtain ⟨q, hq, rfl, HO, HB3⟩ := hrel
              obtain ⟨oa2, on2, oc2, hov⟩ : ∃ a n c, u14 = .slice a n c := by obtain ⟨a, c, e⟩ := Kind.own_slice HO.out; exact ⟨a, _, c, e⟩
              subst hov
              by_cases hlq : q < (pick j).length
              · have hBb3 := below_trans HBa.out HB3.out HBa.out.size
                obtain ⟨_, hPF⟩ := HPj.out wr hBb3
                obtain ⟨a', cap', e', _, hz⟩ := hPF.addr
                injection e' with e1 e2 e3
                subst e1
                subst e3
                rcases hz with hz | ⟨b4, o4, rfl⟩
                · rw [hz] at hlq; simp at hlq
                obtain ⟨hb4, ax, lx, cx, g1, g2, fx⟩ := hPF.at hlq
                obtain ⟨f, hfq⟩ : ∃ f, (pick j)[q]? = some f := ⟨_, List.getElem?_eq_getElem hlq⟩
                have hgd : (pick j).getD q noFact = f := by rw [List.getD_eq_getElem?_getD, hfq]; rfl
                rw [hgd] at g1 fx
                have HFl := hide (HPSj.out f (List.mem_of_getElem? hfq))
                have HFk := hide (filterMap_take (g := fun f => meetB a f l) hfq)
                have hfl2 : (((pick j).take q).filterMap fun f => meetB a f l).length ≤ q := by
                  have := List.length_filterMap_le (fun f => meetB a f l) ((pick j).take q)
                  rw [List.length_take] at this; omega
                have hrow : wr.heap[A]? = some (.cells #[.bool false, .string nm, .slice ta a.terms.length tc] 38 (0, 0)) := by
                  rw [HB3.out.block _ (by omega)]; exact HRa.out
                obtain ⟨wf, hwf⟩ : ∃ wf, wf = wr.alloc (.cells #[.string f.1, .slice ax lx cx] 41) := ⟨_, rfl⟩
                have hLf : Later wr wf := by rw [hwf]; exact (Later.refl _).alloc _
                have hsf : wf.heap.size = wr.heap.size + 1 := by rw [hwf]; simp
                have hwal : A < wr.heap.size := by have := HB3.out.size; omega
                have hBf := below_trans HB3.out hLf.below HB3.out.size
                have hrt := rTry a f l bl (4 * j) 4 (.slice ta a.terms.length tc) (.agg #[.string f.1, .slice ax lx cx]) wf (Kind.sl_below HTa.out hBf) (fx.later hLf) (HEl.out.block (hBf.block bl HEl.out.lt)) hz2 (by omega) HTs.out HFl.out
                rw [hno, HNm.out] at hrt
                have HRT := hide hrt
                have k0 : wr.cell? ⟨A, 0, none⟩ = some (.bool false) := by rw [cell_of_row _ _ _ _ _ _ hrow]; rfl
                have k1 : wr.cell? ⟨A, 0 + 1, none⟩ = some (.string nm) := by rw [cell_of_row _ _ _ _ _ _ hrow]; rfl
                have k2 : wr.cell? ⟨A, 0 + 2, none⟩ = some (.slice ta a.terms.length tc) := by rw [cell_of_row _ _ _ _ _ _ hrow]; rfl
                have HWf := hide hwf
                have HBf := hide hBf
                have HOf := hide (Kind.own_kept HO.out (by omega : wr.heap.size ≤ wf.heap.size) fun k hk _ => hLf.block hk)
                clear hPF hgd hfq hrow hwf hLf hrt fx hBf hBb3 HO
                go_wp2_with fail
                rw [← HWf.out]
                refine HRT.out.mono ?_
                rintro e w6 ⟨hT6, hB6⟩
                have HB6 := hide (below_trans HBf.out hB6 HBf.out.size)
                have HO6 := hide (Kind.own_kept HOf.out hB6.size fun k hk _ => hB6.block k hk)
                have hs6 := hB6.size
                clear HRT hB6 HOf HBf HWf k0 k1 k2
                cases hm : meetB a f l with
                | none =>
                  rw [hm] at hT6
                  have he : e = .returned (.map none) := hT6
                  subst he
                  have HO7 : Hid ((envK (4 * j + 4)).own 32 wa.heap.size w6 (.slice oa2 on2 oc2) (meetAllB a (pick j) (ms.take p) ++ ((pick j).take (q + 1)).filterMap fun f => meetB a f l)) := by
                    show (envK _).own _ _ _ _ _
                    rw [HFk.out, hm]; simpa using HO6.out
                  have hnq : ∀ w : World, (binOp .neq 32 (.map none) (.map none)).run Tryz.prog w = .ok (.bool false) w := fun w => run_neq_map_nil w 32 9 9 none Tryz.underlying32
                  clear hm hT6 HO6 HFk
                  go_wp2
                  go_roundg ((pick j).length - (q + 1))
                  case measure => omega
                  case rel => exact ⟨q + 1, by omega, by go_num, HO7, HB6⟩
                | some l' =>
                  rw [hm] at hT6
                  obtain ⟨b6, he, hb6, hE6⟩ := hT6
                  subst he
                  obtain ⟨v', w7, hrun, hO7, hg7, hd7, _⟩ := appendEnv HO6.out hE6 (by have := HB3.out.size; omega) (by rw [List.length_append]; omega) HB6.out.size
                  have hlo : ∀ k, (Value.slice oa2 on2 oc2).ownBlock = some k → wa.heap.size ≤ k := fun k e => (Kind.own_lt HO6.out e).1
                  have hB7 : Below wa.heap.size wa w7 := (below_trans HB6.out ((Later.refl w6).alloc _).below HB6.out.size).grown hg7 (by have := HB6.out.size; simp; omega) (fun k e => hlo k e)
                  have HO7 : Hid ((envK (4 * j + 4)).own 32 wa.heap.size w7 v' (meetAllB a (pick j) (ms.take p) ++ ((pick j).take (q + 1)).filterMap fun f => meetB a f l)) := by
                    show (envK _).own _ _ _ _ _
                    rw [HFk.out, hm, ← List.append_assoc]; exact hO7
                  obtain ⟨a7, n7, c7, rfl⟩ : ∃ a n c, v' = .slice a n c := by obtain ⟨a, c, e⟩ := Kind.own_slice hO7; exact ⟨a, _, c, e⟩
                  have HRn := hide hrun
                  have hnq : ∀ w : World, (binOp .neq 32 (.map (some b6)) (.map none)).run Tryz.prog w = .ok (.bool true) w := fun w => run_neq_map_nil w 32 9 9 (some b6) Tryz.underlying32
                  have HB7 := hide hB7
                  clear hm hE6 hrun hO7 hg7 hd7 hlo hB7 HO6 HFk HB6
                  go_wp2_with (at_builtin; refine wpList_append_run rfl (.tmp 60) (.tmp 62) 63 rfl _ _ _ _ rfl rfl HRn.out ?_)
                  go_roundg ((pick j).length - (q + 1))
                  case measure => omega
                  case rel => exact ⟨q + 1, by omega, by go_num, HO7, HB7⟩
              · have hq' : (pick j).take q = pick j := List.take_of_length_le (by omega)
                have HO7 : Hid ((envK (4 * j + 4)).own 32 wa.heap.size wr (.slice oa2 on2 oc2) (meetAllB a (pick j) (ms.take (p + 1)))) := by
                  have h := HO.out
                  show (envK _).own _ _ _ _ _
                  rw [hq'] at h
                  rw [HTk.out]; exact h
                clear hq' HO
                go_wp2
                go_roundg (ms.length - (p + 1))
                case measure => omega
                case rel => exact ⟨p + 1, by omega, by go_num, HO7, HB3⟩
          · have hp' : ms.take p = ms := List.take_of_length_le (by omega)
            have hO := HO.out
            rw [hp'] at hO
            have hon : on' = (meetAllB a (pick j) ms).length := by
              obtain ⟨a, c, e⟩ := Kind.own_slice hO
              injection e
            have hBb := below_trans HBa.out HB2.out HBa.out.size
            have hl20 : (meetAllB a (pick j) ms).length ≤ 4000000 := by
              have := meetAll_len (a := a) hpl ms
              omega
            by_cases hbig : 20000 < (meetAllB a (pick j) ms).length
            · have hst := HStep.out
              rw [if_pos hbig] at hst
              have HN : Hid (M = none) := hst
              have hbz : (20000 : Int) < (on' : Int) := by omega
              have HBb := hide (below_trans HLb.out.below hBb HLb.out.size)
              clear hst hO hBb HO hp' HStep hon
              go_wp2
              exact bodyPost_ret (v := .tuple #[.slice none 0 0, .int .i64 4]) (by simp [results, Tryz.results23, go_sem]) rfl ⟨_, 4, rfl, by rw [HN.out]; exact ⟨rfl, rfl⟩, HBb.out⟩
            · have hst := HStep.out
              rw [if_neg hbig] at hst
              have HM' := hide hst
              have hbz : ¬ (20000 : Int) < (on' : Int) := by omega
              have hsl := Kind.own_sl hO (by omega)
              have HE' : Hid ((envK (4 * (j + 1))).sl (From wb.heap.size) wr (.slice oa' on' oc') (meetAllB a (pick j) ms)) := by
                have h := Kind.sl_mono hsl (B' := From wb.heap.size) fun k _ (hk : wa.heap.size ≤ k) => (by have := HBa.out.size; show wb.heap.size ≤ k; omega)
                rw [show 4 * (j + 1) = 4 * j + 4 by omega]
                exact h
              have HB' := hide hBb
              clear hst hO hsl hBb HO hp' HStep hon
              go_wp2
              go_roundg (body.length - (j + 1))
              case measure => omega
              case rel => exact ⟨j + 1, by omega, by go_num, _, HE', by omega, HM', HB'⟩
      · rw [hno] at hstep d0
        rw [hno] at HRa HWa
        simp only [if_true] at hstep
        have HM' := hide hstep
        have HE' : Hid ((envK (4 * (j + 1))).sl (From wb.heap.size) wa (.slice ea ms.length ec) ms) := envK_more HEa.out (by omega)
        rw [HWa.out] at HE'
        have HB' := HBa
        rw [HWa.out] at HB'
        clear hstep HEa HRa HTa HTs
        generalize bs a.name = nm at *
        go_wp2
        go_roundg (body.length - (j + 1))
        case measure => omega
        case rel => exact ⟨j + 1, by omega, by go_num, ms, HE', hml, HM', HB'⟩
    · have hm := HM.out
      rw [List.drop_eq_nil_of_le (by omega)] at hm
      have HMs : Hid (M = some ms) := hm
      have hj5 : 4 * j ≤ 20 := by omega
      have HE5 := hide (envK_more HEs.out hj5)
      have HFill : Hid (∀ l ∈ ms, ∀ a ∈ body, ∃ f, fillB a l = some f) := fun l hl a ha => by
        have hk := ((met_mem pick body 0 [[]] ms [] (fun x hx => by simp at hx; subst hx; rfl) (by rw [← HM0.out]; exact hm) l).1 hl).2.1
        exact fillB_some fun t ht htv => by rw [hk]; exact mem_map_bs.2 (HCov.out a ha t ht htv)
      clear hm HM HEs hj5
      obtain ⟨w5, hw5⟩ : ∃ w5, w5 = wr := ⟨_, rfl⟩
      rw [← hw5] at HE5 HBr ⊢
      clear hw5
      go_wp2
      go_loopg [20, 73] ms.length (fun g o i wr => ∃ p : Nat, p + g = ms.length ∧ i = .int .i64 p ∧ Hid ((envK 20).own 32 wb.heap.size wr o ((ms.take p).filter fun l => !barredB pick 0 body l)) ∧ Hid (∀ k, o.ownBlock = some k → w5.heap.size ≤ k) ∧ Hid (Below w5.heap.size w5 wr))
      case atStart => exact ⟨0, by omega, rfl, Kind.own_nil _ _ _ _, (fun k e => by cases e), Below.refl _ _⟩
      case round =>
        obtain ⟨p, hp, rfl, HO, HOk, HB5⟩ := hrel
        obtain ⟨oa', on', oc', hov⟩ : ∃ a n c, u20 = .slice a n c := by obtain ⟨a, c, e⟩ := Kind.own_slice HO.out; exact ⟨a, _, c, e⟩
        subst hov
        by_cases hlp : p < ms.length
        · obtain ⟨l, hl⟩ : ∃ l, ms[p]? = some l := ⟨_, List.getElem?_eq_getElem hlp⟩
          obtain ⟨b3, o3, _, e3, hb3, ⟨bl, rfl, hblo, hel⟩, hc3⟩ := Kind.sl_at HE5.out hl
          subst e3
          have d3 : wr.cell? ⟨b3, o3 + p, none⟩ = some (.map (some bl)) := by rw [HB5.out.cell (p := ⟨b3, o3 + p, none⟩) hb3]; simpa [envK] using hc3 0 _ rfl
          have HEl := hide (hel.block (HB5.out.block bl hel.lt))
          have HFl := hide (HFill.out l (List.mem_of_getElem? hl))
          have htk : ms.take (p + 1) = ms.take p ++ [l] := by rw [List.take_add_one, hl]; rfl
          have HTk := hide htk
          have hlen2 : ((ms.take p).filter fun l => !barredB pick 0 body l).length ≤ p := by
            have := List.length_filter_le (fun l => !barredB pick 0 body l) (ms.take p)
            rw [List.length_take] at this; omega
          clear hc3 hl hel htk
          obtain ⟨wx, hwx⟩ : ∃ wx, wx = wr := ⟨_, rfl⟩
          rw [← hwx] at HO HB5 d3 HEl ⊢
          clear hwx
          go_wp2
          go_loopg [23, 79] body.length (fun g q i wr2 => ∃ t : Nat, t + g = body.length ∧ i = .int .i64 t ∧ q = .bool (!barredB pick 0 (body.take t) l) ∧ Hid (Below wx.heap.size wx wr2))
          case atStart => exact ⟨0, by omega, rfl, rfl, Below.refl _ _⟩
          case round =>
            clear d3
            obtain ⟨t, ht, rfl, rfl, HBx⟩ := hrel
            have hB5r := below_trans HB5.out HBx.out HB5.out.size
            have hBbr := below_trans HBr.out hB5r HBr.out.size
            by_cases hltb : t < body.length
            · obtain ⟨a, ha⟩ : ∃ a, body[t]? = some a := ⟨_, List.getElem?_eq_getElem hltb⟩
              have ham := List.mem_of_getElem? ha
              obtain ⟨hz1, hz2, hz3⟩ := atom_zero (HAt.out a ham)
              obtain ⟨f, hfa⟩ := HFl.out a ham
              have hbt := barred_take (pick := pick) (l := l) body 0 t ha
              rw [hfa, Nat.zero_add] at hbt
              dsimp only at hbt
              obtain ⟨b1, o1, _, rfl, hb1, ⟨tv, rfl, htv⟩, hc⟩ := Kind.sl_at HBd.out ha
              have d0 : wr.cell? ⟨b1, o1 + t * 3, none⟩ = some (.bool a.no) := by rw [hBbr.cell (p := ⟨b1, o1 + t * 3, none⟩) hb1]; exact hc 0 _ rfl
              have d1 : wr.cell? ⟨b1, o1 + t * 3 + 1, none⟩ = some (.string (bs a.name)) := by rw [hBbr.cell (p := ⟨b1, o1 + t * 3 + 1, none⟩) hb1]; exact hc 1 _ rfl
              have d2 : wr.cell? ⟨b1, o1 + t * 3 + 2, none⟩ = some tv := by rw [hBbr.cell (p := ⟨b1, o1 + t * 3 + 2, none⟩) hb1]; exact hc 2 _ rfl
              obtain ⟨ta, tc, rfl⟩ := Kind.slice htv
              have hbr : b1 < wr.heap.size := Nat.lt_of_lt_of_le hb1 hBbr.size
              obtain ⟨wa, hwa⟩ : ∃ wa, wa = wr.alloc (.cells #[.bool a.no, .string (bs a.name), .slice ta a.terms.length tc] 38) := ⟨_, rfl⟩
              have hLa : Later wr wa := by rw [hwa]; exact (Later.refl _).alloc _
              have hBxa := below_trans HBx.out hLa.below HBx.out.size
              have HBxa := hide hBxa
              have HWa := hide hwa
              have HTm : Hid (∀ t ∈ a.terms, t.2.length ≤ maxLen) := fun t ht => by have := term_short (hz3 t ht); unfold maxLen; omega
              have HBn := hide hbt
              have hRF := rFill4 a (.slice ta a.terms.length tc) l bl 20 wa (Kind.sl_below htv (below_trans hBbr hLa.below hBbr.size)) (HEl.out.block (hBxa.block bl HEl.out.lt)) HTm.out
              unfold filled at hRF
              rw [hfa] at hRF
              have HRF := hide hRF
              clear hc ha ham hz1 hz2 hz3 htv hwa hLa hBxa hbt hRF hfa
              generalize bs a.name = nm at *
              cases hno : a.no
              · have HQ : Hid ((!barredB pick 0 (body.take (t + 1)) l) = !barredB pick 0 (body.take t) l) := by show _ = _; rw [HBn.out, hno]; simp
                rw [hno] at d0 HWa
                rw [HWa.out] at HBxa
                clear HBn HRF
                go_wp2
                go_roundg (body.length - (t + 1))
                case measure => omega
                case rel => exact ⟨t + 1, by omega, by go_num, by rw [HQ.out], HBxa⟩
              · cases hq : barredB pick 0 (body.take t) l
                · have HQ : Hid ((!barredB pick 0 (body.take (t + 1)) l) = !inB (pick t) f) := by show _ = _; rw [HBn.out, hq, hno]; simp
                  rw [hno] at d0 HWa
                  have HRF' := HRF
                  rw [hno] at HRF'
                  obtain ⟨pa, pc, hPk⟩ := HPk.out t
                  have HPj := hide hPk
                  have HBbr := hide hBbr
                  have HB5r := hide hB5r
                  clear HBn HRF hPk hBbr hB5r hq
                  go_wp2_with fail
                  rw [← HWa.out]
                  refine HRF'.out.mono ?_
                  rintro e w6 ⟨v6, rfl, hfv, hL6⟩
                  simp only [Option.isSome_some, Option.getD_some] at hfv ⊢
                  have hfv' := hfv
                  obtain ⟨s6, rfl, hs6⟩ := hfv
                  obtain ⟨sA, sC, rfl⟩ := sliceStr hs6
                  obtain ⟨wz, hwz⟩ : ∃ wz, wz = w6.alloc (.cells #[.string f.1, .slice sA f.2.length sC] 41) := ⟨_, rfl⟩
                  have hLz : Later w6 wz := by rw [hwz]; exact (Later.refl _).alloc _
                  have hrz : wz.heap[w6.heap.size]? = some (.cells #[.string f.1, .slice sA f.2.length sC] 41 (0, 0)) := by rw [hwz]; exact heap_alloc_new w6 _
                  have hltz : w6.heap.size < wz.heap.size := (Array.getElem?_eq_some_iff.1 hrz).1
                  have hBz : Below wx.heap.size wx wz := below_trans HBxa.out (hL6.trans hLz).below HBxa.out.size
                  have hBbz : Below wb.heap.size wb wz := below_trans HBr.out (below_trans HB5.out hBz HB5.out.size) HBr.out.size
                  have HCz : Hid (∀ w', Later wz w' → w'.cell? ⟨w6.heap.size, 0, none⟩ = some (.string f.1) ∧ w'.cell? ⟨w6.heap.size, 0 + 1, none⟩ = some (.slice sA f.2.length sC)) := fun w' hL =>
                    ⟨by rw [hL.cell (p := ⟨w6.heap.size, 0, none⟩) hltz, cell_of_row _ _ _ _ _ _ hrz]; rfl, by rw [hL.cell (p := ⟨w6.heap.size, 0 + 1, none⟩) hltz, cell_of_row _ _ _ _ _ _ hrz]; rfl⟩
                  have HPz : Hid (∀ w', Later wz w' → Calls Tryz.prog 48 #[.int .i64 (t : Int), .pointer (some ⟨w.heap.size + 1, 0, none⟩), .pointer (some ⟨w.heap.size + 2, 0, none⟩), .pointer (some ⟨w.heap.size, 0, none⟩)] w' (fun e w'' => e = .returned (.slice pa (pick t).length pc) ∧ w'' = w')) := fun w' hL => (HPj.out w' (below_trans hBbz hL.below hBbz.size)).1
                  have HIz : Hid (∀ w', Later wz w' → Calls Tryz.prog 49 #[.slice pa (pick t).length pc, .agg #[.string f.1, .slice sA f.2.length sC]] w' fun e w'' => e = .returned (.bool (inB (pick t) f)) ∧ Later w' w'') := fun w' hL => by
                    have := rIn (.slice pa (pick t).length pc) (.agg #[.string f.1, .slice sA f.2.length sC]) (pick t) f w' (HPj.out w' (below_trans hBbz hL.below hBbz.size)).2 ((hfv'.later hLz).later hL)
                    rw [in_eq] at this
                    exact this
                  have HBz := hide hBz
                  have HWz := hide hwz
                  clear hs6 hL6 hfv' hwz hLz hrz hBz hBbz HRF' HWa HBxa
                  generalize hib : inB (pick t) f = ib at *
                  clear hib
                  go_wp2
                  rw [← HWz.out]
                  clear HWz d0 d1 d2
                  refine wp_region_held_drew (S := fun w' => Later wz w') (by kernel_rfl) (Later.refl wz).drew (fun hHeld => ?_)
                  refine take_yes (i := 0) (d := some 95) (v := ?_) rfl rfl hHeld ?_ ?_; rotate_left; focus intro w hSw; (try dsimp only at hSw);  go_simp; try with_reducible rfl
                  simp only [aput, aset, aze, asu]
                  refine take_yes (i := 1) (d := some 96) (v := ?_) rfl rfl hHeld ?_ ?_; rotate_left; focus intro w hSw; (try dsimp only at hSw);  go_simp; try with_reducible rfl
                  simp only [aput, aset, aze, asu]
                  refine take_yes (i := 3) (d := some 98) (v := ?_) rfl rfl hHeld ?_ ?_; rotate_left; focus intro w hSw; (try dsimp only at hSw); obtain ⟨q0, q1⟩ := HCz.out w hSw; go_simp; try with_reducible rfl
                  simp only [aput, aset, aze, asu]
                  refine wpAnyH_ready (rs := [2]) (by kernel_rfl) (by simp) ?_
                  refine AllReadyH.cons rfl (fun K hK => ?_) AllReadyH.nil
                  go_simp
                  refine (HPz.out _ hHeld).mono ?_
                  rintro e y1 ⟨rfl, rfl⟩
                  dsimp only
                  refine hK.out _ _ hHeld (fun hHeld => ?_)
                  clear hK K
                  refine wpAnyH_ready (rs := [4]) (by kernel_rfl) (by simp) ?_
                  refine AllReadyH.cons rfl (fun K hK => ?_) AllReadyH.nil
                  go_simp
                  refine (HIz.out _ hHeld).mono ?_
                  rintro e y2 ⟨rfl, hL2⟩
                  dsimp only
                  refine hK.out _ _ (hHeld.trans hL2) (fun hHeld => ?_)
                  clear hK K
                  refine take_yes (i := 5) (d := some 100) (v := ?_) rfl rfl hHeld ?_ ?_; rotate_left; focus intro w hSw; (try dsimp only at hSw);  go_simp; try with_reducible rfl
                  simp only [aput, aset, aze, asu]
                  refine take_yes (i := 6) (d := some 23) (v := ?_) rfl rfl hHeld ?_ ?_; rotate_left; focus intro w hSw; (try dsimp only at hSw);  go_simp; try with_reducible rfl
                  simp only [aput, aset, aze, asu]
                  refine wpAnyH_done (by kernel_rfl) ?_ _
                  have HBy := hide (below_trans HBz.out hHeld.below HBz.out.size)
                  clear hHeld hL2 HBz HCz HPz HIz
                  go_wp2
                  go_roundg (body.length - (t + 1))
                  case measure => omega
                  case rel => exact ⟨t + 1, by omega, by go_num, by rw [HQ.out], HBy⟩
                · have HQ : Hid ((!barredB pick 0 (body.take (t + 1)) l) = false) := by show _ = _; rw [HBn.out, hq]; simp
                  rw [hno] at d0 HWa
                  rw [HWa.out] at HBxa
                  clear HBn HRF
                  go_wp2
                  go_roundg (body.length - (t + 1))
                  case measure => omega
                  case rel => exact ⟨t + 1, by omega, by go_num, by rw [HQ.out]; rfl, HBxa⟩
            · have htb : body.take t = body := List.take_of_length_le (by omega)
              rw [htb]
              have HOr := hide (Kind.own_kept HO.out HBx.out.size fun k hk _ => HBx.out.block k hk)
              have HElr := hide (HEl.out.block (HBx.out.block bl HEl.out.lt))
              have HB5r := hide hB5r
              have hsx := HBx.out.size
              have hs5 := HB5.out.size
              clear hB5r hBbr htb
              cases hq : barredB pick 0 body l
              · obtain ⟨v', w7, hrun, hO7, hg7, hd7, hv7⟩ := appendEnv HOr.out HElr.out hblo (by omega) (by have := HBr.out.size; omega)
                have HO7 : Hid ((envK 20).own 32 wb.heap.size w7 v' ((ms.take (p + 1)).filter fun l => !barredB pick 0 body l)) := by
                  show (envK _).own _ _ _ _ _
                  rw [HTk.out, List.filter_append]
                  simp only [List.filter_cons, hq, Bool.not_false, if_true, List.filter_nil]
                  exact hO7
                have HOk7 : Hid (∀ k, v'.ownBlock = some k → w5.heap.size ≤ k) := fun k e => by
                  rcases hv7 k e with h | h
                  · exact HOk.out k h
                  · omega
                have hB7 : Below w5.heap.size w5 w7 := (below_trans HB5r.out ((Later.refl wr).alloc _).below HB5r.out.size).grown hg7 (by simp; omega) (fun k e => HOk.out k e)
                obtain ⟨a7, n7, c7, rfl⟩ : ∃ a n c, v' = .slice a n c := by obtain ⟨a, c, e⟩ := Kind.own_slice hO7; exact ⟨a, _, c, e⟩
                have HRn := hide hrun
                have HB7 := hide hB7
                clear hq hrun hO7 hg7 hd7 hv7 hB7 HOr HElr HB5r HO HBx
                go_wp2_with (at_builtin; refine wpList_append_run rfl (.tmp 103) (.tmp 105) 63 rfl _ _ _ _ rfl rfl HRn.out ?_)
                go_roundg (ms.length - (p + 1))
                case measure => omega
                case rel => exact ⟨p + 1, by omega, by go_num, HO7, HOk7, HB7⟩
              · have HO7 : Hid ((envK 20).own 32 wb.heap.size wr (.slice oa' on' oc') ((ms.take (p + 1)).filter fun l => !barredB pick 0 body l)) := by
                  show (envK _).own _ _ _ _ _
                  rw [HTk.out, List.filter_append]
                  simp only [List.filter_cons, hq, Bool.not_true, Bool.false_eq_true, if_false, List.filter_nil, List.append_nil]
                  exact HOr.out
                clear hq HOr HElr HO HBx
                go_wp2
                go_roundg (ms.length - (p + 1))
                case measure => omega
                case rel => exact ⟨p + 1, by omega, by go_num, HO7, HOk, HB5r⟩
        · have hp' : ms.take p = ms := List.take_of_length_le (by omega)
          have hO := HO.out
          rw [hp'] at hO
          have hlen2 : (ms.filter fun l => !barredB pick 0 body l).length ≤ 20000 := Nat.le_trans (List.length_filter_le _ _) hml
          have HS := hide (Kind.sl_any (Kind.own_sl hO (by omega)))
          have HBw := hide (below_trans HLb.out.below (below_trans HBr.out HB5.out HBr.out.size) HLb.out.size)
          clear hO hp' HO HOk
          go_wp2
          exact bodyPost_ret (v := .tuple #[.slice oa' on' oc', .int .i64 0]) (by simp [results, Tryz.results23, go_sem]) rfl ⟨_, 0, rfl, by rw [HMs.out]; exact ⟨rfl, HS.out⟩, HBw.out⟩

end Go.Proofs.YtkijmalapjiopaaGreat
