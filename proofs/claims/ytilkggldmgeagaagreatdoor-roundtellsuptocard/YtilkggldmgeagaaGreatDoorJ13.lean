/- Texts of this claim, one behind the other. -/
import Derived.Test.YtilkggldmgeagaaGreatDoorJ3
import Derived.Test.YtilkggldmgeagaaGreatDoorJ6
import Derived.Test.YtilkggldmgeagaaGreatDoorJ4
import Derived.Shelf.SlSortCmp.QuietGrown
import Derived.Test.YtilkggldmgeagaaGreatDoorJ7
import Derived.Deep.RegionWith
import Derived.Laws.EntriesVeiled
import Derived.Test.YtilkggldmgeagaaGreatDoorJ12
/- What all that follows is good for, plain: no rule makes anything more; each fact was told, or is made of what is there; told more there is no less; rules in whatever order. Nothing of the program. -/
namespace Go.Proofs.YtilkggldmgeagaaGreatDoor

theorem heads_mem {r : RuleD} {fs x : List FactB} (hc : Covers r.body) (h : headsP r fs = some x) (f : FactB) : f ∈ x ↔ ∃ env, FitsB (fun _ => fs) r.body env ∧ fillB r.head env = some f := by
  unfold headsP at h
  cases e : allB (fun _ => fs) r.body with
  | none => rw [e] at h; cases h
  | some R =>
    rw [e] at h
    cases h
    rw [mem_setF, List.mem_filterMap]
    exact ⟨fun ⟨l, hl, hf⟩ => ⟨l, (all_mem hc e l).1 hl, hf⟩, fun ⟨l, hl, hf⟩ => ⟨l, (all_mem hc e l).2 hl, hf⟩⟩

theorem fill_name {a : AtomD} {l : List BindD} {f : FactB} (h : fillB a l = some f) : f.1 = bs a.name ∧ fillArgs l a.terms = some f.2 := by
  unfold fillB at h
  cases e : fillArgs l a.terms with
  | none => rw [e] at h; cases h
  | some r => rw [e] at h; cases h; exact ⟨rfl, rfl⟩

def RightF (f : FactB) : Prop := isNamed (raw f.1) = true ∧ f.2.length ≤ 4 ∧ ∀ s ∈ f.2, isNamed (raw s) = true

theorem fillArgs_to {l : List BindD} : ∀ {ts : List TermD} {r : List ByteArray}, fillArgs l ts = some r → ∀ t ∈ ts, ∃ u ∈ r, worthB l t = some u
  | [], _, _ => fun _ h => by cases h
  | t :: ts, r, h => fun u hu => by
    simp only [fillArgs] at h
    cases e : worthB l t with
    | none => rw [e] at h; cases h
    | some s =>
      rw [e] at h
      dsimp only at h
      cases e2 : fillArgs l ts with
      | none => rw [e2] at h; cases h
      | some q =>
        rw [e2] at h
        cases h
        rcases List.mem_cons.1 hu with rfl | hu
        · exact ⟨s, by simp, e⟩
        · obtain ⟨v, hv, hw⟩ := fillArgs_to e2 u hu
          exact ⟨v, by simp [hv], hw⟩

theorem fillArgs_from {l : List BindD} : ∀ {ts : List TermD} {r : List ByteArray}, fillArgs l ts = some r → ∀ u ∈ r, ∃ t ∈ ts, worthB l t = some u
  | [], _, h => fun _ hu => by cases h; cases hu
  | t :: ts, r, h => fun u hu => by
    simp only [fillArgs] at h
    cases e : worthB l t with
    | none => rw [e] at h; cases h
    | some s =>
      rw [e] at h
      dsimp only at h
      cases e2 : fillArgs l ts with
      | none => rw [e2] at h; cases h
      | some q =>
        rw [e2] at h
        cases h
        rcases List.mem_cons.1 hu with rfl | hu
        · exact ⟨t, by simp, e⟩
        · obtain ⟨v, hv, hw⟩ := fillArgs_from e2 u hu
          exact ⟨v, by simp [hv], hw⟩

theorem env_right {fs : List FactB} {body : List AtomD} {env : List BindD} (hr : ∀ f ∈ fs, RightF f) (h : FitsB (fun _ => fs) body env) {v s : ByteArray} (hg : getB env v = some s) : isNamed (raw s) = true := by
  obtain ⟨_, _, h3, h4⟩ := h
  have hk0 : v ∈ keysB env := List.mem_map.2 ⟨_, getB_mem hg, rfl⟩
  obtain ⟨k, hk, rfl⟩ := List.mem_map.1 ((h3 v).1 hk0)
  rcases (mem_posVars body).1 hk with hk | ⟨a, ha, hno, t, ht, ht1, rfl⟩
  · cases hk
  obtain ⟨f, hf, hi⟩ := SoB_const.1 h4 a ha
  rw [hno] at hi
  obtain ⟨u, hu, hw⟩ := fillArgs_to (fill_name hf).2 t ht
  unfold worthB at hw
  rw [if_pos ht1, hg] at hw
  cases hw
  exact (hr f (inB_iff.1 hi)).2.2 _ hu

theorem atom_zero {a : AtomD} (h : wrongAtom a = 0) : isNamed a.name = true ∧ a.terms.length ≤ 4 ∧ ∀ t ∈ a.terms, wrongTerm t = false := by
  unfold wrongAtom at h
  split at h
  · cases h
  · rename_i h1
    split at h
    · cases h
    · rename_i h2
      split at h
      · cases h
      · rename_i h3
        refine ⟨by simpa using h1, by omega, fun t ht => ?_⟩
        cases e : wrongTerm t with
        | false => rfl
        | true => exact absurd (List.any_eq_true.2 ⟨t, ht, e⟩) h3

theorem head_right {r : RuleD} {fs : List FactB} {env : List BindD} {f : FactB} (hR : RightR r) (hr : ∀ f ∈ fs, RightF f) (h : FitsB (fun _ => fs) r.body env) (hf : fillB r.head env = some f) :
    RightF f ∧ f.1 = bs r.head.name ∧ f.2.length = r.head.terms.length := by
  obtain ⟨h1, h2⟩ := fill_name hf
  obtain ⟨h3, h4, h5⟩ := atom_zero hR.head
  have hl := fillArgs_len h2
  refine ⟨⟨by rw [h1, raw_bs]; exact h3, by omega, fun s hs => ?_⟩, h1, hl⟩
  obtain ⟨t, ht, hw⟩ := fillArgs_from h2 s hs
  unfold worthB at hw
  split at hw
  · exact env_right hr h hw
  · rename_i ht1
    cases hw
    have := h5 t ht
    unfold wrongTerm at this
    rw [if_neg ht1] at this
    rw [raw_bs]
    simpa using this

structure GoodS (p : List RuleD) (L : List FactB) : Prop where
  up : Up L
  right : ∀ f ∈ L, RightF f
  few : L.length ≤ 200
  fit : ∀ f ∈ L, fitF p f = true

theorem fitF_iff {p : List RuleD} {f : FactB} : fitF p f = true ↔ ∀ a ∈ atomsP p, bs a.name = f.1 → a.terms.length = f.2.length := by
  unfold fitF atomsP
  simp only [List.all_eq_true, Bool.or_eq_true, Bool.not_eq_true', decide_eq_false_iff_not, decide_eq_true_eq, List.mem_flatMap]
  constructor
  · rintro h a ⟨r, hr, ha⟩ e
    exact (h r hr a ha).resolve_left fun hn => hn e
  · intro h r hr a ha
    by_cases e : bs a.name = f.1
    · exact Or.inr (h a ⟨r, hr, ha⟩ e)
    · exact Or.inl e

theorem head_fit {p : List RuleD} (hp : RightP p) {r : RuleD} (hr : r ∈ p) {f : FactB} (h1 : f.1 = bs r.head.name) (h2 : f.2.length = r.head.terms.length) : fitF p f = true :=
  fitF_iff.2 fun a ha e => by
    rw [h2]
    exact hp.even a ha r.head (List.mem_flatMap.2 ⟨r, hr, by simp⟩) (bs_inj (e.trans h1))

theorem covers_right {r : RuleD} (h : RightR r) : Covers r.body := covers_of h.body



inductive Walks (p : List RuleD) (ss : List Nat) (n : Int) : List FactB → List FactB → Prop
  | stop {L : List FactB} : onceP p ss n L = (0, L) → Walks p ss n L L
  | go {L L' M : List FactB} : onceP p ss n L = (0, L') → Walks p ss n L' M → Walks p ss n L M


structure Way (p : List RuleD) (τ : Bs → Nat) (l : List FactB) (n m : Nat) (L : List FactB) : Prop where
  told : ∀ f ∈ l, f ∈ L
  of : ∀ f ∈ L, f ∉ l → ∃ r ∈ p, τ r.head.name < m ∧ f.1 = bs r.head.name
  closed : ∀ r ∈ p, τ r.head.name < n → ∀ env f, FitsB (fun _ => L) r.body env → fillB r.head env = some f → f ∈ L
  made : ∀ f ∈ L, f ∉ l → ∃ r ∈ p, τ r.head.name < m ∧ ∃ env, FitsB (fun _ => L) r.body env ∧ fillB r.head env = some f



end Go.Proofs.YtilkggldmgeagaaGreatDoor

/- The walks of slices.BinarySearchFunc at facts, fact.among and its closure, fact.In. -/
namespace Go.Proofs.YtilkggldmgeagaaGreatDoor
open Go.RowKit Go.Sort

theorem mixed : Tryz.prog.follows .mixedOrders = true := by kernel_rfl

theorem Facts.grown {w : World} {b off n cap : Nat} {l : List FactD} (h : Facts w (.slice (some ⟨b, off, none⟩) n cap) l) {k : Nat} (hk : k < l.length) :
    ∃ a len c, (∀ q os, (grow (w.drewN q) os).cell? ⟨b, off + k * 2, none⟩ = some (.string (l.getD k noFact).1)) ∧ (∀ q os, (grow (w.drewN q) os).cell? ⟨b, off + k * 2 + 1, none⟩ = some (.slice a len c)) ∧ FactV w (.agg #[.string (l.getD k noFact).1, .slice a len c]) (l.getD k noFact) := by
  obtain ⟨hb, a, len, c, g1, g2, hf⟩ := h.at hk
  exact ⟨a, len, c, fun q os => by rw [Later.cell ⟨q, os, rfl⟩ (p := ⟨b, off + k * 2, none⟩) hb]; exact g1, fun q os => by rw [Later.cell ⟨q, os, rfl⟩ (p := ⟨b, off + k * 2 + 1, none⟩) hb]; exact g2, hf⟩

theorem inFrom_iff {l : List FactD} {f : FactD} : inFrom l f 0 = true ↔ f ∈ l := by
  unfold inFrom
  rw [List.drop_zero, List.any_eq_true]
  exact ⟨fun ⟨x, h1, h2⟩ => by rw [sameF_iff.1 h2] at h1; exact h1, fun h => ⟨f, h, sameF_iff.2 rfl⟩⟩

theorem meet {l : List FactD} {g : FactD} (hr : Rises l) {m : Nat} (hm : m ≤ l.length) (ha : ∀ t, t < m → cmpF (l.getD t noFact) g < 0) (hb : ∀ t, m ≤ t → t < l.length → 0 ≤ cmpF (l.getD t noFact) g) :
    inFrom l g 0 = (decide (m < l.length) && decide (cmpF (l.getD m noFact) g = 0)) := by
  rw [Bool.eq_iff_iff, inFrom_iff, Bool.and_eq_true, decide_eq_true_eq, decide_eq_true_eq]
  constructor
  · intro h
    obtain ⟨t, ht, rfl⟩ := List.getElem_of_mem h
    have e : l.getD t noFact = l[t] := by rw [List.getD_eq_getElem?_getD, List.getElem?_eq_getElem ht]; rfl
    have h1 : m ≤ t := Nat.not_lt.1 fun n => by have := ha t n; rw [e, three_cmpF.refl] at this; omega
    have h2 : m = t := by
      refine Classical.byContradiction fun n => ?_
      have h3 := List.pairwise_iff_getElem.1 hr m t (by omega) ht (by omega)
      have h4 := hb m (Nat.le_refl _) (by omega)
      rw [List.getD_eq_getElem?_getD, List.getElem?_eq_getElem (by omega)] at h4
      have h5 : (0 : Int) ≤ cmpF l[m] l[t] := h4
      omega
    subst h2
    exact ⟨ht, by rw [e, three_cmpF.refl]⟩
  · rintro ⟨h1, h2⟩
    rw [← three_cmpF.zero _ _ h2, List.getD_eq_getElem?_getD, List.getElem?_eq_getElem h1]
    exact List.getElem_mem h1

theorem ret_two {x : Value} {a b : Bool} (h : a = b) : Ending.returned (.tuple #[x, .bool a]) = .returned (.tuple #[x, .bool b]) := by rw [h]

theorem cell_later {w w' : World} (hL : Later w w') {p : Addr} {v : Value} (hb : p.block < w.heap.size) (h : w.cell? p = some v) : ∀ q os, (grow (w'.drewN q) os).cell? p = some v := fun q os => by
  rw [(hL.trans ⟨q, os, rfl⟩).cell hb]; exact h

set_option maxHeartbeats 1000000 in
theorem search (v t : Value) (l : List FactD) (g : FactD) (w : World) (hf : Facts w v l) (ht : FactV w t g) (hr : Rises l) :
    Calls Tryz.prog 79 #[v, t, .func (.func 60) #[] #[]] w fun e w' => ∃ n : Int, e = .returned (.tuple #[.int .i64 n, .bool (inFrom l g 0)]) ∧ Later w w' := by
  have mx := mixed
  have HF := hide hf
  have HT := hide ht
  have HR := hide hr
  obtain ⟨a, cap, rfl, hn, hz⟩ := hf.addr
  obtain ⟨s2, rfl, l2, a2, c2, rfl, _⟩ := ht
  clear hf hr
  go_enter Tryz.func79, Tryz.ntmps79
  go_wp2
  go_loopw [9, 10] (fun i j wr => ∃ lo hi : Nat, lo ≤ hi ∧ hi ≤ l.length ∧ i = .int .i64 lo ∧ j = .int .i64 hi ∧ Later (w.alloc (.cells #[.string g.1, .slice a2 g.2.length c2] 50)) wr ∧ Hid (∀ t, t < lo → cmpF (l.getD t noFact) g < 0) ∧ Hid (∀ t, hi ≤ t → t < l.length → 0 ≤ cmpF (l.getD t noFact) g)) (fun i j _ => (intOf j).toNat - (intOf i).toNat)
  case atStart => exact ⟨0, l.length, by omega, by omega, rfl, rfl, Later.refl _, fun t ht => absurd ht (Nat.not_lt_zero _), fun t h1 h2 => by omega⟩
  case round =>
    obtain ⟨lo, hi, hlh, hin, rfl, rfl, hL, HA, HB⟩ := hrel
    have hL0 : Later w wr := ((Later.refl _).alloc _).trans hL
    have z0 := cell_later hL (p := ⟨w.heap.size, 0, none⟩) (v := .string g.1) (by simp) (by simp)
    have z1 := cell_later hL (p := ⟨w.heap.size, 1, none⟩) (v := .slice a2 g.2.length c2) (by simp) (by simp)
    by_cases hlt : lo < hi
    · rcases hz with rfl | ⟨b, off, rfl⟩
      · simp at hin; omega
      obtain ⟨m, hm⟩ : ∃ m, m = (lo + hi) / 2 := ⟨_, rfl⟩
      have hml : m < l.length := by omega
      have hlm : lo ≤ m := by omega
      have hmh : m < hi := by omega
      have em : ((lo : Int) + (hi : Int)) / 2 = (m : Int) := by omega
      clear hm
      have hltz : (lo : Int) < (hi : Int) := by omega
      have hmz : (m : Int) < (l.length : Int) := by omega
      obtain ⟨ax, lx, cx, g1, g2, fx⟩ := (HF.out.later hL0).grown hml
      have hC : ∀ q os, Calls Tryz.prog 60 #[.agg #[.string (l.getD m noFact).1, .slice ax lx cx], .agg #[.string g.1, .slice a2 g.2.length c2]] (grow (wr.drewN q) os) fun e w'' => e = .returned (.int .i64 (cmpF (l.getD m noFact) g)) ∧ Later (grow (wr.drewN q) os) w'' :=
        fun q os => compareF _ _ _ _ _ (fx.later ⟨q, os, rfl⟩) ((HT.out.later hL0).later ⟨q, os, rfl⟩)
      have HC := hide hC
      clear hC fx
      have hlow := HR.out
      have hstep1 : cmpF (l.getD m noFact) g < 0 → ∀ t, t < m + 1 → cmpF (l.getD t noFact) g < 0 := fun h t ht => by
        by_cases e : t = m
        · rw [e]; exact h
        · have h3 := List.pairwise_iff_getElem.1 hlow t m (by omega) hml (by omega)
          refine three_cmpF.trans _ (l.getD m noFact) _ ?_ h
          rw [List.getD_eq_getElem?_getD, List.getElem?_eq_getElem (by omega), List.getD_eq_getElem?_getD, List.getElem?_eq_getElem hml]
          exact h3
      have hstep2 : 0 ≤ cmpF (l.getD m noFact) g → ∀ t, m ≤ t → t < l.length → 0 ≤ cmpF (l.getD t noFact) g := fun h t h1 h2 => by
        by_cases e : t = m
        · rw [e]; exact h
        · have h3 := List.pairwise_iff_getElem.1 hlow m t (by omega) h2 (by omega)
          refine Int.not_lt.1 fun n => ?_
          have h4 := three_cmpF.trans (l.getD m noFact) (l.getD t noFact) g (by
            rw [List.getD_eq_getElem?_getD, List.getElem?_eq_getElem (by omega), List.getD_eq_getElem?_getD, List.getElem?_eq_getElem h2]
            exact h3) n
          omega
      have H1 := hide hstep1
      have H2 := hide hstep2
      clear hstep1 hstep2 hlow
      generalize hcm : cmpF (l.getD m noFact) g = cm at *
      have HCM := hide hcm
      clear hcm
      generalize (l.getD m noFact).1 = nm at *
      by_cases hneg : cm < 0
      · go_wp2
        go_quiet_grown ((go_at_call 60; exact Calls.grown_of (HC.out _ _)))
        go_wp2
        go_roundw
        case rel => exact ⟨m + 1, hi, by omega, hin, by go_num, rfl, hL.trans ⟨_, _, rfl⟩, H1.out hneg, HB⟩
        case measure => simp [intOf]; omega
      · go_wp2
        go_quiet_grown ((go_at_call 60; exact Calls.grown_of (HC.out _ _)))
        go_wp2
        go_roundw
        case rel => exact ⟨lo, m, by omega, by omega, rfl, rfl, hL.trans ⟨_, _, rfl⟩, HA, H2.out (by omega)⟩
        case measure => simp [intOf]; omega
    · obtain rfl : lo = hi := by omega
      have hfin := meet HR.out hin HA.out HB.out
      by_cases hll : lo < l.length
      · rcases hz with rfl | ⟨b, off, rfl⟩
        · simp at hll
        have hmz : (lo : Int) < (l.length : Int) := by omega
        obtain ⟨ax, lx, cx, g1, g2, fx⟩ := (HF.out.later hL0).grown hll
        have hC : ∀ q os, Calls Tryz.prog 60 #[.agg #[.string (l.getD lo noFact).1, .slice ax lx cx], .agg #[.string g.1, .slice a2 g.2.length c2]] (grow (wr.drewN q) os) fun e w'' => e = .returned (.int .i64 (cmpF (l.getD lo noFact) g)) ∧ Later (grow (wr.drewN q) os) w'' :=
          fun q os => compareF _ _ _ _ _ (fx.later ⟨q, os, rfl⟩) ((HT.out.later hL0).later ⟨q, os, rfl⟩)
        have HC := hide hC
        rw [decide_eq_true hll] at hfin
        have HFN := hide hfin
        clear hC fx hfin
        generalize hcm : cmpF (l.getD lo noFact) g = cm at *
        generalize (l.getD lo noFact).1 = nm at *
        have HCM := hide hcm
        clear hcm
        go_wp2
        go_quiet_grown ((go_at_call 60; exact Calls.grown_of (HC.out _ _)))
        go_wp2
        go_ret2
        exact ⟨(lo : Int), ret_two (by rw [HFN.out, Bool.true_and, Bool.eq_iff_iff]; simp), hL0.trans ⟨_, _, rfl⟩⟩
      · rw [decide_eq_false hll] at hfin
        have HFN := hide hfin
        clear hfin
        have hd : decide ((lo : Int) < (l.length : Int)) = false := by rw [decide_eq_false_iff_not]; omega
        go_wp2
        go_quiet (fail)
        go_wp2
        go_ret2
        exact ⟨(lo : Int), ret_two (by rw [HFN.out]; rfl), hL0.drewN _⟩

end Go.Proofs.YtilkggldmgeagaaGreatDoor

/- The walks of fact.among and its closure, fact.In, fact.Less. -/
namespace Go.Proofs.YtilkggldmgeagaaGreatDoor
open Go.RowKit Go.Sort

set_option maxHeartbeats 400000 in
theorem among (a : Option Addr) (n cap : Nat) (w : World) : Calls Tryz.prog 61 #[.slice a n cap] w fun e w' =>
    e = .returned (.func (.func 78) #[] #[.pointer (some ⟨w.heap.size, 0, none⟩)]) ∧ w' = w.alloc (.cells #[.slice a n cap] 24) := by
  go_enter Tryz.func61, Tryz.ntmps61
  go_wp2
  go_ret
  exact ⟨rfl, rfl⟩

set_option maxHeartbeats 400000 in
theorem among1 (c : Nat) (v t : Value) (l : List FactD) (g : FactD) (w : World) (hc : w.cell? ⟨c, 0, none⟩ = some v) (hb : c < w.heap.size) (hf : Facts w v l) (ht : FactV w t g) (hr : Rises l) :
    Calls Tryz.prog 78 #[t, .pointer (some ⟨c, 0, none⟩)] w fun e w' => e = .returned (.bool (inFrom l g 0)) ∧ Later w w' := by
  have hS := fun w' (hw : Later w w') => search v t l g w' (hf.later hw) (ht.later hw) hr
  have HS := hide hS
  obtain ⟨a, cap, rfl⟩ := sliceFacts hf
  obtain ⟨s2, rfl, l2, a2, c2, rfl, _⟩ := ht
  clear hS hf hr
  go_enter Tryz.func78, Tryz.ntmps78
  go_wp2_with (go_at_call 79; refine (HS.out _ ((Later.refl _).alloc _)).mono ?_; rintro e w1 ⟨n, rfl, hL⟩)
  go_ret
  exact ⟨rfl, ((Later.refl _).alloc _).trans hL⟩

set_option maxHeartbeats 1000000 in
theorem inC (v t : Value) (l : List FactD) (g : FactD) (w : World) (hf : Facts w v l) (ht : FactV w t g) (hr : Rises l) :
    Calls Tryz.prog 133 #[v, t] w fun e w' => e = .returned (.bool (inFrom l g 0)) ∧ Later w w' := by
  have hA := fun c w' hc hb (hw : Later w w') => among1 c v t l g w' hc hb (hf.later hw) (ht.later hw) hr
  have HA := hide hA
  obtain ⟨a, cap, rfl⟩ := sliceFacts hf
  obtain ⟨s2, rfl, l2, a2, c2, rfl, _⟩ := ht
  clear hA hf hr
  go_enter Tryz.func133, Tryz.ntmps133
  go_wp2
  go_region_with (first
    | (go_at_call 61; refine (among _ _ _ _).mono ?_; rintro e w1 ⟨rfl, rfl⟩)
    | (go_at_call 78; refine (HA.out (w.heap.size + 1) _ (by simp) (by simp) (by repeat (first | exact Later.refl _ | assumption | refine Later.drewN ?_ _ | refine Later.drew ?_ | refine Later.alloc ?_ _ | refine Later.grow ?_ _))).mono ?_; rintro e w2 ⟨rfl, hL⟩))
  all_goals
    go_wp2
    go_ret
    exact ⟨rfl, Later.trans (by repeat (first | exact Later.refl _ | assumption | refine Later.drewN ?_ _ | refine Later.drew ?_ | refine Later.alloc ?_ _ | refine Later.grow ?_ _)) hL⟩

set_option maxHeartbeats 400000 in
theorem less1 (c d : Nat) (v t : Value) (l : List FactD) (g : FactD) (w : World) (hc : w.cell? ⟨c, 0, none⟩ = some v) (hb : c < w.heap.size) (hd : w.cell? ⟨d, 0, none⟩ = some (.func (.func 78) #[] #[.pointer (some ⟨c, 0, none⟩)])) (hdb : d < w.heap.size) (hf : Facts w v l) (ht : FactV w t g) (hr : Rises l) :
    Calls Tryz.prog 62 #[t, .pointer (some ⟨d, 0, none⟩)] w fun e w' => e = .returned (.bool (!inFrom l g 0)) ∧ Later w w' := by
  have hA := fun w' (hw : Later w w') => among1 c v t l g w' (by rw [hw.cell (p := ⟨c, 0, none⟩) hb]; exact hc) (Nat.lt_of_lt_of_le hb hw.size) (hf.later hw) (ht.later hw) hr
  have HA := hide hA
  obtain ⟨s2, rfl, l2, a2, c2, rfl, _⟩ := ht
  clear hA hf hr hc
  generalize inFrom l g 0 = r at *
  go_enter Tryz.func62, Tryz.ntmps62
  go_wp2_with (go_at_call 78; refine (HA.out _ ((Later.refl _).alloc _)).mono ?_; rintro e w1 ⟨rfl, hL⟩)
  go_ret
  exact ⟨rfl, ((Later.refl _).alloc _).trans hL⟩

set_option maxHeartbeats 400000 in
theorem lessC (va vb : Value) (la lb : List FactD) (w : World) (ha : Facts w va la) (hb : Facts w vb lb) (hr : Rises lb) :
    Calls Tryz.prog 39 #[va, vb] w fun e w' => ∃ v', e = .returned v' ∧ OwnF w' w.heap.size v' (la.filter fun f => !inFrom lb f 0) ∧ Later w w' := by
  have HA := hide ha
  have HB := hide hb
  have HR := hide hr
  obtain ⟨a1, c1, rfl⟩ := sliceFacts ha
  obtain ⟨a2, c2, rfl⟩ := sliceFacts hb
  clear ha hb hr
  go_enter Tryz.func39, Tryz.ntmps39
  go_wp2_with (go_at_call 61; refine (among _ _ _ _).mono ?_; rintro e w1 ⟨rfl, rfl⟩)
  have hL : Later w ((w.alloc (.cells #[.slice a2 lb.length c2] 24)).alloc (.cells #[.func (.func 78) #[] #[.pointer (some ⟨w.heap.size, 0, none⟩)]] 67)) := (by repeat (first | exact Later.refl _ | assumption | refine Later.drewN ?_ _ | refine Later.drew ?_ | refine Later.alloc ?_ _ | refine Later.grow ?_ _))
  have hz : w.heap.size + 1 < ((w.alloc (.cells #[.slice a2 lb.length c2] 24)).alloc (.cells #[.func (.func 78) #[] #[.pointer (some ⟨w.heap.size, 0, none⟩)]] 67)).heap.size := by simp
  have y0 : ((w.alloc (.cells #[.slice a2 lb.length c2] 24)).alloc (.cells #[.func (.func 78) #[] #[.pointer (some ⟨w.heap.size, 0, none⟩)]] 67)).cell? ⟨w.heap.size, 0, none⟩ = some (.slice a2 lb.length c2) := by simp
  have y1 : ((w.alloc (.cells #[.slice a2 lb.length c2] 24)).alloc (.cells #[.func (.func 78) #[] #[.pointer (some ⟨w.heap.size, 0, none⟩)]] 67)).cell? ⟨w.heap.size + 1, 0, none⟩ = some (.func (.func 78) #[] #[.pointer (some ⟨w.heap.size, 0, none⟩)]) := by simp
  generalize ((w.alloc (.cells #[.slice a2 lb.length c2] 24)).alloc (.cells #[.func (.func 78) #[] #[.pointer (some ⟨w.heap.size, 0, none⟩)]] 67)) = W at *
  refine (keep 62 #[.pointer (some ⟨w.heap.size + 1, 0, none⟩)] enters_less1 W.heap.size W.heap.size W W _ la (fun k => !inFrom lb (la.getD k noFact) 0) (fun _ _ => True) (HA.out.later hL) (Later.refl _) (Nat.le_refl _) (Nat.le_refl _)
    ⟨fun k w' t hk hw _ _ hf => (less1 w.heap.size (w.heap.size + 1) _ t lb (la.getD k noFact) w' (by rw [hw.cell (p := ⟨w.heap.size, 0, none⟩) (by show w.heap.size < _; omega)]; exact y0) (by have := hw.size; omega)
        (by rw [hw.cell (p := ⟨w.heap.size + 1, 0, none⟩) hz]; exact y1) (by have := hw.size; omega) ((HB.out.later hL).later hw) (hf.later hw) HR.out).mono fun e w'' ⟨he, hL'⟩ => ⟨he, hL'.only, trivial⟩,
      fun _ _ _ _ _ _ => trivial⟩ trivial).mono ?_
  rintro e w1 ⟨v', rfl, hO, hW, _⟩
  have e := pick_filter (fun f => !inFrom lb f 0) la la.length (Nat.le_refl _)
  rw [List.take_length] at e
  rw [e] at hO
  have HO := hide hO
  clear hO e
  go_wp2
  go_ret
  exact ⟨v', rfl, HO.out.base hL.size, hL.trans (hW.later (Later.refl _) (Nat.le_refl _))⟩

end Go.Proofs.YtilkggldmgeagaaGreatDoor

/- The walks of match.barred and of match.With's closure. -/
namespace Go.Proofs.YtilkggldmgeagaaGreatDoor
open Go.RowKit Go.Sort Go.Maps

theorem in_eq (l : List FactD) (f : FactD) : inFrom l f 0 = inB l f := by
  rw [Bool.eq_iff_iff, inFrom_iff, inB_iff]

def barOne (fs : List FactD) (a : AtomD) (l : List BindD) : Bool := match fillB a l with
  | some f => inB fs f
  | none => false

theorem barredB_step {pick : Nat → List FactB} {body : List AtomD} {j : Nat} {a : AtomD} (h : body[j]? = some a) (l : List BindD) : barredB pick j (body.drop j) l = ((a.no && barOne (pick j) a l) || barredB pick (j + 1) (body.drop (j + 1)) l) := by
  obtain ⟨h1, e1⟩ := List.getElem?_eq_some_iff.1 h
  rw [List.drop_eq_getElem_cons h1, e1]; rfl

set_option maxRecDepth 100000 in
set_option maxHeartbeats 4000000 in
theorem barredC (body : List AtomD) (v u : Value) (l : List BindD) (g : Nat) (cb : Array Value) (eg : ∀ args w, (callFunc g args).run Tryz.prog w = .ok (.enter g args) w) (pick : Nat → List FactD) (w : World) (hv : atomK.sl Anyw w v body) (hu : bindK.sl Anyw w u l) (hp : Picks g cb pick w.heap.size w) (hb : body.length ≤ 5) (hr : ∀ n, Rises (pick n)) :
    Calls Tryz.prog 113 #[v, .func (.func g) #[] cb, u] w fun e w' => e = .returned (.bool (barredB pick 0 body l)) ∧ Later w w' := by
  obtain ⟨sa, cap, rfl⟩ := Kind.slice hv
  obtain ⟨ua, ucap, rfl⟩ := Kind.slice hu
  have HV := hide hv
  have HU := hide hu
  have HP := hide hp
  have HR := hide hr
  clear hv hu hp hr
  generalize hR : barredB pick 0 body l = R at *
  have H0 : Hid (R = barredB pick 0 (body.drop 0) l) := hR.symm
  clear hR
  go_enter Tryz.func113, Tryz.ntmps113
  go_wp2
  go_loopg [13] body.length (fun gg i wr => ∃ j : Nat, j + gg = body.length ∧ i = .int .i64 j ∧ Hid (R = barredB pick j (body.drop j) l) ∧ Hid (Later w wr))
  case atStart => exact ⟨0, by omega, rfl, H0, ((by repeat (first | exact Later.refl _ | assumption | refine Later.drewN ?_ _ | refine Later.drew ?_ | refine Later.alloc ?_ _ | refine Later.grow ?_ _)) : Later _ _)⟩
  case round =>
    obtain ⟨j, hj, rfl, HE, HL⟩ := hrel
    by_cases hlt : j < body.length
    · obtain ⟨a, hx⟩ : ∃ x, body[j]? = some x := ⟨_, List.getElem?_eq_getElem hlt⟩
      obtain ⟨b1, o1, _, rfl, hb1, ⟨sv, rfl, hsv⟩, hc⟩ := Kind.sl_at HV.out hx
      have d0 : wr.cell? ⟨b1, o1 + j * 3, none⟩ = some (.bool a.no) := by rw [HL.out.cell hb1]; exact hc 0 _ rfl
      have d1 : wr.cell? ⟨b1, o1 + j * 3 + 1, none⟩ = some (.string (bs a.name)) := by rw [HL.out.cell hb1]; exact hc 1 _ rfl
      have d2 : wr.cell? ⟨b1, o1 + j * 3 + 2, none⟩ = some sv := by rw [HL.out.cell hb1]; exact hc 2 _ rfl
      have hbr : b1 < wr.heap.size := Nat.lt_of_lt_of_le hb1 HL.out.size
      have HS := hide (barredB_step (pick := pick) hx l)
      obtain ⟨sva, svc, rfl⟩ := Kind.slice hsv
      have HSV := hide hsv
      clear hc hx hsv
      cases hno : a.no
      · have HS1 : Hid (R = barredB pick (j + 1) (body.drop (j + 1)) l) := by
          show _ = _
          rw [HE.out, HS.out, hno]; rfl
        rw [hno] at d0
        clear HE HS hno
        generalize bs a.name = nm at *
        go_wp2
        go_roundg (body.length - (j + 1))
        case measure => omega
        case rel => exact ⟨j + 1, by omega, by go_num, HS1, HL.out.alloc _⟩
      · have HS1 : Hid (R = (barOne (pick j) a l || barredB pick (j + 1) (body.drop (j + 1)) l)) := by
          show _ = _
          rw [HE.out, HS.out, hno]; rfl
        rw [hno] at d0
        have hLt : Later w (wr.alloc (.cells #[.bool true, .string (bs a.name), .slice sva a.terms.length svc] 54)) := HL.out.alloc _
        have HFc := hide (fillC a _ (.slice ua l.length ucap) l (wr.alloc (.cells #[.bool true, .string (bs a.name), .slice sva a.terms.length svc] 54)) (Kind.sl_later HSV.out hLt) (Kind.sl_later HU.out hLt))
        rw [hno] at HFc
        have hbo : barOne (pick j) a l = match fillB a l with | some f => inB (pick j) f | none => false := rfl
        unfold filled at HFc
        have HLt := hide hLt
        clear HE HS hLt hno
        cases hf : fillB a l with
        | none =>
          rw [hf] at HFc hbo
          have HS2 : Hid (R = barredB pick (j + 1) (body.drop (j + 1)) l) := by show _ = _; rw [HS1.out, hbo]; rfl
          simp only [Option.isSome_none, Option.getD_none] at HFc
          clear HS1 hbo hf
          generalize bs a.name = nm at *
          go_wp2_with fail
          refine HFc.out.mono ?_
          rintro e w2 ⟨fv, rfl, hfv, hL2⟩
          obtain ⟨s, rfl, hs⟩ := hfv
          obtain ⟨sA, sC, rfl⟩ := sliceStr hs
          have HL2 := hide (HLt.out.trans hL2)
          clear hs hL2 HFc
          go_wp2
          refine wp_region_held_drew (S := fun w' => Later w w') (by kernel_rfl) ((HL2.out.alloc _).drew) (fun hHeld => ?_)
          refine take_yes (i := 0) (d := some 27) (v := ?_) rfl rfl hHeld ?_ ?_; rotate_left; focus intro w hSw; (try dsimp only at hSw);  go_simp; try with_reducible rfl
          simp only [aput, aset, aze, asu]
          refine take_yes (i := 1) (d := some 28) (v := ?_) rfl rfl hHeld ?_ ?_; rotate_left; focus intro w hSw; (try dsimp only at hSw);  go_simp; try with_reducible rfl
          simp only [aput, aset, aze, asu]
          refine take_no (i := 2) (d := some 29) rfl rfl hHeld ?_; simp only [aput, aset, aze, asu]
          refine take_no (i := 3) (d := some 30) rfl rfl hHeld ?_; simp only [aput, aset, aze, asu]
          refine take_no (i := 4) (d := some 31) rfl rfl hHeld ?_; simp only [aput, aset, aze, asu]
          refine take_no (i := 5) (d := some 32) rfl rfl hHeld ?_; simp only [aput, aset, aze, asu]
          refine take_no (i := 6) (d := some 33) rfl rfl hHeld ?_; simp only [aput, aset, aze, asu]
          refine take_yes (i := 7) (d := some 34) (v := ?_) rfl rfl hHeld ?_ ?_; rotate_left; focus intro w hSw; (try dsimp only at hSw);  go_simp; try with_reducible rfl
          simp only [aput, aset, aze, asu]
          refine wpAnyH_done (by kernel_rfl) ?_ _
          go_wp2
          go_roundg (body.length - (j + 1))
          case measure => omega
          case rel => exact ⟨j + 1, by omega, by go_num, HS2, hHeld⟩
        | some f =>
          rw [hf] at HFc hbo
          have HS2 : Hid (R = (inFrom (pick j) f 0 || barredB pick (j + 1) (body.drop (j + 1)) l)) := by show _ = _; rw [HS1.out, hbo, in_eq]
          simp only [Option.isSome_some, Option.getD_some] at HFc
          clear HS1 hbo hf
          generalize bs a.name = nm at *
          go_wp2_with fail
          refine HFc.out.mono ?_
          rintro e w2 ⟨fv, rfl, hfv, hL2⟩
          have HFV := hide hfv
          obtain ⟨s, rfl, hs⟩ := hfv
          obtain ⟨sA, sC, rfl⟩ := sliceStr hs
          have HL2 := hide (HLt.out.trans hL2)
          obtain ⟨fn, fargs⟩ := f
          dsimp only at *
          obtain ⟨wb, hwb⟩ : ∃ wb, wb = w2.alloc (.cells #[.string fn, .slice sA fargs.length sC] 50) := ⟨_, rfl⟩
          have hLb : Later w wb := by rw [hwb]; exact HL2.out.alloc _
          have hFb : FactV wb (.agg #[.string fn, .slice sA fargs.length sC]) (fn, fargs) := by rw [hwb]; exact HFV.out.later ((Later.refl _).alloc _)
          have z : wb.cell? ⟨w2.heap.size, 0, none⟩ = some (.string fn) ∧ wb.cell? ⟨w2.heap.size, 1, none⟩ = some (.slice sA fargs.length sC) := by rw [hwb]; simp
          have hsb : w2.heap.size < wb.heap.size := by rw [hwb]; simp
          have CELL : Hid (∀ w', Later wb w' → w'.cell? ⟨w2.heap.size, 0, none⟩ = some (.string fn) ∧ w'.cell? ⟨w2.heap.size, 1, none⟩ = some (.slice sA fargs.length sC)) := fun w' hL =>
            ⟨by rw [hL.cell hsb]; exact z.1, by rw [hL.cell hsb]; exact z.2⟩
          have HFr : Hid (∀ w', Later wb w' → Calls Tryz.prog g (#[.int .i64 j] ++ cb) w' fun e w2 => ∃ v, e = .returned v ∧ Facts w2 v (pick j) ∧ Later w' w2) := fun w' hL =>
            HP.out w' j (hLb.trans hL).below (by omega)
          have HIn : Hid (∀ w' x, Later wb w' → Facts w' x (pick j) → Calls Tryz.prog 133 #[x, .agg #[.string fn, .slice sA fargs.length sC]] w' fun e w3 => e = .returned (.bool (inFrom (pick j) (fn, fargs) 0)) ∧ Later w' w3) := fun w' x hL hx =>
            inC x _ (pick j) (fn, fargs) w' hx (hFb.later hL) (HR.out j)
          have HWB := hide hwb
          clear hs hL2 HFc hwb z hsb HFV hFb
          go_wp2
          rw [← HWB.out]
          generalize inFrom (pick j) (fn, fargs) 0 = bb at *
          refine wp_region_held_drew (S := fun w' => Later wb w') (by kernel_rfl) (Later.refl _).drew (fun hHeld => ?_)
          refine take_yes (i := 0) (d := some 27) (v := ?_) rfl rfl hHeld ?_ ?_; rotate_left; focus intro w hSw; (try dsimp only at hSw);  go_simp; try with_reducible rfl
          simp only [aput, aset, aze, asu]
          refine take_yes (i := 1) (d := some 28) (v := ?_) rfl rfl hHeld ?_ ?_; rotate_left; focus intro w hSw; (try dsimp only at hSw);  go_simp; try with_reducible rfl
          simp only [aput, aset, aze, asu]
          refine take_yes (i := 2) (d := some 29) (v := ?_) rfl rfl hHeld ?_ ?_; rotate_left; focus intro w hSw; (try dsimp only at hSw);  go_simp; try with_reducible rfl
          simp only [aput, aset, aze, asu]
          refine take_yes (i := 3) (d := some 30) (v := ?_) rfl rfl hHeld ?_ ?_; rotate_left; focus intro w hSw; (try dsimp only at hSw);  go_simp; try with_reducible rfl
          simp only [aput, aset, aze, asu]
          refine take_yes (i := 5) (d := some 32) (v := ?_) rfl rfl hHeld ?_ ?_; rotate_left; focus intro w hSw; (try dsimp only at hSw); obtain ⟨q0, q1⟩ := CELL.out w hSw; go_simp; try with_reducible rfl
          simp only [aput, aset, aze, asu]
          refine wpAnyH_ready (rs := [4]) (by kernel_rfl) (by simp) ?_
          refine AllReadyH.cons rfl (fun K hK => ?_) AllReadyH.nil
          go_simp
          refine (HFr.out _ hHeld).mono ?_
          rintro e u1 ⟨x, rfl, hx, hU1⟩
          dsimp only
          have hU1' : Later wb u1 := Later.trans hHeld hU1
          refine hK.out _ _ hU1' (fun hHeld => ?_)
          clear hK K
          refine wpAnyH_ready (rs := [6]) (by kernel_rfl) (by simp) ?_
          refine AllReadyH.cons rfl (fun K hK => ?_) AllReadyH.nil
          go_simp
          refine (HIn.out _ x hU1' hx).mono ?_
          rintro e u2 ⟨rfl, hU2⟩
          dsimp only
          have hU2' : Later wb u2 := hU1'.trans hU2
          refine hK.out _ _ hU2' (fun hHeld => ?_)
          clear hK K
          refine take_yes (i := 7) (d := some 34) (v := ?_) rfl rfl hHeld ?_ ?_; rotate_left; focus intro w hSw; (try dsimp only at hSw);  go_simp; try with_reducible rfl
          simp only [aput, aset, aze, asu]
          refine wpAnyH_done (by kernel_rfl) ?_ _
          have HLu := hide (hLb.trans hU2')
          cases bb
          · have HS3 : Hid (R = barredB pick (j + 1) (body.drop (j + 1)) l) := by show _ = _; rw [HS2.out]; rfl
            clear HS2
            go_wp2
            go_roundg (body.length - (j + 1))
            case measure => omega
            case rel => exact ⟨j + 1, by omega, by go_num, HS3, HLu⟩
          · have HS3 : Hid (R = true) := by show _ = _; rw [HS2.out]; rfl
            clear HS2
            go_wp2
            go_ret
            exact ⟨by rw [HS3.out]; rfl, HLu.out⟩
    · have HS3 : Hid (R = false) := by show _ = _; rw [HE.out, List.drop_eq_nil_of_le (by omega)]; rfl
      clear HE
      go_wp2
      go_ret
      exact ⟨by rw [HS3.out]; rfl, HL.out⟩

theorem enters_with1 : ∀ args w, (callFunc 112 args).run Tryz.prog w = .ok (.enter 112 args) w := enters_of Tryz.func112 (by kernel_rfl) rfl

def Dels (g : Nat) (cb : Array Value) (p : List BindD → Bool) (n : Nat) (w0 : World) : Prop := ∀ (W : World) (u : Value) (l : List BindD), Below n w0 W → bindK.sl Anyw W u l →
  Calls Tryz.prog g (#[u] ++ cb) W fun e w' => e = .returned (.bool (p l)) ∧ Later W w'

set_option maxHeartbeats 1000000 in
theorem with1C (cB cF : Nat) (body : List AtomD) (v : Value) (g : Nat) (cb : Array Value) (eg : ∀ args w, (callFunc g args).run Tryz.prog w = .ok (.enter g args) w) (pick : Nat → List FactD) (n : Nat) (w0 : World) (hv : atomK.sl Anyw w0 v body) (hp : Picks g cb pick n w0) (hb : body.length ≤ 5) (hr : ∀ n, Rises (pick n))
    (h0 : w0.cell? ⟨cB, 0, none⟩ = some v) (h1 : w0.cell? ⟨cF, 0, none⟩ = some (.func (.func g) #[] cb)) (b0 : cB < n) (b1 : cF < n) (hn : n = w0.heap.size) :
    Dels 112 #[.pointer (some ⟨cB, 0, none⟩), .pointer (some ⟨cF, 0, none⟩)] (barredB pick 0 body) n w0 := by
  intro W u l hW hu
  have hW' : Below w0.heap.size w0 W := by rw [← hn]; exact hW
  have hs : n ≤ W.heap.size := by have := hW.size; omega
  have z0 : W.cell? ⟨cB, 0, none⟩ = some v := by rw [hW.cell b0]; exact h0
  have z1 : W.cell? ⟨cF, 0, none⟩ = some (.func (.func g) #[] cb) := by rw [hW.cell b1]; exact h1
  have s0 : cB < W.heap.size := by omega
  have s1 : cF < W.heap.size := by omega
  have HC := hide (barredC body v u l g cb eg pick W (Kind.sl_below hv hW') hu (hp.below hW hs) hb hr)
  obtain ⟨a, cap, rfl⟩ := Kind.slice hv
  obtain ⟨ua, ucap, rfl⟩ := Kind.slice hu
  clear hv hu hp hr h0 h1 hW' hW
  generalize barredB pick 0 body l = bb at *
  show Calls _ _ #[.slice ua l.length ucap, .pointer (some ⟨cB, 0, none⟩), .pointer (some ⟨cF, 0, none⟩)] _ _
  go_enter Tryz.func112, Tryz.ntmps112
  go_wp2_with (go_at_call 113; refine HC.out.mono ?_; rintro e w2 ⟨rfl, hL2⟩; replace hL2 := hide hL2)
  go_ret
  exact ⟨rfl, unhide hL2⟩

end Go.Proofs.YtilkggldmgeagaaGreatDoor
