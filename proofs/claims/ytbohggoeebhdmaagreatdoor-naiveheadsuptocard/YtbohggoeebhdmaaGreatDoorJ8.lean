import Derived.Test.YtbohggoeebhdmaaGreatDoorJ7
import Derived.Shelf.SlSortCmp.WholeK
import Derived.Shelf.SlSortCmp.NoneTotal
import Derived.Test.YtbohggoeebhdmaaGreatDoorJ5
import Derived.Deep.RegionHeld
import Derived.Test.YtbohggoeebhdmaaGreatDoorJ3
/- slices.SortFunc at facts, by fact.Compare: what the row holds is sorted. -/
namespace Go.Proofs.YtbohggoeebhdmaaGreatDoor
open Go.RowKit Go.Sort Go.Shelf

/-- A fact of a row, in the sort's own words. -/
structure Elem (w : World) (blk : Nat) : Type where
  n : ByteArray
  s : Value
  args : List ByteArray
  hs : Strs w s args
  hb : ∀ k, s.ownBlock = some k → args ≠ [] → k ≠ blk

def Elem.fact {w : World} {blk : Nat} (x : Elem w blk) : FactD := (x.n, x.args)
def Elem.enc {w : World} {blk : Nat} (x : Elem w blk) : List Value := [.string x.n, x.s]
def Elem.no (w : World) (blk : Nat) : Elem w blk := ⟨ByteArray.empty, .slice none 0 0, [], ⟨by simp, none, 0, rfl, fun h => absurd rfl h⟩, fun _ _ h => absurd rfl h⟩
def Elem.cmp {w : World} {blk : Nat} (x y : Elem w blk) : Int := cmpF x.fact y.fact

theorem Elem.swo (w : World) (blk : Nat) : SWO (ltOf (Elem.cmp (w := w) (blk := blk))) where
  irrefl x := by unfold ltOf Elem.cmp; rw [three_cmpF.refl]; rfl
  trans x y z h1 h2 := by
    unfold ltOf at *
    rw [decide_eq_true_eq] at *
    exact three_cmpF.trans _ _ _ h1 h2
  ntrans x y z h1 h2 := by
    unfold ltOf at *
    rw [decide_eq_false_iff_not] at *
    have := cmpF_trans0 (a := x.fact) (b := y.fact) (c := z.fact) (Int.not_lt.1 h1) (Int.not_lt.1 h2)
    exact Int.not_lt.2 this

theorem isAggF : ∀ w, (isAgg 54).run Tryz.prog w = .ok true w := Tryz.isAgg54
theorem sizeOfF : ∀ w, (Go.sizeOf 54).run Tryz.prog w = .ok 2 w := Tryz.sizeOf54
theorem enters_cmp : ∀ args w, (callFunc 30 args).run Tryz.prog w = .ok (.enter 30 args) w := enters_of Tryz.func30 (by kernel_rfl) rfl

theorem heap_sortWorld {α : Type} (inst : Inhabited α) (enc : α → List Value) (w : World) (blk off m : Nat) (d : Array α) (os : Array Obj) (k : Nat) (hk : k < w.heap.size) (hne : k ≠ blk) :
    (@sortWorldK α inst enc 2 w blk off m d os).heap[k]? = w.heap[k]? := by
  unfold sortWorldK
  rw [heap_grow_old _ _ (by rw [size_putRowK]; exact hk)]
  simp only [putRowK, putRow, mapBlock]
  rw [Array.getElem?_modify, if_neg (fun e => hne e.symm)]
  rfl

theorem size_sortWorld {α : Type} (inst : Inhabited α) (enc : α → List Value) (w : World) (blk off m : Nat) (d : Array α) (os : Array Obj) : w.heap.size ≤ (@sortWorldK α inst enc 2 w blk off m d os).heap.size := by
  unfold sortWorldK
  rw [size_grow, size_putRowK]
  exact Nat.le_add_right _ _

theorem Elem.factV {w W : World} {blk : Nat} (x : Elem w blk) (hs : w.heap.size ≤ W.heap.size) (hk : ∀ k, k < w.heap.size → k ≠ blk → W.heap[k]? = w.heap[k]?) : FactV W (.agg #[.string x.n, x.s]) x.fact := by
  refine ⟨x.s, rfl, ?_⟩
  by_cases hl : x.args = []
  · have := x.hs
    show Strs W x.s x.args
    rw [hl] at this ⊢
    exact this.nil
  · exact x.hs.kept hs fun k e => hk k (x.hs.block_lt hl k e) (x.hb k e hl)

theorem cmpLays (w : World) (blk off size : Nat) : @CmpLays (Elem w blk) ⟨Elem.no w blk⟩ Tryz.prog 30 #[] Elem.enc 2 Elem.cmp blk off size w := by
  intro m os dk hd x y
  have hs := size_sortWorld ⟨Elem.no w blk⟩ Elem.enc w blk off m dk os
  have hk := heap_sortWorld ⟨Elem.no w blk⟩ Elem.enc w blk off m dk os
  exact (compareF _ _ x.fact y.fact _ (x.factV hs hk) (y.factV hs hk)).mono fun e w' ⟨he, hw⟩ => ⟨he, hw⟩

/-- The row's elements. -/
theorem RowF.elems {w : World} {base g n cap : Nat} {l : List FactD} (h : RowF w base (.slice (some ⟨g, 0, none⟩) n cap) l) :
    g < w.heap.size ∧ base ≤ g ∧ n = l.length ∧ ∃ d : Array (Elem w g), d.toList.map Elem.fact = l ∧ @HoldsK (Elem w g) ⟨Elem.no w g⟩ Elem.enc 2 w g 0 d := by
  obtain ⟨xs, ho, hx⟩ := h
  have ho2 := ho.2
  rcases ho2 with ⟨e, _⟩ | ⟨g', cap', cur, e, hb, hg, hnc, hcm, hcs, htake⟩
  · cases e
  · simp only [Value.slice.injEq, Option.some.injEq, Addr.mk.injEq] at e
    obtain ⟨⟨rfl, _⟩, rfl, rfl⟩ := e
    have hgl : g < w.heap.size := (Array.getElem?_eq_some_iff.1 hg).1
    refine ⟨hgl, hb, rfl, ?_⟩
    have hsv : ∀ i : Fin l.length, ∃ x : Elem w g, x.fact = l.getD i noFact ∧ xs[i.1 * 2]? = some (.string x.n) ∧ xs[i.1 * 2 + 1]? = some x.s := fun i => by
      obtain ⟨c1, s, c2, c3, c4⟩ := hx i.1 i.2
      exact ⟨⟨(l.getD i noFact).1, s, (l.getD i noFact).2, c3, fun k hk ha e => by have := c4 k hk ha; omega⟩, rfl, c1, c2⟩
    refine ⟨Array.ofFn fun i => Classical.choose (hsv i), ?_, ?_⟩
    · apply List.ext_getElem
      · simp
      · intro i h1 h2
        have := (Classical.choose_spec (hsv ⟨i, h2⟩)).1
        simp only [List.getElem_map, Array.getElem_toList, Array.getElem_ofFn]
        rw [this, List.getD_eq_getElem?_getD, List.getElem?_eq_getElem h2]; rfl
    · letI : Inhabited (Elem w g) := ⟨Elem.no w g⟩
      intro j hj
      rw [size_flatK, Array.size_ofFn] at hj
      have hj2 : j / 2 < l.length := by omega
      rw [get_flatK _ _ _ _ (by rw [Array.size_ofFn]; exact hj)]
      have e1 : (Array.ofFn fun i => Classical.choose (hsv i))[j / 2]! = Classical.choose (hsv ⟨j / 2, hj2⟩) := by
        rw [getElem!_pos _ _ (by rw [Array.size_ofFn]; exact hj2), Array.getElem_ofFn]
      rw [e1]
      have sp := (Classical.choose_spec (hsv ⟨j / 2, hj2⟩)).2
      generalize Classical.choose (hsv ⟨j / 2, hj2⟩) = x at sp
      have cellOf : ∀ u, xs[j]? = some u → w.cell? ⟨g, 0 + j, none⟩ = some u := fun u hu => by
        have := ho.cells (g := g) rfl j u hu
        rwa [Addr.add_lit] at this
      refine ⟨?_, frozen_of_row _ hg⟩
      rcases Nat.mod_two_eq_zero_or_one j with hm | hm
      · rw [hm]
        refine cellOf _ ?_
        have : j / 2 * 2 = j := by omega
        rw [← this]; exact sp.1
      · rw [hm]
        refine cellOf _ ?_
        have : j / 2 * 2 + 1 = j := by omega
        rw [← this]; exact sp.2

theorem perm_of {α : Type} (inst : Inhabited α) {d d' : Array α} (h : PermIn 0 d.size d d') : d'.toList.Perm d.toList := by
  obtain ⟨h1, _, h3⟩ := h
  have e : d'.extract 0 d.size = d' := by rw [← h1]; simp
  rw [e] at h3
  simpa using h3

theorem holds_facts {w W : World} {g cap : Nat} (d : Array (Elem w g)) (hs : w.heap.size ≤ W.heap.size) (hk : ∀ k, k < w.heap.size → k ≠ g → W.heap[k]? = w.heap[k]?) (hg : g < W.heap.size) (hd : d.size ≤ 3518437208883)
    (h : @HoldsK (Elem w g) ⟨Elem.no w g⟩ Elem.enc 2 W g 0 d) : Facts W (.slice (some ⟨g, 0, none⟩) d.size cap) (d.toList.map Elem.fact) := by
  letI : Inhabited (Elem w g) := ⟨Elem.no w g⟩
  refine ⟨by simpa using hd, some ⟨g, 0, none⟩, cap, by simp, fun _ => ⟨g, 0, rfl, hg, fun i hi => ?_⟩⟩
  have hi' : i < d.size := by simpa using hi
  have c0 := (h.cell (i := i) (c := 0) hi' (by omega)).1
  have c1 := (h.cell (i := i) (c := 1) hi' (by omega)).1
  have e : d[i]! = d[i] := getElem!_pos d i hi'
  have e2 : (d.toList.map Elem.fact).getD i noFact = d[i].fact := by
    rw [List.getD_eq_getElem?_getD, List.getElem?_map]
    simp [hi']
  rw [e2]
  rw [e] at c0 c1
  obtain ⟨s, es, hs'⟩ := d[i].factV hs hk
  simp only [Value.agg.injEq] at es
  refine ⟨c0, d[i].s, c1, ?_⟩
  have e3 : d[i].fact.fst = d[i].n ∧ s = d[i].s := by simpa using es.symm
  rw [e3.2] at hs'
  exact hs'

/-- slices.SortFunc of a row of facts, by fact.Compare. -/
theorem sortF (w : World) (base : Nat) (v : Value) (l : List FactD) (h : RowF w base v l) (hl : l.length ≤ 3518437208883) :
    Calls Tryz.prog 93 #[v, .func (.func 30) #[] #[]] w fun e w' => e = .returned (.tuple #[]) ∧ ∃ l', l'.Perm l ∧ l'.Pairwise (fun a b => cmpF a b ≤ 0) ∧ Facts w' v l' ∧ Only base w.heap.size w w' := by
  rcases h.choose_spec.1.2 with ⟨rfl, e⟩ | ⟨g, cap, cur, rfl, _⟩
  · have : l = [] := List.eq_nil_of_length_eq_zero e
    subst this
    exact (AnyF.slices_SortFunc_none Tryz.sortFacts none 0 _ w).mono fun e w' ⟨he, hw⟩ => ⟨he, [], List.Perm.refl _, List.Pairwise.nil, by rw [hw]; exact ⟨by simp, none, 0, rfl, fun h => absurd rfl h⟩, by rw [hw]; exact Only.refl _ _ _⟩
  · obtain ⟨hgl, hb, _, d, hd, hH⟩ := h.elems
    letI : Inhabited (Elem w g) := ⟨Elem.no w g⟩
    have hsz : d.size = l.length := by rw [← hd]; simp
    have hc := AnyQ.slices_SortFunc Tryz.sortFacts 2 isAggF sizeOfF Elem.enc (fun _ => rfl) (fun x v hv => by
      simp [Elem.enc] at hv
      rcases hv with rfl | rfl
      · rfl
      · obtain ⟨a, c, e⟩ := sliceStr x.hs
        rw [e]; rfl) Elem.cmp (Elem.swo w g) 30 #[] g 0 cap d w enters_cmp (cmpLays w g 0 d.size) hH hgl (by omega)
    rw [hsz] at hc
    refine hc.mono ?_
    rintro e w' ⟨he, d', n, os, hp, hs, rfl⟩
    have hp' : PermIn 0 d.size d d' := by rw [hsz]; exact hp
    have hd' : d'.size = d.size := hp'.1
    have hkk := heap_sortWorld ⟨Elem.no w g⟩ Elem.enc w g 0 n d' os
    have hss := size_sortWorld ⟨Elem.no w g⟩ Elem.enc w g 0 n d' os
    refine ⟨he, d'.toList.map Elem.fact, ?_, ?_, ?_, ?_⟩
    · rw [← hd]; exact (perm_of _ hp').map _
    · rw [List.pairwise_map]
      rw [List.pairwise_iff_getElem]
      intro i j hi hj hij
      have := hs i j (Nat.zero_le _) hij (by simp at hj; omega)
      have e1 : d'[i]! = d'.toList[i] := by rw [getElem!_pos d' i (by simpa using hi)]; simp
      have e2 : d'[j]! = d'.toList[j] := by rw [getElem!_pos d' j (by simpa using hj)]; simp
      rw [e1, e2] at this
      unfold ltOf Elem.cmp at this
      rw [decide_eq_false_iff_not] at this
      have := three_cmpF.swap d'.toList[i].fact d'.toList[j].fact
      omega
    · have := holds_facts (cap := cap) d' hss hkk (Nat.lt_of_lt_of_le hgl hss) (by omega) (holdsK_sortWorldK_c Elem.enc 2 w g 0 d d' n os hH hgl hd')
      rw [hd', hsz] at this
      exact this
    · refine ⟨rfl, rfl, rfl, Nat.le_add_right _ _, hss, fun k hk ho => hkk k hk (by omega)⟩

end Go.Proofs.YtbohggoeebhdmaaGreatDoor

/- The walks of fact.rise and fact.Of. -/
namespace Go.Proofs.YtbohggoeebhdmaaGreatDoor
open Go.RowKit Go.Sort

theorem ownsSlice {w : World} {base n : Nat} {v : Value} {xs : List Value} {e : TypeId} {sz : Nat} (h : w.ownsRow base e sz v n xs) : ∃ a cap, v = .slice a n cap := by
  rcases h.2 with ⟨rfl, rfl⟩ | ⟨g, cap, cur, rfl, _⟩
  · exact ⟨none, 0, rfl⟩
  · exact ⟨_, cap, rfl⟩

set_option maxHeartbeats 400000 in
/-- fact.rise: the set of a row's facts, in memory of its own; the row is sorted where it lies. -/
theorem rise (w : World) (base : Nat) (v : Value) (l : List FactD) (h : RowF w base v l) (hl : l.length ≤ 3518437208883) :
    Calls Tryz.prog 56 #[v] w fun e w' => ∃ v' s, e = .returned v' ∧ SetOf s l ∧ OwnF w' w.heap.size v' s ∧ Only base w.heap.size w w' := by
  have hS := hide (sortF w base v l h hl)
  obtain ⟨a, cap, rfl⟩ := ownsSlice h.choose_spec.1
  clear h
  go_enter Tryz.func56, Tryz.ntmps56
  go_wp2_with fail
  refine hS.out.mono ?_
  rintro e w1 ⟨rfl, l', hp, hs, hF, hO⟩
  have hle : l'.length = l.length := hp.length_eq
  go_wp2_with fail
  refine (unlikeLast w1).mono ?_
  rintro e w2 ⟨rfl, hL2, hz2, hlast⟩
  have hK := hide (keep 132 #[.pointer (some ⟨w1.heap.size + 1, 0, none⟩), .pointer (some ⟨w1.heap.size, 0, none⟩)] enters_ul1 w1.heap.size (w1.heap.size + 2) w1 w2 (.slice a l.length cap) l' (newP l') (LastK w1 w1.heap.size l') hF hL2 (Nat.le_refl _) (by omega) (asked_ul w1 l')
    ⟨ByteArray.empty, none, 0, 0, hlast, fun h => absurd h (Nat.lt_irrefl _)⟩)
  have HL := hide hlast
  clear hlast
  go_wp2_with fail
  refine hK.out.mono ?_
  rintro e w3 ⟨v', rfl, hOw, hO3, _⟩
  have hset := pick_new hs l'.length (Nat.le_refl _)
  rw [List.take_length] at hset
  have HS := hide hset
  have HW := hide hOw
  clear hset hOw
  go_wp2
  go_ret
  have hL13 : Later w1 w3 := hO3.later hL2 (Nat.le_refl _)
  refine ⟨v', _, rfl, ⟨HS.out.1, fun f => (HS.out.2.1 f).trans hp.mem_iff, by rw [← hle]; exact HS.out.2.2⟩, ?_, hO.trans hL13.only⟩
  have hsz : w.heap.size ≤ w2.heap.size := Nat.le_trans hO.size hL2.size
  obtain ⟨xs, ho, hx⟩ := HW.out
  refine ⟨xs, ⟨ho.1, ?_⟩, fun i hi => ?_⟩
  · rcases ho.2 with e | ⟨g, cp, cur, e, hg, r⟩
    · exact Or.inl e
    · exact Or.inr ⟨g, cp, cur, e, Nat.le_trans hsz hg, r⟩
  · obtain ⟨c1, s, c2, c3, c4⟩ := hx i hi
    exact ⟨c1, s, c2, c3, fun k hk => ⟨Nat.le_trans hsz (c4 k hk).1, (c4 k hk).2⟩⟩

set_option maxHeartbeats 400000 in
/-- fact.Of: the set of a list's facts, in memory of its own. -/
theorem ofC (v : Value) (l : List FactD) (w : World) (h : Facts w v l) :
    Calls Tryz.prog 25 #[v] w fun e w' => ∃ v' s, e = .returned v' ∧ SetOf s l ∧ OwnF w' w.heap.size v' s ∧ Later w w' := by
  have hC := hide (clone v l w h)
  have hl := h.1
  obtain ⟨a, cap, rfl⟩ := sliceFacts h
  clear h
  go_enter Tryz.func25, Tryz.ntmps25
  go_wp2_with fail
  refine hC.out.mono ?_
  rintro e w1 ⟨v1, rfl, hR, hL⟩
  have hr := hide (rise w1 w.heap.size v1 l hR hl)
  obtain ⟨a1, cap1, rfl⟩ := ownsSlice hR.choose_spec.1
  clear hR
  go_wp2_with fail
  refine hr.out.mono ?_
  rintro e w2 ⟨v2, s, rfl, hs, hO, hW⟩
  have HS := hide hs
  have HO := hide hO
  clear hs hO
  go_wp2
  go_ret
  exact ⟨v2, s, rfl, HS.out, HO.out.base hL.size, hW.later hL (Nat.le_refl _)⟩

end Go.Proofs.YtbohggoeebhdmaaGreatDoor

/- A region that draws its order, step by step: an operation that yields its value in every world that meets the condition is taken first. -/
namespace Go.Proofs.YtbohggoeebhdmaaGreatDoor

theorem take_at {P : Program} {md : Region.Mode} {ops : Array Oper} {Q : Exit → Act → World → Prop} {S : World → Prop} {i : Nat} {oi : Oper} {d : Option Nat} {v : Value} {fuel : Nat} {listed : Array Bool} {a : Act} {w : World} (hi : ops[i]? = some oi) (hd : oi.dst = d)
    (hs : Region.noSelect ops = true) (hf : Region.free md ops listed i = true) (hr : (Region.ready md ops listed).contains i = true)
    (hQ : ∀ c a w, Q (.panic c) (a.put oi.dst v) w → Q (.panic c) a w) (hy : YieldsIf P ops S oi v a) (hS : S w)
    (h : wpAnyH P md ops Q S fuel (listed.setIfInBounds i true) (a.put d v) w) : wpAnyH P md ops Q S (fuel + 1) listed a w :=
  wpAnyH_take hi hs hf hr hQ hy hS (by rw [hd]; exact h)

/-- append as one of those that may come up, its run being known. -/
theorem held_append {P : Program} {md : Region.Mode} {ops : Array Oper} {Q : Exit → Act → World → Prop} {S : World → Prop} {i : Nat} {o : Oper} {d : Option Nat} {fuel : Nat} {listed : Array Bool} {a : Act} {w : World} {rs : List Nat} (ho : ops[i]? = some o) (hd : o.dst = d)
    (hg : o.guard = none) (s x : Operand) (t ty : TypeId) (hop : o.op = Op.call { callee := Callee.builtin Builtin.append, args := #[s, x], argTypes := #[t, t] }) (hty : o.type = ty)
    (v1 v2 v' : Value) (w' : World) (hs : a.eval s = v1) (hx : a.eval x = v2) (hrun : (Builtin.append_ #[t, t] ty #[v1, v2]).run P w = .ok v' w') (hS : S w')
    (h : S w' → wpAnyH P md ops Q S fuel (listed.setIfInBounds i true) (a.put d v') w') (rest : AllReadyH P md ops Q S fuel listed a w rs) : AllReadyH P md ops Q S fuel listed a w (i :: rs) :=
  AllReadyH.cons ho (fun _ hK => step_append_run hg s x t hop v1 v2 v' w' hs hx (by rw [hty]; exact hrun) (by rw [hd]; exact hK.out _ _ hS h)) rest

theorem SrcF.later {w0 w w' : World} {a : Addr} {m : List FactD} (h : SrcF w0 w a m) (k : Later w w') : SrcF w0 w' a m := by
  obtain ⟨ys, y1, y2, y3, y4⟩ := h
  exact ⟨ys, y1, fun j u hu => by
    have hc := y2 j u hu
    rw [k.cell (World.block_lt_of_cell? w _ hc)]; exact hc, y3, y4⟩

theorem SrcF.grown {w0 w w' : World} {g off : Nat} {m : List FactD} {row : Option Nat} (h : SrcF w0 w ⟨g, off, none⟩ m) (k : w.grownBy w' row) (hne : some g ≠ row) : SrcF w0 w' ⟨g, off, none⟩ m := by
  obtain ⟨ys, y1, y2, y3, y4⟩ := h
  exact ⟨ys, y1, fun j u hu => by
    have hc := y2 j u hu
    rw [Addr.add_lit] at hc ⊢
    exact k.cell hc hne, y3, y4⟩

end Go.Proofs.YtbohggoeebhdmaaGreatDoor

/- How binds lie in cells, lists of such, and rows of lists that a call owns, each in a block of its own. Nothing of the program but two types' numbers. -/
namespace Go.Proofs.YtbohggoeebhdmaaGreatDoor
open Go.RowKit Go.Sort

/-- A bind lies in two cells. -/
def bindK : Kind BindD where
  size := 2
  is := fun _ _ c b => c = [.string b.1, .string b.2]
  len := fun h => by subst h; rfl
  one := fun h u hu => by subst h; simp at hu; rcases hu with rfl | rfl <;> rfl
  kept := fun h _ _ => h
  mono := fun h _ => h

/-- A slice of such elements lies in one cell. -/
def slK {α : Type} (K : Kind α) : Kind (List α) where
  size := 1
  is := fun B w c l => ∃ v, c = [v] ∧ K.sl B w v l
  len := fun ⟨v, h, _⟩ => by subst h; rfl
  one := fun ⟨v, h, hs⟩ u hu => by
    subst h
    obtain ⟨a, cap, rfl⟩ := Kind.slice hs
    simp at hu; subst hu; rfl
  kept := fun ⟨v, h, hs⟩ h1 h2 => ⟨v, h, Kind.sl_kept hs h1 h2⟩
  mono := fun ⟨v, h, hs⟩ h1 => ⟨v, h, Kind.sl_mono hs h1⟩

/-- Lists of binds. -/
abbrev listK : Kind (List BindD) := slK bindK

/-- Rows of a call's own in worlds that turn only other blocks. -/
theorem Kind.own_kept {α : Type} {K : Kind α} {ty : TypeId} {lo : Nat} {w w' : World} {v : Value} {l : List α} (h : K.own ty lo w v l) (hs : w.heap.size ≤ w'.heap.size) (hk : ∀ k, k < w.heap.size → lo ≤ k → w'.heap[k]? = w.heap[k]?) : K.own ty lo w' v l := by
  obtain ⟨xs, ho, hx⟩ := h
  refine ⟨xs, ⟨ho.1, ?_⟩, fun i x hi => ?_⟩
  · rcases ho.2 with e | ⟨g, cap, cur, rfl, hbg, hg, r⟩
    · exact Or.inl e
    · exact Or.inr ⟨g, cap, cur, rfl, hbg, by rw [hk g (Array.getElem?_eq_some_iff.1 hg).1 hbg]; exact hg, r⟩
  · obtain ⟨c, c1, c2⟩ := hx i x hi
    exact ⟨c, K.kept c1 hs fun j hj hB => hk j hj hB.1, c2⟩

/-- A row of binds hangs on its one block alone. -/
theorem own_block {ty : TypeId} {lo : Nat} {w w' : World} {v : Value} {l : List BindD} (h : bindK.own ty lo w v l) (hk : ∀ k, v.ownBlock = some k → w'.heap[k]? = w.heap[k]?) : bindK.own ty lo w' v l := by
  obtain ⟨xs, ho, hx⟩ := h
  refine ⟨xs, ⟨ho.1, ?_⟩, hx⟩
  rcases ho.2 with e | ⟨g, cap, cur, rfl, hbg, hg, r⟩
  · exact Or.inl e
  · exact Or.inr ⟨g, cap, cur, rfl, hbg, by rw [hk g rfl]; exact hg, r⟩

theorem own_base {ty : TypeId} {lo lo' : Nat} {w : World} {v : Value} {l : List BindD} (h : bindK.own ty lo w v l) (hl : lo' ≤ lo) : bindK.own ty lo' w v l := by
  obtain ⟨xs, ho, hx⟩ := h
  refine ⟨xs, ⟨ho.1, ?_⟩, hx⟩
  rcases ho.2 with e | ⟨g, cap, cur, rfl, hbg, r⟩
  · exact Or.inl e
  · exact Or.inr ⟨g, cap, cur, rfl, by omega, r⟩

/-- A list's block, if there is one. -/
abbrev ofBlock (v : Value) : Nat → Prop := fun k => v.ownBlock = some k

theorem own_in {ty : TypeId} {lo : Nat} {w : World} {v : Value} {l : List BindD} (h : bindK.own ty lo w v l) (hl : l.length ≤ 8796093022208) : bindK.sl (ofBlock v) w v l := by
  obtain ⟨xs, ho, hx⟩ := h
  rcases ho.2 with ⟨rfl, e⟩ | ⟨g, cap, cur, rfl, hbg, hg, hnc, _⟩
  · have : l = [] := List.eq_nil_of_length_eq_zero e
    subst this
    exact bindK.sl_nil _ _ _ _
  · refine ⟨⟨hl, hnc⟩, _, cap, rfl, fun _ => ⟨g, 0, rfl, rfl, (Array.getElem?_eq_some_iff.1 hg).1, fun i x hi => ?_⟩⟩
    obtain ⟨c, c1, c2⟩ := hx i x hi
    refine ⟨c, c1, fun j u hu => ?_⟩
    have := ho.cells (g := g) rfl _ u (c2 j u hu)
    rw [Addr.add_lit] at this
    rw [Nat.add_assoc]; exact this

/-- Two lists lie apart. -/
def apart (u u' : Value) : Prop := ∀ k, u.ownBlock = some k → u'.ownBlock ≠ some k

theorem apart.symm {u u' : Value} (h : apart u u') : apart u' u := fun k h1 h2 => h k h2 h1

/-- A row of lists that a call owns, each in a block of its own; what each is, and where it lies. -/
def Lists (tyS ty : TypeId) (lo : Nat) (w : World) (v : Value) (ps : List (Value × List BindD)) : Prop :=
  w.ownsRow lo tyS 1 v ps.length (ps.map (·.1)) ∧ (∀ p ∈ ps, bindK.own ty lo w p.1 p.2 ∧ apart p.1 v) ∧ ps.Pairwise fun p q => apart p.1 q.1

theorem Lists.nil (tyS ty : TypeId) (lo : Nat) (w : World) : Lists tyS ty lo w (.slice none 0 0) [] := ⟨World.ownsRow_nil w lo tyS 1, fun p hp => by simp at hp, List.Pairwise.nil⟩

theorem Lists.kept {tyS ty : TypeId} {lo : Nat} {w w' : World} {v : Value} {ps : List (Value × List BindD)} (h : Lists tyS ty lo w v ps) (hk : ∀ k, k < w.heap.size → lo ≤ k → w'.heap[k]? = w.heap[k]?) : Lists tyS ty lo w' v ps := by
  obtain ⟨ho, hp, ha⟩ := h
  refine ⟨⟨ho.1, ?_⟩, fun p h1 => ⟨own_block (hp p h1).1 fun k e => ?_, (hp p h1).2⟩, ha⟩
  · rcases ho.2 with e | ⟨g, cap, cur, rfl, hbg, hg, r⟩
    · exact Or.inl e
    · exact Or.inr ⟨g, cap, cur, rfl, hbg, by rw [hk g (Array.getElem?_eq_some_iff.1 hg).1 hbg]; exact hg, r⟩
  · have := Kind.own_lt (hp p h1).1 e
    exact hk k this.2 this.1

theorem Lists.later {tyS ty : TypeId} {lo : Nat} {w w' : World} {v : Value} {ps : List (Value × List BindD)} (h : Lists tyS ty lo w v ps) (k : Later w w') : Lists tyS ty lo w' v ps := h.kept fun _ hi _ => k.block hi

theorem Lists.slice {tyS ty : TypeId} {lo : Nat} {w : World} {v : Value} {ps : List (Value × List BindD)} (h : Lists tyS ty lo w v ps) : ∃ a cap, v = .slice a ps.length cap := by
  rcases h.1.2 with ⟨rfl, e⟩ | ⟨g, cap, cur, rfl, _⟩
  · exact ⟨none, 0, by rw [e]⟩
  · exact ⟨_, cap, rfl⟩

/-- Read. -/
theorem Lists.sl {tyS ty : TypeId} {lo : Nat} {w : World} {v : Value} {ps : List (Value × List BindD)} (h : Lists tyS ty lo w v ps) (hl : ps.length ≤ 8796093022208) (hs : ∀ p ∈ ps, p.2.length ≤ 8796093022208) : listK.sl (From lo) w v (ps.map (·.2)) := by
  obtain ⟨ho, hp, _⟩ := h
  rcases ho.2 with ⟨rfl, e⟩ | ⟨g, cap, cur, rfl, hbg, hg, hnc, _⟩
  · have : ps = [] := List.eq_nil_of_length_eq_zero e
    subst this
    exact listK.sl_nil _ _ _ _
  · refine ⟨⟨by simpa using hl, hnc⟩, _, cap, by simp, fun _ => ⟨g, 0, rfl, hbg, (Array.getElem?_eq_some_iff.1 hg).1, fun i x hi => ?_⟩⟩
    rw [List.getElem?_map] at hi
    cases e : ps[i]? with
    | none => rw [e] at hi; cases hi
    | some p =>
      rw [e] at hi
      cases hi
      have hpm := List.mem_of_getElem? e
      refine ⟨[p.1], ⟨p.1, rfl, Kind.own_sl (hp p hpm).1 (hs p hpm)⟩, fun j u hu => ?_⟩
      cases j with
      | succ j => simp at hu
      | zero =>
        simp at hu
        subst hu
        have := ho.cells (g := g) rfl i p.1 (by rw [List.getElem?_map, e]; rfl)
        rw [Addr.add_lit] at this
        show w.cell? ⟨g, 0 + i * 1 + 0, none⟩ = _
        rw [Nat.mul_one, Nat.add_zero]; exact this

end Go.Proofs.YtbohggoeebhdmaaGreatDoor
