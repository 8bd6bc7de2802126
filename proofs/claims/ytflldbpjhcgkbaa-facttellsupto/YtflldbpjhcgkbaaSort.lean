/- slices.SortFunc at facts, by fact.Compare: what the row holds is sorted. -/
import Derived.Test.YtflldbpjhcgkbaaRise
import Derived.Test.YtflldbpjhcgkbaaSortLay
import Derived.Shelf.SlSortCmp.WholeK
import Derived.Shelf.SlSortCmp.NoneTotal
namespace Go.Proofs.Ytflldbpjhcgkbaa
open Go.RowKit Go.Sort Go.Shelf

/-- A fact of a row, in the sort's own words. -/
structure Elem (w : World) (blk : Nat) : Type where
  n : ByteArray
  s : Value
  args : List ByteArray
  hs : Strs w s args
  hb : ∀ k, s.ownBlock = some k → args ≠ [] → k ≠ blk

def Elem.fact {w : World} {blk : Nat} (x : Elem w blk) : FactD := (x.n, x.args)
def Elem.enc {w : World} {blk : Nat} (x : Elem w blk) : List Value := [.string x.n, x.s]
def Elem.no (w : World) (blk : Nat) : Elem w blk := ⟨ByteArray.empty, .slice none 0 0, [], ⟨by simp, none, 0, rfl, fun h => absurd rfl h⟩, fun _ _ h => absurd rfl h⟩
def Elem.cmp {w : World} {blk : Nat} (x y : Elem w blk) : Int := cmpF x.fact y.fact

theorem Elem.swo (w : World) (blk : Nat) : SWO (ltOf (Elem.cmp (w := w) (blk := blk))) where
  irrefl x := by unfold ltOf Elem.cmp; rw [three_cmpF.refl]; rfl
  trans x y z h1 h2 := by
    unfold ltOf at *
    rw [decide_eq_true_eq] at *
    exact three_cmpF.trans _ _ _ h1 h2
  ntrans x y z h1 h2 := by
    unfold ltOf at *
    rw [decide_eq_false_iff_not] at *
    have := cmpF_trans0 (a := x.fact) (b := y.fact) (c := z.fact) (Int.not_lt.1 h1) (Int.not_lt.1 h2)
    exact Int.not_lt.2 this

theorem isAggF : ∀ w, (isAgg 25).run Try.prog w = .ok true w := Try.isAgg25
theorem sizeOfF : ∀ w, (Go.sizeOf 25).run Try.prog w = .ok 2 w := Try.sizeOf25
theorem enters_cmp : ∀ args w, (callFunc 21 args).run Try.prog w = .ok (.enter 21 args) w := enters_of Try.func21 (by kernel_rfl) rfl

theorem heap_sortWorld {α : Type} (inst : Inhabited α) (enc : α → List Value) (w : World) (blk off m : Nat) (d : Array α) (os : Array Obj) (k : Nat) (hk : k < w.heap.size) (hne : k ≠ blk) :
    (@sortWorldK α inst enc 2 w blk off m d os).heap[k]? = w.heap[k]? := by
  unfold sortWorldK
  rw [heap_grow_old _ _ (by rw [size_putRowK]; exact hk)]
  simp only [putRowK, putRow, mapBlock]
  rw [Array.getElem?_modify, if_neg (fun e => hne e.symm)]
  rfl

theorem size_sortWorld {α : Type} (inst : Inhabited α) (enc : α → List Value) (w : World) (blk off m : Nat) (d : Array α) (os : Array Obj) : w.heap.size ≤ (@sortWorldK α inst enc 2 w blk off m d os).heap.size := by
  unfold sortWorldK
  rw [size_grow, size_putRowK]
  exact Nat.le_add_right _ _

theorem Elem.factV {w W : World} {blk : Nat} (x : Elem w blk) (hs : w.heap.size ≤ W.heap.size) (hk : ∀ k, k < w.heap.size → k ≠ blk → W.heap[k]? = w.heap[k]?) : FactV W (.agg #[.string x.n, x.s]) x.fact := by
  refine ⟨x.s, rfl, ?_⟩
  by_cases hl : x.args = []
  · have := x.hs
    show Strs W x.s x.args
    rw [hl] at this ⊢
    exact this.nil
  · exact x.hs.kept hs fun k e => hk k (x.hs.block_lt hl k e) (x.hb k e hl)

theorem cmpLays (w : World) (blk off size : Nat) : @CmpLays (Elem w blk) ⟨Elem.no w blk⟩ Try.prog 21 #[] Elem.enc 2 Elem.cmp blk off size w := by
  intro m os dk hd x y
  have hs := size_sortWorld ⟨Elem.no w blk⟩ Elem.enc w blk off m dk os
  have hk := heap_sortWorld ⟨Elem.no w blk⟩ Elem.enc w blk off m dk os
  exact (compareF _ _ x.fact y.fact _ (x.factV hs hk) (y.factV hs hk)).mono fun e w' ⟨he, hw⟩ => ⟨he, hw⟩

/-- The row's elements. -/
theorem RowF.elems {w : World} {base g n cap : Nat} {l : List FactD} (h : RowF w base (.slice (some ⟨g, 0, none⟩) n cap) l) :
    g < w.heap.size ∧ base ≤ g ∧ n = l.length ∧ ∃ d : Array (Elem w g), d.toList.map Elem.fact = l ∧ @HoldsK (Elem w g) ⟨Elem.no w g⟩ Elem.enc 2 w g 0 d := by
  obtain ⟨xs, ho, hx⟩ := h
  have ho2 := ho.2
  rcases ho2 with ⟨e, _⟩ | ⟨g', cap', cur, e, hb, hg, hnc, hcm, hcs, htake⟩
  · cases e
  · simp only [Value.slice.injEq, Option.some.injEq, Addr.mk.injEq] at e
    obtain ⟨⟨rfl, _⟩, rfl, rfl⟩ := e
    have hgl : g < w.heap.size := (Array.getElem?_eq_some_iff.1 hg).1
    refine ⟨hgl, hb, rfl, ?_⟩
    have hsv : ∀ i : Fin l.length, ∃ x : Elem w g, x.fact = l.getD i noFact ∧ xs[i.1 * 2]? = some (.string x.n) ∧ xs[i.1 * 2 + 1]? = some x.s := fun i => by
      obtain ⟨c1, s, c2, c3, c4⟩ := hx i.1 i.2
      exact ⟨⟨(l.getD i noFact).1, s, (l.getD i noFact).2, c3, fun k hk ha e => by have := c4 k hk ha; omega⟩, rfl, c1, c2⟩
    refine ⟨Array.ofFn fun i => Classical.choose (hsv i), ?_, ?_⟩
    · apply List.ext_getElem
      · simp
      · intro i h1 h2
        have := (Classical.choose_spec (hsv ⟨i, h2⟩)).1
        simp only [List.getElem_map, Array.getElem_toList, Array.getElem_ofFn]
        rw [this, List.getD_eq_getElem?_getD, List.getElem?_eq_getElem h2]; rfl
    · letI : Inhabited (Elem w g) := ⟨Elem.no w g⟩
      intro j hj
      rw [size_flatK, Array.size_ofFn] at hj
      have hj2 : j / 2 < l.length := by omega
      rw [get_flatK _ _ _ _ (by rw [Array.size_ofFn]; exact hj)]
      have e1 : (Array.ofFn fun i => Classical.choose (hsv i))[j / 2]! = Classical.choose (hsv ⟨j / 2, hj2⟩) := by
        rw [getElem!_pos _ _ (by rw [Array.size_ofFn]; exact hj2), Array.getElem_ofFn]
      rw [e1]
      have sp := (Classical.choose_spec (hsv ⟨j / 2, hj2⟩)).2
      generalize Classical.choose (hsv ⟨j / 2, hj2⟩) = x at sp
      have cellOf : ∀ u, xs[j]? = some u → w.cell? ⟨g, 0 + j, none⟩ = some u := fun u hu => by
        have := ho.cells (g := g) rfl j u hu
        rwa [Addr.add_lit] at this
      refine ⟨?_, frozen_of_row _ hg⟩
      rcases Nat.mod_two_eq_zero_or_one j with hm | hm
      · rw [hm]
        refine cellOf _ ?_
        have : j / 2 * 2 = j := by omega
        rw [← this]; exact sp.1
      · rw [hm]
        refine cellOf _ ?_
        have : j / 2 * 2 + 1 = j := by omega
        rw [← this]; exact sp.2

theorem perm_of {α : Type} (inst : Inhabited α) {d d' : Array α} (h : PermIn 0 d.size d d') : d'.toList.Perm d.toList := by
  obtain ⟨h1, _, h3⟩ := h
  have e : d'.extract 0 d.size = d' := by rw [← h1]; simp
  rw [e] at h3
  simpa using h3

theorem holds_facts {w W : World} {g cap : Nat} (d : Array (Elem w g)) (hs : w.heap.size ≤ W.heap.size) (hk : ∀ k, k < w.heap.size → k ≠ g → W.heap[k]? = w.heap[k]?) (hg : g < W.heap.size) (hd : d.size ≤ 3518437208883)
    (h : @HoldsK (Elem w g) ⟨Elem.no w g⟩ Elem.enc 2 W g 0 d) : Facts W (.slice (some ⟨g, 0, none⟩) d.size cap) (d.toList.map Elem.fact) := by
  letI : Inhabited (Elem w g) := ⟨Elem.no w g⟩
  refine ⟨by simpa using hd, some ⟨g, 0, none⟩, cap, by simp, fun _ => ⟨g, 0, rfl, hg, fun i hi => ?_⟩⟩
  have hi' : i < d.size := by simpa using hi
  have c0 := (h.cell (i := i) (c := 0) hi' (by omega)).1
  have c1 := (h.cell (i := i) (c := 1) hi' (by omega)).1
  have e : d[i]! = d[i] := getElem!_pos d i hi'
  have e2 : (d.toList.map Elem.fact).getD i noFact = d[i].fact := by
    rw [List.getD_eq_getElem?_getD, List.getElem?_map]
    simp [hi']
  rw [e2]
  rw [e] at c0 c1
  obtain ⟨s, es, hs'⟩ := d[i].factV hs hk
  simp only [Value.agg.injEq] at es
  refine ⟨c0, d[i].s, c1, ?_⟩
  have e3 : d[i].fact.fst = d[i].n ∧ s = d[i].s := by simpa using es.symm
  rw [e3.2] at hs'
  exact hs'

/-- slices.SortFunc of a row of facts, by fact.Compare. -/
theorem sortF (w : World) (base : Nat) (v : Value) (l : List FactD) (h : RowF w base v l) (hl : l.length ≤ 3518437208883) :
    Calls Try.prog 78 #[v, .func (.func 21) #[] #[]] w fun e w' => e = .returned (.tuple #[]) ∧ ∃ l', l'.Perm l ∧ l'.Pairwise (fun a b => cmpF a b ≤ 0) ∧ Facts w' v l' ∧ Only base w.heap.size w w' := by
  rcases h.choose_spec.1.2 with ⟨rfl, e⟩ | ⟨g, cap, cur, rfl, _⟩
  · have : l = [] := List.eq_nil_of_length_eq_zero e
    subst this
    exact (AnyF.slices_SortFunc_none Try.sortFacts none 0 _ w).mono fun e w' ⟨he, hw⟩ => ⟨he, [], List.Perm.refl _, List.Pairwise.nil, by rw [hw]; exact ⟨by simp, none, 0, rfl, fun h => absurd rfl h⟩, by rw [hw]; exact Only.refl _ _ _⟩
  · obtain ⟨hgl, hb, _, d, hd, hH⟩ := h.elems
    letI : Inhabited (Elem w g) := ⟨Elem.no w g⟩
    have hsz : d.size = l.length := by rw [← hd]; simp
    have hc := AnyQ.slices_SortFunc Try.sortFacts 2 isAggF sizeOfF Elem.enc (fun _ => rfl) (fun x v hv => by
      simp [Elem.enc] at hv
      rcases hv with rfl | rfl
      · rfl
      · obtain ⟨a, c, e⟩ := sliceStr x.hs
        rw [e]; rfl) Elem.cmp (Elem.swo w g) 21 #[] g 0 cap d w enters_cmp (cmpLays w g 0 d.size) hH hgl (by omega)
    rw [hsz] at hc
    refine hc.mono ?_
    rintro e w' ⟨he, d', n, os, hp, hs, rfl⟩
    have hp' : PermIn 0 d.size d d' := by rw [hsz]; exact hp
    have hd' : d'.size = d.size := hp'.1
    have hkk := heap_sortWorld ⟨Elem.no w g⟩ Elem.enc w g 0 n d' os
    have hss := size_sortWorld ⟨Elem.no w g⟩ Elem.enc w g 0 n d' os
    refine ⟨he, d'.toList.map Elem.fact, ?_, ?_, ?_, ?_⟩
    · rw [← hd]; exact (perm_of _ hp').map _
    · rw [List.pairwise_map]
      rw [List.pairwise_iff_getElem]
      intro i j hi hj hij
      have := hs i j (Nat.zero_le _) hij (by simp at hj; omega)
      have e1 : d'[i]! = d'.toList[i] := by rw [getElem!_pos d' i (by simpa using hi)]; simp
      have e2 : d'[j]! = d'.toList[j] := by rw [getElem!_pos d' j (by simpa using hj)]; simp
      rw [e1, e2] at this
      unfold ltOf Elem.cmp at this
      rw [decide_eq_false_iff_not] at this
      have := three_cmpF.swap d'.toList[i].fact d'.toList[j].fact
      omega
    · have := holds_facts (cap := cap) d' hss hkk (Nat.lt_of_lt_of_le hgl hss) (by omega) (holdsK_sortWorldK_c Elem.enc 2 w g 0 d d' n os hH hgl hd')
      rw [hd', hsz] at this
      exact this
    · refine ⟨rfl, rfl, rfl, Nat.le_add_right _ _, hss, fun k hk ho => hkk k hk (by omega)⟩

end Go.Proofs.Ytflldbpjhcgkbaa
