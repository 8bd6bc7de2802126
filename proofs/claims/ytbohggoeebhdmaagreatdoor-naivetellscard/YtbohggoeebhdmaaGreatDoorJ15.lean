/- Texts of this claim, one behind the other. -/
import Derived.Test.YtbohggoeebhdmaaGreatDoorJ11
import Derived.Test.YtbohggoeebhdmaaGreatDoorJ14
import Derived.Shelf.SlSortCmp.WholeK
import Derived.Shelf.SlSortCmp.NoneTotal
import Derived.Test.YtbohggoeebhdmaaGreatDoorJ5
import Derived.Test.YtbohggoeebhdmaaGreatDoorJ10
import Derived.Test.YtbohggoeebhdmaaGreatDoorJ4
import Derived.Test.YtbohggoeebhdmaaGreatDoorJ12
import Derived.Laws.StructEq
/- slices.SortFunc at facts, by fact.Compare: what the row holds is sorted. -/
namespace Go.Proofs.YtbohggoeebhdmaaGreatDoor
open Go.RowKit Go.Sort Go.Shelf

/-- A fact of a row, in the sort's own words. -/
structure Elem (w : World) (blk : Nat) : Type where
  n : ByteArray
  s : Value
  args : List ByteArray
  hs : Strs w s args
  hb : ∀ k, s.ownBlock = some k → args ≠ [] → k ≠ blk

def Elem.fact {w : World} {blk : Nat} (x : Elem w blk) : FactD := (x.n, x.args)
def Elem.enc {w : World} {blk : Nat} (x : Elem w blk) : List Value := [.string x.n, x.s]
def Elem.no (w : World) (blk : Nat) : Elem w blk := ⟨ByteArray.empty, .slice none 0 0, [], ⟨by simp, none, 0, rfl, fun h => absurd rfl h⟩, fun _ _ h => absurd rfl h⟩
def Elem.cmp {w : World} {blk : Nat} (x y : Elem w blk) : Int := cmpF x.fact y.fact

theorem Elem.swo (w : World) (blk : Nat) : SWO (ltOf (Elem.cmp (w := w) (blk := blk))) where
  irrefl x := by unfold ltOf Elem.cmp; rw [three_cmpF.refl]; rfl
  trans x y z h1 h2 := by
    unfold ltOf at *
    rw [decide_eq_true_eq] at *
    exact three_cmpF.trans _ _ _ h1 h2
  ntrans x y z h1 h2 := by
    unfold ltOf at *
    rw [decide_eq_false_iff_not] at *
    have := cmpF_trans0 (a := x.fact) (b := y.fact) (c := z.fact) (Int.not_lt.1 h1) (Int.not_lt.1 h2)
    exact Int.not_lt.2 this

theorem isAggF : ∀ w, (isAgg 54).run Tryz.prog w = .ok true w := Tryz.isAgg54
theorem sizeOfF : ∀ w, (Go.sizeOf 54).run Tryz.prog w = .ok 2 w := Tryz.sizeOf54
theorem enters_cmp : ∀ args w, (callFunc 30 args).run Tryz.prog w = .ok (.enter 30 args) w := enters_of Tryz.func30 (by kernel_rfl) rfl

theorem heap_sortWorld {α : Type} (inst : Inhabited α) (enc : α → List Value) (w : World) (blk off m : Nat) (d : Array α) (os : Array Obj) (k : Nat) (hk : k < w.heap.size) (hne : k ≠ blk) :
    (@sortWorldK α inst enc 2 w blk off m d os).heap[k]? = w.heap[k]? := by
  unfold sortWorldK
  rw [heap_grow_old _ _ (by rw [size_putRowK]; exact hk)]
  simp only [putRowK, putRow, mapBlock]
  rw [Array.getElem?_modify, if_neg (fun e => hne e.symm)]
  rfl

theorem size_sortWorld {α : Type} (inst : Inhabited α) (enc : α → List Value) (w : World) (blk off m : Nat) (d : Array α) (os : Array Obj) : w.heap.size ≤ (@sortWorldK α inst enc 2 w blk off m d os).heap.size := by
  unfold sortWorldK
  rw [size_grow, size_putRowK]
  exact Nat.le_add_right _ _

theorem Elem.factV {w W : World} {blk : Nat} (x : Elem w blk) (hs : w.heap.size ≤ W.heap.size) (hk : ∀ k, k < w.heap.size → k ≠ blk → W.heap[k]? = w.heap[k]?) : FactV W (.agg #[.string x.n, x.s]) x.fact := by
  refine ⟨x.s, rfl, ?_⟩
  by_cases hl : x.args = []
  · have := x.hs
    show Strs W x.s x.args
    rw [hl] at this ⊢
    exact this.nil
  · exact x.hs.kept hs fun k e => hk k (x.hs.block_lt hl k e) (x.hb k e hl)

theorem cmpLays (w : World) (blk off size : Nat) : @CmpLays (Elem w blk) ⟨Elem.no w blk⟩ Tryz.prog 30 #[] Elem.enc 2 Elem.cmp blk off size w := by
  intro m os dk hd x y
  have hs := size_sortWorld ⟨Elem.no w blk⟩ Elem.enc w blk off m dk os
  have hk := heap_sortWorld ⟨Elem.no w blk⟩ Elem.enc w blk off m dk os
  exact (compareF _ _ x.fact y.fact _ (x.factV hs hk) (y.factV hs hk)).mono fun e w' ⟨he, hw⟩ => ⟨he, hw⟩

/-- The row's elements. -/
theorem RowF.elems {w : World} {base g n cap : Nat} {l : List FactD} (h : RowF w base (.slice (some ⟨g, 0, none⟩) n cap) l) :
    g < w.heap.size ∧ base ≤ g ∧ n = l.length ∧ ∃ d : Array (Elem w g), d.toList.map Elem.fact = l ∧ @HoldsK (Elem w g) ⟨Elem.no w g⟩ Elem.enc 2 w g 0 d := by
  obtain ⟨xs, ho, hx⟩ := h
  have ho2 := ho.2
  rcases ho2 with ⟨e, _⟩ | ⟨g', cap', cur, e, hb, hg, hnc, hcm, hcs, htake⟩
  · cases e
  · simp only [Value.slice.injEq, Option.some.injEq, Addr.mk.injEq] at e
    obtain ⟨⟨rfl, _⟩, rfl, rfl⟩ := e
    have hgl : g < w.heap.size := (Array.getElem?_eq_some_iff.1 hg).1
    refine ⟨hgl, hb, rfl, ?_⟩
    have hsv : ∀ i : Fin l.length, ∃ x : Elem w g, x.fact = l.getD i noFact ∧ xs[i.1 * 2]? = some (.string x.n) ∧ xs[i.1 * 2 + 1]? = some x.s := fun i => by
      obtain ⟨c1, s, c2, c3, c4⟩ := hx i.1 i.2
      exact ⟨⟨(l.getD i noFact).1, s, (l.getD i noFact).2, c3, fun k hk ha e => by have := c4 k hk ha; omega⟩, rfl, c1, c2⟩
    refine ⟨Array.ofFn fun i => Classical.choose (hsv i), ?_, ?_⟩
    · apply List.ext_getElem
      · simp
      · intro i h1 h2
        have := (Classical.choose_spec (hsv ⟨i, h2⟩)).1
        simp only [List.getElem_map, Array.getElem_toList, Array.getElem_ofFn]
        rw [this, List.getD_eq_getElem?_getD, List.getElem?_eq_getElem h2]; rfl
    · letI : Inhabited (Elem w g) := ⟨Elem.no w g⟩
      intro j hj
      rw [size_flatK, Array.size_ofFn] at hj
      have hj2 : j / 2 < l.length := by omega
      rw [get_flatK _ _ _ _ (by rw [Array.size_ofFn]; exact hj)]
      have e1 : (Array.ofFn fun i => Classical.choose (hsv i))[j / 2]! = Classical.choose (hsv ⟨j / 2, hj2⟩) := by
        rw [getElem!_pos _ _ (by rw [Array.size_ofFn]; exact hj2), Array.getElem_ofFn]
      rw [e1]
      have sp := (Classical.choose_spec (hsv ⟨j / 2, hj2⟩)).2
      generalize Classical.choose (hsv ⟨j / 2, hj2⟩) = x at sp
      have cellOf : ∀ u, xs[j]? = some u → w.cell? ⟨g, 0 + j, none⟩ = some u := fun u hu => by
        have := ho.cells (g := g) rfl j u hu
        rwa [Addr.add_lit] at this
      refine ⟨?_, frozen_of_row _ hg⟩
      rcases Nat.mod_two_eq_zero_or_one j with hm | hm
      · rw [hm]
        refine cellOf _ ?_
        have : j / 2 * 2 = j := by omega
        rw [← this]; exact sp.1
      · rw [hm]
        refine cellOf _ ?_
        have : j / 2 * 2 + 1 = j := by omega
        rw [← this]; exact sp.2

theorem perm_of {α : Type} (inst : Inhabited α) {d d' : Array α} (h : PermIn 0 d.size d d') : d'.toList.Perm d.toList := by
  obtain ⟨h1, _, h3⟩ := h
  have e : d'.extract 0 d.size = d' := by rw [← h1]; simp
  rw [e] at h3
  simpa using h3

theorem holds_facts {w W : World} {g cap : Nat} (d : Array (Elem w g)) (hs : w.heap.size ≤ W.heap.size) (hk : ∀ k, k < w.heap.size → k ≠ g → W.heap[k]? = w.heap[k]?) (hg : g < W.heap.size) (hd : d.size ≤ 3518437208883)
    (h : @HoldsK (Elem w g) ⟨Elem.no w g⟩ Elem.enc 2 W g 0 d) : Facts W (.slice (some ⟨g, 0, none⟩) d.size cap) (d.toList.map Elem.fact) := by
  letI : Inhabited (Elem w g) := ⟨Elem.no w g⟩
  refine ⟨by simpa using hd, some ⟨g, 0, none⟩, cap, by simp, fun _ => ⟨g, 0, rfl, hg, fun i hi => ?_⟩⟩
  have hi' : i < d.size := by simpa using hi
  have c0 := (h.cell (i := i) (c := 0) hi' (by omega)).1
  have c1 := (h.cell (i := i) (c := 1) hi' (by omega)).1
  have e : d[i]! = d[i] := getElem!_pos d i hi'
  have e2 : (d.toList.map Elem.fact).getD i noFact = d[i].fact := by
    rw [List.getD_eq_getElem?_getD, List.getElem?_map]
    simp [hi']
  rw [e2]
  rw [e] at c0 c1
  obtain ⟨s, es, hs'⟩ := d[i].factV hs hk
  simp only [Value.agg.injEq] at es
  refine ⟨c0, d[i].s, c1, ?_⟩
  have e3 : d[i].fact.fst = d[i].n ∧ s = d[i].s := by simpa using es.symm
  rw [e3.2] at hs'
  exact hs'

/-- slices.SortFunc of a row of facts, by fact.Compare. -/
theorem sortF (w : World) (base : Nat) (v : Value) (l : List FactD) (h : RowF w base v l) (hl : l.length ≤ 3518437208883) :
    Calls Tryz.prog 93 #[v, .func (.func 30) #[] #[]] w fun e w' => e = .returned (.tuple #[]) ∧ ∃ l', l'.Perm l ∧ l'.Pairwise (fun a b => cmpF a b ≤ 0) ∧ Facts w' v l' ∧ Only base w.heap.size w w' := by
  rcases h.choose_spec.1.2 with ⟨rfl, e⟩ | ⟨g, cap, cur, rfl, _⟩
  · have : l = [] := List.eq_nil_of_length_eq_zero e
    subst this
    exact (AnyF.slices_SortFunc_none Tryz.sortFacts none 0 _ w).mono fun e w' ⟨he, hw⟩ => ⟨he, [], List.Perm.refl _, List.Pairwise.nil, by rw [hw]; exact ⟨by simp, none, 0, rfl, fun h => absurd rfl h⟩, by rw [hw]; exact Only.refl _ _ _⟩
  · obtain ⟨hgl, hb, _, d, hd, hH⟩ := h.elems
    letI : Inhabited (Elem w g) := ⟨Elem.no w g⟩
    have hsz : d.size = l.length := by rw [← hd]; simp
    have hc := AnyQ.slices_SortFunc Tryz.sortFacts 2 isAggF sizeOfF Elem.enc (fun _ => rfl) (fun x v hv => by
      simp [Elem.enc] at hv
      rcases hv with rfl | rfl
      · rfl
      · obtain ⟨a, c, e⟩ := sliceStr x.hs
        rw [e]; rfl) Elem.cmp (Elem.swo w g) 30 #[] g 0 cap d w enters_cmp (cmpLays w g 0 d.size) hH hgl (by omega)
    rw [hsz] at hc
    refine hc.mono ?_
    rintro e w' ⟨he, d', n, os, hp, hs, rfl⟩
    have hp' : PermIn 0 d.size d d' := by rw [hsz]; exact hp
    have hd' : d'.size = d.size := hp'.1
    have hkk := heap_sortWorld ⟨Elem.no w g⟩ Elem.enc w g 0 n d' os
    have hss := size_sortWorld ⟨Elem.no w g⟩ Elem.enc w g 0 n d' os
    refine ⟨he, d'.toList.map Elem.fact, ?_, ?_, ?_, ?_⟩
    · rw [← hd]; exact (perm_of _ hp').map _
    · rw [List.pairwise_map]
      rw [List.pairwise_iff_getElem]
      intro i j hi hj hij
      have := hs i j (Nat.zero_le _) hij (by simp at hj; omega)
      have e1 : d'[i]! = d'.toList[i] := by rw [getElem!_pos d' i (by simpa using hi)]; simp
      have e2 : d'[j]! = d'.toList[j] := by rw [getElem!_pos d' j (by simpa using hj)]; simp
      rw [e1, e2] at this
      unfold ltOf Elem.cmp at this
      rw [decide_eq_false_iff_not] at this
      have := three_cmpF.swap d'.toList[i].fact d'.toList[j].fact
      omega
    · have := holds_facts (cap := cap) d' hss hkk (Nat.lt_of_lt_of_le hgl hss) (by omega) (holdsK_sortWorldK_c Elem.enc 2 w g 0 d d' n os hH hgl hd')
      rw [hd', hsz] at this
      exact this
    · refine ⟨rfl, rfl, rfl, Nat.le_add_right _ _, hss, fun k hk ho => hkk k hk (by omega)⟩

end Go.Proofs.YtbohggoeebhdmaaGreatDoor

/- The walks of fact.rise and fact.Of. -/
namespace Go.Proofs.YtbohggoeebhdmaaGreatDoor
open Go.RowKit Go.Sort

theorem ownsSlice {w : World} {base n : Nat} {v : Value} {xs : List Value} {e : TypeId} {sz : Nat} (h : w.ownsRow base e sz v n xs) : ∃ a cap, v = .slice a n cap := by
  rcases h.2 with ⟨rfl, rfl⟩ | ⟨g, cap, cur, rfl, _⟩
  · exact ⟨none, 0, rfl⟩
  · exact ⟨_, cap, rfl⟩

set_option maxHeartbeats 400000 in
/-- fact.rise: the set of a row's facts, in memory of its own; the row is sorted where it lies. -/
theorem rise (w : World) (base : Nat) (v : Value) (l : List FactD) (h : RowF w base v l) (hl : l.length ≤ 3518437208883) :
    Calls Tryz.prog 56 #[v] w fun e w' => ∃ v' s, e = .returned v' ∧ SetOf s l ∧ OwnF w' w.heap.size v' s ∧ Only base w.heap.size w w' := by
  have hS := hide (sortF w base v l h hl)
  obtain ⟨a, cap, rfl⟩ := ownsSlice h.choose_spec.1
  clear h
  go_enter Tryz.func56, Tryz.ntmps56
  go_wp2_with fail
  refine hS.out.mono ?_
  rintro e w1 ⟨rfl, l', hp, hs, hF, hO⟩
  have hle : l'.length = l.length := hp.length_eq
  go_wp2_with fail
  refine (unlikeLast w1).mono ?_
  rintro e w2 ⟨rfl, hL2, hz2, hlast⟩
  have hK := hide (keep 132 #[.pointer (some ⟨w1.heap.size + 1, 0, none⟩), .pointer (some ⟨w1.heap.size, 0, none⟩)] enters_ul1 w1.heap.size (w1.heap.size + 2) w1 w2 (.slice a l.length cap) l' (newP l') (LastK w1 w1.heap.size l') hF hL2 (Nat.le_refl _) (by omega) (asked_ul w1 l')
    ⟨ByteArray.empty, none, 0, 0, hlast, fun h => absurd h (Nat.lt_irrefl _)⟩)
  have HL := hide hlast
  clear hlast
  go_wp2_with fail
  refine hK.out.mono ?_
  rintro e w3 ⟨v', rfl, hOw, hO3, _⟩
  have hset := pick_new hs l'.length (Nat.le_refl _)
  rw [List.take_length] at hset
  have HS := hide hset
  have HW := hide hOw
  clear hset hOw
  go_wp2
  go_ret
  have hL13 : Later w1 w3 := hO3.later hL2 (Nat.le_refl _)
  refine ⟨v', _, rfl, ⟨HS.out.1, fun f => (HS.out.2.1 f).trans hp.mem_iff, by rw [← hle]; exact HS.out.2.2⟩, ?_, hO.trans hL13.only⟩
  have hsz : w.heap.size ≤ w2.heap.size := Nat.le_trans hO.size hL2.size
  obtain ⟨xs, ho, hx⟩ := HW.out
  refine ⟨xs, ⟨ho.1, ?_⟩, fun i hi => ?_⟩
  · rcases ho.2 with e | ⟨g, cp, cur, e, hg, r⟩
    · exact Or.inl e
    · exact Or.inr ⟨g, cp, cur, e, Nat.le_trans hsz hg, r⟩
  · obtain ⟨c1, s, c2, c3, c4⟩ := hx i hi
    exact ⟨c1, s, c2, c3, fun k hk => ⟨Nat.le_trans hsz (c4 k hk).1, (c4 k hk).2⟩⟩

set_option maxHeartbeats 400000 in
/-- fact.Of: the set of a list's facts, in memory of its own. -/
theorem ofC (v : Value) (l : List FactD) (w : World) (h : Facts w v l) :
    Calls Tryz.prog 25 #[v] w fun e w' => ∃ v' s, e = .returned v' ∧ SetOf s l ∧ OwnF w' w.heap.size v' s ∧ Later w w' := by
  have hC := hide (clone v l w h)
  have hl := h.1
  obtain ⟨a, cap, rfl⟩ := sliceFacts h
  clear h
  go_enter Tryz.func25, Tryz.ntmps25
  go_wp2_with fail
  refine hC.out.mono ?_
  rintro e w1 ⟨v1, rfl, hR, hL⟩
  have hr := hide (rise w1 w.heap.size v1 l hR hl)
  obtain ⟨a1, cap1, rfl⟩ := ownsSlice hR.choose_spec.1
  clear hR
  go_wp2_with fail
  refine hr.out.mono ?_
  rintro e w2 ⟨v2, s, rfl, hs, hO, hW⟩
  have HS := hide hs
  have HO := hide hO
  clear hs hO
  go_wp2
  go_ret
  exact ⟨v2, s, rfl, HS.out, HO.out.base hL.size, hW.later hL (Nat.le_refl _)⟩

end Go.Proofs.YtbohggoeebhdmaaGreatDoor

/- The walks of known's add and set. -/
namespace Go.Proofs.YtbohggoeebhdmaaGreatDoor
open Go.RowKit Go.Sort Go.Maps

theorem cell_not_map {w : World} {b : Nat} {es : Array MapEntry} {c : Nat} {x : Addr} {v : Value} (hb : w.heap[b]? = some (.map es c)) (hx : w.cell? x = some v) : x.block ≠ b := by
  intro e
  subst e
  simp [World.cell?, hb] at hx

theorem known_map {P : Program} {K : TypeId} {w : World} {b n : Nat} {L : List FactB} (h : KnownM P K w b n L) : ∃ es c, w.heap[b]? = some (.map es c) := by
  obtain ⟨D, ⟨es, c, hb, _⟩, _⟩ := h
  exact ⟨es, c, hb⟩

theorem strs_tn {w w' : World} {b : Nat} {v : Value} {l : List ByteArray} (h : Strs w v l) (hb : ∃ es c, w.heap[b]? = some (.map es c)) (k : Tn b w w') : Strs w' v l := by
  obtain ⟨es, c, hb⟩ := hb
  obtain ⟨h0, a, cap, rfl, h1⟩ := h
  refine ⟨h0, a, cap, rfl, fun hl => ?_⟩
  obtain ⟨b1, off, rfl, hlt, hc⟩ := h1 hl
  refine ⟨b1, off, rfl, Nat.lt_of_lt_of_le hlt k.size, fun i hi => ?_⟩
  rw [k.cell (x := ⟨b1, off + i, none⟩) hlt (cell_not_map hb (hc i hi))]
  exact hc i hi

theorem factV_tn {w w' : World} {b : Nat} {v : Value} {f : FactD} (h : FactV w v f) (hb : ∃ es c, w.heap[b]? = some (.map es c)) (k : Tn b w w') : FactV w' v f := by
  obtain ⟨s, rfl, h1⟩ := h; exact ⟨s, rfl, strs_tn h1 hb k⟩

theorem facts_tn {w w' : World} {b : Nat} {v : Value} {l : List FactD} (h : Facts w v l) (hb : ∃ es c, w.heap[b]? = some (.map es c)) (k : Tn b w w') : Facts w' v l := by
  obtain ⟨h0, a, cap, rfl, h1⟩ := h
  refine ⟨h0, a, cap, rfl, fun hl => ?_⟩
  obtain ⟨b1, off, rfl, hlt, hc⟩ := h1 hl
  refine ⟨b1, off, rfl, Nat.lt_of_lt_of_le hlt k.size, fun i hi => ?_⟩
  obtain ⟨c1, s, c2, c3⟩ := hc i hi
  obtain ⟨es, c, hb'⟩ := hb
  exact ⟨by rw [k.cell (x := ⟨b1, off + i * 2, none⟩) hlt (cell_not_map hb' c1)]; exact c1, s, by rw [k.cell (x := ⟨b1, off + i * 2 + 1, none⟩) hlt (cell_not_map hb' c2)]; exact c2, strs_tn c3 ⟨es, c, hb'⟩ k⟩

theorem tn_of_grown {b : Nat} {w w' : World} (h : w.grownBy w' (some b)) : Tn b w w' := ⟨h.os, h.tape, h.output, h.size, fun k hk hb => h.block k hk (fun e => hb (by cases e; rfl))⟩

abbrev KnN (w : World) (b n : Nat) (L : List FactB) : Prop := KnownM Tryz.prog 9 w b n L

set_option maxHeartbeats 2000000 in
theorem knownAdd (b n : Nat) (L : List FactB) (v : Value) (l : List FactB) (w : World) (hK : KnN w b n L) (hv : Facts w v l) (hs : ∀ f ∈ l, ShortF f) (hn : n + l.length < 1000000) :
    Calls Tryz.prog 46 #[.map (some b), v] w fun e w' => (∃ u, e = .returned u) ∧ KnN w' b (n + l.length) (L ++ l) ∧ Tn b w w' := by
  obtain ⟨a, cap, rfl, hl, hz⟩ := hv.addr
  have hM := known_map hK
  have HM := hide hM
  have HV := hide hv
  have HS := hide hs
  have HK : Hid (KnN w b (n + 0) (L ++ l.take 0)) := by show KnN _ _ _ _; simpa using hK
  clear hv hs hK hM
  go_enter Tryz.func46, Tryz.ntmps46
  go_wp2
  go_loopg [8] l.length (fun k i wr => ∃ j : Nat, j + k = l.length ∧ i = .int .i64 j ∧ Hid (KnN wr b (n + j) (L ++ l.take j)) ∧ Hid (Tn b w wr))
  case atStart => exact ⟨0, by omega, rfl, HK, Tn.refl _ _⟩
  case round =>
    clear HK
    obtain ⟨j, hj, rfl, HK, HT⟩ := hrel
    by_cases hlt : j < l.length
    · rcases hz with rfl | ⟨b1, off, rfl⟩
      · simp at hlt
      have hltz : (j : Int) < (l.length : Int) := by omega
      have hFr := facts_tn HV.out HM.out HT.out
      obtain ⟨hb, ax, lx, cx, g1, g2, fx⟩ := hFr.at hlt
      have hfm : l.getD j noFact ∈ l := by rw [List.getD_eq_getElem?_getD, List.getElem?_eq_getElem hlt]; exact List.getElem_mem hlt
      have htk : l.take (j + 1) = l.take j ++ [l.getD j noFact] := by rw [List.take_add_one, List.getD_eq_getElem?_getD, List.getElem?_eq_getElem hlt]; rfl
      have hsh := HS.out _ hfm
      obtain ⟨wb, hwb⟩ : ∃ wb, wb = wr.alloc (.cells #[.string (l.getD j noFact).1, .slice ax lx cx] 54) := ⟨_, rfl⟩
      have hLb : Later wr wb := by rw [hwb]; exact (Later.refl _).alloc _
      have hrb : wb.heap[wr.heap.size]? = some (.cells #[.string (l.getD j noFact).1, .slice ax lx cx] 54 (0, 0)) := by rw [hwb]; exact heap_alloc_new wr _
      have hfb := fx.later hLb
      have hKb := HK.out.later hLb
      have HC : Hid (∀ w', Below wb.heap.size wb w' → Calls Tryz.prog 76 #[.agg #[.string (l.getD j noFact).1, .slice ax lx cx]] w' fun e w'' => e = .returned (.string (bs (keyF (l.getD j noFact)))) ∧ Hid (Below wb.heap.size wb w'')) := fun w' hw =>
        (apartC _ _ w' (factV_below hfb hw) hsh).mono fun e w'' ⟨he, h2⟩ => ⟨he, below_trans hw h2 hw.size⟩
      have hcell : ∀ w', Below wb.heap.size wb w' → w'.cell? ⟨wr.heap.size, 0, none⟩ = some (.string (l.getD j noFact).1) ∧ w'.cell? ⟨wr.heap.size, 0 + 1, none⟩ = some (.slice ax lx cx) := fun w' hw => by
        have hlt' : wr.heap.size < wb.heap.size := (Array.getElem?_eq_some_iff.1 hrb).1
        constructor
        · rw [hw.cell (p := ⟨wr.heap.size, 0, none⟩) hlt', cell_of_row _ _ _ _ _ _ hrb]; rfl
        · rw [hw.cell (p := ⟨wr.heap.size, 0 + 1, none⟩) hlt', cell_of_row _ _ _ _ _ _ hrb]; rfl
      have HU : Hid (∀ w', Below wb.heap.size wb w' → ∃ w'', (Instr.mapUpdate 81 (.map (some b)) (.string (bs (keyF (l.getD j noFact)))) (.agg #[.string (l.getD j noFact).1, .slice ax lx cx])).run Tryz.prog w' = .ok () w'' ∧ KnN w'' b (n + (j + 1)) (L ++ l.take (j + 1)) ∧ Tn b w w'' ∧ w''.cell? ⟨wr.heap.size, 0, none⟩ = some (.string (l.getD j noFact).1) ∧ w''.cell? ⟨wr.heap.size, 0 + 1, none⟩ = some (.slice ax lx cx)) := fun w' hw => by
        have hK' : KnN w' b (n + j) (L ++ l.take j) := hKb.below hw
        have hf' := factV_below hfb hw
        have hkl := keyF_len hsh
        obtain ⟨w'', hrun, hg, hkn⟩ := hK'.store Tryz.underlying9 Tryz.underlying81 (by unfold maxLen; omega) hf' (by unfold maxLen; omega)
        refine ⟨w'', hrun, ?_, ?_, ?_⟩
        · rw [htk, ← List.append_assoc, show n + (j + 1) = n + j + 1 by omega]
          exact hkn fun g _ u hu => factV_tn hu (known_map hK') (tn_of_grown hg)
        · exact ((HT.out.trans (Tn.of_below hLb.below)).trans (Tn.of_below hw)).trans (tn_of_grown hg)
        · have hblt : b < wr.heap.size := HK.out.lt
          have hlt' : wr.heap.size < w'.heap.size := Nat.lt_of_lt_of_le (Array.getElem?_eq_some_iff.1 hrb).1 hw.size
          obtain ⟨q0, q1⟩ := hcell w' hw
          exact ⟨by rw [(tn_of_grown hg).cell (x := ⟨wr.heap.size, 0, none⟩) hlt' (by show wr.heap.size ≠ b; omega)]; exact q0, by rw [(tn_of_grown hg).cell (x := ⟨wr.heap.size, 0 + 1, none⟩) hlt' (by show wr.heap.size ≠ b; omega)]; exact q1⟩
      have HCell := hide hcell
      generalize bs (keyF (l.getD j noFact)) = kb at *
      generalize (l.getD j noFact).1 = nk at *
      clear hcell htk hsh hfm hrb hfb hKb hFr fx hLb
      go_wp2
      rw [← hwb]
      clear hwb
      refine wp_region_held_drew (S := fun w' => w'.cell? ⟨wr.heap.size, 0, none⟩ = some (.string nk) ∧ w'.cell? ⟨wr.heap.size, 0 + 1, none⟩ = some (.slice ax lx cx)) (by kernel_rfl) (HCell.out _ (Below.refl _ _).drew) (fun hHeld => ?_)
      refine take_at (i := 0) (d := some 12) (v := ?_) rfl rfl (by kernel_rfl) (by kernel_rfl) (by kernel_rfl) (fun _ _ _ h => h) (Or.inl ⟨by rfl, ?_⟩) hHeld ?_
      rotate_left
      · intro w hSw; (try dsimp only at hSw);  go_simp; try with_reducible rfl
      simp only [Act.put, List.setIfInBounds_toArray, List.set_cons_zero, List.set_cons_succ]
      refine take_at (i := 1) (d := some 13) (v := ?_) rfl rfl (by kernel_rfl) (by kernel_rfl) (by kernel_rfl) (fun _ _ _ h => h) (Or.inl ⟨by rfl, ?_⟩) hHeld ?_
      rotate_left
      · intro w hSw; (try dsimp only at hSw); obtain ⟨q0, q1⟩ := hSw; go_simp; try with_reducible rfl
      simp only [Act.put, List.setIfInBounds_toArray, List.set_cons_zero, List.set_cons_succ]
      refine take_at (i := 3) (d := some 15) (v := ?_) rfl rfl (by kernel_rfl) (by kernel_rfl) (by kernel_rfl) (fun _ _ _ h => h) (Or.inl ⟨by rfl, ?_⟩) hHeld ?_
      rotate_left
      · intro w hSw; (try dsimp only at hSw); obtain ⟨q0, q1⟩ := hSw; go_simp; try with_reducible rfl
      simp only [Act.put, List.setIfInBounds_toArray, List.set_cons_zero, List.set_cons_succ]
      refine wpAnyH_ready (rs := [2]) (by kernel_rfl) (by simp) ?_
      refine AllReadyH.cons rfl (fun K hK => ?_) AllReadyH.nil
      go_simp
      refine (HC.out _ (Below.refl _ _).drew).mono ?_
      rintro e w5 ⟨rfl, hB5⟩
      dsimp only
      refine hK.out _ _ (HCell.out _ hB5.out) (fun hHeld => ?_)
      clear hK K
      refine wpAnyH_ready (rs := [4]) (by kernel_rfl) (by simp) ?_
      obtain ⟨w6, hrun, hK6, hT6, hc6⟩ := HU.out _ hB5.out
      have HK6 := hide hK6
      have HT6 := hide hT6
      clear hK6 hT6
      refine AllReadyH.cons rfl (fun K hK => ?_) AllReadyH.nil
      go_simp
      refine hK.out _ _ hc6 (fun hHeld => ?_)
      clear hK K
      refine wpAnyH_done (by kernel_rfl) ?_ _
      clear hc6 hHeld hrun
      go_wp2
      go_roundg (l.length - (j + 1))
      case measure => omega
      case rel => exact ⟨j + 1, by omega, by go_num, HK6, HT6⟩
    · have hj' : j = l.length := by omega
      subst hj'
      rw [List.take_length] at HK
      go_wp2
      go_end0
      exact ⟨⟨_, rfl⟩, HK.out, HT.out⟩

set_option maxHeartbeats 1000000 in
theorem knownSet (b n : Nat) (L : List FactB) (w : World) (hK : KnN w b n L) (hn : n ≤ 1000000) :
    Calls Tryz.prog 47 #[.map (some b)] w fun e w' => ∃ v', e = .returned v' ∧ Facts w' v' (setF L) ∧ Below w.heap.size w w' := by
  obtain ⟨D, hown, h1, h2, h3⟩ := hK
  have hsz : Maps.size D ≤ 3518437208883 := by have := hown.size_le; omega
  have hL1 : Later w (w.alloc (.cells #[.map (some b)] 81)) := (Later.refl w).alloc _
  have hr1 : (w.alloc (.cells #[.map (some b)] 81)).heap[w.heap.size]? = some (.cells #[.map (some b)] 81 (0, 0)) := heap_alloc_new w _
  have HV := hide (valuesC (some b) w)
  have HC := hide (collectC b n w.heap.size D (w.alloc (.cells #[.map (some b)] 81)) (by simp) (by rw [cell_of_row _ _ _ _ _ _ hr1]; rfl) (owns_block hown (hL1.block hown.lt)) hsz)
  have H1 := hide h1
  have H2 : Hid (∀ f ∈ L, ∃ x, D.atKey (.string (keyF f)) .nil = .held x ∧ FactV (w.alloc (.cells #[.map (some b)] 81)) (encT x) f) := fun f hf => by
    obtain ⟨x, e, hx⟩ := h2 f hf; exact ⟨x, e, hx.later hL1⟩
  have HL1 := hide hL1.below
  clear h1 h2 h3 hown hL1 hr1
  go_enter Tryz.func47, Tryz.ntmps47
  go_wp2_with fail
  refine HV.out.mono ?_
  rintro e w1 ⟨rfl, rfl⟩
  clear HV
  go_wp2_with fail
  refine HC.out.mono ?_
  rintro e w2 ⟨v, xs, rfl, ⟨ps, hA, rfl⟩, hr, hB⟩
  obtain ⟨l, hl, hF⟩ := known_facts H1.out H2.out hsz hA hr hB
  have HO := hide (ofC v l w2 hF)
  have HB : Hid (Below w.heap.size w w2) := below_trans HL1.out hB (by simp)
  have HLL := hide hl
  have hl0 := hF.1
  obtain ⟨a, cap, rfl⟩ := sliceFacts hF
  clear hA hr hB hl hF HC H1 H2 HL1
  go_wp2_with fail
  refine HO.out.mono ?_
  rintro e w3 ⟨v', s, rfl, hS, hOw, hL3⟩
  have es : s = setF L := setF_of hS.1 fun f => by rw [hS.2.1 f, HLL.out f]
  have HF : Hid (Facts w3 v' (setF L)) := by rw [← es]; exact hOw.facts (Nat.le_trans hS.2.2 hl0)
  have HB3 : Hid (Below w.heap.size w w3) := below_trans HB.out hL3.below HB.out.size
  clear hS hOw hL3 es
  go_wp2
  go_ret
  exact ⟨v', rfl, HF.out, HB3.out⟩

end Go.Proofs.YtbohggoeebhdmaaGreatDoor

/- The walks of the reference's LessBinds and SameBinds (where both hold the same), and of match.All. -/
namespace Go.Proofs.YtbohggoeebhdmaaGreatDoor
open Go.RowKit Go.Sort

theorem neqBind (x y : BindD) (w : World) : (binOp .neq 147 (.agg #[.string x.1, .string x.2]) (.agg #[.string y.1, .string y.2])).run Tryz.prog w = .ok (.bool (!decide (x = y))) w := by
  have e : decide (x = y) = (x.1.toList == y.1.toList && x.2.toList == y.2.toList) := by
    rw [eq_list, eq_list]
    obtain ⟨x1, x2⟩ := x
    obtain ⟨y1, y2⟩ := y
    rw [Bool.eq_iff_iff]; simp
  rw [e]
  generalize x.1 = a
  generalize x.2 = b
  generalize y.1 = c
  generalize y.2 = d
  go_simp
  by_cases h1 : a.toList = c.toList <;> by_cases h2 : b.toList = d.toList <;> simp [h1, h2]

def lessBs (l m : List BindD) : Bool := decide (cmpBs l m < 0)

theorem lessBs_step {l m : List BindD} {j : Nat} {x y : BindD} (hx : l[j]? = some x) (hy : m[j]? = some y) : lessBs (l.drop j) (m.drop j) = if x = y then lessBs (l.drop (j + 1)) (m.drop (j + 1)) else decide (cmpB x y < 0) := by
  obtain ⟨h1, e1⟩ := List.getElem?_eq_some_iff.1 hx
  obtain ⟨h2, e2⟩ := List.getElem?_eq_some_iff.1 hy
  rw [List.drop_eq_getElem_cons h1, List.drop_eq_getElem_cons h2, e1, e2]
  unfold lessBs
  show decide ((if cmpB x y ≠ 0 then cmpB x y else cmpX cmpB _ _) < 0) = _
  by_cases h : x = y
  · rw [if_pos h, if_neg (by rw [h, three_cmpB.refl]; simp)]
  · rw [if_neg h, if_pos (fun e => h (three_cmpB.zero _ _ e))]

theorem cmpB_lt (x y : BindD) : decide (cmpB x y < 0) = (Op.bytesLess x.1.toList y.1.toList || (x.1.toList == y.1.toList && Op.bytesLess x.2.toList y.2.toList)) := by
  unfold cmpB
  by_cases h : x.1.toList = y.1.toList
  · have h' : (x.1.toList == y.1.toList) = true := by simpa using h
    rw [if_neg (by rw [cmpS_eq h']; simp), cmpS_lt, h', h, bl_irrefl]; rfl
  · have h' : (x.1.toList == y.1.toList) = false := by simpa using h
    rw [if_pos (cmpS_ne h'), cmpS_lt, h']; simp

theorem facts_nil (w : World) : Facts w (.slice none 0 0) [] := ⟨by simp, none, 0, rfl, fun h => absurd rfl h⟩

set_option maxHeartbeats 1000000 in
theorem allC (body : List AtomD) (v fv : Value) (fs : List FactD) (w : World) (hv : atomK.sl Anyw w v body) (hf : Facts w fv fs) :
    Calls Tryz.prog 28 #[v, fv] w fun e w' => ∃ v' er, e = .returned (.tuple #[v', .int .i64 er]) ∧ WithT w' v' er body fs (-1) [] ∧ Below w.heap.size w w' := by
  have HW := hide (withC body v fv (.slice none 0 0) fs [] (-1) w hv hf (facts_nil w))
  obtain ⟨a, cap, rfl⟩ := Kind.slice hv
  obtain ⟨fa, fc, rfl⟩ := sliceFacts hf
  clear hv hf
  go_enter Tryz.func28, Tryz.ntmps28
  go_wp2_with fail
  refine HW.out.mono ?_
  rintro e w1 ⟨v', er, rfl, hT, hB⟩
  have HT := hide hT
  have HB := hide hB
  clear hT hB HW
  go_wp2
  go_ret2
  exact ⟨v', er, rfl, HT.out, HB.out⟩

theorem pick_all' {fs : List FactD} : pickB fs (-1) [] = fun _ => fs := by
  funext n
  unfold pickB
  rw [if_neg (by omega)]

end Go.Proofs.YtbohggoeebhdmaaGreatDoor
