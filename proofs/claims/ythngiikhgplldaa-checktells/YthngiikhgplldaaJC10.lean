/- Texts of this claim, one behind the other. -/
import Derived.Test.YthngiikhgplldaaJC3
import Derived.Test.YthngiikhgplldaaJC8
import Derived.Test.YthngiikhgplldaaJC9
/- append of many elements onto a row of a call's own. -/
namespace Go.Proofs.Ythngiikhgplldaa
open Go.RowKit Go.Sort

theorem flat_get {size : Nat} : ∀ (cs : List (List Value)), (∀ c ∈ cs, c.length = size) → ∀ i c j, cs[i]? = some c → j < size → cs.flatten[i * size + j]? = c[j]?
  | [], _, i, c, j, h, _ => by simp at h
  | d :: cs, hl, i, c, j, h, hj => by
    have hd : d.length = size := hl d (by simp)
    cases i with
    | zero =>
      simp at h; subst h
      rw [List.flatten_cons, Nat.zero_mul, Nat.zero_add, List.getElem?_append_left (by omega)]
    | succ i =>
      have ih := flat_get cs (fun c hc => hl c (by simp [hc])) i c j (by simpa using h) hj
      rw [List.flatten_cons, List.getElem?_append_right (by rw [Nat.add_mul]; omega), show (i + 1) * size + j - d.length = i * size + j by rw [Nat.add_mul]; omega]
      exact ih

theorem flat_len {size : Nat} : ∀ (cs : List (List Value)), (∀ c ∈ cs, c.length = size) → cs.flatten.length = cs.length * size
  | [], _ => by simp
  | d :: cs, hl => by
    have := flat_len cs (fun c hc => hl c (by simp [hc]))
    have hd : d.length = size := hl d (by simp)
    rw [List.flatten_cons, List.length_append, this, hd, List.length_cons, Nat.add_mul]; omega

theorem Kind.sl_cells {α : Type} {K : Kind α} {B : Nat → Prop} {w : World} {a : Addr} {n cap : Nat} {m : List α} (h : K.sl B w (.slice (some a) n cap) m) (hsz : 0 < K.size) :
    ∃ cs : List (List Value), cs.length = m.length ∧ (∀ c ∈ cs, c.length = K.size) ∧ (∀ c ∈ cs, ∀ u ∈ c, u.oneCell' = true) ∧ (∀ (j : Nat) (u : Value), cs.flatten[j]? = some u → w.cell? (a.add j) = some u) ∧ ∀ (i : Nat) (c : List Value) (x : α), cs[i]? = some c → m[i]? = some x → K.is B w c x := by
  by_cases hm : m = []
  · subst hm
    exact ⟨[], rfl, by simp, by simp, by simp, fun i c x h => by simp at h⟩
  obtain ⟨_, a', cap', e, h1⟩ := h
  simp only [Value.slice.injEq] at e
  obtain ⟨rfl, _, _⟩ := e
  obtain ⟨b, off, e, _, hb, hc⟩ := h1 hm
  simp only [Option.some.injEq] at e
  subst e
  have key : ∀ i : Fin m.length, ∃ c, K.is B w c m[i.1] ∧ ∀ j u, c[j]? = some u → w.cell? ⟨b, off + i.1 * K.size + j, none⟩ = some u := fun i => hc i.1 _ (List.getElem?_eq_getElem i.2)
  have get : ∀ i, (List.ofFn fun i : Fin m.length => Classical.choose (key i))[i]? = if h : i < m.length then some (Classical.choose (key ⟨i, h⟩)) else none := fun i => by rw [List.getElem?_ofFn]
  have hl : ∀ c ∈ List.ofFn fun i : Fin m.length => Classical.choose (key i), c.length = K.size := fun c hc => by
    rw [List.mem_ofFn] at hc
    obtain ⟨i, rfl⟩ := hc
    exact K.len (Classical.choose_spec (key i)).1
  refine ⟨List.ofFn fun i : Fin m.length => Classical.choose (key i), by simp, hl, fun c hc => ?_, fun j u hu => ?_, fun i c x hi hx => ?_⟩
  · rw [List.mem_ofFn] at hc
    obtain ⟨i, rfl⟩ := hc
    exact K.one (Classical.choose_spec (key i)).1
  · have hj := (List.getElem?_eq_some_iff.1 hu).1
    rw [flat_len _ hl, List.length_ofFn] at hj
    have hq : j / K.size < m.length := (Nat.div_lt_iff_lt_mul hsz).2 hj
    have hr : j % K.size < K.size := Nat.mod_lt _ hsz
    have hjq : j / K.size * K.size + j % K.size = j := by rw [Nat.mul_comm]; exact Nat.div_add_mod j K.size
    have hg := get (j / K.size)
    rw [dif_pos hq] at hg
    have := flat_get _ hl _ _ (j % K.size) hg hr
    rw [hjq, hu] at this
    have hcell := (Classical.choose_spec (key ⟨j / K.size, hq⟩)).2 _ u this.symm
    rw [Addr.add_lit]
    rw [show off + j / K.size * K.size + j % K.size = off + j by omega] at hcell
    exact hcell
  · rw [get] at hi
    split at hi
    · rename_i h
      rw [List.getElem?_eq_getElem h] at hx
      cases hi; cases hx
      exact (Classical.choose_spec (key ⟨i, h⟩)).1
    · cases hi

end Go.Proofs.Ythngiikhgplldaa

/- The walk of the reference's WrongProgram. -/
namespace Go.Proofs.Ythngiikhgplldaa
open Go.RowKit Go.Sort Go.Maps

/-- append of a slice of atoms that was there. -/
theorem RowA.many {w0 w : World} {lo : Nat} {v : Value} {l m : List AtomD} {a : Option Addr} {cap : Nat} (h : RowA w0 lo w v l) (hlo : lo ≤ w.heap.size) (hb : Below w0.heap.size w0 w) (hm : atomK.sl Anyw w0 (.slice a m.length cap) m) (hl : (l.length + m.length) * 48 ≤ 140737488355328) :
    ∃ v' w', (Builtin.append_ #[31, 31] 31 #[v, .slice a m.length cap]).run Try.prog w = .ok v' w' ∧ RowA w0 lo w' v' (l ++ m) ∧ w.grownBy w' v.ownBlock := by
  obtain ⟨i, i1, i2, i3, i4⟩ := infoAtom4
  obtain ⟨xs, ho, hx⟩ := h
  cases a with
  | none =>
    have hm0 : m = [] := by
      refine Classical.byContradiction fun hne => ?_
      obtain ⟨_, a', _, e, h1⟩ := hm
      simp only [Value.slice.injEq] at e
      obtain ⟨b, off, e', _⟩ := h1 hne
      rw [e'] at e; cases e.1
    subst hm0
    refine ⟨v, w, ?_, by rw [List.append_nil]; exact ⟨xs, ho, hx⟩, ⟨rfl, rfl, rfl, Nat.le_refl _, fun _ _ _ => rfl⟩⟩
    rcases ho.2 with ⟨rfl, e0⟩ | ⟨g, c, cur, rfl, _, _, hnc, _⟩
    · simp [Builtin.append_, run_underlying Try.underlying31, sizeOf, typeInfo, i1, Builtin.lenOf, Builtin.firstCells]
    · simp [Builtin.append_, run_underlying Try.underlying31, sizeOf, typeInfo, i1, Builtin.lenOf, Builtin.firstCells, hnc, storeCells]
  | some a =>
    obtain ⟨cs, cl, clen, cone, ccell, cis⟩ := Kind.sl_cells hm (by decide)
    have hxl : xs.length = l.length * 3 := ho.1
    obtain ⟨v', w', hrun, r1, r2, _, _⟩ := append_own (P := Try.prog) w lo 31 31 30 i _ 3 48 Try.underlying31 i1 i2 i3 i4 rfl (by omega) v l.length xs ho a m.length cap cs.flatten (by rw [flat_len _ clen, cl]; rfl)
      (fun j u hu => by
        have hc := ccell j u hu
        rw [hb.cell (World.block_lt_of_cell? w0 _ hc)]; exact hc)
      (fun u hu => by rw [List.mem_flatten] at hu; obtain ⟨c, hc, hu⟩ := hu; exact cone c hc u hu) (by simp only [maxLen]; omega) hl hlo
    refine ⟨v', w', hrun, ⟨xs ++ cs.flatten, by rw [List.length_append]; exact r1, fun j y hj => ?_⟩, r2⟩
    by_cases hjl : j < l.length
    · rw [List.getElem?_append_left hjl] at hj
      obtain ⟨d, d1, d2⟩ := hx j y hj
      refine ⟨d, d1, fun q u hu => ?_⟩
      have := d2 q u hu
      rw [List.getElem?_append_left (List.getElem?_eq_some_iff.1 this).1]; exact this
    · rw [List.getElem?_append_right (by omega)] at hj
      have hjm := (List.getElem?_eq_some_iff.1 hj).1
      have hc : cs[j - l.length]? = some (cs[j - l.length]'(by omega)) := List.getElem?_eq_getElem (by omega)
      refine ⟨_, cis _ _ y hc hj, fun q u hu => ?_⟩
      have hq : q < 3 := by
        have := clen _ (List.getElem_mem (by omega : j - l.length < cs.length))
        have h2 := (List.getElem?_eq_some_iff.1 hu).1
        rw [this] at h2; exact h2
      have := flat_get cs clen _ _ q hc hq
      rw [List.getElem?_append_right (by omega), hxl, show j * 3 + q - l.length * 3 = (j - l.length) * 3 + q by omega]
      exact this.trans hu

/-- The reference keeps one more. -/
def more (m : Nums) : Nums := fun s => (m s).map (· + 1)

theorem more_put (m : Nums) (s : Bs) (n : Nat) : (more m).put s (n + 1) = more (m.put s n) := by
  funext t
  unfold more Nums.put
  by_cases h : t = s
  · simp [h]
  · simp [h]

theorem put_self {m : Nums} {s : Bs} {n : Nat} (h : m s = some n) : m.put s n = m := by
  funext t
  unfold Nums.put
  by_cases e : t = s
  · rw [if_pos e, e, h]
  · rw [if_neg e]

theorem fitOne_none {m : Nums} {a : AtomD} (h : m a.name = none) : fitOne m a = (true, m.put a.name a.terms.length) := by unfold fitOne; rw [h]
theorem fitOne_some {m : Nums} {a : AtomD} {n : Nat} (h : m a.name = some n) : fitOne m a = (decide (n = a.terms.length), m) := by unfold fitOne; rw [h]

theorem wrongRule_fit {m : Nums} {r : RuleD} (h0 : wrongAtom r.head = 0) (hn : r.head.no = false) (hb : wrongBody r.body = 0) (hv : (vars r.head).all (givenBy r.body) = true) :
    wrongRule m r = (if (fitAll m (r.head :: r.body)).1 then 0 else 8, (fitAll m (r.head :: r.body)).2) := by
  have hfa : fitAll m (r.head :: r.body) = if (fitOne m r.head).1 then fitAll (fitOne m r.head).2 r.body else (false, (fitOne m r.head).2) := rfl
  generalize fitAll m (r.head :: r.body) = X at *
  unfold wrongRule
  rw [if_pos h0, hn, if_pos hb, hv]
  by_cases h1 : (fitOne m r.head).1 = true
  · rw [if_pos h1] at hfa
    subst hfa
    simp [h1]
  · rw [if_neg h1] at hfa
    subst hfa
    simp [h1]

end Go.Proofs.Ythngiikhgplldaa

/- The walk of the reference's WrongProgram (by mkcrg.py). -/
namespace Go.Proofs.Ythngiikhgplldaa
open Go.RowKit Go.Sort Go.Maps

/-- What stands in a round of it: the answer's cells, the rule and its number in boxes, the map. -/
structure PB (w wr : World) (j : Int) (c0 c1 c2 c3 : Value) (n : Nat) (m : Nums) (w' : World) : Prop where
  below : Below w.heap.size w w'
  row : w'.heap[w.heap.size]? = some (.cells #[.int .i64 0, .int .i64 0] 26 (0, 0))
  i : w'.cell? ⟨wr.heap.size, 0, none⟩ = some (.int .i64 j)
  cells : w'.cell? ⟨wr.heap.size + 1, 0, none⟩ = some c0 ∧ w'.cell? ⟨wr.heap.size + 1, 1, none⟩ = some c1 ∧ w'.cell? ⟨wr.heap.size + 1, 2, none⟩ = some c2 ∧ w'.cell? ⟨wr.heap.size + 1, 3, none⟩ = some c3 ∧ wr.heap.size + 1 < w'.heap.size
  lo : w.heap.size + 2 ≤ wr.heap.size
  map : NumsM w' (w.heap.size + 1) n m

theorem PB.turned {w wr w1 w2 : World} {j : Int} {c0 c1 c2 c3 : Value} {n n' : Nat} {m m' : Nums} (h : PB w wr j c0 c1 c2 c3 n m w1) (k : Tn (w.heap.size + 1) w1 w2) (hm : NumsM w2 (w.heap.size + 1) n' m') : PB w wr j c0 c1 c2 c3 n' m' w2 := by
  have hl := h.cells.2.2.2.2
  have hlo := h.lo
  have e : ∀ q, w2.cell? ⟨wr.heap.size + 1, q, none⟩ = w1.cell? ⟨wr.heap.size + 1, q, none⟩ := fun q => k.cell (x := ⟨wr.heap.size + 1, q, none⟩) hl (by show wr.heap.size + 1 ≠ _; omega)
  refine ⟨below_trans h.below (k.below (n := w.heap.size) (by omega) (by have := h.below.size; omega)) (Nat.le_refl _), by rw [k.block _ (by omega) (by omega)]; exact h.row, ?_, ⟨by rw [e]; exact h.cells.1, by rw [e]; exact h.cells.2.1, by rw [e]; exact h.cells.2.2.1, by rw [e]; exact h.cells.2.2.2.1, Nat.lt_of_lt_of_le hl k.size⟩, hlo, hm⟩
  rw [k.cell (x := ⟨wr.heap.size, 0, none⟩) (by show wr.heap.size < _; omega) (by show wr.heap.size ≠ _; omega)]; exact h.i
theorem PB.below' {w wr w1 w2 : World} {j : Int} {c0 c1 c2 c3 : Value} {n : Nat} {m : Nums} (h : PB w wr j c0 c1 c2 c3 n m w1) (k : Below w1.heap.size w1 w2) : PB w wr j c0 c1 c2 c3 n m w2 := h.turned (Tn.of_below k) (h.map.below k)

/-- What is asked of texts' lengths. -/
def longR (r : RuleD) : Prop := longA r.head ∧ ∀ a ∈ r.body, longA a

set_option maxRecDepth 100000 in
set_option maxHeartbeats 8000000 in
theorem rWrongProgram (p : List RuleD) (v : Value) (w : World) (hv : ruleK.sl Anyw w v p) (hk : ∀ r ∈ p, longR r) :
    Calls Try.prog 5 #[v] w fun e w' => e = .returned (.agg #[.int .i64 (wrongP p).1, .int .i64 ((wrongP p).2 : Nat)]) ∧ Below w.heap.size w w' := by
  obtain ⟨sa, cap, rfl⟩ := Kind.slice hv
  have hl0 := hv.1.1
  have HV := hide hv
  have HK := hide hk
  clear hv hk
  by_cases h16 : 16 < p.length
  · have F : Hid (wrongP p = (5, 0)) := by show _ = _; unfold wrongP; rw [if_pos h16]
    go_enter Try.func5, Try.ntmps5
    go_wp2
    exact bodyPost_ret (v := .agg #[.int .i64 5, .int .i64 0]) (by simp [results, Try.results5, go_sem]) rfl ⟨by rw [F.out]; rfl, ((by repeat (first | exact Later.refl _ | assumption | refine Later.drewN ?_ _ | refine Later.drew ?_ | refine Later.alloc ?_ _ | refine Later.grow ?_ _)) : Later w _).below⟩
  · have F : Hid (wrongP p = wrongGo (fun _ => none) 0 p) := by show _ = _; unfold wrongP; rw [if_neg h16]
    have hmm := @run_makeMap Try.prog
    go_enter Try.func5, Try.ntmps5
    go_wp2
    go_loopg [20] p.length (fun k i wr => ∃ j : Nat, j + k = p.length ∧ i = .int .i64 j ∧ ∃ m, Hid (wrongP p = wrongGo m j (p.drop j)) ∧ Hid (NumsM wr (w.heap.size + 1) (6 * j) (more m)) ∧ Hid (Below w.heap.size w wr) ∧ Hid (wr.heap[w.heap.size]? = some (.cells #[.int .i64 0, .int .i64 0] 26 (0, 0))) ∧ w.heap.size + 2 ≤ wr.heap.size)
    case atStart =>
      refine ⟨0, by omega, rfl, fun _ => none, F.out, ?_, ?_, ?_, by simp⟩
      · have := NumM.made Try.prog 9 3 (w.alloc (.cells #[.int .i64 0, .int .i64 0] 26))
        rw [World.size_alloc] at this
        exact this
      · exact (((Later.refl w).alloc _).alloc _).below
      · show _ = _
        rw [Below.heap_alloc _ _ _ (by simp), heap_alloc_new]
    case round =>
      obtain ⟨j, hj, rfl, m, HE, HM, HB, HR, hsz⟩ := hrel
      by_cases hlt : j < p.length
      · obtain ⟨r, hr⟩ : ∃ x, p[j]? = some x := ⟨_, List.getElem?_eq_getElem hlt⟩
        obtain ⟨b1, o1, _, rfl, hb1, ⟨sv, su, rfl, hsv, hsu⟩, hc⟩ := Kind.sl_at HV.out hr
        have d0 : wr.cell? ⟨b1, o1 + j * 4, none⟩ = some (.bool r.head.no) := by rw [HB.out.cell hb1]; exact hc 0 _ rfl
        have d1 : wr.cell? ⟨b1, o1 + j * 4 + 1, none⟩ = some (.string (bs r.head.name)) := by rw [HB.out.cell hb1]; exact hc 1 _ rfl
        have d2 : wr.cell? ⟨b1, o1 + j * 4 + 2, none⟩ = some sv := by rw [HB.out.cell hb1]; exact hc 2 _ rfl
        have d3 : wr.cell? ⟨b1, o1 + j * 4 + 3, none⟩ = some su := by rw [HB.out.cell hb1]; exact hc 3 _ rfl
        have hbr : b1 < wr.heap.size := by omega
        have hst := wrongGo_step hr m j
        have hlr := HK.out r (List.mem_of_getElem? hr)
        obtain ⟨wA, hwA⟩ : ∃ wA, wA = (wr.alloc (.cells #[.int .i64 j] 3)).alloc (.cells #[.bool r.head.no, .string (bs r.head.name), sv, su] 33) := ⟨_, rfl⟩
        have hLA : Later wr wA := by rw [hwA]; exact (by repeat (first | exact Later.refl _ | assumption | refine Later.drewN ?_ _ | refine Later.drew ?_ | refine Later.alloc ?_ _ | refine Later.grow ?_ _))
        have hPA : PB w wr j (.bool r.head.no) (.string (bs r.head.name)) sv su (6 * j) (more m) wA := by
          refine ⟨below_trans HB.out hLA.below HB.out.size, by rw [hLA.block (by omega)]; exact HR.out, by rw [hwA]; simp, by rw [hwA]; simp, hsz, HM.out.later hLA⟩
        have PA := hide hPA
        have HWA := hide hwA
        have HSV : Hid (∀ w', Below w.heap.size w w' → termK.sl Anyw w' sv r.head.terms) := fun w' h => Kind.sl_below hsv h
        have HSU : Hid (∀ w', Below w.heap.size w w' → atomK.sl Anyw w' su r.body) := fun w' h => Kind.sl_below hsu h
        have HAt := hide (rWrongAtom r.head sv wA (HSV.out wA hPA.below) hlr.1)
        rw [hwA] at HAt
        obtain ⟨a2, c2, rfl⟩ := Kind.slice hsv
        obtain ⟨a3, c3, rfl⟩ := Kind.slice hsu
        have HLr := hide hlr
        clear hc hr hsv hsu hwA hLA hPA HM HB HR hlr
        by_cases h1 : wrongAtom r.head = 0
        · rw [h1] at HAt
          have HBd : Hid (∀ w', Below w.heap.size w w' → Calls Try.prog 9 #[.slice a3 r.body.length c3] w' fun e w'' => e = .returned (.int .i64 (wrongBody r.body)) ∧ Below w'.heap.size w' w'') := fun w' h => rWrongBody r.body _ w' (HSU.out w' h) HLr.out.2
          cases hno : r.head.no
          · rw [hno] at HAt PA d0 HWA
            by_cases h2 : wrongBody r.body = 0
            · rw [h2] at HBd
              obtain ⟨hl5, hfb⟩ := wrongBody_zero h2
              obtain ⟨fn, ft, fs⟩ := wrongAtom_zero h1
              have hkh : keyA r.head := ⟨by omega, fun t ht => short_max (fs t ht)⟩
              have HBo : Hid (∀ w', Below w.heap.size w w' → Calls Try.prog 15 #[.agg #[.bool false, .string (bs r.head.name), .slice a2 r.head.terms.length c2], .slice a3 r.body.length c3] w' fun e w'' => e = .returned (.bool ((vars r.head).all (givenBy r.body))) ∧ Below w'.heap.size w' w'') := fun w' h => by
                have := rBound r.head _ r.body _ w' (HSV.out w' h) hkh (HSU.out w' h) (fun b hb => ⟨by have := (wrongAtom_zero (hfb b hb)).2.1; omega, fun t ht => short_max ((wrongAtom_zero (hfb b hb)).2.2 t ht)⟩)
                rwa [hno] at this
              cases hal : (vars r.head).all (givenBy r.body)
              · have HE2 : Hid (wrongP p = (9, j)) := by
                  show _ = _
                  have : wrongRule m r = (9, m) := by unfold wrongRule; rw [if_pos h1, hno, if_pos h2, hal]; rfl
                  rw [HE.out, hst, this, if_neg (by show ¬ (9 : Int) = 0; decide)]
                rw [hal] at HBo
                clear hst HE h1 h2 hno hal hkh hfb fs HSV HSU HLr HK
                generalize bs r.head.name = nm at *
                go_wp2_with fail
                refine HAt.out.mono ?_
                rintro e w2 ⟨rfl, hL2⟩
                rw [← HWA.out] at hL2
                have P2 := hide (PA.out.below' hL2.below)
                obtain ⟨y0, y1, y2, y3, yl⟩ := P2.out.cells
                have H2 := hide (HBd.out w2 P2.out.below)
                clear hL2 HAt HBd
                go_wp2_with fail
                refine H2.out.mono ?_
                rintro e w3 ⟨rfl, hB3⟩
                have P3 := hide (P2.out.below' hB3)
                obtain ⟨x0, x1, x2, x3, xl⟩ := P3.out.cells
                have H3 := hide (HBo.out w3 P3.out.below)
                clear hB3 H2 HBo
                go_wp2_with fail
                refine H3.out.mono ?_
                rintro e w4 ⟨rfl, hB4⟩
                have P4 := hide (P3.out.below' hB4)
                clear hB4 H3
                have HBad := hide (badC 9 j _ w4 P4.out.i)
                go_wp2_with fail
                refine HBad.out.mono ?_
                rintro e wz ⟨rfl, hLz⟩
                have Pz := hide (P4.out.below' hLz.below)
                have hRz := Pz.out.row
                have q0 : wz.cell? ⟨w.heap.size, 0, none⟩ = some (.int .i64 0) := by rw [cell_of_row _ _ _ _ _ _ hRz]; rfl
                have q1 : wz.cell? ⟨w.heap.size, 1, none⟩ = some (.int .i64 0) := by rw [cell_of_row _ _ _ _ _ _ hRz]; rfl
                have p0 : wz.frozen? ⟨w.heap.size, 0, none⟩ = false := frozen_rowC 0 hRz
                have p1 : wz.frozen? ⟨w.heap.size, 1, none⟩ = false := frozen_rowC 1 hRz
                clear hLz HBad hRz
                go_wp2
                obtain ⟨r0, r1⟩ := fault_two Pz.out.row (.int .i64 9) (.int .i64 j)
                refine bodyPost_ret (v := .agg #[.int .i64 9, .int .i64 j]) (by simp [results, Try.results5, go_sem, r0, r1]) rfl ⟨ret_fault2 (by rw [HE2.out]) (by rw [HE2.out]), ?_⟩
                exact (Pz.out.below.setCell (Nat.le_refl _) _).setCell (Nat.le_refl _) _
              · have hWR := wrongRule_fit (m := m) h1 hno h2 hal
                rw [hal] at HBo
                have HFb : Hid (∀ a ∈ r.head :: r.body, wrongAtom a = 0) := fun a ha => by
                  rcases List.mem_cons.1 ha with e | ha
                  · rw [e]; exact h1
                  · exact hfb a ha
                have HHd : Hid (atomK.is Anyw w [.bool false, .string (bs r.head.name), .slice a2 r.head.terms.length c2] r.head) := ⟨_, by rw [hno], HSV.out w (Below.refl _ _)⟩
                have HSUw : Hid (atomK.sl Anyw w (.slice a3 r.body.length c3) r.body) := HSU.out w (Below.refl _ _)
                have HWR : Hid (wrongP p = if (fitAll m (r.head :: r.body)).1 then wrongGo (fitAll m (r.head :: r.body)).2 (j + 1) (p.drop (j + 1)) else (8, j)) := by
                  show _ = _
                  rw [HE.out, hst, hWR]
                  cases (fitAll m (r.head :: r.body)).1 <;> simp
                clear hst HE h1 h2 hno hal hkh hfb fs HLr HK hWR HSV
                generalize hall : r.head :: r.body = all at *
                have HAll : Hid (all = [r.head] ++ r.body) := hall.symm
                have hal5 : all.length = r.body.length + 1 := by rw [← hall]; rfl
                clear hall
                generalize bs r.head.name = nm at *
                go_wp2_with fail
                refine HAt.out.mono ?_
                rintro e w2 ⟨rfl, hL2⟩
                rw [← HWA.out] at hL2
                have P2 := hide (PA.out.below' hL2.below)
                obtain ⟨y0, y1, y2, y3, yl⟩ := P2.out.cells
                have H2 := hide (HBd.out w2 P2.out.below)
                clear hL2 HAt HBd
                go_wp2_with fail
                refine H2.out.mono ?_
                rintro e w3 ⟨rfl, hB3⟩
                have P3 := hide (P2.out.below' hB3)
                obtain ⟨x0, x1, x2, x3, xl⟩ := P3.out.cells
                have H3 := hide (HBo.out w3 P3.out.below)
                clear hB3 H2 HBo
                go_wp2_with fail
                refine H3.out.mono ?_
                rintro e w4 ⟨rfl, hB4⟩
                have P4 := hide (P3.out.below' hB4)
                obtain ⟨v0, v1, v2, v3, vl⟩ := P4.out.cells
                have hRO := RowA.one (w0 := w) (lo := w4.heap.size) HHd.out (Nat.le_refl w4.heap.size)
                have hBA : Below w.heap.size w (w4.alloc (.cells #[.bool false, .string nm, .slice a2 r.head.terms.length c2] 30)) := P4.out.below.alloc P4.out.below.size _
                obtain ⟨v5, w5, hrun, hRA, hg5⟩ := hRO.many (by simp) hBA HSUw.out (by simp; omega)
                have hB5 : Below w4.heap.size w4 w5 := below_trans ((Later.refl w4).alloc (.cells #[.bool false, .string nm, .slice a2 r.head.terms.length c2] 30)).below ⟨hg5.os, hg5.tape, hg5.output, hg5.size, fun k hk => hg5.block k (by simp; omega) (fun e => by have := (RowA.lo hRO k e.symm).1; omega)⟩ (Nat.le_refl _)
                rw [← HAll.out] at hRA
                have P5 := hide (P4.out.below' hB5)
                have h4 : w.heap.size + 1 < w4.heap.size := P4.out.map.lt
                obtain ⟨z5, c5, rfl⟩ := RowA.slice hRA
                have HSl := hide (hRA.slB P5.out.below (by omega) (b := w.heap.size + 1) (by omega) h4)
                have HR5 := hide hrun
                clear hrun hRA hg5 hB5 hRO hBA hB4 H3 HSU HSUw HHd h4
                go_wp2_with (at_builtin; refine wpList_append_run rfl (.tmp 57) (.tmp 59) 31 rfl _ _ _ _ rfl rfl HR5.out ?_)
                go_loopg [62] all.length (fun g i wr2 => ∃ k : Nat, k + g = all.length ∧ i = .int .i64 k ∧ ∃ mk, Hid (fitAll m all = fitAll mk (all.drop k)) ∧ Hid (NumsM wr2 (w.heap.size + 1) (6 * j + k) (more mk)) ∧ Hid (Tn (w.heap.size + 1) w5 wr2))
                case atStart => exact ⟨0, by omega, rfl, m, (rfl : _ = _), P5.out.map, Tn.refl _ _⟩
                case round =>
                  obtain ⟨k, hk, rfl, mk, HFi, HMk, HTn⟩ := hrel
                  by_cases hltk : k < all.length
                  · obtain ⟨t, ht⟩ : ∃ x, all[k]? = some x := ⟨_, List.getElem?_eq_getElem hltk⟩
                    obtain ⟨b6, o6, _, rfl, hb6, ⟨tv, rfl, htv⟩, hct⟩ := Kind.sl_at (Kind.sl_tnb HSl.out HTn.out) ht
                    have e0 : wr.cell? ⟨b6, o6 + k * 3, none⟩ = some (.bool t.no) := hct 0 _ rfl
                    have e1 : wr.cell? ⟨b6, o6 + k * 3 + 1, none⟩ = some (.string (bs t.name)) := hct 1 _ rfl
                    have e2 : wr.cell? ⟨b6, o6 + k * 3 + 2, none⟩ = some tv := hct 2 _ rfl
                    have htl := htv.1.1
                    obtain ⟨ta, tc, rfl⟩ := Kind.slice htv
                    have hts : t.name.length ≤ maxLen := short_max (wrongAtom_zero (HFb.out t (List.mem_of_getElem? ht))).1
                    have hmp := HMk.out.later ((Later.refl wr).alloc (.cells #[.bool t.no, .string (bs t.name), .slice ta t.terms.length tc] 30))
                    have hlk := NumM.lookOk (T := 41) hmp Try.underlying9 Try.underlying3 Try.underlying41 (zeroInt _) hts
                    obtain ⟨w7, hst7, hm7, hg7⟩ := NumM.store (T := 41) hmp Try.underlying9 Try.underlying3 Try.underlying41 (by simp [maxLen]; omega) hts (x := t.terms.length + 1) (wf_len (by omega))
                    rw [show (((t.terms.length + 1 : Nat)) : Int) = (t.terms.length : Int) + 1 by omega] at hst7
                    have HT7 : Hid (Tn (w.heap.size + 1) w5 w7) := (HTn.out.trans (Tn.of_below ((Later.refl wr).alloc _).below)).trans (Tn.of_grown hg7)
                    rw [more_put] at hm7
                    have hf1 := fitAll_step ht mk
                    have hbq : b6 < wr.heap.size := hb6
                    have hmb : w.heap.size + 1 < wr.heap.size := HMk.out.lt
                    have HBQ := hide HTn.out
                    cases hmt : mk t.name with
                    | none =>
                      have e3 : numOf (more mk) t.name = 0 := by unfold numOf more; rw [hmt]; rfl
                      have e4 : ((more mk) t.name).isSome = false := by unfold more; rw [hmt]; rfl
                      rw [e3, e4] at hlk
                      have HF1 : Hid (fitAll m all = fitAll (mk.put t.name t.terms.length) (all.drop (k + 1))) := by
                        show _ = _
                        rw [HFi.out, hf1]
                        rw [fitOne_none hmt]; rfl
                      have HM7 := hide hm7
                      have HST := hide hst7
                      clear hct ht htv hmp hst7 hm7 hg7 hf1 hmt e3 e4 HFi HMk HTn
                      generalize bs t.name = nt at *
                      generalize t.no = tn at *
                      go_wp2_with (first
                        | (at_mapUpdate; refine wpList_run_update _ rfl _ _ _ _ rfl _ _ _ _ rfl rfl (by simp [Act.eval]) HST.out ?_)
                        | go_in)
                      go_roundg (all.length - (k + 1))
                      case measure => omega
                      case rel => exact ⟨k + 1, by omega, by go_num, _, HF1, HM7, HT7⟩
                    | some n =>
                      have e3 : numOf (more mk) t.name = n + 1 := by unfold numOf more; rw [hmt]; rfl
                      have e4 : ((more mk) t.name).isSome = true := by unfold more; rw [hmt]; rfl
                      rw [e3, e4, show (((n + 1 : Nat)) : Int) = (n : Int) + 1 by omega] at hlk
                      by_cases hnt : n = t.terms.length
                      · have HF1 : Hid (fitAll m all = fitAll mk (all.drop (k + 1))) := by
                          show _ = _
                          rw [HFi.out, hf1]
                          rw [fitOne_some hmt, decide_eq_true hnt]; rfl
                        rw [← hnt, put_self hmt] at hm7
                        have HM7 := hide hm7
                        have HST := hide hst7
                        clear hct ht htv hmp hst7 hm7 hg7 hf1 hmt e3 e4 HFi HMk HTn
                        subst hnt
                        generalize bs t.name = nt at *
                        generalize t.no = tn at *
                        go_wp2_with (first
                          | (at_mapUpdate; refine wpList_run_update _ rfl _ _ _ _ rfl _ _ _ _ rfl rfl (by simp [Act.eval]) HST.out ?_)
                          | go_in)
                        go_roundg (all.length - (k + 1))
                        case measure => omega
                        case rel => exact ⟨k + 1, by omega, by go_num, _, HF1, HM7, HT7⟩
                      · have hqn : (((n : Int) + 1) != ((t.terms.length : Int) + 1)) = true := by
                          rw [bne_iff_ne]; omega
                        have HE2 : Hid (wrongP p = (8, j)) := by
                          show _ = _
                          have : fitAll m all = (false, mk) := by
                            rw [HFi.out, hf1]
                            rw [fitOne_some hmt, decide_eq_false hnt]; rfl
                          rw [HWR.out, this]; rfl
                        have PQ := hide ((P5.out.turned HTn.out HMk.out).below' ((Later.refl wr).alloc (.cells #[.bool t.no, .string (bs t.name), .slice ta t.terms.length tc] 30)).below)
                        clear hct ht htv hmp hst7 hm7 hg7 hf1 hmt e3 e4 HFi HMk HTn HT7
                        generalize bs t.name = nt at *
                        generalize t.no = tn at *
                        have HBad := hide (badC 8 j _ (wr.alloc (.cells #[.bool tn, .string nt, .slice ta t.terms.length tc] 30)) PQ.out.i)
                        go_wp2_with fail
                        refine HBad.out.mono ?_
                        rintro e wz ⟨rfl, hLz⟩
                        have Pz := hide (PQ.out.below' hLz.below)
                        have hRz := Pz.out.row
                        have q0 : wz.cell? ⟨w.heap.size, 0, none⟩ = some (.int .i64 0) := by rw [cell_of_row _ _ _ _ _ _ hRz]; rfl
                        have q1 : wz.cell? ⟨w.heap.size, 1, none⟩ = some (.int .i64 0) := by rw [cell_of_row _ _ _ _ _ _ hRz]; rfl
                        have p0 : wz.frozen? ⟨w.heap.size, 0, none⟩ = false := frozen_rowC 0 hRz
                        have p1 : wz.frozen? ⟨w.heap.size, 1, none⟩ = false := frozen_rowC 1 hRz
                        clear hLz HBad hRz
                        go_wp2
                        obtain ⟨r0, r1⟩ := fault_two Pz.out.row (.int .i64 8) (.int .i64 j)
                        refine bodyPost_ret (v := .agg #[.int .i64 8, .int .i64 j]) (by simp [results, Try.results5, go_sem, r0, r1]) rfl ⟨ret_fault2 (by rw [HE2.out]) (by rw [HE2.out]), ?_⟩
                        exact (Pz.out.below.setCell (Nat.le_refl _) _).setCell (Nat.le_refl _) _
                  · have e : k = all.length := by omega
                    have HE2 : Hid (wrongP p = wrongGo mk (j + 1) (p.drop (j + 1))) := by
                      show _ = _
                      have : fitAll m all = (true, mk) := by
                        rw [HFi.out, List.drop_eq_nil_of_le (by omega)]; rfl
                      rw [HWR.out, this]; rfl
                    have PQ := hide (P5.out.turned HTn.out HMk.out)
                    have hl6 : w.heap.size + 2 ≤ wr.heap.size := by have := PQ.out.cells.2.2.2.2; have := PQ.out.lo; omega
                    go_wp2
                    go_roundg (p.length - (j + 1))
                    case measure => omega
                    case rel => exact ⟨j + 1, by omega, by go_num, mk, HE2, PQ.out.map.mono (by omega), PQ.out.below, PQ.out.row, hl6⟩
            · have HE2 : Hid (wrongP p = (wrongBody r.body, j)) := by
                show _ = _
                have : wrongRule m r = (wrongBody r.body, m) := by unfold wrongRule; rw [if_pos h1, hno, if_neg h2]; rfl
                rw [HE.out, hst, this, if_neg h2]
              have hq : (wrongBody r.body != 0) = true := by simpa using h2
              clear hst HE h1 h2 hno HSV HSU HLr HK
              generalize wrongBody r.body = eb at *
              generalize bs r.head.name = nm at *
              go_wp2_with fail
              refine HAt.out.mono ?_
              rintro e w2 ⟨rfl, hL2⟩
              rw [← HWA.out] at hL2
              have P2 := hide (PA.out.below' hL2.below)
              obtain ⟨y0, y1, y2, y3, yl⟩ := P2.out.cells
              have H2 := hide (HBd.out w2 P2.out.below)
              clear hL2 HAt HBd
              go_wp2_with fail
              refine H2.out.mono ?_
              rintro e w3 ⟨rfl, hB3⟩
              have P3 := hide (P2.out.below' hB3)
              clear hB3 H2
              have HBad := hide (badC eb j _ w3 P3.out.i)
              go_wp2_with fail
              refine HBad.out.mono ?_
              rintro e wz ⟨rfl, hLz⟩
              have Pz := hide (P3.out.below' hLz.below)
              have hRz := Pz.out.row
              have q0 : wz.cell? ⟨w.heap.size, 0, none⟩ = some (.int .i64 0) := by rw [cell_of_row _ _ _ _ _ _ hRz]; rfl
              have q1 : wz.cell? ⟨w.heap.size, 1, none⟩ = some (.int .i64 0) := by rw [cell_of_row _ _ _ _ _ _ hRz]; rfl
              have p0 : wz.frozen? ⟨w.heap.size, 0, none⟩ = false := frozen_rowC 0 hRz
              have p1 : wz.frozen? ⟨w.heap.size, 1, none⟩ = false := frozen_rowC 1 hRz
              clear hLz HBad hRz
              go_wp2
              obtain ⟨r0, r1⟩ := fault_two Pz.out.row (.int .i64 eb) (.int .i64 j)
              refine bodyPost_ret (v := .agg #[.int .i64 eb, .int .i64 j]) (by simp [results, Try.results5, go_sem, r0, r1]) rfl ⟨ret_fault2 (by rw [HE2.out]) (by rw [HE2.out]), ?_⟩
              exact (Pz.out.below.setCell (Nat.le_refl _) _).setCell (Nat.le_refl _) _
          · have HE2 : Hid (wrongP p = (2, j)) := by
              show _ = _
              have : wrongRule m r = (2, m) := by unfold wrongRule; rw [if_pos h1, hno]; rfl
              rw [HE.out, hst, this, if_neg (by show ¬ (2 : Int) = 0; decide)]
            rw [hno] at HAt PA d0 HWA
            clear hst HE h1 hno HSV HSU HLr HK HBd
            generalize bs r.head.name = nm at *
            go_wp2_with fail
            refine HAt.out.mono ?_
            rintro e w2 ⟨rfl, hL2⟩
            rw [← HWA.out] at hL2
            have P2 := hide (PA.out.below' hL2.below)
            obtain ⟨y0, y1, y2, y3, yl⟩ := P2.out.cells
            clear hL2 HAt
            have HBad := hide (badC 2 j _ w2 P2.out.i)
            go_wp2_with fail
            refine HBad.out.mono ?_
            rintro e wz ⟨rfl, hLz⟩
            have Pz := hide (P2.out.below' hLz.below)
            have hRz := Pz.out.row
            have q0 : wz.cell? ⟨w.heap.size, 0, none⟩ = some (.int .i64 0) := by rw [cell_of_row _ _ _ _ _ _ hRz]; rfl
            have q1 : wz.cell? ⟨w.heap.size, 1, none⟩ = some (.int .i64 0) := by rw [cell_of_row _ _ _ _ _ _ hRz]; rfl
            have p0 : wz.frozen? ⟨w.heap.size, 0, none⟩ = false := frozen_rowC 0 hRz
            have p1 : wz.frozen? ⟨w.heap.size, 1, none⟩ = false := frozen_rowC 1 hRz
            clear hLz HBad hRz
            go_wp2
            obtain ⟨r0, r1⟩ := fault_two Pz.out.row (.int .i64 2) (.int .i64 j)
            refine bodyPost_ret (v := .agg #[.int .i64 2, .int .i64 j]) (by simp [results, Try.results5, go_sem, r0, r1]) rfl ⟨ret_fault2 (by rw [HE2.out]) (by rw [HE2.out]), ?_⟩
            exact (Pz.out.below.setCell (Nat.le_refl _) _).setCell (Nat.le_refl _) _
        · have HE2 : Hid (wrongP p = (wrongAtom r.head, j)) := by
            show _ = _
            have : wrongRule m r = (wrongAtom r.head, m) := by unfold wrongRule; rw [if_neg h1]
            rw [HE.out, hst, this, if_neg h1]
          have hq : (wrongAtom r.head != 0) = true := by simpa using h1
          clear hst HE h1 HSV HSU HLr HK
          generalize wrongAtom r.head = ex at *
          generalize r.head.no = xn at *
          generalize bs r.head.name = nm at *
          go_wp2_with fail
          refine HAt.out.mono ?_
          rintro e w2 ⟨rfl, hL2⟩
          rw [← HWA.out] at hL2
          have P2 := hide (PA.out.below' hL2.below)
          clear hL2 HAt
          have HBad := hide (badC ex j _ w2 P2.out.i)
          go_wp2_with fail
          refine HBad.out.mono ?_
          rintro e wz ⟨rfl, hLz⟩
          have Pz := hide (P2.out.below' hLz.below)
          have hRz := Pz.out.row
          have q0 : wz.cell? ⟨w.heap.size, 0, none⟩ = some (.int .i64 0) := by rw [cell_of_row _ _ _ _ _ _ hRz]; rfl
          have q1 : wz.cell? ⟨w.heap.size, 1, none⟩ = some (.int .i64 0) := by rw [cell_of_row _ _ _ _ _ _ hRz]; rfl
          have p0 : wz.frozen? ⟨w.heap.size, 0, none⟩ = false := frozen_rowC 0 hRz
          have p1 : wz.frozen? ⟨w.heap.size, 1, none⟩ = false := frozen_rowC 1 hRz
          clear hLz HBad hRz
          go_wp2
          obtain ⟨r0, r1⟩ := fault_two Pz.out.row (.int .i64 ex) (.int .i64 j)
          refine bodyPost_ret (v := .agg #[.int .i64 ex, .int .i64 j]) (by simp [results, Try.results5, go_sem, r0, r1]) rfl ⟨ret_fault2 (by rw [HE2.out]) (by rw [HE2.out]), ?_⟩
          exact (Pz.out.below.setCell (Nat.le_refl _) _).setCell (Nat.le_refl _) _
      · have E2 : Hid (wrongP p = (0, 0)) := by show _ = _; rw [HE.out, List.drop_eq_nil_of_le (by omega)]; rfl
        have hR2 := HR.out
        have q0 : wr.cell? ⟨w.heap.size, 0, none⟩ = some (.int .i64 0) := by rw [cell_of_row _ _ _ _ _ _ hR2]; rfl
        have q1 : wr.cell? ⟨w.heap.size, 1, none⟩ = some (.int .i64 0) := by rw [cell_of_row _ _ _ _ _ _ hR2]; rfl
        have p0 : wr.frozen? ⟨w.heap.size, 0, none⟩ = false := frozen_rowC 0 hR2
        have p1 : wr.frozen? ⟨w.heap.size, 1, none⟩ = false := frozen_rowC 1 hR2
        clear hR2
        go_wp2
        obtain ⟨r0, r1⟩ := fault_two HR.out (.int .i64 0) (.int .i64 0)
        refine bodyPost_ret (v := .agg #[.int .i64 0, .int .i64 0]) (by simp [results, Try.results5, go_sem, r0, r1]) rfl ⟨ret_fault2 (by rw [E2.out]) (by rw [E2.out]; rfl), ?_⟩
        exact (HB.out.setCell (Nat.le_refl _) _).setCell (Nat.le_refl _) _

end Go.Proofs.Ythngiikhgplldaa

/- Where no circle holds a step over what must not be so, there are numbers that hold. Plain. Nothing of the program. -/
namespace Go.Proofs.Ythngiikhgplldaa

/-- A head hangs on another, by an atom whose step is s. -/
def Edge (p : List RuleD) (a b : Bs) (s : Nat) : Prop := ∃ r ∈ p, ∃ x ∈ r.body, r.head.name = a ∧ x.name = b ∧ isHead p b ∧ step x = s

/-- A trail: from a on through these, over n steps in all. -/
inductive Trail (p : List RuleD) : Bs → List Bs → Nat → Prop
  | nil (a : Bs) : Trail p a [] 0
  | cons {a b : Bs} {s n : Nat} {l : List Bs} : Edge p a b s → Trail p b l n → Trail p a (b :: l) (s + n)

theorem Edge.le {p : List RuleD} {a b : Bs} {s : Nat} (h : Edge p a b s) : s ≤ 1 := by
  obtain ⟨r, _, x, _, _, _, _, rfl⟩ := h
  unfold step; split <;> omega

theorem Trail.split {p : List RuleD} : ∀ (l1 : List Bs) {a b : Bs} {l2 : List Bs} {n : Nat}, Trail p a (l1 ++ b :: l2) n → ∃ n1 n2, n = n1 + n2 ∧ Trail p a (l1 ++ [b]) n1 ∧ Trail p b l2 n2
  | [], a, b, l2, n, h => by
    cases h with
    | cons e t => exact ⟨_, _, rfl, by have := Trail.cons e (Trail.nil b); simpa using this, t⟩
  | c :: l1, a, b, l2, n, h => by
    cases h with
    | cons e t =>
      obtain ⟨n1, n2, rfl, t1, t2⟩ := Trail.split l1 t
      exact ⟨_, n2, (Nat.add_assoc _ _ _).symm, Trail.cons e t1, t2⟩

theorem Trail.heads {p : List RuleD} {a : Bs} {l : List Bs} {n : Nat} (h : Trail p a l n) : ∀ x ∈ l, isHead p x := by
  induction h with
  | nil => intro x hx; cases hx
  | cons e _ ih =>
    intro x hx
    obtain ⟨_, _, _, _, _, _, hh, _⟩ := e
    rcases List.mem_cons.1 hx with rfl | hx
    · exact hh
    · exact ih x hx
theorem Trail.le {p : List RuleD} {a : Bs} {l : List Bs} {n : Nat} (h : Trail p a l n) : n ≤ l.length := by
  induction h with
  | nil => exact Nat.le_refl _
  | cons e _ ih => have := e.le; simp; omega

theorem nodup_heads : ∀ (p : List RuleD) (l : List Bs), l.Nodup → (∀ x ∈ l, ∃ r ∈ p, r.head.name = x) → l.length ≤ p.length
  | [], l, _, h => by
    cases l with
    | nil => simp
    | cons x l => obtain ⟨r, hr, _⟩ := h x (by simp); cases hr
  | r :: p, l, hn, h => by
    have h1 := nodup_heads p (l.erase r.head.name) (hn.erase _) (fun x hx => by
      rw [hn.mem_erase_iff] at hx
      obtain ⟨q, hq, e⟩ := h x hx.2
      rcases List.mem_cons.1 hq with rfl | hq
      · exact absurd e.symm hx.1
      · exact ⟨q, hq, e⟩)
    by_cases hm : r.head.name ∈ l
    · rw [List.length_erase_of_mem hm] at h1; simp; omega
    · rw [List.erase_of_not_mem hm] at h1; simp; omega

theorem max_of {P : Nat → Prop} (N : Nat) (h0 : P 0) (hb : ∀ n, P n → n ≤ N) : ∃ m, P m ∧ ∀ n, P n → n ≤ m := by
  have : ∀ k, (∃ n, P n ∧ N ≤ n + k) → ∃ m, P m ∧ ∀ n, P n → n ≤ m := by
    intro k
    induction k with
    | zero => rintro ⟨n, hn, hk⟩; exact ⟨n, hn, fun m hm => by have := hb m hm; omega⟩
    | succ k ih =>
      rintro ⟨n, hn, hk⟩
      by_cases hx : ∃ m, P m ∧ n < m
      · obtain ⟨m, hm, hlt⟩ := hx
        exact ih ⟨m, hm, by omega⟩
      · exact ⟨n, hn, fun m hm => Nat.le_of_not_lt fun hlt => hx ⟨m, hm, hlt⟩⟩
  exact this N ⟨0, h0, by omega⟩

/-- Of trails that meet nothing twice, the most steps. -/
def Far (p : List RuleD) (a : Bs) (n : Nat) : Prop := ∃ l, l.Nodup ∧ a ∉ l ∧ Trail p a l n
theorem far_max (p : List RuleD) (a : Bs) : ∃ m, Far p a m ∧ ∀ n, Far p a n → n ≤ m :=
  max_of p.length ⟨[], by simp, by simp, Trail.nil a⟩ fun n ⟨l, hn, _, ht⟩ => Nat.le_trans ht.le (nodup_heads p l hn fun x hx => ht.heads x hx)

/-- No circle that meets nothing twice holds a step. -/
def NoRound (p : List RuleD) : Prop := ∀ a mid n, mid.Nodup → Trail p a (mid ++ [a]) n → n = 0

theorem sol_of_noRound {p : List RuleD} (h : NoRound p) : ∃ σ, Sol p σ := by
  refine ⟨fun a => Classical.choose (far_max p a), fun r hr x hx hh => ?_⟩
  have hE : Edge p r.head.name x.name (step x) := ⟨r, hr, x, hx, rfl, rfl, hh, rfl⟩
  obtain ⟨⟨l, hn, hnot, ht⟩, _⟩ := Classical.choose_spec (far_max p x.name)
  have hmax := (Classical.choose_spec (far_max p r.head.name)).2
  show Classical.choose (far_max p x.name) + step x ≤ Classical.choose (far_max p r.head.name)
  generalize Classical.choose (far_max p x.name) = n at *
  generalize Classical.choose (far_max p r.head.name) = m at *
  generalize step x = s at *
  generalize r.head.name = a at *
  generalize x.name = b at *
  by_cases hab : a = b
  · subst hab
    have h1 := h a [] s (by simp) (by have := Trail.cons hE (Trail.nil a); simpa using this)
    have h2 := hmax n ⟨l, hn, hnot, ht⟩
    omega
  · by_cases hal : a ∈ l
    · obtain ⟨l1, l2, rfl⟩ := List.append_of_mem hal
      obtain ⟨n1, n2, rfl, t1, t2⟩ := Trail.split l1 ht
      have hn' := hn
      rw [List.nodup_append] at hn'
      obtain ⟨hd1, hd2, hd3⟩ := hn'
      have hd2' := List.nodup_cons.1 hd2
      have h1 := h a (b :: l1) (s + n1) (List.nodup_cons.2 ⟨fun hb => hnot (by simp [hb]), hd1⟩) (Trail.cons hE t1)
      have h2 := hmax n2 ⟨l2, hd2'.2, hd2'.1, t2⟩
      omega
    · have h2 := hmax (s + n) ⟨b :: l, List.nodup_cons.2 ⟨hnot, hn⟩, by simp [hab, hal], Trail.cons hE ht⟩
      omega

end Go.Proofs.Ythngiikhgplldaa
