/- Texts of this claim, one behind the other. -/
import Derived.Test.YtbohggoeebhdmaaGreatDoorJ21
import Derived.Test.YtbohggoeebhdmaaGreatDoorJ4
import Derived.Test.YtbohggoeebhdmaaGreatDoorJ16
import Derived.Test.YtbohggoeebhdmaaGreatDoorJ20
/- The reference's WrongProgram: its closure. -/
namespace Go.Proofs.YtbohggoeebhdmaaGreatDoor
open Go.RowKit Go.Sort Go.Maps

set_option maxRecDepth 100000 in
set_option maxHeartbeats 400000 in
theorem badC (e i : Int) (g : Nat) (w : World) (h : w.cell? ⟨g, 0, none⟩ = some (.int .i64 i)) :
    Calls Tryz.prog 32 #[.int .i64 e, .pointer (some ⟨g, 0, none⟩)] w fun x w' => x = .returned (.agg #[.int .i64 e, .int .i64 i]) ∧ Later w w' := by
  have hg := World.block_lt_of_cell? w _ h
  have hg' : g < w.heap.size := hg
  have hgn : g ≠ w.heap.size := by omega
  go_enter Tryz.func32, Tryz.ntmps32
  go_wp2
  exact bodyPost_ret (v := .agg #[.int .i64 e, .int .i64 i]) (by simp [results, Tryz.results32, go_sem]) rfl ⟨rfl, (by repeat (first | exact Later.refl _ | assumption | refine Later.drewN ?_ _ | refine Later.drew ?_ | refine Later.alloc ?_ _ | refine Later.grow ?_ _))⟩

end Go.Proofs.YtbohggoeebhdmaaGreatDoor

/- append of many elements onto a row of a call's own. -/
namespace Go.Proofs.YtbohggoeebhdmaaGreatDoor
open Go.RowKit Go.Sort

theorem flat_get {size : Nat} : ∀ (cs : List (List Value)), (∀ c ∈ cs, c.length = size) → ∀ i c j, cs[i]? = some c → j < size → cs.flatten[i * size + j]? = c[j]?
  | [], _, i, c, j, h, _ => by simp at h
  | d :: cs, hl, i, c, j, h, hj => by
    have hd : d.length = size := hl d (by simp)
    cases i with
    | zero =>
      simp at h; subst h
      rw [List.flatten_cons, Nat.zero_mul, Nat.zero_add, List.getElem?_append_left (by omega)]
    | succ i =>
      have ih := flat_get cs (fun c hc => hl c (by simp [hc])) i c j (by simpa using h) hj
      rw [List.flatten_cons, List.getElem?_append_right (by rw [Nat.add_mul]; omega), show (i + 1) * size + j - d.length = i * size + j by rw [Nat.add_mul]; omega]
      exact ih

theorem flat_len {size : Nat} : ∀ (cs : List (List Value)), (∀ c ∈ cs, c.length = size) → cs.flatten.length = cs.length * size
  | [], _ => by simp
  | d :: cs, hl => by
    have := flat_len cs (fun c hc => hl c (by simp [hc]))
    have hd : d.length = size := hl d (by simp)
    rw [List.flatten_cons, List.length_append, this, hd, List.length_cons, Nat.add_mul]; omega

theorem Kind.sl_cells {α : Type} {K : Kind α} {B : Nat → Prop} {w : World} {a : Addr} {n cap : Nat} {m : List α} (h : K.sl B w (.slice (some a) n cap) m) (hsz : 0 < K.size) :
    ∃ cs : List (List Value), cs.length = m.length ∧ (∀ c ∈ cs, c.length = K.size) ∧ (∀ c ∈ cs, ∀ u ∈ c, u.oneCell' = true) ∧ (∀ (j : Nat) (u : Value), cs.flatten[j]? = some u → w.cell? (a.add j) = some u) ∧ ∀ (i : Nat) (c : List Value) (x : α), cs[i]? = some c → m[i]? = some x → K.is B w c x := by
  by_cases hm : m = []
  · subst hm
    exact ⟨[], rfl, by simp, by simp, by simp, fun i c x h => by simp at h⟩
  obtain ⟨_, a', cap', e, h1⟩ := h
  simp only [Value.slice.injEq] at e
  obtain ⟨rfl, _, _⟩ := e
  obtain ⟨b, off, e, _, hb, hc⟩ := h1 hm
  simp only [Option.some.injEq] at e
  subst e
  have key : ∀ i : Fin m.length, ∃ c, K.is B w c m[i.1] ∧ ∀ j u, c[j]? = some u → w.cell? ⟨b, off + i.1 * K.size + j, none⟩ = some u := fun i => hc i.1 _ (List.getElem?_eq_getElem i.2)
  have get : ∀ i, (List.ofFn fun i : Fin m.length => Classical.choose (key i))[i]? = if h : i < m.length then some (Classical.choose (key ⟨i, h⟩)) else none := fun i => by rw [List.getElem?_ofFn]
  have hl : ∀ c ∈ List.ofFn fun i : Fin m.length => Classical.choose (key i), c.length = K.size := fun c hc => by
    rw [List.mem_ofFn] at hc
    obtain ⟨i, rfl⟩ := hc
    exact K.len (Classical.choose_spec (key i)).1
  refine ⟨List.ofFn fun i : Fin m.length => Classical.choose (key i), by simp, hl, fun c hc => ?_, fun j u hu => ?_, fun i c x hi hx => ?_⟩
  · rw [List.mem_ofFn] at hc
    obtain ⟨i, rfl⟩ := hc
    exact K.one (Classical.choose_spec (key i)).1
  · have hj := (List.getElem?_eq_some_iff.1 hu).1
    rw [flat_len _ hl, List.length_ofFn] at hj
    have hq : j / K.size < m.length := (Nat.div_lt_iff_lt_mul hsz).2 hj
    have hr : j % K.size < K.size := Nat.mod_lt _ hsz
    have hjq : j / K.size * K.size + j % K.size = j := by rw [Nat.mul_comm]; exact Nat.div_add_mod j K.size
    have hg := get (j / K.size)
    rw [dif_pos hq] at hg
    have := flat_get _ hl _ _ (j % K.size) hg hr
    rw [hjq, hu] at this
    have hcell := (Classical.choose_spec (key ⟨j / K.size, hq⟩)).2 _ u this.symm
    rw [Addr.add_lit]
    rw [show off + j / K.size * K.size + j % K.size = off + j by omega] at hcell
    exact hcell
  · rw [get] at hi
    split at hi
    · rename_i h
      rw [List.getElem?_eq_getElem h] at hx
      cases hi; cases hx
      exact (Classical.choose_spec (key ⟨i, h⟩)).1
    · cases hi

/-- append of a slice of such elements onto such a row. -/
theorem Kind.own_appends {α : Type} {P : Program} {K : Kind α} {t ty e' : TypeId} {lo bytes : Nat} {w : World} {v : Value} {l m : List α} {a : Option Addr} {cap : Nat} (h : K.own ty lo w v l) {i : TypeInfo} {z : Value}
    (ht : P.underlying t = some (.slice ty)) (hi : P.info? ty = some i) (hz : i.zero = some z) (hsize : i.size = K.size) (hby : i.bytes = bytes) (hzs : z.cells.size = K.size) (hsz : 0 < K.size) (hb : bytes ≤ 100)
    (hs : K.sl (fun k => lo ≤ k ∧ v.ownBlock ≠ some k) w (.slice a m.length cap) m) (hl : l.length + m.length ≤ 1099511627776) (hlo : lo ≤ w.heap.size) (_ : e' = t) :
    ∃ v' w', (Builtin.append_ #[t, t] t #[v, .slice a m.length cap]).run P w = .ok v' w' ∧ K.own ty lo w' v' (l ++ m) ∧ w.grownBy w' v.ownBlock ∧ ∀ k, v'.ownBlock = some k → v.ownBlock = some k ∨ w.heap.size ≤ k := by
  cases a with
  | none =>
    have hm : m = [] := by
      refine Classical.byContradiction fun hne => ?_
      obtain ⟨_, a', _, e, h1⟩ := hs
      simp only [Value.slice.injEq] at e
      obtain ⟨b, off, e', _⟩ := h1 hne
      rw [e'] at e; cases e.1
    subst hm
    refine ⟨v, w, ?_, by rw [List.append_nil]; exact h, ⟨rfl, rfl, rfl, Nat.le_refl _, fun _ _ _ => rfl⟩, fun k hk => Or.inl hk⟩
    obtain ⟨xs, ho, _⟩ := h
    rcases ho.2 with ⟨rfl, e0⟩ | ⟨g, c, cur, rfl, _, _, hnc, _⟩
    · simp [Builtin.append_, run_underlying ht, sizeOf, typeInfo, hi, Builtin.lenOf, Builtin.firstCells]
    · simp [Builtin.append_, run_underlying ht, sizeOf, typeInfo, hi, Builtin.lenOf, Builtin.firstCells, hnc, storeCells]
  | some a =>
    obtain ⟨cs, cl, clen, cone, ccell, cis⟩ := Kind.sl_cells hs hsz
    obtain ⟨xs, ho, hx⟩ := h
    have hxl : xs.length = l.length * K.size := ho.1
    obtain ⟨v', w', hrun, r1, r2, r3, r4⟩ := append_own (P := P) w lo t t ty i z K.size bytes ht hi hz hsize hby hzs hsz v l.length xs ho a m.length cap cs.flatten (by rw [flat_len _ clen, cl]) ccell
      (fun u hu => by rw [List.mem_flatten] at hu; obtain ⟨c, hc, hu⟩ := hu; exact cone c hc u hu) (by simp only [maxLen]; omega) (Nat.le_trans (Nat.mul_le_mul hl hb) (by omega)) hlo
    have own' : ∀ k, k < w.heap.size → v'.ownBlock = some k → v.ownBlock = some k := fun k hk e => (r4 k e).elim id fun h => by omega
    have keep : ∀ k, k < w.heap.size → (lo ≤ k ∧ v.ownBlock ≠ some k) → w'.heap[k]? = w.heap[k]? := fun k hk hB => r2.block k hk (fun e => hB.2 e.symm)
    have move : ∀ {c : List Value} {y : α}, K.is (fun k => lo ≤ k ∧ v.ownBlock ≠ some k) w c y → K.is (fun k => lo ≤ k ∧ v'.ownBlock ≠ some k) w' c y := fun {c y} hy =>
      K.kept (K.mono hy fun k hk hB => (⟨⟨hB.1, fun e => hB.2 (own' k hk e)⟩, hB⟩ : (lo ≤ k ∧ v'.ownBlock ≠ some k) ∧ (lo ≤ k ∧ v.ownBlock ≠ some k))) r2.size (fun k hk hB => keep k hk hB.2) |> fun h => K.mono h fun _ _ hB => hB.1
    refine ⟨v', w', hrun, ⟨xs ++ cs.flatten, by rw [List.length_append]; exact r1, fun j y hj => ?_⟩, r2, r4⟩
    by_cases hjl : j < l.length
    · rw [List.getElem?_append_left hjl] at hj
      obtain ⟨d, d1, d2⟩ := hx j y hj
      refine ⟨d, move d1, fun q u hu => ?_⟩
      have := d2 q u hu
      rw [List.getElem?_append_left (List.getElem?_eq_some_iff.1 this).1]; exact this
    · rw [List.getElem?_append_right (by omega)] at hj
      have hjm := (List.getElem?_eq_some_iff.1 hj).1
      have hc : cs[j - l.length]? = some (cs[j - l.length]'(by omega)) := List.getElem?_eq_getElem (by omega)
      refine ⟨_, move (cis _ _ y hc hj), fun q u hu => ?_⟩
      have hq : q < K.size := by rw [← clen _ (List.getElem_mem (by omega : j - l.length < cs.length))]; exact (List.getElem?_eq_some_iff.1 hu).1
      have := flat_get cs clen _ _ q hc hq
      rw [List.getElem?_append_right (by rw [hxl]; have := Nat.mul_le_mul_right K.size (Nat.le_of_not_lt hjl); omega), hxl,
        show j * K.size + q - l.length * K.size = (j - l.length) * K.size + q by rw [Nat.sub_mul]; have := Nat.mul_le_mul_right K.size (Nat.le_of_not_lt hjl); omega, this]
      exact hu

end Go.Proofs.YtbohggoeebhdmaaGreatDoor

/- The walk of the reference's WrongProgram. -/
namespace Go.Proofs.YtbohggoeebhdmaaGreatDoor
open Go.RowKit Go.Sort Go.Maps

/-- append of a slice of atoms that was there. -/
theorem RowA.many {w0 w : World} {lo : Nat} {v : Value} {l m : List AtomD} {a : Option Addr} {cap : Nat} (h : RowA w0 lo w v l) (hlo : lo ≤ w.heap.size) (hb : Below w0.heap.size w0 w) (hm : atomK.sl Anyw w0 (.slice a m.length cap) m) (hl : (l.length + m.length) * 48 ≤ 140737488355328) :
    ∃ v' w', (Builtin.append_ #[41, 41] 41 #[v, .slice a m.length cap]).run Tryz.prog w = .ok v' w' ∧ RowA w0 lo w' v' (l ++ m) ∧ w.grownBy w' v.ownBlock := by
  obtain ⟨i, i1, i2, i3, i4⟩ := infoAtom4
  obtain ⟨xs, ho, hx⟩ := h
  cases a with
  | none =>
    have hm0 : m = [] := by
      refine Classical.byContradiction fun hne => ?_
      obtain ⟨_, a', _, e, h1⟩ := hm
      simp only [Value.slice.injEq] at e
      obtain ⟨b, off, e', _⟩ := h1 hne
      rw [e'] at e; cases e.1
    subst hm0
    refine ⟨v, w, ?_, by rw [List.append_nil]; exact ⟨xs, ho, hx⟩, ⟨rfl, rfl, rfl, Nat.le_refl _, fun _ _ _ => rfl⟩⟩
    rcases ho.2 with ⟨rfl, e0⟩ | ⟨g, c, cur, rfl, _, _, hnc, _⟩
    · simp [Builtin.append_, run_underlying Tryz.underlying41, sizeOf, typeInfo, i1, Builtin.lenOf, Builtin.firstCells]
    · simp [Builtin.append_, run_underlying Tryz.underlying41, sizeOf, typeInfo, i1, Builtin.lenOf, Builtin.firstCells, hnc, storeCells]
  | some a =>
    obtain ⟨cs, cl, clen, cone, ccell, cis⟩ := Kind.sl_cells hm (by decide)
    have hxl : xs.length = l.length * 3 := ho.1
    obtain ⟨v', w', hrun, r1, r2, _, _⟩ := append_own (P := Tryz.prog) w lo 41 41 40 i _ 3 48 Tryz.underlying41 i1 i2 i3 i4 rfl (by omega) v l.length xs ho a m.length cap cs.flatten (by rw [flat_len _ clen, cl]; rfl)
      (fun j u hu => by
        have hc := ccell j u hu
        rw [hb.cell (World.block_lt_of_cell? w0 _ hc)]; exact hc)
      (fun u hu => by rw [List.mem_flatten] at hu; obtain ⟨c, hc, hu⟩ := hu; exact cone c hc u hu) (by simp only [maxLen]; omega) hl hlo
    refine ⟨v', w', hrun, ⟨xs ++ cs.flatten, by rw [List.length_append]; exact r1, fun j y hj => ?_⟩, r2⟩
    by_cases hjl : j < l.length
    · rw [List.getElem?_append_left hjl] at hj
      obtain ⟨d, d1, d2⟩ := hx j y hj
      refine ⟨d, d1, fun q u hu => ?_⟩
      have := d2 q u hu
      rw [List.getElem?_append_left (List.getElem?_eq_some_iff.1 this).1]; exact this
    · rw [List.getElem?_append_right (by omega)] at hj
      have hjm := (List.getElem?_eq_some_iff.1 hj).1
      have hc : cs[j - l.length]? = some (cs[j - l.length]'(by omega)) := List.getElem?_eq_getElem (by omega)
      refine ⟨_, cis _ _ y hc hj, fun q u hu => ?_⟩
      have hq : q < 3 := by
        have := clen _ (List.getElem_mem (by omega : j - l.length < cs.length))
        have h2 := (List.getElem?_eq_some_iff.1 hu).1
        rw [this] at h2; exact h2
      have := flat_get cs clen _ _ q hc hq
      rw [List.getElem?_append_right (by omega), hxl, show j * 3 + q - l.length * 3 = (j - l.length) * 3 + q by omega]
      exact this.trans hu

/-- The reference keeps one more. -/
def more (m : Nums) : Nums := fun s => (m s).map (· + 1)

theorem more_put (m : Nums) (s : Bs) (n : Nat) : (more m).put s (n + 1) = more (m.put s n) := by
  funext t
  unfold more Nums.put
  by_cases h : t = s
  · simp [h]
  · simp [h]

theorem put_self {m : Nums} {s : Bs} {n : Nat} (h : m s = some n) : m.put s n = m := by
  funext t
  unfold Nums.put
  by_cases e : t = s
  · rw [if_pos e, e, h]
  · rw [if_neg e]

theorem fitOne_none {m : Nums} {a : AtomD} (h : m a.name = none) : fitOne m a = (true, m.put a.name a.terms.length) := by unfold fitOne; rw [h]
theorem fitOne_some {m : Nums} {a : AtomD} {n : Nat} (h : m a.name = some n) : fitOne m a = (decide (n = a.terms.length), m) := by unfold fitOne; rw [h]

theorem wrongRule_fit {m : Nums} {r : RuleD} (h0 : wrongAtom r.head = 0) (hn : r.head.no = false) (hb : wrongBody r.body = 0) (hv : (vars r.head).all (givenBy r.body) = true) :
    wrongRule m r = (if (fitAll m (r.head :: r.body)).1 then 0 else 8, (fitAll m (r.head :: r.body)).2) := by
  have hfa : fitAll m (r.head :: r.body) = if (fitOne m r.head).1 then fitAll (fitOne m r.head).2 r.body else (false, (fitOne m r.head).2) := rfl
  generalize fitAll m (r.head :: r.body) = X at *
  unfold wrongRule
  rw [if_pos h0, hn, if_pos hb, hv]
  by_cases h1 : (fitOne m r.head).1 = true
  · rw [if_pos h1] at hfa
    subst hfa
    simp [h1]
  · rw [if_neg h1] at hfa
    subst hfa
    simp [h1]

end Go.Proofs.YtbohggoeebhdmaaGreatDoor

/- The document's answer: the walk of ref.Set. -/
namespace Go.Proofs.YtbohggoeebhdmaaGreatDoor
open Go.RowKit Go.Sort

set_option maxHeartbeats 2000000 in
theorem rSetC (v : Value) (l : List FactD) (w : World) (hf : Facts w v l) (hok : ∀ k, okF (l.getD k noFact)) :
    Calls Tryz.prog 38 #[v] w fun e w' => e = .returned (.agg #[.int .i64 (setFault l).1, .int .i64 (setFault l).2]) ∧ Later w w' := by
  have mx := mixed
  have HF := hide hf
  have HOK := hide hok
  obtain ⟨a, cap, rfl, hn, hz⟩ := hf.addr
  clear hf hok
  by_cases hbig : 200 < l.length
  · have e : setFault l = (5, 0) := by unfold setFault; rw [if_pos hbig]
    rw [e]
    go_enter Tryz.func38, Tryz.ntmps38
    go_wp2
    exact bodyPost_ret (v := .agg #[.int .i64 5, .int .i64 0]) (by simp [results, Tryz.results38, go_sem]) rfl ⟨rfl, (by repeat (first | exact Later.refl _ | assumption | refine Later.drewN ?_ _ | refine Later.drew ?_ | refine Later.alloc ?_ _ | refine Later.grow ?_ _))⟩
  · have e : setFault l = faultFrom l l.length 0 := by unfold setFault; rw [if_neg hbig]
    rw [e]
    clear e
    go_enter Tryz.func38, Tryz.ntmps38
    go_wp2
    go_loopw [12] (fun i wr => ∃ k : Nat, k ≤ l.length ∧ i = .int .i64 k ∧ Later (w.alloc (.cells #[.int .i64 0, .int .i64 0] 27)) wr ∧ Hid (faultFrom l l.length 0 = faultFrom l (l.length - k) k)) (fun i _ => l.length - (intOf i).toNat)
    case atStart => exact ⟨0, by omega, rfl, Later.refl _, (rfl : _ = _)⟩
    case round =>
      obtain ⟨k, hk, rfl, hL, HE⟩ := hrel
      have hL0 : Later w wr := ((Later.refl _).alloc _).trans hL
      have hsz : w.heap.size < wr.heap.size := by have := hL.size; simp at this; omega
      by_cases hlt : k < l.length
      · rcases hz with rfl | ⟨b, off, rfl⟩
        · simp at hlt
        have hltz : (k : Int) < (l.length : Int) := by omega
        obtain ⟨hb, ax, lx, cx, g1, g2, fx⟩ := (HF.out.later hL0).at hlt
        have hst := faultFrom_step l hlt
        have HWr : Hid (∀ w', Later wr w' → Calls Tryz.prog 71 #[.agg #[.string (l.getD k noFact).1, .slice ax lx cx]] w' fun e w'' => e = .returned (.int .i64 (wrongF (l.getD k noFact))) ∧ Later w' w'') :=
          fun w' hw => rWrong _ _ w' (fx.later hw) (HOK.out k)
        have FX := hide fx
        clear fx
        by_cases hwz : wrongF (l.getD k noFact) = 0
        · rw [if_neg (by omega)] at hst
          rw [hwz] at HWr
          by_cases hk0 : k = 0
          · have F : Hid (faultFrom l l.length 0 = faultFrom l (l.length - (k + 1)) (k + 1)) := by show _ = _; rw [HE.out, hst, if_neg (by omega)]
            have hd : decide (0 < k) = false := by rw [decide_eq_false_iff_not]; omega
            clear hk0
            generalize (l.getD k noFact).1 = nk at *
            clear hst
            go_wp2_with fail
            refine (HWr.out _ ((Later.refl _).alloc _)).mono ?_
            rintro e w1 ⟨rfl, hL1⟩
            go_wp2
            go_quiet (fail)
            go_wp2
            go_roundw
            case rel => exact ⟨k + 1, by omega, by go_num, (hL.trans (((Later.refl _).alloc _).trans hL1)).drewN _, F⟩
            case measure => simp [intOf]; omega
          · obtain ⟨j, rfl⟩ : ∃ j, k = j + 1 := ⟨k - 1, by omega⟩
            rw [Nat.add_sub_cancel] at hst
            have hjl : j < l.length := by omega
            have hjz : (j : Int) < (l.length : Int) := by omega
            have hd : (0 : Int) < (j : Int) + 1 := by omega
            have hwj : IntKind.i64.wrap (j : Int) = (j : Int) := wrap_nat j (by omega)
            generalize hfk : l.getD (j + 1) noFact = f at *
            have HFK := hide hfk
            clear hfk
            obtain ⟨nk, lk⟩ := f
            dsimp only at *
            go_wp2_with fail
            refine (HWr.out _ ((Later.refl _).alloc _)).mono ?_
            rintro e w1 ⟨rfl, hL1⟩
            have hLR : Later (w.alloc (.cells #[.int .i64 0, .int .i64 0] 27)) w1 := hL.trans (((Later.refl _).alloc _).trans hL1)
            have hL01 : Later w w1 := ((Later.refl _).alloc _).trans hLR
            have hR : w1.heap[w.heap.size]? = some (.cells #[.int .i64 0, .int .i64 0] 27 (0, 0)) := by rw [hLR.block (by simp), heap_alloc_new]
            have q0 : w1.cell? ⟨w.heap.size, 0, none⟩ = some (.int .i64 0) := by rw [cell_of_row _ _ _ _ _ _ hR]; rfl
            have q1 : w1.cell? ⟨w.heap.size, 1, none⟩ = some (.int .i64 0) := by rw [cell_of_row _ _ _ _ _ _ hR]; rfl
            have p0 : w1.frozen? ⟨w.heap.size, 0, none⟩ = false := frozen_of_row 0 hR
            have p1 : w1.frozen? ⟨w.heap.size, 1, none⟩ = false := frozen_of_row 1 hR
            have HRR := hide hR
            clear hR
            have hLw : Later wr w1 := ((Later.refl _).alloc _).trans hL1
            obtain ⟨ay, ly, cy, y1, y2, fy⟩ := (HF.out.later hL01).grown hjl
            have b0 := cell_later hL1 (p := ⟨wr.heap.size, 0, none⟩) (v := .string nk) (by simp) (by simp)
            have b1 := cell_later hL1 (p := ⟨wr.heap.size, 1, none⟩) (v := .slice ax lx cx) (by simp) (by simp)
            have hC : ∀ q os, Calls Tryz.prog 72 #[.agg #[.string (l.getD j noFact).1, .slice ay ly cy], .agg #[.string nk, .slice ax lx cx]] (grow (w1.drewN q) os) fun e w'' => e = .returned (.bool (lessF (l.getD j noFact) (nk, lk))) ∧ Later (grow (w1.drewN q) os) w'' :=
              fun q os => rLess _ _ _ _ _ (fy.later ⟨q, os, rfl⟩) ((FX.out.later hLw).later ⟨q, os, rfl⟩)
            unfold lessF at hC
            have HC := hide hC
            clear hC fy
            generalize cmpF (l.getD j noFact) (nk, lk) = cm at *
            generalize (l.getD j noFact).1 = nj at *
            by_cases hcm : 0 ≤ cm
            · rw [decide_eq_false (by omega)] at HC
              have F : Hid (faultFrom l l.length 0 = (2, ((j + 1 : Nat) : Int))) := by show _ = _; rw [HE.out, hst, if_pos ⟨by omega, hcm⟩]
              clear hst
              go_wp2
              go_quiet_grown ((go_at_call 72; exact Calls.grown_of (HC.out _ _)))
              dsimp only
              have hLW : Later w1 (grow (w1.drewN nq) osq) := ⟨_, _, rfl⟩
              generalize grow (w1.drewN nq) osq = w2 at hLW ⊢
              have hR : w2.heap[w.heap.size]? = some (.cells #[.int .i64 0, .int .i64 0] 27 (0, 0)) := by rw [hLW.block (by have := hLw.size; omega)]; exact HRR.out
              have q0 : w2.cell? ⟨w.heap.size, 0, none⟩ = some (.int .i64 0) := by rw [cell_of_row _ _ _ _ _ _ hR]; rfl
              have q1 : w2.cell? ⟨w.heap.size, 1, none⟩ = some (.int .i64 0) := by rw [cell_of_row _ _ _ _ _ _ hR]; rfl
              have p0 : w2.frozen? ⟨w.heap.size, 0, none⟩ = false := frozen_of_row 0 hR
              have p1 : w2.frozen? ⟨w.heap.size, 1, none⟩ = false := frozen_of_row 1 hR
              have HR2 := hide hR
              clear hR
              go_wp2
              obtain ⟨r0, r1⟩ := fault_cells HR2.out (.int .i64 2) (.int .i64 ((j : Int) + 1))
              refine bodyPost_ret (v := .agg #[.int .i64 2, .int .i64 ((j : Int) + 1)]) (by simp [results, Tryz.results38, go_sem, r0, r1]) rfl ⟨ret_fault (by rw [F.out]; simp), ?_⟩
              exact ((hL01.trans hLW).setCell (Nat.le_refl _) _).setCell (Nat.le_refl _) _
            · rw [decide_eq_true (by omega)] at HC
              have F : Hid (faultFrom l l.length 0 = faultFrom l (l.length - (j + 1 + 1)) (j + 1 + 1)) := by show _ = _; rw [HE.out, hst, if_neg (fun h => hcm h.2)]
              clear hst
              go_wp2
              go_quiet_grown ((go_at_call 72; exact Calls.grown_of (HC.out _ _)))
              go_wp2
              go_roundw
              case rel => exact ⟨j + 1 + 1, by omega, by go_num, hLR.trans ⟨_, _, rfl⟩, F⟩
              case measure => simp [intOf]; omega
        · have F : Hid (faultFrom l l.length 0 = (wrongF (l.getD k noFact), (k : Int))) := by show _ = _; rw [HE.out, hst, if_pos hwz]
          have hwz' : (wrongF (l.getD k noFact) == 0) = false := by simpa using hwz
          generalize wrongF (l.getD k noFact) = we at *
          generalize (l.getD k noFact).1 = nk at *
          clear hst
          go_wp2_with fail
          refine (HWr.out _ ((Later.refl _).alloc _)).mono ?_
          rintro e w1 ⟨rfl, hL1⟩
          have hLR : Later (w.alloc (.cells #[.int .i64 0, .int .i64 0] 27)) w1 := hL.trans (((Later.refl _).alloc _).trans hL1)
          have hL01 : Later w w1 := ((Later.refl _).alloc _).trans hLR
          have hR : w1.heap[w.heap.size]? = some (.cells #[.int .i64 0, .int .i64 0] 27 (0, 0)) := by rw [hLR.block (by simp), heap_alloc_new]
          have q0 : w1.cell? ⟨w.heap.size, 0, none⟩ = some (.int .i64 0) := by rw [cell_of_row _ _ _ _ _ _ hR]; rfl
          have q1 : w1.cell? ⟨w.heap.size, 1, none⟩ = some (.int .i64 0) := by rw [cell_of_row _ _ _ _ _ _ hR]; rfl
          have p0 : w1.frozen? ⟨w.heap.size, 0, none⟩ = false := frozen_of_row 0 hR
          have p1 : w1.frozen? ⟨w.heap.size, 1, none⟩ = false := frozen_of_row 1 hR
          have HRR := hide hR
          clear hR
          go_wp2
          obtain ⟨r0, r1⟩ := fault_cells HRR.out (.int .i64 we) (.int .i64 k)
          refine bodyPost_ret (v := .agg #[.int .i64 we, .int .i64 k]) (by simp [results, Tryz.results38, go_sem, r0, r1]) rfl ⟨ret_fault (by rw [F.out]), ?_⟩
          exact (hL01.setCell (Nat.le_refl _) _).setCell (Nat.le_refl _) _
      · have F : Hid (faultFrom l l.length 0 = (0, 0)) := by show _ = _; rw [HE.out, show l.length - k = 0 by omega]; rfl
        have q0 : wr.cell? ⟨w.heap.size, 0, none⟩ = some (.int .i64 0) := by rw [hL.cell (by simp)]; simp
        have q1 : wr.cell? ⟨w.heap.size, 1, none⟩ = some (.int .i64 0) := by rw [hL.cell (by simp)]; simp
        have p0 : wr.frozen? ⟨w.heap.size, 0, none⟩ = false := by rw [hL.frozen (by simp)]; simp
        have p1 : wr.frozen? ⟨w.heap.size, 1, none⟩ = false := by rw [hL.frozen (by simp)]; simp
        go_wp2
        have hR : wr.heap[w.heap.size]? = some (.cells #[.int .i64 0, .int .i64 0] 27 (0, 0)) := by rw [hL.block (by simp), heap_alloc_new]
        obtain ⟨r0, r1⟩ := fault_cells hR (.int .i64 0) (.int .i64 0)
        refine bodyPost_ret (v := .agg #[.int .i64 0, .int .i64 0]) (by simp [results, Tryz.results38, go_sem, r0, r1]) rfl ⟨ret_fault (by rw [F.out]), ?_⟩
        exact (hL0.setCell (Nat.le_refl _) _).setCell (Nat.le_refl _) _

end Go.Proofs.YtbohggoeebhdmaaGreatDoor
