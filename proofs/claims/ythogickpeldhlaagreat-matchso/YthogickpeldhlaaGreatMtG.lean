/- The walks of match.source, its closure, and match.meetAll. -/
import Derived.Test.YthogickpeldhlaaGreatMtD
import Derived.Test.YthogickpeldhlaaGreatMtF
namespace Go.Proofs.YthogickpeldhlaaGreat
open Go.RowKit Go.Sort

theorem infoBinds : ∃ i, Tryz.prog.info? 24 = some i ∧ i.zero = some (.slice none 0 0) ∧ i.size = 1 ∧ i.bytes = 24 := ⟨Tryz.t24, by kernel_rfl, by kernel_rfl, by kernel_rfl, by kernel_rfl⟩

theorem own_none {ty : TypeId} {lo : Nat} {w : World} {v : Value} {l : List BindD} (h : bindK.own ty lo w v l) : v.oneCell' = true := by
  obtain ⟨a, c, rfl⟩ := Kind.own_slice h; rfl

/-- One list more, in a block of its own. -/
theorem Lists.more {lo : Nat} {w : World} {v u : Value} {ps : List (Value × List BindD)} {l : List BindD} (h : Lists 24 34 lo w v ps) (hu : bindK.own 34 lo w u l) (ha : ∀ p ∈ ps, apart p.1 u) (hv : apart u v) (hl : ps.length + 1 ≤ 1099511627776) (hlo : lo ≤ w.heap.size) :
    ∃ v' w', (Builtin.append_ #[25, 25] 25 #[v, .slice (some ⟨w.heap.size, 0, none⟩) 1 1]).run Tryz.prog (w.alloc (.cells #[u] 24)) = .ok v' w' ∧ Lists 24 34 lo w' v' (ps ++ [(u, l)]) ∧ (w.alloc (.cells #[u] 24)).grownBy w' v.ownBlock ∧ w.drawn ≤ w'.drawn := by
  obtain ⟨i, i1, i2, i3, i4⟩ := infoBinds
  obtain ⟨ho, hp, hpw⟩ := h
  have hnews : ∀ j x, ([u] : List Value)[j]? = some x → (w.alloc (.cells #[u] 24)).cell? ((⟨w.heap.size, 0, none⟩ : Addr).add j) = some x := by
    intro j x hx
    rw [Addr.add_lit, Nat.zero_add, cell_of_row _ w.heap.size j #[u] 24 (0, 0) (heap_alloc_new w _)]
    simpa using hx
  obtain ⟨v', w', hrun, r1, r2, r3, r4⟩ := append_own (P := Tryz.prog) (w.alloc (.cells #[u] 24)) lo 25 25 24 i _ 1 24 Tryz.underlying25 i1 i2 i3 i4 rfl (by omega) v ps.length (ps.map (·.1)) (ho.alloc _) ⟨w.heap.size, 0, none⟩ 1 1 [u] rfl hnews
    (by intro x hx; simp at hx; subst hx; exact own_none hu) (by simp only [maxLen]; omega) (by omega) (by simp; omega)
  have keep : ∀ k, k < w.heap.size → v.ownBlock ≠ some k → w'.heap[k]? = w.heap[k]? := fun k hk hne =>
    (r2.block k (by simp; omega) (fun e => hne e.symm)).trans (Below.heap_alloc w _ k hk)
  have ap : ∀ {x : Value} {q : List BindD}, bindK.own 34 lo w x q → apart x v → bindK.own 34 lo w' x q ∧ apart x v' := fun {x q} hx hxa => by
    refine ⟨own_block hx fun k e => keep k (Kind.own_lt hx e).2 (hxa k e), fun k e e' => ?_⟩
    rcases r4 k e' with h1 | h1
    · exact hxa k e h1
    · have := (Kind.own_lt hx e).2
      simp at h1; omega
  refine ⟨v', w', hrun, ⟨by simpa using r1, fun p hp' => ?_, ?_⟩, r2, r3⟩
  · rcases List.mem_append.1 hp' with h1 | h1
    · exact ap (hp p h1).1 (hp p h1).2
    · simp at h1; subst h1; exact ap hu hv
  · rw [List.pairwise_append]
    exact ⟨hpw, List.pairwise_singleton _ _, fun p h1 q h2 => by simp at h2; subst h2; exact ha p h1⟩

theorem Lists.apartOf {tyS ty : TypeId} {lo b : Nat} {w w' : World} {v u : Value} {ps : List (Value × List BindD)} {l : List BindD} (h : Lists tyS ty lo w v ps) (hu : bindK.own ty b w' u l) (hb : w.heap.size ≤ b) : (∀ p ∈ ps, apart p.1 u) ∧ apart u v := by
  refine ⟨fun p hp k e e' => ?_, fun k e e' => ?_⟩
  · have h1 := (Kind.own_lt (h.2.1 p hp).1 e).2
    have h2 := (Kind.own_lt hu e').1
    omega
  · have h1 := (h.1.lt k e').2
    have h2 := (Kind.own_lt hu e).1
    omega

theorem Lists.lo_le {tyS ty : TypeId} {lo : Nat} {w : World} {v : Value} {ps : List (Value × List BindD)} (h : Lists tyS ty lo w v ps) : ∀ k, v.ownBlock = some k → lo ≤ k := fun k e => (h.1.lt k e).1

theorem Lists.base {tyS ty : TypeId} {lo lo' : Nat} {w : World} {v : Value} {ps : List (Value × List BindD)} (h : Lists tyS ty lo w v ps) (hl : lo' ≤ lo) : Lists tyS ty lo' w v ps := by
  obtain ⟨ho, hp, hpw⟩ := h
  refine ⟨⟨ho.1, ?_⟩, fun p h1 => ⟨own_base (hp p h1).1 hl, (hp p h1).2⟩, hpw⟩
  rcases ho.2 with e | ⟨g, cap, cur, e, hg, r⟩
  · exact Or.inl e
  · exact Or.inr ⟨g, cap, cur, e, Nat.le_trans hl hg, r⟩

theorem filterMap_step {fs : List FactD} {j : Nat} {f : FactD} (h : fs[j]? = some f) (q : FactD → Option (List BindD)) : (fs.take (j + 1)).filterMap q = match q f with | none => (fs.take j).filterMap q | some m => (fs.take j).filterMap q ++ [m] := by
  rw [List.take_add_one, h, List.filterMap_append]
  simp only [Option.toList]
  cases e : q f with
  | none => simp [e]
  | some m => simp [e]

theorem meetAllB_step {a : AtomD} {fs : List FactB} {ls : List (List BindD)} {i : Nat} {l : List BindD} (h : ls[i]? = some l) : meetAllB a fs (ls.take (i + 1)) = meetAllB a fs (ls.take i) ++ fs.filterMap fun f => meetB a f l := by
  unfold meetAllB
  rw [List.take_add_one, h, List.flatMap_append]
  simp

theorem meetAllB_le {a : AtomD} {fs : List FactB} {ls : List (List BindD)} (i : Nat) : (meetAllB a fs (ls.take i)).length ≤ (meetAllB a fs ls).length := by
  have h : meetAllB a fs ls = meetAllB a fs (ls.take i) ++ meetAllB a fs (ls.drop i) := by
    unfold meetAllB
    rw [← List.flatMap_append, List.take_append_drop]
  rw [h, List.length_append]
  omega

theorem facts_at {w : World} {a : Option Addr} {n cap : Nat} {l : List FactD} {j : Nat} {f : FactD} (h : Facts w (.slice a n cap) l) (hj : l[j]? = some f) :
    ∃ b off s, a = some ⟨b, off, none⟩ ∧ b < w.heap.size ∧ w.cell? ⟨b, off + j * 2, none⟩ = some (.string f.1) ∧ w.cell? ⟨b, off + j * 2 + 1, none⟩ = some s ∧ Strs w s f.2 := by
  obtain ⟨_, a', cap', e, h1⟩ := h
  simp only [Value.slice.injEq] at e
  obtain ⟨rfl, _, _⟩ := e
  obtain ⟨hl, e⟩ := List.getElem?_eq_some_iff.1 hj
  obtain ⟨b, off, rfl, hb, hc⟩ := h1 (by intro e; rw [e] at hl; simp at hl)
  obtain ⟨c1, s, c2, c3⟩ := hc j hl
  have ed : l.getD j noFact = f := by rw [List.getD_eq_getElem?_getD, hj]; rfl
  rw [ed] at c1 c3
  exact ⟨b, off, s, rfl, hb, c1, c2, c3⟩

theorem row3m {w : World} {R : Nat} {u0 u1 u2 : Value} {t : TypeId} (h : w.heap[R]? = some (.cells #[u0, u1, u2] t (0, 0))) : w.cell? ⟨R, 0, none⟩ = some u0 ∧ w.cell? ⟨R, 1, none⟩ = some u1 ∧ w.cell? ⟨R, 2, none⟩ = some u2 ∧ R < w.heap.size :=
  ⟨by rw [cell_of_row _ _ _ _ _ _ h]; rfl, by rw [cell_of_row _ _ _ _ _ _ h]; rfl, by rw [cell_of_row _ _ _ _ _ _ h]; rfl, (Array.getElem?_eq_some_iff.1 h).1⟩

/-- What meetAll tells. -/
def MetAll (w0 w : World) (v : Value) (ls : List (List BindD)) : Prop :=
  if 20000 < ls.length then v = .slice none 0 0 else ∃ ps, ps.map (·.2) = ls ∧ Lists 24 34 w0.heap.size w v ps

set_option maxRecDepth 100000 in
set_option maxHeartbeats 4000000 in
theorem meetAllC (a : AtomD) (tv fv v : Value) (fs : List FactD) (ls : List (List BindD)) (w : World) (ht : termK.sl Anyw w tv a.terms) (hf : Facts w fv fs) (hv : listK.sl Anyw w v ls) (hfs : fs.length ≤ 200) (hls : ls.length ≤ 20000) (hts : a.terms.length ≤ 4) (hll : ∀ l ∈ ls, l.length ≤ 1000) :
    Calls Tryz.prog 42 #[.agg #[.bool a.no, .string (bs a.name), tv], fv, v] w fun e w' => ∃ v', e = .returned (.tuple #[v', .int .i64 (if 20000 < (meetAllB a fs ls).length then 4 else 0)]) ∧ MetAll w w' v' (meetAllB a fs ls) ∧ Later w w' := by
  obtain ⟨sa, cap, rfl⟩ := Kind.slice ht
  obtain ⟨fa, capf, rfl⟩ := sliceFacts hf
  obtain ⟨va, capv, rfl⟩ := Kind.slice hv
  have HT := hide ht
  have HF := hide hf
  have HV := hide hv
  have HLL := hide hll
  clear ht hf hv hll
  have HM : Hid (∀ (l : List BindD) (u : Value) (f : FactD) (fv : Value) (w1 : World), Later w w1 → bindK.sl Anyw w1 u l → FactV w1 fv f → l.length ≤ 1000 → Calls Tryz.prog 12 #[.agg #[.bool a.no, .string (bs a.name), .slice sa a.terms.length cap], fv, u] w1 fun e w2 => ∃ v, e = .returned (.tuple #[v, .bool (meetB a f l).isSome]) ∧ MetV w1 w2 v (meetB a f l) ∧ Later w1 w2) := fun l u f fv w1 hL hu hf hl =>
    meetC a _ fv u f l w1 (Kind.sl_later HT.out hL) hf hu (by omega)
  obtain ⟨q, hq⟩ : ∃ q : List BindD → FactD → Option (List BindD), q = fun l f => meetB a f l := ⟨_, rfl⟩
  have HSt : Hid (∀ i l, ls[i]? = some l → meetAllB a fs (ls.take (i + 1)) = meetAllB a fs (ls.take i) ++ fs.filterMap (q l)) := fun i l h => by rw [hq]; exact meetAllB_step h
  have HLe : Hid (∀ i, (meetAllB a fs (ls.take i)).length ≤ (meetAllB a fs ls).length) := meetAllB_le
  have hqe : ∀ l f, meetB a f l = q l f := fun l f => by rw [hq]
  simp only [hqe] at HM
  have H0 : Hid (meetAllB a fs (ls.take 0) = []) := by show _ = _; simp [meetAllB]
  have HAll : Hid (meetAllB a fs (ls.take ls.length) = meetAllB a fs ls) := by show _ = _; rw [List.take_length]
  clear hqe hq
  generalize hA : (fun i => meetAllB a fs (ls.take i)) = A at *
  have hA' : ∀ i, meetAllB a fs (ls.take i) = A i := fun i => by rw [← hA]
  simp only [hA'] at HSt HLe H0 HAll
  clear hA hA'
  generalize meetAllB a fs ls = R at *
  obtain ⟨no, name, ts⟩ := a
  dsimp only at *
  generalize bs name = nm at *
  obtain ⟨er, her⟩ : ∃ er : Int, er = if 20000 < R.length then 4 else 0 := ⟨_, rfl⟩
  rw [← her]
  have HER := hide her
  clear her
  go_enter Tryz.func42, Tryz.ntmps42
  go_wp2
  go_loopg [8, 17] ls.length (fun g o i wr => ∃ j : Nat, j + g = ls.length ∧ i = .int .i64 j ∧ ∃ ps, Hid (ps.map (·.2) = A j) ∧ Hid (Lists 24 34 (w.heap.size + 1) wr o ps) ∧ Hid ((A j).length ≤ 20000) ∧ Hid (Later w wr) ∧ w.heap.size + 1 ≤ wr.heap.size ∧ Hid (wr.heap[w.heap.size]? = some (.cells #[.bool no, .string nm, .slice sa ts.length cap] 38 (0, 0))))
  case atStart =>
    refine ⟨0, by omega, rfl, [], (by rw [H0.out]; rfl : _ = _), Lists.nil _ _ _ _, (by rw [H0.out]; simp : _ ≤ _), ((by repeat (first | exact Later.refl _ | assumption | refine Later.drewN ?_ _ | refine Later.drew ?_ | refine Later.alloc ?_ _ | refine Later.grow ?_ _)) : Later _ _), by simp, ?_⟩
    show _ = _
    exact heap_alloc_new _ _
  case round =>
    obtain ⟨i, hi, rfl, ps, HP, HO, HN, HL, hsz, HB⟩ := hrel
    obtain ⟨ao, no', co, rfl⟩ : ∃ a n c, u8 = .slice a n c := by obtain ⟨a, c, e⟩ := Lists.slice HO.out; exact ⟨a, _, c, e⟩
    by_cases hlt : i < ls.length
    · obtain ⟨l, hl⟩ : ∃ l, ls[i]? = some l := ⟨_, List.getElem?_eq_getElem hlt⟩
      obtain ⟨b1, o1, _, rfl, hb1, ⟨lv, rfl, hlv⟩, hc⟩ := Kind.sl_at HV.out hl
      have d0 : wr.cell? ⟨b1, o1 + i, none⟩ = some lv := by rw [HL.out.cell hb1]; simpa [slK] using hc 0 _ rfl
      have hbr : b1 < wr.heap.size := Nat.lt_of_lt_of_le hb1 HL.out.size
      have hl1 : l.length ≤ 1000 := HLL.out l (List.mem_of_getElem? hl)
      have HS := hide (HSt.out i l hl)
      obtain ⟨al, cl, rfl⟩ := Kind.slice hlv
      have HLV := hide hlv
      clear hc hl hlv
      go_wp2
      go_loopg [8, 23] fs.length (fun g o k wr => ∃ j : Nat, j + g = fs.length ∧ k = .int .i64 j ∧ ∃ ps, Hid (ps.map (·.2) = A i ++ (fs.take j).filterMap (q l)) ∧ Hid (Lists 24 34 (w.heap.size + 1) wr o ps) ∧ Hid (Later w wr) ∧ w.heap.size + 1 ≤ wr.heap.size ∧ Hid (wr.heap[w.heap.size]? = some (.cells #[.bool no, .string nm, .slice sa ts.length cap] 38 (0, 0))))
      case atStart => exact ⟨0, by omega, rfl, ps, (by rw [HP.out]; simp : _ = _), HO, HL, hsz, HB⟩
      case round =>
        clear d0 hbr hsz HO HP HB HL
        obtain ⟨j, hj, rfl, ps, HP, HO, HL, hsz, HB⟩ := hrel
        obtain ⟨ao, no', co, rfl⟩ : ∃ a n c, u8 = .slice a n c := by obtain ⟨a, c, e⟩ := Lists.slice HO.out; exact ⟨a, _, c, e⟩
        by_cases hltj : j < fs.length
        · obtain ⟨f, hf⟩ : ∃ f, fs[j]? = some f := ⟨_, List.getElem?_eq_getElem hltj⟩
          obtain ⟨b2, o2, sf, rfl, hb2, f0, f1, f2⟩ := facts_at HF.out hf
          have d0 : wr.cell? ⟨b2, o2 + j * 2, none⟩ = some (.string f.1) := by rw [HL.out.cell hb2]; exact f0
          have d1 : wr.cell? ⟨b2, o2 + j * 2 + 1, none⟩ = some sf := by rw [HL.out.cell hb2]; exact f1
          have hbr : b2 < wr.heap.size := Nat.lt_of_lt_of_le hb2 HL.out.size
          have HFM := hide (filterMap_step hf (q l))
          obtain ⟨wt, hwt⟩ : ∃ wt, wt = wr.alloc (.cells #[.string f.1, sf] 41) := ⟨_, rfl⟩
          have hLt : Later w wt := by rw [hwt]; exact HL.out.alloc _
          have hLr : Later wr wt := by rw [hwt]; exact (Later.refl _).alloc _
          have hst : wt.heap.size = wr.heap.size + 1 := by rw [hwt]; simp
          have HC := hide (HM.out l (.slice al l.length cl) f (.agg #[.string f.1, sf]) wt hLt (Kind.sl_later HLV.out hLt) ⟨sf, rfl, f2.later hLt⟩ hl1)
          rw [hwt] at HC
          obtain ⟨q0, q1, q2, q3⟩ := row3m HB.out
          obtain ⟨af, cf, rfl⟩ := sliceStr f2
          have HWT := hide hwt
          clear f0 f1 f2 hf hwt
          obtain ⟨fn, fargs⟩ := f
          dsimp only at *
          cases hqf : q l (fn, fargs) with
          | none =>
            rw [hqf] at HC HFM
            have HP1 : Hid (ps.map (·.2) = A i ++ (fs.take (j + 1)).filterMap (q l)) := by
              show _ = _
              have := HFM.out
              dsimp only at this
              rw [this]; exact HP.out
            simp only [Option.isSome_none] at HC
            clear hqf HFM
            go_wp2_with fail
            refine HC.out.mono ?_
            rintro e w2 ⟨mv, rfl, hmv, hL2⟩
            cases hmv
            rw [← HWT.out] at hL2
            have hLr2 : Later wr w2 := hLr.trans hL2
            have HO2 := hide (HO.out.later hLr2)
            have HB2 := hide ((hLr2.block (by omega)).trans HB.out)
            have HL2 := hide (hLt.trans hL2)
            have hs2 : w.heap.size + 1 ≤ w2.heap.size := by have := hLr2.size; omega
            clear hL2 hLr2 HC
            go_wp2
            go_roundg (fs.length - (j + 1))
            case measure => omega
            case rel => exact ⟨j + 1, by omega, by go_num, ps, HP1, HO2, HL2, hs2, HB2⟩
          | some m =>
            rw [hqf] at HC HFM
            have HP1 : Hid ((ps ++ [((.slice none 0 0 : Value), m)]).map (·.2) = A i ++ (fs.take (j + 1)).filterMap (q l)) := by
              show _ = _
              have := HFM.out
              dsimp only at this
              rw [this, List.map_append, HP.out, List.append_assoc]; rfl
            simp only [Option.isSome_some] at HC
            have hpl : ps.length ≤ 20000 + j := by
              have h1 := congrArg List.length HP.out
              have h2 := HN.out
              have h3 := List.length_filterMap_le (q l) (fs.take j)
              rw [List.length_map, List.length_append] at h1
              rw [List.length_take] at h3
              omega
            clear hqf HFM HP
            go_wp2_with fail
            refine HC.out.mono ?_
            rintro e w2 ⟨mv, rfl, hmv, hL2⟩
            have hmo : bindK.own 34 wt.heap.size w2 mv m := by rw [HWT.out]; exact hmv
            clear hmv
            rw [← HWT.out] at hL2
            have hLr2 : Later wr w2 := hLr.trans hL2
            have hs2 : wr.heap.size < w2.heap.size := by have := hL2.size; omega
            have hO2 := HO.out.later hLr2
            have hap := HO.out.apartOf hmo (by omega)
            obtain ⟨v', w4, hrun, hO4, hg4, hd4⟩ := hO2.more (own_base hmo (lo' := w.heap.size + 1) (by omega)) hap.1 hap.2 (by omega) (by omega)
            obtain ⟨am, nm', cm, rfl⟩ : ∃ a n c, mv = .slice a n c := by obtain ⟨a, c, e⟩ := Kind.own_slice hmo; exact ⟨a, _, c, e⟩
            have HL4 := hide ((hLt.trans hL2).more hg4 hd4 fun k e => by have := hO2.lo_le k e; omega)
            have hs4 : w.heap.size + 1 ≤ w4.heap.size := by have := hg4.size; simp at this; omega
            have HB4 : Hid (w4.heap[w.heap.size]? = some (.cells #[.bool no, .string nm, .slice sa ts.length cap] 38 (0, 0))) := by
              show _ = _
              rw [hg4.block w.heap.size (by simp; omega) (fun e => by have := hO2.lo_le _ e.symm; omega), Below.heap_alloc _ _ _ (by omega)]
              exact (hLr2.block (by omega)).trans HB.out
            obtain ⟨a4, n4, c4, rfl⟩ : ∃ a n c, v' = .slice a n c := by obtain ⟨a, c, e⟩ := Lists.slice hO4; exact ⟨a, _, c, e⟩
            have HR4 := hide hrun
            have HO4 := hide hO4
            have HP2 : Hid ((ps ++ [((.slice am nm' cm : Value), m)]).map (·.2) = A i ++ (fs.take (j + 1)).filterMap (q l)) := by
              show _ = _
              rw [← HP1.out]; simp
            clear hL2 hLr2 HC hrun hO4 hg4 hd4 hO2 hap hmo HP1
            go_wp2_with (at_builtin; refine wpList_append_run rfl (.tmp 35) (.tmp 37) 25 rfl _ _ _ _ rfl rfl HR4.out ?_)
            go_roundg (fs.length - (j + 1))
            case measure => omega
            case rel => exact ⟨j + 1, by omega, by go_num, _, HP2, HO4, HL4, hs4, HB4⟩
        · have e : j = fs.length := by omega
          have HP1 : Hid (ps.map (·.2) = A (i + 1)) := by
            show _ = _
            rw [HP.out, HS.out, e, List.take_length]
          have hpl : no' = (A (i + 1)).length := by
            have h1 := congrArg List.length HP1.out
            obtain ⟨a, c, e⟩ := Lists.slice HO.out
            simp only [Value.slice.injEq] at e
            rw [List.length_map] at h1
            omega
          by_cases hbig : 20000 < (A (i + 1)).length
          · have hz : (20000 : Int) < (no' : Int) := by omega
            have HR1 : Hid (20000 < R.length) := by
              show _ < _
              have := HLe.out (i + 1)
              omega
            clear hpl hbig HP HP1
            go_wp2
            go_ret2
            have e4 : er = 4 := by rw [HER.out]; exact if_pos HR1.out
            refine ⟨.slice none 0 0, by rw [e4]; rfl, ?_, HL.out⟩
            unfold MetAll
            rw [if_pos HR1.out]
          · have hz : ¬ ((20000 : Int) < (no' : Int)) := by omega
            have HN1 : Hid ((A (i + 1)).length ≤ 20000) := (by omega : _ ≤ _)
            clear hpl hbig HP
            go_wp2
            go_roundg (ls.length - (i + 1))
            case measure => omega
            case rel => exact ⟨i + 1, by omega, by go_num, ps, HP1, HO, HN1, HL, hsz, HB⟩
    · have e : i = ls.length := by omega
      have HR1 : Hid (¬ 20000 < R.length) := by
        show ¬ _
        have := HN.out
        rw [e, HAll.out] at this
        omega
      have HP1 : Hid (ps.map (·.2) = R) := by show _ = _; rw [HP.out, e, HAll.out]
      clear HP HN e
      go_wp2
      go_ret2
      have e4 : er = 0 := by rw [HER.out]; exact if_neg HR1.out
      refine ⟨.slice ao no' co, by rw [e4]; rfl, ?_, HL.out⟩
      unfold MetAll
      rw [if_neg HR1.out]
      exact ⟨ps, HP1.out, HO.out.base (by omega)⟩

end Go.Proofs.YthogickpeldhlaaGreat
