import Derived.Test.YtbohggoeebhdmaaGreatDoorJ23
import Derived.Test.YtbohggoeebhdmaaGreatDoorJ22
import Derived.Test.YtbohggoeebhdmaaGreatDoorJ21
/- The walks of match.source, its closure, and match.meetAll. -/
namespace Go.Proofs.YtbohggoeebhdmaaGreatDoor
open Go.RowKit Go.Sort

theorem infoBinds : ∃ i, Tryz.prog.info? 58 = some i ∧ i.zero = some (.slice none 0 0) ∧ i.size = 1 ∧ i.bytes = 24 := ⟨Tryz.t58, by kernel_rfl, by kernel_rfl, by kernel_rfl, by kernel_rfl⟩

theorem own_none {ty : TypeId} {lo : Nat} {w : World} {v : Value} {l : List BindD} (h : bindK.own ty lo w v l) : v.oneCell' = true := by
  obtain ⟨a, c, rfl⟩ := Kind.own_slice h; rfl

/-- One list more, in a block of its own. -/
theorem Lists.more {lo : Nat} {w : World} {v u : Value} {ps : List (Value × List BindD)} {l : List BindD} (h : Lists 58 147 lo w v ps) (hu : bindK.own 147 lo w u l) (ha : ∀ p ∈ ps, apart p.1 u) (hv : apart u v) (hl : ps.length + 1 ≤ 1099511627776) (hlo : lo ≤ w.heap.size) :
    ∃ v' w', (Builtin.append_ #[55, 55] 55 #[v, .slice (some ⟨w.heap.size, 0, none⟩) 1 1]).run Tryz.prog (w.alloc (.cells #[u] 58)) = .ok v' w' ∧ Lists 58 147 lo w' v' (ps ++ [(u, l)]) ∧ (w.alloc (.cells #[u] 58)).grownBy w' v.ownBlock ∧ w.drawn ≤ w'.drawn := by
  obtain ⟨i, i1, i2, i3, i4⟩ := infoBinds
  obtain ⟨ho, hp, hpw⟩ := h
  have hnews : ∀ j x, ([u] : List Value)[j]? = some x → (w.alloc (.cells #[u] 58)).cell? ((⟨w.heap.size, 0, none⟩ : Addr).add j) = some x := by
    intro j x hx
    rw [Addr.add_lit, Nat.zero_add, cell_of_row _ w.heap.size j #[u] 58 (0, 0) (heap_alloc_new w _)]
    simpa using hx
  obtain ⟨v', w', hrun, r1, r2, r3, r4⟩ := append_own (P := Tryz.prog) (w.alloc (.cells #[u] 58)) lo 55 55 58 i _ 1 24 Tryz.underlying55 i1 i2 i3 i4 rfl (by omega) v ps.length (ps.map (·.1)) (ho.alloc _) ⟨w.heap.size, 0, none⟩ 1 1 [u] rfl hnews
    (by intro x hx; simp at hx; subst hx; exact own_none hu) (by simp only [maxLen]; omega) (by omega) (by simp; omega)
  have keep : ∀ k, k < w.heap.size → v.ownBlock ≠ some k → w'.heap[k]? = w.heap[k]? := fun k hk hne =>
    (r2.block k (by simp; omega) (fun e => hne e.symm)).trans (Below.heap_alloc w _ k hk)
  have ap : ∀ {x : Value} {q : List BindD}, bindK.own 147 lo w x q → apart x v → bindK.own 147 lo w' x q ∧ apart x v' := fun {x q} hx hxa => by
    refine ⟨own_block hx fun k e => keep k (Kind.own_lt hx e).2 (hxa k e), fun k e e' => ?_⟩
    rcases r4 k e' with h1 | h1
    · exact hxa k e h1
    · have := (Kind.own_lt hx e).2
      simp at h1; omega
  refine ⟨v', w', hrun, ⟨by simpa using r1, fun p hp' => ?_, ?_⟩, r2, r3⟩
  · rcases List.mem_append.1 hp' with h1 | h1
    · exact ap (hp p h1).1 (hp p h1).2
    · simp at h1; subst h1; exact ap hu hv
  · rw [List.pairwise_append]
    exact ⟨hpw, List.pairwise_singleton _ _, fun p h1 q h2 => by simp at h2; subst h2; exact ha p h1⟩

theorem Lists.apartOf {tyS ty : TypeId} {lo b : Nat} {w w' : World} {v u : Value} {ps : List (Value × List BindD)} {l : List BindD} (h : Lists tyS ty lo w v ps) (hu : bindK.own ty b w' u l) (hb : w.heap.size ≤ b) : (∀ p ∈ ps, apart p.1 u) ∧ apart u v := by
  refine ⟨fun p hp k e e' => ?_, fun k e e' => ?_⟩
  · have h1 := (Kind.own_lt (h.2.1 p hp).1 e).2
    have h2 := (Kind.own_lt hu e').1
    omega
  · have h1 := (h.1.lt k e').2
    have h2 := (Kind.own_lt hu e).1
    omega

theorem Lists.lo_le {tyS ty : TypeId} {lo : Nat} {w : World} {v : Value} {ps : List (Value × List BindD)} (h : Lists tyS ty lo w v ps) : ∀ k, v.ownBlock = some k → lo ≤ k := fun k e => (h.1.lt k e).1

theorem Lists.base {tyS ty : TypeId} {lo lo' : Nat} {w : World} {v : Value} {ps : List (Value × List BindD)} (h : Lists tyS ty lo w v ps) (hl : lo' ≤ lo) : Lists tyS ty lo' w v ps := by
  obtain ⟨ho, hp, hpw⟩ := h
  refine ⟨⟨ho.1, ?_⟩, fun p h1 => ⟨own_base (hp p h1).1 hl, (hp p h1).2⟩, hpw⟩
  rcases ho.2 with e | ⟨g, cap, cur, e, hg, r⟩
  · exact Or.inl e
  · exact Or.inr ⟨g, cap, cur, e, Nat.le_trans hl hg, r⟩

theorem filterMap_step {fs : List FactD} {j : Nat} {f : FactD} (h : fs[j]? = some f) (q : FactD → Option (List BindD)) : (fs.take (j + 1)).filterMap q = match q f with | none => (fs.take j).filterMap q | some m => (fs.take j).filterMap q ++ [m] := by
  rw [List.take_add_one, h, List.filterMap_append]
  simp only [Option.toList]
  cases e : q f with
  | none => simp [e]
  | some m => simp [e]

theorem meetAllB_step {a : AtomD} {fs : List FactB} {ls : List (List BindD)} {i : Nat} {l : List BindD} (h : ls[i]? = some l) : meetAllB a fs (ls.take (i + 1)) = meetAllB a fs (ls.take i) ++ fs.filterMap fun f => meetB a f l := by
  unfold meetAllB
  rw [List.take_add_one, h, List.flatMap_append]
  simp

theorem meetAllB_le {a : AtomD} {fs : List FactB} {ls : List (List BindD)} (i : Nat) : (meetAllB a fs (ls.take i)).length ≤ (meetAllB a fs ls).length := by
  have h : meetAllB a fs ls = meetAllB a fs (ls.take i) ++ meetAllB a fs (ls.drop i) := by
    unfold meetAllB
    rw [← List.flatMap_append, List.take_append_drop]
  rw [h, List.length_append]
  omega

theorem facts_at {w : World} {a : Option Addr} {n cap : Nat} {l : List FactD} {j : Nat} {f : FactD} (h : Facts w (.slice a n cap) l) (hj : l[j]? = some f) :
    ∃ b off s, a = some ⟨b, off, none⟩ ∧ b < w.heap.size ∧ w.cell? ⟨b, off + j * 2, none⟩ = some (.string f.1) ∧ w.cell? ⟨b, off + j * 2 + 1, none⟩ = some s ∧ Strs w s f.2 := by
  obtain ⟨_, a', cap', e, h1⟩ := h
  simp only [Value.slice.injEq] at e
  obtain ⟨rfl, _, _⟩ := e
  obtain ⟨hl, e⟩ := List.getElem?_eq_some_iff.1 hj
  obtain ⟨b, off, rfl, hb, hc⟩ := h1 (by intro e; rw [e] at hl; simp at hl)
  obtain ⟨c1, s, c2, c3⟩ := hc j hl
  have ed : l.getD j noFact = f := by rw [List.getD_eq_getElem?_getD, hj]; rfl
  rw [ed] at c1 c3
  exact ⟨b, off, s, rfl, hb, c1, c2, c3⟩

theorem row3m {w : World} {R : Nat} {u0 u1 u2 : Value} {t : TypeId} (h : w.heap[R]? = some (.cells #[u0, u1, u2] t (0, 0))) : w.cell? ⟨R, 0, none⟩ = some u0 ∧ w.cell? ⟨R, 1, none⟩ = some u1 ∧ w.cell? ⟨R, 2, none⟩ = some u2 ∧ R < w.heap.size :=
  ⟨by rw [cell_of_row _ _ _ _ _ _ h]; rfl, by rw [cell_of_row _ _ _ _ _ _ h]; rfl, by rw [cell_of_row _ _ _ _ _ _ h]; rfl, (Array.getElem?_eq_some_iff.1 h).1⟩

/-- What meetAll tells. -/
def MetAll (w0 w : World) (v : Value) (ls : List (List BindD)) : Prop :=
  if 20000 < ls.length then v = .slice none 0 0 else ∃ ps, ps.map (·.2) = ls ∧ Lists 58 147 w0.heap.size w v ps

set_option maxRecDepth 100000 in
set_option maxHeartbeats 4000000 in
theorem meetAllC (a : AtomD) (tv fv v : Value) (fs : List FactD) (ls : List (List BindD)) (w : World) (ht : termK.sl Anyw w tv a.terms) (hf : Facts w fv fs) (hv : listK.sl Anyw w v ls) (hfs : fs.length ≤ 200) (hls : ls.length ≤ 20000) (hts : a.terms.length ≤ 4) (hll : ∀ l ∈ ls, l.length ≤ 1000) :
    Calls Tryz.prog 138 #[.agg #[.bool a.no, .string (bs a.name), tv], fv, v] w fun e w' => ∃ v', e = .returned (.tuple #[v', .int .i64 (if 20000 < (meetAllB a fs ls).length then 4 else 0)]) ∧ MetAll w w' v' (meetAllB a fs ls) ∧ Later w w' := by
  obtain ⟨sa, cap, rfl⟩ := Kind.slice ht
  obtain ⟨fa, capf, rfl⟩ := sliceFacts hf
  obtain ⟨va, capv, rfl⟩ := Kind.slice hv
  have HT := hide ht
  have HF := hide hf
  have HV := hide hv
  have HLL := hide hll
  clear ht hf hv hll
  have HM : Hid (∀ (l : List BindD) (u : Value) (f : FactD) (fv : Value) (w1 : World), Later w w1 → bindK.sl Anyw w1 u l → FactV w1 fv f → l.length ≤ 1000 → Calls Tryz.prog 166 #[.agg #[.bool a.no, .string (bs a.name), .slice sa a.terms.length cap], fv, u] w1 fun e w2 => ∃ v, e = .returned (.tuple #[v, .bool (meetB a f l).isSome]) ∧ MetV w1 w2 v (meetB a f l) ∧ Later w1 w2) := fun l u f fv w1 hL hu hf hl =>
    meetC a _ fv u f l w1 (Kind.sl_later HT.out hL) hf hu (by omega)
  obtain ⟨q, hq⟩ : ∃ q : List BindD → FactD → Option (List BindD), q = fun l f => meetB a f l := ⟨_, rfl⟩
  have HSt : Hid (∀ i l, ls[i]? = some l → meetAllB a fs (ls.take (i + 1)) = meetAllB a fs (ls.take i) ++ fs.filterMap (q l)) := fun i l h => by rw [hq]; exact meetAllB_step h
  have HLe : Hid (∀ i, (meetAllB a fs (ls.take i)).length ≤ (meetAllB a fs ls).length) := meetAllB_le
  have hqe : ∀ l f, meetB a f l = q l f := fun l f => by rw [hq]
  simp only [hqe] at HM
  have H0 : Hid (meetAllB a fs (ls.take 0) = []) := by show _ = _; simp [meetAllB]
  have HAll : Hid (meetAllB a fs (ls.take ls.length) = meetAllB a fs ls) := by show _ = _; rw [List.take_length]
  clear hqe hq
  generalize hA : (fun i => meetAllB a fs (ls.take i)) = A at *
  have hA' : ∀ i, meetAllB a fs (ls.take i) = A i := fun i => by rw [← hA]
  simp only [hA'] at HSt HLe H0 HAll
  clear hA hA'
  generalize meetAllB a fs ls = R at *
  obtain ⟨no, name, ts⟩ := a
  dsimp only at *
  generalize bs name = nm at *
  obtain ⟨er, her⟩ : ∃ er : Int, er = if 20000 < R.length then 4 else 0 := ⟨_, rfl⟩
  rw [← her]
  have HER := hide her
  clear her
  go_enter Tryz.func138, Tryz.ntmps138
  go_wp2
  go_loopg [8, 17] ls.length (fun g o i wr => ∃ j : Nat, j + g = ls.length ∧ i = .int .i64 j ∧ ∃ ps, Hid (ps.map (·.2) = A j) ∧ Hid (Lists 58 147 (w.heap.size + 1) wr o ps) ∧ Hid ((A j).length ≤ 20000) ∧ Hid (Later w wr) ∧ w.heap.size + 1 ≤ wr.heap.size ∧ Hid (wr.heap[w.heap.size]? = some (.cells #[.bool no, .string nm, .slice sa ts.length cap] 40 (0, 0))))
  case atStart =>
    refine ⟨0, by omega, rfl, [], (by rw [H0.out]; rfl : _ = _), Lists.nil _ _ _ _, (by rw [H0.out]; simp : _ ≤ _), ((by repeat (first | exact Later.refl _ | assumption | refine Later.drewN ?_ _ | refine Later.drew ?_ | refine Later.alloc ?_ _ | refine Later.grow ?_ _)) : Later _ _), by simp, ?_⟩
    show _ = _
    exact heap_alloc_new _ _
  case round =>
    obtain ⟨i, hi, rfl, ps, HP, HO, HN, HL, hsz, HB⟩ := hrel
    obtain ⟨ao, no', co, rfl⟩ : ∃ a n c, u8 = .slice a n c := by obtain ⟨a, c, e⟩ := Lists.slice HO.out; exact ⟨a, _, c, e⟩
    by_cases hlt : i < ls.length
    · obtain ⟨l, hl⟩ : ∃ l, ls[i]? = some l := ⟨_, List.getElem?_eq_getElem hlt⟩
      obtain ⟨b1, o1, _, rfl, hb1, ⟨lv, rfl, hlv⟩, hc⟩ := Kind.sl_at HV.out hl
      have d0 : wr.cell? ⟨b1, o1 + i, none⟩ = some lv := by rw [HL.out.cell hb1]; simpa [slK] using hc 0 _ rfl
      have hbr : b1 < wr.heap.size := Nat.lt_of_lt_of_le hb1 HL.out.size
      have hl1 : l.length ≤ 1000 := HLL.out l (List.mem_of_getElem? hl)
      have HS := hide (HSt.out i l hl)
      obtain ⟨al, cl, rfl⟩ := Kind.slice hlv
      have HLV := hide hlv
      clear hc hl hlv
      go_wp2
      go_loopg [8, 23] fs.length (fun g o k wr => ∃ j : Nat, j + g = fs.length ∧ k = .int .i64 j ∧ ∃ ps, Hid (ps.map (·.2) = A i ++ (fs.take j).filterMap (q l)) ∧ Hid (Lists 58 147 (w.heap.size + 1) wr o ps) ∧ Hid (Later w wr) ∧ w.heap.size + 1 ≤ wr.heap.size ∧ Hid (wr.heap[w.heap.size]? = some (.cells #[.bool no, .string nm, .slice sa ts.length cap] 40 (0, 0))))
      case atStart => exact ⟨0, by omega, rfl, ps, (by rw [HP.out]; simp : _ = _), HO, HL, hsz, HB⟩
      case round =>
        clear d0 hbr hsz HO HP HB HL
        obtain ⟨j, hj, rfl, ps, HP, HO, HL, hsz, HB⟩ := hrel
        obtain ⟨ao, no', co, rfl⟩ : ∃ a n c, u8 = .slice a n c := by obtain ⟨a, c, e⟩ := Lists.slice HO.out; exact ⟨a, _, c, e⟩
        by_cases hltj : j < fs.length
        · obtain ⟨f, hf⟩ : ∃ f, fs[j]? = some f := ⟨_, List.getElem?_eq_getElem hltj⟩
          obtain ⟨b2, o2, sf, rfl, hb2, f0, f1, f2⟩ := facts_at HF.out hf
          have d0 : wr.cell? ⟨b2, o2 + j * 2, none⟩ = some (.string f.1) := by rw [HL.out.cell hb2]; exact f0
          have d1 : wr.cell? ⟨b2, o2 + j * 2 + 1, none⟩ = some sf := by rw [HL.out.cell hb2]; exact f1
          have hbr : b2 < wr.heap.size := Nat.lt_of_lt_of_le hb2 HL.out.size
          have HFM := hide (filterMap_step hf (q l))
          obtain ⟨wt, hwt⟩ : ∃ wt, wt = wr.alloc (.cells #[.string f.1, sf] 54) := ⟨_, rfl⟩
          have hLt : Later w wt := by rw [hwt]; exact HL.out.alloc _
          have hLr : Later wr wt := by rw [hwt]; exact (Later.refl _).alloc _
          have hst : wt.heap.size = wr.heap.size + 1 := by rw [hwt]; simp
          have HC := hide (HM.out l (.slice al l.length cl) f (.agg #[.string f.1, sf]) wt hLt (Kind.sl_later HLV.out hLt) ⟨sf, rfl, f2.later hLt⟩ hl1)
          rw [hwt] at HC
          obtain ⟨q0, q1, q2, q3⟩ := row3m HB.out
          obtain ⟨af, cf, rfl⟩ := sliceStr f2
          have HWT := hide hwt
          clear f0 f1 f2 hf hwt
          obtain ⟨fn, fargs⟩ := f
          dsimp only at *
          cases hqf : q l (fn, fargs) with
          | none =>
            rw [hqf] at HC HFM
            have HP1 : Hid (ps.map (·.2) = A i ++ (fs.take (j + 1)).filterMap (q l)) := by
              show _ = _
              have := HFM.out
              dsimp only at this
              rw [this]; exact HP.out
            simp only [Option.isSome_none] at HC
            clear hqf HFM
            go_wp2_with fail
            refine HC.out.mono ?_
            rintro e w2 ⟨mv, rfl, hmv, hL2⟩
            cases hmv
            rw [← HWT.out] at hL2
            have hLr2 : Later wr w2 := hLr.trans hL2
            have HO2 := hide (HO.out.later hLr2)
            have HB2 := hide ((hLr2.block (by omega)).trans HB.out)
            have HL2 := hide (hLt.trans hL2)
            have hs2 : w.heap.size + 1 ≤ w2.heap.size := by have := hLr2.size; omega
            clear hL2 hLr2 HC
            go_wp2
            go_roundg (fs.length - (j + 1))
            case measure => omega
            case rel => exact ⟨j + 1, by omega, by go_num, ps, HP1, HO2, HL2, hs2, HB2⟩
          | some m =>
            rw [hqf] at HC HFM
            have HP1 : Hid ((ps ++ [((.slice none 0 0 : Value), m)]).map (·.2) = A i ++ (fs.take (j + 1)).filterMap (q l)) := by
              show _ = _
              have := HFM.out
              dsimp only at this
              rw [this, List.map_append, HP.out, List.append_assoc]; rfl
            simp only [Option.isSome_some] at HC
            have hpl : ps.length ≤ 20000 + j := by
              have h1 := congrArg List.length HP.out
              have h2 := HN.out
              have h3 := List.length_filterMap_le (q l) (fs.take j)
              rw [List.length_map, List.length_append] at h1
              rw [List.length_take] at h3
              omega
            clear hqf HFM HP
            go_wp2_with fail
            refine HC.out.mono ?_
            rintro e w2 ⟨mv, rfl, hmv, hL2⟩
            have hmo : bindK.own 147 wt.heap.size w2 mv m := by rw [HWT.out]; exact hmv
            clear hmv
            rw [← HWT.out] at hL2
            have hLr2 : Later wr w2 := hLr.trans hL2
            have hs2 : wr.heap.size < w2.heap.size := by have := hL2.size; omega
            have hO2 := HO.out.later hLr2
            have hap := HO.out.apartOf hmo (by omega)
            obtain ⟨v', w4, hrun, hO4, hg4, hd4⟩ := hO2.more (own_base hmo (lo' := w.heap.size + 1) (by omega)) hap.1 hap.2 (by omega) (by omega)
            obtain ⟨am, nm', cm, rfl⟩ : ∃ a n c, mv = .slice a n c := by obtain ⟨a, c, e⟩ := Kind.own_slice hmo; exact ⟨a, _, c, e⟩
            have HL4 := hide ((hLt.trans hL2).more hg4 hd4 fun k e => by have := hO2.lo_le k e; omega)
            have hs4 : w.heap.size + 1 ≤ w4.heap.size := by have := hg4.size; simp at this; omega
            have HB4 : Hid (w4.heap[w.heap.size]? = some (.cells #[.bool no, .string nm, .slice sa ts.length cap] 40 (0, 0))) := by
              show _ = _
              rw [hg4.block w.heap.size (by simp; omega) (fun e => by have := hO2.lo_le _ e.symm; omega), Below.heap_alloc _ _ _ (by omega)]
              exact (hLr2.block (by omega)).trans HB.out
            obtain ⟨a4, n4, c4, rfl⟩ : ∃ a n c, v' = .slice a n c := by obtain ⟨a, c, e⟩ := Lists.slice hO4; exact ⟨a, _, c, e⟩
            have HR4 := hide hrun
            have HO4 := hide hO4
            have HP2 : Hid ((ps ++ [((.slice am nm' cm : Value), m)]).map (·.2) = A i ++ (fs.take (j + 1)).filterMap (q l)) := by
              show _ = _
              rw [← HP1.out]; simp
            clear hL2 hLr2 HC hrun hO4 hg4 hd4 hO2 hap hmo HP1
            go_wp2_with (at_builtin; refine wpList_append_run rfl (.tmp 35) (.tmp 37) 55 rfl _ _ _ _ rfl rfl HR4.out ?_)
            go_roundg (fs.length - (j + 1))
            case measure => omega
            case rel => exact ⟨j + 1, by omega, by go_num, _, HP2, HO4, HL4, hs4, HB4⟩
        · have e : j = fs.length := by omega
          have HP1 : Hid (ps.map (·.2) = A (i + 1)) := by
            show _ = _
            rw [HP.out, HS.out, e, List.take_length]
          have hpl : no' = (A (i + 1)).length := by
            have h1 := congrArg List.length HP1.out
            obtain ⟨a, c, e⟩ := Lists.slice HO.out
            simp only [Value.slice.injEq] at e
            rw [List.length_map] at h1
            omega
          by_cases hbig : 20000 < (A (i + 1)).length
          · have hz : (20000 : Int) < (no' : Int) := by omega
            have HR1 : Hid (20000 < R.length) := by
              show _ < _
              have := HLe.out (i + 1)
              omega
            clear hpl hbig HP HP1
            go_wp2
            go_ret2
            have e4 : er = 4 := by rw [HER.out]; exact if_pos HR1.out
            refine ⟨.slice none 0 0, by rw [e4]; rfl, ?_, HL.out⟩
            unfold MetAll
            rw [if_pos HR1.out]
          · have hz : ¬ ((20000 : Int) < (no' : Int)) := by omega
            have HN1 : Hid ((A (i + 1)).length ≤ 20000) := (by omega : _ ≤ _)
            clear hpl hbig HP
            go_wp2
            go_roundg (ls.length - (i + 1))
            case measure => omega
            case rel => exact ⟨i + 1, by omega, by go_num, ps, HP1, HO, HN1, HL, hsz, HB⟩
    · have e : i = ls.length := by omega
      have HR1 : Hid (¬ 20000 < R.length) := by
        show ¬ _
        have := HN.out
        rw [e, HAll.out] at this
        omega
      have HP1 : Hid (ps.map (·.2) = R) := by show _ = _; rw [HP.out, e, HAll.out]
      clear HP HN e
      go_wp2
      go_ret2
      have e4 : er = 0 := by rw [HER.out]; exact if_neg HR1.out
      refine ⟨.slice ao no' co, by rw [e4]; rfl, ?_, HL.out⟩
      unfold MetAll
      rw [if_neg HR1.out]
      exact ⟨ps, HP1.out, HO.out.base (by omega)⟩

end Go.Proofs.YtbohggoeebhdmaaGreatDoor

/- The walks of check's sets of names. -/
namespace Go.Proofs.YtbohggoeebhdmaaGreatDoor
open Go.RowKit Go.Sort Go.Maps

abbrev NamesM (w : World) (b n : Nat) (f : Bs → Bool) : Prop := SetM Tryz.prog 9 w b n f
theorem zeroUnit (w : World) : (zeroValue 206).run Tryz.prog w = .ok (.agg #[]) w := by kernel_rfl
theorem zeroInt (w : World) : (zeroValue 3).run Tryz.prog w = .ok (.int .i64 0) w := by kernel_rfl

theorem Tn.of_grown {p : Nat} {a b : World} (h : a.grownBy b (some p)) : Tn p a b := ⟨h.os, h.tape, h.output, h.size, fun k hk ho => h.block k hk (by simpa using ho)⟩

/-- An element's cells, and where they may lie. -/
theorem Kind.sl_atB {α : Type} {K : Kind α} {B : Nat → Prop} {w : World} {a : Option Addr} {n cap i : Nat} {l : List α} {x : α} (h : K.sl B w (.slice a n cap) l) (hi : l[i]? = some x) :
    ∃ b off c, a = some ⟨b, off, none⟩ ∧ b < w.heap.size ∧ B b ∧ K.is B w c x ∧ ∀ j u, c[j]? = some u → w.cell? ⟨b, off + i * K.size + j, none⟩ = some u := by
  obtain ⟨_, a', cap', e, h1⟩ := h
  simp only [Value.slice.injEq] at e
  obtain ⟨rfl, _, _⟩ := e
  obtain ⟨b, off, rfl, hB, hb, hc⟩ := h1 (by intro e; rw [e] at hi; simp at hi)
  obtain ⟨c, c1, c2⟩ := hc i x hi
  exact ⟨b, off, c, rfl, hb, hB, c1, c2⟩

set_option maxHeartbeats 400000 in
theorem hasC (b n : Nat) (f : Bs → Bool) (s : Bs) (w : World) (h : NamesM w b n f) (hs : s.length ≤ maxLen) :
    Calls Tryz.prog 136 #[.map (some b), .string (bs s)] w fun e w' => e = .returned (.bool (f s)) ∧ Later w w' := by
  have hr := SetM.has (T := 134) (E := 206) h Tryz.underlying9 Tryz.underlying134 (zeroUnit w) hs
  generalize f s = r at *
  generalize bs s = k at *
  go_enter Tryz.func136, Tryz.ntmps136
  go_wp2
  go_ret
  exact ⟨rfl, (Later.refl _).alloc _⟩

theorem contains_take {l : List Bs} {j : Nat} {x : Bs} (h : l[j]? = some x) (s : Bs) : (l.take (j + 1)).contains s = ((l.take j).contains s || decide (s = x)) := by
  rw [List.take_add_one, h]
  rw [Bool.eq_iff_iff]
  simp

set_option maxHeartbeats 1000000 in
theorem addC (b n : Nat) (f : Bs → Bool) (v : Value) (l : List Bs) (w : World) (h : NamesM w b n f) (hv : strK.sl (fun k => k ≠ b) w v l) (hn : n + l.length < maxLen) (hs : ∀ s ∈ l, s.length ≤ maxLen) :
    Calls Tryz.prog 135 #[.map (some b), v] w fun e w' => e = .returned (.tuple #[]) ∧ NamesM w' b (n + l.length) (fun s => f s || l.contains s) ∧ Tn b w w' := by
  obtain ⟨a, cap, rfl⟩ := Kind.slice hv
  have HV := hide hv
  have hl := hv.1.1
  clear hv
  have H0 : Hid (NamesM w b (n + 0) (fun s => f s || (l.take 0).contains s)) := h.congr fun s => by simp
  clear h
  go_enter Tryz.func135, Tryz.ntmps135
  go_wp2
  go_loopg [8] l.length (fun k i wr => ∃ j : Nat, j + k = l.length ∧ i = .int .i64 j ∧ Hid (NamesM wr b (n + j) (fun s => f s || (l.take j).contains s)) ∧ Hid (Tn b w wr))
  case atStart => exact ⟨0, by omega, rfl, H0, Tn.refl _ _⟩
  case round =>
    obtain ⟨j, hj, rfl, HM, HT⟩ := hrel
    by_cases hlt : j < l.length
    · obtain ⟨x, hx⟩ : ∃ x, l[j]? = some x := ⟨_, List.getElem?_eq_getElem hlt⟩
      obtain ⟨b1, o1, _, rfl, hb1, hne, rfl, hc⟩ := Kind.sl_atB HV.out hx
      have d0 : wr.cell? ⟨b1, o1 + j, none⟩ = some (.string (bs x)) := by rw [HT.out.cell hb1 hne]; simpa [strK] using hc 0 _ rfl
      obtain ⟨w1, hr, hm, hg⟩ := SetM.add (T := 134) (E := 206) HM.out Tryz.underlying9 Tryz.underlying134 (by omega) (hs x (List.mem_of_getElem? hx))
      have HM1 : Hid (NamesM w1 b (n + (j + 1)) (fun s => f s || (l.take (j + 1)).contains s)) := hm.congr fun s => by rw [contains_take hx]; simp [Bool.or_assoc]
      have HT1 : Hid (Tn b w w1) := HT.out.trans (Tn.of_grown hg)
      clear hc hm hg hx HM HT
      generalize bs x = k at *
      go_wp2_with (first
        | (at_mapUpdate; refine wpList_run_update _ rfl _ _ _ _ rfl _ _ _ _ rfl rfl rfl hr ?_)
        | go_in)
      go_roundg (l.length - (j + 1))
      case measure => omega
      case rel => exact ⟨j + 1, by omega, by go_num, HM1, HT1⟩
    · have e : j = l.length := by omega
      subst e
      go_wp2
      go_end0
      exact ⟨rfl, by simpa using HM.out, HT.out⟩

set_option maxHeartbeats 1000000 in
theorem hasAllC (b n : Nat) (f : Bs → Bool) (v : Value) (l : List Bs) (w : World) (h : NamesM w b n f) (hv : strK.sl Anyw w v l) (hs : ∀ s ∈ l, s.length ≤ maxLen) :
    Calls Tryz.prog 99 #[.map (some b), v] w fun e w' => e = .returned (.bool (l.all f)) ∧ Later w w' := by
  obtain ⟨a, cap, rfl⟩ := Kind.slice hv
  have HV := hide hv
  have hl := hv.1.1
  clear hv
  have H0 := hide h
  clear h
  go_enter Tryz.func99, Tryz.ntmps99
  go_wp2
  go_loopg [9] l.length (fun k i wr => ∃ j : Nat, j + k = l.length ∧ i = .int .i64 j ∧ Hid (Later w wr) ∧ Hid (l.all f = (l.drop j).all f))
  case atStart => exact ⟨0, by omega, rfl, Later.refl _, (rfl : _ = _)⟩
  case round =>
    obtain ⟨j, hj, rfl, HL, HF⟩ := hrel
    by_cases hlt : j < l.length
    · obtain ⟨x, hx⟩ : ∃ x, l[j]? = some x := ⟨_, List.getElem?_eq_getElem hlt⟩
      obtain ⟨b1, o1, _, rfl, hb1, rfl, hc⟩ := Kind.sl_at HV.out hx
      have d0 : wr.cell? ⟨b1, o1 + j, none⟩ = some (.string (bs x)) := by rw [HL.out.cell hb1]; simpa [strK] using hc 0 _ rfl
      have hC := hasC b n f x wr (H0.out.later HL.out) (hs x (List.mem_of_getElem? hx))
      have HC := hide hC
      have hd : (l.drop j).all f = (f x && (l.drop (j + 1)).all f) := by
        obtain ⟨h1, e1⟩ := List.getElem?_eq_some_iff.1 hx
        rw [List.drop_eq_getElem_cons h1, e1]; rfl
      clear hc hx hC
      generalize bs x = k at *
      cases hf : f x
      · have F : Hid (l.all f = false) := by show _ = _; rw [HF.out, hd, hf]; rfl
        rw [hf] at HC
        clear hd HF
        go_wp2_with (go_at_call 136; refine HC.out.mono ?_; rintro e w' ⟨rfl, hL⟩; replace hL := hide hL)
        go_ret
        exact ⟨ret_bool F.out.symm, HL.out.trans (unhide hL)⟩
      · have F : Hid (l.all f = (l.drop (j + 1)).all f) := by show _ = _; rw [HF.out, hd, hf]; rfl
        rw [hf] at HC
        clear hd HF
        go_wp2_with (go_at_call 136; refine HC.out.mono ?_; rintro e w' ⟨rfl, hL⟩; replace hL := hide hL)
        go_roundg (l.length - (j + 1))
        case measure => omega
        case rel => exact ⟨j + 1, by omega, by go_num, HL.out.trans (unhide hL), F⟩
    · have F : Hid (l.all f = true) := by show _ = _; rw [HF.out, List.drop_eq_nil_of_le (by omega)]; rfl
      go_wp2
      go_ret
      exact ⟨ret_bool F.out.symm, HL.out⟩

end Go.Proofs.YtbohggoeebhdmaaGreatDoor

/- The walk of syntax.Variable. -/
namespace Go.Proofs.YtbohggoeebhdmaaGreatDoor
open Go.RowKit Go.Sort

theorem isVar_long {l : Bs} (h : l = [] ∨ 12 < l.length) : isVar l = false := by
  rcases h with h | h
  · subst h; rfl
  · unfold isVar; rw [decide_eq_false (by omega)]; rfl

theorem isVar_in {s : ByteArray} (h0 : 0 < s.size) (h1 : s.size ≤ 12) : isVar (raw s) = (greatB (s[0].toNat) && decide ((bs ((raw s).takeWhile isSign)).size = s.size)) := by
  have hl := length_raw s
  unfold isVar
  rw [size_bs, ← hl, takeWhile_len, decide_eq_true (by omega)]
  have hl' : 0 < (raw s).length := by omega
  have e : raw s = (s[0]'h0) :: (raw s).drop 1 := by
    have := List.drop_eq_getElem_cons hl'
    rw [List.drop_zero, getRaw h0 hl'] at this
    exact this
  generalize (raw s).all isSign = q
  rw [e]
  rfl

set_option maxHeartbeats 1000000 in
theorem variableC (s : ByteArray) (w : World) : Calls Tryz.prog 165 #[.string s] w fun e w' => e = .returned (.bool (isVar (raw s))) ∧ w' = w := by
  by_cases h0 : 0 < s.size
  · have h0' : ((s.size : Int) == 0) = false := by rw [beq_eq_false_iff_ne]; omega
    by_cases h1 : s.size ≤ 12
    · have F := hide (isVar_in h0 h1)
      generalize hx : bs ((raw s).takeWhile isSign) = x at F
      have HX := hide hx
      clear hx
      generalize hc : (s[0]'h0).toNat = c at F
      by_cases ha : c < 65
      · have G : Hid (greatB c = false) := by show _ = _; unfold greatB; exact decide_eq_false (by omega)
        have ha' : (c : Int) < 65 := by omega
        go_enter Tryz.func165, Tryz.ntmps165
        go_wp2
        go_ret
        exact ⟨ret_bool (by rw [F.out, G.out]; rfl), rfl⟩
      · by_cases hz : 90 < c
        · have G : Hid (greatB c = false) := by show _ = _; unfold greatB; exact decide_eq_false (by omega)
          have ha' : ¬ (c : Int) < 65 := by omega
          have hz' : 90 < (c : Int) := by omega
          go_enter Tryz.func165, Tryz.ntmps165
          go_wp2
          go_ret
          exact ⟨ret_bool (by rw [F.out, G.out]; rfl), rfl⟩
        · have G : Hid (greatB c = true) := by show _ = _; unfold greatB; exact decide_eq_true (by omega)
          have ha' : ¬ (c : Int) < 65 := by omega
          have hz' : ¬ 90 < (c : Int) := by omega
          go_enter Tryz.func165, Tryz.ntmps165
          go_wp2_with (go_at_call 128; refine (wordC _ _ (by omega)).mono ?_; rintro e w' ⟨rfl, rfl⟩; rw [HX.out])
          go_ret
          refine ⟨ret_bool ?_, rfl⟩
          rw [F.out, G.out, Bool.eq_iff_iff]
          simp
          omega
    · have F : Hid (isVar (raw s) = false) := isVar_long (Or.inr (by rw [length_raw]; omega))
      go_enter Tryz.func165, Tryz.ntmps165
      go_wp2
      go_ret
      exact ⟨ret_bool F.out.symm, rfl⟩
  · have F : Hid (isVar (raw s) = false) := isVar_long (Or.inl (List.eq_nil_of_length_eq_zero (by rw [length_raw]; omega)))
    have h0' : ((s.size : Int) == 0) = true := by rw [beq_iff_eq]; omega
    go_enter Tryz.func165, Tryz.ntmps165
    go_wp2
    go_ret
    exact ⟨ret_bool F.out.symm, rfl⟩

end Go.Proofs.YtbohggoeebhdmaaGreatDoor

/- The walks of check.wrongTerm and check.wrongAtom. -/
namespace Go.Proofs.YtbohggoeebhdmaaGreatDoor
open Go.RowKit Go.Sort

theorem namedBs (l : Bs) (w : World) : Calls Tryz.prog 90 #[.string (bs l)] w fun e w' => e = .returned (.bool (isNamed l)) ∧ w' = w := by
  have := named (bs l) w
  rw [namedB_eq, raw_bs] at this
  exact this
theorem variableBs (l : Bs) (w : World) : Calls Tryz.prog 165 #[.string (bs l)] w fun e w' => e = .returned (.bool (isVar l)) ∧ w' = w := by
  have := variableC (bs l) w
  rw [raw_bs] at this
  exact this

set_option maxHeartbeats 400000 in
theorem wrongTermC (t : TermD) (w : World) : Calls Tryz.prog 134 #[.agg #[.bool t.1, .string (bs t.2)]] w fun e w' => e = .returned (.bool (wrongTerm t)) ∧ Later w w' := by
  obtain ⟨v, s⟩ := t
  unfold wrongTerm
  dsimp only
  have HN : Hid (∀ w, Calls Tryz.prog 90 #[.string (bs s)] w fun e w' => e = .returned (.bool (isNamed s)) ∧ w' = w) := fun w => namedBs s w
  have HV : Hid (∀ w, Calls Tryz.prog 165 #[.string (bs s)] w fun e w' => e = .returned (.bool (isVar s)) ∧ w' = w) := fun w => variableBs s w
  generalize isNamed s = x at *
  generalize isVar s = y at *
  generalize bs s = k at *
  cases v
  all_goals
    go_enter Tryz.func134, Tryz.ntmps134
    go_wp2_with (first
      | (go_at_call 90; refine (HN.out _).mono ?_; rintro e w' ⟨rfl, rfl⟩)
      | (go_at_call 165; refine (HV.out _).mono ?_; rintro e w' ⟨rfl, rfl⟩))
    go_ret
    exact ⟨rfl, (Later.refl _).alloc _⟩

theorem any_step {α : Type} {l : List α} {j : Nat} {x : α} (h : l[j]? = some x) (f : α → Bool) : (l.drop j).any f = (f x || (l.drop (j + 1)).any f) := by
  obtain ⟨h1, e1⟩ := List.getElem?_eq_some_iff.1 h
  rw [List.drop_eq_getElem_cons h1, e1]; rfl
theorem all_step {α : Type} {l : List α} {j : Nat} {x : α} (h : l[j]? = some x) (f : α → Bool) : (l.drop j).all f = (f x && (l.drop (j + 1)).all f) := by
  obtain ⟨h1, e1⟩ := List.getElem?_eq_some_iff.1 h
  rw [List.drop_eq_getElem_cons h1, e1]; rfl

set_option maxHeartbeats 1000000 in
/-- slices.IndexFunc at terms, with wrongTerm: at or above 0 just where one is wrong. -/
theorem indexTerm (v : Value) (l : List TermD) (w : World) (hv : termK.sl Anyw w v l) :
    Calls Tryz.prog 164 #[v, .func (.func 134) #[] #[]] w fun e w' => ∃ n : Int, e = .returned (.int .i64 n) ∧ decide (0 ≤ n) = l.any wrongTerm ∧ Later w w' := by
  obtain ⟨a, cap, rfl⟩ := Kind.slice hv
  have HV := hide hv
  have hl := hv.1.1
  clear hv
  go_enter Tryz.func164, Tryz.ntmps164
  go_wp2
  go_loopg [8] l.length (fun k i wr => ∃ j : Nat, j + k = l.length ∧ i = .int .i64 j ∧ Hid (Later w wr) ∧ Hid (l.any wrongTerm = (l.drop j).any wrongTerm))
  case atStart => exact ⟨0, by omega, rfl, Later.refl _, (rfl : _ = _)⟩
  case round =>
    obtain ⟨j, hj, rfl, HL, HF⟩ := hrel
    by_cases hlt : j < l.length
    · obtain ⟨x, hx⟩ : ∃ x, l[j]? = some x := ⟨_, List.getElem?_eq_getElem hlt⟩
      obtain ⟨b1, o1, _, rfl, hb1, rfl, hc⟩ := Kind.sl_at HV.out hx
      have d0 : wr.cell? ⟨b1, o1 + j * 2, none⟩ = some (.bool x.1) := by rw [HL.out.cell hb1]; exact hc 0 _ rfl
      have d1 : wr.cell? ⟨b1, o1 + j * 2 + 1, none⟩ = some (.string (bs x.2)) := by rw [HL.out.cell hb1]; exact hc 1 _ rfl
      have HC := hide (wrongTermC x wr)
      have hd := any_step hx wrongTerm
      clear hc hx
      cases hf : wrongTerm x
      · have F : Hid (l.any wrongTerm = (l.drop (j + 1)).any wrongTerm) := by show _ = _; rw [HF.out, hd, hf]; rfl
        rw [hf] at HC
        clear hd HF hf
        go_wp2_with (go_at_call 134; refine HC.out.mono ?_; rintro e w' ⟨rfl, hL⟩; replace hL := hide hL)
        go_roundg (l.length - (j + 1))
        case measure => omega
        case rel => exact ⟨j + 1, by omega, by go_num, HL.out.trans (unhide hL), F⟩
      · have F : Hid (l.any wrongTerm = true) := by show _ = _; rw [HF.out, hd, hf]; rfl
        rw [hf] at HC
        clear hd HF hf
        go_wp2_with (go_at_call 134; refine HC.out.mono ?_; rintro e w' ⟨rfl, hL⟩; replace hL := hide hL)
        go_ret
        exact ⟨_, rfl, by rw [F.out]; simp, HL.out.trans (unhide hL)⟩
    · have F : Hid (l.any wrongTerm = false) := by show _ = _; rw [HF.out, List.drop_eq_nil_of_le (by omega)]; rfl
      go_wp2
      go_ret
      exact ⟨_, rfl, by rw [F.out]; simp, HL.out⟩

set_option maxHeartbeats 400000 in
theorem containsTerm (v : Value) (l : List TermD) (w : World) (hv : termK.sl Anyw w v l) :
    Calls Tryz.prog 133 #[v, .func (.func 134) #[] #[]] w fun e w' => e = .returned (.bool (l.any wrongTerm)) ∧ Later w w' := by
  have HI := hide (indexTerm v l w hv)
  obtain ⟨a, cap, rfl⟩ := Kind.slice hv
  clear hv
  go_enter Tryz.func133, Tryz.ntmps133
  go_wp2_with (go_at_call 164; refine HI.out.mono ?_; rintro e w' ⟨n, rfl, hn, hL⟩; replace hn := hide hn; replace hL := hide hL)
  go_ret
  exact ⟨ret_bool (unhide hn), unhide hL⟩

set_option maxHeartbeats 1000000 in
theorem wrongAtomC (a : AtomD) (v : Value) (w : World) (hv : termK.sl Anyw w v a.terms) :
    Calls Tryz.prog 96 #[.agg #[.bool a.no, .string (bs a.name), v]] w fun e w' => e = .returned (.int .i64 (wrongAtom a)) ∧ Later w w' := by
  have HC : Hid (∀ w', Later w w' → Calls Tryz.prog 133 #[v, .func (.func 134) #[] #[]] w' fun e w'' => e = .returned (.bool (a.terms.any wrongTerm)) ∧ Later w' w'') := fun w' hw => containsTerm v a.terms w' (Kind.sl_later hv hw)
  have HN : Hid (∀ w, Calls Tryz.prog 90 #[.string (bs a.name)] w fun e w' => e = .returned (.bool (isNamed a.name)) ∧ w' = w) := fun w => namedBs a.name w
  have l0 := hv.1.1
  obtain ⟨a1, c1, rfl⟩ := Kind.slice hv
  clear hv
  obtain ⟨no, n, x⟩ := a
  unfold wrongAtom
  dsimp only at *
  generalize hn : isNamed n = q at *
  clear hn
  generalize bs n = s at *
  cases q
  · rw [if_pos rfl]
    go_enter Tryz.func96, Tryz.ntmps96
    go_wp2_with (go_at_call 90; refine (HN.out _).mono ?_; rintro e w' ⟨rfl, rfl⟩)
    go_ret
    exact ⟨rfl, (Later.refl _).alloc _⟩
  · rw [if_neg (by simp)]
    by_cases h4 : 4 < x.length
    · rw [if_pos h4]
      go_enter Tryz.func96, Tryz.ntmps96
      go_wp2_with (go_at_call 90; refine (HN.out _).mono ?_; rintro e w' ⟨rfl, rfl⟩)
      go_ret
      exact ⟨rfl, (Later.refl _).alloc _⟩
    · rw [if_neg h4]
      generalize x.any wrongTerm = r at *
      cases r
      all_goals
        go_enter Tryz.func96, Tryz.ntmps96
        go_wp2_with (first
          | (go_at_call 90; refine (HN.out _).mono ?_; rintro e w' ⟨rfl, rfl⟩)
          | (go_at_call 133; refine (HC.out _ ((Later.refl _).alloc _)).mono ?_; rintro e w' ⟨rfl, hL⟩; replace hL := hide hL))
        go_ret
        exact ⟨rfl, ((Later.refl _).alloc _).trans (unhide hL)⟩

end Go.Proofs.YtbohggoeebhdmaaGreatDoor

/- A reader of a text in memory, and the worlds in which only it has turned. -/
namespace Go.Proofs.YtbohggoeebhdmaaGreatDoor
open Go.RowKit Go.Sort

/-- Where a text stands that this follows of. -/
def pos (s : ByteArray) (l : Bs) : Nat := s.size - l.length

/-- A reader at block p: its text is s, and l follows. -/
structure Rd (w : World) (p : Nat) (s : ByteArray) (l : Bs) : Prop where
  short : s.size ≤ 3000
  suf : l <:+ raw s
  lt : p < w.heap.size
  ne : 3 < p
  c0 : w.cell? ⟨p, 0, none⟩ = some (.string s)
  c1 : w.cell? ⟨p, 1, none⟩ = some (.int .i64 (pos s l))
  fz : w.frozen? ⟨p, 1, none⟩ = false
  g : ∃ m, w.cell? ⟨3, 0, none⟩ = some (.int .i64 m)

theorem drop_pos {s : ByteArray} {l : Bs} (h : l <:+ raw s) : (raw s).drop (pos s l) = l := by
  obtain ⟨t, e⟩ := h
  have : (raw s).length = t.length + l.length := by rw [← e, List.length_append]
  rw [length_raw] at this
  rw [← e, pos, this, Nat.add_sub_cancel, List.drop_left]

theorem pos_le (s : ByteArray) (l : Bs) : pos s l ≤ s.size := Nat.sub_le _ _
theorem len_le {s : ByteArray} {l : Bs} (h : l <:+ raw s) : l.length ≤ s.size := by rw [← length_raw]; exact h.length_le
theorem pos_add {s : ByteArray} {l : Bs} (h : l <:+ raw s) {n : Nat} (hn : n ≤ l.length) : pos s (l.drop n) = pos s l + n := by
  have := len_le h
  simp only [pos, List.length_drop]; omega
theorem suf_drop {s : ByteArray} {l : Bs} (h : l <:+ raw s) (n : Nat) : l.drop n <:+ raw s := (List.drop_suffix n l).trans h
theorem cut_bs {s : ByteArray} {l : Bs} (h : l <:+ raw s) : s.extract (pos s l) s.size = bs l := by
  apply raw_inj
  rw [raw_bs]
  have e := drop_pos h
  unfold raw at e ⊢
  rw [ByteArray.data_extract]
  simp only [Array.toList_extract, List.extract_eq_take_drop]
  rw [e, List.take_of_length_le]
  simp only [pos]; have := len_le h; omega

theorem Rd.turned {w w' : World} {p q : Nat} {s : ByteArray} {l : Bs} (h : Rd w p s l) (k : Tn q w w') (hq : q ≠ p) (h0 : p < q) : Rd w' p s l :=
  ⟨h.short, h.suf, Nat.lt_of_lt_of_le h.lt k.size, h.ne, by rw [k.cell (x := ⟨p, 0, none⟩) h.lt (fun e => hq e.symm)]; exact h.c0, by rw [k.cell (x := ⟨p, 1, none⟩) h.lt (fun e => hq e.symm)]; exact h.c1,
    by rw [World.frozen?_of_block (w := w) (a := ⟨p, 1, none⟩) (k.block p h.lt (fun e => hq e.symm))]; exact h.fz,
    by obtain ⟨m, e⟩ := h.g; exact ⟨m, by rw [k.cell (x := ⟨3, 0, none⟩) (by have := h.lt; have := h.ne; show 3 < w.heap.size; omega) (fun e' => by have h1 := h.ne; have e2 : 3 = q := e'; omega)]; exact e⟩⟩

theorem Rd.below {w w' : World} {p : Nat} {s : ByteArray} {l : Bs} (h : Rd w p s l) (k : Below w.heap.size w w') : Rd w' p s l :=
  h.turned (Tn.of_below (p := p + 1) k) (by omega) (by omega)

theorem Rd.set {w : World} {p : Nat} {s : ByteArray} {l : Bs} (h : Rd w p s l) {r : Bs} (hr : r <:+ raw s) : Rd (w.setCell ⟨p, 1, none⟩ (.int .i64 (pos s r))) p s r := by
  have hc := h.c1
  refine ⟨h.short, hr, by rw [size_setCell]; exact h.lt, h.ne, ?_, ?_, ?_, ?_⟩
  · rw [World.cell?_setCell_other _ _ _ _ (by simp)]; exact h.c0
  · exact World.cell?_setCell_same _ _ _ hc
  · rw [World.frozen?_setCell]; exact h.fz
  · obtain ⟨m, e⟩ := h.g
    exact ⟨m, by rw [World.cell?_setCell_other _ _ _ _ (by intro e; simp at e)]; exact e⟩

theorem Rd.drewN {w : World} {p : Nat} {s : ByteArray} {l : Bs} (h : Rd w p s l) (q : Nat) : Rd (w.drewN q) p s l := ⟨h.short, h.suf, h.lt, h.ne, h.c0, h.c1, h.fz, h.g⟩
theorem Rd.moved {w : World} {p : Nat} {s : ByteArray} {l : Bs} (h : Rd w p s l) {n : Nat} (hn : n ≤ l.length) {x : Int} (hx : x = (pos s l : Int) + n) : Rd (w.setCell ⟨p, 1, none⟩ (.int .i64 x)) p s (l.drop n) := by
  have := h.set (suf_drop h.suf n)
  rw [pos_add h.suf hn] at this
  rw [hx]
  exact this

theorem Tn.moved {w w' : World} {p : Nat} (h : Tn p w w') (v : Value) (o : Nat) : Tn p w (w'.setCell ⟨p, o, none⟩ v) := h.setCell (Or.inl rfl) v

end Go.Proofs.YtbohggoeebhdmaaGreatDoor

/- The walks of syntax.text's methods. -/
namespace Go.Proofs.YtbohggoeebhdmaaGreatDoor
open Go.RowKit Go.Sort

theorem cut_nl : ∀ l : Bs, (Lib.cut l [10]).1 = l.takeWhile (fun c => c != 10) := by
  intro l
  induction l with
  | nil => simp [Lib.cut, Lib.index]
  | cons c t ih =>
    by_cases h : c = 10
    · subst h; simp [Lib.cut, Lib.index, List.isPrefixOf]
    · have h' : ¬ (10 : UInt8) = c := fun e => h e.symm
      rw [List.takeWhile_cons, if_pos (by simpa using h)]
      have hg := Lib.index_ge t [10]
      unfold Lib.cut at ih ⊢
      have e : Lib.index (c :: t) [10] = if Lib.index t [10] == -1 then -1 else Lib.index t [10] + 1 := by
        rw [Lib.index]; simp [List.isPrefixOf, h']
      rw [e]
      by_cases hi : Lib.index t [10] = -1
      · rw [hi] at ih ⊢
        simp at ih ⊢
        exact ih
      · have h0 : 0 ≤ Lib.index t [10] := by omega
        have hb : (Lib.index t [10] == -1) = false := by simpa using hi
        rw [hb, if_neg (c := false = true) (by simp), if_pos (by omega)]
        rw [if_pos h0] at ih
        rw [show (Lib.index t [10] + 1).toNat = (Lib.index t [10]).toNat + 1 by omega, List.take_succ_cons]
        exact congrArg _ ih

/-- Behind a note's bytes it goes on as behind the note. -/
theorem skip_line : ∀ l : Bs, skip (l.drop (l.takeWhile (fun c => c != 10)).length) = skipM true l := by
  intro l
  induction l with
  | nil => rfl
  | cons c t ih =>
    by_cases h : c = 10
    · subst h; simp [note_end, skip, skip_blank]
    · rw [note_on h, List.takeWhile_cons, if_pos (by simpa using h)]; simpa using ih

set_option maxHeartbeats 1000000 in
theorem skipNote (p : Nat) (s : ByteArray) (l : Bs) (w : World) (h : Rd w p s l) :
    Calls Tryz.prog 172 #[.pointer (some ⟨p, 0, none⟩)] w fun e w' => e = .returned (.tuple #[]) ∧ Rd w' p s (l.drop (l.takeWhile (fun c => c != 10)).length) ∧ Tn p w w' := by
  have H := hide h
  have c0 := h.c0; have c1 := h.c1; have fz := h.fz
  obtain ⟨m, hm⟩ := h.g
  have hcut := cut_bs h.suf
  have hps := pos_le s l
  have hs := h.short
  have hll := len_le h.suf
  have HC : Hid (∀ q, Calls Tryz.prog 206 #[.string (bs l), .string { data := #[10] }] (w.drewN q) fun e w' => e = .returned (.tuple #[.string (bs (l.takeWhile (fun c => c != 10))), .string ⟨(Lib.cut l [10]).2.1.toArray⟩, .bool (Lib.cut l [10]).2.2]) ∧ ∃ n, w' = (w.drewN q).drewN n) := fun q => by
    have := Tryz.strings_Cut (bs l) { data := #[10] } m (w.drewN q) (by rw [size_bs]; omega) hm
    have e : (bs l).data.toList = l := raw_bs l
    rw [e] at this
    refine this.mono ?_
    rintro e w' ⟨rfl, hw⟩
    exact ⟨by rw [← cut_nl]; rfl, hw⟩
  generalize ht : l.takeWhile (fun c => c != 10) = t at HC ⊢
  have hle : t.length ≤ l.length := by rw [← ht]; exact (List.takeWhile_prefix _).length_le
  have hn : (bs t).size = t.length := size_bs t
  have HP := hide (pos_add h.suf hle)
  clear h hm ht
  go_enter Tryz.func172, Tryz.ntmps172
  go_wp2
  go_quiet ((go_at_call 206; exact Calls.quiet_of (HC.out _)))
  go_wp2
  go_end0
  exact ⟨rfl, (H.out.drewN _).moved hle rfl, ((Tn.refl p w).drewN _).moved _ _⟩

theorem raw_get {s : ByteArray} {l : Bs} {c : UInt8} (h : (c :: l) <:+ raw s) : ∃ hk : pos s (c :: l) < s.size, s[pos s (c :: l)] = c := by
  have hl := len_le h
  have hk : pos s (c :: l) < s.size := by simp only [pos, List.length_cons] at *; omega
  refine ⟨hk, ?_⟩
  have e := drop_pos h
  have hk' : pos s (c :: l) < (raw s).length := by rw [length_raw]; exact hk
  rw [List.drop_eq_getElem_cons hk'] at e
  have := (List.cons.inj e).1
  rw [getRaw hk hk'] at this
  exact this

theorem byte_ne {c d : UInt8} (h : ¬ c = d) : ((c.toNat : Int) == (d.toNat : Int)) = false := by
  rw [beq_eq_false_iff_ne]; intro e; exact h (UInt8.toNat_inj.1 (by omega))

theorem pos_end {s : ByteArray} {l : Bs} (h : l <:+ raw s) (he : ¬ pos s l < s.size) : l = [] := by
  have := len_le h
  simp only [pos] at he
  exact List.eq_nil_of_length_eq_zero (by omega)

set_option maxHeartbeats 2000000 in
theorem skipC (p : Nat) (s : ByteArray) (l : Bs) (w : World) (h : Rd w p s l) :
    Calls Tryz.prog 148 #[.pointer (some ⟨p, 0, none⟩)] w fun e w' => e = .returned (.tuple #[]) ∧ Rd w' p s (skip l) ∧ Tn p w w' := by
  have H := hide h
  clear h
  go_enter Tryz.func148, Tryz.ntmps148
  go_wp2
  go_loopg [] (l.length + 1) (fun k wr => ∃ l', l'.length < k ∧ Rd wr p s l' ∧ skip l' = skip l ∧ Tn p w wr)
  case atStart => exact ⟨l, by omega, H.out, rfl, Tn.refl _ _⟩
  case round =>
    obtain ⟨l', hk, hR, hE, hT⟩ := hrel
    have HR := hide hR
    have HE := hide hE
    have HT := hide hT
    have c0 := hR.c0; have c1 := hR.c1; have fz := hR.fz
    have hps := pos_le s l'
    have hs := hR.short
    have hsuf := hR.suf
    clear hR hE hT
    cases l' with
    | nil =>
      have hend : ¬ pos s [] < s.size := by simp [pos]
      go_wp2
      go_quiet (fail)
      go_wp2
      go_end0
      refine ⟨rfl, ?_, HT.out.drewN _⟩
      have : Rd wr p s [] := HR.out
      rw [← HE.out]
      exact this.drewN _
    | cons c t =>
      obtain ⟨hlt, hget⟩ := raw_get hsuf
      have HS := hide hsuf
      clear hsuf
      by_cases hb : c = 32 ∨ c = 10
      · have HQ : Hid (skip t = skip l) := by show _ = _; rw [← HE.out, skip, skip, skip_blank hb]
        have HM : Hid (∀ q, Rd ((wr.drewN q).setCell ⟨p, 1, none⟩ (.int .i64 ((pos s (c :: t) : Int) + 1))) p s t) := fun q => (HR.out.drewN q).moved (n := 1) (by simp) rfl
        have HN := hide (by simpa using hk : t.length + 1 < gk)
        rcases hb with rfl | rfl
        · generalize pos s (32 :: t) = k at *
          go_wp2
          go_quiet (fail)
          go_wp2
          go_quiet (fail)
          go_wp2
          go_roundg (t.length + 1)
          case measure => exact HN.out
          case rel => exact ⟨t, by omega, HM.out _, HQ.out, (HT.out.drewN _).moved _ _⟩
        · generalize pos s (10 :: t) = k at *
          go_wp2
          go_quiet (fail)
          go_wp2
          go_quiet (fail)
          go_wp2
          go_roundg (t.length + 1)
          case measure => exact HN.out
          case rel => exact ⟨t, by omega, HM.out _, HQ.out, (HT.out.drewN _).moved _ _⟩
      · by_cases h37 : c = 37
        · subst h37
          have HQ : Hid (skip ((37 :: t).drop ((37 :: t).takeWhile (fun c => c != 10)).length) = skip l) := by
            show _ = _; rw [← HE.out, skip_line, skip, skip_note, note_on (by decide)]
          have HN : Hid (((37 :: t).drop ((37 :: t).takeWhile (fun c => c != 10)).length).length + 1 < gk) := by
            show _ < _
            rw [List.takeWhile_cons, if_pos (by decide)]
            simp at hk ⊢; omega
          have HC := hide (fun w' (hw : Rd w' p s (37 :: t)) => skipNote p s (37 :: t) w' hw)
          generalize (37 :: t).drop ((37 :: t).takeWhile (fun c => c != 10)).length = t' at *
          generalize pos s (37 :: t) = k at *
          go_wp2
          go_quiet (fail)
          go_wp2
          go_quiet (fail)
          go_wp2_with fail
          refine (HC.out _ (HR.out.drewN _)).mono ?_
          rintro e w1 ⟨rfl, hR1, hT1⟩
          have HR1 := hide hR1
          have HT1 := hide ((HT.out.drewN _).trans hT1)
          clear hR1 hT1
          go_wp2
          go_roundg (t'.length + 1)
          case measure => exact HN.out
          case rel => exact ⟨t', by omega, HR1.out, HQ.out, HT1.out⟩
        · have HQ : Hid (c :: t = skip l) := by show _ = _; rw [← HE.out, skip, skip_other hb h37]
          have n1 : ((c.toNat : Int) == 32) = false := byte_ne (d := 32) (fun e => hb (Or.inl e))
          have n2 : ((c.toNat : Int) == 10) = false := byte_ne (d := 10) (fun e => hb (Or.inr e))
          have n3 : ((c.toNat : Int) == 37) = false := byte_ne (d := 37) h37
          clear hb h37
          generalize pos s (c :: t) = k at *
          go_wp2
          go_quiet (fail)
          go_wp2
          go_quiet (fail)
          go_wp2
          first | go_end0 | refine bodyPost_ret (results_none rfl _ _ _) rfl ?_
          refine ⟨rfl, ?_, HT.out.drewN _⟩
          rw [← HQ.out]
          exact HR.out.drewN _

end Go.Proofs.YtbohggoeebhdmaaGreatDoor

/- The walks of syntax.text's methods that look behind blanks, and of a reader's fail and must. -/
namespace Go.Proofs.YtbohggoeebhdmaaGreatDoor
open Go.RowKit Go.Sort

theorem skip_suf (b : Bool) : ∀ l : Bs, skipM b l <:+ l := by
  intro l
  induction l generalizing b with
  | nil => cases b <;> exact List.suffix_refl _
  | cons c t ih =>
    cases b with
    | false =>
      simp only [skipM]
      split
      · exact (ih _).trans (List.suffix_cons _ _)
      · split
        · exact (ih _).trans (List.suffix_cons _ _)
        · exact List.suffix_refl _
    | true =>
      simp only [skipM]
      split
      · exact (ih _).trans (List.suffix_cons _ _)
      · exact (ih _).trans (List.suffix_cons _ _)

set_option maxHeartbeats 1000000 in
theorem endedC (p : Nat) (s : ByteArray) (l : Bs) (w : World) (h : Rd w p s l) :
    Calls Tryz.prog 124 #[.pointer (some ⟨p, 0, none⟩)] w fun e w' => e = .returned (.bool (decide (skip l = []))) ∧ Rd w' p s (skip l) ∧ Tn p w w' := by
  have HC := hide (skipC p s l w h)
  clear h
  go_enter Tryz.func124, Tryz.ntmps124
  go_wp2_with fail
  refine HC.out.mono ?_
  rintro e w1 ⟨rfl, hR, hT⟩
  have HR := hide hR
  have HT := hide hT
  have c0 := hR.c0; have c1 := hR.c1
  have hps := pos_le s (skip l)
  have hs := hR.short
  have HE : Hid (((pos s (skip l) : Int) == s.size) = decide (skip l = [])) := by
    show _ = _
    have hl := len_le hR.suf
    rw [Bool.eq_iff_iff, beq_iff_eq, decide_eq_true_iff]
    constructor
    · intro e
      simp only [pos] at e
      exact List.eq_nil_of_length_eq_zero (by omega)
    · intro e; rw [e]; simp [pos]
  clear hR hT
  generalize hk : pos s (skip l) = k at *
  clear hk
  go_wp2
  go_quiet (fail)
  go_wp2
  go_ret
  exact ⟨ret_bool HE.out, HR.out.drewN _, HT.out.drewN _⟩

set_option maxHeartbeats 1000000 in
theorem tookC (p : Nat) (s : ByteArray) (l g : Bs) (w : World) (h : Rd w p s l) :
    Calls Tryz.prog 150 #[.pointer (some ⟨p, 0, none⟩), .string (bs g)] w fun e w' => e = .returned (.bool (took g l).1) ∧ Rd w' p s (took g l).2 ∧ Tn p w w' := by
  have HC := hide (skipC p s l w h)
  clear h
  go_enter Tryz.func150, Tryz.ntmps150
  go_wp2_with fail
  refine HC.out.mono ?_
  rintro e w1 ⟨rfl, hR, hT⟩
  have HR := hide hR
  have HT := hide hT
  have c0 := hR.c0; have c1 := hR.c1; have fz := hR.fz
  have hps := pos_le s (skip l)
  have hs := hR.short
  have hcut := cut_bs hR.suf
  have hgz : (bs g).size = g.length := size_bs g
  have HP : Hid (∀ q, Calls Tryz.prog 176 #[.string (bs (skip l)), .string (bs g)] (w1.drewN q) fun e w' => e = .returned (.bool (g.isPrefixOf (skip l))) ∧ w' = w1.drewN q) := fun q => by
    have := Tryz.strings_HasPrefix (bs (skip l)) (bs g) (w1.drewN q)
    have e1 : (bs (skip l)).data.toList = skip l := raw_bs _
    have e2 : (bs g).data.toList = g := raw_bs _
    rw [e1, e2] at this
    exact this
  have hll := len_le hR.suf
  clear hR hT
  cases hpre : g.isPrefixOf (skip l)
  · have HE : Hid (took g l = (false, skip l)) := by show _ = _; unfold took; rw [hpre]; rfl
    rw [hpre] at HP
    clear hpre
    generalize hk : pos s (skip l) = k at *
    clear hk
    go_wp2
    go_quiet ((go_at_call 176; exact Calls.quiet_of_same (HP.out _)))
    go_wp2
    go_ret
    rw [HE.out]
    exact ⟨rfl, HR.out.drewN _, HT.out.drewN _⟩
  · have hle : g.length ≤ (skip l).length := (List.isPrefixOf_iff_prefix.1 hpre).length_le
    have HE : Hid (took g l = (true, (skip l).drop g.length)) := by show _ = _; unfold took; rw [hpre]; rfl
    have hps2 : pos s (skip l) + g.length ≤ s.size := by simp only [pos]; omega
    have HM := hide (fun q => (HR.out.drewN q).moved hle rfl)
    rw [hpre] at HP
    clear hpre
    generalize hk : pos s (skip l) = k at *
    clear hk
    go_wp2
    go_quiet ((go_at_call 176; exact Calls.quiet_of_same (HP.out _)))
    go_wp2
    go_ret
    rw [HE.out]
    exact ⟨rfl, HM.out _, (HT.out.drewN _).moved _ _⟩

set_option maxHeartbeats 1000000 in
theorem aheadC (p : Nat) (s : ByteArray) (l : Bs) (w : World) (h : Rd w p s l) :
    Calls Tryz.prog 207 #[.pointer (some ⟨p, 0, none⟩)] w fun e w' => e = .returned (.string (bs ((skip l).takeWhile isSign))) ∧ Rd w' p s (skip l) ∧ Tn p w w' := by
  have HC := hide (skipC p s l w h)
  clear h
  go_enter Tryz.func207, Tryz.ntmps207
  go_wp2_with fail
  refine HC.out.mono ?_
  rintro e w1 ⟨rfl, hR, hT⟩
  have HR := hide hR
  have HT := hide hT
  have c0 := hR.c0; have c1 := hR.c1; have fz := hR.fz
  have hps := pos_le s (skip l)
  have hs := hR.short
  have hcut := cut_bs hR.suf
  have hll := len_le hR.suf
  have HP : Hid (∀ q, Calls Tryz.prog 128 #[.string (bs (skip l))] (w1.drewN q) fun e w' => e = .returned (.string (bs ((skip l).takeWhile isSign))) ∧ w' = w1.drewN q) := fun q => by
    have := wordC (bs (skip l)) (w1.drewN q) (by rw [size_bs]; omega)
    rw [raw_bs] at this
    exact this
  clear hR hT
  generalize hk : pos s (skip l) = k at *
  clear hk
  go_wp2
  go_quiet ((go_at_call 128; exact Calls.quiet_of_same (HP.out _)))
  go_wp2
  go_ret
  exact ⟨rfl, HR.out.drewN _, HT.out.drewN _⟩

/-- What a reader's fault is thrown as. -/
def thrownV (e : Int) (s : ByteArray) (r : Bs) : Ending := .panicked [{ v := .iface 167 (.agg #[.int .i64 e, .int .i64 (pos s r)]), recovered := false }]

set_option maxHeartbeats 1000000 in
theorem failC (p : Nat) (s : ByteArray) (l : Bs) (x : Int) (w : World) (h : Rd w p s l) :
    Calls Tryz.prog 125 #[.pointer (some ⟨p, 0, none⟩), .int .i64 x] w fun e w' => e = thrownV x s l ∧ w' = w := by
  have c0 := h.c0; have c1 := h.c1
  clear h
  unfold thrownV
  go_enter Tryz.func125, Tryz.ntmps125
  go_wp2
  exact ⟨rfl, rfl, rfl⟩

set_option maxHeartbeats 1000000 in
theorem mustC (p : Nat) (s : ByteArray) (l : Bs) (b : Bool) (w : World) (h : Rd w p s l) :
    Calls Tryz.prog 152 #[.pointer (some ⟨p, 0, none⟩), .bool b] w fun e w' => e = (if b then .returned (.tuple #[]) else thrownV 2 s l) ∧ w' = w := by
  have HF := hide (failC p s l 2 w h)
  clear h
  cases b
  · go_enter Tryz.func152, Tryz.ntmps152
    go_wp2_with fail
    refine HF.out.mono ?_
    rintro e w1 ⟨rfl, rfl⟩
    exact ⟨rfl, rfl, rfl⟩
  · go_enter Tryz.func152, Tryz.ntmps152
    go_wp2
    go_end0
    exact ⟨rfl, rfl⟩

/-- How a reader's method ends: with a value of what is read, or thrown out of. -/
def Ends' {α : Type} (p : Nat) (s : ByteArray) (w : World) (V : World → Value → α → Prop) (x : Res α) (e : Ending) (w' : World) : Prop :=
  Tn p w w' ∧ match x with
    | .ok a r => (∃ v, e = .returned v ∧ V w' v a) ∧ Rd w' p s r
    | .bad n r => e = thrownV n s r ∧ Rd w' p s r

theorem endsOk {α : Type} {p : Nat} {s : ByteArray} {w w' : World} {V : World → Value → α → Prop} {x : Res α} {a : α} {r : Bs} {v : Value} (hx : x = .ok a r) (hT : Tn p w w') (hV : V w' v a) (hR : Rd w' p s r) : Ends' p s w V x (.returned v) w' := by
  subst hx; exact ⟨hT, ⟨v, rfl, hV⟩, hR⟩
theorem endsBad {α : Type} {p : Nat} {s : ByteArray} {w w' : World} {V : World → Value → α → Prop} {x : Res α} {n : Int} {r : Bs} (hx : x = .bad n r) (hT : Tn p w w') (hR : Rd w' p s r) : Ends' p s w V x (thrownV n s r) w' := by
  subst hx; exact ⟨hT, rfl, hR⟩

/-- What is asked of a function that fits words. -/
def Fits (g : Nat) (f : Bs → Bool) : Prop := ∀ l w, l.length ≤ 3000 → Calls Tryz.prog g #[.string (bs l)] w fun e w' => e = .returned (.bool (f l)) ∧ w' = w

theorem fitsNamed : Fits 90 isNamed := fun l w _ => by
  have := named (bs l) w
  rw [namedB_eq, raw_bs] at this
  exact this

theorem bs_empty : bs [] = { data := #[] } := rfl

theorem toList_none : (bs []).toList = [] := by
  unfold ByteArray.toList ByteArray.toList.loop
  rfl

set_option maxHeartbeats 400000 in
theorem cloneC (s : ByteArray) (w : World) (hs : s.size ≤ 281474976710656) : Calls Tryz.prog 208 #[.string s] w fun e w' => e = .returned (.string s) ∧ Below w.heap.size w w' := by
  have HC := hide (Tryz.stringslite_Clone s w hs)
  go_enter Tryz.func208, Tryz.ntmps208
  go_wp2_with fail
  refine HC.out.mono ?_
  rintro e w1 ⟨rfl, hB⟩
  have HB := hide hB
  clear hB
  go_wp2
  go_ret
  exact ⟨rfl, HB.out⟩

theorem emptyB (x : Bs) (h : x ≠ []) : (bs x).toList.isEmpty = false := by
  cases hx : (bs x).toList.isEmpty with
  | false => rfl
  | true =>
    exfalso
    apply h
    have e : (bs x).toList = (bs []).toList := by
      rw [List.isEmpty_iff.1 hx, toList_none]
    exact bs_inj (toList_inj e)

set_option maxHeartbeats 2000000 in
theorem wordR (g : Nat) (f : Bs → Bool) (hg : Fits g f) (eg : ∀ args w, (callFunc g args).run Tryz.prog w = .ok (.enter g args) w) (p : Nat) (s : ByteArray) (l : Bs) (w : World) (h : Rd w p s l) :
    Calls Tryz.prog 173 #[.pointer (some ⟨p, 0, none⟩), .func (.func g) #[] #[]] w fun e w' => Ends' p s w (fun _ v a => v = .string (bs a)) (word f l) e w' := by
  have HC := hide (aheadC p s l w h)
  have HG := hide hg
  clear h hg
  go_enter Tryz.func173, Tryz.ntmps173
  go_wp2_with fail
  refine HC.out.mono ?_
  rintro e w1 ⟨rfl, hR, hT⟩
  have HR := hide hR
  have HT := hide hT
  have c0 := hR.c0; have c1 := hR.c1; have fz := hR.fz
  have hps := pos_le s (skip l)
  have hs := hR.short
  have hll := len_le hR.suf
  have hle : ((skip l).takeWhile isSign).length ≤ (skip l).length := (List.takeWhile_prefix _).length_le
  have hps2 : pos s (skip l) + ((skip l).takeWhile isSign).length ≤ s.size := by simp only [pos]; omega
  have HM := hide (fun w' (h' : Rd w' p s (skip l)) => h'.moved hle rfl)
  have hz := size_bs ((skip l).takeWhile isSign)
  by_cases h0 : (skip l).takeWhile isSign = []
  · have HW : Hid (word f l = .bad 2 (skip l)) := by show _ = _; unfold word; rw [if_pos h0]
    rw [h0] at hz ⊢
    have HF := hide (mustC p s (skip l) false w1 hR)
    have he : (bs []).toList.isEmpty = true := by rw [toList_none]; rfl
    clear hR hT h0
    go_wp2_with fail
    refine HF.out.mono ?_
    rintro e w2 ⟨rfl, rfl⟩
    exact ⟨rfl, endsBad HW.out HT.out HR.out⟩
  · have he := emptyB _ h0
    have HF := hide (mustC p s (skip l) true w1 hR)
    have HFT := hide (failC p s (skip l) 7 w1 hR)
    have HB : Hid (((skip l).takeWhile isSign).length ≤ 3000) := by show _ ≤ _; omega
    have HCl := hide (fun w' => cloneC (bs ((skip l).takeWhile isSign)) w' (by rw [size_bs]; omega))
    have HW : Hid (word f l = if f ((skip l).takeWhile isSign) then .ok ((skip l).takeWhile isSign) ((skip l).drop ((skip l).takeWhile isSign).length) else .bad 7 (skip l)) := by
      show _ = _; unfold word; rw [if_neg h0]
    clear hR hT h0
    generalize (skip l).takeWhile isSign = x at *
    cases hf : f x
    · rw [hf] at HW
      go_wp2_with fail
      refine HF.out.mono ?_
      rintro e w2 ⟨rfl, rfl⟩
      go_wp2_with fail
      refine (HG.out x _ HB.out).mono ?_
      rintro e w2 ⟨rfl, rfl⟩
      rw [hf]
      go_wp2_with fail
      refine HFT.out.mono ?_
      rintro e w2 ⟨rfl, rfl⟩
      exact ⟨rfl, endsBad HW.out HT.out HR.out⟩
    · rw [hf] at HW
      go_wp2_with fail
      refine HF.out.mono ?_
      rintro e w2 ⟨rfl, rfl⟩
      go_wp2_with fail
      refine (HG.out x _ HB.out).mono ?_
      rintro e w2 ⟨rfl, rfl⟩
      rw [hf]
      have HM1 := hide (HM.out _ HR.out)
      have HT1 := hide (HT.out.moved (.int .i64 ((pos s (skip l) : Int) + x.length)) 1)
      generalize hk : pos s (skip l) = k at *
      clear hk
      go_wp2_with fail
      refine (HCl.out _).mono ?_
      rintro e w3 ⟨rfl, hB⟩
      have HB3 := hide hB
      clear hB
      go_wp2
      go_ret
      exact endsOk HW.out (HT1.out.trans (Tn.of_below HB3.out)) rfl (HM1.out.below HB3.out)

end Go.Proofs.YtbohggoeebhdmaaGreatDoor

/- The walks of a reader's term, list of terms, atom. -/
namespace Go.Proofs.YtbohggoeebhdmaaGreatDoor
open Go.RowKit Go.Sort

set_option maxHeartbeats 1000000 in
theorem fitsTermC : Fits 209 fitsTerm := fun l w hl => by
  have HN := hide (fitsNamed l)
  have HV : Hid (∀ w, Calls Tryz.prog 165 #[.string (bs l)] w fun e w' => e = .returned (.bool (isVar l)) ∧ w' = w) := fun w => by
    have := variableC (bs l) w
    rw [raw_bs] at this; exact this
  have F : Hid (fitsTerm l = (isNamed l || isVar l)) := (rfl : _ = _)
  cases h1 : isNamed l <;> cases h2 : isVar l
  all_goals
    rw [h1] at HN F
    rw [h2] at HV F
    go_enter Tryz.func209, Tryz.ntmps209
    go_wp2_with (first
      | (go_at_call 90; refine (HN.out _ hl).mono ?_; rintro e w' ⟨rfl, rfl⟩)
      | (go_at_call 165; refine (HV.out _).mono ?_; rintro e w' ⟨rfl, rfl⟩))
    go_ret
    exact ⟨ret_bool (by rw [F.out]; rfl), rfl⟩

theorem enters_term1 (args : Array Value) (w : World) : (callFunc 209 args).run Tryz.prog w = .ok (.enter 209 args) w := enters_of Tryz.func209 (by kernel_rfl) rfl args w
theorem enters_named (args : Array Value) (w : World) : (callFunc 90 args).run Tryz.prog w = .ok (.enter 90 args) w := enters_of Tryz.func90 (by kernel_rfl) rfl args w

theorem listGo_yes {α : Type} {part : Bs → Res α} {n : Nat} {out : List α} {l : Bs} (ht : (took [44] l).1 = true) : listGo part (n + 1) out l = (part (took [44] l).2).next fun a r => listGo part n (out ++ [a]) r := by
  conv => lhs; unfold listGo
  exact if_pos ht

/-- An ending, taken apart. -/
theorem Ends'.split {α : Type} {p : Nat} {s : ByteArray} {w w' : World} {V : World → Value → α → Prop} {x : Res α} {e : Ending} (h : Ends' p s w V x e w') :
    Tn p w w' ∧ ((∃ a r v, x = .ok a r ∧ e = .returned v ∧ V w' v a ∧ Rd w' p s r) ∨ ∃ n r, x = .bad n r ∧ e = thrownV n s r ∧ Rd w' p s r) := by
  obtain ⟨h1, h2⟩ := h
  refine ⟨h1, ?_⟩
  cases x with
  | ok a r => obtain ⟨⟨v, e1, e2⟩, e3⟩ := h2; exact Or.inl ⟨a, r, v, rfl, e1, e2, e3⟩
  | bad n r => exact Or.inr ⟨n, r, rfl, h2.1, h2.2⟩

theorem frozen_row {w : World} {b j : Nat} {arr : Array Value} {t : TypeId} (h : w.heap[b]? = some (.cells arr t (0, 0))) : w.frozen? ⟨b, j, none⟩ = false := by
  simp [World.frozen?, h]

theorem Rd.other {w : World} {p b o : Nat} {s : ByteArray} {l : Bs} (h : Rd w p s l) (hb : b ≠ p) (h0 : p < b) (v : Value) : Rd (w.setCell ⟨b, o, none⟩ v) p s l :=
  h.turned ((Tn.refl b w).moved v o) hb h0

set_option maxHeartbeats 1000000 in
theorem termC (p : Nat) (s : ByteArray) (l : Bs) (w : World) (h : Rd w p s l) :
    Calls Tryz.prog 175 #[.pointer (some ⟨p, 0, none⟩)] w fun e w' => Ends' p s w (termK.val w.heap.size) (term l) e w' := by
  have hlt := h.lt
  have hA : Tn p w (w.alloc (.cells #[.bool false, .string { data := #[] }] 101)) := (Tn.refl p w).alloc _
  have HW := hide (wordR 209 fitsTerm fitsTermC enters_term1 p s l _ (h.turned (Tn.of_below (p := p + 1) (((Later.refl w).alloc (.cells #[.bool false, .string { data := #[] }] 101)).below)) (by omega) (by omega)))
  have HA := hide hA
  clear h hA
  go_enter Tryz.func175, Tryz.ntmps175
  go_wp2_with fail
  refine HW.out.mono ?_
  intro e w1 hE
  obtain ⟨hT, ⟨a, r, v, hx, rfl, rfl, hR⟩ | ⟨n, r, hx, rfl, hR⟩⟩ := hE.split
  · have hx' : term l = .ok (isVar a, a) r := by unfold term; rw [hx]; rfl
    have hrow : w1.heap[w.heap.size]? = some (.cells #[.bool false, .string { data := #[] }] 101 (0, 0)) := by
      rw [hT.block _ (by simp) (by omega)]; exact heap_alloc_new w _
    have z0 : w1.cell? ⟨w.heap.size, 0, none⟩ = some (.bool false) := by rw [cell_of_row _ _ _ _ _ _ hrow]; rfl
    have z1 : w1.cell? ⟨w.heap.size, 1, none⟩ = some (.string { data := #[] }) := by rw [cell_of_row _ _ _ _ _ _ hrow]; rfl
    have f0 := frozen_row (j := 0) hrow
    have f1 := frozen_row (j := 1) hrow
    have HV : Hid (Calls Tryz.prog 165 #[.string (bs a)] w1 fun e w' => e = .returned (.bool (isVar a)) ∧ w' = w1) := by
      have := variableC (bs a) w1
      rw [raw_bs] at this; exact this
    have HX := hide hx'
    have HT := hide (HA.out.trans hT)
    have HR := hide hR
    have hp0 := hR.ne
    clear hx hx' hT hR hrow hE HA
    go_wp2_with (go_at_call 165; refine HV.out.mono ?_; rintro e w' ⟨rfl, rfl⟩)
    refine bodyPost_ret (v := .agg #[.bool (isVar a), .string (bs a)]) (by simp [results, Tryz.results175, go_sem, z0, z1]) rfl ?_
    exact endsOk HX.out ((HT.out.setCell (Or.inr (Nat.le_refl _)) _).setCell (Or.inr (Nat.le_refl _)) _) ⟨_, rfl, rfl⟩ ((HR.out.other (by omega) (by omega) _).other (by omega) (by omega) _)
  · have hx' : term l = .bad n r := by unfold term; rw [hx]; rfl
    exact ⟨rfl, endsBad hx' (HA.out.trans hT) hR⟩

end Go.Proofs.YtbohggoeebhdmaaGreatDoor

/- The walk of syntax.list at terms. -/
namespace Go.Proofs.YtbohggoeebhdmaaGreatDoor
open Go.RowKit Go.Sort

theorem infoTerm : ∃ i, Tryz.prog.info? 101 = some i ∧ i.zero = some (.agg #[.bool false, .string ByteArray.empty]) ∧ i.size = 2 ∧ i.bytes = 24 := ⟨Tryz.t101, by kernel_rfl, by kernel_rfl, by kernel_rfl, by kernel_rfl⟩

theorem appendTerm {lo : Nat} {w : World} {v : Value} {l : List TermD} (h : termK.own 101 lo w v l) {c : List Value} {x : TermD} (hc : termK.is (fun k => lo ≤ k ∧ v.ownBlock ≠ some k) w c x) (hl : l.length + 1 ≤ 1099511627776) (hlo : lo ≤ w.heap.size) :
    ∃ v' w', (Builtin.append_ #[38, 38] 38 #[v, .slice (some ⟨w.heap.size, 0, none⟩) 1 1]).run Tryz.prog (w.alloc (.cells c.toArray 101)) = .ok v' w' ∧ termK.own 101 lo w' v' (l ++ [x]) ∧ (w.alloc (.cells c.toArray 101)).grownBy w' v.ownBlock := by
  obtain ⟨i, i1, i2, i3, i4⟩ := infoTerm
  exact Kind.own_append h Tryz.underlying38 i1 i2 i3 i4 rfl (by decide) (by decide) hc hl hlo

set_option maxHeartbeats 2000000 in
theorem listTerm (p : Nat) (s : ByteArray) (l : Bs) (w : World) (h : Rd w p s l) :
    Calls Tryz.prog 174 #[.pointer (some ⟨p, 0, none⟩), .int .i64 4, .func (.func 175) #[.pointer (some ⟨p, 0, none⟩)] #[]] w fun e w' => Ends' p s w (termK.sl (From w.heap.size)) (listP term 4 l) e w' := by
  have hlt := h.lt
  have HC := hide (termC p s l w h)
  clear h
  go_enter Tryz.func174, Tryz.ntmps174
  go_wp2_with fail
  refine HC.out.mono ?_
  intro e w1 hE
  obtain ⟨hT, ⟨a, r, v, hx, rfl, ⟨c, rfl, hK⟩, hR⟩ | ⟨n, r, hx, rfl, hR⟩⟩ := hE.split
  · have HO := hide (Kind.own_one (ty := 101) hK hT.size)
    have HG : Hid (listGo term 3 [a] r = listP term 4 l) := by show _ = _; unfold listP; rw [hx]; rfl
    have HT := hide (hT.alloc (.cells c.toArray 101))
    have HR := hide (hR.below ((((Later.refl w1).alloc (.cells c.toArray 101))).below))
    have hlo := hT.size
    obtain rfl := hK
    clear hx hT hR hE HC
    go_wp2
    go_loopg [7] 3 (fun k o wr => ∃ out l', k + out.length = 4 ∧ termK.own 101 w.heap.size wr o out ∧ listGo term k out l' = listP term 4 l ∧ Rd wr p s l' ∧ Tn p w wr)
    case atStart => exact ⟨[a], r, rfl, HO.out, HG.out, HR.out, HT.out⟩
    case round =>
      obtain ⟨out, l', hk, hO, hG, hR, hT⟩ := hrel
      clear HO HG HR HT
      obtain ⟨ao, co, rfl⟩ := Kind.own_slice hO
      have HO := hide hO
      have HG := hide hG
      have HC := hide (tookC p s l' [44] wr hR)
      have HT := hide hT
      clear hO hG hR hT
      go_wp2_with fail
      refine HC.out.mono ?_
      rintro e w2 ⟨rfl, hR2, hT2⟩
      have HR2 := hide hR2
      have HT2 := hide (HT.out.trans hT2)
      have HO2 := hide (Kind.own_turned HO.out hT2 hlt)
      cases ht : (took [44] l').1
      · have HX : Hid (listP term 4 l = .ok out (took [44] l').2) := by
          show _ = _; rw [← HG.out]; unfold listGo; rw [if_neg (by rw [ht]; simp)]
        clear ht hR2 hT2 HO HC HG HT
        go_wp2
        go_ret
        exact endsOk HX.out HT2.out (Kind.own_sl HO2.out (by omega)) HR2.out
      · cases gk with
        | zero =>
          have HX : Hid (listP term 4 l = .bad 5 (took [44] l').2) := by
            show _ = _; rw [← HG.out]; unfold listGo; rw [if_pos ht]
          have hlen : ((out.length : Int) == 4) = true := by rw [beq_iff_eq]; omega
          have HF := hide (failC p s _ 5 w2 hR2)
          clear ht hR2 hT2 HO HC HG HT
          go_wp2_with fail
          refine HF.out.mono ?_
          rintro e w3 ⟨rfl, rfl⟩
          exact ⟨rfl, endsBad HX.out HT2.out HR2.out⟩
        | succ n =>
          have HX : Hid (listP term 4 l = (term (took [44] l').2).next fun a r => listGo term n (out ++ [a]) r) := by
            show _ = _; rw [← HG.out, listGo_yes ht]
          have hlen : ((out.length : Int) == 4) = false := by rw [beq_eq_false_iff_ne]; omega
          have HP := hide (termC p s _ w2 hR2)
          clear ht hR2 hT2 HO HC HG HT
          go_wp2_with fail
          refine HP.out.mono ?_
          intro e w3 hE
          obtain ⟨hT3, ⟨a', r', v, hx, rfl, ⟨c', rfl, hK3⟩, hR3⟩ | ⟨n', r', hx, rfl, hR3⟩⟩ := hE.split
          · have hO3 := Kind.own_turned HO2.out hT3 hlt
            have hsz2 := HT2.out.size
            obtain ⟨v', w4, hrun, hO4, hg4⟩ := appendTerm hO3 (termK.mono hK3 fun k hk hB => ⟨by have : w2.heap.size ≤ k := hB; omega, fun e => by
              have h1 := (Kind.own_lt HO2.out e).2
              have h2 : w2.heap.size ≤ k := hB
              omega⟩) (by omega) (by have := hT3.size; omega)
            have HR4 := hide hrun
            have HO4 := hide hO4
            have HG4 : Hid (listGo term n (out ++ [a']) r' = listP term 4 l) := by show _ = _; rw [HX.out, hx]; rfl
            have hblk : ∀ k, k < w3.heap.size → k < w.heap.size → w4.heap[k]? = w3.heap[k]? := fun k hk hk' =>
              (hg4.block k (by simp; omega) (fun e => by have := (Kind.own_lt HO2.out e.symm).1; omega)).trans (Below.heap_alloc w3 _ k hk)
            have hs4 : w3.heap.size ≤ w4.heap.size := by have := hg4.size; simp at this; omega
            have HT4 : Hid (Tn p w w4) := ⟨hg4.os.trans (hT3.os.trans HT2.out.os), hg4.tape.trans (hT3.tape.trans HT2.out.tape), hg4.output.trans (hT3.output.trans HT2.out.output), by have := hT3.size; omega,
              fun k hk ho => (hblk k (by have := hT3.size; omega) hk).trans ((hT3.block k (by omega) ho).trans (HT2.out.block k hk ho))⟩
            have hRd : Rd w4 p s r' := ⟨hR3.short, hR3.suf, by have := hR3.lt; omega, hR3.ne,
              by rw [World.cell?_of_block (w := w3) (a := ⟨p, 0, none⟩) (hblk p hR3.lt hlt)]; exact hR3.c0, by rw [World.cell?_of_block (w := w3) (a := ⟨p, 1, none⟩) (hblk p hR3.lt hlt)]; exact hR3.c1,
              by rw [World.frozen?_of_block (w := w3) (a := ⟨p, 1, none⟩) (hblk p hR3.lt hlt)]; exact hR3.fz,
              by obtain ⟨m, e⟩ := hR3.g; exact ⟨m, by rw [World.cell?_of_block (w := w3) (a := ⟨3, 0, none⟩) (hblk 3 (by have := hR3.lt; have := hR3.ne; omega) (by have := hR3.ne; omega))]; exact e⟩⟩
            have HRd := hide hRd
            obtain rfl := hK3
            clear hx hE hT3 hR3 hrun hO4 hg4 hO3 hRd hblk HR2
            go_wp2_with (at_builtin; refine wpList_append_run rfl (.tmp 21) (.tmp 24) 38 rfl _ _ _ _ rfl rfl HR4.out ?_)
            go_roundg n
            case measure => exact Nat.lt_succ_self n
            case rel => exact ⟨out ++ [a'], r', by simp; omega, HO4.out, HG4.out, HRd.out, HT4.out⟩
          · have hx' : listP term 4 l = .bad n' r' := by rw [HX.out, hx]; rfl
            exact ⟨rfl, endsBad hx' (HT2.out.trans hT3) hR3⟩
  · have hx' : listP term 4 l = .bad n r := by unfold listP; rw [hx]; rfl
    exact ⟨rfl, endsBad hx' hT hR⟩

end Go.Proofs.YtbohggoeebhdmaaGreatDoor

/- The walks of a reader's atom and bodyAtom. -/
namespace Go.Proofs.YtbohggoeebhdmaaGreatDoor
open Go.RowKit Go.Sort

theorem Rd.alloc {w : World} {p : Nat} {s : ByteArray} {l : Bs} (h : Rd w p s l) (o : Obj) : Rd (w.alloc o) p s l := h.below ((Later.refl w).alloc o).below

/-- A block that only others have turned around. -/
theorem Tn.row {p b : Nat} {w w' : World} {arr : Array Value} {t : TypeId} (h : Tn p w w') (hr : w.heap[b]? = some (.cells arr t (0, 0))) (hb : b ≠ p) : w'.heap[b]? = some (.cells arr t (0, 0)) := by
  rw [h.block b (Array.getElem?_eq_some_iff.1 hr).1 hb]; exact hr

theorem row3 {w : World} {b : Nat} {x y z : Value} {t : TypeId} (h : w.heap[b]? = some (.cells #[x, y, z] t (0, 0))) :
    w.cell? ⟨b, 0, none⟩ = some x ∧ w.cell? ⟨b, 1, none⟩ = some y ∧ w.cell? ⟨b, 2, none⟩ = some z ∧ w.frozen? ⟨b, 0, none⟩ = false ∧ w.frozen? ⟨b, 1, none⟩ = false ∧ w.frozen? ⟨b, 2, none⟩ = false :=
  ⟨by rw [cell_of_row _ _ _ _ _ _ h]; rfl, by rw [cell_of_row _ _ _ _ _ _ h]; rfl, by rw [cell_of_row _ _ _ _ _ _ h]; rfl, frozen_row h, frozen_row h, frozen_row h⟩

set_option maxHeartbeats 2000000 in
theorem atomC (p : Nat) (s : ByteArray) (l : Bs) (w : World) (h : Rd w p s l) :
    Calls Tryz.prog 149 #[.pointer (some ⟨p, 0, none⟩)] w fun e w' => Ends' p s w (atomK.val w.heap.size) (atom l) e w' := by
  have hlt := h.lt
  have hne := h.ne
  have hA : Tn p w (w.alloc (.cells #[.bool false, .string { data := #[] }, .slice none 0 0] 40)) := (Tn.refl p w).alloc _
  have HW := hide (wordR 90 isNamed fitsNamed enters_named p s l _ (h.alloc (.cells #[.bool false, .string { data := #[] }, .slice none 0 0] 40)))
  clear h
  go_enter Tryz.func149, Tryz.ntmps149
  go_wp2_with fail
  refine HW.out.mono ?_
  intro e w1 hE
  obtain ⟨hT, ⟨a, r, v, hx, rfl, rfl, hR⟩ | ⟨n, r, hx, rfl, hR⟩⟩ := hE.split
  · have hr1 := hT.row (heap_alloc_new w _) (b := w.heap.size) (by omega)
    have hlt1 : w.heap.size < w1.heap.size := by have := hT.size; simp at this; omega
    have hT1 := hA.trans hT
    have HTk := hide (tookC p s r [40] _ (hR.alloc (.cells #[.bool false, .string (bs a), .slice none 0 0] 40)))
    have HT1 := hide (hT1.alloc (.cells #[.bool false, .string (bs a), .slice none 0 0] 40))
    have HX : Hid (atom l = if (took [40] r).1 then (listP term 4 (took [40] r).2).next fun ts r => mustTake [41] ⟨false, a, ts⟩ r else .ok ⟨false, a, []⟩ (took [40] r).2) := by
      show _ = _; unfold atom; rw [hx]; rfl
    have hr1' := (Tn.refl p w1).alloc (.cells #[.bool false, .string (bs a), .slice none 0 0] 40) |>.row hr1 (by omega)
    have hr2 := heap_alloc_new w1 (.cells #[.bool false, .string (bs a), .slice none 0 0] 40)
    clear hx hT hR hE hA hT1 hr1 HW
    go_wp2_with fail
    refine HTk.out.mono ?_
    rintro e w2 ⟨rfl, hR2, hT2⟩
    replace hr1 := hT2.row hr1' (by omega)
    replace hr2 := hT2.row hr2 (by omega)
    have hlt2 : w1.heap.size < w2.heap.size := by have := hT2.size; simp at this; omega
    have HT2 := hide (HT1.out.trans hT2)
    have HR2 := hide hR2
    cases ht : (took [40] r).1
    · have HX2 : Hid (atom l = .ok ⟨false, a, []⟩ (took [40] r).2) := by show _ = _; rw [HX.out, if_neg (by rw [ht]; simp)]
      obtain ⟨z0, z1, z2, f0, f1, f2⟩ := row3 hr1
      obtain ⟨y0, y1, y2, _, _, _⟩ := row3 hr2
      clear ht hR2 hT2 HTk HT1 HX hr1' hr1 hr2
      go_wp2
      refine bodyPost_ret (v := .agg #[.bool false, .string (bs a), .slice none 0 0]) (by simp [results, Tryz.results149, go_sem, z0, z1, z2]) rfl ?_
      exact endsOk HX2.out (((HT2.out.setCell (Or.inr (Nat.le_refl _)) _).setCell (Or.inr (Nat.le_refl _)) _).setCell (Or.inr (Nat.le_refl _)) _) ⟨_, rfl, _, rfl, termK.sl_nil _ _ _ _⟩
        (((HR2.out.other (by omega) (by omega) _).other (by omega) (by omega) _).other (by omega) (by omega) _)
    · have HX2 : Hid (atom l = (listP term 4 (took [40] r).2).next fun ts r => mustTake [41] ⟨false, a, ts⟩ r) := by show _ = _; rw [HX.out, if_pos ht]
      have HL := hide (listTerm p s _ w2 hR2)
      clear ht hR2 hT2 HTk HT1 HX hr1'
      go_wp2_with fail
      refine HL.out.mono ?_
      intro e w3 hE3
      obtain ⟨hT3, ⟨ts, r3, v3, hx3, rfl, hV3, hR3⟩ | ⟨n, r3, hx3, rfl, hR3⟩⟩ := hE3.split
      · obtain ⟨a3, c3, rfl⟩ := Kind.slice hV3
        replace hr1 := hT3.row hr1 (by omega)
        replace hr2 := hT3.row hr2 (by omega)
        have hsz3 := hT3.size
        obtain ⟨y0, y1, y2, g0, g1, g2⟩ := row3 hr2
        obtain ⟨z0, z1, z2, f0, f1, f2⟩ := row3 hr1
        have hTs : Tn (w1.heap.size) w3 (w3.setCell ⟨w1.heap.size, 2, none⟩ (.slice a3 ts.length c3)) := (Tn.refl _ w3).moved _ _
        have HTk := hide (tookC p s r3 [41] _ (hR3.turned hTs (by omega) (by omega)))
        have HV3 : Hid (termK.sl (From w2.heap.size) (w3.setCell ⟨w1.heap.size, 2, none⟩ (.slice a3 ts.length c3)) (.slice a3 ts.length c3) ts) := Kind.sl_turned hV3 hTs (by omega)
        have HT3 := hide ((HT2.out.trans hT3).setCell (x := ⟨w1.heap.size, 2, none⟩) (Or.inr (by show w.heap.size ≤ w1.heap.size; omega)) (.slice a3 ts.length c3))
        have HX3 : Hid (atom l = mustTake [41] ⟨false, a, ts⟩ r3) := by show _ = _; rw [HX2.out, hx3]; rfl
        have hq1 := hTs.row hr1 (by omega)
        have q0 : (w3.setCell ⟨w1.heap.size, 2, none⟩ (.slice a3 ts.length c3)).cell? ⟨w1.heap.size, 0, none⟩ = some (.bool false) := by rw [World.cell?_setCell_other _ _ _ _ (by simp)]; exact y0
        have q1 : (w3.setCell ⟨w1.heap.size, 2, none⟩ (.slice a3 ts.length c3)).cell? ⟨w1.heap.size, 1, none⟩ = some (.string (bs a)) := by rw [World.cell?_setCell_other _ _ _ _ (by simp)]; exact y1
        have q2 : (w3.setCell ⟨w1.heap.size, 2, none⟩ (.slice a3 ts.length c3)).cell? ⟨w1.heap.size, 2, none⟩ = some (.slice a3 ts.length c3) := World.cell?_setCell_same _ _ _ y2
        have hsz4 : w3.heap.size = (w3.setCell ⟨w1.heap.size, 2, none⟩ (.slice a3 ts.length c3)).heap.size := (size_setCell _ _ _).symm
        clear hx3 hE3 hV3 hR3 HL HX2 hr1 hr2 z0 z1 z2 f0 f1 f2 HR2 hTs y0 y1
        go_wp2_with fail
        refine HTk.out.mono ?_
        rintro e w4 ⟨rfl, hR4, hT4⟩
        have hq1' := hT4.row hq1 (by omega)
        obtain ⟨z0, z1, z2, f0, f1, f2⟩ := row3 hq1'
        rw [← hT4.cell (x := ⟨w1.heap.size, 0, none⟩) (by show w1.heap.size < _; omega) (by show w1.heap.size ≠ p; omega)] at q0
        rw [← hT4.cell (x := ⟨w1.heap.size, 1, none⟩) (by show w1.heap.size < _; omega) (by show w1.heap.size ≠ p; omega)] at q1
        rw [← hT4.cell (x := ⟨w1.heap.size, 2, none⟩) (by show w1.heap.size < _; omega) (by show w1.heap.size ≠ p; omega)] at q2
        have HV4 := hide (Kind.sl_turned HV3.out hT4 (by omega))
        have HT4 := hide (HT3.out.trans hT4)
        have HR4 := hide hR4
        have HM := hide (mustC p s _ ((took [41] r3).1) w4 hR4)
        have hsz5 := hT4.size
        clear hR4 hT4 HTk HV3 HT3 hq1 hq1' y2
        cases ht : (took [41] r3).1
        · have HX4 : Hid (atom l = .bad 2 (took [41] r3).2) := by show _ = _; rw [HX3.out]; unfold mustTake; rw [if_neg (by rw [ht]; simp)]
          rw [ht] at HM
          clear ht HX3
          go_wp2_with fail
          refine HM.out.mono ?_
          rintro e w5 ⟨rfl, rfl⟩
          exact ⟨rfl, endsBad HX4.out HT4.out HR4.out⟩
        · have HX4 : Hid (atom l = .ok ⟨false, a, ts⟩ (took [41] r3).2) := by show _ = _; rw [HX3.out]; unfold mustTake; rw [if_pos ht]
          rw [ht] at HM
          clear ht HX3
          go_wp2_with fail
          refine HM.out.mono ?_
          rintro e w5 ⟨rfl, rfl⟩
          go_wp2
          refine bodyPost_ret (v := .agg #[.bool false, .string (bs a), .slice a3 ts.length c3]) (by simp [results, Tryz.results149, go_sem, z0, z1, z2]) rfl ?_
          have hTb : Tn w.heap.size w5 (((w5.setCell ⟨w.heap.size, 0, none⟩ (.bool false)).setCell ⟨w.heap.size, 1, none⟩ (.string (bs a))).setCell ⟨w.heap.size, 2, none⟩ (.slice a3 ts.length c3)) :=
            (((Tn.refl _ w5).moved _ _).moved _ _).moved _ _
          exact endsOk HX4.out (((HT4.out.setCell (Or.inr (Nat.le_refl _)) _).setCell (Or.inr (Nat.le_refl _)) _).setCell (Or.inr (Nat.le_refl _)) _) ⟨_, rfl, _, rfl, Kind.sl_mono (Kind.sl_turned HV4.out hTb (by omega)) (fun k _ hB => by have : w2.heap.size ≤ k := hB; show w.heap.size ≤ k; omega)⟩
            (HR4.out.turned hTb (by omega) (by omega))
      · have hx' : atom l = .bad n r3 := by rw [HX2.out, hx3]; rfl
        exact ⟨rfl, endsBad hx' (HT2.out.trans hT3) hR3⟩
  · have hx' : atom l = .bad n r := by unfold atom; rw [hx]; rfl
    exact ⟨rfl, endsBad hx' (hA.trans hT) hR⟩

set_option maxHeartbeats 2000000 in
theorem bodyAtomC (p : Nat) (s : ByteArray) (l : Bs) (w : World) (h : Rd w p s l) :
    Calls Tryz.prog 178 #[.pointer (some ⟨p, 0, none⟩)] w fun e w' => Ends' p s w (atomK.val w.heap.size) (bodyAtom l) e w' := by
  have hlt := h.lt
  have hne := h.ne
  have HA := hide ((Tn.refl p w).alloc (.cells #[.bool false, .string { data := #[] }, .slice none 0 0] 40))
  have hr1 := heap_alloc_new w (.cells #[.bool false, .string { data := #[] }, .slice none 0 0] 40)
  have HW := hide (tookC p s l [33] _ (h.alloc (.cells #[.bool false, .string { data := #[] }, .slice none 0 0] 40)))
  clear h
  go_enter Tryz.func178, Tryz.ntmps178
  go_wp2_with fail
  refine HW.out.mono ?_
  rintro e w1 ⟨rfl, hR, hT⟩
  replace hr1 := hT.row hr1 (by omega)
  have hlt1 : w.heap.size < w1.heap.size := by have := hT.size; simp at this; omega
  have HT1 := hide (HA.out.trans hT)
  have HC := hide (atomC p s _ w1 hR)
  clear hR hT HA HW
  go_wp2_with fail
  refine HC.out.mono ?_
  intro e w2 hE
  obtain ⟨hT2, ⟨a, r, v, hx, rfl, ⟨c, rfl, v2, rfl, hV⟩, hR2⟩ | ⟨n, r, hx, rfl, hR2⟩⟩ := hE.split
  · obtain ⟨a3, c3, rfl⟩ := Kind.slice hV
    replace hr1 := hT2.row hr1 (by omega)
    have hlt2 := hT2.size
    have HX : Hid (bodyAtom l = .ok { a with no := (took [33] l).1 } r) := by show _ = _; unfold bodyAtom; rw [hx]; rfl
    have HT2 := hide ((HT1.out.trans hT2).alloc (.cells #[.bool (took [33] l).1, .string (bs a.name), .slice a3 a.terms.length c3] 40))
    have HR2 := hide (hR2.alloc (.cells #[.bool (took [33] l).1, .string (bs a.name), .slice a3 a.terms.length c3] 40))
    have hTa : Tn (w2.heap.size + 1) w2 (w2.alloc (.cells #[.bool (took [33] l).1, .string (bs a.name), .slice a3 a.terms.length c3] 40)) := (Tn.refl _ w2).alloc _
    have HV : Hid (termK.sl (From w1.heap.size) (w2.alloc (.cells #[.bool (took [33] l).1, .string (bs a.name), .slice a3 a.terms.length c3] 40)) (.slice a3 a.terms.length c3) a.terms) := Kind.sl_kept hV hTa.size (fun k hk _ => hTa.block k hk (by omega))
    obtain ⟨z0, z1, z2, f0, f1, f2⟩ := row3 (hTa.row hr1 (by omega))
    clear hx hE hV hR2 HT1 HC hr1 hTa
    generalize (took [33] l).1 = b at *
    go_wp2
    refine bodyPost_ret (v := .agg #[.bool b, .string (bs a.name), .slice a3 a.terms.length c3]) (by simp [results, Tryz.results178, go_sem, z0, z1, z2]) rfl ?_
    generalize w2.alloc (.cells #[.bool b, .string (bs a.name), .slice a3 a.terms.length c3] 40) = w3 at *
    have hTb : Tn w.heap.size w3 (((w3.setCell ⟨w.heap.size, 0, none⟩ (.bool b)).setCell ⟨w.heap.size, 1, none⟩ (.string (bs a.name))).setCell ⟨w.heap.size, 2, none⟩ (.slice a3 a.terms.length c3)) :=
      (((Tn.refl _ w3).moved _ _).moved _ _).moved _ _
    exact endsOk HX.out (((HT2.out.setCell (Or.inr (Nat.le_refl _)) _).setCell (Or.inr (Nat.le_refl _)) _).setCell (Or.inr (Nat.le_refl _)) _) ⟨_, rfl, _, rfl, Kind.sl_mono (Kind.sl_turned HV.out hTb (by omega)) (fun k _ hB => by have : w1.heap.size ≤ k := hB; show w.heap.size ≤ k; omega)⟩
      (HR2.out.turned hTb (by omega) (by omega))
  · have hx' : bodyAtom l = .bad n r := by unfold bodyAtom; rw [hx]; rfl
    exact ⟨rfl, endsBad hx' (HT1.out.trans hT2) hR2⟩

end Go.Proofs.YtbohggoeebhdmaaGreatDoor

/- The walk of syntax.list at atoms. -/
namespace Go.Proofs.YtbohggoeebhdmaaGreatDoor
open Go.RowKit Go.Sort

theorem infoAtom : ∃ i, Tryz.prog.info? 40 = some i ∧ i.zero = some (.agg #[.bool false, .string ByteArray.empty, .slice none 0 0]) ∧ i.size = 3 ∧ i.bytes = 48 := ⟨Tryz.t40, by kernel_rfl, by kernel_rfl, by kernel_rfl, by kernel_rfl⟩

theorem appendAtom {lo : Nat} {w : World} {v : Value} {l : List AtomD} (h : atomK.own 40 lo w v l) {c : List Value} {x : AtomD} (hc : atomK.is (fun k => lo ≤ k ∧ v.ownBlock ≠ some k) w c x) (hl : l.length + 1 ≤ 1099511627776) (hlo : lo ≤ w.heap.size) :
    ∃ v' w', (Builtin.append_ #[41, 41] 41 #[v, .slice (some ⟨w.heap.size, 0, none⟩) 1 1]).run Tryz.prog (w.alloc (.cells c.toArray 40)) = .ok v' w' ∧ atomK.own 40 lo w' v' (l ++ [x]) ∧ (w.alloc (.cells c.toArray 40)).grownBy w' v.ownBlock := by
  obtain ⟨i, i1, i2, i3, i4⟩ := infoAtom
  exact Kind.own_append h Tryz.underlying41 i1 i2 i3 i4 rfl (by decide) (by decide) hc hl hlo

set_option maxHeartbeats 2000000 in
theorem listAtom (p : Nat) (s : ByteArray) (l : Bs) (w : World) (h : Rd w p s l) :
    Calls Tryz.prog 177 #[.pointer (some ⟨p, 0, none⟩), .int .i64 5, .func (.func 178) #[.pointer (some ⟨p, 0, none⟩)] #[]] w fun e w' => Ends' p s w (atomK.sl (From w.heap.size)) (listP bodyAtom 5 l) e w' := by
  have hlt := h.lt
  have HC := hide (bodyAtomC p s l w h)
  clear h
  go_enter Tryz.func177, Tryz.ntmps177
  go_wp2_with fail
  refine HC.out.mono ?_
  intro e w1 hE
  obtain ⟨hT, ⟨a, r, v, hx, rfl, ⟨c, rfl, hK⟩, hR⟩ | ⟨n, r, hx, rfl, hR⟩⟩ := hE.split
  · have HO := hide (Kind.own_one (ty := 40) hK hT.size)
    have HG : Hid (listGo bodyAtom 4 [a] r = listP bodyAtom 5 l) := by show _ = _; unfold listP; rw [hx]; rfl
    have HT := hide (hT.alloc (.cells c.toArray 40))
    have HR := hide (hR.below ((((Later.refl w1).alloc (.cells c.toArray 40))).below))
    have hlo := hT.size
    obtain ⟨tv, rfl, hts⟩ := hK
    obtain ⟨ta, tc, rfl⟩ := Kind.slice hts
    clear hts
    clear hx hT hR hE HC
    go_wp2
    go_loopg [7] 4 (fun k o wr => ∃ out l', k + out.length = 5 ∧ atomK.own 40 w.heap.size wr o out ∧ listGo bodyAtom k out l' = listP bodyAtom 5 l ∧ Rd wr p s l' ∧ Tn p w wr)
    case atStart => exact ⟨[a], r, rfl, HO.out, HG.out, HR.out, HT.out⟩
    case round =>
      obtain ⟨out, l', hk, hO, hG, hR, hT⟩ := hrel
      clear HO HG HR HT
      obtain ⟨ao, co, rfl⟩ := Kind.own_slice hO
      have HO := hide hO
      have HG := hide hG
      have HC := hide (tookC p s l' [44] wr hR)
      have HT := hide hT
      clear hO hG hR hT
      go_wp2_with fail
      refine HC.out.mono ?_
      rintro e w2 ⟨rfl, hR2, hT2⟩
      have HR2 := hide hR2
      have HT2 := hide (HT.out.trans hT2)
      have HO2 := hide (Kind.own_turned HO.out hT2 hlt)
      cases ht : (took [44] l').1
      · have HX : Hid (listP bodyAtom 5 l = .ok out (took [44] l').2) := by
          show _ = _; rw [← HG.out]; unfold listGo; rw [if_neg (by rw [ht]; simp)]
        clear ht hR2 hT2 HO HC HG HT
        go_wp2
        go_ret
        exact endsOk HX.out HT2.out (Kind.own_sl HO2.out (by omega)) HR2.out
      · cases gk with
        | zero =>
          have HX : Hid (listP bodyAtom 5 l = .bad 5 (took [44] l').2) := by
            show _ = _; rw [← HG.out]; unfold listGo; rw [if_pos ht]
          have hlen : ((out.length : Int) == 5) = true := by rw [beq_iff_eq]; omega
          have HF := hide (failC p s _ 5 w2 hR2)
          clear ht hR2 hT2 HO HC HG HT
          go_wp2_with fail
          refine HF.out.mono ?_
          rintro e w3 ⟨rfl, rfl⟩
          exact ⟨rfl, endsBad HX.out HT2.out HR2.out⟩
        | succ n =>
          have HX : Hid (listP bodyAtom 5 l = (bodyAtom (took [44] l').2).next fun a r => listGo bodyAtom n (out ++ [a]) r) := by
            show _ = _; rw [← HG.out, listGo_yes ht]
          have hlen : ((out.length : Int) == 5) = false := by rw [beq_eq_false_iff_ne]; omega
          have HP := hide (bodyAtomC p s _ w2 hR2)
          clear ht hR2 hT2 HO HC HG HT
          go_wp2_with fail
          refine HP.out.mono ?_
          intro e w3 hE
          obtain ⟨hT3, ⟨a', r', v, hx, rfl, ⟨c', rfl, hK3⟩, hR3⟩ | ⟨n', r', hx, rfl, hR3⟩⟩ := hE.split
          · have hO3 := Kind.own_turned HO2.out hT3 hlt
            have hsz2 := HT2.out.size
            obtain ⟨v', w4, hrun, hO4, hg4⟩ := appendAtom hO3 (atomK.mono hK3 fun k hk hB => ⟨by have : w2.heap.size ≤ k := hB; omega, fun e => by
              have h1 := (Kind.own_lt HO2.out e).2
              have h2 : w2.heap.size ≤ k := hB
              omega⟩) (by omega) (by have := hT3.size; omega)
            have HR4 := hide hrun
            have HO4 := hide hO4
            have HG4 : Hid (listGo bodyAtom n (out ++ [a']) r' = listP bodyAtom 5 l) := by show _ = _; rw [HX.out, hx]; rfl
            have hblk : ∀ k, k < w3.heap.size → k < w.heap.size → w4.heap[k]? = w3.heap[k]? := fun k hk hk' =>
              (hg4.block k (by simp; omega) (fun e => by have := (Kind.own_lt HO2.out e.symm).1; omega)).trans (Below.heap_alloc w3 _ k hk)
            have hs4 : w3.heap.size ≤ w4.heap.size := by have := hg4.size; simp at this; omega
            have HT4 : Hid (Tn p w w4) := ⟨hg4.os.trans (hT3.os.trans HT2.out.os), hg4.tape.trans (hT3.tape.trans HT2.out.tape), hg4.output.trans (hT3.output.trans HT2.out.output), by have := hT3.size; omega,
              fun k hk ho => (hblk k (by have := hT3.size; omega) hk).trans ((hT3.block k (by omega) ho).trans (HT2.out.block k hk ho))⟩
            have hRd : Rd w4 p s r' := ⟨hR3.short, hR3.suf, by have := hR3.lt; omega, hR3.ne,
              by rw [World.cell?_of_block (w := w3) (a := ⟨p, 0, none⟩) (hblk p hR3.lt hlt)]; exact hR3.c0, by rw [World.cell?_of_block (w := w3) (a := ⟨p, 1, none⟩) (hblk p hR3.lt hlt)]; exact hR3.c1,
              by rw [World.frozen?_of_block (w := w3) (a := ⟨p, 1, none⟩) (hblk p hR3.lt hlt)]; exact hR3.fz,
              by obtain ⟨m, e⟩ := hR3.g; exact ⟨m, by rw [World.cell?_of_block (w := w3) (a := ⟨3, 0, none⟩) (hblk 3 (by have := hR3.lt; have := hR3.ne; omega) (by have := hR3.ne; omega))]; exact e⟩⟩
            have HRd := hide hRd
            obtain ⟨tv3, rfl, hts3⟩ := hK3
            obtain ⟨ta3, tc3, rfl⟩ := Kind.slice hts3
            clear hts3
            clear hx hE hT3 hR3 hrun hO4 hg4 hO3 hRd hblk HR2
            go_wp2_with (at_builtin; refine wpList_append_run rfl (.tmp 21) (.tmp 24) 41 rfl _ _ _ _ rfl rfl HR4.out ?_)
            go_roundg n
            case measure => exact Nat.lt_succ_self n
            case rel => exact ⟨out ++ [a'], r', by simp; omega, HO4.out, HG4.out, HRd.out, HT4.out⟩
          · have hx' : listP bodyAtom 5 l = .bad n' r' := by rw [HX.out, hx]; rfl
            exact ⟨rfl, endsBad hx' (HT2.out.trans hT3) hR3⟩
  · have hx' : listP bodyAtom 5 l = .bad n r := by unfold listP; rw [hx]; rfl
    exact ⟨rfl, endsBad hx' hT hR⟩

end Go.Proofs.YtbohggoeebhdmaaGreatDoor

/- The walks of a reader's body, rule and rules. -/
namespace Go.Proofs.YtbohggoeebhdmaaGreatDoor
open Go.RowKit Go.Sort

set_option maxHeartbeats 1000000 in
theorem bodyC (p : Nat) (s : ByteArray) (l : Bs) (w : World) (h : Rd w p s l) :
    Calls Tryz.prog 151 #[.pointer (some ⟨p, 0, none⟩)] w fun e w' => Ends' p s w (atomK.sl (From w.heap.size)) (body l) e w' := by
  have HC := hide (listAtom p s l w h)
  have hmf : ∀ (fn : Fn) (first cap : Array Value) (w : World), (Instr.makeFunc fn first cap).run Tryz.prog w = .ok (.func fn first cap) w := fun _ _ _ _ => rfl
  clear h
  go_enter Tryz.func151, Tryz.ntmps151
  go_wp2_with fail
  refine HC.out.mono ?_
  intro e w1 hE
  obtain ⟨hT, ⟨a, r, v, hx, rfl, hV, hR⟩ | ⟨n, r, hx, rfl, hR⟩⟩ := hE.split
  · obtain ⟨a1, c1, rfl⟩ := Kind.slice hV
    have HX : Hid (body l = .ok a r) := hx
    have HT := hide hT
    have HV := hide hV
    have HR := hide hR
    clear hx hT hV hR hE
    go_wp2
    go_ret
    exact endsOk HX.out HT.out HV.out HR.out
  · exact ⟨rfl, endsBad hx hT hR⟩

theorem row4 {w : World} {b : Nat} {x y z u : Value} {t : TypeId} (h : w.heap[b]? = some (.cells #[x, y, z, u] t (0, 0))) :
    w.cell? ⟨b, 0, none⟩ = some x ∧ w.cell? ⟨b, 1, none⟩ = some y ∧ w.cell? ⟨b, 2, none⟩ = some z ∧ w.cell? ⟨b, 3, none⟩ = some u ∧ w.frozen? ⟨b, 0, none⟩ = false ∧ w.frozen? ⟨b, 1, none⟩ = false ∧ w.frozen? ⟨b, 2, none⟩ = false ∧ w.frozen? ⟨b, 3, none⟩ = false :=
  ⟨by rw [cell_of_row _ _ _ _ _ _ h]; rfl, by rw [cell_of_row _ _ _ _ _ _ h]; rfl, by rw [cell_of_row _ _ _ _ _ _ h]; rfl, by rw [cell_of_row _ _ _ _ _ _ h]; rfl, frozen_row h, frozen_row h, frozen_row h, frozen_row h⟩

/-- From lo on, but not at q. -/
abbrev But (lo q : Nat) : Nat → Prop := fun k => lo ≤ k ∧ k ≠ q
theorem Kind.sl_tn {α : Type} {K : Kind α} {p q lo : Nat} {w w' : World} {v : Value} {l : List α} (h : K.sl (But lo q) w v l) (k : Tn p w w') (hp : p < lo ∨ p = q) : K.sl (But lo q) w' v l :=
  Kind.sl_kept h k.size fun i hi hB => k.block i hi (by have := hB.1; have := hB.2; omega)
theorem Kind.sl_from {α : Type} {K : Kind α} {q lo : Nat} {w : World} {v : Value} {l : List α} (h : K.sl (But lo q) w v l) : K.sl (From lo) w v l := Kind.sl_mono h fun _ _ hB => hB.1

/-- The end of a rule: what must follow, and the result's store. -/
theorem ruleEnd {p lo b : Nat} {s : ByteArray} {l r : Bs} {w w4 : World} {a : AtomD} {bd : List AtomD} {tv bv : Value} (hX : rule l = .ok ⟨a, bd⟩ r) (hno : a.no = false) (hT : Tn p w w4) (hR : Rd w4 p s r)
    (hV : termK.sl (From lo) w4 tv a.terms) (hB : atomK.sl (From lo) w4 bv bd) (hlo : w.heap.size < lo) (hlt : p < w.heap.size) (hb : b = w.heap.size) :
    Ends' p s w (ruleK.val w.heap.size) (rule l) (.returned (.agg #[.bool false, .string (bs a.name), tv, bv])) ((((w4.setCell ⟨b, 0, none⟩ (.bool false)).setCell ⟨b, 1, none⟩ (.string (bs a.name))).setCell ⟨b, 2, none⟩ tv).setCell ⟨b, 3, none⟩ bv) := by
  subst hb
  have hTb : Tn w.heap.size w4 ((((w4.setCell ⟨w.heap.size, 0, none⟩ (.bool false)).setCell ⟨w.heap.size, 1, none⟩ (.string (bs a.name))).setCell ⟨w.heap.size, 2, none⟩ tv).setCell ⟨w.heap.size, 3, none⟩ bv) :=
    ((((Tn.refl _ w4).moved _ _).moved _ _).moved _ _).moved _ _
  have mono : ∀ k, k < ((((w4.setCell ⟨w.heap.size, 0, none⟩ (.bool false)).setCell ⟨w.heap.size, 1, none⟩ (.string (bs a.name))).setCell ⟨w.heap.size, 2, none⟩ tv).setCell ⟨w.heap.size, 3, none⟩ bv).heap.size → From lo k → From w.heap.size k :=
    fun k _ hB => by have : lo ≤ k := hB; show w.heap.size ≤ k; omega
  exact endsOk hX ((((hT.setCell (Or.inr (Nat.le_refl _)) _).setCell (Or.inr (Nat.le_refl _)) _).setCell (Or.inr (Nat.le_refl _)) _).setCell (Or.inr (Nat.le_refl _)) _)
    ⟨_, rfl, _, _, by rw [hno], Kind.sl_mono (Kind.sl_turned hV hTb hlo) mono, Kind.sl_mono (Kind.sl_turned hB hTb hlo) mono⟩ (hR.turned hTb (by omega) (by omega))

theorem atom_no {l r : Bs} {a : AtomD} (h : atom l = .ok a r) : a.no = false := by
  obtain ⟨w, r1, h1, h2⟩ := Res.next_ok h
  split at h2
  · obtain ⟨ts, r2, h4, h5⟩ := Res.next_ok h2
    rw [(mustTake_ok h5).2.1]
  · cases h2; rfl

set_option maxHeartbeats 2000000 in
theorem ruleC (p : Nat) (s : ByteArray) (l : Bs) (w : World) (h : Rd w p s l) :
    Calls Tryz.prog 126 #[.pointer (some ⟨p, 0, none⟩)] w fun e w' => Ends' p s w (ruleK.val w.heap.size) (rule l) e w' := by
  have hlt := h.lt
  have hne := h.ne
  have HA := hide ((Tn.refl p w).alloc (.cells #[.bool false, .string { data := #[] }, .slice none 0 0, .slice none 0 0] 43))
  have hr1 := heap_alloc_new w (.cells #[.bool false, .string { data := #[] }, .slice none 0 0, .slice none 0 0] 43)
  have HW := hide (atomC p s l _ (h.alloc (.cells #[.bool false, .string { data := #[] }, .slice none 0 0, .slice none 0 0] 43)))
  clear h
  go_enter Tryz.func126, Tryz.ntmps126
  go_wp2_with fail
  refine HW.out.mono ?_
  intro e w1 hE
  obtain ⟨hT, ⟨a, r, v, hx, rfl, ⟨c, rfl, v2, rfl, hV⟩, hR⟩ | ⟨n, r, hx, rfl, hR⟩⟩ := hE.split
  · obtain ⟨a1, c1, rfl⟩ := Kind.slice hV
    have hno := atom_no hx
    replace hr1 := hT.row hr1 (by omega)
    have hlt1 : w.heap.size < w1.heap.size := by have := hT.size; simp at this; omega
    have HT1 := hide ((HA.out.trans hT).alloc (.cells #[.bool false, .string (bs a.name), .slice a1 a.terms.length c1, .slice none 0 0] 43))
    have HTk := hide (tookC p s r [58, 45] _ (hR.alloc (.cells #[.bool false, .string (bs a.name), .slice a1 a.terms.length c1, .slice none 0 0] 43)))
    have HX : Hid (rule l = if (took [58, 45] r).1 then (body (took [58, 45] r).2).next fun b r => mustTake [46] ⟨a, b⟩ r else mustTake [46] ⟨a, []⟩ (took [58, 45] r).2) := by
      show _ = _; unfold rule; rw [hx]; rfl
    have hTa : Tn p w1 (w1.alloc (.cells #[.bool false, .string (bs a.name), .slice a1 a.terms.length c1, .slice none 0 0] 43)) := (Tn.refl p w1).alloc _
    have hr2 := heap_alloc_new w1 (.cells #[.bool false, .string (bs a.name), .slice a1 a.terms.length c1, .slice none 0 0] 43)
    replace hr1 := hTa.row hr1 (by omega)
    have hV1 : termK.sl (But (w.heap.size + 1) w1.heap.size) (w1.alloc (.cells #[.bool false, .string (bs a.name), .slice a1 a.terms.length c1, .slice none 0 0] 43)) (.slice a1 a.terms.length c1) a.terms :=
      Kind.sl_tn (Kind.sl_mono hV (fun k hk hB => ⟨by have : (w.alloc _).heap.size ≤ k := hB; simp at this; exact this, by omega⟩)) hTa (by omega)
    have HV1 := hide hV1
    have hs1 : (w1.alloc (.cells #[.bool false, .string (bs a.name), .slice a1 a.terms.length c1, .slice none 0 0] 43)).heap.size = w1.heap.size + 1 := by simp
    clear hx hT hR hE HA HW hV hTa hV1
    rw [hno]
    go_wp2_with fail
    refine HTk.out.mono ?_
    rintro e w2 ⟨rfl, hR2, hT2⟩
    replace hr1 := hT2.row hr1 (by omega)
    replace hr2 := hT2.row hr2 (by omega)
    have hlt2 : w1.heap.size < w2.heap.size := by have := hT2.size; omega
    have HT2 := hide (HT1.out.trans hT2)
    have HV2 := hide (Kind.sl_tn HV1.out hT2 (by omega))
    have HR2 := hide hR2
    cases ht : (took [58, 45] r).1
    · have HX2 : Hid (rule l = mustTake [46] ⟨a, []⟩ (took [58, 45] r).2) := by show _ = _; rw [HX.out, if_neg (by rw [ht]; simp)]
      have HTk2 := hide (tookC p s _ [46] w2 hR2)
      clear ht hR2 hT2 HTk HT1 HX HV1
      go_wp2_with fail
      refine HTk2.out.mono ?_
      rintro e w4 ⟨rfl, hR4, hT4⟩
      obtain ⟨z0, z1, z2, z3, f0, f1, f2, f3⟩ := row4 (hT4.row hr1 (by omega))
      obtain ⟨y0, y1, y2, y3, _, _, _, _⟩ := row4 (hT4.row hr2 (by omega))
      have HV4 := hide (Kind.sl_from (Kind.sl_tn HV2.out hT4 (by omega)))
      have HT4 := hide (HT2.out.trans hT4)
      have HR4 := hide hR4
      have HM := hide (mustC p s _ ((took [46] (took [58, 45] r).2).1) w4 hR4)
      clear hR4 hT4 HTk2 HV2 HT2 hr1 hr2
      cases ht : (took [46] (took [58, 45] r).2).1
      · have HX4 : Hid (rule l = .bad 2 (took [46] (took [58, 45] r).2).2) := by show _ = _; rw [HX2.out]; unfold mustTake; rw [if_neg (by rw [ht]; simp)]
        rw [ht] at HM
        clear ht HX2
        go_wp2_with fail
        refine HM.out.mono ?_
        rintro e w5 ⟨rfl, rfl⟩
        exact ⟨rfl, endsBad HX4.out HT4.out HR4.out⟩
      · have HX4 : Hid (rule l = .ok ⟨a, []⟩ (took [46] (took [58, 45] r).2).2) := by show _ = _; rw [HX2.out]; unfold mustTake; rw [if_pos ht]
        rw [ht] at HM
        clear ht HX2
        go_wp2_with fail
        refine HM.out.mono ?_
        rintro e w5 ⟨rfl, rfl⟩
        go_wp2
        refine bodyPost_ret (v := .agg #[.bool false, .string (bs a.name), .slice a1 a.terms.length c1, .slice none 0 0]) (by simp [results, Tryz.results126, go_sem, z0, z1, z2, z3]) rfl ?_
        exact ruleEnd HX4.out hno HT4.out HR4.out HV4.out (atomK.sl_nil _ _ _ _) (by omega) hlt rfl
    · have HX2 : Hid (rule l = (body (took [58, 45] r).2).next fun b r => mustTake [46] ⟨a, b⟩ r) := by show _ = _; rw [HX.out, if_pos ht]
      have HL := hide (bodyC p s _ w2 hR2)
      clear ht hR2 hT2 HTk HT1 HX HV1
      go_wp2_with fail
      refine HL.out.mono ?_
      intro e w3 hE3
      obtain ⟨hT3, ⟨bd, r3, v3, hx3, rfl, hV3, hR3⟩ | ⟨n, r3, hx3, rfl, hR3⟩⟩ := hE3.split
      · obtain ⟨a3, c3, rfl⟩ := Kind.slice hV3
        replace hr1 := hT3.row hr1 (by omega)
        replace hr2 := hT3.row hr2 (by omega)
        have hsz3 := hT3.size
        obtain ⟨y0, y1, y2, y3, g0, g1, g2, g3⟩ := row4 hr2
        have hTs : Tn (w1.heap.size) w3 (w3.setCell ⟨w1.heap.size, 3, none⟩ (.slice a3 bd.length c3)) := (Tn.refl _ w3).moved _ _
        have HTk := hide (tookC p s r3 [46] _ (hR3.turned hTs (by omega) (by omega)))
        have HV3 : Hid (atomK.sl (From w2.heap.size) (w3.setCell ⟨w1.heap.size, 3, none⟩ (.slice a3 bd.length c3)) (.slice a3 bd.length c3) bd) := Kind.sl_turned hV3 hTs (by omega)
        have HB3 : Hid (termK.sl (But (w.heap.size + 1) w1.heap.size) (w3.setCell ⟨w1.heap.size, 3, none⟩ (.slice a3 bd.length c3)) (.slice a1 a.terms.length c1) a.terms) := Kind.sl_tn (Kind.sl_tn HV2.out hT3 (by omega)) hTs (by omega)
        have HT3 := hide ((HT2.out.trans hT3).setCell (x := ⟨w1.heap.size, 3, none⟩) (Or.inr (by show w.heap.size ≤ w1.heap.size; omega)) (.slice a3 bd.length c3))
        have HX3 : Hid (rule l = mustTake [46] ⟨a, bd⟩ r3) := by show _ = _; rw [HX2.out, hx3]; rfl
        have hq1 := hTs.row hr1 (by omega)
        have q0 : (w3.setCell ⟨w1.heap.size, 3, none⟩ (.slice a3 bd.length c3)).cell? ⟨w1.heap.size, 0, none⟩ = some (.bool false) := by rw [World.cell?_setCell_other _ _ _ _ (by simp)]; exact y0
        have q1 : (w3.setCell ⟨w1.heap.size, 3, none⟩ (.slice a3 bd.length c3)).cell? ⟨w1.heap.size, 1, none⟩ = some (.string (bs a.name)) := by rw [World.cell?_setCell_other _ _ _ _ (by simp)]; exact y1
        have q2 : (w3.setCell ⟨w1.heap.size, 3, none⟩ (.slice a3 bd.length c3)).cell? ⟨w1.heap.size, 2, none⟩ = some (.slice a1 a.terms.length c1) := by rw [World.cell?_setCell_other _ _ _ _ (by simp)]; exact y2
        have q3 : (w3.setCell ⟨w1.heap.size, 3, none⟩ (.slice a3 bd.length c3)).cell? ⟨w1.heap.size, 3, none⟩ = some (.slice a3 bd.length c3) := World.cell?_setCell_same _ _ _ y3
        have hsz4 : w3.heap.size = (w3.setCell ⟨w1.heap.size, 3, none⟩ (.slice a3 bd.length c3)).heap.size := (size_setCell _ _ _).symm
        clear hx3 hE3 hV3 hR3 HL HX2 hr1 hr2 HR2 hTs y0 y1 y2 HV2 HT2 hT3
        go_wp2_with fail
        refine HTk.out.mono ?_
        rintro e w4 ⟨rfl, hR4, hT4⟩
        obtain ⟨z0, z1, z2, z3, f0, f1, f2, f3⟩ := row4 (hT4.row hq1 (by omega))
        rw [← hT4.cell (x := ⟨w1.heap.size, 0, none⟩) (by show w1.heap.size < _; omega) (by show w1.heap.size ≠ p; omega)] at q0
        rw [← hT4.cell (x := ⟨w1.heap.size, 1, none⟩) (by show w1.heap.size < _; omega) (by show w1.heap.size ≠ p; omega)] at q1
        rw [← hT4.cell (x := ⟨w1.heap.size, 2, none⟩) (by show w1.heap.size < _; omega) (by show w1.heap.size ≠ p; omega)] at q2
        rw [← hT4.cell (x := ⟨w1.heap.size, 3, none⟩) (by show w1.heap.size < _; omega) (by show w1.heap.size ≠ p; omega)] at q3
        have HV4 := hide (Kind.sl_mono (Kind.sl_turned HV3.out hT4 (by omega)) (fun k _ hB => by have : w2.heap.size ≤ k := hB; show w.heap.size + 1 ≤ k; omega : ∀ k, k < w4.heap.size → From w2.heap.size k → From (w.heap.size + 1) k))
        have HB4 := hide (Kind.sl_from (Kind.sl_tn HB3.out hT4 (by omega)))
        have HT4 := hide (HT3.out.trans hT4)
        have HR4 := hide hR4
        have HM := hide (mustC p s _ ((took [46] r3).1) w4 hR4)
        clear hR4 hT4 HTk HV3 HT3 hq1 HB3 y3
        cases ht : (took [46] r3).1
        · have HX4 : Hid (rule l = .bad 2 (took [46] r3).2) := by show _ = _; rw [HX3.out]; unfold mustTake; rw [if_neg (by rw [ht]; simp)]
          rw [ht] at HM
          clear ht HX3
          go_wp2_with fail
          refine HM.out.mono ?_
          rintro e w5 ⟨rfl, rfl⟩
          exact ⟨rfl, endsBad HX4.out HT4.out HR4.out⟩
        · have HX4 : Hid (rule l = .ok ⟨a, bd⟩ (took [46] r3).2) := by show _ = _; rw [HX3.out]; unfold mustTake; rw [if_pos ht]
          rw [ht] at HM
          clear ht HX3
          go_wp2_with fail
          refine HM.out.mono ?_
          rintro e w5 ⟨rfl, rfl⟩
          go_wp2
          refine bodyPost_ret (v := .agg #[.bool false, .string (bs a.name), .slice a1 a.terms.length c1, .slice a3 bd.length c3]) (by simp [results, Tryz.results126, go_sem, z0, z1, z2, z3]) rfl ?_
          exact ruleEnd HX4.out hno HT4.out HR4.out HB4.out HV4.out (by omega) hlt rfl
      · have hx' : rule l = .bad n r3 := by rw [HX2.out, hx3]; rfl
        exact ⟨rfl, endsBad hx' (HT2.out.trans hT3) hR3⟩
  · have hx' : rule l = .bad n r := by unfold rule; rw [hx]; rfl
    exact ⟨rfl, endsBad hx' (HA.out.trans hT) hR⟩

theorem infoRule : ∃ i, Tryz.prog.info? 43 = some i ∧ i.zero = some (.agg #[.bool false, .string ByteArray.empty, .slice none 0 0, .slice none 0 0]) ∧ i.size = 4 ∧ i.bytes = 72 := ⟨Tryz.t43, by kernel_rfl, by kernel_rfl, by kernel_rfl, by kernel_rfl⟩

theorem appendRule {lo : Nat} {w : World} {v : Value} {l : List RuleD} (h : ruleK.own 43 lo w v l) {c : List Value} {x : RuleD} (hc : ruleK.is (fun k => lo ≤ k ∧ v.ownBlock ≠ some k) w c x) (hl : l.length + 1 ≤ 1099511627776) (hlo : lo ≤ w.heap.size) :
    ∃ v' w', (Builtin.append_ #[22, 22] 22 #[v, .slice (some ⟨w.heap.size, 0, none⟩) 1 1]).run Tryz.prog (w.alloc (.cells c.toArray 43)) = .ok v' w' ∧ ruleK.own 43 lo w' v' (l ++ [x]) ∧ (w.alloc (.cells c.toArray 43)).grownBy w' v.ownBlock := by
  obtain ⟨i, i1, i2, i3, i4⟩ := infoRule
  exact Kind.own_append h Tryz.underlying22 i1 i2 i3 i4 rfl (by decide) (by decide) hc hl hlo

/-- A reader, and what only it has turned, behind an append onto a row of the call's own. -/
theorem grownRd {p : Nat} {s : ByteArray} {r : Bs} {w w2 w3 w4 : World} {o : Obj} {row : Option Nat} (hg4 : (w3.alloc o).grownBy w4 row) (hrow : ∀ k, row = some k → w.heap.size ≤ k) (hT2 : Tn p w w2) (hT3 : Tn p w2 w3) (hR3 : Rd w3 p s r) (hlt : p < w.heap.size) : Rd w4 p s r ∧ Tn p w w4 := by
  have hs2 := hT2.size
  have hs3 := hT3.size
  have hblk : ∀ k, k < w3.heap.size → k < w.heap.size → w4.heap[k]? = w3.heap[k]? := fun k hk hk' =>
    (hg4.block k (by simp; omega) (fun e => by have := hrow k e.symm; omega)).trans (Below.heap_alloc w3 _ k hk)
  have hs4 : w3.heap.size ≤ w4.heap.size := by have := hg4.size; simp at this; omega
  exact ⟨⟨hR3.short, hR3.suf, by have := hR3.lt; omega, hR3.ne,
      by rw [World.cell?_of_block (w := w3) (a := ⟨p, 0, none⟩) (hblk p hR3.lt hlt)]; exact hR3.c0, by rw [World.cell?_of_block (w := w3) (a := ⟨p, 1, none⟩) (hblk p hR3.lt hlt)]; exact hR3.c1,
      by rw [World.frozen?_of_block (w := w3) (a := ⟨p, 1, none⟩) (hblk p hR3.lt hlt)]; exact hR3.fz,
      by obtain ⟨m, e⟩ := hR3.g; exact ⟨m, by rw [World.cell?_of_block (w := w3) (a := ⟨3, 0, none⟩) (hblk 3 (by have := hR3.lt; have := hR3.ne; omega) (by have := hR3.ne; omega))]; exact e⟩⟩,
    ⟨hg4.os.trans (hT3.os.trans hT2.os), hg4.tape.trans (hT3.tape.trans hT2.tape), hg4.output.trans (hT3.output.trans hT2.output), by omega,
      fun k hk ho => (hblk k (by omega) hk).trans ((hT3.block k (by omega) ho).trans (hT2.block k hk ho))⟩⟩

theorem rulesGo_yes {n : Nat} {out : List RuleD} {l : Bs} (h : skip l ≠ []) : rulesGo (n + 1) out l = (rule (skip l)).next fun a r => rulesGo n (out ++ [a]) r := by
  conv => lhs; unfold rulesGo
  exact if_neg h

set_option maxHeartbeats 2000000 in
theorem rulesC (p : Nat) (s : ByteArray) (l : Bs) (w : World) (h : Rd w p s l) :
    Calls Tryz.prog 86 #[.pointer (some ⟨p, 0, none⟩)] w fun e w' => Ends' p s w (ruleK.sl (From w.heap.size)) (rulesGo 16 [] l) e w' := by
  have hlt := h.lt
  have H := hide h
  clear h
  go_enter Tryz.func86, Tryz.ntmps86
  go_wp2
  go_loopg [3] 16 (fun k o wr => ∃ out l', k + out.length = 16 ∧ ruleK.own 43 w.heap.size wr o out ∧ rulesGo k out l' = rulesGo 16 [] l ∧ Rd wr p s l' ∧ Tn p w wr)
  case atStart => exact ⟨[], l, rfl, ruleK.own_nil _ _ _, rfl, H.out, Tn.refl _ _⟩
  case round =>
    obtain ⟨out, l', hk, hO, hG, hR, hT⟩ := hrel
    obtain ⟨ao, co, rfl⟩ := Kind.own_slice hO
    have HO := hide hO
    have HG := hide hG
    have HC := hide (endedC p s l' wr hR)
    have HT := hide hT
    clear hO hG hR hT H
    go_wp2_with fail
    refine HC.out.mono ?_
    rintro e w2 ⟨rfl, hR2, hT2⟩
    have HR2 := hide hR2
    have HT2 := hide (HT.out.trans hT2)
    have HO2 := hide (Kind.own_turned HO.out hT2 hlt)
    by_cases ht : skip l' = []
    · have HX : Hid (rulesGo 16 [] l = .ok out []) := by show _ = _; rw [← HG.out]; exact rulesGo_end _ _ ht
      rw [decide_eq_true ht]
      have HR3 : Hid (Rd w2 p s []) := by show Rd _ _ _ _; rw [← ht]; exact hR2
      clear ht hR2 hT2 HO HC HG HT HR2
      go_wp2
      go_ret
      exact endsOk HX.out HT2.out (Kind.own_sl HO2.out (by omega)) HR3.out
    · rw [decide_eq_false ht]
      cases gk with
      | zero =>
        have HX : Hid (rulesGo 16 [] l = .bad 5 (skip l')) := by
          show _ = _; rw [← HG.out]; unfold rulesGo; rw [if_neg ht]
        have hlen : ((out.length : Int) == 16) = true := by rw [beq_iff_eq]; omega
        have HF := hide (failC p s _ 5 w2 hR2)
        clear ht hR2 hT2 HO HC HG HT
        go_wp2_with fail
        refine HF.out.mono ?_
        rintro e w3 ⟨rfl, rfl⟩
        exact ⟨rfl, endsBad HX.out HT2.out HR2.out⟩
      | succ n =>
        have HX : Hid (rulesGo 16 [] l = (rule (skip l')).next fun a r => rulesGo n (out ++ [a]) r) := by
          show _ = _; rw [← HG.out, rulesGo_yes ht]
        have hlen : ((out.length : Int) == 16) = false := by rw [beq_eq_false_iff_ne]; omega
        have HP := hide (ruleC p s _ w2 hR2)
        clear ht hR2 hT2 HO HC HG HT
        go_wp2_with fail
        refine HP.out.mono ?_
        intro e w3 hE
        obtain ⟨hT3, ⟨a', r', v, hx, rfl, ⟨c', rfl, hK3⟩, hR3⟩ | ⟨n', r', hx, rfl, hR3⟩⟩ := hE.split
        · have hO3 := Kind.own_turned HO2.out hT3 hlt
          have hsz2 := HT2.out.size
          obtain ⟨v', w4, hrun, hO4, hg4⟩ := appendRule hO3 (ruleK.mono hK3 fun k hk hB => ⟨by have : w2.heap.size ≤ k := hB; omega, fun e => by
            have h1 := (Kind.own_lt HO2.out e).2
            have h2 : w2.heap.size ≤ k := hB
            omega⟩) (by omega) (by have := hT3.size; omega)
          have HR4 := hide hrun
          have HO4 := hide hO4
          have HG4 : Hid (rulesGo n (out ++ [a']) r' = rulesGo 16 [] l) := by show _ = _; rw [HX.out, hx]; rfl
          obtain ⟨hRd, hT4⟩ := grownRd hg4 (fun k e => (Kind.own_lt HO2.out e).1) HT2.out hT3 hR3 hlt
          have HRd := hide hRd
          have HT4 := hide hT4
          obtain ⟨tv3, bv3, rfl, hts3, hbs3⟩ := hK3
          obtain ⟨ta3, tc3, rfl⟩ := Kind.slice hts3
          obtain ⟨ba3, bc3, rfl⟩ := Kind.slice hbs3
          clear hts3 hbs3 hx hE hT3 hR3 hrun hO4 hg4 hO3 hRd hT4 HR2
          go_wp2_with (at_builtin; refine wpList_append_run rfl (.tmp 14) (.tmp 17) 22 rfl _ _ _ _ rfl rfl HR4.out ?_)
          go_roundg n
          case measure => exact Nat.lt_succ_self n
          case rel => exact ⟨out ++ [a'], r', by simp; omega, HO4.out, HG4.out, HRd.out, HT4.out⟩
        · have hx' : rulesGo 16 [] l = .bad n' r' := by rw [HX.out, hx]; rfl
          exact ⟨rfl, endsBad hx' (HT2.out.trans hT3) hR3⟩

end Go.Proofs.YtbohggoeebhdmaaGreatDoor

/- The walk of check.Vars. -/
namespace Go.Proofs.YtbohggoeebhdmaaGreatDoor
open Go.RowKit Go.Sort Go.Maps

theorem appendStrC {lo : Nat} {w : World} {v : Value} {l : List Bs} (h : strK.own 9 lo w v l) {x : Bs} (hl : l.length + 1 ≤ 1099511627776) (hlo : lo ≤ w.heap.size) :
    ∃ v' w', (Builtin.append_ #[52, 52] 52 #[v, .slice (some ⟨w.heap.size, 0, none⟩) 1 1]).run Tryz.prog (w.alloc (.cells #[.string (bs x)] 9)) = .ok v' w' ∧ strK.own 9 lo w' v' (l ++ [x]) ∧ (w.alloc (.cells #[.string (bs x)] 9)).grownBy w' v.ownBlock := by
  obtain ⟨i, i1, i2, i3, i4⟩ := infoStr
  exact Kind.own_append h Tryz.underlying52 i1 i2 i3 i4 rfl (by decide) (by decide) (c := [.string (bs x)]) rfl hl hlo

theorem varsGo_step {ts : List TermD} {j : Nat} {x : TermD} (h : ts[j]? = some x) : varsGo [] (ts.take (j + 1)) = if x.1 then addNew (varsGo [] (ts.take j)) x.2 else varsGo [] (ts.take j) := by
  rw [List.take_add_one, h]
  simp [varsGo, List.foldl_append]

theorem addNew_len (l : List Bs) (s : Bs) : (addNew l s).length ≤ l.length + 1 := by unfold addNew; split <;> simp
theorem varsGo_len (ts : List TermD) : ∀ l, (varsGo l ts).length ≤ l.length + ts.length := by
  induction ts with
  | nil => intro l; simp [varsGo]
  | cons t ts ih =>
    intro l
    show (varsGo (if t.1 then addNew l t.2 else l) ts).length ≤ _
    have h0 : (if t.1 then addNew l t.2 else l).length ≤ l.length + 1 := by
      split
      · exact addNew_len l t.2
      · omega
    have h1 := ih (if t.1 then addNew l t.2 else l)
    rw [List.length_cons]; omega

theorem one_sl {w : World} {b : Nat} (x : Bs) (hb : b < w.heap.size) : strK.sl (fun k => k ≠ b) (w.alloc (.cells #[.string (bs x)] 9)) (.slice (some ⟨w.heap.size, 0, none⟩) 1 1) [x] := by
  have h := Kind.own_one (K := strK) (ty := 9) (lo := w.heap.size) (w := w) (c := [.string (bs x)]) (x := x) rfl (Nat.le_refl _)
  exact Kind.sl_mono (Kind.own_sl h (by simp)) fun k _ hk => by have : w.heap.size ≤ k := hk; omega

set_option maxRecDepth 100000 in
set_option maxHeartbeats 2000000 in
theorem varsC (a : AtomD) (v : Value) (w : World) (hv : termK.sl Anyw w v a.terms) (hn : a.terms.length ≤ 1099511627775) (hs : ∀ t ∈ a.terms, t.2.length ≤ maxLen) :
    Calls Tryz.prog 100 #[.agg #[.bool a.no, .string (bs a.name), v]] w fun e w' => ∃ u, e = .returned u ∧ strK.own 9 (w.heap.size + 2) w' u (vars a) ∧ Below w.heap.size w w' := by
  obtain ⟨sa, cap, rfl⟩ := Kind.slice hv
  have HV := hide hv
  clear hv
  obtain ⟨no, name, ts⟩ := a
  dsimp only at *
  have HS := hide hs
  clear hs
  have hmm := @run_makeMap Tryz.prog
  show Calls _ _ _ _ fun e w' => ∃ u, e = .returned u ∧ strK.own 9 (w.heap.size + 2) w' u (varsGo [] ts) ∧ _
  generalize bs name = nm
  go_enter Tryz.func100, Tryz.ntmps100
  go_wp2
  go_loopg [4, 11] ts.length (fun k o i wr => ∃ j : Nat, j + k = ts.length ∧ i = .int .i64 j ∧ Hid (NamesM wr (w.heap.size + 1) j (fun s => (varsGo [] (ts.take j)).contains s)) ∧ Hid (strK.own 9 (w.heap.size + 2) wr o (varsGo [] (ts.take j))) ∧ Hid (Below w.heap.size w wr) ∧ w.heap.size + 2 ≤ wr.heap.size)
  case atStart =>
    refine ⟨0, by omega, rfl, ?_, strK.own_nil _ _ _, ?_, by simp⟩
    · have := SetM.made Tryz.prog 9 (w.alloc (.cells #[.bool no, .string nm, .slice sa ts.length cap] 40))
      rw [World.size_alloc] at this
      exact this
    · exact (((Later.refl w).alloc _).alloc _).below
  case round =>
    obtain ⟨j, hj, rfl, HM, HO, HB, hsz⟩ := hrel
    obtain ⟨ao, co, rfl⟩ := Kind.own_slice HO.out
    by_cases hlt : j < ts.length
    · obtain ⟨x, hx⟩ : ∃ x, ts[j]? = some x := ⟨_, List.getElem?_eq_getElem hlt⟩
      obtain ⟨b1, o1, _, rfl, hb1, rfl, hc⟩ := Kind.sl_at HV.out hx
      have d0 : wr.cell? ⟨b1, o1 + j * 2, none⟩ = some (.bool x.1) := by rw [HB.out.cell hb1]; exact hc 0 _ rfl
      have d1 : wr.cell? ⟨b1, o1 + j * 2 + 1, none⟩ = some (.string (bs x.2)) := by rw [HB.out.cell hb1]; exact hc 1 _ rfl
      have hxs : x.2.length ≤ maxLen := HS.out x (List.mem_of_getElem? hx)
      have E := hide (varsGo_step hx)
      have hlen : (varsGo [] (ts.take j)).length ≤ j := by have := varsGo_len (ts.take j) []; simp at this; omega
      clear hc hx
      have hbr : b1 < wr.heap.size := by omega
      obtain ⟨x1, x2⟩ := x
      dsimp only at *
      generalize hg : varsGo [] (ts.take j) = g at *
      clear hg
      cases x1
      · have E1 : Hid (varsGo [] (ts.take (j + 1)) = g) := E.out
        clear E
        generalize bs x2 = kx at *
        go_wp2
        go_roundg (ts.length - (j + 1))
        case measure => omega
        case rel =>
          refine ⟨j + 1, by omega, by go_num, ?_, ?_, ?_, by simp; omega⟩
          · show NamesM _ _ _ _
            rw [E1.out]
            exact (HM.out.later ((Later.refl _).alloc _)).mono (by omega)
          · show strK.own _ _ _ _ _
            rw [E1.out]
            exact Kind.own_turned HO.out ((Tn.refl 0 _).alloc _) (by omega)
          · exact HB.out.alloc HB.out.size _
      · have E1 : Hid (varsGo [] (ts.take (j + 1)) = addNew g x2) := E.out
        clear E
        have HC : Hid (Calls Tryz.prog 136 #[.map (some (w.heap.size + 1)), .string (bs x2)] (wr.alloc (.cells #[.bool true, .string (bs x2)] 101)) fun e w' => e = .returned (.bool (g.contains x2)) ∧ Later (wr.alloc (.cells #[.bool true, .string (bs x2)] 101)) w') := hasC _ _ _ x2 _ (HM.out.later ((Later.refl _).alloc _)) hxs
        have HZ : Hid (∀ w2, Later (wr.alloc (.cells #[.bool true, .string (bs x2)] 101)) w2 → w2.cell? ⟨wr.heap.size, 1, none⟩ = some (.string (bs x2)) ∧ wr.heap.size < w2.heap.size) := fun w2 hL => by
          refine ⟨?_, by have := hL.size; simp at this; omega⟩
          rw [hL.cell (by simp)]; simp
        cases hcx : g.contains x2
        · have E2 : Hid (varsGo [] (ts.take (j + 1)) = g ++ [x2]) := by show _ = _; rw [E1.out]; unfold addNew; rw [hcx]; rfl
          rw [hcx] at HC
          have HA : Hid (∀ w2, Later (wr.alloc (.cells #[.bool true, .string (bs x2)] 101)) w2 → Calls Tryz.prog 135 #[.map (some (w.heap.size + 1)), .slice (some ⟨w2.heap.size, 0, none⟩) 1 1] (w2.alloc (.cells #[.string (bs x2)] 9))
              fun e w3 => e = .returned (.tuple #[]) ∧ NamesM w3 (w.heap.size + 1) (j + 1) (fun s => (g ++ [x2]).contains s) ∧ Tn (w.heap.size + 1) w2 w3 ∧ w2.heap.size < w3.heap.size) := fun w2 hL => by
            have hs2 := hL.size
            simp only [World.size_alloc] at hs2
            have hm := HM.out.later (((Later.refl _).alloc _).trans hL)
            refine (addC _ _ _ _ [x2] _ (hm.later ((Later.refl _).alloc _)) (one_sl x2 (by omega)) (by simp [maxLen]; omega) (by simpa using hxs)).mono fun e w3 ⟨he, h1, h2⟩ => ⟨he, h1.congr fun s => by simp, ((Tn.refl _ _).alloc _).trans h2, by have := h2.size; simp at this; omega⟩
          have HP : Hid (∀ w2 w3, Later (wr.alloc (.cells #[.bool true, .string (bs x2)] 101)) w2 → Tn (w.heap.size + 1) w2 w3 → w2.heap.size < w3.heap.size → NamesM w3 (w.heap.size + 1) (j + 1) (fun s => (g ++ [x2]).contains s) → w3.cell? ⟨wr.heap.size, 1, none⟩ = some (.string (bs x2)) ∧ wr.heap.size < w3.heap.size ∧
              ∃ v' w4, (Builtin.append_ #[52, 52] 52 #[.slice ao g.length co, .slice (some ⟨w3.heap.size, 0, none⟩) 1 1]).run Tryz.prog (w3.alloc (.cells #[.string (bs x2)] 9)) = .ok v' w4 ∧ Hid (NamesM w4 (w.heap.size + 1) (j + 1) (fun s => (g ++ [x2]).contains s)) ∧ Hid (strK.own 9 (w.heap.size + 2) w4 v' (g ++ [x2])) ∧ Hid (Below w.heap.size w w4) ∧ w.heap.size + 2 ≤ w4.heap.size) := fun w2 w3 hL hT h23 hm => by
            have hs2 := hL.size
            simp only [World.size_alloc] at hs2
            have hO2 := Kind.own_turned HO.out (Tn.of_below (p := 0) (((Later.refl _).alloc _).trans hL).below) (by omega)
            have hO3 := Kind.own_turned hO2 hT (by omega)
            have hB3 : Below w.heap.size w w3 := below_trans (below_trans HB.out (((Later.refl wr).alloc _).trans hL).below HB.out.size) (hT.below (n := w.heap.size) (by omega) (by omega)) (Nat.le_refl _)
            obtain ⟨v', w4, hrun, o4, g4⟩ := appendStrC hO3 (x := x2) (by omega) (by omega)
            have hs4 := g4.size
            simp only [World.size_alloc] at hs4
            refine ⟨?_, by omega, v', w4, hrun, ?_, o4, ?_, by omega⟩
            · rw [hT.cell (by show wr.heap.size < _; omega) (by show wr.heap.size ≠ _; omega)]
              exact (HZ.out w2 hL).1
            · refine (hm.later ((Later.refl _).alloc _)).grown g4 (fun e => ?_)
              have := (Kind.own_lt hO3 e.symm).1
              omega
            · refine below_trans (hB3.alloc hB3.size _) ⟨g4.os, g4.tape, g4.output, g4.size, fun k hk => g4.block k (by simp; omega) (fun e => ?_)⟩ (Nat.le_refl _)
              have := (Kind.own_lt hO3 e.symm).1
              omega
          clear E1 HM HO HB hxs hcx
          generalize bs x2 = kx at *
          go_wp2_with (first
            | (go_at_call 136; refine HC.out.mono ?_; rintro e w2 ⟨rfl, hL⟩; obtain ⟨z2, h2s⟩ := HZ.out w2 hL; replace hL := hide hL)
            | (go_at_call 135; refine (HA.out w2 (unhide hL)).mono ?_; rintro e w3 ⟨rfl, hm3, hT3, h23⟩; obtain ⟨z3, h3s, v', w4, hrun, hN4, hO4, hB4, h4s⟩ := HP.out w2 w3 (unhide hL) hT3 h23 hm3; replace hrun := hide hrun; clear hm3 hT3)
            | (at_builtin; refine wpList_append_run rfl (.tmp 29) (.tmp 32) 52 rfl _ _ _ _ rfl rfl (unhide hrun) ?_))
          go_roundg (ts.length - (j + 1))
          case measure => omega
          case rel =>
            refine ⟨j + 1, by omega, by go_num, ?_, ?_, hB4, h4s⟩
            · show NamesM _ _ _ _
              rw [E2.out]; exact hN4.out
            · show strK.own _ _ _ _ _
              rw [E2.out]; exact hO4.out
        · have E2 : Hid (varsGo [] (ts.take (j + 1)) = g) := by show _ = _; rw [E1.out]; unfold addNew; rw [hcx]; rfl
          rw [hcx] at HC
          clear E1 hxs hcx
          generalize bs x2 = kx at *
          go_wp2_with (first
            | (go_at_call 136; refine HC.out.mono ?_; rintro e w2 ⟨rfl, hL⟩; obtain ⟨z2, h2s⟩ := HZ.out w2 hL; replace hL := hide hL))
          go_roundg (ts.length - (j + 1))
          case measure => omega
          case rel =>
            have hLL := ((Later.refl wr).alloc (.cells #[.bool true, .string kx] 101)).trans (unhide hL)
            refine ⟨j + 1, by omega, by go_num, ?_, ?_, ?_, by omega⟩
            · show NamesM _ _ _ _
              rw [E2.out]
              exact (HM.out.later hLL).mono (by omega)
            · show strK.own _ _ _ _ _
              rw [E2.out]
              exact Kind.own_turned HO.out (Tn.of_below (p := 0) hLL.below) (by omega)
            · exact below_trans HB.out hLL.below HB.out.size
    · have e : j = ts.length := by omega
      subst e
      have HO2 : Hid (strK.own 9 (w.heap.size + 2) wr (.slice ao (varsGo [] (ts.take ts.length)).length co) (varsGo [] ts)) := by have := HO.out; rw [List.take_length] at this ⊢; exact this
      go_wp2
      go_ret
      exact ⟨_, rfl, HO2.out, HB.out⟩

end Go.Proofs.YtbohggoeebhdmaaGreatDoor

/- The walks of check.givenBy and check.Body. -/
namespace Go.Proofs.YtbohggoeebhdmaaGreatDoor
open Go.RowKit Go.Sort Go.Maps

/-- What is right with an atom with which nothing is wrong. -/
theorem wrongAtom_zero {a : AtomD} (h : wrongAtom a = 0) : a.name.length ≤ 12 ∧ a.terms.length ≤ 4 ∧ ∀ t ∈ a.terms, t.2.length ≤ 12 := by
  unfold wrongAtom at h
  split at h
  · cases h
  · rename_i h0
    split at h
    · cases h
    · rename_i h1
      split at h
      · cases h
      · rename_i h2
        refine ⟨?_, by omega, fun t ht => ?_⟩
        · have : isNamed a.name = true := by simpa using h0
          unfold isNamed at this
          simp at this
          exact this.1.1
        · have h3 : wrongTerm t = false := by
            cases hc : wrongTerm t with
            | false => rfl
            | true => exact absurd (List.any_eq_true.2 ⟨t, ht, hc⟩) h2
          unfold wrongTerm at h3
          split at h3
          · have : isVar t.2 = true := by simpa using h3
            unfold isVar at this
            simp at this
            exact this.1.1
          · have : isNamed t.2 = true := by simpa using h3
            unfold isNamed at this
            simp at this
            exact this.1.1

theorem short_max {s : Bs} (h : s.length ≤ 12) : s.length ≤ maxLen := by simp [maxLen]; omega

theorem givenBy_step {l : List AtomD} {j : Nat} {a : AtomD} (h : l[j]? = some a) (s : Bs) : givenBy (l.take (j + 1)) s = (givenBy (l.take j) s || (!a.no && (vars a).contains s)) := by
  rw [List.take_add_one, h]
  simp [givenBy]

theorem vars_le (a : AtomD) : (vars a).length ≤ a.terms.length := by have := varsGo_len a.terms []; simpa [vars] using this
theorem vars_mem (a : AtomD) : ∀ s ∈ vars a, ∃ t ∈ a.terms, t.2 = s := by
  have : ∀ (ts : List TermD) (l : List Bs), (∀ s ∈ l, ∃ t ∈ a.terms, t.2 = s) → (∀ t ∈ ts, t ∈ a.terms) → ∀ s ∈ varsGo l ts, ∃ t ∈ a.terms, t.2 = s := by
    intro ts
    induction ts with
    | nil => intro l h _; exact h
    | cons t ts ih =>
      intro l h hsub
      refine ih _ (fun s hs0 => ?_) (fun u hu => hsub u (by simp [hu]))
      have hs : s ∈ (if t.1 then addNew l t.2 else l) := hs0
      clear hs0
      split at hs
      · unfold addNew at hs
        split at hs
        · exact h s hs
        · rcases List.mem_append.1 hs with hs | hs
          · exact h s hs
          · simp at hs; exact ⟨t, hsub t (by simp), hs.symm⟩
      · exact h s hs
  exact this a.terms [] (by simp) (fun t h => h)

set_option maxRecDepth 100000 in
set_option maxHeartbeats 2000000 in
theorem givenByC (l : List AtomD) (v : Value) (w : World) (hv : atomK.sl Anyw w v l) (hf : ∀ a ∈ l, wrongAtom a = 0) (hl : l.length ≤ 5) :
    Calls Tryz.prog 98 #[v] w fun e w' => e = .returned (.map (some w.heap.size)) ∧ NamesM w' w.heap.size 20 (givenBy l) ∧ Below w.heap.size w w' := by
  obtain ⟨sa, cap, rfl⟩ := Kind.slice hv
  have HV := hide hv
  clear hv
  have HF := hide hf
  clear hf
  have hmm := @run_makeMap Tryz.prog
  go_enter Tryz.func98, Tryz.ntmps98
  go_wp2
  go_loopg [9] l.length (fun k i wr => ∃ j : Nat, j + k = l.length ∧ i = .int .i64 j ∧ Hid (NamesM wr w.heap.size (4 * j) (givenBy (l.take j))) ∧ Hid (Below w.heap.size w wr) ∧ w.heap.size + 1 ≤ wr.heap.size)
  case atStart => exact ⟨0, by omega, rfl, SetM.made Tryz.prog 9 w, ((Later.refl w).alloc _).below, by simp⟩
  case round =>
    obtain ⟨j, hj, rfl, HM, HB, hsz⟩ := hrel
    by_cases hlt : j < l.length
    · obtain ⟨x, hx⟩ : ∃ x, l[j]? = some x := ⟨_, List.getElem?_eq_getElem hlt⟩
      obtain ⟨b1, o1, _, rfl, hb1, ⟨sv, rfl, hsv⟩, hc⟩ := Kind.sl_at HV.out hx
      have d0 : wr.cell? ⟨b1, o1 + j * 3, none⟩ = some (.bool x.no) := by rw [HB.out.cell hb1]; exact hc 0 _ rfl
      have d1 : wr.cell? ⟨b1, o1 + j * 3 + 1, none⟩ = some (.string (bs x.name)) := by rw [HB.out.cell hb1]; exact hc 1 _ rfl
      have d2 : wr.cell? ⟨b1, o1 + j * 3 + 2, none⟩ = some sv := by rw [HB.out.cell hb1]; exact hc 2 _ rfl
      obtain ⟨fn, ft, fs⟩ := wrongAtom_zero (HF.out x (List.mem_of_getElem? hx))
      have E := hide (givenBy_step hx)
      have hbr : b1 < wr.heap.size := by omega
      have hj5 : j < 5 := by omega
      clear hc hx
      cases hno : x.no
      · have HC : Hid (Calls Tryz.prog 100 #[.agg #[.bool false, .string (bs x.name), sv]] (wr.alloc (.cells #[.bool false, .string (bs x.name), sv] 40)) fun e w2 => ∃ u, e = .returned u ∧
            Hid (strK.sl (fun k => k ≠ w.heap.size) w2 u (vars x)) ∧ Hid (NamesM w2 w.heap.size (4 * j) (givenBy (l.take j))) ∧ Hid (Below w.heap.size w w2) ∧ w.heap.size + 1 ≤ w2.heap.size) := by
          have hB1 : Below w.heap.size w (wr.alloc (.cells #[.bool false, .string (bs x.name), sv] 40)) := HB.out.alloc HB.out.size _
          have := varsC x sv (wr.alloc (.cells #[.bool false, .string (bs x.name), sv] 40)) (Kind.sl_below hsv hB1) (by omega) (fun t ht => short_max (fs t ht))
          rw [hno] at this
          refine this.mono fun e w2 ⟨u, he, ho, hb⟩ => ⟨u, he, ?_, ?_, ?_, ?_⟩
          · refine Kind.sl_mono (Kind.own_sl ho (by have := vars_le x; omega)) fun k _ hk => ?_
            have : _ ≤ k := hk
            simp only [World.size_alloc] at this
            omega
          · exact (HM.out.later ((Later.refl _).alloc _)).below hb
          · exact below_trans hB1 hb (by simp; omega)
          · have := hb.size; simp at this; omega
        have HA : Hid (∀ w2 u, Hid (strK.sl (fun k => k ≠ w.heap.size) w2 u (vars x)) → Hid (NamesM w2 w.heap.size (4 * j) (givenBy (l.take j))) → Hid (Below w.heap.size w w2) → w.heap.size + 1 ≤ w2.heap.size → Calls Tryz.prog 135 #[.map (some w.heap.size), u] w2 fun e w3 => e = .returned (.tuple #[]) ∧
            Hid (NamesM w3 w.heap.size (4 * (j + 1)) (givenBy (l.take (j + 1)))) ∧ Hid (Below w.heap.size w w3) ∧ w.heap.size + 1 ≤ w3.heap.size) := fun w2 u h1 h2 h3 h4 => by
          have hvl := vars_le x
          refine (addC _ _ _ u (vars x) w2 h2.out h1.out (by simp [maxLen]; omega) (fun s hs => by obtain ⟨t, ht, rfl⟩ := vars_mem x s hs; exact short_max (fs t ht))).mono fun e w3 ⟨he, k1, k2⟩ => ⟨he, ?_, ?_, ?_⟩
          · exact (k1.mono (by omega)).congr fun s => by rw [E.out s, hno]; simp
          · exact below_trans h3.out (k2.below (n := w.heap.size) (Nat.le_refl _) (by omega)) (Nat.le_refl _)
          · have := k2.size; omega
        rw [hno] at d0
        obtain ⟨a2, c2, rfl⟩ := Kind.slice hsv
        clear hsv E HM HB fs hno
        generalize bs x.name = nm at *
        go_wp2_with (first
          | (go_at_call 100; refine HC.out.mono ?_; rintro e w2 ⟨u, rfl, h1, h2, h3, h4⟩)
          | (go_at_call 135; refine (HA.out w2 u h1 h2 h3 h4).mono ?_; rintro e w3 ⟨rfl, k1, k2, k3⟩))
        go_roundg (l.length - (j + 1))
        case measure => omega
        case rel => exact ⟨j + 1, by omega, by go_num, k1, k2, k3⟩
      · have E1 : Hid (∀ s, givenBy (l.take (j + 1)) s = givenBy (l.take j) s) := fun s => by rw [E.out s, hno]; simp
        rw [hno] at d0
        obtain ⟨a2, c2, rfl⟩ := Kind.slice hsv
        clear hsv E fs hno
        generalize bs x.name = nm at *
        go_wp2
        go_roundg (l.length - (j + 1))
        case measure => omega
        case rel => exact ⟨j + 1, by omega, by go_num, ((HM.out.later ((Later.refl _).alloc _)).mono (by omega)).congr fun s => (E1.out s).symm, HB.out.alloc HB.out.size _, by simp; omega⟩
    · have e : j = l.length := by omega
      subst e
      have HM2 : Hid (NamesM wr w.heap.size 20 (givenBy l)) := by have := HM.out; rw [List.take_length] at this; exact this.mono (by omega)
      go_wp2
      go_ret
      exact ⟨rfl, HM2.out, HB.out⟩

theorem wrongAtoms_step {l : List AtomD} {j : Nat} {a : AtomD} (h : l[j]? = some a) : wrongAtoms (l.drop j) = if wrongAtom a = 0 then wrongAtoms (l.drop (j + 1)) else wrongAtom a := by
  obtain ⟨h1, e1⟩ := List.getElem?_eq_some_iff.1 h
  rw [List.drop_eq_getElem_cons h1, e1]; rfl

set_option maxRecDepth 100000 in
set_option maxHeartbeats 4000000 in
theorem chkBodyC (l : List AtomD) (v : Value) (w : World) (hv : atomK.sl Anyw w v l) :
    Calls Tryz.prog 97 #[v] w fun e w' => e = .returned (.int .i64 (wrongBody l)) ∧ Below w.heap.size w w' := by
  obtain ⟨sa, cap, rfl⟩ := Kind.slice hv
  have hl0 := hv.1.1
  have HV := hide hv
  clear hv
  by_cases h5 : 5 < l.length
  · have F : Hid (wrongBody l = 5) := by show _ = _; unfold wrongBody; rw [if_pos h5]
    go_enter Tryz.func97, Tryz.ntmps97
    go_wp2
    go_ret
    exact ⟨by rw [F.out]; rfl, Below.refl _ _⟩
  · have F : Hid (wrongBody l = if wrongAtoms l = 0 then (if l.all (fun a => (vars a).all (givenBy l)) then 0 else 9) else wrongAtoms l) := by show _ = _; unfold wrongBody; rw [if_neg h5]
    go_enter Tryz.func97, Tryz.ntmps97
    go_wp2
    go_loopg [14] l.length (fun k i wr => ∃ j : Nat, j + k = l.length ∧ i = .int .i64 j ∧ Hid (wrongAtoms l = wrongAtoms (l.drop j)) ∧ Hid (∀ a ∈ l.take j, wrongAtom a = 0) ∧ Hid (Below w.heap.size w wr))
    case atStart => exact ⟨0, by omega, rfl, (rfl : _ = _), (fun a ha => by simp at ha), Below.refl _ _⟩
    case round =>
      obtain ⟨j, hj, rfl, HE, HG, HB⟩ := hrel
      have hwr := HB.out.size
      by_cases hlt : j < l.length
      · obtain ⟨x, hx⟩ : ∃ x, l[j]? = some x := ⟨_, List.getElem?_eq_getElem hlt⟩
        obtain ⟨b1, o1, _, rfl, hb1, ⟨sv, rfl, hsv⟩, hc⟩ := Kind.sl_at HV.out hx
        have d0 : wr.cell? ⟨b1, o1 + j * 3, none⟩ = some (.bool x.no) := by rw [HB.out.cell hb1]; exact hc 0 _ rfl
        have d1 : wr.cell? ⟨b1, o1 + j * 3 + 1, none⟩ = some (.string (bs x.name)) := by rw [HB.out.cell hb1]; exact hc 1 _ rfl
        have d2 : wr.cell? ⟨b1, o1 + j * 3 + 2, none⟩ = some sv := by rw [HB.out.cell hb1]; exact hc 2 _ rfl
        have hbr : b1 < wr.heap.size := by omega
        have hB1 : Below w.heap.size w (wr.alloc (.cells #[.bool x.no, .string (bs x.name), sv] 40)) := HB.out.alloc HB.out.size _
        have HC : Hid (Calls Tryz.prog 96 #[.agg #[.bool x.no, .string (bs x.name), sv]] (wr.alloc (.cells #[.bool x.no, .string (bs x.name), sv] 40)) fun e w2 => e = .returned (.int .i64 (wrongAtom x)) ∧ Hid (Below w.heap.size w w2)) :=
          (wrongAtomC x sv _ (Kind.sl_below hsv hB1)).mono fun e w2 ⟨he, hL⟩ => ⟨he, below_trans hB1 hL.below (by simp; omega)⟩
        have hst := wrongAtoms_step hx
        obtain ⟨a2, c2, rfl⟩ := Kind.slice hsv
        by_cases h0 : wrongAtom x = 0
        · have HE1 : Hid (wrongAtoms l = wrongAtoms (l.drop (j + 1))) := by show _ = _; rw [HE.out, hst, if_pos h0]
          have HG1 : Hid (∀ a ∈ l.take (j + 1), wrongAtom a = 0) := fun a ha => by
            rw [List.take_add_one, hx] at ha
            rcases List.mem_append.1 ha with ha | ha
            · exact HG.out a ha
            · simp at ha; rw [ha]; exact h0
          rw [h0] at HC
          clear hst hc hx hsv hB1 HE HG h0
          generalize bs x.name = nm at *
          generalize x.no = xn at *
          go_wp2_with (go_at_call 96; refine HC.out.mono ?_; rintro e w2 ⟨rfl, hB2⟩)
          go_roundg (l.length - (j + 1))
          case measure => omega
          case rel => exact ⟨j + 1, by omega, by go_num, HE1, HG1, hB2⟩
        · have F2 : Hid (wrongBody l = wrongAtom x) := by show _ = _; rw [F.out, HE.out, hst, if_neg h0, if_neg h0]
          have hq : (wrongAtom x != 0) = true := by simpa using h0
          clear hst hc hx hsv hB1 HE HG h0
          generalize bs x.name = nm at *
          generalize x.no = xn at *
          generalize wrongAtom x = ex at *
          go_wp2_with (go_at_call 96; refine HC.out.mono ?_; rintro e w2 ⟨rfl, hB2⟩)
          go_ret
          exact ⟨by rw [F2.out]; rfl, hB2.out⟩
      · have e : j = l.length := by omega
        subst e
        have HG1 : Hid (∀ a ∈ l, wrongAtom a = 0) := by have := HG.out; rw [List.take_length] at this; exact this
        have F1 : Hid (wrongBody l = if l.all (fun a => (vars a).all (givenBy l)) then 0 else 9) := by
          show _ = _
          rw [F.out, if_pos]
          rw [HE.out, List.drop_length]; rfl
        have HGB : Hid (Calls Tryz.prog 98 #[.slice sa l.length cap] wr fun e w' => e = .returned (.map (some wr.heap.size)) ∧ Hid (NamesM w' wr.heap.size 20 (givenBy l)) ∧ Hid (Below w.heap.size w w') ∧ Hid (Below wr.heap.size wr w')) :=
          (givenByC l _ wr (Kind.sl_below HV.out HB.out) HG1.out (by omega)).mono fun e w' ⟨he, h1, h2⟩ => ⟨he, h1, below_trans HB.out h2 hwr, h2⟩
        clear HE HG HB F
        generalize hgb : givenBy l = gb at *
        clear hgb
        generalize hbk : wr.heap.size = bk at *
        clear hbk
        go_wp2_with (go_at_call 98; refine HGB.out.mono ?_; rintro e w3 ⟨rfl, hM3, hB3, _⟩)
        go_loopg [28] l.length (fun k i wr => ∃ j : Nat, j + k = l.length ∧ i = .int .i64 j ∧ Hid (NamesM wr bk 20 gb) ∧ Hid (l.all (fun a => (vars a).all gb) = (l.drop j).all (fun a => (vars a).all gb)) ∧ Hid (Below w.heap.size w wr))
        case atStart => exact ⟨0, by omega, rfl, hM3, (rfl : _ = _), hB3⟩
        case round =>
          obtain ⟨j, hj, rfl, HM, HF, HB⟩ := hrel
          have hwr := HB.out.size
          by_cases hlt : j < l.length
          · obtain ⟨x, hx⟩ : ∃ x, l[j]? = some x := ⟨_, List.getElem?_eq_getElem hlt⟩
            obtain ⟨b1, o1, _, rfl, hb1, ⟨sv, rfl, hsv⟩, hc⟩ := Kind.sl_at HV.out hx
            have d0 : wr.cell? ⟨b1, o1 + j * 3, none⟩ = some (.bool x.no) := by rw [HB.out.cell hb1]; exact hc 0 _ rfl
            have d1 : wr.cell? ⟨b1, o1 + j * 3 + 1, none⟩ = some (.string (bs x.name)) := by rw [HB.out.cell hb1]; exact hc 1 _ rfl
            have d2 : wr.cell? ⟨b1, o1 + j * 3 + 2, none⟩ = some sv := by rw [HB.out.cell hb1]; exact hc 2 _ rfl
            obtain ⟨fn, ft, fs⟩ := wrongAtom_zero (HG1.out x (List.mem_of_getElem? hx))
            have hbr : b1 < wr.heap.size := by omega
            have hB1 : Below w.heap.size w (wr.alloc (.cells #[.bool x.no, .string (bs x.name), sv] 40)) := HB.out.alloc HB.out.size _
            have HC : Hid (Calls Tryz.prog 100 #[.agg #[.bool x.no, .string (bs x.name), sv]] (wr.alloc (.cells #[.bool x.no, .string (bs x.name), sv] 40)) fun e w2 => ∃ u, e = .returned u ∧
                Hid (strK.sl Anyw w2 u (vars x)) ∧ Hid (NamesM w2 bk 20 gb) ∧ Hid (Below w.heap.size w w2)) :=
              (varsC x sv _ (Kind.sl_below hsv hB1) (by omega) (fun t ht => short_max (fs t ht))).mono fun e w2 ⟨u, he, ho, hb⟩ => ⟨u, he, Kind.sl_any (Kind.own_sl ho (by have := vars_le x; omega)), (HM.out.later ((Later.refl _).alloc _)).below hb, below_trans hB1 hb (by simp; omega)⟩
            have HA : Hid (∀ w2 u, Hid (strK.sl Anyw w2 u (vars x)) → Hid (NamesM w2 bk 20 gb) → Hid (Below w.heap.size w w2) → Calls Tryz.prog 99 #[.map (some bk), u] w2 fun e w3 => e = .returned (.bool ((vars x).all gb)) ∧
                Hid (NamesM w3 bk 20 gb) ∧ Hid (Below w.heap.size w w3)) := fun w2 u h1 h2 h3 =>
              (hasAllC _ _ _ u (vars x) w2 h2.out h1.out (fun s hs => by obtain ⟨t, ht, rfl⟩ := vars_mem x s hs; exact short_max (fs t ht))).mono fun e w3 ⟨he, hL⟩ => ⟨he, h2.out.later hL, below_trans h3.out hL.below h3.out.size⟩
            have hst := all_step hx (fun a => (vars a).all gb)
            obtain ⟨a2, c2, rfl⟩ := Kind.slice hsv
            generalize hvx : (vars x).all gb = vx at *
            cases vx
            · have F2 : Hid (wrongBody l = 9) := by show _ = _; rw [F1.out, HF.out, hst]; rfl
              clear hst hc hx hsv hB1 HM HF hvx F1 fs
              generalize bs x.name = nm at *
              generalize x.no = xn at *
              go_wp2_with (first
                | (go_at_call 100; refine HC.out.mono ?_; rintro e w4 ⟨u, rfl, h1, h2, h3⟩)
                | (go_at_call 99; refine (HA.out w4 u h1 h2 h3).mono ?_; rintro e w5 ⟨rfl, k1, k2⟩))
              go_ret
              exact ⟨by rw [F2.out]; rfl, k2.out⟩
            · have HF1 : Hid (l.all (fun a => (vars a).all gb) = (l.drop (j + 1)).all (fun a => (vars a).all gb)) := by show _ = _; rw [HF.out, hst]; rfl
              clear hst hc hx hsv hB1 HM HF hvx fs
              generalize bs x.name = nm at *
              generalize x.no = xn at *
              go_wp2_with (first
                | (go_at_call 100; refine HC.out.mono ?_; rintro e w4 ⟨u, rfl, h1, h2, h3⟩)
                | (go_at_call 99; refine (HA.out w4 u h1 h2 h3).mono ?_; rintro e w5 ⟨rfl, k1, k2⟩))
              go_roundg (l.length - (j + 1))
              case measure => omega
              case rel => exact ⟨j + 1, by omega, by go_num, k1, HF1, k2⟩
          · have F2 : Hid (wrongBody l = 0) := by show _ = _; rw [F1.out, HF.out, List.drop_eq_nil_of_le (by omega)]; rfl
            go_wp2
            go_ret
            exact ⟨by rw [F2.out]; rfl, HB.out⟩

end Go.Proofs.YtbohggoeebhdmaaGreatDoor

/- The walks of match.source, its closure, and match.met. -/
namespace Go.Proofs.YtbohggoeebhdmaaGreatDoor
open Go.RowKit Go.Sort Go.Maps

theorem Strs.below {w w' : World} {v : Value} {l : List ByteArray} (h : Strs w v l) (k : Below w.heap.size w w') : Strs w' v l := by
  obtain ⟨h0, a, cap, rfl, h1⟩ := h
  refine ⟨h0, a, cap, rfl, fun hl => ?_⟩
  obtain ⟨b, off, rfl, hb, hc⟩ := h1 hl
  exact ⟨b, off, rfl, Nat.lt_of_lt_of_le hb k.size, fun i hi => by rw [k.cell (p := ⟨b, off + i, none⟩) hb]; exact hc i hi⟩

theorem Facts.below {w w' : World} {v : Value} {l : List FactD} (h : Facts w v l) (k : Below w.heap.size w w') : Facts w' v l := by
  obtain ⟨h0, a, cap, rfl, h1⟩ := h
  refine ⟨h0, a, cap, rfl, fun hl => ?_⟩
  obtain ⟨b, off, rfl, hb, hc⟩ := h1 hl
  refine ⟨b, off, rfl, Nat.lt_of_lt_of_le hb k.size, fun i hi => ?_⟩
  obtain ⟨c1, s, c2, c3⟩ := hc i hi
  exact ⟨by rw [k.cell (p := ⟨b, off + i * 2, none⟩) hb]; exact c1, s, by rw [k.cell (p := ⟨b, off + i * 2 + 1, none⟩) hb]; exact c2, c3.below k⟩

/-- Of which facts an atom is met. -/
def pickB (fs : List FactD) (at_ : Int) (os : List FactD) : Nat → List FactD := fun n => if (n : Int) = at_ then os else fs

/-- What is asked of the closure that tells it: in whatever world leaves all below n as it was. -/
def Picks (g : Nat) (cb : Array Value) (pick : Nat → List FactD) (n : Nat) (w0 : World) : Prop := ∀ (W : World) (k : Nat), Below n w0 W → (k : Int) ≤ 100 →
  Calls Tryz.prog g (#[.int .i64 k] ++ cb) W fun e w' => ∃ v, e = .returned v ∧ Facts w' v (pick k) ∧ Later W w'

theorem Picks.below {g : Nat} {cb : Array Value} {pick : Nat → List FactD} {n m : Nat} {a b : World} (h : Picks g cb pick n a) (k : Below n a b) (hm : n ≤ m) : Picks g cb pick m b := fun W i hW hi => h W i (below_trans k hW hm) hi

theorem enters_source1 : ∀ args w, (callFunc 137 args).run Tryz.prog w = .ok (.enter 137 args) w := enters_of Tryz.func137 (by kernel_rfl) rfl

set_option maxHeartbeats 400000 in
theorem sourceC (fv ov : Value) (fs os : List FactD) (at_ : Int) (w : World) (hf : Facts w fv fs) (ho : Facts w ov os) :
    Calls Tryz.prog 103 #[fv, .int .i64 at_, ov] w fun e w' => e = .returned (.func (.func 137) #[] #[.pointer (some ⟨w.heap.size + 1, 0, none⟩), .pointer (some ⟨w.heap.size + 2, 0, none⟩), .pointer (some ⟨w.heap.size, 0, none⟩)]) ∧ Later w w' ∧ w'.heap.size = w.heap.size + 3 ∧
      w'.cell? ⟨w.heap.size, 0, none⟩ = some fv ∧ w'.cell? ⟨w.heap.size + 1, 0, none⟩ = some (.int .i64 at_) ∧ w'.cell? ⟨w.heap.size + 2, 0, none⟩ = some ov := by
  obtain ⟨fa, capf, rfl⟩ := sliceFacts hf
  obtain ⟨oa, capo, rfl⟩ := sliceFacts ho
  clear hf ho
  go_enter Tryz.func103, Tryz.ntmps103
  go_wp2
  go_ret
  refine ⟨rfl, (by repeat (first | exact Later.refl _ | assumption | refine Later.drewN ?_ _ | refine Later.drew ?_ | refine Later.alloc ?_ _ | refine Later.grow ?_ _)), by simp, (row1 (t := 24) ?_).1, (row1 (t := 3) ?_).1, (row1 (t := 24) ?_).1⟩
  all_goals
    simp only [heap_at, World.size_alloc]
    repeat (first | rw [if_pos trivial] | rw [if_pos (by omega)] | rw [if_neg (by omega)])

set_option maxHeartbeats 1000000 in
theorem source1C (c0 c1 c2 : Nat) (fv ov : Value) (fs os : List FactD) (at_ : Int) (n : Nat) (w0 : World) (hf : Facts w0 fv fs) (ho : Facts w0 ov os) (h0 : w0.cell? ⟨c0, 0, none⟩ = some fv) (h1 : w0.cell? ⟨c1, 0, none⟩ = some (.int .i64 at_)) (h2 : w0.cell? ⟨c2, 0, none⟩ = some ov) (b0 : c0 < n) (b1 : c1 < n) (b2 : c2 < n) (hn : n = w0.heap.size) :
    Picks 137 #[.pointer (some ⟨c1, 0, none⟩), .pointer (some ⟨c2, 0, none⟩), .pointer (some ⟨c0, 0, none⟩)] (pickB fs at_ os) n w0 := by
  intro W k hW hk
  have hW' : Below w0.heap.size w0 W := by rw [← hn]; exact hW
  have z0 : W.cell? ⟨c0, 0, none⟩ = some fv := by rw [hW.cell b0]; exact h0
  have z1 : W.cell? ⟨c1, 0, none⟩ = some (.int .i64 at_) := by rw [hW.cell b1]; exact h1
  have z2 : W.cell? ⟨c2, 0, none⟩ = some ov := by rw [hW.cell b2]; exact h2
  have HF := hide (hf.below hW')
  have HO := hide (ho.below hW')
  obtain ⟨fa, capf, rfl⟩ := sliceFacts hf
  obtain ⟨oa, capo, rfl⟩ := sliceFacts ho
  have s0 : c0 < W.heap.size := by have := hW.size; omega
  have s1 : c1 < W.heap.size := by have := hW.size; omega
  have s2 : c2 < W.heap.size := by have := hW.size; omega
  clear hf ho h0 h1 h2 hW' hW
  unfold pickB
  show Calls _ _ #[.int .i64 k, .pointer (some ⟨c1, 0, none⟩), .pointer (some ⟨c2, 0, none⟩), .pointer (some ⟨c0, 0, none⟩)] _ _
  by_cases he : (k : Int) = at_
  · have HE := hide he
    have hq : ((k : Int) == at_) = true := by simpa using he
    have hP : (if (k : Int) = at_ then os else fs) = os := if_pos he
    rw [hP]
    clear he hP HF
    go_enter Tryz.func137, Tryz.ntmps137
    go_wp2
    go_ret
    exact ⟨_, rfl, HO.out, Later.refl _⟩
  · have hq : ((k : Int) == at_) = false := by simpa using he
    have hP : (if (k : Int) = at_ then os else fs) = fs := if_neg he
    rw [hP]
    clear he hP HO
    go_enter Tryz.func137, Tryz.ntmps137
    go_wp2
    go_ret
    exact ⟨_, rfl, HF.out, Later.refl _⟩

theorem meetGo_len : ∀ (ts : List TermD) (xs : List ByteArray) (l m : List BindD), meetGo l ts xs = some m → m.length ≤ l.length + ts.length
  | [], _, l, m, h => by cases h; simp
  | _ :: _, [], _, _, h => by cases h
  | t :: ts, x :: xs, l, m, h => by
    simp only [meetGo] at h
    split at h
    · have := meetGo_len ts xs _ m h
      simp at this ⊢; omega
    · split at h
      · have := meetGo_len ts xs _ m h
        simp; omega
      · cases h

theorem meetAllB_len {a : AtomD} {fs : List FactB} {ls : List (List BindD)} {n : Nat} (h : ∀ l ∈ ls, l.length ≤ n) : ∀ m ∈ meetAllB a fs ls, m.length ≤ n + a.terms.length := fun m hm => by
  obtain ⟨l, hl, f, _, hf⟩ := mem_meetAllB.1 hm
  have h1 := h l hl
  unfold meetB at hf
  split at hf
  · have := meetGo_len _ _ _ _ hf; omega
  · cases hf

theorem metGo_step {pick : Nat → List FactB} {body : List AtomD} {j : Nat} {a : AtomD} (h : body[j]? = some a) (ls : List (List BindD)) : metGo pick j (body.drop j) ls = if a.no then metGo pick (j + 1) (body.drop (j + 1)) ls else if 20000 < (meetAllB a (pick j) ls).length then none else metGo pick (j + 1) (body.drop (j + 1)) (meetAllB a (pick j) ls) := by
  obtain ⟨h1, e1⟩ := List.getElem?_eq_some_iff.1 h
  rw [List.drop_eq_getElem_cons h1, e1]; rfl

/-- What met tells. -/
def MetT (w0 w : World) (v : Value) (e : Int) (r : Option (List (List BindD))) : Prop := match r with
  | none => v = .slice none 0 0 ∧ e = 4
  | some ms => e = 0 ∧ ∃ ps, ps.map (·.2) = ms ∧ ms.length ≤ 20000 ∧ (∀ m ∈ ms, m.length ≤ 20) ∧ Lists 58 147 w0.heap.size w v ps

theorem lists_one (lo : Nat) (w : World) (hlo : lo ≤ w.heap.size) : Lists 58 147 lo (w.alloc (.cells #[.slice none 0 0] 58)) (.slice (some ⟨w.heap.size, 0, none⟩) 1 1) [(.slice none 0 0, [])] := by
  refine ⟨⟨rfl, Or.inr ⟨w.heap.size, 1, #[.slice none 0 0], rfl, hlo, heap_alloc_new _ _, by simp, by simp [maxLen], rfl, rfl⟩⟩, fun p hp => ?_, List.pairwise_singleton _ _⟩
  simp at hp
  subst hp
  exact ⟨bindK.own_nil _ _ _, fun k e => by simp [Value.ownBlock] at e⟩

set_option maxRecDepth 100000 in
set_option maxHeartbeats 4000000 in
theorem metC (body : List AtomD) (v : Value) (g : Nat) (cb : Array Value) (eg : ∀ args w, (callFunc g args).run Tryz.prog w = .ok (.enter g args) w) (pick : Nat → List FactD) (w : World) (hv : atomK.sl Anyw w v body) (hp : Picks g cb pick w.heap.size w) (hb : body.length ≤ 5) (ha : ∀ a ∈ body, a.terms.length ≤ 4) (hfs : ∀ n, (pick n).length ≤ 200) :
    Calls Tryz.prog 104 #[v, .func (.func g) #[] cb] w fun e w' => ∃ v' er, e = .returned (.tuple #[v', .int .i64 er]) ∧ MetT w w' v' er (metGo pick 0 body [[]]) ∧ Later w w' := by
  obtain ⟨sa, cap, rfl⟩ := Kind.slice hv
  have HV := hide hv
  have HP := hide hp
  have HA := hide ha
  have HFS := hide hfs
  clear hv hp ha hfs
  generalize hR : metGo pick 0 body [[]] = R at *
  have H0 : Hid (R = metGo pick 0 (body.drop 0) [[]]) := hR.symm
  clear hR
  go_enter Tryz.func104, Tryz.ntmps104
  go_wp2
  go_loopg [6, 13] body.length (fun gg o i wr => ∃ j : Nat, j + gg = body.length ∧ i = .int .i64 j ∧ ∃ ps, Hid (R = metGo pick j (body.drop j) (ps.map (·.2))) ∧ Hid (Lists 58 147 w.heap.size wr o ps) ∧ Hid (ps.length ≤ 20000) ∧ Hid (∀ p ∈ ps, p.2.length ≤ 4 * j) ∧ Hid (Later w wr))
  case atStart =>
    exact ⟨0, by omega, rfl, [(.slice none 0 0, [])], H0, lists_one _ _ (Nat.le_refl _), (by simp : _ ≤ _), (fun p hp => by simp at hp; subst hp; simp), ((by repeat (first | exact Later.refl _ | assumption | refine Later.drewN ?_ _ | refine Later.drew ?_ | refine Later.alloc ?_ _ | refine Later.grow ?_ _)) : Later _ _)⟩
  case round =>
    obtain ⟨j, hj, rfl, ps, HE, HO, HN, HQ, HL⟩ := hrel
    have hn := HN.out
    obtain ⟨ao, no', co, rfl⟩ : ∃ a n c, u6 = .slice a n c := by obtain ⟨a, c, e⟩ := Lists.slice HO.out; exact ⟨a, _, c, e⟩
    by_cases hlt : j < body.length
    · obtain ⟨a, hx⟩ : ∃ x, body[j]? = some x := ⟨_, List.getElem?_eq_getElem hlt⟩
      obtain ⟨b1, o1, _, rfl, hb1, ⟨sv, rfl, hsv⟩, hc⟩ := Kind.sl_at HV.out hx
      have d0 : wr.cell? ⟨b1, o1 + j * 3, none⟩ = some (.bool a.no) := by rw [HL.out.cell hb1]; exact hc 0 _ rfl
      have d1 : wr.cell? ⟨b1, o1 + j * 3 + 1, none⟩ = some (.string (bs a.name)) := by rw [HL.out.cell hb1]; exact hc 1 _ rfl
      have d2 : wr.cell? ⟨b1, o1 + j * 3 + 2, none⟩ = some sv := by rw [HL.out.cell hb1]; exact hc 2 _ rfl
      have hbr : b1 < wr.heap.size := Nat.lt_of_lt_of_le hb1 HL.out.size
      have hat := HA.out a (List.mem_of_getElem? hx)
      have HS := hide (metGo_step (pick := pick) hx (ps.map (·.2)))
      obtain ⟨sva, svc, rfl⟩ := Kind.slice hsv
      have HSV := hide hsv
      clear hc hx hsv
      cases hno : a.no
      · have HS1 : Hid (R = if 20000 < (meetAllB a (pick j) (ps.map (·.2))).length then none else metGo pick (j + 1) (body.drop (j + 1)) (meetAllB a (pick j) (ps.map (·.2)))) := by
          show _ = _
          rw [HE.out, HS.out, hno]; rfl
        rw [hno] at d0
        obtain ⟨wb, hwb⟩ : ∃ wb, wb = wr.alloc (.cells #[.bool false, .string (bs a.name), .slice sva a.terms.length svc] 40) := ⟨_, rfl⟩
        have hLb : Later w wb := by rw [hwb]; exact HL.out.alloc _
        have hLr : Later wr wb := by rw [hwb]; exact (Later.refl _).alloc _
        have z : wb.cell? ⟨wr.heap.size, 0, none⟩ = some (.bool false) ∧ wb.cell? ⟨wr.heap.size, 1, none⟩ = some (.string (bs a.name)) ∧ wb.cell? ⟨wr.heap.size, 2, none⟩ = some (.slice sva a.terms.length svc) := by rw [hwb]; simp
        have hsb : wr.heap.size < wb.heap.size := by rw [hwb]; simp
        have CELL : Hid (∀ w', Later wb w' → w'.cell? ⟨wr.heap.size, 0, none⟩ = some (.bool false) ∧ w'.cell? ⟨wr.heap.size, 1, none⟩ = some (.string (bs a.name)) ∧ w'.cell? ⟨wr.heap.size, 2, none⟩ = some (.slice sva a.terms.length svc)) := fun w' hL =>
          ⟨by rw [hL.cell hsb]; exact z.1, by rw [hL.cell hsb]; exact z.2.1, by rw [hL.cell hsb]; exact z.2.2⟩
        have HFr : Hid (∀ w', Later wb w' → Calls Tryz.prog g (#[.int .i64 j] ++ cb) w' fun e w2 => ∃ v, e = .returned v ∧ Facts w2 v (pick j) ∧ Later w' w2) := fun w' hL =>
          HP.out w' j (hLb.trans hL).below (by omega)
        have HMA : Hid (∀ w' fv, Later wb w' → Facts w' fv (pick j) → Calls Tryz.prog 138 #[.agg #[.bool false, .string (bs a.name), .slice sva a.terms.length svc], fv, .slice ao no' co] w' fun e w2 => ∃ v' er, e = .returned (.tuple #[v', .int .i64 er]) ∧ Hid (er = if 20000 < (meetAllB a (pick j) (ps.map (·.2))).length then 4 else 0) ∧ Hid (MetAll w' w2 v' (meetAllB a (pick j) (ps.map (·.2)))) ∧ Later w' w2) := fun w' fv hL hf => by
          have h1 := meetAllC a _ fv (.slice ao no' co) (pick j) (ps.map (·.2)) w' (Kind.sl_later HSV.out (hLb.trans hL)) hf (Kind.sl_any ((HO.out.later (hLr.trans hL)).sl (by omega) (fun p hp => by have := HQ.out p hp; omega))) (HFS.out j) (by simpa using hn) hat (fun l hl => by
            obtain ⟨p, hp, rfl⟩ := List.mem_map.1 hl
            have := HQ.out p hp; omega)
          rw [hno] at h1
          exact h1.mono fun e w2 ⟨v', he, hm, hl⟩ => ⟨v', _, he, (rfl : _ = _), hm, hl⟩
        have HWB := hide hwb
        have HQ1 : Hid (∀ m ∈ meetAllB a (pick j) (ps.map (·.2)), m.length ≤ 4 * (j + 1)) := fun m hm => by
          have := meetAllB_len (a := a) (fs := pick j) (ls := ps.map (·.2)) (n := 4 * j) (fun l hl => by
            obtain ⟨p, hp, rfl⟩ := List.mem_map.1 hl
            exact HQ.out p hp) m hm
          omega
        clear hwb z hsb HE HS HSV hno
        generalize meetAllB a (pick j) (ps.map (·.2)) = MA at *
        generalize bs a.name = nm at *
        go_wp2
        rw [← HWB.out]
        refine wp_region_held_drew (S := fun w' => Later wb w') (by kernel_rfl) (Later.refl _).drew (fun hHeld => ?_)
        refine take_at (i := 0) (d := some 21) (v := ?_) rfl rfl (by kernel_rfl) (by kernel_rfl) (by kernel_rfl) (fun _ _ _ h => h) (Or.inl ⟨by rfl, ?_⟩) hHeld ?_
        rotate_left
        · intro w hSw; (try dsimp only at hSw); obtain ⟨q0, q1, q2⟩ := CELL.out w hSw; go_simp; try with_reducible rfl
        simp only [Act.put, List.setIfInBounds_toArray, List.set_cons_zero, List.set_cons_succ]
        refine take_at (i := 1) (d := some 22) (v := ?_) rfl rfl (by kernel_rfl) (by kernel_rfl) (by kernel_rfl) (fun _ _ _ h => h) (Or.inl ⟨by rfl, ?_⟩) hHeld ?_
        rotate_left
        · intro w hSw; (try dsimp only at hSw);  go_simp; try with_reducible rfl
        simp only [Act.put, List.setIfInBounds_toArray, List.set_cons_zero, List.set_cons_succ]
        refine take_at (i := 2) (d := some 23) (v := ?_) rfl rfl (by kernel_rfl) (by kernel_rfl) (by kernel_rfl) (fun _ _ _ h => h) (Or.inl ⟨by rfl, ?_⟩) hHeld ?_
        rotate_left
        · intro w hSw; (try dsimp only at hSw);  go_simp; try with_reducible rfl
        simp only [Act.put, List.setIfInBounds_toArray, List.set_cons_zero, List.set_cons_succ]
        refine take_at (i := 4) (d := some 25) (v := ?_) rfl rfl (by kernel_rfl) (by kernel_rfl) (by kernel_rfl) (fun _ _ _ h => h) (Or.inl ⟨by rfl, ?_⟩) hHeld ?_
        rotate_left
        · intro w hSw; (try dsimp only at hSw);  go_simp; try with_reducible rfl
        simp only [Act.put, List.setIfInBounds_toArray, List.set_cons_zero, List.set_cons_succ]
        refine wpAnyH_ready (rs := [3]) (by kernel_rfl) (by simp) ?_
        refine AllReadyH.cons rfl (fun K hK => ?_) AllReadyH.nil
        go_simp
        refine (HFr.out _ hHeld).mono ?_
        rintro e u1 ⟨fv, rfl, hfv, hU1⟩
        dsimp only
        have hU1' : Later wb u1 := Later.trans hHeld hU1
        refine hK.out _ _ hU1' (fun hHeld => ?_)
        clear hK K
        refine wpAnyH_ready (rs := [5]) (by kernel_rfl) (by simp) ?_
        refine AllReadyH.cons rfl (fun K hK => ?_) AllReadyH.nil
        go_simp
        refine (HMA.out _ fv hU1' hfv).mono ?_
        rintro e u2 ⟨v', er, rfl, HER, HMT, hU2⟩
        dsimp only
        have hU2' : Later wb u2 := hU1'.trans hU2
        refine hK.out _ _ hU2' (fun hHeld => ?_)
        clear hK K
        refine take_at (i := 6) (d := some 20) (v := ?_) rfl rfl (by kernel_rfl) (by kernel_rfl) (by kernel_rfl) (fun _ _ _ h => h) (Or.inl ⟨by rfl, ?_⟩) hHeld ?_
        rotate_left
        · intro w hSw; (try dsimp only at hSw);  go_simp; try with_reducible rfl
        simp only [Act.put, List.setIfInBounds_toArray, List.set_cons_zero, List.set_cons_succ]
        refine take_at (i := 7) (d := some 27) (v := ?_) rfl rfl (by kernel_rfl) (by kernel_rfl) (by kernel_rfl) (fun _ _ _ h => h) (Or.inl ⟨by rfl, ?_⟩) hHeld ?_
        rotate_left
        · intro w hSw; (try dsimp only at hSw);  go_simp; try with_reducible rfl
        simp only [Act.put, List.setIfInBounds_toArray, List.set_cons_zero, List.set_cons_succ]
        refine take_at (i := 8) (d := some 28) (v := ?_) rfl rfl (by kernel_rfl) (by kernel_rfl) (by kernel_rfl) (fun _ _ _ h => h) (Or.inl ⟨by rfl, ?_⟩) hHeld ?_
        rotate_left
        · intro w hSw; (try dsimp only at hSw);  go_simp; try with_reducible rfl
        simp only [Act.put, List.setIfInBounds_toArray, List.set_cons_zero, List.set_cons_succ]
        refine take_at (i := 9) (d := some 6) (v := ?_) rfl rfl (by kernel_rfl) (by kernel_rfl) (by kernel_rfl) (fun _ _ _ h => h) (Or.inl ⟨by rfl, ?_⟩) hHeld ?_
        rotate_left
        · intro w hSw; (try dsimp only at hSw);  go_simp; try with_reducible rfl
        simp only [Act.put, List.setIfInBounds_toArray, List.set_cons_zero, List.set_cons_succ]
        refine take_at (i := 10) (d := some 9) (v := ?_) rfl rfl (by kernel_rfl) (by kernel_rfl) (by kernel_rfl) (fun _ _ _ h => h) (Or.inl ⟨by rfl, ?_⟩) hHeld ?_
        rotate_left
        · intro w hSw; (try dsimp only at hSw);  go_simp; try with_reducible rfl
        simp only [Act.put, List.setIfInBounds_toArray, List.set_cons_zero, List.set_cons_succ]
        refine wpAnyH_done (by kernel_rfl) ?_ _
        have hLu : Later w u2 := hLb.trans hU2'
        have hsu : w.heap.size ≤ u1.heap.size := (hLb.trans hU1').size
        by_cases hbig : 20000 < MA.length
        · have HR : Hid (R = none) := by show _ = _; rw [HS1.out, if_pos hbig]
          have he : er = 4 := by rw [HER.out, if_pos hbig]
          subst he
          clear hbig HER HMT HS1
          go_wp2
          go_ret2
          exact ⟨_, _, rfl, by rw [HR.out]; exact ⟨rfl, rfl⟩, hLu⟩
        · have HR : Hid (R = metGo pick (j + 1) (body.drop (j + 1)) MA) := by show _ = _; rw [HS1.out, if_neg hbig]
          have he : er = 0 := by rw [HER.out, if_neg hbig]
          subst he
          have hmt := HMT.out
          unfold MetAll at hmt
          rw [if_neg hbig] at hmt
          obtain ⟨ps', hps', hLs⟩ := hmt
          have HR2 : Hid (R = metGo pick (j + 1) (body.drop (j + 1)) (ps'.map (·.2))) := by show _ = _; rw [hps']; exact HR.out
          have HN2 : Hid (ps'.length ≤ 20000) := by show _ ≤ _; rw [← hps', List.length_map] at hbig; omega
          have HQ2 : Hid (∀ p ∈ ps', p.2.length ≤ 4 * (j + 1)) := fun p hp => HQ1.out _ (by rw [← hps']; exact List.mem_map.2 ⟨p, hp, rfl⟩)
          have HO2 := hide (hLs.base hsu)
          obtain ⟨a4, n4, c4, rfl⟩ : ∃ a n c, v' = .slice a n c := by obtain ⟨a, c, e⟩ := Lists.slice hLs; exact ⟨a, _, c, e⟩
          clear hbig HER HMT HS1 hps' hLs HR
          go_wp2
          go_roundg (body.length - (j + 1))
          case measure => omega
          case rel => exact ⟨j + 1, by omega, by go_num, ps', HR2, HO2, HN2, HQ2, hLu⟩
      · have HS1 : Hid (R = metGo pick (j + 1) (body.drop (j + 1)) (ps.map (·.2))) := by
          show _ = _
          rw [HE.out, HS.out, hno]; rfl
        rw [hno] at d0
        clear HE HS hno
        generalize bs a.name = nm at *
        go_wp2
        go_roundg (body.length - (j + 1))
        case measure => omega
        case rel => exact ⟨j + 1, by omega, by go_num, ps, HS1, HO.out.later ((Later.refl _).alloc _), HN, (fun p hp => by have := HQ.out p hp; omega), HL.out.alloc _⟩
    · have e : j = body.length := by omega
      have HR : Hid (R = some (ps.map (·.2))) := by show _ = _; rw [HE.out, List.drop_eq_nil_of_le (by omega)]; rfl
      clear HE
      go_wp2
      go_ret2
      refine ⟨_, _, rfl, ?_, HL.out⟩
      rw [HR.out]
      exact ⟨rfl, ps, rfl, by simpa using hn, fun m hm => by
        obtain ⟨p, hp, rfl⟩ := List.mem_map.1 hm
        have := HQ.out p hp; omega, HO.out⟩

end Go.Proofs.YtbohggoeebhdmaaGreatDoor

/- The walks of known's add and set. -/
namespace Go.Proofs.YtbohggoeebhdmaaGreatDoor
open Go.RowKit Go.Sort Go.Maps

theorem cell_not_map {w : World} {b : Nat} {es : Array MapEntry} {c : Nat} {x : Addr} {v : Value} (hb : w.heap[b]? = some (.map es c)) (hx : w.cell? x = some v) : x.block ≠ b := by
  intro e
  subst e
  simp [World.cell?, hb] at hx

theorem known_map {P : Program} {K : TypeId} {w : World} {b n : Nat} {L : List FactB} (h : KnownM P K w b n L) : ∃ es c, w.heap[b]? = some (.map es c) := by
  obtain ⟨D, ⟨es, c, hb, _⟩, _⟩ := h
  exact ⟨es, c, hb⟩

theorem strs_tn {w w' : World} {b : Nat} {v : Value} {l : List ByteArray} (h : Strs w v l) (hb : ∃ es c, w.heap[b]? = some (.map es c)) (k : Tn b w w') : Strs w' v l := by
  obtain ⟨es, c, hb⟩ := hb
  obtain ⟨h0, a, cap, rfl, h1⟩ := h
  refine ⟨h0, a, cap, rfl, fun hl => ?_⟩
  obtain ⟨b1, off, rfl, hlt, hc⟩ := h1 hl
  refine ⟨b1, off, rfl, Nat.lt_of_lt_of_le hlt k.size, fun i hi => ?_⟩
  rw [k.cell (x := ⟨b1, off + i, none⟩) hlt (cell_not_map hb (hc i hi))]
  exact hc i hi

theorem factV_tn {w w' : World} {b : Nat} {v : Value} {f : FactD} (h : FactV w v f) (hb : ∃ es c, w.heap[b]? = some (.map es c)) (k : Tn b w w') : FactV w' v f := by
  obtain ⟨s, rfl, h1⟩ := h; exact ⟨s, rfl, strs_tn h1 hb k⟩

theorem facts_tn {w w' : World} {b : Nat} {v : Value} {l : List FactD} (h : Facts w v l) (hb : ∃ es c, w.heap[b]? = some (.map es c)) (k : Tn b w w') : Facts w' v l := by
  obtain ⟨h0, a, cap, rfl, h1⟩ := h
  refine ⟨h0, a, cap, rfl, fun hl => ?_⟩
  obtain ⟨b1, off, rfl, hlt, hc⟩ := h1 hl
  refine ⟨b1, off, rfl, Nat.lt_of_lt_of_le hlt k.size, fun i hi => ?_⟩
  obtain ⟨c1, s, c2, c3⟩ := hc i hi
  obtain ⟨es, c, hb'⟩ := hb
  exact ⟨by rw [k.cell (x := ⟨b1, off + i * 2, none⟩) hlt (cell_not_map hb' c1)]; exact c1, s, by rw [k.cell (x := ⟨b1, off + i * 2 + 1, none⟩) hlt (cell_not_map hb' c2)]; exact c2, strs_tn c3 ⟨es, c, hb'⟩ k⟩

theorem tn_of_grown {b : Nat} {w w' : World} (h : w.grownBy w' (some b)) : Tn b w w' := ⟨h.os, h.tape, h.output, h.size, fun k hk hb => h.block k hk (fun e => hb (by cases e; rfl))⟩

abbrev KnN (w : World) (b n : Nat) (L : List FactB) : Prop := KnownM Tryz.prog 9 w b n L

set_option maxHeartbeats 2000000 in
theorem knownAdd (b n : Nat) (L : List FactB) (v : Value) (l : List FactB) (w : World) (hK : KnN w b n L) (hv : Facts w v l) (hs : ∀ f ∈ l, ShortF f) (hn : n + l.length < 1000000) :
    Calls Tryz.prog 46 #[.map (some b), v] w fun e w' => (∃ u, e = .returned u) ∧ KnN w' b (n + l.length) (L ++ l) ∧ Tn b w w' := by
  obtain ⟨a, cap, rfl, hl, hz⟩ := hv.addr
  have hM := known_map hK
  have HM := hide hM
  have HV := hide hv
  have HS := hide hs
  have HK : Hid (KnN w b (n + 0) (L ++ l.take 0)) := by show KnN _ _ _ _; simpa using hK
  clear hv hs hK hM
  go_enter Tryz.func46, Tryz.ntmps46
  go_wp2
  go_loopg [8] l.length (fun k i wr => ∃ j : Nat, j + k = l.length ∧ i = .int .i64 j ∧ Hid (KnN wr b (n + j) (L ++ l.take j)) ∧ Hid (Tn b w wr))
  case atStart => exact ⟨0, by omega, rfl, HK, Tn.refl _ _⟩
  case round =>
    clear HK
    obtain ⟨j, hj, rfl, HK, HT⟩ := hrel
    by_cases hlt : j < l.length
    · rcases hz with rfl | ⟨b1, off, rfl⟩
      · simp at hlt
      have hltz : (j : Int) < (l.length : Int) := by omega
      have hFr := facts_tn HV.out HM.out HT.out
      obtain ⟨hb, ax, lx, cx, g1, g2, fx⟩ := hFr.at hlt
      have hfm : l.getD j noFact ∈ l := by rw [List.getD_eq_getElem?_getD, List.getElem?_eq_getElem hlt]; exact List.getElem_mem hlt
      have htk : l.take (j + 1) = l.take j ++ [l.getD j noFact] := by rw [List.take_add_one, List.getD_eq_getElem?_getD, List.getElem?_eq_getElem hlt]; rfl
      have hsh := HS.out _ hfm
      obtain ⟨wb, hwb⟩ : ∃ wb, wb = wr.alloc (.cells #[.string (l.getD j noFact).1, .slice ax lx cx] 54) := ⟨_, rfl⟩
      have hLb : Later wr wb := by rw [hwb]; exact (Later.refl _).alloc _
      have hrb : wb.heap[wr.heap.size]? = some (.cells #[.string (l.getD j noFact).1, .slice ax lx cx] 54 (0, 0)) := by rw [hwb]; exact heap_alloc_new wr _
      have hfb := fx.later hLb
      have hKb := HK.out.later hLb
      have HC : Hid (∀ w', Below wb.heap.size wb w' → Calls Tryz.prog 76 #[.agg #[.string (l.getD j noFact).1, .slice ax lx cx]] w' fun e w'' => e = .returned (.string (bs (keyF (l.getD j noFact)))) ∧ Hid (Below wb.heap.size wb w'')) := fun w' hw =>
        (apartC _ _ w' (factV_below hfb hw) hsh).mono fun e w'' ⟨he, h2⟩ => ⟨he, below_trans hw h2 hw.size⟩
      have hcell : ∀ w', Below wb.heap.size wb w' → w'.cell? ⟨wr.heap.size, 0, none⟩ = some (.string (l.getD j noFact).1) ∧ w'.cell? ⟨wr.heap.size, 0 + 1, none⟩ = some (.slice ax lx cx) := fun w' hw => by
        have hlt' : wr.heap.size < wb.heap.size := (Array.getElem?_eq_some_iff.1 hrb).1
        constructor
        · rw [hw.cell (p := ⟨wr.heap.size, 0, none⟩) hlt', cell_of_row _ _ _ _ _ _ hrb]; rfl
        · rw [hw.cell (p := ⟨wr.heap.size, 0 + 1, none⟩) hlt', cell_of_row _ _ _ _ _ _ hrb]; rfl
      have HU : Hid (∀ w', Below wb.heap.size wb w' → ∃ w'', (Instr.mapUpdate 81 (.map (some b)) (.string (bs (keyF (l.getD j noFact)))) (.agg #[.string (l.getD j noFact).1, .slice ax lx cx])).run Tryz.prog w' = .ok () w'' ∧ KnN w'' b (n + (j + 1)) (L ++ l.take (j + 1)) ∧ Tn b w w'' ∧ w''.cell? ⟨wr.heap.size, 0, none⟩ = some (.string (l.getD j noFact).1) ∧ w''.cell? ⟨wr.heap.size, 0 + 1, none⟩ = some (.slice ax lx cx)) := fun w' hw => by
        have hK' : KnN w' b (n + j) (L ++ l.take j) := hKb.below hw
        have hf' := factV_below hfb hw
        have hkl := keyF_len hsh
        obtain ⟨w'', hrun, hg, hkn⟩ := hK'.store Tryz.underlying9 Tryz.underlying81 (by unfold maxLen; omega) hf' (by unfold maxLen; omega)
        refine ⟨w'', hrun, ?_, ?_, ?_⟩
        · rw [htk, ← List.append_assoc, show n + (j + 1) = n + j + 1 by omega]
          exact hkn fun g _ u hu => factV_tn hu (known_map hK') (tn_of_grown hg)
        · exact ((HT.out.trans (Tn.of_below hLb.below)).trans (Tn.of_below hw)).trans (tn_of_grown hg)
        · have hblt : b < wr.heap.size := HK.out.lt
          have hlt' : wr.heap.size < w'.heap.size := Nat.lt_of_lt_of_le (Array.getElem?_eq_some_iff.1 hrb).1 hw.size
          obtain ⟨q0, q1⟩ := hcell w' hw
          exact ⟨by rw [(tn_of_grown hg).cell (x := ⟨wr.heap.size, 0, none⟩) hlt' (by show wr.heap.size ≠ b; omega)]; exact q0, by rw [(tn_of_grown hg).cell (x := ⟨wr.heap.size, 0 + 1, none⟩) hlt' (by show wr.heap.size ≠ b; omega)]; exact q1⟩
      have HCell := hide hcell
      generalize bs (keyF (l.getD j noFact)) = kb at *
      generalize (l.getD j noFact).1 = nk at *
      clear hcell htk hsh hfm hrb hfb hKb hFr fx hLb
      go_wp2
      rw [← hwb]
      clear hwb
      refine wp_region_held_drew (S := fun w' => w'.cell? ⟨wr.heap.size, 0, none⟩ = some (.string nk) ∧ w'.cell? ⟨wr.heap.size, 0 + 1, none⟩ = some (.slice ax lx cx)) (by kernel_rfl) (HCell.out _ (Below.refl _ _).drew) (fun hHeld => ?_)
      refine take_at (i := 0) (d := some 12) (v := ?_) rfl rfl (by kernel_rfl) (by kernel_rfl) (by kernel_rfl) (fun _ _ _ h => h) (Or.inl ⟨by rfl, ?_⟩) hHeld ?_
      rotate_left
      · intro w hSw; (try dsimp only at hSw);  go_simp; try with_reducible rfl
      simp only [Act.put, List.setIfInBounds_toArray, List.set_cons_zero, List.set_cons_succ]
      refine take_at (i := 1) (d := some 13) (v := ?_) rfl rfl (by kernel_rfl) (by kernel_rfl) (by kernel_rfl) (fun _ _ _ h => h) (Or.inl ⟨by rfl, ?_⟩) hHeld ?_
      rotate_left
      · intro w hSw; (try dsimp only at hSw); obtain ⟨q0, q1⟩ := hSw; go_simp; try with_reducible rfl
      simp only [Act.put, List.setIfInBounds_toArray, List.set_cons_zero, List.set_cons_succ]
      refine take_at (i := 3) (d := some 15) (v := ?_) rfl rfl (by kernel_rfl) (by kernel_rfl) (by kernel_rfl) (fun _ _ _ h => h) (Or.inl ⟨by rfl, ?_⟩) hHeld ?_
      rotate_left
      · intro w hSw; (try dsimp only at hSw); obtain ⟨q0, q1⟩ := hSw; go_simp; try with_reducible rfl
      simp only [Act.put, List.setIfInBounds_toArray, List.set_cons_zero, List.set_cons_succ]
      refine wpAnyH_ready (rs := [2]) (by kernel_rfl) (by simp) ?_
      refine AllReadyH.cons rfl (fun K hK => ?_) AllReadyH.nil
      go_simp
      refine (HC.out _ (Below.refl _ _).drew).mono ?_
      rintro e w5 ⟨rfl, hB5⟩
      dsimp only
      refine hK.out _ _ (HCell.out _ hB5.out) (fun hHeld => ?_)
      clear hK K
      refine wpAnyH_ready (rs := [4]) (by kernel_rfl) (by simp) ?_
      obtain ⟨w6, hrun, hK6, hT6, hc6⟩ := HU.out _ hB5.out
      have HK6 := hide hK6
      have HT6 := hide hT6
      clear hK6 hT6
      refine AllReadyH.cons rfl (fun K hK => ?_) AllReadyH.nil
      go_simp
      refine hK.out _ _ hc6 (fun hHeld => ?_)
      clear hK K
      refine wpAnyH_done (by kernel_rfl) ?_ _
      clear hc6 hHeld hrun
      go_wp2
      go_roundg (l.length - (j + 1))
      case measure => omega
      case rel => exact ⟨j + 1, by omega, by go_num, HK6, HT6⟩
    · have hj' : j = l.length := by omega
      subst hj'
      rw [List.take_length] at HK
      go_wp2
      go_end0
      exact ⟨⟨_, rfl⟩, HK.out, HT.out⟩

set_option maxHeartbeats 1000000 in
theorem knownSet (b n : Nat) (L : List FactB) (w : World) (hK : KnN w b n L) (hn : n ≤ 1000000) :
    Calls Tryz.prog 47 #[.map (some b)] w fun e w' => ∃ v', e = .returned v' ∧ Facts w' v' (setF L) ∧ Below w.heap.size w w' := by
  obtain ⟨D, hown, h1, h2, h3⟩ := hK
  have hsz : Maps.size D ≤ 3518437208883 := by have := hown.size_le; omega
  have hL1 : Later w (w.alloc (.cells #[.map (some b)] 81)) := (Later.refl w).alloc _
  have hr1 : (w.alloc (.cells #[.map (some b)] 81)).heap[w.heap.size]? = some (.cells #[.map (some b)] 81 (0, 0)) := heap_alloc_new w _
  have HV := hide (valuesC (some b) w)
  have HC := hide (collectC b n w.heap.size D (w.alloc (.cells #[.map (some b)] 81)) (by simp) (by rw [cell_of_row _ _ _ _ _ _ hr1]; rfl) (owns_block hown (hL1.block hown.lt)) hsz)
  have H1 := hide h1
  have H2 : Hid (∀ f ∈ L, ∃ x, D.atKey (.string (keyF f)) .nil = .held x ∧ FactV (w.alloc (.cells #[.map (some b)] 81)) (encT x) f) := fun f hf => by
    obtain ⟨x, e, hx⟩ := h2 f hf; exact ⟨x, e, hx.later hL1⟩
  have HL1 := hide hL1.below
  clear h1 h2 h3 hown hL1 hr1
  go_enter Tryz.func47, Tryz.ntmps47
  go_wp2_with fail
  refine HV.out.mono ?_
  rintro e w1 ⟨rfl, rfl⟩
  clear HV
  go_wp2_with fail
  refine HC.out.mono ?_
  rintro e w2 ⟨v, xs, rfl, ⟨ps, hA, rfl⟩, hr, hB⟩
  obtain ⟨l, hl, hF⟩ := known_facts H1.out H2.out hsz hA hr hB
  have HO := hide (ofC v l w2 hF)
  have HB : Hid (Below w.heap.size w w2) := below_trans HL1.out hB (by simp)
  have HLL := hide hl
  have hl0 := hF.1
  obtain ⟨a, cap, rfl⟩ := sliceFacts hF
  clear hA hr hB hl hF HC H1 H2 HL1
  go_wp2_with fail
  refine HO.out.mono ?_
  rintro e w3 ⟨v', s, rfl, hS, hOw, hL3⟩
  have es : s = setF L := setF_of hS.1 fun f => by rw [hS.2.1 f, HLL.out f]
  have HF : Hid (Facts w3 v' (setF L)) := by rw [← es]; exact hOw.facts (Nat.le_trans hS.2.2 hl0)
  have HB3 : Hid (Below w.heap.size w w3) := below_trans HB.out hL3.below HB.out.size
  clear hS hOw hL3 es
  go_wp2
  go_ret
  exact ⟨v', rfl, HF.out, HB3.out⟩

end Go.Proofs.YtbohggoeebhdmaaGreatDoor
