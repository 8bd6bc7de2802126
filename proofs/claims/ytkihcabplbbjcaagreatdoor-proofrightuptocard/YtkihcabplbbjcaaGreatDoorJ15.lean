/- Texts of this claim, one behind the other. -/
import Derived.Test.YtkihcabplbbjcaaGreatDoorJ14
import Derived.Test.YtkihcabplbbjcaaGreatDoorJ6
import Derived.Test.YtkihcabplbbjcaaGreatDoorJ4
import Derived.Test.YtkihcabplbbjcaaGreatDoorJ3
import Derived.Shelf.Strings.OnBuilder
import Derived.Shelf.Strings.BuilderK
import Derived.Shelf.Strconv.Clone
import Derived.Shelf.Strings.Cut
import Derived.Shelf.Strings.Prefix
import Derived.Test.YtkihcabplbbjcaaGreatDoorProg
/- The walk of ground.wrongStep. -/
namespace Go.Proofs.YtkihcabplbbjcaaGreatDoor
open Go.RowKit Go.Sort

theorem meetB_le {a : AtomD} {f : FactB} {l m : List BindD} (h : meetB a f l = some m) : m.length ≤ l.length + a.terms.length := by
  have hk : keysB l = ((keysB l).map raw).map bs := by
    rw [List.map_map]
    conv => lhs; rw [← List.map_id (keysB l)]
    exact List.map_congr_left fun x _ => (bs_raw x).symm
  have h1 := congrArg List.length (meetB_ok hk h).2.1
  have h2 := varsGo_len a.terms ((keysB l).map raw)
  have e : ∀ q : List BindD, (keysB q).length = q.length := fun q => by unfold keysB; rw [List.length_map]
  rw [e, List.length_map] at h1
  rw [List.length_map, e] at h2
  omega

/-- All but the first. -/
theorem sl_tail {α : Type} {K : Kind α} {B : Nat → Prop} {w : World} {b off n cap : Nat} {x : α} {l : List α} (h : K.sl B w (.slice (some ⟨b, off, none⟩) n cap) (x :: l)) : K.sl B w (.slice (if cap = 1 then some ⟨b, off, none⟩ else some ⟨b, off + K.size, none⟩) l.length (cap - 1)) l := by
  obtain ⟨h0, a', cap', e, h1⟩ := h
  simp only [Value.slice.injEq] at e
  obtain ⟨rfl, rfl, rfl⟩ := e
  obtain ⟨b', off', e, hB, hb, hcl⟩ := h1 (by simp)
  simp only [Option.some.injEq, Addr.mk.injEq] at e
  obtain ⟨rfl, rfl, _⟩ := e
  have h01 := h0.1
  have h02 : (x :: l).length ≤ cap := h0.2
  simp only [List.length_cons] at h01 h02
  cases l with
  | nil => exact K.sl_nil _ _ _ _
  | cons y l =>
    simp only [List.length_cons] at h01 h02
    rw [if_neg (by omega)]
    refine ⟨⟨by simp only [List.length_cons]; omega, by show (y :: l).length ≤ cap - 1; simp only [List.length_cons]; omega⟩, _, cap - 1, rfl, fun _ => ⟨b, _, rfl, hB, hb, fun i z hi => ?_⟩⟩
    obtain ⟨d, d1, d2⟩ := hcl (i + 1) z (by simpa using hi)
    refine ⟨d, d1, fun j u hu => ?_⟩
    have := d2 j u hu
    rw [show off + (i + 1) * K.size + j = off + K.size + i * K.size + j by rw [Nat.add_mul]; omega] at this
    exact this

theorem kidsGo_no {a : AtomD} {as' : List AtomD} {ks : List FactB} {b : List BindD} (h : a.no = true) : kidsGo (a :: as') ks b = kidsGo as' ks b := by
  conv => lhs; unfold kidsGo
  rw [if_pos h]

theorem kidsGo_nil {a : AtomD} {as' : List AtomD} {b : List BindD} (h : a.no = false) : kidsGo (a :: as') [] b = (5, []) := by
  unfold kidsGo
  rw [if_neg (by simp [h])]

theorem kidsGo_bad {a : AtomD} {as' : List AtomD} {k : FactB} {ks : List FactB} {b : List BindD} (h : a.no = false) (hm : meetB a k b = none) : kidsGo (a :: as') (k :: ks) b = (8, []) := by
  unfold kidsGo
  rw [if_neg (by simp [h])]
  dsimp only
  rw [hm]

theorem kidsGo_met {a : AtomD} {as' : List AtomD} {k : FactB} {ks : List FactB} {b b' : List BindD} (h : a.no = false) (hm : meetB a k b = some b') : kidsGo (a :: as') (k :: ks) b = kidsGo as' ks b' := by
  conv => lhs; unfold kidsGo
  rw [if_neg (by simp [h])]
  dsimp only
  rw [hm]

set_option maxRecDepth 100000 in
set_option maxHeartbeats 8000000 in
theorem wrongStepP (all : List FactB) (r : RuleD) (x : PrfD) (n : Nat) (pv tv av hv bv xv : Value) (w : World) (hp : ∃ a n c, pv = .slice a n c) (ht : ∃ a n c, tv = .slice a n c) (ha : Facts w av all) (hr : Rises all) (hh : termK.sl Anyw w hv r.head.terms) (hb : atomK.sl Anyw w bv r.body) (hx : PrfV n Anyw w xv x)
    (h4 : r.head.terms.length ≤ 4) (h5 : r.body.length ≤ 5) (hbt : ∀ a ∈ r.body, a.terms.length ≤ 4) :
    Calls Tryz.prog 42 #[.agg #[pv, tv, av], .agg #[.bool r.head.no, .string (bs r.head.name), hv, bv], xv] w fun e w' => e = .returned (.int .i64 (stepE all r x.fact (x.kids.map PrfD.fact))) ∧ Later w w' := by
  obtain ⟨s, kv, rfl, hs, hkv⟩ := hx
  obtain ⟨pa, pn, pc, rfl⟩ := hp
  obtain ⟨ta, tn, tc, rfl⟩ := ht
  obtain ⟨aa, ac, rfl⟩ := sliceFacts ha
  obtain ⟨sa, sc, rfl⟩ := Kind.slice hs
  obtain ⟨ka, kc, rfl⟩ := Kind.slice hkv
  obtain ⟨ha', hc', rfl⟩ := Kind.slice hh
  obtain ⟨ba, bc, rfl⟩ := Kind.slice hb
  obtain ⟨A, hA⟩ : ∃ A, A = w.heap.size := ⟨_, rfl⟩
  obtain ⟨w1, hw1⟩ : ∃ w1, w1 = ((w.alloc (.cells #[.slice pa pn pc, .slice ta tn tc, .slice aa all.length ac] 54)).alloc (.cells #[.bool r.head.no, .string (bs r.head.name), .slice ha' r.head.terms.length hc', .slice ba r.body.length bc] 93)).alloc (.cells #[.string x.fact.1, .slice sa x.fact.2.length sc, .int .i64 x.rule, .slice ka x.kids.length kc] 30) := ⟨_, rfl⟩
  have hL1 : Later w w1 := by rw [hw1]; exact (((Later.refl w).alloc _).alloc _).alloc _
  have hs1 : w1.heap.size = w.heap.size + 3 := by rw [hw1]; simp
  have hr0 : w1.heap[w.heap.size]? = some (.cells #[.slice pa pn pc, .slice ta tn tc, .slice aa all.length ac] 54 (0, 0)) := by
    rw [hw1]; simp only [heap_at, World.size_alloc]
    repeat (first | rw [if_pos trivial] | rw [if_pos (by omega)] | rw [if_neg (by omega)])
  have hr1 : w1.heap[w.heap.size + 1]? = some (.cells #[.bool r.head.no, .string (bs r.head.name), .slice ha' r.head.terms.length hc', .slice ba r.body.length bc] 93 (0, 0)) := by
    rw [hw1]; simp only [heap_at, World.size_alloc]
    repeat (first | rw [if_pos trivial] | rw [if_pos (by omega)] | rw [if_neg (by omega)])
  have hr2 : w1.heap[w.heap.size + 2]? = some (.cells #[.string x.fact.1, .slice sa x.fact.2.length sc, .int .i64 x.rule, .slice ka x.kids.length kc] 30 (0, 0)) := by
    rw [hw1]; simp only [heap_at, World.size_alloc]
    repeat (first | rw [if_pos trivial] | rw [if_pos (by omega)] | rw [if_neg (by omega)])
  have HMe := hide (meetC r.head (.slice ha' r.head.terms.length hc') (.agg #[.string x.fact.1, .slice sa x.fact.2.length sc]) (.slice none 0 0) x.fact [] w1 (Kind.sl_later hh hL1) ⟨_, rfl, (sl_strs hs).later hL1⟩ (Kind.sl_nil _ _ _ _ _) (by simp; omega))
  have HBd := hide (Kind.sl_later hb hL1)
  have HKv := hide (Kind.sl_later hkv hL1)
  have HAl := hide (ha.later hL1)
  have HRi := hide hr
  have HBT := hide hbt
  have HL1 := hide hL1
  have HR0 := hide hr0
  have HR1 := hide hr1
  have HR2 := hide hr2
  have HBar : Hid (∀ (b : List BindD) (lv : Value) (w' : World), Later w1 w' → bindK.sl Anyw w' lv b → Calls Tryz.prog 77 #[.agg #[.slice pa pn pc, .slice ta tn tc, .slice aa all.length ac], .slice ba r.body.length bc, lv] w' fun e w'' => e = .returned (.int .i64 (barX all r.body b)) ∧ Later w' w'') := fun b lv w' h hl =>
    barredP all r.body b _ _ _ _ lv w' ⟨_, _, _, rfl⟩ ⟨_, _, _, rfl⟩ ((ha.later hL1).later h) hr (Kind.sl_later (Kind.sl_later hb hL1) h) hl
  obtain ⟨RR, hRR⟩ : ∃ RR : Int, RR = stepE all r x.fact (x.kids.map PrfD.fact) := ⟨_, rfl⟩
  rw [← hRR]
  unfold stepE at hRR
  have HW1 := hide hw1
  have a0 : w1.cell? ⟨w.heap.size + 1, 0, none⟩ = some (.bool r.head.no) := by rw [cell_of_row _ _ _ _ _ _ hr1]; rfl
  have a1 : w1.cell? ⟨w.heap.size + 1, 0 + 1, none⟩ = some (.string (bs r.head.name)) := by rw [cell_of_row _ _ _ _ _ _ hr1]; rfl
  have a2 : w1.cell? ⟨w.heap.size + 1, 0 + 2, none⟩ = some (.slice ha' r.head.terms.length hc') := by rw [cell_of_row _ _ _ _ _ _ hr1]; rfl
  have f0 : w1.cell? ⟨w.heap.size + 1 + 1, 0, none⟩ = some (.string x.fact.1) := by rw [show w.heap.size + 1 + 1 = w.heap.size + 2 from rfl, cell_of_row _ _ _ _ _ _ hr2]; rfl
  have f1 : w1.cell? ⟨w.heap.size + 1 + 1, 0 + 1, none⟩ = some (.slice sa x.fact.2.length sc) := by rw [show w.heap.size + 1 + 1 = w.heap.size + 2 from rfl, cell_of_row _ _ _ _ _ _ hr2]; rfl
  clear ha hr hh hb hs hkv hL1 hr0 hr1 hr2 hw1 hbt hA A
  cases hm : meetB r.head x.fact [] with
  | none =>
    rw [hm] at HMe hRR
    dsimp only at hRR
    simp only [Option.isSome_none] at HMe
    have HRR := hide hRR
    clear hm hRR HBar
    obtain ⟨⟨fn, fargs⟩, rl, kids⟩ := x
    dsimp only [PrfD.fact, PrfD.rule, PrfD.kids] at *
    generalize bs r.head.name = nm at *
    generalize r.head.no = no at *
    go_enter Tryz.func42, Tryz.ntmps42
    go_wp2_with (first | (rw [← HW1.out]) | fail)
    refine HMe.out.mono ?_
    rintro e w2 ⟨v2, rfl, hv2, hL2⟩
    obtain rfl : v2 = .slice none 0 0 := hv2
    have HL2 := hide (HL1.out.trans hL2)
    clear hL2 HMe
    go_wp2
    go_ret
    exact ⟨by rw [HRR.out]; rfl, HL2.out⟩
  | some b0 =>
    rw [hm] at HMe hRR
    dsimp only at hRR
    simp only [Option.isSome_some] at HMe
    have hb0 := meetB_le hm
    simp only [List.length_nil] at hb0
    obtain ⟨KG, hKG⟩ : ∃ KG, KG = kidsGo r.body (x.kids.map PrfD.fact) b0 := ⟨_, rfl⟩
    rw [← hKG] at hRR
    have HKG := hide hKG
    have HRR := hide hRR
    clear hm hRR hKG
    obtain ⟨⟨fn, fargs⟩, rl, kids⟩ := x
    dsimp only [PrfD.fact, PrfD.rule, PrfD.kids] at *
    obtain ⟨hd, body⟩ := r
    dsimp only at *
    generalize bs hd.name = nm at *
    generalize hd.no = no at *
    go_enter Tryz.func42, Tryz.ntmps42
    go_wp2_with (first | (rw [← HW1.out]) | fail)
    refine HMe.out.mono ?_
    rintro e w2 ⟨v2, rfl, hv2, hL2⟩
    have hv2' : bindK.own 117 w1.heap.size w2 v2 b0 := hv2
    have hb2 : bindK.sl Anyw w2 v2 b0 := Kind.sl_any (Kind.own_sl hv2' (by omega))
    obtain ⟨va, vn, vc, rfl⟩ : ∃ a n c, v2 = .slice a n c := by obtain ⟨a, c, e⟩ := Kind.slice hb2; exact ⟨a, _, c, e⟩
    have HB2 := hide hb2
    have HL2 := hide hL2
    have hr2 := (hL2.block (by omega)).trans HR2.out
    have hr1 := (hL2.block (by omega)).trans HR1.out
    have k3 : w2.cell? ⟨w.heap.size + 1 + 1, 3, none⟩ = some (.slice ka kids.length kc) := by rw [show w.heap.size + 1 + 1 = w.heap.size + 2 from rfl, cell_of_row _ _ _ _ _ _ hr2]; rfl
    have k4 : w2.cell? ⟨w.heap.size + 1, 3, none⟩ = some (.slice ba body.length bc) := by rw [cell_of_row _ _ _ _ _ _ hr1]; rfl
    have HK2 := hide (Kind.sl_later HKv.out hL2)
    have hbl := HBd.out.1.1
    clear hv2 hv2' hb2 hL2 hr2 hr1 HMe a0 a1 a2 f0 f1 HW1
    go_wp2
    clear k3 k4
    go_loopg [7, 9, 27] body.length (fun g lv kv i wr => ∃ (j : Nat) (b : List BindD) (ks : List PrfD), j + g = body.length ∧ i = .int .i64 j ∧ Hid (bindK.sl Anyw wr lv b) ∧ b.length ≤ 4 + 4 * j ∧ Hid ((prfK n).sl Anyw wr kv ks) ∧ Hid (KG = kidsGo (body.drop j) (ks.map PrfD.fact) b) ∧ Hid (Later w1 wr))
    case atStart => exact ⟨0, b0, kids, by omega, rfl, HB2, by omega, HK2, (by rw [List.drop_zero]; exact HKG.out : _ = _), HL2⟩
    case round =>
      clear HB2 HK2 HL2
      obtain ⟨j, b, ks, hj, rfl, HB, hbn, HK, HG, HL⟩ := hrel
      obtain ⟨la, lc, hlv⟩ := Kind.slice HB.out
      obtain ⟨qa, qc, hkv⟩ := Kind.slice HK.out
      subst hlv
      subst hkv
      by_cases hlt : j < body.length
      · obtain ⟨a, ha⟩ : ∃ a, body[j]? = some a := ⟨_, List.getElem?_eq_getElem hlt⟩
        obtain ⟨b1, o1, _, e1, hb1, ⟨xv, hce, htv⟩, hc⟩ := Kind.sl_at HBd.out ha
        subst e1
        subst hce
        have d0 : wr.cell? ⟨b1, o1 + j * 3, none⟩ = some (.bool a.no) := by rw [HL.out.cell (p := ⟨b1, o1 + j * 3, none⟩) hb1]; simpa [atomK] using hc 0 _ rfl
        have d1 : wr.cell? ⟨b1, o1 + j * 3 + 1, none⟩ = some (.string (bs a.name)) := by rw [HL.out.cell (p := ⟨b1, o1 + j * 3 + 1, none⟩) hb1]; simpa [atomK] using hc 1 _ rfl
        have d2 : wr.cell? ⟨b1, o1 + j * 3 + 2, none⟩ = some xv := by rw [HL.out.cell (p := ⟨b1, o1 + j * 3 + 2, none⟩) hb1]; simpa [atomK] using hc 2 _ rfl
        obtain ⟨xa, xc, rfl⟩ := Kind.slice htv
        have hdr : body.drop j = a :: body.drop (j + 1) := by
          obtain ⟨hi, e⟩ := List.getElem?_eq_some_iff.1 ha
          rw [List.drop_eq_getElem_cons hi, e]
        have hat := HBT.out a (List.mem_of_getElem? ha)
        have hg := HG.out
        rw [hdr] at hg
        obtain ⟨wa, hwa⟩ : ∃ wa, wa = wr.alloc (.cells #[.bool a.no, .string (bs a.name), .slice xa a.terms.length xc] 90) := ⟨_, rfl⟩
        have hLa : Later wr wa := by rw [hwa]; exact (Later.refl wr).alloc _
        have hRa : wa.heap[wr.heap.size]? = some (.cells #[.bool a.no, .string (bs a.name), .slice xa a.terms.length xc] 90 (0, 0)) := by rw [hwa]; exact heap_alloc_new wr _
        obtain ⟨c0, c1, c2, hla⟩ := row3m hRa
        have hLA := HL.out.trans hLa
        have HTa := hide (Kind.sl_later htv hLA)
        have HLa := hide hLA
        have HWa := hide hwa
        have HRa := hide hRa
        have HBa := hide (Kind.sl_later HB.out hLa)
        have HKa := hide (Kind.sl_later HK.out hLa)
        clear hc ha htv hwa hLa hRa hLA HB HK HL HG hdr
        cases hno : a.no with
        | true =>
          rw [kidsGo_no hno] at hg
          rw [hno] at d0 HWa c0
          have HG2 := hide hg
          clear hno hg
          generalize bs a.name = nm2 at *
          go_wp2_with (rw [← HWa.out])
          go_roundg (body.length - (j + 1))
          case measure => omega
          case rel => exact ⟨j + 1, b, ks, by omega, by go_num, HBa, by omega, HKa, HG2, HLa⟩
        | false =>
          rw [hno] at d0 HWa c0 HRa
          cases ks with
          | nil =>
            rw [List.map_nil, kidsGo_nil hno] at hg
            have HE : Hid (RR = 5) := by show _ = _; rw [HRR.out, hg]; rfl
            clear hno hg
            generalize bs a.name = nm2 at *
            go_wp2_with (rw [← HWa.out])
            go_ret
            exact ⟨by rw [HE.out]; rfl, HL1.out.trans HLa.out⟩
          | cons k ks =>
            rw [List.map_cons] at hg
            cases n with
            | zero =>
              obtain ⟨c, hc⟩ := sl_mem HKa.out (x := k) (by simp)
              exact hc.elim
            | succ m =>
            obtain ⟨b2, o2, s2, kv2, e2, hb2, _, q0, q1, _, _, hs2, _⟩ := prf_at HKa.out (i := 0) (x := k) rfl
            simp only [Value.slice.injEq] at e2
            obtain ⟨rfl, _, _⟩ := e2
            simp only [Nat.zero_mul, Nat.add_zero] at q0 q1
            obtain ⟨sa2, sc2, rfl⟩ := Kind.slice hs2
            have HTl := hide (sl_tail HKa.out)
            have hqc : (k :: ks).length ≤ qc := HKa.out.1.2
            simp only [List.length_cons] at hqc
            have HMe : Hid (∀ w', Later wa w' → Calls Tryz.prog 76 #[.agg #[.bool false, .string (bs a.name), .slice xa a.terms.length xc], .agg #[.string k.fact.1, .slice sa2 k.fact.2.length sc2], .slice la b.length lc] w' fun e w'' => ∃ v, e = .returned (.tuple #[v, .bool (meetB a k.fact b).isSome]) ∧ MetV w' w'' v (meetB a k.fact b) ∧ Hid (Later w' w'')) := fun w' h => by
              have := meetC a (.slice xa a.terms.length xc) (.agg #[.string k.fact.1, .slice sa2 k.fact.2.length sc2]) (.slice la b.length lc) k.fact b w' (Kind.sl_later HTa.out h) ⟨_, rfl, (sl_strs hs2).later h⟩ (Kind.sl_later HBa.out h) (by omega)
              rw [hno] at this
              exact this
            have HSc : Hid (∀ w', Later wa w' → (w'.cell? ⟨wr.heap.size, 0, none⟩ = some (.bool false) ∧ w'.cell? ⟨wr.heap.size, 0 + 1, none⟩ = some (.string (bs a.name)) ∧ w'.cell? ⟨wr.heap.size, 0 + 2, none⟩ = some (.slice xa a.terms.length xc)) ∧ w'.cell? ⟨b2, o2, none⟩ = some (.string k.fact.1) ∧ w'.cell? ⟨b2, o2 + 1, none⟩ = some (.slice sa2 k.fact.2.length sc2)) := fun w' h => by
              have hra := (h.block hla).trans HRa.out
              refine ⟨⟨?_, ?_, ?_⟩, ?_, ?_⟩
              · rw [cell_of_row _ _ _ _ _ _ hra]; rfl
              · rw [cell_of_row _ _ _ _ _ _ hra]; rfl
              · rw [cell_of_row _ _ _ _ _ _ hra]; rfl
              · rw [h.cell (p := ⟨b2, o2, none⟩) hb2]; exact q0
              · rw [h.cell (p := ⟨b2, o2 + 1, none⟩) hb2]; exact q1
            obtain ⟨o, ho⟩ : ∃ o, o = meetB a k.fact b := ⟨_, rfl⟩
            rw [← ho] at HMe
            have HO := hide ho
            have HNo := hide hno
            have HGk := hide hg
            obtain ⟨⟨kn, kargs⟩, krl, kk⟩ := k
            dsimp only [PrfD.fact, PrfD.rule, PrfD.kids] at *
            clear hno hg ho hs2 q0 q1 HKa
            generalize bs a.name = nm2 at *
            have hlp : (0 : Int) < ((ks.length + 1 : Nat) : Int) := by omega
            have hl1 : (1 : Int) ≤ ((ks.length + 1 : Nat) : Int) := by omega
            have hle : (((ks.length + 1 : Nat) : Int) == 0) = false := by simp; omega
            go_wp2_with (rw [← HWa.out])
            refine wp_region_held_drew (S := fun w' => Later wa w') (by kernel_rfl) (Later.refl wa).drew (fun hHeld => ?_)
            refine take_yes (i := 0) (d := some 37) (v := ?_) rfl rfl hHeld ?_ ?_; rotate_left; focus intro w hSw; (try dsimp only at hSw); obtain ⟨⟨p0, p1, p2⟩, p3, p4⟩ := HSc.out _ hSw; go_simp; try with_reducible rfl
            simp only [aput, aset, aze, asu]
            refine take_yes (i := 1) (d := some 38) (v := ?_) rfl rfl hHeld ?_ ?_; rotate_left; focus intro w hSw; (try dsimp only at hSw);  go_simp; try with_reducible rfl
            simp only [aput, aset, aze, asu]
            refine take_yes (i := 2) (d := some 39) (v := ?_) rfl rfl hHeld ?_ ?_; rotate_left; focus intro w hSw; (try dsimp only at hSw);  go_simp; try with_reducible rfl
            simp only [aput, aset, aze, asu]
            refine take_yes (i := 3) (d := some 40) (v := ?_) rfl rfl hHeld ?_ ?_; rotate_left; focus intro w hSw; (try dsimp only at hSw);  go_simp; try with_reducible rfl
            simp only [aput, aset, aze, asu]
            refine take_yes (i := 4) (d := some 41) (v := ?_) rfl rfl hHeld ?_ ?_; rotate_left; focus intro w hSw; (try dsimp only at hSw); obtain ⟨⟨p0, p1, p2⟩, p3, p4⟩ := HSc.out _ hSw; go_simp; try with_reducible rfl
            simp only [aput, aset, aze, asu]
            refine take_yes (i := 5) (d := some 42) (v := ?_) rfl rfl hHeld ?_ ?_; rotate_left; focus intro w hSw; (try dsimp only at hSw);  go_simp; try with_reducible rfl
            simp only [aput, aset, aze, asu]
            refine wpAnyH_ready (rs := [6]) (by kernel_rfl) (by simp) ?_
            refine AllReadyH.cons rfl (fun K hK => ?_) AllReadyH.nil
            go_simp
            refine (HMe.out _ hHeld).mono ?_
            rintro e w4 ⟨v4, rfl, hv4, hL4⟩
            have hL4' := hHeld.trans hL4.out
            have hv4s : ∃ a n c, v4 = .slice a n c := by
              cases o with
              | none => exact ⟨_, _, _, hv4⟩
              | some m => obtain ⟨a, c, e⟩ := Kind.own_slice (K := bindK) hv4; exact ⟨a, _, c, e⟩
            obtain ⟨a4, n4, c4, rfl⟩ := hv4s
            refine hK.out _ _ hL4' (fun hHeld => ?_)
            clear hK K
            refine take_yes (i := 7) (d := some 36) (v := ?_) rfl rfl hHeld ?_ ?_; rotate_left; focus intro w hSw; (try dsimp only at hSw);  go_simp; try with_reducible rfl
            simp only [aput, aset, aze, asu]
            refine take_yes (i := 8) (d := some 44) (v := ?_) rfl rfl hHeld ?_ ?_; rotate_left; focus intro w hSw; (try dsimp only at hSw);  go_simp; try with_reducible rfl
            simp only [aput, aset, aze, asu]
            refine take_yes (i := 9) (d := some 45) (v := ?_) rfl rfl hHeld ?_ ?_; rotate_left; focus intro w hSw; (try dsimp only at hSw);  go_simp; try with_reducible rfl
            simp only [aput, aset, aze, asu]
            refine take_yes (i := 10) (d := some 7) (v := ?_) rfl rfl hHeld ?_ ?_; rotate_left; focus intro w hSw; (try dsimp only at hSw);  go_simp; try with_reducible rfl
            simp only [aput, aset, aze, asu]
            refine take_yes (i := 11) (d := some 8) (v := ?_) rfl rfl hHeld ?_ ?_; rotate_left; focus intro w hSw; (try dsimp only at hSw);  go_simp; try with_reducible rfl
            simp only [aput, aset, aze, asu]
            refine wpAnyH_done (by kernel_rfl) ?_ _
            clear hHeld
            cases o with
            | none =>
              have HE : Hid (RR = 8) := by
                show _ = _
                have := HGk.out
                rw [kidsGo_bad HNo.out HO.out.symm] at this
                rw [HRR.out, this]; rfl
              have HL4 := hide (HL1.out.trans (HLa.out.trans hL4'))
              simp only [Option.isSome_none]
              clear hL4 hL4' hv4 HMe HSc HGk HO HRR
              go_wp2
              go_ret
              exact ⟨by rw [HE.out]; rfl, HL4.out⟩
            | some b4 =>
              have hv4' : bindK.own 117 wa.drew.heap.size w4 (.slice a4 n4 c4) b4 := hv4
              have hb4 := meetB_le HO.out.symm
              have hs4 : bindK.sl Anyw w4 (.slice a4 n4 c4) b4 := Kind.sl_any (Kind.own_sl hv4' (by omega))
              have HG4 : Hid (KG = kidsGo (body.drop (j + 1)) (ks.map PrfD.fact) b4) := by
                show _ = _
                have := HGk.out
                rw [kidsGo_met HNo.out HO.out.symm] at this
                exact this
              have HS4 := hide hs4
              have HL4 := hide (HLa.out.trans hL4')
              obtain ⟨ta4, hta4⟩ : ∃ z, (if qc = 1 then some (⟨b2, o2, none⟩ : Addr) else some ⟨b2, o2 + 4, none⟩) = z := ⟨_, rfl⟩
              have HT4 : Hid ((prfK (m + 1)).sl Anyw w4 (.slice ta4 ks.length (qc - 1)) ks) := by
                show Kind.sl _ _ _ _ _
                rw [← hta4]
                exact Kind.sl_later HTl.out hL4'
              have hb4' : b4.length ≤ 4 + 4 * (j + 1) := by omega
              simp only [Option.isSome_some]
              clear hL4 hL4' hv4 hv4' hs4 HMe HSc HGk HO HTl hb4 HBa
              go_wp2
              go_roundg (body.length - (j + 1))
              case measure => omega
              case rel => exact ⟨j + 1, b4, ks, by omega, by go_num, HS4, hb4', HT4, HG4, HL4⟩
      · have hg := HG.out
        rw [List.drop_eq_nil_of_le (by omega)] at hg
        cases ks with
        | cons k ks =>
          have HE : Hid (RR = 5) := by
            show _ = _
            rw [HRR.out, hg]; rfl
          have hlp : (0 : Int) < ((ks.length + 1 : Nat) : Int) := by omega
          clear hg HG HB HK HBar
          simp only [List.length_cons] at *
          go_wp2
          go_ret
          exact ⟨by rw [HE.out]; rfl, HL1.out.trans HL.out⟩
        | nil =>
          have HE : Hid (RR = barX all body b) := by
            show _ = _
            rw [HRR.out, hg]; rfl
          have HBr := hide (HBar.out b _ wr HL.out HB.out)
          have hr0 := (HL.out.block (by omega)).trans HR0.out
          have hr1 := (HL.out.block (by omega)).trans HR1.out
          have g0 : wr.cell? ⟨w.heap.size, 0, none⟩ = some (.slice pa pn pc) := by rw [cell_of_row _ _ _ _ _ _ hr0]; rfl
          have g1 : wr.cell? ⟨w.heap.size, 0 + 1, none⟩ = some (.slice ta tn tc) := by rw [cell_of_row _ _ _ _ _ _ hr0]; rfl
          have g2 : wr.cell? ⟨w.heap.size, 0 + 2, none⟩ = some (.slice aa all.length ac) := by rw [cell_of_row _ _ _ _ _ _ hr0]; rfl
          have g3 : wr.cell? ⟨w.heap.size + 1, 3, none⟩ = some (.slice ba body.length bc) := by rw [cell_of_row _ _ _ _ _ _ hr1]; rfl
          clear hg HG HB HK HBar hr0 hr1
          generalize barX all body b = BE at *
          go_wp2_with fail
          refine HBr.out.mono ?_
          rintro e w5 ⟨rfl, hL5⟩
          have HL5 := hide (HL1.out.trans (HL.out.trans hL5))
          clear hL5 HBr
          go_wp2
          go_ret
          exact ⟨by rw [HE.out]; rfl, HL5.out⟩

end Go.Proofs.YtkihcabplbbjcaaGreatDoor

/- What is wrong with a proof: the walk of ground.wrong. -/
namespace Go.Proofs.YtkihcabplbbjcaaGreatDoor
open Go.RowKit Go.Sort

theorem kids_deep {n : Nat} {B : Nat → Prop} {w : World} {v : Value} {l : List PrfD} (h : (prfK n).sl B w v l) (hl : l ≠ []) : ∃ m, n = m + 1 := by
  cases n with
  | succ m => exact ⟨m, rfl⟩
  | zero =>
    cases l with
    | nil => exact absurd rfl hl
    | cons x l =>
      obtain ⟨c, hc⟩ := sl_mem h (x := x) (by simp)
      exact hc.elim

theorem firstE_drop {g : PrfD → Int} : ∀ {l : List PrfD} {j : Nat} {x : PrfD}, l[j]? = some x → firstE g (l.drop j) = if g x ≠ 0 then g x else firstE g (l.drop (j + 1)) := fun {l j x} h => by
  obtain ⟨hi, e⟩ := List.getElem?_eq_some_iff.1 h
  rw [List.drop_eq_getElem_cons hi, e]
  rfl

theorem wrongX_told {p : List RuleD} {told all : List FactB} {n : Nat} {f : FactB} {rl : Int} {kids : List PrfD} (h1 : rl = -1) (h2 : kids = []) (h3 : inB told f = true) : wrongX p told all (n + 1) (.mk f rl kids) = 0 := by
  subst h1 h2
  unfold wrongX
  show (if (-1 : Int) < 0 then (if (-1 : Int) = -1 ∧ ([] : List PrfD) = [] ∧ inB told f = true then (0 : Int) else 6) else _) = 0
  rw [if_pos (by decide), if_pos ⟨rfl, rfl, h3⟩]

theorem wrongX_six {p : List RuleD} {told all : List FactB} {n : Nat} {f : FactB} {rl : Int} {kids : List PrfD} (h : rl < 0) (h1 : ¬ (rl = -1 ∧ kids = [] ∧ inB told f = true)) : wrongX p told all (n + 1) (.mk f rl kids) = 6 := by
  unfold wrongX
  show (if rl < 0 then (if rl = -1 ∧ kids = [] ∧ inB told f = true then (0 : Int) else 6) else _) = 6
  rw [if_pos h, if_neg h1]

theorem wrongX_kind {p : List RuleD} {told all : List FactB} {n i : Nat} {f : FactB} {kids : List PrfD} (h : p[i]? = none) : wrongX p told all (n + 1) (.mk f (i : Int) kids) = 1 := by
  unfold wrongX
  show (if (i : Int) < 0 then _ else match p[((i : Int)).toNat]? with | none => (1 : Int) | some r => _) = 1
  rw [if_neg (by omega), Int.toNat_natCast, h]

theorem wrongX_step {p : List RuleD} {told all : List FactB} {n i : Nat} {f : FactB} {kids : List PrfD} {r : RuleD} (h : p[i]? = some r) : wrongX p told all (n + 1) (.mk f (i : Int) kids) = if stepE all r f (kids.map PrfD.fact) ≠ 0 then stepE all r f (kids.map PrfD.fact) else firstE (wrongX p told all n) kids := by
  conv => lhs; unfold wrongX
  show (if (i : Int) < 0 then _ else match p[((i : Int)).toNat]? with | none => (1 : Int) | some r => if stepE all r f (kids.map PrfD.fact) ≠ 0 then stepE all r f (kids.map PrfD.fact) else firstE (wrongX p told all n) kids) = _
  rw [if_neg (by omega), Int.toNat_natCast, h]

set_option maxRecDepth 100000 in
set_option maxHeartbeats 8000000 in
theorem wrongXC (p : List RuleD) (told all : List FactB) (hsh : ∀ r ∈ p, r.head.terms.length ≤ 4 ∧ r.body.length ≤ 5 ∧ ∀ a ∈ r.body, a.terms.length ≤ 4) (hpl : p.length ≤ 16) (hrt : Rises told) (hra : Rises all) :
    ∀ (n : Nat) (x : PrfD) (pv tv av xv : Value) (w : World), ruleK.sl Anyw w pv p → Facts w tv told → Facts w av all → PrfV n Anyw w xv x →
    Calls Tryz.prog 22 #[.agg #[pv, tv, av], xv] w fun e w' => e = .returned (.int .i64 (wrongX p told all (n + 1) x)) ∧ Later w w'
  | n, x, pv, tv, av, xv, w, hp, ht, ha, hx => by
    have IH : ∀ m, n = m + 1 → ∀ (k : PrfD) (kv : Value) (w' : World), Later w w' → PrfV m Anyw w' kv k → Calls Tryz.prog 22 #[.agg #[pv, tv, av], kv] w' fun e w'' => e = .returned (.int .i64 (wrongX p told all n k)) ∧ Later w' w'' := fun m hm k kv w' hL hk => by
      have := wrongXC p told all hsh hpl hrt hra m k pv tv av kv w' (Kind.sl_later hp hL) (ht.later hL) (ha.later hL) hk
      rw [hm]
      exact this
    obtain ⟨s, kv, rfl, hs, hkv⟩ := hx
    obtain ⟨pa, pc, rfl⟩ := Kind.slice hp
    obtain ⟨ta, tc, rfl⟩ := sliceFacts ht
    obtain ⟨aa, ac, rfl⟩ := sliceFacts ha
    obtain ⟨sa, sc, rfl⟩ := Kind.slice hs
    obtain ⟨ka, kc, rfl⟩ := Kind.slice hkv
    have hkl := hkv.1.1
    obtain ⟨w1, hw1⟩ : ∃ w1, w1 = (w.alloc (.cells #[.slice pa p.length pc, .slice ta told.length tc, .slice aa all.length ac] 54)).alloc (.cells #[.string x.fact.1, .slice sa x.fact.2.length sc, .int .i64 x.rule, .slice ka x.kids.length kc] 30) := ⟨_, rfl⟩
    have hL1 : Later w w1 := by rw [hw1]; exact ((Later.refl w).alloc _).alloc _
    have hs1 : w1.heap.size = w.heap.size + 2 := by rw [hw1]; simp
    have hr0 : w1.heap[w.heap.size]? = some (.cells #[.slice pa p.length pc, .slice ta told.length tc, .slice aa all.length ac] 54 (0, 0)) := by
      rw [hw1]; simp only [heap_at, World.size_alloc]
      repeat (first | rw [if_pos trivial] | rw [if_pos (by omega)] | rw [if_neg (by omega)])
    have hr1 : w1.heap[w.heap.size + 1]? = some (.cells #[.string x.fact.1, .slice sa x.fact.2.length sc, .int .i64 x.rule, .slice ka x.kids.length kc] 30 (0, 0)) := by
      rw [hw1]; simp only [heap_at, World.size_alloc]
      repeat (first | rw [if_pos trivial] | rw [if_pos (by omega)] | rw [if_neg (by omega)])
    have HIn := hide (inC (.slice ta told.length tc) (.agg #[.string x.fact.1, .slice sa x.fact.2.length sc]) told x.fact w1 (ht.later hL1) ⟨_, rfl, (sl_strs hs).later hL1⟩ hrt)
    have HIH := hide IH
    have HSt : Hid (∀ (r : RuleD) (hv bv : Value) (w' : World), r ∈ p → Later w1 w' → termK.sl Anyw w' hv r.head.terms → atomK.sl Anyw w' bv r.body → Calls Tryz.prog 42 #[.agg #[.slice pa p.length pc, .slice ta told.length tc, .slice aa all.length ac], .agg #[.bool r.head.no, .string (bs r.head.name), hv, bv], .agg #[.string x.fact.1, .slice sa x.fact.2.length sc, .int .i64 x.rule, .slice ka x.kids.length kc]] w' fun e w'' => e = .returned (.int .i64 (stepE all r x.fact (x.kids.map PrfD.fact))) ∧ Later w' w'') := fun r hv bv w' hr h h1 h2 =>
      wrongStepP all r x n _ _ _ hv bv _ w' ⟨_, _, _, rfl⟩ ⟨_, _, _, rfl⟩ ((ha.later hL1).later h) hra h1 h2 ⟨_, _, rfl, Kind.sl_later (Kind.sl_later hs hL1) h, Kind.sl_later (Kind.sl_later hkv hL1) h⟩ (hsh r hr).1 (hsh r hr).2.1 (hsh r hr).2.2
    have HPv := hide (Kind.sl_later hp hL1)
    have HKv := hide (Kind.sl_later hkv hL1)
    have HL1 := hide hL1
    have HR0 := hide hr0
    have HR1 := hide hr1
    have HW1 := hide hw1
    have HC : Hid (∀ w', Later w1 w' → (w'.cell? ⟨w.heap.size, 0, none⟩ = some (.slice pa p.length pc) ∧ w'.cell? ⟨w.heap.size, 0 + 1, none⟩ = some (.slice ta told.length tc) ∧ w'.cell? ⟨w.heap.size, 0 + 2, none⟩ = some (.slice aa all.length ac)) ∧
        (w'.cell? ⟨w.heap.size + 1, 0, none⟩ = some (.string x.fact.1) ∧ w'.cell? ⟨w.heap.size + 1, 0 + 1, none⟩ = some (.slice sa x.fact.2.length sc) ∧ w'.cell? ⟨w.heap.size + 1, 0 + 2, none⟩ = some (.int .i64 x.rule) ∧ w'.cell? ⟨w.heap.size + 1, 0 + 3, none⟩ = some (.slice ka x.kids.length kc)) ∧ w'.cell? ⟨w.heap.size, 1, none⟩ = some (.slice ta told.length tc) ∧ w'.cell? ⟨w.heap.size + 1, 2, none⟩ = some (.int .i64 x.rule) ∧ w'.cell? ⟨w.heap.size + 1, 3, none⟩ = some (.slice ka x.kids.length kc)) := fun w' h => by
      have h0 := (h.block (by omega)).trans hr0
      have h1 := (h.block (by omega)).trans hr1
      refine ⟨⟨?_, ?_, ?_⟩, ⟨?_, ?_, ?_, ?_⟩, ?_, ?_, ?_⟩
      · rw [cell_of_row _ _ _ _ _ _ h0]; rfl
      · rw [cell_of_row _ _ _ _ _ _ h0]; rfl
      · rw [cell_of_row _ _ _ _ _ _ h0]; rfl
      · rw [cell_of_row _ _ _ _ _ _ h1]; rfl
      · rw [cell_of_row _ _ _ _ _ _ h1]; rfl
      · rw [cell_of_row _ _ _ _ _ _ h1]; rfl
      · rw [cell_of_row _ _ _ _ _ _ h1]; rfl
      · rw [cell_of_row _ _ _ _ _ _ h0]; rfl
      · rw [cell_of_row _ _ _ _ _ _ h1]; rfl
      · rw [cell_of_row _ _ _ _ _ _ h1]; rfl
    obtain ⟨RR, hRR⟩ : ∃ RR : Int, RR = wrongX p told all (n + 1) x := ⟨_, rfl⟩
    rw [← hRR]
    obtain ⟨⟨g0, g1, g2⟩, ⟨x0, x1, x2, x3⟩, v1, v2, v3⟩ := HC.out w1 (Later.refl _)
    clear hp ht ha hs hkv hL1 hr0 hr1 hw1 IH
    obtain ⟨⟨fn, fargs⟩, rl, kids⟩ := x
    dsimp only [PrfD.fact, PrfD.rule, PrfD.kids] at *
    by_cases hneg : rl < 0
    · rw [in_eq] at HIn
      by_cases h1 : rl = -1
      · by_cases h2 : kids = []
        · have hz : decide (0 < kids.length) = false := by rw [h2]; rfl
          cases hi : inB told (fn, fargs) with
          | true =>
            rw [wrongX_told h1 h2 hi] at hRR
            rw [hi] at HIn
            have HE := hide hRR
            subst h1
            clear hRR hi h2 HSt HIH
            go_enter Tryz.func22, Tryz.ntmps22
            go_wp2_with (first | (rw [← HW1.out]) | fail)
            refine HIn.out.mono ?_
            rintro e w2 ⟨rfl, hL2⟩
            have HL2 := hide (HL1.out.trans hL2)
            clear hL2 HIn
            go_wp2
            go_ret
            exact ⟨by rw [HE.out]; rfl, HL2.out⟩
          | false =>
            rw [wrongX_six hneg (by rw [hi]; simp)] at hRR
            rw [hi] at HIn
            have HE := hide hRR
            subst h1
            clear hRR hi h2 HSt HIH
            go_enter Tryz.func22, Tryz.ntmps22
            go_wp2_with (first | (rw [← HW1.out]) | fail)
            refine HIn.out.mono ?_
            rintro e w2 ⟨rfl, hL2⟩
            have HL2 := hide (HL1.out.trans hL2)
            clear hL2 HIn
            go_wp2
            go_ret
            exact ⟨by rw [HE.out]; rfl, HL2.out⟩
        · have hz : decide (0 < kids.length) = true := decide_eq_true (List.length_pos_iff.2 h2)
          rw [wrongX_six hneg (fun h => h2 h.2.1)] at hRR
          have HE := hide hRR
          subst h1
          clear hRR h2 HSt HIH HIn
          go_enter Tryz.func22, Tryz.ntmps22
          go_wp2_with (first | (rw [← HW1.out]) | fail)
          go_ret
          exact ⟨by rw [HE.out]; rfl, HL1.out⟩
      · have hq : (rl != -1) = true := by simpa using h1
        rw [wrongX_six hneg (fun h => h1 h.1)] at hRR
        have HE := hide hRR
        clear hRR h1 HSt HIH HIn
        go_enter Tryz.func22, Tryz.ntmps22
        go_wp2_with (first | (rw [← HW1.out]) | fail)
        go_ret
        exact ⟨by rw [HE.out]; rfl, HL1.out⟩
    · obtain ⟨i, hi⟩ : ∃ i : Nat, rl = (i : Int) := ⟨rl.toNat, by omega⟩
      subst hi
      by_cases hge : p.length ≤ i
      · have hgi : ((p.length : Int) ≤ (i : Int)) := by omega
        rw [wrongX_kind (List.getElem?_eq_none hge)] at hRR
        have HE := hide hRR
        clear hRR HSt HIH HIn hge
        go_enter Tryz.func22, Tryz.ntmps22
        go_wp2_with (first | (rw [← HW1.out]) | fail)
        go_ret
        exact ⟨by rw [HE.out]; rfl, HL1.out⟩
      · have hgi : ¬ ((p.length : Int) ≤ (i : Int)) := by omega
        obtain ⟨r, hr⟩ : ∃ r, p[i]? = some r := ⟨_, List.getElem?_eq_getElem (by omega)⟩
        rw [wrongX_step hr] at hRR
        obtain ⟨b1, o1, _, e1, hb1, hri, hc⟩ := Kind.sl_at HPv.out hr
        subst e1
        obtain ⟨hv, bv, hce, hhv, hbv⟩ := hri
        subst hce
        obtain ⟨ha', hc', rfl⟩ := Kind.slice hhv
        obtain ⟨ba, bc, rfl⟩ := Kind.slice hbv
        have HRc : Hid (∀ w', Later w1 w' → w'.cell? ⟨b1, o1 + i * 4, none⟩ = some (.bool r.head.no) ∧ w'.cell? ⟨b1, o1 + i * 4 + 1, none⟩ = some (.string (bs r.head.name)) ∧ w'.cell? ⟨b1, o1 + i * 4 + 2, none⟩ = some (.slice ha' r.head.terms.length hc') ∧ w'.cell? ⟨b1, o1 + i * 4 + 3, none⟩ = some (.slice ba r.body.length bc)) := fun w' h =>
          ⟨by rw [h.cell (p := ⟨b1, o1 + i * 4, none⟩) hb1]; simpa [ruleK] using hc 0 _ rfl, by rw [h.cell (p := ⟨b1, o1 + i * 4 + 1, none⟩) hb1]; simpa [ruleK] using hc 1 _ rfl, by rw [h.cell (p := ⟨b1, o1 + i * 4 + 2, none⟩) hb1]; simpa [ruleK] using hc 2 _ rfl, by rw [h.cell (p := ⟨b1, o1 + i * 4 + 3, none⟩) hb1]; simpa [ruleK] using hc 3 _ rfl⟩
        have HS : Hid (∀ w', Later w1 w' → _) := fun w' h => HSt.out r (.slice ha' r.head.terms.length hc') (.slice ba r.body.length bc) w' (List.mem_of_getElem? hr) h (Kind.sl_later hhv h) (Kind.sl_later hbv h)
        obtain ⟨SE, hSE⟩ : ∃ SE, SE = stepE all r (fn, fargs) (kids.map PrfD.fact) := ⟨_, rfl⟩
        rw [← hSE] at hRR HS
        have HRR := hide hRR
        have hil : (i : Int) < (p.length : Int) := by omega
        have hil2 : i < p.length := by omega
        have h0i : (0 : Int) ≤ (i : Int) := by omega
        clear hRR hr hc hhv hbv HSt HIn hSE
        generalize bs r.head.name = nm at *
        generalize r.head.no = no at *
        go_enter Tryz.func22, Tryz.ntmps22
        go_wp2_with (first | (rw [← HW1.out]) | fail)
        refine wp_region_held_drew (S := fun w' => Later w1 w') (by kernel_rfl) (Later.refl w1).drew (fun hHeld => ?_)
        refine take_yes (i := 0) (d := some 35) (v := ?_) rfl rfl hHeld ?_ ?_; rotate_left; focus intro w hSw; (try dsimp only at hSw); obtain ⟨⟨p0, p1, p2⟩, ⟨p3, p4, p5, p6⟩, p7, p8, p9⟩ := HC.out _ hSw; go_simp; try with_reducible rfl
        simp only [aput, aset, aze, asu]
        refine take_yes (i := 1) (d := some 36) (v := ?_) rfl rfl hHeld ?_ ?_; rotate_left; focus intro w hSw; (try dsimp only at hSw);  go_simp; try with_reducible rfl
        simp only [aput, aset, aze, asu]
        refine take_yes (i := 2) (d := some 37) (v := ?_) rfl rfl hHeld ?_ ?_; rotate_left; focus intro w hSw; (try dsimp only at hSw); obtain ⟨⟨p0, p1, p2⟩, ⟨p3, p4, p5, p6⟩, p7, p8, p9⟩ := HC.out _ hSw; go_simp; try with_reducible rfl
        simp only [aput, aset, aze, asu]
        refine take_yes (i := 3) (d := some 38) (v := ?_) rfl rfl hHeld ?_ ?_; rotate_left; focus intro w hSw; (try dsimp only at hSw);  go_simp; try with_reducible rfl
        simp only [aput, aset, aze, asu]
        refine take_yes (i := 4) (d := some 39) (v := ?_) rfl rfl hHeld ?_ ?_; rotate_left; focus intro w hSw; (try dsimp only at hSw); obtain ⟨⟨p0, p1, p2⟩, ⟨p3, p4, p5, p6⟩, p7, p8, p9⟩ := HC.out _ hSw; go_simp; try with_reducible rfl
        simp only [aput, aset, aze, asu]
        refine take_yes (i := 5) (d := some 40) (v := ?_) rfl rfl hHeld ?_ ?_; rotate_left; focus intro w hSw; (try dsimp only at hSw);  go_simp; try with_reducible rfl
        simp only [aput, aset, aze, asu]
        refine take_yes (i := 6) (d := some 41) (v := ?_) rfl rfl hHeld ?_ ?_; rotate_left; focus intro w hSw; (try dsimp only at hSw); obtain ⟨p0, p1, p2, p3⟩ := HRc.out _ hSw; go_simp; try with_reducible rfl
        simp only [aput, aset, aze, asu]
        refine take_yes (i := 7) (d := some 42) (v := ?_) rfl rfl hHeld ?_ ?_; rotate_left; focus intro w hSw; (try dsimp only at hSw); obtain ⟨⟨p0, p1, p2⟩, ⟨p3, p4, p5, p6⟩, p7, p8, p9⟩ := HC.out _ hSw; go_simp; try with_reducible rfl
        simp only [aput, aset, aze, asu]
        refine wpAnyH_ready (rs := [8]) (by kernel_rfl) (by simp) ?_
        refine AllReadyH.cons rfl (fun K hK => ?_) AllReadyH.nil
        go_simp
        refine (HS.out _ hHeld).mono ?_
        rintro e w2 ⟨rfl, hL2⟩
        have hL2' := hHeld.trans hL2
        refine hK.out _ _ hL2' (fun hHeld => ?_)
        clear hK K
        refine take_yes (i := 9) (d := some 5) (v := ?_) rfl rfl hHeld ?_ ?_; rotate_left; focus intro w hSw; (try dsimp only at hSw);  go_simp; try with_reducible rfl
        simp only [aput, aset, aze, asu]
        refine wpAnyH_done (by kernel_rfl) ?_ _
        clear hHeld hL2
        have HL2 := hide hL2'
        by_cases h0 : SE = 0
        · have HE : Hid (RR = firstE (wrongX p told all n) kids) := by show _ = _; rw [HRR.out, if_neg (by rw [h0]; simp)]
          subst h0
          have y3' : w2.cell? ⟨w.heap.size + 1, 3, none⟩ = some (.slice ka kids.length kc) := (HC.out _ hL2').2.2.2.2
          clear hL2' HRR HS
          go_wp2
          clear y3'
          go_loopg [50] kids.length (fun g i wr => ∃ j : Nat, j + g = kids.length ∧ i = .int .i64 j ∧ Hid (RR = firstE (wrongX p told all n) (kids.drop j)) ∧ Hid (Later w1 wr))
          case atStart => exact ⟨0, by omega, rfl, HE, HL2⟩
          case round =>
            clear HE HL2
            obtain ⟨j, hj, rfl, HE, HL⟩ := hrel
            by_cases hlt : j < kids.length
            · obtain ⟨k, hk⟩ : ∃ k, kids[j]? = some k := ⟨_, List.getElem?_eq_getElem hlt⟩
              obtain ⟨m, hm⟩ := kids_deep HKv.out (by intro e; rw [e] at hlt; simp at hlt)
              have hKv := HKv.out
              rw [hm] at hKv
              obtain ⟨b2, o2, s2, kv2, e2, hb2, _, q0, q1, q2, q3, hs2, hk2⟩ := prf_at hKv hk
              simp only [Value.slice.injEq] at e2
              obtain ⟨rfl, _, _⟩ := e2
              obtain ⟨sa2, sc2, rfl⟩ := Kind.slice hs2
              obtain ⟨ka2, kc2, rfl⟩ := Kind.slice hk2
              have d0 : wr.cell? ⟨b2, o2 + j * 4, none⟩ = some (.string k.fact.1) := by rw [HL.out.cell (p := ⟨b2, o2 + j * 4, none⟩) hb2]; exact q0
              have d1 : wr.cell? ⟨b2, o2 + j * 4 + 1, none⟩ = some (.slice sa2 k.fact.2.length sc2) := by rw [HL.out.cell (p := ⟨b2, o2 + j * 4 + 1, none⟩) hb2]; exact q1
              have d2 : wr.cell? ⟨b2, o2 + j * 4 + 2, none⟩ = some (.int .i64 k.rule) := by rw [HL.out.cell (p := ⟨b2, o2 + j * 4 + 2, none⟩) hb2]; exact q2
              have d3 : wr.cell? ⟨b2, o2 + j * 4 + 3, none⟩ = some (.slice ka2 k.kids.length kc2) := by rw [HL.out.cell (p := ⟨b2, o2 + j * 4 + 3, none⟩) hb2]; exact q3
              obtain ⟨wk, hwk⟩ : ∃ wk, wk = wr.alloc (.cells #[.string k.fact.1, .slice sa2 k.fact.2.length sc2, .int .i64 k.rule, .slice ka2 k.kids.length kc2] 30) := ⟨_, rfl⟩
              have hLk : Later wr wk := by rw [hwk]; exact (Later.refl wr).alloc _
              have hRk : wk.heap[wr.heap.size]? = some (.cells #[.string k.fact.1, .slice sa2 k.fact.2.length sc2, .int .i64 k.rule, .slice ka2 k.kids.length kc2] 30 (0, 0)) := by rw [hwk]; exact heap_alloc_new wr _
              have hLK := HL.out.trans hLk
              have k0 : wk.cell? ⟨wr.heap.size, 0, none⟩ = some (.string k.fact.1) := by rw [cell_of_row _ _ _ _ _ _ hRk]; rfl
              have k1 : wk.cell? ⟨wr.heap.size, 0 + 1, none⟩ = some (.slice sa2 k.fact.2.length sc2) := by rw [cell_of_row _ _ _ _ _ _ hRk]; rfl
              have k2 : wk.cell? ⟨wr.heap.size, 0 + 2, none⟩ = some (.int .i64 k.rule) := by rw [cell_of_row _ _ _ _ _ _ hRk]; rfl
              have k3 : wk.cell? ⟨wr.heap.size, 0 + 3, none⟩ = some (.slice ka2 k.kids.length kc2) := by rw [cell_of_row _ _ _ _ _ _ hRk]; rfl
              obtain ⟨⟨z0, z1, z2⟩, _⟩ := HC.out wk hLK
              have HCl := hide (HIH.out m hm k (.agg #[.string k.fact.1, .slice sa2 k.fact.2.length sc2, .int .i64 k.rule, .slice ka2 k.kids.length kc2]) wk (HL1.out.trans hLK) ⟨_, _, rfl, Kind.sl_later hs2 hLK, Kind.sl_later hk2 hLK⟩)
              have hfd := firstE_drop (g := wrongX p told all n) hk
              have HLK := hide hLK
              have HWk := hide hwk
              obtain ⟨G, hG⟩ : ∃ G, G = wrongX p told all n k := ⟨_, rfl⟩
              rw [← hG] at HCl hfd
              have HFd := hide hfd
              obtain ⟨⟨kn, kargs⟩, krl, kk⟩ := k
              dsimp only [PrfD.fact, PrfD.rule, PrfD.kids] at *
              clear hk hKv q0 q1 q2 q3 hs2 hk2 hwk hLk hRk hLK hfd hG hm
              go_wp2_with (first | (rw [← HWk.out]) | fail)
              refine HCl.out.mono ?_
              rintro e w3 ⟨rfl, hL3⟩
              have HL3 := hide (HLK.out.trans hL3)
              clear hL3 HCl d0 d1 d2 d3 k0 k1 k2 k3 z0 z1 z2
              by_cases hG0 : G = 0
              · have HE2 : Hid (RR = firstE (wrongX p told all n) (kids.drop (j + 1))) := by show _ = _; rw [HE.out, HFd.out, if_neg (by rw [hG0]; simp)]
                subst hG0
                clear HFd HE
                go_wp2
                go_roundg (kids.length - (j + 1))
                case measure => omega
                case rel => exact ⟨j + 1, by omega, by go_num, HE2, HL3⟩
              · have hq : (G != 0) = true := by simpa using hG0
                have HE2 : Hid (RR = G) := by show _ = _; rw [HE.out, HFd.out, if_pos hG0]
                clear HFd HE hG0
                go_wp2
                go_ret
                exact ⟨by rw [HE2.out]; rfl, HL1.out.trans HL3.out⟩
            · have HE2 : Hid (RR = 0) := by show _ = _; rw [HE.out, List.drop_eq_nil_of_le (by omega)]; rfl
              clear HE
              go_wp2
              go_ret
              exact ⟨by rw [HE2.out]; rfl, HL1.out.trans HL.out⟩
        · have hq : (SE != 0) = true := by simpa using h0
          have HE : Hid (RR = SE) := by show _ = _; rw [HRR.out, if_pos h0]
          clear hL2' HRR HS h0
          go_wp2
          go_ret
          exact ⟨by rw [HE.out]; rfl, HL1.out.trans HL2.out⟩

end Go.Proofs.YtkihcabplbbjcaaGreatDoor

/- What Wrong says of a fact, plain. -/
namespace Go.Proofs.YtkihcabplbbjcaaGreatDoor
open Go.RowKit Go.Sort

theorem named_short {s : ByteArray} (h : isNamed (raw s) = true) : s.size ≤ 12 := by
  unfold isNamed at h
  simp only [Bool.and_eq_true, decide_eq_true_eq] at h
  rw [length_raw] at h
  exact h.1.1

theorem wrongF_right {f : FactB} : wrongF f = 0 ↔ RightF f := by
  unfold wrongF RightF
  rw [namedB_eq]
  constructor
  · intro h
    split at h
    · simp at h
    · rename_i h1
      split at h
      · simp at h
      · rename_i h2
        split at h
        · simp at h
        · rename_i h3
          refine ⟨by simpa using h1, by omega, fun s hs => ?_⟩
          cases e : isNamed (raw s) with
          | true => rfl
          | false =>
            exfalso
            refine h3 ?_
            unfold noName
            rw [List.drop_zero, List.any_eq_true]
            exact ⟨s, hs, by rw [namedB_eq, e]; rfl⟩
  · rintro ⟨h1, h2, h3⟩
    rw [if_neg (by simp [h1]), if_neg (by omega), if_neg]
    intro h
    unfold noName at h
    rw [List.drop_zero, List.any_eq_true] at h
    obtain ⟨s, hs, hn⟩ := h
    rw [namedB_eq, h3 s hs] at hn
    cases hn

end Go.Proofs.YtkihcabplbbjcaaGreatDoor

/-
  DERIVED: THE SHELF's CONTRACTS AT THIS DUMP, IN PLAIN WORDS (tools/lay-plain.mjs out of 'TryzStrLay.lean', which tools/lay-shelf.mjs wrote): THE SAME DECLARATIONS UNDER THE SAME NAMES: 'import', 'namespace', 'open', 'def', 'theorem' AND NOTHING ELSE: no command of the shelf's: FOR A HAND-IN. Each laying: the table of numbers ('.._ren') and one theorem, a field a fact of the dump's own or the kernel's comparison; each contract: ONE APPLICATION.
-/
namespace Go.Proofs
open Go.Shelf
def Tryz.lays169_ren : Go.Shelf.Ren := ⟨fun | 169 => 163 | n => n, fun | 70 => 217 | 9 => 9 | 0 => 0 | 72 => 219 | 37 => 183 | 127 => 237 | 3 => 3 | 5 => 5 | n => n, fun | n => n⟩
theorem Tryz.lays169 : Go.Proofs.Lays.n169 Tryz.prog Tryz.lays169_ren := {
  mixed := by kernel_rfl
  f169 := Tryz.func163.trans (congrArg some (by kernel_rfl))
  t0 := Tryz.underlying0
  a0 := Tryz.isAgg0
  z0 := Tryz.sizeOf0
  v0 := Tryz.zeroValue0
  t3 := Tryz.underlying3
  a3 := Tryz.isAgg3
  z3 := Tryz.sizeOf3
  v3 := Tryz.zeroValue3
  t9 := Tryz.underlying9
  a9 := Tryz.isAgg9
  z9 := Tryz.sizeOf9
  v9 := Tryz.zeroValue9
  t37 := Tryz.underlying183
  a37 := Tryz.isAgg183
  z37 := Tryz.sizeOf183
  v37 := Tryz.zeroValue183
  t70 := Tryz.underlying217
  a70 := Tryz.isAgg217
  z70 := Tryz.sizeOf217
  v70 := Tryz.zeroValue217
  t72 := Tryz.underlying219
  a72 := Tryz.isAgg219
  z72 := Tryz.sizeOf219
  v72 := Tryz.zeroValue219
  t127 := Tryz.underlying237
  a127 := Tryz.isAgg237
  z127 := Tryz.sizeOf237
  v127 := Tryz.zeroValue237 }
theorem Tryz.Builder_Extra_169 : Builder.Extra Tryz.prog Tryz.lays169_ren := {
  sizeBuilder := by kernel_rfl
  liesBuilder := by kernel_rfl
  t5 := Tryz.underlying5
  a5 := Tryz.isAgg5
  z5 := Tryz.sizeOf5
  v5 := Tryz.zeroValue5
  infoByte := by kernel_rfl
  cellsByte := by kernel_rfl
  sizeByte := by kernel_rfl
  neB5 := by decide }
open Go.RowKit in
/-- (*strings.Builder).String: "String returns the accumulated string.": WHATEVER THE BUILDER HOLDS; THE FORM '_k': OVER 'Lib.IsBuilderF' (a builder that 'String()' may have read), AND WITH THE FRAME THAT REACHES ABOVE THE BUILDER: 'Lib.OthersKept': every block that is not b and is no row of uint8's stands as it stood: the iterator of a range among them. (LAID: no walk: one application.) -/
theorem Tryz.Builder_String_any_k (B b : Nat) (l : List UInt8) (w : World) (h : Lib.IsBuilderF 219 5 B b (Lib.byteCells l) w) (hBw : B ≤ w.heap.size) :
    Calls Tryz.prog 163 #[.pointer (some ⟨b, 0, none⟩)] w fun e w' => e = .returned (.string ⟨l.toArray⟩) ∧ (Lib.IsBuilderF 219 5 B b (Lib.byteCells l) w' ∧ Below B w w' ∧ Lib.OthersKept 5 (some b) w w') := Any.Builder_String_any_k Tryz.lays169 Tryz.Builder_Extra_169 B b l w h hBw
def Tryz.laysM316_ren : Go.Shelf.Ren := ⟨fun | 316 => 191 | n => n, fun | 9 => 9 | 3 => 3 | 4 => 4 | 37 => 183 | 0 => 0 | 127 => 237 | 5 => 5 | n => n, fun | n => n⟩
theorem Tryz.laysM316 : Go.Proofs.LaysM.n316 Tryz.prog Tryz.laysM316_ren := {
  mixed := by kernel_rfl
  f316 := Tryz.func191.trans (congrArg some (by kernel_rfl))
  t0 := Tryz.underlying0
  a0 := Tryz.isAgg0
  z0 := Tryz.sizeOf0
  v0 := Tryz.zeroValue0
  t3 := Tryz.underlying3
  a3 := Tryz.isAgg3
  z3 := Tryz.sizeOf3
  v3 := Tryz.zeroValue3
  t4 := Tryz.underlying4
  a4 := Tryz.isAgg4
  z4 := Tryz.sizeOf4
  v4 := Tryz.zeroValue4
  t9 := Tryz.underlying9
  a9 := Tryz.isAgg9
  z9 := Tryz.sizeOf9
  v9 := Tryz.zeroValue9
  t37 := Tryz.underlying183
  a37 := Tryz.isAgg183
  z37 := Tryz.sizeOf183
  v37 := Tryz.zeroValue183
  t127 := Tryz.underlying237
  a127 := Tryz.isAgg237
  z127 := Tryz.sizeOf237
  v127 := Tryz.zeroValue237
  t5 := Tryz.underlying5
  a5 := Tryz.isAgg5
  z5 := Tryz.sizeOf5
  v5 := Tryz.zeroValue5
  i0 := by kernel_rfl
  i3 := by kernel_rfl
  i4 := by kernel_rfl
  i5 := by kernel_rfl
  i9 := by kernel_rfl
  i37 := by kernel_rfl
  i127 := by kernel_rfl }
open Go.RowKit in
/-- internal/stringslite.Clone (what strings.Clone calls): "Clone returns a fresh copy of s.": THE SAME BYTES. Of what was there nothing has turned (a new row is laid, and frozen, where s is not empty). (LAID: no walk: one application.) -/
theorem Tryz.stringslite_Clone (s : ByteArray) (w : World) (hlim : s.size ≤ 281474976710656) :
    Calls Tryz.prog 191 #[.string s] w fun e w' => e = .returned (.string s) ∧ Below w.heap.size w w' := Any.stringslite_Clone Tryz.laysM316 s w hlim
def Tryz.lays145_ren : Go.Shelf.Ren := ⟨fun | 145 => 172 | 220 => 190 | 219 => 205 | 217 => 223 | 225 => 224 | 224 => 225 | 267 => 226 | 266 => 252 | 314 => 253 | n => n, fun | 9 => 9 | 4 => 4 | 59 => 232 | 3 => 3 | 5 => 5 | 46 => 169 | 146 => 297 | 51 => 275 | n => n, fun | 1 => 0 | n => n⟩
theorem Tryz.lays145 : Go.Proofs.Lays.n145 Tryz.prog Tryz.lays145_ren := {
  mixed := by kernel_rfl
  f145 := Tryz.func172.trans (congrArg some (by kernel_rfl))
  f217 := Tryz.func223.trans (congrArg some (by kernel_rfl))
  f219 := Tryz.func205.trans (congrArg some (by kernel_rfl))
  f220 := Tryz.func190.trans (congrArg some (by kernel_rfl))
  f224 := Tryz.func225.trans (congrArg some (by kernel_rfl))
  f225 := Tryz.func224.trans (congrArg some (by kernel_rfl))
  f266 := Tryz.func252.trans (congrArg some (by kernel_rfl))
  f267 := Tryz.func226.trans (congrArg some (by kernel_rfl))
  f314 := Tryz.func253.trans (congrArg some (by kernel_rfl))
  t3 := Tryz.underlying3
  a3 := Tryz.isAgg3
  z3 := Tryz.sizeOf3
  v3 := Tryz.zeroValue3
  t4 := Tryz.underlying4
  a4 := Tryz.isAgg4
  z4 := Tryz.sizeOf4
  v4 := Tryz.zeroValue4
  t5 := Tryz.underlying5
  a5 := Tryz.isAgg5
  z5 := Tryz.sizeOf5
  v5 := Tryz.zeroValue5
  t9 := Tryz.underlying9
  a9 := Tryz.isAgg9
  z9 := Tryz.sizeOf9
  v9 := Tryz.zeroValue9
  t46 := Tryz.underlying169
  a46 := Tryz.isAgg169
  z46 := Tryz.sizeOf169
  v46 := Tryz.zeroValue169
  t51 := Tryz.underlying275
  a51 := Tryz.isAgg275
  z51 := Tryz.sizeOf275
  v51 := Tryz.zeroValue275
  t59 := Tryz.underlying232
  a59 := Tryz.isAgg232
  z59 := Tryz.sizeOf232
  v59 := Tryz.zeroValue232
  t146 := Tryz.underlying297
  a146 := Tryz.isAgg297
  z146 := Tryz.sizeOf297
  v146 := Tryz.zeroValue297
  g1 := by kernel_rfl }
open Go.RowKit Go.Lib in
/-- strings.Cut: "Cut slices s around the first instance of sep, returning the text before and after sep. The found result reports whether sep appears in s. If sep does not appear in s, cut returns s, "", false.": IT RETURNS 'Lib.cut s sep'; the world is as it was but for the count of draws. (LAID: no walk: one application.) -/
theorem Tryz.strings_Cut (s sep : ByteArray) (m : Int) (w : World) (hs : s.size < 4294967281) (hm : w.cell? ⟨0, 0, none⟩ = some (.int .i64 m)) :
    Calls Tryz.prog 172 #[.string s, .string sep] w fun e w' => e = .returned (.tuple #[.string ⟨(Lib.cut s.data.toList sep.data.toList).1.toArray⟩, .string ⟨(Lib.cut s.data.toList sep.data.toList).2.1.toArray⟩, .bool (Lib.cut s.data.toList sep.data.toList).2.2]) ∧ ∃ n, w' = w.drewN n := Any.strings_Cut Tryz.lays145 s sep m w hs hm
def Tryz.lays99_ren : Go.Shelf.Ren := ⟨fun | 99 => 152 | 206 => 177 | n => n, fun | 9 => 9 | 4 => 4 | 3 => 3 | n => n, fun | n => n⟩
theorem Tryz.lays99 : Go.Proofs.Lays.n99 Tryz.prog Tryz.lays99_ren := {
  mixed := by kernel_rfl
  f99 := Tryz.func152.trans (congrArg some (by kernel_rfl))
  f206 := Tryz.func177.trans (congrArg some (by kernel_rfl))
  t3 := Tryz.underlying3
  a3 := Tryz.isAgg3
  z3 := Tryz.sizeOf3
  v3 := Tryz.zeroValue3
  t4 := Tryz.underlying4
  a4 := Tryz.isAgg4
  z4 := Tryz.sizeOf4
  v4 := Tryz.zeroValue4
  t9 := Tryz.underlying9
  a9 := Tryz.isAgg9
  z9 := Tryz.sizeOf9
  v9 := Tryz.zeroValue9 }
open Go.RowKit Go.Lib in
/-- strings.HasPrefix: "HasPrefix reports whether the string s begins with prefix.": IT RETURNS 'Lib.hasPrefix s prefix'; the world is as it was. (LAID: no walk: one application.) -/
theorem Tryz.strings_HasPrefix (s p : ByteArray) (w : World) :
    Calls Tryz.prog 152 #[.string s, .string p] w fun e w' => e = .returned (.bool (Lib.hasPrefix s.data.toList p.data.toList)) ∧ w' = w := Any.strings_HasPrefix Tryz.lays99 s p w
end Go.Proofs
