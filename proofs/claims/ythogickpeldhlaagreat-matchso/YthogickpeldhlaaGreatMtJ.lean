/- The walks of slices.IndexFunc and slices.DeleteFunc at lists of binds. -/
import Derived.Test.YthogickpeldhlaaGreatMtI
import Derived.Lib.SliceRun
namespace Go.Proofs.YthogickpeldhlaaGreat
open Go.RowKit Go.Sort Go.Maps

theorem OnlyB.setCell {p : Option Nat} {a b : World} (h : OnlyB p a b) {x : Addr} (hx : p = some x.block) (v : Value) : OnlyB p a (b.setCell x v) :=
  ⟨h.os, h.tape, h.output, h.drawn, by simpa [World.setCell] using h.size, fun k hk ho => by
    rw [Below.heap_setCell _ _ _ _ (fun e => ho (by rw [hx, e]))]; exact h.block k hk ho⟩

theorem setCells_only (g : Nat) : ∀ (vs : List Value) (o : Nat) (w : World), OnlyB (some g) w (w.setCells g o vs)
  | [], _, _ => OnlyB.refl _ _
  | v :: r, o, w => ((OnlyB.refl (some g) w).setCell (x := ⟨g, o, none⟩) rfl v).trans (setCells_only g r (o + 1) _)

theorem setCells_row (g : Nat) : ∀ (vs : List Value) (o : Nat) (w : World) (cur : Array Value) (t : TypeId) (fr : Nat × Nat), w.heap[g]? = some (.cells cur t fr) →
    ∃ cur', (w.setCells g o vs).heap[g]? = some (.cells cur' t fr) ∧ cur'.size = cur.size ∧ ∀ q, q < o → cur'[q]? = cur[q]?
  | [], _, w, cur, t, fr, h => ⟨cur, h, rfl, fun _ _ => rfl⟩
  | v :: r, o, w, cur, t, fr, h => by
    obtain ⟨cur', h1, h2, h3⟩ := setCells_row g r (o + 1) (w.setCell ⟨g, o, none⟩ v) (cur.setIfInBounds o v) t fr (set_at h v)
    refine ⟨cur', h1, by rw [h2]; simp, fun q hq => ?_⟩
    rw [h3 q (by omega), Array.getElem?_setIfInBounds_ne (by omega)]

set_option maxHeartbeats 1000000 in
theorem indexL (v : Value) (ls : List (List BindD)) (g : Nat) (cb : Array Value) (eg : ∀ args w, (callFunc g args).run Tryz.prog w = .ok (.enter g args) w) (p : List BindD → Bool) (n : Nat) (w0 w : World) (hd : Dels g cb p n w0) (hw : Below n w0 w) (hn : n ≤ w.heap.size) (hv : listK.sl Anyw w v ls) :
    Calls Tryz.prog 43 #[v, .func (.func g) #[] cb] w fun e w' => ∃ r : Int, e = .returned (.int .i64 r) ∧ ((r = -1 ∧ ∀ l ∈ ls, p l = false) ∨ ∃ k l, r = (k : Nat) ∧ ls[k]? = some l ∧ p l = true ∧ ∀ l ∈ ls.take k, p l = false) ∧ Later w w' := by
  obtain ⟨a, cap, rfl⟩ := Kind.slice hv
  have hl := hv.1.1
  have HV := hide hv
  have HC : Hid (∀ w' u l, Later w w' → bindK.sl Anyw w' u l → Calls Tryz.prog g (#[u] ++ cb) w' fun e w'' => e = .returned (.bool (p l)) ∧ Hid (Later w w'')) := fun w' u l hL hu =>
    (hd w' u l (below_trans hw hL.below hn) hu).mono fun e w'' ⟨he, hL2⟩ => ⟨he, hL.trans hL2⟩
  clear hv hd hw
  go_enter Tryz.func43, Tryz.ntmps43
  go_wp2
  go_loopg [8] ls.length (fun gg i wr => ∃ k : Nat, k + gg = ls.length ∧ i = .int .i64 k ∧ Hid (∀ l ∈ ls.take k, p l = false) ∧ Hid (Later w wr))
  case atStart => exact ⟨0, by omega, rfl, (fun l hl => by simp at hl), Later.refl _⟩
  case round =>
    obtain ⟨k, hk, rfl, HE, HL⟩ := hrel
    by_cases hlt : k < ls.length
    · obtain ⟨l, hx⟩ : ∃ x, ls[k]? = some x := ⟨_, List.getElem?_eq_getElem hlt⟩
      obtain ⟨b1, o1, _, rfl, hb1, ⟨u, rfl, hu⟩, hcl⟩ := Kind.sl_at HV.out hx
      have d0 : wr.cell? ⟨b1, o1 + k, none⟩ = some u := by rw [HL.out.cell hb1]; simpa [slK] using hcl 0 _ rfl
      have hbr : b1 < wr.heap.size := Nat.lt_of_lt_of_le hb1 HL.out.size
      have HCk := hide (HC.out wr u l HL.out (Kind.sl_later hu HL.out))
      obtain ⟨ua, uc, rfl⟩ := Kind.slice hu
      have HX := hide hx
      clear hcl hx hu
      cases hq : p l
      · have HE1 : Hid (∀ l ∈ ls.take (k + 1), p l = false) := fun x hx' => by
          rw [List.take_add_one, HX.out] at hx'
          rcases List.mem_append.1 hx' with h | h
          · exact HE.out x h
          · simp at h; rw [h]; exact hq
        rw [hq] at HCk
        clear hq HE
        go_wp2_with fail
        refine HCk.out.mono ?_
        rintro e w2 ⟨rfl, hL2⟩
        go_wp2
        go_roundg (ls.length - (k + 1))
        case measure => omega
        case rel => exact ⟨k + 1, by omega, by go_num, HE1, hL2⟩
      · have HQ := hide hq
        rw [hq] at HCk
        clear hq
        go_wp2_with fail
        refine HCk.out.mono ?_
        rintro e w2 ⟨rfl, hL2⟩
        go_wp2
        go_ret
        exact ⟨_, rfl, Or.inr ⟨k, l, rfl, HX.out, HQ.out, HE.out⟩, hL2.out⟩
    · have HE1 : Hid (∀ l ∈ ls, p l = false) := by
        have := HE.out
        rw [List.take_of_length_le (by omega)] at this
        exact this
      go_wp2
      go_ret
      exact ⟨_, rfl, Or.inl ⟨rfl, HE1.out⟩, HL.out⟩

theorem zeroBinds : ∀ w, (zeroValue 24).run Tryz.prog w = .ok (.slice none 0 0) w := Tryz.zeroValue24

/-- Those that are kept. -/
def keptL (p : List BindD → Bool) (ps : List (Value × List BindD)) : List (Value × List BindD) := ps.filter fun q => !p q.2

theorem keptL_step {p : List BindD → Bool} {ps : List (Value × List BindD)} {j : Nat} {q : Value × List BindD} (h : ps[j]? = some q) : keptL p (ps.take (j + 1)) = if p q.2 then keptL p (ps.take j) else keptL p (ps.take j) ++ [q] := by
  unfold keptL
  rw [List.take_add_one, h, List.filter_append]
  cases e : p q.2 <;> simp [e]

theorem keptL_le (p : List BindD → Bool) (ps : List (Value × List BindD)) (j : Nat) : (keptL p (ps.take j)).length ≤ j := by
  have := List.length_filter_le (fun q : Value × List BindD => !p q.2) (ps.take j)
  rw [List.length_take] at this
  unfold keptL
  omega

set_option maxRecDepth 100000 in
set_option maxHeartbeats 4000000 in
theorem deleteC (v : Value) (ps : List (Value × List BindD)) (g : Nat) (cb : Array Value) (eg : ∀ args w, (callFunc g args).run Tryz.prog w = .ok (.enter g args) w) (p : List BindD → Bool) (n lo : Nat) (w0 w : World) (hd : Dels g cb p n w0) (hw : Below n w0 w) (hn : n ≤ lo) (hlo : lo ≤ w.heap.size) (hv : Lists 24 34 lo w v ps) (hl : ps.length ≤ 20000) (hs : ∀ q ∈ ps, q.2.length ≤ 20) :
    Calls Tryz.prog 21 #[v, .func (.func g) #[] cb] w fun e w' => ∃ v', e = .returned v' ∧ Lists 24 34 lo w' v' (keptL p ps) ∧ v'.ownBlock = v.ownBlock ∧ OnlyB v.ownBlock w w' := by
  have HI := hide (indexL v (ps.map (·.2)) g cb eg p n w0 w hd hw (by omega) (Kind.sl_any (hv.sl (by omega) fun q hq => by have := hs q hq; omega)))
  obtain ⟨a, cap, rfl⟩ := hv.slice
  have HV := hide hv
  have HD : Hid (∀ w' u l, OnlyB (Value.slice a ps.length cap).ownBlock w w' → bindK.sl Anyw w' u l → Calls Tryz.prog g (#[u] ++ cb) w' fun e w'' => e = .returned (.bool (p l)) ∧ Later w' w'') := fun w' u l hO hu => by
    refine hd w' u l (below_trans hw ⟨hO.os, hO.tape, hO.output, hO.size, fun k hk => hO.block k (by omega) fun e => ?_⟩ (Nat.le_refl _)) hu
    have := hv.lo_le k e
    omega
  have HS := hide hs
  clear hv hd hw hs
  go_enter Tryz.func21, Tryz.ntmps21
  go_wp2_with fail
  refine HI.out.mono ?_
  rintro e w1 ⟨r, rfl, h, hL1⟩
  have HL1 := hide hL1
  clear HI hL1
  rcases h with ⟨rfl, h⟩ | ⟨k0, l0, rfl, hk0, hp0, hbe⟩
  · have HK : Hid (keptL p ps = ps) := by
      show _ = _
      unfold keptL
      rw [List.filter_eq_self]
      intro q hq
      rw [h q.2 (List.mem_map.2 ⟨q, hq, rfl⟩)]; rfl
    clear h
    go_wp2
    go_ret
    exact ⟨_, rfl, by rw [HK.out]; exact HV.out.later HL1.out, rfl, OnlyB.of_later HL1.out⟩
  · have hk0l : k0 < ps.length := by simpa using (List.getElem?_eq_some_iff.1 hk0).1
    obtain ⟨q0, hq0⟩ : ∃ q, ps[k0]? = some q := ⟨_, List.getElem?_eq_getElem hk0l⟩
    have hq02 : q0.2 = l0 := by
      rw [List.getElem?_map, hq0] at hk0
      simpa using hk0
    have HKs : Hid (keptL p (ps.take (k0 + 1)) = ps.take k0) := by
      show _ = _
      rw [keptL_step hq0, hq02, hp0, if_pos rfl]
      unfold keptL
      rw [List.filter_eq_self]
      intro q hq
      rw [hbe q.2 (by rw [← List.map_take]; exact List.mem_map.2 ⟨q, hq, rfl⟩)]; rfl
    obtain ⟨ho, hpw⟩ := HV.out
    rcases ho.2 with ⟨e, e'⟩ | ⟨gb, cap', cur, e, hbg, hg, hnc, hcm, hcs, htk⟩
    · omega
    · simp only [Value.slice.injEq] at e
      obtain ⟨rfl, _, rfl⟩ := e
      have hgl : gb < w.heap.size := (Array.getElem?_eq_some_iff.1 hg).1
      have hne1 : ((k0 : Int) == -1) = false := beq_eq_false_iff_ne.2 (by omega)
      have HPW := hide hpw
      have hcur : ∀ q, q < ps.length → cur[q]? = some ((ps.map (·.1))[q]?.getD (.slice none 0 0)) := fun q hq => by
        have e1 : (cur.toList.take (ps.length * 1))[q]? = (ps.map (·.1))[q]? := by rw [htk]
        rw [List.getElem?_take, if_pos (by omega)] at e1
        rw [← Array.getElem?_toList, e1, List.getElem?_eq_getElem (by simpa using hq)]; rfl
      have HCur := hide hcur
      have HG := hide hg
      have HCS := hide hcs
      clear hk0 hp0 hbe hq0 hq02 ho hpw hg hcs htk hcur
      go_wp2
      go_loopg [5, 6, 7] ps.length (fun gg s5 s6 _ wr => ∃ (i j : Nat) (cr : Array Value), s5 = .int .i64 i ∧ s6 = .int .i64 j ∧ (ps.length ≤ j + gg ∧ j ≤ ps.length) ∧ i < j ∧ Hid (i = (keptL p (ps.take j)).length) ∧ Hid (wr.heap[gb]? = some (.cells cr 24 (0, 0))) ∧ Hid (cr.size = cap) ∧
        Hid (∀ q, q < i → cr[q]? = some (((keptL p (ps.take j)).map (·.1))[q]?.getD (.slice none 0 0))) ∧ Hid (∀ q, j ≤ q → q < ps.length → cr[q]? = some ((ps.map (·.1))[q]?.getD (.slice none 0 0))) ∧ Hid (OnlyB (some gb) w wr))
      case atStart =>
        refine ⟨k0, k0 + 1, cur, rfl, by go_num, by omega, by omega, ?_, ((HL1.out.block hgl).trans HG.out : _ = _), (by rw [HCS.out]; omega : _ = _), ?_, (fun q _ hq => HCur.out q hq), OnlyB.of_later HL1.out⟩
        · show _ = _
          rw [HKs.out, List.length_take]; omega
        · intro q hq
          rw [HKs.out, List.map_take, List.getElem?_take, if_pos hq]
          exact HCur.out q (by omega)
      case round =>
        clear HL1 HKs HG HCS HCur
        obtain ⟨i, j, cr, rfl, rfl, hj, hij, HI, HB, HZ, HLo, HHi, HO⟩ := hrel
        have hcr := HZ.out
        have hgr : gb < wr.heap.size := Nat.lt_of_lt_of_le hgl HO.out.size
        have ownr : ∀ q ∈ ps, bindK.own 34 lo wr q.1 q.2 := fun q hq => own_block (HPW.out.1 q hq).1 fun k e => HO.out.block k (Kind.own_lt (HPW.out.1 q hq).1 e).2 (fun e' => (HPW.out.1 q hq).2 k e e')
        have HOw := hide ownr
        clear ownr
        by_cases hlt : j < ps.length
        · obtain ⟨q, hq⟩ : ∃ q, ps[j]? = some q := ⟨_, List.getElem?_eq_getElem hlt⟩
          have hqm := List.mem_of_getElem? hq
          have hcj : cr[j]? = some q.1 := by
            rw [HHi.out j (Nat.le_refl _) hlt, List.getElem?_map, hq]; rfl
          have hci : ∃ old, cr[i]? = some old := ⟨_, Array.getElem?_eq_getElem (by omega)⟩
          obtain ⟨old, hci⟩ := hci
          have cj : wr.cell? ⟨gb, j, none⟩ = some q.1 := by rw [cell_of_row _ _ _ _ _ _ HB.out]; exact hcj
          have HSt := hide (keptL_step (p := p) hq)
          have HCl := hide (HD.out wr q.1 q.2 HO.out (Kind.sl_any (Kind.own_sl (HOw.out q hqm) (by have := HS.out q hqm; omega))))
          obtain ⟨ua, un, uc, hqu⟩ : ∃ a n c, q.1 = .slice a n c := by obtain ⟨a, c, e⟩ := Kind.own_slice (HOw.out q hqm); exact ⟨a, _, c, e⟩
          rw [hqu] at cj HCl hcj
          have HQ1 := hide hqu
          have HCI := hide hci
          have HQ := hide hq
          have hltz : (j : Int) < (ps.length : Int) := by omega
          clear hq hqm hqu hcj hci
          cases hpq : p q.2
          · rw [hpq] at HCl HSt
            have HSt1 : Hid (keptL p (ps.take (j + 1)) = keptL p (ps.take j) ++ [q]) := HSt.out
            clear hpq HSt
            go_wp2_with fail
            refine HCl.out.mono ?_
            rintro e w2 ⟨rfl, hL2⟩
            have HB2 := hide ((hL2.block hgr).trans HB.out)
            have ci : w2.cell? ⟨gb, i, none⟩ = some old := by rw [cell_of_row _ _ _ _ _ _ HB2.out]; exact HCI.out
            have fi : w2.frozen? ⟨gb, i, none⟩ = false := frozen_rw i HB2.out
            have hg2 : gb < w2.heap.size := (Array.getElem?_eq_some_iff.1 HB2.out).1
            have HO2 := hide (HO.out.trans (OnlyB.of_later hL2))
            have hiz : (i : Int) < (ps.length : Int) := by omega
            clear hL2 HCl
            go_wp2
            go_roundg (ps.length - (j + 1))
            case measure => omega
            case rel =>
              refine ⟨i + 1, j + 1, cr.setIfInBounds i (.slice ua un uc), by go_num, by go_num, by omega, by omega, ?_, (set_at HB2.out _ : _ = _), (by simpa using hcr : _ = _), ?_, ?_, (HO2.out.setCell (x := ⟨gb, i, none⟩) rfl _ : OnlyB _ _ _)⟩
              · show _ = _
                rw [HSt1.out, List.length_append, ← HI.out]; rfl
              · intro t ht
                rw [HSt1.out, List.map_append]
                by_cases hti : t = i
                · subst hti
                  rw [Array.getElem?_setIfInBounds_self_of_lt (by omega), List.getElem?_append_right (by rw [List.length_map, ← HI.out]; omega), List.length_map, ← HI.out, Nat.sub_self]
                  simp [HQ1.out]
                · rw [Array.getElem?_setIfInBounds_ne (by omega), HLo.out t (by omega), List.getElem?_append_left (by rw [List.length_map, ← HI.out]; omega)]
              · intro t h1 h2
                rw [Array.getElem?_setIfInBounds_ne (by omega)]
                exact HHi.out t (by omega) h2
          · rw [hpq] at HCl HSt
            have HSt1 : Hid (keptL p (ps.take (j + 1)) = keptL p (ps.take j)) := HSt.out
            clear hpq HSt
            go_wp2_with fail
            refine HCl.out.mono ?_
            rintro e w2 ⟨rfl, hL2⟩
            have HB2 := hide ((hL2.block hgr).trans HB.out)
            have HO2 := hide (HO.out.trans (OnlyB.of_later hL2))
            clear hL2 HCl
            go_wp2
            go_roundg (ps.length - (j + 1))
            case measure => omega
            case rel =>
              refine ⟨i, j + 1, cr, rfl, by go_num, by omega, by omega, ?_, HB2, HZ, ?_, (fun t h1 h2 => HHi.out t (by omega) h2), HO2⟩
              · show _ = _
                rw [HSt1.out]; exact HI.out
              · show ∀ t, _
                rw [HSt1.out]; exact HLo.out
        · obtain rfl : j = ps.length := by omega
          have hltz : ¬ (ps.length : Int) < (ps.length : Int) := by omega
          have hcl : ∀ ty, (Builtin.clear_ #[25] ty #[.slice (some ⟨gb, i, none⟩) (ps.length - i) (cap - i)]).run Tryz.prog wr = .ok (.tuple #[]) (wr.setCells gb i (List.replicate (ps.length - i) (.slice none 0 0))) := fun ty =>
            Lib.run_clear_slice wr _ _ ty _ Tryz.underlying25 zeroBinds rfl rfl gb i _ _ (by omega) (fun t ht => by rw [cell_of_row _ _ _ _ _ _ HB.out, Array.getElem?_eq_getElem (by omega)]; rfl) (fun t ht => frozen_rw _ HB.out)
          have hiz : (i : Int) ≤ (ps.length : Int) := by omega
          have hic : (i : Int) ≤ (cap : Int) := by omega
          have hicn : ¬ cap = i := by omega
          have hpz : (ps.length : Int) ≤ (cap : Int) := by omega
          go_wp2
          go_ret
          obtain ⟨cr', h1, h2, h3⟩ := setCells_row gb (List.replicate (ps.length - i) (.slice none 0 0)) i wr cr _ _ HB.out
          have hO2 := HO.out.trans (setCells_only gb (List.replicate (ps.length - i) (.slice none 0 0)) i wr)
          have hk : keptL p (ps.take ps.length) = keptL p ps := by rw [List.take_length]
          have hil : i = (keptL p ps).length := by rw [← hk]; exact HI.out
          refine ⟨.slice (some ⟨gb, 0, none⟩) i cap, rfl, ⟨?_, fun q hq => ?_, ?_⟩, rfl, hO2⟩
          · rw [← hil]
            refine ⟨by rw [List.length_map, ← hil]; omega, Or.inr ⟨gb, cap, cr', rfl, hbg, h1, by omega, hcm, by rw [h2]; omega, ?_⟩⟩
            apply List.ext_getElem?
            intro t
            rw [Nat.mul_one, List.getElem?_take]
            by_cases ht : t < i
            · rw [if_pos ht, Array.getElem?_toList, h3 t ht, HLo.out t ht, hk, List.getElem?_eq_getElem (by rw [List.length_map, ← hil]; exact ht)]; rfl
            · rw [if_neg ht, List.getElem?_eq_none (by rw [List.length_map, ← hil]; omega)]
          · have hqm : q ∈ ps := (List.mem_filter.1 hq).1
            exact ⟨own_block (HPW.out.1 q hqm).1 fun k e => hO2.block k (Kind.own_lt (HPW.out.1 q hqm).1 e).2 (fun e' => (HPW.out.1 q hqm).2 k e e'), (HPW.out.1 q hqm).2⟩
          · exact HPW.out.2.filter _

end Go.Proofs.YthogickpeldhlaaGreat
