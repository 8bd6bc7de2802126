/- Texts of this claim, one behind the other. -/
import Derived.Test.YtafmbokfkbccaaaGreatDoorJ30
import Derived.Test.YtafmbokfkbccaaaGreatDoorJ20
import Derived.Test.YtafmbokfkbccaaaGreatDoorJ19
import Derived.Test.YtafmbokfkbccaaaGreatDoorJ23
import Derived.Shelf.LaysM
import Derived.Test.YtafmbokfkbccaaaGreatDoorProg
import Derived.Test.YtafmbokfkbccaaaGreatDoorRows
import Derived.HandedShaped
import Derived.LaidHandle
import Derived.LaidLaws
import Derived.LaidMore
/- What is saved is there: plain, and the walk of DeskTurns. -/
namespace Go.Proofs.YtafmbokfkbccaaaGreatDoor
open Go.RowKit Go.Sort

theorem load_save {p : List RuleD} {r : RunD} (h : wrongRunP p r = 0) : loadP p (wRun r) = (0, r) := by
  unfold loadP
  rw [read_wrun (byteR_of h).1, if_neg (by simp), if_neg (by rw [h]; simp)]

theorem save_right {p : List RuleD} {r : RunD} (h : (saveP p r).1 = 0) : wrongRunP p r = 0 ∧ saveP p r = (0, wRun r) := by
  unfold saveP at h ⊢
  split at h
  · rename_i h1; exact absurd h h1
  · rename_i h1
    have h1 := Classical.byContradiction h1
    exact ⟨h1, by rw [if_neg (by rw [h1]; simp)]⟩

theorem load_right {p : List RuleD} {b : Bs} (h : (loadP p b).1 = 0) : wrongRunP p (loadP p b).2 = 0 ∧ wRun (loadP p b).2 = b := by
  unfold loadP at h ⊢
  split at h
  · simp at h
  · rename_i h0
    split at h
    · rename_i h1; exact absurd h h1
    · rename_i h1
      have h1 := Classical.byContradiction h1
      rw [if_neg h0, if_neg (by rw [h1]; simp)]
      refine ⟨h1, run_read (r := (readP b).1) (Prod.ext rfl (by simpa using h0)) ?_⟩
      exact up_nodup (wrongRun_zero h1).2.good.up

theorem load_none {p : List RuleD} {b : Bs} (h : (loadP p b).1 ≠ 0) : (loadP p b).2 = noRun := by
  unfold loadP at h ⊢
  split
  · rfl
  · rename_i h0
    rw [if_neg h0] at h
    split
    · rfl
    · rename_i h1; rw [if_neg h1] at h; exact absurd rfl h

theorem RunO.run {b : Nat} {w : World} {v : Value} {r : RunD} (h : RunO b w v r) (h1 : r.known.length ≤ 200) (h2 : r.fresh.length ≤ 200) : RunV w v r := by
  obtain ⟨kv, nv, e, h3, h4⟩ := h
  exact ⟨kv, nv, e, h3.facts (by omega), h4.facts (by omega)⟩

set_option maxRecDepth 100000 in
set_option maxHeartbeats 4000000 in
theorem deskTurnsW (p : List RuleD) (r : RunD) (b : Bs) (pv kv nv bv : Value) (w : World) (hv : ruleK.sl Anyw w pv p) (hk : Facts w kv r.known) (hn : Facts w nv r.fresh) (hb : LongB Anyw w bv b) (m : Int) (hm : w.cell? ⟨1, 0, none⟩ = some (.int .i64 m)) (hmw : 1 < w.heap.size) :
    Calls Tryz.prog 6 #[pv, .agg #[kv, nv, .int .i64 r.level, .int .i64 r.rounds, .bool r.done], bv] w fun e w' => e = .returned (.bool true) ∧ Below w.heap.size w w' := by
  obtain ⟨pa, pc, rfl⟩ := Kind.slice hv
  obtain ⟨ka, kc, rfl⟩ := sliceFacts hk
  obtain ⟨na, nc, rfl⟩ := sliceFacts hn
  obtain ⟨ba, bc, rfl⟩ := LongB.slice hb
  obtain ⟨w1, hw1⟩ : ∃ w1, w1 = w.alloc (.cells #[.slice ka r.known.length kc, .slice na r.fresh.length nc, .int .i64 r.level, .int .i64 r.rounds, .bool r.done] 47) := ⟨_, rfl⟩
  have hL1 : Later w w1 := by rw [hw1]; exact (Later.refl w).alloc _
  have hr1 : w1.heap[w.heap.size]? = some (.cells #[.slice ka r.known.length kc, .slice na r.fresh.length nc, .int .i64 r.level, .int .i64 r.rounds, .bool r.done] 47 (0, 0)) := by rw [hw1]; exact heap_alloc_new w _
  have hlt1 := (Array.getElem?_eq_some_iff.1 hr1).1
  have HA := hide (alive8 w1 m (by rw [hL1.cell (p := ⟨1, 0, none⟩) hmw]; exact hm) (by have := hL1.size; omega))
  have HV := hide (Kind.sl_later hv hL1)
  have HK := hide (hk.later hL1)
  have HN := hide (hn.later hL1)
  have HBs := hide (LongB.later hb hL1)
  have HB1 := hide hL1.below
  have HR1 := hide hr1
  have HW1 := hide hw1
  clear hv hk hn hb hm hw1 hr1 hL1
  go_enter Tryz.func6, Tryz.ntmps6
  go_wp2_with (first | (rw [← HW1.out]) | fail)
  refine HA.out.mono ?_
  rintro e w2 ⟨rfl, hB2⟩
  have hr2 := (hB2.block _ hlt1).trans HR1.out
  obtain ⟨q0, q1, q2, q3, q4, _, hlt2⟩ := row5 hr2
  have HS := hide (saveC p r (.slice pa p.length pc) _ _ w2 (Kind.sl_below HV.out hB2) (HK.out.below hB2) (HN.out.below hB2))
  have HV2 := hide (Kind.sl_below HV.out hB2)
  have HK2 := hide (HK.out.below hB2)
  have HN2 := hide (HN.out.below hB2)
  have HBs2 := hide (LongB.below HBs.out hB2)
  have HB02 := hide (below_trans HB1.out hB2 HB1.out.size)
  have HR2 := hide hr2
  clear hB2 hr2 HA HV HK HN HBs HB1 HR1 HW1
  go_wp2_with fail
  refine HS.out.mono ?_
  rintro e w3 ⟨v3, rfl, hO3, hB3⟩
  have hr3 := (hB3.block _ hlt2).trans HR2.out
  have HV3 := hide (Kind.sl_below HV2.out hB3)
  have HBs3 := hide (LongB.below HBs2.out hB3)
  have HB03 := hide (below_trans HB02.out hB3 HB02.out.size)
  have HR3 := hide hr3
  have HK3 := hide (HK2.out.below hB3)
  have HN3 := hide (HN2.out.below hB3)
  obtain ⟨se, sb, hsp⟩ : ∃ se sb, saveP p r = (se, sb) := ⟨_, _, rfl⟩
  rw [hsp] at hO3
  have HSp := hide hsp
  simp only [hsp]
  clear hsp hB3 hr3 HS HV2 HK2 HN2 HBs2 HB02 HR2 q0 q1 q2 q3 q4
  obtain ⟨s3a, s3n, s3c, rfl⟩ := hO3.slice3
  by_cases h0 : se = 0
  case' pos =>
    subst h0
    obtain ⟨hw0, hsv⟩ := save_right (by rw [HSp.out])
    have hsb : sb = wRun r := by have := HSp.out; rw [hsv] at this; exact (Prod.mk.inj this).2.symm
    subst hsb
    have hbl : (wRun r).length ≤ 17001000 := by have := saveP_few (p := p) (r := r); rw [HSp.out] at this; exact this
    have hO3 : BytO w2.heap.size w3 (.slice s3a s3n s3c) (wRun r) := hO3
    have hlo := loadC p (wRun r) (.slice pa p.length pc) (.slice s3a s3n s3c) w3 HV3.out (LongB.of (Kind.sl_any (hO3.sl (by omega))))
    rw [load_save hw0] at hlo
    have HLo := hide hlo
    have hfw := right_few (wrongRun_zero hw0).2
    have hlt3 := (Array.getElem?_eq_some_iff.1 HR3.out).1
    clear hlo hsv hw0 hbl hO3 HSp
    go_wp2_with fail
    refine HLo.out.mono ?_
    rintro e w4 ⟨v4, rfl, hO4, hB4⟩
    have hV4 := hO4.run hfw.1 hfw.2
    obtain ⟨k4, n4, rfl, hk4, hn4⟩ := hO4
    obtain ⟨k4a, k4c, rfl⟩ := hk4.slice
    obtain ⟨n4a, n4c, rfl⟩ := hn4.slice
    dsimp only at hV4 ⊢
    obtain ⟨w5, hw5⟩ : ∃ w5, w5 = w4.alloc (.cells #[.slice k4a r.known.length k4c, .slice n4a r.fresh.length n4c, .int .i64 r.level, .int .i64 r.rounds, .bool r.done] 47) := ⟨_, rfl⟩
    have hL5 : Later w4 w5 := by rw [hw5]; exact (Later.refl w4).alloc _
    have hr5 : w5.heap[w4.heap.size]? = some (.cells #[.slice k4a r.known.length k4c, .slice n4a r.fresh.length n4c, .int .i64 r.level, .int .i64 r.rounds, .bool r.done] 47 (0, 0)) := by rw [hw5]; exact heap_alloc_new w4 _
    have hB35 := below_trans hB4 hL5.below hB4.size
    have hr35 := (hB35.block _ hlt3).trans HR3.out
    have HSm := hide (sameRun r _ _ w5 (hV4.below hL5.below) ⟨_, _, rfl, HK3.out.below hB35, HN3.out.below hB35⟩)
    obtain ⟨q0, q1, q2, q3, q4, _, _⟩ := row5 hr5
    obtain ⟨e0, e1, e2, e3, e4, _, _⟩ := row5 hr35
    have HV5 := hide (Kind.sl_below HV3.out hB35)
    have HBs5 := hide (LongB.below HBs3.out hB35)
    have HB05 := hide (below_trans HB03.out hB35 HB03.out.size)
    have HW5 := hide hw5
    clear hV4 hk4 hn4 hB4 hw5 hL5 hr5 hB35 hr35 HLo HV3 HBs3 HB03 HR3 HK3 HN3 hfw
    go_wp2_with (first | (rw [← HW5.out]) | fail)
    refine HSm.out.mono ?_
    rintro e w6 ⟨rfl, hL6⟩
    have HV6 := hide (Kind.sl_later HV5.out hL6)
    have HBs6 := hide (LongB.later HBs5.out hL6)
    have HB06 := hide (below_trans HB05.out hL6.below HB05.out.size)
    clear hL6 HSm HV5 HBs5 HB05 q0 q1 q2 q3 q4 e0 e1 e2 e3 e4 HW5
    have HLo := hide (loadC p b (.slice pa p.length pc) (.slice ba b.length bc) w6 HV6.out HBs6.out)
    go_wp2_with fail
  case' neg =>
    have hne : (se != 0) = true := by simpa using h0
    have heq : (se == 0) = false := by simpa using h0
    obtain ⟨w6, hw6⟩ : ∃ w6, w6 = w3 := ⟨_, rfl⟩
    rw [← hw6] at HV3 HBs3 HB03 ⊢
    have HV6 := HV3
    have HBs6 := HBs3
    have HB06 := HB03
    clear h0 hO3 HSp HV3 HBs3 HB03 HR3 HK3 HN3 hw6
    have HLo := hide (loadC p b (.slice pa p.length pc) (.slice ba b.length bc) w6 HV6.out HBs6.out)
    go_wp2_with fail
  all_goals
    refine HLo.out.mono ?_
    rintro e w7 ⟨v7, rfl, hO7, hB7⟩
    have hfw := loadP_few (p := p) (b := b)
    have hlr := load_right (p := p) (b := b)
    have hln := load_none (p := p) (b := b)
    obtain ⟨le, s, hls⟩ : ∃ le s, loadP p b = (le, s) := ⟨_, _, rfl⟩
    rw [hls] at hO7 hfw hlr hln
    simp only [hls]
    clear hls
    have hV7 : RunV w7 v7 s := hO7.run hfw.1 hfw.2
    obtain ⟨k7, n7, rfl, hk7, hn7⟩ := hO7
    obtain ⟨k7a, k7c, rfl⟩ := hk7.slice
    obtain ⟨n7a, n7c, rfl⟩ := hn7.slice
    dsimp only at hV7 hlr hln ⊢
    obtain ⟨w8, hw8⟩ : ∃ w8, w8 = w7.alloc (.cells #[.slice k7a s.known.length k7c, .slice n7a s.fresh.length n7c, .int .i64 s.level, .int .i64 s.rounds, .bool s.done] 47) := ⟨_, rfl⟩
    have hL8 : Later w7 w8 := by rw [hw8]; exact (Later.refl w7).alloc _
    have hr8 : w8.heap[w7.heap.size]? = some (.cells #[.slice k7a s.known.length k7c, .slice n7a s.fresh.length n7c, .int .i64 s.level, .int .i64 s.rounds, .bool s.done] 47 (0, 0)) := by rw [hw8]; exact heap_alloc_new w7 _
    have hB68 := below_trans hB7 hL8.below hB7.size
    have HV8 := hide (Kind.sl_below HV6.out hB68)
    have HBs8 := hide (LongB.below HBs6.out hB68)
    have HB08 := hide (below_trans HB06.out hB68 HB06.out.size)
    have HRV8 := hide (hV7.below hL8.below)
    obtain ⟨q0, q1, q2, q3, q4, _, _⟩ := row5 hr8
    have HW8 := hide hw8
    have HLr := hide hlr
    have HLn := hide hln
    have HFw := hide hfw
    clear hV7 hk7 hn7 hB7 hw8 hL8 hr8 hB68 HLo HV6 HBs6 HB06 hlr hln hfw
    by_cases h1 : le = 0
    · subst h1
      obtain ⟨hws, hwb⟩ := HLr.out rfl
      obtain ⟨k8, n8, e8, hk8, hn8⟩ := HRV8.out
      simp only [Value.agg.injEq, Array.mk.injEq, List.cons.injEq, and_true] at e8
      obtain ⟨rfl, rfl⟩ := e8
      have hsv := saveC p s (.slice pa p.length pc) _ _ w8 HV8.out hk8 hn8
      have hse : saveP p s = (0, b) := by unfold saveP; rw [if_neg (by rw [hws]; simp), hwb]
      rw [hse] at hsv
      have hbl : b.length ≤ 17001000 := by have := saveP_few (p := p) (r := s); rw [hse] at this; exact this
      have HSv := hide hsv
      clear hsv hse hws hwb hk8 hn8 HLr HLn HFw HRV8
      go_wp2_with (first | (rw [← HW8.out]) | fail)
      refine HSv.out.mono ?_
      rintro e w9 ⟨v9, rfl, hO9, hB9⟩
      have hc1 := convY (LongB.of (hO9.sl (by omega)))
      have hc2 := convY (LongB.below HBs8.out hB9)
      obtain ⟨a9, n9, c9, rfl⟩ := hO9.slice3
      have HB09 := hide (below_trans HB08.out hB9 HB08.out.size)
      clear hO9 hB9 HSv HW8 HV8 HBs8 HB08 q0 q1 q2 q3 q4 hbl
      generalize b.length = bn at *
      generalize bs b = bb at *
      go_wp2
      go_ret
      exact ⟨rfl, HB09.out⟩
    · have hs := HLn.out h1
      subst hs
      have hne1 : (le != 0) = true := by simpa using h1
      have HSm := hide (sameRun noRun _ _ w8 HRV8.out ⟨.slice none 0 0, .slice none 0 0, rfl, facts_nil _, facts_nil _⟩)
      clear h1 HLr HLn HFw HRV8
      go_wp2_with (first | (rw [← HW8.out]) | fail)
      refine HSm.out.mono ?_
      rintro e w9 ⟨rfl, hL9⟩
      have HB09 := hide (below_trans HB08.out hL9.below HB08.out.size)
      clear hL9 HSm HW8 HV8 HBs8 HB08 q0 q1 q2 q3 q4
      go_wp2
      go_ret
      exact ⟨rfl, HB09.out⟩

end Go.Proofs.YtafmbokfkbccaaaGreatDoor

/- Bytes that are handed in, opened, however many; a run. -/
namespace Go.Proofs.YtafmbokfkbccaaaGreatDoor
open Go.RowKit Go.Sort Go.ChangeShapes Go.WideShapes Go.ChangeAt Go.Deep

section
variable {H : Type} {enc : TypeId × Value → H} {W : World}

theorem opensByte : Opens enc W 5 byteK (fun _ => True) := by
  intro n cs x h _
  obtain ⟨k, h0, _, hk⟩ := DataW.trod_int Tryz.underlying5 h
  have hr : 0 ≤ k ∧ k < 256 := by
    simp only [Lit.wf, Bool.and_eq_true, decide_eq_true_eq] at hk
    have e1 : IntKind.u8.min = 0 := by decide
    have e2 : IntKind.u8.max = 255 := by decide
    omega
  refine ⟨UInt8.ofNat k.toNat, ?_, trivial⟩
  show cs = [.int .u8 ((UInt8.ofNat k.toNat).toNat : Int)]
  have e : (UInt8.ofNat k.toNat).toNat = k.toNat := by simp; omega
  rw [h0, e, Int.toNat_of_nonneg hr.1]

set_option maxRecDepth 100000 in
theorem openSlL {T ty : TypeId} (hT : Tryz.prog.underlying T = some (.slice ty)) (hc : Tryz.prog.cellsOf ty = byteK.size) (hby : 1 ≤ Tryz.prog.bytesOf ty) (E : Opens enc W ty byteK (fun _ => True))
    {n : Nat} {v : Value} {x : DataW H × List MemPlace} (hf : DataW.trod enc Tryz.prog W 0 (fun _ => true) true n T [v] = some x) (hw : Sized T x.1) : ∃ l, LongB Anyw W v l := by
  have hsz : 0 < byteK.size := by decide
  rcases open_slice hT hf with ⟨hcs, _⟩ | ⟨a, len, cap, m, k, D, Pl, hcs, _, hl, hm, hmm, hx, hel⟩
  · simp only [List.cons.injEq, and_true] at hcs
    exact ⟨[], by rw [hcs]; exact LongB.nil _ _ _ _⟩
  · simp only [List.cons.injEq, and_true] at hcs
    simp only [if_true] at hmm
    subst hmm
    rw [hc] at hel
    have hd : x.1 = .slice ((List.range len).map D) ((List.range (m - len)).map fun j => D (len + j)) := by rw [hx]
    have hw2 : (decide ((len + (m - len)) * Tryz.prog.bytesOf ty ≤ reachBytes) && ((DataW.weightsAll Tryz.prog ty ((List.range len).map D)).all (· ≤ reachBytes) && (DataW.weightsAll Tryz.prog ty ((List.range (m - len)).map fun j => D (len + j))).all (· ≤ reachBytes))) = true := by
      have := hw
      unfold Sized at this
      rw [hd, DataW.weights, hT] at this
      simpa using this
    simp only [Bool.and_eq_true] at hw2
    have hlen : len ≤ 281474976710656 := by
      have h1 : (len + (m - len)) * Tryz.prog.bytesOf ty ≤ reachBytes := of_decide_eq_true hw2.1
      have h2 : len * 1 ≤ (len + (m - len)) * Tryz.prog.bytesOf ty := Nat.mul_le_mul (by omega) hby
      unfold reachBytes at h1
      omega
    have each : ∀ i : Fin len, ∃ z : UInt8, ∃ cs', W.cells? 0 (a.add (i.1 * byteK.size)) byteK.size = some cs' ∧ byteK.is Anyw W cs' z ∧ True := fun i => by
      obtain ⟨cs', k1, k2⟩ := hel i.1 (by omega)
      obtain ⟨z, hz, hk⟩ := E _ _ _ k2 (sized_all hw2.2.1 _ (List.mem_map.2 ⟨i.1, List.mem_range.2 i.2, rfl⟩))
      exact ⟨z, cs', k1, hz, hk⟩
    refine ⟨List.ofFn fun i => Classical.choose (each i), ⟨⟨by simpa using hlen, ?_⟩, some a, m, by rw [hcs]; simp, fun hne => ?_⟩⟩
    · rw [hcs]; show len ≤ m; omega
    have h0 : 0 < len := by
      refine Nat.pos_of_ne_zero fun e => hne ?_
      subst e; rfl
    have first : ∀ i : Fin len, ∀ cs', W.cells? 0 (a.add (i.1 * byteK.size)) byteK.size = some cs' → ∀ j u, cs'[j]? = some u → W.cell? ((a.add (i.1 * byteK.size)).add j) = some u := fun i cs' k1 j u hu => by
      obtain ⟨h1, _, hcell⟩ := World.cells?_some k1
      have hj : j < cs'.length := (List.getElem?_eq_some_iff.1 hu).1
      have := hcell j (by omega)
      rw [this]; exact hu
    have hplain : ∃ b off, a = ⟨b, off, none⟩ := by
      obtain ⟨cs', k0, k1, _⟩ := Classical.choose_spec (each ⟨0, h0⟩)
      have hl := byteK.len k1
      have hu : cs'[0]? = some (cs'[0]'(by omega)) := List.getElem?_eq_getElem (by omega)
      have := first ⟨0, h0⟩ cs' k0 0 _ hu
      exact addr_plainP (W := W) (v := cs'[0]'(by omega)) (by simpa [Addr.add] using this)
    obtain ⟨b, off, rfl⟩ := hplain
    have hlt : b < W.heap.size := by
      obtain ⟨cs', k0, k1, _⟩ := Classical.choose_spec (each ⟨0, h0⟩)
      have hl := byteK.len k1
      have hu : cs'[0]? = some (cs'[0]'(by omega)) := List.getElem?_eq_getElem (by omega)
      have := first ⟨0, h0⟩ cs' k0 0 _ hu
      rw [Addr.add_lit, Addr.add_lit] at this
      exact World.block_lt_of_cell? W _ this
    refine ⟨b, off, rfl, trivial, hlt, fun i z hi => ?_⟩
    have hi' : i < len := by simpa using (List.getElem?_eq_some_iff.1 hi).1
    rw [List.getElem?_ofFn, dif_pos hi'] at hi
    injection hi with hi
    subst hi
    obtain ⟨cs', k0, k1, _⟩ := Classical.choose_spec (each ⟨i, hi'⟩)
    refine ⟨cs', k1, fun j u hu => ?_⟩
    have := first ⟨i, hi'⟩ cs' k0 j u hu
    rw [Addr.add_lit, Addr.add_lit] at this
    exact this

theorem cellsU8P : Tryz.prog.cellsOf 5 = 1 := by kernel_rfl

theorem bytesU8P : 1 ≤ Tryz.prog.bytesOf 5 := of_decide_eq_true (by kernel_rfl)

set_option maxRecDepth 100000 in
theorem openBytes {b0 : Nat} {v : Value} {d : DataW H} {p : List MemPlace} (hv : Value.okWide Tryz.prog W .any b0 48 v) (h : DataW.Trod enc Tryz.prog W 0 (fun _ => true) true 48 v d p) (hw : Sized 48 d) : ∃ l, LongB Anyw W v l := by
  obtain ⟨a0, len0, cap0, rfl⟩ := okWide_slice Tryz.underlying48 hv
  obtain ⟨fuel, hf⟩ := h
  exact openSlL Tryz.underlying48 cellsU8P bytesU8P opensByte (x := (d, p)) (by simpa [Value.cells] using hf) hw

theorem cellsRunT : Tryz.prog.cellsOf 47 = 5 := by kernel_rfl

theorem cellsFactsT : Tryz.prog.cellsOf 24 = 1 := by kernel_rfl

theorem cellsIntT : Tryz.prog.cellsOf 3 = 1 := by kernel_rfl

theorem factsAt {n : Nat} {v : Value} {x : DataW H × List MemPlace} (hf : DataW.trod enc Tryz.prog W 0 (fun _ => true) true n 24 [v] = some x) (hw : Sized 24 x.1) : ∃ l, Facts W v l ∧ ∀ f ∈ l, okFt f := by
  obtain ⟨l, h1, h2, h3⟩ := openSlB Tryz.underlying24 cellsFactP (by rw [bytesFactP]; decide) (by decide) opensFact hf hw
  rw [bytesFactP] at h3
  exact ⟨l, sl_facts h1 (by unfold reachBytes at h3; omega), h2⟩

set_option maxRecDepth 100000 in
theorem openRun {b0 : Nat} {v : Value} {d : DataW H} {p : List MemPlace} (hv : Value.okWide Tryz.prog W .any b0 47 v) (h : DataW.Trod enc Tryz.prog W 0 (fun _ => true) true 47 v d p) (hw : Sized 47 d) :
    ∃ (r : RunD) (kv nv : Value), v = .agg #[kv, nv, .int .i64 r.level, .int .i64 r.rounds, .bool r.done] ∧ Facts W kv r.known ∧ Facts W nv r.fresh ∧ (∀ f ∈ r.known, okFt f) ∧ ∀ f ∈ r.fresh, okFt f := by
  obtain ⟨cs, rfl, hsz⟩ := okWide_struct Tryz.underlying47 hv
  obtain ⟨fuel, hf⟩ := h
  obtain ⟨xs, n, _, hx, hl, hlen, hp⟩ := DataW.trod_struct Tryz.underlying47 hf
  rw [cellsRunT] at hsz
  obtain ⟨cs⟩ := cs
  match cs, hsz with
  | [c0, c1, c2, c3, c4], _ =>
    match xs, hlen with
    | [y0, y1, y2, y3, y4], _ =>
      have hp0 : DataW.trod enc Tryz.prog W 0 (fun _ => true) true n 24 [c0] = some y0 := by
        have := hp 0 _ rfl
        simpa [Value.cells, cellsFactsT] using this
      have hp1 : DataW.trod enc Tryz.prog W 0 (fun _ => true) true n 24 [c1] = some y1 := by
        have := hp 1 _ rfl
        simpa [Value.cells, cellsFactsT] using this
      have hp2 : DataW.trod enc Tryz.prog W 0 (fun _ => true) true n 3 [c2] = some y2 := by
        have := hp 2 _ rfl
        simpa [Value.cells, cellsIntT] using this
      have hp3 : DataW.trod enc Tryz.prog W 0 (fun _ => true) true n 3 [c3] = some y3 := by
        have := hp 3 _ rfl
        simpa [Value.cells, cellsIntT] using this
      have hp4 : DataW.trod enc Tryz.prog W 0 (fun _ => true) true n 4 [c4] = some y4 := by
        have := hp 4 _ rfl
        simpa [Value.cells, cellsBool] using this
      have hws : Sized 24 y0.1 ∧ Sized 24 y1.1 := by
        have hd : d = .agg [y0.1, y1.1, y2.1, y3.1, y4.1] := by simpa using congrArg Prod.fst hx
        unfold Sized at hw ⊢
        rw [hd, DataW.weights, Tryz.underlying47] at hw
        simp only [List.map_cons, List.map_nil, DataW.weightsEach, List.all_append, Bool.and_eq_true] at hw
        exact ⟨hw.1, hw.2.1⟩
      obtain ⟨k, hk, hk1⟩ := factsAt hp0 hws.1
      obtain ⟨f, hf', hf1⟩ := factsAt hp1 hws.2
      obtain ⟨lev, h2, _, _⟩ := DataW.trod_int Tryz.underlying3 hp2
      obtain ⟨rn, h3, _, _⟩ := DataW.trod_int Tryz.underlying3 hp3
      obtain ⟨dn, h4, _⟩ := DataW.trod_bool Tryz.underlying4 hp4
      simp only [List.cons.injEq, and_true] at h2 h3 h4
      exact ⟨⟨k, f, lev, rn, dn⟩, c0, c1, by rw [h2, h3, h4], hk, hf', hk1, hf1⟩
end

end Go.Proofs.YtafmbokfkbccaaaGreatDoor

/-
  DERIVED: THE SHELF's CONTRACTS AT THIS DUMP, IN PLAIN WORDS (tools/lay-plain.mjs out of 'TryzShpLay.lean', which tools/lay-shelf.mjs wrote): THE SAME DECLARATIONS UNDER THE SAME NAMES: 'import', 'namespace', 'open', 'def', 'theorem' AND NOTHING ELSE: no command of the shelf's: FOR A HAND-IN. Each laying: the table of numbers ('.._ren') and one theorem, a field a fact of the dump's own or the kernel's comparison; each contract: ONE APPLICATION.
-/
namespace Go.Proofs
open Go.Shelf
def Tryz.laysM145_ren : Go.Shelf.Ren := ⟨fun | 145 => 299 | 220 => 331 | 219 => 344 | 217 => 351 | 225 => 352 | 224 => 353 | 267 => 354 | 266 => 357 | 314 => 358 | n => n, fun | 9 => 9 | 4 => 4 | 59 => 355 | 3 => 3 | 5 => 5 | 46 => 202 | 146 => 398 | 51 => 343 | n => n, fun | 1 => 1 | n => n⟩
theorem Tryz.laysM145 : Go.Proofs.LaysM.n145 Tryz.prog Tryz.laysM145_ren := {
  mixed := by kernel_rfl
  f145 := Tryz.func299.trans (congrArg some (by kernel_rfl))
  f217 := Tryz.func351.trans (congrArg some (by kernel_rfl))
  f219 := Tryz.func344.trans (congrArg some (by kernel_rfl))
  f220 := Tryz.func331.trans (congrArg some (by kernel_rfl))
  f224 := Tryz.func353.trans (congrArg some (by kernel_rfl))
  f225 := Tryz.func352.trans (congrArg some (by kernel_rfl))
  f266 := Tryz.func357.trans (congrArg some (by kernel_rfl))
  f267 := Tryz.func354.trans (congrArg some (by kernel_rfl))
  f314 := Tryz.func358.trans (congrArg some (by kernel_rfl))
  t3 := Tryz.underlying3
  a3 := Tryz.isAgg3
  z3 := Tryz.sizeOf3
  v3 := Tryz.zeroValue3
  t4 := Tryz.underlying4
  a4 := Tryz.isAgg4
  z4 := Tryz.sizeOf4
  v4 := Tryz.zeroValue4
  t5 := Tryz.underlying5
  a5 := Tryz.isAgg5
  z5 := Tryz.sizeOf5
  v5 := Tryz.zeroValue5
  t9 := Tryz.underlying9
  a9 := Tryz.isAgg9
  z9 := Tryz.sizeOf9
  v9 := Tryz.zeroValue9
  t46 := Tryz.underlying202
  a46 := Tryz.isAgg202
  z46 := Tryz.sizeOf202
  v46 := Tryz.zeroValue202
  t51 := Tryz.underlying343
  a51 := Tryz.isAgg343
  z51 := Tryz.sizeOf343
  v51 := Tryz.zeroValue343
  t59 := Tryz.underlying355
  a59 := Tryz.isAgg355
  z59 := Tryz.sizeOf355
  v59 := Tryz.zeroValue355
  t146 := Tryz.underlying398
  a146 := Tryz.isAgg398
  z146 := Tryz.sizeOf398
  v146 := Tryz.zeroValue398
  g1 := by kernel_rfl
  i3 := by kernel_rfl
  i4 := by kernel_rfl
  i5 := by kernel_rfl
  i9 := by kernel_rfl
  i46 := by kernel_rfl
  i51 := by kernel_rfl
  i59 := by kernel_rfl
  i146 := by kernel_rfl
  m1 := by kernel_rfl
  s1_3 := fun w h => Go.Proofs.cell_of_shapedOpen_int (zero := #[.int .i64 0]) (t := 3) h (of_decide_eq_true (by kernel_rfl)) (by kernel_rfl) rfl (by kernel_rfl) (by kernel_rfl) Tryz.underlying3 }
end Go.Proofs

/- The wrap of a row that lists variables, the start's shape kept; and the variables that the rows of chapter 5 list. -/
namespace Go.Proofs.YtafmbokfkbccaaaGreatDoor
open Go.ChangeShapes Go.WideShapes Go.ChangeAt Go.RowKit

theorem handed_laid {H : Type} {enc : TypeId × Value → H} {a : Assume} {C : Checked} {os : Os} {f : FuncId} {fn : Func} {s : ChangeSpec} {conds : List PathCond} {apart fresh handsOn again : Bool} {X : World → Array Value → Prop}
    (own : ownKnob C.prog.godebug = none) (started : os.Started) (noInit : C.prog.inits.idxOf? f = none) (hfn : C.prog.funcs[f]? = some fn)
    (witness : ∃ (w : World) (tape : Tape) (i : Input), w.os = os ∧ (w.forCall tape i).Shaped C.prog ∧ i.vars = [] ∧ Input.okWide C.prog (w.forCall tape i) .any w.heap.size f i ∧
      ((s.pre enc C.prog fn conds apart (w.forCall tape i).memory i.args ∧ X (w.forCall tape i).memory i.args) ∧ sizedMet enc C.prog fn (OpenSpec.ofChange s) apart (w.forCall tape i).memory i.args) ∧ a.holds C.prog (lone (Frame.enter C.prog f i.args .normal) [] (w.forCall tape i)))
    (contract : ∀ (W : World) (base : Nat) (args : Array Value) (ds gs : List (DataW H)) (before : List MemPlace),
      (∀ (j : Nat) t v, fn.params[j]? = some t → args[j]? = some v → Value.okWide C.prog W .any base t v) →
      DataW.Whole enc C.prog fn.params.toList s.vars apart W args.toList ds gs before →
      (DataW.weightsEach C.prog (fn.params.toList ++ s.plain.varTypes C.prog) (ds ++ gs)).all (· ≤ reachBytes) = true →
      W.ShapedOpen C.prog →
      Calls C.prog f args W fun e W' => ∃ v, e = .returned v ∧ s.post enc C.prog fn apart fresh handsOn again W args v W') :
    ReturnsInHanded a C os f .any (fun w args => (s.pre enc C.prog fn conds apart w args ∧ X w args) ∧ sizedMet enc C.prog fn (OpenSpec.ofChange s) apart w args) (s.post enc C.prog fn apart fresh handsOn again) := by
  refine returnsInHanded_of_calls own started noInit witness ?_
  intro w tape i _ hsh _ hok hpre hholds
  obtain ⟨_, _, _, fn', hfn', _, _, _, _, hval⟩ := hok
  have e : fn' = fn := Option.some.inj (hfn'.symm.trans hfn)
  subst e
  obtain ⟨⟨⟨ds, gs, before, hw, hc⟩, hx⟩, hz⟩ := hpre
  have hw' := DataW.Whole.of_heap (w' := w.forCall tape i) (by rfl) hw
  refine (contract (w.forCall tape i) w.heap.size i.args ds gs before hval hw' (hz.weights hw) hsh).mono fun e W' ⟨v, he, hp⟩ => ?_
  subst he
  exact ChangeSpec.post_blind hp

theorem maxLenN (w : World) (h : w.ShapedOpen Tryz.prog) : ∃ m, w.cell? ⟨1, 0, none⟩ = some (.int .i64 m) := Tryz.laysM145.s1_3 w h

def laid5 : List (String × DataW Unit) := [("math/bits.deBruijn32tab", Rows.laid_math_bits_deBruijn32tab), ("math/bits.deBruijn64tab", Rows.laid_math_bits_deBruijn64tab), ("internal/strconv.uint64pow10", Rows.laid_internal_strconv_uint64pow10)]

set_option maxRecDepth 100000 in
theorem door5_met (os : Os) (args : Array Value) : laidMetH Tryz.prog laid5 ((World.doorLaid Tryz.prog 1000 os).forCall (fun _ _ => 0) ⟨#[], args, []⟩).memory :=
  laidMetH_of_parts3 (fuel := 8) (laidMet_of_run' 8 (by kernel_rfl) (by kernel_rfl)) (by kernel_rfl) (by kernel_rfl)

end Go.Proofs.YtafmbokfkbccaaaGreatDoor
