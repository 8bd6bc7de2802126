/- Texts of this claim, one behind the other. -/
import Derived.Test.YtafmbokfkbccaaaGreatDoorJ30
import Derived.Shelf.LaysM
import Derived.Test.YtafmbokfkbccaaaGreatDoorProg
import Derived.Test.YtafmbokfkbccaaaGreatDoorJ23
import Derived.Test.YtafmbokfkbccaaaGreatDoorRows
import Derived.HandedShaped
import Derived.LaidHandle
import Derived.LaidLaws
import Derived.LaidMore
/- What is saved is there: plain, and the walk of DeskTurns. -/
namespace Go.Proofs.YtafmbokfkbccaaaGreatDoor
open Go.RowKit Go.Sort

theorem load_save {p : List RuleD} {r : RunD} (h : wrongRunP p r = 0) : loadP p (wRun r) = (0, r) := by
  unfold loadP
  rw [read_wrun (byteR_of h).1, if_neg (by simp), if_neg (by rw [h]; simp)]

theorem RunO.run {b : Nat} {w : World} {v : Value} {r : RunD} (h : RunO b w v r) (h1 : r.known.length ≤ 200) (h2 : r.fresh.length ≤ 200) : RunV w v r := by
  obtain ⟨kv, nv, e, h3, h4⟩ := h
  exact ⟨kv, nv, e, h3.facts (by omega), h4.facts (by omega)⟩

end Go.Proofs.YtafmbokfkbccaaaGreatDoor

/- Wherever it stopped, it comes to the same: plain, and the walk of DeskResumes. -/
namespace Go.Proofs.YtafmbokfkbccaaaGreatDoor
open Go.RowKit Go.Sort

theorem steps_stop {p : List RuleD} {ss : List Nat} (m : Nat) : ∀ (n : Nat) (r : RunD), (stepsP p ss n r).1 ≠ 0 → stepsP p ss (n + m) r = stepsP p ss n r
  | 0, r, h => absurd rfl h
  | n + 1, r, h => by
    rw [show n + 1 + m = n + m + 1 by omega]
    unfold stepsP at h ⊢
    split
    · rename_i hd; simp [hd] at h
    · rename_i hd
      rw [if_neg hd] at h
      split
      · rfl
      · rename_i he
        rw [if_neg he] at h
        exact steps_stop m n _ h

theorem resumes {p : List RuleD} {l : List FactB} (h : forE p l = 0) {n : Int} (h0 : 0 ≤ n) (h1 : n ≤ 100) {x : RunD} (hx : stepsF p (runOf p l) n = (0, x)) :
    wrongRunP p x = 0 ∧ (stepsF p x 1000).1 = (allR p l).1 ∧ ((stepsF p x 1000).1 = 0 → (stepsF p x 1000).2.known = (allR p l).2 ∧ (allR p l).2.length ≤ 200) := by
  obtain ⟨hp, hg, τ, hτ, hs, ht⟩ := forE_zero h
  have e : (strataP p).1 = p.map fun r => τ r.head.name := by rw [hs]
  have hb := begin_right h
  have hR0 := (wrongRun_zero hb).2
  have hst : stepsP p (strataP p).1 n.toNat (runOf p l) = (0, x) := by
    unfold stepsF at hx
    rw [if_neg (by rw [hb]; simp), if_neg (by simp; omega)] at hx
    exact hx
  have hRx : RightN p (countP (strataP p).1) x := by
    rw [e] at hR0 hst ⊢
    exact steps_right hp _ n.toNat hR0 hst
  have hfx : forE p x.known = 0 := by
    have e1 : (strataP p).2.1 = 0 := by rw [hs]
    unfold forE
    rw [if_neg (fun h => h e1), good_facts hRx.good]
  have hwx := wrongRun_right hfx hRx
  have hz : stepsF p x 1000 = stepsP p (strataP p).1 1000 x := by
    unfold stepsF
    rw [if_neg (by rw [hwx]; simp), if_neg (by simp)]
    rfl
  have hadd : stepsP p (strataP p).1 (n.toNat + 1000) (runOf p l) = stepsP p (strataP p).1 1000 x := by
    have := steps_add n.toNat 1000 (runOf p l) (p := p) (ss := (strataP p).1) (by rw [hst])
    rw [hst] at this
    exact this
  have hsame : stepsP p (strataP p).1 (1000 + n.toNat) (runOf p l) = stepsP p (strataP p).1 1000 (runOf p l) := by
    by_cases he : (stepsP p (strataP p).1 1000 (runOf p l)).1 = 0
    · have hd : (stepsP p (strataP p).1 1000 (runOf p l)).2.done = true := by
        have hc := strata_few h
        have := hR0.lev; have := hR0.good.few
        rw [e] at hR0 he hc ⊢
        refine steps_end hp _ 1000 hR0 ?_ (Prod.ext he rfl)
        have : (countP (p.map fun r => τ r.head.name) : Int) ≤ 16 := by exact_mod_cast hc
        have h2 := hR0.lev.1
        omega
      rw [steps_add 1000 n.toNat _ he, steps_done hd]
      exact Prod.ext he.symm rfl
    · exact steps_stop n.toNat 1000 _ he
  have hfin : stepsF p x 1000 = stepsP p (strataP p).1 1000 (runOf p l) := by
    rw [hz, ← hadd, Nat.add_comm, hsame]
  refine ⟨hwx, ?_, ?_⟩
  · rw [hfin]
    unfold allR
    rw [if_neg (by rw [h]; simp)]
    split
    · rfl
    · rename_i h3; exact Classical.byContradiction h3
  · intro h3
    have hf := stepsF_few h3
    rw [hfin] at h3 hf ⊢
    unfold allR
    rw [if_neg (by rw [h]; simp), if_neg (by rw [h3]; simp)]
    exact ⟨rfl, hf.1⟩

set_option maxRecDepth 100000 in
set_option maxHeartbeats 4000000 in
theorem deskResumesW (p : List RuleD) (l : List FactB) (n : Int) (pv fv : Value) (w : World) (hv : ruleK.sl Anyw w pv p) (hf : Facts w fv l) (m : Int) (hm : w.cell? ⟨1, 0, none⟩ = some (.int .i64 m)) (hmw : 1 < w.heap.size) :
    Calls Tryz.prog 7 #[pv, fv, .int .i64 n] w fun e w' => e = .returned (.bool true) ∧ Below w.heap.size w w' := by
  obtain ⟨pa, pc, rfl⟩ := Kind.slice hv
  obtain ⟨fa, fc, rfl⟩ := sliceFacts hf
  have HA := hide (alive8 w m hm hmw)
  have HV := hide hv
  have HF := hide hf
  clear hv hf hm
  go_enter Tryz.func7, Tryz.ntmps7
  go_wp2_with fail
  refine HA.out.mono ?_
  rintro e w1 ⟨rfl, hB1⟩
  have HBg := hide (roundBegin p l (.slice pa p.length pc) (.slice fa l.length fc) w1 (Kind.sl_below HV.out hB1) (HF.out.below hB1))
  have HV1 := hide (Kind.sl_below HV.out hB1)
  have HF1 := hide (HF.out.below hB1)
  have HB1 := hide hB1
  clear hB1 HA HV HF
  go_wp2_with fail
  refine HBg.out.mono ?_
  rintro e w2 ⟨v2, er, rfl, ⟨her, hO2⟩, hB2⟩
  have hfw := beginP_few (p := p) (l := l)
  obtain ⟨be, r0, hbp⟩ : ∃ be r0, beginP p l = (be, r0) := ⟨_, _, rfl⟩
  rw [hbp] at her hO2 hfw
  dsimp only at her hO2 hfw
  subst her
  obtain ⟨k2, n2, rfl, hk2, hn2⟩ := hO2
  obtain ⟨k2a, k2c, rfl⟩ := hk2.slice
  obtain ⟨n2a, n2c, rfl⟩ := hn2.slice
  obtain ⟨w3, hw3⟩ : ∃ w3, w3 = w2.alloc (.cells #[.slice k2a r0.known.length k2c, .slice n2a r0.fresh.length n2c, .int .i64 r0.level, .int .i64 r0.rounds, .bool r0.done] 47) := ⟨_, rfl⟩
  have hL3 : Later w2 w3 := by rw [hw3]; exact (Later.refl w2).alloc _
  have hr3 : w3.heap[w2.heap.size]? = some (.cells #[.slice k2a r0.known.length k2c, .slice n2a r0.fresh.length n2c, .int .i64 r0.level, .int .i64 r0.rounds, .bool r0.done] 47 (0, 0)) := by rw [hw3]; exact heap_alloc_new w2 _
  have hB13 := below_trans hB2 hL3.below hB2.size
  have HV3 := hide (Kind.sl_below HV1.out hB13)
  have HF3 := hide (HF1.out.below hB13)
  have HB3 := hide (below_trans HB1.out hB13 HB1.out.size)
  have HK3 := hide (hk2.later hL3)
  have HN3 := hide (hn2.later hL3)
  have HW3 := hide hw3
  have HBp := hide hbp
  have HFw := hide hfw
  obtain ⟨q0, q1, q2, q3, q4, _, _⟩ := row5 hr3
  clear hk2 hn2 hB2 hw3 hL3 hr3 hB13 HBg HV1 HF1 HB1 hbp hfw
  by_cases hgo : er = 0 ∧ 0 ≤ n ∧ n ≤ 100
  · obtain ⟨rfl, hn0, hn1⟩ := hgo
    have hfor : forE p l = 0 := by
      have := HBp.out
      unfold beginP at this
      split at this
      · rename_i h1; exact absurd (Prod.mk.inj this).1 h1
      · rename_i h1; exact Classical.byContradiction h1
    have hr0 : r0 = runOf p l := by
      have := HBp.out
      unfold beginP at this
      rw [if_neg (by rw [hfor]; simp)] at this
      exact (Prod.mk.inj this).2.symm
    subst hr0
    obtain ⟨hf1, hf2⟩ := HFw.out rfl
    have HRs : Hid (∀ x, stepsF p (runOf p l) n = (0, x) → wrongRunP p x = 0 ∧ (stepsF p x 1000).1 = (allR p l).1 ∧ ((stepsF p x 1000).1 = 0 → (stepsF p x 1000).2.known = (allR p l).2 ∧ (allR p l).2.length ≤ 200)) := fun x hx => resumes hfor hn0 hn1 hx
    have HSt := hide (roundSteps p (runOf p l) n (.slice pa p.length pc) _ _ w3 HV3.out (HK3.out.facts (by omega)) (HN3.out.facts (by omega)))
    have g1 : ¬ n < 0 := by omega
    have g2 : ¬ 100 < n := by omega
    have HSf : Hid ((stepsF p (runOf p l) n).1 = 0 → (stepsF p (runOf p l) n).2.known.length ≤ 200 ∧ (stepsF p (runOf p l) n).2.fresh.length ≤ 200) := stepsF_few
    clear hfor HBp HFw HK3 HN3 hf1 hf2
    generalize runOf p l = r0 at *
    go_wp2_with (first | (rw [← HW3.out]) | fail)
    refine HSt.out.mono ?_
    rintro e w4 ⟨v4, se, rfl, ⟨hse, hO4⟩, hB4⟩
    obtain ⟨se', x, hsx⟩ : ∃ se x, stepsF p r0 n = (se, x) := ⟨_, _, rfl⟩
    have hRs := HRs.out x
    rw [hsx] at hse hO4 HSf hRs
    dsimp only at hse hO4 HSf
    subst hse
    obtain ⟨k4, n4, rfl, hk4, hn4⟩ := hO4
    obtain ⟨k4a, k4c, rfl⟩ := hk4.slice
    obtain ⟨n4a, n4c, rfl⟩ := hn4.slice
    obtain ⟨w5, hw5⟩ : ∃ w5, w5 = w4.alloc (.cells #[.slice k4a x.known.length k4c, .slice n4a x.fresh.length n4c, .int .i64 x.level, .int .i64 x.rounds, .bool x.done] 47) := ⟨_, rfl⟩
    have hL5 : Later w4 w5 := by rw [hw5]; exact (Later.refl w4).alloc _
    have hr5 : w5.heap[w4.heap.size]? = some (.cells #[.slice k4a x.known.length k4c, .slice n4a x.fresh.length n4c, .int .i64 x.level, .int .i64 x.rounds, .bool x.done] 47 (0, 0)) := by rw [hw5]; exact heap_alloc_new w4 _
    have hB35 := below_trans hB4 hL5.below hB4.size
    have HV5 := hide (Kind.sl_below HV3.out hB35)
    have HF5 := hide (HF3.out.below hB35)
    have HB5 := hide (below_trans HB3.out hB35 HB3.out.size)
    have HK5 := hide (hk4.later hL5)
    have HN5 := hide (hn4.later hL5)
    have HW5 := hide hw5
    have HRs' := hide hRs
    clear q0 q1 q2 q3 q4
    obtain ⟨q0, q1, q2, q3, q4, _, _⟩ := row5 hr5
    clear hk4 hn4 hB4 hw5 hL5 hr5 hB35 HSt HV3 HF3 HB3 hsx HRs hRs HW3 g1 g2 hn0 hn1
    by_cases h0 : se = 0
    · subst h0
      obtain ⟨hwx, hee, hkk⟩ := HRs'.out rfl
      obtain ⟨hf1, hf2⟩ := HSf.out rfl
      have hsv := saveC p x (.slice pa p.length pc) _ _ w5 HV5.out (HK5.out.facts (by omega)) (HN5.out.facts (by omega))
      have hse : saveP p x = (0, wRun x) := by unfold saveP; rw [if_neg (by rw [hwx]; simp)]
      have hbl : (wRun x).length ≤ 17001000 := by have := saveP_few (p := p) (r := x); rw [hse] at this; exact this
      rw [hse] at hsv
      have HSv := hide hsv
      have HLd := hide (load_save hwx)
      have HEe := hide hee
      have HKk := hide hkk
      clear hsv hse hwx hee hkk HRs' HSf HK5 HN5
      go_wp2_with (first | (rw [← HW5.out]) | fail)
      refine HSv.out.mono ?_
      rintro e w6 ⟨v6, rfl, hO6, hB6⟩
      have hlo := loadC p (wRun x) (.slice pa p.length pc) v6 w6 (Kind.sl_below HV5.out hB6) (Kind.sl_any (hO6.sl (by show (wRun x).length ≤ _; omega)))
      rw [HLd.out] at hlo
      have HLo := hide hlo
      obtain ⟨a6, n6, c6, rfl⟩ := hO6.slice3
      have HV6 := hide (Kind.sl_below HV5.out hB6)
      have HF6 := hide (HF5.out.below hB6)
      have HB6 := hide (below_trans HB5.out hB6 HB5.out.size)
      clear hO6 hlo hB6 HSv HV5 HF5 HB5 HLd hbl HW5 q0 q1 q2 q3 q4
      dsimp only
      go_wp2_with fail
      refine HLo.out.mono ?_
      rintro e w7 ⟨v7, rfl, hO7, hB7⟩
      obtain ⟨k7, n7, rfl, hk7, hn7⟩ := hO7
      obtain ⟨k7a, k7c, rfl⟩ := hk7.slice
      obtain ⟨n7a, n7c, rfl⟩ := hn7.slice
      dsimp only at hk7 hn7 ⊢
      obtain ⟨w8, hw8⟩ : ∃ w8, w8 = w7.alloc (.cells #[.slice k7a x.known.length k7c, .slice n7a x.fresh.length n7c, .int .i64 x.level, .int .i64 x.rounds, .bool x.done] 47) := ⟨_, rfl⟩
      have hL8 : Later w7 w8 := by rw [hw8]; exact (Later.refl w7).alloc _
      have hr8 : w8.heap[w7.heap.size]? = some (.cells #[.slice k7a x.known.length k7c, .slice n7a x.fresh.length n7c, .int .i64 x.level, .int .i64 x.rounds, .bool x.done] 47 (0, 0)) := by rw [hw8]; exact heap_alloc_new w7 _
      have hB68 := below_trans hB7 hL8.below hB7.size
      have HV8 := hide (Kind.sl_below HV6.out hB68)
      have HF8 := hide (HF6.out.below hB68)
      have HB8 := hide (below_trans HB6.out hB68 HB6.out.size)
      have HSt := hide (roundSteps p x 1000 (.slice pa p.length pc) _ _ w8 HV8.out ((hk7.later hL8).facts (by omega)) ((hn7.later hL8).facts (by omega)))
      obtain ⟨q0, q1, q2, q3, q4, _, _⟩ := row5 hr8
      have HW8 := hide hw8
      clear hk7 hn7 hB7 hw8 hL8 hr8 hB68 HLo HV6 HF6 HB6 hf1 hf2
      go_wp2_with (first | (rw [← HW8.out]) | fail)
      refine HSt.out.mono ?_
      rintro e w9 ⟨v9, ze, rfl, ⟨hze, hO9⟩, hB9⟩
      obtain ⟨ze', z, hzx⟩ : ∃ ze z, stepsF p x 1000 = (ze, z) := ⟨_, _, rfl⟩
      have hEe := HEe.out
      have hKk := HKk.out
      rw [hzx] at hze hO9 hEe hKk
      dsimp only at hze hO9 hEe hKk
      subst hze
      obtain ⟨k9, n9, rfl, hk9, hn9⟩ := hO9
      obtain ⟨k9a, k9c, rfl⟩ := hk9.slice
      obtain ⟨n9a, n9c, rfl⟩ := hn9.slice
      obtain ⟨wa, hwa⟩ : ∃ wa, wa = w9.alloc (.cells #[.slice k9a z.known.length k9c, .slice n9a z.fresh.length n9c, .int .i64 z.level, .int .i64 z.rounds, .bool z.done] 47) := ⟨_, rfl⟩
      have hLa : Later w9 wa := by rw [hwa]; exact (Later.refl w9).alloc _
      have hra : wa.heap[w9.heap.size]? = some (.cells #[.slice k9a z.known.length k9c, .slice n9a z.fresh.length n9c, .int .i64 z.level, .int .i64 z.rounds, .bool z.done] 47 (0, 0)) := by rw [hwa]; exact heap_alloc_new w9 _
      have hB8a := below_trans hB9 hLa.below hB9.size
      have HBa := hide (below_trans HB8.out hB8a HB8.out.size)
      have HAl := hide (roundAll p l (.slice pa p.length pc) (.slice fa l.length fc) wa (Kind.sl_below HV8.out hB8a) (HF8.out.below hB8a))
      have HKa := hide (hk9.later hLa)
      have HRa := hide hra
      have HWa := hide hwa
      have hlta := (Array.getElem?_eq_some_iff.1 hra).1
      have HE := hide hEe
      have HK := hide hKk
      clear hk9 hn9 hB9 hwa hLa hra hB8a HSt HV8 HF8 HB8 hzx HEe HKk hEe hKk q0 q1 q2 q3 q4 HW8
      go_wp2_with (first | (rw [← HWa.out]) | fail)
      refine HAl.out.mono ?_
      rintro e wb ⟨vb, ae, rfl, ⟨hae, hno, hyes⟩, hBb⟩
      obtain ⟨ae', all, hal⟩ : ∃ ae all, allR p l = (ae, all) := ⟨_, _, rfl⟩
      have hE := HE.out
      have hK := HK.out
      rw [hal] at hae hno hyes hE hK
      dsimp only at hae hno hyes hE hK
      subst hae
      subst hE
      have hrb := (hBb.block _ hlta).trans HRa.out
      obtain ⟨q0, q1, q2, q3, q4, _, _⟩ := row5 hrb
      have HBb := hide (below_trans HBa.out hBb HBa.out.size)
      by_cases h3 : ze = 0
      · subst h3
        obtain ⟨hkn, hkl⟩ := hK rfl
        have hfb := hyes rfl
        obtain ⟨ba, bc, rfl⟩ := sliceFacts hfb
        have hka : Facts wb (.slice k9a z.known.length k9c) all := by
          have := (HKa.out.facts (by rw [hkn]; omega)).below hBb
          rw [hkn] at this ⊢
          exact this
        have HSm := hide (rSame _ _ all wb hka hfb)
        clear hK hno hyes hfb hka hrb hBb hal HE HK HKa HRa HWa HBa HAl hkn
        generalize z.known.length = zn at *
        go_wp2_with fail
        refine HSm.out.mono ?_
        rintro e wc ⟨rfl, hLc⟩
        have HBc := hide (below_trans HBb.out hLc.below HBb.out.size)
        clear hLc HSm
        go_wp2
        go_ret
        exact ⟨rfl, HBc.out⟩
      · have hn := hno h3
        subst hn
        have hne : (ze != 0) = true := by simpa using h3
        clear hK hno hyes hrb hBb hal HE HK HKa HRa HWa HBa HAl h3
        go_wp2
        go_ret
        exact ⟨rfl, HBb.out⟩
    · have hne : (se != 0) = true := by simpa using h0
      clear h0 HRs' HSf HK5 HN5
      go_wp2_with (first | (rw [← HW5.out]) | fail)
      go_ret
      exact ⟨rfl, HB5.out⟩
  · by_cases h0 : er = 0
    · subst h0
      by_cases h1 : n < 0
      · clear hgo HBp HFw
        go_wp2_with (first | (rw [← HW3.out]) | fail)
        go_ret
        exact ⟨rfl, HB3.out⟩
      · have h2 : 100 < n := by
          refine Classical.byContradiction fun h2 => hgo ⟨rfl, by omega, by omega⟩
        clear hgo HBp HFw
        go_wp2_with (first | (rw [← HW3.out]) | fail)
        go_ret
        exact ⟨rfl, HB3.out⟩
    · have hne : (er != 0) = true := by simpa using h0
      clear hgo HBp HFw h0
      go_wp2_with (first | (rw [← HW3.out]) | fail)
      go_ret
      exact ⟨rfl, HB3.out⟩

end Go.Proofs.YtafmbokfkbccaaaGreatDoor

/-
  DERIVED: THE SHELF's CONTRACTS AT THIS DUMP, IN PLAIN WORDS (tools/lay-plain.mjs out of 'TryzShpLay.lean', which tools/lay-shelf.mjs wrote): THE SAME DECLARATIONS UNDER THE SAME NAMES: 'import', 'namespace', 'open', 'def', 'theorem' AND NOTHING ELSE: no command of the shelf's: FOR A HAND-IN. Each laying: the table of numbers ('.._ren') and one theorem, a field a fact of the dump's own or the kernel's comparison; each contract: ONE APPLICATION.
-/
namespace Go.Proofs
open Go.Shelf
def Tryz.laysM145_ren : Go.Shelf.Ren := ⟨fun | 145 => 299 | 220 => 331 | 219 => 344 | 217 => 351 | 225 => 352 | 224 => 353 | 267 => 354 | 266 => 357 | 314 => 358 | n => n, fun | 9 => 9 | 4 => 4 | 59 => 355 | 3 => 3 | 5 => 5 | 46 => 202 | 146 => 398 | 51 => 343 | n => n, fun | 1 => 1 | n => n⟩
theorem Tryz.laysM145 : Go.Proofs.LaysM.n145 Tryz.prog Tryz.laysM145_ren := {
  mixed := by kernel_rfl
  f145 := Tryz.func299.trans (congrArg some (by kernel_rfl))
  f217 := Tryz.func351.trans (congrArg some (by kernel_rfl))
  f219 := Tryz.func344.trans (congrArg some (by kernel_rfl))
  f220 := Tryz.func331.trans (congrArg some (by kernel_rfl))
  f224 := Tryz.func353.trans (congrArg some (by kernel_rfl))
  f225 := Tryz.func352.trans (congrArg some (by kernel_rfl))
  f266 := Tryz.func357.trans (congrArg some (by kernel_rfl))
  f267 := Tryz.func354.trans (congrArg some (by kernel_rfl))
  f314 := Tryz.func358.trans (congrArg some (by kernel_rfl))
  t3 := Tryz.underlying3
  a3 := Tryz.isAgg3
  z3 := Tryz.sizeOf3
  v3 := Tryz.zeroValue3
  t4 := Tryz.underlying4
  a4 := Tryz.isAgg4
  z4 := Tryz.sizeOf4
  v4 := Tryz.zeroValue4
  t5 := Tryz.underlying5
  a5 := Tryz.isAgg5
  z5 := Tryz.sizeOf5
  v5 := Tryz.zeroValue5
  t9 := Tryz.underlying9
  a9 := Tryz.isAgg9
  z9 := Tryz.sizeOf9
  v9 := Tryz.zeroValue9
  t46 := Tryz.underlying202
  a46 := Tryz.isAgg202
  z46 := Tryz.sizeOf202
  v46 := Tryz.zeroValue202
  t51 := Tryz.underlying343
  a51 := Tryz.isAgg343
  z51 := Tryz.sizeOf343
  v51 := Tryz.zeroValue343
  t59 := Tryz.underlying355
  a59 := Tryz.isAgg355
  z59 := Tryz.sizeOf355
  v59 := Tryz.zeroValue355
  t146 := Tryz.underlying398
  a146 := Tryz.isAgg398
  z146 := Tryz.sizeOf398
  v146 := Tryz.zeroValue398
  g1 := by kernel_rfl
  i3 := by kernel_rfl
  i4 := by kernel_rfl
  i5 := by kernel_rfl
  i9 := by kernel_rfl
  i46 := by kernel_rfl
  i51 := by kernel_rfl
  i59 := by kernel_rfl
  i146 := by kernel_rfl
  m1 := by kernel_rfl
  s1_3 := fun w h => Go.Proofs.cell_of_shapedOpen_int (zero := #[.int .i64 0]) (t := 3) h (of_decide_eq_true (by kernel_rfl)) (by kernel_rfl) rfl (by kernel_rfl) (by kernel_rfl) Tryz.underlying3 }
end Go.Proofs

/- The wrap of a row that lists variables, the start's shape kept; and the variables that the rows of chapter 5 list. -/
namespace Go.Proofs.YtafmbokfkbccaaaGreatDoor
open Go.ChangeShapes Go.WideShapes Go.ChangeAt Go.RowKit

theorem handed_laid {H : Type} {enc : TypeId × Value → H} {a : Assume} {C : Checked} {os : Os} {f : FuncId} {fn : Func} {s : ChangeSpec} {conds : List PathCond} {apart fresh handsOn again : Bool} {X : World → Array Value → Prop}
    (own : ownKnob C.prog.godebug = none) (started : os.Started) (noInit : C.prog.inits.idxOf? f = none) (hfn : C.prog.funcs[f]? = some fn)
    (witness : ∃ (w : World) (tape : Tape) (i : Input), w.os = os ∧ (w.forCall tape i).Shaped C.prog ∧ i.vars = [] ∧ Input.okWide C.prog (w.forCall tape i) .any w.heap.size f i ∧
      ((s.pre enc C.prog fn conds apart (w.forCall tape i).memory i.args ∧ X (w.forCall tape i).memory i.args) ∧ sizedMet enc C.prog fn (OpenSpec.ofChange s) apart (w.forCall tape i).memory i.args) ∧ a.holds C.prog (lone (Frame.enter C.prog f i.args .normal) [] (w.forCall tape i)))
    (contract : ∀ (W : World) (base : Nat) (args : Array Value) (ds gs : List (DataW H)) (before : List MemPlace),
      (∀ (j : Nat) t v, fn.params[j]? = some t → args[j]? = some v → Value.okWide C.prog W .any base t v) →
      DataW.Whole enc C.prog fn.params.toList s.vars apart W args.toList ds gs before →
      (DataW.weightsEach C.prog (fn.params.toList ++ s.plain.varTypes C.prog) (ds ++ gs)).all (· ≤ reachBytes) = true →
      W.ShapedOpen C.prog →
      Calls C.prog f args W fun e W' => ∃ v, e = .returned v ∧ s.post enc C.prog fn apart fresh handsOn again W args v W') :
    ReturnsInHanded a C os f .any (fun w args => (s.pre enc C.prog fn conds apart w args ∧ X w args) ∧ sizedMet enc C.prog fn (OpenSpec.ofChange s) apart w args) (s.post enc C.prog fn apart fresh handsOn again) := by
  refine returnsInHanded_of_calls own started noInit witness ?_
  intro w tape i _ hsh _ hok hpre hholds
  obtain ⟨_, _, _, fn', hfn', _, _, _, _, hval⟩ := hok
  have e : fn' = fn := Option.some.inj (hfn'.symm.trans hfn)
  subst e
  obtain ⟨⟨⟨ds, gs, before, hw, hc⟩, hx⟩, hz⟩ := hpre
  have hw' := DataW.Whole.of_heap (w' := w.forCall tape i) (by rfl) hw
  refine (contract (w.forCall tape i) w.heap.size i.args ds gs before hval hw' (hz.weights hw) hsh).mono fun e W' ⟨v, he, hp⟩ => ?_
  subst he
  exact ChangeSpec.post_blind hp

theorem maxLenN (w : World) (h : w.ShapedOpen Tryz.prog) : ∃ m, w.cell? ⟨1, 0, none⟩ = some (.int .i64 m) := Tryz.laysM145.s1_3 w h

def laid5 : List (String × DataW Unit) := [("math/bits.deBruijn32tab", Rows.laid_math_bits_deBruijn32tab), ("math/bits.deBruijn64tab", Rows.laid_math_bits_deBruijn64tab), ("internal/strconv.uint64pow10", Rows.laid_internal_strconv_uint64pow10)]

set_option maxRecDepth 100000 in
theorem door5_met (os : Os) (args : Array Value) : laidMetH Tryz.prog laid5 ((World.doorLaid Tryz.prog 1000 os).forCall (fun _ _ => 0) ⟨#[], args, []⟩).memory :=
  laidMetH_of_parts3 (fuel := 8) (laidMet_of_run' 8 (by kernel_rfl) (by kernel_rfl)) (by kernel_rfl) (by kernel_rfl)

end Go.Proofs.YtafmbokfkbccaaaGreatDoor
