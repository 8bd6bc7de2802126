/- Texts of this claim, one behind the other. -/
import Derived.Test.YtafmbokfkbccaaaGreatDoorJR25
import Derived.Test.YtafmbokfkbccaaaGreatDoorJR24
import Derived.Test.YtafmbokfkbccaaaGreatDoorJR6
import Derived.ProofKit
import Derived.SliceStrings
import Derived.Deep.Slices
import Derived.Deep.Strs
import Derived.Lib.SmallJoins
import Derived.SizedLaws
/- The walk of round's Steps. -/
namespace Go.Proofs.YtafmbokfkbccaaaGreatDoor
open Go.RowKit Go.Sort Go.Maps

def stepsF (p : List RuleD) (r : RunD) (n : Int) : Int × RunD := if wrongRunP p r ≠ 0 then (wrongRunP p r, noRun) else if (decide (0 ≤ n) && decide (n ≤ 1000)) = false then (3, noRun) else stepsP p (strataP p).1 n.toNat r

theorem RunO.slices {b : Nat} {w : World} {v : Value} {r : RunD} (h : RunO b w v r) : ∃ ka kc na nc, v = .agg #[.slice ka r.known.length kc, .slice na r.fresh.length nc, .int .i64 r.level, .int .i64 r.rounds, .bool r.done] ∧ OwnF w b (.slice ka r.known.length kc) r.known ∧ OwnF w b (.slice na r.fresh.length nc) r.fresh := by
  obtain ⟨kv, nv, h1, h2, h3⟩ := h
  obtain ⟨ka, kc, rfl⟩ := h2.slice
  obtain ⟨na, nc, rfl⟩ := h3.slice
  exact ⟨ka, kc, na, nc, h1, h2, h3⟩

set_option maxRecDepth 100000 in
set_option maxHeartbeats 4000000 in
theorem roundSteps (p : List RuleD) (r : RunD) (n : Int) (pv kv nv : Value) (w : World) (hv : ruleK.sl Anyw w pv p) (hk : Facts w kv r.known) (hn : Facts w nv r.fresh) :
    Calls Tryz.prog 36 #[pv, .agg #[kv, nv, .int .i64 r.level, .int .i64 r.rounds, .bool r.done], .int .i64 n] w fun e w' => ∃ v' er, e = .returned (.tuple #[v', .int .i64 er]) ∧ NextT (w.heap.size + 2) w' v' er (stepsF p r n) ∧ Below w.heap.size w w' := by
  obtain ⟨K, N, lev, rn, dn⟩ := r
  dsimp only at *
  obtain ⟨pa, pc, rfl⟩ := Kind.slice hv
  obtain ⟨ka, kc, rfl⟩ := sliceFacts hk
  obtain ⟨na, nc, rfl⟩ := sliceFacts hn
  obtain ⟨w2, hw2⟩ : ∃ w2, w2 = (w.alloc (.cells #[.slice ka K.length kc, .slice na N.length nc, .int .i64 lev, .int .i64 rn, .bool dn] 47)).alloc (.cells #[.slice none 0 0, .slice none 0 0, .int .i64 0, .int .i64 0, .bool false] 47) := ⟨_, rfl⟩
  have hL2 : Later w w2 := by rw [hw2]; exact ((Later.refl w).alloc _).alloc _
  have hz2 : w2.heap.size = w.heap.size + 2 := by rw [hw2]; simp
  have hrb : w2.heap[w.heap.size]? = some (.cells #[.slice ka K.length kc, .slice na N.length nc, .int .i64 lev, .int .i64 rn, .bool dn] 47 (0, 0)) := by
    rw [hw2, Below.heap_alloc _ _ _ (by simp)]; exact heap_alloc_new w _
  have hrs : w2.heap[w.heap.size + 1]? = some (.cells #[.slice none 0 0, .slice none 0 0, .int .i64 0, .int .i64 0, .bool false] 47 (0, 0)) := by
    have := heap_alloc_new (w.alloc (.cells #[.slice ka K.length kc, .slice na N.length nc, .int .i64 lev, .int .i64 rn, .bool dn] 47)) (.cells #[.slice none 0 0, .slice none 0 0, .int .i64 0, .int .i64 0, .bool false] 47)
    rw [hw2]; simpa using this
  have HOf := hide (strataOfC p ⟨K, N, lev, rn, dn⟩ (.slice pa p.length pc) (.slice ka K.length kc) (.slice na N.length nc) w2 (Kind.sl_later hv hL2) (hk.later hL2) (hn.later hL2))
  have HV := hide hv
  have HK := hide hk
  have HN := hide hn
  have HL2 := hide hL2
  have HRb := hide hrb
  have HRs := hide hrs
  have HW2 := hide hw2
  have HX : Hid (stepsF p ⟨K, N, lev, rn, dn⟩ n = if wrongRunP p ⟨K, N, lev, rn, dn⟩ ≠ 0 then (wrongRunP p ⟨K, N, lev, rn, dn⟩, noRun) else if (decide (0 ≤ n) && decide (n ≤ 1000)) = false then (3, noRun) else stepsP p (strataP p).1 n.toNat ⟨K, N, lev, rn, dn⟩) := (rfl : _ = _)
  have HGo : Hid (wrongRunP p ⟨K, N, lev, rn, dn⟩ = 0 → RightP p ∧ ∃ σ : RuleD → Nat, (strataP p).1 = p.map σ ∧ RightN p (countP (p.map σ)) ⟨K, N, lev, rn, dn⟩ ∧ ∀ s ∈ p.map σ, s < 1000) := fun h => by
    obtain ⟨h1, h2⟩ := wrongRun_zero h
    obtain ⟨hp, _, τ, _, hs, ht⟩ := forE_zero h1
    have e : (strataP p).1 = p.map fun r => τ r.head.name := by rw [hs]
    refine ⟨hp, _, e, e ▸ h2, fun s hs' => ?_⟩
    obtain ⟨q, hq, rfl⟩ := List.mem_map.1 hs'
    have := ht q hq
    omega
  unfold OfT at HOf
  generalize stepsF p ⟨K, N, lev, rn, dn⟩ n = SF at *
  generalize wrongRunP p ⟨K, N, lev, rn, dn⟩ = R at *
  generalize (strataP p).1 = ss at *
  clear hv hk hn hL2 hrb hrs hw2
  go_enter Tryz.func36, Tryz.ntmps36
  go_wp2_with fail
  rw [← HW2.out]
  refine HOf.out.mono ?_
  rintro e w3 ⟨v1, rfl, ⟨⟨a1, n1, c1, rfl⟩, hs1⟩, hB3⟩
  have HB3 : Hid (Below w.heap.size w w3) := below_trans HL2.out.below hB3 HL2.out.size
  have HRb3 : Hid (w3.heap[w.heap.size]? = some (.cells #[.slice ka K.length kc, .slice na N.length nc, .int .i64 lev, .int .i64 rn, .bool dn] 47 (0, 0))) := by show _ = _; rw [hB3.block _ (by omega)]; exact HRb.out
  have HRs3 : Hid (w3.heap[w.heap.size + 1]? = some (.cells #[.slice none 0 0, .slice none 0 0, .int .i64 0, .int .i64 0, .bool false] 47 (0, 0))) := by show _ = _; rw [hB3.block _ (by omega)]; exact HRs.out
  have HS1 : Hid (R = 0 → intK.sl (From (w.heap.size + 2)) w3 (.slice a1 n1 c1) ss) := fun h => Kind.sl_mono (hs1 h) fun k _ h => Nat.le_trans (by omega) h
  have hz3 : w.heap.size + 2 ≤ w3.heap.size := by have := hB3.size; omega
  clear hB3 hs1 HOf HW2 HRb HRs HL2 hz2 w2
  obtain ⟨b0, b1, b2, b3, b4, _, _⟩ := row5 HRb3.out
  obtain ⟨q0, q1, q2, q3, q4, ⟨f0, f1, f2, f3, f4⟩, _⟩ := row5 HRs3.out
  by_cases h0 : R = 0
  · subst h0
    obtain ⟨hp, σ, hss, hRN, hsm⟩ := HGo.out rfl
    have HV1 := hide (HS1.out rfl)
    have hn1 : n1 = ss.length := by obtain ⟨_, _, e⟩ := Kind.slice HV1.out; simp only [Value.slice.injEq] at e; exact e.2.1
    subst hn1
    have HW1 := hide (withinC n 1000 w3)
    have HX1 : Hid (SF = if (decide (0 ≤ n) && decide (n ≤ 1000)) = false then (3, noRun) else stepsP p ss n.toNat ⟨K, N, lev, rn, dn⟩) := by show _ = _; rw [HX.out]; simp
    have hA : (decide (0 ≤ n) && decide (n ≤ 1000)) = true → 0 ≤ n ∧ n ≤ 1000 := fun h => by simpa using h
    have HA := hide hA
    have HRP := hide hp
    have HRN := hide hRN
    have HSm := hide hsm
    have HSS := hide hss
    clear HX HGo HS1 hp hss hRN hsm hA
    generalize (decide (0 ≤ n) && decide (n ≤ 1000)) = A at *
    cases A with
    | false =>
      have HX2 : Hid (SF = (3, noRun)) := by show _ = _; rw [HX1.out]; rfl
      go_wp2_with fail
      refine HW1.out.mono ?_
      rintro e w4 ⟨rfl, h4⟩
      obtain rfl : w3 = w4 := h4.symm
      clear h4
      go_wp2
      obtain ⟨r0, r1, r2, r3, r4⟩ := set5 HRs3.out (.slice none 0 0) (.slice none 0 0) (.int .i64 0) (.int .i64 0) (.bool false)
      exact bodyPost_ret (v := .tuple #[.agg #[.slice none 0 0, .slice none 0 0, .int .i64 0, .int .i64 0, .bool false], .int .i64 3]) (by simp [results, Tryz.results36, go_sem, r0, r1, r2, r3, r4]) rfl ⟨_, 3, rfl, by rw [HX2.out]; exact ⟨rfl, RunO.none _ _⟩, Below.put5 HB3.out (Nat.le_succ _)⟩
    | true =>
      obtain ⟨hn0, hn1⟩ := HA.out rfl
      obtain ⟨m, rfl⟩ : ∃ m : Nat, n = (m : Int) := ⟨n.toNat, by omega⟩
      have HX2 : Hid (SF = stepsP p ss m ⟨K, N, lev, rn, dn⟩) := by show _ = _; rw [HX1.out]; simp
      have HOw := hide (ownedC ⟨K, N, lev, rn, dn⟩ (.slice ka K.length kc) (.slice na N.length nc) w3 (HK.out.below HB3.out) (HN.out.below HB3.out))
      clear HX1 HA
      go_wp2_with fail
      refine HW1.out.mono ?_
      rintro e w4 ⟨rfl, h4⟩
      obtain rfl : w3 = w4 := h4.symm
      clear h4 HW1
      go_wp2_with fail
      refine HOw.out.mono ?_
      rintro e w4 ⟨v4, rfl, hR4, hB4⟩
      obtain ⟨xa, xc, ya, yc, rfl, hO4, hN4⟩ := hR4.slices
      dsimp only at hO4 hN4 ⊢
      have HB4 : Hid (Below w.heap.size w w4) := below_trans HB3.out hB4 HB3.out.size
      have hr4 : w4.heap[w.heap.size]? = some (.cells #[.slice ka K.length kc, .slice na N.length nc, .int .i64 lev, .int .i64 rn, .bool dn] 47 (0, 0)) := by rw [hB4.block _ (by omega)]; exact HRb3.out
      have hs4 : w4.heap[w.heap.size + 1]? = some (.cells #[.slice none 0 0, .slice none 0 0, .int .i64 0, .int .i64 0, .bool false] 47 (0, 0)) := by rw [hB4.block _ (by omega)]; exact HRs3.out
      have hz4 : w.heap.size + 2 ≤ w4.heap.size := by have := hB4.size; omega
      clear b0 b1 b2 b3 b4 q0 q1 q2 q3 q4 f0 f1 f2 f3 f4
      have HO5 : Hid (OwnF (put5 w4 w.heap.size (.slice xa K.length xc) (.slice ya N.length yc) (.int .i64 lev) (.int .i64 rn) (.bool dn)) (w.heap.size + 2) (.slice xa K.length xc) K) := (hO4.base (by omega)).put5 (by omega)
      have HN5 : Hid (OwnF (put5 w4 w.heap.size (.slice xa K.length xc) (.slice ya N.length yc) (.int .i64 lev) (.int .i64 rn) (.bool dn)) (w.heap.size + 2) (.slice ya N.length yc) N) := (hN4.base (by omega)).put5 (by omega)
      have HRb5 := hide (set_five hr4 (.slice xa K.length xc) (.slice ya N.length yc) (.int .i64 lev) (.int .i64 rn) (.bool dn))
      have HRs5 : Hid ((put5 w4 w.heap.size (.slice xa K.length xc) (.slice ya N.length yc) (.int .i64 lev) (.int .i64 rn) (.bool dn)).heap[w.heap.size + 1]? = some (.cells #[.slice none 0 0, .slice none 0 0, .int .i64 0, .int .i64 0, .bool false] 47 (0, 0))) := by show _ = _; rw [(put5_tn w4 w.heap.size _ _ _ _ _).block _ (by omega) (by omega)]; exact hs4
      have HB5 : Hid (Below w.heap.size w (put5 w4 w.heap.size (.slice xa K.length xc) (.slice ya N.length yc) (.int .i64 lev) (.int .i64 rn) (.bool dn))) := Below.put5 HB4.out (Nat.le_refl _)
      have HV5 : Hid (intK.sl (From (w.heap.size + 2)) (put5 w4 w.heap.size (.slice xa K.length xc) (.slice ya N.length yc) (.int .i64 lev) (.int .i64 rn) (.bool dn)) (.slice a1 ss.length c1) ss) := Kind.sl_kept (Kind.sl_far HV1.out hB4) (put5_tn _ _ _ _ _ _ _).size fun k hk hb => (put5_tn w4 w.heap.size _ _ _ _ _).block k hk (by have : w.heap.size + 2 ≤ k := hb; omega)
      obtain ⟨b0, b1, b2, b3, b4, ⟨g0, g1, g2, g3, g4⟩, _⟩ := row5 hr4
      clear hr4 hs4 hO4 hN4 hR4 hB4 HOw HRb3 HRs3
      go_wp2
      go_loopg [2, 9] m (fun g nn ee wr => ∃ k : Nat, k = g ∧ nn = .int .i64 k ∧ ee = .int .i64 0 ∧ k ≤ 1000 ∧ ∃ (X : RunD) (xa ya : Option Addr) (xc yc : Nat), Hid (RightN p (countP (p.map σ)) X) ∧ Hid (wr.heap[w.heap.size]? = some (.cells #[.slice xa X.known.length xc, .slice ya X.fresh.length yc, .int .i64 X.level, .int .i64 X.rounds, .bool X.done] 47 (0, 0))) ∧
        Hid (OwnF wr (w.heap.size + 2) (.slice xa X.known.length xc) X.known) ∧ Hid (OwnF wr (w.heap.size + 2) (.slice ya X.fresh.length yc) X.fresh) ∧ Hid (wr.heap[w.heap.size + 1]? = some (.cells #[.slice none 0 0, .slice none 0 0, .int .i64 0, .int .i64 0, .bool false] 47 (0, 0))) ∧ Hid (Below w.heap.size w wr) ∧ w.heap.size + 2 ≤ wr.heap.size ∧ Hid (intK.sl (From (w.heap.size + 2)) wr (.slice a1 ss.length c1) ss) ∧ Hid (SF = stepsP p ss k X))
      case atStart => exact ⟨m, rfl, rfl, rfl, by omega, ⟨K, N, lev, rn, dn⟩, xa, ya, xc, yc, HRN, HRb5, HO5, HN5, HRs5, HB5, by simp only [size_setCell]; exact hz4, HV5, HX2⟩
      case round =>
        clear HRN HRb5 HO5 HN5 HRs5 HB5 HX2 HV5 HV1 b0 b1 b2 b3 b4 g0 g1 g2 g3 g4 HB4 hz4 HB3 hz3 HK HN
        obtain ⟨k, hkg, rfl, rfl, hk1, X, xa, ya, xc, yc, HRN, HRb, HO, HN', HRs, HB, hz, HVr, HX⟩ := hrel
        by_cases hk0 : k = 0
        · have hkz : ¬ ((0 : Int) < (k : Int)) := by omega
          have HT : Hid (SF = (0, X)) := by show _ = _; rw [HX.out, hk0]; rfl
          clear hk0
          obtain ⟨b0, b1, b2, b3, b4, _, _⟩ := row5 HRb.out
          obtain ⟨q0, q1, q2, q3, q4, ⟨f0, f1, f2, f3, f4⟩, _⟩ := row5 HRs.out
          go_wp2
          obtain ⟨r0, r1, r2, r3, r4⟩ := set5 HRs.out (.slice xa X.known.length xc) (.slice ya X.fresh.length yc) (.int .i64 X.level) (.int .i64 X.rounds) (.bool X.done)
          exact bodyPost_ret (v := .tuple #[.agg #[.slice xa X.known.length xc, .slice ya X.fresh.length yc, .int .i64 X.level, .int .i64 X.rounds, .bool X.done], .int .i64 0]) (by simp [results, Tryz.results36, go_sem, r0, r1, r2, r3, r4]) rfl
            ⟨_, 0, rfl, by rw [HT.out]; exact ⟨rfl, _, _, rfl, HO.out.put5 (by omega), HN'.out.put5 (by omega)⟩, Below.put5 HB.out (Nat.le_succ _)⟩
        · obtain ⟨k, rfl⟩ : ∃ k', k = k' + 1 := ⟨k - 1, by omega⟩
          cases hdn : X.done with
          | true =>
            have HT : Hid (SF = (0, X)) := by show _ = _; rw [HX.out]; exact steps_done hdn _
            obtain ⟨b0, b1, b2, b3, b4, _, _⟩ := row5 HRb.out
            obtain ⟨q0, q1, q2, q3, q4, ⟨f0, f1, f2, f3, f4⟩, _⟩ := row5 HRs.out
            rw [hdn] at b4
            have HDn := hide hdn
            clear hdn
            go_wp2
            obtain ⟨r0, r1, r2, r3, r4⟩ := set5 HRs.out (.slice xa X.known.length xc) (.slice ya X.fresh.length yc) (.int .i64 X.level) (.int .i64 X.rounds) (.bool true)
            exact bodyPost_ret (v := .tuple #[.agg #[.slice xa X.known.length xc, .slice ya X.fresh.length yc, .int .i64 X.level, .int .i64 X.rounds, .bool true], .int .i64 0]) (by simp [results, Tryz.results36, go_sem, r0, r1, r2, r3, r4]) rfl
              ⟨_, 0, rfl, by rw [HT.out]; exact ⟨rfl, _, _, by rw [HDn.out], HO.out.put5 (by omega), HN'.out.put5 (by omega)⟩, Below.put5 HB.out (Nat.le_succ _)⟩
          | false =>
            have hX1 := HX.out
            rw [steps_next hdn] at hX1
            have HX1 := hide hX1
            have hNx := nextC p HRP.out σ X HRN.out hdn HSm.out (.slice pa p.length pc) (.slice a1 ss.length c1) (.slice xa X.known.length xc) (.slice ya X.fresh.length yc) wr (Kind.sl_below HV.out HB.out) (by rw [← HSS.out]; exact Kind.sl_any HVr.out) (HO.out.facts (by have := HRN.out.good.few; omega)) (HN'.out.facts (by have := Nat.le_trans (up_le HRN.out.up HRN.out.sub) HRN.out.good.few; omega))
            rw [← HSS.out] at hNx
            obtain ⟨er, Y, hY⟩ : ∃ er Y, nextP p ss X = (er, Y) := ⟨_, _, rfl⟩
            have HRY : Hid (er = 0 → RightN p (countP (p.map σ)) Y) := fun h => (next_right HRP.out σ HRN.out hdn (by rw [← HSS.out, hY, h])).1
            rw [hY, hdn] at hNx
            rw [hY] at HX1
            have HNx := hide hNx
            have HRb' := HRb
            rw [hdn] at HRb'
            obtain ⟨b0, b1, b2, b3, b4, _, _⟩ := row5 HRb'.out
            have hkp : (0 : Int) < ((k + 1 : Nat) : Int) := by omega
            clear hNx hY hX1 hdn HX
            go_wp2_with fail
            refine HNx.out.mono ?_
            rintro e w5 ⟨v5, er', rfl, ⟨her, hR5⟩, hB5⟩
            dsimp only at her hR5
            obtain rfl : er = er' := her.symm
            clear her
            obtain ⟨za, zc, ua, uc, rfl, hO5, hN5⟩ := hR5.slices
            have hr5 : w5.heap[w.heap.size]? = some (.cells #[.slice xa X.known.length xc, .slice ya X.fresh.length yc, .int .i64 X.level, .int .i64 X.rounds, .bool false] 47 (0, 0)) := by rw [hB5.block _ (by omega)]; exact HRb'.out
            have hs5 : w5.heap[w.heap.size + 1]? = some (.cells #[.slice none 0 0, .slice none 0 0, .int .i64 0, .int .i64 0, .bool false] 47 (0, 0)) := by rw [hB5.block _ (by omega)]; exact HRs.out
            have hz5 : w.heap.size + 2 ≤ w5.heap.size := by have := hB5.size; omega
            have HRb5 := hide (set_five hr5 (.slice za Y.known.length zc) (.slice ua Y.fresh.length uc) (.int .i64 Y.level) (.int .i64 Y.rounds) (.bool Y.done))
            have HRs5 : Hid ((put5 w5 w.heap.size (.slice za Y.known.length zc) (.slice ua Y.fresh.length uc) (.int .i64 Y.level) (.int .i64 Y.rounds) (.bool Y.done)).heap[w.heap.size + 1]? = some (.cells #[.slice none 0 0, .slice none 0 0, .int .i64 0, .int .i64 0, .bool false] 47 (0, 0))) := by show _ = _; rw [(put5_tn w5 w.heap.size _ _ _ _ _).block _ (by omega) (by omega)]; exact hs5
            have HB5 : Hid (Below w.heap.size w (put5 w5 w.heap.size (.slice za Y.known.length zc) (.slice ua Y.fresh.length uc) (.int .i64 Y.level) (.int .i64 Y.rounds) (.bool Y.done))) := Below.put5 (below_trans HB.out hB5 HB.out.size) (Nat.le_refl _)
            have HO5 : Hid (OwnF (put5 w5 w.heap.size (.slice za Y.known.length zc) (.slice ua Y.fresh.length uc) (.int .i64 Y.level) (.int .i64 Y.rounds) (.bool Y.done)) (w.heap.size + 2) (.slice za Y.known.length zc) Y.known) := (hO5.base (by omega)).put5 (by omega)
            have HN5 : Hid (OwnF (put5 w5 w.heap.size (.slice za Y.known.length zc) (.slice ua Y.fresh.length uc) (.int .i64 Y.level) (.int .i64 Y.rounds) (.bool Y.done)) (w.heap.size + 2) (.slice ua Y.fresh.length uc) Y.fresh) := (hN5.base (by omega)).put5 (by omega)
            have HV5 : Hid (intK.sl (From (w.heap.size + 2)) (put5 w5 w.heap.size (.slice za Y.known.length zc) (.slice ua Y.fresh.length uc) (.int .i64 Y.level) (.int .i64 Y.rounds) (.bool Y.done)) (.slice a1 ss.length c1) ss) := Kind.sl_kept (Kind.sl_far HVr.out hB5) (put5_tn _ _ _ _ _ _ _).size fun k hk hb => (put5_tn w5 w.heap.size _ _ _ _ _).block k hk (by have : w.heap.size + 2 ≤ k := hb; omega)
            clear b0 b1 b2 b3 b4
            obtain ⟨b0, b1, b2, b3, b4, ⟨g0, g1, g2, g3, g4⟩, _⟩ := row5 hr5
            obtain ⟨q0, q1, q2, q3, q4, ⟨f0, f1, f2, f3, f4⟩, _⟩ := row5 hs5
            clear hR5 hB5 hO5 hN5 hr5 hs5 HNx HRb HRb' HO HN' HRs HB hz HVr HRN
            by_cases he : er = 0
            · subst he
              have HX5 : Hid (SF = stepsP p ss k Y) := by show _ = _; rw [HX1.out]; simp
              have HRY' := hide (HRY.out rfl)
              clear HX1 HRY
              go_wp2
              go_roundg k
              case measure => omega
              case rel => exact ⟨k, rfl, by go_num, rfl, by omega, Y, za, ua, zc, uc, HRY', HRb5, HO5, HN5, HRs5, HB5, by simp only [size_setCell]; exact hz5, HV5, HX5⟩
            · have HX5 : Hid (SF = (er, noRun)) := by show _ = _; rw [HX1.out, if_pos he]
              have hne : (er != 0) = true := by simpa using he
              clear HX1 HRY he
              go_wp2
              obtain ⟨r0, r1, r2, r3, r4⟩ := set5 HRs5.out (.slice none 0 0) (.slice none 0 0) (.int .i64 0) (.int .i64 0) (.bool false)
              unfold put5 at r0 r1 r2 r3 r4
              exact bodyPost_ret (v := .tuple #[.agg #[.slice none 0 0, .slice none 0 0, .int .i64 0, .int .i64 0, .bool false], .int .i64 er]) (by simp [results, Tryz.results36, go_sem, r0, r1, r2, r3, r4]) rfl ⟨_, er, rfl, by rw [HX5.out]; exact ⟨rfl, RunO.none _ _⟩, Below.put5 HB5.out (Nat.le_succ _)⟩
  · have HX1 : Hid (SF = (R, noRun)) := by show _ = _; rw [HX.out, if_pos h0]
    have hne : (R != 0) = true := by simpa using h0
    clear HX HGo HS1 h0
    go_wp2
    obtain ⟨r0, r1, r2, r3, r4⟩ := set5 HRs3.out (.slice none 0 0) (.slice none 0 0) (.int .i64 0) (.int .i64 0) (.bool false)
    exact bodyPost_ret (v := .tuple #[.agg #[.slice none 0 0, .slice none 0 0, .int .i64 0, .int .i64 0, .bool false], .int .i64 R]) (by simp [results, Tryz.results36, go_sem, r0, r1, r2, r3, r4]) rfl ⟨_, R, rfl, by rw [HX1.out]; exact ⟨rfl, RunO.none _ _⟩, Below.put5 HB3.out (Nat.le_succ _)⟩

end Go.Proofs.YtafmbokfkbccaaaGreatDoor

/- The walks of round's Step, Begin and All. -/
namespace Go.Proofs.YtafmbokfkbccaaaGreatDoor
open Go.RowKit Go.Sort Go.Maps

def runOf (p : List RuleD) (l : List FactB) : RunD := ⟨l, l, 0, 0, decide (countP (strataP p).1 = 0)⟩

def beginP (p : List RuleD) (l : List FactB) : Int × RunD := if forE p l ≠ 0 then (forE p l, noRun) else (0, runOf p l)

set_option maxRecDepth 100000 in
set_option maxHeartbeats 2000000 in
theorem roundBegin (p : List RuleD) (l : List FactB) (pv fv : Value) (w : World) (hv : ruleK.sl Anyw w pv p) (hf : Facts w fv l) :
    Calls Tryz.prog 35 #[pv, fv] w fun e w' => ∃ v' er, e = .returned (.tuple #[v', .int .i64 er]) ∧ NextT (w.heap.size + 1) w' v' er (beginP p l) ∧ Below w.heap.size w w' := by
  obtain ⟨pa, pc, rfl⟩ := Kind.slice hv
  obtain ⟨fa, fc, rfl⟩ := sliceFacts hf
  obtain ⟨wb, hwb⟩ : ∃ wb, wb = w.alloc (.cells #[.slice none 0 0, .slice none 0 0, .int .i64 0, .int .i64 0, .bool false] 47) := ⟨_, rfl⟩
  have hLb : Later w wb := by rw [hwb]; exact (Later.refl w).alloc _
  have hzb : wb.heap.size = w.heap.size + 1 := by rw [hwb]; simp
  have hrs : wb.heap[w.heap.size]? = some (.cells #[.slice none 0 0, .slice none 0 0, .int .i64 0, .int .i64 0, .bool false] 47 (0, 0)) := by rw [hwb]; exact heap_alloc_new w _
  have HFo := hide (strataForC p l (.slice pa p.length pc) (.slice fa l.length fc) wb (Kind.sl_later hv hLb) (hf.later hLb))
  have HF := hide hf
  have HLb := hide hLb
  have HRs := hide hrs
  have HWb := hide hwb
  have HX : Hid (beginP p l = if forE p l ≠ 0 then (forE p l, noRun) else (0, ⟨l, l, 0, 0, decide (countP (strataP p).1 = 0)⟩)) := (rfl : _ = _)
  have HGo : Hid (forE p l = 0 → l.length ≤ 200 ∧ ∀ s ∈ (strataP p).1, s < 1000) := fun h => by
    obtain ⟨_, hg, τ, _, hs, ht⟩ := forE_zero h
    refine ⟨hg.few, fun s hs' => ?_⟩
    rw [hs] at hs'
    obtain ⟨q, hq, rfl⟩ := List.mem_map.1 hs'
    have := ht q hq
    omega
  unfold ForT at HFo
  generalize beginP p l = SF at *
  generalize forE p l = fo at *
  generalize (strataP p).1 = ss at *
  clear hv hf hLb hrs hwb
  go_enter Tryz.func35, Tryz.ntmps35
  go_wp2_with fail
  rw [← HWb.out]
  refine HFo.out.mono ?_
  rintro e w1 ⟨v1, rfl, ⟨⟨a1, n1, c1, rfl⟩, hs1⟩, hB1⟩
  have HB1 : Hid (Below w.heap.size w w1) := below_trans HLb.out.below hB1 HLb.out.size
  have hr1 : w1.heap[w.heap.size]? = some (.cells #[.slice none 0 0, .slice none 0 0, .int .i64 0, .int .i64 0, .bool false] 47 (0, 0)) := by rw [hB1.block _ (by omega)]; exact HRs.out
  have hz1 : w.heap.size + 1 ≤ w1.heap.size := by have := hB1.size; omega
  have HS1 := hide hs1
  have HR1 := hide hr1
  clear hB1 hs1 HFo HWb HRs
  by_cases h0 : fo = 0
  · subst h0
    obtain ⟨hl2, hsm⟩ := HGo.out rfl
    have HV1 := hide (Kind.sl_any (HS1.out rfl))
    have hn1 : n1 = ss.length := by obtain ⟨_, _, e⟩ := Kind.slice HV1.out; simp only [Value.slice.injEq] at e; exact e.2.1
    subst hn1
    have HX1 : Hid (SF = (0, ⟨l, l, 0, 0, decide (countP ss = 0)⟩)) := by show _ = _; rw [HX.out]; simp
    have HO1 := hide (ownC (.slice fa l.length fc) l w1 (HF.out.below HB1.out))
    have HSm := hide hsm
    clear HX HGo HS1 hr1 hsm
    go_wp2_with fail
    refine HO1.out.mono ?_
    rintro e w2 ⟨v2, rfl, hO2, hL2⟩
    obtain ⟨a2, c2, rfl⟩ := hO2.slice
    have HB2 : Hid (Below w.heap.size w w2) := below_trans HB1.out hL2.below HB1.out.size
    have HO2 := hide (ownC (.slice fa l.length fc) l w2 (HF.out.below HB2.out))
    have HR2 : Hid (w2.heap[w.heap.size]? = some (.cells #[.slice none 0 0, .slice none 0 0, .int .i64 0, .int .i64 0, .bool false] 47 (0, 0))) := by show _ = _; rw [hL2.block (by omega)]; exact HR1.out
    have HV2 := hide (Kind.sl_later HV1.out hL2)
    have HK2 := hide (hO2.base (base' := w.heap.size + 1) (by omega))
    have hz2 : w.heap.size + 1 ≤ w2.heap.size := by have := hL2.size; omega
    clear hO2 hL2 HO1 HB1 HR1 HV1 hz1
    go_wp2_with fail
    refine HO2.out.mono ?_
    rintro e w3 ⟨v3, rfl, hO3, hL3⟩
    obtain ⟨a3, c3, rfl⟩ := hO3.slice
    have HB3 : Hid (Below w.heap.size w w3) := below_trans HB2.out hL3.below HB2.out.size
    have HR3 : Hid (w3.heap[w.heap.size]? = some (.cells #[.slice none 0 0, .slice none 0 0, .int .i64 0, .int .i64 0, .bool false] 47 (0, 0))) := by show _ = _; rw [hL3.block (by omega)]; exact HR2.out
    have HK3 := hide (HK2.out.later hL3)
    have HN3 := hide (hO3.base (base' := w.heap.size + 1) (by omega))
    have HCn := hide (countC ss (.slice a1 ss.length c1) w3 (Kind.sl_later HV2.out hL3) HSm.out)
    have hz3 : w.heap.size + 1 ≤ w3.heap.size := by have := hL3.size; omega
    have hcs : countP ss ≤ 1000 := countP_le HSm.out
    clear hO3 hL3 HO2 HB2 HR2 HV2 HK2 hz2
    go_wp2_with fail
    refine HCn.out.mono ?_
    rintro e w4 ⟨rfl, hL4⟩
    have HB4 : Hid (Below w.heap.size w w4) := below_trans HB3.out hL4.below HB3.out.size
    have HR4 : Hid (w4.heap[w.heap.size]? = some (.cells #[.slice none 0 0, .slice none 0 0, .int .i64 0, .int .i64 0, .bool false] 47 (0, 0))) := by show _ = _; rw [hL4.block (by omega)]; exact HR3.out
    have HK4 := hide (HK3.out.later hL4)
    have HN4 := hide (HN3.out.later hL4)
    clear hL4 HCn HB3 HR3 HK3 HN3
    obtain ⟨q0, q1, q2, q3, q4, ⟨f0, f1, f2, f3, f4⟩, _⟩ := row5 HR4.out
    have HEq : Hid ((((countP ss : Nat) : Int) == 0) = decide (countP ss = 0)) := by
      show _ = _
      by_cases h : countP ss = 0
      · simp [h]
      · simp [h]
    generalize countP ss = cc at *
    go_wp2
    obtain ⟨r0, r1, r2, r3, r4⟩ := set5 HR4.out (.slice a2 l.length c2) (.slice a3 l.length c3) (.int .i64 0) (.int .i64 0) (.bool ((cc : Int) == 0))
    exact bodyPost_ret (v := .tuple #[.agg #[.slice a2 l.length c2, .slice a3 l.length c3, .int .i64 0, .int .i64 0, .bool ((cc : Int) == 0)], .int .i64 0]) (by simp [results, Tryz.results35, go_sem, r0, r1, r2, r3, r4]) rfl
      ⟨_, 0, rfl, by rw [HX1.out]; exact ⟨rfl, _, _, by rw [HEq.out], HK4.out.put5 (by omega), HN4.out.put5 (by omega)⟩, Below.put5 HB4.out (Nat.le_refl _)⟩
  · have HX1 : Hid (SF = (fo, noRun)) := by show _ = _; rw [HX.out, if_pos h0]
    have hne : (fo != 0) = true := by simpa using h0
    obtain ⟨q0, q1, q2, q3, q4, ⟨f0, f1, f2, f3, f4⟩, _⟩ := row5 hr1
    clear HX HGo HS1 h0 hr1
    go_wp2
    obtain ⟨r0, r1, r2, r3, r4⟩ := set5 HR1.out (.slice none 0 0) (.slice none 0 0) (.int .i64 0) (.int .i64 0) (.bool false)
    exact bodyPost_ret (v := .tuple #[.agg #[.slice none 0 0, .slice none 0 0, .int .i64 0, .int .i64 0, .bool false], .int .i64 fo]) (by simp [results, Tryz.results35, go_sem, r0, r1, r2, r3, r4]) rfl ⟨_, fo, rfl, by rw [HX1.out]; exact ⟨rfl, RunO.none _ _⟩, Below.put5 HB1.out (Nat.le_refl _)⟩

def allR (p : List RuleD) (l : List FactB) : Int × List FactB := if forE p l ≠ 0 then (forE p l, []) else
  if (stepsP p (strataP p).1 1000 (runOf p l)).1 ≠ 0 then ((stepsP p (strataP p).1 1000 (runOf p l)).1, []) else (0, (stepsP p (strataP p).1 1000 (runOf p l)).2.known)

theorem begin_right {p : List RuleD} {l : List FactB} (h : forE p l = 0) : wrongRunP p (runOf p l) = 0 := by
  obtain ⟨_, hg, _⟩ := forE_zero h
  exact wrongRun_right h (right_begin hg)

theorem steps_begin {p : List RuleD} {l : List FactB} (h : forE p l = 0) : stepsF p (runOf p l) 1000 = stepsP p (strataP p).1 1000 (runOf p l) := by
  unfold stepsF
  rw [if_neg (by rw [begin_right h]; simp), if_neg (by simp)]
  rfl

set_option maxRecDepth 100000 in
set_option maxHeartbeats 2000000 in
theorem roundAll (p : List RuleD) (l : List FactB) (pv fv : Value) (w : World) (hv : ruleK.sl Anyw w pv p) (hf : Facts w fv l) :
    Calls Tryz.prog 37 #[pv, fv] w fun e w' => ∃ v' er, e = .returned (.tuple #[v', .int .i64 er]) ∧ OnceT w' v' er (allR p l) ∧ Below w.heap.size w w' := by
  have HBg := hide (roundBegin p l pv fv w hv hf)
  have HX : Hid (allR p l = if forE p l ≠ 0 then (forE p l, []) else if (stepsP p (strataP p).1 1000 (runOf p l)).1 ≠ 0 then ((stepsP p (strataP p).1 1000 (runOf p l)).1, []) else (0, (stepsP p (strataP p).1 1000 (runOf p l)).2.known)) := (rfl : _ = _)
  have HFew : Hid (forE p l = 0 → l.length ≤ 200 ∧ ((stepsP p (strataP p).1 1000 (runOf p l)).1 = 0 → (stepsP p (strataP p).1 1000 (runOf p l)).2.known.length ≤ 200)) := fun h => by
    obtain ⟨hp, hg, τ, _, hs, _⟩ := forE_zero h
    refine ⟨hg.few, fun h1 => ?_⟩
    have e : (strataP p).1 = p.map fun r => τ r.head.name := by rw [hs]
    have hb := right_begin (c := countP (p.map fun r => τ r.head.name)) hg
    unfold runOf at h1 ⊢
    rw [e] at h1 ⊢
    exact (steps_right hp (fun r => τ r.head.name) 1000 hb (Prod.ext h1 rfl)).good.few
  obtain ⟨pa, pc, rfl⟩ := Kind.slice hv
  obtain ⟨fa, fc, rfl⟩ := sliceFacts hf
  have HV := hide hv
  clear hv hf
  unfold beginP at HBg
  go_enter Tryz.func37, Tryz.ntmps37
  go_wp2_with fail
  refine HBg.out.mono ?_
  rintro e w1 ⟨v1, er, rfl, ⟨her, hR1⟩, hB1⟩
  by_cases h0 : forE p l = 0
  · rw [if_neg (by simp [h0])] at her hR1
    have her : er = 0 := her
    subst her
    obtain ⟨xa, xc, ya, yc, rfl, hO1, hN1⟩ := hR1.slices
    dsimp only at hO1 hN1 ⊢
    obtain ⟨hl2, hk2⟩ := HFew.out h0
    have hkl : (runOf p l).known.length ≤ 200 := hl2
    have hnl : (runOf p l).fresh.length ≤ 200 := hl2
    obtain ⟨w2, hw2⟩ : ∃ w2, w2 = w1.alloc (.cells #[.slice xa (runOf p l).known.length xc, .slice ya (runOf p l).fresh.length yc, .int .i64 (runOf p l).level, .int .i64 (runOf p l).rounds, .bool (runOf p l).done] 47) := ⟨_, rfl⟩
    have hL2 : Later w1 w2 := by rw [hw2]; exact (Later.refl w1).alloc _
    have hz2 : w2.heap.size = w1.heap.size + 1 := by rw [hw2]; simp
    have hr2 : w2.heap[w1.heap.size]? = some (.cells #[.slice xa (runOf p l).known.length xc, .slice ya (runOf p l).fresh.length yc, .int .i64 (runOf p l).level, .int .i64 (runOf p l).rounds, .bool (runOf p l).done] 47 (0, 0)) := by rw [hw2]; exact heap_alloc_new w1 _
    have HB2 : Hid (Below w.heap.size w w2) := below_trans hB1 hL2.below hB1.size
    have hSt := roundSteps p (runOf p l) 1000 (.slice pa p.length pc) _ _ w2 (Kind.sl_below HV.out HB2.out) ((hO1.later hL2).facts (by omega)) ((hN1.later hL2).facts (by omega))
    rw [steps_begin h0] at hSt
    have HSt := hide hSt
    have HX1 : Hid (allR p l = if (stepsP p (strataP p).1 1000 (runOf p l)).1 ≠ 0 then ((stepsP p (strataP p).1 1000 (runOf p l)).1, []) else (0, (stepsP p (strataP p).1 1000 (runOf p l)).2.known)) := by show _ = _; rw [HX.out, if_neg (by simp [h0])]
    have HR2 := hide hr2
    have HW2 := hide hw2
    have HKl := hide hk2
    have hw1 : w.heap.size ≤ w1.heap.size := hB1.size
    clear hR1 hO1 hN1 hL2 hr2 hw2 hSt HX HFew HBg h0 hk2 hB1
    obtain ⟨e2, Y, hY⟩ : ∃ e2 Y, stepsP p (strataP p).1 1000 (runOf p l) = (e2, Y) := ⟨_, _, rfl⟩
    rw [hY] at HSt HX1 HKl
    clear hY
    generalize runOf p l = X at *
    go_wp2_with fail
    rw [← HW2.out]
    refine HSt.out.mono ?_
    rintro e w3 ⟨v3, e2', rfl, ⟨he2, hR3⟩, hB3⟩
    dsimp only at he2 hR3 HX1 HKl
    obtain rfl : e2 = e2' := he2.symm
    clear he2
    obtain ⟨za, zc, ua, uc, rfl, hO3, hN3⟩ := hR3.slices
    have HB3 : Hid (Below w.heap.size w w3) := below_trans HB2.out hB3 HB2.out.size
    have hr3 : w3.heap[w1.heap.size]? = some (.cells #[.slice xa X.known.length xc, .slice ya X.fresh.length yc, .int .i64 X.level, .int .i64 X.rounds, .bool X.done] 47 (0, 0)) := by rw [hB3.block _ (by omega)]; exact HR2.out
    obtain ⟨b0, b1, b2, b3, b4, ⟨g0, g1, g2, g3, g4⟩, _⟩ := row5 hr3
    have HO3 : Hid (OwnF w3 (w1.heap.size + 1) (.slice za Y.known.length zc) Y.known) := hO3.base (by omega)
    clear hR3 hN3 hO3 hB3 HSt HR2 HW2 hr3
    by_cases h1 : e2 = 0
    · subst h1
      have HX2 : Hid (allR p l = (0, Y.known)) := by show _ = _; rw [HX1.out]; simp
      have hyl := HKl.out rfl
      go_wp2
      exact bodyPost_ret (v := .tuple #[.slice za Y.known.length zc, .int .i64 0]) (by simp [results, Tryz.results37, go_sem]) rfl ⟨_, 0, rfl, by rw [HX2.out]; exact ⟨rfl, fun h => absurd rfl h, fun _ => (HO3.out.put5 (R := w1.heap.size) (by omega)).facts (by omega)⟩, Below.put5 HB3.out hw1⟩
    · have HX2 : Hid (allR p l = (e2, [])) := by show _ = _; rw [HX1.out, if_pos h1]
      have hne : (e2 != 0) = true := by simpa using h1
      have HH := hide h1
      clear h1
      go_wp2
      exact bodyPost_ret (v := .tuple #[.slice none 0 0, .int .i64 e2]) (by simp [results, Tryz.results37, go_sem]) rfl ⟨_, e2, rfl, by rw [HX2.out]; exact ⟨rfl, fun _ => rfl, fun h => absurd h HH.out⟩, Below.put5 HB3.out hw1⟩
  · rw [if_pos h0] at her hR1
    have her : er = forE p l := her
    subst her
    have HX1 : Hid (allR p l = (forE p l, [])) := by show _ = _; rw [HX.out, if_pos h0]
    obtain ⟨xa, xc, ya, yc, rfl, _, _⟩ := hR1.slices
    have hne : (forE p l != 0) = true := by simpa using h0
    have HH := hide h0
    have HB1 := hide hB1
    clear hR1 HX HFew HBg h0 hB1
    generalize forE p l = fo at *
    go_wp2
    exact bodyPost_ret (v := .tuple #[.slice none 0 0, .int .i64 fo]) (by simp [results, Tryz.results37, go_sem]) rfl ⟨_, fo, rfl, by rw [HX1.out]; exact ⟨rfl, fun _ => rfl, fun h => absurd h HH.out⟩, below_trans HB1.out ((Later.refl _).alloc _).below HB1.out.size⟩

end Go.Proofs.YtafmbokfkbccaaaGreatDoor

/- The walk of TopRoads. -/
namespace Go.Proofs.YtafmbokfkbccaaaGreatDoor
open Go.RowKit Go.Sort Go.Maps

theorem IntsZ.below {w w' : World} {v : Value} {g : Nat → Int} {n : Nat} (h : IntsZ w v g n) (k : Below w.heap.size w w') : IntsZ w' v g n := by
  obtain ⟨a, c, rfl, h1⟩ := h
  refine ⟨a, c, rfl, fun hn => ?_⟩
  obtain ⟨b, off, rfl, hb, hc⟩ := h1 hn
  exact ⟨b, off, rfl, Nat.lt_of_lt_of_le hb k.size, fun i hi => by rw [k.cell (p := ⟨b, off + i, none⟩) hb]; exact hc i hi⟩

theorem rds_all {n : Nat} (h1 : 1 ≤ n) (h6 : n ≤ 6) {g h : Nat → Int} {m j : Nat} (hj : j ≤ 12) : ∃ M, allR chR (setF (rdsL n g h m j ++ twsL n)) = (0, M) ∧ Up M ∧ M.length ≤ 200 ∧ ∀ a b, a < n → b < n → (inB M (wyF (chN a) (chN b)) = passN n (rdsF n g h m j) n a b ∧ inB M (cuF (chN a) (chN b)) = !passN n (rdsF n g h m j) n a b) := by
  have hN := net_of (g := g) (h := h) (m := m) h1 h6 hj
  obtain ⟨M, k1, k2, k3, k4, k5, k6⟩ := hN.follows
  obtain ⟨x, s1, s2⟩ := hN.rounds k1
  have e0 : strataP chR = ([0, 0, 1], 0, 0) := strata_roads
  have e1 : (strataP chR).2.1 = 0 := by rw [e0]
  have e2 : (strataP chR).1 = [0, 0, 1] := by rw [e0]
  have hfo : forE chR (setF (rdsL n g h m j ++ twsL n)) = 0 := by
    unfold forE
    rw [if_neg (fun h => h e1), good_facts hN.good]
  refine ⟨M, ?_, k2, Nat.le_trans (hN.len k2 k3) (by omega), fun a b ha hb => ?_⟩
  · have er : runOf chR (setF (rdsL n g h m j ++ twsL n)) = ⟨setF (rdsL n g h m j ++ twsL n), setF (rdsL n g h m j ++ twsL n), 0, 0, false⟩ := by unfold runOf; rw [e2]; rfl
    unfold allR
    rw [if_neg (by simp [hfo]), e2, er, s1]
    simp [s2]
  · have hl := pass_leads (n := n) (f := rdsF n g h m j) (fun a b e => rdsF_lt h1 e) ha hb
    have hw := k5 a b (by omega) (by omega)
    have hc := k6 a b ha hb
    constructor
    · rw [Bool.eq_iff_iff, inB_iff, hw, hl]
    · rw [Bool.eq_iff_iff, inB_iff, hc, Bool.not_eq_true', ← Bool.not_eq_true, hl]

theorem wpList_run_store {P : Program} {w : World} {ops : Array Oper} {rest : List Oper} {o : Oper} {a : Act} {Q : Exit → Act → World → Prop} (hg : o.guard = none) (t : TypeId) (p x : Operand) (hop : o.op = Op.store t p x) (vp vx : Value) (w' : World) (hp : a.eval p = vp) (hx : a.eval x = vx) (hrun : (Instr.storeAt t vp vx).run P w = .ok () w')
    (hK : wpList P ops Q rest (a.put o.dst undef) w') : wpList P ops Q (o :: rest) a w := by
  refine wpList_plain hg fun K' hK' => ?_
  unfold Oper.wp
  simp [execOp, hop, hp, hx, hrun, Result.andThen]
  exact hK' _ _ hK

theorem store_reach {w : World} {g : Nat} {f f' : Nat → Nat → Bool} (h : RowR 92 w g f) : (Instr.storeAt 92 (.pointer (some ⟨g, 0, none⟩)) (.agg (cellsR f'))).run Tryz.prog w = .ok () (w.setRow g (cellsR f')) := by
  simp only [Instr.storeAt, Instr.sureAddr, Sem.run_bind, Sem.run_pure, Result.andThen]
  exact run_storeVar_row _ _ 92 92 _ _ h (by rw [cellsR_size]; kernel_rfl) (by rw [cellsR_size, cellsR_size]) (Array.all_eq_true_iff_forall_mem.2 fun v hv => cellsR_one f' v (by simpa using hv))

set_option maxRecDepth 100000 in
set_option maxHeartbeats 4000000 in
theorem topRoadsW (n : Int) (fv tv : Value) (g h : Nat → Int) (nf nt : Nat) (w : World) (m : Int) (hm : w.cell? ⟨1, 0, none⟩ = some (.int .i64 m)) (hF : IntsZ w fv g nf) (hT : IntsZ w tv h nt) :
    Calls Tryz.prog 11 #[.int .i64 n, fv, tv] w fun e w' => e = .returned (.bool true) ∧ Below w.heap.size w w' := by
  have HA := hide (aliveT w m hm)
  have hmlt : 1 < w.heap.size := by
    refine Classical.byContradiction fun h => ?_
    rw [World.cell?, Array.getElem?_eq_none (by simpa using h)] at hm
    simp at hm
  have HP : Hid (∀ w', Below w.heap.size w w' → Calls Tryz.prog 46 #[.string (bs roadsT)] w' fun e w'' => ∃ v, e = .returned (.tuple #[v, .agg #[.int .i64 0, .int .i64 0]]) ∧ ruleK.sl Anyw w'' v chR ∧ Below w'.heap.size w' w'') := fun w' hb => by
    refine (parseC (bs roadsT) w' m (by rw [hb.cell (p := ⟨1, 0, none⟩) hmlt]; exact hm)).mono ?_
    rintro e w'' ⟨v, rfl, hV, hB⟩
    rw [raw_bs, told_roads] at hV ⊢
    exact ⟨v, rfl, Kind.sl_any hV, hB⟩
  clear hm hmlt
  have HF := hide hF
  have HT := hide hT
  obtain ⟨fa, fc, rfl, _⟩ := hF
  obtain ⟨ta, tc, rfl, _⟩ := hT
  go_enter Tryz.func11, Tryz.ntmps11
  go_wp2_with fail
  refine HA.out.mono ?_
  rintro e w1 ⟨rfl, hB1⟩
  have HB1 := hide hB1
  clear HA hB1
  by_cases hn1 : n < 1
  · go_wp2
    go_ret
    exact ⟨rfl, HB1.out⟩
  by_cases hn6 : 6 < n
  · go_wp2
    go_ret
    exact ⟨rfl, HB1.out⟩
  by_cases hn12 : (12 : Int) < (nf : Int)
  · go_wp2
    go_ret
    exact ⟨rfl, HB1.out⟩
  obtain ⟨k, rfl⟩ : ∃ k : Nat, n = (k : Int) := ⟨n.toNat, by omega⟩
  have hk1 : 1 ≤ k := by omega
  have hk6 : k ≤ 6 := by omega
  have hf12 : nf ≤ 12 := by omega
  have HN := hide (netsC k hk1 hk6 _ _ g h nf nt hf12 w1 (HF.out.below HB1.out) (HT.out.below HB1.out))
  obtain ⟨M, hM, hMu, hMl, hMm⟩ := rds_all (g := g) (h := h) (m := nt) (j := nf) hk1 hk6 hf12
  obtain ⟨F, hFe⟩ : ∃ F, F = passN k (rdsF k g h nt nf) k := ⟨_, rfl⟩
  obtain ⟨L, hLe⟩ : ∃ L, L = setF (rdsL k g h nt nf ++ twsL k) := ⟨_, rfl⟩
  have hLl : L.length ≤ 20 := by rw [hLe]; exact (net_of (g := g) (h := h) (m := nt) hk1 hk6 hf12).few
  rw [← hFe, ← hLe] at HN
  rw [← hLe] at hM
  rw [← hFe] at hMm
  have HM := hide hM
  have HMu := hide hMu
  have HMm := hide hMm
  clear hFe hLe HF HT hM hMu hMm
  go_wp2_with fail
  refine HN.out.mono ?_
  rintro e w2 ⟨v2, rfl, hO2, hB2⟩
  obtain ⟨a2, c2, rfl⟩ := hO2.slice
  obtain ⟨w3, hw3⟩ : ∃ w3, w3 = w2.alloc (.cells (cellsR noR) 92) := ⟨_, rfl⟩
  have hr3 : RowR 92 w3 w2.heap.size noR := by unfold RowR; rw [hw3]; exact heap_alloc_new _ _
  have hL3 : Later w2 w3 := by rw [hw3]; exact (Later.refl _).alloc _
  have hst := store_reach (f' := F) hr3
  obtain ⟨hr4, hT4⟩ := row_new (cs' := cellsR F) hr3
  have hr4 : RowR 92 _ w2.heap.size F := hr4
  have hB4 : Below w2.heap.size w2 (w3.setRow w2.heap.size (cellsR F)) := below_trans hL3.below (hT4.below (Nat.le_refl _) hL3.size) (Nat.le_refl _)
  have hB04 : Below w.heap.size w (w3.setRow w2.heap.size (cellsR F)) := below_trans (below_trans HB1.out hB2 HB1.out.size) hB4 (Nat.le_trans HB1.out.size hB2.size)
  have hFc : Facts (w3.setRow w2.heap.size (cellsR F)) (.slice a2 L.length c2) L := (hO2.facts (by omega)).below hB4
  generalize w3.setRow w2.heap.size (cellsR F) = w4 at *
  have HPr := hide (HP.out w4 hB04)
  rw [cells_noR] at hw3
  have HW3 := hide hw3
  have HSt := hide hst
  have HR4 := hide hr4
  have HB4 := hide hB04
  have HF4 := hide hFc
  clear hw3 hr3 hL3 hst hr4 hT4 hB4 hB04 hFc hO2 hB2 HN HP HB1
  go_wp2_with (first | (rw [← HW3.out]) | (refine wpList_run_store rfl 92 (.tmp 8) (.tmp 35) rfl _ _ _ rfl rfl HSt.out ?_) | fail)
  refine HPr.out.mono ?_
  rintro e w5 ⟨v5, rfl, hV5, hB5⟩
  obtain ⟨pa, pc, rfl⟩ := Kind.slice hV5
  obtain ⟨w6, hw6⟩ : ∃ w6, w6 = w5.alloc (.cells #[.int .i64 0, .int .i64 0] 75) := ⟨_, rfl⟩
  have hL6 : Later w5 w6 := by rw [hw6]; exact (Later.refl _).alloc _
  have hB46 : Below w4.heap.size w4 w6 := below_trans hB5 hL6.below hB5.size
  have hAl := roundAll chR L _ _ w6 (Kind.sl_later hV5 hL6) (HF4.out.below hB46)
  rw [HM.out] at hAl
  have HAl := hide hAl
  have HR6 : Hid (RowR 92 w6 w2.heap.size F) := (hB46.block _ HR4.out.lt).trans HR4.out
  have HB6 : Hid (Below w.heap.size w w6) := below_trans HB4.out hB46 HB4.out.size
  have HW6 := hide hw6
  clear hV5 hB5 hw6 hL6 hB46 hAl HW3 HSt HR4 HB4 HF4 HPr HM
  go_wp2_with fail
  rw [← HW6.out]
  refine HAl.out.mono ?_
  rintro e w7 ⟨v7, er, rfl, ⟨her, _, hT7⟩, hB7⟩
  dsimp only at her hT7
  subst her
  have hF7 := hT7 rfl
  obtain ⟨a7, c7, rfl⟩ := sliceFacts hF7
  have HR7 : Hid (RowR 92 w7 w2.heap.size F) := (hB7.block _ HR6.out.lt).trans HR6.out
  have HB7 : Hid (Below w.heap.size w w7) := below_trans HB6.out hB7 HB6.out.size
  have HF7 := hide hF7
  clear hT7 hF7 hB7 HAl HR6 HB6 HW6
  have HS7 : Hid (∀ w', Below w7.heap.size w7 w' → RowR 92 w' w2.heap.size F) := fun w' h => (h.block _ HR7.out.lt).trans HR7.out
  have HIn : Hid (∀ w' t f, Below w7.heap.size w7 w' → FactV w' t f → Calls Tryz.prog 23 #[.slice a7 M.length c7, t] w' fun e w'' => e = .returned (.bool (inB M f)) ∧ Below w7.heap.size w7 w'') := fun w' t f h ht => by
    have hI := inC _ t M f w' (HF7.out.below h) ht HMu.out
    rw [in_eq] at hI
    exact hI.mono fun e w'' ⟨he, hL⟩ => ⟨he, below_trans h hL.below h.size⟩
  clear HF7 HMu HR7
  go_wp2
  go_loopg [49] k (fun q i wr => ∃ a : Nat, a + q = k ∧ i = .int .i64 a ∧ Hid (Below w7.heap.size w7 wr))
  case atStart => exact ⟨0, by omega, rfl, Below.refl _ _⟩
  case round =>
    obtain ⟨a, ha, rfl, HBa⟩ := hrel
    by_cases hak : a < k
    · have haz : (a : Int) < (k : Int) := by omega
      go_wp2
      go_loopg [53] k (fun q i wr => ∃ b : Nat, b + q = k ∧ i = .int .i64 b ∧ Hid (Below w7.heap.size w7 wr))
      case atStart => exact ⟨0, by omega, rfl, HBa⟩
      case round =>
        clear HBa
        obtain ⟨b, hb, rfl, HBb⟩ := hrel
        by_cases hbk : b < k
        · have hbz : (b : Int) < (k : Int) := by omega
          obtain ⟨hwy, hcu⟩ := HMm.out a b hak hbk
          have HN1 : Hid (∀ w, Calls Tryz.prog 47 #[.int .i64 (a : Nat)] w fun e w' => e = .returned (.string (nmB a)) ∧ Later w w') := nameC a (by omega)
          have HN2 : Hid (∀ w, Calls Tryz.prog 47 #[.int .i64 (b : Nat)] w fun e w' => e = .returned (.string (nmB b)) ∧ Later w w') := nameC b (by omega)
          go_wp2_with fail
          refine (HN1.out _).mono ?_
          rintro e w8 ⟨rfl, hL8⟩
          have HB8 := hide (below_trans HBb.out hL8.below HBb.out.size)
          clear hL8 HN1
          go_wp2_with fail
          refine (HN2.out _).mono ?_
          rintro e w9 ⟨rfl, hL9⟩
          have HB9 := hide (below_trans HB8.out hL9.below HB8.out.size)
          obtain ⟨wx, hwx⟩ : ∃ wx, wx = w9.alloc (.cells #[.string (nmB a), .string (nmB b)] 9) := ⟨_, rfl⟩
          have hrx : wx.heap[w9.heap.size]? = some (.cells #[.string (nmB a), .string (nmB b)] 9 (0, 0)) := by rw [hwx]; exact heap_alloc_new _ _
          have hLx : Later w9 wx := by rw [hwx]; exact (Later.refl _).alloc _
          have hBx : Below w7.heap.size w7 wx := below_trans HB9.out hLx.below HB9.out.size
          have hIc := HIn.out wx (.agg #[.string ⟨#[99, 117, 116]⟩, .slice (some ⟨w9.heap.size, 0, none⟩) 2 2]) (cuF (chN a) (chN b)) hBx ⟨_, rfl, strs2' hrx⟩
          rw [hcu] at hIc
          have HIc := hide hIc
          have HWx := hide hwx
          clear hL9 hwx hrx hLx hBx hIc HN2 hcu HB8 HB9
          go_wp2_with (first | (rw [← HWx.out]) | fail)
          refine HIc.out.mono ?_
          rintro e wy ⟨rfl, hBy⟩
          clear HIc HWx HBb
          have HWy : Hid (∀ w', Below w7.heap.size w7 w' → Calls Tryz.prog 48 #[.int .i64 (a : Nat), .int .i64 (b : Nat)] w' fun e w'' => ∃ v, e = .returned v ∧ FactV w'' v (wyF (chN a) (chN b)) ∧ Below w7.heap.size w7 w'') := fun w' h =>
            (wayC a b (by omega) (by omega) w').mono fun e w'' ⟨v, he, hF, hL⟩ => ⟨v, he, hF, below_trans h hL.below h.size⟩
          have HIw : Hid (∀ w' t, Below w7.heap.size w7 w' → FactV w' t (wyF (chN a) (chN b)) → Calls Tryz.prog 23 #[.slice a7 M.length c7, t] w' fun e w'' => e = .returned (.bool (F a b)) ∧ Below w7.heap.size w7 w'') := fun w' t h ht => by
            have := HIn.out w' t _ h ht
            rw [hwy] at this
            exact this
          have HSc : Hid (∀ w', Below w7.heap.size w7 w' → w'.cell? ⟨w2.heap.size, a * 8 + b, none⟩ = some (.bool (F a b))) := fun w' h => (HS7.out w' h).cell (by omega) (by omega)
          have HBy := hide hBy
          have a8 : (a : Int) < 8 := by omega
          have b8 : (b : Int) < 8 := by omega
          clear hwy hBy
          generalize F a b = x at *
          go_wp2
          refine wp_region_held_drew (S := fun w' => Below w7.heap.size w7 w') (by kernel_rfl) HBy.out.drew (fun hHeld => ?_)
          refine take_yes (i := 0) (d := some 64) (v := ?_) rfl rfl hHeld ?_ ?_; rotate_left; focus intro w hSw; (try dsimp only at hSw);  go_simp; try with_reducible rfl
          simp only [aput, aset, aze, asu]
          refine take_yes (i := 1) (d := some 65) (v := ?_) rfl rfl hHeld ?_ ?_; rotate_left; focus intro w hSw; (try dsimp only at hSw);  go_simp; try with_reducible rfl
          simp only [aput, aset, aze, asu]
          refine take_yes (i := 2) (d := some 66) (v := ?_) rfl rfl hHeld ?_ ?_; rotate_left; focus intro w hSw; (try dsimp only at hSw);  go_simp; try with_reducible rfl
          simp only [aput, aset, aze, asu]
          refine take_yes (i := 5) (d := some 69) (v := ?_) rfl rfl hHeld ?_ ?_; rotate_left; focus intro w hSw; (try dsimp only at hSw);  go_simp; try with_reducible rfl
          simp only [aput, aset, aze, asu]
          refine take_yes (i := 6) (d := some 70) (v := ?_) rfl rfl hHeld ?_ ?_; rotate_left; focus intro w hSw; (try dsimp only at hSw);  go_simp; try with_reducible rfl
          simp only [aput, aset, aze, asu]
          refine take_yes (i := 7) (d := some 71) (v := ?_) rfl rfl hHeld ?_ ?_; rotate_left; focus intro w hSw; (try dsimp only at hSw);  go_simp; try with_reducible rfl
          simp only [aput, aset, aze, asu]
          refine take_yes (i := 8) (d := some 72) (v := ?_) rfl rfl hHeld ?_ ?_; rotate_left; focus intro w hSw; (try dsimp only at hSw);  go_simp; try with_reducible rfl
          simp only [aput, aset, aze, asu]
          refine take_yes (i := 9) (d := some 73) (v := ?_) rfl rfl hHeld ?_ ?_; rotate_left; focus intro w hSw; (try dsimp only at hSw); have q := HSc.out _ hSw; go_simp; try with_reducible rfl
          simp only [aput, aset, aze, asu]
          refine wpAnyH_ready (rs := [3]) (by kernel_rfl) (by simp) ?_
          refine AllReadyH.cons rfl (fun K hK => ?_) AllReadyH.nil
          go_simp
          refine (HWy.out _ hHeld).mono ?_
          rintro e wz ⟨v, rfl, hFv, hBz⟩
          refine hK.out _ _ hBz (fun hHeld => ?_)
          clear hK K
          refine wpAnyH_ready (rs := [4]) (by kernel_rfl) (by simp) ?_
          refine AllReadyH.cons rfl (fun K hK => ?_) AllReadyH.nil
          go_simp
          refine (HIw.out _ _ hHeld hFv).mono ?_
          rintro e wz ⟨rfl, hBz'⟩
          refine hK.out _ _ hBz' (fun hHeld => ?_)
          clear hK K
          refine take_yes (i := 10) (d := some 74) (v := ?_) rfl rfl hHeld ?_ ?_; rotate_left; focus intro w hSw; (try dsimp only at hSw);  go_simp; try with_reducible rfl
          simp only [aput, aset, aze, asu]
          refine take_yes (i := 11) (d := some 75) (v := ?_) rfl rfl hHeld ?_ ?_; rotate_left; focus intro w hSw; (try dsimp only at hSw);  go_simp; try with_reducible rfl
          simp only [aput, aset, aze, asu]
          refine take_yes (i := 12) (d := some 76) (v := ?_) rfl rfl hHeld ?_ ?_; rotate_left; focus intro w hSw; (try dsimp only at hSw);  go_simp; try with_reducible rfl
          simp only [aput, aset, aze, asu]
          refine take_yes (i := 13) (d := some 77) (v := ?_) rfl rfl hHeld ?_ ?_; rotate_left; focus intro w hSw; (try dsimp only at hSw);  go_simp; try with_reducible rfl
          simp only [aput, aset, aze, asu]
          refine take_yes (i := 14) (d := some 78) (v := ?_) rfl rfl hHeld ?_ ?_; rotate_left; focus intro w hSw; (try dsimp only at hSw);  go_simp; try with_reducible rfl
          simp only [aput, aset, aze, asu]
          refine take_yes (i := 15) (d := some 79) (v := ?_) rfl rfl hHeld ?_ ?_; rotate_left; focus intro w hSw; (try dsimp only at hSw);  go_simp; try with_reducible rfl
          simp only [aput, aset, aze, asu]
          refine take_yes (i := 16) (d := some 80) (v := ?_) rfl rfl hHeld ?_ ?_; rotate_left; focus intro w hSw; (try dsimp only at hSw);  go_simp; try with_reducible rfl
          simp only [aput, aset, aze, asu]
          refine take_yes (i := 17) (d := some 81) (v := ?_) rfl rfl hHeld ?_ ?_; rotate_left; focus intro w hSw; (try dsimp only at hSw); have q := HSc.out _ hSw; go_simp; try with_reducible rfl
          simp only [aput, aset, aze, asu]
          refine take_yes (i := 18) (d := some 82) (v := ?_) rfl rfl hHeld ?_ ?_; rotate_left; focus intro w hSw; (try dsimp only at hSw);  go_simp; try with_reducible rfl
          simp only [aput, aset, aze, asu]
          refine take_yes (i := 19) (d := some 83) (v := ?_) rfl rfl hHeld ?_ ?_; rotate_left; focus intro w hSw; (try dsimp only at hSw);  go_simp; try with_reducible rfl
          simp only [aput, aset, aze, asu]
          refine wpAnyH_done (by kernel_rfl) ?_ _
          have HBe := hide hBz'
          clear hFv hBz hBz' hHeld
          go_wp2
          go_roundg (k - (b + 1))
          case measure => omega
          case rel => exact ⟨b + 1, by omega, by go_num, HBe⟩
        · have hbz : ¬ (b : Int) < (k : Int) := by omega
          go_wp2
          go_roundg (k - (a + 1))
          case measure => omega
          case rel => exact ⟨a + 1, by omega, by go_num, HBb⟩
    · have haz : ¬ (a : Int) < (k : Int) := by omega
      go_wp2
      go_ret
      exact ⟨rfl, below_trans HB7.out HBa.out HB7.out.size⟩

end Go.Proofs.YtafmbokfkbccaaaGreatDoor

/- Programs among a call's arguments, opened: how they lie in memory, and that no list of theirs is longer than the form's reach, no text longer than Go's. -/
namespace Go.Proofs.YtafmbokfkbccaaaGreatDoor
open Go.RowKit Go.Sort Go.ChangeShapes Go.WideShapes Go.ChangeAt Go.Deep

variable {H : Type} {enc : TypeId × Value → H} {W : World}

theorem ownP : ownKnob Tryz.prog.godebug = none := by kernel_rfl

theorem laidOutP : laidOutB Tryz.prog = true := by kernel_rfl

theorem addr_plainP {a : Addr} {v : Value} (h : W.cell? (a.add 0) = some v) : ∃ b off, a = ⟨b, off, none⟩ := by
  obtain ⟨b, off, spot⟩ := a
  have hspot : spot = none := by simpa [Addr.add] using World.cell?_spot h
  subst hspot
  exact ⟨b, off, rfl⟩

def Sized (t : TypeId) (d : DataW H) : Prop := (d.weights Tryz.prog t).all (· ≤ reachBytes) = true
def Opens {α : Type} (enc : TypeId × Value → H) (W : World) (ty : TypeId) (K : Kind α) (ok : α → Prop) : Prop :=
  ∀ n cs x, DataW.trod enc Tryz.prog W 0 (fun _ => true) true n ty cs = some x → Sized ty x.1 → ∃ a, K.is Anyw W cs a ∧ ok a

def okT (t : TermD) : Prop := t.2.length ≤ maxLen
def okA (a : AtomD) : Prop := a.name.length ≤ maxLen ∧ ∀ t ∈ a.terms, okT t
def okR (r : RuleD) : Prop := okA r.head ∧ ∀ a ∈ r.body, okA a

end Go.Proofs.YtafmbokfkbccaaaGreatDoor
