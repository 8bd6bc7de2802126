/- Texts of this claim, one behind the other. -/
import Derived.Test.YtalggolacdlnnaaGreatDoorJ23
import Derived.Test.YtalggolacdlnnaaGreatDoorJ22
import Derived.Test.YtalggolacdlnnaaGreatDoorJ18
/- The walk of round's Steps. -/
namespace Go.Proofs.YtalggolacdlnnaaGreatDoor
open Go.RowKit Go.Sort Go.Maps

/-- What Steps tells. -/
def stepsF (p : List RuleD) (r : RunD) (n : Int) : Int × RunD := if wrongRunP p r ≠ 0 then (wrongRunP p r, noRun) else if (decide (0 ≤ n) && decide (n ≤ 1000)) = false then (3, noRun) else stepsP p (strataP p).1 n.toNat r

theorem RunO.slices {b : Nat} {w : World} {v : Value} {r : RunD} (h : RunO b w v r) : ∃ ka kc na nc, v = .agg #[.slice ka r.known.length kc, .slice na r.fresh.length nc, .int .i64 r.level, .int .i64 r.rounds, .bool r.done] ∧ OwnF w b (.slice ka r.known.length kc) r.known ∧ OwnF w b (.slice na r.fresh.length nc) r.fresh := by
  obtain ⟨kv, nv, h1, h2, h3⟩ := h
  obtain ⟨ka, kc, rfl⟩ := h2.slice
  obtain ⟨na, nc, rfl⟩ := h3.slice
  exact ⟨ka, kc, na, nc, h1, h2, h3⟩

set_option maxRecDepth 100000 in
set_option maxHeartbeats 4000000 in
theorem roundSteps (p : List RuleD) (r : RunD) (n : Int) (pv kv nv : Value) (w : World) (hv : ruleK.sl Anyw w pv p) (hk : Facts w kv r.known) (hn : Facts w nv r.fresh) :
    Calls Tryz.prog 9 #[pv, .agg #[kv, nv, .int .i64 r.level, .int .i64 r.rounds, .bool r.done], .int .i64 n] w fun e w' => ∃ v' er, e = .returned (.tuple #[v', .int .i64 er]) ∧ NextT (w.heap.size + 2) w' v' er (stepsF p r n) ∧ Below w.heap.size w w' := by
  obtain ⟨K, N, lev, rn, dn⟩ := r
  dsimp only at *
  obtain ⟨pa, pc, rfl⟩ := Kind.slice hv
  obtain ⟨ka, kc, rfl⟩ := sliceFacts hk
  obtain ⟨na, nc, rfl⟩ := sliceFacts hn
  obtain ⟨w2, hw2⟩ : ∃ w2, w2 = (w.alloc (.cells #[.slice ka K.length kc, .slice na N.length nc, .int .i64 lev, .int .i64 rn, .bool dn] 36)).alloc (.cells #[.slice none 0 0, .slice none 0 0, .int .i64 0, .int .i64 0, .bool false] 36) := ⟨_, rfl⟩
  have hL2 : Later w w2 := by rw [hw2]; exact ((Later.refl w).alloc _).alloc _
  have hz2 : w2.heap.size = w.heap.size + 2 := by rw [hw2]; simp
  have hrb : w2.heap[w.heap.size]? = some (.cells #[.slice ka K.length kc, .slice na N.length nc, .int .i64 lev, .int .i64 rn, .bool dn] 36 (0, 0)) := by
    rw [hw2, Below.heap_alloc _ _ _ (by simp)]; exact heap_alloc_new w _
  have hrs : w2.heap[w.heap.size + 1]? = some (.cells #[.slice none 0 0, .slice none 0 0, .int .i64 0, .int .i64 0, .bool false] 36 (0, 0)) := by
    have := heap_alloc_new (w.alloc (.cells #[.slice ka K.length kc, .slice na N.length nc, .int .i64 lev, .int .i64 rn, .bool dn] 36)) (.cells #[.slice none 0 0, .slice none 0 0, .int .i64 0, .int .i64 0, .bool false] 36)
    rw [hw2]; simpa using this
  have HOf := hide (strataOfC p ⟨K, N, lev, rn, dn⟩ (.slice pa p.length pc) (.slice ka K.length kc) (.slice na N.length nc) w2 (Kind.sl_later hv hL2) (hk.later hL2) (hn.later hL2))
  have HV := hide hv
  have HK := hide hk
  have HN := hide hn
  have HL2 := hide hL2
  have HRb := hide hrb
  have HRs := hide hrs
  have HW2 := hide hw2
  have HX : Hid (stepsF p ⟨K, N, lev, rn, dn⟩ n = if wrongRunP p ⟨K, N, lev, rn, dn⟩ ≠ 0 then (wrongRunP p ⟨K, N, lev, rn, dn⟩, noRun) else if (decide (0 ≤ n) && decide (n ≤ 1000)) = false then (3, noRun) else stepsP p (strataP p).1 n.toNat ⟨K, N, lev, rn, dn⟩) := (rfl : _ = _)
  have HGo : Hid (wrongRunP p ⟨K, N, lev, rn, dn⟩ = 0 → RightP p ∧ ∃ σ : RuleD → Nat, (strataP p).1 = p.map σ ∧ RightN p (countP (p.map σ)) ⟨K, N, lev, rn, dn⟩ ∧ ∀ s ∈ p.map σ, s < 1000) := fun h => by
    obtain ⟨h1, h2⟩ := wrongRun_zero h
    obtain ⟨hp, _, τ, _, hs, ht⟩ := forE_zero h1
    have e : (strataP p).1 = p.map fun r => τ r.head.name := by rw [hs]
    refine ⟨hp, _, e, e ▸ h2, fun s hs' => ?_⟩
    obtain ⟨q, hq, rfl⟩ := List.mem_map.1 hs'
    have := ht q hq
    omega
  unfold OfT at HOf
  generalize stepsF p ⟨K, N, lev, rn, dn⟩ n = SF at *
  generalize wrongRunP p ⟨K, N, lev, rn, dn⟩ = R at *
  generalize (strataP p).1 = ss at *
  clear hv hk hn hL2 hrb hrs hw2
  go_enter Tryz.func9, Tryz.ntmps9
  go_wp2_with fail
  rw [← HW2.out]
  refine HOf.out.mono ?_
  rintro e w3 ⟨v1, rfl, ⟨⟨a1, n1, c1, rfl⟩, hs1⟩, hB3⟩
  have HB3 : Hid (Below w.heap.size w w3) := below_trans HL2.out.below hB3 HL2.out.size
  have HRb3 : Hid (w3.heap[w.heap.size]? = some (.cells #[.slice ka K.length kc, .slice na N.length nc, .int .i64 lev, .int .i64 rn, .bool dn] 36 (0, 0))) := by show _ = _; rw [hB3.block _ (by omega)]; exact HRb.out
  have HRs3 : Hid (w3.heap[w.heap.size + 1]? = some (.cells #[.slice none 0 0, .slice none 0 0, .int .i64 0, .int .i64 0, .bool false] 36 (0, 0))) := by show _ = _; rw [hB3.block _ (by omega)]; exact HRs.out
  have HS1 : Hid (R = 0 → intK.sl (From (w.heap.size + 2)) w3 (.slice a1 n1 c1) ss) := fun h => Kind.sl_mono (hs1 h) fun k _ h => Nat.le_trans (by omega) h
  have hz3 : w.heap.size + 2 ≤ w3.heap.size := by have := hB3.size; omega
  clear hB3 hs1 HOf HW2 HRb HRs HL2 hz2 w2
  obtain ⟨b0, b1, b2, b3, b4, _, _⟩ := row5 HRb3.out
  obtain ⟨q0, q1, q2, q3, q4, ⟨f0, f1, f2, f3, f4⟩, _⟩ := row5 HRs3.out
  by_cases h0 : R = 0
  · subst h0
    obtain ⟨hp, σ, hss, hRN, hsm⟩ := HGo.out rfl
    have HV1 := hide (HS1.out rfl)
    have hn1 : n1 = ss.length := by obtain ⟨_, _, e⟩ := Kind.slice HV1.out; simp only [Value.slice.injEq] at e; exact e.2.1
    subst hn1
    have HW1 := hide (withinC n 1000 w3)
    have HX1 : Hid (SF = if (decide (0 ≤ n) && decide (n ≤ 1000)) = false then (3, noRun) else stepsP p ss n.toNat ⟨K, N, lev, rn, dn⟩) := by show _ = _; rw [HX.out]; simp
    have hA : (decide (0 ≤ n) && decide (n ≤ 1000)) = true → 0 ≤ n ∧ n ≤ 1000 := fun h => by simpa using h
    have HA := hide hA
    have HRP := hide hp
    have HRN := hide hRN
    have HSm := hide hsm
    have HSS := hide hss
    clear HX HGo HS1 hp hss hRN hsm hA
    generalize (decide (0 ≤ n) && decide (n ≤ 1000)) = A at *
    cases A with
    | false =>
      have HX2 : Hid (SF = (3, noRun)) := by show _ = _; rw [HX1.out]; rfl
      go_wp2_with fail
      refine HW1.out.mono ?_
      rintro e w4 ⟨rfl, h4⟩
      obtain rfl : w3 = w4 := h4.symm
      clear h4
      go_wp2
      obtain ⟨r0, r1, r2, r3, r4⟩ := set5 HRs3.out (.slice none 0 0) (.slice none 0 0) (.int .i64 0) (.int .i64 0) (.bool false)
      exact bodyPost_ret (v := .tuple #[.agg #[.slice none 0 0, .slice none 0 0, .int .i64 0, .int .i64 0, .bool false], .int .i64 3]) (by simp [results, Tryz.results9, go_sem, r0, r1, r2, r3, r4]) rfl ⟨_, 3, rfl, by rw [HX2.out]; exact ⟨rfl, RunO.none _ _⟩, Below.put5 HB3.out (Nat.le_succ _)⟩
    | true =>
      obtain ⟨hn0, hn1⟩ := HA.out rfl
      obtain ⟨m, rfl⟩ : ∃ m : Nat, n = (m : Int) := ⟨n.toNat, by omega⟩
      have HX2 : Hid (SF = stepsP p ss m ⟨K, N, lev, rn, dn⟩) := by show _ = _; rw [HX1.out]; simp
      have HOw := hide (ownedC ⟨K, N, lev, rn, dn⟩ (.slice ka K.length kc) (.slice na N.length nc) w3 (HK.out.below HB3.out) (HN.out.below HB3.out))
      clear HX1 HA
      go_wp2_with fail
      refine HW1.out.mono ?_
      rintro e w4 ⟨rfl, h4⟩
      obtain rfl : w3 = w4 := h4.symm
      clear h4 HW1
      go_wp2_with fail
      refine HOw.out.mono ?_
      rintro e w4 ⟨v4, rfl, hR4, hB4⟩
      obtain ⟨xa, xc, ya, yc, rfl, hO4, hN4⟩ := hR4.slices
      dsimp only at hO4 hN4 ⊢
      have HB4 : Hid (Below w.heap.size w w4) := below_trans HB3.out hB4 HB3.out.size
      have hr4 : w4.heap[w.heap.size]? = some (.cells #[.slice ka K.length kc, .slice na N.length nc, .int .i64 lev, .int .i64 rn, .bool dn] 36 (0, 0)) := by rw [hB4.block _ (by omega)]; exact HRb3.out
      have hs4 : w4.heap[w.heap.size + 1]? = some (.cells #[.slice none 0 0, .slice none 0 0, .int .i64 0, .int .i64 0, .bool false] 36 (0, 0)) := by rw [hB4.block _ (by omega)]; exact HRs3.out
      have hz4 : w.heap.size + 2 ≤ w4.heap.size := by have := hB4.size; omega
      clear b0 b1 b2 b3 b4 q0 q1 q2 q3 q4 f0 f1 f2 f3 f4
      have HO5 : Hid (OwnF (put5 w4 w.heap.size (.slice xa K.length xc) (.slice ya N.length yc) (.int .i64 lev) (.int .i64 rn) (.bool dn)) (w.heap.size + 2) (.slice xa K.length xc) K) := (hO4.base (by omega)).put5 (by omega)
      have HN5 : Hid (OwnF (put5 w4 w.heap.size (.slice xa K.length xc) (.slice ya N.length yc) (.int .i64 lev) (.int .i64 rn) (.bool dn)) (w.heap.size + 2) (.slice ya N.length yc) N) := (hN4.base (by omega)).put5 (by omega)
      have HRb5 := hide (set_five hr4 (.slice xa K.length xc) (.slice ya N.length yc) (.int .i64 lev) (.int .i64 rn) (.bool dn))
      have HRs5 : Hid ((put5 w4 w.heap.size (.slice xa K.length xc) (.slice ya N.length yc) (.int .i64 lev) (.int .i64 rn) (.bool dn)).heap[w.heap.size + 1]? = some (.cells #[.slice none 0 0, .slice none 0 0, .int .i64 0, .int .i64 0, .bool false] 36 (0, 0))) := by show _ = _; rw [(put5_tn w4 w.heap.size _ _ _ _ _).block _ (by omega) (by omega)]; exact hs4
      have HB5 : Hid (Below w.heap.size w (put5 w4 w.heap.size (.slice xa K.length xc) (.slice ya N.length yc) (.int .i64 lev) (.int .i64 rn) (.bool dn))) := Below.put5 HB4.out (Nat.le_refl _)
      have HV5 : Hid (intK.sl (From (w.heap.size + 2)) (put5 w4 w.heap.size (.slice xa K.length xc) (.slice ya N.length yc) (.int .i64 lev) (.int .i64 rn) (.bool dn)) (.slice a1 ss.length c1) ss) := Kind.sl_kept (Kind.sl_far HV1.out hB4) (put5_tn _ _ _ _ _ _ _).size fun k hk hb => (put5_tn w4 w.heap.size _ _ _ _ _).block k hk (by have : w.heap.size + 2 ≤ k := hb; omega)
      obtain ⟨b0, b1, b2, b3, b4, ⟨g0, g1, g2, g3, g4⟩, _⟩ := row5 hr4
      clear hr4 hs4 hO4 hN4 hR4 hB4 HOw HRb3 HRs3
      go_wp2
      go_loopg [2, 9] m (fun g nn ee wr => ∃ k : Nat, k = g ∧ nn = .int .i64 k ∧ ee = .int .i64 0 ∧ k ≤ 1000 ∧ ∃ (X : RunD) (xa ya : Option Addr) (xc yc : Nat), Hid (RightN p (countP (p.map σ)) X) ∧ Hid (wr.heap[w.heap.size]? = some (.cells #[.slice xa X.known.length xc, .slice ya X.fresh.length yc, .int .i64 X.level, .int .i64 X.rounds, .bool X.done] 36 (0, 0))) ∧
        Hid (OwnF wr (w.heap.size + 2) (.slice xa X.known.length xc) X.known) ∧ Hid (OwnF wr (w.heap.size + 2) (.slice ya X.fresh.length yc) X.fresh) ∧ Hid (wr.heap[w.heap.size + 1]? = some (.cells #[.slice none 0 0, .slice none 0 0, .int .i64 0, .int .i64 0, .bool false] 36 (0, 0))) ∧ Hid (Below w.heap.size w wr) ∧ w.heap.size + 2 ≤ wr.heap.size ∧ Hid (intK.sl (From (w.heap.size + 2)) wr (.slice a1 ss.length c1) ss) ∧ Hid (SF = stepsP p ss k X))
      case atStart => exact ⟨m, rfl, rfl, rfl, by omega, ⟨K, N, lev, rn, dn⟩, xa, ya, xc, yc, HRN, HRb5, HO5, HN5, HRs5, HB5, by simp only [size_setCell]; exact hz4, HV5, HX2⟩
      case round =>
        clear HRN HRb5 HO5 HN5 HRs5 HB5 HX2 HV5 HV1 b0 b1 b2 b3 b4 g0 g1 g2 g3 g4 HB4 hz4 HB3 hz3 HK HN
        obtain ⟨k, hkg, rfl, rfl, hk1, X, xa, ya, xc, yc, HRN, HRb, HO, HN', HRs, HB, hz, HVr, HX⟩ := hrel
        by_cases hk0 : k = 0
        · have hkz : ¬ ((0 : Int) < (k : Int)) := by omega
          have HT : Hid (SF = (0, X)) := by show _ = _; rw [HX.out, hk0]; rfl
          clear hk0
          obtain ⟨b0, b1, b2, b3, b4, _, _⟩ := row5 HRb.out
          obtain ⟨q0, q1, q2, q3, q4, ⟨f0, f1, f2, f3, f4⟩, _⟩ := row5 HRs.out
          go_wp2
          obtain ⟨r0, r1, r2, r3, r4⟩ := set5 HRs.out (.slice xa X.known.length xc) (.slice ya X.fresh.length yc) (.int .i64 X.level) (.int .i64 X.rounds) (.bool X.done)
          exact bodyPost_ret (v := .tuple #[.agg #[.slice xa X.known.length xc, .slice ya X.fresh.length yc, .int .i64 X.level, .int .i64 X.rounds, .bool X.done], .int .i64 0]) (by simp [results, Tryz.results9, go_sem, r0, r1, r2, r3, r4]) rfl
            ⟨_, 0, rfl, by rw [HT.out]; exact ⟨rfl, _, _, rfl, HO.out.put5 (by omega), HN'.out.put5 (by omega)⟩, Below.put5 HB.out (Nat.le_succ _)⟩
        · obtain ⟨k, rfl⟩ : ∃ k', k = k' + 1 := ⟨k - 1, by omega⟩
          cases hdn : X.done with
          | true =>
            have HT : Hid (SF = (0, X)) := by show _ = _; rw [HX.out]; exact steps_done hdn _
            obtain ⟨b0, b1, b2, b3, b4, _, _⟩ := row5 HRb.out
            obtain ⟨q0, q1, q2, q3, q4, ⟨f0, f1, f2, f3, f4⟩, _⟩ := row5 HRs.out
            rw [hdn] at b4
            have HDn := hide hdn
            clear hdn
            go_wp2
            obtain ⟨r0, r1, r2, r3, r4⟩ := set5 HRs.out (.slice xa X.known.length xc) (.slice ya X.fresh.length yc) (.int .i64 X.level) (.int .i64 X.rounds) (.bool true)
            exact bodyPost_ret (v := .tuple #[.agg #[.slice xa X.known.length xc, .slice ya X.fresh.length yc, .int .i64 X.level, .int .i64 X.rounds, .bool true], .int .i64 0]) (by simp [results, Tryz.results9, go_sem, r0, r1, r2, r3, r4]) rfl
              ⟨_, 0, rfl, by rw [HT.out]; exact ⟨rfl, _, _, by rw [HDn.out], HO.out.put5 (by omega), HN'.out.put5 (by omega)⟩, Below.put5 HB.out (Nat.le_succ _)⟩
          | false =>
            have hX1 := HX.out
            rw [steps_next hdn] at hX1
            have HX1 := hide hX1
            have hNx := nextC p HRP.out σ X HRN.out hdn HSm.out (.slice pa p.length pc) (.slice a1 ss.length c1) (.slice xa X.known.length xc) (.slice ya X.fresh.length yc) wr (Kind.sl_below HV.out HB.out) (by rw [← HSS.out]; exact Kind.sl_any HVr.out) (HO.out.facts (by have := HRN.out.good.few; omega)) (HN'.out.facts (by have := Nat.le_trans (up_le HRN.out.up HRN.out.sub) HRN.out.good.few; omega))
            rw [← HSS.out] at hNx
            obtain ⟨er, Y, hY⟩ : ∃ er Y, nextP p ss X = (er, Y) := ⟨_, _, rfl⟩
            have HRY : Hid (er = 0 → RightN p (countP (p.map σ)) Y) := fun h => (next_right HRP.out σ HRN.out hdn (by rw [← HSS.out, hY, h])).1
            rw [hY, hdn] at hNx
            rw [hY] at HX1
            have HNx := hide hNx
            have HRb' := HRb
            rw [hdn] at HRb'
            obtain ⟨b0, b1, b2, b3, b4, _, _⟩ := row5 HRb'.out
            have hkp : (0 : Int) < ((k + 1 : Nat) : Int) := by omega
            clear hNx hY hX1 hdn HX
            go_wp2_with fail
            refine HNx.out.mono ?_
            rintro e w5 ⟨v5, er', rfl, ⟨her, hR5⟩, hB5⟩
            dsimp only at her hR5
            obtain rfl : er = er' := her.symm
            clear her
            obtain ⟨za, zc, ua, uc, rfl, hO5, hN5⟩ := hR5.slices
            have hr5 : w5.heap[w.heap.size]? = some (.cells #[.slice xa X.known.length xc, .slice ya X.fresh.length yc, .int .i64 X.level, .int .i64 X.rounds, .bool false] 36 (0, 0)) := by rw [hB5.block _ (by omega)]; exact HRb'.out
            have hs5 : w5.heap[w.heap.size + 1]? = some (.cells #[.slice none 0 0, .slice none 0 0, .int .i64 0, .int .i64 0, .bool false] 36 (0, 0)) := by rw [hB5.block _ (by omega)]; exact HRs.out
            have hz5 : w.heap.size + 2 ≤ w5.heap.size := by have := hB5.size; omega
            have HRb5 := hide (set_five hr5 (.slice za Y.known.length zc) (.slice ua Y.fresh.length uc) (.int .i64 Y.level) (.int .i64 Y.rounds) (.bool Y.done))
            have HRs5 : Hid ((put5 w5 w.heap.size (.slice za Y.known.length zc) (.slice ua Y.fresh.length uc) (.int .i64 Y.level) (.int .i64 Y.rounds) (.bool Y.done)).heap[w.heap.size + 1]? = some (.cells #[.slice none 0 0, .slice none 0 0, .int .i64 0, .int .i64 0, .bool false] 36 (0, 0))) := by show _ = _; rw [(put5_tn w5 w.heap.size _ _ _ _ _).block _ (by omega) (by omega)]; exact hs5
            have HB5 : Hid (Below w.heap.size w (put5 w5 w.heap.size (.slice za Y.known.length zc) (.slice ua Y.fresh.length uc) (.int .i64 Y.level) (.int .i64 Y.rounds) (.bool Y.done))) := Below.put5 (below_trans HB.out hB5 HB.out.size) (Nat.le_refl _)
            have HO5 : Hid (OwnF (put5 w5 w.heap.size (.slice za Y.known.length zc) (.slice ua Y.fresh.length uc) (.int .i64 Y.level) (.int .i64 Y.rounds) (.bool Y.done)) (w.heap.size + 2) (.slice za Y.known.length zc) Y.known) := (hO5.base (by omega)).put5 (by omega)
            have HN5 : Hid (OwnF (put5 w5 w.heap.size (.slice za Y.known.length zc) (.slice ua Y.fresh.length uc) (.int .i64 Y.level) (.int .i64 Y.rounds) (.bool Y.done)) (w.heap.size + 2) (.slice ua Y.fresh.length uc) Y.fresh) := (hN5.base (by omega)).put5 (by omega)
            have HV5 : Hid (intK.sl (From (w.heap.size + 2)) (put5 w5 w.heap.size (.slice za Y.known.length zc) (.slice ua Y.fresh.length uc) (.int .i64 Y.level) (.int .i64 Y.rounds) (.bool Y.done)) (.slice a1 ss.length c1) ss) := Kind.sl_kept (Kind.sl_far HVr.out hB5) (put5_tn _ _ _ _ _ _ _).size fun k hk hb => (put5_tn w5 w.heap.size _ _ _ _ _).block k hk (by have : w.heap.size + 2 ≤ k := hb; omega)
            clear b0 b1 b2 b3 b4
            obtain ⟨b0, b1, b2, b3, b4, ⟨g0, g1, g2, g3, g4⟩, _⟩ := row5 hr5
            obtain ⟨q0, q1, q2, q3, q4, ⟨f0, f1, f2, f3, f4⟩, _⟩ := row5 hs5
            clear hR5 hB5 hO5 hN5 hr5 hs5 HNx HRb HRb' HO HN' HRs HB hz HVr HRN
            by_cases he : er = 0
            · subst he
              have HX5 : Hid (SF = stepsP p ss k Y) := by show _ = _; rw [HX1.out]; simp
              have HRY' := hide (HRY.out rfl)
              clear HX1 HRY
              go_wp2
              go_roundg k
              case measure => omega
              case rel => exact ⟨k, rfl, by go_num, rfl, by omega, Y, za, ua, zc, uc, HRY', HRb5, HO5, HN5, HRs5, HB5, by simp only [size_setCell]; exact hz5, HV5, HX5⟩
            · have HX5 : Hid (SF = (er, noRun)) := by show _ = _; rw [HX1.out, if_pos he]
              have hne : (er != 0) = true := by simpa using he
              clear HX1 HRY he
              go_wp2
              obtain ⟨r0, r1, r2, r3, r4⟩ := set5 HRs5.out (.slice none 0 0) (.slice none 0 0) (.int .i64 0) (.int .i64 0) (.bool false)
              unfold put5 at r0 r1 r2 r3 r4
              exact bodyPost_ret (v := .tuple #[.agg #[.slice none 0 0, .slice none 0 0, .int .i64 0, .int .i64 0, .bool false], .int .i64 er]) (by simp [results, Tryz.results9, go_sem, r0, r1, r2, r3, r4]) rfl ⟨_, er, rfl, by rw [HX5.out]; exact ⟨rfl, RunO.none _ _⟩, Below.put5 HB5.out (Nat.le_succ _)⟩
  · have HX1 : Hid (SF = (R, noRun)) := by show _ = _; rw [HX.out, if_pos h0]
    have hne : (R != 0) = true := by simpa using h0
    clear HX HGo HS1 h0
    go_wp2
    obtain ⟨r0, r1, r2, r3, r4⟩ := set5 HRs3.out (.slice none 0 0) (.slice none 0 0) (.int .i64 0) (.int .i64 0) (.bool false)
    exact bodyPost_ret (v := .tuple #[.agg #[.slice none 0 0, .slice none 0 0, .int .i64 0, .int .i64 0, .bool false], .int .i64 R]) (by simp [results, Tryz.results9, go_sem, r0, r1, r2, r3, r4]) rfl ⟨_, R, rfl, by rw [HX1.out]; exact ⟨rfl, RunO.none _ _⟩, Below.put5 HB3.out (Nat.le_succ _)⟩

end Go.Proofs.YtalggolacdlnnaaGreatDoor

/- The walks of round's Step, Begin and All. -/
namespace Go.Proofs.YtalggolacdlnnaaGreatDoor
open Go.RowKit Go.Sort Go.Maps

/-- The run that is begun. -/
def runOf (p : List RuleD) (l : List FactB) : RunD := ⟨l, l, 0, 0, decide (countP (strataP p).1 = 0)⟩

/-- What Begin tells. -/
def beginP (p : List RuleD) (l : List FactB) : Int × RunD := if forE p l ≠ 0 then (forE p l, noRun) else (0, runOf p l)

set_option maxRecDepth 100000 in
set_option maxHeartbeats 2000000 in
theorem roundBegin (p : List RuleD) (l : List FactB) (pv fv : Value) (w : World) (hv : ruleK.sl Anyw w pv p) (hf : Facts w fv l) :
    Calls Tryz.prog 7 #[pv, fv] w fun e w' => ∃ v' er, e = .returned (.tuple #[v', .int .i64 er]) ∧ NextT (w.heap.size + 1) w' v' er (beginP p l) ∧ Below w.heap.size w w' := by
  obtain ⟨pa, pc, rfl⟩ := Kind.slice hv
  obtain ⟨fa, fc, rfl⟩ := sliceFacts hf
  obtain ⟨wb, hwb⟩ : ∃ wb, wb = w.alloc (.cells #[.slice none 0 0, .slice none 0 0, .int .i64 0, .int .i64 0, .bool false] 36) := ⟨_, rfl⟩
  have hLb : Later w wb := by rw [hwb]; exact (Later.refl w).alloc _
  have hzb : wb.heap.size = w.heap.size + 1 := by rw [hwb]; simp
  have hrs : wb.heap[w.heap.size]? = some (.cells #[.slice none 0 0, .slice none 0 0, .int .i64 0, .int .i64 0, .bool false] 36 (0, 0)) := by rw [hwb]; exact heap_alloc_new w _
  have HFo := hide (strataForC p l (.slice pa p.length pc) (.slice fa l.length fc) wb (Kind.sl_later hv hLb) (hf.later hLb))
  have HF := hide hf
  have HLb := hide hLb
  have HRs := hide hrs
  have HWb := hide hwb
  have HX : Hid (beginP p l = if forE p l ≠ 0 then (forE p l, noRun) else (0, ⟨l, l, 0, 0, decide (countP (strataP p).1 = 0)⟩)) := (rfl : _ = _)
  have HGo : Hid (forE p l = 0 → l.length ≤ 200 ∧ ∀ s ∈ (strataP p).1, s < 1000) := fun h => by
    obtain ⟨_, hg, τ, _, hs, ht⟩ := forE_zero h
    refine ⟨hg.few, fun s hs' => ?_⟩
    rw [hs] at hs'
    obtain ⟨q, hq, rfl⟩ := List.mem_map.1 hs'
    have := ht q hq
    omega
  unfold ForT at HFo
  generalize beginP p l = SF at *
  generalize forE p l = fo at *
  generalize (strataP p).1 = ss at *
  clear hv hf hLb hrs hwb
  go_enter Tryz.func7, Tryz.ntmps7
  go_wp2_with fail
  rw [← HWb.out]
  refine HFo.out.mono ?_
  rintro e w1 ⟨v1, rfl, ⟨⟨a1, n1, c1, rfl⟩, hs1⟩, hB1⟩
  have HB1 : Hid (Below w.heap.size w w1) := below_trans HLb.out.below hB1 HLb.out.size
  have hr1 : w1.heap[w.heap.size]? = some (.cells #[.slice none 0 0, .slice none 0 0, .int .i64 0, .int .i64 0, .bool false] 36 (0, 0)) := by rw [hB1.block _ (by omega)]; exact HRs.out
  have hz1 : w.heap.size + 1 ≤ w1.heap.size := by have := hB1.size; omega
  have HS1 := hide hs1
  have HR1 := hide hr1
  clear hB1 hs1 HFo HWb HRs
  by_cases h0 : fo = 0
  · subst h0
    obtain ⟨hl2, hsm⟩ := HGo.out rfl
    have HV1 := hide (Kind.sl_any (HS1.out rfl))
    have hn1 : n1 = ss.length := by obtain ⟨_, _, e⟩ := Kind.slice HV1.out; simp only [Value.slice.injEq] at e; exact e.2.1
    subst hn1
    have HX1 : Hid (SF = (0, ⟨l, l, 0, 0, decide (countP ss = 0)⟩)) := by show _ = _; rw [HX.out]; simp
    have HO1 := hide (ownC (.slice fa l.length fc) l w1 (HF.out.below HB1.out))
    have HSm := hide hsm
    clear HX HGo HS1 hr1 hsm
    go_wp2_with fail
    refine HO1.out.mono ?_
    rintro e w2 ⟨v2, rfl, hO2, hL2⟩
    obtain ⟨a2, c2, rfl⟩ := hO2.slice
    have HB2 : Hid (Below w.heap.size w w2) := below_trans HB1.out hL2.below HB1.out.size
    have HO2 := hide (ownC (.slice fa l.length fc) l w2 (HF.out.below HB2.out))
    have HR2 : Hid (w2.heap[w.heap.size]? = some (.cells #[.slice none 0 0, .slice none 0 0, .int .i64 0, .int .i64 0, .bool false] 36 (0, 0))) := by show _ = _; rw [hL2.block (by omega)]; exact HR1.out
    have HV2 := hide (Kind.sl_later HV1.out hL2)
    have HK2 := hide (hO2.base (base' := w.heap.size + 1) (by omega))
    have hz2 : w.heap.size + 1 ≤ w2.heap.size := by have := hL2.size; omega
    clear hO2 hL2 HO1 HB1 HR1 HV1 hz1
    go_wp2_with fail
    refine HO2.out.mono ?_
    rintro e w3 ⟨v3, rfl, hO3, hL3⟩
    obtain ⟨a3, c3, rfl⟩ := hO3.slice
    have HB3 : Hid (Below w.heap.size w w3) := below_trans HB2.out hL3.below HB2.out.size
    have HR3 : Hid (w3.heap[w.heap.size]? = some (.cells #[.slice none 0 0, .slice none 0 0, .int .i64 0, .int .i64 0, .bool false] 36 (0, 0))) := by show _ = _; rw [hL3.block (by omega)]; exact HR2.out
    have HK3 := hide (HK2.out.later hL3)
    have HN3 := hide (hO3.base (base' := w.heap.size + 1) (by omega))
    have HCn := hide (countC ss (.slice a1 ss.length c1) w3 (Kind.sl_later HV2.out hL3) HSm.out)
    have hz3 : w.heap.size + 1 ≤ w3.heap.size := by have := hL3.size; omega
    have hcs : countP ss ≤ 1000 := countP_le HSm.out
    clear hO3 hL3 HO2 HB2 HR2 HV2 HK2 hz2
    go_wp2_with fail
    refine HCn.out.mono ?_
    rintro e w4 ⟨rfl, hL4⟩
    have HB4 : Hid (Below w.heap.size w w4) := below_trans HB3.out hL4.below HB3.out.size
    have HR4 : Hid (w4.heap[w.heap.size]? = some (.cells #[.slice none 0 0, .slice none 0 0, .int .i64 0, .int .i64 0, .bool false] 36 (0, 0))) := by show _ = _; rw [hL4.block (by omega)]; exact HR3.out
    have HK4 := hide (HK3.out.later hL4)
    have HN4 := hide (HN3.out.later hL4)
    clear hL4 HCn HB3 HR3 HK3 HN3
    obtain ⟨q0, q1, q2, q3, q4, ⟨f0, f1, f2, f3, f4⟩, _⟩ := row5 HR4.out
    have HEq : Hid ((((countP ss : Nat) : Int) == 0) = decide (countP ss = 0)) := by
      show _ = _
      by_cases h : countP ss = 0
      · simp [h]
      · simp [h]
    generalize countP ss = cc at *
    go_wp2
    obtain ⟨r0, r1, r2, r3, r4⟩ := set5 HR4.out (.slice a2 l.length c2) (.slice a3 l.length c3) (.int .i64 0) (.int .i64 0) (.bool ((cc : Int) == 0))
    exact bodyPost_ret (v := .tuple #[.agg #[.slice a2 l.length c2, .slice a3 l.length c3, .int .i64 0, .int .i64 0, .bool ((cc : Int) == 0)], .int .i64 0]) (by simp [results, Tryz.results7, go_sem, r0, r1, r2, r3, r4]) rfl
      ⟨_, 0, rfl, by rw [HX1.out]; exact ⟨rfl, _, _, by rw [HEq.out], HK4.out.put5 (by omega), HN4.out.put5 (by omega)⟩, Below.put5 HB4.out (Nat.le_refl _)⟩
  · have HX1 : Hid (SF = (fo, noRun)) := by show _ = _; rw [HX.out, if_pos h0]
    have hne : (fo != 0) = true := by simpa using h0
    obtain ⟨q0, q1, q2, q3, q4, ⟨f0, f1, f2, f3, f4⟩, _⟩ := row5 hr1
    clear HX HGo HS1 h0 hr1
    go_wp2
    obtain ⟨r0, r1, r2, r3, r4⟩ := set5 HR1.out (.slice none 0 0) (.slice none 0 0) (.int .i64 0) (.int .i64 0) (.bool false)
    exact bodyPost_ret (v := .tuple #[.agg #[.slice none 0 0, .slice none 0 0, .int .i64 0, .int .i64 0, .bool false], .int .i64 fo]) (by simp [results, Tryz.results7, go_sem, r0, r1, r2, r3, r4]) rfl ⟨_, fo, rfl, by rw [HX1.out]; exact ⟨rfl, RunO.none _ _⟩, Below.put5 HB1.out (Nat.le_refl _)⟩

/-- What All tells. -/
def allR (p : List RuleD) (l : List FactB) : Int × List FactB := if forE p l ≠ 0 then (forE p l, []) else
  if (stepsP p (strataP p).1 1000 (runOf p l)).1 ≠ 0 then ((stepsP p (strataP p).1 1000 (runOf p l)).1, []) else (0, (stepsP p (strataP p).1 1000 (runOf p l)).2.known)

theorem begin_right {p : List RuleD} {l : List FactB} (h : forE p l = 0) : wrongRunP p (runOf p l) = 0 := by
  obtain ⟨_, hg, _⟩ := forE_zero h
  exact wrongRun_right h (right_begin hg)

theorem steps_begin {p : List RuleD} {l : List FactB} (h : forE p l = 0) : stepsF p (runOf p l) 1000 = stepsP p (strataP p).1 1000 (runOf p l) := by
  unfold stepsF
  rw [if_neg (by rw [begin_right h]; simp), if_neg (by simp)]
  rfl

end Go.Proofs.YtalggolacdlnnaaGreatDoor

/- What is new of what was new, or all over and over: it comes to the same; told what follows, nothing is new: plain. -/
namespace Go.Proofs.YtalggolacdlnnaaGreatDoor

/-- Too many: what was there by then was too much. -/
theorem onceGo_many {n : Int} {fs : List FactB} (σ : RuleD → Nat) : ∀ {p : List RuleD} {acc : List FactB}, onceGo n fs p (p.map σ) acc = (5, []) →
    ∃ A : List FactB, 200 < (setF A).length ∧ ∀ f ∈ A, f ∈ acc ∨ ∃ r ∈ p, (σ r : Int) = n ∧ ∃ x, headsP r fs = some x ∧ f ∈ x
  | [], acc, h => by simp [onceGo] at h
  | r :: p, acc, h => by
    simp only [onceGo, List.map_cons] at h
    split at h
    · rename_i hs
      split at h
      · simp at h
      · rename_i x hx
        have key : ∀ f ∈ acc ++ x, f ∈ acc ∨ ∃ q ∈ r :: p, (σ q : Int) = n ∧ ∃ x, headsP q fs = some x ∧ f ∈ x := fun f hf => by
          rcases List.mem_append.1 hf with hf | hf
          · exact Or.inl hf
          · exact Or.inr ⟨r, by simp, hs, x, hx, hf⟩
        split at h
        · rename_i hl
          exact ⟨acc ++ x, hl, key⟩
        · obtain ⟨A, h1, h2⟩ := onceGo_many σ h
          refine ⟨A, h1, fun f hf => ?_⟩
          rcases h2 f hf with h3 | ⟨q, hq, h3⟩
          · exact key f h3
          · exact Or.inr ⟨q, by simp [hq], h3⟩
    · obtain ⟨A, h1, h2⟩ := onceGo_many σ h
      refine ⟨A, h1, fun f hf => ?_⟩
      rcases h2 f hf with h3 | ⟨q, hq, h3⟩
      · exact Or.inl h3
      · exact Or.inr ⟨q, by simp [hq], h3⟩

/-- A round of what is new comes to what a round of all does. -/
theorem once_next {p : List RuleD} (hp : RightP p) (σ : RuleD → Nat) {n : Int} {K N M : List FactB} (hK : GoodS p K) (hN : ∀ f ∈ N, f ∈ K) (hS : ∀ r ∈ p, (σ r : Int) = n → Semi K N r)
    (hM : makesGo K N n p (p.map σ) [] = some M) (h4 : (onceP p (p.map σ) n K).1 ≠ 4) : onceP p (p.map σ) n K = if 200 < (setF (K ++ M)).length then (5, []) else (0, setF (K ++ M)) := by
  have hsub : ∀ r ∈ p, (σ r : Int) = n → ∀ x, headsP r K = some x → ∀ f ∈ x, f ∈ K ++ M := fun r hr hs x hx f hf => by
    obtain ⟨env, he, hh⟩ := (heads_mem (covers_right (hp.rules r hr)) hx f).1 hf
    rw [List.mem_append]
    exact (hS r hr hs env f he hh).imp id fun h => (makes_mem σ hp.rules hM f).2 (Or.inr ⟨r, hr, hs, h⟩)
  rcases onceGo_err (n := n) (fs := K) (p := p) (ss := p.map σ) (acc := K) with h0 | h | h
  · obtain ⟨S, hSS⟩ : ∃ S, onceP p (p.map σ) n K = (0, S) := ⟨(onceP p (p.map σ) n K).2, by rw [← show (onceP p (p.map σ) n K).1 = 0 from h0]⟩
    obtain ⟨h1, h2, h3, h5, h6⟩ := onceGo_ok σ hSS
    have e : S = setF (K ++ M) := setF_of h5 fun f => by
      rw [List.mem_append]
      constructor
      · intro hf
        rcases h3 f hf with h | ⟨r, hr, hs, x, hx, hf⟩
        · exact Or.inl h
        · exact List.mem_append.1 (hsub r hr hs x hx f hf)
      · rintro (hf | hf)
        · exact h2 f hf
        · rcases (makes_mem σ hp.rules hM f).1 hf with h | ⟨r, hr, hs, hm⟩
          · cases h
          · obtain ⟨x, hx, hxS⟩ := h1 r hr hs
            obtain ⟨env, he, hh⟩ := makes_fits hN hm
            exact hxS f ((heads_mem (covers_right (hp.rules r hr)) hx f).2 ⟨env, he, hh⟩)
    have hl := h6 (by rw [setF_up_self hK.up]; exact hK.few)
    rw [e] at hl hSS
    rw [if_neg (by omega), hSS]
  · exact absurd (show (onceP p (p.map σ) n K).1 = 4 by unfold onceP; rw [h]) h4
  · obtain ⟨A, h1, h2⟩ := onceGo_many σ h
    have h3 : (setF A).length ≤ (setF (K ++ M)).length := up_le (setF_up A) fun f hf => mem_setF.2 (by
      rcases h2 f (mem_setF.1 hf) with h | ⟨r, hr, hs, x, hx, hf⟩
      · exact List.mem_append.2 (Or.inl h)
      · exact hsub r hr hs x hx f hf)
    rw [if_pos (by omega)]
    exact h

/-- What is left to come: so many rounds more of this stratum, then the others. -/
def restP (p : List RuleD) (ss : List Nat) (c k n : Nat) (K : List FactB) : Int × List FactB := if (overGo p ss n k K).1 ≠ 0 then ((overGo p ss n k K).1, []) else runGo p ss c (n + 1) (overGo p ss n k K).2

theorem restP_next {p : List RuleD} {ss : List Nat} {c k n : Nat} {K : List FactB} : restP p ss c (k + 1) n K = if (onceP p ss n K).1 ≠ 0 then ((onceP p ss n K).1, []) else if (onceP p ss n K).2.length = K.length then runGo p ss c (n + 1) (onceP p ss n K).2 else restP p ss c k n (onceP p ss n K).2 := by
  unfold restP
  rw [overGo]
  split
  · rfl
  · split
    · rfl
    · rfl

theorem runGo_rest {p : List RuleD} {ss : List Nat} {c n : Nat} {K : List FactB} : runGo p ss (c + 1) n K = restP p ss c 201 n K := rfl

/-- What is new of what was new comes to what all over and over does. -/
theorem steps_rest {p : List RuleD} (hp : RightP p) (σ : RuleD → Nat) : ∀ (m c k n : Nat) {r : RunD}, RightN p (countP (p.map σ)) r → r.level = (n : Nat) → n + (c + 1) = countP (p.map σ) → 200 < r.known.length + k →
    (∀ q ∈ p, (σ q : Int) = n → Semi r.known r.fresh q) → (200 : Int) - r.known.length + (countP (p.map σ) - r.level) ≤ m → (200 : Int) - r.known.length + (countP (p.map σ) - r.level) + r.rounds ≤ 999 →
    (stepsP p (p.map σ) m r).1 ≠ 4 → (restP p (p.map σ) c k n r.known).1 ≠ 4 → (stepsP p (p.map σ) m r).1 = (restP p (p.map σ) c k n r.known).1 ∧ ((stepsP p (p.map σ) m r).1 = 0 → (stepsP p (p.map σ) m r).2.known = (restP p (p.map σ) c k n r.known).2)
  | 0, c, k, n, r, hr, hn, hc, _, _, hm, _, _, _ => by have := hr.good.few; omega
  | m + 1, c, 0, n, r, hr, hn, hc, hk, _, _, _, _, _ => by have := hr.good.few; omega
  | m + 1, c, k + 1, n, r, hr, hn, hc, hk, hS, hm, h9, h4, h4' => by
    have hd : r.done = false := by rw [hr.done]; simp; omega
    rw [steps_next hd] at h4 ⊢
    rw [restP_next] at h4' ⊢
    have hSt : ∀ q ∈ p, (σ q : Int) = r.level → Semi r.known r.fresh q := fun q hq h => hS q hq (h.trans hn)
    have hfew := hr.good.few
    have hrn : r.rounds ≠ 1000 := by omega
    cases hM : makesGo r.known r.fresh r.level p (p.map σ) [] with
    | none =>
      have e : nextP p (p.map σ) r = (4, noRun) := by unfold nextP; rw [if_neg hrn, hM]
      rw [e] at h4
      simp at h4
    | some M =>
      have ho4 : (onceP p (p.map σ) n r.known).1 ≠ 4 := fun e => h4' (by rw [e]; simp)
      have ho := once_next hp σ (n := (n : Int)) hr.good hr.sub hS (hn ▸ hM) ho4
      by_cases hl : 200 < (setF (r.known ++ M)).length
      · have e : nextP p (p.map σ) r = (5, noRun) := by unfold nextP; rw [if_neg hrn, hM]; simp [hl]
        rw [if_pos hl] at ho
        rw [ho, e]
        simp
      · rw [if_neg hl] at ho
        have hsub : ∀ f ∈ r.known, f ∈ setF (r.known ++ M) := fun f hf => mem_setF.2 (List.mem_append.2 (Or.inl hf))
        by_cases hnew : newOf r.known M = []
        · have eK := (new_nil hr.good.up).1 hnew
          have e : nextP p (p.map σ) r = (0, ⟨setF (r.known ++ M), setF (r.known ++ M), r.level + 1, r.rounds + 1, decide (r.level + 1 = countP (p.map σ))⟩) := by unfold nextP; rw [if_neg hrn, hM]; simp [hl, hnew]
          obtain ⟨g1, g2, g3, g4⟩ := next_right hp σ hr hd e
          rw [e] at h4 ⊢
          rw [ho] at h4' ⊢
          simp only [ne_eq, not_true_eq_false, if_false] at h4 h4' ⊢
          rw [if_pos (by rw [eK])] at h4' ⊢
          rw [eK] at h4 h4' g1 ⊢
          cases c with
          | zero =>
            have hdn : (⟨r.known, r.known, r.level + 1, r.rounds + 1, decide (r.level + 1 = countP (p.map σ))⟩ : RunD).done = true := by simp only [decide_eq_true_eq]; omega
            rw [steps_done hdn]
            exact ⟨rfl, fun _ => rfl⟩
          | succ c =>
            rw [runGo_rest] at h4' ⊢
            refine steps_rest hp σ m c 201 (n + 1) g1 (by dsimp only; omega) (by omega) (by dsimp only; omega) (fun q _ _ => semi_all _ q) (by dsimp only; omega) (by dsimp only; omega) h4 h4'
        · have e : nextP p (p.map σ) r = (0, ⟨setF (r.known ++ M), newOf r.known M, r.level, r.rounds + 1, false⟩) := by unfold nextP; rw [if_neg hrn, hM]; simp [hl, hnew]
          obtain ⟨g1, g2, g3, g4⟩ := next_right hp σ hr hd e
          have g5 : r.known.length < (setF (r.known ++ M)).length := by
            rcases g4 with ⟨_, h⟩ | ⟨h, _⟩
            · exact h
            · dsimp only at h; omega
          rw [e] at h4 ⊢
          rw [ho] at h4' ⊢
          simp only [ne_eq, not_true_eq_false, if_false] at h4 h4' ⊢
          rw [if_neg (by omega)] at h4' ⊢
          refine steps_rest hp σ m c k n g1 hn hc (by dsimp only; omega) (fun q hq hs => ?_) (by dsimp only; omega) (by dsimp only; omega) h4 h4'
          refine semi_next hsub (hS q hq hs) (fun f hf => mem_setF.2 (List.mem_append.2 (Or.inr ((makes_mem σ hp.rules hM f).2 (Or.inr ⟨q, hq, hs.trans hn.symm, hf⟩))))) fun f hf hn' => ?_
          exact mem_newOf.2 ⟨(List.mem_append.1 (mem_setF.1 hf)).resolve_left hn', hn'⟩

theorem countP_le' {c : Nat} : ∀ {ss : List Nat}, (∀ s ∈ ss, s < c) → countP ss ≤ c
  | [], _ => Nat.zero_le _
  | s :: ss, h => by
    have h1 := h s (by simp)
    have h2 := countP_le' (ss := ss) fun t ht => h t (by simp [ht])
    simp only [countP]; omega

/-- From the beginning on. -/
theorem begin_rest {p : List RuleD} (hp : RightP p) (σ : RuleD → Nat) (hσ : ∀ r ∈ p, σ r < 16) {l : List FactB} (hl : GoodS p l) (h4 : (stepsP p (p.map σ) 1000 ⟨l, l, 0, 0, decide (countP (p.map σ) = 0)⟩).1 ≠ 4) (h4' : (runGo p (p.map σ) (countP (p.map σ)) 0 l).1 ≠ 4) :
    (stepsP p (p.map σ) 1000 ⟨l, l, 0, 0, decide (countP (p.map σ) = 0)⟩).1 = (runGo p (p.map σ) (countP (p.map σ)) 0 l).1 ∧ ((stepsP p (p.map σ) 1000 ⟨l, l, 0, 0, decide (countP (p.map σ) = 0)⟩).1 = 0 → (stepsP p (p.map σ) 1000 ⟨l, l, 0, 0, decide (countP (p.map σ) = 0)⟩).2.known = (runGo p (p.map σ) (countP (p.map σ)) 0 l).2) := by
  have hcs : countP (p.map σ) ≤ 16 := countP_le' fun s hs => by
    obtain ⟨r, hr, rfl⟩ := List.mem_map.1 hs
    exact hσ r hr
  have hr := right_begin (c := countP (p.map σ)) hl
  have hfew := hl.few
  cases e : countP (p.map σ) with
  | zero =>
    rw [steps_done (by simp)]
    exact ⟨rfl, fun _ => rfl⟩
  | succ c =>
    rw [e] at h4 h4' hr
    rw [runGo_rest] at h4' ⊢
    refine steps_rest hp σ 1000 c 201 0 (by rw [e]; exact hr) rfl (by omega) (by dsimp only; omega) (fun q _ _ => semi_all _ q) (by dsimp only; omega) (by dsimp only; omega) h4 h4'

/-! ### told what follows, nothing is new -/

/-- A run that is done, behind a stratum: no rule of it makes anything more. -/
theorem steps_closed {p : List RuleD} (hp : RightP p) (σ : RuleD → Nat) (h1 : countP (p.map σ) ≤ 1) : ∀ (m : Nat) {r x : RunD}, RightN p (countP (p.map σ)) r → r.done = false → (∀ q ∈ p, (σ q : Int) = r.level → Semi r.known r.fresh q) → stepsP p (p.map σ) m r = (0, x) → x.done = true →
    ∀ q ∈ p, (σ q : Int) = r.level → ∀ env f, FitsB (fun _ => x.known) q.body env → fillB q.head env = some f → f ∈ x.known
  | 0, r, x, _, hd, _, h, hx, _, _, _, _, _, _, _ => by simp [stepsP] at h; subst h; rw [hd] at hx; cases hx
  | m + 1, r, x, hr, hd, hS, h, hx, q, hq, hs, env, f, hf, hh => by
    rw [steps_next hd] at h
    split at h
    · rename_i he; simp at h; exact absurd h.1 he
    · rename_i he
      have hn : nextP p (p.map σ) r = (0, (nextP p (p.map σ) r).2) := by rw [← Classical.byContradiction fun h : ¬ (nextP p (p.map σ) r).1 = 0 => he h]
      obtain ⟨g1, g2, g3, g4⟩ := next_right hp σ hr hd hn
      obtain ⟨_, M, hM, hl, hxx⟩ := next_ok hn
      generalize (nextP p (p.map σ) r).2 = y at *
      have hsub : ∀ f ∈ r.known, f ∈ setF (r.known ++ M) := fun f hf => mem_setF.2 (List.mem_append.2 (Or.inl hf))
      have hmk : ∀ q ∈ p, (σ q : Int) = r.level → ∀ f, Makes r.known r.fresh q f → f ∈ setF (r.known ++ M) := fun q hq hs f hf => mem_setF.2 (List.mem_append.2 (Or.inr ((makes_mem σ hp.rules hM f).2 (Or.inr ⟨q, hq, hs, hf⟩))))
      rcases hxx with ⟨hnew, rfl⟩ | ⟨hnew, rfl⟩
      · have eK := (new_nil hr.good.up).1 hnew
        have hlev := hr.lev
        have hdn := hr.done
        rw [hd] at hdn
        have hdn : r.level ≠ countP (p.map σ) := by simpa using hdn.symm
        rw [steps_done (by simp only [decide_eq_true_eq]; omega)] at h
        simp only [Prod.mk.injEq, true_and] at h
        subst h
        dsimp only at hf ⊢
        rw [eK] at hf ⊢
        rcases hS q hq hs env f hf hh with h | h
        · exact h
        · have := hmk q hq hs f h
          rw [eK] at this
          exact this
      · refine steps_closed hp σ h1 m g1 rfl (fun q hq hs => ?_) h hx q hq hs env f hf hh
        exact semi_next hsub (hS q hq hs) (hmk q hq hs) fun f hf hn' => mem_newOf.2 ⟨(List.mem_append.1 (mem_setF.1 hf)).resolve_left hn', hn'⟩

/-- Told what follows, nothing is new. -/
theorem told_again {p : List RuleD} (hp : RightP p) {l : List FactB} (hl : GoodS p l) {x : RunD} (h : stepsP p (p.map fun _ => 0) 1000 ⟨l, l, 0, 0, decide (countP (p.map fun _ => 0) = 0)⟩ = (0, x)) :
    (stepsP p (p.map fun _ => 0) 1000 ⟨x.known, x.known, 0, 0, decide (countP (p.map fun _ => 0) = 0)⟩).1 = 4 ∨ ((stepsP p (p.map fun _ => 0) 1000 ⟨x.known, x.known, 0, 0, decide (countP (p.map fun _ => 0) = 0)⟩).1 = 0 ∧ (stepsP p (p.map fun _ => 0) 1000 ⟨x.known, x.known, 0, 0, decide (countP (p.map fun _ => 0) = 0)⟩).2.known = x.known) := by
  have hc1 : countP (p.map fun _ => 0) ≤ 1 := countP_le' fun s hs => by
    obtain ⟨r, hr, rfl⟩ := List.mem_map.1 hs
    omega
  have hb := right_begin (c := countP (p.map fun _ => 0)) hl
  have hx := steps_right hp (fun _ => 0) 1000 hb h
  have hfew := hl.few
  have hdx := steps_end hp (fun _ => 0) 1000 hb (by dsimp only; omega) h
  by_cases h0 : countP (p.map fun _ => 0) = 0
  · rw [steps_done (by simp [h0])]
    exact Or.inr ⟨rfl, rfl⟩
  · have hd0 : ∀ L : List FactB, (⟨L, L, 0, 0, decide (countP (p.map fun _ => 0) = 0)⟩ : RunD).done = false := fun L => by simp [h0]
    have hcl := steps_closed hp (fun _ => 0) hc1 1000 hb (hd0 l) (fun q _ _ => semi_all _ q) h hdx
    have hb' := right_begin (c := countP (p.map fun _ => 0)) hx.good
    rw [steps_next (hd0 x.known)]
    have e0 : nextP p (p.map fun _ => 0) ⟨x.known, x.known, 0, 0, decide (countP (p.map fun _ => 0) = 0)⟩ = (4, noRun) ∨ nextP p (p.map fun _ => 0) ⟨x.known, x.known, 0, 0, decide (countP (p.map fun _ => 0) = 0)⟩ = (0, ⟨x.known, x.known, 1, 1, true⟩) := by
      unfold nextP
      dsimp only
      rw [if_neg (by omega)]
      cases hM : makesGo x.known x.known 0 p (p.map fun _ => 0) [] with
      | none => exact Or.inl rfl
      | some M =>
        right
        have hn : newOf x.known M = [] := List.eq_nil_iff_forall_not_mem.2 fun f hf => by
          obtain ⟨h1, h2⟩ := mem_newOf.1 hf
          rcases (makes_mem (fun _ => 0) hp.rules hM f).1 h1 with h3 | ⟨r, hr, hs, hm⟩
          · cases h3
          · obtain ⟨env, he, hh⟩ := makes_fits (fun _ h => h) hm
            exact h2 (hcl r hr hs env f he hh)
        have eK := (new_nil hx.good.up).1 hn
        have := hx.good.few
        dsimp only
        rw [eK, if_neg (by omega), if_pos hn]
        have hc : countP (p.map fun _ => 0) = 1 := by omega
        rw [hc]
        rfl
    rcases e0 with e | e
    · rw [e]; exact Or.inl rfl
    · rw [e]
      rw [if_neg (by simp), steps_done rfl]
      exact Or.inr ⟨rfl, rfl⟩

end Go.Proofs.YtalggolacdlnnaaGreatDoor

/- Rounds, in a form that the kernel reckons. Nothing of the program. -/
namespace Go.Proofs.YtalggolacdlnnaaGreatDoor

def allJ (pick : Nat → List FactB) (body : List AtomD) : Option (List (List BindD)) := match metGo pick 0 body [[]] with
  | none => none
  | some ms => some (isortB (cmpX eB) ((ms.filter fun l => !barredB pick 0 body l).map (isortB eB)))
theorem allJ_eq (pick : Nat → List FactB) (body : List AtomD) : allB pick body = allJ pick body := by
  have e1 : (sortB : List BindD → List BindD) = isortB eB := by funext l; show sortBy cmpB l = _; rw [sortBy_ins three_cmpB, eB_eq]
  unfold allB allJ
  cases metGo pick 0 body [[]] with
  | none => rfl
  | some ms =>
    dsimp only
    rw [sortBy_ins three_cmpBs, e1, show cmpBs = cmpX eB from by rw [← eB_eq]]

def atJ (K N : List FactB) (r : RuleD) : Nat → List AtomD → List FactB → Option (List FactB)
  | _, [], acc => some acc
  | k, a :: l, acc => if a.no then atJ K N r (k + 1) l acc else
    match allJ (pickB K k N) r.body with
    | none => none
    | some R => atJ K N r (k + 1) l (acc ++ R.filterMap fun e => fillB r.head e)
theorem atJ_eq (K N : List FactB) (r : RuleD) : ∀ (l : List AtomD) (k : Nat) (acc : List FactB), atGo K N r k l acc = atJ K N r k l acc
  | [], _, _ => rfl
  | a :: l, k, acc => by
    unfold atGo atJ
    split
    · exact atJ_eq K N r l (k + 1) acc
    · rw [allJ_eq]
      cases allJ (pickB K k N) r.body with
      | none => rfl
      | some R => exact atJ_eq K N r l (k + 1) _

def askJ (K N : List FactB) (r : RuleD) (acc : List FactB) : Option (List FactB) := if r.body.all (·.no) then
    match headsI r K with
    | none => none
    | some x => some (acc ++ x)
  else atJ K N r 0 r.body acc
theorem askJ_eq (K N : List FactB) (r : RuleD) (acc : List FactB) : askP K N r acc = askJ K N r acc := by
  unfold askP askJ
  rw [headsI_eq, atJ_eq]
  split
  · cases headsI r K <;> rfl
  · rfl

def makesJ (K N : List FactB) (st : Int) : List RuleD → List Nat → List FactB → Option (List FactB)
  | [], _, acc => some acc
  | _ :: _, [], acc => some acc
  | r :: p, s :: ss, acc => if (s : Int) = st then
      match askJ K N r acc with
      | none => none
      | some acc' => makesJ K N st p ss acc'
    else makesJ K N st p ss acc
theorem makesJ_eq (K N : List FactB) (st : Int) : ∀ (p : List RuleD) (ss : List Nat) (acc : List FactB), makesGo K N st p ss acc = makesJ K N st p ss acc
  | [], _, _ => by simp only [makesGo, makesJ]
  | _ :: _, [], _ => by simp only [makesGo, makesJ]
  | r :: p, s :: ss, acc => by
    simp only [makesGo, makesJ]
    rw [askJ_eq]
    split
    · cases askJ K N r acc with
      | none => rfl
      | some x => exact makesJ_eq K N st p ss x
    · exact makesJ_eq K N st p ss acc

def nextJ (p : List RuleD) (ss : List Nat) (r : RunD) : Int × RunD := if r.rounds = 1000 then (5, noRun) else
  match makesJ r.known r.fresh r.level p ss [] with
  | none => (4, noRun)
  | some acc => if 200 < (setI (r.known ++ acc)).length then (5, noRun) else
    if setI (acc.filter fun f => !inB r.known f) = [] then (0, ⟨setI (r.known ++ acc), setI (r.known ++ acc), r.level + 1, r.rounds + 1, decide (r.level + 1 = countP ss)⟩)
    else (0, ⟨setI (r.known ++ acc), setI (acc.filter fun f => !inB r.known f), r.level, r.rounds + 1, false⟩)
theorem nextJ_eq (p : List RuleD) (ss : List Nat) (r : RunD) : nextP p ss r = nextJ p ss r := by
  unfold nextP nextJ newOf
  rw [makesJ_eq]
  split
  · rfl
  · cases makesJ r.known r.fresh r.level p ss [] with
    | none => rfl
    | some acc => simp only [setI_eq]

def stepsJ (p : List RuleD) (ss : List Nat) : Nat → RunD → Int × RunD
  | 0, r => (0, r)
  | n + 1, r => if r.done then (0, r) else match nextJ p ss r with
    | (e, x) => if e ≠ 0 then (e, noRun) else stepsJ p ss n x
theorem stepsJ_eq (p : List RuleD) (ss : List Nat) : ∀ (n : Nat) (r : RunD), stepsP p ss n r = stepsJ p ss n r
  | 0, r => rfl
  | n + 1, r => by
    unfold stepsP stepsJ
    rw [nextJ_eq]
    split
    · rfl
    · obtain ⟨e, x, h⟩ : ∃ e x, nextJ p ss r = (e, x) := ⟨_, _, rfl⟩
      rw [h]
      dsimp only
      rw [stepsJ_eq p ss n x]

end Go.Proofs.YtalggolacdlnnaaGreatDoor
