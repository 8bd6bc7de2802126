/- The walk of CheckPlain. -/
import Derived.Test.YtehipkidohomeaaLessW
namespace Go.Proofs.Ytehipkidohomeaa
open Go.RowKit Go.Sort Go.Maps


set_option maxRecDepth 100000 in
set_option maxHeartbeats 2000000 in
theorem plainW (v : Value) (n : Int) (p : List RuleD) (w : World) (m : Int) (hm : w.cell? ⟨0, 0, none⟩ = some (.int .i64 m)) (hv : ruleK.sl Anyw w v p) :
    Calls Try.prog 11 #[v, .int .i64 n] w fun e w' => e = .returned (.bool true) ∧ Below w.heap.size w w' := by
  obtain ⟨sa, cap, rfl⟩ := Kind.slice hv
  have hlc : p.length ≤ cap := hv.1.2
  have hl0 := hv.1.1
  have HA := hide (alive3 w m hm)
  have HW : Hid (∀ w1, Below w.heap.size w w1 → Calls Try.prog 45 #[.slice sa p.length cap] w1 fun e w2 => e = .returned (.agg #[.int .i64 (wrongP p).1, .int .i64 ((wrongP p).2 : Nat)]) ∧ Below w.heap.size w w2) := fun w1 hb =>
    (wrongC p _ w1 (Kind.sl_below hv hb)).mono fun e w2 ⟨he, hb2⟩ => ⟨he, below_trans hb hb2 hb.size⟩
  have HV := hide hv
  have hfe := fieldErr
  clear hv hm
  generalize hwp : wrongP p = wp at *
  obtain ⟨ex, ea⟩ := wp
  dsimp only at *
  by_cases h0 : ex = 0
  · subst h0
    by_cases hn : n < 0
    · clear hwp HV
      go_enter Try.func11, Try.ntmps11
      go_wp2_with (first
        | (go_at_call 53; refine HA.out.mono ?_; rintro e w1 ⟨rfl, hB1⟩; replace hB1 := hide hB1)
        | (go_at_call 45; refine (HW.out w1 (unhide hB1)).mono ?_; rintro e w2 ⟨rfl, hB2⟩; replace hB2 := hide hB2))
      go_ret
      exact ⟨rfl, unhide hB2⟩
    · by_cases hn2 : (p.length : Int) < n
      · clear hwp HV
        go_enter Try.func11, Try.ntmps11
        go_wp2_with (first
          | (go_at_call 53; refine HA.out.mono ?_; rintro e w1 ⟨rfl, hB1⟩; replace hB1 := hide hB1)
          | (go_at_call 45; refine (HW.out w1 (unhide hB1)).mono ?_; rintro e w2 ⟨rfl, hB2⟩; replace hB2 := hide hB2))
        go_ret
        exact ⟨rfl, unhide hB2⟩
      · obtain ⟨k, rfl⟩ : ∃ k : Nat, n = (k : Int) := ⟨n.toNat, by omega⟩
        have hkp : k ≤ p.length := by omega
        have HWz : Hid ((wrongP p).1 = 0) := by show _ = _; rw [hwp]
        clear hwp hn hn2
        have hn : ¬ (k : Int) < 0 := by omega
        have hn2 : ¬ (p.length : Int) < (k : Int) := by omega
        go_enter Try.func11, Try.ntmps11
        go_wp2_with (first
          | (go_at_call 53; refine HA.out.mono ?_; rintro e w1 ⟨rfl, hB1⟩; replace hB1 := hide hB1)
          | (go_at_call 45; refine (HW.out w1 (unhide hB1)).mono ?_; rintro e w2 ⟨rfl, hB2⟩; replace hB2 := hide hB2))
        clear HA HW hB1
        go_loopg [31] p.length (fun g i wr => ∃ j : Nat, j + g = p.length ∧ i = .int .i64 j ∧ Hid (∀ r ∈ p.take j, ∀ a ∈ r.body, a.no = false) ∧ Hid (Below w.heap.size w wr))
        case atStart => exact ⟨0, by omega, rfl, (fun r hr => by simp at hr), hB2⟩
        case round =>
          obtain ⟨j, hj, rfl, HN, HB⟩ := hrel
          clear hB2
          have hwr := HB.out.size
          by_cases hlt : j < p.length
          · obtain ⟨r, hr⟩ : ∃ x, p[j]? = some x := ⟨_, List.getElem?_eq_getElem hlt⟩
            obtain ⟨b1, o1, _, rfl, hb1, ⟨sv, su, rfl, hsv, hsu⟩, hcl⟩ := Kind.sl_at HV.out hr
            have d0 : wr.cell? ⟨b1, o1 + j * 4, none⟩ = some (.bool r.head.no) := by rw [HB.out.cell hb1]; exact hcl 0 _ rfl
            have d1 : wr.cell? ⟨b1, o1 + j * 4 + 1, none⟩ = some (.string (bs r.head.name)) := by rw [HB.out.cell hb1]; exact hcl 1 _ rfl
            have d2 : wr.cell? ⟨b1, o1 + j * 4 + 2, none⟩ = some sv := by rw [HB.out.cell hb1]; exact hcl 2 _ rfl
            have d3 : wr.cell? ⟨b1, o1 + j * 4 + 3, none⟩ = some su := by rw [HB.out.cell hb1]; exact hcl 3 _ rfl
            have hbr : b1 < wr.heap.size := by omega
            obtain ⟨a2, c2, rfl⟩ := Kind.slice hsv
            obtain ⟨a3, c3, rfl⟩ := Kind.slice hsu
            have HSU := hide hsu
            have hlb := hsu.1.1
            have HN1 : Hid ((∀ a ∈ r.body, a.no = false) → ∀ q ∈ p.take (j + 1), ∀ a ∈ q.body, a.no = false) := fun h q hq => by
              rw [List.take_add_one, hr] at hq
              rcases List.mem_append.1 hq with hq | hq
              · exact HN.out q hq
              · simp at hq; rw [hq]; exact h
            have HB1 := hide (HB.out.alloc hwr (.cells #[.bool r.head.no, .string (bs r.head.name), .slice a2 r.head.terms.length c2, .slice a3 r.body.length c3] 56))
            clear hcl hr hsv hsu HN HB
            generalize bs r.head.name = nm at *
            generalize r.head.no = no at *
            go_wp2
            go_loopg [38] r.body.length (fun g i wr2 => ∃ q : Nat, q + g = r.body.length ∧ i = .int .i64 q ∧ Hid (∀ a ∈ r.body.take q, a.no = false) ∧ Hid (Below w.heap.size w wr2))
            case atStart => exact ⟨0, by omega, rfl, (fun a ha => by simp at ha), HB1⟩
            case round =>
              obtain ⟨q, hq, rfl, HNq, HBq⟩ := hrel
              clear HB1 d0 d1 d2 d3
              have hwr2 := HBq.out.size
              by_cases hlq : q < r.body.length
              · obtain ⟨a, ha⟩ : ∃ x, r.body[q]? = some x := ⟨_, List.getElem?_eq_getElem hlq⟩
                obtain ⟨b2, o2, _, rfl, hb2, ⟨tv, rfl, htv⟩, hcl⟩ := Kind.sl_at HSU.out ha
                have d0 : wr.cell? ⟨b2, o2 + q * 3, none⟩ = some (.bool a.no) := by rw [HBq.out.cell hb2]; exact hcl 0 _ rfl
                have d1 : wr.cell? ⟨b2, o2 + q * 3 + 1, none⟩ = some (.string (bs a.name)) := by rw [HBq.out.cell hb2]; exact hcl 1 _ rfl
                have d2 : wr.cell? ⟨b2, o2 + q * 3 + 2, none⟩ = some tv := by rw [HBq.out.cell hb2]; exact hcl 2 _ rfl
                have hbr2 : b2 < wr.heap.size := by omega
                obtain ⟨a4, c4, rfl⟩ := Kind.slice htv
                cases hno : a.no
                · have HN2 : Hid (∀ x ∈ r.body.take (q + 1), x.no = false) := fun x hx => by
                    rw [List.take_add_one, ha] at hx
                    rcases List.mem_append.1 hx with hx | hx
                    · exact HNq.out x hx
                    · simp at hx; rw [hx]; exact hno
                  rw [hno] at d0
                  clear hcl ha htv HNq hno
                  generalize bs a.name = na at *
                  go_wp2
                  go_roundg (r.body.length - (q + 1))
                  case measure => omega
                  case rel => exact ⟨q + 1, by omega, by go_num, HN2, HBq.out.alloc hwr2 _⟩
                · rw [hno] at d0
                  clear hcl ha htv HNq hno
                  generalize bs a.name = na at *
                  go_wp2
                  go_ret
                  exact ⟨rfl, HBq.out.alloc hwr2 _⟩
              · have HN2 : Hid (∀ x ∈ p.take (j + 1), ∀ a ∈ x.body, a.no = false) := by
                  refine HN1.out ?_
                  have := HNq.out
                  rw [List.take_of_length_le (by omega)] at this
                  exact this
                go_wp2
                go_roundg (p.length - (j + 1))
                case measure => omega
                case rel => exact ⟨j + 1, by omega, by go_num, HN2, HBq⟩
          · have HN2 : ∀ x ∈ p, ∀ a ∈ x.body, a.no = false := by
              have := HN.out
              rw [List.take_of_length_le (by omega)] at this
              exact this
            have hst := strataP_plain (p := p.take k) (wrongP_take HWz.out k) (fun r hr => HN2 r (List.mem_of_mem_take hr))
            have HS : Hid (Calls Try.prog 51 #[.slice sa k cap] wr fun e w2 => ∃ u, e = .returned (.tuple #[u, .agg #[.int .i64 0, .int .i64 0]]) ∧ intK.sl Anyw w2 u (List.replicate k 0) ∧ Below w.heap.size w w2) := by
              have := strataC (p.take k) _ wr (Kind.sl_take (Kind.sl_below HV.out HB.out) k hkp)
              have e : (p.take k).map (fun _ => 0) = List.replicate k 0 := by rw [List.map_const', List.length_take, Nat.min_eq_left hkp]
              rw [hst, e] at this
              exact this.mono fun e w2 ⟨u, he, hu, hb2⟩ => ⟨u, he, Kind.sl_any hu, below_trans HB.out hb2 hwr⟩
            have hkz : (k : Int) ≤ (cap : Int) := by omega
            clear hst HN2 HN HWz
            have hk0 : (List.replicate k 0).length = k := List.length_replicate
            have hkk : ((k : Int) == (k : Int)) = true := by simp
            go_wp2_with fail
            refine HS.out.mono ?_
            rintro e w3 ⟨u, rfl, hU, hB3⟩
            have hs3 := hB3.size
            obtain ⟨ua, uc, rfl⟩ := Kind.slice hU
            rw [hk0]
            have HU := hide (Kind.sl_below hU ((Later.refl w3).alloc (.cells #[.int .i64 0, .int .i64 0] 30)).below)
            rw [hk0] at HU
            have HB3 := hide (hB3.alloc hs3 (.cells #[.int .i64 0, .int .i64 0] 30))
            clear hU hB3 HS hk0
            go_wp2
            go_loopg [55] k (fun g i wr => ∃ j : Nat, j + g = k ∧ i = .int .i64 j ∧ Hid (Later (w3.alloc (.cells #[.int .i64 0, .int .i64 0] 30)) wr))
            case atStart => exact ⟨0, by omega, rfl, Later.refl _⟩
            case round =>
              obtain ⟨t, ht, rfl, HL⟩ := hrel
              have z0 : wr.cell? ⟨w3.heap.size, 0, none⟩ = some (.int .i64 0) := by rw [HL.out.cell (by simp)]; simp
              have zl : w3.heap.size < wr.heap.size := by have := HL.out.size; simp at this; omega
              by_cases hlt : t < k
              · obtain ⟨b1, o1, _, rfl, hb1, rfl, hc1⟩ := Kind.sl_at (Kind.sl_later HU.out HL.out) (i := t) (x := 0) (by rw [List.getElem?_replicate, if_pos hlt])
                have d1 : wr.cell? ⟨b1, o1 + t, none⟩ = some (.int .i64 0) := by simpa [intK] using hc1 0 _ rfl
                clear hc1
                go_wp2
                go_roundg (k - (t + 1))
                case measure => omega
                case rel => exact ⟨t + 1, by omega, by go_num, HL⟩
              · go_wp2
                go_ret
                exact ⟨rfl, below_trans HB3.out HL.out.below HB3.out.size⟩
  · have hq : (ex != 0) = true := by simpa using h0
    clear hwp h0 HV
    go_enter Try.func11, Try.ntmps11
    go_wp2_with (first
      | (go_at_call 53; refine HA.out.mono ?_; rintro e w1 ⟨rfl, hB1⟩; replace hB1 := hide hB1)
      | (go_at_call 45; refine (HW.out w1 (unhide hB1)).mono ?_; rintro e w2 ⟨rfl, hB2⟩; replace hB2 := hide hB2))
    go_ret
    exact ⟨rfl, unhide hB2⟩

end Go.Proofs.Ytehipkidohomeaa
