/- Texts of this claim, one behind the other. -/
import Derived.Test.YthngiikhgplldaaJC6
import Derived.Test.YthngiikhgplldaaJC4
import Derived.Test.YthngiikhgplldaaJC5
/- The document's answer: the walks of ref.Small, Sign, Word, Named, Wrong. -/
namespace Go.Proofs.Ythngiikhgplldaa
open Go.RowKit Go.Sort

set_option maxHeartbeats 400000 in
theorem rSmall (x : Int) (w : World) : Calls Try.prog 32 #[.int .u8 x] w fun e w' => e = .returned (.bool (smallB x)) ∧ w' = w := by
  go_enter Try.func32, Try.ntmps32
  go_wp2
  all_goals
    go_ret
    refine ⟨ret_bool ?_, rfl⟩
    rw [Bool.eq_iff_iff]
    simp [smallB]
    omega

set_option maxHeartbeats 400000 in
theorem rSign (x : Int) (w : World) : Calls Try.prog 37 #[.int .u8 x] w fun e w' => e = .returned (.bool (signB x)) ∧ w' = w := by
  cases hs : smallB x
  · go_enter Try.func37, Try.ntmps37
    go_wp2_with (go_at_call 32; refine (rSmall _ _).mono ?_; rintro e w' ⟨rfl, rfl⟩; rw [hs])
    all_goals
      go_ret
      refine ⟨ret_bool ?_, rfl⟩
      rw [Bool.eq_iff_iff]
      simp [signB, hs]
      omega
  · go_enter Try.func37, Try.ntmps37
    go_wp2_with (go_at_call 32; refine (rSmall _ _).mono ?_; rintro e w' ⟨rfl, rfl⟩; rw [hs])
    go_ret
    exact ⟨ret_bool (by simp [signB, hs]), rfl⟩

theorem bytesOf (s : ByteArray) (w : World) : ∃ cp arr fr, (convert 9 70 (.string s)).run Try.prog w = .ok (.slice (some ⟨w.heap.size, 0, none⟩) s.size cp) (w.drew.alloc (.cells arr 5 fr)) ∧
    ∀ (j : Nat) (h : j < s.size), (w.drew.alloc (.cells arr 5 fr)).cell? ⟨w.heap.size, j, none⟩ = some (.int .u8 (s[j].toNat : Int)) := by
  refine ⟨_, _, _, run_bytes_of_string (P := Try.prog) w 9 70 5 s Try.underlying9 Try.underlying70 Try.underlying5, fun j h => ?_⟩
  rw [show w.heap.size = w.drew.heap.size from rfl, World.cell?_alloc_mark]
  rw [bytesRow_at s _ j h]
  rfl

/-- Signs alone, not too many. -/
def wordB (s : ByteArray) : Bool := restB s 0 && decide (0 < s.size ∧ s.size ≤ 12)

set_option maxHeartbeats 1000000 in
theorem rWord (s : ByteArray) (w : World) (hs : s.size ≤ 9223372036854775807) : Calls Try.prog 31 #[.string s] w fun e w' => e = .returned (.bool (wordB s)) ∧ Later w w' := by
  obtain ⟨cp, arr, fr, hcv, hcell⟩ := bytesOf s w
  have HC := hide hcell
  clear hcell
  unfold wordB
  go_enter Try.func31, Try.ntmps31
  go_wp2
  go_loop [8] (fun i => ∃ k : Nat, k ≤ s.size ∧ i = .int .i64 k ∧ Hid (restB s 0 = restB s k)) (fun i => s.size - (intOf i).toNat)
  case atStart => exact ⟨0, by omega, rfl, (rfl : _ = _)⟩
  case round =>
    obtain ⟨k, hk, rfl, HE⟩ := hrel
    by_cases hlt : k < s.size
    · have hcl : (w.alloc (.cells arr 5 fr)).cell? ⟨w.heap.size, k, none⟩ = some (.int .u8 (s[k].toNat : Int)) := HC.out k hlt
      have hltz : (k : Int) < (s.size : Int) := by omega
      have ha := restB_step hlt
      generalize (s[k].toNat : Int) = ch at *
      cases hc : signB ch
      · have F : Hid (restB s 0 = false) := by show _ = _; rw [HE.out, ha, hc]; rfl
        clear ha
        go_wp2_with (go_at_call 37; refine (rSign _ _).mono ?_; rintro e w' ⟨rfl, rfl⟩; rw [hc])
        go_ret
        exact ⟨ret_bool (by rw [F.out]; rfl), (by repeat (first | exact Later.refl _ | assumption | refine Later.drewN ?_ _ | refine Later.drew ?_ | refine Later.alloc ?_ _ | refine Later.grow ?_ _))⟩
      · have F : Hid (restB s 0 = restB s (k + 1)) := by show _ = _; rw [HE.out, ha, hc]; rfl
        clear ha
        go_wp2_with (go_at_call 37; refine (rSign _ _).mono ?_; rintro e w' ⟨rfl, rfl⟩; rw [hc])
        go_round
        case rel => exact ⟨k + 1, by omega, by go_num, F⟩
        case measure => simp [intOf]; omega
    · have F : Hid (restB s 0 = true) := by show _ = _; rw [HE.out, restB_end (by omega)]
      by_cases h0 : 0 < s.size
      · have h0z : (0 : Int) < (s.size : Int) := by omega
        go_wp2
        all_goals
          go_ret
          exact ⟨ret_bool (by rw [F.out, Bool.eq_iff_iff]; simp; omega), (by repeat (first | exact Later.refl _ | assumption | refine Later.drewN ?_ _ | refine Later.drew ?_ | refine Later.alloc ?_ _ | refine Later.grow ?_ _))⟩
      · have h0z : ¬ (0 : Int) < (s.size : Int) := by omega
        go_wp2
        go_ret
        exact ⟨ret_bool rfl, (by repeat (first | exact Later.refl _ | assumption | refine Later.drewN ?_ _ | refine Later.drew ?_ | refine Later.alloc ?_ _ | refine Later.grow ?_ _))⟩

theorem small_sign {x : Int} (h : smallB x = true) : signB x = true := by simp [signB, h]

theorem wordB_no {s : ByteArray} (h : wordB s = false) : namedB s = false := by
  unfold wordB at h
  by_cases hr : 0 < s.size ∧ s.size ≤ 12
  · rw [decide_eq_true hr, Bool.and_true, restB_step hr.1] at h
    rw [namedB_in hr.1 hr.2]
    cases hb : smallB s[0].toNat
    · rfl
    · rw [small_sign hb, Bool.true_and] at h
      rw [h]; rfl
  · unfold namedB; rw [decide_eq_false hr]; rfl

theorem wordB_yes {s : ByteArray} (h : wordB s = true) : ∃ h0 : 0 < s.size, namedB s = smallB s[0].toNat := by
  unfold wordB at h
  rw [Bool.and_eq_true, decide_eq_true_eq] at h
  refine ⟨h.2.1, ?_⟩
  rw [namedB_in h.2.1 h.2.2]
  have h1 := h.1
  rw [restB_step h.2.1, Bool.and_eq_true] at h1
  rw [h1.2, Bool.and_true]

set_option maxHeartbeats 400000 in
theorem rNamed (s : ByteArray) (w : World) (hs : s.size ≤ 9223372036854775807) : Calls Try.prog 25 #[.string s] w fun e w' => e = .returned (.bool (namedB s)) ∧ Later w w' := by
  cases hw : wordB s
  · have hn := wordB_no hw
    rw [hn]
    go_enter Try.func25, Try.ntmps25
    go_wp2_with (go_at_call 31; refine (rWord _ _ hs).mono ?_; rintro e w1 ⟨rfl, hL⟩; rw [hw])
    go_ret
    exact ⟨rfl, hL⟩
  · obtain ⟨h0, hn⟩ := wordB_yes hw
    rw [hn]
    have h0z : (0 : Int) < (s.size : Int) := by omega
    go_enter Try.func25, Try.ntmps25
    go_wp2_with (first
      | (go_at_call 31; refine (rWord _ _ hs).mono ?_; rintro e w1 ⟨rfl, hL⟩; rw [hw])
      | (go_at_call 32; refine (rSmall _ _).mono ?_; rintro e w2 ⟨rfl, rfl⟩))
    go_ret
    exact ⟨rfl, by assumption⟩

/-- Texts as long as Go's may be. -/
def okF (f : FactD) : Prop := f.1.size ≤ 9223372036854775807 ∧ ∀ s ∈ f.2, s.size ≤ 9223372036854775807

end Go.Proofs.Ythngiikhgplldaa

/- The reference's Variable. -/
namespace Go.Proofs.Ythngiikhgplldaa
open Go.RowKit Go.Sort

theorem wordB_eq (s : ByteArray) : wordB s = (decide (0 < s.size ∧ s.size ≤ 12) && (raw s).all isSign) := by
  unfold wordB; rw [Bool.and_comm]; rfl

theorem isVar_no {s : ByteArray} (h : wordB s = false) : isVar (raw s) = false := by
  rw [wordB_eq] at h
  unfold isVar
  rw [length_raw]
  cases hr : raw s with
  | nil => simp
  | cons c t =>
    have hl := length_raw s
    rw [hr] at hl h
    simp at hl
    by_cases h12 : s.size ≤ 12
    · rw [decide_eq_true ⟨by omega, h12⟩, Bool.true_and] at h
      rw [h]; simp
    · rw [decide_eq_false h12]; rfl

theorem isVar_yes {s : ByteArray} (h : wordB s = true) : ∃ h0 : 0 < s.size, isVar (raw s) = greatB s[0].toNat := by
  rw [wordB_eq, Bool.and_eq_true, decide_eq_true_iff] at h
  obtain ⟨⟨h0, h12⟩, ha⟩ := h
  refine ⟨h0, ?_⟩
  rw [isVar_in h0 h12, size_bs, ← length_raw s, takeWhile_len, ha, Bool.and_true]

set_option maxHeartbeats 400000 in
theorem rVariable (s : ByteArray) (w : World) (hs : s.size ≤ 9223372036854775807) : Calls Try.prog 26 #[.string s] w fun e w' => e = .returned (.bool (isVar (raw s))) ∧ Later w w' := by
  cases hw : wordB s
  · have hn := isVar_no hw
    rw [hn]
    go_enter Try.func26, Try.ntmps26
    go_wp2_with (go_at_call 31; refine (rWord _ _ hs).mono ?_; rintro e w1 ⟨rfl, hL⟩; rw [hw])
    go_ret
    exact ⟨rfl, hL⟩
  · obtain ⟨h0, hn⟩ := isVar_yes hw
    have h0z : (0 : Int) < (s.size : Int) := by omega
    generalize hc : (s[0]'h0).toNat = c at hn
    have HN := hide hn
    clear hn
    by_cases ha : (65 : Int) ≤ c
    · go_enter Try.func26, Try.ntmps26
      go_wp2_with (go_at_call 31; refine (rWord _ _ hs).mono ?_; rintro e w1 ⟨rfl, hL⟩; rw [hw])
      go_ret
      refine ⟨ret_bool ?_, by assumption⟩
      rw [HN.out]; unfold greatB
      rw [Bool.eq_iff_iff]; simp; omega
    · go_enter Try.func26, Try.ntmps26
      go_wp2_with (go_at_call 31; refine (rWord _ _ hs).mono ?_; rintro e w1 ⟨rfl, hL⟩; rw [hw])
      go_ret
      refine ⟨ret_bool ?_, by assumption⟩
      rw [HN.out]; unfold greatB
      rw [Bool.eq_iff_iff]; simp; omega

end Go.Proofs.Ythngiikhgplldaa

/- The reference's WrongAtom and Vars; maps from texts to whether. -/
namespace Go.Proofs.Ythngiikhgplldaa
open Go.RowKit Go.Sort Go.Maps

/-- Texts no longer than Go's. -/
def longT (t : TermD) : Prop := t.2.length ≤ 9223372036854775807
def longA (a : AtomD) : Prop := a.name.length ≤ 9223372036854775807 ∧ ∀ t ∈ a.terms, longT t

theorem rNamedBs (l : Bs) (w : World) (h : l.length ≤ 9223372036854775807) : Calls Try.prog 25 #[.string (bs l)] w fun e w' => e = .returned (.bool (isNamed l)) ∧ Later w w' := by
  have := rNamed (bs l) w (by rw [size_bs]; exact h)
  rw [namedB_eq, raw_bs] at this
  exact this
theorem rVariableBs (l : Bs) (w : World) (h : l.length ≤ 9223372036854775807) : Calls Try.prog 26 #[.string (bs l)] w fun e w' => e = .returned (.bool (isVar l)) ∧ Later w w' := by
  have := rVariable (bs l) w (by rw [size_bs]; exact h)
  rw [raw_bs] at this
  exact this

set_option maxRecDepth 100000 in
set_option maxHeartbeats 2000000 in
theorem rWrongAtom (a : AtomD) (v : Value) (w : World) (hv : termK.sl Anyw w v a.terms) (hk : longA a) :
    Calls Try.prog 14 #[.agg #[.bool a.no, .string (bs a.name), v]] w fun e w' => e = .returned (.int .i64 (wrongAtom a)) ∧ Later w w' := by
  have HN : Hid (∀ w, Calls Try.prog 25 #[.string (bs a.name)] w fun e w' => e = .returned (.bool (isNamed a.name)) ∧ Later w w') := fun w => rNamedBs a.name w hk.1
  have HV := hide hv
  have HK := hide hk.2
  have l0 := hv.1.1
  obtain ⟨a1, c1, rfl⟩ := Kind.slice hv
  clear hv hk
  obtain ⟨no, n, x⟩ := a
  unfold wrongAtom
  dsimp only at *
  generalize hn : isNamed n = q at *
  clear hn
  generalize bs n = s at *
  have HB : Hid (∀ w2, Later (w.alloc (.cells #[.bool no, .string s, .slice a1 x.length c1] 30)) w2 → w2.cell? ⟨w.heap.size, 2, none⟩ = some (.slice a1 x.length c1) ∧ w.heap.size < w2.heap.size ∧ Later w w2) := fun w2 hL =>
    ⟨by rw [hL.cell (by simp)]; simp, by have := hL.size; simp at this; omega, ((Later.refl w).alloc _).trans hL⟩
  cases q
  · rw [if_pos rfl]
    go_enter Try.func14, Try.ntmps14
    go_wp2_with (go_at_call 25; refine (HN.out _).mono ?_; rintro e w2 ⟨rfl, hL⟩; replace hL := hide hL)
    go_ret
    exact ⟨rfl, ((Later.refl _).alloc _).trans (unhide hL)⟩
  · rw [if_neg (by simp)]
    by_cases h4 : 4 < x.length
    · rw [if_pos h4]
      go_enter Try.func14, Try.ntmps14
      go_wp2_with (go_at_call 25; refine (HN.out _).mono ?_; rintro e w2 ⟨rfl, hL⟩; obtain ⟨z2, hz, HL⟩ := HB.out w2 hL; clear hL; replace HL := hide HL)
      go_ret
      exact ⟨rfl, unhide HL⟩
    · rw [if_neg h4]
      generalize hRR : (if x.any wrongTerm = true then (7 : Int) else 0) = R
      have HR := hide hRR
      clear hRR
      go_enter Try.func14, Try.ntmps14
      go_wp2_with (go_at_call 25; refine (HN.out _).mono ?_; rintro e w2 ⟨rfl, hL⟩; obtain ⟨z2, hz, HL⟩ := HB.out w2 hL; clear hL; replace HL := hide HL)
      clear z2
      go_loopg [16] x.length (fun k i wr => ∃ j : Nat, j + k = x.length ∧ i = .int .i64 j ∧ Hid (Later w wr) ∧ Hid (x.any wrongTerm = (x.drop j).any wrongTerm))
      case atStart => exact ⟨0, by omega, rfl, HL, (rfl : _ = _)⟩
      case round =>
        obtain ⟨j, hj, rfl, HLj, HF⟩ := hrel
        clear HL HN
        by_cases hlt : j < x.length
        · obtain ⟨t, ht⟩ : ∃ y, x[j]? = some y := ⟨_, List.getElem?_eq_getElem hlt⟩
          obtain ⟨b1, o1, _, rfl, hb1, rfl, hc⟩ := Kind.sl_at HV.out ht
          have d0 : wr.cell? ⟨b1, o1 + j * 2, none⟩ = some (.bool t.1) := by rw [HLj.out.cell hb1]; exact hc 0 _ rfl
          have d1 : wr.cell? ⟨b1, o1 + j * 2 + 1, none⟩ = some (.string (bs t.2)) := by rw [HLj.out.cell hb1]; exact hc 1 _ rfl
          have hbr : b1 < wr.heap.size := by have := HLj.out.size; omega
          have hd := any_step ht wrongTerm
          have hkt : t.2.length ≤ 9223372036854775807 := HK.out t (List.mem_of_getElem? ht)
          have HNt : Hid (∀ w, Calls Try.prog 25 #[.string (bs t.2)] w fun e w' => e = .returned (.bool (isNamed t.2)) ∧ Later w w') := fun w => rNamedBs t.2 w hkt
          have HVt : Hid (∀ w, Calls Try.prog 26 #[.string (bs t.2)] w fun e w' => e = .returned (.bool (isVar t.2)) ∧ Later w w') := fun w => rVariableBs t.2 w hkt
          obtain ⟨tv, tn⟩ := t
          dsimp only at *
          have hwt : wrongTerm (tv, tn) = if tv then !isVar tn else !isNamed tn := rfl
          rw [hwt] at hd
          clear hc ht hwt hkt
          have HBt : Hid (∀ w2, Later (wr.alloc (.cells #[.bool tv, .string (bs tn)] 51)) w2 → w2.cell? ⟨wr.heap.size, 0, none⟩ = some (.bool tv) ∧ w2.cell? ⟨wr.heap.size, 1, none⟩ = some (.string (bs tn)) ∧ wr.heap.size < w2.heap.size ∧ Later w w2) := fun w2 hL =>
            ⟨by rw [hL.cell (by simp)]; simp, by rw [hL.cell (by simp)]; simp, by have := hL.size; simp at this; omega, (HLj.out.alloc _).trans hL⟩
          generalize isVar tn = iv at *
          generalize isNamed tn = im at *
          generalize bs tn = tb at *
          cases tv
          · cases im
            · have F : Hid (x.any wrongTerm = true) := by show _ = _; rw [HF.out, hd]; rfl
              clear hd HF
              go_wp2_with (first
                | (go_at_call 25; refine (HNt.out _).mono ?_; rintro e w3 ⟨rfl, hL3⟩; obtain ⟨y0, y1, yl, HL3⟩ := HBt.out w3 hL3; clear hL3; replace HL3 := hide HL3))
              go_ret
              exact ⟨by rw [← HR.out, F.out]; rfl, unhide HL3⟩
            · have F : Hid (x.any wrongTerm = (x.drop (j + 1)).any wrongTerm) := by show _ = _; rw [HF.out, hd]; rfl
              clear hd HF
              go_wp2_with (first
                | (go_at_call 25; refine (HNt.out _).mono ?_; rintro e w3 ⟨rfl, hL3⟩; obtain ⟨y0, y1, yl, HL3⟩ := HBt.out w3 hL3; clear hL3; replace HL3 := hide HL3))
              go_roundg (x.length - (j + 1))
              case measure => omega
              case rel => exact ⟨j + 1, by omega, by go_num, unhide HL3, F⟩
          · cases iv
            · have F : Hid (x.any wrongTerm = true) := by show _ = _; rw [HF.out, hd]; rfl
              clear hd HF
              go_wp2_with (first
                | (go_at_call 26; refine (HVt.out _).mono ?_; rintro e w3 ⟨rfl, hL3⟩; obtain ⟨y0, y1, yl, HL3⟩ := HBt.out w3 hL3; clear hL3; replace HL3 := hide HL3))
              go_ret
              exact ⟨by rw [← HR.out, F.out]; rfl, unhide HL3⟩
            · have F : Hid (x.any wrongTerm = (x.drop (j + 1)).any wrongTerm) := by show _ = _; rw [HF.out, hd]; rfl
              clear hd HF
              go_wp2_with (first
                | (go_at_call 26; refine (HVt.out _).mono ?_; rintro e w3 ⟨rfl, hL3⟩; obtain ⟨y0, y1, yl, HL3⟩ := HBt.out w3 hL3; clear hL3; replace HL3 := hide HL3))
              go_roundg (x.length - (j + 1))
              case measure => omega
              case rel => exact ⟨j + 1, by omega, by go_num, unhide HL3, F⟩
        · have F : Hid (x.any wrongTerm = false) := by show _ = _; rw [HF.out, List.drop_eq_nil_of_le (by omega)]; rfl
          go_wp2
          go_ret
          exact ⟨by rw [← HR.out, F.out]; rfl, HLj.out⟩

end Go.Proofs.Ythngiikhgplldaa

/- How bools lie in maps. -/
namespace Go.Proofs.Ythngiikhgplldaa
open Go.RowKit Go.Sort Go.Maps

set_option maxRecDepth 100000 in
theorem plainElem_bool_inv {v : Value} {z : DataW Unit × List MemPlace} (h : plainElem Try.prog 4 v = some z) : ∃ x, v = .bool x ∧ z = (.lit (.bool x), []) := by
  unfold plainElem at h
  rw [Try.underlying4] at h
  cases v <;> simp at h
  exact ⟨_, rfl, h.symm⟩
theorem zeroBool (w : World) : (zeroValue 4).run Try.prog w = .ok (.bool false) w := by kernel_rfl

end Go.Proofs.Ythngiikhgplldaa
