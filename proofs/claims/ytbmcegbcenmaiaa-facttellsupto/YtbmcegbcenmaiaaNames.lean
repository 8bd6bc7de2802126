/- The walks of fact.Named, fact.Wrong and what they call. -/
import Derived.Test.YtbmcegbcenmaiaaCmp
namespace Go.Proofs.Ytbmcegbcenmaiaa
open Go.RowKit Go.Sort

/-- A small letter, or a digit. -/
def smallB (x : Int) : Bool := decide (97 ≤ x ∧ x ≤ 122) || decide (48 ≤ x ∧ x ≤ 57)
/-- A sign of a word. -/
def signB (x : Int) : Bool := smallB x || decide (65 ≤ x ∧ x ≤ 90) || decide (x = 95)

set_option maxHeartbeats 400000 in
theorem begins (x : Int) (w : World) : Calls Try.prog 25 #[.int .u8 x] w fun e w' => e = .returned (.bool (smallB x)) ∧ w' = w := by
  go_enter Try.func25, Try.ntmps25
  go_wp2
  all_goals
    go_ret
    refine ⟨ret_bool ?_, rfl⟩
    rw [Bool.eq_iff_iff]
    simp [smallB]
    omega


set_option maxHeartbeats 400000 in
theorem goesOn (x : Int) (w : World) : Calls Try.prog 26 #[.int .u8 x] w fun e w' => e = .returned (.bool (signB x)) ∧ w' = w := by
  cases hs : smallB x
  · go_enter Try.func26, Try.ntmps26
    go_wp2_with (go_at_call 25; refine (begins _ _).mono ?_; rintro e w' ⟨rfl, rfl⟩; rw [hs])
    all_goals
      go_ret
      refine ⟨ret_bool ?_, rfl⟩
      rw [Bool.eq_iff_iff]
      simp [signB, hs]
      omega
  · go_enter Try.func26, Try.ntmps26
    go_wp2_with (go_at_call 25; refine (begins _ _).mono ?_; rintro e w' ⟨rfl, rfl⟩; rw [hs])
    go_ret
    exact ⟨ret_bool (by simp [signB, hs]), rfl⟩

/-- A name, byte by byte. -/
def namedB (s : ByteArray) : Bool :=
  decide (0 < s.size ∧ s.size ≤ 12) && (match s.data.toList with | [] => false | c :: r => smallB c.toNat && r.all fun c => signB c.toNat)

theorem namedB_long {s : ByteArray} (h : s.size = 0 ∨ 12 < s.size) : namedB s = false := by
  unfold namedB; rw [decide_eq_false (by omega)]; rfl

theorem size_data (s : ByteArray) : s.data.toList.length = s.size := Array.length_toList

/-- From byte k on there are signs of words alone. -/
def restB (s : ByteArray) (k : Nat) : Bool := (s.data.toList.drop k).all fun c => signB c.toNat

theorem restB_step {s : ByteArray} {k : Nat} (h : k < s.size) : restB s k = (signB s[k].toNat && restB s (k + 1)) := by
  have hl : k < s.data.toList.length := by rw [size_data]; exact h
  unfold restB
  rw [List.drop_eq_getElem_cons hl, List.all_cons]
  rfl

theorem restB_end {s : ByteArray} {k : Nat} (h : s.size ≤ k) : restB s k = true := by
  unfold restB; rw [List.drop_eq_nil_of_le (by rw [size_data]; exact h)]; rfl

theorem namedB_in {s : ByteArray} (h0 : 0 < s.size) (h1 : s.size ≤ 12) : namedB s = (smallB (s[0].toNat) && restB s 1) := by
  unfold namedB
  have hl := size_data s
  rw [decide_eq_true ⟨h0, h1⟩]
  cases h : s.data.toList with
  | nil => rw [h] at hl; simp at hl; omega
  | cons c r =>
    have : s[0] = c := by
      have : s[0] = s.data.toList[0]'(by omega) := rfl
      rw [this]; simp [h]
    simp [this, restB, h]

set_option maxHeartbeats 1000000 in
theorem named (s : ByteArray) (w : World) : Calls Try.prog 6 #[.string s] w fun e w' => e = .returned (.bool (namedB s)) ∧ w' = w := by
  by_cases h0 : 0 < s.size
  · by_cases h1 : s.size ≤ 12
    · rw [namedB_in h0 h1]
      have h0' : ((s.size : Int) == 0) = false := by rw [beq_eq_false_iff_ne]; omega
      cases hb : smallB s[0].toNat
      · go_enter Try.func6, Try.ntmps6
        go_wp2_with (go_at_call 25; refine (begins _ _).mono ?_; rintro e w' ⟨rfl, rfl⟩; rw [hb])
        go_ret
        exact ⟨by simp, rfl⟩
      · go_enter Try.func6, Try.ntmps6
        go_wp2_with (go_at_call 25; refine (begins _ _).mono ?_; rintro e w' ⟨rfl, rfl⟩; rw [hb])
        go_loop [3] (fun i => ∃ k : Nat, 1 ≤ k ∧ k ≤ s.size ∧ i = .int .i64 k ∧ Hid (restB s 1 = restB s k)) (fun i => s.size - (intOf i).toNat)
        case atStart => exact ⟨1, by omega, by omega, rfl, (rfl : _ = _)⟩
        case round =>
          obtain ⟨k, hk0, hk, rfl, HE⟩ := hrel
          by_cases hlt : k < s.size
          · have ha := restB_step hlt
            cases hc : signB s[k].toNat
            · have F : Hid (restB s 1 = false) := by show _ = _; rw [HE.out, ha, hc]; rfl
              clear ha
              go_wp2_with (go_at_call 26; refine (goesOn _ _).mono ?_; rintro e w' ⟨rfl, rfl⟩; rw [hc])
              go_ret
              exact ⟨ret_bool (by rw [F.out]; rfl), rfl⟩
            · have F : Hid (restB s 1 = restB s (k + 1)) := by show _ = _; rw [HE.out, ha, hc]; rfl
              clear ha
              go_wp2_with (go_at_call 26; refine (goesOn _ _).mono ?_; rintro e w' ⟨rfl, rfl⟩; rw [hc])
              go_round
              case rel => exact ⟨k + 1, by omega, by omega, by go_num, F⟩
              case measure => simp [intOf]; omega
          · have F : Hid (restB s 1 = true) := by show _ = _; rw [HE.out, restB_end (by omega)]
            go_wp2
            go_ret
            exact ⟨ret_bool (by rw [F.out]), rfl⟩
    · rw [namedB_long (Or.inr (by omega))]
      have h0' : ((s.size : Int) == 0) = false := by rw [beq_eq_false_iff_ne]; omega
      go_enter Try.func6, Try.ntmps6
      go_wp2
      go_ret
      exact ⟨rfl, rfl⟩
  · rw [namedB_long (Or.inl (by omega))]
    have h0' : ((s.size : Int) == 0) = true := by rw [beq_iff_eq]; omega
    go_enter Try.func6, Try.ntmps6
    go_wp2
    go_ret
    exact ⟨rfl, rfl⟩

set_option maxHeartbeats 400000 in
theorem wrong1 (s : ByteArray) (w : World) : Calls Try.prog 30 #[.string s] w fun e w' => e = .returned (.bool (!namedB s)) ∧ w' = w := by
  generalize hr : namedB s = r
  have R : Hid _ := hr
  clear hr
  go_enter Try.func30, Try.ntmps30
  go_wp2_with (go_at_call 6; refine (named _ _).mono ?_; rintro e w' ⟨rfl, rfl⟩; rw [R.out])
  go_ret
  exact ⟨rfl, rfl⟩

/-- Is one of the texts from k on no name? -/
def noName (l : List ByteArray) (k : Nat) : Bool := (l.drop k).any fun s => !namedB s

theorem noName_step {l : List ByteArray} {k : Nat} (h : k < l.length) : noName l k = (!namedB (l.getD k ByteArray.empty) || noName l (k + 1)) := by
  unfold noName
  rw [List.drop_eq_getElem_cons h, List.any_cons, List.getD_eq_getElem?_getD, List.getElem?_eq_getElem h]; rfl

theorem noName_end {l : List ByteArray} {k : Nat} (h : l.length ≤ k) : noName l k = false := by
  unfold noName; rw [List.drop_eq_nil_of_le h]; rfl

set_option maxHeartbeats 1000000 in
/-- slices.IndexFunc at texts, with 'is no name': at or above 0 just where one is none. -/
theorem indexFunc (v : Value) (l : List ByteArray) (w : World) (h : Strs w v l) :
    Calls Try.prog 44 #[v, .func (.func 30) #[] #[]] w fun e w' => ∃ n : Int, e = .returned (.int .i64 n) ∧ decide (0 ≤ n) = noName l 0 ∧ w' = w := by
  obtain ⟨h0, a, cap, rfl, hc⟩ := h
  have HC : Hid _ := hc
  clear hc
  go_enter Try.func44, Try.ntmps44
  go_wp2
  go_loop [8] (fun i => ∃ k : Nat, k ≤ l.length ∧ i = .int .i64 k ∧ Hid (noName l 0 = noName l k)) (fun i => l.length - (intOf i).toNat)
  case atStart => exact ⟨0, by omega, rfl, (rfl : _ = _)⟩
  case round =>
    obtain ⟨k, hk, rfl, HE⟩ := hrel
    by_cases hlt : k < l.length
    · obtain ⟨b, off, rfl, _, hcell⟩ := HC.out (by intro e; rw [e] at hlt; simp at hlt)
      have h1 := hcell k hlt
      have hs := noName_step hlt
      clear hcell
      generalize l.getD k ByteArray.empty = s at *
      cases hn : namedB s
      · have F : Hid (noName l 0 = true) := by show _ = _; rw [HE.out, hs, hn]; rfl
        clear hs
        go_wp2_with (go_at_call 30; refine (wrong1 _ _).mono ?_; rintro e w' ⟨rfl, rfl⟩; rw [hn])
        go_ret
        exact ⟨_, rfl, by rw [F.out]; simp, rfl⟩
      · have F : Hid (noName l 0 = noName l (k + 1)) := by show _ = _; rw [HE.out, hs, hn]; rfl
        clear hs
        go_wp2_with (go_at_call 30; refine (wrong1 _ _).mono ?_; rintro e w' ⟨rfl, rfl⟩; rw [hn])
        go_round
        case rel => exact ⟨k + 1, by omega, by go_num, F⟩
        case measure => simp [intOf]; omega
    · have F : Hid (noName l 0 = false) := by show _ = _; rw [HE.out, noName_end (by omega)]
      go_wp2
      go_ret
      exact ⟨_, rfl, by rw [F.out]; simp, rfl⟩

set_option maxHeartbeats 400000 in
theorem containsFunc (v : Value) (l : List ByteArray) (w : World) (h : Strs w v l) :
    Calls Try.prog 29 #[v, .func (.func 30) #[] #[]] w fun e w' => e = .returned (.bool (noName l 0)) ∧ w' = w := by
  have hI := indexFunc v l w h
  obtain ⟨h0, a, cap, rfl, hc⟩ := h
  have HI := hide hI
  clear hc hI
  go_enter Try.func29, Try.ntmps29
  go_wp2_with (go_at_call 44; refine HI.out.mono ?_; rintro e w' ⟨n, rfl, hn, rfl⟩; replace hn := hide hn)
  go_ret
  exact ⟨ret_bool (unhide hn), rfl⟩

/-- What is wrong with a fact. -/
def wrongF (f : FactD) : Int := if !namedB f.1 then 7 else if 4 < f.2.length then 5 else if noName f.2 0 then 7 else 0

set_option maxHeartbeats 1000000 in
theorem wrong (v : Value) (f : FactD) (w : World) (h : FactV w v f) :
    Calls Try.prog 8 #[v] w fun e w' => e = .returned (.int .i64 (wrongF f)) ∧ Later w w' := by
  obtain ⟨s, rfl, k⟩ := h
  have HC : Hid (∀ w', Later w w' → Calls Try.prog 29 #[s, .func (.func 30) #[] #[]] w' fun e w'' => e = .returned (.bool (noName f.2 0)) ∧ w'' = w') := fun w' hw => containsFunc s f.2 w' (k.later hw)
  have l0 := k.1
  obtain ⟨a, c, rfl⟩ := sliceStr k
  clear k
  obtain ⟨n, x⟩ := f
  unfold wrongF
  dsimp only at *
  cases hn : namedB n
  · go_enter Try.func8, Try.ntmps8
    go_wp2_with (go_at_call 6; refine (named _ _).mono ?_; rintro e w' ⟨rfl, rfl⟩; rw [hn])
    go_ret
    exact ⟨rfl, (Later.refl _).alloc _⟩
  · by_cases h4 : 4 < x.length
    · rw [if_pos h4]
      go_enter Try.func8, Try.ntmps8
      go_wp2_with (go_at_call 6; refine (named _ _).mono ?_; rintro e w' ⟨rfl, rfl⟩; rw [hn])
      go_ret
      exact ⟨rfl, (Later.refl _).alloc _⟩
    · rw [if_neg h4]
      cases hb : noName x 0
      all_goals
        rw [hb] at HC
        go_enter Try.func8, Try.ntmps8
        go_wp2_with (first
          | (go_at_call 6; refine (named _ _).mono ?_; rintro e w' ⟨rfl, rfl⟩; rw [hn])
          | (go_at_call 29; refine (HC.out _ ((Later.refl _).alloc _)).mono ?_; rintro e w' ⟨rfl, rfl⟩))
        go_ret
        exact ⟨rfl, (Later.refl _).alloc _⟩

end Go.Proofs.Ytbmcegbcenmaiaa
