/- The walks of fact.Named, fact.Wrong and what they call. -/
import Derived.Test.YthogickpeldhlaaCmp
namespace Go.Proofs.Ythogickpeldhlaa
open Go.RowKit Go.Sort

set_option maxHeartbeats 400000 in
theorem begins (x : Int) (w : World) : Calls Try.prog 54 #[.int .u8 x] w fun e w' => e = .returned (.bool (smallB x)) ∧ w' = w := by
  go_enter Try.func54, Try.ntmps54
  go_wp2
  all_goals
    go_ret
    refine ⟨ret_bool ?_, rfl⟩
    rw [Bool.eq_iff_iff]
    simp [smallB]
    omega


set_option maxHeartbeats 400000 in
theorem goesOn (x : Int) (w : World) : Calls Try.prog 99 #[.int .u8 x] w fun e w' => e = .returned (.bool (signB x)) ∧ w' = w := by
  cases hs : smallB x
  · go_enter Try.func99, Try.ntmps99
    go_wp2_with (go_at_call 54; refine (begins _ _).mono ?_; rintro e w' ⟨rfl, rfl⟩; rw [hs])
    all_goals
      go_ret
      refine ⟨ret_bool ?_, rfl⟩
      rw [Bool.eq_iff_iff]
      simp [signB, hs]
      omega
  · go_enter Try.func99, Try.ntmps99
    go_wp2_with (go_at_call 54; refine (begins _ _).mono ?_; rintro e w' ⟨rfl, rfl⟩; rw [hs])
    go_ret
    exact ⟨ret_bool (by simp [signB, hs]), rfl⟩

/-- A name, byte by byte. -/
def namedB (s : ByteArray) : Bool :=
  decide (0 < s.size ∧ s.size ≤ 12) && (match s.data.toList with | [] => false | c :: r => smallB c.toNat && r.all fun c => signB c.toNat)

theorem namedB_long {s : ByteArray} (h : s.size = 0 ∨ 12 < s.size) : namedB s = false := by
  unfold namedB; rw [decide_eq_false (by omega)]; rfl

theorem size_data (s : ByteArray) : s.data.toList.length = s.size := Array.length_toList

/-- From byte k on there are signs of words alone. -/
def restB (s : ByteArray) (k : Nat) : Bool := (s.data.toList.drop k).all fun c => signB c.toNat

theorem restB_step {s : ByteArray} {k : Nat} (h : k < s.size) : restB s k = (signB s[k].toNat && restB s (k + 1)) := by
  have hl : k < s.data.toList.length := by rw [size_data]; exact h
  unfold restB
  rw [List.drop_eq_getElem_cons hl, List.all_cons]
  rfl

theorem restB_end {s : ByteArray} {k : Nat} (h : s.size ≤ k) : restB s k = true := by
  unfold restB; rw [List.drop_eq_nil_of_le (by rw [size_data]; exact h)]; rfl

theorem namedB_in {s : ByteArray} (h0 : 0 < s.size) (h1 : s.size ≤ 12) : namedB s = (smallB (s[0].toNat) && restB s 1) := by
  unfold namedB
  have hl := size_data s
  rw [decide_eq_true ⟨h0, h1⟩]
  cases h : s.data.toList with
  | nil => rw [h] at hl; simp at hl; omega
  | cons c r =>
    have : s[0] = c := by
      have : s[0] = s.data.toList[0]'(by omega) := rfl
      rw [this]; simp [h]
    simp [this, restB, h]

theorem extract_bs (s : ByteArray) (k : Nat) : s.extract 0 k = bs ((raw s).take k) := by
  apply raw_inj
  rw [raw_bs]
  unfold raw
  rw [ByteArray.data_extract]
  simp

theorem getRaw {s : ByteArray} {k : Nat} (h : k < s.size) (h' : k < (raw s).length) : (raw s)[k]'h' = s[k]'h := rfl

/-- The signs of words that a text begins with, from byte k on. -/
def goes (s : ByteArray) (k : Nat) : Bs := (raw s).take k ++ ((raw s).drop k).takeWhile isSign

theorem goes_step {s : ByteArray} {k : Nat} (h : k < s.size) : goes s k = if signB s[k].toNat then goes s (k + 1) else (raw s).take k := by
  have hl : k < (raw s).length := by rw [length_raw]; exact h
  unfold goes
  rw [List.drop_eq_getElem_cons hl, List.takeWhile_cons, getRaw h hl]
  by_cases hc : signB (s[k]'h).toNat = true
  · rw [if_pos hc, if_pos (show isSign (s[k]'h) = true from hc), List.take_succ_eq_append_getElem hl, getRaw h hl]; simp
  · rw [if_neg hc, if_neg (show ¬ isSign (s[k]'h) = true from hc)]; simp

theorem goes_end {s : ByteArray} {k : Nat} (h : s.size ≤ k) : goes s k = (raw s).take k := by
  unfold goes
  rw [List.drop_eq_nil_of_le (by rw [length_raw]; exact h)]; simp

set_option maxHeartbeats 1000000 in
/-- fact.Word: as many signs of words as a text begins with. -/
theorem wordC (s : ByteArray) (w : World) (hs : s.size ≤ 4294967296) : Calls Try.prog 55 #[.string s] w fun e w' => e = .returned (.string (bs ((raw s).takeWhile isSign))) ∧ w' = w := by
  have h0 : goes s 0 = (raw s).takeWhile isSign := by simp [goes]
  rw [← h0]
  clear h0
  go_enter Try.func55, Try.ntmps55
  go_wp2
  go_loop [3] (fun i => ∃ k : Nat, k ≤ s.size ∧ i = .int .i64 k ∧ Hid (goes s 0 = goes s k)) (fun i => s.size - (intOf i).toNat)
  case atStart => exact ⟨0, by omega, rfl, (rfl : _ = _)⟩
  case round =>
    obtain ⟨k, hk, rfl, HE⟩ := hrel
    by_cases hlt : k < s.size
    · have ha := goes_step hlt
      cases hc : signB (s[k]'hlt).toNat
      · have F : Hid (goes s 0 = (raw s).take k) := by show _ = _; rw [HE.out, ha, hc]; rfl
        clear ha
        go_wp2_with (go_at_call 99; refine (goesOn _ _).mono ?_; rintro e w' ⟨rfl, rfl⟩; rw [hc])
        go_ret
        exact ⟨by rw [F.out, ← extract_bs]; rfl, rfl⟩
      · have F : Hid (goes s 0 = goes s (k + 1)) := by show _ = _; rw [HE.out, ha, hc]; rfl
        clear ha
        have HK : Hid (k + 1 ≤ s.size) := hlt
        go_wp2_with (go_at_call 99; refine (goesOn _ _).mono ?_; rintro e w' ⟨rfl, rfl⟩; rw [hc])
        go_round
        case rel => exact ⟨k + 1, HK.out, by go_num, F⟩
        case measure => have := HK.out; simp [intOf]; omega
    · have F : Hid (goes s 0 = (raw s).take k) := by show _ = _; rw [HE.out, goes_end (by omega)]
      go_wp2
      go_ret
      exact ⟨by rw [F.out, ← extract_bs]; rfl, rfl⟩

theorem takeWhile_len (f : UInt8 → Bool) : ∀ l : Bs, decide ((l.takeWhile f).length = l.length) = l.all f := by
  intro l
  induction l with
  | nil => rfl
  | cons c t ih =>
    rw [List.takeWhile_cons, List.all_cons]
    cases hc : f c
    · simp
    · simp [← ih]

theorem namedB_word {s : ByteArray} (h0 : 0 < s.size) (h1 : s.size ≤ 12) (hb : smallB s[0].toNat = true) : namedB s = decide ((bs ((raw s).takeWhile isSign)).size = s.size) := by
  rw [size_bs, ← length_raw s, takeWhile_len, namedB_in h0 h1, hb]
  have hl : 0 < (raw s).length := by rw [length_raw]; exact h0
  have e : raw s = (s[0]'h0) :: (raw s).drop 1 := by
    have := List.drop_eq_getElem_cons hl
    rw [List.drop_zero, getRaw h0 hl] at this
    exact this
  have hs : isSign (s[0]'h0) = true := by unfold isSign signB; rw [hb]; rfl
  rw [e, List.all_cons, hs]
  rfl

theorem namedB_eq (s : ByteArray) : namedB s = isNamed (raw s) := by
  unfold namedB isNamed
  rw [length_raw]
  show (decide (0 < s.size ∧ s.size ≤ 12) && match raw s with | [] => false | c :: r => smallB c.toNat && r.all fun c => signB c.toNat) = _
  have hl := length_raw s
  cases h : raw s with
  | nil => simp
  | cons c t =>
    rw [h] at hl
    have : 0 < s.size := by rw [← hl]; simp
    simp only [List.all_cons]
    rw [show (t.all fun c => signB c.toNat) = t.all isSign from rfl]
    by_cases h12 : s.size ≤ 12
    · rw [decide_eq_true ⟨this, h12⟩, decide_eq_true h12]
      cases hc : smallB c.toNat
      · simp
      · rw [show isSign c = true by unfold isSign signB; rw [hc]; rfl]; simp
    · rw [decide_eq_false (fun h => h12 h.2), decide_eq_false h12]; rfl

set_option maxHeartbeats 1000000 in
theorem named (s : ByteArray) (w : World) : Calls Try.prog 13 #[.string s] w fun e w' => e = .returned (.bool (namedB s)) ∧ w' = w := by
  by_cases h0 : 0 < s.size
  · by_cases h1 : s.size ≤ 12
    · have h0' : ((s.size : Int) == 0) = false := by rw [beq_eq_false_iff_ne]; omega
      cases hb : smallB s[0].toNat
      · have F : Hid (namedB s = false) := by show _ = _; rw [namedB_in h0 h1, hb]; rfl
        go_enter Try.func13, Try.ntmps13
        go_wp2_with (go_at_call 54; refine (begins _ _).mono ?_; rintro e w' ⟨rfl, rfl⟩; rw [hb])
        go_ret
        exact ⟨ret_bool F.out.symm, rfl⟩
      · have F : Hid (namedB s = decide ((bs ((raw s).takeWhile isSign)).size = s.size)) := namedB_word h0 h1 hb
        generalize hx : bs ((raw s).takeWhile isSign) = x at F
        have HX := hide hx
        clear hx
        go_enter Try.func13, Try.ntmps13
        go_wp2_with (first
          | (go_at_call 54; refine (begins _ _).mono ?_; rintro e w' ⟨rfl, rfl⟩; rw [hb])
          | (go_at_call 55; refine (wordC _ _ (by omega)).mono ?_; rintro e w' ⟨rfl, rfl⟩; rw [HX.out]))
        go_ret
        refine ⟨ret_bool ?_, rfl⟩
        rw [F.out, Bool.eq_iff_iff]
        simp
        omega
    · rw [namedB_long (Or.inr (by omega))]
      have h0' : ((s.size : Int) == 0) = false := by rw [beq_eq_false_iff_ne]; omega
      go_enter Try.func13, Try.ntmps13
      go_wp2
      go_ret
      exact ⟨rfl, rfl⟩
  · rw [namedB_long (Or.inl (by omega))]
    have h0' : ((s.size : Int) == 0) = true := by rw [beq_iff_eq]; omega
    go_enter Try.func13, Try.ntmps13
    go_wp2
    go_ret
    exact ⟨rfl, rfl⟩

set_option maxHeartbeats 400000 in
theorem wrong1 (s : ByteArray) (w : World) : Calls Try.prog 59 #[.string s] w fun e w' => e = .returned (.bool (!namedB s)) ∧ w' = w := by
  generalize hr : namedB s = r
  have R : Hid _ := hr
  clear hr
  go_enter Try.func59, Try.ntmps59
  go_wp2_with (go_at_call 13; refine (named _ _).mono ?_; rintro e w' ⟨rfl, rfl⟩; rw [R.out])
  go_ret
  exact ⟨rfl, rfl⟩

/-- Is one of the texts from k on no name? -/
def noName (l : List ByteArray) (k : Nat) : Bool := (l.drop k).any fun s => !namedB s

theorem noName_step {l : List ByteArray} {k : Nat} (h : k < l.length) : noName l k = (!namedB (l.getD k ByteArray.empty) || noName l (k + 1)) := by
  unfold noName
  rw [List.drop_eq_getElem_cons h, List.any_cons, List.getD_eq_getElem?_getD, List.getElem?_eq_getElem h]; rfl

theorem noName_end {l : List ByteArray} {k : Nat} (h : l.length ≤ k) : noName l k = false := by
  unfold noName; rw [List.drop_eq_nil_of_le h]; rfl

set_option maxHeartbeats 1000000 in
/-- slices.IndexFunc at texts, with 'is no name': at or above 0 just where one is none. -/
theorem indexFunc (v : Value) (l : List ByteArray) (w : World) (h : Strs w v l) :
    Calls Try.prog 101 #[v, .func (.func 59) #[] #[]] w fun e w' => ∃ n : Int, e = .returned (.int .i64 n) ∧ decide (0 ≤ n) = noName l 0 ∧ w' = w := by
  obtain ⟨h0, a, cap, rfl, hc⟩ := h
  have HC : Hid _ := hc
  clear hc
  go_enter Try.func101, Try.ntmps101
  go_wp2
  go_loop [8] (fun i => ∃ k : Nat, k ≤ l.length ∧ i = .int .i64 k ∧ Hid (noName l 0 = noName l k)) (fun i => l.length - (intOf i).toNat)
  case atStart => exact ⟨0, by omega, rfl, (rfl : _ = _)⟩
  case round =>
    obtain ⟨k, hk, rfl, HE⟩ := hrel
    by_cases hlt : k < l.length
    · obtain ⟨b, off, rfl, _, hcell⟩ := HC.out (by intro e; rw [e] at hlt; simp at hlt)
      have h1 := hcell k hlt
      have hs := noName_step hlt
      clear hcell
      generalize l.getD k ByteArray.empty = s at *
      cases hn : namedB s
      · have F : Hid (noName l 0 = true) := by show _ = _; rw [HE.out, hs, hn]; rfl
        clear hs
        go_wp2_with (go_at_call 59; refine (wrong1 _ _).mono ?_; rintro e w' ⟨rfl, rfl⟩; rw [hn])
        go_ret
        exact ⟨_, rfl, by rw [F.out]; simp, rfl⟩
      · have F : Hid (noName l 0 = noName l (k + 1)) := by show _ = _; rw [HE.out, hs, hn]; rfl
        clear hs
        go_wp2_with (go_at_call 59; refine (wrong1 _ _).mono ?_; rintro e w' ⟨rfl, rfl⟩; rw [hn])
        go_round
        case rel => exact ⟨k + 1, by omega, by go_num, F⟩
        case measure => simp [intOf]; omega
    · have F : Hid (noName l 0 = false) := by show _ = _; rw [HE.out, noName_end (by omega)]
      go_wp2
      go_ret
      exact ⟨_, rfl, by rw [F.out]; simp, rfl⟩

set_option maxHeartbeats 400000 in
theorem containsFunc (v : Value) (l : List ByteArray) (w : World) (h : Strs w v l) :
    Calls Try.prog 58 #[v, .func (.func 59) #[] #[]] w fun e w' => e = .returned (.bool (noName l 0)) ∧ w' = w := by
  have hI := indexFunc v l w h
  obtain ⟨h0, a, cap, rfl, hc⟩ := h
  have HI := hide hI
  clear hc hI
  go_enter Try.func58, Try.ntmps58
  go_wp2_with (go_at_call 101; refine HI.out.mono ?_; rintro e w' ⟨n, rfl, hn, rfl⟩; replace hn := hide hn)
  go_ret
  exact ⟨ret_bool (unhide hn), rfl⟩

/-- What is wrong with a fact. -/
def wrongF (f : FactD) : Int := if !namedB f.1 then 7 else if 4 < f.2.length then 5 else if noName f.2 0 then 7 else 0

set_option maxHeartbeats 1000000 in
theorem wrong (v : Value) (f : FactD) (w : World) (h : FactV w v f) :
    Calls Try.prog 15 #[v] w fun e w' => e = .returned (.int .i64 (wrongF f)) ∧ Later w w' := by
  obtain ⟨s, rfl, k⟩ := h
  have HC : Hid (∀ w', Later w w' → Calls Try.prog 58 #[s, .func (.func 59) #[] #[]] w' fun e w'' => e = .returned (.bool (noName f.2 0)) ∧ w'' = w') := fun w' hw => containsFunc s f.2 w' (k.later hw)
  have l0 := k.1
  obtain ⟨a, c, rfl⟩ := sliceStr k
  clear k
  obtain ⟨n, x⟩ := f
  unfold wrongF
  dsimp only at *
  cases hn : namedB n
  · go_enter Try.func15, Try.ntmps15
    go_wp2_with (go_at_call 13; refine (named _ _).mono ?_; rintro e w' ⟨rfl, rfl⟩; rw [hn])
    go_ret
    exact ⟨rfl, (Later.refl _).alloc _⟩
  · by_cases h4 : 4 < x.length
    · rw [if_pos h4]
      go_enter Try.func15, Try.ntmps15
      go_wp2_with (go_at_call 13; refine (named _ _).mono ?_; rintro e w' ⟨rfl, rfl⟩; rw [hn])
      go_ret
      exact ⟨rfl, (Later.refl _).alloc _⟩
    · rw [if_neg h4]
      cases hb : noName x 0
      all_goals
        rw [hb] at HC
        go_enter Try.func15, Try.ntmps15
        go_wp2_with (first
          | (go_at_call 13; refine (named _ _).mono ?_; rintro e w' ⟨rfl, rfl⟩; rw [hn])
          | (go_at_call 58; refine (HC.out _ ((Later.refl _).alloc _)).mono ?_; rintro e w' ⟨rfl, rfl⟩))
        go_ret
        exact ⟨rfl, (Later.refl _).alloc _⟩

end Go.Proofs.Ythogickpeldhlaa
