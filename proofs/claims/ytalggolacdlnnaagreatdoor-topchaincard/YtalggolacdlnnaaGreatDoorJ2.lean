/- Texts of this claim, one behind the other. -/
import Derived.Test.YtalggolacdlnnaaGreatDoorJ1
/- The walks of fact.Named, fact.Wrong and what they call. -/
namespace Go.Proofs.YtalggolacdlnnaaGreatDoor
open Go.RowKit Go.Sort

set_option maxHeartbeats 400000 in
theorem begins (x : Int) (w : World) : Calls Tryz.prog 115 #[.int .u8 x] w fun e w' => e = .returned (.bool (smallB x)) ∧ w' = w := by
  go_enter Tryz.func115, Tryz.ntmps115
  go_wp2
  all_goals
    go_ret
    refine ⟨ret_bool ?_, rfl⟩
    rw [Bool.eq_iff_iff]
    simp [smallB]
    omega


set_option maxHeartbeats 400000 in
theorem goesOn (x : Int) (w : World) : Calls Tryz.prog 150 #[.int .u8 x] w fun e w' => e = .returned (.bool (signB x)) ∧ w' = w := by
  cases hs : smallB x
  · go_enter Tryz.func150, Tryz.ntmps150
    go_wp2_with (go_at_call 115; refine (begins _ _).mono ?_; rintro e w' ⟨rfl, rfl⟩; rw [hs])
    all_goals
      go_ret
      refine ⟨ret_bool ?_, rfl⟩
      rw [Bool.eq_iff_iff]
      simp [signB, hs]
      omega
  · go_enter Tryz.func150, Tryz.ntmps150
    go_wp2_with (go_at_call 115; refine (begins _ _).mono ?_; rintro e w' ⟨rfl, rfl⟩; rw [hs])
    go_ret
    exact ⟨ret_bool (by simp [signB, hs]), rfl⟩

/-- A name, byte by byte. -/
def namedB (s : ByteArray) : Bool :=
  decide (0 < s.size ∧ s.size ≤ 12) && (match s.data.toList with | [] => false | c :: r => smallB c.toNat && r.all fun c => signB c.toNat)

theorem namedB_long {s : ByteArray} (h : s.size = 0 ∨ 12 < s.size) : namedB s = false := by
  unfold namedB; rw [decide_eq_false (by omega)]; rfl

theorem size_data (s : ByteArray) : s.data.toList.length = s.size := Array.length_toList

/-- From byte k on there are signs of words alone. -/
def restB (s : ByteArray) (k : Nat) : Bool := (s.data.toList.drop k).all fun c => signB c.toNat

theorem restB_step {s : ByteArray} {k : Nat} (h : k < s.size) : restB s k = (signB s[k].toNat && restB s (k + 1)) := by
  have hl : k < s.data.toList.length := by rw [size_data]; exact h
  unfold restB
  rw [List.drop_eq_getElem_cons hl, List.all_cons]
  rfl

theorem restB_end {s : ByteArray} {k : Nat} (h : s.size ≤ k) : restB s k = true := by
  unfold restB; rw [List.drop_eq_nil_of_le (by rw [size_data]; exact h)]; rfl

theorem namedB_in {s : ByteArray} (h0 : 0 < s.size) (h1 : s.size ≤ 12) : namedB s = (smallB (s[0].toNat) && restB s 1) := by
  unfold namedB
  have hl := size_data s
  rw [decide_eq_true ⟨h0, h1⟩]
  cases h : s.data.toList with
  | nil => rw [h] at hl; simp at hl; omega
  | cons c r =>
    have : s[0] = c := by
      have : s[0] = s.data.toList[0]'(by omega) := rfl
      rw [this]; simp [h]
    simp [this, restB, h]

theorem extract_bs (s : ByteArray) (k : Nat) : s.extract 0 k = bs ((raw s).take k) := by
  apply raw_inj
  rw [raw_bs]
  unfold raw
  rw [ByteArray.data_extract]
  simp

theorem getRaw {s : ByteArray} {k : Nat} (h : k < s.size) (h' : k < (raw s).length) : (raw s)[k]'h' = s[k]'h := rfl

/-- The signs of words that a text begins with, from byte k on. -/
def goes (s : ByteArray) (k : Nat) : Bs := (raw s).take k ++ ((raw s).drop k).takeWhile isSign

theorem goes_step {s : ByteArray} {k : Nat} (h : k < s.size) : goes s k = if signB s[k].toNat then goes s (k + 1) else (raw s).take k := by
  have hl : k < (raw s).length := by rw [length_raw]; exact h
  unfold goes
  rw [List.drop_eq_getElem_cons hl, List.takeWhile_cons, getRaw h hl]
  by_cases hc : signB (s[k]'h).toNat = true
  · rw [if_pos hc, if_pos (show isSign (s[k]'h) = true from hc), List.take_succ_eq_append_getElem hl, getRaw h hl]; simp
  · rw [if_neg hc, if_neg (show ¬ isSign (s[k]'h) = true from hc)]; simp

theorem goes_end {s : ByteArray} {k : Nat} (h : s.size ≤ k) : goes s k = (raw s).take k := by
  unfold goes
  rw [List.drop_eq_nil_of_le (by rw [length_raw]; exact h)]; simp

set_option maxHeartbeats 1000000 in
/-- fact.Word: as many signs of words as a text begins with. -/
theorem wordC (s : ByteArray) (w : World) (hs : s.size ≤ 4294967296) : Calls Tryz.prog 116 #[.string s] w fun e w' => e = .returned (.string (bs ((raw s).takeWhile isSign))) ∧ w' = w := by
  have h0 : goes s 0 = (raw s).takeWhile isSign := by simp [goes]
  rw [← h0]
  clear h0
  go_enter Tryz.func116, Tryz.ntmps116
  go_wp2
  go_loop [3] (fun i => ∃ k : Nat, k ≤ s.size ∧ i = .int .i64 k ∧ Hid (goes s 0 = goes s k)) (fun i => s.size - (intOf i).toNat)
  case atStart => exact ⟨0, by omega, rfl, (rfl : _ = _)⟩
  case round =>
    obtain ⟨k, hk, rfl, HE⟩ := hrel
    by_cases hlt : k < s.size
    · have ha := goes_step hlt
      cases hc : signB (s[k]'hlt).toNat
      · have F : Hid (goes s 0 = (raw s).take k) := by show _ = _; rw [HE.out, ha, hc]; rfl
        clear ha
        go_wp2_with (go_at_call 150; refine (goesOn _ _).mono ?_; rintro e w' ⟨rfl, rfl⟩; rw [hc])
        go_ret
        exact ⟨by rw [F.out, ← extract_bs]; rfl, rfl⟩
      · have F : Hid (goes s 0 = goes s (k + 1)) := by show _ = _; rw [HE.out, ha, hc]; rfl
        clear ha
        have HK : Hid (k + 1 ≤ s.size) := hlt
        go_wp2_with (go_at_call 150; refine (goesOn _ _).mono ?_; rintro e w' ⟨rfl, rfl⟩; rw [hc])
        go_round
        case rel => exact ⟨k + 1, HK.out, by go_num, F⟩
        case measure => have := HK.out; simp [intOf]; omega
    · have F : Hid (goes s 0 = (raw s).take k) := by show _ = _; rw [HE.out, goes_end (by omega)]
      go_wp2
      go_ret
      exact ⟨by rw [F.out, ← extract_bs]; rfl, rfl⟩

theorem takeWhile_len (f : UInt8 → Bool) : ∀ l : Bs, decide ((l.takeWhile f).length = l.length) = l.all f := by
  intro l
  induction l with
  | nil => rfl
  | cons c t ih =>
    rw [List.takeWhile_cons, List.all_cons]
    cases hc : f c
    · simp
    · simp [← ih]

theorem namedB_word {s : ByteArray} (h0 : 0 < s.size) (h1 : s.size ≤ 12) (hb : smallB s[0].toNat = true) : namedB s = decide ((bs ((raw s).takeWhile isSign)).size = s.size) := by
  rw [size_bs, ← length_raw s, takeWhile_len, namedB_in h0 h1, hb]
  have hl : 0 < (raw s).length := by rw [length_raw]; exact h0
  have e : raw s = (s[0]'h0) :: (raw s).drop 1 := by
    have := List.drop_eq_getElem_cons hl
    rw [List.drop_zero, getRaw h0 hl] at this
    exact this
  have hs : isSign (s[0]'h0) = true := by unfold isSign signB; rw [hb]; rfl
  rw [e, List.all_cons, hs]
  rfl

theorem namedB_eq (s : ByteArray) : namedB s = isNamed (raw s) := by
  unfold namedB isNamed
  rw [length_raw]
  show (decide (0 < s.size ∧ s.size ≤ 12) && match raw s with | [] => false | c :: r => smallB c.toNat && r.all fun c => signB c.toNat) = _
  have hl := length_raw s
  cases h : raw s with
  | nil => simp
  | cons c t =>
    rw [h] at hl
    have : 0 < s.size := by rw [← hl]; simp
    simp only [List.all_cons]
    rw [show (t.all fun c => signB c.toNat) = t.all isSign from rfl]
    by_cases h12 : s.size ≤ 12
    · rw [decide_eq_true ⟨this, h12⟩, decide_eq_true h12]
      cases hc : smallB c.toNat
      · simp
      · rw [show isSign c = true by unfold isSign signB; rw [hc]; rfl]; simp
    · rw [decide_eq_false (fun h => h12 h.2), decide_eq_false h12]; rfl

set_option maxHeartbeats 1000000 in
theorem named (s : ByteArray) (w : World) : Calls Tryz.prog 75 #[.string s] w fun e w' => e = .returned (.bool (namedB s)) ∧ w' = w := by
  by_cases h0 : 0 < s.size
  · by_cases h1 : s.size ≤ 12
    · have h0' : ((s.size : Int) == 0) = false := by rw [beq_eq_false_iff_ne]; omega
      cases hb : smallB s[0].toNat
      · have F : Hid (namedB s = false) := by show _ = _; rw [namedB_in h0 h1, hb]; rfl
        go_enter Tryz.func75, Tryz.ntmps75
        go_wp2_with (go_at_call 115; refine (begins _ _).mono ?_; rintro e w' ⟨rfl, rfl⟩; rw [hb])
        go_ret
        exact ⟨ret_bool F.out.symm, rfl⟩
      · have F : Hid (namedB s = decide ((bs ((raw s).takeWhile isSign)).size = s.size)) := namedB_word h0 h1 hb
        generalize hx : bs ((raw s).takeWhile isSign) = x at F
        have HX := hide hx
        clear hx
        go_enter Tryz.func75, Tryz.ntmps75
        go_wp2_with (first
          | (go_at_call 115; refine (begins _ _).mono ?_; rintro e w' ⟨rfl, rfl⟩; rw [hb])
          | (go_at_call 116; refine (wordC _ _ (by omega)).mono ?_; rintro e w' ⟨rfl, rfl⟩; rw [HX.out]))
        go_ret
        refine ⟨ret_bool ?_, rfl⟩
        rw [F.out, Bool.eq_iff_iff]
        simp
        omega
    · rw [namedB_long (Or.inr (by omega))]
      have h0' : ((s.size : Int) == 0) = false := by rw [beq_eq_false_iff_ne]; omega
      go_enter Tryz.func75, Tryz.ntmps75
      go_wp2
      go_ret
      exact ⟨rfl, rfl⟩
  · rw [namedB_long (Or.inl (by omega))]
    have h0' : ((s.size : Int) == 0) = true := by rw [beq_iff_eq]; omega
    go_enter Tryz.func75, Tryz.ntmps75
    go_wp2
    go_ret
    exact ⟨rfl, rfl⟩

set_option maxHeartbeats 400000 in
theorem wrong1 (s : ByteArray) (w : World) : Calls Tryz.prog 94 #[.string s] w fun e w' => e = .returned (.bool (!namedB s)) ∧ w' = w := by
  generalize hr : namedB s = r
  have R : Hid _ := hr
  clear hr
  go_enter Tryz.func94, Tryz.ntmps94
  go_wp2_with (go_at_call 75; refine (named _ _).mono ?_; rintro e w' ⟨rfl, rfl⟩; rw [R.out])
  go_ret
  exact ⟨rfl, rfl⟩

/-- Is one of the texts from k on no name? -/
def noName (l : List ByteArray) (k : Nat) : Bool := (l.drop k).any fun s => !namedB s

theorem noName_step {l : List ByteArray} {k : Nat} (h : k < l.length) : noName l k = (!namedB (l.getD k ByteArray.empty) || noName l (k + 1)) := by
  unfold noName
  rw [List.drop_eq_getElem_cons h, List.any_cons, List.getD_eq_getElem?_getD, List.getElem?_eq_getElem h]; rfl

theorem noName_end {l : List ByteArray} {k : Nat} (h : l.length ≤ k) : noName l k = false := by
  unfold noName; rw [List.drop_eq_nil_of_le h]; rfl

set_option maxHeartbeats 1000000 in
/-- slices.IndexFunc at texts, with 'is no name': at or above 0 just where one is none. -/
theorem indexFunc (v : Value) (l : List ByteArray) (w : World) (h : Strs w v l) :
    Calls Tryz.prog 125 #[v, .func (.func 94) #[] #[]] w fun e w' => ∃ n : Int, e = .returned (.int .i64 n) ∧ decide (0 ≤ n) = noName l 0 ∧ w' = w := by
  obtain ⟨h0, a, cap, rfl, hc⟩ := h
  have HC : Hid _ := hc
  clear hc
  go_enter Tryz.func125, Tryz.ntmps125
  go_wp2
  go_loop [8] (fun i => ∃ k : Nat, k ≤ l.length ∧ i = .int .i64 k ∧ Hid (noName l 0 = noName l k)) (fun i => l.length - (intOf i).toNat)
  case atStart => exact ⟨0, by omega, rfl, (rfl : _ = _)⟩
  case round =>
    obtain ⟨k, hk, rfl, HE⟩ := hrel
    by_cases hlt : k < l.length
    · obtain ⟨b, off, rfl, _, hcell⟩ := HC.out (by intro e; rw [e] at hlt; simp at hlt)
      have h1 := hcell k hlt
      have hs := noName_step hlt
      clear hcell
      generalize l.getD k ByteArray.empty = s at *
      cases hn : namedB s
      · have F : Hid (noName l 0 = true) := by show _ = _; rw [HE.out, hs, hn]; rfl
        clear hs
        go_wp2_with (go_at_call 94; refine (wrong1 _ _).mono ?_; rintro e w' ⟨rfl, rfl⟩; rw [hn])
        go_ret
        exact ⟨_, rfl, by rw [F.out]; simp, rfl⟩
      · have F : Hid (noName l 0 = noName l (k + 1)) := by show _ = _; rw [HE.out, hs, hn]; rfl
        clear hs
        go_wp2_with (go_at_call 94; refine (wrong1 _ _).mono ?_; rintro e w' ⟨rfl, rfl⟩; rw [hn])
        go_round
        case rel => exact ⟨k + 1, by omega, by go_num, F⟩
        case measure => simp [intOf]; omega
    · have F : Hid (noName l 0 = false) := by show _ = _; rw [HE.out, noName_end (by omega)]
      go_wp2
      go_ret
      exact ⟨_, rfl, by rw [F.out]; simp, rfl⟩

set_option maxHeartbeats 400000 in
theorem containsFunc (v : Value) (l : List ByteArray) (w : World) (h : Strs w v l) :
    Calls Tryz.prog 93 #[v, .func (.func 94) #[] #[]] w fun e w' => e = .returned (.bool (noName l 0)) ∧ w' = w := by
  have hI := indexFunc v l w h
  obtain ⟨h0, a, cap, rfl, hc⟩ := h
  have HI := hide hI
  clear hc hI
  go_enter Tryz.func93, Tryz.ntmps93
  go_wp2_with (go_at_call 125; refine HI.out.mono ?_; rintro e w' ⟨n, rfl, hn, rfl⟩; replace hn := hide hn)
  go_ret
  exact ⟨ret_bool (unhide hn), rfl⟩

/-- What is wrong with a fact. -/
def wrongF (f : FactD) : Int := if !namedB f.1 then 7 else if 4 < f.2.length then 5 else if noName f.2 0 then 7 else 0

set_option maxHeartbeats 1000000 in
theorem wrong (v : Value) (f : FactD) (w : World) (h : FactV w v f) :
    Calls Tryz.prog 63 #[v] w fun e w' => e = .returned (.int .i64 (wrongF f)) ∧ Later w w' := by
  obtain ⟨s, rfl, k⟩ := h
  have HC : Hid (∀ w', Later w w' → Calls Tryz.prog 93 #[s, .func (.func 94) #[] #[]] w' fun e w'' => e = .returned (.bool (noName f.2 0)) ∧ w'' = w') := fun w' hw => containsFunc s f.2 w' (k.later hw)
  have l0 := k.1
  obtain ⟨a, c, rfl⟩ := sliceStr k
  clear k
  obtain ⟨n, x⟩ := f
  unfold wrongF
  dsimp only at *
  cases hn : namedB n
  · go_enter Tryz.func63, Tryz.ntmps63
    go_wp2_with (go_at_call 75; refine (named _ _).mono ?_; rintro e w' ⟨rfl, rfl⟩; rw [hn])
    go_ret
    exact ⟨rfl, (Later.refl _).alloc _⟩
  · by_cases h4 : 4 < x.length
    · rw [if_pos h4]
      go_enter Tryz.func63, Tryz.ntmps63
      go_wp2_with (go_at_call 75; refine (named _ _).mono ?_; rintro e w' ⟨rfl, rfl⟩; rw [hn])
      go_ret
      exact ⟨rfl, (Later.refl _).alloc _⟩
    · rw [if_neg h4]
      cases hb : noName x 0
      all_goals
        rw [hb] at HC
        go_enter Tryz.func63, Tryz.ntmps63
        go_wp2_with (first
          | (go_at_call 75; refine (named _ _).mono ?_; rintro e w' ⟨rfl, rfl⟩; rw [hn])
          | (go_at_call 93; refine (HC.out _ ((Later.refl _).alloc _)).mono ?_; rintro e w' ⟨rfl, rfl⟩))
        go_ret
        exact ⟨rfl, (Later.refl _).alloc _⟩

end Go.Proofs.YtalggolacdlnnaaGreatDoor

/- What texts are rules: the document's answer, on lists of bytes; one text behind another. Nothing of the program. -/
namespace Go.Proofs.YtalggolacdlnnaaGreatDoor

/-- Where a text goes on behind blanks and notes ('true': a note has begun). -/
def skipM : Bool → Bs → Bs
  | _, [] => []
  | false, c :: t => if c = 32 ∨ c = 10 then skipM false t else if c = 37 then skipM true t else c :: t
  | true, c :: t => if c = 10 then skipM false t else skipM true t

abbrev skip (l : Bs) : Bs := skipM false l

/-- What was read, and what follows; or what is wrong, and what follows there. -/
inductive Res (α : Type) where
  | ok (a : α) (r : Bs)
  | bad (e : Int) (r : Bs)

def Res.next {α β : Type} (x : Res α) (f : α → Bs → Res β) : Res β :=
  match x with
  | .ok a r => f a r
  | .bad e r => .bad e r

def took (g l : Bs) : Bool × Bs := if g.isPrefixOf (skip l) then (true, (skip l).drop g.length) else (false, skip l)

/-- A word that fits. -/
def word (fits : Bs → Bool) (l : Bs) : Res Bs :=
  if (skip l).takeWhile isSign = [] then .bad 2 (skip l)
  else if fits ((skip l).takeWhile isSign) then .ok ((skip l).takeWhile isSign) ((skip l).drop ((skip l).takeWhile isSign).length)
  else .bad 7 (skip l)

/-- Parts with ',' between: n more at most. -/
def listGo {α : Type} (part : Bs → Res α) : Nat → List α → Bs → Res (List α)
  | n, out, l => if (took [44] l).1 then
      match n with
      | 0 => .bad 5 (took [44] l).2
      | n + 1 => (part (took [44] l).2).next fun a r => listGo part n (out ++ [a]) r
    else .ok out (took [44] l).2

def listP {α : Type} (part : Bs → Res α) (most : Nat) (l : Bs) : Res (List α) := (part l).next fun a r => listGo part (most - 1) [a] r

def mustTake {α : Type} (g : Bs) (a : α) (l : Bs) : Res α := if (took g l).1 then .ok a (took g l).2 else .bad 2 (took g l).2

abbrev TermD := Bool × Bs
structure AtomD where
  no : Bool
  name : Bs
  terms : List TermD
deriving DecidableEq
structure RuleD where
  head : AtomD
  body : List AtomD
deriving DecidableEq

def fitsTerm (w : Bs) : Bool := isNamed w || isVar w
def term (l : Bs) : Res TermD := (word fitsTerm l).next fun w r => .ok (isVar w, w) r
def atom (l : Bs) : Res AtomD := (word isNamed l).next fun w r =>
  if (took [40] r).1 then (listP term 4 (took [40] r).2).next fun ts r => mustTake [41] ⟨false, w, ts⟩ r else .ok ⟨false, w, []⟩ (took [40] r).2
def bodyAtom (l : Bs) : Res AtomD := (atom (took [33] l).2).next fun a r => .ok { a with no := (took [33] l).1 } r
def body (l : Bs) : Res (List AtomD) := listP bodyAtom 5 l
def rule (l : Bs) : Res RuleD := (atom l).next fun a r =>
  if (took [58, 45] r).1 then (body (took [58, 45] r).2).next fun b r => mustTake [46] ⟨a, b⟩ r else mustTake [46] ⟨a, []⟩ (took [58, 45] r).2
def rulesGo : Nat → List RuleD → Bs → Res (List RuleD)
  | n, out, l => if skip l = [] then .ok out [] else
    match n with
    | 0 => .bad 5 (skip l)
    | n + 1 => (rule (skip l)).next fun a r => rulesGo n (out ++ [a]) r
def onlyBody (l : Bs) : Res (List AtomD) := (body l).next fun b r => if skip r = [] then .ok b [] else .bad 2 (skip r)

theorem Res.next_ok {α β : Type} {x : Res α} {f : α → Bs → Res β} {b : β} {r : Bs} (h : x.next f = .ok b r) : ∃ a r', x = .ok a r' ∧ f a r' = .ok b r := by
  cases x with
  | ok a r' => exact ⟨a, r', rfl, h⟩
  | bad e r' => cases h

theorem skipM_nil (b : Bool) : skipM b [] = [] := by cases b <;> rfl

/-- Behind blanks there are none. -/
theorem skip_skip (b : Bool) : ∀ l, skip (skipM b l) = skipM b l := by
  intro l
  induction l generalizing b with
  | nil => cases b <;> rfl
  | cons c t ih =>
    cases b with
    | false =>
      simp only [skipM]
      split
      · exact ih _
      · split
        · exact ih _
        · rename_i h1 h2; show skipM false (c :: t) = _; simp only [skipM, if_neg h1, if_neg h2]
    | true =>
      simp only [skipM]
      split
      · exact ih _
      · exact ih _

theorem skip_blank {c : UInt8} {t : Bs} (h : c = 32 ∨ c = 10) : skipM false (c :: t) = skipM false t := by simp only [skipM, if_pos h]
theorem skip_note {t : Bs} : skipM false (37 :: t) = skipM true t := by simp [skipM]
theorem skip_other {c : UInt8} {t : Bs} (h : ¬ (c = 32 ∨ c = 10)) (h2 : ¬ c = 37) : skipM false (c :: t) = c :: t := by simp only [skipM, if_neg h, if_neg h2]
theorem note_end {t : Bs} : skipM true (10 :: t) = skipM false t := by simp [skipM]
theorem note_on {c : UInt8} {t : Bs} (h : ¬ c = 10) : skipM true (c :: t) = skipM true t := by simp only [skipM, if_neg h]

/-- A line feed behind a text ends whatever note it ends with. -/
theorem skip_append (b : Bool) (t : Bs) : ∀ l, skipM b (l ++ 10 :: t) = if skipM b l = [] then skip t else skipM b l ++ 10 :: t := by
  intro l
  induction l generalizing b with
  | nil => cases b <;> simp [skipM]
  | cons c u ih =>
    cases b with
    | false =>
      by_cases h1 : c = 32 ∨ c = 10
      · rw [List.cons_append, skip_blank h1, skip_blank h1]; exact ih _
      · by_cases h2 : c = 37
        · subst h2; rw [List.cons_append, skip_note, skip_note]; exact ih _
        · rw [List.cons_append, skip_other h1 h2, skip_other h1 h2]; simp
    | true =>
      by_cases h1 : c = 10
      · subst h1; rw [List.cons_append, note_end, note_end]; exact ih _
      · rw [List.cons_append, note_on h1, note_on h1]; exact ih _

theorem skip_behind {l t : Bs} (h : skip l ≠ []) : skip (l ++ 10 :: t) = skip l ++ 10 :: t := by rw [skip, skip_append, if_neg h]

/-- A sign without line feed that a text does not begin with, it does not begin with behind a line feed. -/
theorem prefix_append {g : Bs} (hg : 10 ∉ g) (t : Bs) : ∀ {l : Bs}, l ≠ [] → g.isPrefixOf (l ++ 10 :: t) = g.isPrefixOf l := by
  induction g with
  | nil => intro l _; simp
  | cons c g ih =>
    intro l hl
    cases l with
    | nil => exact absurd rfl hl
    | cons d u =>
      simp only [List.cons_append, List.isPrefixOf_cons_cons]
      by_cases hu : u = []
      · subst hu
        cases g with
        | nil => simp
        | cons e g =>
          have he : e ≠ 10 := fun h => hg (by simp [h])
          simp [List.isPrefixOf, he]
      · rw [ih (fun h => hg (by simp [h])) hu]

theorem took_true {g l : Bs} (hg : g ≠ []) (h : (took g l).1 = true) : skip l ≠ [] := by
  intro e
  unfold took at h
  rw [e] at h
  cases g with
  | nil => exact hg rfl
  | cons c g => simp [List.isPrefixOf] at h

theorem took_behind {g l : Bs} (t : Bs) (hg : 10 ∉ g) (h : skip l ≠ []) : took g (l ++ 10 :: t) = ((took g l).1, (took g l).2 ++ 10 :: t) := by
  unfold took
  rw [skip_behind h, prefix_append hg t h]
  by_cases hp : g.isPrefixOf (skip l) = true
  · rw [if_pos hp, if_pos hp]
    have : g.length ≤ (skip l).length := (List.isPrefixOf_iff_prefix.1 hp).length_le
    rw [List.drop_append_of_le_length this]
  · rw [if_neg hp, if_neg hp]

theorem took_nil {g : Bs} (hg : g ≠ []) : took g [] = (false, []) := by
  cases g with
  | nil => exact absurd rfl hg
  | cons c g => rfl

theorem took_rest {g l : Bs} (h : (took g l).1 = false) : (took g l).2 = skip l := by
  unfold took at h ⊢; split <;> simp_all

theorem skip_ne_of {l : Bs} (h : skip l ≠ []) : l ≠ [] := fun e => h (by rw [e]; rfl)

theorem sign10 : isSign 10 = false := by decide

theorem takeWhile_behind (t : Bs) : ∀ l : Bs, (l ++ 10 :: t).takeWhile isSign = l.takeWhile isSign := by
  intro l
  induction l with
  | nil => simp [sign10]
  | cons c u ih => simp only [List.cons_append, List.takeWhile_cons, ih]

theorem word_behind {f : Bs → Bool} {l w r : Bs} (t : Bs) (h : word f l = .ok w r) : word f (l ++ 10 :: t) = .ok w (r ++ 10 :: t) := by
  unfold word at h ⊢
  by_cases h1 : (skip l).takeWhile isSign = []
  · rw [if_pos h1] at h; cases h
  · have hs : skip l ≠ [] := fun e => h1 (by rw [e]; rfl)
    rw [skip_behind hs, takeWhile_behind]
    rw [if_neg h1] at h ⊢
    by_cases h2 : f ((skip l).takeWhile isSign) = true
    · rw [if_pos h2] at h ⊢
      cases h
      have : ((skip l).takeWhile isSign).length ≤ (skip l).length := (List.takeWhile_prefix _).length_le
      rw [List.drop_append_of_le_length this]
    · rw [if_neg h2] at h; cases h

/-- What is read with something behind it is read with a line feed behind that. -/
def Local {α : Type} (P : Bs → Res α) : Prop := ∀ l a r t, P l = .ok a r → r ≠ [] → P (l ++ 10 :: t) = .ok a (r ++ 10 :: t)
/-- Of nothing nothing remains. -/
def Ends {α : Type} (P : Bs → Res α) : Prop := ∀ a r, P [] = .ok a r → r = []

theorem term_behind {l r : Bs} {a : TermD} (t : Bs) (h : term l = .ok a r) : term (l ++ 10 :: t) = .ok a (r ++ 10 :: t) := by
  obtain ⟨w, r', h1, h2⟩ := Res.next_ok h
  cases h2
  unfold term
  rw [word_behind t h1]; rfl

theorem word_nil {f : Bs → Bool} {a r : Bs} : word f [] ≠ .ok a r := by
  intro h
  have : word f [] = .bad 2 [] := by simp [word, skip, skipM_nil]
  rw [this] at h; cases h

theorem listGo_ends {α : Type} (P : Bs → Res α) (n : Nat) (out : List α) : Ends (listGo P n out) := by
  intro a r h
  unfold listGo at h
  rw [took_nil (by simp)] at h
  simp at h
  exact h.2

theorem listGo_local {α : Type} {P : Bs → Res α} (hP : Local P) : ∀ n out, Local (listGo P n out) := by
  intro n
  induction n with
  | zero =>
    intro out l a r t h hr
    unfold listGo at h ⊢
    by_cases h1 : (took [44] l).1 = true
    · rw [if_pos h1] at h; cases h
    · rw [if_neg h1] at h
      have e := took_rest (by simpa using h1 : (took [44] l).1 = false)
      cases h
      rw [e] at hr ⊢
      rw [took_behind t (by decide) hr, if_neg h1, e]
  | succ n ih =>
    intro out l a r t h hr
    unfold listGo at h ⊢
    by_cases h1 : (took [44] l).1 = true
    · rw [if_pos h1] at h
      obtain ⟨b, r', h2, h3⟩ := Res.next_ok h
      rw [took_behind t (by decide) (took_true (by simp) h1), if_pos h1]
      have hr' : r' ≠ [] := fun e => hr (listGo_ends P n _ a r (by rw [← e]; exact h3))
      have := hP _ _ _ t h2 hr'
      simp only [this, Res.next]
      exact ih _ _ _ _ t h3 hr
    · rw [if_neg h1] at h
      have e := took_rest (by simpa using h1 : (took [44] l).1 = false)
      cases h
      rw [e] at hr ⊢
      rw [took_behind t (by decide) hr, if_neg h1, e]

theorem listP_local {α : Type} {P : Bs → Res α} (hP : Local P) (n : Nat) : Local (listP P n) := by
  intro l a r t h hr
  obtain ⟨b, r', h1, h2⟩ := Res.next_ok h
  have hr' : r' ≠ [] := fun e => hr (listGo_ends P _ _ a r (by rw [← e]; exact h2))
  unfold listP
  rw [hP _ _ _ t h1 hr']
  exact listGo_local hP _ _ _ _ _ t h2 hr

theorem term_local : Local term := fun _ _ _ t h _ => term_behind t h

theorem mustTake_ok {α : Type} {g l r : Bs} {a b : α} (h : mustTake g a l = .ok b r) : (took g l).1 = true ∧ b = a ∧ r = (took g l).2 := by
  unfold mustTake at h
  split at h
  · cases h; exact ⟨by assumption, rfl, rfl⟩
  · cases h

theorem mustTake_behind {α : Type} {g l r : Bs} {a b : α} (t : Bs) (hg : 10 ∉ g) (h0 : g ≠ []) (h : mustTake g a l = .ok b r) : mustTake g a (l ++ 10 :: t) = .ok b (r ++ 10 :: t) := by
  obtain ⟨h1, rfl, rfl⟩ := mustTake_ok h
  unfold mustTake
  rw [took_behind t hg (took_true h0 h1), if_pos h1]

theorem mustTake_ne {α : Type} {g l r : Bs} {a b : α} (h0 : g ≠ []) (h : mustTake g a l = .ok b r) : l ≠ [] :=
  skip_ne_of (took_true h0 (mustTake_ok h).1)

theorem atom_local : Local atom := by
  intro l a r t h hr
  obtain ⟨w, r1, h1, h2⟩ := Res.next_ok h
  unfold atom
  rw [word_behind t h1]
  simp only [Res.next]
  by_cases h3 : (took [40] r1).1 = true
  · rw [if_pos h3] at h2
    obtain ⟨ts, r2, h4, h5⟩ := Res.next_ok h2
    rw [took_behind t (by decide) (took_true (by simp) h3), if_pos h3]
    simp only
    rw [listP_local term_local 4 _ _ _ t h4 (mustTake_ne (by simp) h5)]
    exact mustTake_behind t (by decide) (by simp) h5
  · rw [if_neg h3] at h2
    cases h2
    have e := took_rest (by simpa using h3 : (took [40] r1).1 = false)
    rw [e] at hr
    rw [took_behind t (by decide) hr, if_neg h3]

theorem bodyAtom_local : Local bodyAtom := by
  intro l a r t h hr
  obtain ⟨b, r1, h1, h2⟩ := Res.next_ok h
  have hs : skip l ≠ [] := by
    intro e
    have h3 : (took [33] l).1 = false := by
      cases h3 : (took [33] l).1 with
      | false => rfl
      | true => exact absurd e (took_true (by simp) h3)
    rw [took_rest h3, e] at h1
    obtain ⟨w, r', h4, _⟩ := Res.next_ok h1
    exact word_nil h4
  cases h2
  unfold bodyAtom
  rw [took_behind t (by decide) hs]
  simp only
  rw [atom_local _ _ _ t h1 hr]
  rfl

theorem body_local : Local body := listP_local bodyAtom_local 5

theorem rule_behind {l r : Bs} {a : RuleD} (t : Bs) (h : rule l = .ok a r) : rule (l ++ 10 :: t) = .ok a (r ++ 10 :: t) := by
  obtain ⟨hd, r1, h1, h2⟩ := Res.next_ok h
  have hr1 : r1 ≠ [] := by
    intro e
    subst e
    rw [took_nil (by simp), if_neg (by simp)] at h2
    exact mustTake_ne (by simp) h2 rfl
  unfold rule
  rw [atom_local _ _ _ t h1 hr1]
  simp only [Res.next]
  by_cases h3 : (took [58, 45] r1).1 = true
  · rw [if_pos h3] at h2
    obtain ⟨b, r2, h4, h5⟩ := Res.next_ok h2
    rw [took_behind t (by decide) (took_true (by simp) h3), if_pos h3]
    simp only
    rw [body_local _ _ _ t h4 (mustTake_ne (by simp) h5)]
    exact mustTake_behind t (by decide) (by simp) h5
  · rw [if_neg h3] at h2
    have e := took_rest (by simpa using h3 : (took [58, 45] r1).1 = false)
    have hs : skip r1 ≠ [] := by rw [← e]; exact mustTake_ne (by simp) h2
    rw [took_behind t (by decide) hs, if_neg h3]
    exact mustTake_behind t (by decide) (by simp) h2

theorem rulesGo_skip (n : Nat) (out : List RuleD) {l l' : Bs} (h : skip l = skip l') : rulesGo n out l = rulesGo n out l' := by
  unfold rulesGo; rw [h]

theorem rulesGo_end (n : Nat) (out : List RuleD) {l : Bs} (h : skip l = []) : rulesGo n out l = .ok out [] := by
  unfold rulesGo; exact if_pos h

theorem rulesGo_behind (t : Bs) : ∀ n out l p r, rulesGo n out l = .ok p r → ∃ q, p = out ++ q ∧ r = [] ∧ q.length ≤ n ∧
    ∀ m out', q.length ≤ m → rulesGo m out' (l ++ 10 :: t) = rulesGo (m - q.length) (out' ++ q) t := by
  intro n
  induction n with
  | zero =>
    intro out l p r h
    unfold rulesGo at h
    split at h
    · rename_i he
      cases h
      refine ⟨[], by simp, rfl, Nat.le_refl _, fun m out' _ => ?_⟩
      rw [List.append_nil]
      exact rulesGo_skip _ _ (by rw [skip, skip_append, if_pos he])
    · cases h
  | succ n ih =>
    intro out l p r h
    unfold rulesGo at h
    split at h
    · rename_i he
      cases h
      refine ⟨[], by simp, rfl, Nat.zero_le _, fun m out' _ => ?_⟩
      rw [List.append_nil]
      exact rulesGo_skip _ _ (by rw [skip, skip_append, if_pos he])
    · rename_i he
      obtain ⟨a, r1, h1, h2⟩ := Res.next_ok h
      obtain ⟨q, rfl, rfl, hq, hm⟩ := ih _ _ _ _ h2
      refine ⟨a :: q, by simp, rfl, by simp; omega, fun m out' hle => ?_⟩
      obtain ⟨m', rfl⟩ : ∃ m', m = m' + 1 := ⟨m - 1, by simp at hle; omega⟩
      have := hm m' (out' ++ [a]) (by simp at hle; omega)
      rw [rulesGo, if_neg (by rw [skip_behind he]; simp), skip_behind he]
      simp only [rule_behind t h1, Res.next, this]
      simp [Nat.add_sub_add_right]

theorem rulesGo_fuel : ∀ n out l p r, rulesGo n out l = .ok p r → ∃ q, p = out ++ q ∧ r = [] ∧ q.length ≤ n ∧ ∀ m out', q.length ≤ m → rulesGo m out' l = .ok (out' ++ q) [] := by
  intro n
  induction n with
  | zero =>
    intro out l p r h
    unfold rulesGo at h
    split at h
    · rename_i he
      cases h
      exact ⟨[], by simp, rfl, Nat.le_refl _, fun m out' _ => by rw [rulesGo_end _ _ he, List.append_nil]⟩
    · cases h
  | succ n ih =>
    intro out l p r h
    unfold rulesGo at h
    split at h
    · rename_i he
      cases h
      exact ⟨[], by simp, rfl, Nat.zero_le _, fun m out' _ => by rw [rulesGo_end _ _ he, List.append_nil]⟩
    · rename_i he
      obtain ⟨a, r1, h1, h2⟩ := Res.next_ok h
      obtain ⟨q, rfl, rfl, hq, hm⟩ := ih _ _ _ _ h2
      refine ⟨a :: q, by simp, rfl, by simp; omega, fun m out' hle => ?_⟩
      obtain ⟨m', rfl⟩ : ∃ m', m = m' + 1 := ⟨m - 1, by simp at hle; omega⟩
      have := hm m' (out' ++ [a]) (by simp at hle; omega)
      rw [rulesGo, if_neg he]
      simp only [h1, Res.next, this]
      simp

/-- One behind the other. -/
theorem joined {s t : Bs} {p q : List RuleD} {r r' : Bs} (hs : rulesGo 16 [] s = .ok p r) (ht : rulesGo 16 [] t = .ok q r') (hl : p.length + q.length ≤ 16) : rulesGo 16 [] (s ++ 10 :: t) = .ok (p ++ q) [] := by
  obtain ⟨p', rfl, _, _, hp⟩ := rulesGo_behind t _ _ _ _ _ hs
  obtain ⟨q', rfl, _, _, hq⟩ := rulesGo_fuel _ _ _ _ _ ht
  rw [hp 16 [] (by omega), List.nil_append]
  exact hq _ _ (by omega)

end Go.Proofs.YtalggolacdlnnaaGreatDoor

/- What is wrong with programs, and their strata: the document's answer, on plain data. Nothing of the program. -/
namespace Go.Proofs.YtalggolacdlnnaaGreatDoor

/-- One more, if it is not there. -/
def addNew (l : List Bs) (s : Bs) : List Bs := if l.contains s then l else l ++ [s]
def varsGo (l : List Bs) (ts : List TermD) : List Bs := ts.foldl (fun l t => if t.1 then addNew l t.2 else l) l
/-- An atom's variables. -/
def vars (a : AtomD) : List Bs := varsGo [] a.terms
def wrongTerm (t : TermD) : Bool := if t.1 then !isVar t.2 else !isNamed t.2
def wrongAtom (a : AtomD) : Int := if isNamed a.name = false then 7 else if 4 < a.terms.length then 5 else if a.terms.any wrongTerm then 7 else 0
/-- What atoms that are so give. -/
def givenBy (l : List AtomD) (s : Bs) : Bool := l.any fun a => !a.no && (vars a).contains s
def wrongAtoms : List AtomD → Int
  | [] => 0
  | a :: l => if wrongAtom a = 0 then wrongAtoms l else wrongAtom a
def wrongBody (l : List AtomD) : Int := if 5 < l.length then 5 else if wrongAtoms l = 0 then (if l.all (fun a => (vars a).all (givenBy l)) then 0 else 9) else wrongAtoms l

/-- A name's number, where it has one. -/
abbrev Nums := Bs → Option Nat
def Nums.put (m : Nums) (s : Bs) (n : Nat) : Nums := fun t => if t = s then some n else m t
def fitOne (m : Nums) (a : AtomD) : Bool × Nums := match m a.name with
  | none => (true, m.put a.name a.terms.length)
  | some n => (decide (n = a.terms.length), m)
def fitAll : Nums → List AtomD → Bool × Nums
  | m, [] => (true, m)
  | m, a :: l => if (fitOne m a).1 then fitAll (fitOne m a).2 l else (false, (fitOne m a).2)
/-- What is wrong with a rule, behind others. -/
def wrongRule (m : Nums) (r : RuleD) : Int × Nums :=
  if wrongAtom r.head = 0 then
    if r.head.no then (2, m) else
    if wrongBody r.body = 0 then
      if (vars r.head).all (givenBy r.body) then
        if (fitOne m r.head).1 then (if (fitAll (fitOne m r.head).2 r.body).1 then 0 else 8, (fitAll (fitOne m r.head).2 r.body).2) else (8, (fitOne m r.head).2)
      else (9, m)
    else (wrongBody r.body, m)
  else (wrongAtom r.head, m)
def wrongGo : Nums → Nat → List RuleD → Int × Nat
  | _, _, [] => (0, 0)
  | m, i, r :: l => if (wrongRule m r).1 = 0 then wrongGo (wrongRule m r).2 (i + 1) l else ((wrongRule m r).1, i)
/-- What is wrong with a program, and at which rule. -/
def wrongP (p : List RuleD) : Int × Nat := if 16 < p.length then (5, 0) else wrongGo (fun _ => none) 0 p

/-- The least that a head may have in whose body an atom stands. -/
def behind (m : Nums) (a : AtomD) : Nat := match m a.name with
  | none => 0
  | some n => if a.no then n + 1 else n
def numOf (m : Nums) (s : Bs) : Nat := (m s).getD 0
def liftAtom (h : Bs) (x : Nums × Bool) (a : AtomD) : Nums × Bool := if numOf x.1 h < behind x.1 a then (x.1.put h (behind x.1 a), true) else x
def liftRule (x : Nums × Bool) (r : RuleD) : Nums × Bool := r.body.foldl (liftAtom r.head.name) x
def liftAll (x : Nums × Bool) (p : List RuleD) : Nums × Bool := p.foldl liftRule x
def startGo (m : Nums) (p : List RuleD) : Nums := p.foldl (fun m r => m.put r.head.name 0) m
def start (p : List RuleD) : Nums := startGo (fun _ => none) p
def strataGo (p : List RuleD) : Nat → Nums → Option Nums
  | 0, _ => none
  | n + 1, m => if (liftAll (m, false) p).2 then strataGo p n (liftAll (m, false) p).1 else some (liftAll (m, false) p).1
def each (m : Nums) (p : List RuleD) : List Nat := p.map fun r => numOf m r.head.name
/-- A program's strata, and what is wrong. -/
def strataP (p : List RuleD) : List Nat × Int × Nat :=
  if (wrongP p).1 = 0 then match strataGo p (p.length + 1) (start p) with
    | some m => (each m p, 0, 0)
    | none => ([], 10, 0)
  else ([], wrongP p)

/-! ### what is wrong with less is wrong with more -/
theorem wrongGo_append (l q : List RuleD) : ∀ (m : Nums) (i : Nat), (wrongGo m i (l ++ q)).1 = 0 → (wrongGo m i l).1 = 0 := by
  induction l with
  | nil => intro m i _; rfl
  | cons r l ih =>
    intro m i h
    rw [List.cons_append] at h
    unfold wrongGo at h ⊢
    split
    · rename_i h0; rw [if_pos h0] at h; exact ih _ _ h
    · rename_i h0; rw [if_neg h0] at h; exact h

theorem wrongP_take {p : List RuleD} (h : (wrongP p).1 = 0) (n : Nat) : (wrongP (p.take n)).1 = 0 := by
  unfold wrongP at h ⊢
  split at h
  · simp at h
  · rw [if_neg (by rw [List.length_take]; omega)]
    rw [← List.take_append_drop n p] at h
    exact wrongGo_append _ _ _ _ h

theorem wrongGo_at (l : List RuleD) : ∀ (m : Nums) (i : Nat), (wrongGo m i l).1 = 0 → (wrongGo m i l).2 = 0 := by
  induction l with
  | nil => intro m i _; rfl
  | cons r l ih =>
    intro m i h
    unfold wrongGo at h ⊢
    split
    · rename_i h0; rw [if_pos h0] at h; exact ih _ _ h
    · rename_i h0; rw [if_neg h0] at h; exact absurd h h0

/-! ### numbers that hold -/
def isHead (p : List RuleD) (s : Bs) : Prop := ∃ r ∈ p, r.head.name = s
def step (a : AtomD) : Nat := if a.no then 1 else 0
/-- With these numbers all is as it must be. -/
def Sol (p : List RuleD) (σ : Bs → Nat) : Prop := ∀ r ∈ p, ∀ a ∈ r.body, isHead p a.name → σ a.name + step a ≤ σ r.head.name

/-- Just heads have numbers. -/
def Doms (p : List RuleD) (m : Nums) : Prop := ∀ s, (m s).isSome ↔ isHead p s
/-- No number is greater than what holds. -/
def Least (p : List RuleD) (m : Nums) : Prop := ∀ σ, Sol p σ → ∀ s, numOf m s ≤ σ s

theorem behind_eq {p : List RuleD} {m : Nums} (hd : Doms p m) (a : AtomD) (h : isHead p a.name) : behind m a = numOf m a.name + step a := by
  unfold behind numOf step
  have := (hd a.name).2 h
  obtain ⟨n, hn⟩ := Option.isSome_iff_exists.1 this
  rw [hn]
  cases a.no <;> simp
theorem behind_none {p : List RuleD} {m : Nums} (hd : Doms p m) (a : AtomD) (h : ¬ isHead p a.name) : behind m a = 0 := by
  unfold behind
  have : m a.name = none := by
    cases e : m a.name with
    | none => rfl
    | some n => exact absurd ((hd a.name).1 (by rw [e]; rfl)) h
  rw [this]

theorem numOf_put (m : Nums) (s t : Bs) (n : Nat) : numOf (m.put s n) t = if t = s then n else numOf m t := by
  unfold numOf Nums.put
  by_cases h : t = s <;> simp [h]

theorem Doms.put {p : List RuleD} {m : Nums} (hd : Doms p m) {s : Bs} (hs : isHead p s) (n : Nat) : Doms p (m.put s n) := by
  intro t
  unfold Nums.put
  by_cases h : t = s
  · subst h; simp [hs]
  · rw [if_neg h]; exact hd t

/-- What lifting keeps. -/
theorem liftAtom_kept {p : List RuleD} {r : RuleD} (hr : r ∈ p) {x : Nums × Bool} (hd : Doms p x.1) (hl : Least p x.1) {a : AtomD} (ha : a ∈ r.body) :
    Doms p (liftAtom r.head.name x a).1 ∧ Least p (liftAtom r.head.name x a).1 ∧ ∀ s, numOf x.1 s ≤ numOf (liftAtom r.head.name x a).1 s := by
  unfold liftAtom
  split
  · rename_i hlt
    refine ⟨hd.put ⟨r, hr, rfl⟩ _, fun σ hσ s => ?_, fun s => ?_⟩
    · show numOf (x.1.put _ _) s ≤ _
      rw [numOf_put]
      split
      · rename_i h
        subst h
        by_cases hh : isHead p a.name
        · rw [behind_eq hd a hh]
          have h1 := hσ r hr a ha hh
          have h2 := hl σ hσ a.name
          omega
        · rw [behind_none hd a hh]; omega
      · exact hl σ hσ s
    · show _ ≤ numOf (x.1.put _ _) s
      rw [numOf_put]
      split
      · rename_i h; subst h; omega
      · exact Nat.le_refl _
  · exact ⟨hd, hl, fun _ => Nat.le_refl _⟩

theorem liftRule_kept {p : List RuleD} {r : RuleD} (hr : r ∈ p) (l : List AtomD) : ∀ {x : Nums × Bool}, Doms p x.1 → Least p x.1 → (∀ a ∈ l, a ∈ r.body) →
    Doms p (l.foldl (liftAtom r.head.name) x).1 ∧ Least p (l.foldl (liftAtom r.head.name) x).1 ∧ ∀ s, numOf x.1 s ≤ numOf (l.foldl (liftAtom r.head.name) x).1 s := by
  induction l with
  | nil => intro x hd hl _; exact ⟨hd, hl, fun _ => Nat.le_refl _⟩
  | cons a l ih =>
    intro x hd hl ha
    obtain ⟨d1, l1, u1⟩ := liftAtom_kept hr hd hl (ha a (by simp))
    obtain ⟨d2, l2, u2⟩ := ih d1 l1 (fun b hb => ha b (by simp [hb]))
    exact ⟨d2, l2, fun s => Nat.le_trans (u1 s) (u2 s)⟩

theorem liftAll_kept {p : List RuleD} (l : List RuleD) : ∀ {x : Nums × Bool}, Doms p x.1 → Least p x.1 → (∀ r ∈ l, r ∈ p) →
    Doms p (liftAll x l).1 ∧ Least p (liftAll x l).1 ∧ ∀ s, numOf x.1 s ≤ numOf (liftAll x l).1 s := by
  induction l with
  | nil => intro x hd hl _; exact ⟨hd, hl, fun _ => Nat.le_refl _⟩
  | cons r l ih =>
    intro x hd hl hr
    obtain ⟨d1, l1, u1⟩ := liftRule_kept (hr r (by simp)) r.body hd hl (fun a h => h)
    obtain ⟨d2, l2, u2⟩ := ih d1 l1 (fun b hb => hr b (by simp [hb]))
    exact ⟨d2, l2, fun s => Nat.le_trans (u1 s) (u2 s)⟩

/-- What was lifted stays so. -/
theorem liftAtom_true (h : Bs) (x : Nums × Bool) (a : AtomD) (hx : x.2 = true) : (liftAtom h x a).2 = true := by unfold liftAtom; split <;> simp [hx]
theorem foldAtom_true (h : Bs) (l : List AtomD) : ∀ x : Nums × Bool, x.2 = true → (l.foldl (liftAtom h) x).2 = true := by
  induction l with
  | nil => intro x hx; exact hx
  | cons a l ih => intro x hx; exact ih _ (liftAtom_true h x a hx)
theorem liftAll_true (l : List RuleD) : ∀ x : Nums × Bool, x.2 = true → (liftAll x l).2 = true := by
  induction l with
  | nil => intro x hx; exact hx
  | cons r l ih => intro x hx; exact ih _ (foldAtom_true _ _ x hx)

/-- Where nothing is lifted, all is as it must be. -/
theorem foldAtom_rest (h : Bs) (l : List AtomD) : ∀ m : Nums, (l.foldl (liftAtom h) (m, false)).2 = false → l.foldl (liftAtom h) (m, false) = (m, false) ∧ ∀ a ∈ l, behind m a ≤ numOf m h := by
  induction l with
  | nil => intro m _; exact ⟨rfl, by simp⟩
  | cons a l ih =>
    intro m hm
    rw [List.foldl_cons] at hm ⊢
    by_cases hlt : numOf m h < behind m a
    · have : (liftAtom h (m, false) a).2 = true := by unfold liftAtom; rw [if_pos hlt]
      rw [foldAtom_true h l _ this] at hm; cases hm
    · have e : liftAtom h (m, false) a = (m, false) := by unfold liftAtom; rw [if_neg hlt]
      rw [e] at hm ⊢
      obtain ⟨h1, h2⟩ := ih m hm
      refine ⟨h1, fun b hb => ?_⟩
      rcases List.mem_cons.1 hb with rfl | hb
      · omega
      · exact h2 b hb
theorem liftAll_rest (l : List RuleD) : ∀ m : Nums, (liftAll (m, false) l).2 = false → liftAll (m, false) l = (m, false) ∧ ∀ r ∈ l, ∀ a ∈ r.body, behind m a ≤ numOf m r.head.name := by
  induction l with
  | nil => intro m _; exact ⟨rfl, by simp⟩
  | cons r l ih =>
    intro m hm
    unfold liftAll at hm ⊢
    rw [List.foldl_cons] at hm ⊢
    have h0 : (liftRule (m, false) r).2 = false := by
      cases hc : (liftRule (m, false) r).2 with
      | false => rfl
      | true => have := liftAll_true l _ hc; unfold liftAll at this; rw [this] at hm; cases hm
    obtain ⟨e, h1⟩ := foldAtom_rest _ _ m h0
    have e' : liftRule (m, false) r = (m, false) := e
    rw [e'] at hm ⊢
    obtain ⟨h2, h3⟩ := ih m hm
    refine ⟨h2, fun q hq => ?_⟩
    rcases List.mem_cons.1 hq with rfl | hq
    · exact h1
    · exact h3 q hq

/-- Where all is as it must be, nothing is lifted. -/
theorem liftAll_still (l : List RuleD) (m : Nums) (h : ∀ r ∈ l, ∀ a ∈ r.body, behind m a ≤ numOf m r.head.name) : ∀ b, liftAll (m, b) l = (m, b) := by
  induction l with
  | nil => intro b; rfl
  | cons r l ih =>
    intro b
    have hr : liftRule (m, b) r = (m, b) := by
      have : ∀ q : List AtomD, (∀ a ∈ q, behind m a ≤ numOf m r.head.name) → q.foldl (liftAtom r.head.name) (m, b) = (m, b) := by
        intro q
        induction q with
        | nil => intro _; rfl
        | cons a q iq =>
          intro hq
          rw [List.foldl_cons]
          have : liftAtom r.head.name (m, b) a = (m, b) := by unfold liftAtom; rw [if_neg (by have := hq a (by simp); show ¬ numOf m _ < behind m a; omega)]
          rw [this]; exact iq fun c hc => hq c (by simp [hc])
      exact this r.body (h r (by simp))
    show liftAll (liftRule (m, b) r) l = (m, b)
    rw [hr]; exact ih (fun q hq => h q (by simp [hq])) b

/-! ### at the beginning -/
theorem startGo_dom (l : List RuleD) : ∀ (m : Nums) (s : Bs), (startGo m l s).isSome ↔ ((m s).isSome ∨ isHead l s) := by
  induction l with
  | nil => intro m s; simp [startGo, isHead]
  | cons r l ih =>
    intro m s
    show (startGo (m.put r.head.name 0) l s).isSome ↔ _
    rw [ih]
    unfold Nums.put isHead
    by_cases h : s = r.head.name
    · subst h; simp
    · have h' : ¬ r.head.name = s := fun e => h e.symm
      simp [h, h']
theorem startGo_zero (l : List RuleD) : ∀ (m : Nums), (∀ s, numOf m s = 0) → ∀ s, numOf (startGo m l) s = 0 := by
  induction l with
  | nil => intro m h; exact h
  | cons r l ih =>
    intro m h
    exact ih _ fun s => by rw [numOf_put]; split <;> simp [h]
theorem start_dom (p : List RuleD) : Doms p (start p) := fun s => by unfold start; rw [startGo_dom]; simp
theorem start_zero (p : List RuleD) (s : Bs) : numOf (start p) s = 0 := startGo_zero p _ (fun _ => rfl) s
theorem start_least (p : List RuleD) : Least p (start p) := fun σ _ s => by rw [start_zero]; exact Nat.zero_le _

/-- What strataGo tells holds, and is the least. -/
theorem strataGo_some {p : List RuleD} : ∀ (n : Nat) (m m' : Nums), Doms p m → Least p m → strataGo p n m = some m' → Doms p m' ∧ Least p m' ∧ ∀ r ∈ p, ∀ a ∈ r.body, behind m' a ≤ numOf m' r.head.name := by
  intro n
  induction n with
  | zero => intro m m' _ _ h; cases h
  | succ n ih =>
    intro m m' hd hl h
    unfold strataGo at h
    split at h
    · obtain ⟨d1, l1, _⟩ := liftAll_kept p hd hl (x := (m, false)) (fun _ h => h)
      exact ih _ _ d1 l1 h
    · rename_i hf
      obtain ⟨e, h1⟩ := liftAll_rest p m (by simpa using hf)
      rw [e] at h
      cases h
      exact ⟨hd, hl, h1⟩

theorem sol_of {p : List RuleD} {m : Nums} (hd : Doms p m) (h : ∀ r ∈ p, ∀ a ∈ r.body, behind m a ≤ numOf m r.head.name) : Sol p (numOf m) := fun r hr a ha hh => by
  rw [← behind_eq hd a hh]; exact h r hr a ha

/-- What a program's strata are: numbers that hold, the least. -/
theorem strataP_ok {p : List RuleD} {l : List Nat} {k : Nat} (h : strataP p = (l, 0, k)) : (wrongP p).1 = 0 ∧ ∃ m, l = each m p ∧ Doms p m ∧ Least p m ∧ Sol p (numOf m) := by
  unfold strataP at h
  split at h
  · rename_i h0
    split at h
    · rename_i m hm
      obtain ⟨d, le, s⟩ := strataGo_some _ _ _ (start_dom p) (start_least p) hm
      simp at h
      exact ⟨h0, m, h.1.symm, d, le, sol_of d s⟩
    · simp at h
  · rename_i h0
    rw [Prod.mk.injEq] at h
    exact absurd (congrArg Prod.fst h.2) h0

theorem strataP_bad {p : List RuleD} {l : List Nat} {e : Int} {k : Nat} (h : strataP p = (l, e, k)) (he : e ≠ 0) : l = [] := by
  unfold strataP at h
  split at h
  · split at h
    · simp at h; exact absurd h.2.1.symm he
    · simp at h; exact h.1
  · simp at h; exact h.1

/-! ### no stratum is left out -/
theorem no_gap {p : List RuleD} {m : Nums} (hl : Least p m) (hs : Sol p (numOf m)) (k : Nat) (hk : ∀ r ∈ p, numOf m r.head.name ≠ k) : ∀ r ∈ p, numOf m r.head.name < k := by
  intro r hr
  have hσ : Sol p (fun s => if numOf m s > k then numOf m s - 1 else numOf m s) := by
    intro q hq a ha hh
    have h1 := hs q hq a ha hh
    have h2 := hk q hq
    obtain ⟨q', hq', e'⟩ := hh
    have h3 := hk q' hq'
    rw [e'] at h3
    have h4 : step a ≤ 1 := by unfold step; split <;> omega
    show (if numOf m a.name > k then _ else _) + _ ≤ (if numOf m q.head.name > k then _ else _)
    split <;> split <;> omega
  have h1 : numOf m r.head.name ≤ (if numOf m r.head.name > k then numOf m r.head.name - 1 else numOf m r.head.name) := hl _ hσ r.head.name
  have h2 := hk r hr
  split at h1 <;> omega

/-! ### where there are numbers that hold they are found -/
/-- Of all numbers that hold, some whose sum is the least. -/
theorem least_sol {p : List RuleD} {σ : Bs → Nat} (h : Sol p σ) : ∃ τ, Sol p τ ∧ ∀ τ', Sol p τ' → (p.map fun r => τ r.head.name).sum ≤ (p.map fun r => τ' r.head.name).sum := by
  have : ∀ n σ, Sol p σ → (p.map fun r => σ r.head.name).sum = n → ∃ τ, Sol p τ ∧ ∀ τ', Sol p τ' → (p.map fun r => τ r.head.name).sum ≤ (p.map fun r => τ' r.head.name).sum := by
    intro n
    induction n using Nat.strongRecOn with
    | ind n ih =>
      intro σ hσ hn
      by_cases hx : ∃ τ', Sol p τ' ∧ (p.map fun r => τ' r.head.name).sum < n
      · obtain ⟨τ', h1, h2⟩ := hx
        exact ih _ h2 τ' h1 rfl
      · refine ⟨σ, hσ, fun τ' h' => ?_⟩
        rw [hn]
        exact Nat.le_of_not_lt fun hlt => hx ⟨τ', h', hlt⟩
  exact this _ σ h rfl

theorem sum_le {p : List RuleD} {f g : RuleD → Nat} (h : ∀ r ∈ p, f r ≤ g r) : (p.map f).sum ≤ (p.map g).sum := by
  induction p with
  | nil => simp
  | cons a p ih =>
    have := ih fun r hr => h r (by simp [hr])
    have := h a (by simp)
    simp; omega
theorem sum_lt {p : List RuleD} {f g : RuleD → Nat} (h : ∀ r ∈ p, f r ≤ g r) (hx : ∃ r ∈ p, f r < g r) : (p.map f).sum < (p.map g).sum := by
  induction p with
  | nil => obtain ⟨r, hr, _⟩ := hx; simp at hr
  | cons a p ih =>
    have h1 := sum_le fun r hr => h r (List.mem_cons_of_mem a hr)
    have h2 := h a (by simp)
    obtain ⟨r, hr, hlt⟩ := hx
    rcases List.mem_cons.1 hr with rfl | hr
    · simp; omega
    · have := ih (fun r hr => h r (by simp [hr])) ⟨r, hr, hlt⟩
      simp; omega

/-- Some head that is not where it must be hangs on what is. -/
theorem next_settled {p : List RuleD} {τ : Bs → Nat} (hτ : Sol p τ) (hmin : ∀ τ', Sol p τ' → (p.map fun r => τ r.head.name).sum ≤ (p.map fun r => τ' r.head.name).sum) {m : Nums} (hl : Least p m)
    (hu : ∃ r ∈ p, numOf m r.head.name ≠ τ r.head.name) : ∃ r ∈ p, ∃ a ∈ r.body, numOf m r.head.name ≠ τ r.head.name ∧ isHead p a.name ∧ numOf m a.name = τ a.name ∧ τ a.name + step a = τ r.head.name := by
  refine Classical.byContradiction fun hno => ?_
  have hle : ∀ s, numOf m s ≤ τ s := hl τ hτ
  have hσ : Sol p (fun s => if numOf m s = τ s then τ s else τ s - 1) := by
    intro r hr a ha hh
    have h1 := hτ r hr a ha hh
    have h2 := hle r.head.name
    have h3 := hle a.name
    show (if numOf m a.name = τ a.name then _ else _) + _ ≤ (if numOf m r.head.name = τ r.head.name then _ else _)
    by_cases e2 : numOf m r.head.name = τ r.head.name
    · rw [if_pos e2]; split <;> omega
    · rw [if_neg e2]
      by_cases e3 : numOf m a.name = τ a.name
      · rw [if_pos e3]
        have : ¬ τ a.name + step a = τ r.head.name := fun e => hno ⟨r, hr, a, ha, e2, hh, e3, e⟩
        omega
      · rw [if_neg e3]; omega
  obtain ⟨r, hr, hne⟩ := hu
  have := hmin _ hσ
  have hlt : (p.map fun r => (fun s => if numOf m s = τ s then τ s else τ s - 1) r.head.name).sum < (p.map fun r => τ r.head.name).sum := by
    refine sum_lt (fun q _ => ?_) ⟨r, hr, ?_⟩
    · show (if _ then _ else _) ≤ _
      split
      · exact Nat.le_refl _
      · exact Nat.sub_le _ _
    · show (if _ then _ else _) < _
      have := hle r.head.name
      rw [if_neg hne]; omega
  exact absurd hlt (Nat.not_lt.2 this)

/-- A round of lifting lifts a head at least to what its body's atoms ask of it as they were. -/
theorem foldAtom_lifts {p : List RuleD} {r : RuleD} (hr : r ∈ p) (l : List AtomD) : ∀ {x : Nums × Bool}, Doms p x.1 → Least p x.1 → (∀ a ∈ l, a ∈ r.body) → ∀ a ∈ l, isHead p a.name → numOf x.1 a.name + step a ≤ numOf (l.foldl (liftAtom r.head.name) x).1 r.head.name := by
  induction l with
  | nil => intro x _ _ _ a ha; simp at ha
  | cons b l ih =>
    intro x hd hl hb a ha hh
    obtain ⟨d1, l1, u1⟩ := liftAtom_kept hr hd hl (hb b (by simp))
    obtain ⟨d2, l2, u2⟩ := liftRule_kept hr l d1 l1 (fun c hc => hb c (by simp [hc]))
    rcases List.mem_cons.1 ha with rfl | ha
    · refine Nat.le_trans ?_ (u2 r.head.name)
      rw [← behind_eq hd a hh]
      unfold liftAtom
      split
      · show _ ≤ numOf (x.1.put _ _) _; rw [numOf_put, if_pos rfl]; exact Nat.le_refl _
      · omega
    · have := ih d1 l1 (fun c hc => hb c (by simp [hc])) a ha hh
      have h2 := u1 a.name
      exact Nat.le_trans (Nat.add_le_add_right h2 _) this
theorem liftAll_lifts {p : List RuleD} (l : List RuleD) : ∀ {x : Nums × Bool}, Doms p x.1 → Least p x.1 → (∀ r ∈ l, r ∈ p) → ∀ r ∈ l, ∀ a ∈ r.body, isHead p a.name → numOf x.1 a.name + step a ≤ numOf (liftAll x l).1 r.head.name := by
  induction l with
  | nil => intro x _ _ _ r hr; simp at hr
  | cons q l ih =>
    intro x hd hl hq r hr a ha hh
    obtain ⟨d1, l1, u1⟩ := liftRule_kept (hq q (by simp)) q.body hd hl (fun c hc => hc)
    obtain ⟨d2, l2, u2⟩ := liftAll_kept l d1 l1 (fun c hc => hq c (by simp [hc]))
    rcases List.mem_cons.1 hr with rfl | hr
    · exact Nat.le_trans (foldAtom_lifts (hq r (by simp)) r.body hd hl (fun c hc => hc) a ha hh) (u2 _)
    · exact Nat.le_trans (Nat.add_le_add_right (u1 a.name) _) (ih d1 l1 (fun c hc => hq c (by simp [hc])) r hr a ha hh)

/-- How many heads are where they must be. -/
def settled (p : List RuleD) (τ : Bs → Nat) (m : Nums) : Nat := (p.map fun r => if numOf m r.head.name = τ r.head.name then 1 else 0).sum

theorem settled_le (p : List RuleD) (τ : Bs → Nat) (m : Nums) : settled p τ m ≤ p.length := by
  unfold settled
  induction p with
  | nil => simp
  | cons r p ih => simp only [List.map_cons, List.sum_cons, List.length_cons]; split <;> omega
theorem settled_all {p : List RuleD} {τ : Bs → Nat} {m : Nums} (h : p.length ≤ settled p τ m) : ∀ r ∈ p, numOf m r.head.name = τ r.head.name := by
  induction p with
  | nil => intro r hr; simp at hr
  | cons q p ih =>
    have h1 := settled_le p τ m
    unfold settled at h h1 ih
    simp only [List.map_cons, List.sum_cons, List.length_cons] at h
    intro r hr
    split at h
    · rename_i hq
      rcases List.mem_cons.1 hr with rfl | hr
      · exact hq
      · exact ih (by omega) r hr
    · omega

theorem settled_grows {p : List RuleD} {τ : Bs → Nat} (hτ : Sol p τ) (hmin : ∀ τ', Sol p τ' → (p.map fun r => τ r.head.name).sum ≤ (p.map fun r => τ' r.head.name).sum) {m : Nums} (hd : Doms p m) (hl : Least p m)
    (hu : ∃ r ∈ p, numOf m r.head.name ≠ τ r.head.name) (b : Bool) : settled p τ m + 1 ≤ settled p τ (liftAll (m, b) p).1 := by
  obtain ⟨r, hr, a, ha, h1, h2, h3, h4⟩ := next_settled hτ hmin hl hu
  obtain ⟨d1, l1, u1⟩ := liftAll_kept p hd hl (x := (m, b)) (fun _ h => h)
  have h5 := liftAll_lifts p hd hl (x := (m, b)) (fun _ h => h) r hr a ha h2
  unfold settled
  refine Nat.succ_le_of_lt (sum_lt (fun q hq => ?_) ⟨r, hr, ?_⟩)
  · have e1 := u1 q.head.name
    have e2 := l1 τ hτ q.head.name
    have e3 : numOf (m, b).1 q.head.name = numOf m q.head.name := rfl
    split
    · rw [if_pos (by omega)]; exact Nat.le_refl _
    · split <;> omega
  · have e2 := l1 τ hτ r.head.name
    have e3 : numOf (m, b).1 a.name = numOf m a.name := rfl
    rw [if_neg h1, if_pos (by omega)]; omega

theorem strataGo_ends {p : List RuleD} {τ : Bs → Nat} (hτ : Sol p τ) (hmin : ∀ τ', Sol p τ' → (p.map fun r => τ r.head.name).sum ≤ (p.map fun r => τ' r.head.name).sum) :
    ∀ (n : Nat) (m : Nums), Doms p m → Least p m → p.length < n + settled p τ m → ∃ m', strataGo p n m = some m' := by
  intro n
  induction n with
  | zero => intro m _ _ h; have := settled_le p τ m; omega
  | succ n ih =>
    intro m hd hl hn
    unfold strataGo
    by_cases hu : ∃ r ∈ p, numOf m r.head.name ≠ τ r.head.name
    · have hg := settled_grows hτ hmin hd hl hu false
      obtain ⟨d1, l1, u1⟩ := liftAll_kept p hd hl (x := (m, false)) (fun _ h => h)
      split
      · exact ih _ d1 l1 (by omega)
      · exact ⟨_, rfl⟩
    · have hall : ∀ r ∈ p, numOf m r.head.name = τ r.head.name := fun r hr => Classical.byContradiction fun h => hu ⟨r, hr, h⟩
      have hst : liftAll (m, false) p = (m, false) := by
        refine liftAll_still p m (fun r hr a ha => ?_) false
        by_cases hh : isHead p a.name
        · rw [behind_eq hd a hh, hall r hr]
          obtain ⟨q, hq, e⟩ := hh
          have h1 := hτ r hr a ha ⟨q, hq, e⟩
          have h2 := hall q hq
          rw [e] at h2
          omega
        · rw [behind_none hd a hh]; exact Nat.zero_le _
      rw [hst]
      exact ⟨_, rfl⟩

/-- WHERE THERE ARE NUMBERS THAT HOLD, THERE ARE STRATA. -/
theorem strataP_of {p : List RuleD} (hw : (wrongP p).1 = 0) {σ : Bs → Nat} (h : Sol p σ) : ∃ l, strataP p = (l, 0, 0) := by
  obtain ⟨τ, hτ, hmin⟩ := least_sol h
  obtain ⟨m, hm⟩ := strataGo_ends hτ hmin (p.length + 1) (start p) (start_dom p) (start_least p) (by omega)
  exact ⟨each m p, by unfold strataP; rw [if_pos hw, hm]⟩

/-- A PART OF A PROGRAM THAT HAS STRATA HAS THEM, AND NONE LIES HIGHER. -/
theorem strataP_take {p : List RuleD} {l : List Nat} {k : Nat} (h : strataP p = (l, 0, k)) (n : Nat) : ∃ l', strataP (p.take n) = (l', 0, 0) ∧ l'.length = (p.take n).length ∧ ∀ (i a b : Nat), l'[i]? = some a → l[i]? = some b → a ≤ b := by
  obtain ⟨h0, m, rfl, hd, hl, hs⟩ := strataP_ok h
  have hsub : ∀ r ∈ p.take n, r ∈ p := fun r hr => List.mem_of_mem_take hr
  have hs' : Sol (p.take n) (numOf m) := fun r hr a ha ⟨q, hq, e⟩ => hs r (hsub r hr) a ha ⟨q, hsub q hq, e⟩
  obtain ⟨l', hl'⟩ := strataP_of (wrongP_take h0 n) hs'
  obtain ⟨_, m', rfl, _, hle, _⟩ := strataP_ok hl'
  refine ⟨_, hl', by simp [each], fun i a b ha hb => ?_⟩
  unfold each at ha hb
  rw [List.getElem?_map] at ha hb
  rw [List.getElem?_take] at ha
  split at ha
  · cases hp : p[i]? with
    | none => rw [hp] at ha; simp at ha
    | some r =>
      rw [hp] at ha hb
      simp at ha hb
      rw [← ha, ← hb]
      exact hle _ hs' _
  · simp at ha

/-- WHAT ASKS FOR NOTHING NOT TO BE SO HAS ONE STRATUM. -/
theorem strataP_plain {p : List RuleD} (hw : (wrongP p).1 = 0) (h : ∀ r ∈ p, ∀ a ∈ r.body, a.no = false) : strataP p = (p.map fun _ => 0, 0, 0) := by
  have hs : Sol p (fun _ => 0) := fun r hr a ha _ => by simp [step, h r hr a ha]
  obtain ⟨l, hl⟩ := strataP_of hw hs
  obtain ⟨_, m, rfl, _, hle, _⟩ := strataP_ok hl
  rw [hl]
  congr 1
  unfold each
  refine List.map_congr_left fun r _ => ?_
  have := hle _ hs r.head.name
  exact Nat.le_zero.1 this

end Go.Proofs.YtalggolacdlnnaaGreatDoor

/- What variables stand for: the document's answer of chapter 4, plain: lists of binds, an atom filled, met, a body's lists. Nothing of the program. -/
namespace Go.Proofs.YtalggolacdlnnaaGreatDoor

/-- A variable, and what it stands for. -/
abbrev BindD := ByteArray × ByteArray

def getB : List BindD → ByteArray → Option ByteArray
  | [], _ => none
  | b :: l, v => if b.1 = v then some b.2 else getB l v

def keysB (l : List BindD) : List ByteArray := l.map (·.1)

theorem getB_append (l m : List BindD) (v : ByteArray) : getB (l ++ m) v = match getB l v with | some s => some s | none => getB m v := by
  induction l with
  | nil => rfl
  | cons b l ih =>
    simp only [List.cons_append, getB]
    split
    · rfl
    · exact ih

theorem getB_none {l : List BindD} {v : ByteArray} : getB l v = none ↔ v ∉ keysB l := by
  induction l with
  | nil => simp [getB, keysB]
  | cons b l ih =>
    simp only [getB, keysB, List.map_cons, List.mem_cons, not_or]
    split
    · rename_i h; simp [h]
    · rename_i h
      rw [ih]
      exact ⟨fun h' => ⟨fun e => h e.symm, h'⟩, fun h' => h'.2⟩

theorem getB_mem {l : List BindD} {v s : ByteArray} (h : getB l v = some s) : (v, s) ∈ l := by
  induction l with
  | nil => cases h
  | cons b l ih =>
    simp only [getB] at h
    split at h
    · rename_i e
      cases h
      subst e
      exact List.mem_cons_self
    · exact List.mem_cons_of_mem _ (ih h)

theorem getB_of_mem {l : List BindD} (hn : (keysB l).Nodup) {v s : ByteArray} (h : (v, s) ∈ l) : getB l v = some s := by
  induction l with
  | nil => cases h
  | cons b l ih =>
    have hn' : b.1 ∉ keysB l ∧ (keysB l).Nodup := List.nodup_cons.1 hn
    rcases List.mem_cons.1 h with e | h
    · subst e; simp [getB]
    · have : b.1 ≠ v := fun e => hn'.1 (by rw [e]; exact List.mem_map.2 ⟨_, h, rfl⟩)
      simp only [getB, if_neg this]
      exact ih hn'.2 h

theorem getB_isSome {l : List BindD} {v : ByteArray} (h : v ∈ keysB l) : ∃ s, getB l v = some s := by
  cases e : getB l v with
  | none => exact absurd h (getB_none.1 e)
  | some s => exact ⟨s, rfl⟩

theorem getB_perm {l m : List BindD} (h : l.Perm m) (hn : (keysB l).Nodup) (v : ByteArray) : getB l v = getB m v := by
  have hm : (keysB m).Nodup := (h.map _).nodup_iff.1 hn
  cases e : getB l v with
  | none => exact (getB_none.2 fun hv => getB_none.1 e ((h.map _).mem_iff.2 hv)).symm
  | some s => exact (getB_of_mem hm (h.mem_iff.1 (getB_mem e))).symm

/-- What a term is, or stands for. -/
def worthB (l : List BindD) (t : TermD) : Option ByteArray := if t.1 then getB l (bs t.2) else some (bs t.2)

def fillArgs (l : List BindD) : List TermD → Option (List ByteArray)
  | [] => some []
  | t :: ts => match worthB l t with
    | none => none
    | some s => match fillArgs l ts with
      | none => none
      | some r => some (s :: r)

abbrev FactB := ByteArray × List ByteArray

def fillB (a : AtomD) (l : List BindD) : Option FactB := match fillArgs l a.terms with
  | none => none
  | some r => some (bs a.name, r)

/-- l, and what is put behind it, term by term. -/
def meetGo (l : List BindD) : List TermD → List ByteArray → Option (List BindD)
  | [], _ => some l
  | _ :: _, [] => none
  | t :: ts, x :: xs => match worthB l t with
    | none => meetGo (l ++ [(bs t.2, x)]) ts xs
    | some s => if s = x then meetGo l ts xs else none

def meetB (a : AtomD) (f : FactB) (l : List BindD) : Option (List BindD) :=
  if bs a.name = f.1 ∧ a.terms.length = f.2.length then meetGo l a.terms f.2 else none

/-- Each list that Meet tells, of each list so far, and each fact. -/
def meetAllB (a : AtomD) (fs : List FactB) (ls : List (List BindD)) : List (List BindD) := ls.flatMap fun l => fs.filterMap fun f => meetB a f l

def metGo (pick : Nat → List FactB) : Nat → List AtomD → List (List BindD) → Option (List (List BindD))
  | _, [], ls => some ls
  | n, a :: ats, ls => if a.no then metGo pick (n + 1) ats ls
    else if 20000 < (meetAllB a (pick n) ls).length then none
    else metGo pick (n + 1) ats (meetAllB a (pick n) ls)

def inB (l : List FactB) (f : FactB) : Bool := l.any fun x => decide (x = f)
theorem inB_iff {l : List FactB} {f : FactB} : inB l f = true ↔ f ∈ l := by
  unfold inB
  rw [List.any_eq_true]
  exact ⟨fun ⟨x, hx, e⟩ => by rw [decide_eq_true_eq] at e; rw [← e]; exact hx, fun h => ⟨f, h, by simp⟩⟩

/-- Something that must not be so is so. -/
def barredB (pick : Nat → List FactB) : Nat → List AtomD → List BindD → Bool
  | _, [], _ => false
  | n, a :: ats, l => (a.no && (match fillB a l with | some f => inB (pick n) f | none => false)) || barredB pick (n + 1) ats l

/-! Filled. -/

theorem worthB_append {l m : List BindD} {t : TermD} {s : ByteArray} (h : worthB l t = some s) : worthB (l ++ m) t = some s := by
  unfold worthB at *
  split
  · rename_i ht
    rw [if_pos ht] at h
    rw [getB_append, h]
  · rename_i ht
    rw [if_neg ht] at h
    exact h

theorem fillArgs_append {l m : List BindD} : ∀ {ts : List TermD} {r : List ByteArray}, fillArgs l ts = some r → fillArgs (l ++ m) ts = some r
  | [], r, h => h
  | t :: ts, r, h => by
    simp only [fillArgs] at h ⊢
    cases e : worthB l t with
    | none => rw [e] at h; cases h
    | some s =>
      rw [e] at h
      rw [worthB_append e]
      dsimp only at h ⊢
      cases e2 : fillArgs l ts with
      | none => rw [e2] at h; cases h
      | some q =>
        rw [e2] at h
        rw [fillArgs_append e2]
        exact h

theorem fillB_append {l m : List BindD} {a : AtomD} {f : FactB} (h : fillB a l = some f) : fillB a (l ++ m) = some f := by
  unfold fillB at *
  cases e : fillArgs l a.terms with
  | none => rw [e] at h; cases h
  | some r => rw [e] at h; rw [fillArgs_append e]; exact h

theorem fillArgs_congr {l m : List BindD} : ∀ {ts : List TermD}, (∀ t ∈ ts, t.1 = true → getB l (bs t.2) = getB m (bs t.2)) → fillArgs l ts = fillArgs m ts
  | [], _ => rfl
  | t :: ts, h => by
    have e1 : worthB l t = worthB m t := by
      unfold worthB
      split
      · rename_i ht; exact h t List.mem_cons_self ht
      · rfl
    simp only [fillArgs]
    rw [e1, fillArgs_congr (ts := ts) fun t ht => h t (List.mem_cons_of_mem _ ht)]

theorem fillB_congr {l m : List BindD} {a : AtomD} (h : ∀ t ∈ a.terms, t.1 = true → getB l (bs t.2) = getB m (bs t.2)) : fillB a l = fillB a m := by
  unfold fillB
  rw [fillArgs_congr h]

theorem fillB_perm {l m : List BindD} (h : l.Perm m) (hn : (keysB l).Nodup) (a : AtomD) : fillB a l = fillB a m := fillB_congr fun _ _ _ => getB_perm h hn _

theorem fillArgs_some {l : List BindD} : ∀ {ts : List TermD}, (∀ t ∈ ts, t.1 = true → bs t.2 ∈ keysB l) → ∃ r, fillArgs l ts = some r
  | [], _ => ⟨[], rfl⟩
  | t :: ts, h => by
    obtain ⟨r, hr⟩ := fillArgs_some (ts := ts) fun t ht => h t (List.mem_cons_of_mem _ ht)
    have : ∃ s, worthB l t = some s := by
      unfold worthB
      split
      · rename_i ht; exact getB_isSome (h t List.mem_cons_self ht)
      · exact ⟨_, rfl⟩
    obtain ⟨s, hs⟩ := this
    exact ⟨s :: r, by simp only [fillArgs, hs, hr]⟩

theorem fillB_some {l : List BindD} {a : AtomD} (h : ∀ t ∈ a.terms, t.1 = true → bs t.2 ∈ keysB l) : ∃ f, fillB a l = some f := by
  obtain ⟨r, hr⟩ := fillArgs_some h
  exact ⟨(bs a.name, r), by unfold fillB; rw [hr]⟩

theorem fillArgs_keys {l : List BindD} : ∀ {ts : List TermD} {r : List ByteArray}, fillArgs l ts = some r → ∀ t ∈ ts, t.1 = true → bs t.2 ∈ keysB l
  | [], _, _ => fun _ h => by cases h
  | t :: ts, r, h => fun u hu hut => by
    simp only [fillArgs] at h
    cases e : worthB l t with
    | none => rw [e] at h; cases h
    | some s =>
      rw [e] at h
      dsimp only at h
      cases e2 : fillArgs l ts with
      | none => rw [e2] at h; cases h
      | some q =>
        rcases List.mem_cons.1 hu with rfl | hu
        · unfold worthB at e
          rw [if_pos hut] at e
          exact Classical.byContradiction fun hk => by rw [getB_none.2 hk] at e; cases e
        · exact fillArgs_keys e2 u hu hut

theorem fillB_keys {l : List BindD} {a : AtomD} {f : FactB} (h : fillB a l = some f) : ∀ t ∈ a.terms, t.1 = true → bs t.2 ∈ keysB l := by
  unfold fillB at h
  cases e : fillArgs l a.terms with
  | none => rw [e] at h; cases h
  | some r => exact fillArgs_keys e

theorem fillArgs_len {l : List BindD} : ∀ {ts : List TermD} {r : List ByteArray}, fillArgs l ts = some r → r.length = ts.length
  | [], r, h => by cases h; rfl
  | t :: ts, r, h => by
    simp only [fillArgs] at h
    cases e : worthB l t with
    | none => rw [e] at h; cases h
    | some s =>
      rw [e] at h
      dsimp only at h
      cases e2 : fillArgs l ts with
      | none => rw [e2] at h; cases h
      | some q => rw [e2] at h; cases h; simp [fillArgs_len e2]

/-! Variables so far. -/

theorem addNew_pre (K : List Bs) (s : Bs) : ∃ r, addNew K s = K ++ r := by
  unfold addNew
  split
  · exact ⟨[], by simp⟩
  · exact ⟨[s], rfl⟩

theorem varsGo_cons (K : List Bs) (t : TermD) (ts : List TermD) : varsGo K (t :: ts) = varsGo (if t.1 then addNew K t.2 else K) ts := rfl

theorem varsGo_pre : ∀ (ts : List TermD) (K : List Bs), ∃ r, varsGo K ts = K ++ r
  | [], K => ⟨[], by simp [varsGo]⟩
  | t :: ts, K => by
    rw [varsGo_cons]
    split
    · obtain ⟨r1, h1⟩ := addNew_pre K t.2
      obtain ⟨r2, h2⟩ := varsGo_pre ts (addNew K t.2)
      exact ⟨r1 ++ r2, by rw [h2, h1, List.append_assoc]⟩
    · exact varsGo_pre ts K

theorem addNew_nodup {K : List Bs} (h : K.Nodup) (s : Bs) : (addNew K s).Nodup := by
  unfold addNew
  split
  · exact h
  · rename_i hc
    rw [List.nodup_append]
    refine ⟨h, by simp, fun a ha b hb => ?_⟩
    simp at hb
    subst hb
    intro e
    subst e
    simp at hc
    exact hc ha

theorem varsGo_nodup : ∀ (ts : List TermD) {K : List Bs}, K.Nodup → (varsGo K ts).Nodup
  | [], _, h => h
  | t :: ts, K, h => by
    rw [varsGo_cons]
    split
    · exact varsGo_nodup ts (addNew_nodup h _)
    · exact varsGo_nodup ts h

theorem mem_addNew {K : List Bs} {s v : Bs} : v ∈ addNew K s ↔ v ∈ K ∨ v = s := by
  unfold addNew
  split
  · rename_i h
    simp at h
    exact ⟨Or.inl, fun h' => h'.elim id fun e => by rw [e]; exact h⟩
  · simp

theorem mem_varsGo : ∀ (ts : List TermD) {K : List Bs} {v : Bs}, v ∈ varsGo K ts ↔ v ∈ K ∨ ∃ t ∈ ts, t.1 = true ∧ t.2 = v
  | [], K, v => by simp [varsGo]
  | t :: ts, K, v => by
    rw [varsGo_cons, mem_varsGo ts]
    cases ht : t.1
    · simp [ht]
    · simp only [if_true, mem_addNew, List.mem_cons, exists_eq_or_imp, ht, true_and]
      constructor
      · rintro ((h | h) | h)
        · exact Or.inl h
        · exact Or.inr (Or.inl h.symm)
        · exact Or.inr (Or.inr h)
      · rintro (h | h | h)
        · exact Or.inl (Or.inl h)
        · exact Or.inl (Or.inr h.symm)
        · exact Or.inr h

theorem map_bs_inj {a b : List Bs} (h : a.map bs = b.map bs) : a = b := by
  exact List.map_inj_right (fun _ _ => bs_inj) |>.1 h

theorem mem_map_bs {K : List Bs} {v : Bs} : bs v ∈ K.map bs ↔ v ∈ K := by
  constructor
  · intro h
    obtain ⟨x, hx, e⟩ := List.mem_map.1 h
    rw [← bs_inj e]; exact hx
  · exact fun h => List.mem_map.2 ⟨_, h, rfl⟩

theorem nodup_map_bs {K : List Bs} (h : K.Nodup) : (K.map bs).Nodup := by
  rw [List.Nodup, List.pairwise_map]
  exact h.imp fun hne e => hne (bs_inj e)

/-! Met. -/

theorem meetGo_ok : ∀ (ts : List TermD) (xs : List ByteArray) (l m : List BindD) (K : List Bs), ts.length = xs.length → keysB l = K.map bs → meetGo l ts xs = some m →
    (∃ r, m = l ++ r) ∧ keysB m = (varsGo K ts).map bs ∧ fillArgs m ts = some xs
  | [], [], l, m, K, _, hk, h => by
    cases h
    exact ⟨⟨[], by simp⟩, hk, rfl⟩
  | [], _ :: _, _, _, _, hl, _, _ => by simp at hl
  | _ :: _, [], _, _, _, hl, _, _ => by simp at hl
  | t :: ts, x :: xs, l, m, K, hl, hk, h => by
    have hl' : ts.length = xs.length := by simpa using hl
    simp only [meetGo] at h
    cases e : worthB l t with
    | none =>
      rw [e] at h
      dsimp only at h
      have ht : t.1 = true := by
        unfold worthB at e
        split at e
        · assumption
        · cases e
      have hg : getB l (bs t.2) = none := by unfold worthB at e; rwa [if_pos ht] at e
      have hnk : t.2 ∉ K := fun hm => getB_none.1 hg (by rw [hk]; exact mem_map_bs.2 hm)
      have ha : addNew K t.2 = K ++ [t.2] := by unfold addNew; rw [if_neg (by simpa using hnk)]
      obtain ⟨⟨r, hr⟩, h2, h3⟩ := meetGo_ok ts xs (l ++ [(bs t.2, x)]) m (K ++ [t.2]) hl' (by simp [keysB] at hk ⊢; exact hk) h
      refine ⟨⟨(bs t.2, x) :: r, by rw [hr]; simp⟩, by rw [varsGo_cons, if_pos ht, ha]; exact h2, ?_⟩
      simp only [fillArgs]
      have hw : worthB m t = some x := by
        rw [hr]
        refine worthB_append ?_
        unfold worthB
        rw [if_pos ht, getB_append, hg]
        simp [getB]
      rw [hw, h3]
    | some s =>
      rw [e] at h
      dsimp only at h
      split at h
      · rename_i hs
        subst hs
        have hK : (if t.1 = true then addNew K t.2 else K) = K := by
          split
          · rename_i ht
            unfold worthB at e
            rw [if_pos ht] at e
            unfold addNew
            rw [if_pos]
            have : bs t.2 ∈ keysB l := Classical.byContradiction fun hk => by rw [getB_none.2 hk] at e; cases e
            rw [hk] at this
            simpa using mem_map_bs.1 this
          · rfl
        obtain ⟨⟨r, hr⟩, h2, h3⟩ := meetGo_ok ts xs l m K hl' hk h
        refine ⟨⟨r, hr⟩, by rw [varsGo_cons, hK]; exact h2, ?_⟩
        simp only [fillArgs]
        rw [show worthB m t = some s by rw [hr]; exact worthB_append e, h3]
      · cases h

theorem meetGo_of : ∀ (ts : List TermD) (xs : List ByteArray) (l m r : List BindD) (K : List Bs), keysB l = K.map bs → m = l ++ r → keysB m = (varsGo K ts).map bs → fillArgs m ts = some xs → meetGo l ts xs = some m
  | [], xs, l, m, r, K, hk, hm, hv, _ => by
    have e : r = [] := by
      have h1 : (keysB m).length = (keysB l).length := by rw [hv, hk]; simp [varsGo]
      rw [hm] at h1
      simp [keysB] at h1
      exact h1
    rw [hm, e]
    simp [meetGo]
  | t :: ts, xs, l, m, r, K, hk, hm, hv, hf => by
    simp only [fillArgs] at hf
    cases e : worthB m t with
    | none => rw [e] at hf; cases hf
    | some s =>
      rw [e] at hf
      dsimp only at hf
      cases e2 : fillArgs m ts with
      | none => rw [e2] at hf; cases hf
      | some q =>
        rw [e2] at hf
        cases hf
        rw [varsGo_cons] at hv
        simp only [meetGo]
        cases e3 : worthB l t with
        | some s' =>
          have := worthB_append (m := r) e3
          rw [← hm, e] at this
          cases this
          dsimp only
          rw [if_pos rfl]
          have hK : (if t.1 = true then addNew K t.2 else K) = K := by
            split
            · rename_i ht
              unfold worthB at e3
              rw [if_pos ht] at e3
              unfold addNew
              rw [if_pos]
              have : bs t.2 ∈ keysB l := Classical.byContradiction fun hk => by rw [getB_none.2 hk] at e3; cases e3
              rw [hk] at this
              simpa using mem_map_bs.1 this
            · rfl
          rw [hK] at hv
          exact meetGo_of ts q l m r K hk hm hv e2
        | none =>
          dsimp only
          have ht : t.1 = true := by
            unfold worthB at e3
            split at e3
            · assumption
            · cases e3
          have hg : getB l (bs t.2) = none := by unfold worthB at e3; rwa [if_pos ht] at e3
          have hnk : t.2 ∉ K := fun hm => getB_none.1 hg (by rw [hk]; exact mem_map_bs.2 hm)
          have ha : addNew K t.2 = K ++ [t.2] := by unfold addNew; rw [if_neg (by simpa using hnk)]
          rw [if_pos ht, ha] at hv
          obtain ⟨q', hq'⟩ := varsGo_pre ts (K ++ [t.2])
          have hkr : keysB r = bs t.2 :: q'.map bs := by
            have h1 := hv
            rw [hq', hm] at h1
            simp only [keysB, List.map_append] at h1 hk ⊢
            rw [hk, List.append_assoc] at h1
            simpa using List.append_cancel_left h1
          cases r with
          | nil => simp [keysB] at hkr
          | cons b r' =>
            have hb : b.1 = bs t.2 := by simp [keysB] at hkr; exact hkr.1
            have hbs : b.2 = s := by
              unfold worthB at e
              rw [if_pos ht, hm, getB_append, hg] at e
              simp only [getB, hb, if_true] at e
              exact Option.some.inj e
            have hbe : b = (bs t.2, s) := by rw [← hb, ← hbs]
            subst hbe
            exact meetGo_of ts q (l ++ [(bs t.2, s)]) m r' (K ++ [t.2]) (by simp [keysB] at hk ⊢; exact hk) (by rw [hm]; simp) hv e2

theorem meetB_ok {a : AtomD} {f : FactB} {l m : List BindD} {K : List Bs} (hk : keysB l = K.map bs) (h : meetB a f l = some m) : (∃ r, m = l ++ r) ∧ keysB m = (varsGo K a.terms).map bs ∧ fillB a m = some f := by
  unfold meetB at h
  split at h
  · rename_i hc
    obtain ⟨h1, h2, h3⟩ := meetGo_ok a.terms f.2 l m K hc.2 hk h
    exact ⟨h1, h2, by unfold fillB; rw [h3, hc.1]⟩
  · cases h

theorem meetB_of {a : AtomD} {f : FactB} {l m r : List BindD} {K : List Bs} (hk : keysB l = K.map bs) (hm : m = l ++ r) (hv : keysB m = (varsGo K a.terms).map bs) (hf : fillB a m = some f) : meetB a f l = some m := by
  unfold fillB at hf
  cases e : fillArgs m a.terms with
  | none => rw [e] at hf; cases hf
  | some x =>
    rw [e] at hf
    cases hf
    unfold meetB
    rw [if_pos ⟨rfl, (fillArgs_len e).symm⟩]
    exact meetGo_of a.terms x l m r K hk hm hv e

end Go.Proofs.YtalggolacdlnnaaGreatDoor
