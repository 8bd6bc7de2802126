/- Texts of this claim, one behind the other. -/
import Derived.Test.YthngiikhgplldaaJC1
import Derived.Shelf.SlSortCmp.QuietGrown
import Derived.Deep.QuietTactic
import Derived.BigQuiet
import Derived.RegionTactic
import Derived.BigRegion
import Derived.Deep.RegionLaw
/- The walks of fact.Named, fact.Wrong and what they call. -/
namespace Go.Proofs.Ythngiikhgplldaa
open Go.RowKit Go.Sort

set_option maxHeartbeats 400000 in
theorem begins (x : Int) (w : World) : Calls Try.prog 33 #[.int .u8 x] w fun e w' => e = .returned (.bool (smallB x)) ∧ w' = w := by
  go_enter Try.func33, Try.ntmps33
  go_wp2
  all_goals
    go_ret
    refine ⟨ret_bool ?_, rfl⟩
    rw [Bool.eq_iff_iff]
    simp [smallB]
    omega

set_option maxHeartbeats 400000 in
theorem goesOn (x : Int) (w : World) : Calls Try.prog 38 #[.int .u8 x] w fun e w' => e = .returned (.bool (signB x)) ∧ w' = w := by
  cases hs : smallB x
  · go_enter Try.func38, Try.ntmps38
    go_wp2_with (go_at_call 33; refine (begins _ _).mono ?_; rintro e w' ⟨rfl, rfl⟩; rw [hs])
    all_goals
      go_ret
      refine ⟨ret_bool ?_, rfl⟩
      rw [Bool.eq_iff_iff]
      simp [signB, hs]
      omega
  · go_enter Try.func38, Try.ntmps38
    go_wp2_with (go_at_call 33; refine (begins _ _).mono ?_; rintro e w' ⟨rfl, rfl⟩; rw [hs])
    go_ret
    exact ⟨ret_bool (by simp [signB, hs]), rfl⟩

/-- A name, byte by byte. -/
def namedB (s : ByteArray) : Bool :=
  decide (0 < s.size ∧ s.size ≤ 12) && (match s.data.toList with | [] => false | c :: r => smallB c.toNat && r.all fun c => signB c.toNat)

theorem namedB_long {s : ByteArray} (h : s.size = 0 ∨ 12 < s.size) : namedB s = false := by
  unfold namedB; rw [decide_eq_false (by omega)]; rfl

theorem size_data (s : ByteArray) : s.data.toList.length = s.size := Array.length_toList

/-- From byte k on there are signs of words alone. -/
def restB (s : ByteArray) (k : Nat) : Bool := (s.data.toList.drop k).all fun c => signB c.toNat

theorem restB_step {s : ByteArray} {k : Nat} (h : k < s.size) : restB s k = (signB s[k].toNat && restB s (k + 1)) := by
  have hl : k < s.data.toList.length := by rw [size_data]; exact h
  unfold restB
  rw [List.drop_eq_getElem_cons hl, List.all_cons]
  rfl

theorem restB_end {s : ByteArray} {k : Nat} (h : s.size ≤ k) : restB s k = true := by
  unfold restB; rw [List.drop_eq_nil_of_le (by rw [size_data]; exact h)]; rfl

theorem namedB_in {s : ByteArray} (h0 : 0 < s.size) (h1 : s.size ≤ 12) : namedB s = (smallB (s[0].toNat) && restB s 1) := by
  unfold namedB
  have hl := size_data s
  rw [decide_eq_true ⟨h0, h1⟩]
  cases h : s.data.toList with
  | nil => rw [h] at hl; simp at hl; omega
  | cons c r =>
    have : s[0] = c := by
      have : s[0] = s.data.toList[0]'(by omega) := rfl
      rw [this]; simp [h]
    simp [this, restB, h]

theorem extract_bs (s : ByteArray) (k : Nat) : s.extract 0 k = bs ((raw s).take k) := by
  apply raw_inj
  rw [raw_bs]
  unfold raw
  rw [ByteArray.data_extract]
  simp

theorem getRaw {s : ByteArray} {k : Nat} (h : k < s.size) (h' : k < (raw s).length) : (raw s)[k]'h' = s[k]'h := rfl

/-- The signs of words that a text begins with, from byte k on. -/
def goes (s : ByteArray) (k : Nat) : Bs := (raw s).take k ++ ((raw s).drop k).takeWhile isSign

theorem goes_step {s : ByteArray} {k : Nat} (h : k < s.size) : goes s k = if signB s[k].toNat then goes s (k + 1) else (raw s).take k := by
  have hl : k < (raw s).length := by rw [length_raw]; exact h
  unfold goes
  rw [List.drop_eq_getElem_cons hl, List.takeWhile_cons, getRaw h hl]
  by_cases hc : signB (s[k]'h).toNat = true
  · rw [if_pos hc, if_pos (show isSign (s[k]'h) = true from hc), List.take_succ_eq_append_getElem hl, getRaw h hl]; simp
  · rw [if_neg hc, if_neg (show ¬ isSign (s[k]'h) = true from hc)]; simp

theorem goes_end {s : ByteArray} {k : Nat} (h : s.size ≤ k) : goes s k = (raw s).take k := by
  unfold goes
  rw [List.drop_eq_nil_of_le (by rw [length_raw]; exact h)]; simp

set_option maxHeartbeats 1000000 in
/-- fact.Word: as many signs of words as a text begins with. -/
theorem wordC (s : ByteArray) (w : World) (hs : s.size ≤ 4294967296) : Calls Try.prog 34 #[.string s] w fun e w' => e = .returned (.string (bs ((raw s).takeWhile isSign))) ∧ w' = w := by
  have h0 : goes s 0 = (raw s).takeWhile isSign := by simp [goes]
  rw [← h0]
  clear h0
  go_enter Try.func34, Try.ntmps34
  go_wp2
  go_loop [3] (fun i => ∃ k : Nat, k ≤ s.size ∧ i = .int .i64 k ∧ Hid (goes s 0 = goes s k)) (fun i => s.size - (intOf i).toNat)
  case atStart => exact ⟨0, by omega, rfl, (rfl : _ = _)⟩
  case round =>
    obtain ⟨k, hk, rfl, HE⟩ := hrel
    by_cases hlt : k < s.size
    · have ha := goes_step hlt
      cases hc : signB (s[k]'hlt).toNat
      · have F : Hid (goes s 0 = (raw s).take k) := by show _ = _; rw [HE.out, ha, hc]; rfl
        clear ha
        go_wp2_with (go_at_call 38; refine (goesOn _ _).mono ?_; rintro e w' ⟨rfl, rfl⟩; rw [hc])
        go_ret
        exact ⟨by rw [F.out, ← extract_bs]; rfl, rfl⟩
      · have F : Hid (goes s 0 = goes s (k + 1)) := by show _ = _; rw [HE.out, ha, hc]; rfl
        clear ha
        have HK : Hid (k + 1 ≤ s.size) := hlt
        go_wp2_with (go_at_call 38; refine (goesOn _ _).mono ?_; rintro e w' ⟨rfl, rfl⟩; rw [hc])
        go_round
        case rel => exact ⟨k + 1, HK.out, by go_num, F⟩
        case measure => have := HK.out; simp [intOf]; omega
    · have F : Hid (goes s 0 = (raw s).take k) := by show _ = _; rw [HE.out, goes_end (by omega)]
      go_wp2
      go_ret
      exact ⟨by rw [F.out, ← extract_bs]; rfl, rfl⟩

theorem takeWhile_len (f : UInt8 → Bool) : ∀ l : Bs, decide ((l.takeWhile f).length = l.length) = l.all f := by
  intro l
  induction l with
  | nil => rfl
  | cons c t ih =>
    rw [List.takeWhile_cons, List.all_cons]
    cases hc : f c
    · simp
    · simp [← ih]

theorem namedB_word {s : ByteArray} (h0 : 0 < s.size) (h1 : s.size ≤ 12) (hb : smallB s[0].toNat = true) : namedB s = decide ((bs ((raw s).takeWhile isSign)).size = s.size) := by
  rw [size_bs, ← length_raw s, takeWhile_len, namedB_in h0 h1, hb]
  have hl : 0 < (raw s).length := by rw [length_raw]; exact h0
  have e : raw s = (s[0]'h0) :: (raw s).drop 1 := by
    have := List.drop_eq_getElem_cons hl
    rw [List.drop_zero, getRaw h0 hl] at this
    exact this
  have hs : isSign (s[0]'h0) = true := by unfold isSign signB; rw [hb]; rfl
  rw [e, List.all_cons, hs]
  rfl

theorem namedB_eq (s : ByteArray) : namedB s = isNamed (raw s) := by
  unfold namedB isNamed
  rw [length_raw]
  show (decide (0 < s.size ∧ s.size ≤ 12) && match raw s with | [] => false | c :: r => smallB c.toNat && r.all fun c => signB c.toNat) = _
  have hl := length_raw s
  cases h : raw s with
  | nil => simp
  | cons c t =>
    rw [h] at hl
    have : 0 < s.size := by rw [← hl]; simp
    simp only [List.all_cons]
    rw [show (t.all fun c => signB c.toNat) = t.all isSign from rfl]
    by_cases h12 : s.size ≤ 12
    · rw [decide_eq_true ⟨this, h12⟩, decide_eq_true h12]
      cases hc : smallB c.toNat
      · simp
      · rw [show isSign c = true by unfold isSign signB; rw [hc]; rfl]; simp
    · rw [decide_eq_false (fun h => h12 h.2), decide_eq_false h12]; rfl

set_option maxHeartbeats 1000000 in
theorem named (s : ByteArray) (w : World) : Calls Try.prog 27 #[.string s] w fun e w' => e = .returned (.bool (namedB s)) ∧ w' = w := by
  by_cases h0 : 0 < s.size
  · by_cases h1 : s.size ≤ 12
    · have h0' : ((s.size : Int) == 0) = false := by rw [beq_eq_false_iff_ne]; omega
      cases hb : smallB s[0].toNat
      · have F : Hid (namedB s = false) := by show _ = _; rw [namedB_in h0 h1, hb]; rfl
        go_enter Try.func27, Try.ntmps27
        go_wp2_with (go_at_call 33; refine (begins _ _).mono ?_; rintro e w' ⟨rfl, rfl⟩; rw [hb])
        go_ret
        exact ⟨ret_bool F.out.symm, rfl⟩
      · have F : Hid (namedB s = decide ((bs ((raw s).takeWhile isSign)).size = s.size)) := namedB_word h0 h1 hb
        generalize hx : bs ((raw s).takeWhile isSign) = x at F
        have HX := hide hx
        clear hx
        go_enter Try.func27, Try.ntmps27
        go_wp2_with (first
          | (go_at_call 33; refine (begins _ _).mono ?_; rintro e w' ⟨rfl, rfl⟩; rw [hb])
          | (go_at_call 34; refine (wordC _ _ (by omega)).mono ?_; rintro e w' ⟨rfl, rfl⟩; rw [HX.out]))
        go_ret
        refine ⟨ret_bool ?_, rfl⟩
        rw [F.out, Bool.eq_iff_iff]
        simp
        omega
    · rw [namedB_long (Or.inr (by omega))]
      have h0' : ((s.size : Int) == 0) = false := by rw [beq_eq_false_iff_ne]; omega
      go_enter Try.func27, Try.ntmps27
      go_wp2
      go_ret
      exact ⟨rfl, rfl⟩
  · rw [namedB_long (Or.inl (by omega))]
    have h0' : ((s.size : Int) == 0) = true := by rw [beq_iff_eq]; omega
    go_enter Try.func27, Try.ntmps27
    go_wp2
    go_ret
    exact ⟨rfl, rfl⟩

/-- Is one of the texts from k on no name? -/
def noName (l : List ByteArray) (k : Nat) : Bool := (l.drop k).any fun s => !namedB s

/-- What is wrong with a fact. -/
def wrongF (f : FactD) : Int := if !namedB f.1 then 7 else if 4 < f.2.length then 5 else if noName f.2 0 then 7 else 0

end Go.Proofs.Ythngiikhgplldaa

/- The document's answer: the walks of ref.Less, ref.Equal, ref.In. -/
namespace Go.Proofs.Ythngiikhgplldaa
open Go.RowKit Go.Sort

/-- A fact comes first. -/
def lessF (f g : FactD) : Bool := decide (cmpF f g < 0)

/-- The same fact. -/
def sameF (f g : FactD) : Bool := decide (cmpF f g = 0)

/-- Is f among those from k on? -/
def inFrom (l : List FactD) (f : FactD) (k : Nat) : Bool := (l.drop k).any fun x => sameF x f

/-- One fact of a slice of facts: its two cells, and the fact as a value. -/
theorem Facts.at {w : World} {b off : Nat} {n cap : Nat} {l : List FactD} (h : Facts w (.slice (some ⟨b, off, none⟩) n cap) l) {k : Nat} (hk : k < l.length) :
    b < w.heap.size ∧ ∃ a len c, w.cell? ⟨b, off + k * 2, none⟩ = some (.string (l.getD k noFact).1) ∧ w.cell? ⟨b, off + k * 2 + 1, none⟩ = some (.slice a len c) ∧ FactV w (.agg #[.string (l.getD k noFact).1, .slice a len c]) (l.getD k noFact) := by
  obtain ⟨_, a, cap', e, h1⟩ := h
  obtain ⟨b', off', e', hb, hc⟩ := h1 (by intro e; rw [e] at hk; simp at hk)
  rw [e'] at e
  simp only [Value.slice.injEq, Option.some.injEq, Addr.mk.injEq] at e
  obtain ⟨⟨rfl, rfl, _⟩, _, _⟩ := e
  obtain ⟨c1, s, c2, c3⟩ := hc k hk
  obtain ⟨a2, cp, rfl⟩ := sliceStr c3
  exact ⟨hb, a2, _, cp, c1, c2, _, rfl, c3⟩

end Go.Proofs.Ythngiikhgplldaa

/- The walks of fact.copied and fact.keep. -/
namespace Go.Proofs.Ythngiikhgplldaa
open Go.RowKit Go.Sort

theorem infoStr : ∃ i, Try.prog.info? 9 = some i ∧ i.zero = some (.string ByteArray.empty) ∧ i.size = 1 ∧ i.bytes = 16 := ⟨Try.t9, by kernel_rfl, by kernel_rfl, by kernel_rfl, by kernel_rfl⟩

end Go.Proofs.Ythngiikhgplldaa

/- Rows of facts that a call owns: append onto them; worlds in which only some blocks have turned. -/
namespace Go.Proofs.Ythngiikhgplldaa
open Go.RowKit Go.Sort

/-- append onto nil or a row of the call's own: what run_append_own says, and that draws only add up, and where the new row lies. -/
theorem append_own {P : Program} (w : World) (base : Nat) (t ty e : TypeId) (i : TypeInfo) (z : Value) (size bytes : Nat) (ht : P.underlying t = some (.slice e)) (hi : P.info? e = some i) (hz : i.zero = some z)
    (hsize : i.size = size) (hby : i.bytes = bytes) (hzs : z.cells.size = size) (hsz : 0 < size)
    (v : Value) (n : Nat) (xs : List Value) (hown : w.ownsRow base e size v n xs)
    (a : Addr) (m c : Nat) (news : List Value) (hl : news.length = m * size) (hnews : ∀ j u, news[j]? = some u → w.cell? (a.add j) = some u) (h1 : ∀ u ∈ news, u.oneCell' = true)
    (h63 : n + m ≤ maxLen) (hbytes : (n + m) * bytes ≤ 140737488355328) (hbase : base ≤ w.heap.size) :
    ∃ v' w', (Builtin.append_ #[t, t] ty #[v, .slice (some a) m c]).run P w = .ok v' w' ∧ w'.ownsRow base e size v' (n + m) (xs ++ news) ∧ w.grownBy w' v.ownBlock ∧ w.drawn ≤ w'.drawn ∧
      ∀ k, v'.ownBlock = some k → v.ownBlock = some k ∨ w.heap.size ≤ k := by
  obtain ⟨v', w', hrun, r1, r2, _⟩ := run_append_own (P := P) w base t ty e i z size bytes ht hi hz hsize hby hzs hsz v n xs hown a m c news hl hnews h1 h63 hbytes hbase
  refine ⟨v', w', hrun, r1, r2, ?_⟩
  subst hsize
  subst hby
  have h63' : n + m ≤ 9223372036854775807 := by simp only [maxLen] at h63; omega
  rcases hown.2 with ⟨rfl, rfl⟩ | ⟨g, cap, cur, rfl, hbg, hg, hnc, hcm, hcs, htake⟩
  · by_cases hm : m = 0
    · subst hm
      have hn : news = [] := List.eq_nil_of_length_eq_zero (by simpa using hl)
      subst hn
      simp [Builtin.append_, run_underlying ht, sizeOf, typeInfo, hi, Builtin.lenOf, Builtin.firstCells, loadCells, loadCellsFrom] at hrun
      obtain ⟨rfl, rfl⟩ := hrun
      exact ⟨Nat.le_refl _, fun k hk => Or.inl hk⟩
    · rw [run_append_nil (P := P) w t ty e i z ht hi hz a m c news hl hnews (by omega) (by omega) (by have hb := hbytes; simp only [Nat.zero_add] at hb; omega)] at hrun
      simp only [Result.ok.injEq] at hrun
      obtain ⟨rfl, rfl⟩ := hrun
      exact ⟨Nat.le_succ _, fun k hk => Or.inr (by simp [Value.ownBlock] at hk; omega)⟩
  · by_cases hroom : n + m ≤ cap
    · have hfit : n * i.size + news.length ≤ cur.size := by rw [hl, hcs, ← Nat.add_mul]; exact Nat.mul_le_mul_right _ hroom
      rw [run_append_room (P := P) w t ty e i ht hi g n cap cur hg a m c news hl hnews h1 hroom hfit] at hrun
      simp only [Result.ok.injEq] at hrun
      obtain ⟨rfl, rfl⟩ := hrun
      exact ⟨Nat.le_refl _, fun k hk => Or.inl (by simpa [Value.ownBlock] using hk)⟩
    · rw [run_append_grow (P := P) w t ty e i z ht hi hz ⟨g, 0, none⟩ n cap xs hown.1 (hown.cells (g := g) rfl) a m c news hl hnews (by omega) (by omega) (growslice_fits (by omega) hbytes)] at hrun
      simp only [Result.ok.injEq] at hrun
      obtain ⟨rfl, rfl⟩ := hrun
      exact ⟨Nat.le_succ _, fun k hk => Or.inr (by simp [Value.ownBlock] at hk; omega)⟩

/-- append in a walk, its run being known. -/
theorem wpList_append_run {P : Program} {w : World} {ops : Array Oper} {rest : List Oper} {o : Oper} {a : Act} {Q : Exit → Act → World → Prop} (hgd : o.guard = none) (s x : Operand) (t : TypeId)
    (ho : o.op = .call { callee := .builtin .append, args := #[s, x], argTypes := #[t, t] }) (v1 v2 v' : Value) (w' : World) (hs : a.eval s = v1) (hx : a.eval x = v2)
    (hrun : (Builtin.append_ #[t, t] o.type #[v1, v2]).run P w = .ok v' w') (h : wpList P ops Q rest (a.put o.dst v') w') : wpList P ops Q (o :: rest) a w :=
  wpList_plain hgd fun _ hK => by
    unfold Oper.wp execOp
    simp only [ho, resolve, invoke, builtin, Sem.run_bind, Sem.run_pure, Result.andThen_ok, List.map_toArray, List.map_cons, List.map_nil, hs, hx, hrun]
    exact hK _ _ h

/-- Of what was there only blocks from lo up to hi may have turned. -/
structure Only (lo hi : Nat) (w w' : World) : Prop where
  os : w'.os = w.os
  tape : w'.tape = w.tape
  output : w'.output = w.output
  drawn : w.drawn ≤ w'.drawn
  size : w.heap.size ≤ w'.heap.size
  block : ∀ k, k < w.heap.size → k < lo ∨ hi ≤ k → w'.heap[k]? = w.heap[k]?

theorem Only.refl (lo hi : Nat) (w : World) : Only lo hi w w := ⟨rfl, rfl, rfl, Nat.le_refl _, Nat.le_refl _, fun _ _ _ => rfl⟩
theorem Only.trans {lo hi : Nat} {a b c : World} (h : Only lo hi a b) (k : Only lo hi b c) : Only lo hi a c :=
  ⟨k.os.trans h.os, k.tape.trans h.tape, k.output.trans h.output, Nat.le_trans h.drawn k.drawn, Nat.le_trans h.size k.size, fun i hi' ho => (k.block i (Nat.lt_of_lt_of_le hi' h.size) ho).trans (h.block i hi' ho)⟩
theorem Later.only {lo hi : Nat} {a b : World} (h : Later a b) : Only lo hi a b :=
  ⟨h.below.os, h.below.tape, h.below.output, h.drawn, h.size, fun _ hk _ => h.block hk⟩
theorem Only.later {lo hi : Nat} {w0 a b : World} (h : Only lo hi a b) (h0 : Later w0 a) (hl : w0.heap.size ≤ lo) : Later w0 b :=
  Later.of_below ⟨h.os.trans h0.below.os, h.tape.trans h0.below.tape, h.output.trans h0.below.output, Nat.le_trans h0.size h.size, fun k hk => (h.block k (Nat.lt_of_lt_of_le hk h0.size) (Or.inl (by omega))).trans (h0.block hk)⟩ (Nat.le_trans h0.drawn h.drawn)
theorem Only.cell {lo hi : Nat} {a b : World} (h : Only lo hi a b) {p : Addr} (hp : p.block < a.heap.size) (ho : p.block < lo ∨ hi ≤ p.block) : b.cell? p = a.cell? p := World.cell?_of_block (w := a) (h.block _ hp ho)
/-- Behind an append onto a row from lo on. -/
theorem Only.grown {lo hi lo' hi' : Nat} {a b c : World} {row : Option Nat} (h : Only lo hi a b) (hg : b.grownBy c row) (hd : b.drawn ≤ c.drawn) (hr : ∀ k, row = some k → a.heap.size ≤ k) (_ : lo' = lo) (_ : hi' = hi) : Only lo' hi' a c := by
  subst lo' hi'
  exact ⟨hg.os.trans h.os, hg.tape.trans h.tape, hg.output.trans h.output, Nat.le_trans h.drawn hd, Nat.le_trans h.size hg.size,
    fun k hk ho => (hg.block k (Nat.lt_of_lt_of_le hk h.size) (fun e => by have := hr k e.symm; omega)).trans (h.block k hk ho)⟩

theorem Strs.kept {w w' : World} {s : Value} {l : List ByteArray} (h : Strs w s l) (hs : w.heap.size ≤ w'.heap.size) (hk : ∀ k, s.ownBlock = some k → w'.heap[k]? = w.heap[k]?) : Strs w' s l := by
  obtain ⟨h0, a, cap, rfl, h1⟩ := h
  refine ⟨h0, a, cap, rfl, fun hl => ?_⟩
  obtain ⟨b, off, rfl, hb, hc⟩ := h1 hl
  exact ⟨b, off, rfl, Nat.lt_of_lt_of_le hb hs, fun i hi => by rw [World.cell?_of_block (w := w) (hk b rfl)]; exact hc i hi⟩

theorem Strs.nil {w w' : World} {s : Value} (h : Strs w s []) : Strs w' s [] := by
  obtain ⟨h0, a, cap, rfl, _⟩ := h
  exact ⟨h0, a, cap, rfl, fun e => absurd rfl e⟩

/-- The cells of a slice of facts. -/
theorem Facts.cells {w : World} {a : Addr} {n cap : Nat} {l : List FactD} (h : Facts w (.slice (some a) n cap) l) :
    ∃ xs : List Value, xs.length = l.length * 2 ∧ (∀ j u, xs[j]? = some u → w.cell? (a.add j) = some u) ∧ (∀ u ∈ xs, u.oneCell' = true) ∧
      ∀ i, i < l.length → xs[i * 2]? = some (.string (l.getD i noFact).1) ∧ ∃ s, xs[i * 2 + 1]? = some s ∧ Strs w s (l.getD i noFact).2 := by
  obtain ⟨h0, a', cap', e, h1⟩ := h
  simp only [Value.slice.injEq] at e
  obtain ⟨rfl, rfl, rfl⟩ := e
  by_cases hl : l = []
  · subst hl
    exact ⟨[], rfl, fun j u h => by simp at h, fun u h => by simp at h, fun i hi => by simp at hi⟩
  · obtain ⟨b, off, e, hb, hc⟩ := h1 hl
    simp only [Option.some.injEq] at e
    subst e
    have hsv : ∀ i : Fin l.length, ∃ s, w.cell? ⟨b, off + i.1 * 2 + 1, none⟩ = some s ∧ Strs w s (l.getD i.1 noFact).2 := fun i => (hc i.1 i.2).2
    have key : ∀ j, j < l.length * 2 → ∃ u, w.cell? ⟨b, off + j, none⟩ = some u ∧ u.oneCell' = true := fun j hj => by
      have h3 := hc (j / 2) (by omega)
      rcases Nat.mod_two_eq_zero_or_one j with hm | hm
      · exact ⟨.string (l.getD (j / 2) noFact).1, by rw [← h3.1, show off + j / 2 * 2 = off + j by omega], rfl⟩
      · obtain ⟨s, c2, c3⟩ := h3.2
        refine ⟨s, by rw [← c2, show off + j / 2 * 2 + 1 = off + j by omega], ?_⟩
        obtain ⟨a, c, rfl⟩ := sliceStr c3
        rfl
    have get : ∀ j, (List.ofFn fun j : Fin (l.length * 2) => Classical.choose (key j.1 j.2))[j]? = if h : j < l.length * 2 then some (Classical.choose (key j h)) else none := fun j => by
      rw [List.getElem?_ofFn]
    refine ⟨List.ofFn fun j : Fin (l.length * 2) => Classical.choose (key j.1 j.2), by simp, fun j u hu => ?_, fun u hu => ?_, fun i hi => ?_⟩
    · rw [get] at hu
      split at hu
      · rename_i hj
        rw [Addr.add_lit, (Classical.choose_spec (key j hj)).1]; exact hu
      · cases hu
    · rw [List.mem_ofFn] at hu
      obtain ⟨j, rfl⟩ := hu
      exact (Classical.choose_spec (key j.1 j.2)).2
    · obtain ⟨c1, s, c2, c3⟩ := hc i hi
      have e0 := (Classical.choose_spec (key (i * 2) (by omega))).1
      have e1 := (Classical.choose_spec (key (i * 2 + 1) (by omega))).1
      refine ⟨?_, s, ?_, c3⟩
      · rw [get, dif_pos (by omega), ← e0]; exact c1
      · rw [get, dif_pos (by omega), ← e1, ← Nat.add_assoc]; exact c2

/-- Facts that lie in a row of cells; what they are said of was there in w0. -/
def SrcF (w0 w : World) (a : Addr) (m : List FactD) : Prop :=
  ∃ ys : List Value, ys.length = m.length * 2 ∧ (∀ j u, ys[j]? = some u → w.cell? (a.add j) = some u) ∧ (∀ u ∈ ys, u.oneCell' = true) ∧
    ∀ i, i < m.length → ys[i * 2]? = some (.string (m.getD i noFact).1) ∧ ∃ s, ys[i * 2 + 1]? = some s ∧ Strs w0 s (m.getD i noFact).2

/-- One fact in a block of its own. -/
theorem SrcF.one {w0 w : World} {c : Nat} {f : FactD} {s : Value} {t : TypeId} {fr : Nat × Nat} (h : w.heap[c]? = some (.cells #[.string f.1, s] t fr)) (hs : Strs w0 s f.2) : SrcF w0 w ⟨c, 0, none⟩ [f] := by
  refine ⟨[.string f.1, s], rfl, fun j u hu => ?_, fun u hu => ?_, fun i hi => ?_⟩
  · rw [Addr.add_lit, Nat.zero_add, cell_of_row _ _ _ _ _ _ h]; simpa using hu
  · simp at hu
    rcases hu with rfl | rfl
    · rfl
    · obtain ⟨a, c, rfl⟩ := sliceStr hs; rfl
  · have : i = 0 := by simp at hi; omega
    subst this
    exact ⟨rfl, s, rfl, hs⟩

/-- The first k, and those behind them. -/
theorem Facts.take {w : World} {a : Option Addr} {n cap : Nat} {l : List FactD} (h : Facts w (.slice a n cap) l) {k : Nat} (hk : k ≤ l.length) : Facts w (.slice a (l.take k).length cap) (l.take k) := by
  obtain ⟨h0, a', cap', e, h1⟩ := h
  simp only [Value.slice.injEq] at e
  obtain ⟨rfl, rfl, rfl⟩ := e
  refine ⟨by rw [List.length_take]; omega, _, _, rfl, fun hne => ?_⟩
  obtain ⟨b, off, e, hb, hc⟩ := h1 (by intro e; apply hne; rw [e]; simp)
  refine ⟨b, off, e, hb, fun i hi => ?_⟩
  rw [List.length_take] at hi
  have e : (l.take k).getD i noFact = l.getD i noFact := by
    rw [List.getD_eq_getElem?_getD, List.getD_eq_getElem?_getD, List.getElem?_take, if_pos (by omega)]
  rw [e]
  exact hc i (by omega)

theorem Facts.drop {w : World} {b off n cap : Nat} {l : List FactD} (h : Facts w (.slice (some ⟨b, off, none⟩) n cap) l) {k : Nat} (hk : k ≤ l.length) (c : Nat) : Facts w (.slice (some ⟨b, off + k * 2, none⟩) (l.drop k).length c) (l.drop k) := by
  obtain ⟨h0, a', cap', e, h1⟩ := h
  simp only [Value.slice.injEq] at e
  obtain ⟨rfl, rfl, rfl⟩ := e
  refine ⟨by rw [List.length_drop]; omega, _, _, rfl, fun hne => ?_⟩
  obtain ⟨b', off', e, hb, hc⟩ := h1 (by intro e; apply hne; rw [e]; simp)
  simp only [Option.some.injEq, Addr.mk.injEq] at e
  obtain ⟨rfl, rfl, _⟩ := e
  refine ⟨b, _, rfl, hb, fun i hi => ?_⟩
  rw [List.length_drop] at hi
  have e : (l.drop k).getD i noFact = l.getD (k + i) noFact := by
    rw [List.getD_eq_getElem?_getD, List.getD_eq_getElem?_getD, List.getElem?_drop]
  rw [e]
  have := hc (k + i) (by omega)
  rw [show off + (k + i) * 2 = off + k * 2 + i * 2 by omega] at this
  exact this

end Go.Proofs.Ythngiikhgplldaa
