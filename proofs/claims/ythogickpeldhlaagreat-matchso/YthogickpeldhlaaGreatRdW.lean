/- The walks of syntax.text's methods. -/
import Derived.Test.YthogickpeldhlaaGreatRd
namespace Go.Proofs.YthogickpeldhlaaGreat
open Go.RowKit Go.Sort

theorem cut_nl : ∀ l : Bs, (Lib.cut l [10]).1 = l.takeWhile (fun c => c != 10) := by
  intro l
  induction l with
  | nil => simp [Lib.cut, Lib.index]
  | cons c t ih =>
    by_cases h : c = 10
    · subst h; simp [Lib.cut, Lib.index, List.isPrefixOf]
    · have h' : ¬ (10 : UInt8) = c := fun e => h e.symm
      rw [List.takeWhile_cons, if_pos (by simpa using h)]
      have hg := Lib.index_ge t [10]
      unfold Lib.cut at ih ⊢
      have e : Lib.index (c :: t) [10] = if Lib.index t [10] == -1 then -1 else Lib.index t [10] + 1 := by
        rw [Lib.index]; simp [List.isPrefixOf, h']
      rw [e]
      by_cases hi : Lib.index t [10] = -1
      · rw [hi] at ih ⊢
        simp at ih ⊢
        exact ih
      · have h0 : 0 ≤ Lib.index t [10] := by omega
        have hb : (Lib.index t [10] == -1) = false := by simpa using hi
        rw [hb, if_neg (c := false = true) (by simp), if_pos (by omega)]
        rw [if_pos h0] at ih
        rw [show (Lib.index t [10] + 1).toNat = (Lib.index t [10]).toNat + 1 by omega, List.take_succ_cons]
        exact congrArg _ ih

/-- Behind a note's bytes it goes on as behind the note. -/
theorem skip_line : ∀ l : Bs, skip (l.drop (l.takeWhile (fun c => c != 10)).length) = skipM true l := by
  intro l
  induction l with
  | nil => rfl
  | cons c t ih =>
    by_cases h : c = 10
    · subst h; simp [note_end, skip, skip_blank]
    · rw [note_on h, List.takeWhile_cons, if_pos (by simpa using h)]; simpa using ih

set_option maxHeartbeats 1000000 in
theorem skipNote (p : Nat) (s : ByteArray) (l : Bs) (w : World) (h : Rd w p s l) :
    Calls Tryz.prog 128 #[.pointer (some ⟨p, 0, none⟩)] w fun e w' => e = .returned (.tuple #[]) ∧ Rd w' p s (l.drop (l.takeWhile (fun c => c != 10)).length) ∧ Tn p w w' := by
  have H := hide h
  have c0 := h.c0; have c1 := h.c1; have fz := h.fz
  obtain ⟨m, hm⟩ := h.g
  have hcut := cut_bs h.suf
  have hps := pos_le s l
  have hs := h.short
  have hll := len_le h.suf
  have HC : Hid (∀ q, Calls Tryz.prog 136 #[.string (bs l), .string { data := #[10] }] (w.drewN q) fun e w' => e = .returned (.tuple #[.string (bs (l.takeWhile (fun c => c != 10))), .string ⟨(Lib.cut l [10]).2.1.toArray⟩, .bool (Lib.cut l [10]).2.2]) ∧ ∃ n, w' = (w.drewN q).drewN n) := fun q => by
    have := Tryz.strings_Cut (bs l) { data := #[10] } m (w.drewN q) (by rw [size_bs]; omega) hm
    have e : (bs l).data.toList = l := raw_bs l
    rw [e] at this
    refine this.mono ?_
    rintro e w' ⟨rfl, hw⟩
    exact ⟨by rw [← cut_nl]; rfl, hw⟩
  generalize ht : l.takeWhile (fun c => c != 10) = t at HC ⊢
  have hle : t.length ≤ l.length := by rw [← ht]; exact (List.takeWhile_prefix _).length_le
  have hn : (bs t).size = t.length := size_bs t
  have HP := hide (pos_add h.suf hle)
  clear h hm ht
  go_enter Tryz.func128, Tryz.ntmps128
  go_wp2
  go_quiet ((go_at_call 136; exact Calls.quiet_of (HC.out _)))
  go_wp2
  go_end0
  exact ⟨rfl, (H.out.drewN _).moved hle rfl, ((Tn.refl p w).drewN _).moved _ _⟩

theorem raw_get {s : ByteArray} {l : Bs} {c : UInt8} (h : (c :: l) <:+ raw s) : ∃ hk : pos s (c :: l) < s.size, s[pos s (c :: l)] = c := by
  have hl := len_le h
  have hk : pos s (c :: l) < s.size := by simp only [pos, List.length_cons] at *; omega
  refine ⟨hk, ?_⟩
  have e := drop_pos h
  have hk' : pos s (c :: l) < (raw s).length := by rw [length_raw]; exact hk
  rw [List.drop_eq_getElem_cons hk'] at e
  have := (List.cons.inj e).1
  rw [getRaw hk hk'] at this
  exact this

theorem byte_ne {c d : UInt8} (h : ¬ c = d) : ((c.toNat : Int) == (d.toNat : Int)) = false := by
  rw [beq_eq_false_iff_ne]; intro e; exact h (UInt8.toNat_inj.1 (by omega))

theorem pos_end {s : ByteArray} {l : Bs} (h : l <:+ raw s) (he : ¬ pos s l < s.size) : l = [] := by
  have := len_le h
  simp only [pos] at he
  exact List.eq_nil_of_length_eq_zero (by omega)

set_option maxHeartbeats 2000000 in
theorem skipC (p : Nat) (s : ByteArray) (l : Bs) (w : World) (h : Rd w p s l) :
    Calls Tryz.prog 110 #[.pointer (some ⟨p, 0, none⟩)] w fun e w' => e = .returned (.tuple #[]) ∧ Rd w' p s (skip l) ∧ Tn p w w' := by
  have H := hide h
  clear h
  go_enter Tryz.func110, Tryz.ntmps110
  go_wp2
  go_loopg [] (l.length + 1) (fun k wr => ∃ l', l'.length < k ∧ Rd wr p s l' ∧ skip l' = skip l ∧ Tn p w wr)
  case atStart => exact ⟨l, by omega, H.out, rfl, Tn.refl _ _⟩
  case round =>
    obtain ⟨l', hk, hR, hE, hT⟩ := hrel
    have HR := hide hR
    have HE := hide hE
    have HT := hide hT
    have c0 := hR.c0; have c1 := hR.c1; have fz := hR.fz
    have hps := pos_le s l'
    have hs := hR.short
    have hsuf := hR.suf
    clear hR hE hT
    cases l' with
    | nil =>
      have hend : ¬ pos s [] < s.size := by simp [pos]
      go_wp2
      go_quiet (fail)
      go_wp2
      go_end0
      refine ⟨rfl, ?_, HT.out.drewN _⟩
      have : Rd wr p s [] := HR.out
      rw [← HE.out]
      exact this.drewN _
    | cons c t =>
      obtain ⟨hlt, hget⟩ := raw_get hsuf
      have HS := hide hsuf
      clear hsuf
      by_cases hb : c = 32 ∨ c = 10
      · have HQ : Hid (skip t = skip l) := by show _ = _; rw [← HE.out, skip, skip, skip_blank hb]
        have HM : Hid (∀ q, Rd ((wr.drewN q).setCell ⟨p, 1, none⟩ (.int .i64 ((pos s (c :: t) : Int) + 1))) p s t) := fun q => (HR.out.drewN q).moved (n := 1) (by simp) rfl
        have HN := hide (by simpa using hk : t.length + 1 < gk)
        rcases hb with rfl | rfl
        · generalize pos s (32 :: t) = k at *
          go_wp2
          go_quiet (fail)
          go_wp2
          go_quiet (fail)
          go_wp2
          go_roundg (t.length + 1)
          case measure => exact HN.out
          case rel => exact ⟨t, by omega, HM.out _, HQ.out, (HT.out.drewN _).moved _ _⟩
        · generalize pos s (10 :: t) = k at *
          go_wp2
          go_quiet (fail)
          go_wp2
          go_quiet (fail)
          go_wp2
          go_roundg (t.length + 1)
          case measure => exact HN.out
          case rel => exact ⟨t, by omega, HM.out _, HQ.out, (HT.out.drewN _).moved _ _⟩
      · by_cases h37 : c = 37
        · subst h37
          have HQ : Hid (skip ((37 :: t).drop ((37 :: t).takeWhile (fun c => c != 10)).length) = skip l) := by
            show _ = _; rw [← HE.out, skip_line, skip, skip_note, note_on (by decide)]
          have HN : Hid (((37 :: t).drop ((37 :: t).takeWhile (fun c => c != 10)).length).length + 1 < gk) := by
            show _ < _
            rw [List.takeWhile_cons, if_pos (by decide)]
            simp at hk ⊢; omega
          have HC := hide (fun w' (hw : Rd w' p s (37 :: t)) => skipNote p s (37 :: t) w' hw)
          generalize (37 :: t).drop ((37 :: t).takeWhile (fun c => c != 10)).length = t' at *
          generalize pos s (37 :: t) = k at *
          go_wp2
          go_quiet (fail)
          go_wp2
          go_quiet (fail)
          go_wp2_with fail
          refine (HC.out _ (HR.out.drewN _)).mono ?_
          rintro e w1 ⟨rfl, hR1, hT1⟩
          have HR1 := hide hR1
          have HT1 := hide ((HT.out.drewN _).trans hT1)
          clear hR1 hT1
          go_wp2
          go_roundg (t'.length + 1)
          case measure => exact HN.out
          case rel => exact ⟨t', by omega, HR1.out, HQ.out, HT1.out⟩
        · have HQ : Hid (c :: t = skip l) := by show _ = _; rw [← HE.out, skip, skip_other hb h37]
          have n1 : ((c.toNat : Int) == 32) = false := byte_ne (d := 32) (fun e => hb (Or.inl e))
          have n2 : ((c.toNat : Int) == 10) = false := byte_ne (d := 10) (fun e => hb (Or.inr e))
          have n3 : ((c.toNat : Int) == 37) = false := byte_ne (d := 37) h37
          clear hb h37
          generalize pos s (c :: t) = k at *
          go_wp2
          go_quiet (fail)
          go_wp2
          go_quiet (fail)
          go_wp2
          first | go_end0 | refine bodyPost_ret (results_none rfl _ _ _) rfl ?_
          refine ⟨rfl, ?_, HT.out.drewN _⟩
          rw [← HQ.out]
          exact HR.out.drewN _

end Go.Proofs.YthogickpeldhlaaGreat
