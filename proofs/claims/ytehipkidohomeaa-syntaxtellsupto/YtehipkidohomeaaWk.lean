/- The reference's walk through a text, in memory; its skip, ok, stop, eat and need. -/
import Derived.Test.YtehipkidohomeaaMany
namespace Go.Proofs.Ytehipkidohomeaa
open Go.RowKit Go.Sort

/-- A walk at block p: its text is s, l follows; n, k: its fault. -/
structure Wk (w : World) (p : Nat) (s : ByteArray) (l : Bs) (n k : Int) : Prop where
  short : s.size ≤ 3000
  suf : l <:+ raw s
  lt : p < w.heap.size
  c0 : w.cell? ⟨p, 0, none⟩ = some (.string s)
  c1 : w.cell? ⟨p, 1, none⟩ = some (.int .i64 (pos s l))
  c2 : w.cell? ⟨p, 2, none⟩ = some (.int .i64 n)
  c3 : w.cell? ⟨p, 3, none⟩ = some (.int .i64 k)
  f1 : w.frozen? ⟨p, 1, none⟩ = false
  f2 : w.frozen? ⟨p, 2, none⟩ = false
  f3 : w.frozen? ⟨p, 3, none⟩ = false

theorem Wk.drewN {w : World} {p : Nat} {s : ByteArray} {l : Bs} {n k : Int} (h : Wk w p s l n k) (q : Nat) : Wk (w.drewN q) p s l n k := ⟨h.short, h.suf, h.lt, h.c0, h.c1, h.c2, h.c3, h.f1, h.f2, h.f3⟩
theorem Wk.turned {w w' : World} {p q : Nat} {s : ByteArray} {l : Bs} {n k : Int} (h : Wk w p s l n k) (t : Tn q w w') (hq : q ≠ p) : Wk w' p s l n k := by
  have cell : ∀ o, w'.cell? ⟨p, o, none⟩ = w.cell? ⟨p, o, none⟩ := fun o => t.cell (x := ⟨p, o, none⟩) h.lt (fun e => hq e.symm)
  have fz : ∀ o, w'.frozen? ⟨p, o, none⟩ = w.frozen? ⟨p, o, none⟩ := fun o => World.frozen?_of_block (w := w) (a := ⟨p, o, none⟩) (t.block p h.lt (fun e => hq e.symm))
  exact ⟨h.short, h.suf, Nat.lt_of_lt_of_le h.lt t.size, by rw [cell]; exact h.c0, by rw [cell]; exact h.c1, by rw [cell]; exact h.c2, by rw [cell]; exact h.c3, by rw [fz]; exact h.f1, by rw [fz]; exact h.f2, by rw [fz]; exact h.f3⟩
theorem Wk.below {w w' : World} {p : Nat} {s : ByteArray} {l : Bs} {n k : Int} (h : Wk w p s l n k) (t : Below w.heap.size w w') : Wk w' p s l n k := h.turned (Tn.of_below (p := p + 1) t) (by omega)
theorem Wk.moved {w : World} {p : Nat} {s : ByteArray} {l : Bs} {n k : Int} (h : Wk w p s l n k) {m : Nat} (hm : m ≤ l.length) {x : Int} (hx : x = (pos s l : Int) + m) : Wk (w.setCell ⟨p, 1, none⟩ (.int .i64 x)) p s (l.drop m) n k := by
  have other : ∀ o, o ≠ 1 → (w.setCell ⟨p, 1, none⟩ (.int .i64 x)).cell? ⟨p, o, none⟩ = w.cell? ⟨p, o, none⟩ := fun o ho => World.cell?_setCell_other _ _ _ _ (by intro e; simp at e <;> omega)
  refine ⟨h.short, suf_drop h.suf m, by rw [size_setCell]; exact h.lt, by rw [other 0 (by omega)]; exact h.c0, ?_, by rw [other 2 (by omega)]; exact h.c2, by rw [other 3 (by omega)]; exact h.c3, by rw [World.frozen?_setCell]; exact h.f1, by rw [World.frozen?_setCell]; exact h.f2, by rw [World.frozen?_setCell]; exact h.f3⟩
  rw [pos_add h.suf hm, World.cell?_setCell_same _ _ _ h.c1, hx]; simp
theorem Wk.fault {w : World} {p : Nat} {s : ByteArray} {l : Bs} {n k : Int} (h : Wk w p s l n k) (n' k' : Int) : Wk ((w.setCell ⟨p, 2, none⟩ (.int .i64 n')).setCell ⟨p, 3, none⟩ (.int .i64 k')) p s l n' k' := by
  have other : ∀ o, o ≠ 2 → o ≠ 3 → ((w.setCell ⟨p, 2, none⟩ (.int .i64 n')).setCell ⟨p, 3, none⟩ (.int .i64 k')).cell? ⟨p, o, none⟩ = w.cell? ⟨p, o, none⟩ := fun o h2 h3 => by
    rw [World.cell?_setCell_other _ _ _ _ (by intro e; simp at e <;> omega), World.cell?_setCell_other _ _ _ _ (by intro e; simp at e <;> omega)]
  refine ⟨h.short, h.suf, by rw [size_setCell, size_setCell]; exact h.lt, by rw [other 0 (by omega) (by omega)]; exact h.c0, by rw [other 1 (by omega) (by omega)]; exact h.c1, ?_, ?_, by rw [World.frozen?_setCell, World.frozen?_setCell]; exact h.f1, by rw [World.frozen?_setCell, World.frozen?_setCell]; exact h.f2, by rw [World.frozen?_setCell, World.frozen?_setCell]; exact h.f3⟩
  · rw [World.cell?_setCell_other _ _ _ _ (by simp), World.cell?_setCell_same _ _ _ h.c2]
  · exact World.cell?_setCell_same _ _ _ (by rw [World.cell?_setCell_other _ _ _ _ (by simp)]; exact h.c3)

set_option maxHeartbeats 400000 in
theorem wOk (p : Nat) (s : ByteArray) (l : Bs) (n k : Int) (w : World) (h : Wk w p s l n k) :
    Calls Try.prog 75 #[.pointer (some ⟨p, 0, none⟩)] w fun e w' => e = .returned (.bool (n == 0)) ∧ w' = w := by
  have c2 := h.c2
  clear h
  go_enter Try.func75, Try.ntmps75
  go_wp2
  go_ret
  exact ⟨rfl, rfl⟩

set_option maxHeartbeats 400000 in
theorem wStop (p : Nat) (s : ByteArray) (l : Bs) (x : Int) (w : World) (h : Wk w p s l 0 0) :
    Calls Try.prog 76 #[.pointer (some ⟨p, 0, none⟩), .int .i64 x] w fun e w' => e = .returned (.tuple #[]) ∧ Wk w' p s l x (pos s l) ∧ Tn p w w' := by
  have HO := hide (wOk p s l 0 0 w h)
  have H := hide (h.fault x (pos s l))
  have c1 := h.c1; have c2 := h.c2; have c3 := h.c3; have f2 := h.f2; have f3 := h.f3
  clear h
  go_enter Try.func76, Try.ntmps76
  go_wp2_with (go_at_call 75; refine HO.out.mono ?_; rintro e w' ⟨rfl, rfl⟩)
  go_end0
  exact ⟨rfl, H.out, ((Tn.refl p _).moved _ _).moved _ _⟩

set_option maxHeartbeats 400000 in
theorem wStopped (p : Nat) (s : ByteArray) (l : Bs) (x n k : Int) (w : World) (h : Wk w p s l n k) (hn : n ≠ 0) :
    Calls Try.prog 76 #[.pointer (some ⟨p, 0, none⟩), .int .i64 x] w fun e w' => e = .returned (.tuple #[]) ∧ w' = w := by
  have HO := hide (wOk p s l n k w h)
  rw [show (n == 0) = false by simpa using hn] at HO
  clear h hn
  go_enter Try.func76, Try.ntmps76
  go_wp2_with (go_at_call 75; refine HO.out.mono ?_; rintro e w' ⟨rfl, rfl⟩)
  go_end0
  exact ⟨rfl, rfl⟩

set_option maxHeartbeats 2000000 in
theorem wSkip (p : Nat) (s : ByteArray) (l : Bs) (n k : Int) (w : World) (h : Wk w p s l n k) :
    Calls Try.prog 74 #[.pointer (some ⟨p, 0, none⟩)] w fun e w' => e = .returned (.tuple #[]) ∧ Wk w' p s (skip l) n k ∧ Tn p w w' := by
  have H := hide h
  clear h
  go_enter Try.func74, Try.ntmps74
  go_wp2
  go_loopg [] (l.length + 1) (fun g wr => ∃ l', l'.length < g ∧ Wk wr p s l' n k ∧ skip l' = skip l ∧ Tn p w wr)
  case atStart => exact ⟨l, by omega, H.out, rfl, Tn.refl _ _⟩
  case round =>
    obtain ⟨l', hk, hR, hE, hT⟩ := hrel
    have HR := hide hR
    have HE := hide hE
    have HT := hide hT
    have c0 := hR.c0; have c1 := hR.c1; have f1 := hR.f1
    have hps := pos_le s l'
    have hs := hR.short
    have hsuf := hR.suf
    clear hR hE hT
    cases l' with
    | nil =>
      have hend : ¬ pos s [] < s.size := by simp [pos]
      go_wp2
      go_quiet (fail)
      go_wp2
      go_end0
      refine ⟨rfl, ?_, HT.out.drewN _⟩
      have : Wk wr p s [] n k := HR.out
      rw [← HE.out]
      exact this.drewN _
    | cons c t =>
      obtain ⟨hlt, hget⟩ := raw_get hsuf
      have HS := hide hsuf
      clear hsuf
      by_cases hb : c = 32 ∨ c = 10
      · have HQ : Hid (skip t = skip l) := by show _ = _; rw [← HE.out, skip, skip, skip_blank hb]
        have HM : Hid (∀ q, Wk ((wr.drewN q).setCell ⟨p, 1, none⟩ (.int .i64 ((pos s (c :: t) : Int) + 1))) p s t n k) := fun q => (HR.out.drewN q).moved (m := 1) (by simp) rfl
        have HN := hide (by simpa using hk : t.length + 1 < gk)
        rcases hb with rfl | rfl
        all_goals
          generalize pos s (_ :: t) = j at *
          go_wp2
          go_quiet (fail)
          go_wp2
          go_quiet (fail)
          go_wp2
          go_roundg (t.length + 1)
          case measure => exact HN.out
          case rel => exact ⟨t, by omega, HM.out _, HQ.out, (HT.out.drewN _).moved _ _⟩
      · by_cases h37 : c = 37
        · subst h37
          have HQ : Hid (skipM true (37 :: t) = skip l) := by show _ = _; rw [← HE.out, skip, skip_note, note_on (by decide)]
          have HN := hide (by simpa using hk : t.length + 1 < gk)
          have HRR := hide (fun q => HR.out.drewN q)
          generalize hj : pos s (37 :: t) = j at *
          clear hj
          go_wp2
          go_quiet (fail)
          go_wp2
          go_quiet (fail)
          go_wp2
          go_loopg [] (t.length + 2) (fun g wr2 => ∃ l2, l2.length < g ∧ (l2 = 37 :: t ∨ l2.length ≤ t.length) ∧ Wk wr2 p s l2 n k ∧ skipM true l2 = skip l ∧ Tn p w wr2)
          case atStart => exact ⟨37 :: t, by simp, Or.inl rfl, HR.out.drewN _, HQ.out, HT.out.drewN _⟩
          case round =>
            obtain ⟨l2, hk2, ho2, hR2, hE2, hT2⟩ := hrel
            have HR2 := hide hR2
            have HE2 := hide hE2
            have HT2 := hide hT2
            have e0 := hR2.c0; have e1 := hR2.c1; have g1 := hR2.f1
            have hps2 := pos_le s l2
            have hsuf2 := hR2.suf
            clear hR2 hE2 hT2 c0 c1 f1 hlt hget
            cases l2 with
            | nil =>
              have hend : ¬ pos s [] < s.size := by simp [pos]
              have HG : Hid (skip [] = skip l) := by show _ = _; rw [← HE2.out]; rfl
              clear ho2 hk2
              generalize pos s [] = i at *
              go_wp2
              go_quiet (fail)
              go_wp2
              go_roundg (0 + 1)
              case measure => have := HN.out; omega
              case rel => exact ⟨[], by simp, HR2.out.drewN _, HG.out, HT2.out.drewN _⟩
            | cons d u =>
              obtain ⟨hlt2, hget2⟩ := raw_get hsuf2
              by_cases hd : d = 10
              · subst hd
                have HG : Hid (skip (10 :: u) = skip l) := by show _ = _; rw [← HE2.out, note_end, skip, skip_blank (Or.inr rfl)]
                have HM : Hid ((10 :: u : Bs).length ≤ t.length) := ho2.elim (fun e => by cases e) id
                clear ho2 hk2 hsuf2
                generalize hi : pos s (10 :: u) = i at *
                clear hi
                go_wp2
                go_quiet (fail)
                go_wp2
                go_roundg ((10 :: u : Bs).length + 1)
                case measure => have := HN.out; have := HM.out; omega
                case rel => exact ⟨10 :: u, by omega, HR2.out.drewN _, HG.out, HT2.out.drewN _⟩
              · have HG : Hid (skipM true u = skip l) := by show _ = _; rw [← HE2.out, note_on hd]
                have m1 : ((d.toNat : Int) == 10) = false := byte_ne (d := 10) hd
                have HM : Hid (u.length ≤ t.length) := by
                  show _ ≤ _
                  rcases ho2 with e | e
                  · cases e; exact Nat.le_refl _
                  · simp at e; omega
                have HMv : Hid (∀ q, Wk ((wr.drewN q).setCell ⟨p, 1, none⟩ (.int .i64 ((pos s (d :: u) : Int) + 1))) p s u n k) := fun q => (HR2.out.drewN q).moved (m := 1) (by simp) rfl
                have HK := hide (by simpa using hk2 : u.length + 1 < gk)
                clear ho2 hk2 hsuf2 hd
                generalize hi : pos s (d :: u) = i at *
                clear hi
                go_wp2
                go_quiet (fail)
                go_wp2
                go_roundg (u.length + 1)
                case measure => exact HK.out
                case rel => exact ⟨u, by omega, Or.inr HM.out, HMv.out _, HG.out, (HT2.out.drewN _).moved _ _⟩
        · have HQ : Hid (c :: t = skip l) := by show _ = _; rw [← HE.out, skip, skip_other hb h37]
          have n1 : ((c.toNat : Int) == 32) = false := byte_ne (d := 32) (fun e => hb (Or.inl e))
          have n2 : ((c.toNat : Int) == 10) = false := byte_ne (d := 10) (fun e => hb (Or.inr e))
          have n3 : ((c.toNat : Int) == 37) = false := byte_ne (d := 37) h37
          clear hb h37
          generalize pos s (c :: t) = j at *
          go_wp2
          go_quiet (fail)
          go_wp2
          go_quiet (fail)
          go_wp2
          first | go_end0 | refine bodyPost_ret (results_none rfl _ _ _) rfl ?_
          refine ⟨rfl, ?_, HT.out.drewN _⟩
          rw [← HQ.out]
          exact HR.out.drewN _

end Go.Proofs.Ytehipkidohomeaa
