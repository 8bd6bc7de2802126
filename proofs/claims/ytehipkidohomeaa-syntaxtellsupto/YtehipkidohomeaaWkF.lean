/- The walk of the reference's Parse. -/
import Derived.Test.YtehipkidohomeaaWkD
import Derived.RegionTactic
import Derived.ChangeAlike
namespace Go.Proofs.Ytehipkidohomeaa
open Go.RowKit Go.Sort

theorem appendProg {lo : Nat} {w : World} {v : Value} {l : List RuleD} (h : ruleK.own 56 lo w v l) {c : List Value} {x : RuleD} (hc : ruleK.is (fun k => lo ≤ k ∧ v.ownBlock ≠ some k) w c x) (hl : l.length + 1 ≤ 1099511627776) (hlo : lo ≤ w.heap.size) :
    ∃ v' w', (Builtin.append_ #[43, 43] 43 #[v, .slice (some ⟨w.heap.size, 0, none⟩) 1 1]).run Try.prog (w.alloc (.cells c.toArray 56)) = .ok v' w' ∧ ruleK.own 56 lo w' v' (l ++ [x]) ∧ (w.alloc (.cells c.toArray 56)).grownBy w' v.ownBlock := by
  obtain ⟨i, i1, i2, i3, i4⟩ := infoRule
  exact Kind.own_append h Try.underlying43 i1 i2 i3 i4 rfl (by decide) (by decide) hc hl hlo

abbrev zeroRow (w : World) (R : Nat) : Prop := w.heap[R]? = some (.cells #[.int .i64 0, .int .i64 0] 30 (0, 0))
theorem fault_at {w : World} {R : Nat} {u0 u1 : Value} {t : TypeId} {fr : Nat × Nat} (h : w.heap[R]? = some (.cells #[u0, u1] t fr)) (x y : Value) :
    ((w.setCell ⟨R, 0, none⟩ x).setCell ⟨R, 1, none⟩ y).cell? ⟨R, 0, none⟩ = some x ∧ ((w.setCell ⟨R, 0, none⟩ x).setCell ⟨R, 1, none⟩ y).cell? ⟨R, 1, none⟩ = some y := by
  have h2 := setCell_at (j := 1) (setCell_at (j := 0) h x) y
  exact ⟨by rw [cell_of_row _ _ _ _ _ _ h2]; rfl, by rw [cell_of_row _ _ _ _ _ _ h2]; rfl⟩

/-- A walk, made. -/
theorem wkMade (w : World) (s : ByteArray) (hs : s.size ≤ 3000) : Wk (w.alloc (.cells #[.string s, .int .i64 0, .int .i64 0, .int .i64 0] 87)) w.heap.size s (raw s) 0 0 := by
  have hp : pos s (raw s) = 0 := by simp [pos, length_raw]
  refine ⟨hs, List.suffix_refl _, by simp, by simp, by rw [hp]; simp, by simp, by simp, ?_, ?_, ?_⟩
  all_goals exact frozen_at _ (heap_alloc_new w _)

theorem rulesGo_step {k : Nat} {out : List RuleD} {l : Bs} (hs : skip l = l) (hl : l ≠ []) : rulesGo (k + 1) out l = (rule l).next fun a r => rulesGo k (out ++ [a]) r := by
  rw [rulesGo, if_neg (by rw [hs]; exact hl), hs]
theorem rulesGo_many {out : List RuleD} {l : Bs} (hs : skip l = l) (hl : l ≠ []) : rulesGo 0 out l = .bad 5 l := by
  unfold rulesGo; rw [if_neg (by rw [hs]; exact hl), hs]
/-- What the loop over rules keeps. -/
def RulesR (w : World) (s : ByteArray) (g : Nat) (v : Value) (wr : World) : Prop :=
  ∃ out, ruleK.own 56 (w.heap.size + 2) wr v out ∧ Below w.heap.size w wr ∧ zeroRow wr w.heap.size ∧ out.length ≤ 16 ∧
    ((∃ l', g = 17 - out.length ∧ Wk wr (w.heap.size + 1) s l' 0 0 ∧ skip l' = l' ∧ rulesGo 16 [] (raw s) = rulesGo (16 - out.length) out l') ∨
     ∃ n r l', n ≠ 0 ∧ Wk wr (w.heap.size + 1) s l' n (pos s r) ∧ rulesGo 16 [] (raw s) = .bad n r)

/-- Where the loop ends. -/
def RulesE (w : World) (s : ByteArray) (v : Value) (wr : World) : Prop :=
  ∃ out, ruleK.own 56 (w.heap.size + 2) wr v out ∧ Below w.heap.size w wr ∧ zeroRow wr w.heap.size ∧ out.length ≤ 16 ∧
    ((∃ l', Wk wr (w.heap.size + 1) s l' 0 0 ∧ toldRule (raw s) = (out, 0, 0)) ∨ ∃ n r l', n ≠ 0 ∧ Wk wr (w.heap.size + 1) s l' n (pos s r) ∧ toldRule (raw s) = ([], n, pos s r))

theorem told_bad {s : ByteArray} {n : Int} {r : Bs} (hs : s.size ≤ 3000) (h : rulesGo 16 [] (raw s) = .bad n r) : toldRule (raw s) = ([], n, pos s r) := by
  unfold toldRule; rw [if_neg (by rw [length_raw]; omega), h, length_raw]; rfl
theorem told_good {s : ByteArray} {out : List RuleD} {r : Bs} (hs : s.size ≤ 3000) (h : rulesGo 16 [] (raw s) = .ok out r) : toldRule (raw s) = (out, 0, 0) := by
  unfold toldRule; rw [if_neg (by rw [length_raw]; omega), h]

theorem rule_bad {l : Bs} {n : Int} {r : Bs} (h : atom l = .bad n r) : rule l = .bad n r := by unfold rule; rw [h]; rfl
theorem rule_ok {l : Bs} {a : AtomD} {r : Bs} (h : atom l = .ok a r) : rule l = if (took [58, 45] r).1 then (body (took [58, 45] r).2).next fun b r => mustTake [46] ⟨a, b⟩ r else mustTake [46] ⟨a, []⟩ (took [58, 45] r).2 := by unfold rule; rw [h]; rfl

/-- A row of rules of the call's own, all that it leads to lying below B. -/
def OwnB (lo B : Nat) (w : World) (v : Value) (l : List RuleD) : Prop :=
  ∃ xs, w.ownsRow lo 56 4 v l.length xs ∧ (∀ k, v.ownBlock = some k → k < B) ∧ ∀ i x, l[i]? = some x → ∃ c, ruleK.is (fun k => lo ≤ k ∧ v.ownBlock ≠ some k ∧ k < B) w c x ∧ ∀ j u, c[j]? = some u → xs[i * 4 + j]? = some u
theorem OwnB.own {lo B : Nat} {w : World} {v : Value} {l : List RuleD} (h : OwnB lo B w v l) : ruleK.own 56 lo w v l := by
  obtain ⟨xs, ho, _, hx⟩ := h
  exact ⟨xs, ho, fun i x hi => by obtain ⟨c, c1, c2⟩ := hx i x hi; exact ⟨c, ruleK.mono c1 fun k _ hk => ⟨hk.1, hk.2.1⟩, c2⟩⟩
theorem OwnB.of_own {lo B : Nat} {w : World} {v : Value} {l : List RuleD} (h : ruleK.own 56 lo w v l) (hB : w.heap.size ≤ B) : OwnB lo B w v l := by
  have hlt := fun k (e : v.ownBlock = some k) => (Kind.own_lt h e).2
  obtain ⟨xs, ho, hx⟩ := h
  exact ⟨xs, ho, fun k e => Nat.lt_of_lt_of_le (hlt k e) hB, fun i x hi => by obtain ⟨c, c1, c2⟩ := hx i x hi; exact ⟨c, ruleK.mono c1 fun k hk hh => ⟨hh.1, hh.2, Nat.lt_of_lt_of_le hk hB⟩, c2⟩⟩
theorem OwnB.kept {lo B : Nat} {w w' : World} {v : Value} {l : List RuleD} (h : OwnB lo B w v l) (hs : w.heap.size ≤ w'.heap.size) (hk : ∀ k, lo ≤ k → k < B → k < w.heap.size → w'.heap[k]? = w.heap[k]?) : OwnB lo B w' v l := by
  obtain ⟨xs, ho, hb, hx⟩ := h
  refine ⟨xs, ⟨ho.1, ?_⟩, hb, fun i x hi => ?_⟩
  · rcases ho.2 with e | ⟨g, cap, cur, rfl, hbg, hg, r⟩
    · exact Or.inl e
    · exact Or.inr ⟨g, cap, cur, rfl, hbg, by rw [hk g hbg (hb g rfl) (Array.getElem?_eq_some_iff.1 hg).1]; exact hg, r⟩
  · obtain ⟨c, c1, c2⟩ := hx i x hi
    exact ⟨c, ruleK.kept c1 hs fun k hk1 hh => hk k hh.1 hh.2.2 hk1, c2⟩

/-- A rule that is being made. -/
structure RBox (w0 : World) (B : Nat) (a : AtomD) (tv bv : Value) (bl : List AtomD) (v : Value) (out : List RuleD) (w : World) : Prop where
  bel : Below w0.heap.size w0 w
  zero : zeroRow w w0.heap.size
  hB : w0.heap.size + 1 < B
  row : w.heap[B]? = some (.cells #[.bool a.no, .string (bs a.name), tv, bv] 56 (0, 0))
  ownB : OwnB (w0.heap.size + 2) B w v out
  ts : termK.sl (fun k => w0.heap.size + 2 ≤ k ∧ v.ownBlock ≠ some k ∧ k ≠ B) w tv a.terms
  bs' : atomK.sl (fun k => w0.heap.size + 2 ≤ k ∧ v.ownBlock ≠ some k ∧ k ≠ B) w bv bl

theorem RBox.own {w0 : World} {B : Nat} {a : AtomD} {tv bv : Value} {bl : List AtomD} {v : Value} {out : List RuleD} {w : World} (h : RBox w0 B a tv bv bl v out w) : ruleK.own 56 (w0.heap.size + 2) w v out := h.ownB.own
theorem RBox.z {w0 : World} {B : Nat} {a : AtomD} {tv bv : Value} {bl : List AtomD} {v : Value} {out : List RuleD} {w : World} (h : RBox w0 B a tv bv bl v out w) : w.cell? ⟨B, 0, none⟩ = some (.bool a.no) ∧ w.cell? ⟨B, 1, none⟩ = some (.string (bs a.name)) ∧ w.cell? ⟨B, 2, none⟩ = some tv ∧ w.cell? ⟨B, 3, none⟩ = some bv :=
  ⟨by rw [cell_of_row _ _ _ _ _ _ h.row]; rfl, by rw [cell_of_row _ _ _ _ _ _ h.row]; rfl, by rw [cell_of_row _ _ _ _ _ _ h.row]; rfl, by rw [cell_of_row _ _ _ _ _ _ h.row]; rfl⟩
theorem RBox.turned {w0 : World} {B : Nat} {a : AtomD} {tv bv : Value} {bl : List AtomD} {v : Value} {out : List RuleD} {w w' : World} (h : RBox w0 B a tv bv bl v out w) (k : Tn (w0.heap.size + 1) w w') : RBox w0 B a tv bv bl v out w' := by
  have hb := h.hB
  have hlt : B < w.heap.size := (Array.getElem?_eq_some_iff.1 h.row).1
  exact ⟨below_trans h.bel (k.below (n := w0.heap.size) (by omega) h.bel.size) (Nat.le_refl _), by show _ = _; rw [k.block _ (by omega) (by omega)]; exact h.zero, hb, by rw [k.block _ hlt (by omega)]; exact h.row, h.ownB.kept k.size (fun i h1 _ h3 => k.block i h3 (by omega)),
    Kind.sl_kept h.ts k.size fun i hi hB => k.block i hi (by have := hB.1; omega), Kind.sl_kept h.bs' k.size fun i hi hB => k.block i hi (by have := hB.1; omega)⟩

/-- need, beside the rule's box. -/
theorem needB {w0 w : World} {B : Nat} {a : AtomD} {tv bv v : Value} {bl : List AtomD} {out : List RuleD} {s : ByteArray} {lN : Bs} {n k : Int} {Y : Res RuleD} (hW : Wk w (w0.heap.size + 1) s lN n k) (hR : RBox w0 B a tv bv bl v out w)
    (hD : (n = 0 ∧ k = 0 ∧ Y = mustTake [46] ⟨a, bl⟩ lN) ∨ (n ≠ 0 ∧ ∃ r2, k = pos s r2 ∧ Y = .bad n r2)) :
    Calls Try.prog 80 #[.pointer (some ⟨w0.heap.size + 1, 0, none⟩), .string (bs [46])] w fun e w' => e = .returned (.tuple #[]) ∧ ∃ l9 n9 k9, Wk w' (w0.heap.size + 1) s l9 n9 k9 ∧ RBox w0 B a tv bv bl v out w' ∧ ((n9 = 0 ∧ k9 = 0 ∧ Y = .ok ⟨a, bl⟩ l9) ∨ (n9 ≠ 0 ∧ ∃ r2, k9 = pos s r2 ∧ Y = .bad n9 r2)) := by
  rcases hD with ⟨rfl, rfl, hY⟩ | ⟨hn, r2, rfl, hY⟩
  · refine (wNeed _ s lN [46] w (by decide) hW).mono fun e w' ⟨he, hW', hT⟩ => ⟨he, ?_⟩
    unfold mustTake at hY
    cases ht : (took [46] lN).1
    · rw [ht] at hY hW'
      exact ⟨_, _, _, hW', hR.turned hT, Or.inr ⟨by decide, _, rfl, hY⟩⟩
    · rw [ht] at hY hW'
      exact ⟨_, _, _, hW', hR.turned hT, Or.inl ⟨rfl, rfl, hY⟩⟩
  · refine (wNeedNot _ s lN [46] n (pos s r2) w hW hn).mono fun e w' ⟨he, hww⟩ => ⟨he, ?_⟩
    rw [hww]
    exact ⟨_, _, _, hW, hR, Or.inr ⟨hn, r2, rfl, hY⟩⟩

theorem ruleOwn_set {w0 w : World} {B : Nat} {a : AtomD} {tv bv v : Value} {bl : List AtomD} {out : List RuleD} (h : RBox w0 B a tv bv bl v out w) (x : Value) : OwnB (w0.heap.size + 2) B (w.setCell ⟨B, 3, none⟩ x) v out :=
  h.ownB.kept (by rw [size_setCell]; exact Nat.le_refl _) fun k _ hk _ => heap_setCell_other _ _ _ (by show k ≠ B; omega)

/-- One rule more. -/
theorem ruleMore {w0 w : World} {B : Nat} {a : AtomD} {tv bv v : Value} {bl : List AtomD} {out : List RuleD} {s : ByteArray} {l : Bs} {n k : Int} (h : RBox w0 B a tv bv bl v out w) (hW : Wk w (w0.heap.size + 1) s l n k) (hl : out.length ≤ 16) :
    ∃ v' w', (Builtin.append_ #[43, 43] 43 #[v, .slice (some ⟨w.heap.size, 0, none⟩) 1 1]).run Try.prog (w.alloc (.cells #[.bool a.no, .string (bs a.name), tv, bv] 56)) = .ok v' w' ∧ ruleK.own 56 (w0.heap.size + 2) w' v' (out ++ [⟨a, bl⟩]) ∧ Below w0.heap.size w0 w' ∧ zeroRow w' w0.heap.size ∧ Wk w' (w0.heap.size + 1) s l n k := by
  have hlt := hW.lt
  obtain ⟨v', w', hrun, ho, hg⟩ := appendProg h.own (c := [.bool a.no, .string (bs a.name), tv, bv]) (x := ⟨a, bl⟩) ⟨tv, bv, rfl, Kind.sl_mono h.ts fun k _ hk => ⟨hk.1, hk.2.1⟩, Kind.sl_mono h.bs' fun k _ hk => ⟨hk.1, hk.2.1⟩⟩ (by omega) (by omega)
  have hgs := hg.size
  simp only [World.size_alloc] at hgs
  have hb : ∀ i, i < w0.heap.size + 2 → w'.heap[i]? = w.heap[i]? := fun i hi => by
    rw [hg.block i (by simp; omega) (fun e => by have := (Kind.own_lt h.own e.symm).1; omega), Below.heap_alloc _ _ _ (by omega)]
  refine ⟨v', w', hrun, ho, ⟨hg.os.trans h.bel.os, hg.tape.trans h.bel.tape, hg.output.trans h.bel.output, by have := h.bel.size; omega, fun i hi => (hb i (by omega)).trans (h.bel.block i hi)⟩, (hb _ (by omega)).trans h.zero, hW.block (hb _ (by omega))⟩

theorem rulesNext {w w10 w11 : World} {s : ByteArray} {v : Value} {out : List RuleD} {a : RuleD} {l' l9 : Bs} {n k : Int} (hO : ruleK.own 56 (w.heap.size + 2) w10 v (out ++ [a])) (hB : Below w.heap.size w w10) (hz : zeroRow w10 w.heap.size) (hp : w.heap.size + 1 < w10.heap.size) (hlen : out.length ≤ 16) (h16 : ¬ out.length = 16)
    (hW : Wk w11 (w.heap.size + 1) s (skip l9) n k) (hT : Tn (w.heap.size + 1) w10 w11) (hG : rulesGo 16 [] (raw s) = (rule l').next fun a r => rulesGo (15 - out.length) (out ++ [a]) r)
    (hD : (n = 0 ∧ k = 0 ∧ rule l' = .ok a l9) ∨ (n ≠ 0 ∧ ∃ r2, k = pos s r2 ∧ rule l' = .bad n r2)) : RulesR w s (16 - out.length) v w11 := by
  refine ⟨out ++ [a], Kind.own_turned hO hT (by omega), below_trans hB (hT.below (n := w.heap.size) (by omega) (by omega)) (Nat.le_refl _), by show _ = _; rw [hT.block _ (by omega) (by omega)]; exact hz, by simp; omega, ?_⟩
  rcases hD with ⟨rfl, rfl, h⟩ | ⟨hn, r2, rfl, h⟩
  · refine Or.inl ⟨skip l9, by simp <;> omega, hW, skip_skip _ _, ?_⟩
    rw [hG, h]
    show rulesGo (15 - out.length) (out ++ [a]) l9 = _
    rw [List.length_append, List.length_cons, List.length_nil, show 16 - (out.length + (0 + 1)) = 15 - out.length by omega]
    exact rulesGo_skip _ _ (skip_skip _ _).symm
  · exact Or.inr ⟨n, r2, _, hn, hW, by rw [hG, h]; rfl⟩

set_option maxRecDepth 100000 in
set_option maxHeartbeats 4000000 in
theorem rParse (s : ByteArray) (w : World) (hmax : s.size ≤ 9223372036854775807) :
    Calls Try.prog 33 #[.string s] w fun e w' => ∃ v, e = .returned (.tuple #[v, .agg #[.int .i64 (toldRule (raw s)).2.1, .int .i64 ((toldRule (raw s)).2.2 : Nat)]]) ∧ ruleK.sl (From w.heap.size) w' v (toldRule (raw s)).1 ∧ Below w.heap.size w w' := by
  by_cases hbig : 3000 < s.size
  · have F : Hid (toldRule (raw s) = ([], 4, 0)) := by show _ = _; unfold toldRule; rw [if_pos (by rw [length_raw]; exact hbig)]
    have hbz : (3000 : Int) < (s.size : Int) := by omega
    go_enter Try.func33, Try.ntmps33
    go_wp2
    refine bodyPost_ret (v := .tuple #[.slice none 0 0, .agg #[.int .i64 4, .int .i64 0]]) (by simp [results, Try.results33, go_sem]) rfl ⟨.slice none 0 0, by rw [F.out]; rfl, by rw [F.out]; exact ruleK.sl_nil _ _ _ _, ((by repeat (first | exact Later.refl _ | assumption | refine Later.drewN ?_ _ | refine Later.drew ?_ | refine Later.alloc ?_ _ | refine Later.grow ?_ _)) : Later w _).below⟩
  · have hs : s.size ≤ 3000 := by omega
    have hbz : ¬ (3000 : Int) < (s.size : Int) := by omega
    have hW0 := wkMade (w.alloc (.cells #[.int .i64 0, .int .i64 0] 30)) s hs
    rw [World.size_alloc] at hW0
    have HS := hide (wSkip _ s _ 0 0 _ hW0)
    have hz0 : zeroRow ((w.alloc (.cells #[.int .i64 0, .int .i64 0] 30)).alloc (.cells #[.string s, .int .i64 0, .int .i64 0, .int .i64 0] 87)) w.heap.size := by show _ = _; rw [Below.heap_alloc _ _ _ (by simp), heap_alloc_new]
    have hB0 := (((Later.refl w).alloc (.cells #[.int .i64 0, .int .i64 0] 30)).alloc (.cells #[.string s, .int .i64 0, .int .i64 0, .int .i64 0] 87)).below
    have hsz0 : ((w.alloc (.cells #[.int .i64 0, .int .i64 0] 30)).alloc (.cells #[.string s, .int .i64 0, .int .i64 0, .int .i64 0] 87)).heap.size = w.heap.size + 2 := by simp
    clear hW0
    go_enter Try.func33, Try.ntmps33
    go_wp2_with fail
    refine HS.out.mono ?_
    rintro e w1 ⟨rfl, hW1, hT1⟩
    have HR0 : Hid (RulesR w s 17 (.slice none 0 0) w1) := by
      refine ⟨[], ruleK.own_nil _ _ _, below_trans hB0 (hT1.below (n := w.heap.size) (by omega) (by omega)) (Nat.le_refl _), ?_, by simp, Or.inl ⟨skip (raw s), rfl, hW1, skip_skip _ _, ?_⟩⟩
      · show _ = _; rw [hT1.block _ (by omega) (by omega)]; exact hz0
      · exact rulesGo_skip _ _ (skip_skip _ _).symm
    clear hW1 hT1 hz0 hB0 hsz0 HS
    go_wp2
    go_loopg [5] 17 (fun g v wr => Hid (RulesR w s g v wr))
    case atStart => exact HR0
    case round =>
      clear HR0
      obtain ⟨out, hO, hBl, hz, hlen, ⟨l', hg, hW, hsk, hE⟩ | ⟨n, r, l', hn, hW, hE⟩⟩ := hrel.out
      · obtain ⟨ao, co, rfl⟩ := Kind.own_slice hO
        clear hrel
        have c1 := hW.c1
        have hpw : w.heap.size + 1 < wr.heap.size := hW.lt
        have hll := len_le hW.suf
        have hpp : pos s l' + l'.length = s.size := by simp only [pos]; omega
        by_cases hl : l' = []
        · have HTd : Hid (toldRule (raw s) = (out, 0, 0)) := told_good hs (hE.trans (rulesGo_end _ _ (by rw [hl]; rfl)))
          have hcz : ¬ ((pos s l' : Nat) : Int) < (s.size : Int) := by rw [hl] at hpp ⊢; simp at hpp ⊢; omega
          have hWx := hW
          have hzx := hz
          have hBx := hBl
          have HSl := hide (Kind.own_sl hO (by omega))
          clear hW hz hBl hO hE hsk hl hpp hll
          have q0 : wr.cell? ⟨w.heap.size, 0, none⟩ = some (.int .i64 0) := by rw [cell_of_row _ _ _ _ _ _ hzx]; rfl
          have q1 : wr.cell? ⟨w.heap.size, 1, none⟩ = some (.int .i64 0) := by rw [cell_of_row _ _ _ _ _ _ hzx]; rfl
          have p0 : wr.frozen? ⟨w.heap.size, 0, none⟩ = false := frozen_at 0 hzx
          have p1 : wr.frozen? ⟨w.heap.size, 1, none⟩ = false := frozen_at 1 hzx
          have HOkx := hide (wOk _ s _ _ _ wr hWx)
          have HZx := hide hzx
          have HBx := hide hBx
          clear hWx hzx hBx
          go_wp2_with (first
            | (go_at_call 75; refine HOkx.out.mono ?_; rintro e w' ⟨rfl, hww⟩; rw [hww]; clear hww w'))
          obtain ⟨r0, r1⟩ := fault_at HZx.out (.int .i64 0) (.int .i64 0)
          refine bodyPost_ret (v := .tuple #[.slice ao out.length co, .agg #[.int .i64 0, .int .i64 0]]) (by simp [results, Try.results33, go_sem, r0, r1]) rfl ⟨.slice ao out.length co, by rw [HTd.out]; rfl, ?_, ?_⟩
          · rw [HTd.out]
            have h1 : ruleK.sl (fun k => w.heap.size ≤ k ∧ k ≠ w.heap.size) wr (.slice ao out.length co) out := Kind.sl_mono HSl.out fun k _ hk => by have : w.heap.size + 2 ≤ k := hk; exact ⟨by omega, by omega⟩
            exact Kind.sl_mono (Kind.sl_kept h1 (by simp only [size_setCell]; exact Nat.le_refl _) (fun k _ hk => by rw [heap_setCell_other _ _ _ hk.2, heap_setCell_other _ _ _ hk.2])) fun _ _ hk => hk.1
          · exact (HBx.out.setCell (p := ⟨w.heap.size, 0, none⟩) (Nat.le_refl _) _).setCell (p := ⟨w.heap.size, 1, none⟩) (Nat.le_refl _) _
        · have hcz : ((pos s l' : Nat) : Int) < (s.size : Int) := by have : 0 < l'.length := List.length_pos_iff.2 hl; omega
          have HOk := hide (wOk _ s l' 0 0 wr hW)
          by_cases h16 : out.length = 16
          · have HSt := hide (wStop _ s l' 5 wr hW)
            have HTd0 : Hid (toldRule (raw s) = ([], 5, pos s l')) := told_bad hs (by rw [hE, h16]; exact rulesGo_many hsk hl)
            have h16z : (16 : Int) ≤ (out.length : Int) := by omega
            have HZ := hide hz
            have HBl := hide hBl
            clear hW hz hBl hO hE hsk hl hpp hll h16
            go_wp2_with (first
              | (go_at_call 75; refine HOk.out.mono ?_; rintro e w' ⟨rfl, hww⟩; rw [hww]; clear hww w')
              | fail)
            refine HSt.out.mono ?_
            rintro e w2 ⟨rfl, hWx, hT2⟩
            have hzx : zeroRow w2 w.heap.size := by show _ = _; rw [hT2.block _ (by omega) (by omega)]; exact HZ.out
            have hBx : Below w.heap.size w w2 := below_trans HBl.out (hT2.below (n := w.heap.size) (by omega) (by omega)) (Nat.le_refl _)
            obtain ⟨n, hn5⟩ : ∃ n : Int, n = 5 := ⟨_, rfl⟩
            obtain ⟨r, hr5⟩ : ∃ r, r = l' := ⟨_, rfl⟩
            have hn : n ≠ 0 := by omega
            have HTd : Hid (toldRule (raw s) = ([], n, pos s r)) := by show _ = _; rw [hn5, hr5]; exact HTd0.out
            rw [← hn5, ← hr5] at hWx
            clear hn5 hr5 hT2 HTd0 HZ HBl HSt HOk c1 hpw hcz h16z
            have c2 := hWx.c2
            have c3 := hWx.c3
            have q0 : w2.cell? ⟨w.heap.size, 0, none⟩ = some (.int .i64 0) := by rw [cell_of_row _ _ _ _ _ _ hzx]; rfl
            have q1 : w2.cell? ⟨w.heap.size, 1, none⟩ = some (.int .i64 0) := by rw [cell_of_row _ _ _ _ _ _ hzx]; rfl
            have p0 : w2.frozen? ⟨w.heap.size, 0, none⟩ = false := frozen_at 0 hzx
            have p1 : w2.frozen? ⟨w.heap.size, 1, none⟩ = false := frozen_at 1 hzx
            have hpl2 : w.heap.size + 1 < w2.heap.size := hWx.lt
            have HOkx := hide (wOk _ s _ _ _ w2 hWx)
            rw [show (n == 0) = false by simpa using hn] at HOkx
            have HZx := hide hzx
            have HBx := hide hBx
            clear hWx hzx hBx
            go_wp2_with (first
              | (go_at_call 75; refine HOkx.out.mono ?_; rintro e w' ⟨rfl, hww⟩; rw [hww]; clear hww w'))
            go_region
            go_wp2
            obtain ⟨r0, r1⟩ := fault_at HZx.out (.int .i64 n) (.int .i64 (pos s r : Int))
            refine bodyPost_ret (v := .tuple #[.slice none 0 0, .agg #[.int .i64 n, .int .i64 (pos s r : Int)]]) (by simp [results, Try.results33, go_sem, r0, r1]) rfl ⟨.slice none 0 0, by rw [HTd.out], by rw [HTd.out]; exact ruleK.sl_nil _ _ _ _, ?_⟩
            exact ((HBx.out.setCell (p := ⟨w.heap.size, 0, none⟩) (Nat.le_refl _) _).setCell (p := ⟨w.heap.size, 1, none⟩) (Nat.le_refl _) _).drew
          · have h16z : ¬ (16 : Int) ≤ (out.length : Int) := by omega
            have HA := hide (wAtom _ s l' false wr hW)
            rw [if_neg (by simp)] at HA
            have HG : Hid (rulesGo 16 [] (raw s) = (rule l').next fun a r => rulesGo (15 - out.length) (out ++ [a]) r) := by
              show _ = _
              rw [hE, show 16 - out.length = (15 - out.length) + 1 by omega]
              exact rulesGo_step hsk hl
            have HZ := hide hz
            have HBl := hide hBl
            have HO := hide hO
            clear hW hz hBl hO hE hsk hl hpp hll
            go_wp2_with (first
              | (go_at_call 75; refine HOk.out.mono ?_; rintro e w' ⟨rfl, hww⟩; rw [hww]; clear hww w')
              | fail)
            refine HA.out.mono ?_
            intro e w6 ⟨hT6, hE6⟩
            obtain ⟨a6, lz, n, k, ⟨c, rfl, hK⟩, hW6, hres⟩ : ∃ a6 lz n k, (∃ c : List Value, e = .returned (.agg c.toArray) ∧ atomK.is (From wr.heap.size) w6 c a6) ∧ Wk w6 (w.heap.size + 1) s lz n k ∧ ((n = 0 ∧ k = 0 ∧ atom l' = .ok a6 lz) ∨ (n ≠ 0 ∧ ∃ r2, k = pos s r2 ∧ atom l' = .bad n r2)) := by
              cases hx : atom l' with
              | ok a r =>
                rw [hx] at hE6
                obtain ⟨v6, he, ⟨c, hv, hc⟩, hW⟩ := hE6
                exact ⟨a, r, 0, 0, ⟨c, by rw [he, hv], hc⟩, hW, Or.inl ⟨rfl, rfl, rfl⟩⟩
              | bad n r =>
                rw [hx] at hE6
                obtain ⟨v6, a, l2, he, ⟨c, hv, hc⟩, hW⟩ := hE6
                exact ⟨a, l2, n, _, ⟨c, by rw [he, hv], hc⟩, hW, Or.inr ⟨wrongs_atom _ _ _ hx, r, rfl, rfl⟩⟩
            clear hE6
            obtain ⟨tv, rfl, hts⟩ := hK
            obtain ⟨ta, tc, rfl⟩ := Kind.slice hts
            have hs6 := hT6.size
            have hB6 : Below w.heap.size w w6 := below_trans HBl.out (hT6.below (n := w.heap.size) (by omega) (by omega)) (Nat.le_refl _)
            have hO6 := Kind.own_turned HO.out hT6 (by omega)
            have hRB : RBox w w6.heap.size a6 (.slice ta a6.terms.length tc) (.slice none 0 0) [] (.slice ao out.length co) out (w6.alloc (.cells #[.bool a6.no, .string (bs a6.name), .slice ta a6.terms.length tc, .slice none 0 0] 56)) := by
              refine ⟨hB6.alloc hB6.size _, ?_, by omega, heap_alloc_new w6 _, (OwnB.of_own hO6 (Nat.le_refl _)).kept (by simp) (fun k _ _ hk => Below.heap_alloc _ _ _ hk), ?_, atomK.sl_nil _ _ _ _⟩
              · show _ = _
                rw [Below.heap_alloc _ _ _ (by omega), hT6.block _ (by omega) (by omega)]
                exact HZ.out
              · refine Kind.sl_kept (Kind.sl_mono hts fun k hk hB => ⟨by have : wr.heap.size ≤ k := hB; omega, fun e => by have h1 := (Kind.own_lt HO.out e).2; have : wr.heap.size ≤ k := hB; omega, by omega⟩) (by simp) fun k hk _ => Below.heap_alloc _ _ _ hk
            have hWB : Wk (w6.alloc (.cells #[.bool a6.no, .string (bs a6.name), .slice ta a6.terms.length tc, .slice none 0 0] 56)) (w.heap.size + 1) s lz n k := hW6.below ((Later.refl _).alloc _).below
            clear hts hT6 hB6 hO6 hW6 HA HOk HZ HBl HO c1 hcz
            have hpB : w.heap.size + 1 < w6.heap.size := by omega
            generalize hB : w6.heap.size = B at *
            rcases hres with ⟨rfl, rfl, hwd⟩ | ⟨hn, r2, rfl, hwd⟩
            · have HEa := hide (wEat _ s lz [58, 45] _ (by decide) hWB)
              have HRu := hide (rule_ok hwd)
              have HRB := hide hRB
              clear hwd hWB hRB
              go_wp2_with fail
              refine HEa.out.mono ?_
              rintro e w7 ⟨rfl, hW7, hT7⟩
              have hR7 := HRB.out.turned hT7
              clear hB HRB HEa hT7
              generalize hl7 : (took [58, 45] lz).2 = l7 at *
              cases ht7 : (took [58, 45] lz).1
              · have HD : Hid (rule l' = mustTake [46] ⟨a6, []⟩ l7) := by show _ = _; rw [HRu.out, ht7]; rfl
                have HWN := hide hW7
                have HRN := hide hR7
                clear hW7 hR7 HRu ht7 hl7
                go_wp2_with fail
                refine (needB HWN.out HRN.out (Or.inl ⟨rfl, rfl, HD.out⟩)).mono ?_
                rintro e w9 ⟨rfl, l9, n9, k9, hW9, hR9, hD9⟩
                obtain ⟨g0, g1, g2, g3⟩ := hR9.z
                have hB9 : B < w9.heap.size := (Array.getElem?_eq_some_iff.1 hR9.row).1
                obtain ⟨v10, w10, hrun, hO10, HB10, HZ10, hW10⟩ := ruleMore hR9 hW9 (by omega)
                have HO10 := hide hO10
                replace hrun := hide hrun
                have HSk := hide (wSkip _ s l9 n9 k9 w10 hW10)
                have hp10 : w.heap.size + 1 < w10.heap.size := hW10.lt
                clear hR9 hW9 hW10 hO10 HWN HRN HD
                go_wp2_with (first
                  | (at_builtin; refine wpList_append_run rfl (.tmp 44) (.tmp 46) 43 rfl _ _ _ _ rfl rfl (unhide hrun) ?_)
                  | fail)
                refine HSk.out.mono ?_
                rintro e w11 ⟨rfl, hW11, hT11⟩
                have HR11 : Hid (RulesR w s (16 - out.length) v10 w11) := rulesNext HO10.out HB10 HZ10 hp10 hlen h16 hW11 hT11 HG.out hD9
                clear hW11 hT11 HSk HO10 HB10 HZ10 hD9 g0 g1 g2 g3
                go_wp2
                go_roundg (16 - out.length)
                case measure => omega
                case rel => exact HR11
              · have HAt := hide (wAtoms _ s l7 w7 hW7)
                have hRu : rule l' = (body l7).next fun b r => mustTake [46] ⟨a6, b⟩ r := by rw [HRu.out, ht7]; rfl
                have HRu2 := hide hRu
                have HR7 := hide hR7
                clear hW7 hR7 HRu ht7 hl7 hRu
                go_wp2_with fail
                refine HAt.out.mono ?_
                intro e w8 ⟨hT8, hE8⟩
                obtain ⟨bl, l8, n, k, bv, rfl, hbv, hW8, hD8⟩ : ∃ bl l8 n k bv, e = .returned bv ∧ atomK.sl (From w7.heap.size) w8 bv bl ∧ Wk w8 (w.heap.size + 1) s l8 n k ∧ ((n = 0 ∧ k = 0 ∧ rule l' = mustTake [46] ⟨a6, bl⟩ l8) ∨ (n ≠ 0 ∧ ∃ r2, k = pos s r2 ∧ rule l' = .bad n r2)) := by
                  cases hx : body l7 with
                  | ok b r =>
                    rw [hx] at hE8
                    obtain ⟨v8, he, hb, hW⟩ := hE8
                    exact ⟨b, r, 0, 0, v8, he, hb, hW, Or.inl ⟨rfl, rfl, by rw [HRu2.out, hx]; rfl⟩⟩
                  | bad n r =>
                    rw [hx] at hE8
                    obtain ⟨v8, b, l2, he, hb, hW⟩ := hE8
                    exact ⟨b, l2, n, _, v8, he, hb, hW, Or.inr ⟨wrongs_listP wrongs_bodyAtom _ _ _ _ hx, r, rfl, by rw [HRu2.out, hx]; rfl⟩⟩
                have hR8 := HR7.out.turned hT8
                have hBlt : B < w7.heap.size := (Array.getElem?_eq_some_iff.1 HR7.out.row).1
                have h3 : w8.cell? ⟨B, 3, none⟩ = some (.slice none 0 0) := by rw [cell_of_row _ _ _ _ _ _ hR8.row]; rfl
                have f3 : w8.frozen? ⟨B, 3, none⟩ = false := frozen_at 3 hR8.row
                have hs8 := hT8.size
                have HRN : Hid (RBox w B a6 (.slice ta a6.terms.length tc) bv bl (.slice ao out.length co) out (w8.setCell ⟨B, 3, none⟩ bv)) := by
                  have ht := tn_own B 3 w8 bv
                  refine ⟨hR8.bel.setCell (p := ⟨B, 3, none⟩) (by show w.heap.size ≤ B; omega) _, ?_, hR8.hB, by rw [setCell_at hR8.row]; rfl, ?_, ?_, ?_⟩
                  · show _ = _; rw [ht.block _ (by omega) (by omega)]; exact hR8.zero
                  · exact ruleOwn_set hR8 bv
                  · exact Kind.sl_kept hR8.ts ht.size fun i hi hq => ht.block i hi hq.2.2
                  · refine Kind.sl_kept (Kind.sl_mono hbv fun i hi hq => ⟨by have : w7.heap.size ≤ i := hq; omega, fun e => by have h1 := (Kind.own_lt HR7.out.own e).2; have : w7.heap.size ≤ i := hq; omega, by have : w7.heap.size ≤ i := hq; omega⟩) ht.size fun i hi hq => ht.block i hi hq.2.2
                have HWN := hide (hW8.setOther (g := B) (j := 3) bv (by omega))
                have HD := hide hD8
                obtain ⟨ba, bc, rfl⟩ := Kind.slice hbv
                clear hbv hW8 hD8 hR8 hE8 hT8 HR7 HAt HRu2
                go_wp2_with fail
                clear h3 f3
                refine (needB HWN.out HRN.out HD.out).mono ?_
                rintro e w9 ⟨rfl, l9, n9, k9, hW9, hR9, hD9⟩
                obtain ⟨g0, g1, g2, g3⟩ := hR9.z
                have hB9 : B < w9.heap.size := (Array.getElem?_eq_some_iff.1 hR9.row).1
                obtain ⟨v10, w10, hrun, hO10, HB10, HZ10, hW10⟩ := ruleMore hR9 hW9 (by omega)
                have HO10 := hide hO10
                replace hrun := hide hrun
                have HSk := hide (wSkip _ s l9 n9 k9 w10 hW10)
                have hp10 : w.heap.size + 1 < w10.heap.size := hW10.lt
                clear hR9 hW9 hW10 hO10 HWN HRN HD
                go_wp2_with (first
                  | (at_builtin; refine wpList_append_run rfl (.tmp 44) (.tmp 46) 43 rfl _ _ _ _ rfl rfl (unhide hrun) ?_)
                  | fail)
                refine HSk.out.mono ?_
                rintro e w11 ⟨rfl, hW11, hT11⟩
                have HR11 : Hid (RulesR w s (16 - out.length) v10 w11) := rulesNext HO10.out HB10 HZ10 hp10 hlen h16 hW11 hT11 HG.out hD9
                clear hW11 hT11 HSk HO10 HB10 HZ10 hD9 g0 g1 g2 g3
                go_wp2
                go_roundg (16 - out.length)
                case measure => omega
                case rel => exact HR11
            · have HEa := hide (wEatNot _ s lz [58, 45] n (pos s r2) _ hWB hn)
              have HD : Hid ((n = 0 ∧ ((pos s r2 : Nat) : Int) = 0 ∧ rule l' = mustTake [46] ⟨a6, []⟩ lz) ∨ (n ≠ 0 ∧ ∃ r3, ((pos s r2 : Nat) : Int) = pos s r3 ∧ rule l' = .bad n r3)) := Or.inr ⟨hn, r2, rfl, rule_bad hwd⟩
              have HWN := hide hWB
              have HRN := hide hRB
              clear hwd hWB hRB
              go_wp2_with fail
              refine HEa.out.mono ?_
              rintro e w7 ⟨rfl, hww⟩
              rw [hww]
              clear hww w7
              go_wp2_with fail
              clear hB
              refine (needB HWN.out HRN.out HD.out).mono ?_
              rintro e w9 ⟨rfl, l9, n9, k9, hW9, hR9, hD9⟩
              obtain ⟨g0, g1, g2, g3⟩ := hR9.z
              have hB9 : B < w9.heap.size := (Array.getElem?_eq_some_iff.1 hR9.row).1
              obtain ⟨v10, w10, hrun, hO10, HB10, HZ10, hW10⟩ := ruleMore hR9 hW9 (by omega)
              have HO10 := hide hO10
              replace hrun := hide hrun
              have HSk := hide (wSkip _ s l9 n9 k9 w10 hW10)
              have hp10 : w.heap.size + 1 < w10.heap.size := hW10.lt
              clear hR9 hW9 hW10 hO10 HWN HRN HD
              go_wp2_with (first
                | (at_builtin; refine wpList_append_run rfl (.tmp 44) (.tmp 46) 43 rfl _ _ _ _ rfl rfl (unhide hrun) ?_)
                | fail)
              refine HSk.out.mono ?_
              rintro e w11 ⟨rfl, hW11, hT11⟩
              have HR11 : Hid (RulesR w s (16 - out.length) v10 w11) := rulesNext HO10.out HB10 HZ10 hp10 hlen h16 hW11 hT11 HG.out hD9
              clear hW11 hT11 HSk HO10 HB10 HZ10 hD9 g0 g1 g2 g3
              go_wp2
              go_roundg (16 - out.length)
              case measure => omega
              case rel => exact HR11
      · obtain ⟨ao, co, rfl⟩ := Kind.own_slice hO
        have HTd : Hid (toldRule (raw s) = ([], n, pos s r)) := told_bad hs hE
        have hWx := hW
        have hzx := hz
        have hBx := hBl
        clear hW hz hBl hO hE hrel
        have c2 := hWx.c2
        have c3 := hWx.c3
        have q0 : wr.cell? ⟨w.heap.size, 0, none⟩ = some (.int .i64 0) := by rw [cell_of_row _ _ _ _ _ _ hzx]; rfl
        have q1 : wr.cell? ⟨w.heap.size, 1, none⟩ = some (.int .i64 0) := by rw [cell_of_row _ _ _ _ _ _ hzx]; rfl
        have p0 : wr.frozen? ⟨w.heap.size, 0, none⟩ = false := frozen_at 0 hzx
        have p1 : wr.frozen? ⟨w.heap.size, 1, none⟩ = false := frozen_at 1 hzx
        have hpl2 : w.heap.size + 1 < wr.heap.size := hWx.lt
        have HOkx := hide (wOk _ s _ _ _ wr hWx)
        rw [show (n == 0) = false by simpa using hn] at HOkx
        have HZx := hide hzx
        have HBx := hide hBx
        clear hWx hzx hBx
        go_wp2_with (first
          | (go_at_call 75; refine HOkx.out.mono ?_; rintro e w' ⟨rfl, hww⟩; rw [hww]; clear hww w'))
        go_region
        go_wp2
        obtain ⟨r0, r1⟩ := fault_at HZx.out (.int .i64 n) (.int .i64 (pos s r : Int))
        refine bodyPost_ret (v := .tuple #[.slice none 0 0, .agg #[.int .i64 n, .int .i64 (pos s r : Int)]]) (by simp [results, Try.results33, go_sem, r0, r1]) rfl ⟨.slice none 0 0, by rw [HTd.out], by rw [HTd.out]; exact ruleK.sl_nil _ _ _ _, ?_⟩
        exact ((HBx.out.setCell (p := ⟨w.heap.size, 0, none⟩) (Nat.le_refl _) _).setCell (p := ⟨w.heap.size, 1, none⟩) (Nat.le_refl _) _).drew

end Go.Proofs.Ytehipkidohomeaa
