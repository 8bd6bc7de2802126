/- Texts of this claim, one behind the other. -/
import Derived.Test.YtkijmalapjiopaaGreatJ11
import Derived.Laws.StructEq
import Derived.Test.YtkijmalapjiopaaGreatJ5
import Derived.Test.YtkijmalapjiopaaGreatJ6
import Derived.Test.YtkijmalapjiopaaGreatJ7
/- The walks of match.risen, match.wrong, match.With and match.All. -/
namespace Go.Proofs.YtkijmalapjiopaaGreat
open Go.RowKit Go.Sort Go.Maps

theorem faultFrom_zero (l : List FactD) : ∀ (n k : Nat), (faultFrom l n k).1 = 0 → ∀ i, k ≤ i → i < k + n → wrongF (l.getD i noFact) = 0 ∧ (0 < i → cmpF (l.getD (i - 1) noFact) (l.getD i noFact) < 0)
  | 0, k, _, i, h1, h2 => by omega
  | n + 1, k, h, i, h1, h2 => by
    simp only [faultFrom] at h
    split at h
    · rename_i hw; exact absurd h hw
    · rename_i hw
      split at h
      · cases h
      · rename_i hc
        by_cases e : i = k
        · subst e
          refine ⟨Classical.byContradiction hw, fun h0 => ?_⟩
          exact Classical.byContradiction fun hn => hc ⟨h0, by omega⟩
        · exact faultFrom_zero l n (k + 1) h i (by omega) (by omega)

theorem rises_of {l : List FactD} (h : ∀ i, 0 < i → i < l.length → cmpF (l.getD (i - 1) noFact) (l.getD i noFact) < 0) : Rises l := by
  have key : ∀ (d i : Nat), i + d + 1 < l.length → cmpF (l.getD i noFact) (l.getD (i + d + 1) noFact) < 0 := by
    intro d
    induction d with
    | zero => intro i hi; have := h (i + 1) (by omega) (by omega); simpa using this
    | succ d ih =>
      intro i hi
      have h1 := ih i (by omega)
      have h2 := h (i + (d + 1) + 1) (by omega) hi
      have e : i + (d + 1) + 1 - 1 = i + d + 1 := by omega
      rw [e] at h2
      exact three_cmpF.trans _ _ _ h1 h2
  unfold Rises
  rw [List.pairwise_iff_getElem]
  intro i j hi hj hij
  have := key (j - i - 1) i (by omega)
  rw [show i + (j - i - 1) + 1 = j by omega] at this
  rw [List.getD_eq_getElem?_getD, List.getD_eq_getElem?_getD, List.getElem?_eq_getElem hi, List.getElem?_eq_getElem hj] at this
  exact this

/-- A set with which nothing is wrong. -/
theorem set_right {l : List FactD} (h : (setFault l).1 = 0) : l.length ≤ 200 ∧ Rises l ∧ ∀ f ∈ l, wrongF f = 0 := by
  unfold setFault at h
  split at h
  · simp at h
  · rename_i hl
    have hz := faultFrom_zero l l.length 0 h
    refine ⟨by omega, rises_of fun i h0 hi => (hz i (Nat.zero_le _) (by omega)).2 h0, fun f hf => ?_⟩
    obtain ⟨i, hi, e⟩ := List.getElem_of_mem hf
    have := (hz i (Nat.zero_le _) (by omega)).1
    rw [List.getD_eq_getElem?_getD, List.getElem?_eq_getElem hi] at this
    rw [← e]; exact this

theorem rises_nodup {l : List FactD} (h : Rises l) : l.Nodup := h.imp fun {a b} h1 e => by subst e; exact lt_irrefl h1

theorem row_block {lo : Nat} {ty : TypeId} {w w' : World} {v : Value} {n : Nat} {xs : List Value} (h : w.ownsRow lo ty 1 v n xs) (hk : ∀ k, v.ownBlock = some k → w'.heap[k]? = w.heap[k]?) : w'.ownsRow lo ty 1 v n xs := by
  refine ⟨h.1, ?_⟩
  rcases h.2 with e | ⟨g, cap, cur, rfl, hbg, hg, r⟩
  · exact Or.inl e
  · exact Or.inr ⟨g, cap, cur, rfl, hbg, by rw [hk g rfl]; exact hg, r⟩

set_option maxRecDepth 100000 in
set_option maxHeartbeats 2000000 in
theorem risenC (v : Value) (ps : List (Value × List BindD)) (lo : Nat) (w0 w : World) (h0 : Later w0 w) (hlo : w0.heap.size ≤ lo) (hv : Lists 24 34 lo w v ps) (hl : ps.length ≤ 20000) (hs : ∀ q ∈ ps, q.2.length ≤ 20) :
    Calls Tryz.prog 20 #[v] w fun e w' => e = .returned v ∧ listK.sl Anyw w' v (sortBy cmpBs (ps.map fun q => sortB q.2)) ∧ Later w0 w' := by
  obtain ⟨a, cap, rfl⟩ := hv.slice
  have hvl := fun k e => hv.lo_le k e
  obtain ⟨ho, hp, hpw⟩ := hv
  have HR := hide ho
  have HA : Hid (∀ q ∈ ps, apart q.1 (.slice a ps.length cap)) := fun q hq => (hp q hq).2
  have HOw : Hid (∀ q ∈ ps.drop 0, bindK.own 34 lo w q.1 q.2) := fun q hq => (hp q (by simpa using hq)).1
  have HPW := hide hpw
  have HS := hide hs
  have H0 := hide h0
  have HVL := hide hvl
  clear ho hp hpw hs h0 hvl
  go_enter Tryz.func20, Tryz.ntmps20
  go_wp2
  go_loopg [7] ps.length (fun gg i wr => ∃ j : Nat, j + gg = ps.length ∧ i = .int .i64 j ∧ Hid (wr.ownsRow lo 24 1 (.slice a ps.length cap) ps.length (ps.map (·.1))) ∧ Hid (∀ q ∈ ps.take j, bindK.sl (ofBlock q.1) wr q.1 (sortB q.2)) ∧ Hid (∀ q ∈ ps.drop j, bindK.own 34 lo wr q.1 q.2) ∧ Hid (Later w0 wr))
  case atStart => exact ⟨0, by omega, rfl, HR, (fun q hq => by simp at hq), HOw, H0⟩
  case round =>
    clear HR HOw H0
    obtain ⟨j, hj, rfl, HR, HT, HOw, HL⟩ := hrel
    by_cases hlt : j < ps.length
    · obtain ⟨q, hq⟩ : ∃ q, ps[j]? = some q := ⟨_, List.getElem?_eq_getElem hlt⟩
      have hdr : ps.drop j = q :: ps.drop (j + 1) := by
        obtain ⟨h1, e1⟩ := List.getElem?_eq_some_iff.1 hq
        rw [List.drop_eq_getElem_cons h1, e1]
      have hqo : bindK.own 34 lo wr q.1 q.2 := HOw.out q (by rw [hdr]; exact List.mem_cons_self)
      have hqm := List.mem_of_getElem? hq
      obtain ⟨b, hab, hcell, hbl⟩ : ∃ b, a = some ⟨b, 0, none⟩ ∧ wr.cell? ⟨b, j, none⟩ = some q.1 ∧ b < wr.heap.size := by
        rcases HR.out.2 with ⟨e, e'⟩ | ⟨g, cap', cur, e, hbg, hg, _⟩
        · omega
        · simp only [Value.slice.injEq] at e
          obtain ⟨rfl, _, rfl⟩ := e
          have := HR.out.cells (g := g) rfl j q.1 (by rw [List.getElem?_map, hq]; rfl)
          rw [Addr.add_lit, Nat.zero_add] at this
          exact ⟨g, rfl, this, (Array.getElem?_eq_some_iff.1 hg).1⟩
      subst hab
      have HSort := hide (sortBC lo q.1 q.2 wr hqo (by have := HS.out q hqm; omega))
      have hpair : (ps.take j ++ q :: ps.drop (j + 1)).Pairwise fun p q => apart p.1 q.1 := by rw [← hdr, List.take_append_drop]; exact HPW.out
      rw [List.pairwise_append] at hpair
      obtain ⟨_, hp2, hp3⟩ := hpair
      have hafter := (List.pairwise_cons.1 hp2).1
      have HBef : Hid (∀ p ∈ ps.take j, apart p.1 q.1) := fun p hp => hp3 p hp q List.mem_cons_self
      have HAft := hide hafter
      have HQA : Hid (apart q.1 (.slice (some ⟨b, 0, none⟩) ps.length cap)) := HA.out q hqm
      have HQO := hide hqo
      have HDr := hide hdr
      have HQ := hide hq
      obtain ⟨ua, un, uc, hqu⟩ : ∃ a n c, q.1 = .slice a n c := by obtain ⟨a, c, e⟩ := Kind.own_slice hqo; exact ⟨a, _, c, e⟩
      have HQU := hide hqu
      rw [hqu] at hcell HSort
      clear hq hdr hqo hqm hp2 hp3 hafter hqu
      go_wp2_with fail
      refine HSort.out.mono ?_
      rintro e w2 ⟨rfl, hsl, hO⟩
      have HSL : Hid (bindK.sl (ofBlock q.1) w2 q.1 (sortB q.2)) := by rw [HQU.out]; exact hsl
      have hO' : OnlyB q.1.ownBlock wr w2 := by rw [HQU.out]; exact hO
      have HO := hide hO'
      clear hsl hO hO' HSort
      go_wp2
      go_roundg (ps.length - (j + 1))
      case measure => omega
      case rel =>
        refine ⟨j + 1, by omega, by go_num, ?_, ?_, ?_, ?_⟩
        · exact row_block HR.out fun k e => HO.out.block k (HR.out.lt k e).2 (fun e' => HQA.out k e' e)
        · intro p hp
          rw [List.take_add_one, HQ.out] at hp
          rcases List.mem_append.1 hp with h | h
          · exact Kind.sl_kept (HT.out p h) HO.out.size fun k hk hB => HO.out.block k hk (fun e' => HBef.out p h k hB e')
          · simp at h; rw [h]; exact HSL.out
        · intro p hp
          have h1 := HOw.out p (by rw [HDr.out]; exact List.mem_cons_of_mem _ hp)
          exact own_block h1 fun k e => HO.out.block k (Kind.own_lt h1 e).2 (fun e' => HAft.out p hp k e' e)
        · exact HO.out.later HL.out fun k e => by have := (Kind.own_lt HQO.out e).1; omega
    · have e : j = ps.length := by omega
      have HT' : Hid (∀ q ∈ ps, bindK.sl (ofBlock q.1) wr q.1 (sortB q.2)) := by
        have := HT.out
        rw [e, List.take_length] at this
        exact this
      have hm1 : (ps.map fun q => (q.1, sortB q.2)).map (·.1) = ps.map (·.1) := by rw [List.map_map]; rfl
      have hm2 : (ps.map fun q => (q.1, sortB q.2)).map (·.2) = ps.map fun q => sortB q.2 := by rw [List.map_map]; rfl
      have HSort := sortLC lo 24 (.slice a ps.length cap) (ps.map fun q => (q.1, sortB q.2)) wr (by rw [hm1, List.length_map]; exact HR.out) (fun p hp => by
        obtain ⟨q, hq, rfl⟩ := List.mem_map.1 hp
        exact Kind.sl_mono (HT'.out q hq) fun k _ hB e => HA.out q hq k hB e) (by rw [List.length_map]; omega)
      rw [hm2] at HSort
      have HSo := hide HSort
      clear HSort hm1 hm2 e
      go_wp2_with fail
      refine HSo.out.mono ?_
      rintro e w2 ⟨rfl, hsl, hO⟩
      have HSL := hide (Kind.sl_any hsl)
      have HL2 := hide (hO.later HL.out fun k e => by have := HVL.out k e; omega)
      clear hsl hO HSo
      go_wp2
      go_ret
      exact ⟨rfl, HSL.out, HL2.out⟩

set_option maxRecDepth 100000 in
theorem errOf (a b : Int) (w : World) : (Instr.field 61 (.agg #[.int .i64 a, .int .i64 b]) 0).run Tryz.prog w = .ok (.int .i64 a) w := by
  first | kernel_rfl | (simp [Instr.field, run_underlying Tryz.underlying61]) | go_simp

/-- What is wrong with what With is handed. -/
def errW (body : List AtomD) (fs os : List FactD) : Int := if wrongBody body ≠ 0 then wrongBody body else if (setFault fs).1 ≠ 0 then (setFault fs).1 else (setFault os).1

set_option maxRecDepth 100000 in
set_option maxHeartbeats 1000000 in
theorem wrongWC (body : List AtomD) (v fv ov : Value) (fs os : List FactD) (w : World) (hv : atomK.sl Anyw w v body) (hf : Facts w fv fs) (ho : Facts w ov os) :
    Calls Tryz.prog 14 #[v, fv, ov] w fun e w' => e = .returned (.int .i64 (errW body fs os)) ∧ Below w.heap.size w w' := by
  have HB := hide (chkBodyC body v w hv)
  have HF : Hid (∀ w1, Below w.heap.size w w1 → Calls Tryz.prog 35 #[fv] w1 fun e w' => e = .returned (.agg #[.int .i64 (setFault fs).1, .int .i64 (setFault fs).2]) ∧ Hid (Below w.heap.size w w')) := fun w1 h1 =>
    (setC fv fs w1 (hf.below h1)).mono fun e w' ⟨he, hL⟩ => ⟨he, below_trans h1 hL.below h1.size⟩
  have HO : Hid (∀ w1, Below w.heap.size w w1 → Calls Tryz.prog 35 #[ov] w1 fun e w' => e = .returned (.agg #[.int .i64 (setFault os).1, .int .i64 (setFault os).2]) ∧ Hid (Below w.heap.size w w')) := fun w1 h1 =>
    (setC ov os w1 (ho.below h1)).mono fun e w' ⟨he, hL⟩ => ⟨he, below_trans h1 hL.below h1.size⟩
  obtain ⟨a, cap, rfl⟩ := Kind.slice hv
  obtain ⟨fa, fc, rfl⟩ := sliceFacts hf
  obtain ⟨oa, oc, rfl⟩ := sliceFacts ho
  clear hv hf ho
  have E : errW body fs os = if wrongBody body ≠ 0 then wrongBody body else if (setFault fs).1 ≠ 0 then (setFault fs).1 else (setFault os).1 := rfl
  generalize errW body fs os = R at *
  generalize wrongBody body = eb at *
  generalize setFault fs = ef at *
  generalize setFault os = eo at *
  obtain ⟨f1, f2⟩ := ef
  obtain ⟨o1, o2⟩ := eo
  dsimp only at *
  by_cases h0 : eb = 0
  · subst h0
    rw [if_neg (by simp)] at E
    by_cases h1 : f1 = 0
    · subst h1
      rw [if_neg (by simp)] at E
      have HE := hide E
      have hfe := errOf
      clear E
      go_enter Tryz.func14, Tryz.ntmps14
      go_wp2_with fail
      refine HB.out.mono ?_
      rintro e w1 ⟨rfl, hB1⟩
      have H1 := hide (HF.out w1 hB1)
      clear HB HF hB1
      go_wp2_with fail
      refine H1.out.mono ?_
      rintro e w2 ⟨rfl, hB2⟩
      have H2 := hide (HO.out (w2.alloc (.cells #[.int .i64 0, .int .i64 f2] 61)) (hB2.out.alloc hB2.out.size _))
      clear HO H1 hB2
      go_wp2_with fail
      refine H2.out.mono ?_
      rintro e w3 ⟨rfl, hB3⟩
      clear H2
      go_wp2
      go_ret
      exact ⟨by rw [HE.out]; rfl, hB3.out⟩
    · rw [if_pos h1] at E
      have HE := hide E
      have hq : (f1 != 0) = true := by simpa using h1
      clear E h1 HO
      go_enter Tryz.func14, Tryz.ntmps14
      go_wp2_with fail
      refine HB.out.mono ?_
      rintro e w1 ⟨rfl, hB1⟩
      have H1 := hide (HF.out w1 hB1)
      clear HB HF hB1
      go_wp2_with fail
      refine H1.out.mono ?_
      rintro e w2 ⟨rfl, hB2⟩
      clear H1
      go_wp2
      go_ret
      exact ⟨by rw [HE.out]; rfl, hB2.out.alloc hB2.out.size _⟩
  · rw [if_pos h0] at E
    have HE := hide E
    have hq : (eb != 0) = true := by simpa using h0
    clear E h0 HO HF
    go_enter Tryz.func14, Tryz.ntmps14
    go_wp2_with fail
    refine HB.out.mono ?_
    rintro e w1 ⟨rfl, hB1⟩
    have HB1 := hide hB1
    clear HB hB1
    go_wp2
    go_ret
    exact ⟨by rw [HE.out]; rfl, HB1.out⟩

/-- What With tells. -/
def WithT (w : World) (v : Value) (er : Int) (body : List AtomD) (fs : List FactD) (at_ : Int) (os : List FactD) : Prop :=
  if errW body fs os ≠ 0 then v = .slice none 0 0 ∧ er = errW body fs os else match allB (pickB fs at_ os) body with
    | none => v = .slice none 0 0 ∧ er = 4
    | some R => er = 0 ∧ listK.sl Anyw w v R

theorem errW_zero {body : List AtomD} {fs os : List FactD} (h : errW body fs os = 0) : wrongBody body = 0 ∧ (setFault fs).1 = 0 ∧ (setFault os).1 = 0 := by
  unfold errW at h
  split at h
  · rename_i h1; exact absurd h h1
  · rename_i h1
    split at h
    · rename_i h2; exact absurd h h2
    · rename_i h2
      exact ⟨Classical.byContradiction h1, Classical.byContradiction h2, h⟩

theorem wrongAtoms_all : ∀ {l : List AtomD}, wrongAtoms l = 0 → ∀ a ∈ l, wrongAtom a = 0
  | [], _, a, ha => by cases ha
  | b :: l, h, a, ha => by
    unfold wrongAtoms at h
    by_cases hb : wrongAtom b = 0
    · rcases List.mem_cons.1 ha with e | h1
      · rw [e]; exact hb
      · refine wrongAtoms_all ?_ a h1
        simpa [hb] using h
    · simp [hb] at h

theorem body_right {body : List AtomD} (h : wrongBody body = 0) : body.length ≤ 5 ∧ ∀ a ∈ body, wrongAtom a = 0 := by
  unfold wrongBody at h
  split at h
  · simp at h
  · split at h
    · rename_i h5 ha
      exact ⟨by omega, wrongAtoms_all ha⟩
    · rename_i hne; exact absurd h hne

theorem pick_right {fs os : List FactD} {at_ : Int} {P : List FactD → Prop} (h1 : P fs) (h2 : P os) (n : Nat) : P (pickB fs at_ os n) := by
  unfold pickB
  split
  · exact h2
  · exact h1

set_option maxRecDepth 100000 in
set_option maxHeartbeats 2000000 in
theorem withC (body : List AtomD) (v fv ov : Value) (fs os : List FactD) (at_ : Int) (w : World) (hv : atomK.sl Anyw w v body) (hf : Facts w fv fs) (ho : Facts w ov os) :
    Calls Tryz.prog 4 #[v, fv, .int .i64 at_, ov] w fun e w' => ∃ v' er, e = .returned (.tuple #[v', .int .i64 er]) ∧ WithT w' v' er body fs at_ os ∧ Below w.heap.size w w' := by
  obtain ⟨a, cap, hva⟩ := Kind.slice hv
  have HW : Hid (Calls Tryz.prog 14 #[v, fv, ov] (w.alloc (.cells #[v] 22)) fun e w' => e = .returned (.int .i64 (errW body fs os)) ∧ Below (w.alloc (.cells #[v] 22)).heap.size (w.alloc (.cells #[v] 22)) w') :=
    wrongWC body v fv ov fs os _ (Kind.sl_later hv ((Later.refl _).alloc _)) (hf.later ((Later.refl _).alloc _)) (ho.later ((Later.refl _).alloc _))
  have HV := hide hv
  have HF := hide hf
  have HO := hide ho
  obtain ⟨fa, fc, hfa⟩ := sliceFacts hf
  obtain ⟨oa, oc, hoa⟩ := sliceFacts ho
  subst hva hfa hoa
  clear hv hf ho
  by_cases h0 : errW body fs os = 0
  · rw [h0] at HW
    have H0 := hide h0
    obtain ⟨hw0, hf0, ho0⟩ := errW_zero h0
    obtain ⟨hb5, hba⟩ := body_right hw0
    obtain ⟨hfl, hfr, _⟩ := set_right hf0
    obtain ⟨hol, hor, _⟩ := set_right ho0
    have HPr : Hid (∀ n, Rises (pickB fs at_ os n)) := pick_right hfr hor
    have HPl : Hid (∀ n, (pickB fs at_ os n).length ≤ 200) := pick_right (P := fun l => l.length ≤ 200) hfl hol
    have HBa : Hid (∀ a ∈ body, a.terms.length ≤ 4) := fun a ha => (wrongAtom_zero (hba a ha)).2.1
    clear h0 hw0 hf0 ho0 hba hfl hol hfr hor
    go_enter Tryz.func4, Tryz.ntmps4
    go_wp2_with fail
    refine HW.out.mono ?_
    rintro e w1 ⟨rfl, hB1⟩
    have hBw : Below w.heap.size w w1 := below_trans ((Later.refl w).alloc _).below hB1 (by simp)
    have hs1 : w.heap.size < w1.heap.size := by have := hB1.size; simp at this; omega
    have z0 : w1.cell? ⟨w.heap.size, 0, none⟩ = some (.slice a body.length cap) := by rw [hB1.cell (by simp)]; simp
    have HSr := hide (sourceC _ _ fs os at_ w1 (HF.out.below hBw) (HO.out.below hBw))
    have HBw := hide hBw
    clear HW hB1 hBw
    go_wp2_with fail
    refine HSr.out.mono ?_
    rintro e w2 ⟨rfl, hL2, hs2, y0, y1, y2⟩
    have hB2 : Below w.heap.size w w2 := below_trans HBw.out hL2.below HBw.out.size
    obtain ⟨w3, hw3⟩ : ∃ w3, w3 = w2.alloc (.cells #[.func (.func 36) #[] #[.pointer (some ⟨w1.heap.size + 1, 0, none⟩), .pointer (some ⟨w1.heap.size + 2, 0, none⟩), .pointer (some ⟨w1.heap.size, 0, none⟩)]] 52) := ⟨_, rfl⟩
    have hL3 : Later w2 w3 := by rw [hw3]; exact (Later.refl _).alloc _
    have hB3 : Below w.heap.size w w3 := below_trans hB2 hL3.below hB2.size
    have hs3 : w3.heap.size = w2.heap.size + 1 := by rw [hw3]; simp
    have x0 : w3.cell? ⟨w.heap.size, 0, none⟩ = some (.slice a body.length cap) := by rw [(hL2.trans hL3).cell (by exact hs1)]; exact z0
    have x1 : w3.cell? ⟨w2.heap.size, 0, none⟩ = some (.func (.func 36) #[] #[.pointer (some ⟨w1.heap.size + 1, 0, none⟩), .pointer (some ⟨w1.heap.size + 2, 0, none⟩), .pointer (some ⟨w1.heap.size, 0, none⟩)]) := by rw [hw3]; simp
    have hPk : Picks 36 #[.pointer (some ⟨w1.heap.size + 1, 0, none⟩), .pointer (some ⟨w1.heap.size + 2, 0, none⟩), .pointer (some ⟨w1.heap.size, 0, none⟩)] (pickB fs at_ os) w3.heap.size w3 :=
      source1C w1.heap.size (w1.heap.size + 1) (w1.heap.size + 2) _ _ fs os at_ _ w3 (HF.out.below hB3) (HO.out.below hB3) (by rw [hL3.cell (by show w1.heap.size < w2.heap.size; omega)]; exact y0) (by rw [hL3.cell (by show w1.heap.size + 1 < w2.heap.size; omega)]; exact y1) (by rw [hL3.cell (by show w1.heap.size + 2 < w2.heap.size; omega)]; exact y2) (by omega) (by omega) (by omega) rfl
    have hDl := with1C w.heap.size w2.heap.size body _ 36 _ enters_source1 (pickB fs at_ os) w3.heap.size w3 (Kind.sl_below HV.out hB3) hPk hb5 HPr.out x0 x1 (by omega) (by omega) rfl
    have HMt := hide (metC body _ 36 _ enters_source1 (pickB fs at_ os) w3 (Kind.sl_below HV.out hB3) hPk hb5 HBa.out HPl.out)
    have HDl := hide hDl
    have HB3 := hide hB3
    have HW3 := hide hw3
    have u0 : w2.cell? ⟨w.heap.size, 0, none⟩ = some (.slice a body.length cap) := by rw [hL2.cell (by exact hs1)]; exact z0
    have hx0 : w.heap.size < w2.heap.size := by omega
    clear x0 x1
    have hAB : allB (pickB fs at_ os) body = match metGo (pickB fs at_ os) 0 body [[]] with | none => none | some ms => some (sortBy cmpBs ((ms.filter fun l => !barredB (pickB fs at_ os) 0 body l).map sortB)) := rfl
    generalize barredB (pickB fs at_ os) 0 body = bp at *
    clear HSr hL2 hB2 hL3 hB3 hPk hDl hw3 y0 y1 y2 z0 hs2 hs3 HPr HPl HBa HF HO HBw
    go_wp2_with fail
    rw [← HW3.out]
    refine HMt.out.mono ?_
    rintro e w4 ⟨v4, er, rfl, hMT, hL4⟩
    cases hmg : metGo (pickB fs at_ os) 0 body [[]] with
    | none =>
      rw [hmg] at hMT hAB
      obtain ⟨rfl, rfl⟩ := hMT
      dsimp only at hAB
      have HAB := hide hAB
      have HL4 := hide hL4
      clear hmg hAB HMt hL4
      go_wp2
      go_ret2
      refine ⟨.slice none 0 0, 4, rfl, ?_, below_trans HB3.out HL4.out.below HB3.out.size⟩
      unfold WithT
      rw [if_neg (fun h => h H0.out), HAB.out]
      exact ⟨rfl, rfl⟩
    | some ms =>
      rw [hmg] at hMT hAB
      obtain ⟨rfl, ps, hps, hpl, hpq, hLs⟩ := hMT
      dsimp only at hAB
      have hpl' : ps.length ≤ 20000 := by rw [← hps, List.length_map] at hpl; exact hpl
      have hpq' : ∀ q ∈ ps, q.2.length ≤ 20 := fun q hq => hpq _ (by rw [← hps]; exact List.mem_map.2 ⟨q, hq, rfl⟩)
      have HDe := hide (deleteC v4 ps 18 _ enters_with1 bp w3.heap.size w3.heap.size w3 w4 HDl.out hL4.below (Nat.le_refl _) hL4.size hLs hpl' hpq')
      obtain ⟨a4, n4, c4, rfl⟩ : ∃ a n c, v4 = .slice a n c := by obtain ⟨a, c, e⟩ := Lists.slice hLs; exact ⟨a, _, c, e⟩
      have HLo : Hid (∀ k, (Value.slice a4 n4 c4).ownBlock = some k → w3.heap.size ≤ k) := fun k e => hLs.lo_le k e
      have HAB := hide hAB
      have HL4 := hide hL4
      have HPS := hide hps
      have HPL := hide hpl'
      have HPQ := hide hpq'
      clear hmg hAB HMt hL4 hps hpl hpq hLs hpl' hpq'
      go_wp2_with fail
      refine HDe.out.mono ?_
      rintro e w5 ⟨v5, rfl, hLs5, hob, hO5⟩
      have hL5 : Later w3 w5 := hO5.later HL4.out fun k e => HLo.out k e
      have hkl : (keptL bp ps).length ≤ 20000 := Nat.le_trans (List.length_filter_le _ _) HPL.out
      have HRi := hide (risenC v5 (keptL bp ps) w3.heap.size w3 w5 hL5 (Nat.le_refl _) hLs5 hkl (fun q hq => HPQ.out q (List.mem_filter.1 hq).1))
      obtain ⟨a5, n5, c5, rfl⟩ : ∃ a n c, v5 = .slice a n c := by obtain ⟨a, c, e⟩ := Lists.slice hLs5; exact ⟨a, _, c, e⟩
      clear HDe hLs5 hob hO5 hL5 hkl
      go_wp2_with fail
      refine HRi.out.mono ?_
      rintro e w6 ⟨rfl, hsl, hL6⟩
      have HSL := hide hsl
      have HL6 := hide hL6
      clear HRi hsl hL6
      go_wp2
      go_ret2
      refine ⟨.slice a5 n5 c5, 0, rfl, ?_, below_trans HB3.out HL6.out.below HB3.out.size⟩
      unfold WithT
      rw [if_neg (fun h => h H0.out), HAB.out]
      have e : (ms.filter fun l => !bp l).map sortB = (keptL bp ps).map fun q => sortB q.2 := by
        rw [← HPS.out]
        unfold keptL
        rw [List.filter_map, List.map_map]
        rfl
      rw [e]
      exact ⟨rfl, HSL.out⟩
  · have hq : (errW body fs os != 0) = true := by simpa using h0
    have H0 := hide h0
    generalize her : errW body fs os = er at *
    have HER := hide her
    clear h0 HV HF HO her
    go_enter Tryz.func4, Tryz.ntmps4
    go_wp2_with fail
    refine HW.out.mono ?_
    rintro e w1 ⟨rfl, hB1⟩
    have HB := hide (below_trans ((Later.refl w).alloc (.cells #[.slice a body.length cap] 22)).below hB1 (by simp))
    clear HW hB1
    go_wp2
    go_ret2
    refine ⟨.slice none 0 0, er, rfl, ?_, HB.out⟩
    unfold WithT
    rw [HER.out, if_pos H0.out]
    exact ⟨rfl, rfl⟩

end Go.Proofs.YtkijmalapjiopaaGreat

/- The walks of the reference's LessBinds and SameBinds (where both hold the same), and of match.All. -/
namespace Go.Proofs.YtkijmalapjiopaaGreat
open Go.RowKit Go.Sort

theorem neqBind (x y : BindD) (w : World) : (binOp .neq 34 (.agg #[.string x.1, .string x.2]) (.agg #[.string y.1, .string y.2])).run Tryz.prog w = .ok (.bool (!decide (x = y))) w := by
  have e : decide (x = y) = (x.1.toList == y.1.toList && x.2.toList == y.2.toList) := by
    rw [eq_list, eq_list]
    obtain ⟨x1, x2⟩ := x
    obtain ⟨y1, y2⟩ := y
    rw [Bool.eq_iff_iff]; simp
  rw [e]
  generalize x.1 = a
  generalize x.2 = b
  generalize y.1 = c
  generalize y.2 = d
  go_simp
  by_cases h1 : a.toList = c.toList <;> by_cases h2 : b.toList = d.toList <;> simp [h1, h2]

def lessBs (l m : List BindD) : Bool := decide (cmpBs l m < 0)

theorem lessBs_step {l m : List BindD} {j : Nat} {x y : BindD} (hx : l[j]? = some x) (hy : m[j]? = some y) : lessBs (l.drop j) (m.drop j) = if x = y then lessBs (l.drop (j + 1)) (m.drop (j + 1)) else decide (cmpB x y < 0) := by
  obtain ⟨h1, e1⟩ := List.getElem?_eq_some_iff.1 hx
  obtain ⟨h2, e2⟩ := List.getElem?_eq_some_iff.1 hy
  rw [List.drop_eq_getElem_cons h1, List.drop_eq_getElem_cons h2, e1, e2]
  unfold lessBs
  show decide ((if cmpB x y ≠ 0 then cmpB x y else cmpX cmpB _ _) < 0) = _
  by_cases h : x = y
  · rw [if_pos h, if_neg (by rw [h, three_cmpB.refl]; simp)]
  · rw [if_neg h, if_pos (fun e => h (three_cmpB.zero _ _ e))]

theorem cmpB_lt (x y : BindD) : decide (cmpB x y < 0) = (Op.bytesLess x.1.toList y.1.toList || (x.1.toList == y.1.toList && Op.bytesLess x.2.toList y.2.toList)) := by
  unfold cmpB
  by_cases h : x.1.toList = y.1.toList
  · have h' : (x.1.toList == y.1.toList) = true := by simpa using h
    rw [if_neg (by rw [cmpS_eq h']; simp), cmpS_lt, h', h, bl_irrefl]; rfl
  · have h' : (x.1.toList == y.1.toList) = false := by simpa using h
    rw [if_pos (cmpS_ne h'), cmpS_lt, h']; simp

set_option maxRecDepth 100000 in
set_option maxHeartbeats 4000000 in
theorem lessBinds (u v : Value) (l m : List BindD) (w : World) (hu : bindK.sl Anyw w u l) (hv : bindK.sl Anyw w v m) :
    Calls Tryz.prog 26 #[u, v] w fun e w' => e = .returned (.bool (lessBs l m)) ∧ Later w w' := by
  obtain ⟨a, cap, rfl⟩ := Kind.slice hu
  obtain ⟨a', cap', rfl⟩ := Kind.slice hv
  have hl := hu.1.1
  have hm := hv.1.1
  have HU := hide hu
  have HV := hide hv
  clear hu hv
  generalize hR : lessBs l m = R at *
  have H0 : Hid (R = lessBs (l.drop 0) (m.drop 0)) := hR.symm
  clear hR
  go_enter Tryz.func26, Tryz.ntmps26
  go_wp2
  go_loopg [8] l.length (fun g i wr => ∃ j : Nat, j + g = l.length ∧ i = .int .i64 j ∧ Hid (R = lessBs (l.drop j) (m.drop j)) ∧ Hid (j ≤ m.length) ∧ Hid (Later w wr))
  case atStart => exact ⟨0, by omega, rfl, H0, (Nat.zero_le _ : _ ≤ _), Later.refl _⟩
  case round =>
    obtain ⟨j, hj, rfl, HE, HJ, HL⟩ := hrel
    have hjm := HJ.out
    by_cases hlt : j < l.length
    · obtain ⟨x, hx⟩ : ∃ x, l[j]? = some x := ⟨_, List.getElem?_eq_getElem hlt⟩
      obtain ⟨b1, o1, _, rfl, hb1, rfl, hc⟩ := Kind.sl_at HU.out hx
      by_cases hlm : j < m.length
      · obtain ⟨y, hy⟩ : ∃ y, m[j]? = some y := ⟨_, List.getElem?_eq_getElem hlm⟩
        obtain ⟨b2, o2, _, rfl, hb2, rfl, hc2⟩ := Kind.sl_at HV.out hy
        have d0 : wr.cell? ⟨b1, o1 + j * 2, none⟩ = some (.string x.1) := by rw [HL.out.cell hb1]; exact hc 0 _ rfl
        have d1 : wr.cell? ⟨b1, o1 + j * 2 + 1, none⟩ = some (.string x.2) := by rw [HL.out.cell hb1]; exact hc 1 _ rfl
        have d2 : wr.cell? ⟨b2, o2 + j * 2, none⟩ = some (.string y.1) := by rw [HL.out.cell hb2]; exact hc2 0 _ rfl
        have d3 : wr.cell? ⟨b2, o2 + j * 2 + 1, none⟩ = some (.string y.2) := by rw [HL.out.cell hb2]; exact hc2 1 _ rfl
        have hbr : b1 < wr.heap.size := Nat.lt_of_lt_of_le hb1 HL.out.size
        have hbr2 : b2 < wr.heap.size := Nat.lt_of_lt_of_le hb2 HL.out.size
        have E := lessBs_step hx hy
        have hq := neqBind x y
        have hjz : (j : Int) < (m.length : Int) := by omega
        have hjz2 : ¬ ((m.length : Int) ≤ (j : Int)) := by omega
        by_cases hxy : x = y
        · rw [if_pos hxy] at E
          rw [decide_eq_true hxy] at hq
          have HE1 : Hid (R = lessBs (l.drop (j + 1)) (m.drop (j + 1))) := by show _ = _; rw [HE.out, E]
          clear E HE hc hc2 hx hy hxy
          obtain ⟨x1, x2⟩ := x
          obtain ⟨y1, y2⟩ := y
          dsimp only at *
          go_wp2
          go_quiet (fail)
          go_wp2
          go_roundg (l.length - (j + 1))
          case measure => omega
          case rel => exact ⟨j + 1, by omega, by go_num, HE1, (by omega : j + 1 ≤ m.length), HL.out.drewN _⟩
        · rw [if_neg hxy, cmpB_lt] at E
          rw [decide_eq_false hxy] at hq
          obtain ⟨x1, x2⟩ := x
          obtain ⟨y1, y2⟩ := y
          dsimp only at *
          cases h1 : Op.bytesLess x1.toList y1.toList
          · cases h2 : (x1.toList == y1.toList)
            · have HE1 : Hid (R = false) := by show _ = _; rw [HE.out, E, h1, h2]; rfl
              clear E HE hc hc2 hx hy hxy
              go_wp2
              go_quiet (fail)
              go_wp2
              go_quiet (fail)
              go_wp2
              go_ret
              exact ⟨by rw [HE1.out]; rfl, (HL.out.drewN _).drewN _⟩
            · have HE1 : Hid (R = Op.bytesLess x2.toList y2.toList) := by show _ = _; rw [HE.out, E, h1, h2]; rfl
              clear E HE hc hc2 hx hy hxy
              go_wp2
              go_quiet (fail)
              go_wp2
              go_quiet (fail)
              go_wp2
              go_ret
              exact ⟨by rw [HE1.out]; rfl, (HL.out.drewN _).drewN _⟩
          · have HE1 : Hid (R = true) := by show _ = _; rw [HE.out, E, h1]; rfl
            clear E HE hc hc2 hx hy hxy
            go_wp2
            go_quiet (fail)
            go_wp2
            go_quiet (fail)
            go_wp2
            go_ret
            exact ⟨by rw [HE1.out]; rfl, (HL.out.drewN _).drewN _⟩
      · have HE1 : Hid (R = false) := by
          show _ = _
          obtain ⟨h1, e1⟩ := List.getElem?_eq_some_iff.1 hx
          rw [HE.out, List.drop_eq_getElem_cons h1, List.drop_eq_nil_of_le (by omega : m.length ≤ j)]; rfl
        have hjz : (m.length : Int) ≤ (j : Int) := by omega
        clear hc hx HE
        go_wp2
        go_ret
        exact ⟨by rw [HE1.out]; rfl, HL.out⟩
    · have e : j = l.length := by omega
      have HE1 : Hid (R = decide (l.length < m.length)) := by
        show _ = _
        rw [HE.out, List.drop_eq_nil_of_le (by omega : l.length ≤ j)]
        by_cases hlm : j < m.length
        · rw [List.drop_eq_getElem_cons hlm, decide_eq_true (by omega)]; rfl
        · rw [List.drop_eq_nil_of_le (by omega : m.length ≤ j), decide_eq_false (by omega)]; rfl
      clear HE
      go_wp2
      go_ret
      exact ⟨by rw [HE1.out]; rfl, HL.out⟩

set_option maxRecDepth 100000 in
set_option maxHeartbeats 2000000 in
theorem sameBinds (u v : Value) (ls : List (List BindD)) (w : World) (hu : listK.sl Anyw w u ls) (hv : listK.sl Anyw w v ls) :
    Calls Tryz.prog 6 #[u, v] w fun e w' => e = .returned (.bool true) ∧ Later w w' := by
  obtain ⟨a, cap, rfl⟩ := Kind.slice hu
  obtain ⟨a', cap', rfl⟩ := Kind.slice hv
  have hl := hu.1.1
  have HU := hide hu
  have HV := hide hv
  clear hu hv
  have hqq : ((ls.length : Int) != (ls.length : Int)) = false := by simp
  have mx := mixed
  go_enter Tryz.func6, Tryz.ntmps6
  go_wp2
  go_loopg [13] ls.length (fun g i wr => ∃ j : Nat, j + g = ls.length ∧ i = .int .i64 j ∧ Hid (Later w wr))
  case atStart => exact ⟨0, by omega, rfl, Later.refl _⟩
  case round =>
    obtain ⟨j, hj, rfl, HL⟩ := hrel
    by_cases hlt : j < ls.length
    · obtain ⟨l, hx⟩ : ∃ x, ls[j]? = some x := ⟨_, List.getElem?_eq_getElem hlt⟩
      obtain ⟨b1, o1, _, rfl, hb1, ⟨x, rfl, hxs⟩, hc⟩ := Kind.sl_at HU.out hx
      obtain ⟨b2, o2, _, rfl, hb2, ⟨y, rfl, hys⟩, hc2⟩ := Kind.sl_at HV.out hx
      have d0 : ∀ q os, (grow (wr.drewN q) os).cell? ⟨b1, o1 + j, none⟩ = some x := fun q os => by
        have hL2 : Later w (grow (wr.drewN q) os) := HL.out.trans ⟨q, os, rfl⟩
        rw [hL2.cell hb1]; simpa [slK] using hc 0 _ rfl
      have d1 : ∀ q os, (grow (wr.drewN q) os).cell? ⟨b2, o2 + j, none⟩ = some y := fun q os => by
        have hL2 : Later w (grow (wr.drewN q) os) := HL.out.trans ⟨q, os, rfl⟩
        rw [hL2.cell hb2]; simpa [slK] using hc2 0 _ rfl
      have hself : lessBs l l = false := by unfold lessBs; rw [three_cmpBs.refl]; rfl
      have H1 : Hid (∀ q os, Calls Tryz.prog 26 #[x, y] (grow (wr.drewN q) os) fun e w2 => e = .returned (.bool false) ∧ Later (grow (wr.drewN q) os) w2) := fun q os => by
        have hL2 : Later w (grow (wr.drewN q) os) := HL.out.trans ⟨q, os, rfl⟩
        have := lessBinds x y l l (grow (wr.drewN q) os) (Kind.sl_later hxs hL2) (Kind.sl_later hys hL2)
        rwa [hself] at this
      have H2 : Hid (∀ q os, Calls Tryz.prog 26 #[y, x] (grow (wr.drewN q) os) fun e w2 => e = .returned (.bool false) ∧ Later (grow (wr.drewN q) os) w2) := fun q os => by
        have hL2 : Later w (grow (wr.drewN q) os) := HL.out.trans ⟨q, os, rfl⟩
        have := lessBinds y x l l (grow (wr.drewN q) os) (Kind.sl_later hys hL2) (Kind.sl_later hxs hL2)
        rwa [hself] at this
      obtain ⟨xa, xc, rfl⟩ := Kind.slice hxs
      obtain ⟨ya, yc, rfl⟩ := Kind.slice hys
      have hjz : (j : Int) < (ls.length : Int) := by omega
      clear hc hc2 hx hxs hys hself
      go_wp2
      go_quiet_grown ((first | (go_at_call_of 26 (#[Value.slice xa l.length xc, Value.slice ya l.length yc]); exact Calls.grown_of (H1.out _ _)) | (go_at_call_of 26 (#[Value.slice ya l.length yc, Value.slice xa l.length xc]); exact Calls.grown_of (H2.out _ _))))
      go_wp2
      go_roundg (ls.length - (j + 1))
      case measure => omega
      case rel => exact ⟨j + 1, by omega, by go_num, HL.out.trans ⟨_, _, rfl⟩⟩
    · go_wp2
      go_ret
      exact ⟨rfl, HL.out⟩

theorem facts_nil (w : World) : Facts w (.slice none 0 0) [] := ⟨by simp, none, 0, rfl, fun h => absurd rfl h⟩

set_option maxHeartbeats 1000000 in
theorem allC (body : List AtomD) (v fv : Value) (fs : List FactD) (w : World) (hv : atomK.sl Anyw w v body) (hf : Facts w fv fs) :
    Calls Tryz.prog 7 #[v, fv] w fun e w' => ∃ v' er, e = .returned (.tuple #[v', .int .i64 er]) ∧ WithT w' v' er body fs (-1) [] ∧ Below w.heap.size w w' := by
  have HW := hide (withC body v fv (.slice none 0 0) fs [] (-1) w hv hf (facts_nil w))
  obtain ⟨a, cap, rfl⟩ := Kind.slice hv
  obtain ⟨fa, fc, rfl⟩ := sliceFacts hf
  clear hv hf
  go_enter Tryz.func7, Tryz.ntmps7
  go_wp2_with fail
  refine HW.out.mono ?_
  rintro e w1 ⟨v', er, rfl, hT, hB⟩
  have HT := hide hT
  have HB := hide hB
  clear hT hB HW
  go_wp2
  go_ret2
  exact ⟨v', er, rfl, HT.out, HB.out⟩

end Go.Proofs.YtkijmalapjiopaaGreat

/- Rising lists, put together; and one put in. Plain. -/
namespace Go.Proofs.YtkijmalapjiopaaGreat

section
variable {α : Type} {c : α → α → Int}

/-- What is put together so far, and what is left of two rising lists. -/
structure Mrg (c : α → α → Int) (A out a b : List α) : Prop where
  hout : out.Pairwise fun x y => c x y < 0
  hleft : a.Pairwise fun x y => c x y < 0
  hright : b.Pairwise fun x y => c x y < 0
  hle : ∀ x ∈ out, ∀ y, y ∈ a ∨ y ∈ b → c x y ≤ 0
  hmem : ∀ x, x ∈ A ↔ x ∈ out ∨ x ∈ a ∨ x ∈ b

theorem Mrg.start {a b : List α} (ha : a.Pairwise fun x y => c x y < 0) (hb : b.Pairwise fun x y => c x y < 0) : Mrg c (a ++ b) [] a b :=
  ⟨List.Pairwise.nil, ha, hb, fun x hx => absurd hx (List.not_mem_nil), fun x => by simp⟩

theorem Mrg.swap {A out a b : List α} (h : Mrg c A out a b) : Mrg c A out b a :=
  ⟨h.hout, h.hright, h.hleft, fun x hx y hy => h.hle x hx y hy.symm, fun x => by rw [h.hmem]; exact ⟨fun h => h.elim Or.inl fun h => Or.inr h.symm, fun h => h.elim Or.inl fun h => Or.inr h.symm⟩⟩

/-- What is behind all that is out. -/
theorem Mrg.next {A out a b : List α} {x : α} (hc : Three c) (h : Mrg c A out (x :: a) b) (hx : ∀ y ∈ b, c x y ≤ 0) : (∀ z, out.getLast? = some z → c z x < 0) → Mrg c A (out ++ [x]) a b := fun hl => by
  have ha := List.pairwise_cons.1 h.hleft
  have hlt : ∀ z ∈ out, c z x < 0 := by
    intro z hz
    rcases List.eq_nil_or_concat out with e | ⟨o, y, e⟩
    · rw [e] at hz; cases hz
    · rw [e] at hz hl
      have hy : c y x < 0 := hl y (by simp)
      have ho := h.hout
      rw [e, List.concat_eq_append, List.pairwise_append] at ho
      rw [List.concat_eq_append] at hz
      rcases List.mem_append.1 hz with hz | hz
      · exact hc.trans _ _ _ (ho.2.2 z hz y (by simp)) hy
      · simp only [List.mem_singleton] at hz
        rw [hz]; exact hy
  refine ⟨?_, ha.2, h.hright, ?_, fun z => ?_⟩
  · rw [List.pairwise_append]
    exact ⟨h.hout, by simp, fun z hz y hy => by simp only [List.mem_singleton] at hy; rw [hy]; exact hlt z hz⟩
  · intro z hz y hy
    rcases List.mem_append.1 hz with hz | hz
    · exact h.hle z hz y (hy.imp (fun h => by simp [h]) id)
    · simp only [List.mem_singleton] at hz
      rw [hz]
      rcases hy with hy | hy
      · exact Int.le_of_lt (ha.1 y hy)
      · exact hx y hy
  · rw [h.hmem, List.mem_append, List.mem_cons, List.mem_singleton]
    constructor
    · rintro (h | (h | h) | h)
      · exact Or.inl (Or.inl h)
      · exact Or.inl (Or.inr h)
      · exact Or.inr (Or.inl h)
      · exact Or.inr (Or.inr h)
    · rintro ((h | h) | h | h)
      · exact Or.inl h
      · exact Or.inr (Or.inl (Or.inl h))
      · exact Or.inr (Or.inl (Or.inr h))
      · exact Or.inr (Or.inr h)

/-- What is out already is left out. -/
theorem Mrg.skip {A out a b : List α} {x z : α} (hc : Three c) (h : Mrg c A out (x :: a) b) (hz : out.getLast? = some z) (hn : ¬ c z x < 0) : Mrg c A out a b := by
  have hzm : z ∈ out := List.mem_of_getLast? hz
  have h1 := h.hle z hzm x (Or.inl (by simp))
  have e : z = x := hc.zero z x (by omega)
  have ha := List.pairwise_cons.1 h.hleft
  refine ⟨h.hout, ha.2, h.hright, fun u hu y hy => h.hle u hu y (hy.imp (fun h => by simp [h]) id), fun u => ?_⟩
  rw [h.hmem, List.mem_cons]
  constructor
  · rintro (h | (h | h) | h)
    · exact Or.inl h
    · rw [h, ← e]; exact Or.inl hzm
    · exact Or.inr (Or.inl h)
    · exact Or.inr (Or.inr h)
  · rintro (h | h | h)
    · exact Or.inl h
    · exact Or.inr (Or.inl (Or.inr h))
    · exact Or.inr (Or.inr h)

/-- The head that is not behind the other is behind none. -/
theorem Mrg.first {A out a b : List α} {x y : α} (hc : Three c) (h : Mrg c A out (x :: a) (y :: b)) (hn : ¬ c y x < 0) : ∀ z ∈ y :: b, c x z ≤ 0 := fun z hz => by
  have hxy : c x y ≤ 0 := by have := hc.swap x y; omega
  rcases List.mem_cons.1 hz with rfl | hz
  · exact hxy
  · exact hc.le_trans hxy (Int.le_of_lt ((List.pairwise_cons.1 h.hright).1 z hz))

theorem Mrg.done {A out : List α} (h : Mrg c A out [] []) : (out.Pairwise fun x y => c x y < 0) ∧ ∀ x, x ∈ out ↔ x ∈ A := ⟨h.hout, fun x => by rw [h.hmem]; simp⟩

/-- One put in. -/
theorem put_in {l : List α} {x : α} {k : Nat} (hl : l.Pairwise fun x y => c x y < 0) (h1 : ∀ y ∈ l.take k, c y x < 0) (h2 : ∀ y ∈ l.drop k, c x y < 0) : (l.take k ++ [x] ++ l.drop k).Pairwise fun x y => c x y < 0 := by
  have hs := hl
  rw [← List.take_append_drop k l, List.pairwise_append] at hs
  rw [List.append_assoc, List.pairwise_append, List.singleton_append, List.pairwise_cons]
  refine ⟨hs.1, ⟨h2, hs.2.1⟩, fun a ha b hb => ?_⟩
  rcases List.mem_cons.1 hb with rfl | hb
  · exact h1 a ha
  · exact hs.2.2 a ha b hb

theorem put_in_perm {l : List α} {x : α} (k : Nat) : (l.take k ++ [x] ++ l.drop k).Perm (x :: l) := by
  rw [List.append_assoc, List.singleton_append]
  refine List.perm_middle.trans (List.Perm.cons x ?_)
  rw [List.take_append_drop]
end

/-- Lists that rise, and have what the body's lists have, are what With tells. -/
theorem with_of {pick : Nat → List FactB} {body : List AtomD} (hc : Covers body) (hp : ∀ i, (pick i).Nodup) {ms : List (List BindD)} (hm : metGo pick 0 body [[]] = some ms) {R : List (List BindD)} (hR : R.Pairwise fun a b => cmpBs a b < 0)
    (hmem : ∀ x, x ∈ R ↔ ∃ l ∈ ms.filter (fun l => !barredB pick 0 body l), x = sortB l) : allB pick body = some R := by
  have h : allB pick body = some (sortBy cmpBs ((ms.filter fun l => !barredB pick 0 body l).map sortB)) := by
    unfold allB
    rw [hm]
  have e := rise_ext three_cmpBs (all_strict hc hp h) hR fun x => by
    rw [(sortBy_perm _).mem_iff, List.mem_map, hmem]
    exact ⟨fun ⟨l, hl, e⟩ => ⟨l, hl, e.symm⟩, fun ⟨l, hl, e⟩ => ⟨l, hl, e.symm⟩⟩
  rw [h, e]

end Go.Proofs.YtkijmalapjiopaaGreat

/- The reference's Binds: what a map tells, as a rising list. -/
namespace Go.Proofs.YtkijmalapjiopaaGreat
open Go.RowKit Go.Sort Go.Maps

/-- What of a map has come so far. -/
def Got (D0 : DataW Unit) (left : Lit → Bool) (O : List BindD) : Prop :=
  ∀ x : BindD, x ∈ O ↔ (Maps.has D0 (.string (raw x.1)) = true ∧ left (.string (raw x.1)) = false ∧ ∀ z, D0.atKey (.string (raw x.1)) z = .lit (.string (raw x.2)))

theorem got_start (D0 : DataW Unit) : Got D0 (Maps.has D0) [] := fun x => by
  constructor
  · intro h; simp at h
  · rintro ⟨h1, h2, _⟩
    rw [h1] at h2; cases h2

theorem got_step {D0 : DataW Unit} {left : Lit → Bool} {O O' : List BindD} {k c : ByteArray} (h : Got D0 left O) (hat : ∀ zd, D0.atKey (.string (raw k)) zd = .lit (.string (raw c))) (hp : O'.Perm ((k, c) :: O)) :
    Got D0 (fun z => left z && !z.sameKey (.string (raw k))) O' := fun x => by
  rw [hp.mem_iff, List.mem_cons]
  constructor
  · rintro (rfl | hx)
    · refine ⟨has_true_of_atKey hat, ?_, hat⟩
      show (left _ && !Lit.sameKey _ _) = false
      rw [WideAt.sameKey_self (keyS (raw k))]; simp
    · obtain ⟨h1, h2, h3⟩ := (h x).1 hx
      exact ⟨h1, by show (left _ && _) = false; rw [h2]; rfl, h3⟩
  · rintro ⟨h1, h2, h3⟩
    replace h2 : (left (.string (raw x.1)) && !Lit.sameKey (.string (raw x.1)) (.string (raw k))) = false := h2
    cases hl : left (.string (raw x.1)) with
    | false => exact Or.inr ((h x).2 ⟨h1, hl, h3⟩)
    | true =>
      left
      rw [hl] at h2
      have hs : Lit.sameKey (.string (raw x.1)) (.string (raw k)) = true := by simpa using h2
      have e1 := WideAt.sameKey_eq hs
      injection e1 with e1
      have e2 : x.1 = k := raw_inj e1
      have e3 := h3 (.map [])
      rw [e1, hat] at e3
      injection e3 with e3
      injection e3 with e3
      exact Prod.ext e2 (raw_inj e3).symm

/-- Those that have come are none of those to come. -/
theorem got_ne {D0 : DataW Unit} {left : Lit → Bool} {O : List BindD} {k : ByteArray} (h : Got D0 left O) (hk : left (.string (raw k)) = true) : ∀ y ∈ O, y.1 ≠ k := fun y hy e => by
  have := ((h y).1 hy).2.1
  rw [e, hk] at this; cases this

theorem got_end {D0 : DataW Unit} {left : Lit → Bool} {O l : List BindD} (h : Got D0 left O) (hl : ∀ k, left k = false) (hn : (keysB l).Nodup) (hO : O.Pairwise fun a b => cmpB a b < 0)
    (hD : ∀ s : Bs, Maps.has D0 (.string s) = (getB l (bs s)).isSome ∧ ∀ t, getB l (bs s) = some t → ∀ z, D0.atKey (.string s) z = .lit (.string (raw t))) : O = sortB l := by
  refine rise_ext three_cmpB hO (sortB_strict hn) fun x => ?_
  unfold sortB
  rw [(sortBy_perm l).mem_iff, h x]
  have hx := hD (raw x.1)
  rw [bs_raw] at hx
  constructor
  · rintro ⟨h1, _, h3⟩
    rw [hx.1] at h1
    obtain ⟨t, ht⟩ := Option.isSome_iff_exists.1 h1
    have e := h3 (.map [])
    rw [hx.2 t ht] at e
    injection e with e
    injection e with e
    have := getB_mem ht
    rw [raw_inj e] at this
    exact this
  · intro hm
    have hg : getB l x.1 = some x.2 := getB_of_mem hn hm
    exact ⟨by rw [hx.1, hg]; rfl, hl _, hx.2 _ hg⟩

theorem cmpB_of_lt {x y : BindD} (h : Op.bytesLess x.1.toList y.1.toList = true) : cmpB x y < 0 := by
  have := cmpB_lt x y
  rw [h] at this
  simpa using this

/-- One put in, at its place. -/
theorem put_at {O : List BindD} {k : Nat} {v n : ByteArray} (hO : O.Pairwise fun a b => cmpB a b < 0) (hne : ∀ y ∈ O, y.1 ≠ v) (hk : k ≤ O.length) (ha : ∀ t (y : BindD), t < k → O[t]? = some y → Op.bytesLess y.1.toList v.toList = true) (hb : ∀ y : BindD, O[k]? = some y → Op.bytesLess y.1.toList v.toList = false) :
    (O.take k ++ [(v, n)] ++ O.drop k).Pairwise fun a b => cmpB a b < 0 := by
  refine put_in hO (fun y hy => ?_) fun y hy => ?_
  · obtain ⟨t, ht, e⟩ := List.getElem_of_mem hy
    rw [List.length_take] at ht
    rw [List.getElem_take] at e
    exact cmpB_of_lt (ha t y (by omega) (by rw [List.getElem?_eq_getElem (by omega), e]))
  · have first : ∀ z : BindD, O[k]? = some z → cmpB (v, n) z < 0 := fun z hz => by
      have h1 := hb z hz
      have h2 := hne z (List.mem_of_getElem? hz)
      have h3 : ¬ cmpB z (v, n) < 0 := fun h => by
        have h4 := cmpB_lt z (v, n)
        rw [decide_eq_true h] at h4
        dsimp only at h4
        rw [h1] at h4
        have h5 : (z.1.toList == v.toList) = false := by rw [eq_list]; simp [h2]
        rw [h5] at h4
        cases h4
      have h6 := three_cmpB.swap (v, n) z
      have h7 : cmpB (v, n) z ≠ 0 := fun e => h2 (by have := three_cmpB.zero _ _ e; rw [← this])
      omega
    obtain ⟨t, ht, e⟩ := List.getElem_of_mem hy
    rw [List.length_drop] at ht
    rw [List.getElem_drop] at e
    by_cases h0 : t = 0
    · subst h0
      exact first y (by rw [List.getElem?_eq_getElem (by omega)]; simp only [Nat.add_zero] at e; rw [e])
    · have h1 := first _ (List.getElem?_eq_getElem (by omega : k < O.length))
      have h2 := List.pairwise_iff_getElem.1 hO k (k + t) (by omega) (by omega) (by omega)
      rw [e] at h2
      exact three_cmpB.trans _ _ _ h1 h2

end Go.Proofs.YtkijmalapjiopaaGreat
