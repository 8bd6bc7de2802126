/- The walks of match.risen, match.wrong, match.With and match.All. -/
import Derived.Test.YthogickpeldhlaaGreatMtJ
import Derived.Test.YthogickpeldhlaaGreatSetW
namespace Go.Proofs.YthogickpeldhlaaGreat
open Go.RowKit Go.Sort Go.Maps

theorem faultFrom_zero (l : List FactD) : ∀ (n k : Nat), (faultFrom l n k).1 = 0 → ∀ i, k ≤ i → i < k + n → wrongF (l.getD i noFact) = 0 ∧ (0 < i → cmpF (l.getD (i - 1) noFact) (l.getD i noFact) < 0)
  | 0, k, _, i, h1, h2 => by omega
  | n + 1, k, h, i, h1, h2 => by
    simp only [faultFrom] at h
    split at h
    · rename_i hw; exact absurd h hw
    · rename_i hw
      split at h
      · cases h
      · rename_i hc
        by_cases e : i = k
        · subst e
          refine ⟨Classical.byContradiction hw, fun h0 => ?_⟩
          exact Classical.byContradiction fun hn => hc ⟨h0, by omega⟩
        · exact faultFrom_zero l n (k + 1) h i (by omega) (by omega)

theorem rises_of {l : List FactD} (h : ∀ i, 0 < i → i < l.length → cmpF (l.getD (i - 1) noFact) (l.getD i noFact) < 0) : Rises l := by
  have key : ∀ (d i : Nat), i + d + 1 < l.length → cmpF (l.getD i noFact) (l.getD (i + d + 1) noFact) < 0 := by
    intro d
    induction d with
    | zero => intro i hi; have := h (i + 1) (by omega) (by omega); simpa using this
    | succ d ih =>
      intro i hi
      have h1 := ih i (by omega)
      have h2 := h (i + (d + 1) + 1) (by omega) hi
      have e : i + (d + 1) + 1 - 1 = i + d + 1 := by omega
      rw [e] at h2
      exact three_cmpF.trans _ _ _ h1 h2
  unfold Rises
  rw [List.pairwise_iff_getElem]
  intro i j hi hj hij
  have := key (j - i - 1) i (by omega)
  rw [show i + (j - i - 1) + 1 = j by omega] at this
  rw [List.getD_eq_getElem?_getD, List.getD_eq_getElem?_getD, List.getElem?_eq_getElem hi, List.getElem?_eq_getElem hj] at this
  exact this

/-- A set with which nothing is wrong. -/
theorem set_right {l : List FactD} (h : (setFault l).1 = 0) : l.length ≤ 200 ∧ Rises l ∧ ∀ f ∈ l, wrongF f = 0 := by
  unfold setFault at h
  split at h
  · simp at h
  · rename_i hl
    have hz := faultFrom_zero l l.length 0 h
    refine ⟨by omega, rises_of fun i h0 hi => (hz i (Nat.zero_le _) (by omega)).2 h0, fun f hf => ?_⟩
    obtain ⟨i, hi, e⟩ := List.getElem_of_mem hf
    have := (hz i (Nat.zero_le _) (by omega)).1
    rw [List.getD_eq_getElem?_getD, List.getElem?_eq_getElem hi] at this
    rw [← e]; exact this

theorem rises_nodup {l : List FactD} (h : Rises l) : l.Nodup := h.imp fun {a b} h1 e => by subst e; exact lt_irrefl h1

theorem row_block {lo : Nat} {ty : TypeId} {w w' : World} {v : Value} {n : Nat} {xs : List Value} (h : w.ownsRow lo ty 1 v n xs) (hk : ∀ k, v.ownBlock = some k → w'.heap[k]? = w.heap[k]?) : w'.ownsRow lo ty 1 v n xs := by
  refine ⟨h.1, ?_⟩
  rcases h.2 with e | ⟨g, cap, cur, rfl, hbg, hg, r⟩
  · exact Or.inl e
  · exact Or.inr ⟨g, cap, cur, rfl, hbg, by rw [hk g rfl]; exact hg, r⟩

set_option maxRecDepth 100000 in
set_option maxHeartbeats 2000000 in
theorem risenC (v : Value) (ps : List (Value × List BindD)) (lo : Nat) (w0 w : World) (h0 : Later w0 w) (hlo : w0.heap.size ≤ lo) (hv : Lists 24 34 lo w v ps) (hl : ps.length ≤ 20000) (hs : ∀ q ∈ ps, q.2.length ≤ 20) :
    Calls Tryz.prog 24 #[v] w fun e w' => e = .returned v ∧ listK.sl Anyw w' v (sortBy cmpBs (ps.map fun q => sortB q.2)) ∧ Later w0 w' := by
  obtain ⟨a, cap, rfl⟩ := hv.slice
  have hvl := fun k e => hv.lo_le k e
  obtain ⟨ho, hp, hpw⟩ := hv
  have HR := hide ho
  have HA : Hid (∀ q ∈ ps, apart q.1 (.slice a ps.length cap)) := fun q hq => (hp q hq).2
  have HOw : Hid (∀ q ∈ ps.drop 0, bindK.own 34 lo w q.1 q.2) := fun q hq => (hp q (by simpa using hq)).1
  have HPW := hide hpw
  have HS := hide hs
  have H0 := hide h0
  have HVL := hide hvl
  clear ho hp hpw hs h0 hvl
  go_enter Tryz.func24, Tryz.ntmps24
  go_wp2
  go_loopg [7] ps.length (fun gg i wr => ∃ j : Nat, j + gg = ps.length ∧ i = .int .i64 j ∧ Hid (wr.ownsRow lo 24 1 (.slice a ps.length cap) ps.length (ps.map (·.1))) ∧ Hid (∀ q ∈ ps.take j, bindK.sl (ofBlock q.1) wr q.1 (sortB q.2)) ∧ Hid (∀ q ∈ ps.drop j, bindK.own 34 lo wr q.1 q.2) ∧ Hid (Later w0 wr))
  case atStart => exact ⟨0, by omega, rfl, HR, (fun q hq => by simp at hq), HOw, H0⟩
  case round =>
    clear HR HOw H0
    obtain ⟨j, hj, rfl, HR, HT, HOw, HL⟩ := hrel
    by_cases hlt : j < ps.length
    · obtain ⟨q, hq⟩ : ∃ q, ps[j]? = some q := ⟨_, List.getElem?_eq_getElem hlt⟩
      have hdr : ps.drop j = q :: ps.drop (j + 1) := by
        obtain ⟨h1, e1⟩ := List.getElem?_eq_some_iff.1 hq
        rw [List.drop_eq_getElem_cons h1, e1]
      have hqo : bindK.own 34 lo wr q.1 q.2 := HOw.out q (by rw [hdr]; exact List.mem_cons_self)
      have hqm := List.mem_of_getElem? hq
      obtain ⟨b, hab, hcell, hbl⟩ : ∃ b, a = some ⟨b, 0, none⟩ ∧ wr.cell? ⟨b, j, none⟩ = some q.1 ∧ b < wr.heap.size := by
        rcases HR.out.2 with ⟨e, e'⟩ | ⟨g, cap', cur, e, hbg, hg, _⟩
        · omega
        · simp only [Value.slice.injEq] at e
          obtain ⟨rfl, _, rfl⟩ := e
          have := HR.out.cells (g := g) rfl j q.1 (by rw [List.getElem?_map, hq]; rfl)
          rw [Addr.add_lit, Nat.zero_add] at this
          exact ⟨g, rfl, this, (Array.getElem?_eq_some_iff.1 hg).1⟩
      subst hab
      have HSort := hide (sortBC lo q.1 q.2 wr hqo (by have := HS.out q hqm; omega))
      have hpair : (ps.take j ++ q :: ps.drop (j + 1)).Pairwise fun p q => apart p.1 q.1 := by rw [← hdr, List.take_append_drop]; exact HPW.out
      rw [List.pairwise_append] at hpair
      obtain ⟨_, hp2, hp3⟩ := hpair
      have hafter := (List.pairwise_cons.1 hp2).1
      have HBef : Hid (∀ p ∈ ps.take j, apart p.1 q.1) := fun p hp => hp3 p hp q List.mem_cons_self
      have HAft := hide hafter
      have HQA : Hid (apart q.1 (.slice (some ⟨b, 0, none⟩) ps.length cap)) := HA.out q hqm
      have HQO := hide hqo
      have HDr := hide hdr
      have HQ := hide hq
      obtain ⟨ua, un, uc, hqu⟩ : ∃ a n c, q.1 = .slice a n c := by obtain ⟨a, c, e⟩ := Kind.own_slice hqo; exact ⟨a, _, c, e⟩
      have HQU := hide hqu
      rw [hqu] at hcell HSort
      clear hq hdr hqo hqm hp2 hp3 hafter hqu
      go_wp2_with fail
      refine HSort.out.mono ?_
      rintro e w2 ⟨rfl, hsl, hO⟩
      have HSL : Hid (bindK.sl (ofBlock q.1) w2 q.1 (sortB q.2)) := by rw [HQU.out]; exact hsl
      have hO' : OnlyB q.1.ownBlock wr w2 := by rw [HQU.out]; exact hO
      have HO := hide hO'
      clear hsl hO hO' HSort
      go_wp2
      go_roundg (ps.length - (j + 1))
      case measure => omega
      case rel =>
        refine ⟨j + 1, by omega, by go_num, ?_, ?_, ?_, ?_⟩
        · exact row_block HR.out fun k e => HO.out.block k (HR.out.lt k e).2 (fun e' => HQA.out k e' e)
        · intro p hp
          rw [List.take_add_one, HQ.out] at hp
          rcases List.mem_append.1 hp with h | h
          · exact Kind.sl_kept (HT.out p h) HO.out.size fun k hk hB => HO.out.block k hk (fun e' => HBef.out p h k hB e')
          · simp at h; rw [h]; exact HSL.out
        · intro p hp
          have h1 := HOw.out p (by rw [HDr.out]; exact List.mem_cons_of_mem _ hp)
          exact own_block h1 fun k e => HO.out.block k (Kind.own_lt h1 e).2 (fun e' => HAft.out p hp k e' e)
        · exact HO.out.later HL.out fun k e => by have := (Kind.own_lt HQO.out e).1; omega
    · have e : j = ps.length := by omega
      have HT' : Hid (∀ q ∈ ps, bindK.sl (ofBlock q.1) wr q.1 (sortB q.2)) := by
        have := HT.out
        rw [e, List.take_length] at this
        exact this
      have hm1 : (ps.map fun q => (q.1, sortB q.2)).map (·.1) = ps.map (·.1) := by rw [List.map_map]; rfl
      have hm2 : (ps.map fun q => (q.1, sortB q.2)).map (·.2) = ps.map fun q => sortB q.2 := by rw [List.map_map]; rfl
      have HSort := sortLC lo 24 (.slice a ps.length cap) (ps.map fun q => (q.1, sortB q.2)) wr (by rw [hm1, List.length_map]; exact HR.out) (fun p hp => by
        obtain ⟨q, hq, rfl⟩ := List.mem_map.1 hp
        exact Kind.sl_mono (HT'.out q hq) fun k _ hB e => HA.out q hq k hB e) (by rw [List.length_map]; omega)
      rw [hm2] at HSort
      have HSo := hide HSort
      clear HSort hm1 hm2 e
      go_wp2_with fail
      refine HSo.out.mono ?_
      rintro e w2 ⟨rfl, hsl, hO⟩
      have HSL := hide (Kind.sl_any hsl)
      have HL2 := hide (hO.later HL.out fun k e => by have := HVL.out k e; omega)
      clear hsl hO HSo
      go_wp2
      go_ret
      exact ⟨rfl, HSL.out, HL2.out⟩

set_option maxRecDepth 100000 in
theorem errOf (a b : Int) (w : World) : (Instr.field 65 (.agg #[.int .i64 a, .int .i64 b]) 0).run Tryz.prog w = .ok (.int .i64 a) w := by
  first | kernel_rfl | (simp [Instr.field, run_underlying Tryz.underlying65]) | go_simp

/-- What is wrong with what With is handed. -/
def errW (body : List AtomD) (fs os : List FactD) : Int := if wrongBody body ≠ 0 then wrongBody body else if (setFault fs).1 ≠ 0 then (setFault fs).1 else (setFault os).1

set_option maxRecDepth 100000 in
set_option maxHeartbeats 1000000 in
theorem wrongWC (body : List AtomD) (v fv ov : Value) (fs os : List FactD) (w : World) (hv : atomK.sl Anyw w v body) (hf : Facts w fv fs) (ho : Facts w ov os) :
    Calls Tryz.prog 18 #[v, fv, ov] w fun e w' => e = .returned (.int .i64 (errW body fs os)) ∧ Below w.heap.size w w' := by
  have HB := hide (chkBodyC body v w hv)
  have HF : Hid (∀ w1, Below w.heap.size w w1 → Calls Tryz.prog 40 #[fv] w1 fun e w' => e = .returned (.agg #[.int .i64 (setFault fs).1, .int .i64 (setFault fs).2]) ∧ Hid (Below w.heap.size w w')) := fun w1 h1 =>
    (setC fv fs w1 (hf.below h1)).mono fun e w' ⟨he, hL⟩ => ⟨he, below_trans h1 hL.below h1.size⟩
  have HO : Hid (∀ w1, Below w.heap.size w w1 → Calls Tryz.prog 40 #[ov] w1 fun e w' => e = .returned (.agg #[.int .i64 (setFault os).1, .int .i64 (setFault os).2]) ∧ Hid (Below w.heap.size w w')) := fun w1 h1 =>
    (setC ov os w1 (ho.below h1)).mono fun e w' ⟨he, hL⟩ => ⟨he, below_trans h1 hL.below h1.size⟩
  obtain ⟨a, cap, rfl⟩ := Kind.slice hv
  obtain ⟨fa, fc, rfl⟩ := sliceFacts hf
  obtain ⟨oa, oc, rfl⟩ := sliceFacts ho
  clear hv hf ho
  have E : errW body fs os = if wrongBody body ≠ 0 then wrongBody body else if (setFault fs).1 ≠ 0 then (setFault fs).1 else (setFault os).1 := rfl
  generalize errW body fs os = R at *
  generalize wrongBody body = eb at *
  generalize setFault fs = ef at *
  generalize setFault os = eo at *
  obtain ⟨f1, f2⟩ := ef
  obtain ⟨o1, o2⟩ := eo
  dsimp only at *
  by_cases h0 : eb = 0
  · subst h0
    rw [if_neg (by simp)] at E
    by_cases h1 : f1 = 0
    · subst h1
      rw [if_neg (by simp)] at E
      have HE := hide E
      have hfe := errOf
      clear E
      go_enter Tryz.func18, Tryz.ntmps18
      go_wp2_with fail
      refine HB.out.mono ?_
      rintro e w1 ⟨rfl, hB1⟩
      have H1 := hide (HF.out w1 hB1)
      clear HB HF hB1
      go_wp2_with fail
      refine H1.out.mono ?_
      rintro e w2 ⟨rfl, hB2⟩
      have H2 := hide (HO.out (w2.alloc (.cells #[.int .i64 0, .int .i64 f2] 65)) (hB2.out.alloc hB2.out.size _))
      clear HO H1 hB2
      go_wp2_with fail
      refine H2.out.mono ?_
      rintro e w3 ⟨rfl, hB3⟩
      clear H2
      go_wp2
      go_ret
      exact ⟨by rw [HE.out]; rfl, hB3.out⟩
    · rw [if_pos h1] at E
      have HE := hide E
      have hq : (f1 != 0) = true := by simpa using h1
      clear E h1 HO
      go_enter Tryz.func18, Tryz.ntmps18
      go_wp2_with fail
      refine HB.out.mono ?_
      rintro e w1 ⟨rfl, hB1⟩
      have H1 := hide (HF.out w1 hB1)
      clear HB HF hB1
      go_wp2_with fail
      refine H1.out.mono ?_
      rintro e w2 ⟨rfl, hB2⟩
      clear H1
      go_wp2
      go_ret
      exact ⟨by rw [HE.out]; rfl, hB2.out.alloc hB2.out.size _⟩
  · rw [if_pos h0] at E
    have HE := hide E
    have hq : (eb != 0) = true := by simpa using h0
    clear E h0 HO HF
    go_enter Tryz.func18, Tryz.ntmps18
    go_wp2_with fail
    refine HB.out.mono ?_
    rintro e w1 ⟨rfl, hB1⟩
    have HB1 := hide hB1
    clear HB hB1
    go_wp2
    go_ret
    exact ⟨by rw [HE.out]; rfl, HB1.out⟩

/-- What With tells. -/
def WithT (w : World) (v : Value) (er : Int) (body : List AtomD) (fs : List FactD) (at_ : Int) (os : List FactD) : Prop :=
  if errW body fs os ≠ 0 then v = .slice none 0 0 ∧ er = errW body fs os else match allB (pickB fs at_ os) body with
    | none => v = .slice none 0 0 ∧ er = 4
    | some R => er = 0 ∧ listK.sl Anyw w v R

theorem errW_zero {body : List AtomD} {fs os : List FactD} (h : errW body fs os = 0) : wrongBody body = 0 ∧ (setFault fs).1 = 0 ∧ (setFault os).1 = 0 := by
  unfold errW at h
  split at h
  · rename_i h1; exact absurd h h1
  · rename_i h1
    split at h
    · rename_i h2; exact absurd h h2
    · rename_i h2
      exact ⟨Classical.byContradiction h1, Classical.byContradiction h2, h⟩

theorem wrongAtoms_all : ∀ {l : List AtomD}, wrongAtoms l = 0 → ∀ a ∈ l, wrongAtom a = 0
  | [], _, a, ha => by cases ha
  | b :: l, h, a, ha => by
    unfold wrongAtoms at h
    by_cases hb : wrongAtom b = 0
    · rcases List.mem_cons.1 ha with e | h1
      · rw [e]; exact hb
      · refine wrongAtoms_all ?_ a h1
        simpa [hb] using h
    · simp [hb] at h

theorem body_right {body : List AtomD} (h : wrongBody body = 0) : body.length ≤ 5 ∧ ∀ a ∈ body, wrongAtom a = 0 := by
  unfold wrongBody at h
  split at h
  · simp at h
  · split at h
    · rename_i h5 ha
      exact ⟨by omega, wrongAtoms_all ha⟩
    · rename_i hne; exact absurd h hne

theorem pick_right {fs os : List FactD} {at_ : Int} {P : List FactD → Prop} (h1 : P fs) (h2 : P os) (n : Nat) : P (pickB fs at_ os n) := by
  unfold pickB
  split
  · exact h2
  · exact h1

set_option maxRecDepth 100000 in
set_option maxHeartbeats 2000000 in
theorem withC (body : List AtomD) (v fv ov : Value) (fs os : List FactD) (at_ : Int) (w : World) (hv : atomK.sl Anyw w v body) (hf : Facts w fv fs) (ho : Facts w ov os) :
    Calls Tryz.prog 5 #[v, fv, .int .i64 at_, ov] w fun e w' => ∃ v' er, e = .returned (.tuple #[v', .int .i64 er]) ∧ WithT w' v' er body fs at_ os ∧ Below w.heap.size w w' := by
  obtain ⟨a, cap, hva⟩ := Kind.slice hv
  have HW : Hid (Calls Tryz.prog 18 #[v, fv, ov] (w.alloc (.cells #[v] 22)) fun e w' => e = .returned (.int .i64 (errW body fs os)) ∧ Below (w.alloc (.cells #[v] 22)).heap.size (w.alloc (.cells #[v] 22)) w') :=
    wrongWC body v fv ov fs os _ (Kind.sl_later hv ((Later.refl _).alloc _)) (hf.later ((Later.refl _).alloc _)) (ho.later ((Later.refl _).alloc _))
  have HV := hide hv
  have HF := hide hf
  have HO := hide ho
  obtain ⟨fa, fc, hfa⟩ := sliceFacts hf
  obtain ⟨oa, oc, hoa⟩ := sliceFacts ho
  subst hva hfa hoa
  clear hv hf ho
  by_cases h0 : errW body fs os = 0
  · rw [h0] at HW
    have H0 := hide h0
    obtain ⟨hw0, hf0, ho0⟩ := errW_zero h0
    obtain ⟨hb5, hba⟩ := body_right hw0
    obtain ⟨hfl, hfr, _⟩ := set_right hf0
    obtain ⟨hol, hor, _⟩ := set_right ho0
    have HPr : Hid (∀ n, Rises (pickB fs at_ os n)) := pick_right hfr hor
    have HPl : Hid (∀ n, (pickB fs at_ os n).length ≤ 200) := pick_right (P := fun l => l.length ≤ 200) hfl hol
    have HBa : Hid (∀ a ∈ body, a.terms.length ≤ 4) := fun a ha => (wrongAtom_zero (hba a ha)).2.1
    clear h0 hw0 hf0 ho0 hba hfl hol hfr hor
    go_enter Tryz.func5, Tryz.ntmps5
    go_wp2_with fail
    refine HW.out.mono ?_
    rintro e w1 ⟨rfl, hB1⟩
    have hBw : Below w.heap.size w w1 := below_trans ((Later.refl w).alloc _).below hB1 (by simp)
    have hs1 : w.heap.size < w1.heap.size := by have := hB1.size; simp at this; omega
    have z0 : w1.cell? ⟨w.heap.size, 0, none⟩ = some (.slice a body.length cap) := by rw [hB1.cell (by simp)]; simp
    have HSr := hide (sourceC _ _ fs os at_ w1 (HF.out.below hBw) (HO.out.below hBw))
    have HBw := hide hBw
    clear HW hB1 hBw
    go_wp2_with fail
    refine HSr.out.mono ?_
    rintro e w2 ⟨rfl, hL2, hs2, y0, y1, y2⟩
    have hB2 : Below w.heap.size w w2 := below_trans HBw.out hL2.below HBw.out.size
    obtain ⟨w3, hw3⟩ : ∃ w3, w3 = w2.alloc (.cells #[.func (.func 41) #[] #[.pointer (some ⟨w1.heap.size + 1, 0, none⟩), .pointer (some ⟨w1.heap.size + 2, 0, none⟩), .pointer (some ⟨w1.heap.size, 0, none⟩)]] 56) := ⟨_, rfl⟩
    have hL3 : Later w2 w3 := by rw [hw3]; exact (Later.refl _).alloc _
    have hB3 : Below w.heap.size w w3 := below_trans hB2 hL3.below hB2.size
    have hs3 : w3.heap.size = w2.heap.size + 1 := by rw [hw3]; simp
    have x0 : w3.cell? ⟨w.heap.size, 0, none⟩ = some (.slice a body.length cap) := by rw [(hL2.trans hL3).cell (by exact hs1)]; exact z0
    have x1 : w3.cell? ⟨w2.heap.size, 0, none⟩ = some (.func (.func 41) #[] #[.pointer (some ⟨w1.heap.size + 1, 0, none⟩), .pointer (some ⟨w1.heap.size + 2, 0, none⟩), .pointer (some ⟨w1.heap.size, 0, none⟩)]) := by rw [hw3]; simp
    have hPk : Picks 41 #[.pointer (some ⟨w1.heap.size + 1, 0, none⟩), .pointer (some ⟨w1.heap.size + 2, 0, none⟩), .pointer (some ⟨w1.heap.size, 0, none⟩)] (pickB fs at_ os) w3.heap.size w3 :=
      source1C w1.heap.size (w1.heap.size + 1) (w1.heap.size + 2) _ _ fs os at_ _ w3 (HF.out.below hB3) (HO.out.below hB3) (by rw [hL3.cell (by show w1.heap.size < w2.heap.size; omega)]; exact y0) (by rw [hL3.cell (by show w1.heap.size + 1 < w2.heap.size; omega)]; exact y1) (by rw [hL3.cell (by show w1.heap.size + 2 < w2.heap.size; omega)]; exact y2) (by omega) (by omega) (by omega) rfl
    have hDl := with1C w.heap.size w2.heap.size body _ 41 _ enters_source1 (pickB fs at_ os) w3.heap.size w3 (Kind.sl_below HV.out hB3) hPk hb5 HPr.out x0 x1 (by omega) (by omega) rfl
    have HMt := hide (metC body _ 41 _ enters_source1 (pickB fs at_ os) w3 (Kind.sl_below HV.out hB3) hPk hb5 HBa.out HPl.out)
    have HDl := hide hDl
    have HB3 := hide hB3
    have HW3 := hide hw3
    have u0 : w2.cell? ⟨w.heap.size, 0, none⟩ = some (.slice a body.length cap) := by rw [hL2.cell (by exact hs1)]; exact z0
    have hx0 : w.heap.size < w2.heap.size := by omega
    clear x0 x1
    have hAB : allB (pickB fs at_ os) body = match metGo (pickB fs at_ os) 0 body [[]] with | none => none | some ms => some (sortBy cmpBs ((ms.filter fun l => !barredB (pickB fs at_ os) 0 body l).map sortB)) := rfl
    generalize barredB (pickB fs at_ os) 0 body = bp at *
    clear HSr hL2 hB2 hL3 hB3 hPk hDl hw3 y0 y1 y2 z0 hs2 hs3 HPr HPl HBa HF HO HBw
    go_wp2_with fail
    rw [← HW3.out]
    refine HMt.out.mono ?_
    rintro e w4 ⟨v4, er, rfl, hMT, hL4⟩
    cases hmg : metGo (pickB fs at_ os) 0 body [[]] with
    | none =>
      rw [hmg] at hMT hAB
      obtain ⟨rfl, rfl⟩ := hMT
      dsimp only at hAB
      have HAB := hide hAB
      have HL4 := hide hL4
      clear hmg hAB HMt hL4
      go_wp2
      go_ret2
      refine ⟨.slice none 0 0, 4, rfl, ?_, below_trans HB3.out HL4.out.below HB3.out.size⟩
      unfold WithT
      rw [if_neg (fun h => h H0.out), HAB.out]
      exact ⟨rfl, rfl⟩
    | some ms =>
      rw [hmg] at hMT hAB
      obtain ⟨rfl, ps, hps, hpl, hpq, hLs⟩ := hMT
      dsimp only at hAB
      have hpl' : ps.length ≤ 20000 := by rw [← hps, List.length_map] at hpl; exact hpl
      have hpq' : ∀ q ∈ ps, q.2.length ≤ 20 := fun q hq => hpq _ (by rw [← hps]; exact List.mem_map.2 ⟨q, hq, rfl⟩)
      have HDe := hide (deleteC v4 ps 22 _ enters_with1 bp w3.heap.size w3.heap.size w3 w4 HDl.out hL4.below (Nat.le_refl _) hL4.size hLs hpl' hpq')
      obtain ⟨a4, n4, c4, rfl⟩ : ∃ a n c, v4 = .slice a n c := by obtain ⟨a, c, e⟩ := Lists.slice hLs; exact ⟨a, _, c, e⟩
      have HLo : Hid (∀ k, (Value.slice a4 n4 c4).ownBlock = some k → w3.heap.size ≤ k) := fun k e => hLs.lo_le k e
      have HAB := hide hAB
      have HL4 := hide hL4
      have HPS := hide hps
      have HPL := hide hpl'
      have HPQ := hide hpq'
      clear hmg hAB HMt hL4 hps hpl hpq hLs hpl' hpq'
      go_wp2_with fail
      refine HDe.out.mono ?_
      rintro e w5 ⟨v5, rfl, hLs5, hob, hO5⟩
      have hL5 : Later w3 w5 := hO5.later HL4.out fun k e => HLo.out k e
      have hkl : (keptL bp ps).length ≤ 20000 := Nat.le_trans (List.length_filter_le _ _) HPL.out
      have HRi := hide (risenC v5 (keptL bp ps) w3.heap.size w3 w5 hL5 (Nat.le_refl _) hLs5 hkl (fun q hq => HPQ.out q (List.mem_filter.1 hq).1))
      obtain ⟨a5, n5, c5, rfl⟩ : ∃ a n c, v5 = .slice a n c := by obtain ⟨a, c, e⟩ := Lists.slice hLs5; exact ⟨a, _, c, e⟩
      clear HDe hLs5 hob hO5 hL5 hkl
      go_wp2_with fail
      refine HRi.out.mono ?_
      rintro e w6 ⟨rfl, hsl, hL6⟩
      have HSL := hide hsl
      have HL6 := hide hL6
      clear HRi hsl hL6
      go_wp2
      go_ret2
      refine ⟨.slice a5 n5 c5, 0, rfl, ?_, below_trans HB3.out HL6.out.below HB3.out.size⟩
      unfold WithT
      rw [if_neg (fun h => h H0.out), HAB.out]
      have e : (ms.filter fun l => !bp l).map sortB = (keptL bp ps).map fun q => sortB q.2 := by
        rw [← HPS.out]
        unfold keptL
        rw [List.filter_map, List.map_map]
        rfl
      rw [e]
      exact ⟨rfl, HSL.out⟩
  · have hq : (errW body fs os != 0) = true := by simpa using h0
    have H0 := hide h0
    generalize her : errW body fs os = er at *
    have HER := hide her
    clear h0 HV HF HO her
    go_enter Tryz.func5, Tryz.ntmps5
    go_wp2_with fail
    refine HW.out.mono ?_
    rintro e w1 ⟨rfl, hB1⟩
    have HB := hide (below_trans ((Later.refl w).alloc (.cells #[.slice a body.length cap] 22)).below hB1 (by simp))
    clear HW hB1
    go_wp2
    go_ret2
    refine ⟨.slice none 0 0, er, rfl, ?_, HB.out⟩
    unfold WithT
    rw [HER.out, if_pos H0.out]
    exact ⟨rfl, rfl⟩

end Go.Proofs.YthogickpeldhlaaGreat
