/- Facts and lists of facts among a call's arguments, opened. -/
import Derived.Test.YtflldbpjhcgkbaaRefN
import Derived.ProofKit
import Derived.SliceStrings
import Derived.Deep.Slices
import Derived.Lib.SmallJoins
import Derived.SizedLaws
namespace Go.Proofs.Ytflldbpjhcgkbaa
open Go.RowKit Go.Sort Go.ChangeShapes Go.WideShapes Go.ChangeAt

theorem cellsFact : Try.prog.cellsOf 25 = 2 := by kernel_rfl
theorem cellsStr : Try.prog.cellsOf 9 = 1 := by kernel_rfl
theorem cellsStrs : Try.prog.cellsOf 23 = 1 := by kernel_rfl
theorem ownT : ownKnob Try.prog.godebug = none := by kernel_rfl
theorem laidOutT : laidOutB Try.prog = true := by kernel_rfl

variable {H : Type} {enc : TypeId × Value → H} {W : World}

theorem addr_plain {a : Addr} {i : Nat} {v : Value} (h : W.cell? (a.add i) = some v) (hi : i = 0) : ∃ b off, a = ⟨b, off, none⟩ := by
  subst hi
  obtain ⟨b, off, spot⟩ := a
  have hspot : spot = none := by simpa [Addr.add] using World.cell?_spot h
  subst hspot
  exact ⟨b, off, rfl⟩

/-- A slice of texts, read: its texts. -/
theorem trodStrs {n : Nat} {v : Value} {x : DataW H × List MemPlace} (h : DataW.trod enc Try.prog W 0 (fun _ => true) true n 23 [v] = some x) (hb : ∀ es sp, x.1 = .slice es sp → es.length ≤ 8796093022208) : ∃ l, Strs W v l ∧ ∀ s ∈ l, s.size ≤ 9223372036854775807 := by
  rcases open_strings Try.underlying23 Try.underlying9 cellsStr h with ⟨hcs, hx⟩ | ⟨a, len, cap, ss, hcs, _, hl, hm, hz, hx, hcell, hws⟩
  · simp only [List.cons.injEq, and_true] at hcs
    exact ⟨[], ⟨by simp, none, 0, by simpa using hcs, fun e => absurd rfl e⟩, fun s hs => by cases hs⟩
  · simp only [List.cons.injEq, and_true] at hcs
    simp only [if_true] at hz
    have hlen : (ss.take len).length = len := by rw [List.length_take]; omega
    have hbd := hb _ _ (by rw [hx])
    rw [strs, List.length_map] at hbd
    refine ⟨ss.take len, ⟨hbd, some a, cap, by rw [hlen]; exact hcs, fun hne => ?_⟩, fun s hs => by simpa [maxLen] using hws s (List.mem_of_mem_take hs)⟩
    have h0 : 0 < len := by
      refine Nat.pos_of_ne_zero fun e => hne ?_
      rw [e]; rfl
    obtain ⟨b, off, rfl⟩ := addr_plain (hcell 0 (by omega)) rfl
    refine ⟨b, off, rfl, World.block_lt_of_cell? W _ (hcell 0 (by omega)), fun i hi => ?_⟩
    rw [hlen] at hi
    have := hcell i (by omega)
    rw [Addr.add_lit] at this
    rw [this, List.getD_eq_getElem?_getD, List.getD_eq_getElem?_getD, List.getElem?_take, if_pos hi]

set_option maxRecDepth 100000 in
/-- A fact, read. -/
theorem trodFact {n : Nat} {cs : List Value} {x : DataW H × List MemPlace} (h : DataW.trod enc Try.prog W 0 (fun _ => true) true n 25 cs = some x) (hb : ∀ y es sp, x.1 = .agg [y, .slice es sp] → es.length ≤ 8796093022208) : ∃ f c0 c1, cs = [c0, c1] ∧ FactV W (.agg #[c0, c1]) f ∧ okF f := by
  obtain ⟨y0, y1, m, hx, hl, h0, h1⟩ := trod_struct2 Try.underlying25 h
  rw [cellsFact] at hl
  match cs, hl with
  | [c0, c1], _ =>
    have e0 : Try.prog.cellsOf 9 = 1 := cellsStr
    have e1 : Try.prog.cellsOf 23 = 1 := cellsStrs
    simp only [e0, e1, List.drop_zero, List.drop_succ_cons, List.take_succ_cons, List.take_zero] at h0 h1
    obtain ⟨s, hs, hy0, hsz⟩ := DataW.trod_string Try.underlying9 h0
    simp only [List.cons.injEq, and_true] at hs
    obtain ⟨l, hl, hlk⟩ := trodStrs h1 (fun es sp e => hb y0.1 es sp (by rw [hx]; simp [e]))
    exact ⟨(s, l), c0, c1, rfl, ⟨c1, by rw [hs], hl⟩, by simpa [maxLen] using hsz, hlk⟩

set_option maxRecDepth 100000 in
theorem openFact {b0 : Nat} {v : Value} {d : DataW H} {p : List MemPlace} (hv : Value.okWide Try.prog W .any b0 25 v) (h : DataW.Trod enc Try.prog W 0 (fun _ => true) true 25 v d p) (hb : ∀ y es sp, d = .agg [y, .slice es sp] → es.length ≤ 8796093022208) : ∃ f, FactV W v f ∧ okF f := by
  obtain ⟨cs, rfl, hsz⟩ := okWide_struct Try.underlying25 hv
  obtain ⟨fuel, hf⟩ := h
  obtain ⟨f, c0, c1, e, hF, hk⟩ := trodFact (by simpa [Value.cells] using hf) hb
  refine ⟨f, ?_, hk⟩
  have : cs = #[c0, c1] := by cases cs; simp_all
  rw [this]; exact hF

end Go.Proofs.Ytflldbpjhcgkbaa
