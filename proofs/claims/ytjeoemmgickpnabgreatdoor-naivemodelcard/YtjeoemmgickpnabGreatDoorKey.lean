/- What tells facts apart: each text behind its length; facts in a map by it. Nothing of the program. -/
import Derived.Lib.ItoaNum
import Derived.Test.YtjeoemmgickpnabGreatDoorJ2
import Derived.Test.YtjeoemmgickpnabGreatDoorJ3
namespace Go.Proofs.YtjeoemmgickpnabGreatDoor
open Go.RowKit Go.Sort Go.Maps

theorem digit_val {a : Nat} (h : a < 10) : (UInt8.ofNat (48 + a)).toNat = 48 + a := by
  rw [UInt8.toNat_ofNat']; exact Nat.mod_eq_of_lt (by omega)

theorem decDigits_ne (u : Nat) : Lib.decDigits u ≠ [] := by
  rw [Lib.decDigits]
  split <;> simp

theorem decDigits_inj : ∀ (u v : Nat), Lib.decDigits u = Lib.decDigits v → u = v := by
  intro u
  induction u using Nat.strongRecOn with
  | ind u ih =>
    intro v h
    rw [Lib.decDigits, Lib.decDigits.eq_1 v] at h
    split at h <;> split at h
    · rename_i h1 h2
      have := List.cons.inj h
      have := congrArg UInt8.toNat this.1
      rw [digit_val h1, digit_val h2] at this
      omega
    · rename_i h1 h2
      have := congrArg List.length h
      have h3 := List.length_pos_iff.2 (decDigits_ne (v / 10))
      rw [List.length_append, List.length_singleton, List.length_singleton] at this; omega
    · rename_i h1 h2
      have := congrArg List.length h
      have h3 := List.length_pos_iff.2 (decDigits_ne (u / 10))
      rw [List.length_append, List.length_singleton, List.length_singleton] at this; omega
    · rename_i h1 h2
      obtain ⟨h3, h4⟩ := List.append_inj' h rfl
      have h5 := ih (u / 10) (by omega) (v / 10) h3
      have h6 := congrArg UInt8.toNat (List.cons.inj h4).1
      rw [digit_val (Nat.mod_lt _ (by omega)), digit_val (Nat.mod_lt _ (by omega))] at h6
      omega

theorem decDigits_no32 : ∀ (u : Nat), (32 : UInt8) ∉ Lib.decDigits u := by
  intro u
  induction u using Nat.strongRecOn with
  | ind u ih =>
    have key : ∀ a, a < 10 → (32 : UInt8) ≠ UInt8.ofNat (48 + a) := fun a ha e => by
      have := congrArg UInt8.toNat e
      rw [digit_val ha] at this
      have h32 : (32 : UInt8).toNat = 32 := rfl
      omega
    rw [Lib.decDigits]
    split
    · rename_i h
      simp only [List.mem_singleton]
      exact key u h
    · rename_i h
      rw [List.mem_append]
      rintro (h1 | h1)
      · exact ih (u / 10) (by omega) h1
      · simp only [List.mem_singleton] at h1
        exact key _ (Nat.mod_lt _ (by omega)) h1

theorem cut32 : ∀ {a b x y : Bs}, 32 ∉ a → 32 ∉ b → a ++ 32 :: x = b ++ 32 :: y → a = b ∧ x = y
  | [], [], x, y, _, _, h => ⟨rfl, (List.cons.inj h).2⟩
  | [], c :: b, x, y, _, hb, h => by
    have := (List.cons.inj h).1
    exact absurd (by rw [this]; simp) hb
  | c :: a, [], x, y, ha, _, h => by
    have := (List.cons.inj h).1
    exact absurd (by rw [← this]; simp) ha
  | c :: a, d :: b, x, y, ha, hb, h => by
    obtain ⟨h1, h2⟩ := List.cons.inj h
    obtain ⟨h3, h4⟩ := cut32 (a := a) (b := b) (fun h => ha (by simp [h])) (fun h => hb (by simp [h])) h2
    exact ⟨by rw [h1, h3], h4⟩

/-- A text behind its length. -/
def partK (s : Bs) : Bs := Lib.decDigits s.length ++ 32 :: s
theorem partK_cut {s t x y : Bs} (h : partK s ++ x = partK t ++ y) : s = t ∧ x = y := by
  unfold partK at h
  rw [List.append_assoc, List.append_assoc, List.cons_append, List.cons_append] at h
  obtain ⟨h1, h2⟩ := cut32 (decDigits_no32 _) (decDigits_no32 _) h
  exact List.append_inj h2 (decDigits_inj _ _ h1)

def partsK : List ByteArray → Bs
  | [] => []
  | s :: l => partK (raw s) ++ partsK l
theorem partsK_inj : ∀ {l m : List ByteArray}, partsK l = partsK m → l = m
  | [], [], _ => rfl
  | [], s :: m, h => by simp [partsK, partK] at h
  | s :: l, [], h => by simp [partsK, partK] at h
  | s :: l, t :: m, h => by
    obtain ⟨h1, h2⟩ := partK_cut h
    rw [← bs_raw s, h1, bs_raw, partsK_inj h2]
theorem partsK_append : ∀ (l m : List ByteArray), partsK (l ++ m) = partsK l ++ partsK m
  | [], m => rfl
  | s :: l, m => by simp [partsK, partsK_append l m]

/-- What tells a fact apart. -/
def keyF (f : FactB) : Bs := partsK (f.1 :: f.2)
theorem keyF_inj {f g : FactB} (h : keyF f = keyF g) : f = g := by
  have := partsK_inj h
  obtain ⟨h1, h2⟩ := List.cons.inj this
  exact Prod.ext h1 h2

/-! ### facts in a map -/

/-- A fact's two cells. -/
abbrev Two := ByteArray × Option Addr × Nat × Nat
def encT (x : Two) : Value := .agg #[.string x.1, .slice x.2.1 x.2.2.1 x.2.2.2]
def twoOf (v : Value) : Option Two := match v with
  | .agg a => match a.toList with
    | [.string s, .slice p n c] => some (s, p, n, c)
    | _ => none
  | _ => none
theorem twoOf_enc (x : Two) : twoOf (encT x) = some x := rfl
theorem twoOf_inv {v : Value} {x : Two} (h : twoOf v = some x) : v = encT x := by
  unfold twoOf at h
  split at h
  · rename_i a
    obtain ⟨l, rfl⟩ : ∃ l : List Value, a = l.toArray := ⟨a.toList, by simp⟩
    simp only at h
    split at h
    · cases h
      rfl
    · cases h
  · cases h
/-- How such a value reads: as it is. -/
def twoElem (v : Value) : Option (DataW Two × List MemPlace) := (twoOf v).map fun x => (.held x, [])
theorem twoElem_mk (x : Two) : twoElem (encT x) = some (.held x, []) := rfl
theorem twoElem_inv {v : Value} {z : DataW Two × List MemPlace} (h : twoElem v = some z) : ∃ x, v = encT x ∧ z = (.held x, []) := by
  unfold twoElem at h
  cases e : twoOf v with
  | none => rw [e] at h; cases h
  | some x => rw [e] at h; cases h; exact ⟨x, twoOf_inv e, rfl⟩

theorem encT_inj {x y : Two} (h : encT x = encT y) : x = y := by
  have := twoOf_enc x
  rw [h, twoOf_enc] at this
  exact (Option.some.inj this).symm

theorem factV_two {w : World} {v : Value} {f : FactD} (h : FactV w v f) : ∃ x, v = encT x := by
  obtain ⟨s, rfl, hs⟩ := h
  obtain ⟨a, c, rfl⟩ := sliceStr hs
  exact ⟨(f.1, a, _, c), rfl⟩

/-- Block b holds facts, each by what tells it apart: those of L. -/
def KnownM (P : Program) (K : TypeId) (w : World) (b n : Nat) (L : List FactB) : Prop :=
  ∃ D : DataW Two, w.ownsMap P K twoElem b n D ∧ (∀ s, Maps.has D (.string s) = true ↔ ∃ f ∈ L, keyF f = s) ∧ (∀ f ∈ L, ∃ x, D.atKey (.string (keyF f)) .nil = .held x ∧ FactV w (encT x) f) ∧ Maps.size D = (setF L).length

theorem KnownM.made (P : Program) (K : TypeId) (w : World) : KnownM P K (w.alloc (.map #[] 0)) w.heap.size 0 [] :=
  ⟨.map [], World.ownsMap_made _ _ _ _, fun s => by simp [Maps.has], fun f hf => (by cases hf), by simp [Maps.size, setF, dropTwice, sortBy]⟩

section
variable {P : Program} {K : TypeId} {w w' : World} {b n : Nat} {L : List FactB}
theorem KnownM.lt (h : KnownM P K w b n L) : b < w.heap.size := by obtain ⟨D, h, _⟩ := h; exact h.lt
theorem KnownM.later (h : KnownM P K w b n L) (k : Later w w') : KnownM P K w' b n L := by
  obtain ⟨D, h, h1, h2, h3⟩ := h
  exact ⟨D, owns_block h (k.block h.lt), h1, fun f hf => by obtain ⟨x, e, hx⟩ := h2 f hf; exact ⟨x, e, hx.later k⟩, h3⟩
theorem KnownM.mono (h : KnownM P K w b n L) {n' : Nat} (hn : n ≤ n') : KnownM P K w b n' L := by obtain ⟨D, h, hf⟩ := h; exact ⟨D, h.mono hn, hf⟩
theorem KnownM.few (h : KnownM P K w b n L) : (setF L).length ≤ n := by obtain ⟨D, h, _, _, h3⟩ := h; rw [← h3]; exact h.size_le

theorem setF_more {L : List FactB} {f : FactB} : (setF (L ++ [f])).length = if inB L f then (setF L).length else (setF L).length + 1 := by
  split
  · rename_i h
    have h := inB_iff.1 h
    rw [setF_congr (l := L ++ [f]) (m := L) fun g => by
      rw [List.mem_append, List.mem_singleton]
      exact ⟨fun h' => h'.elim id (fun e => by rw [e]; exact h), Or.inl⟩]
  · rename_i h
    have h : f ∉ L := fun h' => h (inB_iff.2 h')
    have h1 : (f :: setF L).Nodup := List.nodup_cons.2 ⟨fun h' => h (mem_setF.1 h'), up_nodup (setF_up L)⟩
    have e : ∀ g, g ∈ setF (L ++ [f]) ↔ g ∈ f :: setF L := fun g => by
      rw [mem_setF, List.mem_append, List.mem_singleton, List.mem_cons, mem_setF]
      exact ⟨fun h => h.symm, fun h => h.symm⟩
    have a := sub_len (up_nodup (setF_up (L ++ [f]))) fun g hg => (e g).1 hg
    have b := sub_len h1 fun g hg => (e g).2 hg
    simp only [List.length_cons] at a b
    omega

theorem KnownM.store {E T : TypeId} (h : KnownM P K w b n L) (hk : P.underlying K = some .string) (ht : P.underlying T = some (.map K E)) (hn : n < maxLen) {f : FactB} {v : Value} (hv : FactV w v f) (hf : (keyF f).length ≤ maxLen) :
    ∃ w', (Instr.mapUpdate T (.map (some b)) (.string (bs (keyF f))) v).run P w = .ok () w' ∧ w.grownBy w' (some b) ∧ ((∀ g ∈ L ++ [f], ∀ u, FactV w u g → FactV w' u g) → KnownM P K w' b (n + 1) (L ++ [f])) := by
  obtain ⟨D, hown, h1, h2, h3⟩ := h
  obtain ⟨x, rfl⟩ := factV_two hv
  obtain ⟨w', hrun, r1, r2⟩ := hown.update (string_keyed hk) ht hn (key_mk hk hf) (twoElem_mk x)
  have hhas : Maps.has D (.string (keyF f)) = inB L f := by
    cases e : inB L f with
    | true => exact (h1 _).2 ⟨f, inB_iff.1 e, rfl⟩
    | false =>
      cases e2 : Maps.has D (.string (keyF f)) with
      | false => rfl
      | true =>
        obtain ⟨g, hg, hgf⟩ := (h1 _).1 e2
        rw [keyF_inj hgf] at hg
        rw [inB_iff.2 hg] at e; cases e
  refine ⟨w', hrun, r2, fun hkeep => ⟨_, r1, fun s => ?_, fun g hg => ?_, ?_⟩⟩
  · by_cases e : s = keyF f
    · subst e
      rw [has_put_same hown.isMap (keyS _)]
      simp only [true_iff]
      exact ⟨f, by simp, rfl⟩
    · rw [has_put_other (str_ne e), h1]
      constructor
      · rintro ⟨g, hg, hs⟩; exact ⟨g, by simp [hg], hs⟩
      · rintro ⟨g, hg, hs⟩
        rcases List.mem_append.1 hg with hg | hg
        · exact ⟨g, hg, hs⟩
        · simp only [List.mem_singleton] at hg
          subst hg; exact absurd hs.symm e
  · by_cases e : g = f
    · subst e
      exact ⟨x, by rw [atKey_put_same hown.isMap (keyS _)], hkeep g hg _ hv⟩
    · have hgL : g ∈ L := (List.mem_append.1 hg).elim id (fun h => absurd (List.mem_singleton.1 h) e)
      obtain ⟨y, hy, hfy⟩ := h2 g hgL
      exact ⟨y, by rw [atKey_put_other (str_ne fun h => e (keyF_inj h))]; exact hy, hkeep g hg _ hfy⟩
  · rw [size_put (hown.tidy (string_keyed hk)), hhas, setF_more, h3]

theorem KnownM.len {E T : TypeId} (h : KnownM P K w b n L) (ht : P.underlying T = some (.map K E)) (ty : TypeId) : (Builtin.len_ #[T] ty #[.map (some b)]).run P w = .ok (.int .i64 ((setF L).length : Nat)) w := by
  obtain ⟨D, hown, _, _, h3⟩ := h
  rw [hown.len ht, h3]
end

end Go.Proofs.YtjeoemmgickpnabGreatDoor
