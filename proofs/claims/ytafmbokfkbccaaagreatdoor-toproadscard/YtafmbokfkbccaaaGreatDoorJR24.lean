/- Texts of this claim, one behind the other. -/
import Derived.Test.YtafmbokfkbccaaaGreatDoorJR23
import Derived.Test.YtafmbokfkbccaaaGreatDoorJR21
import Derived.Test.YtafmbokfkbccaaaGreatDoorJR22
import Derived.Deep.WholeRow
import Derived.Test.YtafmbokfkbccaaaGreatDoorJR8
/- Where roads lead: what the rules make of roads and towns; plain. Nothing of the program. -/
namespace Go.Proofs.YtafmbokfkbccaaaGreatDoor

def rdF (u v : ByteArray) : FactB := (⟨#[114, 111, 97, 100]⟩, [u, v])
def wyF (u v : ByteArray) : FactB := (⟨#[119, 97, 121]⟩, [u, v])
def cuF (u v : ByteArray) : FactB := (⟨#[99, 117, 116]⟩, [u, v])
def twF (u : ByteArray) : FactB := (⟨#[116, 111, 119, 110]⟩, [u])

def aRd (x y : Bs) : AtomD := ⟨false, [114, 111, 97, 100], [(true, x), (true, y)]⟩
def aWy (no : Bool) (x y : Bs) : AtomD := ⟨no, [119, 97, 121], [(true, x), (true, y)]⟩
def aTw (x : Bs) : AtomD := ⟨false, [116, 111, 119, 110], [(true, x)]⟩
def aCu (x y : Bs) : AtomD := ⟨false, [99, 117, 116], [(true, x), (true, y)]⟩
def chR0 : RuleD := ⟨aWy false [88] [89], [aRd [88] [89]]⟩
def chR1 : RuleD := ⟨aWy false [88] [90], [aWy false [88] [89], aRd [89] [90]]⟩
def chR2 : RuleD := ⟨aCu [88] [89], [aTw [88], aTw [89], aWy true [88] [89]]⟩
theorem chR_eq : chR = [chR0, chR1, chR2] := rfl

theorem fill2 {no : Bool} {nm x y : Bs} {env : List BindD} {f : FactB} : fillB ⟨no, nm, [(true, x), (true, y)]⟩ env = some f ↔ ∃ u v, getB env (bs x) = some u ∧ getB env (bs y) = some v ∧ f = (bs nm, [u, v]) := by
  simp only [fillB, fillArgs, worthB, if_true]
  cases getB env (bs x) with
  | none => simp
  | some u =>
    cases getB env (bs y) with
    | none => simp
    | some v => simp [eq_comm]

theorem fill1 {no : Bool} {nm x : Bs} {env : List BindD} {f : FactB} : fillB ⟨no, nm, [(true, x)]⟩ env = some f ↔ ∃ u, getB env (bs x) = some u ∧ f = (bs nm, [u]) := by
  simp only [fillB, fillArgs, worthB, if_true]
  cases getB env (bs x) with
  | none => simp
  | some u => simp [eq_comm]

theorem bsX : (bs [88] = bs [89]) = False := by simp [bs]

theorem bsXZ : (bs [88] = bs [90]) = False := by simp [bs]

theorem bsYZ : (bs [89] = bs [90]) = False := by simp [bs]

theorem cmpXY (u v : ByteArray) : cmpB (bs [88], u) (bs [89], v) < 0 := by
  have h : eS (bs [88]) (bs [89]) = -1 := by decide +kernel
  rw [eB_eq]
  simp [eB, h]

theorem cmpXZ (u v : ByteArray) : cmpB (bs [88], u) (bs [90], v) < 0 := by
  have h : eS (bs [88]) (bs [90]) = -1 := by decide +kernel
  rw [eB_eq]
  simp [eB, h]

theorem cmpYZ (u v : ByteArray) : cmpB (bs [89], u) (bs [90], v) < 0 := by
  have h : eS (bs [89]) (bs [90]) = -1 := by decide +kernel
  rw [eB_eq]
  simp [eB, h]

def MadeB (fs : List FactB) (r : RuleD) (f : FactB) : Prop := ∃ env, FitsB (fun _ => fs) r.body env ∧ fillB r.head env = some f

theorem made0 {fs : List FactB} {f : FactB} : MadeB fs chR0 f ↔ ∃ u v, rdF u v ∈ fs ∧ f = wyF u v := by
  constructor
  · rintro ⟨env, ⟨_, _, _, hs⟩, hf⟩
    obtain ⟨u, v, h1, h2, rfl⟩ := fill2.1 hf
    obtain ⟨g, hg, hi⟩ := SoB_const.1 hs _ (by simp [chR0] : aRd [88] [89] ∈ chR0.body)
    obtain ⟨u', v', h3, h4, rfl⟩ := fill2.1 hg
    rw [h1] at h3; rw [h2] at h4
    cases h3; cases h4
    exact ⟨u, v, inB_iff.1 hi, rfl⟩
  · rintro ⟨u, v, hm, rfl⟩
    refine ⟨[(bs [88], u), (bs [89], v)], ⟨?_, ?_, ?_, ?_⟩, ?_⟩
    · simp [cmpXY]
    · simp [keysB, bsX]
    · intro x
      have e : posVars [] chR0.body = [[88], [89]] := by rfl
      rw [e]; simp [keysB]
    · refine SoB_const.2 fun a ha => ?_
      simp only [chR0, List.mem_cons, List.not_mem_nil, or_false] at ha
      subst ha
      exact ⟨rdF u v, fill2.2 ⟨u, v, by simp [getB], by simp [getB, bsX], rfl⟩, inB_iff.2 hm⟩
    · exact fill2.2 ⟨u, v, by simp [getB], by simp [getB, bsX], rfl⟩

theorem made1 {fs : List FactB} {f : FactB} : MadeB fs chR1 f ↔ ∃ u v t, wyF u v ∈ fs ∧ rdF v t ∈ fs ∧ f = wyF u t := by
  constructor
  · rintro ⟨env, ⟨_, _, _, hs⟩, hf⟩
    obtain ⟨u, t, h1, h2, rfl⟩ := fill2.1 hf
    obtain ⟨g, hg, hi⟩ := SoB_const.1 hs _ (by simp [chR1] : aWy false [88] [89] ∈ chR1.body)
    obtain ⟨u', v, h3, h4, rfl⟩ := fill2.1 hg
    obtain ⟨g, hg', hi'⟩ := SoB_const.1 hs _ (by simp [chR1] : aRd [89] [90] ∈ chR1.body)
    obtain ⟨v', t', h5, h6, rfl⟩ := fill2.1 hg'
    rw [h1] at h3; rw [h4] at h5; rw [h2] at h6
    cases h3; cases h5; cases h6
    exact ⟨u, v, t, inB_iff.1 hi, inB_iff.1 hi', rfl⟩
  · rintro ⟨u, v, t, hm, hm', rfl⟩
    refine ⟨[(bs [88], u), (bs [89], v), (bs [90], t)], ⟨?_, ?_, ?_, ?_⟩, ?_⟩
    · simp [cmpXY, cmpXZ, cmpYZ]
    · simp [keysB, bsX, bsXZ, bsYZ]
    · intro x
      have e : posVars [] chR1.body = [[88], [89], [90]] := by rfl
      rw [e]; simp [keysB]
    · refine SoB_const.2 fun a ha => ?_
      simp only [chR1, List.mem_cons, List.not_mem_nil, or_false] at ha
      rcases ha with rfl | rfl
      · exact ⟨wyF u v, fill2.2 ⟨u, v, by simp [getB], by simp [getB, bsX], rfl⟩, inB_iff.2 hm⟩
      · exact ⟨rdF v t, fill2.2 ⟨v, t, by simp [getB, bsX], by simp [getB, bsXZ, bsYZ], rfl⟩, inB_iff.2 hm'⟩
    · exact fill2.2 ⟨u, t, by simp [getB], by simp [getB, bsXZ, bsYZ], rfl⟩

theorem made2 {fs : List FactB} {f : FactB} : MadeB fs chR2 f ↔ ∃ u v, twF u ∈ fs ∧ twF v ∈ fs ∧ wyF u v ∉ fs ∧ f = cuF u v := by
  constructor
  · rintro ⟨env, ⟨_, _, _, hs⟩, hf⟩
    obtain ⟨u, v, h1, h2, rfl⟩ := fill2.1 hf
    obtain ⟨g, hg, hi⟩ := SoB_const.1 hs _ (by simp [chR2] : aTw [88] ∈ chR2.body)
    obtain ⟨u', h3, rfl⟩ := fill1.1 hg
    obtain ⟨g, hg', hi'⟩ := SoB_const.1 hs _ (by simp [chR2] : aTw [89] ∈ chR2.body)
    obtain ⟨v', h4, rfl⟩ := fill1.1 hg'
    obtain ⟨g, hg2, hi2⟩ := SoB_const.1 hs _ (by simp [chR2] : aWy true [88] [89] ∈ chR2.body)
    obtain ⟨u2, v2, h5, h6, rfl⟩ := fill2.1 hg2
    rw [h1] at h3 h5; rw [h2] at h4 h6
    cases h3; cases h4; cases h5; cases h6
    refine ⟨u, v, inB_iff.1 hi, inB_iff.1 hi', fun hm => ?_, rfl⟩
    have hi3 : inB fs (wyF u v) = false := hi2
    rw [inB_iff.2 hm] at hi3; cases hi3
  · rintro ⟨u, v, hm, hm', hn, rfl⟩
    refine ⟨[(bs [88], u), (bs [89], v)], ⟨?_, ?_, ?_, ?_⟩, ?_⟩
    · simp [cmpXY]
    · simp [keysB, bsX]
    · intro x
      have e : posVars [] chR2.body = [[88], [89]] := by rfl
      rw [e]; simp [keysB]
    · refine SoB_const.2 fun a ha => ?_
      simp only [chR2, List.mem_cons, List.not_mem_nil, or_false] at ha
      rcases ha with rfl | rfl | rfl
      · exact ⟨twF u, fill1.2 ⟨u, by simp [getB], rfl⟩, inB_iff.2 hm⟩
      · exact ⟨twF v, fill1.2 ⟨v, by simp [getB, bsX], rfl⟩, inB_iff.2 hm'⟩
      · refine ⟨wyF u v, fill2.2 ⟨u, v, by simp [getB], by simp [getB, bsX], rfl⟩, ?_⟩
        cases h : inB fs (wyF u v)
        · rfl
        · exact absurd (inB_iff.1 h) hn
    · exact fill2.2 ⟨u, v, by simp [getB], by simp [getB, bsX], rfl⟩


def posN : List AtomD → Nat
  | [] => 0
  | a :: l => (if a.no then 0 else 1) + posN l

theorem meetAll_len (a : AtomD) (fs : List FactB) : ∀ ls : List (List BindD), (meetAllB a fs ls).length ≤ ls.length * fs.length
  | [] => by simp [meetAllB]
  | l :: ls => by
    have ih := meetAll_len a fs ls
    have h1 : (fs.filterMap fun f => meetB a f l).length ≤ fs.length := List.length_filterMap_le _ _
    unfold meetAllB at ih ⊢
    rw [List.flatMap_cons, List.length_append, List.length_cons, Nat.succ_mul]
    omega

theorem met_some {pick : Nat → List FactB} {F : Nat} (hF : ∀ i, (pick i).length ≤ F) : ∀ (body : List AtomD) (n : Nat) (ls : List (List BindD)) (c : Nat), ls.length ≤ c → (∀ k, k ≤ posN body → c * F ^ k ≤ 20000) → ∃ ms, metGo pick n body ls = some ms
  | [], n, ls, c, _, _ => ⟨ls, rfl⟩
  | a :: body, n, ls, c, hc, hk => by
    unfold metGo
    split
    · rename_i ha
      exact met_some hF body _ ls c hc fun k hk' => hk k (by simp only [posN, ha, if_true]; omega)
    · rename_i ha
      have h1 : (meetAllB a (pick n) ls).length ≤ c * F := Nat.le_trans (meetAll_len a _ ls) (Nat.mul_le_mul hc (hF n))
      have h2 : c * F ≤ 20000 := by have := hk 1 (by simp only [posN, if_neg ha]; omega); simpa using this
      rw [if_neg (by omega)]
      refine met_some hF body _ _ (c * F) h1 fun k hk' => ?_
      have := hk (k + 1) (by simp only [posN, if_neg ha]; omega)
      rw [Nat.pow_succ, Nat.mul_comm (F ^ k) F, ← Nat.mul_assoc] at this
      exact this

theorem all_some {pick : Nat → List FactB} (hF : ∀ i, (pick i).length ≤ 141) {r : RuleD} (hr : r ∈ chR) : ∃ R, allB pick r.body = some R := by
  have hp : posN r.body ≤ 2 := by
    rw [chR_eq] at hr
    simp only [List.mem_cons, List.not_mem_nil, or_false] at hr
    rcases hr with rfl | rfl | rfl <;> decide
  obtain ⟨ms, h⟩ := met_some hF r.body 0 [[]] 1 (by simp) fun k hk => by
    have : k = 0 ∨ k = 1 ∨ k = 2 := by omega
    rcases this with rfl | rfl | rfl <;> decide
  exact ⟨_, by unfold allB; rw [h]⟩

end Go.Proofs.YtafmbokfkbccaaaGreatDoor

/- Where roads lead: all that follows of roads and towns, and how roads are gone on and on; plain. Nothing of the program. -/
namespace Go.Proofs.YtafmbokfkbccaaaGreatDoor

inductive Leads (E : Nat → Nat → Prop) : Nat → Nat → Prop
  | one {a b : Nat} : E a b → Leads E a b
  | more {a b c : Nat} : Leads E a b → E b c → Leads E a c

theorem Leads.trans {E : Nat → Nat → Prop} {a b c : Nat} (h : Leads E a b) (h' : Leads E b c) : Leads E a c := by
  induction h' with
  | one e => exact .more h e
  | more _ e ih => exact .more ih e

theorem Leads.mono {E F : Nat → Nat → Prop} (h : ∀ a b, E a b → F a b) {a b : Nat} (hl : Leads E a b) : Leads F a b := by
  induction hl with
  | one e => exact .one (h _ _ e)
  | more _ e ih => exact .more ih (h _ _ e)


def updR (f : Nat → Nat → Bool) (a b c : Nat) : Nat → Nat → Bool := fun x y => if x = a ∧ y = c then f a c || (f a b && f b c) else f x y
def passC (f : Nat → Nat → Bool) (a b : Nat) : Nat → Nat → Nat → Bool
  | 0 => f
  | c + 1 => updR (passC f a b c) a b c
def passB (n : Nat) (f : Nat → Nat → Bool) (a : Nat) : Nat → Nat → Nat → Bool
  | 0 => f
  | b + 1 => passC (passB n f a b) a b n
def passA (n : Nat) (f : Nat → Nat → Bool) : Nat → Nat → Nat → Bool
  | 0 => f
  | a + 1 => passB n (passA n f a) a n
def passN (n : Nat) (f : Nat → Nat → Bool) : Nat → Nat → Nat → Bool
  | 0 => f
  | k + 1 => passA n (passN n f k) n

def LeR (f g : Nat → Nat → Bool) : Prop := ∀ x y, f x y = true → g x y = true
theorem LeR.trans {f g h : Nat → Nat → Bool} (a : LeR f g) (b : LeR g h) : LeR f h := fun x y e => b x y (a x y e)
theorem upd_le (f : Nat → Nat → Bool) (a b c : Nat) : LeR f (updR f a b c) := fun x y e => by
  unfold updR
  split
  · rename_i h
    rw [← h.1, ← h.2, e, Bool.true_or]
  · exact e
theorem passC_le (f : Nat → Nat → Bool) (a b : Nat) : ∀ c, LeR f (passC f a b c)
  | 0 => fun _ _ e => e
  | c + 1 => (passC_le f a b c).trans (upd_le _ _ _ _)
theorem passB_le (n : Nat) (f : Nat → Nat → Bool) (a : Nat) : ∀ b, LeR f (passB n f a b)
  | 0 => fun _ _ e => e
  | b + 1 => (passB_le n f a b).trans (passC_le _ _ _ _)
theorem passA_le (n : Nat) (f : Nat → Nat → Bool) : ∀ a, LeR f (passA n f a)
  | 0 => fun _ _ e => e
  | a + 1 => (passA_le n f a).trans (passB_le _ _ _ _)

theorem passC_get {f : Nat → Nat → Bool} {a b c : Nat} (h1 : f a b = true) (h2 : f b c = true) : ∀ {C : Nat}, c < C → passC f a b C a c = true
  | 0, h => by omega
  | C + 1, h => by
    by_cases e : c = C
    · subst e
      show updR _ a b c a c = true
      unfold updR
      rw [if_pos ⟨rfl, rfl⟩, passC_le f a b c _ _ h1, passC_le f a b c _ _ h2]
      simp
    · exact upd_le _ _ _ _ _ _ (passC_get h1 h2 (by omega))

theorem passB_get {n : Nat} {f : Nat → Nat → Bool} {a b c : Nat} (h1 : f a b = true) (h2 : f b c = true) (hc : c < n) : ∀ {B : Nat}, b < B → passB n f a B a c = true
  | 0, h => by omega
  | B + 1, h => by
    by_cases e : b = B
    · subst e
      exact passC_get (passB_le n f a b _ _ h1) (passB_le n f a b _ _ h2) hc
    · exact passC_le _ _ _ _ _ _ (passB_get h1 h2 hc (by omega))

theorem passA_get {n : Nat} {f : Nat → Nat → Bool} {a b c : Nat} (h1 : f a b = true) (h2 : f b c = true) (hb : b < n) (hc : c < n) : ∀ {A : Nat}, a < A → passA n f A a c = true
  | 0, h => by omega
  | A + 1, h => by
    by_cases e : a = A
    · subst e
      exact passB_get (passA_le n f a _ _ h1) (passA_le n f a _ _ h2) hc hb
    · exact passB_le _ _ _ _ _ _ (passA_get h1 h2 hb hc (by omega))

def SndR (E : Nat → Nat → Prop) (f : Nat → Nat → Bool) : Prop := ∀ x y, f x y = true → Leads E x y
theorem upd_snd {E : Nat → Nat → Prop} {f : Nat → Nat → Bool} (h : SndR E f) (a b c : Nat) : SndR E (updR f a b c) := fun x y e => by
  unfold updR at e
  split at e
  · rename_i hx
    rw [hx.1, hx.2]
    simp only [Bool.or_eq_true, Bool.and_eq_true] at e
    rcases e with e | e
    · exact h _ _ e
    · exact (h _ _ e.1).trans (h _ _ e.2)
  · exact h _ _ e
theorem passC_snd {E : Nat → Nat → Prop} {f : Nat → Nat → Bool} (h : SndR E f) (a b : Nat) : ∀ c, SndR E (passC f a b c)
  | 0 => h
  | c + 1 => upd_snd (passC_snd h a b c) _ _ _
theorem passB_snd {E : Nat → Nat → Prop} {n : Nat} {f : Nat → Nat → Bool} (h : SndR E f) (a : Nat) : ∀ b, SndR E (passB n f a b)
  | 0 => h
  | b + 1 => passC_snd (passB_snd h a b) _ _ _
theorem passA_snd {E : Nat → Nat → Prop} {n : Nat} {f : Nat → Nat → Bool} (h : SndR E f) : ∀ a, SndR E (passA n f a)
  | 0 => h
  | a + 1 => passB_snd (passA_snd h a) _ _
theorem passN_snd {E : Nat → Nat → Prop} {n : Nat} {f : Nat → Nat → Bool} (h : SndR E f) : ∀ k, SndR E (passN n f k)
  | 0 => h
  | k + 1 => passA_snd (passN_snd h k) _

def Via (E : Nat → Nat → Prop) : Nat → Nat → Nat → Prop
  | 0 => E
  | k + 1 => fun a b => Via E k a b ∨ (Via E k a k ∧ Via E k k b)
theorem Via.trans {E : Nat → Nat → Prop} : ∀ {k a x b : Nat}, x < k → Via E k a x → Via E k x b → Via E k a b
  | 0, a, x, b, h, _, _ => by omega
  | k + 1, a, x, b, h, h1, h2 => by
    by_cases e : x = k
    · subst e
      exact Or.inr ⟨h1.elim id (·.1), h2.elim id (·.2)⟩
    · have hx : x < k := by omega
      rcases h1 with h1 | ⟨h1, h3⟩
      · rcases h2 with h2 | ⟨h2, h4⟩
        · exact Or.inl (Via.trans hx h1 h2)
        · exact Or.inr ⟨Via.trans hx h1 h2, h4⟩
      · rcases h2 with h2 | ⟨_, h4⟩
        · exact Or.inr ⟨h1, Via.trans hx h3 h2⟩
        · exact Or.inr ⟨h1, h4⟩
theorem via_of {E : Nat → Nat → Prop} {a b : Nat} (h : E a b) : ∀ k, Via E k a b
  | 0 => h
  | k + 1 => Or.inl (via_of h k)
theorem via_leads {E : Nat → Nat → Prop} {n : Nat} (hE : ∀ a b, E a b → a < n ∧ b < n) {a b : Nat} (h : Leads E a b) : Via E n a b := by
  induction h with
  | one e => exact via_of e n
  | more _ e ih => exact Via.trans (hE _ _ e).1 ih (via_of e n)
theorem pass_via {E : Nat → Nat → Prop} {n : Nat} {f : Nat → Nat → Bool} (hf : ∀ a b, E a b → f a b = true) : ∀ {k : Nat}, k ≤ n → ∀ {a b}, a < n → b < n → Via E k a b → passN n f k a b = true
  | 0, _, a, b, _, _, h => hf a b h
  | k + 1, hk, a, b, ha, hb, h => by
    rcases h with h | ⟨h1, h2⟩
    · exact passA_le _ _ _ _ _ (pass_via hf (by omega) ha hb h)
    · exact passA_get (pass_via hf (by omega) ha (by omega) h1) (pass_via hf (by omega) (by omega) hb h2) (by omega) hb ha

theorem pass_leads {n : Nat} {f : Nat → Nat → Bool} (hf : ∀ a b, f a b = true → a < n ∧ b < n) {a b : Nat} (ha : a < n) (hb : b < n) : passN n f n a b = true ↔ Leads (fun a b => f a b = true) a b :=
  ⟨fun h => passN_snd (fun _ _ e => .one e) n a b h, fun h => pass_via (fun _ _ e => e) (Nat.le_refl n) ha hb (via_leads hf h)⟩


structure Net (n : Nat) (E : Nat → Nat → Prop) (L : List FactB) : Prop where
  n6 : n ≤ 6
  e8 : ∀ a b, E a b → a < 8 ∧ b < 8
  up : Up L
  few : L.length ≤ 20
  mem : ∀ f, f ∈ L ↔ (∃ a b, E a b ∧ f = rdF (chN a) (chN b)) ∨ ∃ k, k < n ∧ f = twF (chN k)

def pairs8 : List (Nat × Nat) := (List.range 8).flatMap fun a => (List.range 8).map fun b => (a, b)
theorem mem_pairs {a b : Nat} (ha : a < 8) (hb : b < 8) : (a, b) ∈ pairs8 := by
  simp only [pairs8, List.mem_flatMap, List.mem_map, List.mem_range]
  exact ⟨a, ha, b, hb, rfl⟩
def pairs6 : List (Nat × Nat) := (List.range 6).flatMap fun a => (List.range 6).map fun b => (a, b)
theorem mem_pairs6 {a b : Nat} (ha : a < 6) (hb : b < 6) : (a, b) ∈ pairs6 := by
  simp only [pairs6, List.mem_flatMap, List.mem_map, List.mem_range]
  exact ⟨a, ha, b, hb, rfl⟩
theorem pairs8_len : pairs8.length = 64 := by decide
theorem pairs6_len : pairs6.length = 36 := by decide

def InU (n : Nat) (E : Nat → Nat → Prop) (L : List FactB) (f : FactB) : Prop := f ∈ L ∨ (∃ a b, a < 8 ∧ b < 8 ∧ Leads E a b ∧ f = wyF (chN a) (chN b)) ∨ ∃ a b, a < n ∧ b < n ∧ f = cuF (chN a) (chN b)
def allU (L : List FactB) : List FactB := L ++ (pairs8.map fun p => wyF (chN p.1) (chN p.2)) ++ pairs6.map fun p => cuF (chN p.1) (chN p.2)

variable {n : Nat} {E : Nat → Nat → Prop} {L : List FactB}

theorem Net.all (h : Net n E L) {f : FactB} (hf : InU n E L f) : f ∈ allU L := by
  have h6 := h.n6
  simp only [allU, List.mem_append, List.mem_map]
  rcases hf with hf | ⟨a, b, ha, hb, _, rfl⟩ | ⟨a, b, ha, hb, rfl⟩
  · exact Or.inl (Or.inl hf)
  · exact Or.inl (Or.inr ⟨(a, b), mem_pairs ha hb, rfl⟩)
  · exact Or.inr ⟨(a, b), mem_pairs6 (by omega) (by omega), rfl⟩

theorem Net.allLen (h : Net n E L) : (allU L).length ≤ 141 := by
  have := h.few
  simp only [allU, List.length_append, List.length_map, pairs8_len, pairs6_len]
  omega

theorem Net.len (h : Net n E L) {K : List FactB} (hu : Up K) (hK : ∀ f ∈ K, InU n E L f) : K.length ≤ 141 :=
  Nat.le_trans (up_le hu fun f hf => h.all (hK f hf)) h.allLen

theorem chN_inj {a b : Nat} (ha : a < 8) (hb : b < 8) (h : chN a = chN b) : a = b := by
  have key : ∀ p ∈ pairs8, chN p.1 = chN p.2 → p.1 = p.2 := by decide +kernel
  exact key _ (mem_pairs ha hb) h

theorem rd_inj {u v u' v' : ByteArray} : rdF u v = rdF u' v' ↔ u = u' ∧ v = v' := by simp [rdF]

theorem wy_inj {u v u' v' : ByteArray} : wyF u v = wyF u' v' ↔ u = u' ∧ v = v' := by simp [wyF]

theorem cu_inj {u v u' v' : ByteArray} : cuF u v = cuF u' v' ↔ u = u' ∧ v = v' := by simp [cuF]

theorem tw_inj {u u' : ByteArray} : twF u = twF u' ↔ u = u' := by simp [twF]

theorem Net.rd (h : Net n E L) {u v : ByteArray} (hf : InU n E L (rdF u v)) : ∃ a b, E a b ∧ u = chN a ∧ v = chN b := by
  rcases hf with hf | ⟨a, b, _, _, _, e⟩ | ⟨a, b, _, _, e⟩
  · rcases (h.mem _).1 hf with ⟨a, b, he, e⟩ | ⟨k, _, e⟩
    · exact ⟨a, b, he, rd_inj.1 e⟩
    · simp [rdF, twF] at e
  · simp [rdF, wyF] at e
  · simp [rdF, cuF] at e

theorem Net.wy (h : Net n E L) {u v : ByteArray} (hf : InU n E L (wyF u v)) : ∃ a b, a < 8 ∧ b < 8 ∧ Leads E a b ∧ u = chN a ∧ v = chN b := by
  rcases hf with hf | ⟨a, b, ha, hb, hl, e⟩ | ⟨a, b, _, _, e⟩
  · rcases (h.mem _).1 hf with ⟨a, b, he, e⟩ | ⟨k, _, e⟩
    · simp [rdF, wyF] at e
    · simp [wyF, twF] at e
  · exact ⟨a, b, ha, hb, hl, wy_inj.1 e⟩
  · simp [wyF, cuF] at e

theorem Net.tw (h : Net n E L) {u : ByteArray} (hf : InU n E L (twF u)) : ∃ k, k < n ∧ u = chN k := by
  rcases hf with hf | ⟨a, b, _, _, _, e⟩ | ⟨a, b, _, _, e⟩
  · rcases (h.mem _).1 hf with ⟨a, b, _, e⟩ | ⟨k, hk, e⟩
    · simp [rdF, twF] at e
    · exact ⟨k, hk, tw_inj.1 e⟩
  · simp [twF, wyF] at e
  · simp [twF, cuF] at e

theorem Net.made (h : Net n E L) {K : List FactB} (hK : ∀ f ∈ K, InU n E L f) {r : RuleD} (hr : r ∈ chR) {f : FactB} (hm : MadeB K r f) : InU n E L f := by
  rw [chR_eq] at hr
  simp only [List.mem_cons, List.not_mem_nil, or_false] at hr
  rcases hr with rfl | rfl | rfl
  · obtain ⟨u, v, h1, rfl⟩ := made0.1 hm
    obtain ⟨a, b, he, rfl, rfl⟩ := h.rd (hK _ h1)
    exact Or.inr (Or.inl ⟨a, b, (h.e8 a b he).1, (h.e8 a b he).2, .one he, rfl⟩)
  · obtain ⟨u, v, t, h1, h2, rfl⟩ := made1.1 hm
    obtain ⟨a, b, ha, hb, hl, rfl, rfl⟩ := h.wy (hK _ h1)
    obtain ⟨c, d, he, e, rfl⟩ := h.rd (hK _ h2)
    obtain rfl := chN_inj hb (h.e8 c d he).1 e
    exact Or.inr (Or.inl ⟨a, d, ha, (h.e8 _ d he).2, .more hl he, rfl⟩)
  · obtain ⟨u, v, h1, h2, _, rfl⟩ := made2.1 hm
    obtain ⟨a, ha, rfl⟩ := h.tw (hK _ h1)
    obtain ⟨b, hb, rfl⟩ := h.tw (hK _ h2)
    exact Or.inr (Or.inr ⟨a, b, ha, hb, rfl⟩)

def lvC (s : Bs) : Nat := if s = [99, 117, 116] then 1 else 0
theorem lv_map : chR.map (fun r => lvC r.head.name) = [0, 0, 1] := by decide
theorem ch_rightP : RightP chR := rightP_iff.1 (by decide +kernel)
theorem ch_sol : Sol chR lvC := fun r hr a ha _ => (by decide +kernel : ∀ r ∈ chR, ∀ a ∈ r.body, lvC a.name + step a ≤ lvC r.head.name) r hr a ha

theorem Net.good (h : Net n E L) : GoodS chR L := by
  have k1 : ∀ p ∈ pairs8, RightF (rdF (chN p.1) (chN p.2)) ∧ fitF chR (rdF (chN p.1) (chN p.2)) = true := by unfold RightF; decide +kernel
  have k2 : ∀ k ∈ List.range 8, RightF (twF (chN k)) ∧ fitF chR (twF (chN k)) = true := by unfold RightF; decide +kernel
  have key : ∀ f ∈ L, RightF f ∧ fitF chR f = true := fun f hf => by
    rcases (h.mem f).1 hf with ⟨a, b, he, rfl⟩ | ⟨k, hk, rfl⟩
    · exact k1 (a, b) (mem_pairs (h.e8 a b he).1 (h.e8 a b he).2)
    · exact k2 k (List.mem_range.2 (by have := h.n6; omega))
  exact ⟨h.up, fun f hf => (key f hf).1, by have := h.few; omega, fun f hf => (key f hf).2⟩

theorem Net.heads (h : Net n E L) {K : List FactB} (hu : Up K) (hK : ∀ f ∈ K, InU n E L f) {r : RuleD} (hr : r ∈ chR) : ∃ x, headsP r K = some x ∧ ∀ f, f ∈ x ↔ MadeB K r f := by
  obtain ⟨R, hR⟩ := all_some (pick := fun _ => K) (fun _ => h.len hu hK) hr
  have e : headsP r K = some (setF (R.filterMap fun l => fillB r.head l)) := by unfold headsP; rw [hR]
  exact ⟨_, e, heads_mem (covers_right (ch_rightP.rules r hr)) e⟩

theorem Net.once (h : Net n E L) {K : List FactB} (hu : Up K) (hK : ∀ f ∈ K, InU n E L f) (st : Int) : ∃ S, onceP chR [0, 0, 1] st K = (0, S) ∧ Up S ∧ ∀ f ∈ S, InU n E L f := by
  rw [← lv_map]
  have h0 : (onceGo st K chR (chR.map fun r => lvC r.head.name) K).1 = 0 := by
    refine onceGo_of (fun r => lvC r.head.name) (T := allU L) (Nat.le_trans h.allLen (by omega)) (fun r hr _ => ?_) fun f hf => h.all (hK f hf)
    obtain ⟨x, hx, hm⟩ := h.heads hu hK hr
    exact ⟨x, hx, fun f hf => h.all (h.made hK hr ((hm f).1 hf))⟩
  have e : onceP chR (chR.map fun r => lvC r.head.name) st K = (0, (onceP chR (chR.map fun r => lvC r.head.name) st K).2) := Prod.ext h0 rfl
  obtain ⟨_, _, h3, h4, _⟩ := onceGo_ok (fun r => lvC r.head.name) e
  refine ⟨_, e, h4, fun f hf => ?_⟩
  rcases h3 f hf with hf | ⟨r, hr, _, x, hx, hf⟩
  · exact hK f hf
  · obtain ⟨y, hy, hm⟩ := h.heads hu hK hr
    rw [hx] at hy; cases hy
    exact h.made hK hr ((hm f).1 hf)

theorem Net.over (h : Net n E L) (st : Int) : ∀ (k : Nat) {K : List FactB}, Up K → (∀ f ∈ K, InU n E L f) → ∃ S, overGo chR [0, 0, 1] st k K = (0, S) ∧ Up S ∧ ∀ f ∈ S, InU n E L f
  | 0, K, hu, hK => ⟨K, rfl, hu, hK⟩
  | k + 1, K, hu, hK => by
    obtain ⟨S, h1, h2, h3⟩ := h.once hu hK st
    unfold overGo
    rw [h1]
    dsimp only
    rw [if_neg (by simp)]
    split
    · exact ⟨S, rfl, h2, h3⟩
    · exact h.over st k h2 h3

theorem Net.run (h : Net n E L) : ∀ (c m : Nat) {K : List FactB}, Up K → (∀ f ∈ K, InU n E L f) → ∃ S, runGo chR [0, 0, 1] c m K = (0, S) ∧ Up S ∧ ∀ f ∈ S, InU n E L f
  | 0, m, K, hu, hK => ⟨K, rfl, hu, hK⟩
  | c + 1, m, K, hu, hK => by
    obtain ⟨S, h1, h2, h3⟩ := h.over m 201 hu hK
    unfold runGo
    rw [h1]
    dsimp only
    rw [if_neg (by simp)]
    exact h.run c (m + 1) h2 h3

theorem Net.follows (h : Net n E L) : ∃ M, runGo chR [0, 0, 1] 2 0 L = (0, M) ∧ Up M ∧ (∀ f ∈ M, InU n E L f) ∧ (∀ f ∈ L, f ∈ M) ∧ (∀ a b, a < 8 → b < 8 → (wyF (chN a) (chN b) ∈ M ↔ Leads E a b)) ∧ ∀ a b, a < n → b < n → (cuF (chN a) (chN b) ∈ M ↔ ¬ Leads E a b) := by
  obtain ⟨M, h1, h2, h3⟩ := h.run 2 0 h.up fun f hf => Or.inl hf
  have h6 := h.n6
  have ec : countP (chR.map fun r => lvC r.head.name) = 2 := by decide
  have e1 : runGo chR (chR.map fun r => lvC r.head.name) (countP (chR.map fun r => lvC r.head.name)) 0 L = (0, M) := by rw [ec, lv_map]; exact h1
  obtain ⟨m1, m2⟩ := run_model ch_rightP ch_sol h.good e1
  have hd := run_needed ch_rightP ch_sol h.good e1 fun r hr => by obtain ⟨x, hx, _⟩ := h.heads h2 h3 hr; exact ⟨x, hx⟩
  have hcl : ∀ r ∈ chR, ∀ f, MadeB M r f → f ∈ M := fun r hr f hf => by
    obtain ⟨x, hx, hm⟩ := h.heads h2 h3 hr
    exact m2 r hr x hx f ((hm f).2 hf)
  have hw : ∀ a b, a < 8 → b < 8 → (wyF (chN a) (chN b) ∈ M ↔ Leads E a b) := fun a b ha hb => by
    constructor
    · intro hm
      obtain ⟨c, d, hc, hd, hl, e1, e2⟩ := h.wy (h3 _ hm)
      rw [chN_inj ha hc e1, chN_inj hb hd e2]
      exact hl
    · intro hl
      clear ha hb
      induction hl with
      | one e => exact hcl chR0 (by rw [chR_eq]; simp) _ (made0.2 ⟨_, _, m1 _ ((h.mem _).2 (Or.inl ⟨_, _, e, rfl⟩)), rfl⟩)
      | more _ e ih => exact hcl chR1 (by rw [chR_eq]; simp) _ (made1.2 ⟨_, _, _, ih, m1 _ ((h.mem _).2 (Or.inl ⟨_, _, e, rfl⟩)), rfl⟩)
  refine ⟨M, h1, h2, h3, m1, hw, fun a b ha hb => ?_⟩
  constructor
  · intro hm hl
    rcases (hd _).1 hm with hL | ⟨r, hr, x, hx, hf⟩
    · rcases (h.mem _).1 hL with ⟨_, _, _, e⟩ | ⟨_, _, e⟩
      · simp [rdF, cuF] at e
      · simp [cuF, twF] at e
    · obtain ⟨y, hy, hmm⟩ := h.heads h2 h3 hr
      rw [hx] at hy; cases hy
      have hmd := (hmm _).1 hf
      rw [chR_eq] at hr
      simp only [List.mem_cons, List.not_mem_nil, or_false] at hr
      rcases hr with rfl | rfl | rfl
      · obtain ⟨u, v, _, e⟩ := made0.1 hmd
        simp [wyF, cuF] at e
      · obtain ⟨u, v, t, _, _, e⟩ := made1.1 hmd
        simp [wyF, cuF] at e
      · obtain ⟨u, v, _, _, hn, e⟩ := made2.1 hmd
        obtain ⟨rfl, rfl⟩ := cu_inj.1 e
        exact hn ((hw a b (by omega) (by omega)).2 hl)
  · intro hl
    refine hcl chR2 (by rw [chR_eq]; simp) _ (made2.2 ⟨_, _, m1 _ ((h.mem _).2 (Or.inr ⟨a, ha, rfl⟩)), m1 _ ((h.mem _).2 (Or.inr ⟨b, hb, rfl⟩)), fun hm => hl ((hw a b (by omega) (by omega)).1 hm), rfl⟩)


theorem at_someN {K N : List FactB} {r : RuleD} (hr : r ∈ chR) (hK : K.length ≤ 141) (hN : N.length ≤ 141) : ∀ (l : List AtomD) (k : Nat) (acc : List FactB), ∃ S, atGo K N r k l acc = some S
  | [], k, acc => ⟨acc, rfl⟩
  | a :: l, k, acc => by
    unfold atGo
    split
    · exact at_someN hr hK hN l _ _
    · obtain ⟨R, hR⟩ := all_some (pick := pickB K k N) (fun i => by unfold pickB; split <;> assumption) hr
      rw [hR]
      exact at_someN hr hK hN l _ _

theorem ask_someN {K N : List FactB} {r : RuleD} (hr : r ∈ chR) (hK : K.length ≤ 141) (hN : N.length ≤ 141) (acc : List FactB) : ∃ S, askP K N r acc = some S := by
  unfold askP
  split
  · obtain ⟨R, hR⟩ := all_some (pick := fun _ => K) (fun _ => hK) hr
    have e : headsP r K = some (setF (R.filterMap fun l => fillB r.head l)) := by unfold headsP; rw [hR]
    rw [e]
    exact ⟨_, rfl⟩
  · exact at_someN hr hK hN _ _ _

theorem makes_someN {K N : List FactB} (hK : K.length ≤ 141) (hN : N.length ≤ 141) (st : Int) : ∀ (p : List RuleD) (ss : List Nat) (acc : List FactB), (∀ r ∈ p, r ∈ chR) → ∃ S, makesGo K N st p ss acc = some S
  | [], _, acc, _ => ⟨acc, rfl⟩
  | _ :: _, [], acc, _ => ⟨acc, rfl⟩
  | r :: p, s :: ss, acc, h => by
    unfold makesGo
    split
    · obtain ⟨S, hS⟩ := ask_someN (h r (by simp)) hK hN acc
      rw [hS]
      exact makes_someN hK hN st p ss S fun q hq => h q (by simp [hq])
    · exact makes_someN hK hN st p ss acc fun q hq => h q (by simp [hq])

theorem Net.next (h : Net n E L) {r : RunD} (hr : RightN chR 2 r) (hK : ∀ f ∈ r.known, InU n E L f) (h0 : r.rounds ≠ 1000) : ∃ x, nextP chR [0, 0, 1] r = (0, x) ∧ ∀ f ∈ x.known, InU n E L f := by
  have hk := h.len hr.good.up hK
  have hf := Nat.le_trans (up_le hr.up hr.sub) hk
  obtain ⟨M, hM⟩ := makes_someN hk hf r.level chR [0, 0, 1] [] fun _ h => h
  have hM' := hM
  rw [← lv_map] at hM'
  have hmem : ∀ f ∈ M, InU n E L f := fun f hf => by
    rcases (makes_mem (fun r => lvC r.head.name) ch_rightP.rules hM' f).1 hf with h1 | ⟨q, hq, _, hm⟩
    · cases h1
    · exact h.made hK hq (makes_fits hr.sub hm)
  have hall : ∀ f ∈ setF (r.known ++ M), InU n E L f := fun f hf => (List.mem_append.1 (mem_setF.1 hf)).elim (hK f) (hmem f)
  have hlen := h.len (setF_up (r.known ++ M)) hall
  unfold nextP
  rw [if_neg h0, hM]
  dsimp only
  rw [if_neg (by omega)]
  split
  · exact ⟨_, rfl, hall⟩
  · exact ⟨_, rfl, hall⟩

theorem Net.steps (h : Net n E L) : ∀ (m : Nat) {r : RunD}, RightN chR 2 r → (∀ f ∈ r.known, InU n E L f) → r.rounds + m ≤ 1000 → ∃ x, stepsP chR [0, 0, 1] m r = (0, x) ∧ RightN chR 2 x ∧ ∀ f ∈ x.known, InU n E L f
  | 0, r, hr, hK, _ => ⟨r, rfl, hr, hK⟩
  | m + 1, r, hr, hK, hm => by
    unfold stepsP
    split
    · exact ⟨r, rfl, hr, hK⟩
    · rename_i hd
      obtain ⟨x, hx, hxK⟩ := h.next hr hK (by omega)
      have hx' := hx
      rw [← lv_map] at hx'
      have ec : countP (chR.map fun r => lvC r.head.name) = 2 := by decide
      have hn := next_right ch_rightP (fun r => lvC r.head.name) (by rw [ec]; exact hr) (by simpa using hd) hx'
      rw [ec] at hn
      rw [hx]
      dsimp only
      rw [if_neg (by simp)]
      exact h.steps m hn.1 hxK (by have := hn.2.2.1; omega)

theorem Net.rounds (h : Net n E L) {M : List FactB} (hM : runGo chR [0, 0, 1] 2 0 L = (0, M)) : ∃ x, stepsP chR [0, 0, 1] 1000 ⟨L, L, 0, 0, false⟩ = (0, x) ∧ x.known = M := by
  have ec : countP (chR.map fun r => lvC r.head.name) = 2 := by decide
  obtain ⟨x, hx, _⟩ := h.steps 1000 (r := ⟨L, L, 0, 0, false⟩) (right_begin (c := 2) h.good) (fun f hf => Or.inl hf) (by simp)
  have hb := begin_rest ch_rightP (fun r => lvC r.head.name) (fun r _ => by show lvC _ < 16; unfold lvC; split <;> omega) h.good
  rw [ec, lv_map] at hb
  have hb := hb (by show (stepsP chR [0, 0, 1] 1000 ⟨L, L, 0, 0, false⟩).1 ≠ 4; rw [hx]; simp) (by rw [hM]; simp)
  change (stepsP chR [0, 0, 1] 1000 ⟨L, L, 0, 0, false⟩).1 = _ ∧ ((stepsP chR [0, 0, 1] 1000 ⟨L, L, 0, 0, false⟩).1 = 0 → (stepsP chR [0, 0, 1] 1000 ⟨L, L, 0, 0, false⟩).2.known = _) at hb
  refine ⟨x, hx, ?_⟩
  have h2 := hb.2 (by rw [hx])
  rw [hx, hM] at h2
  exact h2

end Go.Proofs.YtafmbokfkbccaaaGreatDoor

/- The walk of corotop's nets: some roads among towns, and where they lead, by going on and on. -/
namespace Go.Proofs.YtafmbokfkbccaaaGreatDoor
open Go.RowKit Go.Sort Go.Maps

def townN (n : Nat) (x : Int) : Nat := (Int.tmod (Int.tmod x n + n) n).toNat
theorem townN_eq {n : Nat} (hn : 1 ≤ n) (x : Int) : Int.tmod (Int.tmod x n + n) n = (townN n x : Int) := by
  have h1 : -(n : Int) < Int.tmod x n := by have := Int.lt_tmod_of_pos x (b := (n : Int)) (by omega); omega
  unfold townN
  rw [Int.toNat_of_nonneg (Int.tmod_nonneg _ (by omega))]
theorem townN_lt {n : Nat} (hn : 1 ≤ n) (x : Int) : townN n x < n := by
  have h := townN_eq hn x
  have := Int.tmod_lt_of_pos (Int.tmod x n + n) (b := (n : Int)) (by omega)
  omega
theorem tmod_near {n : Nat} (hn : 1 ≤ n) (x : Int) : -(n : Int) < Int.tmod x n ∧ Int.tmod x n < n :=
  ⟨Int.lt_tmod_of_pos x (by omega), Int.tmod_lt_of_pos x (by omega)⟩

def IntsZ (w : World) (v : Value) (g : Nat → Int) (n : Nat) : Prop := ∃ a cap, v = .slice a n cap ∧ (0 < n → ∃ b off, a = some ⟨b, off, none⟩ ∧ b < w.heap.size ∧ ∀ i, i < n → w.cell? ⟨b, off + i, none⟩ = some (.int .i64 (g i)))

def rdsF (n : Nat) (g h : Nat → Int) (m : Nat) : Nat → Nat → Nat → Bool
  | 0 => fun _ _ => false
  | j + 1 => if j < m then fun x y => if x = townN n (g j) ∧ y = townN n (h j) then true else rdsF n g h m j x y else rdsF n g h m j
def rdsL (n : Nat) (g h : Nat → Int) (m : Nat) : Nat → List FactB
  | 0 => []
  | j + 1 => if j < m then rdsL n g h m j ++ [rdF (chN (townN n (g j))) (chN (townN n (h j)))] else rdsL n g h m j
def twsL : Nat → List FactB
  | 0 => []
  | k + 1 => twsL k ++ [twF (chN k)]
theorem rdsL_len (n : Nat) (g h : Nat → Int) (m : Nat) : ∀ j, (rdsL n g h m j).length ≤ j
  | 0 => Nat.le_refl _
  | j + 1 => by
    have := rdsL_len n g h m j
    unfold rdsL
    split
    · rw [List.length_append]; simp; omega
    · omega
theorem twsL_len : ∀ k, (twsL k).length = k
  | 0 => rfl
  | k + 1 => by rw [twsL, List.length_append, twsL_len k]; rfl
theorem mem_twsL {f : FactB} : ∀ {k : Nat}, f ∈ twsL k ↔ ∃ i, i < k ∧ f = twF (chN i)
  | 0 => by simp [twsL]
  | k + 1 => by
    rw [twsL, List.mem_append, mem_twsL, List.mem_singleton]
    constructor
    · rintro (⟨i, hi, e⟩ | e)
      · exact ⟨i, by omega, e⟩
      · exact ⟨k, by omega, e⟩
    · rintro ⟨i, hi, e⟩
      by_cases h : i = k
      · subst h; exact Or.inr e
      · exact Or.inl ⟨i, by omega, e⟩
theorem mem_rdsL {n : Nat} {g h : Nat → Int} {m : Nat} {f : FactB} : ∀ {j : Nat}, f ∈ rdsL n g h m j ↔ ∃ a b, rdsF n g h m j a b = true ∧ f = rdF (chN a) (chN b)
  | 0 => by simp [rdsL, rdsF]
  | j + 1 => by
    by_cases hm : j < m
    · rw [rdsL, rdsF, if_pos hm, if_pos hm, List.mem_append, mem_rdsL, List.mem_singleton]
      constructor
      · rintro (⟨a, b, h1, e⟩ | e)
        · refine ⟨a, b, ?_, e⟩
          split
          · rfl
          · exact h1
        · exact ⟨_, _, by rw [if_pos ⟨rfl, rfl⟩], e⟩
      · rintro ⟨a, b, h1, e⟩
        split at h1
        · rename_i h2
          rw [h2.1, h2.2] at e
          exact Or.inr e
        · exact Or.inl ⟨a, b, h1, e⟩
    · rw [rdsL, rdsF, if_neg hm, if_neg hm]; exact mem_rdsL
theorem rdsF_lt {n : Nat} (hn : 1 ≤ n) {g h : Nat → Int} {m : Nat} : ∀ {j a b : Nat}, rdsF n g h m j a b = true → a < n ∧ b < n
  | 0, a, b, e => by simp [rdsF] at e
  | j + 1, a, b, e => by
    rw [rdsF] at e
    split at e
    · dsimp only at e
      split at e
      · rename_i h2
        rw [h2.1, h2.2]
        exact ⟨townN_lt hn _, townN_lt hn _⟩
      · exact rdsF_lt hn e
    · exact rdsF_lt hn e

theorem net_of {n : Nat} (h1 : 1 ≤ n) (h6 : n ≤ 6) {g h : Nat → Int} {m j : Nat} (hj : j ≤ 12) : Net n (fun a b => rdsF n g h m j a b = true) (setF (rdsL n g h m j ++ twsL n)) where
  n6 := h6
  e8 a b e := by have := rdsF_lt h1 e; omega
  up := setF_up _
  few := by
    have h2 := setF_len (rdsL n g h m j ++ twsL n)
    have h3 := rdsL_len n g h m j
    rw [List.length_append, twsL_len] at h2
    omega
  mem f := by rw [mem_setF, List.mem_append, mem_rdsL, mem_twsL]

structure NetS (w2 wr : World) (b : Nat) (f : Nat → Nat → Bool) (v : Value) (l : List FactB) : Prop where
  tn : Tn b w2 wr
  row : RowR 92 wr b f
  own : OwnF wr w2.heap.size v l

theorem NetS.later {w2 wr w3 : World} {b : Nat} {f : Nat → Nat → Bool} {v : Value} {l : List FactB} (h : NetS w2 wr b f v l) (hL : Later wr w3) : NetS w2 w3 b f v l :=
  ⟨h.tn.trans (Tn.of_below hL.below), (hL.block h.row.lt).trans h.row, h.own.later hL⟩

theorem NetS.set {w2 wr : World} {b a c : Nat} {f : Nat → Nat → Bool} {v : Value} {l : List FactB} (h : NetS w2 wr b f v l) (hb : b < w2.heap.size) (ha : a < 8) (hc : c < 8) (u : Bool) : NetS w2 (wr.setCell ⟨b, a * 8 + c, none⟩ (.bool u)) b (fun x y => if x = a ∧ y = c then u else f x y) v l :=
  ⟨h.tn.setCell (Or.inl rfl) _, h.row.set ha hc u, h.own.put hb⟩

theorem NetS.more {w2 w3 : World} {b : Nat} {f : Nat → Nat → Bool} {v : Value} {l : List FactB} (h : NetS w2 w3 b f v l) (hb : b < w2.heap.size) (x : FactB) (s : Value) (hs : Strs w3 s x.2) (hfar : ∀ k, s.ownBlock = some k → w2.heap.size ≤ k ∧ k < w3.heap.size ∧ v.ownBlock ≠ some k) (hl : l.length ≤ 1000) :
    ∃ a n c w5, (Builtin.append_ #[24, 24] 24 #[v, .slice (some ⟨w3.heap.size, 0, none⟩) 1 1]).run Tryz.prog (w3.alloc (.cells #[.string x.1, s] 27)) = .ok (.slice a n c) w5 ∧ NetS w2 w5 b f (.slice a n c) (l ++ [x]) := by
  obtain ⟨sa, sc, rfl⟩ := sliceStr hs
  obtain ⟨v5, w5, hrun, hO5, hg5, hd5⟩ := h.own.append x _ hs hfar (by omega) h.tn.size rfl
  obtain ⟨a, c, rfl⟩ := hO5.slice
  have hbv : some b ≠ v.ownBlock := fun e => by have := (h.own.lt e.symm).1; omega
  have hsz : w3.heap.size ≤ w5.heap.size := by have := hg5.size; rw [World.size_alloc] at this; omega
  have hblk : ∀ k, k < w3.heap.size → some k ≠ v.ownBlock → w5.heap[k]? = w3.heap[k]? := fun k hk ho =>
    (hg5.block k (by rw [World.size_alloc]; omega) ho).trans (Below.heap_alloc _ _ _ hk)
  refine ⟨a, _, c, w5, hrun, ⟨⟨hg5.os.trans h.tn.os, hg5.tape.trans h.tn.tape, hg5.output.trans h.tn.output, Nat.le_trans h.tn.size hsz, fun k hk ho => ?_⟩, (hblk b h.row.lt hbv).trans h.row, hO5⟩⟩
  refine (hblk k (Nat.lt_of_lt_of_le hk h.tn.size) fun e => ?_).trans (h.tn.block k hk ho)
  have := (h.own.lt e.symm).1
  omega

end Go.Proofs.YtafmbokfkbccaaaGreatDoor

/- The walk of corotop's nets, whole. -/
namespace Go.Proofs.YtafmbokfkbccaaaGreatDoor
open Go.RowKit Go.Sort Go.Maps

def noR : Nat → Nat → Bool := fun _ _ => false
theorem cells_noR : cellsR noR = #[.bool false, .bool false, .bool false, .bool false, .bool false, .bool false, .bool false, .bool false, .bool false, .bool false, .bool false, .bool false, .bool false, .bool false, .bool false, .bool false, .bool false, .bool false, .bool false, .bool false, .bool false, .bool false, .bool false, .bool false, .bool false, .bool false, .bool false, .bool false, .bool false, .bool false, .bool false, .bool false, .bool false, .bool false, .bool false, .bool false, .bool false, .bool false, .bool false, .bool false, .bool false, .bool false, .bool false, .bool false, .bool false, .bool false, .bool false, .bool false, .bool false, .bool false, .bool false, .bool false, .bool false, .bool false, .bool false, .bool false, .bool false, .bool false, .bool false, .bool false, .bool false, .bool false, .bool false, .bool false] := by kernel_rfl

theorem exec_load {P : Program} {ρ : Operand → Value} {o : Oper} {t : TypeId} {a : Operand} {w : World} {v x : Value} (ho : o.op = .load t a) (hx : ρ a = x) (h : (Instr.loadAt t x).run P w = .ok v w) : (execOp ρ o).run P w = .ok (.value v) w := by
  unfold execOp
  rw [ho]
  simp [hx, h, Result.andThen]

theorem step_store {P : Program} {ops : Array Oper} {o : Oper} {a : Act} {w : World} {K : Act → World → Prop} {Q : Exit → Act → World → Prop} {E : Prop} (hg : o.guard = none) (hd : o.dst = none) (t : TypeId) (p x : Operand) (hop : o.op = Op.store t p x)
    (v1 v2 : Value) (w' : World) (hp : a.eval p = v1) (hx : a.eval x = v2) (hrun : (Instr.storeAt t v1 v2).run P w = .ok () w') (hK : K a w') :
    if Region.wanted o (yielded ops a.tmps) = true then Oper.wp P o a w K Q else E := by
  have hw : Region.wanted o (yielded ops a.tmps) = true := by simp [Region.wanted, hg]
  rw [if_pos hw]
  unfold Oper.wp
  simp [execOp, hop, hp, hx, hrun, Result.andThen]
  rw [Oper.upon_skip, hd]
  exact hK

theorem results_tmp_cell {fn : Func} {p u : Tmp} {ty : TypeId} (h : fn.results = #[.tmp u, .cell p ty]) (tmps : Array Value) (P : Program) (w : World) {x y : Value} {a : Addr} (hu : tmps.getD u undef = x) (hp : tmps.getD p undef = .pointer (some a)) (hl : (loadVar ty a).run P w = .ok y w) :
    (results fn tmps).run P w = .ok (.tuple #[x, y]) w := by
  rw [Array.getD_eq_getD_getElem?] at hp hu
  simp only [results, h]
  simp [Result.andThen, asAddr, hp, hu, hl]

theorem row_new {w : World} {g : Nat} {cs cs' : Array Value} {t : TypeId} (h : w.heap[g]? = some (.cells cs t (0, 0))) : (w.setRow g cs').heap[g]? = some (.cells cs' t (0, 0)) ∧ Tn g w (w.setRow g cs') :=
  ⟨by simp [World.setRow, Array.getElem?_modify, h], rfl, rfl, rfl, by simp [World.setRow], fun k _ hk => by simp only [World.setRow, Array.getElem?_modify]; rw [if_neg (fun e => hk e.symm)]⟩

set_option maxRecDepth 100000 in
set_option maxHeartbeats 4000000 in
theorem netsC (n : Nat) (h1 : 1 ≤ n) (h6 : n ≤ 6) (fv tv : Value) (g h : Nat → Int) (nf nt : Nat) (hnf : nf ≤ 12) (w : World) (hF : IntsZ w fv g nf) (hT : IntsZ w tv h nt) :
    Calls Tryz.prog 45 #[.int .i64 (n : Nat), fv, tv] w fun e w' => ∃ v, e = .returned (.tuple #[v, .agg (cellsR (passN n (rdsF n g h nt nf) n))]) ∧ OwnF w' w.heap.size v (setF (rdsL n g h nt nf ++ twsL n)) ∧ Below w.heap.size w w' := by
  obtain ⟨fa, fc, rfl, hFa⟩ := hF
  obtain ⟨ta, tc, rfl, hTa⟩ := hT
  obtain ⟨w2, hw2⟩ : ∃ w2, w2 = (w.alloc (.cells (cellsR noR) 92)).alloc (.cells (cellsR noR) 92) := ⟨_, rfl⟩
  have hz2 : w2.heap.size = w.heap.size + 2 := by rw [hw2]; simp
  have hb2 : w.heap.size + 1 < w2.heap.size := by omega
  have hL2 : Later w w2 := by rw [hw2]; exact ((Later.refl _).alloc _).alloc _
  have HS2 : Hid (NetS w2 w2 (w.heap.size + 1) noR (.slice none 0 0) []) := ⟨Tn.refl _ _, by unfold RowR; rw [hw2, heap_at, if_pos (by simp)], OwnF.nil _ _⟩
  have HP2 : Hid (w2.heap[w.heap.size]? = some (.cells (cellsR noR) 92 (0, 0))) := by show _ = _; rw [hw2, heap_at, if_neg (by simp)]; exact heap_alloc_new _ _
  have HFa := hide hFa
  have HTa := hide hTa
  rw [cells_noR] at hw2
  have HW2 := hide hw2
  have HL2 := hide hL2
  have HZ2 := hide hz2
  clear hFa hTa hw2 hL2 hz2
  generalize hB : w.heap.size + 1 = b at *
  go_enter Tryz.func45, Tryz.ntmps45
  go_wp2_with (first | (rw [← HW2.out]) | fail)
  clear HW2
  go_loopg [8, 19] nf (fun k v i wr => ∃ j : Nat, j + k = nf ∧ i = .int .i64 j ∧ Hid (NetS w2 wr b (rdsF n g h nt j) v (rdsL n g h nt j)))
  case atStart => exact ⟨0, by omega, rfl, HS2⟩
  case round =>
    obtain ⟨j, hj, rfl, HS⟩ := hrel
    clear HS2
    obtain ⟨va, vn, vc, rfl⟩ : ∃ a n c, u8 = .slice a n c := by obtain ⟨a, c, e⟩ := HS.out.own.slice; exact ⟨a, _, c, e⟩
    by_cases hlt : j < nf
    · have hltz : (j : Int) < (nf : Int) := by omega
      by_cases hmt : j < nt
      · have hmtz : (j : Int) < (nt : Int) := by omega
        obtain ⟨fb, fo, rfl, hfb, hfc⟩ := HFa.out (by omega)
        obtain ⟨tb, to', rfl, htb, htc⟩ := HTa.out (by omega)
        have c1 : wr.cell? ⟨fb, fo + j, none⟩ = some (.int .i64 (g j)) := by rw [HS.out.tn.cell (x := ⟨fb, fo + j, none⟩) (Nat.lt_of_lt_of_le hfb HL2.out.size) (by show fb ≠ b; omega), HL2.out.cell (p := ⟨fb, fo + j, none⟩) hfb]; exact hfc j hlt
        have c2 : wr.cell? ⟨tb, to' + j, none⟩ = some (.int .i64 (h j)) := by rw [HS.out.tn.cell (x := ⟨tb, to' + j, none⟩) (Nat.lt_of_lt_of_le htb HL2.out.size) (by show tb ≠ b; omega), HL2.out.cell (p := ⟨tb, to' + j, none⟩) htb]; exact htc j hmt
        have hn0 : ((n : Int) == 0) = false := beq_eq_false_iff_ne.2 (by omega)
        have hnear := tmod_near h1 (g j)
        have hnear2 := tmod_near h1 (h j)
        have ea := townN_eq h1 (g j)
        have eb := townN_eq h1 (h j)
        have ha := townN_lt h1 (g j)
        have hb := townN_lt h1 (h j)
        have HRF : Hid (rdsF n g h nt (j + 1) = fun x y => if x = townN n (g j) ∧ y = townN n (h j) then true else rdsF n g h nt j x y) := by show _ = _; rw [rdsF, if_pos hmt]
        have HRL : Hid (rdsL n g h nt (j + 1) = rdsL n g h nt j ++ [rdF (chN (townN n (g j))) (chN (townN n (h j)))]) := by show _ = _; rw [rdsL, if_pos hmt]
        generalize townN n (g j) = A at *
        generalize townN n (h j) = B at *
        obtain ⟨x1, hx1⟩ : ∃ x, Int.tmod (g j) n = x := ⟨_, rfl⟩
        obtain ⟨x2, hx2⟩ : ∃ x, Int.tmod (h j) n = x := ⟨_, rfl⟩
        rw [hx1] at hnear ea
        rw [hx2] at hnear2 eb
        have hw1 : wrap64 (x1 + (n : Int)) = x1 + (n : Int) := IntWalk.wrap64_in _ ⟨by omega, by omega⟩
        have hw2 : wrap64 (x2 + (n : Int)) = x2 + (n : Int) := IntWalk.wrap64_in _ ⟨by omega, by omega⟩
        go_wp2
        go_quiet (fail)
        go_wp2_with fail
        refine (roadL A B (by omega) (by omega) _).mono ?_
        rintro e w3 ⟨v3, rfl, hF3, hL3, hfar⟩
        obtain ⟨s, rfl, hs⟩ := hF3
        obtain ⟨_, s', es, hfar⟩ := hfar
        simp only [Value.agg.injEq, Array.mk.injEq, List.cons.injEq, and_true] at es
        obtain ⟨rfl, rfl⟩ := es
        obtain ⟨sA', sC', rfl⟩ := sliceStr hs
        have hS3 := HS.out.later (((Later.refl _).drewN _).trans hL3)
        obtain ⟨a5, n5, c5, w5, hrun, hS5⟩ := hS3.more hb2 (⟨#[114, 111, 97, 100]⟩, [nmB A, nmB B]) _ hs (fun k e => by
          have h1 : wr.heap.size ≤ k ∧ k < w3.heap.size := hfar k e
          have h2 := HS.out.tn.size
          refine ⟨by omega, by omega, fun e' => ?_⟩
          have h3 := (HS.out.own.lt e').2
          omega) (by have := rdsL_len n g h nt j; omega)
        have HR5 := hide hrun
        have HS5 := hide hS5
        have d1 := hS5.row.cell (a := A) (c := B) (by omega) (by omega)
        have d2 := hS5.row.free (j := A * 8 + B)
        clear hfar hs hS3 hrun hS5 hL3
        go_wp2_with (at_builtin; refine wpList_append_run rfl (.tmp 46) (.tmp 50) 24 rfl _ _ _ _ rfl rfl HR5.out ?_)
        have HS6 := hide (HS5.out.set hb2 (a := A) (c := B) (by omega) (by omega) true)
        go_roundg (nf - (j + 1))
        case measure => omega
        case rel => exact ⟨j + 1, by omega, by go_num, by rw [HRF.out, HRL.out]; exact HS6⟩
      · have hmtz : ¬ (j : Int) < (nt : Int) := by omega
        go_wp2
        go_roundg (nf - (j + 1))
        case measure => omega
        case rel => exact ⟨j + 1, by omega, by go_num, by rw [rdsF, rdsL, if_neg hmt, if_neg hmt]; exact HS⟩
    · obtain rfl : j = nf := by omega
      have hll := rdsL_len n g h nt j
      have hnz : ¬ (j : Int) < (j : Int) := by omega
      go_wp2
      obtain ⟨f0, hf0⟩ : ∃ f, f = rdsF n g h nt j := ⟨_, rfl⟩
      obtain ⟨L0, hL0⟩ : ∃ l, l = rdsL n g h nt j := ⟨_, rfl⟩
      rw [← hf0, ← hL0] at HS
      rw [← hL0] at hll
      have HF0 := hide hf0
      have HL0 := hide hL0
      clear hf0 hL0
      go_loopg [58] n (fun k i wr => ∃ q : Nat, q + k = n ∧ i = .int .i64 q ∧ Hid (NetS w2 wr b (passN n f0 q) (.slice va vn vc) L0))
      case atStart => exact ⟨0, by omega, rfl, HS⟩
      case round =>
        clear HS
        obtain ⟨q, hq, rfl, HQ⟩ := hrel
        by_cases hqn : q < n
        · have hqz : (q : Int) < (n : Int) := by omega
          go_wp2
          obtain ⟨F, hF⟩ : ∃ F, F = passN n f0 q := ⟨_, rfl⟩
          rw [← hF] at HQ
          go_loopg [61] n (fun k i wr => ∃ a : Nat, a + k = n ∧ i = .int .i64 a ∧ Hid (NetS w2 wr b (passA n F a) (.slice va vn vc) L0))
          case atStart => exact ⟨0, by omega, rfl, HQ⟩
          case round =>
            clear HQ
            obtain ⟨a, ha, rfl, HA⟩ := hrel
            by_cases han : a < n
            · have haz : (a : Int) < (n : Int) := by omega
              go_wp2
              obtain ⟨F', hF'⟩ : ∃ F', F' = passA n F a := ⟨_, rfl⟩
              rw [← hF'] at HA
              go_loopg [65] n (fun k i wr => ∃ d : Nat, d + k = n ∧ i = .int .i64 d ∧ Hid (NetS w2 wr b (passB n F' a d) (.slice va vn vc) L0))
              case atStart => exact ⟨0, by omega, rfl, HA⟩
              case round =>
                clear HA
                obtain ⟨d, hd, rfl, HD⟩ := hrel
                by_cases hdn : d < n
                · have hdz : (d : Int) < (n : Int) := by omega
                  go_wp2
                  obtain ⟨F'', hF''⟩ : ∃ F'', F'' = passB n F' a d := ⟨_, rfl⟩
                  rw [← hF''] at HD
                  go_loopg [69] n (fun k i wr => ∃ c : Nat, c + k = n ∧ i = .int .i64 c ∧ Hid (NetS w2 wr b (passC F'' a d c) (.slice va vn vc) L0))
                  case atStart => exact ⟨0, by omega, rfl, HD⟩
                  case round =>
                    clear HD
                    obtain ⟨c, hc, rfl, HC⟩ := hrel
                    by_cases hcn : c < n
                    · have hcz : (c : Int) < (n : Int) := by omega
                      obtain ⟨f, hf⟩ : ∃ f, f = passC F'' a d c := ⟨_, rfl⟩
                      rw [← hf] at HC
                      obtain ⟨u, hu⟩ : ∃ u, u = (f a c || (f a d && f d c)) := ⟨_, rfl⟩
                      have HN : Hid (NetS w2 (wr.drew.setCell ⟨b, a * 8 + c, none⟩ (.bool u)) b (passC F'' a d (c + 1)) (.slice va vn vc) L0) := by
                        have := (HC.out.later (Later.refl _).drew).set hb2 (a := a) (c := c) (by omega) (by omega) u
                        rw [passC, ← hf]
                        unfold updR
                        rw [← hu]
                        exact this
                      have hrow : RowR 92 wr.drew b f := HC.out.row
                      have HK := hide (hrow.keep (a := a) (d := d) (c := c) (by omega) (by omega) (by omega) hu)
                      have q0 := hrow.cell (a := a) (c := c) (by omega) (by omega)
                      have q1 := hrow.cell (a := a) (c := d) (by omega) (by omega)
                      have q2 := hrow.cell (a := d) (c := c) (by omega) (by omega)
                      have q3 := hrow.free (j := a * 8 + c)
                      have a8 : (a : Int) < 8 := by omega
                      have c8 : (c : Int) < 8 := by omega
                      have d8 : (d : Int) < 8 := by omega
                      clear hrow HC hf
                      generalize f a c = x0 at *
                      generalize f a d = x1 at *
                      generalize f d c = x2 at *
                      go_wp2
                      refine wp_region_held_drew (S := fun w' => KeepS b a d c x0 x1 x2 w') (by kernel_rfl) ⟨fun _ => q1, fun _ _ => q2⟩ (fun hHeld => ?_)
                      refine take_yes (i := 0) (d := some 72) (v := ?_) rfl rfl hHeld ?_ ?_; rotate_left; focus intro w hSw; (try dsimp only at hSw);  go_simp; try with_reducible rfl
                      simp only [aput, aset, aze, asu]
                      refine take_yes (i := 1) (d := some 73) (v := ?_) rfl rfl hHeld ?_ ?_; rotate_left; focus intro w hSw; (try dsimp only at hSw);  go_simp; try with_reducible rfl
                      simp only [aput, aset, aze, asu]
                      refine take_yes (i := 2) (d := some 74) (v := ?_) rfl rfl hHeld ?_ ?_; rotate_left; focus intro w hSw; (try dsimp only at hSw);  go_simp; try with_reducible rfl
                      simp only [aput, aset, aze, asu]
                      refine take_yes (i := 3) (d := some 75) (v := ?_) rfl rfl hHeld ?_ ?_; rotate_left; focus intro w hSw; (try dsimp only at hSw);  go_simp; try with_reducible rfl
                      simp only [aput, aset, aze, asu]
                      refine take_yes (i := 4) (d := some 76) (v := ?_) rfl rfl hHeld ?_ ?_; rotate_left; focus intro w hSw; (try dsimp only at hSw);  go_simp; try with_reducible rfl
                      simp only [aput, aset, aze, asu]
                      refine take_yes (i := 5) (d := some 77) (v := ?_) rfl rfl hHeld ?_ ?_; rotate_left; focus intro w hSw; (try dsimp only at hSw);  go_simp; try with_reducible rfl
                      simp only [aput, aset, aze, asu]
                      refine take_yes (i := 21) (d := some 93) (v := ?_) rfl rfl hHeld ?_ ?_; rotate_left; focus intro w hSw; (try dsimp only at hSw);  go_simp; try with_reducible rfl
                      simp only [aput, aset, aze, asu]
                      refine wpAnyH_ready (rs := [6]) (by kernel_rfl) (by simp) ?_
                      refine AllReadyH.cons rfl (fun K hK => ?_) AllReadyH.nil
                      go_simp
                      refine hK.out _ _ hHeld (fun hHeld => ?_)
                      clear hK K
                      refine take_yes (i := 7) (d := some 79) (v := ?_) rfl rfl hHeld ?_ ?_; rotate_left; focus intro w hSw; (try dsimp only at hSw);  go_simp; try with_reducible rfl
                      simp only [aput, aset, aze, asu]
                      cases x0
                      · skip
                        refine take_yes (i := 8) (d := some 80) (v := ?_) rfl rfl hHeld ?_ ?_; rotate_left; focus intro w hSw; (try dsimp only at hSw);  go_simp; try with_reducible rfl
                        simp only [aput, aset, aze, asu]
                        refine take_yes (i := 9) (d := some 81) (v := ?_) rfl rfl hHeld ?_ ?_; rotate_left; focus intro w hSw; (try dsimp only at hSw);  go_simp; try with_reducible rfl
                        simp only [aput, aset, aze, asu]
                        refine take_yes (i := 10) (d := some 82) (v := ?_) rfl rfl hHeld ?_ ?_; rotate_left; focus intro w hSw; (try dsimp only at hSw);  go_simp; try with_reducible rfl
                        simp only [aput, aset, aze, asu]
                        refine take_yes (i := 11) (d := some 83) (v := ?_) rfl rfl hHeld ?_ ?_; rotate_left; focus intro w hSw; (try dsimp only at hSw);  go_simp; try with_reducible rfl
                        simp only [aput, aset, aze, asu]
                        refine take_yes (i := 12) (d := some 84) (v := ?_) rfl rfl hHeld ?_ ?_; rotate_left; focus intro w hSw; (try dsimp only at hSw); have s1 := hSw.one; go_simp; try with_reducible rfl
                        simp only [aput, aset, aze, asu]
                        refine take_yes (i := 13) (d := some 85) (v := ?_) rfl rfl hHeld ?_ ?_; rotate_left; focus intro w hSw; (try dsimp only at hSw);  go_simp; try with_reducible rfl
                        simp only [aput, aset, aze, asu]
                        cases x1
                        · skip
                          refine take_no (i := 14) (d := some 86) rfl rfl hHeld ?_; simp only [aput, aset, aze, asu]
                          refine take_no (i := 15) (d := some 87) rfl rfl hHeld ?_; simp only [aput, aset, aze, asu]
                          refine take_no (i := 16) (d := some 88) rfl rfl hHeld ?_; simp only [aput, aset, aze, asu]
                          refine take_no (i := 17) (d := some 89) rfl rfl hHeld ?_; simp only [aput, aset, aze, asu]
                          refine take_no (i := 18) (d := some 90) rfl rfl hHeld ?_; simp only [aput, aset, aze, asu]
                          refine take_yes (i := 19) (d := some 91) (v := ?_) rfl rfl hHeld ?_ ?_; rotate_left; focus intro w hSw; (try dsimp only at hSw);  go_simp; try with_reducible rfl
                          simp only [aput, aset, aze, asu]
                          refine take_yes (i := 20) (d := some 92) (v := ?_) rfl rfl hHeld ?_ ?_; rotate_left; focus intro w hSw; (try dsimp only at hSw);  go_simp; try with_reducible rfl
                          simp only [aput, aset, aze, asu]
                          refine take_yes (i := 22) (d := some 94) (v := ?_) rfl rfl hHeld ?_ ?_; rotate_left; focus intro w hSw; (try dsimp only at hSw);  go_simp; try with_reducible rfl
                          simp only [aput, aset, aze, asu]
                          obtain rfl : u = false := hu
                          refine wpAnyH_ready (rs := [23]) (by kernel_rfl) (by simp) ?_
                          refine AllReadyH.cons rfl (fun K hK => ?_) AllReadyH.nil
                          go_simp
                          refine hK.out _ _ HK.out (fun hHeld => ?_)
                          clear hK K
                          refine wpAnyH_done (by kernel_rfl) ?_ _
                          clear q0 q1 q2 q3 hHeld
                          go_wp2
                          go_roundg (n - (c + 1))
                          case measure => omega
                          case rel => exact ⟨c + 1, by omega, by go_num, HN⟩
                        · skip
                          refine take_yes (i := 14) (d := some 86) (v := ?_) rfl rfl hHeld ?_ ?_; rotate_left; focus intro w hSw; (try dsimp only at hSw);  go_simp; try with_reducible rfl
                          simp only [aput, aset, aze, asu]
                          refine take_yes (i := 15) (d := some 87) (v := ?_) rfl rfl hHeld ?_ ?_; rotate_left; focus intro w hSw; (try dsimp only at hSw);  go_simp; try with_reducible rfl
                          simp only [aput, aset, aze, asu]
                          refine take_yes (i := 16) (d := some 88) (v := ?_) rfl rfl hHeld ?_ ?_; rotate_left; focus intro w hSw; (try dsimp only at hSw);  go_simp; try with_reducible rfl
                          simp only [aput, aset, aze, asu]
                          refine take_yes (i := 17) (d := some 89) (v := ?_) rfl rfl hHeld ?_ ?_; rotate_left; focus intro w hSw; (try dsimp only at hSw);  go_simp; try with_reducible rfl
                          simp only [aput, aset, aze, asu]
                          refine take_yes (i := 18) (d := some 90) (v := ?_) rfl rfl hHeld ?_ ?_; rotate_left; focus intro w hSw; (try dsimp only at hSw); have s1 := hSw.two; go_simp; try with_reducible rfl
                          simp only [aput, aset, aze, asu]
                          refine take_yes (i := 19) (d := some 91) (v := ?_) rfl rfl hHeld ?_ ?_; rotate_left; focus intro w hSw; (try dsimp only at hSw);  go_simp; try with_reducible rfl
                          simp only [aput, aset, aze, asu]
                          refine take_yes (i := 20) (d := some 92) (v := ?_) rfl rfl hHeld ?_ ?_; rotate_left; focus intro w hSw; (try dsimp only at hSw);  go_simp; try with_reducible rfl
                          simp only [aput, aset, aze, asu]
                          refine take_yes (i := 22) (d := some 94) (v := ?_) rfl rfl hHeld ?_ ?_; rotate_left; focus intro w hSw; (try dsimp only at hSw);  go_simp; try with_reducible rfl
                          simp only [aput, aset, aze, asu]
                          obtain rfl : u = x2 := hu
                          refine wpAnyH_ready (rs := [23]) (by kernel_rfl) (by simp) ?_
                          refine AllReadyH.cons rfl (fun K hK => ?_) AllReadyH.nil
                          go_simp
                          refine hK.out _ _ HK.out (fun hHeld => ?_)
                          clear hK K
                          refine wpAnyH_done (by kernel_rfl) ?_ _
                          clear q0 q1 q2 q3 hHeld
                          go_wp2
                          go_roundg (n - (c + 1))
                          case measure => omega
                          case rel => exact ⟨c + 1, by omega, by go_num, HN⟩
                      · skip
                        refine take_no (i := 8) (d := some 80) rfl rfl hHeld ?_; simp only [aput, aset, aze, asu]
                        refine take_no (i := 9) (d := some 81) rfl rfl hHeld ?_; simp only [aput, aset, aze, asu]
                        refine take_no (i := 10) (d := some 82) rfl rfl hHeld ?_; simp only [aput, aset, aze, asu]
                        refine take_no (i := 11) (d := some 83) rfl rfl hHeld ?_; simp only [aput, aset, aze, asu]
                        refine take_no (i := 12) (d := some 84) rfl rfl hHeld ?_; simp only [aput, aset, aze, asu]
                        refine take_no (i := 13) (d := some 85) rfl rfl hHeld ?_; simp only [aput, aset, aze, asu]
                        refine take_no (i := 14) (d := some 86) rfl rfl hHeld ?_; simp only [aput, aset, aze, asu]
                        refine take_no (i := 15) (d := some 87) rfl rfl hHeld ?_; simp only [aput, aset, aze, asu]
                        refine take_no (i := 16) (d := some 88) rfl rfl hHeld ?_; simp only [aput, aset, aze, asu]
                        refine take_no (i := 17) (d := some 89) rfl rfl hHeld ?_; simp only [aput, aset, aze, asu]
                        refine take_no (i := 18) (d := some 90) rfl rfl hHeld ?_; simp only [aput, aset, aze, asu]
                        refine take_no (i := 19) (d := some 91) rfl rfl hHeld ?_; simp only [aput, aset, aze, asu]
                        refine take_yes (i := 20) (d := some 92) (v := ?_) rfl rfl hHeld ?_ ?_; rotate_left; focus intro w hSw; (try dsimp only at hSw);  go_simp; try with_reducible rfl
                        simp only [aput, aset, aze, asu]
                        refine take_yes (i := 22) (d := some 94) (v := ?_) rfl rfl hHeld ?_ ?_; rotate_left; focus intro w hSw; (try dsimp only at hSw);  go_simp; try with_reducible rfl
                        simp only [aput, aset, aze, asu]
                        obtain rfl : u = true := hu
                        refine wpAnyH_ready (rs := [23]) (by kernel_rfl) (by simp) ?_
                        refine AllReadyH.cons rfl (fun K hK => ?_) AllReadyH.nil
                        go_simp
                        refine hK.out _ _ HK.out (fun hHeld => ?_)
                        clear hK K
                        refine wpAnyH_done (by kernel_rfl) ?_ _
                        clear q0 q1 q2 q3 hHeld
                        go_wp2
                        go_roundg (n - (c + 1))
                        case measure => omega
                        case rel => exact ⟨c + 1, by omega, by go_num, HN⟩
                    · have hcz : ¬ (c : Int) < (n : Int) := by omega
                      obtain rfl : c = n := by omega
                      go_wp2
                      go_roundg (c - (d + 1))
                      case measure => omega
                      case rel => exact ⟨d + 1, by omega, by go_num, by rw [passB, ← hF'']; exact HC⟩
                · have hdz : ¬ (d : Int) < (n : Int) := by omega
                  obtain rfl : d = n := by omega
                  go_wp2
                  go_roundg (d - (a + 1))
                  case measure => omega
                  case rel => exact ⟨a + 1, by omega, by go_num, by rw [passA, ← hF']; exact HD⟩
            · have haz : ¬ (a : Int) < (n : Int) := by omega
              obtain rfl : a = n := by omega
              go_wp2
              go_roundg (a - (q + 1))
              case measure => omega
              case rel => exact ⟨q + 1, by omega, by go_num, by rw [passN, ← hF]; exact HA⟩
        · have hqz : ¬ (q : Int) < (n : Int) := by omega
          obtain rfl : q = n := by omega
          go_wp2
          obtain ⟨F, hF⟩ : ∃ F, F = passN q f0 q := ⟨_, rfl⟩
          rw [← hF] at HQ
          have HFe := hide hF
          clear hF
          have HQ0 : Hid (NetS w2 wr b F (.slice va vn vc) (L0 ++ twsL 0)) := by rw [show L0 ++ twsL 0 = L0 from List.append_nil _]; exact HQ
          clear HQ
          go_loopg [8, 100] q (fun k v i wr => ∃ t : Nat, t + k = q ∧ i = .int .i64 t ∧ Hid (NetS w2 wr b F v (L0 ++ twsL t)))
          case atStart => exact ⟨0, by omega, rfl, HQ0⟩
          case round =>
            clear HQ0
            obtain ⟨t, ht, rfl, HT⟩ := hrel
            obtain ⟨va, vn, vc, rfl⟩ : ∃ a n c, u8 = .slice a n c := by obtain ⟨a, c, e⟩ := HT.out.own.slice; exact ⟨a, _, c, e⟩
            have htl := twsL_len t
            by_cases htn : t < q
            · have htz : (t : Int) < (q : Int) := by omega
              have HNm := hide (nameC t (by omega) wr)
              have HLt := hide htl
              clear htl
              go_wp2_with fail
              refine HNm.out.mono ?_
              rintro e w3 ⟨rfl, hL3⟩
              obtain ⟨w4, hw4⟩ : ∃ w4, w4 = w3.alloc (.cells #[.string (nmB t)] 9) := ⟨_, rfl⟩
              have hL4 : Later w3 w4 := by rw [hw4]; exact (Later.refl _).alloc _
              have hr4 : w4.heap[w3.heap.size]? = some (.cells #[.string (nmB t)] 9 (0, 0)) := by rw [hw4]; exact heap_alloc_new _ _
              have hz4 : w4.heap.size = w3.heap.size + 1 := by rw [hw4]; simp
              have hs4 : Strs w4 (.slice (some ⟨w3.heap.size, 0, none⟩) 1 1) [nmB t] := by
                refine ⟨by simp, _, 1, rfl, fun _ => ⟨_, 0, rfl, by omega, fun i hi => ?_⟩⟩
                obtain rfl : i = 0 := by simpa using hi
                rw [cell_of_row _ _ _ _ _ _ hr4]; rfl
              obtain ⟨a5, n5, c5, w5, hrun, hS5⟩ := (HT.out.later (hL3.trans hL4)).more hb2 (⟨#[116, 111, 119, 110]⟩, [nmB t]) _ hs4 (fun k e => by
                have e : w3.heap.size = k := by simpa [Value.ownBlock] using e
                have h2 := HT.out.tn.size
                have h3 := hL3.size
                refine ⟨by omega, by omega, fun e' => ?_⟩
                have h3 := (HT.out.own.lt e').2
                omega) (by rw [List.length_append, HLt.out]; omega)
              have HR5 := hide hrun
              have HS5 : Hid (NetS w2 w5 b F (.slice a5 n5 c5) (L0 ++ twsL (t + 1))) := by rw [twsL, ← List.append_assoc]; exact hS5
              have HW4 := hide hw4
              have HZ4 := hide hz4
              clear hL3 hL4 hr4 hs4 hrun hS5 hw4 HNm hz4
              go_wp2_with (first | (rw [← HW4.out]) | (at_builtin; refine wpList_append_run rfl (.tmp 103) (.tmp 108) 24 rfl _ _ _ _ rfl rfl HR5.out ?_) | fail)
              go_roundg (q - (t + 1))
              case measure => omega
              case rel => exact ⟨t + 1, by omega, by go_num, HS5⟩
            · obtain rfl : t = q := by omega
              have htz : ¬ (t : Int) < (t : Int) := by omega
              have HFs : Hid (∀ w', Tn w.heap.size wr w' → Facts w' (.slice va vn vc) (L0 ++ twsL t)) := fun w' h =>
                (HT.out.own.stay h.size fun k hk hb => h.block k hk (by have := HZ2.out; omega)).facts (by rw [List.length_append, htl]; omega)
              have HLd : Hid (∀ w', RowR 92 w' b F → (Instr.loadAt 92 (.pointer (some ⟨b, 0, none⟩))).run Tryz.prog w' = .ok (.agg (cellsR F)) w') := fun w' h => by
                simp only [Instr.loadAt, Instr.sureAddr, Sem.run_bind, Sem.run_pure, Result.andThen]
                exact run_loadVar_row _ _ 92 92 (cellsR F) (0, 0) _ h Tryz.underlying92 rfl (by rw [cellsR_size]; kernel_rfl)
              go_wp2
              refine wp_region_held_drew (S := fun w' => RowR 92 w' b F ∧ Tn w.heap.size wr w') (by kernel_rfl) ⟨HT.out.row, (Tn.refl _ _).drew⟩ (fun hHeld => ?_)
              refine take_yes (i := 0) (d := some 111) (v := ?_) rfl rfl hHeld ?_ ?_; rotate_left; focus intro w hSw; (try dsimp only at hSw);  go_simp; try with_reducible rfl
              simp only [aput, aset, aze, asu]
              refine take_yes (i := 2) (d := some 113) (v := .agg (cellsR F)) rfl rfl hHeld (fun w hSw => exec_load rfl rfl (HLd.out w hSw.1)) ?_
              simp only [aput, aset, aze, asu]
              refine wpAnyH_ready (rs := [1]) (by kernel_rfl) (by simp) ?_
              refine AllReadyH.cons rfl (fun K hK => ?_) AllReadyH.nil
              go_simp
              refine (ofC _ _ _ (HFs.out _ hHeld.2)).mono ?_
              rintro e w3 ⟨v3, s, rfl, hSet, hO3, hL3⟩
              obtain ⟨a3, n3, c3, rfl⟩ : ∃ a n c, v3 = .slice a n c := by obtain ⟨a, c, e⟩ := hO3.slice; exact ⟨a, _, c, e⟩
              have hT3 : Tn w.heap.size wr w3 := hHeld.2.trans (Tn.of_below hL3.below)
              have hR3 : RowR 92 w3 b F := (hL3.block hHeld.1.lt).trans hHeld.1
              refine hK.out _ _ ⟨hR3, hT3⟩ (fun hHeld => ?_)
              clear hK K
              refine take_yes (i := 3) (d := some 6) (v := ?_) rfl rfl hHeld ?_ ?_; rotate_left; focus intro w hSw; (try dsimp only at hSw);  go_simp; try with_reducible rfl
              simp only [aput, aset, aze, asu]
              refine wpAnyH_ready (rs := [4]) (by kernel_rfl) (by simp) ?_
              have hp3 : w3.heap[w.heap.size]? = some (.cells (cellsR noR) 92 (0, 0)) := by
                rw [hL3.block (by show w.heap.size < wr.heap.size; have := HT.out.tn.size; have := HZ2.out; omega)]
                exact (HT.out.tn.block _ (by have := HZ2.out; omega) (by omega)).trans HP2.out
              obtain ⟨hrn, hTn⟩ := row_new (cs' := cellsR F) hp3
              have hst : (Instr.storeAt 92 (.pointer (some ⟨w.heap.size, 0, none⟩)) (.agg (cellsR F))).run Tryz.prog w3 = .ok () (w3.setRow w.heap.size (cellsR F)) := by
                simp only [Instr.storeAt, Instr.sureAddr, Sem.run_bind, Sem.run_pure, Result.andThen]
                exact run_storeVar_row _ _ 92 92 _ _ hp3 (by rw [cellsR_size]; kernel_rfl) (by rw [cellsR_size, cellsR_size]) (Array.all_eq_true_iff_forall_mem.2 fun v hv => cellsR_one F v (by simpa using hv))
              have hO4 : OwnF (w3.setRow w.heap.size (cellsR F)) wr.heap.size (.slice a3 n3 c3) s := hO3.stay hTn.size fun k hk hb => hTn.block k hk (by have hb : wr.heap.size ≤ k := hb; have := HT.out.tn.size; have := HZ2.out; omega)
              generalize w3.setRow w.heap.size (cellsR F) = w4 at *
              refine AllReadyH.cons rfl (fun K hK => step_store rfl rfl 92 (.tmp 7) (.tmp 113) rfl _ _ w4 rfl rfl hst (hK.out _ _ ⟨(hTn.block b (hR3.lt) (by omega)).trans hR3, hT3.trans hTn⟩ (fun hHeld => ?_))) AllReadyH.nil
              refine wpAnyH_done (by kernel_rfl) ?_ _
              have HLv : Hid ((loadVar 92 ⟨w.heap.size, 0, none⟩).run Tryz.prog w4 = .ok (.agg (cellsR F)) w4) := run_loadVar_row _ _ 92 92 (cellsR F) (0, 0) _ hrn Tryz.underlying92 rfl (by rw [cellsR_size]; kernel_rfl)
              have HEnd : Hid (Below w.heap.size w w4) := below_trans (below_trans HL2.out.below (HT.out.tn.below (n := w.heap.size) (by omega) HL2.out.size) (Nat.le_refl _)) ((hT3.trans hTn).below (Nat.le_refl _) (by have := HT.out.tn.size; have := HZ2.out; omega)) (Nat.le_refl _)
              have HO4 := hide hO4
              have HSt := hide hSet
              clear hrn hTn hst hO4 hp3 hT3 hR3 hHeld hL3 hO3 hSet
              go_wp2
              refine bodyPost_ret (v := .tuple #[.slice a3 n3 c3, .agg (cellsR F)]) (results_tmp_cell Tryz.results45 _ _ _ rfl rfl HLv.out) rfl ⟨_, by rw [HFe.out, HF0.out], ?_, HEnd.out⟩
              rw [← HL0.out, ← setF_of HSt.out.1 HSt.out.2.1]
              exact HO4.out.base (by have := HT.out.tn.size; have := HZ2.out; omega)

end Go.Proofs.YtafmbokfkbccaaaGreatDoor
