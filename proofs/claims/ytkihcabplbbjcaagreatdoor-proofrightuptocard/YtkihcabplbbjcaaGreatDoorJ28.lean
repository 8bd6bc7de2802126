/- Texts of this claim, one behind the other. -/
import Derived.Test.YtkihcabplbbjcaaGreatDoorJ19
import Derived.Test.YtkihcabplbbjcaaGreatDoorJ27
import Derived.Test.YtkihcabplbbjcaaGreatDoorJ11
/- The walk of alive, of the statements on chapter 3. -/
namespace Go.Proofs.YtkihcabplbbjcaaGreatDoor
open Go.RowKit Go.Sort Go.Maps

def txtA : ByteArray := { data := #[98, 40, 88, 41, 32, 58, 45, 32, 97, 40, 88, 41, 44, 32, 33, 99, 40, 88, 41, 46, 32, 99, 40, 88, 41, 32, 58, 45, 32, 100, 40, 88, 41, 46] }
def txtB : ByteArray := { data := #[97, 40, 120, 41, 32, 58, 45, 32, 33, 97, 40, 120, 41, 46] }
def ra : RuleD := ⟨⟨false, [98], [(true, [88])]⟩, [⟨false, [97], [(true, [88])]⟩, ⟨true, [99], [(true, [88])]⟩]⟩
def rb : RuleD := ⟨⟨false, [99], [(true, [88])]⟩, [⟨false, [100], [(true, [88])]⟩]⟩
def rc : RuleD := ⟨⟨false, [97], [(false, [120])]⟩, [⟨true, [97], [(false, [120])]⟩]⟩
theorem toldA : toldRule (raw txtA) = ([ra, rb], 0, 0) := by kernel_rfl
theorem toldB : toldRule (raw txtB) = ([rc], 0, 0) := by kernel_rfl
theorem strataA : strataP [ra, rb] = ([1, 0], 0, 0) := by kernel_rfl
theorem strataB : strataP [rc] = ([], 10, 0) := by kernel_rfl
theorem wrongA : wrongP [ra, rb] = (0, 0) := by kernel_rfl
theorem varsA : vars ra.head = [[88]] := by kernel_rfl

end Go.Proofs.YtkihcabplbbjcaaGreatDoor

/- The walk of CheckLess. -/
namespace Go.Proofs.YtkihcabplbbjcaaGreatDoor
open Go.RowKit Go.Sort Go.Maps

end Go.Proofs.YtkihcabplbbjcaaGreatDoor

/- How bools lie in maps. -/
namespace Go.Proofs.YtkihcabplbbjcaaGreatDoor
open Go.RowKit Go.Sort Go.Maps

end Go.Proofs.YtkihcabplbbjcaaGreatDoor

/- Maps from numbers to whether; what a program's strata are good for. -/
namespace Go.Proofs.YtkihcabplbbjcaaGreatDoor
open Go.RowKit Go.Sort Go.Maps

/-! ### numbers, each once -/
def addN (l : List Nat) (x : Nat) : List Nat := if l.contains x then l else l ++ [x]
def onceN (l : List Nat) : List Nat := l.foldl addN []
theorem onceN_snoc (l : List Nat) (x : Nat) : onceN (l ++ [x]) = addN (onceN l) x := by simp [onceN, List.foldl_append]
theorem onceN_take {l : List Nat} {j x : Nat} (h : l[j]? = some x) : onceN (l.take (j + 1)) = addN (onceN (l.take j)) x := by rw [List.take_add_one, h]; exact onceN_snoc _ _
theorem addN_mem (l : List Nat) (x y : Nat) : y ∈ addN l x ↔ y ∈ l ∨ y = x := by
  unfold addN
  split
  · rename_i h
    have : x ∈ l := by simpa using h
    exact ⟨Or.inl, fun h => h.elim id fun e => by rw [e]; exact this⟩
  · simp
theorem addN_nodup {l : List Nat} (h : l.Nodup) (x : Nat) : (addN l x).Nodup := by
  unfold addN
  split
  · exact h
  · rename_i hx
    have hx' : x ∉ l := by simpa using hx
    rw [List.nodup_append]
    exact ⟨h, by simp, fun a ha b hb => by simp at hb; subst hb; exact fun e => hx' (e ▸ ha)⟩
theorem foldN_mem (l : List Nat) : ∀ (a : List Nat) (y : Nat), y ∈ l.foldl addN a ↔ y ∈ a ∨ y ∈ l := by
  induction l with
  | nil => intro a y; simp
  | cons x l ih => intro a y; rw [List.foldl_cons, ih, addN_mem, List.mem_cons]; exact or_assoc
theorem onceN_mem (l : List Nat) (y : Nat) : y ∈ onceN l ↔ y ∈ l := by unfold onceN; rw [foldN_mem]; simp
theorem foldN_nodup (l : List Nat) : ∀ a : List Nat, a.Nodup → (l.foldl addN a).Nodup := by
  induction l with
  | nil => intro a h; exact h
  | cons x l ih => intro a h; exact ih _ (addN_nodup h x)
theorem onceN_nodup (l : List Nat) : (onceN l).Nodup := foldN_nodup l [] List.nodup_nil
theorem addN_len (l : List Nat) (x : Nat) : (addN l x).length ≤ l.length + 1 := by unfold addN; split <;> simp
theorem nodup_lt : ∀ (N : Nat) (A : List Nat), A.Nodup → (∀ x ∈ A, x < N) → A.length ≤ N := by
  intro N
  induction N with
  | zero =>
    intro A _ h
    cases A with
    | nil => simp
    | cons x A => exact absurd (h x (by simp)) (Nat.not_lt_zero _)
  | succ N ih =>
    intro A hA h
    have h1 := ih (A.erase N) (hA.erase N) (fun x hx => by
      rw [hA.mem_erase_iff] at hx
      have := h x hx.2
      omega)
    by_cases hN : N ∈ A
    · rw [List.length_erase_of_mem hN] at h1; omega
    · rw [List.erase_of_not_mem hN] at h1; omega

/-! ### a map from numbers to whether -/
/-- Block b holds true at just these numbers. -/
def TrueM (w : World) (b n : Nat) (A : List Nat) : Prop := ∃ D : DataW Unit, w.ownsMap Tryz.prog 3 (plainElem Tryz.prog 4) b n D ∧ Maps.size D = A.length ∧ ∀ k : Nat, Maps.has D (.int .i64 (k : Int)) = A.contains k ∧ D.atKey (.int .i64 (k : Int)) (.lit (.bool false)) = .lit (.bool (A.contains k))

theorem TrueM.made (w : World) : TrueM (w.alloc (.map #[] 0)) w.heap.size 0 [] := ⟨.map [], World.ownsMap_made _ _ _ _, rfl, fun _ => ⟨rfl, rfl⟩⟩
theorem TrueM.lt {w : World} {b n : Nat} {A : List Nat} (h : TrueM w b n A) : b < w.heap.size := by obtain ⟨D, h, _⟩ := h; exact h.lt
theorem TrueM.later {w w' : World} {b n : Nat} {A : List Nat} (h : TrueM w b n A) (k : Later w w') : TrueM w' b n A := by
  have hlt := h.lt
  obtain ⟨D, h, hf⟩ := h
  exact ⟨D, owns_block h (k.block hlt), hf⟩
theorem int_ne {x k : Nat} (h : k ≠ x) : Lit.int .i64 (k : Int) ≠ Lit.int .i64 (x : Int) := fun e => h (by injection e with _ e; omega)
theorem keyI (x : Nat) : WideAt.IsKeyLit (.int .i64 (x : Int)) := trivial
set_option maxRecDepth 100000 in

/-! ### what a program's strata are good for -/
structure Good (p : List RuleD) (l : List Nat) : Prop where
  len : l.length = p.length
  alike : ∀ (i j : Nat) r q x y, p[i]? = some r → p[j]? = some q → l[i]? = some x → l[j]? = some y → q.head.name = r.head.name → y = x
  below : ∀ (i j : Nat) r q x y a, p[i]? = some r → p[j]? = some q → l[i]? = some x → l[j]? = some y → a ∈ r.body → a.name = q.head.name → y + step a ≤ x
  full : ∀ k, k < (onceN l).length → k ∈ onceN l
  small : ∀ x ∈ l, x < 16

end Go.Proofs.YtkihcabplbbjcaaGreatDoor
