/- Texts of this claim, one behind the other. -/
import Derived.Test.YtafmbokfkbccaaaGreatDoorJ5
import Derived.Test.YtafmbokfkbccaaaGreatDoorJ21
import Derived.Test.YtafmbokfkbccaaaGreatDoorJ26
import Derived.Test.YtafmbokfkbccaaaGreatDoorJ7
import Derived.Test.YtafmbokfkbccaaaGreatDoorJ22
/- What follows, in a form that the kernel reckons: sorting by putting in. Nothing of the program. -/
namespace Go.Proofs.YtafmbokfkbccaaaGreatDoor

def insB {α : Type} (c : α → α → Int) (x : α) : List α → List α
  | [] => [x]
  | y :: l => if c x y ≤ 0 then x :: y :: l else y :: insB c x l
def isortB {α : Type} (c : α → α → Int) : List α → List α
  | [] => []
  | x :: l => insB c x (isortB c l)

section
variable {α : Type} {c : α → α → Int}
theorem insB_perm (x : α) : ∀ l : List α, (insB c x l).Perm (x :: l)
  | [] => List.Perm.refl _
  | y :: l => by
    unfold insB
    split
    · exact List.Perm.refl _
    · exact ((insB_perm x l).cons y).trans (List.Perm.swap x y l)
theorem isortB_perm : ∀ l : List α, (isortB c l).Perm l
  | [] => List.Perm.refl _
  | x :: l => (insB_perm x _).trans ((isortB_perm l).cons x)
theorem insB_sorted (h : Three c) (x : α) : ∀ l : List α, (l.Pairwise fun a b => c a b ≤ 0) → (insB c x l).Pairwise fun a b => c a b ≤ 0
  | [], _ => by simp [insB]
  | y :: l, hl => by
    have hl' := List.pairwise_cons.1 hl
    unfold insB
    split
    · rename_i hxy
      refine List.pairwise_cons.2 ⟨fun z hz => ?_, hl⟩
      rcases List.mem_cons.1 hz with rfl | hz
      · exact hxy
      · exact h.le_trans hxy (hl'.1 z hz)
    · rename_i hxy
      refine List.pairwise_cons.2 ⟨fun z hz => ?_, insB_sorted h x l hl'.2⟩
      rcases List.mem_cons.1 ((insB_perm x l).mem_iff.1 hz) with rfl | hz
      · have := h.swap z y; omega
      · exact hl'.1 z hz
theorem isortB_sorted (h : Three c) : ∀ l : List α, (isortB c l).Pairwise fun a b => c a b ≤ 0
  | [] => List.Pairwise.nil
  | x :: l => insB_sorted h x _ (isortB_sorted h l)
theorem sortBy_ins (h : Three c) (l : List α) : sortBy c l = isortB c l := (sortBy_of h (isortB_perm l) (isortB_sorted h l)).symm
end

def eS (a b : ByteArray) : Int := if Op.bytesLess a.data.toList b.data.toList then -1 else if a.data.toList == b.data.toList then 0 else 1
def eL : List ByteArray → List ByteArray → Int
  | [], [] => 0
  | [], _ :: _ => -1
  | _ :: _, [] => 1
  | a :: x, b :: y => if eS a b ≠ 0 then eS a b else eL x y
def eF (f g : FactB) : Int := if eS f.1 g.1 ≠ 0 then eS f.1 g.1 else if cmpI f.2.length g.2.length ≠ 0 then cmpI f.2.length g.2.length else eL f.2 g.2
def eB (a b : BindD) : Int := if eS a.1 b.1 ≠ 0 then eS a.1 b.1 else eS a.2 b.2

theorem eS_eq : cmpS = eS := by funext a b; unfold cmpS eS; rw [Lib.toList_data, Lib.toList_data]

theorem eL_eq : cmpL = eL := by
  funext x y
  induction x generalizing y with
  | nil => cases y <;> rfl
  | cons a x ih => cases y with
    | nil => rfl
    | cons b y => simp only [cmpL, eL, eS_eq, ih]

theorem eF_eq : cmpF = eF := by funext f g; unfold cmpF eF; rw [eS_eq, eL_eq]

theorem eB_eq : cmpB = eB := by funext a b; unfold cmpB eB; rw [eS_eq]

def setI (l : List FactB) : List FactB := isortB eF (dropTwice l)
theorem setI_eq (l : List FactB) : setF l = setI l := by unfold setF setI; rw [sortBy_ins three_cmpF, eF_eq]

def allI (fs : List FactB) (body : List AtomD) : Option (List (List BindD)) := match metGo (fun _ => fs) 0 body [[]] with
  | none => none
  | some ms => some (isortB (cmpX eB) ((ms.filter fun l => !barredB (fun _ => fs) 0 body l).map (isortB eB)))
theorem allI_eq (fs : List FactB) (body : List AtomD) : allB (fun _ => fs) body = allI fs body := by
  have e1 : (sortB : List BindD → List BindD) = isortB eB := by funext l; show sortBy cmpB l = _; rw [sortBy_ins three_cmpB, eB_eq]
  unfold allB allI
  cases metGo (fun _ => fs) 0 body [[]] with
  | none => rfl
  | some ms =>
    dsimp only
    rw [sortBy_ins three_cmpBs, e1, show cmpBs = cmpX eB from by rw [← eB_eq]]

def headsI (r : RuleD) (fs : List FactB) : Option (List FactB) := match allI fs r.body with
  | none => none
  | some R => some (setI (R.filterMap fun l => fillB r.head l))
theorem headsI_eq (r : RuleD) (fs : List FactB) : headsP r fs = headsI r fs := by
  unfold headsP headsI
  rw [allI_eq]
  cases allI fs r.body with
  | none => rfl
  | some R => dsimp only; rw [setI_eq]

def onceI (n : Int) (fs : List FactB) : List RuleD → List Nat → List FactB → Int × List FactB
  | [], _, acc => (0, setI acc)
  | _ :: _, [], acc => (0, setI acc)
  | r :: p, s :: ss, acc => if (s : Int) = n then
      match headsI r fs with
      | none => (4, [])
      | some x => if 200 < (setI (acc ++ x)).length then (5, []) else onceI n fs p ss (acc ++ x)
    else onceI n fs p ss acc
theorem onceI_eq (n : Int) (fs : List FactB) : ∀ (p : List RuleD) (ss : List Nat) (acc : List FactB), onceGo n fs p ss acc = onceI n fs p ss acc
  | [], _, acc => by simp only [onceGo, onceI, setI_eq]
  | _ :: _, [], acc => by simp only [onceGo, onceI, setI_eq]
  | r :: p, s :: ss, acc => by
    simp only [onceGo, onceI]
    rw [headsI_eq]
    split
    · cases headsI r fs with
      | none => rfl
      | some x =>
        dsimp only
        rw [setI_eq, onceI_eq n fs p ss]
    · exact onceI_eq n fs p ss acc

def overI (p : List RuleD) (ss : List Nat) (n : Int) : Nat → List FactB → Int × List FactB
  | 0, l => (0, l)
  | k + 1, l => match onceI n l p ss l with
    | (e, x) => if e ≠ 0 then (e, []) else if x.length = l.length then (0, x) else overI p ss n k x
theorem overI_eq (p : List RuleD) (ss : List Nat) (n : Int) : ∀ (k : Nat) (l : List FactB), overGo p ss n k l = overI p ss n k l
  | 0, l => rfl
  | k + 1, l => by
    unfold overGo overI onceP
    rw [onceI_eq]
    obtain ⟨e, x, h⟩ : ∃ e x, onceI n l p ss l = (e, x) := ⟨_, _, rfl⟩
    rw [h]
    dsimp only
    rw [overI_eq p ss n k x]

def runI (p : List RuleD) (ss : List Nat) : Nat → Nat → List FactB → Int × List FactB
  | 0, _, l => (0, l)
  | c + 1, n, l => match overI p ss n 201 l with
    | (e, x) => if e ≠ 0 then (e, []) else runI p ss c (n + 1) x
theorem runI_eq (p : List RuleD) (ss : List Nat) : ∀ (c n : Nat) (l : List FactB), runGo p ss c n l = runI p ss c n l
  | 0, n, l => rfl
  | c + 1, n, l => by
    unfold runGo runI
    rw [overI_eq]
    obtain ⟨e, x, h⟩ : ∃ e x, overI p ss n 201 l = (e, x) := ⟨_, _, rfl⟩
    rw [h]
    dsimp only
    rw [runI_eq p ss c (n + 1) x]

end Go.Proofs.YtafmbokfkbccaaaGreatDoor

/- The walk of chapter 5's statements' closed beginning, alive. -/
namespace Go.Proofs.YtafmbokfkbccaaaGreatDoor
open Go.RowKit Go.Sort

def kb (l : Bs) : ByteArray := ⟨l.toArray⟩
def ruls5 : List RuleD :=
  [⟨⟨false, [116], [(true, [88]), (true, [89])]⟩, [⟨false, [101], [(true, [88]), (true, [89])]⟩]⟩,
   ⟨⟨false, [116], [(true, [88]), (true, [90])]⟩, [⟨false, [116], [(true, [88]), (true, [89])]⟩, ⟨false, [101], [(true, [89]), (true, [90])]⟩]⟩,
   ⟨⟨false, [110], [(true, [88])]⟩, [⟨false, [118], [(true, [88])]⟩, ⟨true, [116], [(false, [97]), (true, [88])]⟩]⟩]
def told5 : List FactB := [(kb [101], [kb [97], kb [98]]), (kb [101], [kb [98], kb [99]]), (kb [118], [kb [97]]), (kb [118], [kb [99]])]
def all5 : List FactB := [(kb [101], [kb [97], kb [98]]), (kb [101], [kb [98], kb [99]]), (kb [110], [kb [97]]), (kb [116], [kb [97], kb [98]]), (kb [116], [kb [97], kb [99]]), (kb [116], [kb [98], kb [99]]), (kb [118], [kb [97]]), (kb [118], [kb [99]])]
def txt5 : Bs := [116, 40, 88, 44, 89, 41, 32, 58, 45, 32, 101, 40, 88, 44, 89, 41, 46, 32, 116, 40, 88, 44, 90, 41, 32, 58, 45, 32, 116, 40, 88, 44, 89, 41, 44, 32, 101, 40, 89, 44, 90, 41, 46, 32, 110, 40, 88, 41, 32, 58, 45, 32, 118, 40, 88, 41, 44, 32, 33, 116, 40, 97, 44, 88, 41, 46]

end Go.Proofs.YtafmbokfkbccaaaGreatDoor

/- A closed program and its facts, plain. -/
namespace Go.Proofs.YtafmbokfkbccaaaGreatDoor
open Go.RowKit Go.Sort Go.Maps

def ruls7 : List RuleD := [⟨⟨false, [98], [(true, [88])]⟩, [⟨false, [97], [(true, [88])]⟩]⟩]
def told7 : List FactB := [(kb [97], [kb [113]])]
def all7 : List FactB := [(kb [97], [kb [113]]), (kb [98], [kb [113]])]
def txt7 : Bs := [98, 40, 88, 41, 32, 58, 45, 32, 97, 40, 88, 41, 46]

theorem told_txt7 : toldRule txt7 = (ruls7, 0, 0) := by kernel_rfl

theorem strata7 : strataP ruls7 = ([0], 0, 0) := by kernel_rfl

theorem up_told7 : Up told7 := by show List.Pairwise _ _; rw [eF_eq]; decide +kernel

theorem right_told7 : ∀ f ∈ told7, wrongF f = 0 := by decide +kernel

theorem fit_told7 : ∀ f ∈ told7, fitF ruls7 f = true := by decide +kernel

theorem good_told7 : GoodS ruls7 told7 := ⟨up_told7, fun f hf => wrongF_right.1 (right_told7 f hf), by decide, fit_told7⟩

end Go.Proofs.YtafmbokfkbccaaaGreatDoor

/- Rounds, in a form that the kernel reckons. Nothing of the program. -/
namespace Go.Proofs.YtafmbokfkbccaaaGreatDoor

def allJ (pick : Nat → List FactB) (body : List AtomD) : Option (List (List BindD)) := match metGo pick 0 body [[]] with
  | none => none
  | some ms => some (isortB (cmpX eB) ((ms.filter fun l => !barredB pick 0 body l).map (isortB eB)))
theorem allJ_eq (pick : Nat → List FactB) (body : List AtomD) : allB pick body = allJ pick body := by
  have e1 : (sortB : List BindD → List BindD) = isortB eB := by funext l; show sortBy cmpB l = _; rw [sortBy_ins three_cmpB, eB_eq]
  unfold allB allJ
  cases metGo pick 0 body [[]] with
  | none => rfl
  | some ms =>
    dsimp only
    rw [sortBy_ins three_cmpBs, e1, show cmpBs = cmpX eB from by rw [← eB_eq]]

def atJ (K N : List FactB) (r : RuleD) : Nat → List AtomD → List FactB → Option (List FactB)
  | _, [], acc => some acc
  | k, a :: l, acc => if a.no then atJ K N r (k + 1) l acc else
    match allJ (pickB K k N) r.body with
    | none => none
    | some R => atJ K N r (k + 1) l (acc ++ R.filterMap fun e => fillB r.head e)
theorem atJ_eq (K N : List FactB) (r : RuleD) : ∀ (l : List AtomD) (k : Nat) (acc : List FactB), atGo K N r k l acc = atJ K N r k l acc
  | [], _, _ => rfl
  | a :: l, k, acc => by
    unfold atGo atJ
    split
    · exact atJ_eq K N r l (k + 1) acc
    · rw [allJ_eq]
      cases allJ (pickB K k N) r.body with
      | none => rfl
      | some R => exact atJ_eq K N r l (k + 1) _

def askJ (K N : List FactB) (r : RuleD) (acc : List FactB) : Option (List FactB) := if r.body.all (·.no) then
    match headsI r K with
    | none => none
    | some x => some (acc ++ x)
  else atJ K N r 0 r.body acc
theorem askJ_eq (K N : List FactB) (r : RuleD) (acc : List FactB) : askP K N r acc = askJ K N r acc := by
  unfold askP askJ
  rw [headsI_eq, atJ_eq]
  split
  · cases headsI r K <;> rfl
  · rfl

def makesJ (K N : List FactB) (st : Int) : List RuleD → List Nat → List FactB → Option (List FactB)
  | [], _, acc => some acc
  | _ :: _, [], acc => some acc
  | r :: p, s :: ss, acc => if (s : Int) = st then
      match askJ K N r acc with
      | none => none
      | some acc' => makesJ K N st p ss acc'
    else makesJ K N st p ss acc
theorem makesJ_eq (K N : List FactB) (st : Int) : ∀ (p : List RuleD) (ss : List Nat) (acc : List FactB), makesGo K N st p ss acc = makesJ K N st p ss acc
  | [], _, _ => by simp only [makesGo, makesJ]
  | _ :: _, [], _ => by simp only [makesGo, makesJ]
  | r :: p, s :: ss, acc => by
    simp only [makesGo, makesJ]
    rw [askJ_eq]
    split
    · cases askJ K N r acc with
      | none => rfl
      | some x => exact makesJ_eq K N st p ss x
    · exact makesJ_eq K N st p ss acc

def nextJ (p : List RuleD) (ss : List Nat) (r : RunD) : Int × RunD := if r.rounds = 1000 then (5, noRun) else
  match makesJ r.known r.fresh r.level p ss [] with
  | none => (4, noRun)
  | some acc => if 200 < (setI (r.known ++ acc)).length then (5, noRun) else
    if setI (acc.filter fun f => !inB r.known f) = [] then (0, ⟨setI (r.known ++ acc), setI (r.known ++ acc), r.level + 1, r.rounds + 1, decide (r.level + 1 = countP ss)⟩)
    else (0, ⟨setI (r.known ++ acc), setI (acc.filter fun f => !inB r.known f), r.level, r.rounds + 1, false⟩)
theorem nextJ_eq (p : List RuleD) (ss : List Nat) (r : RunD) : nextP p ss r = nextJ p ss r := by
  unfold nextP nextJ newOf
  rw [makesJ_eq]
  split
  · rfl
  · cases makesJ r.known r.fresh r.level p ss [] with
    | none => rfl
    | some acc => simp only [setI_eq]

def stepsJ (p : List RuleD) (ss : List Nat) : Nat → RunD → Int × RunD
  | 0, r => (0, r)
  | n + 1, r => if r.done then (0, r) else match nextJ p ss r with
    | (e, x) => if e ≠ 0 then (e, noRun) else stepsJ p ss n x
theorem stepsJ_eq (p : List RuleD) (ss : List Nat) : ∀ (n : Nat) (r : RunD), stepsP p ss n r = stepsJ p ss n r
  | 0, r => rfl
  | n + 1, r => by
    unfold stepsP stepsJ
    rw [nextJ_eq]
    split
    · rfl
    · obtain ⟨e, x, h⟩ : ∃ e x, nextJ p ss r = (e, x) := ⟨_, _, rfl⟩
      rw [h]
      dsimp only
      rw [stepsJ_eq p ss n x]

end Go.Proofs.YtafmbokfkbccaaaGreatDoor
