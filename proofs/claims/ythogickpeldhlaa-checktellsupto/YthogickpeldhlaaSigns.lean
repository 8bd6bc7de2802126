/- Bytes, names, variables: plain. Nothing of the program. -/
import Derived.Test.YthogickpeldhlaaOrder
namespace Go.Proofs.Ythogickpeldhlaa

/-- A small letter, or a digit. -/
def smallB (x : Int) : Bool := decide (97 ≤ x ∧ x ≤ 122) || decide (48 ≤ x ∧ x ≤ 57)
/-- A sign of a word. -/
def signB (x : Int) : Bool := smallB x || decide (65 ≤ x ∧ x ≤ 90) || decide (x = 95)
/-- A great letter. -/
def greatB (x : Int) : Bool := decide (65 ≤ x ∧ x ≤ 90)

abbrev Bs := List UInt8
/-- A text of these bytes. -/
def bs (l : Bs) : ByteArray := ⟨l.toArray⟩
/-- A text's bytes. -/
def raw (s : ByteArray) : Bs := s.data.toList

theorem bs_raw (s : ByteArray) : bs (raw s) = s := by cases s; simp [bs, raw]
theorem raw_bs (l : Bs) : raw (bs l) = l := by simp [bs, raw]
theorem size_bs (l : Bs) : (bs l).size = l.length := by simp [bs, ByteArray.size]
theorem length_raw (s : ByteArray) : (raw s).length = s.size := Array.length_toList
theorem bs_inj {a b : Bs} (h : bs a = bs b) : a = b := by rw [← raw_bs a, h, raw_bs]
theorem raw_inj {a b : ByteArray} (h : raw a = raw b) : a = b := by rw [← bs_raw a, h, bs_raw]

def isSign (c : UInt8) : Bool := signB c.toNat
def isNamed (l : Bs) : Bool := decide (l.length ≤ 12) && (match l with | [] => false | c :: _ => smallB c.toNat) && l.all isSign
def isVar (l : Bs) : Bool := decide (l.length ≤ 12) && (match l with | [] => false | c :: _ => greatB c.toNat) && l.all isSign

end Go.Proofs.Ythogickpeldhlaa
