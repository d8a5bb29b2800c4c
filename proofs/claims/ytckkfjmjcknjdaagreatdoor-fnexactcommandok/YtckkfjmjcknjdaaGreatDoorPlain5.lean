/-
  Disks in plain words: files in order of their names, and what acts make of them.
-/
namespace Go.Proofs.YtckkfjmjcknjdaaGreatDoor.P5

structure FileV where
  name : List UInt8
  text : List UInt8
  kept : Int
deriving DecidableEq

/-- Texts byte by byte, a beginning being less. -/
def ltB (x y : List UInt8) : Bool := decide (x < y)

def nameOk (s : List UInt8) : Bool := decide (1 ≤ s.length) && decide (s.length ≤ 8)
def fileOk (f : FileV) : Bool := nameOk f.name && decide (f.text.length ≤ 20000) && decide (0 ≤ f.kept) && decide (f.kept ≤ (f.text.length : Int))

/-- Each right, its name behind the one before. -/
def okFrom : Option (List UInt8) → List FileV → Bool
  | _, [] => true
  | p, f :: r => fileOk f && (match p with | none => true | some x => ltB x f.name) && okFrom (some f.name) r

def diskOk (d : List FileV) : Bool := decide (d.length ≤ 30) && okFrom none d

def fileAt (d : List FileV) (n : List UInt8) : Option FileV := d.find? fun f => f.name == n
def without (d : List FileV) (n : List UInt8) : List FileV := d.filter fun f => f.name != n
def put (d : List FileV) (f : FileV) : List FileV := (d.filter fun g => ltB g.name f.name) ++ f :: d.filter fun g => ltB f.name g.name

/-- What the power leaves of a file. -/
def leftOf (f : FileV) (n : Int) : Nat := (max (min n (f.text.length : Int)) f.kept).toNat
def loseF (f : FileV) (n : Int) : FileV := ⟨f.name, f.text.take (leftOf f n), (leftOf f n : Int)⟩
def lose (d : List FileV) (left : List Int) : List FileV := d.mapIdx fun i f => loseF f (left.getD i 0)

theorem fileOk_kept {f : FileV} (h : fileOk f = true) : 0 ≤ f.kept ∧ f.kept ≤ (f.text.length : Int) := by
  simp [fileOk] at h
  omega

theorem leftOf_le {f : FileV} (h : fileOk f = true) (n : Int) : leftOf f n ≤ f.text.length := by
  have := fileOk_kept h
  unfold leftOf
  omega

theorem kept_le_left {f : FileV} (h : fileOk f = true) (n : Int) : f.kept ≤ (leftOf f n : Int) := by
  have := fileOk_kept h
  unfold leftOf
  omega

/-- All that is left is kept. -/
theorem loseF_kept {f : FileV} (h : fileOk f = true) (n : Int) : (loseF f n).kept = ((loseF f n).text.length : Int) := by
  have := leftOf_le h n
  simp [loseF, List.length_take]
  omega

/-- Lost again, nothing more is lost. -/
theorem loseF_again {f : FileV} (h : fileOk f = true) (n m : Int) : loseF (loseF f n) m = loseF f n := by
  have h1 := loseF_kept h n
  have e : leftOf (loseF f n) m = (loseF f n).text.length := by
    unfold leftOf
    rw [h1]
    omega
  show FileV.mk (loseF f n).name ((loseF f n).text.take (leftOf (loseF f n) m)) (leftOf (loseF f n) m : Int) = loseF f n
  rw [e, List.take_length, ← h1]

end Go.Proofs.YtckkfjmjcknjdaaGreatDoor.P5
