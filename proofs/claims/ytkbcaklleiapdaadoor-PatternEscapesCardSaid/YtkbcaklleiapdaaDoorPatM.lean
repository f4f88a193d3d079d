/- Mathematics of layer 4: tests of bytes. -/
import Derived.KernelRfl
namespace Go.Proofs.YtkbcaklleiapdaaDoor.M4
/-- A range of bytes: its first and its last. -/
def inR (rs : List (UInt8 × UInt8)) (c : UInt8) : Bool := rs.any fun r => decide (r.1.toNat ≤ c.toNat ∧ c.toNat ≤ r.2.toNat)
theorem inR_cons (r : UInt8 × UInt8) (rs : List (UInt8 × UInt8)) (c : UInt8) : inR (r :: rs) c = (decide (r.1.toNat ≤ c.toNat ∧ c.toNat ≤ r.2.toNat) || inR rs c) := rfl
def rAZ : List (UInt8 × UInt8) := [(65, 90)]
/-- The ranges of the class of a lower-case letter. -/
def cls (x : UInt8) : Option (List (UInt8 × UInt8)) :=
  if x = 97 then some [(97, 122), (65, 90)]
  else if x = 100 then some [(48, 57)]
  else if x = 108 then some [(97, 122)]
  else if x = 117 then some [(65, 90)]
  else if x = 119 then some [(97, 122), (65, 90), (48, 57)]
  else if x = 120 then some [(48, 57), (97, 102), (65, 70)]
  else if x = 115 then some [(9, 13), (32, 32)]
  else if x = 112 then some [(33, 47), (58, 64), (91, 96), (123, 126)]
  else if x = 99 then some [(0, 31), (127, 127)]
  else none
/-- The bytes of % and a byte; none: it has no meaning. -/
def pairP (x : UInt8) : Option (UInt8 → Bool) :=
  if inR [(97, 122)] x = true then (cls x).map inR
  else if inR [(65, 90)] x = true then (cls (x - 65 + 97)).map fun rs c => !inR rs c
  else if inR [(48, 57)] x = true then none
  else some fun c => c == x
end Go.Proofs.YtkbcaklleiapdaaDoor.M4
