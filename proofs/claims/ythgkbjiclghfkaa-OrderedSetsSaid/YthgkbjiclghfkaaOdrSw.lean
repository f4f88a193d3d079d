/- Layer 12: a part of the walk of OrderedSets. -/
import Derived.Test.YthgkbjiclghfkaaOdrSwb
import Derived.Test.YthgkbjiclghfkaaOdrSwc
namespace Go.Proofs.Ythgkbjiclghfkaa.orderedSetsLaw
open Go.ChangeShapes Go.WideShapes Go.ChangeAt Go.RowKit Go.Joins Go.Deep M1
set_option linter.unusedVariables false
theorem walk (p : Option Addr) (cap : Nat) (l : List OpA) (k1 p1 q1 : Int) (s1 : ByteArray) (r1 : Int) (k2 p2 q2 : Int) (s2 : ByteArray) (r2 : Int) (po : Option Addr) (co : Nat) (os : List V5) (w : World) (hlm : l.length ≤ maxLen) (hp : 0 < l.length → ∃ g o, p = some ⟨g, o, none⟩ ∧ g < w.heap.size ∧ ∀ (j m : Nat) (hj : j < l.length), m < 11 → w.cell? ⟨g, o + j * 11 + m, none⟩ = (opC l[j])[m]?) (hlo : os.length ≤ maxLen) (hpo : 0 < os.length → ∃ g o, po = some ⟨g, o, none⟩ ∧ g < w.heap.size ∧ ∀ (j m : Nat) (hj : j < os.length), m < 5 → w.cell? ⟨g, o + j * 5 + m, none⟩ = (vC os[j])[m]?) :
    Calls Try.prog 6 #[.slice p l.length cap, .agg #[.int .i64 k1, .int .i64 p1, .int .i64 q1, .string s1, .int .i64 r1], .agg #[.int .i64 k2, .int .i64 p2, .int .i64 q2, .string s2, .int .i64 r2], .slice po os.length co] w fun e w' => e = .returned (.bool true) ∧ Below w.heap.size w w' := by
  have main : ∀ k x : V5, Calls Try.prog 6 #[.slice p l.length cap, .agg #[.int .i64 k.k, .int .i64 k.p, .int .i64 k.q, .string k.s, .int .i64 k.r], .agg #[.int .i64 x.k, .int .i64 x.p, .int .i64 x.q, .string x.s, .int .i64 x.r], .slice po os.length co] w fun e w' => e = .returned (.bool true) ∧ Below w.heap.size w w' := fun k x => by
    by_cases hl : 400 < l.length
    · exact walk_a p cap l k x po co os w hlm hp hlo hpo hl
    by_cases ho : 40 < os.length
    · exact walk_b p cap l k x po co os w hlm hp hlo hpo (by omega) ho
    cases hk : okV k with
    | false => exact walk_c1 p cap l k x po co os w hlm hp hlo hpo (by omega) (by omega) hk
    | true =>
      by_cases hk0 : k.k = 0
      · exact walk_c2 p cap l k x po co os w hlm hp hlo hpo (by omega) (by omega) hk hk0
      cases hx : okV x with
      | false => exact walk_c3 p cap l k x po co os w hlm hp hlo hpo (by omega) (by omega) hk hk0 hx
      | true => exact walk_c4 p cap l k x po co os w hlm hp hlo hpo (by omega) (by omega) hk hk0 hx
  exact main ⟨k1, p1, q1, s1, r1⟩ ⟨k2, p2, q2, s2, r2⟩
end Go.Proofs.Ythgkbjiclghfkaa.orderedSetsLaw
