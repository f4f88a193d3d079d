/- Contracts of layer 4: every item that was read can be matched. -/
import Derived.Test.YtkbcaklleiapdaaDoorPatU
import Derived.Test.YtkbcaklleiapdaaDoorPatUb
import Derived.Test.YtkbcaklleiapdaaDoorPatUc
import Derived.Test.YtkbcaklleiapdaaDoorPatUd
import Derived.Test.YtkbcaklleiapdaaDoorPatUe
import Derived.Test.YtkbcaklleiapdaaDoorPatUf
import Derived.Test.YtkbcaklleiapdaaDoorPatUg
import Derived.Test.YtkbcaklleiapdaaDoorPatAd
namespace Go.Proofs.YtkbcaklleiapdaaDoor
open Go.RowKit M4
set_option linter.unusedVariables false
theorem single_kind {l : List UInt8} {k : Nat} {r : Itm × Nat} (h : singleF l k = .ok r) : r.1.kind = 0 := by
  unfold singleF at h
  split at h
  · cases h
  · cases h; rfl
theorem item_kind {l : List UInt8} {k : Nat} {sts opn : List Nat} {r : Itm × Nat × List Nat × List Nat} (h : itemF l k sts opn = .ok r) : r.1.kind ≤ 6 := by
  unfold itemF at h
  repeat' (split at h)
  all_goals first
    | (cases h; done)
    | (cases h; simp; done)
    | (cases h; rename_i hr; rw [single_kind hr]; exact Nat.zero_le _)
theorem loop_kind {l : List UInt8} {start : Bool} : ∀ (f k : Nat) (sts opn : List Nat) (its : List Itm) (g : Pg), (∀ it ∈ its, it.kind ≤ 6) → loopF l start f k sts opn its = .ok g → (∀ it ∈ g.its, it.kind ≤ 6) ∧ g.its.length < its.length + f
  | 0, _, _, _, _, _, _, h => by cases h
  | f + 1, k, sts, opn, its, g, hR, h => by
    have fin : ∀ b, endF sts opn its start b = .ok g → (∀ it ∈ g.its, it.kind ≤ 6) ∧ g.its.length < its.length + (f + 1) := by
      intro b hb
      unfold endF at hb
      split at hb
      · cases hb; exact ⟨hR, by simp only []; omega⟩
      · cases hb
    unfold loopF at h
    split at h
    · split at h
      · exact fin _ h
      · split at h
        · cases h
        · rename_i r hr
          have := loop_kind f _ _ _ _ g (fun it hi => by
            rcases List.mem_append.1 hi with h1 | h1
            · exact hR it h1
            · simp at h1; subst h1; exact item_kind hr) h
          refine ⟨this.1, ?_⟩
          have h2 := this.2
          simp at h2
          omega
    · exact fin _ h
theorem read_kind {l : List UInt8} {g : Pg} (h : readF l = .ok g) : (∀ it ∈ g.its, it.kind ≤ 6) ∧ g.its.length ≤ l.length := by
  have := loop_kind _ _ _ _ _ g (fun _ h => (List.not_mem_nil h).elim) h
  refine ⟨this.1, ?_⟩
  have h2 := this.2
  simp at h2
  omega
theorem once_any (E : Env) (hs : E.s.size ≤ 1000000) (hk : ∀ it ∈ E.g.its, it.kind ≤ 6) : ∀ j it, E.g.its[j]? = some it → OnceAt E j it := by
  intro j it hj m left i gi cap w hi h0 h1 hiv hc h
  have h6 := hk it (List.mem_of_getElem? hj)
  obtain e | e | e | e | e | e | e : it.kind = 0 ∨ it.kind = 1 ∨ it.kind = 2 ∨ it.kind = 3 ∨ it.kind = 4 ∨ it.kind = 5 ∨ it.kind = 6 := by omega
  · exact once_0 E m left j i it gi cap w hs hi ⟨h0, h1⟩ hj hiv h e
  · exact once_1 E m left j i it gi cap w hs hi ⟨h0, h1⟩ hj hiv h e (hc.set (Or.inl e))
  · exact once_2 E m left j i it gi cap w hs hi ⟨h0, h1⟩ hj hiv h e (hc.set (Or.inr (Or.inl e)))
  · exact once_3 E m left j i it gi cap w hs hi ⟨h0, h1⟩ hj hiv h e (hc.set (Or.inr (Or.inr e)))
  · by_cases hx : E.s.data.toList[i]? = some it.x
    · obtain ⟨⟨o, N⟩, hb⟩ : ∃ r, balL it.x it.y (E.s.data.toList.drop (i + 1)) 1 (i + 1) = r := ⟨_, rfl⟩
      by_cases hN : (N : Int) ≤ left
      · cases o with
        | some k => exact once_4_some E m left j i it gi cap w hs hi ⟨h0, h1⟩ hj hiv h e hx N k hN hb
        | none => exact once_4_none E m left j i it gi cap w hs hi ⟨h0, h1⟩ hj hiv h e hx N hN hb
      · exact once_4_out E m left j i it gi cap w hs hi ⟨h0, h1⟩ hj hiv h e hx N o hN hb
    · exact once_4_no E m left j i it gi cap w hs hi ⟨h0, h1⟩ hj hiv h e hx
  · exact once_5 E m left j i it gi cap w hs hi ⟨h0, h1⟩ hj hiv h e
  · obtain ⟨a, b, h2, h3, h4⟩ := hc.get e
    exact once_6 E m left j i it gi cap w hs hi ⟨h0, h1⟩ hj hiv h e a b h2 h3 h4
theorem good_of {E : Env} {p : ByteArray} {g : Pg} (hs : E.s.size ≤ 1000000) (hp : p.size ≤ 1000000) (hr : readF p.data.toList = .ok g) (hg : E.g = g) : Good E := by
  subst hg
  have hk := read_kind hr
  have hl : p.data.toList.length = p.size := Array.length_toList
  obtain ⟨h1, h2, h3, _⟩ := readF_ok hr
  exact ⟨hs, by omega, ⟨h1, h2, h3⟩, once_any E hs hk.1⟩
end Go.Proofs.YtkbcaklleiapdaaDoor
