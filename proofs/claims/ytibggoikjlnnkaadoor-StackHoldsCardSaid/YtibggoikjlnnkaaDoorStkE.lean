/- Layer 17: Put, Copy. -/
import Derived.Test.YtibggoikjlnnkaaDoorStkD
import Derived.Test.YtibggoikjlnnkaaDoorStkM
namespace Go.Proofs.YtibggoikjlnnkaaDoor
open Go.RowKit Go.Joins M1
set_option linter.unusedVariables false
def atV (l : List V5) (i : Int) : V5 := match absI l.length i with
  | some k => l.getD k v5z
  | none => v5z
def atE (l : List V5) (i : Int) : Int := match absI l.length i with
  | some _ => 0
  | none => 6
def putE (l : List V5) (i : Int) (x : V5) : Int := match absI l.length i with
  | some _ => if okV x = true then 0 else 2
  | none => 6
def putL (l : List V5) (i : Int) (x : V5) : List V5 := match absI l.length i with
  | some k => if okV x = true then l.set k x else l
  | none => l
def absV (l : List V5) (i : Int) : Int := match absI l.length i with
  | some k => (k : Int) + 1
  | none => 0
theorem at_all (B t : Nat) (va : Value) (l : List V5) (lim : Nat) (w : World) (h : Sk 39 B t va l lim w) (i : Int) :
    Calls Tryd.prog 8 #[.pointer (some ⟨t, 0, none⟩), .int .i64 i] w fun e w' => e = .returned (.tuple #[.agg #[.int .i64 (atV l i).k, .int .i64 (atV l i).p, .int .i64 (atV l i).q, .string (atV l i).s, .int .i64 (atV l i).r], .int .i64 (atE l i)]) ∧ Below w.heap.size w w' := by
  unfold atV atE
  cases he : absI l.length i with
  | none => exact at_none B t va l lim w h i he
  | some k =>
    have hk := absI_lt he
    exact at_some B t va l lim w h i k hk he _ (by simp [List.getD, hk])
theorem abs_all (B t : Nat) (va : Value) (l : List V5) (lim : Nat) (w : World) (h : Sk 39 B t va l lim w) (i : Int) :
    Calls Tryd.prog 16 #[.pointer (some ⟨t, 0, none⟩), .int .i64 i] w fun e w' => e = .returned (.tuple #[.int .i64 (absV l i), .int .i64 (atE l i)]) ∧ w = w' := by
  unfold absV atE
  cases he : absI l.length i with
  | none => exact abs_none B t va l lim w h i he
  | some k => exact abs_some B t va l lim w h i k he
/-- A value is replaced. -/
theorem Sk.put {T : TypeId} {B t lim g cap : Nat} {l : List V5} {w : World} (h : Sk T B t (.slice (some ⟨g, 0, none⟩) l.length cap) l lim w) (j : Nat) (hj : j < l.length) (x : V5) :
    SkSaid T B t (.slice (some ⟨g, 0, none⟩) l.length cap) (l.set j x) lim w (stL w g (j * 5) (vC x)) := by
  have hc : Ch [g] w (stL w g (j * 5) (vC x)) := stL_ch (by simp) _ _ (Ch.refl _ _)
  refine sk_patch h hc (by simp) ?_
  have hr := h.row
  rw [← map_flat] at hr
  have := row_store (n := 5) (vC x) (C := l.map vC) (fun c hc => by obtain ⟨y, _, rfl⟩ := List.mem_map.1 hc; rfl) j 0 (by simpa using hj) (by rw [vC_len]; omega) hr
  rw [List.getElem_map, show patch (vC l[j]) 0 (vC x) = vC x from rfl, ← List.map_set, map_flat] at this
  simpa using this
def copyE (l : List V5) (i j : Int) : Int := if atE l i = 0 then putE l j (atV l i) else atE l i
def copyL (l : List V5) (i j : Int) : List V5 := if atE l i = 0 then putL l j (atV l i) else l
end Go.Proofs.YtibggoikjlnnkaaDoor
