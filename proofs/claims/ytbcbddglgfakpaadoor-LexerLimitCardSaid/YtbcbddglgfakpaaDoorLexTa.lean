/- What the laws of layer 3 begin with: the library's variables; the tokens of any text. -/
import Derived.Test.YtbcbddglgfakpaaDoorLexJb
import Derived.Test.YtbcbddglgfakpaaDoorLexK
import Derived.Test.YtbcbddglgfakpaaDoorCards
import Derived.Test.YtbcbddglgfakpaaDoorTie
import Derived.ProofKit
import Derived.OpenShut
import Derived.ChangeOld
import Derived.Lib.SmallJoins
import Derived.Deep.DeepHandedRow
import Derived.Stop.LaidErr
import Derived.LaidLaws
import Derived.Lay
import Derived.MakeChecks
namespace Go.Proofs.YtbcbddglgfakpaaDoor
open Go.ChangeShapes Go.WideShapes Go.ChangeAt Go.RowKit Go.Joins M1 M2 M3
set_option linter.unusedVariables false
theorem own : ownKnob Tryd.prog.godebug = none := by kernel_rfl
abbrev L5 : List (String × DataW Unit) := Rows.lexerJoinRow.laid
theorem laid_iface {n nm : String} {d : DataW Unit} {r : List (String × DataW Unit)} {W : World} {g : Nat} {ti : TypeId} {ms : Array (String × TypeId)}
    (h : laidMet Tryd.prog ((n, .iface nm d) :: r) W) (hg : Tryd.prog.globalNamed n = some g) (ht : (Tryd.prog.globals[g]?).map (·.type) = some ti) (hi : Tryd.prog.underlying ti = some (.interface ms)) :
    ∃ u v, W.cell? ⟨g, 0, none⟩ = some (.iface u v) := by
  obtain ⟨ps, ⟨g0, t0, cs0, f0, p0, q0, hg0, ht0, hv0, hd0, _, e0⟩, _, _⟩ := h
  obtain rfl := Option.some.inj (hg.symm.trans hg0)
  obtain rfl := Option.some.inj (ht.symm.trans ht0)
  obtain ⟨_, u, v, hc, _, _⟩ := iface_of_trod hi hd0
  refine ⟨u, v, (World.var?_cell hg0 hv0 0).trans ?_⟩
  obtain ⟨l0⟩ := cs0
  obtain rfl : l0 = [.iface u v] := hc
  rfl
theorem env {W : World} (hL : laidMetH Tryd.prog L5 W) : Vrs W := by
  rw [MakeChecks.laidMetH_plain _ _ _ (by kernel_rfl)] at hL
  obtain ⟨u2, v2, h2⟩ := laid_iface hL.tail.tail.tail (show Tryd.prog.globalNamed "strconv.ErrRange" = some 2 by kernel_rfl) (by kernel_rfl) Tryd.underlying47
  obtain ⟨u1, v1, h1⟩ := laid_iface hL.tail.tail.tail.tail (show Tryd.prog.globalNamed "strconv.ErrSyntax" = some 1 by kernel_rfl) (by kernel_rfl) Tryd.underlying47
  exact ⟨_, _, h1, .inr ⟨_, _, rfl⟩, h2, .inr ⟨_, _, rfl⟩⟩
theorem laid_met (os : Os) (args : Array Value) : laidMetH Tryd.prog L5 ((World.laidAll Tryd.prog os L5).forCall (fun _ _ => 0) ⟨#[], args, []⟩).memory := by
  rw [MakeChecks.laidMetH_plain _ _ _ (by kernel_rfl)]
  exact laidMet_laidAll _ (by kernel_rfl) (by kernel_rfl)
theorem wit_shaped (os : Os) (args : Array Value) : ((World.laidAll Tryd.prog os L5).forCall (fun _ _ => 0) ⟨#[], args, []⟩).Shaped Tryd.prog :=
  World.shaped_of_ZipB (by kernel_rfl) (by kernel_rfl)
theorem tkR_progress {l : List UInt8} {a : Nat} (ha : a < l.length) (h : (tkR l a).E = 0) : a < (tkR l a).nx ∧ (tkR l a).nx ≤ l.length := by
  have hgd : l.getD a 0 = l[a] := by rw [List.getD_eq_getElem?_getD, List.getElem?_eq_getElem ha]; rfl
  unfold tkR at h ⊢
  by_cases hq : l.getD a 0 = 34 ∨ l.getD a 0 = 39
  · rw [if_pos hq] at h ⊢
    have := litF_nx (l.getD a 0) (l.length + 1) (l.drop (a + 1)) [] (a + 1) h
    rw [List.length_drop] at this
    show a < (litR l a (l.getD a 0)).2.1 ∧ (litR l a (l.getD a 0)).2.1 ≤ l.length
    unfold litR
    omega
  · rw [if_neg hq] at h ⊢
    rw [hgd] at h ⊢
    exact tokP_progress ha h
/-- The tokens of a text. -/
def lexR (l : List UInt8) : List Tok × Nat × Int := scT (tkR l) l
theorem scan3_any (s : ByteArray) (w : World) (hs : s.size ≤ 65536) (hE : Vrs w) :
    Calls Tryd.prog 12 #[.string s] w fun e w' => ∃ v, e = .returned (.tuple #[v, .int .i64 ((lexR s.data.toList).2.1 : Int), .int .i64 (lexR s.data.toList).2.2]) ∧ OwnT (w.heap.size + 1) w' v (lexR s.data.toList).1 ∧ Below w.heap.size w w' :=
  lscan2_any s (tkR s.data.toList) w hs hE (fun b a ln W h h1 h2 => token2_any b s a ln W (by omega) h h1 h2) (fun a ha h => by
    have := tkR_progress (l := s.data.toList) (a := a) (by simpa using ha) h
    simpa using this)
end Go.Proofs.YtbcbddglgfakpaaDoor
