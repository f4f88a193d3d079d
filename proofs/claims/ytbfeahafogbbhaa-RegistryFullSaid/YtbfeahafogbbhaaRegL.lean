/- Layer 18: Len with names. -/
import Derived.Test.YtbfeahafogbbhaaRegZ
namespace Go.Proofs.Ytbfeahafogbbhaa
open Go.RowKit Go.Joins M1
set_option linter.unusedVariables false
theorem glen_any (B t : Nat) (vk vf vm : Value) (K : List V5) (F : List Int) (N : MP) (w : World) (h : Rg B t vk vf vm K F w) (hg0 : Gd K F) (hn : Nm B vm N w) :
    Calls Try.prog 17 #[.pointer (some ⟨t, 0, none⟩)] w fun e w' => e = .returned (.int .i64 ((K.length : Int) - (F.length : Int) + (N.length : Int))) ∧ Ch [] w w' := by
  have c2 : w.cell? ⟨t, 2, none⟩ = some vm := h.blk.cell 2
  have hb := h.blk.lt
  have QI : Hid (∀ W, ((∀ c o, c < w.heap.size → W.cell? ⟨c, o, none⟩ = w.cell? ⟨c, o, none⟩) ∧ (Builtin.len_ #[64] 3 #[vm]).run Try.prog W = .ok (.int .i64 (N.length : Int)) W ∧ Ch [] w W) → Calls Try.prog 36 #[.pointer (some ⟨t, 0, none⟩)] W fun e w' => e = .returned (.int .i64 ((K.length : Int) - (F.length : Int))) ∧ ((∀ c o, c < w.heap.size → w'.cell? ⟨c, o, none⟩ = w.cell? ⟨c, o, none⟩) ∧ (Builtin.len_ #[64] 3 #[vm]).run Try.prog w' = .ok (.int .i64 (N.length : Int)) w' ∧ Ch [] w w')) := Lib.hid fun W hW => (inuse_any B t vk vf vm K F W (h.ch0 hW.2.2) hg0).mono fun e w' hh => ⟨hh.1, (keepC ⟨hW.1, hW.2.2⟩ hh.2).1, hn.len _ (hW.2.2.trans hh.2) _, hW.2.2.trans hh.2⟩
  have h1 := hg0.top
  have h2 := hg0.len
  have h3 := hn.top
  have e1 : IntKind.i64.wrap ((K.length : Int) - (F.length : Int) + (N.length : Int)) = (K.length : Int) - (F.length : Int) + (N.length : Int) := IntWalk.i64_in _ (by omega)
  have hS0 : (∀ c o, c < w.heap.size → w.drew.cell? ⟨c, o, none⟩ = w.cell? ⟨c, o, none⟩) ∧ (Builtin.len_ #[64] 3 #[vm]).run Try.prog w.drew = .ok (.int .i64 (N.length : Int)) w.drew ∧ Ch [] w w.drew := ⟨fun _ _ _ => rfl, hn.len _ ((Ch.refl [] w).drew) _, (Ch.refl [] w).drew⟩
  clear h hg0 hn
  go_enter Try.func17, Try.ntmps17
  go_upto_region 3 with fail
  go_region_held3 (fun w' => (∀ c o, c < w.heap.size → w'.cell? ⟨c, o, none⟩ = w.cell? ⟨c, o, none⟩) ∧ (Builtin.len_ #[64] 3 #[vm]).run Try.prog w' = .ok (.int .i64 (N.length : Int)) w' ∧ Ch [] w w') (first | assumption | exact hS0) (first | (go_at_call 36; (with_reducible refine (QI.out _ (by assumption)).mono ?_); rintro e w1 ⟨rfl, hq1⟩))
  all_goals (
    have hS := ‹_ ∧ _ ∧ Ch [] w _›
    go_wp2
    go_ret
    exact ⟨by first | rfl | simp [e1], hS.2.2⟩)
end Go.Proofs.Ytbfeahafogbbhaa
