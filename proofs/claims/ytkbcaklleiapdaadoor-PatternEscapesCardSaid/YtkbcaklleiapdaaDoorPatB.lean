/- Contracts of layer 4: classes of bytes. -/
import Derived.Test.YtkbcaklleiapdaaDoorPatA
import Derived.Laws.Rows
namespace Go.Proofs.YtkbcaklleiapdaaDoor
open Go.RowKit M4
set_option linter.unusedVariables false
theorem ne4 (c : UInt8) (n : Nat) (hn : n < 256) (h : c ≠ UInt8.ofNat n) : ((c.toNat : Int) == (n : Int)) = false := by
  rw [beq_eq_false_iff_ne]; intro e; exact h (UInt8.toNat_inj.1 (by simp; omega))
theorem heap_new (w : World) (o : Obj) : (w.alloc o).heap[w.heap.size]? = some o := heap_alloc_new w o
/-- The list that a call of within captures. -/
theorem rlst_new {w w1 : World} {g n : Nat} {rs : List (UInt8 × UInt8)} {t1 t2 : TypeId} (hg : g = w.heap.size) (hn : n = rs.length)
    (hw : w1 = (w.alloc (.cells (rs.map fun r => Value.string ⟨#[r.1, r.2]⟩).toArray t1)).alloc (.cells #[.slice (some ⟨g, 0, none⟩) n n] t2)) : RLst w.heap.size (w.heap.size + 2) w1 (w.heap.size + 1) rs := by
  subst hg hn hw
  have h0 : (w.alloc (.cells (rs.map fun r => Value.string ⟨#[r.1, r.2]⟩).toArray t1)).heap.size = w.heap.size + 1 := by simp
  have h1 := Below.heap_alloc (w.alloc (.cells (rs.map fun r => Value.string ⟨#[r.1, r.2]⟩).toArray t1)) (.cells #[.slice (some ⟨w.heap.size, 0, none⟩) rs.length rs.length] t2) w.heap.size (by omega)
  have h2 := heap_new w (.cells (rs.map fun r => Value.string ⟨#[r.1, r.2]⟩).toArray t1)
  have h3 := heap_new (w.alloc (.cells (rs.map fun r => Value.string ⟨#[r.1, r.2]⟩).toArray t1)) (.cells #[.slice (some ⟨w.heap.size, 0, none⟩) rs.length rs.length] t2)
  rw [h0] at h3
  refine ⟨w.heap.size, Nat.le_refl _, by omega, by omega, by omega, by simp, ?_, fun j hj => ?_⟩
  · unfold World.cell?
    rw [h3]; rfl
  · unfold World.cell?
    rw [h1, h2]
    simp [hj]
def ClsSaid (w : World) (x : UInt8) (v : Value) (w' : World) : Prop := match cls x with
  | some rs => TV w.heap.size w'.heap.size w' v (inR rs)
  | none => v = .nilFunc

set_option maxHeartbeats 8000000 in
theorem class_any (x : UInt8) (w : World) :
    Calls Tryd.prog 105 #[.int .u8 (x.toNat : Int)] w fun e w' => ∃ v, e = .returned v ∧ ClsSaid w x v w' ∧ Below w.heap.size w w' := by
  by_cases h97 : x = 97
  · have HX : Hid (cls x = some [(97, 122), (65, 90)]) := Lib.hid (by rw [h97]; rfl)
    have q97 : ((x.toNat : Int) == 97) = true := by rw [h97]; rfl
    clear h97
    go_enter Tryd.func105, Tryd.ntmps105
    go_wp2_with (go_at_call 35; (with_reducible refine (within_any _ _ _ _).mono ?_); rintro e w2 ⟨rfl, rfl⟩)
    go_ret
    refine ⟨_, rfl, ?_, ?_⟩
    · unfold ClsSaid
      rw [HX.out]
      exact (tv_within (rs := [(97, 122), (65, 90)]) (rlst_new rfl rfl rfl) (by decide)).wide (Nat.le_refl _) (by simp) (Nat.le_refl _)
    · exact ((Below.refl _ _).alloc (Nat.le_refl _) _).alloc (by simp) _
  have q97 : ((x.toNat : Int) == 97) = false := ne4 x 97 (by decide) h97
  by_cases h100 : x = 100
  · have HX : Hid (cls x = some [(48, 57)]) := Lib.hid (by rw [h100]; rfl)
    have q100 : ((x.toNat : Int) == 100) = true := by rw [h100]; rfl
    clear h97 h100
    go_enter Tryd.func105, Tryd.ntmps105
    go_wp2_with (go_at_call 35; (with_reducible refine (within_any _ _ _ _).mono ?_); rintro e w2 ⟨rfl, rfl⟩)
    go_ret
    refine ⟨_, rfl, ?_, ?_⟩
    · unfold ClsSaid
      rw [HX.out]
      exact (tv_within (rs := [(48, 57)]) (rlst_new rfl rfl rfl) (by decide)).wide (Nat.le_refl _) (by simp) (Nat.le_refl _)
    · exact ((Below.refl _ _).alloc (Nat.le_refl _) _).alloc (by simp) _
  have q100 : ((x.toNat : Int) == 100) = false := ne4 x 100 (by decide) h100
  by_cases h108 : x = 108
  · have HX : Hid (cls x = some [(97, 122)]) := Lib.hid (by rw [h108]; rfl)
    have q108 : ((x.toNat : Int) == 108) = true := by rw [h108]; rfl
    clear h97 h100 h108
    go_enter Tryd.func105, Tryd.ntmps105
    go_wp2_with (go_at_call 35; (with_reducible refine (within_any _ _ _ _).mono ?_); rintro e w2 ⟨rfl, rfl⟩)
    go_ret
    refine ⟨_, rfl, ?_, ?_⟩
    · unfold ClsSaid
      rw [HX.out]
      exact (tv_within (rs := [(97, 122)]) (rlst_new rfl rfl rfl) (by decide)).wide (Nat.le_refl _) (by simp) (Nat.le_refl _)
    · exact ((Below.refl _ _).alloc (Nat.le_refl _) _).alloc (by simp) _
  have q108 : ((x.toNat : Int) == 108) = false := ne4 x 108 (by decide) h108
  by_cases h117 : x = 117
  · have HX : Hid (cls x = some [(65, 90)]) := Lib.hid (by rw [h117]; rfl)
    have q117 : ((x.toNat : Int) == 117) = true := by rw [h117]; rfl
    clear h97 h100 h108 h117
    go_enter Tryd.func105, Tryd.ntmps105
    go_wp2_with (go_at_call 35; (with_reducible refine (within_any _ _ _ _).mono ?_); rintro e w2 ⟨rfl, rfl⟩)
    go_ret
    refine ⟨_, rfl, ?_, ?_⟩
    · unfold ClsSaid
      rw [HX.out]
      exact (tv_within (rs := [(65, 90)]) (rlst_new rfl rfl rfl) (by decide)).wide (Nat.le_refl _) (by simp) (Nat.le_refl _)
    · exact ((Below.refl _ _).alloc (Nat.le_refl _) _).alloc (by simp) _
  have q117 : ((x.toNat : Int) == 117) = false := ne4 x 117 (by decide) h117
  by_cases h119 : x = 119
  · have HX : Hid (cls x = some [(97, 122), (65, 90), (48, 57)]) := Lib.hid (by rw [h119]; rfl)
    have q119 : ((x.toNat : Int) == 119) = true := by rw [h119]; rfl
    clear h97 h100 h108 h117 h119
    go_enter Tryd.func105, Tryd.ntmps105
    go_wp2_with (go_at_call 35; (with_reducible refine (within_any _ _ _ _).mono ?_); rintro e w2 ⟨rfl, rfl⟩)
    go_ret
    refine ⟨_, rfl, ?_, ?_⟩
    · unfold ClsSaid
      rw [HX.out]
      exact (tv_within (rs := [(97, 122), (65, 90), (48, 57)]) (rlst_new rfl rfl rfl) (by decide)).wide (Nat.le_refl _) (by simp) (Nat.le_refl _)
    · exact ((Below.refl _ _).alloc (Nat.le_refl _) _).alloc (by simp) _
  have q119 : ((x.toNat : Int) == 119) = false := ne4 x 119 (by decide) h119
  by_cases h120 : x = 120
  · have HX : Hid (cls x = some [(48, 57), (97, 102), (65, 70)]) := Lib.hid (by rw [h120]; rfl)
    have q120 : ((x.toNat : Int) == 120) = true := by rw [h120]; rfl
    clear h97 h100 h108 h117 h119 h120
    go_enter Tryd.func105, Tryd.ntmps105
    go_wp2_with (go_at_call 35; (with_reducible refine (within_any _ _ _ _).mono ?_); rintro e w2 ⟨rfl, rfl⟩)
    go_ret
    refine ⟨_, rfl, ?_, ?_⟩
    · unfold ClsSaid
      rw [HX.out]
      exact (tv_within (rs := [(48, 57), (97, 102), (65, 70)]) (rlst_new rfl rfl rfl) (by decide)).wide (Nat.le_refl _) (by simp) (Nat.le_refl _)
    · exact ((Below.refl _ _).alloc (Nat.le_refl _) _).alloc (by simp) _
  have q120 : ((x.toNat : Int) == 120) = false := ne4 x 120 (by decide) h120
  by_cases h115 : x = 115
  · have HX : Hid (cls x = some [(9, 13), (32, 32)]) := Lib.hid (by rw [h115]; rfl)
    have q115 : ((x.toNat : Int) == 115) = true := by rw [h115]; rfl
    clear h97 h100 h108 h117 h119 h120 h115
    go_enter Tryd.func105, Tryd.ntmps105
    go_wp2_with (go_at_call 35; (with_reducible refine (within_any _ _ _ _).mono ?_); rintro e w2 ⟨rfl, rfl⟩)
    go_ret
    refine ⟨_, rfl, ?_, ?_⟩
    · unfold ClsSaid
      rw [HX.out]
      exact (tv_within (rs := [(9, 13), (32, 32)]) (rlst_new rfl rfl rfl) (by decide)).wide (Nat.le_refl _) (by simp) (Nat.le_refl _)
    · exact ((Below.refl _ _).alloc (Nat.le_refl _) _).alloc (by simp) _
  have q115 : ((x.toNat : Int) == 115) = false := ne4 x 115 (by decide) h115
  by_cases h112 : x = 112
  · have HX : Hid (cls x = some [(33, 47), (58, 64), (91, 96), (123, 126)]) := Lib.hid (by rw [h112]; rfl)
    have q112 : ((x.toNat : Int) == 112) = true := by rw [h112]; rfl
    clear h97 h100 h108 h117 h119 h120 h115 h112
    go_enter Tryd.func105, Tryd.ntmps105
    go_wp2_with (go_at_call 35; (with_reducible refine (within_any _ _ _ _).mono ?_); rintro e w2 ⟨rfl, rfl⟩)
    go_ret
    refine ⟨_, rfl, ?_, ?_⟩
    · unfold ClsSaid
      rw [HX.out]
      exact (tv_within (rs := [(33, 47), (58, 64), (91, 96), (123, 126)]) (rlst_new rfl rfl rfl) (by decide)).wide (Nat.le_refl _) (by simp) (Nat.le_refl _)
    · exact ((Below.refl _ _).alloc (Nat.le_refl _) _).alloc (by simp) _
  have q112 : ((x.toNat : Int) == 112) = false := ne4 x 112 (by decide) h112
  by_cases h99 : x = 99
  · have HX : Hid (cls x = some [(0, 31), (127, 127)]) := Lib.hid (by rw [h99]; rfl)
    have q99 : ((x.toNat : Int) == 99) = true := by rw [h99]; rfl
    clear h97 h100 h108 h117 h119 h120 h115 h112 h99
    go_enter Tryd.func105, Tryd.ntmps105
    go_wp2_with (go_at_call 35; (with_reducible refine (within_any _ _ _ _).mono ?_); rintro e w2 ⟨rfl, rfl⟩)
    go_ret
    refine ⟨_, rfl, ?_, ?_⟩
    · unfold ClsSaid
      rw [HX.out]
      exact (tv_within (rs := [(0, 31), (127, 127)]) (rlst_new rfl rfl rfl) (by decide)).wide (Nat.le_refl _) (by simp) (Nat.le_refl _)
    · exact ((Below.refl _ _).alloc (Nat.le_refl _) _).alloc (by simp) _
  have q99 : ((x.toNat : Int) == 99) = false := ne4 x 99 (by decide) h99
  have HX : Hid (cls x = none) := Lib.hid (by unfold cls; rw [if_neg h97]; rw [if_neg h100]; rw [if_neg h108]; rw [if_neg h117]; rw [if_neg h119]; rw [if_neg h120]; rw [if_neg h115]; rw [if_neg h112]; rw [if_neg h99])
  clear h97 h100 h108 h117 h119 h120 h115 h112 h99
  go_enter Tryd.func105, Tryd.ntmps105
  go_wp2
  go_ret
  exact ⟨_, rfl, by unfold ClsSaid; rw [HX.out]; rfl, Below.refl _ _⟩

def PairSaid (lo : Nat) (x : UInt8) (v : Value) (w' : World) : Prop := match pairP x with
  | some P => TV lo w'.heap.size w' v P
  | none => v = .nilFunc
theorem inR1 (a b c : UInt8) : inR [(a, b)] c = decide (a.toNat ≤ c.toNat ∧ c.toNat ≤ b.toNat) := by rw [inR_cons]; simp [inR]
end Go.Proofs.YtkbcaklleiapdaaDoor
