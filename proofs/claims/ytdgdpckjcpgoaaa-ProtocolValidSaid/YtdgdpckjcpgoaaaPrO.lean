/- Layer 20: the law's awake. -/
import Derived.Test.YtdgdpckjcpgoaaaPrP
import Derived.Test.YtdgdpckjcpgoaaaPrN
import Derived.Deep.RegionHeld3
namespace Go.Proofs.Ytdgdpckjcpgoaaa
open Go.RowKit Go.Joins M1
set_option linter.unusedVariables false
def nV5 (n : Int) : V5 := ⟨2, n, 1, ⟨#[]⟩, 0⟩
def awB : Act := ⟨3, 0, nV5 1, [nV5 2], ⟨#[]⟩, 0, 1, [nV5 3]⟩
def awZ : Act := ⟨1, 0, v5z, [], ⟨#[]⟩, 0, 1, []⟩
theorem aw_ok : checkE awB = 0 := by kernel_rfl
theorem aw_no : checkE awZ = 4 := by kernel_rfl
theorem cut_no : cutS ⟨#[110, 111]⟩ = ⟨#[110, 111]⟩ := by unfold cutS; rw [if_pos (by decide)]
/-- What a region that reads keeps. -/
def AwS (W0 w' : World) : Prop := Ch [] W0 w'
theorem aw_keep {W0 W W' : World} (h : (∀ c o, c < W0.heap.size → W.cell? ⟨c, o, none⟩ = W0.cell? ⟨c, o, none⟩) ∧ AwS W0 W) (hb : Ch [] W W') : (∀ c o, c < W0.heap.size → W'.cell? ⟨c, o, none⟩ = W0.cell? ⟨c, o, none⟩) ∧ AwS W0 W' :=
  ⟨fun c o hc => (hb.below.cell (p := ⟨c, o, none⟩) (Nat.lt_of_lt_of_le hc h.2.size)).trans (h.1 c o hc), h.2.trans hb⟩
theorem aw_start (W0 : World) : (∀ c o, c < W0.heap.size → W0.drew.cell? ⟨c, o, none⟩ = W0.cell? ⟨c, o, none⟩) ∧ AwS W0 W0.drew := ⟨fun _ _ _ => rfl, (Ch.refl [] W0).drew⟩
set_option maxHeartbeats 8000000 in
theorem awake_any (w : World) : Calls Try.prog 10 #[] w fun e w' => e = .returned (.bool true) ∧ Ch [] w w' := by
  have QE : Hid (Calls Try.prog 16 #[.string ⟨#[110, 111]⟩] w fun e w' => ∃ pl cl, e = .returned (.agg #[.int .i64 2, .int .i64 0, .int .i64 0, .int .i64 0, .int .i64 0, .string ⟨#[]⟩, .int .i64 0, .slice pl 1 cl, .string ⟨#[]⟩, .int .i64 1, .int .i64 0, .slice none 0 0]) ∧ Rw w.heap.size (.slice pl 1 cl) [v5s ⟨#[110, 111]⟩] w' ∧ Ch [] w w') := Lib.hid (by
    refine (error_any ⟨#[110, 111]⟩ w).mono ?_
    rintro e w' ⟨vl, rfl, hr, hc⟩
    rw [cut_no] at hr
    obtain ⟨p, c, rfl⟩ := ownB_form hr
    exact ⟨p, c, rfl, hr, hc⟩)
  have QN1 : Hid (∀ W, Calls Try.prog 31 #[.int .i64 1] W fun e w' => e = .returned (.agg #[.int .i64 2, .int .i64 1, .int .i64 1, .string ⟨#[]⟩, .int .i64 0]) ∧ Ch [] W w') := Lib.hid fun W => num_any 1 W
  have QN2 : Hid (∀ W, Calls Try.prog 31 #[.int .i64 2] W fun e w' => e = .returned (.agg #[.int .i64 2, .int .i64 2, .int .i64 1, .string ⟨#[]⟩, .int .i64 0]) ∧ Ch [] W w') := Lib.hid fun W => num_any 2 W
  have QN3 : Hid (∀ W, Calls Try.prog 31 #[.int .i64 3] W fun e w' => e = .returned (.agg #[.int .i64 2, .int .i64 3, .int .i64 1, .string ⟨#[]⟩, .int .i64 0]) ∧ Ch [] W w') := Lib.hid fun W => num_any 3 W
  have QC : Hid (∀ W va vk, VA W va [nV5 2] → VA W vk [nV5 3] → Calls Try.prog 18 #[.agg #[.int .i64 2, .int .i64 1, .int .i64 1, .string ⟨#[]⟩, .int .i64 0], va, .int .i64 1, vk] W fun e w' => ∃ p2 c2 p3 c3, e = .returned (.agg #[.int .i64 3, .int .i64 0, .int .i64 2, .int .i64 1, .int .i64 1, .string ⟨#[]⟩, .int .i64 0, .slice p2 1 c2, .string ⟨#[]⟩, .int .i64 0, .int .i64 1, .slice p3 1 c3]) ∧ Rw W.heap.size (.slice p2 1 c2) [nV5 2] w' ∧ Rw W.heap.size (.slice p3 1 c3) [nV5 3] w' ∧ Ch [] W w') := Lib.hid fun W va vk h1 h2 => by
    refine (call_any (nV5 1) va vk [nV5 2] [nV5 3] 1 W h1 h2 (by simp) (by simp)).mono ?_
    rintro e w' ⟨vl, vp, rfl, hr, hr2, hc⟩
    obtain ⟨p, c, rfl⟩ := ownB_form hr
    obtain ⟨p', c', rfl⟩ := ownB_form hr2
    exact ⟨p, c, p', c', rfl, hr, hr2, hc⟩
  go_enter Try.func10, Try.ntmps10
  go_upto_region 3 with (first | (go_at_call 16; (with_reducible refine (QE.out).mono ?_); rintro e w1 ⟨pl, cl, rfl, hr, hc⟩; have HR := Lib.hid hr; have HC1 := Lib.hid hc; clear hr hc) | (go_at_call 31; (with_reducible refine (QN1.out _).mono ?_); rintro e w2 ⟨rfl, hc⟩; have HC2 := Lib.hid hc; clear hc) | (go_at_call 31; (with_reducible refine (QN2.out _).mono ?_); rintro e w3 ⟨rfl, hc⟩; have HC3 := Lib.hid hc; clear hc) | (go_at_call 31; (with_reducible refine (QN3.out _).mono ?_); rintro e w4 ⟨rfl, hc⟩; have HC4 : Hid (Ch [] (w3.alloc (.cells #[.int .i64 2, .int .i64 2, .int .i64 1, .string ⟨#[]⟩, .int .i64 0] 26)) w4) := Lib.hid hc; clear hc; have HV2 : Hid (VA (w4.alloc (.cells #[.int .i64 2, .int .i64 3, .int .i64 1, .string ⟨#[]⟩, .int .i64 0] 26)) (.slice (some ⟨w3.heap.size, 0, none⟩) 1 1) [nV5 2]) := Lib.hid (((VA.one (nV5 2) w3).below HC4.out).below ((Ch.refl [] w4).alloc _)); have HV3 : Hid (VA (w4.alloc (.cells #[.int .i64 2, .int .i64 3, .int .i64 1, .string ⟨#[]⟩, .int .i64 0] 26)) (.slice (some ⟨w4.heap.size, 0, none⟩) 1 1) [nV5 3]) := Lib.hid (VA.one (nV5 3) w4)) | (go_at_call 18; (with_reducible refine (QC.out _ _ _ HV2.out HV3.out).mono ?_); rintro e w5 ⟨p2, c2, p3, c3, rfl, hr2, hr3, hc⟩; have HR2 := Lib.hid hr2; have HR3 := Lib.hid hr3; have HC5 := Lib.hid hc; clear hr2 hr3 hc))
  clear QE QN2 QN3 QC HV2 HV3
  obtain ⟨A, hA⟩ : ∃ A, A = w1.heap.size := ⟨_, rfl⟩
  obtain ⟨B, hB⟩ : ∃ B, B = w5.heap.size := ⟨_, rfl⟩
  obtain ⟨W0, hW⟩ : ∃ W0, W0 = w5.alloc (.cells #[.int .i64 3, .int .i64 0, .int .i64 2, .int .i64 1, .int .i64 1, .string ⟨#[]⟩, .int .i64 0, .slice p2 1 c2, .string ⟨#[]⟩, .int .i64 0, .int .i64 1, .slice p3 1 c3] 31) := ⟨_, rfl⟩
  have K1 : Hid (Ch [] (w1.alloc (.cells #[.int .i64 2, .int .i64 0, .int .i64 0, .int .i64 0, .int .i64 0, .string ⟨#[]⟩, .int .i64 0, .slice pl 1 cl, .string ⟨#[]⟩, .int .i64 1, .int .i64 0, .slice none 0 0] 31)) W0) := Lib.hid (by rw [hW]; exact ((((HC2.out.trans HC3.out).trans ((Ch.refl [] w3).alloc _)).trans HC4.out).trans ((Ch.refl [] w4).alloc _)).trans (HC5.out.trans ((Ch.refl [] w5).alloc _)))
  have HA : Hid (Blk 31 A #[.int .i64 2, .int .i64 0, .int .i64 0, .int .i64 0, .int .i64 0, .string ⟨#[]⟩, .int .i64 0, .slice pl 1 cl, .string ⟨#[]⟩, .int .i64 1, .int .i64 0, .slice none 0 0] W0) := Lib.hid ((Blk.new w1 31 #[.int .i64 2, .int .i64 0, .int .i64 0, .int .i64 0, .int .i64 0, .string ⟨#[]⟩, .int .i64 0, .slice pl 1 cl, .string ⟨#[]⟩, .int .i64 1, .int .i64 0, .slice none 0 0] A hA).ch K1.out (not_nil _))
  have HB : Hid (Blk 31 B #[.int .i64 3, .int .i64 0, .int .i64 2, .int .i64 1, .int .i64 1, .string ⟨#[]⟩, .int .i64 0, .slice p2 1 c2, .string ⟨#[]⟩, .int .i64 0, .int .i64 1, .slice p3 1 c3] W0) := Lib.hid (by rw [hW]; exact Blk.new w5 _ _ B hB)
  have HC : Hid (Ch [] w W0) := Lib.hid ((HC1.out.trans ((Ch.refl [] w1).alloc _)).trans K1.out)
  have HRA : Hid (Rw w.heap.size (.slice pl 1 cl) [v5s ⟨#[110, 111]⟩] W0) := Lib.hid ((HR.out.ch0 ((Ch.refl [] w1).alloc _)).ch0 K1.out)
  have HVB : Hid (VA W0 (.slice p2 1 c2) [nV5 2] ∧ VA W0 (.slice p3 1 c3) [nV5 3]) := Lib.hid (by rw [hW]; exact ⟨(HR2.out.ch0 ((Ch.refl [] w5).alloc _)).va, (HR3.out.ch0 ((Ch.refl [] w5).alloc _)).va⟩)
  rw [← hA, ← hB, ← hW]
  clear hA hB hW HR HC1 HC2 HC3 HC4 HC5 HR2 HR3 K1
  have a0 : W0.cell? ⟨A, 0, none⟩ = some (.int .i64 2) := HA.out.cell 0
  have a1 : W0.cell? ⟨A, 1, none⟩ = some (.int .i64 0) := HA.out.cell 1
  have a2 : W0.cell? ⟨A, 2, none⟩ = some (.int .i64 0) := HA.out.cell 2
  have a3 : W0.cell? ⟨A, 3, none⟩ = some (.int .i64 0) := HA.out.cell 3
  have a4 : W0.cell? ⟨A, 4, none⟩ = some (.int .i64 0) := HA.out.cell 4
  have a5 : W0.cell? ⟨A, 5, none⟩ = some (.string ⟨#[]⟩) := HA.out.cell 5
  have a6 : W0.cell? ⟨A, 6, none⟩ = some (.int .i64 0) := HA.out.cell 6
  have a7 : W0.cell? ⟨A, 7, none⟩ = some (.slice pl 1 cl) := HA.out.cell 7
  have a8 : W0.cell? ⟨A, 8, none⟩ = some (.string ⟨#[]⟩) := HA.out.cell 8
  have a9 : W0.cell? ⟨A, 9, none⟩ = some (.int .i64 1) := HA.out.cell 9
  have a10 : W0.cell? ⟨A, 10, none⟩ = some (.int .i64 0) := HA.out.cell 10
  have a11 : W0.cell? ⟨A, 11, none⟩ = some (.slice none 0 0) := HA.out.cell 11
  have b0 : W0.cell? ⟨B, 0, none⟩ = some (.int .i64 3) := HB.out.cell 0
  have b1 : W0.cell? ⟨B, 1, none⟩ = some (.int .i64 0) := HB.out.cell 1
  have b2 : W0.cell? ⟨B, 2, none⟩ = some (.int .i64 2) := HB.out.cell 2
  have b3 : W0.cell? ⟨B, 3, none⟩ = some (.int .i64 1) := HB.out.cell 3
  have b4 : W0.cell? ⟨B, 4, none⟩ = some (.int .i64 1) := HB.out.cell 4
  have b5 : W0.cell? ⟨B, 5, none⟩ = some (.string ⟨#[]⟩) := HB.out.cell 5
  have b6 : W0.cell? ⟨B, 6, none⟩ = some (.int .i64 0) := HB.out.cell 6
  have b7 : W0.cell? ⟨B, 7, none⟩ = some (.slice p2 1 c2) := HB.out.cell 7
  have b8 : W0.cell? ⟨B, 8, none⟩ = some (.string ⟨#[]⟩) := HB.out.cell 8
  have b9 : W0.cell? ⟨B, 9, none⟩ = some (.int .i64 0) := HB.out.cell 9
  have b10 : W0.cell? ⟨B, 10, none⟩ = some (.int .i64 1) := HB.out.cell 10
  have b11 : W0.cell? ⟨B, 11, none⟩ = some (.slice p3 1 c3) := HB.out.cell 11
  have la := HA.out.lt
  have lb := HB.out.lt
  have hS0 := aw_start W0
  obtain ⟨gA, cA, hpl⟩ : ∃ g c, Value.slice pl 1 cl = .slice (some ⟨g, 0, none⟩) 1 c := by
    rcases HRA.out.form with ⟨_, h2⟩ | ⟨g, c, h⟩
    · cases h2
    · exact ⟨g, c, h⟩
  injection hpl with hp1 hp2 hp3
  subst hp1 hp3
  have hgA : gA < W0.heap.size := (own_lo HRA.out (mem_ob.2 rfl)).2
  have sA : W0.cell? ⟨gA, 3, none⟩ = some (.string ⟨#[110, 111]⟩) := (World.ownsRow.cellAt HRA.out 3 (by decide))
  have QN1' : Hid (∀ W, ((∀ c o, c < W0.heap.size → W.cell? ⟨c, o, none⟩ = W0.cell? ⟨c, o, none⟩) ∧ AwS W0 W) → Calls Try.prog 31 #[.int .i64 1] W fun e w' => e = .returned (.agg #[.int .i64 2, .int .i64 1, .int .i64 1, .string ⟨#[]⟩, .int .i64 0]) ∧ ((∀ c o, c < W0.heap.size → w'.cell? ⟨c, o, none⟩ = W0.cell? ⟨c, o, none⟩) ∧ AwS W0 w')) := Lib.hid fun W h => (QN1.out W).mono fun e w' hh => ⟨hh.1, aw_keep h hh.2⟩
  have QZ : Hid (∀ W, ((∀ c o, c < W0.heap.size → W.cell? ⟨c, o, none⟩ = W0.cell? ⟨c, o, none⟩) ∧ AwS W0 W) → Calls Try.prog 24 #[.agg #[.int .i64 1, .int .i64 0, .int .i64 0, .int .i64 0, .int .i64 0, .string ⟨#[]⟩, .int .i64 0, .slice none 0 0, .string ⟨#[]⟩, .int .i64 0, .int .i64 1, .slice none 0 0]] W fun e w' => e = .returned (.int .i64 4) ∧ ((∀ c o, c < W0.heap.size → w'.cell? ⟨c, o, none⟩ = W0.cell? ⟨c, o, none⟩) ∧ AwS W0 w')) := Lib.hid fun W h => by
    have := check_any _ awZ W ⟨_, _, rfl, VA.nil W, VA.nil W⟩ (Nat.zero_le _) (Nat.zero_le _)
    rw [aw_no] at this
    exact this.mono fun e w' hh => ⟨hh.1, aw_keep h hh.2⟩
  have QB : Hid (∀ W, ((∀ c o, c < W0.heap.size → W.cell? ⟨c, o, none⟩ = W0.cell? ⟨c, o, none⟩) ∧ AwS W0 W) → Calls Try.prog 24 #[.agg #[.int .i64 3, .int .i64 0, .int .i64 2, .int .i64 1, .int .i64 1, .string ⟨#[]⟩, .int .i64 0, .slice p2 1 c2, .string ⟨#[]⟩, .int .i64 0, .int .i64 1, .slice p3 1 c3]] W fun e w' => e = .returned (.int .i64 0) ∧ ((∀ c o, c < W0.heap.size → w'.cell? ⟨c, o, none⟩ = W0.cell? ⟨c, o, none⟩) ∧ AwS W0 w')) := Lib.hid fun W h => by
    have := check_any _ awB W ⟨.slice p2 1 c2, .slice p3 1 c3, rfl, HVB.out.1.below h.2, HVB.out.2.below h.2⟩ (by simp [awB]) (by simp [awB])
    rw [aw_ok] at this
    exact this.mono fun e w' hh => ⟨hh.1, aw_keep h hh.2⟩
  have EQ : ∀ W, (binOp .eql 26 (.agg #[.int .i64 2, .int .i64 1, .int .i64 1, .string ⟨#[]⟩, .int .i64 0]) (.agg #[.int .i64 2, .int .i64 1, .int .i64 1, .string ⟨#[]⟩, .int .i64 0])).run Try.prog W = .ok (.bool true) W := fun W => by have := eq_v5 (nV5 1) (nV5 1) W; rw [show decide (nV5 1 = nV5 1) = true from decide_eq_true rfl] at this; exact this
  clear QN1 HRA HVB hp2
  go_region_held3 (fun w' => (∀ c o, c < W0.heap.size → w'.cell? ⟨c, o, none⟩ = W0.cell? ⟨c, o, none⟩) ∧ AwS W0 w') (first | assumption | exact hS0) (first | (go_at_call 31; (with_reducible refine (QN1'.out _ (by assumption)).mono ?_); rintro e w1 ⟨rfl, hq1⟩) | (go_at_call 24; (with_reducible refine (QZ.out _ (by assumption)).mono ?_); rintro e w1 ⟨rfl, hq1⟩) | (go_at_call 24; (with_reducible refine (QB.out _ (by assumption)).mono ?_); rintro e w1 ⟨rfl, hq1⟩))
  all_goals (
    have hS := ‹_ ∧ AwS _ _›
    go_wp2
    go_ret
    exact ⟨rfl, HC.out.trans hS.2⟩)
end Go.Proofs.Ytdgdpckjcpgoaaa
