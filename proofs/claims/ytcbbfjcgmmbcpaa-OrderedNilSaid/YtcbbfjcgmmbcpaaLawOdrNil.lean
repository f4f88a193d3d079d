/- Every method of a nil map answers as the chapter says. No condition. -/
import Derived.Test.YtcbbfjcgmmbcpaaOdrV
import Derived.Test.YtcbbfjcgmmbcpaaOdrF
import Derived.Test.YtcbbfjcgmmbcpaaOdrG
namespace Go.Proofs.Ytcbbfjcgmmbcpaa.orderedNilLaw
open Go.ChangeShapes Go.WideShapes Go.ChangeAt Go.RowKit Go.Joins M1
set_option linter.unusedVariables false
set_option maxHeartbeats 8000000 in
set_option maxRecDepth 100000 in
theorem walk (k p q : Int) (s : ByteArray) (r : Int) (k' p' q' : Int) (s' : ByteArray) (r' : Int) (w : World) :
    Calls Try.prog 8 #[.agg #[.int .i64 k, .int .i64 p, .int .i64 q, .string s, .int .i64 r], .agg #[.int .i64 k', .int .i64 p', .int .i64 q', .string s', .int .i64 r']] w fun e w' => e = .returned (.bool true) ∧ Below w.heap.size w w' := by
  have Q1 := Lib.hid fun w => next_nil ⟨k, p, q, s, r⟩ w
  have Q2 := Lib.hid fun w => get_nil ⟨k, p, q, s, r⟩ w
  have Q3 := Lib.hid fun w => set_nil ⟨k, p, q, s, r⟩ ⟨k', p', q', s', r'⟩ w
  have E0 : ∀ W, (binOp .eql 31 (.agg #[.int .i64 0, .int .i64 0, .int .i64 0, .string ⟨#[]⟩, .int .i64 0]) (.agg #[.int .i64 0, .int .i64 0, .int .i64 0, .string ⟨#[]⟩, .int .i64 0])).run Try.prog W = .ok (.bool true) W := fun W => by rw [eq_val]; rfl
  go_enter Try.func8, Try.ntmps8
  go_upto_region 3 with (go_at_call 17; (with_reducible refine (Q1.out _).mono ?_); rintro e w1 ⟨rfl, hb1⟩; obtain ⟨hc1, hf1⟩ := bcell hb1; have hz := hb1.size; (try simp at hz); have z1_0 : w.heap.size < w1.heap.size := (by omega); have z1_1 : w.heap.size + 1 < w1.heap.size := (by omega))
  have hc0 : Ch [] w1 ((w1.alloc (.cells #[.int .i64 0, .int .i64 0, .int .i64 0, .string ⟨#[]⟩, .int .i64 0] 31)).alloc (.cells #[.int .i64 0, .int .i64 0, .int .i64 0, .string ⟨#[]⟩, .int .i64 0] 31)) := ((Ch.refl [] w1).alloc _).alloc _
  have hb3 : Below w.heap.size w ((w1.alloc (.cells #[.int .i64 0, .int .i64 0, .int .i64 0, .string ⟨#[]⟩, .int .i64 0] 31)).alloc (.cells #[.int .i64 0, .int .i64 0, .int .i64 0, .string ⟨#[]⟩, .int .i64 0] 31)) := ((((Ch.refl [] w).alloc (.cells #[.int .i64 k, .int .i64 p, .int .i64 q, .string s, .int .i64 r] 31)).alloc (.cells #[.int .i64 k', .int .i64 p', .int .i64 q', .string s', .int .i64 r'] 31)).below).trans ((hb1.mono (by simp; omega)).trans (hc0.below.mono (by omega)))
  have K0 : Blk 31 w.heap.size #[.int .i64 k, .int .i64 p, .int .i64 q, .string s, .int .i64 r] ((w1.alloc (.cells #[.int .i64 0, .int .i64 0, .int .i64 0, .string ⟨#[]⟩, .int .i64 0] 31)).alloc (.cells #[.int .i64 0, .int .i64 0, .int .i64 0, .string ⟨#[]⟩, .int .i64 0] 31)) := (((Blk.new w _ _ _ rfl).ch ((Ch.refl [] _).alloc _) (by simp)).below hb1).ch hc0 (by simp)
  have K1 : Blk 31 (w.heap.size + 1) #[.int .i64 k', .int .i64 p', .int .i64 q', .string s', .int .i64 r'] ((w1.alloc (.cells #[.int .i64 0, .int .i64 0, .int .i64 0, .string ⟨#[]⟩, .int .i64 0] 31)).alloc (.cells #[.int .i64 0, .int .i64 0, .int .i64 0, .string ⟨#[]⟩, .int .i64 0] 31)) := ((Blk.new (w.alloc (.cells #[.int .i64 k, .int .i64 p, .int .i64 q, .string s, .int .i64 r] 31)) _ _ _ (by simp)).below hb1).ch hc0 (by simp)
  generalize ((w1.alloc (.cells #[.int .i64 0, .int .i64 0, .int .i64 0, .string ⟨#[]⟩, .int .i64 0] 31)).alloc (.cells #[.int .i64 0, .int .i64 0, .int .i64 0, .string ⟨#[]⟩, .int .i64 0] 31)) = W3 at *
  clear hc0 hc1 hf1 hb1 Q1
  have a0 : W3.cell? ⟨w.heap.size, 0, none⟩ = some (.int .i64 k) := K0.cell 0
  have a1 : W3.cell? ⟨w.heap.size, 1, none⟩ = some (.int .i64 p) := K0.cell 1
  have a2 : W3.cell? ⟨w.heap.size, 2, none⟩ = some (.int .i64 q) := K0.cell 2
  have a3 : W3.cell? ⟨w.heap.size, 3, none⟩ = some (.string s) := K0.cell 3
  have a4 : W3.cell? ⟨w.heap.size, 4, none⟩ = some (.int .i64 r) := K0.cell 4
  have b0 : W3.cell? ⟨w.heap.size + 1, 0, none⟩ = some (.int .i64 k') := K1.cell 0
  have b1 : W3.cell? ⟨w.heap.size + 1, 1, none⟩ = some (.int .i64 p') := K1.cell 1
  have b2 : W3.cell? ⟨w.heap.size + 1, 2, none⟩ = some (.int .i64 q') := K1.cell 2
  have b3 : W3.cell? ⟨w.heap.size + 1, 3, none⟩ = some (.string s') := K1.cell 3
  have b4 : W3.cell? ⟨w.heap.size + 1, 4, none⟩ = some (.int .i64 r') := K1.cell 4
  have z0 := K0.lt
  have z1 := K1.lt
  have HK0 := Lib.hid K0
  have HK1 := Lib.hid K1
  have HB3 := Lib.hid hb3
  clear K0 K1 hb3 z1_0 z1_1 hz
  go_wp2_with (first | (go_at_call 18; (with_reducible refine (Q2.out _).mono ?_); rintro e w4 ⟨rfl, hb4⟩; obtain ⟨hc4, hf4⟩ := bcell hb4; have y0 : w.heap.size < w4.heap.size := Nat.lt_of_lt_of_le z0 hb4.size; have y1 : w.heap.size + 1 < w4.heap.size := Nat.lt_of_lt_of_le z1 hb4.size) | (go_at_call 20; (with_reducible refine (Q3.out _).mono ?_); rintro e w5 ⟨rfl, hb5⟩) | (go_at_call 19; refine (len_nil _).mono ?_; rintro e w6 ⟨rfl, rfl⟩) | (go_at_call 21; refine (slots_nil _).mono ?_; rintro e w7 ⟨rfl, rfl⟩) | (go_at_call 16; refine (keys_nil _).mono ?_; rintro e w8 ⟨rfl, rfl⟩) | (go_at_call 14; refine (lives_any _).mono ?_; rintro e w9 ⟨rfl, hb9⟩))
  go_ret
  exact ⟨rfl, HB3.out.trans ((hb4.mono HB3.out.size).trans ((hb5.mono (Nat.le_trans HB3.out.size hb4.size)).trans (hb9.mono (Nat.le_trans HB3.out.size (Nat.le_trans hb4.size hb5.size)))))⟩

set_option maxRecDepth 100000 in
theorem lifted (os : Os) (started : os.Started) (H : Type) (enc : TypeId × Value → H) :
    ReturnsInHanded {} Try.checked os 8 .any (Rows.orderedNilSpec.pre6 enc Try.prog Try.f8 Rows.orderedNilRow.domain false) (Rows.orderedNilSpec.post enc Try.prog Try.f8 false true false false) := by
  refine returnsInHanded_of_change (C := Try.checked) own started (by kernel_rfl) Try.func8
    (ChangeSpec.witness6 (enc := enc) (C := Try.checked) false ⟨#[], #[.agg #[.int .i64 0, .int .i64 0, .int .i64 0, .string ⟨#[]⟩, .int .i64 0], .agg #[.int .i64 0, .int .i64 0, .int .i64 0, .string ⟨#[]⟩, .int .i64 0]], []⟩ 8 (by kernel_rfl) (by kernel_rfl) (by kernel_rfl) (by kernel_rfl)) ?_
  intro W base args ds gs before hval0 hW hcnd _
  have hval : ∀ (j : Nat) t v, Try.f8.params[j]? = some t → args[j]? = some v → Value.okWide Try.prog W .any base t v := hval0
  have hW' := hW
  obtain ⟨p, q, hA0, hV, rfl, hfz, hnd⟩ := hW
  have hA : DataW.TrodAll enc Try.prog W 0 (fun _ => true) true Try.f8.params.toList args.toList ds p := hA0
  rw [Try.params8] at hA hval
  obtain ⟨v0, vs0, d0, ds0, p_0, q_0, hargs, rfl, rfl, h0, r_0⟩ := trodAll_cons hA
  obtain ⟨v1, vs1, d1, ds1, p_1, q_1, rfl, rfl, rfl, h1, r_1⟩ := trodAll_cons r_0
  obtain ⟨rfl, rfl, rfl⟩ := trodAll_nil r_1
  obtain rfl : args = #[v0, v1] := by cases args; simp_all
  obtain ⟨rfl, rfl⟩ := trodVars_none hV
  obtain ⟨k0, p0, q0, s0, r0, rfl, rfl, rfl, wk0, wp0, wq0, ws0, wr0⟩ := open_val (hval 0 31 v0 rfl rfl) h0
  obtain ⟨k1, p1, q1, s1, r1, rfl, rfl, rfl, wk1, wp1, wq1, ws1, wr1⟩ := open_val (hval 1 31 v1 rfl rfl) h1
  clear hA0 hval0
  simp only [List.append_nil] at hW'
  refine (walk k0 p0 q0 s0 r0 k1 p1 q1 s1 r1 W).mono fun e W' ⟨he, bel⟩ => ?_
  subst he
  exact ⟨_, rfl, _, _, _, [], [], [], hW', trodAll_mk1 (shut_bool Try.underlying4 _), (trodAll_cons_mk (shut_val wk0 wp0 wq0 ws0 wr0) (trodAll_cons_mk (shut_val wk1 wp1 wq1 ws1 wr1) trodAll_mk0)), rfl, bel.frame _, fun h => by cases h⟩
theorem over : Rows.orderedNilRow.holds Try.pinned (OpenSpec.ofChange Rows.orderedNilSpec) :=
  OpenClaim.holds_of_wide 8 Try.f8 rfl rfl rfl rfl rfl rfl rfl ⟨rfl, rfl, rfl, rfl, rfl⟩ rfl rfl rfl rfl rfl (by kernel_rfl) Try.func8 (by kernel_rfl)
    (of_decide_eq_true (by kernel_rfl)) (by unfold Func.isWrapper; first | (rw [if_pos (by decide +kernel)]; kernel_rfl) | (rw [if_neg (by decide +kernel)]; exact ⟨rfl, rfl⟩))
    (fun os started H enc _ => lifted os started H enc)

/-- The given statement. -/
theorem proved : Rows.OrderedNilSaid := over
#print axioms proved
end Go.Proofs.Ytcbbfjcgmmbcpaa.orderedNilLaw
