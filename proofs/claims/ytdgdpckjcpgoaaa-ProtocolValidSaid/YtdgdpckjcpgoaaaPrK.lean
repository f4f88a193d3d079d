/- Layer 20: the reference's fields. -/
import Derived.Test.YtdgdpckjcpgoaaaPrG
import Derived.Test.YtdgdpckjcpgoaaaPrI
import Derived.Test.YtdgdpckjcpgoaaaPrJ
namespace Go.Proofs.Ytdgdpckjcpgoaaa
open Go.RowKit Go.Joins M1
set_option linter.unusedVariables false
def zA : Act := ⟨0, 0, v5z, [], ⟨#[]⟩, 0, 0, []⟩
theorem rfields_any (a : Act) (vl vk : Value) (w : World) (h1 : VA w vl a.l) (h2 : VA w vk a.kp) (hk : 1 ≤ a.k ∧ a.k ≤ 9) :
    Calls Try.prog 38 #[.agg #[.int .i64 a.k, .int .i64 a.op, .int .i64 a.f.k, .int .i64 a.f.p, .int .i64 a.f.q, .string a.f.s, .int .i64 a.f.r, vl, .string a.s, .int .i64 a.lv, .int .i64 a.nx, vk]] w fun e w' => e = .returned (.bool (decide (clrA a = zA))) ∧ Ch [] w w' := by
  obtain ⟨p1, c1, rfl, q1, r1⟩ := h1
  obtain ⟨p2, c2, rfl, q2, r2⟩ := h2
  obtain ⟨k, op, f, l, s, lv, nx, kp⟩ := a
  clear q1 q2 r1 r2
  have hkk : k = 1 ∨ k = 2 ∨ k = 3 ∨ k = 4 ∨ k = 5 ∨ k = 6 ∨ k = 7 ∨ k = 8 ∨ k = 9 := by have h1 : 1 ≤ k := hk.1; have h2 : k ≤ 9 := hk.2; omega
  clear hk
  rcases hkk with rfl | rfl | rfl | rfl | rfl | rfl | rfl | rfl | rfl
  · by_cases e0 : f = v5z
    rotate_left
    · rw [decide_eq_false (by intro e; simp [clrA, zA] at e; simp_all)]
      exact rf_1_0 op f l s lv nx kp p1 p2 c1 c2 w e0
    subst e0
    by_cases e1 : nx = 0
    rotate_left
    · rw [decide_eq_false (by intro e; simp [clrA, zA] at e; simp_all)]
      exact rf_1_1 op l s lv nx kp p1 p2 c1 c2 w e1
    subst e1
    by_cases e2 : kp = []
    rotate_left
    · rw [decide_eq_false (by intro e; simp [clrA, zA] at e; simp_all)]
      exact rf_1_2 op l s lv kp p1 p2 c1 c2 w e2
    subst e2
    by_cases e3 : s = ⟨#[]⟩
    rotate_left
    · rw [decide_eq_false (by intro e; simp [clrA, zA] at e; simp_all)]
      exact rf_1_3 op l s lv p1 p2 c1 c2 w e3
    subst e3
    by_cases e4 : op = 0
    rotate_left
    · rw [decide_eq_false (by intro e; simp [clrA, zA] at e; simp_all)]
      exact rf_1_4 op l lv p1 p2 c1 c2 w e4
    subst e4
    by_cases e5 : lv = 0
    rotate_left
    · rw [decide_eq_false (by intro e; simp [clrA, zA] at e; simp_all)]
      exact rf_1_5 l lv p1 p2 c1 c2 w e5
    subst e5
    rw [decide_eq_true (by simp [clrA, zA])]
    exact rf_1_6 l p1 p2 c1 c2 w
  · by_cases e0 : f = v5z
    rotate_left
    · rw [decide_eq_false (by intro e; simp [clrA, zA] at e; simp_all)]
      exact rf_2_0 op f l s lv nx kp p1 p2 c1 c2 w e0
    subst e0
    by_cases e1 : nx = 0
    rotate_left
    · rw [decide_eq_false (by intro e; simp [clrA, zA] at e; simp_all)]
      exact rf_2_1 op l s lv nx kp p1 p2 c1 c2 w e1
    subst e1
    by_cases e2 : kp = []
    rotate_left
    · rw [decide_eq_false (by intro e; simp [clrA, zA] at e; simp_all)]
      exact rf_2_2 op l s lv kp p1 p2 c1 c2 w e2
    subst e2
    by_cases e3 : s = ⟨#[]⟩
    rotate_left
    · rw [decide_eq_false (by intro e; simp [clrA, zA] at e; simp_all)]
      exact rf_2_3 op l s lv p1 p2 c1 c2 w e3
    subst e3
    by_cases e4 : op = 0
    rotate_left
    · rw [decide_eq_false (by intro e; simp [clrA, zA] at e; simp_all)]
      exact rf_2_4 op l lv p1 p2 c1 c2 w e4
    subst e4
    rw [decide_eq_true (by simp [clrA, zA])]
    exact rf_2_5 l lv p1 p2 c1 c2 w
  · by_cases e0 : s = ⟨#[]⟩
    rotate_left
    · rw [decide_eq_false (by intro e; simp [clrA, zA] at e; simp_all)]
      exact rf_3_0 op f l s lv nx kp p1 p2 c1 c2 w e0
    subst e0
    by_cases e1 : op = 0
    rotate_left
    · rw [decide_eq_false (by intro e; simp [clrA, zA] at e; simp_all)]
      exact rf_3_1 op f l lv nx kp p1 p2 c1 c2 w e1
    subst e1
    by_cases e2 : lv = 0
    rotate_left
    · rw [decide_eq_false (by intro e; simp [clrA, zA] at e; simp_all)]
      exact rf_3_2 f l lv nx kp p1 p2 c1 c2 w e2
    subst e2
    rw [decide_eq_true (by simp [clrA, zA])]
    exact rf_3_3 f l nx kp p1 p2 c1 c2 w
  · by_cases e0 : s = ⟨#[]⟩
    rotate_left
    · rw [decide_eq_false (by intro e; simp [clrA, zA] at e; simp_all)]
      exact rf_4_0 op f l s lv nx kp p1 p2 c1 c2 w e0
    subst e0
    by_cases e1 : op = 0
    rotate_left
    · rw [decide_eq_false (by intro e; simp [clrA, zA] at e; simp_all)]
      exact rf_4_1 op f l lv nx kp p1 p2 c1 c2 w e1
    subst e1
    by_cases e2 : lv = 0
    rotate_left
    · rw [decide_eq_false (by intro e; simp [clrA, zA] at e; simp_all)]
      exact rf_4_2 f l lv nx kp p1 p2 c1 c2 w e2
    subst e2
    rw [decide_eq_true (by simp [clrA, zA])]
    exact rf_4_3 f l nx kp p1 p2 c1 c2 w
  · by_cases e0 : f = v5z
    rotate_left
    · rw [decide_eq_false (by intro e; simp [clrA, zA] at e; simp_all)]
      exact rf_5_0 op f l s lv nx kp p1 p2 c1 c2 w e0
    subst e0
    by_cases e1 : s = ⟨#[]⟩
    rotate_left
    · rw [decide_eq_false (by intro e; simp [clrA, zA] at e; simp_all)]
      exact rf_5_1 op l s lv nx kp p1 p2 c1 c2 w e1
    subst e1
    by_cases e2 : op = 0
    rotate_left
    · rw [decide_eq_false (by intro e; simp [clrA, zA] at e; simp_all)]
      exact rf_5_2 op l lv nx kp p1 p2 c1 c2 w e2
    subst e2
    by_cases e3 : lv = 0
    rotate_left
    · rw [decide_eq_false (by intro e; simp [clrA, zA] at e; simp_all)]
      exact rf_5_3 l lv nx kp p1 p2 c1 c2 w e3
    subst e3
    rw [decide_eq_true (by simp [clrA, zA])]
    exact rf_5_4 l nx kp p1 p2 c1 c2 w
  · by_cases e0 : f = v5z
    rotate_left
    · rw [decide_eq_false (by intro e; simp [clrA, zA] at e; simp_all)]
      exact rf_6_0 op f l s lv nx kp p1 p2 c1 c2 w e0
    subst e0
    by_cases e1 : nx = 0
    rotate_left
    · rw [decide_eq_false (by intro e; simp [clrA, zA] at e; simp_all)]
      exact rf_6_1 op l s lv nx kp p1 p2 c1 c2 w e1
    subst e1
    by_cases e2 : kp = []
    rotate_left
    · rw [decide_eq_false (by intro e; simp [clrA, zA] at e; simp_all)]
      exact rf_6_2 op l s lv kp p1 p2 c1 c2 w e2
    subst e2
    by_cases e3 : s = ⟨#[]⟩
    rotate_left
    · rw [decide_eq_false (by intro e; simp [clrA, zA] at e; simp_all)]
      exact rf_6_3 op l s lv p1 p2 c1 c2 w e3
    subst e3
    by_cases e4 : lv = 0
    rotate_left
    · rw [decide_eq_false (by intro e; simp [clrA, zA] at e; simp_all)]
      exact rf_6_4 op l lv p1 p2 c1 c2 w e4
    subst e4
    rw [decide_eq_true (by simp [clrA, zA])]
    exact rf_6_5 op l p1 p2 c1 c2 w
  · by_cases e0 : f = v5z
    rotate_left
    · rw [decide_eq_false (by intro e; simp [clrA, zA] at e; simp_all)]
      exact rf_7_0 op f l s lv nx kp p1 p2 c1 c2 w e0
    subst e0
    by_cases e1 : s = ⟨#[]⟩
    rotate_left
    · rw [decide_eq_false (by intro e; simp [clrA, zA] at e; simp_all)]
      exact rf_7_1 op l s lv nx kp p1 p2 c1 c2 w e1
    subst e1
    by_cases e2 : l = []
    rotate_left
    · rw [decide_eq_false (by intro e; simp [clrA, zA] at e; simp_all)]
      exact rf_7_2 op l lv nx kp p1 p2 c1 c2 w e2
    subst e2
    by_cases e3 : op = 0
    rotate_left
    · rw [decide_eq_false (by intro e; simp [clrA, zA] at e; simp_all)]
      exact rf_7_3 op lv nx kp p1 p2 c1 c2 w e3
    subst e3
    by_cases e4 : lv = 0
    rotate_left
    · rw [decide_eq_false (by intro e; simp [clrA, zA] at e; simp_all)]
      exact rf_7_4 lv nx kp p1 p2 c1 c2 w e4
    subst e4
    rw [decide_eq_true (by simp [clrA, zA])]
    exact rf_7_5 nx kp p1 p2 c1 c2 w
  · by_cases e0 : f = v5z
    rotate_left
    · rw [decide_eq_false (by intro e; simp [clrA, zA] at e; simp_all)]
      exact rf_8_0 op f l s lv nx kp p1 p2 c1 c2 w e0
    subst e0
    by_cases e1 : nx = 0
    rotate_left
    · rw [decide_eq_false (by intro e; simp [clrA, zA] at e; simp_all)]
      exact rf_8_1 op l s lv nx kp p1 p2 c1 c2 w e1
    subst e1
    by_cases e2 : kp = []
    rotate_left
    · rw [decide_eq_false (by intro e; simp [clrA, zA] at e; simp_all)]
      exact rf_8_2 op l s lv kp p1 p2 c1 c2 w e2
    subst e2
    by_cases e3 : l = []
    rotate_left
    · rw [decide_eq_false (by intro e; simp [clrA, zA] at e; simp_all)]
      exact rf_8_3 op l s lv p1 p2 c1 c2 w e3
    subst e3
    by_cases e4 : op = 0
    rotate_left
    · rw [decide_eq_false (by intro e; simp [clrA, zA] at e; simp_all)]
      exact rf_8_4 op s lv p1 p2 c1 c2 w e4
    subst e4
    by_cases e5 : lv = 0
    rotate_left
    · rw [decide_eq_false (by intro e; simp [clrA, zA] at e; simp_all)]
      exact rf_8_5 s lv p1 p2 c1 c2 w e5
    subst e5
    rw [decide_eq_true (by simp [clrA, zA])]
    exact rf_8_6 s p1 p2 c1 c2 w
  · by_cases e0 : f = v5z
    rotate_left
    · rw [decide_eq_false (by intro e; simp [clrA, zA] at e; simp_all)]
      exact rf_9_0 op f l s lv nx kp p1 p2 c1 c2 w e0
    subst e0
    by_cases e1 : l = []
    rotate_left
    · rw [decide_eq_false (by intro e; simp [clrA, zA] at e; simp_all)]
      exact rf_9_1 op l s lv nx kp p1 p2 c1 c2 w e1
    subst e1
    by_cases e2 : op = 0
    rotate_left
    · rw [decide_eq_false (by intro e; simp [clrA, zA] at e; simp_all)]
      exact rf_9_2 op s lv nx kp p1 p2 c1 c2 w e2
    subst e2
    by_cases e3 : lv = 0
    rotate_left
    · rw [decide_eq_false (by intro e; simp [clrA, zA] at e; simp_all)]
      exact rf_9_3 s lv nx kp p1 p2 c1 c2 w e3
    subst e3
    rw [decide_eq_true (by simp [clrA, zA])]
    exact rf_9_4 s nx kp p1 p2 c1 c2 w
end Go.Proofs.Ytdgdpckjcpgoaaa
