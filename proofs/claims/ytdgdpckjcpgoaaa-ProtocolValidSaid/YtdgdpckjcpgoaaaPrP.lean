/- Layer 20: the reference's Check in whole. -/
import Derived.Test.YtdgdpckjcpgoaaaPrM2
import Derived.Test.YtdgdpckjcpgoaaaPrM6
import Derived.Test.YtdgdpckjcpgoaaaPrMk
namespace Go.Proofs.Ytdgdpckjcpgoaaa
open Go.RowKit Go.Joins M1
set_option linter.unusedVariables false
theorem inK_iff {k : Int} : inK k = true ↔ (1 ≤ k ∧ k ≤ 9) := by unfold inK; simp
set_option maxHeartbeats 4000000 in
theorem rcheck_any (va : Value) (a : Act) (w : World) (h : AA w va a) (n1 : a.l.length ≤ 1000000) (n2 : a.kp.length ≤ 1000000) :
    Calls Try.prog 25 #[va] w fun e w' => e = .returned (.int .i64 (checkE a)) ∧ Ch [] w w' := by
  obtain ⟨vl, vk, rfl, h1, h2⟩ := h
  have H1 := h1
  have H2 := h2
  obtain ⟨p1, c1, rfl, _, _⟩ := h1
  obtain ⟨p2, c2, rfl, _, _⟩ := h2
  obtain ⟨k, op, f, l, s, lv, nx, kp⟩ := a
  have hE : formB ⟨k, op, f, l, s, lv, nx, kp⟩ = false → checkE ⟨k, op, f, l, s, lv, nx, kp⟩ = 4 := fun e => by unfold checkE; rw [if_pos e]
  by_cases hk1 : 1 ≤ k
  rotate_left
  · rw [hE (by have : inK k = false := by { unfold inK; rw [decide_eq_false_iff_not]; omega }; simp [formB, this])]
    exact ra_1 k op f l s lv nx kp p1 p2 c1 c2 w H1 H2 n1 n2 (by omega)
  by_cases hk2 : k ≤ 9
  rotate_left
  · rw [hE (by have : inK k = false := by { unfold inK; rw [decide_eq_false_iff_not]; omega }; simp [formB, this])]
    exact ra_2 k op f l s lv nx kp p1 p2 c1 c2 w H1 H2 n1 n2 (by omega)
  have hin : inK k = true := inK_iff.2 ⟨hk1, hk2⟩
  cases hfl : decide (clrA ⟨k, op, f, l, s, lv, nx, kp⟩ = zA) with
  | false =>
    rw [hE (by simp only [formB, hfl]; simp)]
    exact ra_3 k op f l s lv nx kp p1 p2 c1 c2 w H1 H2 n1 n2 hk1 hk2 hfl
  | true =>
    have key : formB ⟨k, op, f, l, s, lv, nx, kp⟩ = (!(decide (k = 2) && decide (¬ l.length = 1)) && (!(decide (k = 6) && decide (op < 1 ∨ 7 < op)) && (decide (0 ≤ lv ∧ lv ≤ 255) && decide (0 ≤ nx ∧ nx ≤ 255)))) := by
      simp only [formB, hfl, hin, Bool.true_and]
    by_cases e2 : k = 2
    · subst e2
      by_cases hl : l.length = 1
      rotate_left
      · rw [hE (by rw [key]; simp [hl])]
        exact ra_4 op f l s lv nx kp p1 p2 c1 c2 w H1 H2 n1 n2 hfl hl
      by_cases q1 : lv < 0
      · rw [hE (by rw [key, show decide (0 ≤ lv ∧ lv ≤ 255) = false by rw [decide_eq_false_iff_not]; omega]; simp)]
        exact ra_25 op f l s lv nx kp p1 p2 c1 c2 w H1 H2 n1 n2 hfl hl q1
      by_cases q2 : 255 < lv
      · rw [hE (by rw [key, show decide (0 ≤ lv ∧ lv ≤ 255) = false by rw [decide_eq_false_iff_not]; omega]; simp)]
        exact ra_26 op f l s lv nx kp p1 p2 c1 c2 w H1 H2 n1 n2 hfl hl q1 q2
      by_cases q3 : nx < 0
      · rw [hE (by rw [key, show decide (0 ≤ nx ∧ nx ≤ 255) = false by rw [decide_eq_false_iff_not]; omega]; simp)]
        exact ra_27 op f l s lv nx kp p1 p2 c1 c2 w H1 H2 n1 n2 hfl hl q1 q2 q3
      by_cases q4 : 255 < nx
      · rw [hE (by rw [key, show decide (0 ≤ nx ∧ nx ≤ 255) = false by rw [decide_eq_false_iff_not]; omega]; simp)]
        exact ra_28 op f l s lv nx kp p1 p2 c1 c2 w H1 H2 n1 n2 hfl hl q1 q2 q3 q4
      have hform : formB ⟨2, op, f, l, s, lv, nx, kp⟩ = true := by rw [key]; simp [hl]; omega
      rw [show checkE ⟨2, op, f, l, s, lv, nx, kp⟩ = (if 200 < l.length then 3 else if 32 < kp.length then 3 else if okV f = false then 2 else if l.all okV = false then 2 else if kp.all okV = false then 2 else if 65536 < s.size then 14 else 0) by unfold checkE; rw [if_neg (by rw [hform]; simp)]]
      by_cases m1 : 200 < l.length
      · omega
      rw [if_neg m1]
      by_cases m2 : 32 < kp.length
      · rw [if_pos m2]; exact rc2_c op f l s lv nx kp p1 p2 c1 c2 w H1 H2 n1 n2 hfl hl q1 q2 q3 q4 m1 m2
      rw [if_neg m2]
      cases hv1 : okV f with
      | false => rw [if_pos rfl]; exact rc2_d op f l s lv nx kp p1 p2 c1 c2 w H1 H2 n1 n2 hfl hl q1 q2 q3 q4 m1 m2 hv1
      | true =>
        rw [if_neg (by simp)]
        cases hv2 : l.all okV with
        | false => rw [if_pos rfl]; exact rc2_e op f l s lv nx kp p1 p2 c1 c2 w H1 H2 n1 n2 hfl hl q1 q2 q3 q4 m1 m2 hv1 hv2
        | true =>
          rw [if_neg (by simp)]
          cases hv3 : kp.all okV with
          | false => rw [if_pos rfl]; exact rc2_f op f l s lv nx kp p1 p2 c1 c2 w H1 H2 n1 n2 hfl hl q1 q2 q3 q4 m1 m2 hv1 hv2 hv3
          | true =>
            rw [if_neg (by simp)]
            by_cases hs : 65536 < s.size
            · rw [if_pos hs]; exact rc2_g op f l s lv nx kp p1 p2 c1 c2 w H1 H2 n1 n2 hfl hl q1 q2 q3 q4 m1 m2 hv1 hv2 hv3 hs
            · rw [if_neg hs]; exact rc2_h op f l s lv nx kp p1 p2 c1 c2 w H1 H2 n1 n2 hfl hl q1 q2 q3 q4 m1 m2 hv1 hv2 hv3 hs
    · by_cases q1 : lv < 0
      · rw [hE (by rw [key, show decide (0 ≤ lv ∧ lv ≤ 255) = false by rw [decide_eq_false_iff_not]; omega]; simp)]
        exact ra_k5 k op f l s lv nx kp p1 p2 c1 c2 w H1 H2 n1 n2 hfl hk1 hk2 e2 q1
      by_cases q2 : 255 < lv
      · rw [hE (by rw [key, show decide (0 ≤ lv ∧ lv ≤ 255) = false by rw [decide_eq_false_iff_not]; omega]; simp)]
        exact ra_k6 k op f l s lv nx kp p1 p2 c1 c2 w H1 H2 n1 n2 hfl hk1 hk2 e2 q1 q2
      by_cases q3 : nx < 0
      · rw [hE (by rw [key, show decide (0 ≤ nx ∧ nx ≤ 255) = false by rw [decide_eq_false_iff_not]; omega]; simp)]
        exact ra_k7 k op f l s lv nx kp p1 p2 c1 c2 w H1 H2 n1 n2 hfl hk1 hk2 e2 q1 q2 q3
      by_cases q4 : 255 < nx
      · rw [hE (by rw [key, show decide (0 ≤ nx ∧ nx ≤ 255) = false by rw [decide_eq_false_iff_not]; omega]; simp)]
        exact ra_k8 k op f l s lv nx kp p1 p2 c1 c2 w H1 H2 n1 n2 hfl hk1 hk2 e2 q1 q2 q3 q4
      by_cases e6 : k = 6
      · subst e6
        by_cases ho : op < 1
        · rw [hE (by rw [key]; simp [ho])]
          exact ra_9 op f l s lv nx kp p1 p2 c1 c2 w H1 H2 n1 n2 hfl q1 q2 q3 q4 ho
        by_cases ho2 : 7 < op
        · rw [hE (by rw [key]; simp [ho2])]
          exact ra_10 op f l s lv nx kp p1 p2 c1 c2 w H1 H2 n1 n2 hfl q1 q2 q3 q4 ho ho2
        have hform : formB ⟨6, op, f, l, s, lv, nx, kp⟩ = true := by rw [key]; simp; omega
        rw [show checkE ⟨6, op, f, l, s, lv, nx, kp⟩ = (if 200 < l.length then 3 else if 32 < kp.length then 3 else if okV f = false then 2 else if l.all okV = false then 2 else if kp.all okV = false then 2 else if 65536 < s.size then 14 else 0) by unfold checkE; rw [if_neg (by rw [hform]; simp)]]
        by_cases m1 : 200 < l.length
        · rw [if_pos m1]; exact rc6_b op f l s lv nx kp p1 p2 c1 c2 w H1 H2 n1 n2 hfl ho ho2 q1 q2 q3 q4 m1
        rw [if_neg m1]
        by_cases m2 : 32 < kp.length
        · rw [if_pos m2]; exact rc6_c op f l s lv nx kp p1 p2 c1 c2 w H1 H2 n1 n2 hfl ho ho2 q1 q2 q3 q4 m1 m2
        rw [if_neg m2]
        cases hv1 : okV f with
        | false => rw [if_pos rfl]; exact rc6_d op f l s lv nx kp p1 p2 c1 c2 w H1 H2 n1 n2 hfl ho ho2 q1 q2 q3 q4 m1 m2 hv1
        | true =>
          rw [if_neg (by simp)]
          cases hv2 : l.all okV with
          | false => rw [if_pos rfl]; exact rc6_e op f l s lv nx kp p1 p2 c1 c2 w H1 H2 n1 n2 hfl ho ho2 q1 q2 q3 q4 m1 m2 hv1 hv2
          | true =>
            rw [if_neg (by simp)]
            cases hv3 : kp.all okV with
            | false => rw [if_pos rfl]; exact rc6_f op f l s lv nx kp p1 p2 c1 c2 w H1 H2 n1 n2 hfl ho ho2 q1 q2 q3 q4 m1 m2 hv1 hv2 hv3
            | true =>
              rw [if_neg (by simp)]
              by_cases hs : 65536 < s.size
              · rw [if_pos hs]; exact rc6_g op f l s lv nx kp p1 p2 c1 c2 w H1 H2 n1 n2 hfl ho ho2 q1 q2 q3 q4 m1 m2 hv1 hv2 hv3 hs
              · rw [if_neg hs]; exact rc6_h op f l s lv nx kp p1 p2 c1 c2 w H1 H2 n1 n2 hfl ho ho2 q1 q2 q3 q4 m1 m2 hv1 hv2 hv3 hs
      · have hform : formB ⟨k, op, f, l, s, lv, nx, kp⟩ = true := by rw [key]; simp [e2, e6]; omega
        rw [show checkE ⟨k, op, f, l, s, lv, nx, kp⟩ = (if 200 < l.length then 3 else if 32 < kp.length then 3 else if okV f = false then 2 else if l.all okV = false then 2 else if kp.all okV = false then 2 else if 65536 < s.size then 14 else 0) by unfold checkE; rw [if_neg (by rw [hform]; simp)]]
        by_cases m1 : 200 < l.length
        · rw [if_pos m1]; exact rck_b k op f l s lv nx kp p1 p2 c1 c2 w H1 H2 n1 n2 hfl hk1 hk2 e2 e6 q1 q2 q3 q4 m1
        rw [if_neg m1]
        by_cases m2 : 32 < kp.length
        · rw [if_pos m2]; exact rck_c k op f l s lv nx kp p1 p2 c1 c2 w H1 H2 n1 n2 hfl hk1 hk2 e2 e6 q1 q2 q3 q4 m1 m2
        rw [if_neg m2]
        cases hv1 : okV f with
        | false => rw [if_pos rfl]; exact rck_d k op f l s lv nx kp p1 p2 c1 c2 w H1 H2 n1 n2 hfl hk1 hk2 e2 e6 q1 q2 q3 q4 m1 m2 hv1
        | true =>
          rw [if_neg (by simp)]
          cases hv2 : l.all okV with
          | false => rw [if_pos rfl]; exact rck_e k op f l s lv nx kp p1 p2 c1 c2 w H1 H2 n1 n2 hfl hk1 hk2 e2 e6 q1 q2 q3 q4 m1 m2 hv1 hv2
          | true =>
            rw [if_neg (by simp)]
            cases hv3 : kp.all okV with
            | false => rw [if_pos rfl]; exact rck_f k op f l s lv nx kp p1 p2 c1 c2 w H1 H2 n1 n2 hfl hk1 hk2 e2 e6 q1 q2 q3 q4 m1 m2 hv1 hv2 hv3
            | true =>
              rw [if_neg (by simp)]
              by_cases hs : 65536 < s.size
              · rw [if_pos hs]; exact rck_g k op f l s lv nx kp p1 p2 c1 c2 w H1 H2 n1 n2 hfl hk1 hk2 e2 e6 q1 q2 q3 q4 m1 m2 hv1 hv2 hv3 hs
              · rw [if_neg hs]; exact rck_h k op f l s lv nx kp p1 p2 c1 c2 w H1 H2 n1 n2 hfl hk1 hk2 e2 e6 q1 q2 q3 q4 m1 m2 hv1 hv2 hv3 hs
end Go.Proofs.Ytdgdpckjcpgoaaa
