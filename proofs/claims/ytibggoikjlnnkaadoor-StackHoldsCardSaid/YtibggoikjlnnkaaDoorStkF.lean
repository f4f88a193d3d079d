/- Layer 17: Rotate, Insert, Remove. -/
import Derived.Test.YtibggoikjlnnkaaDoorStkE
namespace Go.Proofs.YtibggoikjlnnkaaDoor
open Go.RowKit Go.Joins M1
set_option linter.unusedVariables false
theorem vals_part {w : World} {B g cap : Nat} {l : List V5} (h : w.ownsRow B 25 5 (.slice (some ⟨g, 0, none⟩) l.length cap) l.length (l.flatMap vC)) (j n c : Nat) (hj : j ≤ l.length) (hn : n = l.length - j) (o : Nat) (ho : o = j * 5) : ValsA w (.slice (some ⟨g, o, none⟩) n c) (l.drop j) := by
  subst hn ho
  refine ⟨_, c, by rw [List.length_drop], fun h0 => ⟨g, j * 5, rfl, (own_lo h (mem_ob.2 rfl)).2, fun i m hi hm => ?_⟩⟩
  have hi2 : i < l.length - j := by simpa using hi
  rw [show j * 5 + i * 5 + m = (j + i) * 5 + m by omega, h.cellAt ((j + i) * 5 + m) (by omega), flat_at vC 5 vC_len _ (j + i) m (by omega) hm, List.getElem_drop]
theorem rot_copy1 {w : World} {B g cap : Nat} {l : List V5} (h : w.ownsRow B 25 5 (.slice (some ⟨g, 0, none⟩) l.length cap) l.length (l.flatMap vC)) (k r d : Nat) (hk : k + r + d = l.length) :
    ∃ W1, (∀ ty c c2, (Builtin.copy_ #[37, 37] ty #[.slice (some ⟨g, k * 5 + r * 5, none⟩) d c, .slice (some ⟨g, k * 5, none⟩) (r + d) c2]).run Tryd.prog w = .ok (goInt d) W1) ∧
      W1.ownsRow B 25 5 (.slice (some ⟨g, 0, none⟩) l.length cap) l.length ((l.take (k + r) ++ (l.drop k).take d).flatMap vC) ∧ Ch [g] w W1 := by
  obtain ⟨i0, hi0, jz0, jz1, jz2⟩ := info_parts info_val
  have hXl : ((l.drop k).take d).length = d := by simp; omega
  have hXf : (((l.drop k).take d).flatMap vC).length = d * 5 := by rw [flat5_len, hXl]
  have hmin : Nat.min (r + d) d = d := by simp only [Nat.min_def]; split <;> omega
  obtain ⟨cur, c1, c2, c3, hT⟩ := row_laid h (k + r) ((l.drop k).take d) (by rw [hXl]; omega)
  rw [hXl, show k + r + d = l.length from hk, List.drop_length, List.append_nil] at hT
  refine ⟨_, fun ty c c2' => ?_, hT, ch_row w _⟩
  have := run_copy5 (P := Tryd.prog) w 37 37 ty 25 g (k * 5 + r * 5) d c ⟨g, k * 5, none⟩ (r + d) c2' cur 25 (((l.drop k).take d).flatMap vC) Tryd.underlying37 (by rw [hi0]; simp [jz1]) c1 (by rw [hXf, hmin]) (row_src h k d (by omega)) (by rw [hXf]; omega) (vC_onel _)
  rw [hmin] at this
  rw [this, show (k + r) * 5 = k * 5 + r * 5 by omega]
theorem rot_copy2 {w : World} {B g cap : Nat} {l : List V5} (h : w.ownsRow B 25 5 (.slice (some ⟨g, 0, none⟩) l.length cap) l.length (l.flatMap vC)) (U : List V5) (p : Option Addr) (cu : Nat) (hU : ValsA w (.slice p U.length cu) U) (k : Nat) (hk : k + U.length ≤ l.length) (n c : Nat) (hn : U.length ≤ n) :
    ∃ W1, (∀ ty, (Builtin.copy_ #[37, 37] ty #[.slice (some ⟨g, k * 5, none⟩) n c, .slice p U.length cu]).run Tryd.prog w = .ok (goInt U.length) W1) ∧
      W1.ownsRow B 25 5 (.slice (some ⟨g, 0, none⟩) l.length cap) l.length ((l.take k ++ U ++ l.drop (k + U.length)).flatMap vC) ∧ Ch [g] w W1 := by
  obtain ⟨i0, hi0, jz0, jz1, jz2⟩ := info_parts info_val
  have hmin : Nat.min U.length n = U.length := by simp only [Nat.min_def]; split <;> omega
  by_cases h0 : U.length = 0
  · have hU0 := List.length_eq_zero_iff.1 h0
    refine ⟨w, fun ty => ?_, ?_, Ch.refl _ _⟩
    · have := run_copy_none5 (P := Tryd.prog) w 37 37 ty 25 (some ⟨g, k * 5, none⟩) p n c U.length cu Tryd.underlying37 (by rw [hi0]; simp [jz1]) (by rw [hmin]; exact h0)
      rw [h0] at this ⊢; exact this
    · subst hU0; simpa using h
  · obtain ⟨ga, oa, e, hga, _⟩ : ∃ g' o', p = some ⟨g', o', none⟩ ∧ g' < w.heap.size ∧ True := by
      obtain ⟨p', c', e, h2⟩ := hU.form
      injection e with e1 e2 e3
      subst e1
      obtain ⟨g', o', q1, q2, _⟩ := h2 (by omega)
      exact ⟨g', o', q1, q2, trivial⟩
    subst e
    obtain ⟨cur, c1, c2, c3, hT⟩ := row_laid h k U hk
    refine ⟨_, fun ty => ?_, hT, ch_row w _⟩
    have := run_copy5 (P := Tryd.prog) w 37 37 ty 25 g (k * 5) n c ⟨ga, oa, none⟩ U.length cu cur 25 (U.flatMap vC) Tryd.underlying37 (by rw [hi0]; simp [jz1]) c1 (by rw [flat5_len, hmin]) hU.src (by rw [flat5_len]; omega) (vC_onel _)
    rw [hmin] at this
    exact this
def rotateL (l : List V5) (i n : Int) : List V5 := match absI l.length i with
  | some k => rotL l k n
  | none => l
theorem rotate_nil (i n : Int) (w : World) : Calls Tryd.prog 28 #[.pointer none, .int .i64 i, .int .i64 n] w fun e w' => e = .returned (.int .i64 1) ∧ w = w' := by
  have Q := Lib.hid (from_nil i w)
  go_enter Tryd.func28, Tryd.ntmps28
  go_wp2_with (go_at_call 22; (with_reducible refine (Q.out).mono ?_); rintro e w1 ⟨rfl, rfl⟩)
  go_ret
  exact ⟨rfl, rfl⟩
theorem rotate_none (B t : Nat) (va : Value) (l : List V5) (lim : Nat) (w : World) (h : Sk 39 B t va l lim w) (i n : Int) (he : absI l.length i = none) :
    Calls Tryd.prog 28 #[.pointer (some ⟨t, 0, none⟩), .int .i64 i, .int .i64 n] w fun e w' => e = .returned (.int .i64 6) ∧ w = w' := by
  have Q := Lib.hid (from_none B t va l lim w h i he)
  clear h he
  go_enter Tryd.func28, Tryd.ntmps28
  go_wp2_with (go_at_call 22; (with_reducible refine (Q.out).mono ?_); rintro e w1 ⟨rfl, rfl⟩)
  go_ret
  exact ⟨rfl, rfl⟩
theorem vals_zero {w : World} (a : Addr) (n c : Nat) {l : List V5} {j : Nat} (hn : n = 0) (hj : l.length ≤ j) : ValsA w (.slice (some a) n c) (l.drop j) := by
  have e : l.drop j = [] := List.drop_of_length_le hj
  rw [e]; subst hn
  exact ⟨_, c, rfl, fun h0 => absurd h0 (by simp)⟩
set_option maxHeartbeats 2000000 in
theorem rot_p (B t : Nat) (g cap : Nat) (l : List V5) (lim : Nat) (w : World) (h : Sk 39 B t (.slice (some ⟨g, 0, none⟩) l.length cap) l lim w) (i n : Int) (k : Nat) (hk : k < l.length) (he : absI l.length i = some k) (m r d c : Nat) (hm : l.length - k = m) (hc : cap - k = c) (hr : rotN n m = r) (hd : r + d = m) (hs : ¬ n.tmod (m : Int) < 0) (hz : ¬ d = c) (hB : B ≤ w.heap.size) :
    Calls Tryd.prog 28 #[.pointer (some ⟨t, 0, none⟩), .int .i64 i, .int .i64 n] w fun e w' => e = .returned (.int .i64 0) ∧ SkSaid 39 B t (.slice (some ⟨g, 0, none⟩) l.length cap) (rotL l k n) lim w w' := by
  have H := Lib.hid h
  have Q := Lib.hid (from_some B t g cap l lim w h i k he)
  rw [hm, hc] at Q
  have hcap : l.length ≤ cap := row_cap h.row
  have hL : l.length ≤ 1000 := Nat.le_trans h.le h.top
  have hm0 : 0 < m := by omega
  have hfix := tmod_fix n (m : Int) (by omega)
  rw [← rotN_eq hm0, hr] at hfix
  have hrm : r < m := by rw [← hr]; exact rotN_lt hm0
  have e1 : ¬ (m : Int) = 0 := by omega
  have e2 : IntKind.i64.wrap (n.tmod (m : Int)) = n.tmod (m : Int) := IntWalk.i64_in _ (by
    have := Int.tmod_lt_of_pos n (show (0 : Int) < (m : Int) by omega)
    have h2 := Int.tmod_lt_of_pos (-n) (show (0 : Int) < (m : Int) by omega)
    rw [Int.neg_tmod] at h2; omega)
  rw [if_neg hs] at hfix
  have e4 : IntKind.i64.wrap ((r : Int)) = (r : Int) := by exact IntWalk.i64_in _ (by omega)
  have e5 : IntKind.i64.wrap ((m : Int) - (r : Int)) = (d : Int) := by rw [show (m : Int) - (r : Int) = (d : Int) by omega]; exact IntWalk.i64_in _ (by omega)
  have q1 : (d : Int) ≤ (m : Int) := by omega
  have q2 : (m : Int) ≤ (c : Int) := by omega
  have q3 : (r : Int) ≤ (m : Int) := by omega
  have q4 : (d : Int) ≤ (c : Int) := by omega
  have q5 : (r : Int) ≤ (c : Int) := by omega
  have hrc : ¬ r = c := by omega
  have hmd : m - d = r := by omega
  have hmr : m - r = d := by omega
  have HU : Hid (ValsA w (.slice (some ⟨g, k * 5 + d * 5, none⟩) r (c - d)) (l.drop (k + d))) := Lib.hid (vals_part h.row (k + d) _ _ (by omega) (by omega) _ (by omega))
  have QC := Lib.hid (clone_any _ _ w HU.out (by simp; omega))
  have HN : Hid (k + r + d = l.length ∧ (l.drop (k + d)).length = r ∧ r + d = m ∧ k + r ≤ l.length ∧ rotN n m = r ∧ l.length - k = m ∧ k < l.length) := Lib.hid ⟨by omega, by simp; omega, by omega, by omega, hr, hm, hk⟩
  clear h he hm hc hr hcap hL hk
  rw [hfix] at e2 hs; 
  go_enter Tryd.func28, Tryd.ntmps28
  go_upto_region 8 with (first | (go_at_call 22; (with_reducible refine (Q.out).mono ?_); rintro e w1 ⟨rfl, rfl⟩) | (go_at_call 29; (with_reducible refine (QC.out).mono ?_); rintro e w1 ⟨⟨v', rfl, HO⟩, HB⟩; have HO := Lib.hid HO; have HB := Lib.hid HB))
  obtain ⟨p, cu, rfl⟩ := ownB_form HO.out
  have hsz : g < w.heap.size := (H.out.lt g (by simp [skS, Go.Proofs.YtibggoikjlnnkaaDoor.ob, Value.ownBlock])).2
  obtain ⟨n1, n2, n3, n4, n5, n6, n7⟩ := HN.out
  obtain ⟨W1, E1, R1, C1⟩ := rot_copy1 (H.out.ch0 (Ch.of_below HB.out)).row k r d n1
  have hl1 : (l.take (k + r) ++ (l.drop k).take d).length = l.length := by simp; omega
  rw [← hl1] at R1
  have hV : ValsA W1 (.slice p (l.drop (k + d)).length cu) (l.drop (k + d)) := ValsA.of_row (C1.ownB HO.out (fun y hy => by have := (own_lo HO.out hy).1; simp; omega))
  obtain ⟨W2, E2, R2, C2⟩ := rot_copy2 R1 (l.drop (k + d)) p cu hV k (by rw [hl1]; omega) m c (by omega)
  have hlist : (l.take (k + r) ++ (l.drop k).take d).take k ++ l.drop (k + d) ++ (l.take (k + r) ++ (l.drop k).take d).drop (k + (l.drop (k + d)).length) = rotL l k n := by
    unfold rotL
    rw [n6, n5, show m - r = d by omega, n2, List.take_append_of_le_length (by simp; omega), List.take_take, Nat.min_eq_left (by omega), List.drop_append_of_le_length (by simp; omega), List.drop_take, List.drop_drop]
    simp
  rw [hlist, hl1] at R2
  have HS := Lib.hid (sk_patch H.out (((Ch.of_below HB.out).trans C1).trans C2) (rotL_len l k n) R2)
  have F1 := E1
  rw [n3] at F1
  have F2 := E2
  rw [n2] at F2
  rw [n2]
  clear E1 E2 R1 R2 C1 C2 hlist hV hl1 n1 n2 n3 n4 n5 n6 n7
  go_wp2
  go_ret
  exact ⟨rfl, HS.out⟩
set_option maxHeartbeats 2000000 in
theorem rot_n (B t : Nat) (g cap : Nat) (l : List V5) (lim : Nat) (w : World) (h : Sk 39 B t (.slice (some ⟨g, 0, none⟩) l.length cap) l lim w) (i n : Int) (k : Nat) (hk : k < l.length) (he : absI l.length i = some k) (m r d c : Nat) (hm : l.length - k = m) (hc : cap - k = c) (hr : rotN n m = r) (hd : r + d = m) (hs : n.tmod (m : Int) < 0) (hz : ¬ d = c) (hB : B ≤ w.heap.size) :
    Calls Tryd.prog 28 #[.pointer (some ⟨t, 0, none⟩), .int .i64 i, .int .i64 n] w fun e w' => e = .returned (.int .i64 0) ∧ SkSaid 39 B t (.slice (some ⟨g, 0, none⟩) l.length cap) (rotL l k n) lim w w' := by
  have H := Lib.hid h
  have Q := Lib.hid (from_some B t g cap l lim w h i k he)
  rw [hm, hc] at Q
  have hcap : l.length ≤ cap := row_cap h.row
  have hL : l.length ≤ 1000 := Nat.le_trans h.le h.top
  have hm0 : 0 < m := by omega
  have hfix := tmod_fix n (m : Int) (by omega)
  rw [← rotN_eq hm0, hr] at hfix
  have hrm : r < m := by rw [← hr]; exact rotN_lt hm0
  have e1 : ¬ (m : Int) = 0 := by omega
  have e2 : IntKind.i64.wrap (n.tmod (m : Int)) = n.tmod (m : Int) := IntWalk.i64_in _ (by
    have := Int.tmod_lt_of_pos n (show (0 : Int) < (m : Int) by omega)
    have h2 := Int.tmod_lt_of_pos (-n) (show (0 : Int) < (m : Int) by omega)
    rw [Int.neg_tmod] at h2; omega)
  rw [if_pos hs] at hfix
  have e4 : IntKind.i64.wrap (n.tmod (m : Int) + (m : Int)) = (r : Int) := by rw [hfix]; exact IntWalk.i64_in _ (by omega)
  have e4b : wrap64 (n.tmod (m : Int) + (m : Int)) = (r : Int) := by (rw [hfix]; unfold wrap64) <;> omega
  have e5 : IntKind.i64.wrap ((m : Int) - (r : Int)) = (d : Int) := by rw [show (m : Int) - (r : Int) = (d : Int) by omega]; exact IntWalk.i64_in _ (by omega)
  have q1 : (d : Int) ≤ (m : Int) := by omega
  have q2 : (m : Int) ≤ (c : Int) := by omega
  have q3 : (r : Int) ≤ (m : Int) := by omega
  have q4 : (d : Int) ≤ (c : Int) := by omega
  have q5 : (r : Int) ≤ (c : Int) := by omega
  have hrc : ¬ r = c := by omega
  have hmd : m - d = r := by omega
  have hmr : m - r = d := by omega
  have HU : Hid (ValsA w (.slice (some ⟨g, k * 5 + d * 5, none⟩) r (c - d)) (l.drop (k + d))) := Lib.hid (vals_part h.row (k + d) _ _ (by omega) (by omega) _ (by omega))
  have QC := Lib.hid (clone_any _ _ w HU.out (by simp; omega))
  have HN : Hid (k + r + d = l.length ∧ (l.drop (k + d)).length = r ∧ r + d = m ∧ k + r ≤ l.length ∧ rotN n m = r ∧ l.length - k = m ∧ k < l.length) := Lib.hid ⟨by omega, by simp; omega, by omega, by omega, hr, hm, hk⟩
  clear h he hm hc hr hcap hL hk
  clear hfix
  go_enter Tryd.func28, Tryd.ntmps28
  go_upto_region 8 with (first | (go_at_call 22; (with_reducible refine (Q.out).mono ?_); rintro e w1 ⟨rfl, rfl⟩) | (go_at_call 29; (with_reducible refine (QC.out).mono ?_); rintro e w1 ⟨⟨v', rfl, HO⟩, HB⟩; have HO := Lib.hid HO; have HB := Lib.hid HB))
  obtain ⟨p, cu, rfl⟩ := ownB_form HO.out
  have hsz : g < w.heap.size := (H.out.lt g (by simp [skS, Go.Proofs.YtibggoikjlnnkaaDoor.ob, Value.ownBlock])).2
  obtain ⟨n1, n2, n3, n4, n5, n6, n7⟩ := HN.out
  obtain ⟨W1, E1, R1, C1⟩ := rot_copy1 (H.out.ch0 (Ch.of_below HB.out)).row k r d n1
  have hl1 : (l.take (k + r) ++ (l.drop k).take d).length = l.length := by simp; omega
  rw [← hl1] at R1
  have hV : ValsA W1 (.slice p (l.drop (k + d)).length cu) (l.drop (k + d)) := ValsA.of_row (C1.ownB HO.out (fun y hy => by have := (own_lo HO.out hy).1; simp; omega))
  obtain ⟨W2, E2, R2, C2⟩ := rot_copy2 R1 (l.drop (k + d)) p cu hV k (by rw [hl1]; omega) m c (by omega)
  have hlist : (l.take (k + r) ++ (l.drop k).take d).take k ++ l.drop (k + d) ++ (l.take (k + r) ++ (l.drop k).take d).drop (k + (l.drop (k + d)).length) = rotL l k n := by
    unfold rotL
    rw [n6, n5, show m - r = d by omega, n2, List.take_append_of_le_length (by simp; omega), List.take_take, Nat.min_eq_left (by omega), List.drop_append_of_le_length (by simp; omega), List.drop_take, List.drop_drop]
    simp
  rw [hlist, hl1] at R2
  have HS := Lib.hid (sk_patch H.out (((Ch.of_below HB.out).trans C1).trans C2) (rotL_len l k n) R2)
  have F1 := E1
  rw [n3] at F1
  have F2 := E2
  rw [n2] at F2
  rw [n2]
  clear E1 E2 R1 R2 C1 C2 hlist hV hl1 n1 n2 n3 n4 n5 n6 n7
  go_wp2
  go_ret
  exact ⟨rfl, HS.out⟩
set_option maxHeartbeats 2000000 in
theorem rot_pz (B t : Nat) (g cap : Nat) (l : List V5) (lim : Nat) (w : World) (h : Sk 39 B t (.slice (some ⟨g, 0, none⟩) l.length cap) l lim w) (i n : Int) (k : Nat) (hk : k < l.length) (he : absI l.length i = some k) (m r d c : Nat) (hm : l.length - k = m) (hc : cap - k = c) (hr : rotN n m = r) (hd : r + d = m) (hs : ¬ n.tmod (m : Int) < 0) (hz : d = c) (hB : B ≤ w.heap.size) :
    Calls Tryd.prog 28 #[.pointer (some ⟨t, 0, none⟩), .int .i64 i, .int .i64 n] w fun e w' => e = .returned (.int .i64 0) ∧ SkSaid 39 B t (.slice (some ⟨g, 0, none⟩) l.length cap) (rotL l k n) lim w w' := by
  subst hz
  have H := Lib.hid h
  have Q := Lib.hid (from_some B t g cap l lim w h i k he)
  rw [hm, hc] at Q
  have hcap : l.length ≤ cap := row_cap h.row
  have hL : l.length ≤ 1000 := Nat.le_trans h.le h.top
  have hm0 : 0 < m := by omega
  have hfix := tmod_fix n (m : Int) (by omega)
  rw [← rotN_eq hm0, hr] at hfix
  have hrm : r < m := by rw [← hr]; exact rotN_lt hm0
  have e1 : ¬ (m : Int) = 0 := by omega
  have e2 : IntKind.i64.wrap (n.tmod (m : Int)) = n.tmod (m : Int) := IntWalk.i64_in _ (by
    have := Int.tmod_lt_of_pos n (show (0 : Int) < (m : Int) by omega)
    have h2 := Int.tmod_lt_of_pos (-n) (show (0 : Int) < (m : Int) by omega)
    rw [Int.neg_tmod] at h2; omega)
  rw [if_neg hs] at hfix
  have e4 : IntKind.i64.wrap ((r : Int)) = (r : Int) := by exact IntWalk.i64_in _ (by omega)
  have e5 : IntKind.i64.wrap ((m : Int) - (r : Int)) = (d : Int) := by rw [show (m : Int) - (r : Int) = (d : Int) by omega]; exact IntWalk.i64_in _ (by omega)
  have q1 : (d : Int) ≤ (m : Int) := by omega
  have q2 : (m : Int) ≤ (d : Int) := by omega
  have q3 : (r : Int) ≤ (m : Int) := by omega
  have q4 : (d : Int) ≤ (d : Int) := by omega
  have q5 : (r : Int) ≤ (d : Int) := by omega
  have hrc : ¬ r = d := by omega
  have hmd : m - d = r := by omega
  have hmr : m - r = d := by omega
  have HU : Hid (ValsA w (.slice (some ⟨g, k * 5, none⟩) r 0) (l.drop (k + d))) := Lib.hid (vals_zero _ _ _ (by omega) (by omega))
  have QC := Lib.hid (clone_any _ _ w HU.out (by simp; omega))
  have HN : Hid (k + r + d = l.length ∧ (l.drop (k + d)).length = r ∧ r + d = m ∧ k + r ≤ l.length ∧ rotN n m = r ∧ l.length - k = m ∧ k < l.length) := Lib.hid ⟨by omega, by simp; omega, by omega, by omega, hr, hm, hk⟩
  clear h he hm hc hr hcap hL hk
  rw [hfix] at e2 hs; 
  go_enter Tryd.func28, Tryd.ntmps28
  go_upto_region 8 with (first | (go_at_call 22; (with_reducible refine (Q.out).mono ?_); rintro e w1 ⟨rfl, rfl⟩) | (go_at_call 29; (with_reducible refine (QC.out).mono ?_); rintro e w1 ⟨⟨v', rfl, HO⟩, HB⟩; have HO := Lib.hid HO; have HB := Lib.hid HB))
  obtain ⟨p, cu, rfl⟩ := ownB_form HO.out
  have hsz : g < w.heap.size := (H.out.lt g (by simp [skS, Go.Proofs.YtibggoikjlnnkaaDoor.ob, Value.ownBlock])).2
  obtain ⟨n1, n2, n3, n4, n5, n6, n7⟩ := HN.out
  obtain ⟨W1, E1, R1, C1⟩ := rot_copy1 (H.out.ch0 (Ch.of_below HB.out)).row k r d n1
  have hl1 : (l.take (k + r) ++ (l.drop k).take d).length = l.length := by simp; omega
  rw [← hl1] at R1
  have hV : ValsA W1 (.slice p (l.drop (k + d)).length cu) (l.drop (k + d)) := ValsA.of_row (C1.ownB HO.out (fun y hy => by have := (own_lo HO.out hy).1; simp; omega))
  obtain ⟨W2, E2, R2, C2⟩ := rot_copy2 R1 (l.drop (k + d)) p cu hV k (by rw [hl1]; omega) m d (by omega)
  have hlist : (l.take (k + r) ++ (l.drop k).take d).take k ++ l.drop (k + d) ++ (l.take (k + r) ++ (l.drop k).take d).drop (k + (l.drop (k + d)).length) = rotL l k n := by
    unfold rotL
    rw [n6, n5, show m - r = d by omega, n2, List.take_append_of_le_length (by simp; omega), List.take_take, Nat.min_eq_left (by omega), List.drop_append_of_le_length (by simp; omega), List.drop_take, List.drop_drop]
    simp
  rw [hlist, hl1] at R2
  have HS := Lib.hid (sk_patch H.out (((Ch.of_below HB.out).trans C1).trans C2) (rotL_len l k n) R2)
  have F1 := E1
  rw [n3] at F1
  have F2 := E2
  rw [n2] at F2
  rw [n2]
  clear E1 E2 R1 R2 C1 C2 hlist hV hl1 n1 n2 n3 n4 n5 n6 n7
  go_wp2
  go_ret
  exact ⟨rfl, HS.out⟩
set_option maxHeartbeats 2000000 in
theorem rot_nz (B t : Nat) (g cap : Nat) (l : List V5) (lim : Nat) (w : World) (h : Sk 39 B t (.slice (some ⟨g, 0, none⟩) l.length cap) l lim w) (i n : Int) (k : Nat) (hk : k < l.length) (he : absI l.length i = some k) (m r d c : Nat) (hm : l.length - k = m) (hc : cap - k = c) (hr : rotN n m = r) (hd : r + d = m) (hs : n.tmod (m : Int) < 0) (hz : d = c) (hB : B ≤ w.heap.size) :
    Calls Tryd.prog 28 #[.pointer (some ⟨t, 0, none⟩), .int .i64 i, .int .i64 n] w fun e w' => e = .returned (.int .i64 0) ∧ SkSaid 39 B t (.slice (some ⟨g, 0, none⟩) l.length cap) (rotL l k n) lim w w' := by
  subst hz
  have H := Lib.hid h
  have Q := Lib.hid (from_some B t g cap l lim w h i k he)
  rw [hm, hc] at Q
  have hcap : l.length ≤ cap := row_cap h.row
  have hL : l.length ≤ 1000 := Nat.le_trans h.le h.top
  have hm0 : 0 < m := by omega
  have hfix := tmod_fix n (m : Int) (by omega)
  rw [← rotN_eq hm0, hr] at hfix
  have hrm : r < m := by rw [← hr]; exact rotN_lt hm0
  have e1 : ¬ (m : Int) = 0 := by omega
  have e2 : IntKind.i64.wrap (n.tmod (m : Int)) = n.tmod (m : Int) := IntWalk.i64_in _ (by
    have := Int.tmod_lt_of_pos n (show (0 : Int) < (m : Int) by omega)
    have h2 := Int.tmod_lt_of_pos (-n) (show (0 : Int) < (m : Int) by omega)
    rw [Int.neg_tmod] at h2; omega)
  rw [if_pos hs] at hfix
  have e4 : IntKind.i64.wrap (n.tmod (m : Int) + (m : Int)) = (r : Int) := by rw [hfix]; exact IntWalk.i64_in _ (by omega)
  have e4b : wrap64 (n.tmod (m : Int) + (m : Int)) = (r : Int) := by (rw [hfix]; unfold wrap64) <;> omega
  have e5 : IntKind.i64.wrap ((m : Int) - (r : Int)) = (d : Int) := by rw [show (m : Int) - (r : Int) = (d : Int) by omega]; exact IntWalk.i64_in _ (by omega)
  have q1 : (d : Int) ≤ (m : Int) := by omega
  have q2 : (m : Int) ≤ (d : Int) := by omega
  have q3 : (r : Int) ≤ (m : Int) := by omega
  have q4 : (d : Int) ≤ (d : Int) := by omega
  have q5 : (r : Int) ≤ (d : Int) := by omega
  have hrc : ¬ r = d := by omega
  have hmd : m - d = r := by omega
  have hmr : m - r = d := by omega
  have HU : Hid (ValsA w (.slice (some ⟨g, k * 5, none⟩) r 0) (l.drop (k + d))) := Lib.hid (vals_zero _ _ _ (by omega) (by omega))
  have QC := Lib.hid (clone_any _ _ w HU.out (by simp; omega))
  have HN : Hid (k + r + d = l.length ∧ (l.drop (k + d)).length = r ∧ r + d = m ∧ k + r ≤ l.length ∧ rotN n m = r ∧ l.length - k = m ∧ k < l.length) := Lib.hid ⟨by omega, by simp; omega, by omega, by omega, hr, hm, hk⟩
  clear h he hm hc hr hcap hL hk
  clear hfix
  go_enter Tryd.func28, Tryd.ntmps28
  go_upto_region 8 with (first | (go_at_call 22; (with_reducible refine (Q.out).mono ?_); rintro e w1 ⟨rfl, rfl⟩) | (go_at_call 29; (with_reducible refine (QC.out).mono ?_); rintro e w1 ⟨⟨v', rfl, HO⟩, HB⟩; have HO := Lib.hid HO; have HB := Lib.hid HB))
  obtain ⟨p, cu, rfl⟩ := ownB_form HO.out
  have hsz : g < w.heap.size := (H.out.lt g (by simp [skS, Go.Proofs.YtibggoikjlnnkaaDoor.ob, Value.ownBlock])).2
  obtain ⟨n1, n2, n3, n4, n5, n6, n7⟩ := HN.out
  obtain ⟨W1, E1, R1, C1⟩ := rot_copy1 (H.out.ch0 (Ch.of_below HB.out)).row k r d n1
  have hl1 : (l.take (k + r) ++ (l.drop k).take d).length = l.length := by simp; omega
  rw [← hl1] at R1
  have hV : ValsA W1 (.slice p (l.drop (k + d)).length cu) (l.drop (k + d)) := ValsA.of_row (C1.ownB HO.out (fun y hy => by have := (own_lo HO.out hy).1; simp; omega))
  obtain ⟨W2, E2, R2, C2⟩ := rot_copy2 R1 (l.drop (k + d)) p cu hV k (by rw [hl1]; omega) m d (by omega)
  have hlist : (l.take (k + r) ++ (l.drop k).take d).take k ++ l.drop (k + d) ++ (l.take (k + r) ++ (l.drop k).take d).drop (k + (l.drop (k + d)).length) = rotL l k n := by
    unfold rotL
    rw [n6, n5, show m - r = d by omega, n2, List.take_append_of_le_length (by simp; omega), List.take_take, Nat.min_eq_left (by omega), List.drop_append_of_le_length (by simp; omega), List.drop_take, List.drop_drop]
    simp
  rw [hlist, hl1] at R2
  have HS := Lib.hid (sk_patch H.out (((Ch.of_below HB.out).trans C1).trans C2) (rotL_len l k n) R2)
  have F1 := E1
  rw [n3] at F1
  have F2 := E2
  rw [n2] at F2
  rw [n2]
  clear E1 E2 R1 R2 C1 C2 hlist hV hl1 n1 n2 n3 n4 n5 n6 n7
  go_wp2
  go_ret
  exact ⟨rfl, HS.out⟩
theorem rotate_some (B t : Nat) (va : Value) (l : List V5) (lim : Nat) (w : World) (h : Sk 39 B t va l lim w) (i n : Int) (k : Nat) (he : absI l.length i = some k) (hB : B ≤ w.heap.size) :
    Calls Tryd.prog 28 #[.pointer (some ⟨t, 0, none⟩), .int .i64 i, .int .i64 n] w fun e w' => e = .returned (.int .i64 0) ∧ SkSaid 39 B t va (rotL l k n) lim w w' := by
  have hk := absI_lt he
  obtain ⟨g, cap, rfl⟩ := h.formN (by omega)
  have hr := rotN_lt (n := n) (m := l.length - k) (by omega)
  by_cases hs : n.tmod ((l.length - k : Nat) : Int) < 0
  · by_cases hz : l.length - k - rotN n (l.length - k) = cap - k
    · exact rot_nz B t g cap l lim w h i n k hk he _ _ _ _ rfl rfl rfl (by omega) hs hz hB
    · exact rot_n B t g cap l lim w h i n k hk he _ _ _ _ rfl rfl rfl (by omega) hs hz hB
  · by_cases hz : l.length - k - rotN n (l.length - k) = cap - k
    · exact rot_pz B t g cap l lim w h i n k hk he _ _ _ _ rfl rfl rfl (by omega) hs hz hB
    · exact rot_p B t g cap l lim w h i n k hk he _ _ _ _ rfl rfl rfl (by omega) hs hz hB
theorem rotate_all (B t : Nat) (va : Value) (l : List V5) (lim : Nat) (w : World) (h : Sk 39 B t va l lim w) (i n : Int) (hB : B ≤ w.heap.size) :
    Calls Tryd.prog 28 #[.pointer (some ⟨t, 0, none⟩), .int .i64 i, .int .i64 n] w fun e w' => e = .returned (.int .i64 (atE l i)) ∧ SkSaid 39 B t va (rotateL l i n) lim w w' := by
  unfold atE rotateL
  cases he : absI l.length i with
  | none => refine (rotate_none B t va l lim w h i n he).mono ?_; rintro e w' ⟨rfl, rfl⟩; exact ⟨rfl, sk_0 h (Ch.refl _ _)⟩
  | some k => exact rotate_some B t va l lim w h i n k he hB
theorem insert_nil (i : Int) (w : World) : Calls Tryd.prog 13 #[.pointer none, .int .i64 i] w fun e w' => e = .returned (.int .i64 1) ∧ w = w' := by
  have Q := Lib.hid (rotate_nil i 1 w)
  go_enter Tryd.func13, Tryd.ntmps13
  go_wp2_with (go_at_call 28; (with_reducible refine (Q.out).mono ?_); rintro e w1 ⟨rfl, rfl⟩)
  go_ret
  exact ⟨rfl, rfl⟩
theorem insert_all (B t : Nat) (va : Value) (l : List V5) (lim : Nat) (w : World) (h : Sk 39 B t va l lim w) (i : Int) (hB : B ≤ w.heap.size) :
    Calls Tryd.prog 13 #[.pointer (some ⟨t, 0, none⟩), .int .i64 i] w fun e w' => e = .returned (.int .i64 (atE l i)) ∧ SkSaid 39 B t va (rotateL l i 1) lim w w' := by
  have Q := Lib.hid (rotate_all B t va l lim w h i 1 hB)
  clear h
  generalize atE l i = ae at *
  generalize rotateL l i 1 = al at *
  go_enter Tryd.func13, Tryd.ntmps13
  go_wp2_with (go_at_call 28; (with_reducible refine (Q.out).mono ?_); rintro e w1 ⟨rfl, HS⟩; have HS := Lib.hid HS)
  go_ret
  exact ⟨rfl, HS.out⟩
def remL (l : List V5) (i : Int) : List V5 := match absI l.length i with
  | some k => l.take k ++ l.drop (k + 1)
  | none => l
theorem sk_join {T : TypeId} {B t lim g cap : Nat} {n n2 : Nat} {l1 l2 : List V5} {w w1 w2 : World} (h : SkSaid T B t (.slice (some ⟨g, 0, none⟩) n cap) l1 lim w w1) (hc : ob (.slice (some ⟨g, 0, none⟩) n2 cap) = ob (.slice (some ⟨g, 0, none⟩) n cap) ∧ Ch [g] w w1) (k : SkSaid T B t (.slice (some ⟨g, 0, none⟩) n2 cap) l2 lim w1 w2) : SkSaid T B t (.slice (some ⟨g, 0, none⟩) n cap) l2 lim w w2 := by
  obtain ⟨⟨va2, k1, k2⟩, k3⟩ := k
  have e : skS t (.slice (some ⟨g, 0, none⟩) n2 cap) = skS t (.slice (some ⟨g, 0, none⟩) n cap) := rfl
  rw [e] at k2 k3
  refine ⟨⟨va2, k1, fun y hy => ?_⟩, (hc.2.mono (fun y hy => by simp at hy; subst hy; simp [skS, Go.Proofs.YtibggoikjlnnkaaDoor.ob, Value.ownBlock])).trans k3⟩
  rcases k2 y hy with q | q
  · exact .inl q
  · right; have := hc.2.size; omega
/-- The values above a place move down by one. -/
theorem down_copy {w : World} {B g cap : Nat} {l : List V5} (h : w.ownsRow B 25 5 (.slice (some ⟨g, 0, none⟩) l.length cap) l.length (l.flatMap vC)) (k d : Nat) (hk : k + d + 1 = l.length) :
    ∃ W1 r, (∀ ty c a c2, (0 < d → a = ⟨g, k * 5 + 5, none⟩) → (Builtin.copy_ #[37, 37] ty #[.slice (some ⟨g, k * 5, none⟩) (d + 1) c, .slice (some a) d c2]).run Tryd.prog w = .ok (goInt r) W1) ∧
      W1.ownsRow B 25 5 (.slice (some ⟨g, 0, none⟩) l.length cap) l.length ((l.take k ++ l.drop (k + 1) ++ l.drop (k + d)).flatMap vC) ∧ Ch [g] w W1 := by
  obtain ⟨i0, hi0, jz0, jz1, jz2⟩ := info_parts info_val
  have hmin : Nat.min d (d + 1) = d := by simp only [Nat.min_def]; split <;> omega
  by_cases h0 : d = 0
  · subst h0
    refine ⟨w, 0, fun ty c a c2 _ => run_copy_none5 (P := Tryd.prog) w 37 37 ty 25 _ _ _ _ _ _ Tryd.underlying37 (by rw [hi0]; simp [jz1]) (by decide), ?_, Ch.refl _ _⟩
    rw [show l.drop (k + 1) = [] from List.drop_of_length_le (by omega), List.append_nil, Nat.add_zero, List.take_append_drop]
    exact h
  · have hXl : (l.drop (k + 1)).length = d := by simp; omega
    have hXf : ((l.drop (k + 1)).flatMap vC).length = d * 5 := by rw [flat5_len, hXl]
    obtain ⟨cur, c1, c2, c3, hT⟩ := row_laid h k (l.drop (k + 1)) (by rw [hXl]; omega)
    rw [hXl] at hT
    refine ⟨_, d, fun ty c a c2' ha => ?_, hT, ch_row w _⟩
    have ha := ha (by omega)
    subst ha
    have hs := row_src h (k + 1) d (by omega)
    rw [show (k + 1) * 5 = k * 5 + 5 by omega, List.take_of_length_le (by rw [hXl]; omega)] at hs
    have := run_copy5 (P := Tryd.prog) w 37 37 ty 25 g (k * 5) (d + 1) c ⟨g, k * 5 + 5, none⟩ d c2' cur 25 ((l.drop (k + 1)).flatMap vC) Tryd.underlying37 (by rw [hi0]; simp [jz1]) c1 (by rw [hXf, hmin]) hs (by rw [hXf]; omega) (vC_onel _)
    rw [hmin] at this
    exact this
end Go.Proofs.YtibggoikjlnnkaaDoor
