/- The tokens that a call made, as tokens that another call is given. -/
import Derived.Test.YtbcbddglgfakpaaDoorLexVm
import Derived.Test.YtbcbddglgfakpaaDoorLexP
namespace Go.Proofs.YtbcbddglgfakpaaDoor
open Go.RowKit Go.Joins M1 M2 M3
set_option linter.unusedVariables false
def tiO (t : Tok) : TI := ⟨t.k, bs t.x, (t.ln : Int), (t.a : Int)⟩
theorem flat_get (ts : List Tok) : ∀ (i r : Nat) (hi : i < ts.length), r < 4 → (ts.flatMap cellsT)[i * 4 + r]? = (cellsT ts[i])[r]? := by
  induction ts with
  | nil => intro i r hi; simp at hi
  | cons t ts ih =>
    intro i r hi hr
    rw [List.flatMap_cons]
    match i, hi with
    | 0, _ => rw [List.getElem?_append_left (by rw [cellsT_len]; omega)]; simp
    | i + 1, hi => rw [List.getElem?_append_right (by rw [cellsT_len]; omega), cellsT_len, show (i + 1) * 4 + r - 4 = i * 4 + r by omega, ih i r (by simpa using hi) hr]; rfl
theorem own_arg {base : Nat} {w : World} {v : Value} {ts : List Tok} (h : OwnT base w v ts) :
    ∃ p cap g o, v = .slice p ts.length cap ∧ (0 < ts.length → p = some ⟨g, o, none⟩) ∧ (0 < ts.length → g < w.heap.size) ∧ ArgT w g o (ts.map tiO) := by
  rcases ownsRow_forms h with ⟨e, h0⟩ | ⟨g, cap, rfl⟩
  · exact ⟨none, 0, 0, 0, by rw [e, h0], fun hp => by omega, fun hp => by omega, fun j hj => by simp at hj; omega⟩
  · refine ⟨some ⟨g, 0, none⟩, cap, g, 0, rfl, fun _ => rfl, fun _ => (World.ownsRow.lt h g rfl).2, fun j hj => ?_⟩
    have hj' : j < ts.length := by simpa using hj
    have key : ∀ r, r < 4 → w.cell? ⟨g, 0 + j * 4 + r, none⟩ = (cellsT ts[j])[r]? := fun r hr => by
      rw [Nat.zero_add, World.ownsRow.cellAt h (j * 4 + r) (by omega), flat_get ts j r hj' hr]
    have e : (ts.map tiO)[j] = tiO ts[j] := by simp
    rw [e]
    exact ⟨key 0 (by omega), key 1 (by omega), key 2 (by omega), key 3 (by omega)⟩
theorem jn_join (ts : List Tok) : jnT ts = joinL (ts.map tiO) := by
  have one_eq : ∀ t : Tok, one (tiO t) = txt t.k t.x := fun t => by
    show (if t.k = 4 then qt (bs t.x).data.toList else (bs t.x).data.toList) = _
    rw [bs_list]; rfl
  match ts with
  | [] => rfl
  | t :: ts =>
    show _ = one (tiO t) ++ (ts.map tiO).flatMap fun t => 32 :: one t
    rw [one_eq]
    induction ts generalizing t with
    | nil => simp [jnT]
    | cons u ts ih =>
      show txt t.k t.x ++ 32 :: jnT (u :: ts) = _
      rw [ih u, List.map_cons, List.flatMap_cons, one_eq]
      simp
theorem lx_count (n : Nat) : ∀ (d : List UInt8) (a ln : Nat), d.length < n → (lx d a ln).1.length ≤ d.length ∧ ∀ t ∈ (lx d a ln).1, t.x.length ≤ d.length ∨ t.k = 4 := by
  induction n with
  | zero => intro d a ln h; omega
  | succ n ih =>
    intro d a ln hn
    rw [lx_eq]
    by_cases h0 : (sk d).1 = d.length
    · rw [if_pos h0]; exact ⟨Nat.zero_le _, fun t h => by cases h⟩
    rw [if_neg h0]
    by_cases h1 : (tkE d).E = 0
    · have hb := tkE_nx h0 h1
      have hs := (sk_le d).2
      have i := ih ((d.drop (sk d).1).drop (tkE d).nx) (a + (sk d).1 + (tkE d).nx) (ln + (sk d).2) (by simp only [List.length_drop]; omega)
      simp only [List.length_drop] at i
      rw [if_pos h1]
      unfold cmb
      split
      · refine ⟨by have := i.1; simp only [List.length_cons]; omega, fun t ht => ?_⟩
        rcases List.mem_cons.1 ht with rfl | ht
        · by_cases hk : (tkE d).K = 4
          · exact .inr hk
          · have e : (tkE d).x = (d.drop (sk d).1).take (tkE d).nx := tkD_text (d := d.drop (sk d).1) h1 hk
            left
            show (tkE d).x.length ≤ _
            rw [e, List.length_take, List.length_drop]; omega
        · rcases i.2 t ht with h | h
          · exact .inl (by omega)
          · exact .inr h
      · exact ⟨Nat.zero_le _, fun t h => by cases h⟩
    · rw [if_neg h1]; exact ⟨Nat.zero_le _, fun t h => by cases h⟩
theorem lexR_count (l : List UInt8) : (lexR l).1.length ≤ l.length := by
  rw [lexR_lx]; exact (lx_count _ _ _ _ (Nat.lt_succ_self _)).1
theorem lexR_VT (l : List UInt8) : ∀ t ∈ (lexR l).1, VT t.k t.x := by
  rw [lexR_lx]; exact lx_VT _ _ _ _ (Nat.lt_succ_self _)
theorem lexR_bad (l : List UInt8) (h : (lexR l).2.2 ≠ 0) : (lexR l).1 = [] := by
  rw [lexR_lx] at h ⊢; exact lx_bad _ _ _ h
theorem lexR_line0 (l : List UInt8) (h : (lexR l).2.2 = 0) : (lexR l).2.1 = 0 := by
  rw [lexR_lx] at h ⊢; exact lx_line0 _ _ _ _ (Nat.lt_succ_self _) h
theorem belowD {B : Nat} {a w : World} (h : Below B a w) (n : Nat) : Below B a (w.drewN n) := h.trans ⟨rfl, rfl, rfl, Nat.le_refl _, fun _ _ => rfl⟩
set_option maxHeartbeats 8000000 in
set_option maxRecDepth 100000 in
theorem same_any (p q : Option Addr) (g o cap g2 o2 cap2 : Nat) (ts : List TI) (w : World) (hp : 0 < ts.length → p = some ⟨g, o, none⟩) (hq : 0 < ts.length → q = some ⟨g2, o2, none⟩) (hA : ArgT w g o ts) (hA2 : ArgT w g2 o2 ts) (hg : 0 < ts.length → g < w.heap.size) (hg2 : 0 < ts.length → g2 < w.heap.size) (hn : ts.length ≤ 1000000) :
    Calls Tryd.prog 23 #[.slice p ts.length cap, .slice q ts.length cap2] w fun e w' => e = .returned (.bool true) ∧ Below w.heap.size w w' := by
  go_enter Tryd.func23, Tryd.ntmps23
  go_wp2
  go_loopw [5] (fun v5 wr => ∃ k : Nat, k ≤ ts.length ∧ v5 = .int .i64 (k : Int) ∧ Hid (Below w.heap.size w wr)) (fun v5 _ => ts.length - (intOf v5).toNat)
  case atStart => exact ⟨0, Nat.zero_le _, rfl, Lib.hid (Below.refl _ _)⟩
  case round =>
    obtain ⟨k, hk, rfl, HB⟩ := hrel
    rename World => W0
    by_cases hlt : k < ts.length
    · have hlt' : (k : Int) < (ts.length : Int) := by omega
      have hpp := hp (by omega)
      have hqq := hq (by omega)
      subst hpp hqq
      obtain ⟨a0, a1, a2, a3⟩ := hA.kept HB.out (hg (by omega)) k hlt
      obtain ⟨b0, b1, b2, b3⟩ := hA2.kept HB.out (hg2 (by omega)) k hlt
      have HBD := Lib.hid fun n => belowD HB.out n
      generalize ts[k] = t at *
      clear hA hA2 hg hg2
      go_wp2
      go_quiet (fail)
      go_wp2
      go_roundw
      case rel => exact ⟨k + 1, by omega, by go_num, Lib.hid (HBD.out _)⟩
      case measure => simp [intOf]; omega
    · have hlt' : ¬ (k : Int) < (ts.length : Int) := by omega
      go_wp2
      go_ret
      exact ⟨rfl, HB.out⟩
theorem lx_line (n : Nat) : ∀ (d : List UInt8) (a ln : Nat), d.length < n → (lx d a ln).2.1 ≤ ln + d.length := by
  induction n with
  | zero => intro d a ln h; omega
  | succ n ih =>
    intro d a ln hn
    have hs := sk_le d
    rw [lx_eq]
    by_cases h0 : (sk d).1 = d.length
    · rw [if_pos h0]; exact Nat.zero_le _
    rw [if_neg h0]
    by_cases h1 : (tkE d).E = 0
    · have hb := tkE_nx h0 h1
      have hi := ih ((d.drop (sk d).1).drop (tkE d).nx) (a + (sk d).1 + (tkE d).nx) (ln + (sk d).2) (by simp only [List.length_drop]; omega)
      simp only [List.length_drop] at hi
      rw [if_pos h1, cmb_snd]
      omega
    · rw [if_neg h1]; show ln + (sk d).2 ≤ _; omega
theorem lexR_line (l : List UInt8) : (lexR l).2.1 ≤ 1 + l.length := by
  rw [lexR_lx]; exact lx_line _ _ _ _ (Nat.lt_succ_self _)
theorem Placed.mem {l : List UInt8} (ts : List Tok) : ∀ (e : Nat), Placed l e ts → ∀ t ∈ ts, t.a < l.length ∧ t.ln ≤ 1 + l.length := by
  induction ts with
  | nil => intro e _ t ht; cases ht
  | cons t ts ih =>
    intro e h u hu
    rcases List.mem_cons.1 hu with rfl | hu
    · have := count_le (l.take u.a)
      rw [List.length_take] at this
      refine ⟨h.2.1, ?_⟩
      have := h.2.2.1
      omega
    · exact ih _ h.2.2.2.2 u hu
/-- A token further down. -/
def down (k m : Nat) (t : Tok) : Tok := ⟨t.k, t.x, t.ln + k, t.a + m⟩
theorem lexR_apart (a b : List UInt8) : lexR (a ++ 10 :: b) = if (lexR a).2.2 = 0 then (if (lexR b).2.2 = 0 then ((lexR a).1 ++ (lexR b).1.map (down (1 + Lib.countByte a 10) (a.length + 1)), 0, 0) else ([], (lexR b).2.1 + (1 + Lib.countByte a 10), (lexR b).2.2)) else ([], (lexR a).2) := by
  have h0 := lexR_line0 b
  rw [lexR_lx, lexR_lx, lexR_lx, lx_sep b _ a 0 1 (Nat.lt_succ_self _)]
  rw [lexR_lx] at h0
  have hs := lx_shift (a.length + 1) (1 + Lib.countByte a 10) _ b 0 1 (Nat.lt_succ_self _)
  rw [show 0 + a.length + 1 = 0 + (a.length + 1) by omega, show 1 + 1 + Lib.countByte a 10 = 1 + (1 + Lib.countByte a 10) by omega, hs]
  unfold app
  by_cases ha : (lx a 0 1).2.2 = 0
  · rw [if_pos ha, if_pos ha]
    by_cases hb : (lx b 0 1).2.2 = 0
    · simp only [if_pos hb, h0 hb, hb]; rfl
    · simp only [if_neg hb]
  · rw [if_neg ha, if_neg ha]
end Go.Proofs.YtbcbddglgfakpaaDoor
