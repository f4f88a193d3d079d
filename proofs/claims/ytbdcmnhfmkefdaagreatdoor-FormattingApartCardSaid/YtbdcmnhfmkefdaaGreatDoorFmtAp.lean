/- The laws of layer 9: two formats, one behind the other. -/
import Derived.Test.YtbdcmnhfmkefdaaGreatDoorFmtCnt
namespace Go.Proofs.YtbdcmnhfmkefdaaGreatDoor
open Go.RowKit Go.Joins M1 M2 M9
set_option linter.unusedVariables false
theorem numN_app : ∀ (k n : Nat) (l g : List UInt8), (numN k n l).2 ≠ [] → numN k n (l ++ g) = ((numN k n l).1, (numN k n l).2 ++ g)
  | 0, n, l, g, _ => by simp [numN]
  | k + 1, n, [], g, h => absurd rfl h
  | k + 1, n, c :: l, g, h => by
    rw [List.cons_append]
    by_cases hc : isDig c = true
    · have e1 : ∀ r, numN (k + 1) n (c :: r) = numN k (n * 10 + (c.toNat - 48)) r := fun r => by rw [numN, if_pos hc]
      rw [e1] at h
      rw [e1, e1]
      exact numN_app k _ l g h
    · have e1 : ∀ r, numN (k + 1) n (c :: r) = (n, c :: r) := fun r => by rw [numN, if_neg hc]
      rw [e1, e1]
      rfl
theorem numF_app {l : List UInt8} (g : List UInt8) (h : (numF l).2 ≠ []) : numF (l ++ g) = ((numF l).1, (numF l).2 ++ g) := numN_app 2 0 l g h
theorem vbF_app {mi ze pl : Bool} {w : Nat} {pc : Int} {l : List UInt8} {p : Pc} {t : List UInt8} (g : List UInt8) (h : vbF mi ze pl w pc l = some (p, t)) : vbF mi ze pl w pc (l ++ g) = some (p, t ++ g) := by
  cases l with
  | nil => cases h
  | cons c r =>
    rw [vbF] at h
    rw [List.cons_append, vbF]
    split at h
    · rename_i hv
      rw [if_pos hv]
      injection h with h; injection h with h1 h2; subst h1 h2; rfl
    · cases h
theorem vbF_ne {mi ze pl : Bool} {w : Nat} {pc : Int} {l : List UInt8} {p : Pc} {t : List UInt8} (h : vbF mi ze pl w pc l = some (p, t)) : l ≠ [] := by
  rintro rfl; cases h
theorem ptF_ne {mi ze pl : Bool} {w : Nat} {l : List UInt8} {p : Pc} {t : List UInt8} (h : ptF mi ze pl w l = some (p, t)) : l ≠ [] := by
  rintro rfl; cases h
theorem ptF_app {mi ze pl : Bool} {w : Nat} {l : List UInt8} {p : Pc} {t : List UInt8} (g : List UInt8) (h : ptF mi ze pl w l = some (p, t)) : ptF mi ze pl w (l ++ g) = some (p, t ++ g) := by
  have hl := ptF_ne h
  unfold ptF at h ⊢
  obtain ⟨c, r, rfl⟩ := List.exists_cons_of_ne_nil hl
  simp only [List.cons_append, List.head?_cons, List.drop_succ_cons, List.drop_zero] at h ⊢
  split at h
  · rename_i hd
    rw [if_pos hd]
    split at h
    · cases h
    · rename_i hn
      have hne := vbF_ne h
      rw [numF_app g hne]
      rw [if_neg (by rw [List.length_append, List.length_append]; omega)]
      exact vbF_app g h
  · rename_i hd
    rw [if_neg hd]
    exact vbF_app (l := c :: r) g h
theorem take_app {l : List UInt8} {f : UInt8 → Bool} (g : List UInt8) (h : l.dropWhile f ≠ []) : (l ++ g).takeWhile f = l.takeWhile f ∧ (l ++ g).dropWhile f = l.dropWhile f ++ g := by
  induction l with
  | nil => exact absurd rfl h
  | cons c l ih =>
    rw [List.cons_append, List.takeWhile_cons, List.takeWhile_cons, List.dropWhile_cons, List.dropWhile_cons]
    rw [List.dropWhile_cons] at h
    split
    · rename_i hc
      rw [if_pos hc] at h
      obtain ⟨h1, h2⟩ := ih h
      rw [h1, h2]
      exact ⟨rfl, rfl⟩
    · exact ⟨rfl, rfl⟩
theorem dirF_app {l : List UInt8} {p : Pc} {t : List UInt8} (g : List UInt8) (h : dirF l = some (p, t)) : dirF (l ++ g) = some (p, t ++ g) := by
  unfold dirF at h ⊢
  have h1 := ptF_ne h
  have h2 : l.dropWhile isFlag ≠ [] := by
    intro e
    rw [e] at h1
    exact h1 rfl
  obtain ⟨e1, e2⟩ := take_app g h2
  rw [e1, e2, numF_app g h1]
  exact ptF_app g h
theorem fmtF_with (b : List UInt8) (q : List Pc) (vs : List Vl) (u : Nat) (acc : List UInt8) : fmtF (withText b q) vs u acc = fmtF q vs u (acc ++ b) := by
  unfold withText
  split
  · rename_i h; subst h; rw [List.append_nil]
  · exact fmtF_text rfl
/-- A pending text in front changes nothing but the text. -/
def Moved (a : List UInt8) (x y : Option (List Pc)) : Prop := match x with
  | none => y = none
  | some qs => ∃ qs', y = some qs' ∧ ∀ vs u acc, fmtF qs' vs u acc = fmtF qs vs u (acc ++ a)
theorem moved_map {a b : List UInt8} {p : Pc} {x : Option (List Pc)} : Moved a (x.map fun q => withText b (p :: q)) (x.map fun q => withText (a ++ b) (p :: q)) := by
  cases x with
  | none => rfl
  | some q => exact ⟨_, rfl, fun vs u acc => by rw [fmtF_with, fmtF_with, List.append_assoc]⟩
theorem pcs_moved (a : List UInt8) : ∀ (n : Nat) (g b : List UInt8), Moved a (pcs n g b) (pcs n g (a ++ b))
  | 0, g, b => ⟨_, rfl, fun vs u acc => by rw [fmtF_with, fmtF_with, List.append_assoc]⟩
  | n + 1, [], b => ⟨_, rfl, fun vs u acc => by rw [fmtF_with, fmtF_with, List.append_assoc]⟩
  | n + 1, c :: r, b => by
    rw [pcs, pcs]
    split
    · rw [List.append_assoc]; exact pcs_moved a n r _
    · split
      · rw [List.append_assoc]; exact pcs_moved a n _ _
      · cases dirF r with
        | none => rfl
        | some x => exact moved_map
/-- A format with another behind it. -/
def Behind (g : List UInt8) (x y : Option (List Pc)) : Prop := match x with
  | none => True
  | some ps => ∃ qs e, y = (pieces g e).map (qs ++ ·) ∧ ps = qs ++ withText e [] 
theorem behind_cons {g : List UInt8} {b : List UInt8} {p : Pc} {x y : Option (List Pc)} (h : Behind g x y) : Behind g (x.map fun q => withText b (p :: q)) (y.map fun q => withText b (p :: q)) := by
  cases x with
  | none => trivial
  | some ps =>
    obtain ⟨qs, e, h1, h2⟩ := h
    refine ⟨withText b (p :: qs), e, ?_, ?_⟩
    · rw [h1]
      cases pieces g e with
      | none => rfl
      | some r =>
        simp only [Option.map_some]
        unfold withText
        split <;> simp
    · rw [h2]
      by_cases hb : b = []
      · simp [withText, hb]
      · simp [withText, hb]
theorem pieces_behind (g : List UInt8) : ∀ (n : Nat) (l b : List UInt8), l.length ≤ n → Behind g (pieces l b) (pieces (l ++ g) b)
  | n, [], b, _ => ⟨[], b, by rw [List.nil_append]; cases pieces g b <;> simp, rfl⟩
  | 0, c :: r, b, h => by simp at h
  | n + 1, c :: r, b, h => by
    simp only [List.length_cons] at h
    by_cases hc : c = 37
    · subst hc
      by_cases h2 : r.head? = some 37
      · obtain ⟨r', rfl⟩ : ∃ r', r = 37 :: r' := by
          cases r with
          | nil => cases h2
          | cons d r' => injection h2 with h2; subst h2; exact ⟨r', rfl⟩
        rw [List.cons_append, List.cons_append, pieces_pct, pieces_pct]
        exact pieces_behind g n r' _ (by simp at h; omega)
      · cases hd : dirF r with
        | none => rw [pieces_bad h2 hd]; trivial
        | some x =>
          obtain ⟨p, t⟩ := x
          have hl := dirF_len hd
          have h3 : (r ++ g).head? ≠ some 37 := by
            cases r with
            | nil => simp at hl
            | cons d r' => exact h2
          rw [List.cons_append, pieces_dir h2 hd, pieces_dir h3 (dirF_app g hd)]
          exact behind_cons (pieces_behind g n t [] (by omega))
    · rw [List.cons_append, pieces_plain hc, pieces_plain hc]
      exact pieces_behind g n r _ (by omega)
theorem dirsF_with (b : List UInt8) (q : List Pc) : dirsF (withText b q) = dirsF q := by
  unfold withText
  split
  · rfl
  · rw [dirsF_cons, if_pos (show (textPc b).verb = 0 from rfl), Nat.zero_add]
theorem dirsF_app (a b : List Pc) : dirsF (a ++ b) = dirsF a + dirsF b := by unfold dirsF; rw [List.filter_append, List.length_append]
theorem fmtF_first (va vb : List Vl) (qs rs : List Pc) (e s : List UInt8) : ∀ (ps : List Pc) (u : Nat) (acc : List UInt8), u + dirsF ps = va.length → fmtF (ps ++ withText e []) va u acc = .ok s → ∃ s', s = s' ++ e ∧ s.length ≤ 4096 ∧ fmtF (ps ++ rs) (va ++ vb) u acc = fmtF rs (va ++ vb) va.length s'
  | [], u, acc, hu, h => by
    rw [List.nil_append, fmtF_with, fmtF_nil] at h
    split at h
    · cases h
    · injection h with h
      subst h
      exact ⟨acc, rfl, by omega, by rw [List.nil_append, ← hu]; simp [dirsF]⟩
  | p :: ps, u, acc, hu, h => by
    rw [dirsF_cons] at hu
    rw [List.cons_append] at h ⊢
    by_cases h0 : p.verb = 0
    · rw [if_pos h0, Nat.zero_add] at hu
      rw [fmtF_text h0] at h ⊢
      exact fmtF_first va vb qs rs e s ps u _ hu h
    · rw [if_neg h0] at hu
      have hn : u < va.length := by omega
      have h1 : va[u]? = some va[u] := List.getElem?_eq_getElem hn
      have h2 : (va ++ vb)[u]? = some va[u] := by rw [List.getElem?_append_left hn]; exact h1
      cases hw : writtenF p va[u] with
      | none => rw [fmtF_bad h0 h1 hw] at h; cases h
      | some t =>
        rw [fmtF_ok h0 h1 hw] at h
        rw [fmtF_ok h0 h2 hw]
        exact fmtF_first va vb qs rs e s ps (u + 1) _ (by omega) h
/-- What the second format tells of both. -/
def TwoSaid (s : List UInt8) (x y : Except (Nat × Int) (List UInt8)) : Prop := match x with
  | .error _ => ∃ n c, y = .error (n, c) ∧ c ≠ 0
  | .ok t => y = if 4096 < s.length + t.length then .error (0, 14) else .ok (s ++ t)
theorem fmtF_second (va vb : List Vl) (s : List UInt8) : ∀ (ps : List Pc) (u : Nat) (acc : List UInt8), TwoSaid s (fmtF ps vb u acc) (fmtF ps (va ++ vb) (va.length + u) (s ++ acc))
  | [], u, acc => by
    rw [fmtF_nil, fmtF_nil, List.length_append]
    split
    · rw [if_pos (by omega)]; exact ⟨_, _, rfl, by decide⟩
    · rfl
  | p :: ps, u, acc => by
    by_cases h0 : p.verb = 0
    · rw [fmtF_text h0, fmtF_text h0, List.append_assoc]; exact fmtF_second va vb s ps u _
    · have hi : (va ++ vb)[va.length + u]? = vb[u]? := by rw [List.getElem?_append_right (by omega)]; congr 1; omega
      cases hx : vb[u]? with
      | none =>
        rw [fmtF_none h0 hx, fmtF_none h0 (hi.trans hx)]
        exact ⟨_, _, rfl, by decide⟩
      | some a =>
        cases hw : writtenF p a with
        | none => rw [fmtF_bad h0 hx hw, fmtF_bad h0 (hi.trans hx) hw]; exact ⟨_, _, rfl, by decide⟩
        | some t =>
          rw [fmtF_ok h0 hx hw, fmtF_ok h0 (hi.trans hx) hw, List.append_assoc, Nat.add_assoc]
          exact fmtF_second va vb s ps (u + 1) _
theorem two_formats {f g s : List UInt8} {va vb : List Vl} {ps : List Pc} (hp : pieces f [] = some ps) (hd : dirsF ps = va.length) (hs : formatF f va = .ok s) : TwoSaid s (formatF g vb) (formatF (f ++ g) (va ++ vb)) ∧ s.length ≤ 4096 := by
  unfold formatF at *
  rw [hp] at hs
  simp only [] at hs
  have hb := pieces_behind g _ f [] (Nat.le_refl _)
  rw [hp] at hb
  obtain ⟨qs, e, h1, rfl⟩ := hb
  rw [dirsF_app, dirsF_with] at hd
  have hm := pcs_moved e g.length g []
  rw [List.append_nil] at hm
  change Moved e (pieces g []) (pieces g e) at hm
  rw [h1]
  have hd2 : 0 + dirsF qs = va.length := by rw [← hd]; simp [dirsF]
  cases hg : pieces g [] with
  | none =>
    rw [hg] at hm
    have hm2 : pieces g e = none := hm
    rw [hm2]
    obtain ⟨s', _, h3, _⟩ := fmtF_first va vb [] [] e s qs 0 [] hd2 hs
    exact ⟨⟨0, 4, rfl, by decide⟩, h3⟩
  | some rs =>
    rw [hg] at hm
    obtain ⟨rs', h2, h3⟩ := hm
    rw [h2]
    simp only [Option.map_some]
    obtain ⟨s', rfl, h4, h5⟩ := fmtF_first va vb [] rs' e s qs 0 [] hd2 hs
    refine ⟨?_, h4⟩
    rw [h5, h3]
    have := fmtF_second va vb (s' ++ e) rs 0 []
    rwa [List.append_nil, Nat.add_zero] at this
end Go.Proofs.YtbdcmnhfmkefdaaGreatDoor
