/- The laws of layer 9: two formats, one behind the other: the walk. -/
import Derived.Test.YtbdcmnhfmkefdaaGreatDoorFmtAp
import Derived.Maps.AppendAt
import Derived.Laws.AppendOwnNone
namespace Go.Proofs.YtbdcmnhfmkefdaaGreatDoor
open Go.RowKit Go.Joins M1 M2 M9
set_option linter.unusedVariables false
set_option linter.constructorNameAsVariable false
/-- A slice has room for what it holds. -/
def Caps (v : Value) : Prop := ∃ a n c, v = .slice a n c ∧ n ≤ c ∧ (a = none → c = 0)
theorem Caps.of {a : Option Addr} {n c : Nat} (h : Caps (.slice a n c)) : n ≤ c ∧ (a = none → c = 0) := by
  obtain ⟨_, _, _, e, h⟩ := h
  injection e with e1 e2 e3
  subst e1 e2 e3
  exact h
set_option maxRecDepth 100000 in
theorem caps_of {W : World} {r : Reach} {base len cap : Nat} {a : Option Addr} (h : Value.okWide Tryz.prog W r base 34 (.slice a len cap)) : Caps (.slice a len cap) := by
  refine ⟨a, len, cap, rfl, ?_⟩
  simp only [Value.okWide, Tryz.underlying34, Cell.okWide] at h
  cases a with
  | none => cases len <;> cases cap <;> simp_all [Cell.ok]
  | some a => simp_all [Cell.ok]
theorem info_value : (Tryz.prog.info? 46).map (fun i => (i.zero, i.size, i.bytes)) = some (some (.agg #[.int .i64 0, .int .i64 0, .int .i64 0, .string ⟨#[]⟩, .int .i64 0]), 5, 48) := by kernel_rfl
theorem Args.take {w : World} {p : Option Addr} {c k n : Nat} {l : List Ar} (h : Args w (.slice p n c) l) (hk : k ≤ l.length) : Args w (.slice p k c) (l.take k) := by
  obtain ⟨p', c', e, h2⟩ := h.form
  injection e with e1 e2 e3
  subst e1 e2 e3
  have hl : (l.take k).length = k := by rw [List.length_take]; omega
  refine ⟨p, c, by rw [hl], fun h0 => ?_⟩
  rw [hl] at h0
  obtain ⟨g, o, rfl, h3, h4⟩ := h2 (by omega)
  refine ⟨g, o, rfl, h3, fun j hj => ?_⟩
  have hj2 : j < l.length := by rw [hl] at hj; omega
  rw [List.getElem_take]
  exact h4 j hj2
theorem args_own {W : World} {B n : Nat} {v : Value} {l : List Ar} (h : W.ownsRow B 46 5 v n (l.flatMap arC)) (hn : n = l.length) : Args W v l := by
  subst hn
  rcases Nat.eq_zero_or_pos l.length with h0 | h0
  · have hl := List.length_eq_zero_iff.1 h0
    subst hl
    rcases h.2 with ⟨rfl, _⟩ | ⟨g, cap, cur, rfl, _⟩
    · exact args_nil _ _
    · exact ⟨_, _, rfl, fun h => absurd h (by decide)⟩
  · obtain ⟨g, cap, rfl, _, hlt⟩ := h.form h0
    refine ⟨_, _, rfl, fun _ => ⟨g, 0, rfl, hlt, fun j hj => ?_⟩⟩
    have key : ∀ i, i < 5 → W.cell? ⟨g, j * 5 + i, none⟩ = (arC l[j])[i]? := fun i hi => by
      rw [h.cellAt (j * 5 + i) (by omega)]; exact flat5_at l j i hj hi
    rw [Nat.zero_add]
    exact ⟨key 0 (by decide), key 1 (by decide), key 2 (by decide), key 3 (by decide), key 4 (by decide)⟩
theorem own0_any {W : World} {B : Nat} (hB : B ≤ W.heap.size) : (W.alloc (.cells #[] 46)).ownsRow B 46 5 (.slice (some ⟨W.heap.size, 0, none⟩) 0 0) 0 (([] : List Ar).flatMap arC) := World.ownsRow_lit W #[] 0 hB (by decide) rfl
theorem arC_one (l : List Ar) : ∀ u ∈ l.flatMap arC, u.oneCell' = true := by
  intro u hu
  obtain ⟨a, _, h⟩ := List.mem_flatMap.1 hu
  simp only [arC, List.mem_cons, List.not_mem_nil, or_false] at h
  rcases h with rfl | rfl | rfl | rfl | rfl <;> rfl
theorem arC_cell {l : List Ar} {j : Nat} {u : Value} (h : (l.flatMap arC)[j]? = some u) : ∃ k i, ∃ hk : k < l.length, i < 5 ∧ j = k * 5 + i ∧ (arC l[k])[i]? = some u := by
  have hl : (l.flatMap arC).length = l.length * 5 := by
    clear h
    induction l with
    | nil => rfl
    | cons a l ih => rw [List.flatMap_cons, List.length_append, ih]; simp [arC]; omega
  have hj : j < l.length * 5 := by
    rw [← hl]
    by_cases hj : j < (l.flatMap arC).length
    · exact hj
    · rw [List.getElem?_eq_none (by omega)] at h; cases h
  have hk : j / 5 < l.length := by omega
  refine ⟨j / 5, j % 5, hk, by omega, by omega, ?_⟩
  rw [← flat5_at l (j / 5) (j % 5) hk (by omega), show j / 5 * 5 + j % 5 = j by omega]
  exact h
theorem arC_len (l : List Ar) : (l.flatMap arC).length = l.length * 5 := by
  induction l with
  | nil => rfl
  | cons a l ih => rw [List.flatMap_cons, List.length_append, ih]; simp [arC]; omega
/-- Arguments appended to a list of the call's own. -/
theorem append_args {ops : Array Oper} {rest : List Oper} {o : Oper} {a : Act} {Q : Exit → Act → World → Prop} {W : World} (w0 : World) (hgd : o.guard = none) (s x : Operand)
    (ho : o.op = .call { callee := .builtin .append, args := #[s, x], argTypes := #[34, 34] }) (B : Nat)
    (v : Value) (n : Nat) (l1 : List Ar) (hs : a.eval s = v) (hown : W.ownsRow B 46 5 v n (l1.flatMap arC))
    (A : Option Addr) (m c : Nat) (l2 : List Ar) (hx : a.eval x = .slice A m c) (ha : Args W (.slice A m c) l2) (hc : A = none → c = 0) (hn : n + l2.length ≤ 1000000)
    (hb : Below B w0 W) (hB : B ≤ W.heap.size)
    (h : ∀ v' W', W'.ownsRow B 46 5 v' (n + m) ((l1 ++ l2).flatMap arC) → Below B w0 W' → B ≤ W'.heap.size → wpList Tryz.prog ops Q rest (a.put o.dst v') W') : wpList Tryz.prog ops Q (o :: rest) a W := by
  obtain ⟨i0, hi0, jz0, jz1, jz2⟩ := info_parts info_value
  obtain ⟨p', c', e, h2⟩ := ha.form
  injection e with e1 e2 e3
  subst e1 e2 e3
  rw [List.flatMap_append] at h
  cases A with
  | none =>
    have h0 : l2.length = 0 := by
      rcases Nat.eq_zero_or_pos l2.length with h0 | h0
      · exact h0
      · obtain ⟨_, _, e, _⟩ := h2 h0; cases e
    have hl := List.length_eq_zero_iff.1 h0
    subst hl
    have hc0 := hc rfl
    subst hc0
    refine wpList_append_own_none hgd s x 34 ho B 46 i0 5 Tryz.underlying34 hi0 v n _ hs hown hx ?_
    exact h v W (by simpa using hown) hb hB
  | some ad =>
    refine wpList_append_own_at _ hgd s x 34 ho B 46 i0 _ 5 48 Tryz.underlying34 hi0 jz0 jz1 jz2 rfl (by decide) v n _ hs hown ad l2.length c (l2.flatMap arC) hx (arC_len l2) ?_ (arC_one l2) (by simp only [maxLen]; omega) (by omega) hB ?_
    · intro j u hu
      obtain ⟨k, i, hk, hi, rfl, hu2⟩ := arC_cell hu
      obtain ⟨g, o', e, hg, hv⟩ := h2 (by omega)
      obtain rfl : ad = ⟨g, o', none⟩ := Option.some.inj e
      rw [addr_addU]
      obtain ⟨q0, q1, q2, q3, q4⟩ := hv k hk
      match i, hi, hu2 with
      | 0, _, hu2 => rw [← hu2]; exact q0
      | 1, _, hu2 => rw [← hu2]; exact q1
      | 2, _, hu2 => rw [← hu2]; exact q2
      | 3, _, hu2 => rw [← hu2]; exact q3
      | 4, _, hu2 => rw [← hu2]; exact q4
    · intro v' W' ho' hg _ _
      exact h v' W' ho' (hb.grown hg hB (fun g e => by
        rcases hown.2 with ⟨rfl, _⟩ | ⟨g', cap, cur, rfl, hbg, _⟩
        · cases e
        · have : g' = g := by simpa [Value.ownBlock] using e
          omega)) (Nat.le_trans hB hg.size)
theorem fmtF_err {vs : List Vl} : ∀ {ps : List Pc} {u : Nat} {acc : List UInt8} {n : Nat} {c : Int}, fmtF ps vs u acc = .error (n, c) → c ≠ 0
  | [], u, acc, n, c, h => by
    rw [fmtF_nil] at h
    split at h
    · injection h with h; injection h with _ h; subst h; decide
    · cases h
  | p :: ps, u, acc, n, c, h => by
    by_cases h0 : p.verb = 0
    · rw [fmtF_text h0] at h; exact fmtF_err h
    · cases h1 : vs[u]? with
      | none => rw [fmtF_none h0 h1] at h; injection h with h; injection h with _ h; subst h; decide
      | some a =>
        cases hw : writtenF p a with
        | none => rw [fmtF_bad h0 h1 hw] at h; injection h with h; injection h with _ h; subst h; decide
        | some t => rw [fmtF_ok h0 h1 hw] at h; exact fmtF_err h
theorem formatF_err {f : List UInt8} {vs : List Vl} {n : Nat} {c : Int} (h : formatF f vs = .error (n, c)) : c ≠ 0 := by
  unfold formatF at h
  split at h
  · injection h with h; injection h with _ h; subst h; decide
  · exact fmtF_err h
theorem fmtF_max {vs : List Vl} : ∀ {ps : List Pc} {u : Nat} {acc t : List UInt8}, fmtF ps vs u acc = .ok t → t.length ≤ 4096
  | [], u, acc, t, h => by
    rw [fmtF_nil] at h
    split at h
    · cases h
    · injection h with h; subst h; omega
  | p :: ps, u, acc, t, h => by
    by_cases h0 : p.verb = 0
    · rw [fmtF_text h0] at h; exact fmtF_max h
    · cases h1 : vs[u]? with
      | none => rw [fmtF_none h0 h1] at h; cases h
      | some a =>
        cases hw : writtenF p a with
        | none => rw [fmtF_bad h0 h1 hw] at h; cases h
        | some t => rw [fmtF_ok h0 h1 hw] at h; exact fmtF_max h
theorem formatF_max {f : List UInt8} {vs : List Vl} {t : List UInt8} (h : formatF f vs = .ok t) : t.length ≤ 4096 := by
  unfold formatF at h
  split at h
  · cases h
  · exact fmtF_max h
/-- What Pieces answers, with a list in each case. -/
theorem pieces_list (s : ByteArray) (w : World) (he : E9 w) (hs : s.size ≤ 100000) : ∃ (ps : List Pc) (c : Int), ((pieces s.data.toList [] = some ps ∧ c = 0) ∨ c = 4) ∧ ps.length ≤ 2 * s.size + 1 ∧
    Calls Tryz.prog 12 #[.string s] w fun e w' => (∃ v, e = .returned (.tuple #[v, .int .i64 c]) ∧ w'.ownsRow w.heap.size 31 7 v ps.length (ps.flatMap pcC)) ∧ Below w.heap.size w w' := by
  have h := pieces_any s w he hs
  cases hp : pieces s.data.toList [] with
  | none =>
    rw [hp] at h
    refine ⟨[], 4, .inr rfl, Nat.zero_le _, h.mono ?_⟩
    rintro e w' ⟨rfl, hb⟩
    exact ⟨⟨_, rfl, rfl, .inl ⟨rfl, rfl⟩⟩, hb⟩
  | some ps =>
    rw [hp] at h
    have h1 := (pieces_bd hp).1
    have h2 : s.data.toList.length = s.size := by simp
    refine ⟨ps, 0, .inl ⟨rfl, rfl⟩, by omega, h.mono ?_⟩
    rintro e w' ⟨⟨v, rfl, ho⟩, hb⟩
    exact ⟨⟨v, rfl, ho⟩, hb⟩
end Go.Proofs.YtbdcmnhfmkefdaaGreatDoor
