/- Layer 18: memory: maps from strings to values. -/
import Derived.Test.YtbfeahafogbbhaaRegA
import Derived.MapKept
import Derived.ChangeMaps4
import Derived.ChangeMaps5
namespace Go.Proofs.Ytbfeahafogbbhaa
open Go.RowKit M1
open Go.ChangeMaps (setBlock)
set_option linter.unusedVariables false
abbrev V5.a (v : V5) : Value := .agg #[.int .i64 v.k, .int .i64 v.p, .int .i64 v.q, .string v.s, .int .i64 v.r]
abbrev MP := List (ByteArray × V5)
def look : MP → ByteArray → Option V5
  | [], _ => none
  | (v, i) :: r, k => if k = v then some i else look r k
def putM : MP → ByteArray → V5 → MP
  | [], k, x => [(k, x)]
  | (v, i) :: r, k, x => if k = v then (k, x) :: r else (v, i) :: putM r k x
def delM : MP → ByteArray → MP
  | [], _ => []
  | (v, i) :: r, k => if k = v then r else (v, i) :: delM r k
theorem look_put (l : MP) (k k' : ByteArray) (x : V5) : look (putM l k x) k' = if k' = k then some x else look l k' := by
  induction l with
  | nil => simp [putM, look]
  | cons a l ih =>
    obtain ⟨v, i⟩ := a
    unfold putM
    by_cases h : k = v
    · subst h
      rw [if_pos rfl]
      unfold look
      by_cases h2 : k' = k
      · rw [if_pos h2, if_pos h2]
      · rw [if_neg h2, if_neg h2, if_neg h2]
    · rw [if_neg h]
      unfold look
      by_cases h2 : k' = v
      · have : ¬ k' = k := fun e => h (e.symm.trans h2)
        rw [if_pos h2, if_pos h2, if_neg this]
      · rw [if_neg h2, if_neg h2]; exact ih
/-- No key twice. -/
def Uniq : MP → Prop
  | [] => True
  | (v, _) :: r => look r v = none ∧ Uniq r
theorem uniq_put (l : MP) (k : ByteArray) (x : V5) (h : Uniq l) : Uniq (putM l k x) := by
  induction l with
  | nil => exact ⟨rfl, trivial⟩
  | cons a l ih =>
    obtain ⟨v, i⟩ := a
    unfold putM
    by_cases hk : k = v
    · subst hk; rw [if_pos rfl]; exact h
    · rw [if_neg hk]
      refine ⟨?_, ih h.2⟩
      rw [look_put, if_neg (fun e => hk e.symm)]; exact h.1
theorem look_del (l : MP) (k k' : ByteArray) (h : Uniq l) : look (delM l k) k' = if k' = k then none else look l k' := by
  induction l with
  | nil => simp [delM, look]
  | cons a l ih =>
    obtain ⟨v, i⟩ := a
    unfold delM
    by_cases hk : k = v
    · subst hk
      rw [if_pos rfl]
      by_cases h2 : k' = k
      · subst h2; rw [if_pos rfl]; exact h.1
      · rw [if_neg h2]; show look l k' = look ((k, i) :: l) k'; conv => rhs; unfold look; rw [if_neg h2]
    · rw [if_neg hk]
      unfold look
      by_cases h2 : k' = v
      · have : ¬ k' = k := fun e => hk (e.symm.trans h2)
        rw [if_pos h2, if_pos h2, if_neg this]
      · rw [if_neg h2, if_neg h2]; exact ih h.2
theorem uniq_del (l : MP) (k : ByteArray) (h : Uniq l) : Uniq (delM l k) := by
  induction l with
  | nil => trivial
  | cons a l ih =>
    obtain ⟨v, i⟩ := a
    unfold delM
    by_cases hk : k = v
    · rw [if_pos hk]; exact h.2
    · rw [if_neg hk]
      refine ⟨?_, ih h.2⟩
      rw [look_del _ _ _ h.2, if_neg (fun e => hk e.symm)]; exact h.1
def kv (e : MapEntry) : Value × Value := (e.key, e.val)
def kvM (x : ByteArray × V5) : Value × Value := (.string x.1, x.2.a)
/-- A map in memory. -/
def Mp (g : Nat) (l : MP) (w : World) : Prop := ∃ es clock, w.heap[g]? = some (.map es clock) ∧ es.toList.map kv = l.map kvM
theorem Mp.lt {g : Nat} {l : MP} {w : World} (h : Mp g l w) : g < w.heap.size := by
  obtain ⟨es, c, hb, _⟩ := h
  exact (Array.getElem?_eq_some_iff.1 hb).1
theorem Mp.ch {g : Nat} {l : MP} {w w' : World} {S : List Nat} (h : Mp g l w) (hc : Ch S w w') (hg : g ∉ S) : Mp g l w' := by
  have hl := h.lt
  obtain ⟨es, c, hb, he⟩ := h
  exact ⟨es, c, (hc.block g hl hg).trans hb, he⟩
theorem Mp.new (w : World) (n : Nat) (hn : n = w.heap.size) : Mp n [] (w.alloc (.map #[] 0)) := by
  subst hn; exact ⟨#[], 0, heap_new _ _, rfl⟩
def fiM : MP → ByteArray → Nat → Option (Nat × Value)
  | [], _, _ => none
  | (v, x) :: r, k, i => if k = v then some (i, x.a) else fiM r k (i + 1)
theorem check_str (e : Bool) (v : ByteArray) (w : World) : (Instr.checkKey e 10000 9 (.string v)).run Try.prog w = .ok () w := by kernel_rfl
theorem bytes_eq (a b : ByteArray) : (a.toList == b.toList) = decide (a = b) := by
  rw [ByteArray.toList_eq, ByteArray.toList_eq, Bool.eq_iff_iff]
  simp only [beq_iff_eq, decide_eq_true_eq]
  constructor
  · intro h; exact ByteArray.ext (Array.toList_inj.1 h)
  · rintro rfl; rfl
theorem beq_str (a b : ByteArray) : (a == b) = decide (a = b) := by
  obtain ⟨x⟩ := a
  obtain ⟨y⟩ := b
  rw [Bool.eq_iff_iff, decide_eq_true_eq, ByteArray.mk.injEq]
  show (x == y) = true ↔ x = y
  exact beq_iff_eq
theorem now : ∀ (es : List MapEntry) (l : MP) (k : ByteArray) (i : Nat), es.map kv = l.map kvM → Instr.findNow .string (.string k) es i = some (fiM l k i)
  | [], [], _, _, _ => rfl
  | [], _ :: _, _, _, h => by cases h
  | _ :: _, [], _, _, h => by cases h
  | e :: es, (v, x) :: l, k, i, h => by
    simp only [List.map_cons, List.cons.injEq] at h
    obtain ⟨h1, h2⟩ := h
    have e1 : e.key = .string v := congrArg Prod.fst h1
    have e2 : e.val = x.a := congrArg Prod.snd h1
    unfold Instr.findNow fiM
    have hs : Instr.sameNow .string (.string k) (.string v) = some (decide (k = v)) := by
      show some (k == v) = _
      congr 1
      exact beq_str k v
    rw [e1, hs]
    by_cases hk : k = v
    · simp [hk, e2]
    · simp only [hk, decide_false, if_false]
      exact now es l k (i + 1) h2
theorem finding (es : List MapEntry) (l : MP) (k : ByteArray) (w : World) (h : es.map kv = l.map kvM) : (Instr.findKey 9 (.string k) es).run Try.prog w = .ok (fiM l k 0) w := by
  unfold Instr.findKey
  simp only [Sem.run_bind, run_underlying Try.underlying9, Result.andThen_ok, now es l k 0 h, Sem.run_pure]
theorem fi_look : ∀ (l : MP) (k : ByteArray) (i : Nat), (fiM l k i).map (·.2) = (look l k).map V5.a
  | [], _, _ => rfl
  | (v, x) :: l, k, i => by
    unfold fiM look
    by_cases h : k = v
    · rw [if_pos h, if_pos h]; rfl
    · rw [if_neg h, if_neg h]; exact fi_look l k (i + 1)
theorem zero_v (w : World) : (zeroValue 33).run Try.prog w = .ok v5z.a w := by kernel_rfl
theorem look_run {g : Nat} {l : MP} {w : World} (h : Mp g l w) (k : ByteArray) : (Instr.lookup 64 (.map (some g)) (.string k) true).run Try.prog w = .ok (.tuple #[((look l k).getD v5z).a, .bool (look l k).isSome]) w ∧ (Instr.lookup 64 (.map (some g)) (.string k) false).run Try.prog w = .ok (((look l k).getD v5z).a) w := by
  obtain ⟨es, c, hb, he⟩ := h
  have hf := fi_look l k 0
  unfold Instr.lookup
  simp only [Sem.run_bind, run_underlying Try.underlying64, Result.andThen_ok, Go.MapKept.run_getObj_map hb, Sem.run_pure, check_str, finding es.toList l k w he]
  cases hx : fiM l k 0 with
  | none =>
    rw [hx] at hf
    have hl : look l k = none := by cases hy : look l k with
      | none => rfl
      | some y => rw [hy] at hf; cases hf
    simp [hl, V5.a, v5z]
  | some y =>
    rw [hx] at hf
    obtain ⟨i, v⟩ := y
    cases hy : look l k with
    | none => rw [hy] at hf; cases hf
    | some z =>
      rw [hy] at hf
      have : v = z.a := Option.some.inj hf
      simp [this]
theorem look_nil (k : ByteArray) (w : World) : (Instr.lookup 64 (.map none) (.string k) true).run Try.prog w = .ok (.tuple #[v5z.a, .bool false]) w := by
  unfold Instr.lookup
  simp only [Sem.run_bind, run_underlying Try.underlying64, Result.andThen_ok, Sem.run_pure, check_str, finding [] [] k w rfl]
  simp [fiM, V5.a, v5z]
theorem same_val (v : ByteArray) : Instr.sameBits 10000 (.string v) (.string v) = true := by
  simp [Instr.sameBits, beq_toListBytes]
theorem fi_bound : ∀ (l : MP) (k : ByteArray) (i j : Nat) (x : Value), fiM l k i = some (j, x) → i ≤ j ∧ ∃ (h : j - i < l.length), l[j - i].1 = k ∧ ∀ (y : V5), putM l k y = l.set (j - i) (k, y) ∧ delM l k = l.eraseIdx (j - i)
  | [], _, _, _, _, h => by cases h
  | (v, z) :: l, k, i, j, x, h => by
    unfold fiM at h
    by_cases hk : k = v
    · rw [if_pos hk] at h
      simp only [Option.some.injEq, Prod.mk.injEq] at h
      obtain ⟨rfl, _⟩ := h
      refine ⟨Nat.le_refl _, by simp, by simp [hk], fun y => ?_⟩
      unfold putM delM
      simp [hk]
    · rw [if_neg hk] at h
      obtain ⟨h1, h2, h3, h4⟩ := fi_bound l k (i + 1) j x h
      have e : j - i = (j - (i + 1)) + 1 := by omega
      refine ⟨by omega, by rw [e]; simpa using h2, ?_, fun y => ?_⟩
      · simp only [e, List.getElem_cons_succ]; exact h3
      · unfold putM delM
        rw [if_neg hk, if_neg hk, e, (h4 y).1, (h4 y).2]
        exact ⟨rfl, rfl⟩
theorem fi_none : ∀ (l : MP) (k : ByteArray) (i : Nat), fiM l k i = none → ∀ y, putM l k y = l ++ [(k, y)] ∧ delM l k = l
  | [], _, _, _ => fun _ => ⟨rfl, rfl⟩
  | (v, z) :: l, k, i, h => by
    unfold fiM at h
    by_cases hk : k = v
    · rw [if_pos hk] at h; cases h
    · rw [if_neg hk] at h
      intro y
      have := fi_none l k (i + 1) h y
      unfold putM delM
      rw [if_neg hk, if_neg hk, this.1, this.2]
      exact ⟨rfl, rfl⟩
theorem Ch.setB {w : World} {g : Nat} (o : Obj) : Ch [g] w (setBlock w g o) := ⟨rfl, rfl, rfl, by simp [setBlock], fun i _ hi => by
  have : g ≠ i := fun e => hi (by simp [e])
  simp [setBlock, this]⟩
theorem map_modify (es : Array MapEntry) (j : Nat) (f : MapEntry → MapEntry) (l : List (Value × Value)) (y : Value × Value) (he : es.toList.map kv = l) (hf : ∀ e, es[j]? = some e → kv (f e) = y) : (es.modify j f).toList.map kv = l.set j y := by
  subst he
  apply List.ext_getElem?
  intro i
  simp only [List.getElem?_map, Array.getElem?_toList, Array.getElem?_modify, List.getElem?_set, List.length_map, Array.length_toList]
  by_cases hi : j = i
  · subst hi
    rw [if_pos rfl, if_pos rfl]
    by_cases hj : j < es.size
    · rw [if_pos hj, Array.getElem?_eq_getElem hj]
      simp only [Option.map_some, Option.some.injEq]
      exact hf _ (Array.getElem?_eq_getElem hj)
    · rw [if_neg hj, Array.getElem?_eq_none (by omega)]; rfl
  · rw [if_neg hi, if_neg hi]
theorem put_run {g : Nat} {l : MP} {w : World} (h : Mp g l w) (k : ByteArray) (x : V5) : ∃ w', (Instr.mapUpdate 64 (.map (some g)) (.string k) x.a).run Try.prog w = .ok () w' ∧ Mp g (putM l k x) w' ∧ Ch [g] w w' := by
  obtain ⟨es, c, hb, he⟩ := h
  unfold Instr.mapUpdate
  simp only [Sem.run_bind, run_underlying Try.underlying64, Result.andThen_ok, Go.MapKept.run_getObj_map hb, check_str, finding es.toList l k w he]
  cases hx : fiM l k 0 with
  | none =>
    simp only [Go.MapKept.run_setObj_map _ hb]
    refine ⟨_, rfl, ⟨_, _, (Go.MapKept.heap_set hb).1, ?_⟩, Ch.setB _⟩
    rw [(fi_none l k 0 hx x).1]
    simp [he, kv, kvM]
  | some y =>
    obtain ⟨j, v⟩ := y
    obtain ⟨_, h2, h3, h4⟩ := fi_bound l k 0 j v hx
    simp only [Nat.sub_zero] at h2 h3 h4
    have hj : es[j]?.map kv = some ((.string k), l[j].2.a) := by
      have := congrArg (fun z => z[j]?) he
      simp only [List.getElem?_map, Array.getElem?_toList, List.getElem?_eq_getElem h2, Option.map_some] at this
      rw [this]; simp [kvM, h3]
    obtain ⟨e0, he0, hk0⟩ := Option.map_eq_some_iff.1 hj
    have hkey : ((es[j]?).map (·.key)).getD (.string k) = (.string k) := by
      rw [he0]; exact congrArg Prod.fst hk0
    simp only [hkey, Instr.keyThatStays, same_val, if_true, Sem.run_bind, Sem.run_pure, Result.andThen_ok, Go.MapKept.run_setObj_map _ hb]
    refine ⟨_, rfl, ⟨_, _, (Go.MapKept.heap_set hb).1, ?_⟩, Ch.setB _⟩
    rw [(h4 x).1, List.map_set]
    exact map_modify es j _ _ _ he (fun e _ => rfl)
theorem map_erase {α β : Type} (f : α → β) : ∀ (l : List α) (j : Nat), (l.eraseIdx j).map f = (l.map f).eraseIdx j
  | [], _ => rfl
  | _ :: _, 0 => rfl
  | a :: l, j + 1 => by simp [map_erase f l j]
theorem del_run {g : Nat} {l : MP} {w : World} (h : Mp g l w) (k : ByteArray) (t : TypeId) : ∃ w', (Builtin.delete_ #[64, 9] t #[.map (some g), (.string k)]).run Try.prog w = .ok (.tuple #[]) w' ∧ Mp g (delM l k) w' ∧ Ch [g] w w' := by
  obtain ⟨es, c, hb, he⟩ := h
  unfold Builtin.delete_
  simp only [List.getElem?_toArray, List.getElem?_cons_zero, List.getElem?_cons_succ, Sem.run_bind, run_underlying Try.underlying64, Result.andThen_ok, Go.MapKept.run_getObj_map hb, check_str, finding es.toList l k w he]
  cases hx : fiM l k 0 with
  | none =>
    simp only [Sem.run_bind, Go.MapKept.run_setObj_map _ hb, Result.andThen_ok, Sem.run_pure]
    refine ⟨_, rfl, ⟨_, _, (Go.MapKept.heap_set hb).1, ?_⟩, Ch.setB _⟩
    rw [(fi_none l k 0 hx v5z).2]; exact he
  | some y =>
    obtain ⟨j, v⟩ := y
    obtain ⟨_, h2, h3, h4⟩ := fi_bound l k 0 j v hx
    simp only [Nat.sub_zero] at h2 h3 h4
    simp only [Sem.run_bind, Go.MapKept.run_setObj_map _ hb, Result.andThen_ok, Sem.run_pure]
    refine ⟨_, rfl, ⟨_, _, (Go.MapKept.heap_set hb).1, ?_⟩, Ch.setB _⟩
    rw [(h4 v5z).2]
    have hl : j < es.size := by
      have := congrArg List.length he
      simp at this; omega
    have e : (es.eraseIdxIfInBounds j).toList = es.toList.eraseIdx j := by
      unfold Array.eraseIdxIfInBounds
      rw [dif_pos hl]; simp
    rw [e, map_erase, he, map_erase]
end Go.Proofs.Ytbfeahafogbbhaa
