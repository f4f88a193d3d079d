/- Layer 12: memory: maps from values to indices. -/
import Derived.Test.YtaaelhhiceildaaValC
import Derived.MapKept
import Derived.ChangeMaps4
import Derived.ChangeMaps5
namespace Go.Proofs.Ytaaelhhiceildaa
open Go.RowKit M1
open Go.ChangeMaps (setBlock)
set_option linter.unusedVariables false
abbrev V5.a (v : V5) : Value := .agg #[.int .i64 v.k, .int .i64 v.p, .int .i64 v.q, .string v.s, .int .i64 v.r]
theorem eqV_dec (a b : V5) : eqV a.k a.p a.q a.s a.r b.k b.p b.q b.s b.r = decide (a = b) := by
  rw [Bool.eq_iff_iff, eqV_iff, decide_eq_true_eq]
  obtain ⟨a1, a2, a3, a4, a5⟩ := a
  obtain ⟨b1, b2, b3, b4, b5⟩ := b
  simp
abbrev MP := List (V5 × Int)
def look : MP → V5 → Option Int
  | [], _ => none
  | (v, i) :: r, k => if k = v then some i else look r k
def putM : MP → V5 → Int → MP
  | [], k, x => [(k, x)]
  | (v, i) :: r, k, x => if k = v then (k, x) :: r else (v, i) :: putM r k x
def delM : MP → V5 → MP
  | [], _ => []
  | (v, i) :: r, k => if k = v then r else (v, i) :: delM r k
theorem look_put (l : MP) (k k' : V5) (x : Int) : look (putM l k x) k' = if k' = k then some x else look l k' := by
  induction l with
  | nil => simp [putM, look]
  | cons a l ih =>
    obtain ⟨v, i⟩ := a
    unfold putM
    by_cases h : k = v
    · subst h
      rw [if_pos rfl]
      unfold look
      by_cases h2 : k' = k
      · rw [if_pos h2, if_pos h2]
      · rw [if_neg h2, if_neg h2, if_neg h2]
    · rw [if_neg h]
      unfold look
      by_cases h2 : k' = v
      · have : ¬ k' = k := fun e => h (e.symm.trans h2)
        rw [if_pos h2, if_pos h2, if_neg this]
      · rw [if_neg h2, if_neg h2]; exact ih
/-- No key twice. -/
def Uniq : MP → Prop
  | [] => True
  | (v, _) :: r => look r v = none ∧ Uniq r
theorem uniq_put (l : MP) (k : V5) (x : Int) (h : Uniq l) : Uniq (putM l k x) := by
  induction l with
  | nil => exact ⟨rfl, trivial⟩
  | cons a l ih =>
    obtain ⟨v, i⟩ := a
    unfold putM
    by_cases hk : k = v
    · subst hk; rw [if_pos rfl]; exact h
    · rw [if_neg hk]
      refine ⟨?_, ih h.2⟩
      rw [look_put, if_neg (fun e => hk e.symm)]; exact h.1
theorem look_del (l : MP) (k k' : V5) (h : Uniq l) : look (delM l k) k' = if k' = k then none else look l k' := by
  induction l with
  | nil => simp [delM, look]
  | cons a l ih =>
    obtain ⟨v, i⟩ := a
    unfold delM
    by_cases hk : k = v
    · subst hk
      rw [if_pos rfl]
      by_cases h2 : k' = k
      · subst h2; rw [if_pos rfl]; exact h.1
      · rw [if_neg h2]; show look l k' = look ((k, i) :: l) k'; conv => rhs; unfold look; rw [if_neg h2]
    · rw [if_neg hk]
      unfold look
      by_cases h2 : k' = v
      · have : ¬ k' = k := fun e => hk (e.symm.trans h2)
        rw [if_pos h2, if_pos h2, if_neg this]
      · rw [if_neg h2, if_neg h2]; exact ih h.2
theorem uniq_del (l : MP) (k : V5) (h : Uniq l) : Uniq (delM l k) := by
  induction l with
  | nil => trivial
  | cons a l ih =>
    obtain ⟨v, i⟩ := a
    unfold delM
    by_cases hk : k = v
    · rw [if_pos hk]; exact h.2
    · rw [if_neg hk]
      refine ⟨?_, ih h.2⟩
      rw [look_del _ _ _ h.2, if_neg (fun e => hk e.symm)]; exact h.1
def kv (e : MapEntry) : Value × Value := (e.key, e.val)
def kvM (x : V5 × Int) : Value × Value := (x.1.a, .int .i64 x.2)
/-- A map in memory. -/
def Mp (g : Nat) (l : MP) (w : World) : Prop := ∃ es clock, w.heap[g]? = some (.map es clock) ∧ es.toList.map kv = l.map kvM
theorem Mp.lt {g : Nat} {l : MP} {w : World} (h : Mp g l w) : g < w.heap.size := by
  obtain ⟨es, c, hb, _⟩ := h
  exact (Array.getElem?_eq_some_iff.1 hb).1
theorem Mp.ch {g : Nat} {l : MP} {w w' : World} {S : List Nat} (h : Mp g l w) (hc : Ch S w w') (hg : g ∉ S) : Mp g l w' := by
  have hl := h.lt
  obtain ⟨es, c, hb, he⟩ := h
  exact ⟨es, c, (hc.block g hl hg).trans hb, he⟩
theorem Mp.new (w : World) (n : Nat) (hn : n = w.heap.size) : Mp n [] (w.alloc (.map #[] 0)) := by
  subst hn; exact ⟨#[], 0, heap_new _ _, rfl⟩
def fiM : MP → V5 → Nat → Option (Nat × Value)
  | [], _, _ => none
  | (v, x) :: r, k, i => if k = v then some (i, .int .i64 x) else fiM r k (i + 1)
theorem check_val (e : Bool) (v : V5) (w : World) : (Instr.checkKey e 10000 26 v.a).run Try.prog w = .ok () w := by kernel_rfl
theorem op_equal (a b : V5) (w : World) : (Op.equal 26 a.a b.a).run Try.prog w = .ok (decide (a = b)) w := by
  show (Op.equalIn 10000 26 a.a b.a).run Try.prog w = _
  rw [eqIn_val _ _ _ _ _ _ _ _ _ _ 9997, eqV_dec]
theorem asking : ∀ (es : List MapEntry) (l : MP) (k : V5) (i : Nat) (w : World), es.map kv = l.map kvM → (Instr.findAsking 26 k.a es i).run Try.prog w = .ok (fiM l k i) w
  | [], [], _, _, _, _ => rfl
  | [], _ :: _, _, _, _, h => by cases h
  | _ :: _, [], _, _, _, h => by cases h
  | e :: es, (v, x) :: l, k, i, w, h => by
    simp only [List.map_cons, List.cons.injEq] at h
    obtain ⟨h1, h2⟩ := h
    have e1 : e.key = v.a := congrArg Prod.fst h1
    have e2 : e.val = .int .i64 x := congrArg Prod.snd h1
    unfold Instr.findAsking fiM
    simp only [Sem.run_bind, e1, op_equal, Result.andThen_ok]
    by_cases hk : k = v
    · simp [hk, e2]
    · simp only [hk, decide_false, Bool.false_eq_true, if_false]
      exact asking es l k (i + 1) w h2
theorem finding (es : List MapEntry) (l : MP) (k : V5) (w : World) (h : es.map kv = l.map kvM) : (Instr.findKey 26 k.a es).run Try.prog w = .ok (fiM l k 0) w := by
  unfold Instr.findKey
  simp only [Sem.run_bind, run_underlying Try.underlying26, Result.andThen_ok]
  cases es with
  | nil =>
    cases l with
    | nil => simp [Instr.findNow, fiM]
    | cons a l => cases h
  | cons e es =>
    have : ∀ d : TypeDesc, d = .struct (Try.prog.fieldsOf 26) → Instr.findNow d k.a (e :: es) 0 = none := by
      intro d hd; subst hd; rfl
    have hu : Try.prog.underlying 26 = some (.struct (Try.prog.fieldsOf 26)) := by kernel_rfl
    have hd := Option.some.inj (Try.underlying26.symm.trans hu)
    simp only [this _ hd]
    exact asking (e :: es) l k 0 w h
theorem fi_look : ∀ (l : MP) (k : V5) (i : Nat), (fiM l k i).map (·.2) = (look l k).map (.int .i64 ·)
  | [], _, _ => rfl
  | (v, x) :: l, k, i => by
    unfold fiM look
    by_cases h : k = v
    · rw [if_pos h, if_pos h]; rfl
    · rw [if_neg h, if_neg h]; exact fi_look l k (i + 1)
theorem zero_int (w : World) : (zeroValue 3).run Try.prog w = .ok (.int .i64 0) w := by kernel_rfl
theorem look_run {g : Nat} {l : MP} {w : World} (h : Mp g l w) (k : V5) : (Instr.lookup 70 (.map (some g)) k.a true).run Try.prog w = .ok (.tuple #[.int .i64 ((look l k).getD 0), .bool (look l k).isSome]) w ∧ (Instr.lookup 70 (.map (some g)) k.a false).run Try.prog w = .ok (.int .i64 ((look l k).getD 0)) w := by
  obtain ⟨es, c, hb, he⟩ := h
  have hf := fi_look l k 0
  unfold Instr.lookup
  simp only [Sem.run_bind, run_underlying Try.underlying70, Result.andThen_ok, Go.MapKept.run_getObj_map hb, Sem.run_pure, check_val, finding es.toList l k w he]
  cases hx : fiM l k 0 with
  | none =>
    rw [hx] at hf
    have hl : look l k = none := by cases hy : look l k with
      | none => rfl
      | some y => rw [hy] at hf; cases hf
    simp [hl]
  | some y =>
    rw [hx] at hf
    obtain ⟨i, v⟩ := y
    cases hy : look l k with
    | none => rw [hy] at hf; cases hf
    | some z =>
      rw [hy] at hf
      have : v = .int .i64 z := Option.some.inj hf
      simp [this]
theorem look_nil (k : V5) (w : World) : (Instr.lookup 70 (.map none) k.a true).run Try.prog w = .ok (.tuple #[.int .i64 0, .bool false]) w := by
  unfold Instr.lookup
  simp only [Sem.run_bind, run_underlying Try.underlying70, Result.andThen_ok, Sem.run_pure, check_val, finding [] [] k w rfl]
  simp [fiM]
theorem same_val (v : V5) : Instr.sameBits 10000 v.a v.a = true := by
  simp [Instr.sameBits, beq_toListBytes]
theorem fi_bound : ∀ (l : MP) (k : V5) (i j : Nat) (x : Value), fiM l k i = some (j, x) → i ≤ j ∧ ∃ (h : j - i < l.length), l[j - i].1 = k ∧ ∀ (y : Int), putM l k y = l.set (j - i) (k, y) ∧ delM l k = l.eraseIdx (j - i)
  | [], _, _, _, _, h => by cases h
  | (v, z) :: l, k, i, j, x, h => by
    unfold fiM at h
    by_cases hk : k = v
    · rw [if_pos hk] at h
      simp only [Option.some.injEq, Prod.mk.injEq] at h
      obtain ⟨rfl, _⟩ := h
      refine ⟨Nat.le_refl _, by simp, by simp [hk], fun y => ?_⟩
      unfold putM delM
      simp [hk]
    · rw [if_neg hk] at h
      obtain ⟨h1, h2, h3, h4⟩ := fi_bound l k (i + 1) j x h
      have e : j - i = (j - (i + 1)) + 1 := by omega
      refine ⟨by omega, by rw [e]; simpa using h2, ?_, fun y => ?_⟩
      · simp only [e, List.getElem_cons_succ]; exact h3
      · unfold putM delM
        rw [if_neg hk, if_neg hk, e, (h4 y).1, (h4 y).2]
        exact ⟨rfl, rfl⟩
theorem fi_none : ∀ (l : MP) (k : V5) (i : Nat), fiM l k i = none → ∀ y, putM l k y = l ++ [(k, y)] ∧ delM l k = l
  | [], _, _, _ => fun _ => ⟨rfl, rfl⟩
  | (v, z) :: l, k, i, h => by
    unfold fiM at h
    by_cases hk : k = v
    · rw [if_pos hk] at h; cases h
    · rw [if_neg hk] at h
      intro y
      have := fi_none l k (i + 1) h y
      unfold putM delM
      rw [if_neg hk, if_neg hk, this.1, this.2]
      exact ⟨rfl, rfl⟩
theorem Ch.setB {w : World} {g : Nat} (o : Obj) : Ch [g] w (setBlock w g o) := ⟨rfl, rfl, rfl, by simp [setBlock], fun i _ hi => by
  have : g ≠ i := fun e => hi (by simp [e])
  simp [setBlock, this]⟩
theorem map_modify (es : Array MapEntry) (j : Nat) (f : MapEntry → MapEntry) (l : List (Value × Value)) (y : Value × Value) (he : es.toList.map kv = l) (hf : ∀ e, es[j]? = some e → kv (f e) = y) : (es.modify j f).toList.map kv = l.set j y := by
  subst he
  apply List.ext_getElem?
  intro i
  simp only [List.getElem?_map, Array.getElem?_toList, Array.getElem?_modify, List.getElem?_set, List.length_map, Array.length_toList]
  by_cases hi : j = i
  · subst hi
    rw [if_pos rfl, if_pos rfl]
    by_cases hj : j < es.size
    · rw [if_pos hj, Array.getElem?_eq_getElem hj]
      simp only [Option.map_some, Option.some.injEq]
      exact hf _ (Array.getElem?_eq_getElem hj)
    · rw [if_neg hj, Array.getElem?_eq_none (by omega)]; rfl
  · rw [if_neg hi, if_neg hi]
theorem put_run {g : Nat} {l : MP} {w : World} (h : Mp g l w) (k : V5) (x : Int) : ∃ w', (Instr.mapUpdate 70 (.map (some g)) k.a (.int .i64 x)).run Try.prog w = .ok () w' ∧ Mp g (putM l k x) w' ∧ Ch [g] w w' := by
  obtain ⟨es, c, hb, he⟩ := h
  unfold Instr.mapUpdate
  simp only [Sem.run_bind, run_underlying Try.underlying70, Result.andThen_ok, Go.MapKept.run_getObj_map hb, check_val, finding es.toList l k w he]
  cases hx : fiM l k 0 with
  | none =>
    simp only [Go.MapKept.run_setObj_map _ hb]
    refine ⟨_, rfl, ⟨_, _, (Go.MapKept.heap_set hb).1, ?_⟩, Ch.setB _⟩
    rw [(fi_none l k 0 hx x).1]
    simp [he, kv, kvM]
  | some y =>
    obtain ⟨j, v⟩ := y
    obtain ⟨_, h2, h3, h4⟩ := fi_bound l k 0 j v hx
    simp only [Nat.sub_zero] at h2 h3 h4
    have hj : es[j]?.map kv = some (k.a, .int .i64 l[j].2) := by
      have := congrArg (fun z => z[j]?) he
      simp only [List.getElem?_map, Array.getElem?_toList, List.getElem?_eq_getElem h2, Option.map_some] at this
      rw [this]; simp [kvM, h3]
    obtain ⟨e0, he0, hk0⟩ := Option.map_eq_some_iff.1 hj
    have hkey : ((es[j]?).map (·.key)).getD k.a = k.a := by
      rw [he0]; exact congrArg Prod.fst hk0
    simp only [hkey, Instr.keyThatStays, same_val, if_true, Sem.run_bind, Sem.run_pure, Result.andThen_ok, Go.MapKept.run_setObj_map _ hb]
    refine ⟨_, rfl, ⟨_, _, (Go.MapKept.heap_set hb).1, ?_⟩, Ch.setB _⟩
    rw [(h4 x).1, List.map_set]
    exact map_modify es j _ _ _ he (fun e _ => rfl)
theorem map_erase {α β : Type} (f : α → β) : ∀ (l : List α) (j : Nat), (l.eraseIdx j).map f = (l.map f).eraseIdx j
  | [], _ => rfl
  | _ :: _, 0 => rfl
  | a :: l, j + 1 => by simp [map_erase f l j]
theorem del_run {g : Nat} {l : MP} {w : World} (h : Mp g l w) (k : V5) (t : TypeId) : ∃ w', (Builtin.delete_ #[70, 26] t #[.map (some g), k.a]).run Try.prog w = .ok (.tuple #[]) w' ∧ Mp g (delM l k) w' ∧ Ch [g] w w' := by
  obtain ⟨es, c, hb, he⟩ := h
  unfold Builtin.delete_
  simp only [List.getElem?_toArray, List.getElem?_cons_zero, List.getElem?_cons_succ, Sem.run_bind, run_underlying Try.underlying70, Result.andThen_ok, Go.MapKept.run_getObj_map hb, check_val, finding es.toList l k w he]
  cases hx : fiM l k 0 with
  | none =>
    simp only [Sem.run_bind, Go.MapKept.run_setObj_map _ hb, Result.andThen_ok, Sem.run_pure]
    refine ⟨_, rfl, ⟨_, _, (Go.MapKept.heap_set hb).1, ?_⟩, Ch.setB _⟩
    rw [(fi_none l k 0 hx 0).2]; exact he
  | some y =>
    obtain ⟨j, v⟩ := y
    obtain ⟨_, h2, h3, h4⟩ := fi_bound l k 0 j v hx
    simp only [Nat.sub_zero] at h2 h3 h4
    simp only [Sem.run_bind, Go.MapKept.run_setObj_map _ hb, Result.andThen_ok, Sem.run_pure]
    refine ⟨_, rfl, ⟨_, _, (Go.MapKept.heap_set hb).1, ?_⟩, Ch.setB _⟩
    rw [(h4 0).2]
    have hl : j < es.size := by
      have := congrArg List.length he
      simp at this; omega
    have e : (es.eraseIdxIfInBounds j).toList = es.toList.eraseIdx j := by
      unfold Array.eraseIdxIfInBounds
      rw [dif_pos hl]; simp
    rw [e, map_erase, he, map_erase]
end Go.Proofs.Ytaaelhhiceildaa
