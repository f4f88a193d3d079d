/- Layer 13: a map of integers to true, in memory. -/
import Derived.Test.YtaaelhhiceildaaTbOp
namespace Go.Proofs.Ytaaelhhiceildaa
open Go.RowKit Go.Joins M1
set_option linter.unusedVariables false
def kI (k : Int) : Value × Value := (.int .i64 k, .bool true)
def Mi (g : Nat) (D : List Int) (w : World) : Prop := ∃ es clock, w.heap[g]? = some (.map es clock) ∧ es.toList.map kv = D.map kI
theorem Mi.lt {g : Nat} {D : List Int} {w : World} (h : Mi g D w) : g < w.heap.size := by
  obtain ⟨es, c, hb, _⟩ := h
  exact (Array.getElem?_eq_some_iff.1 hb).1
theorem Mi.ch {g : Nat} {D : List Int} {w w' : World} {S : List Nat} (h : Mi g D w) (hc : Ch S w w') (hg : g ∉ S) : Mi g D w' := by
  have hl := h.lt
  obtain ⟨es, c, hb, he⟩ := h
  exact ⟨es, c, (hc.block g hl hg).trans hb, he⟩
theorem Mi.new (w : World) (n : Nat) (hn : n = w.heap.size) : Mi n [] (w.alloc (.map #[] 0)) := by
  subst hn; exact ⟨#[], 0, heap_new _ _, rfl⟩
def fiI : List Int → Int → Nat → Option (Nat × Value)
  | [], _, _ => none
  | v :: r, k, i => if k = v then some (i, .bool true) else fiI r k (i + 1)
theorem checkI (e : Bool) (k : Int) (w : World) : (Instr.checkKey e 10000 3 (.int .i64 k)).run Try.prog w = .ok () w := by kernel_rfl
theorem nowI (K : IntKind) : ∀ (es : List MapEntry) (D : List Int) (k : Int) (i : Nat), es.map kv = D.map kI → Instr.findNow (.int K) (.int .i64 k) es i = some (fiI D k i)
  | [], [], _, _, _ => rfl
  | [], _ :: _, _, _, h => by cases h
  | _ :: _, [], _, _, h => by cases h
  | e :: es, v :: D, k, i, h => by
    simp only [List.map_cons, List.cons.injEq] at h
    obtain ⟨h1, h2⟩ := h
    have e1 : e.key = .int .i64 v := congrArg Prod.fst h1
    have e2 : e.val = .bool true := congrArg Prod.snd h1
    unfold Instr.findNow fiI
    rw [e1, e2]
    by_cases hk : k = v
    · simp [Instr.sameNow, hk]
    · have : (k == v) = false := beq_eq_false_iff_ne.2 hk
      simp only [Instr.sameNow, if_true, this, hk, if_false]
      exact nowI K es D k (i + 1) h2
theorem findI (es : List MapEntry) (D : List Int) (k : Int) (w : World) (h : es.map kv = D.map kI) : (Instr.findKey 3 (.int .i64 k) es).run Try.prog w = .ok (fiI D k 0) w := by
  unfold Instr.findKey
  simp only [Sem.run_bind, run_underlying Try.underlying3, Result.andThen_ok, nowI _ es D k 0 h, Sem.run_pure]
theorem fiI_mem : ∀ (D : List Int) (k : Int) (i : Nat), (k ∈ D → ∃ j, fiI D k i = some (j, .bool true)) ∧ (k ∉ D → fiI D k i = none)
  | [], _, _ => ⟨fun h => (by cases h), fun _ => rfl⟩
  | v :: D, k, i => by
    unfold fiI
    by_cases hk : k = v
    · exact ⟨fun _ => ⟨i, by rw [if_pos hk]⟩, fun h => absurd (by simp [hk]) h⟩
    · rw [if_neg hk]
      obtain ⟨h1, h2⟩ := fiI_mem D k (i + 1)
      exact ⟨fun h => h1 (by simpa [hk] using h), fun h => h2 (fun q => h (List.mem_cons_of_mem _ q))⟩
theorem zero_bl (w : World) : (zeroValue 4).run Try.prog w = .ok (.bool false) w := by kernel_rfl
theorem lookI {g : Nat} {D : List Int} {w : World} (h : Mi g D w) (k : Int) : (Instr.lookup 52 (.map (some g)) (.int .i64 k) false).run Try.prog w = .ok (.bool (decide (k ∈ D))) w := by
  obtain ⟨es, c, hb, he⟩ := h
  unfold Instr.lookup
  simp only [Sem.run_bind, run_underlying Try.underlying52, Result.andThen_ok, Go.MapKept.run_getObj_map hb, Sem.run_pure, checkI, findI es.toList D k w he]
  by_cases hk : k ∈ D
  · obtain ⟨j, hj⟩ := (fiI_mem D k 0).1 hk
    simp [hj, hk]
  · simp [(fiI_mem D k 0).2 hk, hk]
theorem fiI_at : ∀ (D : List Int) (k : Int) (i j : Nat) (x : Value), fiI D k i = some (j, x) → i ≤ j ∧ ∃ h : j - i < D.length, D[j - i] = k
  | [], _, _, _, _, h => by cases h
  | v :: D, k, i, j, x, h => by
    unfold fiI at h
    by_cases hk : k = v
    · rw [if_pos hk] at h
      simp only [Option.some.injEq, Prod.mk.injEq] at h
      obtain ⟨rfl, _⟩ := h
      exact ⟨Nat.le_refl _, by simp, by simp [hk]⟩
    · rw [if_neg hk] at h
      obtain ⟨h1, h2, h3⟩ := fiI_at D k (i + 1) j x h
      have e : j - i = (j - (i + 1)) + 1 := by omega
      refine ⟨by omega, by rw [e]; simpa using h2, ?_⟩
      simp only [e, List.getElem_cons_succ]; exact h3
theorem sameI (k : Int) : Instr.sameBits 10000 (.int .i64 k) (.int .i64 k) = true := by
  simp [Instr.sameBits]
def addI (D : List Int) (k : Int) : List Int := if k ∈ D then D else D ++ [k]
theorem putI {g : Nat} {D : List Int} {w : World} (h : Mi g D w) (k : Int) : ∃ w', (Instr.mapUpdate 52 (.map (some g)) (.int .i64 k) (.bool true)).run Try.prog w = .ok () w' ∧ Mi g (addI D k) w' ∧ Ch [g] w w' := by
  obtain ⟨es, c, hb, he⟩ := h
  unfold Instr.mapUpdate
  simp only [Sem.run_bind, run_underlying Try.underlying52, Result.andThen_ok, Go.MapKept.run_getObj_map hb, checkI, findI es.toList D k w he]
  cases hx : fiI D k 0 with
  | none =>
    have hk : k ∉ D := fun q => by
      obtain ⟨j, hj⟩ := (fiI_mem D k 0).1 q
      rw [hx] at hj; cases hj
    simp only [Go.MapKept.run_setObj_map _ hb]
    refine ⟨_, rfl, ⟨_, _, (Go.MapKept.heap_set hb).1, ?_⟩, Ch.setB _⟩
    unfold addI
    rw [if_neg hk]
    simp [he, kv, kI]
  | some y =>
    obtain ⟨j, v⟩ := y
    obtain ⟨_, h2, h3⟩ := fiI_at D k 0 j v hx
    simp only [Nat.sub_zero] at h2 h3
    have hk : k ∈ D := by rw [← h3]; exact List.getElem_mem _
    have hj : es[j]?.map kv = some (.int .i64 k, .bool true) := by
      have := congrArg (fun z => z[j]?) he
      simp only [List.getElem?_map, Array.getElem?_toList, List.getElem?_eq_getElem h2, Option.map_some] at this
      rw [this]; simp [kI, h3]
    obtain ⟨e0, he0, hk0⟩ := Option.map_eq_some_iff.1 hj
    have hkey : ((es[j]?).map (·.key)).getD (.int .i64 k) = .int .i64 k := by
      rw [he0]; exact congrArg Prod.fst hk0
    simp only [hkey, Instr.keyThatStays, sameI, if_true, Sem.run_bind, Sem.run_pure, Result.andThen_ok, Go.MapKept.run_setObj_map _ hb]
    refine ⟨_, rfl, ⟨_, _, (Go.MapKept.heap_set hb).1, ?_⟩, Ch.setB _⟩
    unfold addI
    rw [if_pos hk, map_modify es j _ (D.map kI) (kI k) he (fun e _ => rfl)]
    apply List.ext_getElem?
    intro i
    rw [List.getElem?_set]
    by_cases hij : j = i
    · subst hij
      rw [if_pos rfl, if_pos (by simpa using h2), List.getElem?_map, List.getElem?_eq_getElem h2, h3]; rfl
    · rw [if_neg hij]
theorem lenI {g : Nat} {D : List Int} {w : World} (h : Mi g D w) (t : TypeId) : (Builtin.len_ #[52] t #[.map (some g)]).run Try.prog w = .ok (.int .i64 (D.length : Int)) w := by
  obtain ⟨es, c, hb, he⟩ := h
  have hl : es.size = D.length := by
    have := congrArg List.length he
    simpa using this
  unfold Builtin.len_
  simp only [List.getElem?_toArray, List.getElem?_cons_zero, Sem.run_bind, run_underlying Try.underlying52, Result.andThen_ok, Go.MapKept.run_getObj_map hb, Sem.run_pure, goInt, hl]
end Go.Proofs.Ytaaelhhiceildaa
