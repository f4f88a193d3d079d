/- Layers 17 and 18: values, rows of values, copies. -/
import Derived.Test.YtdgdpckjcpgoaaaValC
import Derived.Deep.DeepCutAuto
import Derived.Deep.CutBlock
import Derived.BigQuiet
import Derived.Maps.AppendAt
import Derived.Laws.MakeOwn
import Derived.Laws.CopyOwn
import Derived.Laws.OwnMore
import Derived.Deep.AppendLies
import Derived.OwnWalk
import Derived.RegionTactic
import Derived.Deep.RegionLaw
import Derived.Deep.RegionHeld3
namespace Go.Proofs.Ytdgdpckjcpgoaaa
open Go.RowKit Go.Joins M1
set_option linter.unusedVariables false
theorem not_nil (g : Nat) : g ∉ ([] : List Nat) := by simp
theorem own_set {w : World} {B size n g cap : Nat} {e : TypeId} {xs : List Value} (ho : w.ownsRow B e size (.slice (some ⟨g, 0, none⟩) n cap) n xs) (j : Nat) (u : Value) :
    (w.setCell ⟨g, j, none⟩ u).ownsRow B e size (.slice (some ⟨g, 0, none⟩) n cap) n (xs.set j u) := by
  obtain ⟨h1, h2⟩ := ho
  refine ⟨by simpa using h1, ?_⟩
  rcases h2 with ⟨h, _⟩ | ⟨g', cap', cur, hv, r1, r2, r3, r4, r5, r6⟩
  · cases h
  · right
    cases hv
    refine ⟨g, cap, cur.setIfInBounds j u, rfl, r1, set_same w g j cur e u r2, r3, r4, by simpa using r5, ?_⟩
    rw [← r6]
    apply List.ext_getElem?
    intro i
    simp only [Array.toList_setIfInBounds, List.getElem?_take, List.getElem?_set, List.length_take]
    by_cases hi : i < n * size
    · simp only [hi, if_true]
      by_cases hj : j = i
      · subst hj
        simp only [if_true]
        by_cases hc : j < cur.toList.length
        · rw [if_pos hc, if_pos (by simp at *; omega)]
        · rw [if_neg hc, if_neg (by simp at *; omega)]
      · simp [hj]
    · simp only [hi, if_false]
      by_cases hj : j = i
      · subst hj; simp; omega
      · simp [hj]
theorem flat_at {α : Type} (f : α → List Value) (n : Nat) (hf : ∀ a, (f a).length = n) : ∀ (L : List α) (i j : Nat) (hi : i < L.length) (hj : j < n), (L.flatMap f)[i * n + j]? = (f L[i])[j]?
  | [], i, j, hi, _ => by simp at hi
  | a :: L, 0, j, _, hj => by
    simp only [List.flatMap_cons, Nat.zero_mul, Nat.zero_add, List.getElem_cons_zero]
    rw [List.getElem?_append_left (by rw [hf]; exact hj)]
  | a :: L, i + 1, j, hi, hj => by
    simp only [List.flatMap_cons, List.getElem_cons_succ]
    rw [List.getElem?_append_right (by rw [hf, Nat.succ_mul]; omega), hf, ← flat_at f n hf L i j (by simpa using hi) hj]
    congr 1
    rw [Nat.succ_mul]; omega
theorem set_flat {α : Type} (f : α → List Value) (n : Nat) (hf : ∀ a, (f a).length = n) : ∀ (L : List α) (i j : Nat) (hi : i < L.length) (hj : j < n) (u : Value) (a' : α), f a' = (f L[i]).set j u → (L.flatMap f).set (i * n + j) u = (L.set i a').flatMap f
  | [], i, j, hi, _, _, _, _ => by simp at hi
  | a :: L, 0, j, _, hj, u, a', h => by
    simp only [List.flatMap_cons, Nat.zero_mul, Nat.zero_add, List.set_cons_zero]
    rw [List.set_append_left _ _ (by rw [hf]; exact hj), h]; rfl
  | a :: L, i + 1, j, hi, hj, u, a', h => by
    simp only [List.flatMap_cons, List.set_cons_succ]
    rw [List.set_append_right _ _ (by rw [hf, Nat.succ_mul]; omega), hf, ← set_flat f n hf L i j (by simpa using hi) hj u a' h]
    congr 2
    rw [Nat.succ_mul]; omega
def v5z : V5 := ⟨0, 0, 0, ⟨#[]⟩, 0⟩
def stL (W : World) (g o : Nat) : List Value → World
  | [] => W
  | a :: us => stL (W.setCell ⟨g, o, none⟩ a) g (o + 1) us
def patch (c : List Value) (j : Nat) : List Value → List Value
  | [] => c
  | a :: us => patch (c.set j a) (j + 1) us
theorem patch_len (c : List Value) (j : Nat) (us : List Value) : (patch c j us).length = c.length := by
  induction us generalizing c j with
  | nil => rfl
  | cons a us ih => unfold patch; rw [ih]; simp
/-- A row in pieces of n cells; a piece is written into. -/
theorem row_store {B n m g cap : Nat} {e : TypeId} (us : List Value) : ∀ {w : World} {C : List (List Value)} (hC : ∀ c ∈ C, c.length = n) (i j : Nat) (hi : i < C.length) (hj : j + us.length ≤ n) (ho : w.ownsRow B e n (.slice (some ⟨g, 0, none⟩) m cap) m C.flatten),
    (stL w g (i * n + j) us).ownsRow B e n (.slice (some ⟨g, 0, none⟩) m cap) m (C.set i (patch C[i] j us)).flatten := by
  induction us with
  | nil => intro w C hC i j hi hj ho; simpa [stL, patch] using ho
  | cons a us ih =>
    intro w C hC i j hi hj ho
    simp only [List.length_cons] at hj
    have h1 := own_set ho (i * n + j) a
    have h2 : (C.flatten).set (i * n + j) a = (C.set i (C[i].set j a)).flatten := by
      have key : ∀ (D : List (List Value)), (∀ c ∈ D, c.length = n) → ∀ (i : Nat) (hi : i < D.length) (j : Nat) (_ : j < n), D.flatten.set (i * n + j) a = (D.set i (D[i].set j a)).flatten := by
        intro D
        induction D with
        | nil => intro _ i hi; simp at hi
        | cons c D ihD =>
          intro hD i hi j hj
          have hc := hD c (by simp)
          cases i with
          | zero =>
            simp only [List.flatten_cons, Nat.zero_mul, Nat.zero_add, List.set_cons_zero, List.getElem_cons_zero]
            rw [List.set_append_left _ _ (by rw [hc]; exact hj)]
          | succ i =>
            simp only [List.flatten_cons, List.set_cons_succ, List.getElem_cons_succ]
            rw [List.set_append_right _ _ (by rw [hc, Nat.succ_mul]; omega), hc, ← ihD (fun c' h' => hD c' (by simp [h'])) i (by simpa using hi) j hj]
            congr 2
            rw [Nat.succ_mul]; omega
      exact key C hC i hi j (by omega)
    rw [h2] at h1
    have := ih (C := C.set i (C[i].set j a)) (fun c hc => by
      rcases List.mem_or_eq_of_mem_set hc with h | h
      · exact hC c h
      · rw [h, List.length_set]; exact hC _ (List.getElem_mem hi)) i (j + 1) (by simpa using hi) (by omega) h1
    simp only [List.getElem_set_self, List.set_set] at this
    exact this
theorem stL_ch {S : List Nat} {g : Nat} (hg : g ∈ S) : ∀ (us : List Value) (o : Nat) {w W : World}, Ch S w W → Ch S w (stL W g o us)
  | [], _, _, _, h => h
  | a :: us, o, _, _, h => stL_ch hg us (o + 1) (h.set g o a (.inl hg))
theorem stL_blk {T : TypeId} {g b : Nat} {cs : Array Value} (hb : b ≠ g) (us : List Value) (o : Nat) {W : World} (h : Blk T b cs W) : Blk T b cs (stL W g o us) :=
  h.ch (stL_ch (S := [g]) (by simp) us o (Ch.refl [g] W)) (by simpa using hb)
def okV (v : V5) : Bool := validF v.k v.p v.q v.s v.r
def vC (v : V5) : List Value := [.int .i64 v.k, .int .i64 v.p, .int .i64 v.q, .string v.s, .int .i64 v.r]
theorem vC_len (v : V5) : (vC v).length = 5 := rfl
theorem info_val : (Try.prog.info? 26).map (fun i => (i.zero, i.size, i.bytes)) = some (some (.agg #[.int .i64 0, .int .i64 0, .int .i64 0, .string ⟨#[]⟩, .int .i64 0]), 5, 48) := by kernel_rfl
theorem vC_at (x : V5) (W : World) (n : Nat) (hn : n = W.heap.size) : ∀ j u, (vC x)[j]? = some u → (W.alloc (.cells #[.int .i64 x.k, .int .i64 x.p, .int .i64 x.q, .string x.s, .int .i64 x.r] 26)).cell? ((⟨n, 0, none⟩ : Addr).add j) = some u := by
  subst hn
  intro j u hu
  have ha : (⟨W.heap.size, 0, none⟩ : Addr).add j = ⟨W.heap.size, j, none⟩ := by cases j <;> simp [Addr.add]
  rw [ha, Blk.cell (Blk.new W 26 #[.int .i64 x.k, .int .i64 x.p, .int .i64 x.q, .string x.s, .int .i64 x.r] _ rfl)]
  simpa [vC] using hu
theorem vC_one (x : V5) : ∀ u ∈ vC x, u.oneCell' = true := by
  intro u hu
  simp [vC] at hu
  rcases hu with rfl | rfl | rfl | rfl | rfl <;> rfl
theorem eq_v5 (a c : V5) (W : World) : (binOp .eql 26 (.agg #[.int .i64 a.k, .int .i64 a.p, .int .i64 a.q, .string a.s, .int .i64 a.r]) (.agg #[.int .i64 c.k, .int .i64 c.p, .int .i64 c.q, .string c.s, .int .i64 c.r])).run Try.prog W = .ok (.bool (decide (a = c))) W := by
  rw [eq_val]
  have : eqV a.k a.p a.q a.s a.r c.k c.p c.q c.s c.r = decide (a = c) := by
    unfold eqV
    rw [Bool.eq_iff_iff]
    cases a; cases c; simp
  rw [this]
theorem map_flat {α : Type} (f : α → List Value) (L : List α) : (L.map f).flatten = L.flatMap f := by rw [List.flatMap_def]
theorem neq_v5g (a c : V5) (W : World) : (binOp .neq 26 (.agg #[.int .i64 a.k, .int .i64 a.p, .int .i64 a.q, .string a.s, .int .i64 a.r]) (.agg #[.int .i64 c.k, .int .i64 c.p, .int .i64 c.q, .string c.s, .int .i64 c.r])).run Try.prog W = .ok (.bool (!decide (a = c))) W := by
  rw [neq_val]
  have : eqV a.k a.p a.q a.s a.r c.k c.p c.q c.s c.r = decide (a = c) := by
    unfold eqV
    rw [Bool.eq_iff_iff]
    cases a; cases c; simp
  rw [this]
theorem neq_v5 (a : V5) (W : World) : (binOp .neq 26 (.agg #[.int .i64 a.k, .int .i64 a.p, .int .i64 a.q, .string a.s, .int .i64 a.r]) (.agg #[.int .i64 a.k, .int .i64 a.p, .int .i64 a.q, .string a.s, .int .i64 a.r])).run Try.prog W = .ok (.bool false) W := by
  rw [neq_v5g]; simp
theorem addr_addQ (g o n : Nat) : (⟨g, o, none⟩ : Addr).add n = ⟨g, o + n, none⟩ := by
  unfold Addr.add; split
  · rename_i h; subst h; rfl
  · rfl
theorem take_flat (l : List V5) (n : Nat) : (l.take n).flatMap vC = (l.flatMap vC).take (n * 5) := by
  induction l generalizing n with
  | nil => simp
  | cons x l ih =>
    cases n with
    | zero => simp
    | succ n =>
      have h1 : (vC x).take ((n + 1) * 5) = vC x := List.take_of_length_le (by rw [vC_len]; omega)
      rw [List.take_succ_cons, List.flatMap_cons, List.flatMap_cons, ih, List.take_append, vC_len, h1, show (n + 1) * 5 - 5 = n * 5 by omega]
theorem own_take {w : World} {B : Nat} {e : TypeId} {size L n cap : Nat} {p : Option Addr} {xs : List Value} (h : w.ownsRow B e size (.slice p L cap) L xs) (hn : n ≤ L) : w.ownsRow B e size (.slice p n cap) n (xs.take (n * size)) := by
  obtain ⟨h1, h2⟩ := h
  have hm := Nat.mul_le_mul_right size hn
  refine ⟨by rw [List.length_take, h1]; omega, ?_⟩
  rcases h2 with ⟨e1, e2⟩ | ⟨g, cap', cur, e1, q1, q2, q3, q4, q5, q6⟩
  · injection e1 with e1 e3 e4
    subst e1; subst e4
    left
    exact ⟨by rw [show n = 0 by omega], by omega⟩
  · right
    injection e1 with e1 e3 e4
    subst e1; subst e4
    refine ⟨g, cap, cur, rfl, q1, q2, by omega, q4, q5, ?_⟩
    rw [← q6, List.take_take, Nat.min_eq_left hm]
theorem run_copy5 {P : Program} (w : World) (dT sT ty elem : TypeId) (g o dLen dCap : Nat) (a : Addr) (sLen sCap : Nat) (cur : Array Value) (t : TypeId) (cs : List Value)
    (hu : P.underlying dT = some (.slice elem)) (hs : (P.info? elem).map (·.size) = some 5)
    (hg : w.heap[g]? = some (.cells cur t (0, 0))) (hn : cs.length = Nat.min sLen dLen * 5)
    (hsrc : ∀ j v, cs[j]? = some v → w.cell? (a.add j) = some v) (hfit : o + cs.length ≤ cur.size) (h1 : ∀ v ∈ cs, v.oneCell' = true) :
    (Builtin.copy_ #[dT, sT] ty #[.slice (some ⟨g, o, none⟩) dLen dCap, .slice (some a) sLen sCap]).run P w =
      .ok (goInt (Nat.min sLen dLen)) (w.setRow g (cur.toList.take o ++ cs ++ cur.toList.drop (o + cs.length)).toArray) := by
  have hl := run_loadCells_list (P := P) w a cs hsrc
  have hst := run_storeCells_at P g o t cs 0 cur w hg (by simpa using hfit) h1
  cases hq : P.info? elem with
  | none => simp [hq] at hs
  | some i =>
    have hi : i.size = 5 := by simpa [hq] using hs
    simp [Builtin.copy_, run_underlying hu, Builtin.lenOf, Builtin.firstCells, sizeOf, typeInfo, hq, hi, ← hn, hl, hst]
theorem wpList_copy5 {P : Program} {w : World} {ops : Array Oper} {rest : List Oper} {o : Oper} {a : Act} {Q : Exit → Act → World → Prop} (hgd : o.guard = none) (d s : Operand) (t t' : TypeId)
    (ho : o.op = .call { callee := .builtin .copy, args := #[d, s], argTypes := #[t, t'] }) (v u : Value) (hd : a.eval d = v) (hs : a.eval s = u) {v' : Value} {w' : World}
    (hr : (Builtin.copy_ #[t, t'] o.type #[v, u]).run P w = .ok v' w') (h : wpList P ops Q rest (a.put o.dst v') w') : wpList P ops Q (o :: rest) a w := by
  refine wpList_plain hgd fun _ hK => ?_
  unfold Oper.wp execOp
  simp only [ho, resolve, invoke, builtin, Sem.run_bind, Sem.run_pure, Result.andThen_ok, List.map_toArray, List.map_cons, List.map_nil, hd, hs, hr]
  exact hK _ _ h
theorem drop_flat (l : List V5) (n : Nat) : (l.drop n).flatMap vC = (l.flatMap vC).drop (n * 5) := by
  induction l generalizing n with
  | nil => simp
  | cons x l ih =>
    cases n with
    | zero => simp
    | succ n =>
      have h1 : (vC x).drop ((n + 1) * 5) = [] := List.drop_of_length_le (by rw [vC_len]; omega)
      rw [List.drop_succ_cons, List.flatMap_cons, ih, List.drop_append, vC_len, h1, show (n + 1) * 5 - 5 = n * 5 by omega, List.nil_append]
theorem flat5_len (l : List V5) : (l.flatMap vC).length = l.length * 5 := by
  induction l with
  | nil => rfl
  | cons x l ih => rw [List.flatMap_cons, List.length_append, ih, vC_len, List.length_cons]; omega
theorem vC_onel (l : List V5) : ∀ u ∈ l.flatMap vC, u.oneCell' = true := fun u hu => by
  obtain ⟨x, _, hx⟩ := List.mem_flatMap.1 hu
  exact vC_one x u hx
theorem ch_row {g : Nat} (w : World) (cs : Array Value) : Ch [g] w (w.setRow g cs) :=
  ⟨rfl, rfl, rfl, by simp [World.setRow], fun k hk hn => setRow_other w g k cs (by simp at hn; exact hn)⟩
theorem run_copy_none5 {P : Program} (w : World) (dT sT ty elem : TypeId) (d a : Option Addr) (dLen dCap sLen sCap : Nat) (hu : P.underlying dT = some (.slice elem)) (hs : (P.info? elem).map (·.size) = some 5) (hn : Nat.min sLen dLen = 0) :
    (Builtin.copy_ #[dT, sT] ty #[.slice d dLen dCap, .slice a sLen sCap]).run P w = .ok (goInt 0) w := by
  cases hq : P.info? elem with
  | none => simp [hq] at hs
  | some i =>
    have hl : ∀ (x : Addr), (loadCells x 0).run P w = .ok #[] w := fun x => by simpa using run_loadCells_list (P := P) w x [] (by simp)
    cases d <;> cases a <;> simp [Builtin.copy_, run_underlying hu, Builtin.lenOf, Builtin.firstCells, sizeOf, typeInfo, hq, hn, storeCells, hl]
theorem ob_len {p : Option Addr} {n n' cap : Nat} (g : Nat) : g ∈ Go.Proofs.Ytdgdpckjcpgoaaa.ob (Value.slice p n cap) ↔ g ∈ Go.Proofs.Ytdgdpckjcpgoaaa.ob (Value.slice p n' cap) := by
  rw [mem_ob, mem_ob]
  cases p with
  | none => simp [Value.ownBlock]
  | some a => simp [Value.ownBlock]
abbrev VT : TypeId := 26
/-- A part of the values, laid anew somewhere within the row. -/
theorem row_laid {B g cap : Nat} {l : List V5} {w : World} (h : w.ownsRow B 26 5 (.slice (some ⟨g, 0, none⟩) l.length cap) l.length (l.flatMap vC)) (o : Nat) (X : List V5) (ho : o + X.length ≤ l.length) :
    ∃ cur : Array Value, w.heap[g]? = some (.cells cur 26 (0, 0)) ∧ l.length * 5 ≤ cur.size ∧ cur.toList.take (l.length * 5) = l.flatMap vC ∧
    (w.setRow g (cur.toList.take (o * 5) ++ X.flatMap vC ++ cur.toList.drop (o * 5 + (X.flatMap vC).length)).toArray).ownsRow B 26 5 (.slice (some ⟨g, 0, none⟩) l.length cap) l.length ((l.take o ++ X ++ l.drop (o + X.length)).flatMap vC) := by
  obtain ⟨h1, h2⟩ := h
  rcases h2 with ⟨e1, _⟩ | ⟨g', cap', cur, e1, q1, q2, q3, q4, q5, q6⟩
  · injection e1 with e1; cases e1
  injection e1 with e1 e2 e3
  injection e1 with e1
  injection e1 with e1
  subst e1; subst e3
  have hsz : l.length * 5 ≤ cur.size := by rw [q5]; exact Nat.mul_le_mul_right 5 q3
  refine ⟨cur, q2, hsz, q6, ?_⟩
  have hXl := flat5_len X
  have hal : (l.take o ++ X ++ l.drop (o + X.length)).length = l.length := by simp; omega
  refine ⟨by rw [flat5_len, hal], Or.inr ⟨g, cap, _, rfl, q1, setRow_heap w g cur _ _ _ q2, q3, q4, ?_, ?_⟩⟩
  · have hq : cur.toList.length = cap * 5 := by simpa using q5
    rw [List.size_toArray, List.length_append, List.length_append, List.length_take, List.length_drop, hq, hXl]
    omega
  · have hcl : cur.toList.length = cap * 5 := by simpa using q5
    rw [List.flatMap_append, List.flatMap_append, take_flat, drop_flat, ← q6]
    simp only [List.take_take, List.drop_take]
    rw [List.take_append, List.take_append, List.length_append, hXl, List.length_take, hcl]
    rw [List.take_take]
    have a1 : min (l.length * 5) (o * 5) = o * 5 := by omega
    have a2 : min (o * 5) (l.length * 5) = o * 5 := by omega
    have a3 : min (o * 5) (cap * 5) = o * 5 := by omega
    rw [a1, a2, a3, List.take_of_length_le (l := X.flatMap vC) (by rw [hXl]; omega)]
    congr 1
    rw [show l.length * 5 - (o * 5 + X.length * 5) = l.length * 5 - (o + X.length) * 5 by omega, show o * 5 + X.length * 5 = (o + X.length) * 5 by omega]
/-- Values read from a row of the call's own. -/
theorem row_src {B g cap : Nat} {l : List V5} {w : World} (h : w.ownsRow B 26 5 (.slice (some ⟨g, 0, none⟩) l.length cap) l.length (l.flatMap vC)) (j K : Nat) (hj : j + K ≤ l.length) : ∀ q u, (((l.drop j).take K).flatMap vC)[q]? = some u → w.cell? ((⟨g, j * 5, none⟩ : Addr).add q) = some u := by
  intro q u hu
  rw [take_flat, drop_flat, List.getElem?_take] at hu
  split at hu
  · rename_i hq
    rw [List.getElem?_drop] at hu
    rw [addr_addQ, h.cellAt (j * 5 + q) (by omega)]
    exact hu
  · cases hu
def zC : List Value := [.int .i64 0, .int .i64 0, .int .i64 0, .string ⟨#[]⟩, .int .i64 0]
theorem zC_vC : vC v5z = zC := rfl
theorem zero5 (n : Nat) : (Builtin.zeroCells #[.int .i64 0, .int .i64 0, .int .i64 0, .string ⟨#[]⟩, .int .i64 0] n).toList = (List.replicate n v5z).flatMap vC := by
  apply List.ext_getElem?
  intro i
  unfold Builtin.zeroCells
  by_cases hi : i < n * 5
  · have e1 : i / 5 < n := by omega
    have e2 : i % 5 < 5 := by omega
    have e3 : i = i / 5 * 5 + i % 5 := by omega
    have hR := flat_at vC 5 vC_len (List.replicate n v5z) (i / 5) (i % 5) (by simpa using e1) e2
    rw [← e3] at hR
    rw [hR, List.getElem_replicate]
    have hL : ((Array.range (n * 5)).map fun i => (#[.int .i64 0, .int .i64 0, .int .i64 0, .string ⟨#[]⟩, .int .i64 0] : Array Value)[i % 5]!).toList[i]? = some ((#[.int .i64 0, .int .i64 0, .int .i64 0, .string ⟨#[]⟩, .int .i64 0] : Array Value)[i % 5]!) := by
      simp [hi]
    have hL2 := hL
    refine Eq.trans hL2 ?_
    generalize i % 5 = r at e2
    match r, e2 with
    | 0, _ => rfl
    | 1, _ => rfl
    | 2, _ => rfl
    | 3, _ => rfl
    | 4, _ => rfl
  · have a1 : ((List.replicate n v5z).flatMap vC)[i]? = none := by
      rw [List.getElem?_eq_none_iff, flat5_len, List.length_replicate]; omega
    rw [a1, List.getElem?_eq_none_iff]
    simp; omega
theorem run_clear5 {P : Program} (w : World) (sT elem ty : TypeId) (g o n c : Nat) (cur : Array Value) (t : TypeId)
    (hu : P.underlying sT = some (.slice elem)) (hz : ∀ w, (zeroValue elem).run P w = .ok (.agg #[.int .i64 0, .int .i64 0, .int .i64 0, .string ⟨#[]⟩, .int .i64 0]) w)
    (hg : w.heap[g]? = some (.cells cur t (0, 0))) (hn : 0 < n) (hfit : o + n * 5 ≤ cur.size) :
    (Builtin.clear_ #[sT] ty #[.slice (some ⟨g, o, none⟩) n c]).run P w =
      .ok (.tuple #[]) (w.setRow g (cur.toList.take o ++ (List.replicate n v5z).flatMap vC ++ cur.toList.drop (o + ((List.replicate n v5z).flatMap vC).length)).toArray) := by
  obtain ⟨n, rfl⟩ : ∃ m, n = m + 1 := ⟨n - 1, by omega⟩
  have hst := run_storeCells_at P g o t ((List.replicate (n + 1) v5z).flatMap vC) 0 cur w hg (by rw [flat5_len, List.length_replicate]; omega) (vC_onel _)
  have h0 : (zeroValue elem).run P w = .ok (.agg #[.int .i64 0, .int .i64 0, .int .i64 0, .string ⟨#[]⟩, .int .i64 0]) w := hz w
  simp only [Nat.add_zero] at hst
  simp [Builtin.clear_, run_underlying hu, h0, Value.cells, zero5, hst]
theorem run_clear_none {P : Program} (w : World) (sT ty elem : TypeId) (p : Option Addr) (n c : Nat) (hu : P.underlying sT = some (.slice elem)) (hn : p = none ∨ n = 0) :
    (Builtin.clear_ #[sT] ty #[.slice p n c]).run P w = .ok (.tuple #[]) w := by
  rcases hn with rfl | rfl
  · simp [Builtin.clear_, run_underlying hu]
  · cases p <;> simp [Builtin.clear_, run_underlying hu]
theorem wpList_clear {P : Program} {w : World} {ops : Array Oper} {rest : List Oper} {o : Oper} {a : Act} {Q : Exit → Act → World → Prop} (hgd : o.guard = none) (d : Operand) (t : TypeId)
    (ho : o.op = .call { callee := .builtin .clear, args := #[d], argTypes := #[t] }) (v : Value) (hd : a.eval d = v) {v' : Value} {w' : World}
    (hr : (Builtin.clear_ #[t] o.type #[v]).run P w = .ok v' w') (h : wpList P ops Q rest (a.put o.dst v') w') : wpList P ops Q (o :: rest) a w := by
  refine wpList_plain hgd fun _ hK => ?_
  unfold Oper.wp execOp
  simp only [ho, resolve, invoke, builtin, Sem.run_bind, Sem.run_pure, Result.andThen_ok, List.map_toArray, List.map_cons, List.map_nil, hd, hr]
  exact hK _ _ h
theorem made5 (n : Nat) : (madeCells #[.int .i64 0, .int .i64 0, .int .i64 0, .string ⟨#[]⟩, .int .i64 0] (n * 5)).toList = (List.replicate n v5z).flatMap vC := by
  rw [← zero5 n]; rfl
theorem zero_val (w : World) : (zeroValue 26).run Try.prog w = .ok (.agg #[.int .i64 0, .int .i64 0, .int .i64 0, .string ⟨#[]⟩, .int .i64 0]) w := by
  obtain ⟨i0, hi0, jz0, jz1, jz2⟩ := info_parts info_val
  simp [zeroValue, typeInfo, hi0, jz0]
end Go.Proofs.Ytdgdpckjcpgoaaa
