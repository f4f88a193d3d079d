/- Layer 12: rows of slots; ordered maps us mathematics and in memory. -/
import Derived.Test.YtaaelhhiceildaaOdrA
namespace Go.Proofs.Ytaaelhhiceildaa
open Go.RowKit M1
set_option linter.unusedVariables false
theorem own_set {w : World} {B size n g cap : Nat} {e : TypeId} {xs : List Value} (ho : w.ownsRow B e size (.slice (some ⟨g, 0, none⟩) n cap) n xs) (j : Nat) (u : Value) :
    (w.setCell ⟨g, j, none⟩ u).ownsRow B e size (.slice (some ⟨g, 0, none⟩) n cap) n (xs.set j u) := by
  obtain ⟨h1, h2⟩ := ho
  refine ⟨by simpa using h1, ?_⟩
  rcases h2 with ⟨h, _⟩ | ⟨g', cap', cur, hv, r1, r2, r3, r4, r5, r6⟩
  · cases h
  · right
    cases hv
    refine ⟨g, cap, cur.setIfInBounds j u, rfl, r1, set_same w g j cur e u r2, r3, r4, by simpa using r5, ?_⟩
    rw [← r6]
    apply List.ext_getElem?
    intro i
    simp only [Array.toList_setIfInBounds, List.getElem?_take, List.getElem?_set, List.length_take]
    by_cases hi : i < n * size
    · simp only [hi, if_true]
      by_cases hj : j = i
      · subst hj
        simp only [if_true]
        by_cases hc : j < cur.toList.length
        · rw [if_pos hc, if_pos (by simp at *; omega)]
        · rw [if_neg hc, if_neg (by simp at *; omega)]
      · simp [hj]
    · simp only [hi, if_false]
      by_cases hj : j = i
      · subst hj; simp; omega
      · simp [hj]
theorem flat_at {α : Type} (f : α → List Value) (n : Nat) (hf : ∀ a, (f a).length = n) : ∀ (L : List α) (i j : Nat) (hi : i < L.length) (hj : j < n), (L.flatMap f)[i * n + j]? = (f L[i])[j]?
  | [], i, j, hi, _ => by simp at hi
  | a :: L, 0, j, _, hj => by
    simp only [List.flatMap_cons, Nat.zero_mul, Nat.zero_add, List.getElem_cons_zero]
    rw [List.getElem?_append_left (by rw [hf]; exact hj)]
  | a :: L, i + 1, j, hi, hj => by
    simp only [List.flatMap_cons, List.getElem_cons_succ]
    rw [List.getElem?_append_right (by rw [hf, Nat.succ_mul]; omega), hf, ← flat_at f n hf L i j (by simpa using hi) hj]
    congr 1
    rw [Nat.succ_mul]; omega
theorem set_flat {α : Type} (f : α → List Value) (n : Nat) (hf : ∀ a, (f a).length = n) : ∀ (L : List α) (i j : Nat) (hi : i < L.length) (hj : j < n) (u : Value) (a' : α), f a' = (f L[i]).set j u → (L.flatMap f).set (i * n + j) u = (L.set i a').flatMap f
  | [], i, j, hi, _, _, _, _ => by simp at hi
  | a :: L, 0, j, _, hj, u, a', h => by
    simp only [List.flatMap_cons, Nat.zero_mul, Nat.zero_add, List.set_cons_zero]
    rw [List.set_append_left _ _ (by rw [hf]; exact hj), h]; rfl
  | a :: L, i + 1, j, hi, hj, u, a', h => by
    simp only [List.flatMap_cons, List.set_cons_succ]
    rw [List.set_append_right _ _ (by rw [hf, Nat.succ_mul]; omega), hf, ← set_flat f n hf L i j (by simpa using hi) hj u a' h]
    congr 2
    rw [Nat.succ_mul]; omega
/-- Stores one behind the other. -/
def stL (W : World) (g o : Nat) : List Value → World
  | [] => W
  | a :: us => stL (W.setCell ⟨g, o, none⟩ a) g (o + 1) us
def patch (c : List Value) (j : Nat) : List Value → List Value
  | [] => c
  | a :: us => patch (c.set j a) (j + 1) us
theorem patch_len (c : List Value) (j : Nat) (us : List Value) : (patch c j us).length = c.length := by
  induction us generalizing c j with
  | nil => rfl
  | cons a us ih => unfold patch; rw [ih]; simp
/-- A row in pieces of n cells; a piece is written into. -/
theorem row_store {B n m g cap : Nat} {e : TypeId} (us : List Value) : ∀ {w : World} {C : List (List Value)} (hC : ∀ c ∈ C, c.length = n) (i j : Nat) (hi : i < C.length) (hj : j + us.length ≤ n) (ho : w.ownsRow B e n (.slice (some ⟨g, 0, none⟩) m cap) m C.flatten),
    (stL w g (i * n + j) us).ownsRow B e n (.slice (some ⟨g, 0, none⟩) m cap) m (C.set i (patch C[i] j us)).flatten := by
  induction us with
  | nil => intro w C hC i j hi hj ho; simpa [stL, patch] using ho
  | cons a us ih =>
    intro w C hC i j hi hj ho
    simp only [List.length_cons] at hj
    have h1 := own_set ho (i * n + j) a
    have h2 : (C.flatten).set (i * n + j) a = (C.set i (C[i].set j a)).flatten := by
      have key : ∀ (D : List (List Value)), (∀ c ∈ D, c.length = n) → ∀ (i : Nat) (hi : i < D.length) (j : Nat) (_ : j < n), D.flatten.set (i * n + j) a = (D.set i (D[i].set j a)).flatten := by
        intro D
        induction D with
        | nil => intro _ i hi; simp at hi
        | cons c D ihD =>
          intro hD i hi j hj
          have hc := hD c (by simp)
          cases i with
          | zero =>
            simp only [List.flatten_cons, Nat.zero_mul, Nat.zero_add, List.set_cons_zero, List.getElem_cons_zero]
            rw [List.set_append_left _ _ (by rw [hc]; exact hj)]
          | succ i =>
            simp only [List.flatten_cons, List.set_cons_succ, List.getElem_cons_succ]
            rw [List.set_append_right _ _ (by rw [hc, Nat.succ_mul]; omega), hc, ← ihD (fun c' h' => hD c' (by simp [h'])) i (by simpa using hi) j hj]
            congr 2
            rw [Nat.succ_mul]; omega
      exact key C hC i hi j (by omega)
    rw [h2] at h1
    have := ih (C := C.set i (C[i].set j a)) (fun c hc => by
      rcases List.mem_or_eq_of_mem_set hc with h | h
      · exact hC c h
      · rw [h, List.length_set]; exact hC _ (List.getElem_mem hi)) i (j + 1) (by simpa using hi) (by omega) h1
    simp only [List.getElem_set_self, List.set_set] at this
    exact this
theorem stL_ch {S : List Nat} {g : Nat} (hg : g ∈ S) : ∀ (us : List Value) (o : Nat) {w W : World}, Ch S w W → Ch S w (stL W g o us)
  | [], _, _, _, h => h
  | a :: us, o, _, _, h => stL_ch hg us (o + 1) (h.set g o a (.inl hg))
theorem stL_blk {T : TypeId} {g b : Nat} {cs : Array Value} (hb : b ≠ g) (us : List Value) (o : Nat) {W : World} (h : Blk T b cs W) : Blk T b cs (stL W g o us) :=
  h.ch (stL_ch (S := [g]) (by simp) us o (Ch.refl [g] W)) (by simpa using hb)
/-- A slot. -/
structure Sl where
  key : V5
  val : V5
  bh : Nat
def v5z : V5 := ⟨0, 0, 0, ⟨#[]⟩, 0⟩
def slC (s : Sl) : List Value := [.int .i64 s.key.k, .int .i64 s.key.p, .int .i64 s.key.q, .string s.key.s, .int .i64 s.key.r, .int .i64 s.val.k, .int .i64 s.val.p, .int .i64 s.val.q, .string s.val.s, .int .i64 s.val.r, .int .i64 s.bh]
theorem slC_len (s : Sl) : (slC s).length = 11 := rfl
/-- The last place of a key. -/
def lastI : List Sl → V5 → Option Nat
  | [], _ => none
  | s :: L, k => match lastI L k with
    | some i => some (i + 1)
    | none => if k = s.key then some 0 else none
theorem lastI_some : ∀ {L : List Sl} {k : V5} {i : Nat}, lastI L k = some i → ∃ h : i < L.length, L[i].key = k ∧ ∀ j (hj : j < L.length), i < j → L[j].key ≠ k
  | [], _, _, h => by cases h
  | s :: L, k, i, h => by
    unfold lastI at h
    cases hl : lastI L k with
    | some j =>
      rw [hl] at h
      simp only [Option.some.injEq] at h
      subst h
      obtain ⟨h1, h2, h3⟩ := lastI_some hl
      refine ⟨by simpa using h1, by simpa using h2, fun n hn hj => ?_⟩
      cases n with
      | zero => omega
      | succ n => simpa using h3 n (by simpa using hn) (by omega)
    | none =>
      rw [hl] at h
      simp only at h
      split at h
      · rename_i hk
        simp only [Option.some.injEq] at h
        subst h
        refine ⟨by simp, by simp [hk], fun n hn hj => ?_⟩
        cases n with
        | zero => omega
        | succ n =>
          simp only [List.getElem_cons_succ]
          intro e
          have : ∀ {M : List Sl} {m : Nat} (hm : m < M.length), M[m].key = k → lastI M k ≠ none := by
            intro M
            induction M with
            | nil => intro m hm; simp at hm
            | cons t M ih =>
              intro m hm he hn2
              unfold lastI at hn2
              cases hx : lastI M k with
              | some y => rw [hx] at hn2; cases hn2
              | none =>
                rw [hx] at hn2
                simp only at hn2
                cases m with
                | zero => rw [if_pos (by simpa using he.symm)] at hn2; cases hn2
                | succ m => exact ih (by simpa using hm) (by simpa using he) hx
          exact this (by simpa using hn) e hl
      · cases h
theorem lastI_none : ∀ {L : List Sl} {k : V5}, lastI L k = none → ∀ s ∈ L, s.key ≠ k
  | [], _, _, s, hs => by cases hs
  | t :: L, k, h, s, hs => by
    unfold lastI at h
    cases hl : lastI L k with
    | some j => rw [hl] at h; cases h
    | none =>
      rw [hl] at h
      simp only at h
      split at h
      · cases h
      · rename_i hk
        rcases List.mem_cons.1 hs with rfl | hs
        · exact fun e => hk e.symm
        · exact lastI_none hl s hs
theorem lastI_mk {L : List Sl} {k : V5} {i : Nat} (hi : i < L.length) (hk : L[i].key = k) (h : ∀ j (hj : j < L.length), i < j → L[j].key ≠ k) : lastI L k = some i := by
  cases hl : lastI L k with
  | none => exact absurd hk (lastI_none hl _ (List.getElem_mem hi))
  | some m =>
    obtain ⟨h1, h2, h3⟩ := lastI_some hl
    rcases Nat.lt_trichotomy i m with h' | h' | h'
    · exact absurd h2 (h m h1 h')
    · rw [h']
    · exact absurd hk (h3 i hi h')
theorem lastI_no {L : List Sl} {k : V5} (h : ∀ s ∈ L, s.key ≠ k) : lastI L k = none := by
  cases hl : lastI L k with
  | none => rfl
  | some m => obtain ⟨h1, h2, _⟩ := lastI_some hl; exact absurd h2 (h _ (List.getElem_mem h1))
theorem lastI_app (L : List Sl) (s : Sl) (k : V5) : lastI (L ++ [s]) k = if k = s.key then some L.length else lastI L k := by
  induction L with
  | nil => simp [lastI]
  | cons t L ih =>
    simp only [List.cons_append, lastI, ih]
    by_cases hk : k = s.key
    · simp [hk]
    · simp only [hk, if_false]
theorem lastI_set (L : List Sl) (i : Nat) (s : Sl) (k : V5) (h : ∀ hi : i < L.length, s.key = L[i].key) : lastI (L.set i s) k = lastI L k := by
  induction L generalizing i with
  | nil => rfl
  | cons t L ih =>
    cases i with
    | zero => simp only [List.set_cons_zero, lastI, show s.key = t.key from h (by simp)]
    | succ i => simp only [List.set_cons_succ, lastI, ih i (fun hi => (h (by simpa using hi)).trans (by simp))]
def liveB (s : Sl) : Bool := decide (s.bh = 0)
def cnt (L : List Sl) : Nat := (L.filter liveB).length
theorem cnt_le (L : List Sl) : cnt L ≤ L.length := List.length_filter_le _ _
/-- What always holds of the slots. -/
structure Inv (L : List Sl) : Prop where
  jump : ∀ i (h : i < L.length), L[i].bh ≠ 0 → i < L[i].bh ∧ L[i].bh ≤ L.length ∧ ∀ j (hj : j < L.length), i ≤ j → j < L[i].bh → L[j].bh ≠ 0
  live : ∀ i (h : i < L.length), L[i].bh = 0 → lastI L L[i].key = some i
  gone : ∀ s ∈ L, s.bh ≠ 0 → s.val = v5z
theorem Inv.nil : Inv [] := ⟨fun i h => by simp at h, fun i h => by simp at h, fun s h => by cases h⟩
/-- An ordered map in memory. -/
structure Om (B b : Nat) (v m : Value) (L : List Sl) (w : World) : Prop where
  blk : Blk 72 b #[v, .int .i64 (cnt L), m] w
  lo : B ≤ b
  row : w.ownsRow B 78 11 v L.length (L.flatMap slC)
  mp : ∃ l : MP, (∀ k, look l k = (lastI L k).map (fun i => (i : Int))) ∧ Uniq l ∧ ((m = .map none ∧ l = []) ∨ ∃ g, m = .map (some g) ∧ B ≤ g ∧ Mp g l w)
  inv : Inv L
def mb (m : Value) : List Nat := match m with
  | .map (some g) => [g]
  | _ => []
/-- The blocks of a map. -/
def omS (b : Nat) (v m : Value) : List Nat := b :: (Go.Proofs.Ytaaelhhiceildaa.ob v ++ mb m)
theorem Om.ch {B b : Nat} {v m : Value} {L : List Sl} {w w' : World} {S : List Nat} (h : Om B b v m L w) (hc : Ch S w w') (hS : ∀ g ∈ omS b v m, g ∉ S) : Om B b v m L w' := by
  refine ⟨h.blk.ch hc (hS b (by simp [omS])), h.lo, hc.ownB h.row (fun g hg => hS g (by simp [omS, hg])), ?_, h.inv⟩
  obtain ⟨l, h1, h2, h3⟩ := h.mp
  refine ⟨l, h1, h2, ?_⟩
  rcases h3 with h3 | ⟨g, rfl, hg, hm⟩
  · exact .inl h3
  · exact .inr ⟨g, rfl, hg, hm.ch hc (hS g (by simp [omS, mb]))⟩
theorem Om.keep {B b : Nat} {v m : Value} {L : List Sl} {w w' : World} (h : Om B b v m L w) (hc : Ch [] w w') : Om B b v m L w' := h.ch hc (by simp)
theorem Om.below {B b : Nat} {v m : Value} {L : List Sl} {w w' : World} (h : Om B b v m L w) (hc : Below w.heap.size w w') : Om B b v m L w' := h.keep (Ch.of_below hc)
theorem Om.lt {B b : Nat} {v m : Value} {L : List Sl} {w : World} (h : Om B b v m L w) : ∀ g ∈ omS b v m, B ≤ g ∧ g < w.heap.size := by
  intro g hg
  unfold omS at hg
  rcases List.mem_cons.1 hg with rfl | hg
  · exact ⟨h.lo, h.blk.lt⟩
  · rcases List.mem_append.1 hg with hg | hg
    · exact own_lo h.row hg
    · obtain ⟨l, _, _, ⟨rfl, _⟩ | ⟨g', rfl, hB, hm⟩⟩ := h.mp
      · simp [mb] at hg
      · simp only [mb, List.mem_singleton] at hg
        subst hg
        exact ⟨hB, hm.lt⟩
end Go.Proofs.Ytaaelhhiceildaa
