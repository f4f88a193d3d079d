/- TableFills: keys that are set in any order. -/
import Derived.Test.YtaaelhhiceildaaTbMi
import Derived.Test.YtaaelhhiceildaaTbFl
import Derived.Deep.DeepCutAuto
import Derived.Deep.CutBlock
import Derived.BigQuiet
import Derived.RegionTactic
namespace Go.Proofs.Ytaaelhhiceildaa
open Go.ChangeShapes Go.WideShapes Go.ChangeAt Go.RowKit Go.Joins Go.Deep M1
set_option linter.unusedVariables false
theorem cellsU8 : Try.prog.cellsOf 5 = 1 := by kernel_rfl
def u8C (n : Int) : List Value := [.int .u8 n]
structure U8A (w : World) (v : Value) (l : List Int) : Prop where
  form : ∃ p c, v = .slice p l.length c ∧ (0 < l.length → ∃ g o, p = some ⟨g, o, none⟩ ∧ g < w.heap.size ∧ ∀ (j m : Nat) (hj : j < l.length), m < 1 → w.cell? ⟨g, o + j * 1 + m, none⟩ = (u8C l[j])[m]?)
theorem u8s_nil (w : World) (c : Nat) : U8A w (.slice none 0 c) [] := ⟨_, _, rfl, fun h => absurd h (by decide)⟩
theorem u8_range {n : Int} (h : (Lit.int .u8 n).wf = true) : 0 ≤ n ∧ n < 256 := by
  simp only [Lit.wf, Bool.and_eq_true, decide_eq_true_eq] at h
  have h1 : IntKind.min .u8 = 0 := by decide
  have h2 : IntKind.max .u8 = 255 := by decide
  rw [h1, h2] at h
  omega
theorem open_u8s {H : Type} {enc : TypeId × Value → H} {W : World} {sp : Nat → Bool} {fuel len cap : Nat} {a : Option Addr} {x : DataW H × List MemPlace} (h : DataW.trod enc Try.prog W 0 sp true fuel 51 [.slice a len cap] = some x) :
    ∃ l : List Int, (U8A W (.slice a len cap) l ∧ ∀ y ∈ l, 0 ≤ y ∧ y < 256) ∧ l.length = len ∧ len ≤ maxLen := by
  rcases open_slice Try.underlying51 h with ⟨hc, _⟩ | ⟨b, len', cap', m, n, D, Pl, hc, _, hl, hcm, hmm, _, hi⟩
  · simp only [List.cons.injEq, Value.slice.injEq, and_true] at hc
    obtain ⟨rfl, rfl, rfl⟩ := hc
    exact ⟨[], ⟨u8s_nil _ _, fun y hy => by cases hy⟩, rfl, Nat.zero_le _⟩
  · simp only [List.cons.injEq, Value.slice.injEq, and_true] at hc
    obtain ⟨rfl, rfl, rfl⟩ := hc
    have hlm : len ≤ m := by rw [hmm]; split <;> omega
    have each : ∀ i, i < len → ∃ y : Int, (0 ≤ y ∧ y < 256) ∧ ∀ j, j < 1 → W.cell? ((b.add (i * 1)).add j) = (u8C y)[j]? := by
      intro i hil
      obtain ⟨cs, h1, h2⟩ := hi i (by omega)
      rw [cellsU8] at h1
      obtain ⟨_, hlen, hcell⟩ := World.cells?_some h1
      obtain ⟨y, rfl, _, wy⟩ := DataW.trod_int Try.underlying5 h2
      exact ⟨y, u8_range wy, fun j hj => hcell j hj⟩
    obtain ⟨I, hI⟩ : ∃ I : Nat → Int, ∀ i, i < len → (0 ≤ I i ∧ I i < 256) ∧ ∀ j, j < 1 → W.cell? ((b.add (i * 1)).add j) = (u8C (I i))[j]? :=
      ⟨fun i => if h : i < len then Classical.choose (each i h) else 0, fun i h => by have := Classical.choose_spec (each i h); simpa [h] using this⟩
    obtain ⟨g, o, spt⟩ := b
    refine ⟨(List.range len).map I, ⟨⟨some ⟨g, o, spt⟩, cap, by simp, fun h0 => ?_⟩, fun y hy => ?_⟩, by simp, Nat.le_trans hl hcm⟩
    rotate_left
    · obtain ⟨i, hi1, rfl⟩ := List.mem_map.1 hy
      exact (hI i (List.mem_range.1 hi1)).1
    have h0 : 0 < len := by simpa using h0
    have hsp : spt = none := by
      have h9 : W.cell? _ = some (.int .u8 (I 0)) := (hI 0 h0).2 0 (by omega)
      have := World.cell?_spot h9
      simpa [Addr.add] using this
    subst hsp
    have h9 : W.cell? _ = some (.int .u8 (I 0)) := (hI 0 h0).2 0 (by omega)
    refine ⟨g, o, rfl, World.block_lt_of_cell? W _ h9, fun j m hj hm => ?_⟩
    have hjl : j < len := by simpa using hj
    have h1 := (hI j hjl).2 m hm
    rw [addr_addQ, addr_addQ] at h1
    rw [List.getElem_map, List.getElem_range]
    exact h1
/-- A table whose entries are the keys of D, each with itself as value. -/
structure Fi (s : TS) (D : List Int) (i : Nat) : Prop where
  ti : Ti s
  nn : NnT s
  ng : NgT s
  bl : s.bl = 0
  tot : totT s = D.length
  rl : s.R.length ≤ i
  dl : D.length ≤ i
  rng : ∀ d ∈ D, 1 ≤ d ∧ d ≤ 256
  get : ∀ d : Int, 1 ≤ d → d ≤ 1000 → getT s (keyV d) = if d ∈ D then keyV d else v5z
theorem keyI_inj {a b : Int} (h1 : 0 ≤ a) (h2 : a ≤ 3000000) (h3 : 0 ≤ b) (h4 : b ≤ 3000000) (h : keyV a = keyV b) : a = b := by
  have e1 : a = ((a.toNat : Nat) : Int) := by omega
  have e2 : b = ((b.toNat : Nat) : Int) := by omega
  rw [e1, e2] at h
  have := keyS_inj (by omega) (by omega) h
  omega
theorem keyI_ok {a : Int} (h1 : 0 ≤ a) (h2 : a ≤ 3000000) : (keyV a).k = 2 ∧ okV (keyV a) = true := by
  have e1 : a = ((a.toNat : Nat) : Int) := by omega
  rw [e1]
  have h := keyV_err (n := ((a.toNat : Nat) : Int)) (vld_small (by omega) (by omega))
  exact ⟨keyS_k (by omega), (errR_zero h).2.1⟩
theorem Fi.set {s : TS} {D : List Int} {i : Nat} (h : Fi s D i) (d : Int) (h1 : 1 ≤ d) (h2 : d ≤ 256) (hi : i ≤ 200) : Fi (setT s (keyV d) (keyV d)) (addI D d) (i + 1) := by
  obtain ⟨hk, ho⟩ := keyI_ok (a := d) (by omega) (by omega)
  have hk0 : (keyV d).k ≠ 0 := by rw [hk]; decide
  have he : errR (keyV d) (keyV d) = 0 := errR_ok hk0 ho ho
  have ht := h.tot
  unfold totT at ht
  have hd := h.dl
  obtain ⟨a1, a2, a3, a4⟩ := ti_setT h.ti (keyV d) (keyV d) (by omega)
  obtain ⟨b1, b2, b3, b4⟩ := fill_set h.ti h.nn h.ng h.bl (keyV d) (keyV d) he hk0 (by omega)
  have hg := h.get d (by omega) (by omega)
  refine ⟨a1, b2, b3, b4, ?_, by have := h.rl; omega, ?_, fun y hy => ?_, fun y y1 y2 => ?_⟩
  · rw [b1, h.tot, hg]
    unfold addI
    by_cases hm : d ∈ D
    · rw [if_pos hm, if_neg hk0, if_pos hm]; omega
    · rw [if_neg hm, if_pos (show v5z.k = 0 from rfl), if_neg hm, List.length_append]; rfl
  · unfold addI
    split
    · omega
    · rw [List.length_append, List.length_singleton]; omega
  · unfold addI at hy
    split at hy
    · exact h.rng y hy
    · rcases List.mem_append.1 hy with q | q
      · exact h.rng y q
      · rw [List.mem_singleton] at q; omega
  · rw [a2]
    unfold addI
    by_cases hyd : y = d
    · subst hyd
      rw [if_pos ⟨he, rfl⟩]
      by_cases hm : y ∈ D
      · rw [if_pos hm, if_pos hm]
      · rw [if_neg hm, if_pos (by simp)]
    · rw [if_neg (fun q => hyd (keyI_inj (by omega) (by omega) (by omega) (by omega) q.2)), h.get y y1 y2]
      by_cases hm : d ∈ D
      · rw [if_pos hm]
      · rw [if_neg hm]
        by_cases hy : y ∈ D
        · rw [if_pos hy, if_pos (by simp [hy])]
        · rw [if_neg hy, if_neg (by simp [hy, hyd])]
theorem Fi.nil : Fi ⟨[], 0, [], false⟩ [] 0 := ⟨Ti.new false, fun x hx => (by cases hx), fun _ => rfl, rfl, rfl, Nat.le_refl _, Nat.le_refl _, fun d hd => (by cases hd), fun d _ _ => by
  rw [if_neg (by simp), getT_no ⟨[], 0, [], false⟩ (fun i a b => by have b' : i ≤ 0 := b; omega)]
  rfl⟩
theorem Fi.mem {s : TS} {D : List Int} {i : Nat} (h : Fi s D i) (hi : i ≤ 200) (j : Nat) (hj : j ≤ s.arr.length) : ((j : Int) + 1 ∈ D ↔ j < s.arr.length) ∧ ∀ (hl : j < s.arr.length), s.arr[j] = keyV ((j : Int) + 1) := by
  have ht := h.tot
  unfold totT at ht
  have hd := h.dl
  have hg := h.get ((j : Int) + 1) (by omega) (by omega)
  have e : ((j : Int) + 1) = ((j + 1 : Nat) : Int) := by omega
  have hk := (keyI_ok (a := (j : Int) + 1) (by omega) (by omega)).1
  have hin : ∀ (hl : j < s.arr.length), getT s (keyV ((j : Int) + 1)) = s.arr[j] := fun hl => by
    rw [e, getT_at s (by omega) hl (by omega)]
    show (s.arr[j + 1 - 1]?).getD v5z = _
    rw [Nat.add_sub_cancel, List.getElem?_eq_getElem hl]; rfl
  refine ⟨⟨fun hm => ?_, fun hl => ?_⟩, fun hl => ?_⟩
  · rcases Nat.lt_or_ge j s.arr.length with hl | hl
    · exact hl
    · obtain rfl : j = s.arr.length := by omega
      have htop := h.ti.top
      rw [if_pos hm, e, getT_no s (fun q a b c => by have := keyS_inj (by omega) (by omega) c; omega), ← e, htop] at hg
      rw [← hg] at hk
      cases hk
  · rcases Decidable.em ((j : Int) + 1 ∈ D) with hm | hm
    · exact hm
    · rw [if_neg hm, hin hl] at hg
      exact absurd (by rw [hg]; rfl) (h.nn _ (List.getElem_mem hl))
  · rcases Decidable.em ((j : Int) + 1 ∈ D) with hm | hm
    · rw [if_pos hm, hin hl] at hg; exact hg
    · rw [if_neg hm, hin hl] at hg
      exact absurd (by rw [hg]; rfl) (h.nn _ (List.getElem_mem hl))
theorem cntA_full {l : List V5} (h : ∀ x ∈ l, x.k ≠ 0) : cntA l = l.length := by
  unfold cntA
  rw [List.filter_eq_self.2 (fun x hx => by simpa using h x hx)]
theorem Fi.count {s : TS} {D : List Int} {i : Nat} (h : Fi s D i) : lenR s.R + cntA s.arr = D.length := by
  have ht := h.tot
  unfold totT at ht
  rw [cntA_full h.nn]; omega
theorem Fi.size {s : TS} {D : List Int} {i : Nat} (h : Fi s D i) (hn : s.arr.length = D.length) : sizeT s = 4 + 2 * s.arr.length := by
  have ht := h.tot
  unfold totT at ht
  unfold sizeT
  cases hs : s.st with
  | true => simp; omega
  | false =>
    have := h.ng hs
    simp; omega
/-- Going through the array part. -/
theorem Fi.next {s : TS} {D : List Int} {i : Nat} (h : Fi s D i) (hi : i ≤ 200) (j : Nat) (hj : j < s.arr.length) : nxT s (if j = 0 then v5z else keyV (j : Int)) = ⟨keyV ((j : Int) + 1), keyV ((j : Int) + 1), true, 0⟩ ∧ nxS s (if j = 0 then v5z else keyV (j : Int)) = s := by
  have ht := h.tot
  unfold totT at ht
  have hd := h.dl
  have hx := (h.mem hi j (by omega)).2 hj
  have hf : fstA s.arr j = j := fstA_at hj (h.nn _ (List.getElem_mem hj))
  have hN : neN s j = ⟨keyV ((j : Int) + 1), keyV ((j : Int) + 1), true, 0⟩ := by
    unfold neN
    rw [h.bl, Nat.max_zero, hf, List.getElem?_eq_getElem hj, hx]
  have hS : neS s j = s := by
    unfold neS
    rw [h.bl, Nat.max_zero, hf]
    by_cases h0 : j = 0
    · rw [if_pos h0, h0]
      obtain ⟨a, b, c, d⟩ := s
      have hb : b = 0 := h.bl
      rw [hb]
    · rw [if_neg h0]
      obtain ⟨a, b, c, d⟩ := s
      have hb : b = 0 := h.bl
      rw [hb]
  by_cases h0 : j = 0
  · rw [if_pos h0]
    have he : elF s.arr.length v5z = none := elF_no (fun q a b c => by
      have := keyS_k (i := q) (by omega)
      rw [← c] at this; cases this)
    have ho : okV v5z = true := by decide +kernel
    subst h0
    unfold nxT nxS
    rw [ho, he]
    simp only [Bool.true_eq_false, if_false]
    rw [if_pos (show v5z.k = 0 from rfl), if_pos (show v5z.k = 0 from rfl)]
    exact ⟨hN, hS⟩
  · rw [if_neg h0]
    have ho := (keyI_ok (a := (j : Int)) (by omega) (by omega)).2
    have he : elF s.arr.length (keyV (j : Int)) = some j := elF_key (by omega) (by omega) (by omega)
    unfold nxT nxS
    rw [ho, he]
    simp only [Bool.true_eq_false, if_false]
    exact ⟨hN, hS⟩
end Go.Proofs.Ytaaelhhiceildaa
