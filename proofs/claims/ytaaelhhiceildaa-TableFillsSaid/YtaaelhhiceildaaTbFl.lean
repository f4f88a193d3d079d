/- Layer 13: keys that are set in any order, on lists. -/
import Derived.Test.YtaaelhhiceildaaTbW
namespace Go.Proofs.Ytaaelhhiceildaa
open Go.RowKit Go.Joins M1
set_option linter.unusedVariables false
/-- How many entries a table without nil values has. -/
def totT (s : TS) : Nat := s.arr.length + lenR s.R
def NnT (s : TS) : Prop := ∀ x ∈ s.arr, x.k ≠ 0
def NgT (s : TS) : Prop := s.st = false → s.R.length = lenR s.R
theorem fnd_of_get {R : List Rs} {k : V5} (h : (getR R k).k ≠ 0) : (nextR R k).err = 0 := by
  unfold nextR
  have hn : ∀ a, (nxAt R a).err = 0 := fun a => by
    unfold nxAt
    split
    · split
      · rfl
      · rfl
    · rfl
  split
  · exact hn 0
  · split
    · exact hn _
    · rename_i hf
      rw [getR_none hf] at h
      exact absurd rfl h
theorem next_none {R : List Rs} {k : V5} (hk : k ≠ v5z) (h : (nextR R k).err ≠ 0) : fnd R k = none := by
  unfold nextR at h
  rw [if_neg hk] at h
  split at h
  · rename_i i hf
    exfalso
    apply h
    unfold nxAt
    split
    · split
      · rfl
      · rfl
    · rfl
  · assumption
theorem set_none0 {R : List Rs} {k : V5} (h : fnd R k = none) : setR R k v5z = R := by
  unfold setR
  split
  · rfl
  · rw [h]
    show (if v5z.k = 0 then R else _) = R
    rw [if_pos (show v5z.k = 0 from rfl)]
theorem extA_st (s : TS) (x : V5) : (extA s x).st = (s.st || decide ((nextR s.R (extK s)).err = 0)) := by simp only [extA]
theorem extK_nz {s : TS} (hl : s.arr.length + 2 ≤ 3000000) : extK s ≠ v5z := fun e => by
  have h1 := keyS_k (i := s.arr.length + 1) (by omega)
  rw [← extK_eq, e] at h1
  cases h1
/-- While the values of the map part are taken over. -/
theorem ext_steady {s0 : TS} {x0 : V5} (h0 : s0.arr.length + lenR s0.R + 4 ≤ 3000000) : ∀ (f : Nat) (s : TS) (x : V5), Ex s0 x0 f s x → x = getR s.R (extK s) → NnT s → NgT s → totT (extE s0 x0) = totT s ∧ NnT (extE s0 x0) ∧ NgT (extE s0 x0)
  | f, s, x, hE, hx, hn, hg => by
    by_cases hz : x.k = 0
    · rw [ex_end hE hz]; exact ⟨rfl, hn, hg⟩
    · have hb := hE.bnd hz
      have hf := hE.fuel
      have hv1 : vld ((s.arr.length : Int) + 1) 1 = true := vld_small (by omega) (by omega)
      have hv2 : vld ((s.arr.length : Int) + 1 + 1) 1 = true := vld_small (by omega) (by omega)
      obtain ⟨f2, hE2⟩ := ex_step hE hz hv1 hv2
      have hf2 := hE2.fuel
      rw [extA_len] at hf2
      have hlt : f2 < f := by omega
      have hgz : (getR s.R (extK s)).k ≠ 0 := by rw [← hx]; exact hz
      obtain ⟨_, r2, r3, _⟩ := rem_nums hE.good (extK s) (keyV_err hv1)
      have r4 := r3 hgz
      have hKL : extK (extA s x) = extL s := by rw [extK_eq, extL_eq, extA_len]
      have hA1 : NnT (extA s x) := by
        intro y hy
        rw [extA_arr] at hy
        rcases List.mem_append.1 hy with q | q
        · exact hn y q
        · rw [List.mem_singleton] at q; rw [q]; exact hz
      have hA2 : NgT (extA s x) := by
        intro q
        rw [extA_st, fnd_of_get hgz] at q
        simp at q
      have hA3 : extV s = getR (extA s x).R (extK (extA s x)) := by rw [hKL, extA_R]; unfold extV; rfl
      have hrec := @ext_steady s0 x0 h0 f2 (extA s x) (extV s) hE2 hA3 hA1 hA2
      obtain ⟨a1, a2, a3⟩ := hrec
      refine ⟨?_, a2, a3⟩
      rw [a1]
      unfold totT
      rw [extA_len, extA_R]
      omega
  termination_by f => f
  decreasing_by exact hlt
theorem keysR_nodup {R : List Rs} (hU : Un R) : (keysR R).Nodup := by
  unfold keysR
  rw [List.Nodup, List.pairwise_map, List.pairwise_filter, List.pairwise_iff_getElem]
  intro i j hi hj hij p1 p2 e
  have h1 : R[i].gone = false := by simpa [aliveR] using p1
  exact hU.last R[i].key i (hU.live i hi h1) j hj hij e.symm
theorem fold_len {R : List Rs} (hW : ∀ k, okV (getR R k) = true) : ∀ (l : List V5) (F : List Rs), Iv F → Good F → (∀ k ∈ l, k.k ≠ 0 ∧ okV k = true ∧ (getR R k).k ≠ 0) → l.Nodup → (∀ k ∈ l, getR F k = v5z) → lenR (l.foldl (fun F k => setR F k (getR R k)) F) = lenR F + l.length
  | [], F, _, _, _, _, _ => rfl
  | k :: l, F, hF, hG, hl, hd, hz => by
    have hk := hl k (by simp)
    have he : errR k (getR R k) = 0 := by
      unfold errR
      rw [if_neg (by simp [hk.1, hk.2.1]), if_neg (by rw [hW k]; simp)]
    obtain ⟨g1, _, n1, n2, n3, n4⟩ := set_nums F hG k (getR R k) he
    have h4 := (n4 hk.2.2 (by rw [hz k (by simp)]; rfl)).1
    have hd2 := List.nodup_cons.1 hd
    rw [List.foldl_cons, fold_len hW l (setR F k (getR R k)) (hF.set _ _) g1 (fun y hy => hl y (by simp [hy])) hd2.2 (fun y hy => by
      rw [get_set hF k _ y he, if_neg (fun e => hd2.1 (by rw [← e]; exact hy))]
      exact hz y (by simp [hy])), h4, List.length_cons]
    omega
theorem renR_exact {s : TS} (h : Ti s) : lenR (renR s.R) = lenR s.R ∧ (renR s.R).length = lenR s.R := by
  have h1 := fold_len h.vv (keysR s.R) [] Iv.nil Good.nil (fun k hk => by
    obtain ⟨t, ht, hg, rfl⟩ := keysR_mem.1 hk
    exact ⟨h.ok.2 t ht, h.vk t ht, by rw [getR_mem h.iv.un ht hg]; exact h.ok.1 t ht hg⟩) (keysR_nodup h.iv.un) (fun k _ => getR_none rfl)
  have e : lenR (renR s.R) = lenR s.R := by
    have h2 : lenR (renR s.R) = lenR [] + (keysR s.R).length := h1
    rw [h2, keysR_len, lenR_nil]; omega
  refine ⟨e, ?_⟩
  have h3 := renP_len s.R (keysR s.R).length (Nat.le_refl _)
  unfold renP at h3
  rw [List.take_length] at h3
  have h4 := lenR_le (renR s.R)
  have h5 := keysR_len s.R
  unfold renR at *
  omega
/-- A value is set at a key. -/
theorem fill_set {s : TS} (h : Ti s) (hn : NnT s) (hg : NgT s) (hb : s.bl = 0) (k x : V5) (he : errR k x = 0) (hz : x.k ≠ 0) (hl : s.arr.length + lenR s.R + 4 ≤ 3000000) : totT (setT s k x) = totT s + (if (getT s k).k = 0 then 1 else 0) ∧ NnT (setT s k x) ∧ NgT (setT s k x) ∧ (setT s k x).bl = 0 := by
  have hxo := (errR_zero he).2.2
  unfold setT
  rw [if_neg (by simpa using he)]
  cases hf : elF s.arr.length k with
  | some i =>
    obtain ⟨h1, h2, h3⟩ := elF_some hf
    have hgk : (getT s k).k ≠ 0 := by
      rw [h3, getT_at s h1 h2 (by omega), List.getElem?_eq_getElem (by omega)]
      exact hn _ (List.getElem_mem _)
    rw [if_neg hgk]
    dsimp only
    unfold putS
    rw [if_pos hz]
    refine ⟨by unfold totT; simp, fun y hy => ?_, hg, by show min s.bl _ = 0; rw [hb]; exact Nat.zero_min _⟩
    rcases List.mem_or_eq_of_mem_set hy with q | q
    · exact hn y q
    · rw [q]; exact hz
  | none =>
    dsimp only
    have hno : ∀ i : Nat, 1 ≤ i → i ≤ s.arr.length → k ≠ keyV (i : Int) := fun i a b e => by
      rw [e, elF_key a b (by omega)] at hf; cases hf
    have hgt : getT s k = getR s.R k := getT_no s hno
    split
    · rename_i hc
      have hv1 : vld ((s.arr.length : Int) + 1) 1 = true := vld_small (by omega) (by omega)
      have hv2 : vld ((s.arr.length : Int) + 1 + 1) 1 = true := vld_small (by omega) (by omega)
      have hgz : getR s.R (extK s) = v5z := h.top
      rw [hgt, hc.2, hgz, if_pos (show v5z.k = 0 from rfl)]
      have hE := ex_zero s x h.ok.1 hv1
      obtain ⟨f2, hE2⟩ := ex_step hE hz hv1 hv2
      obtain ⟨_, _, m1, m2, _, _⟩ := set_nums s.R h.ok.1 (extK s) v5z (keyV_err hv1)
      have m3 := m2 rfl (by rw [hgz]; rfl)
      have hKL : extK (extA s x) = extL s := by rw [extK_eq, extL_eq, extA_len]
      have hA2 : NgT (extA s x) := by
        intro q
        rw [extA_st, Bool.or_eq_false_iff] at q
        have hfn := next_none (extK_nz (s := s) (by omega)) (by simpa using q.2)
        rw [extA_R, set_none0 hfn]
        exact hg q.1
      have hA1 : NnT (extA s x) := by
        intro y hy
        rw [extA_arr] at hy
        rcases List.mem_append.1 hy with q | q
        · exact hn y q
        · rw [List.mem_singleton] at q; rw [q]; exact hz
      have hA3 : extV s = getR (extA s x).R (extK (extA s x)) := by rw [hKL, extA_R]; unfold extV; rfl
      obtain ⟨a1, a2, a3⟩ := @ext_steady s x hl f2 (extA s x) (extV s) hE2 hA3 hA1 hA2
      have ht : totT (extE s x) = totT s + 1 := by
        rw [a1]; unfold totT; rw [extA_len, extA_R]; omega
      obtain ⟨b1, b2, b3, b4, b5, b6⟩ := ext_all h x hxo hz hl
      unfold extS
      split
      · obtain ⟨r1, r2⟩ := renR_exact b1
        refine ⟨?_, a2, fun _ => by show (renR _).length = lenR (renR _); rw [r1, r2], by show (extE s x).bl = 0; rw [b5, hb]⟩
        show (extE s x).arr.length + lenR (renR (extE s x).R) = _
        rw [r1]; exact ht
      · exact ⟨ht, a2, a3, by rw [b5, hb]⟩
    · obtain ⟨_, _, n1, n2, n3, n4⟩ := set_nums s.R h.ok.1 k x he
      unfold restS
      rw [if_neg (fun q => hz q.2.1), hgt]
      by_cases hq : (getR s.R k).k = 0
      · obtain ⟨p1, p2, p3⟩ := n4 hz hq
        rw [if_pos hq]
        refine ⟨by unfold totT; show s.arr.length + lenR (setR s.R k x) = _; omega, hn, fun q => ?_, hb⟩
        have := hg q
        show (setR s.R k x).length = lenR (setR s.R k x)
        omega
      · obtain ⟨p1, p2⟩ := n3 hz hq
        rw [if_neg hq]
        refine ⟨by unfold totT; show s.arr.length + lenR (setR s.R k x) = _; omega, hn, fun q => ?_, hb⟩
        have := hg q
        show (setR s.R k x).length = lenR (setR s.R k x)
        omega
end Go.Proofs.Ytaaelhhiceildaa
