/- Layer 13: tables that are sequences alone, on lists. -/
import Derived.Test.YtaaelhhiceildaaTbOp
import Derived.Test.YtaaelhhiceildaaTbW
namespace Go.Proofs.Ytaaelhhiceildaa
open Go.RowKit Go.Joins M1
set_option linter.unusedVariables false
def sq (a : List V5) : TS := ⟨a, 0, [], false⟩
theorem setR_nil (k : V5) : setR [] k v5z = [] := by
  unfold setR
  split
  · rfl
  · rfl
theorem nextR_nil {k : V5} (h : k ≠ v5z) : (nextR [] k).err = 13 := by
  unfold nextR
  rw [if_neg h]
  rfl
theorem key_ok {n : Nat} (h : n ≤ 3000000) : (keyV (n : Int)).k ≠ 0 ∧ okV (keyV (n : Int)) = true := by
  have h1 := keyV_err (n := (n : Int)) (vld_small (by omega) (by omega))
  exact ⟨by rw [keyS_k h]; decide, (errR_zero h1).2.1⟩
theorem sq_ext (a : List V5) (x : V5) (hz : x.k ≠ 0) (hl : a.length ≤ 2000000) : extS (sq a) x = sq (a ++ [x]) := by
  have hK : extK (sq a) ≠ v5z := fun e => by
    have h1 := (key_ok (n := a.length + 1) (by omega)).1
    have h2 := extK_eq (sq a)
    rw [e] at h2
    rw [← show ((sq a).arr.length + 1 : Nat) = a.length + 1 from rfl, ← h2] at h1
    exact h1 rfl
  have hA : extA (sq a) x = sq (a ++ [x]) := by
    unfold extA
    show (⟨a ++ [x], 0, setR [] (extK (sq a)) v5z, false || decide ((nextR [] (extK (sq a))).err = 0)⟩ : TS) = _
    rw [setR_nil, nextR_nil hK]
    rfl
  have hV : (extV (sq a)).k = 0 := by
    unfold extV
    show (getR (setR [] (extK (sq a)) v5z) (extL (sq a))).k = 0
    rw [setR_nil]; rfl
  have hE : extE (sq a) x = sq (a ++ [x]) := by
    show extF 2 (sq a) x = _
    unfold extF
    rw [if_neg hz]
    unfold extF
    rw [if_pos hV, hA]
  unfold extS
  rw [hE, if_neg (fun q => by cases q.1)]
theorem sq_none (a : List V5) (hl : a.length ≤ 2000000) : elF a.length (keyV ((a.length : Int) + 1)) = none := by
  rw [show ((a.length : Int) + 1) = ((a.length + 1 : Nat) : Int) by omega]
  exact elF_no (fun i h1 h2 e => by have := keyS_inj (by omega) (by omega) e; omega)
theorem sq_err (a : List V5) (x : V5) (hx : okV x = true) (hl : a.length ≤ 2000000) : errR (keyV ((a.length : Int) + 1)) x = 0 := by
  rw [show ((a.length : Int) + 1) = ((a.length + 1 : Nat) : Int) by omega]
  have h := key_ok (n := a.length + 1) (by omega)
  exact errR_ok h.1 h.2 hx
theorem setT_none {s : TS} {k v : V5} (he : errR k v = 0) (hk : elF s.arr.length k = none) : setT s k v = if v.k ≠ 0 ∧ k = extK s then extS s v else restS s k v := by
  unfold setT
  rw [if_neg (by rw [he]; simp), hk]
theorem sq_set (a : List V5) (x : V5) (hx : okV x = true) (hz : x.k ≠ 0) (hl : a.length ≤ 2000000) : setT (sq a) (keyV ((a.length : Int) + 1)) x = sq (a ++ [x]) := by
  have hk : elF (sq a).arr.length (keyV ((a.length : Int) + 1)) = none := sq_none a hl
  have hK : keyV ((a.length : Int) + 1) = extK (sq a) := by unfold extK sq; rfl
  rw [setT_none (sq_err a x hx hl) hk, if_pos ⟨hz, hK⟩]
  exact sq_ext a x hz hl
theorem sq_set0 (a : List V5) (hl : a.length ≤ 2000000) : setT (sq a) (keyV ((a.length : Int) + 1)) v5z = sq a := by
  have hk : elF (sq a).arr.length (keyV ((a.length : Int) + 1)) = none := sq_none a hl
  rw [setT_none (sq_err a v5z (by decide +kernel) hl) hk, if_neg (fun q => q.1 rfl)]
  unfold restS sq
  rw [if_neg (fun q => by cases q.1)]
  show (⟨a, 0, setR [] _ v5z, false⟩ : TS) = _
  rw [setR_nil]
theorem sq_get (a : List V5) (q : Nat) (hq : q < a.length) (hl : a.length ≤ 2000000) : getT (sq a) (keyV ((q : Int) + 1)) = a[q] := by
  rw [show ((q : Int) + 1) = ((q + 1 : Nat) : Int) by omega, getT_at (sq a) (by omega) hq (by show a.length ≤ _; omega)]
  show (a[q + 1 - 1]?).getD v5z = _
  rw [Nat.add_sub_cancel, List.getElem?_eq_getElem hq]; rfl
theorem sq_get0 (a : List V5) (hl : a.length ≤ 2000000) : getT (sq a) (keyV ((a.length : Int) + 1)) = v5z := by
  rw [show ((a.length : Int) + 1) = ((a.length + 1 : Nat) : Int) by omega, getT_no (sq a) (fun i h1 h2 e => by
    have h2' : i ≤ a.length := h2
    have := keyS_inj (by omega) (by omega) e; omega)]
  rfl
theorem last_split {c : List V5} (z : V5) : (z :: c).take c.length ++ [(z :: c)[c.length]'(by simp)] = z :: c := by
  have h := List.take_append_getElem (l := z :: c) (i := c.length) (by simp)
  rw [h, List.take_of_length_le (by simp)]
theorem upA_sq (b : List V5) (z : V5) (c : List V5) (y : V5) (hy : (b ++ z :: c)[(b ++ z :: c).length - 1]? = some y) : upA ((b ++ z :: c) ++ [y]) b.length (b ++ z :: c).length = b ++ z :: z :: c := by
  have e1 : (b ++ z :: c).length - 1 = b.length + c.length := by simp
  have hyy : (z :: c)[c.length]'(by simp) = y := by
    rw [e1, List.getElem?_append_right (by omega), Nat.add_sub_cancel_left, List.getElem?_eq_getElem (by simp)] at hy
    injection hy
  unfold upA
  have e2 : ((b ++ z :: c) ++ [y]).take (b.length + 1) = b ++ [z] := by
    rw [List.append_assoc, List.take_append, List.take_of_length_le (by omega), Nat.add_sub_cancel_left]
    rfl
  have e3 : (((b ++ z :: c) ++ [y]).drop b.length).take ((b ++ z :: c).length - b.length - 1) = (z :: c).take c.length := by
    rw [List.append_assoc, List.drop_left, show (b ++ z :: c).length - b.length - 1 = c.length by simp]
    rw [List.take_append_of_le_length (by simp)]
  have e4 : ((b ++ z :: c) ++ [y]).drop (b ++ z :: c).length = [y] := List.drop_left
  rw [e2, e3, e4, List.append_assoc, ← hyy, List.append_assoc]
  show b ++ ([z] ++ ((z :: c).take c.length ++ [(z :: c)[c.length]'(by simp)])) = _
  rw [last_split]
  rfl
theorem set_mid (b : List V5) (z x : V5) (c : List V5) : (b ++ z :: c).set b.length x = b ++ x :: c := by
  rw [List.set_append_right _ _ (Nat.le_refl _), Nat.sub_self]; rfl
theorem ins_sq (a : List V5) (j : Nat) (x : V5) (hj : j < a.length) (hn : ∀ y ∈ a, y.k ≠ 0) (hl : a.length ≤ 1000000) : insS (sq a) j x = sq (a.take j ++ x :: a.drop j) := by
  obtain ⟨b, z, c, rfl, rfl⟩ : ∃ b z c, a = b ++ z :: c ∧ j = b.length := ⟨a.take j, a[j], a.drop (j + 1), by rw [← List.drop_eq_getElem_cons hj, List.take_append_drop], by rw [List.length_take]; omega⟩
  obtain ⟨y, hy⟩ : ∃ y, (b ++ z :: c)[(b ++ z :: c).length - 1]? = some y := ⟨_, List.getElem?_eq_getElem (by omega)⟩
  have hla : lastA (sq (b ++ z :: c)) = y := by
    unfold lastA
    show ((b ++ z :: c)[(b ++ z :: c).length - 1]?).getD v5z = y
    rw [hy]; rfl
  have hyk : y.k ≠ 0 := hn y (List.mem_of_getElem? hy)
  unfold insS
  rw [hla, sq_ext _ y hyk (by omega)]
  show putS ⟨upA ((b ++ z :: c) ++ [y]) b.length (b ++ z :: c).length, 0, [], false⟩ b.length x = _
  rw [upA_sq b z c y hy, List.take_left, List.drop_left]
  unfold putS
  split
  · show (⟨(b ++ z :: z :: c).set b.length x, min 0 b.length, [], false⟩ : TS) = _
    rw [set_mid, Nat.zero_min]; rfl
  · rw [if_neg (by show ¬ b.length + 1 = (b ++ z :: z :: c).length; simp)]
    show (⟨(b ++ z :: z :: c).set b.length x, 0, [], false⟩ : TS) = _
    rw [set_mid]; rfl
theorem trimN_snoc (a : List V5) (hn : ∀ y ∈ a, y.k ≠ 0) : trimN (a ++ [v5z]) (a ++ [v5z]).length = a.length := by
  rw [List.length_append, List.length_singleton]
  unfold trimN
  rw [if_pos (by rw [List.getElem?_append_right (Nat.le_refl _), Nat.sub_self]; rfl)]
  cases h : a.length with
  | zero => rfl
  | succ m =>
    unfold trimN
    have hm : m < a.length := by omega
    rw [if_neg]
    rw [List.getElem?_append_left hm, List.getElem?_eq_getElem hm]
    exact hn _ (List.getElem_mem _)
theorem cutA_sq (b : List V5) (x : V5) (c : List V5) : ∃ e, cutA (b ++ x :: c) b.length = (b ++ c) ++ [e] := by
  unfold cutA
  have e1 : (b ++ x :: c).length - b.length - 1 = c.length := by simp
  have e2 : (b ++ x :: c).drop (b.length + 1) = c := by
    rw [show b ++ x :: c = (b ++ [x]) ++ c by simp, show b.length + 1 = (b ++ [x]).length by simp]; exact List.drop_left
  have hlt : b.length + c.length < (b ++ x :: c).length := by simp
  refine ⟨(b ++ x :: c)[b.length + c.length], ?_⟩
  rw [e1, e2, List.take_left, List.take_of_length_le (Nat.le_refl _), List.drop_eq_getElem_cons hlt, List.drop_of_length_le (by simp; omega)]
theorem rem_sq (b : List V5) (x : V5) (c : List V5) (hn : ∀ y ∈ b ++ c, y.k ≠ 0) : remS (sq (b ++ x :: c)) b.length = sq (b ++ c) := by
  obtain ⟨e, he⟩ := cutA_sq b x c
  unfold remS
  show putS ⟨cutA (b ++ x :: c) b.length, min 0 b.length, [], false⟩ ((b ++ x :: c).length - 1) v5z = _
  rw [he, show (b ++ x :: c).length - 1 = (b ++ c).length by simp, Nat.zero_min]
  unfold putS
  rw [if_neg (fun q => q rfl), if_pos (by show (b ++ c).length + 1 = ((b ++ c) ++ [e]).length; simp; omega)]
  show trimS ⟨((b ++ c) ++ [e]).set (b ++ c).length v5z, 0, [], false⟩ = _
  rw [show ((b ++ c) ++ [e]).set (b ++ c).length v5z = (b ++ c) ++ [v5z] from set_mid (b ++ c) e v5z []]
  unfold trimS
  show (⟨((b ++ c) ++ [v5z]).take (trimN ((b ++ c) ++ [v5z]) ((b ++ c) ++ [v5z]).length), min 0 _, [], false⟩ : TS) = _
  rw [trimN_snoc _ hn, List.take_left, Nat.zero_min]
  rfl
end Go.Proofs.Ytaaelhhiceildaa
