/- Layer 13: trim. -/
import Derived.Test.YtaaelhhiceildaaTbB
namespace Go.Proofs.Ytaaelhhiceildaa
open Go.RowKit Go.Joins M1
set_option linter.unusedVariables false
theorem take_flat (l : List V5) (n : Nat) : (l.take n).flatMap vC = (l.flatMap vC).take (n * 5) := by
  induction l generalizing n with
  | nil => simp
  | cons x l ih =>
    cases n with
    | zero => simp
    | succ n =>
      have h1 : (vC x).take ((n + 1) * 5) = vC x := List.take_of_length_le (by rw [vC_len]; omega)
      rw [List.take_succ_cons, List.flatMap_cons, List.flatMap_cons, ih, List.take_append, vC_len, h1, show (n + 1) * 5 - 5 = n * 5 by omega]
theorem own_take {w : World} {B : Nat} {e : TypeId} {size L n cap : Nat} {p : Option Addr} {xs : List Value} (h : w.ownsRow B e size (.slice p L cap) L xs) (hn : n ≤ L) : w.ownsRow B e size (.slice p n cap) n (xs.take (n * size)) := by
  obtain ⟨h1, h2⟩ := h
  have hm := Nat.mul_le_mul_right size hn
  refine ⟨by rw [List.length_take, h1]; omega, ?_⟩
  rcases h2 with ⟨e1, e2⟩ | ⟨g, cap', cur, e1, q1, q2, q3, q4, q5, q6⟩
  · injection e1 with e1 e3 e4
    subst e1; subst e4
    left
    exact ⟨by rw [show n = 0 by omega], by omega⟩
  · right
    injection e1 with e1 e3 e4
    subst e1; subst e4
    refine ⟨g, cap, cur, rfl, q1, q2, by omega, q4, q5, ?_⟩
    rw [← q6, List.take_take, Nat.min_eq_left hm]
theorem own_cap {w : World} {B : Nat} {e : TypeId} {size L cap : Nat} {p : Option Addr} {xs : List Value} (h : w.ownsRow B e size (.slice p L cap) L xs) : L ≤ cap ∧ cap ≤ maxLen ∧ (p = none → L = 0 ∧ cap = 0) := by
  rcases h.2 with ⟨e1, e2⟩ | ⟨g, cap', cur, e1, q1, q2, q3, q4, q5, q6⟩
  · injection e1 with e1 e3 e4
    exact ⟨by omega, by rw [e4]; unfold maxLen; omega, fun _ => ⟨e2, e4⟩⟩
  · injection e1 with e1 e3 e4
    subst e4
    exact ⟨q3, q4, fun e => by rw [e] at e1; cases e1⟩
/-- The length without the nil values at the end. -/
def trimN (arr : List V5) : Nat → Nat
  | 0 => 0
  | n + 1 => if ((arr[n]?).getD v5z).k = 0 then trimN arr n else n + 1
theorem trimN_le (arr : List V5) : ∀ n, trimN arr n ≤ n
  | 0 => Nat.le_refl _
  | n + 1 => by
    unfold trimN
    split
    · exact Nat.le_succ_of_le (trimN_le arr n)
    · exact Nat.le_refl _
def trimS (s : TS) : TS := ⟨s.arr.take (trimN s.arr s.arr.length), min s.bl (trimN s.arr s.arr.length), s.R, s.st⟩
set_option maxHeartbeats 4000000 in
theorem trim_any (B t : Nat) (va : Value) (b : Nat) (v m : Value) (s : TS) (w : World) (h : Tb B t va b v m s w) (hL : s.arr.length ≤ 1000000) :
    Calls Try.prog 47 #[.pointer (some ⟨t, 0, none⟩)] w fun e w' => e = .returned (.tuple #[]) ∧ TbSaid B t va b v m (trimS s) w w' := by
  obtain ⟨p, cap, rfl, hp⟩ := h.form
  have hcap := own_cap h.row
  have HT := Lib.hid h
  have HP := Lib.hid hp
  have c0 : w.cell? ⟨t, 0, none⟩ = some (.slice p s.arr.length cap) := h.blk.cell 0
  have c1 : w.cell? ⟨t, 1, none⟩ = some (.int .i64 (s.bl : Int)) := h.blk.cell 1
  have f0 := h.blk.fz 0
  have f1 := h.blk.fz 1
  have hbl := h.blk.lt
  have HCP := Lib.hid hcap
  clear h hp hcap
  go_enter Try.func47, Try.ntmps47
  go_wp2
  go_loopw [2] (fun v2 wr => ∃ n : Nat, n ≤ s.arr.length ∧ v2 = .int .i64 (n : Int) ∧ Hid (trimN s.arr n = trimN s.arr s.arr.length) ∧ Hid (wr = w)) (fun v2 _ => (intOf v2).toNat)
  case atStart => exact ⟨s.arr.length, Nat.le_refl _, rfl, Lib.hid rfl, Lib.hid rfl⟩
  case round =>
    obtain ⟨n, hn, rfl, HN, HW⟩ := hrel
    rename World => wr
    obtain rfl := HW.out
    clear HW
    have stay : n = trimN s.arr n → Hid (n = trimN s.arr s.arr.length) := fun e => Lib.hid (by rw [← HN.out]; exact e)
    have fin : n = trimN s.arr n → TbSaid B t (.slice p s.arr.length cap) b v m (trimS s) wr ((wr.setCell ⟨t, 0, none⟩ (.slice p n cap)).setCell ⟨t, 1, none⟩ (.int .i64 ((min s.bl n : Nat) : Int))) := fun e => by
      have hn' : n = trimN s.arr s.arr.length := (stay e).out
      have hs : Ch [t] wr ((wr.setCell ⟨t, 0, none⟩ (.slice p n cap)).setCell ⟨t, 1, none⟩ (.int .i64 ((min s.bl n : Nat) : Int))) := ((Ch.refl [t] wr).set t 0 _ (.inl (by simp))).set t 1 _ (.inl (by simp))
      have hob : ∀ g, g ∈ Go.Proofs.Ytaaelhhiceildaa.ob (Value.slice p n cap) → g ∈ Go.Proofs.Ytaaelhhiceildaa.ob (Value.slice p s.arr.length cap) := fun g hg => by
        rw [mem_ob] at hg ⊢
        cases p with
        | none => simp [Value.ownBlock] at hg
        | some a => simpa [Value.ownBlock] using hg
      refine ⟨⟨.slice p n cap, b, v, m, ⟨by
        have hb := (HT.out.blk.set 0 (.slice p n cap)).set 1 (.int .i64 ((min s.bl n : Nat) : Int))
        show Blk _ t #[_, .int .i64 ((min s.bl (trimN s.arr s.arr.length) : Nat) : Int), _, _] _
        rw [← hn']
        exact hb, HT.out.lo, ?_, HT.out.om.ch hs (fun g hg => by simp; intro e; subst e; exact HT.out.apt hg), HT.out.apt, fun g hg => HT.out.apr g (hob g hg), ?_⟩, fun g hg => .inl ?_⟩, hs.mono (by simp [tbS])⟩
      · have h1 := own_take HT.out.row hn
        have h2 := hs.ownB h1 (fun g hg => by simp; exact (HT.out.apr g (hob g hg)).1)
        show World.ownsRow _ B _ 5 _ (s.arr.take _).length ((s.arr.take _).flatMap vC)
        rw [← hn', take_flat, List.length_take, Nat.min_eq_left hn]
        exact h2
      · show min s.bl _ ≤ (s.arr.take _).length
        rw [← hn', List.length_take]; omega
      · simp only [tbS, List.mem_cons, List.mem_append] at hg ⊢
        rcases hg with q | q | q
        · exact .inl q
        · exact .inr (.inl (hob g q))
        · exact .inr (.inr q)
    have HFIN := Lib.hid fin
    clear fin stay
    have hn0 : (0 : Int) ≤ (n : Int) := by omega
    cases n with
    | zero =>
      have hcn : (0 : Int) ≤ (cap : Int) := by omega
      have HF0 := Lib.hid (HFIN.out rfl)
      by_cases hbn : s.bl ≤ 0
      · have hb1 : (s.bl : Int) ≤ (0 : Int) := by omega
        have HF := Lib.hid HF0.out
        rw [Nat.min_eq_left hbn] at HF
        clear hbn
        go_wp2
        go_end0
        exact ⟨rfl, HF.out⟩
      · have hb1 : (0 : Int) < (s.bl : Int) := by omega
        have HF := Lib.hid HF0.out
        rw [Nat.min_eq_right (by omega)] at HF
        clear hbn
        go_wp2
        go_end0
        exact ⟨rfl, HF.out⟩
    | succ j =>
      have hcn : (j : Int) + 1 ≤ (cap : Int) := by have := HCP.out.1; omega
      have hj2 : (j : Int) < (s.arr.length : Int) := by omega
      have hj0 : (0 : Int) ≤ (j : Int) := by omega
      have hj1 : (0 : Int) < (j : Int) + 1 := by omega
      have hj3 : (0 : Int) ≤ (j : Int) + 1 := by omega
      have dj : IntKind.i64.wrap ((j : Int) + 1 - 1) = (j : Int) := by rw [show (j : Int) + 1 - 1 = j by omega]; exact IntWalk.i64_in _ (by omega)
      have dj0 : IntKind.i64.wrap (j : Int) = (j : Int) := IntWalk.i64_in _ (by omega)
      obtain ⟨g, rfl, hgl, hgf, key⟩ := HP.out (by omega)
      have s0 : wr.cell? ⟨g, j * 5, none⟩ = some (.int .i64 s.arr[j].k) := key j (by omega) 0 (by omega)
      clear key
      by_cases hz : s.arr[j].k = 0
      · have e0 : (s.arr[j].k == 0) = true := beq_iff_eq.2 hz
        have HN2 : Hid (trimN s.arr j = trimN s.arr s.arr.length) := Lib.hid (by rw [← HN.out]; conv => rhs; unfold trimN
                                                                                 rw [if_pos (by rw [List.getElem?_eq_getElem (by omega)]; exact hz)])
        clear hz
        go_wp2
        go_roundw
        (case rel => exact ⟨j, by omega, by go_num, HN2, Lib.hid trivial⟩)
        (case measure => simp [intOf])
      · have e0 : (s.arr[j].k == 0) = false := beq_eq_false_iff_ne.2 hz
        have HF0 := Lib.hid (HFIN.out (by unfold trimN; rw [if_neg (by rw [List.getElem?_eq_getElem (by omega)]; exact hz)]))
        clear hz
        by_cases hbn : s.bl ≤ j + 1
        · have hb1 : (s.bl : Int) ≤ ((j : Int) + 1) := by omega
          have HF := Lib.hid HF0.out
          rw [Nat.min_eq_left hbn] at HF
          clear hbn
          go_wp2
          go_end0
          exact ⟨rfl, HF.out⟩
        · have hb1 : ((j : Int) + 1) < (s.bl : Int) := by omega
          have HF := Lib.hid HF0.out
          rw [Nat.min_eq_right (by omega)] at HF
          clear hbn
          go_wp2
          go_end0
          exact ⟨rfl, HF.out⟩
end Go.Proofs.Ytaaelhhiceildaa
