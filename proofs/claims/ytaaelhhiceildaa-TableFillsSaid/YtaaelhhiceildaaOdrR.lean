/- Layer 12: the reference's map in memory: New, Slots, Len, find, Get. -/
import Derived.Test.YtaaelhhiceildaaOdrN
import Derived.Test.YtaaelhhiceildaaOdrP
import Derived.Deep.DeepCutAuto
import Derived.Deep.CutBlock
import Derived.BigQuiet
import Derived.RegionTactic
import Derived.Deep.RegionLaw
import Derived.Lib.ItoaWalk
namespace Go.Proofs.Ytaaelhhiceildaa
open Go.RowKit Go.Joins M1
set_option linter.unusedVariables false
def rsC (s : Rs) : List Value := [.int .i64 s.key.k, .int .i64 s.key.p, .int .i64 s.key.q, .string s.key.s, .int .i64 s.key.r, .int .i64 s.val.k, .int .i64 s.val.p, .int .i64 s.val.q, .string s.val.s, .int .i64 s.val.r, .bool s.gone]
theorem rsC_len (s : Rs) : (rsC s).length = 11 := rfl
/-- The reference's map in memory. -/
structure RM (B b : Nat) (v : Value) (R : List Rs) (w : World) : Prop where
  blk : Blk 87 b #[v] w
  lo : B ≤ b
  row : w.ownsRow B 93 11 v R.length (R.flatMap rsC)
def rmS (b : Nat) (v : Value) : List Nat := b :: Go.Proofs.Ytaaelhhiceildaa.ob v
theorem RM.ch {B b : Nat} {v : Value} {R : List Rs} {w w' : World} {S : List Nat} (h : RM B b v R w) (hc : Ch S w w') (hS : ∀ g ∈ rmS b v, g ∉ S) : RM B b v R w' :=
  ⟨h.blk.ch hc (hS b (by simp [rmS])), h.lo, hc.ownB h.row (fun g hg => hS g (by simp [rmS, hg]))⟩
theorem RM.below {B b : Nat} {v : Value} {R : List Rs} {w w' : World} (h : RM B b v R w) (hc : Below w.heap.size w w') : RM B b v R w' := h.ch (Ch.of_below (S := []) hc) (by simp)
theorem RM.lt {B b : Nat} {v : Value} {R : List Rs} {w : World} (h : RM B b v R w) : ∀ g ∈ rmS b v, B ≤ g ∧ g < w.heap.size := by
  intro g hg
  unfold rmS at hg
  rcases List.mem_cons.1 hg with rfl | hg
  · exact ⟨h.lo, h.blk.lt⟩
  · exact own_lo h.row hg
theorem RM.form {B b : Nat} {v : Value} {R : List Rs} {w : World} (h : RM B b v R w) : ∃ p cap, v = .slice p R.length cap ∧ (0 < R.length → ∃ g, p = some ⟨g, 0, none⟩) := by
  rcases Joins.ownsRow_forms h.row with ⟨h1, h2⟩ | ⟨g, cap, h1⟩
  · exact ⟨none, 0, by rw [h1, h2], fun h0 => by omega⟩
  · exact ⟨some ⟨g, 0, none⟩, cap, h1, fun _ => ⟨g, rfl⟩⟩
theorem RM.cellAt {B b g cap n : Nat} {R : List Rs} {w : World} (h : RM B b (.slice (some ⟨g, 0, none⟩) n cap) R w) (i j : Nat) (hi : i < R.length) (hj : j < 11) : w.cell? ⟨g, i * 11 + j, none⟩ = (rsC R[i])[j]? := by
  obtain rfl : n = R.length := by
    obtain ⟨p, c, e⟩ := ownB_form h.row
    injection e
  rw [h.row.cellAt (i * 11 + j) (by have := Nat.mul_le_mul_right 11 (show i + 1 ≤ R.length by omega); simp; omega), flat_at rsC 11 rsC_len R i j hi hj]
theorem rnew_any (B : Nat) (w : World) (hB : B ≤ w.heap.size) :
    Calls Try.prog 53 #[] w fun e w' => ∃ b, e = .returned (.pointer (some ⟨b, 0, none⟩)) ∧ RM B b (.slice none 0 0) [] w' ∧ w.heap.size ≤ b ∧ Below w.heap.size w w' := by
  go_enter Try.func53, Try.ntmps53
  go_wp2
  go_ret
  exact ⟨w.heap.size, rfl, ⟨Blk.new _ _ _ _ rfl, hB, World.ownsRow_nil _ _ _ _⟩, Nat.le_refl _, (Below.refl _ _).alloc (Nat.le_refl _) _⟩
theorem lenR_take {R : List Rs} {k : Nat} (hk : k < R.length) : lenR (R.take (k + 1)) = lenR (R.take k) + lv R[k] := by
  rw [List.take_succ_eq_append_getElem hk, lenR_app]
theorem lenR_take_le (R : List Rs) (k : Nat) : lenR (R.take k) ≤ k := Nat.le_trans (lenR_le _) (by rw [List.length_take]; omega)
theorem info_rs : (Try.prog.info? 93).map (fun i => (i.zero, i.size, i.bytes)) = some (some (.agg #[.int .i64 0, .int .i64 0, .int .i64 0, .string ⟨#[]⟩, .int .i64 0, .int .i64 0, .int .i64 0, .int .i64 0, .string ⟨#[]⟩, .int .i64 0, .bool false]), 11, 104) := by kernel_rfl
set_option maxHeartbeats 1000000 in
theorem rlen_any (B b : Nat) (v : Value) (R : List Rs) (w : World) (h : RM B b v R w) (hL : R.length ≤ 1000000) :
    Calls Try.prog 75 #[.pointer (some ⟨b, 0, none⟩)] w fun e w' => e = .returned (.int .i64 (lenR R : Int)) ∧ w = w' := by
  obtain ⟨i0, hi0, jz0, jz1, jz2⟩ := info_parts info_rs
  obtain ⟨p, cap, rfl, hp⟩ := h.form
  have c0 : w.cell? ⟨b, 0, none⟩ = some (.slice p R.length cap) := h.blk.cell 0
  have hb := h.blk.lt
  have HP := Lib.hid hp
  have HO := Lib.hid h
  clear h hp
  go_enter Try.func75, Try.ntmps75
  go_wp2
  go_loopw [3, 4] (fun v3 v4 wr => ∃ k : Nat, k ≤ R.length ∧ v3 = .int .i64 (lenR (R.take k) : Int) ∧ v4 = .int .i64 (k : Int) ∧ Hid (wr = w)) (fun _ v4 _ => R.length - (intOf v4).toNat)
  case atStart => exact ⟨0, Nat.zero_le _, rfl, rfl, Lib.hid rfl⟩
  case round =>
    obtain ⟨k, hk, rfl, rfl, HW⟩ := hrel
    rename World => wr
    obtain rfl := HW.out
    clear HW
    have hlk := lenR_take_le R k
    by_cases hlt : k < R.length
    · have hlt' : (k : Int) < (R.length : Int) := by omega
      have hi0' : (0 : Int) ≤ (k : Int) := by omega
      have di : IntKind.i64.wrap ((k : Int) + 1) = (k : Int) + 1 := IntWalk.i64_in _ (by omega)
      have dn : IntKind.i64.wrap ((lenR (R.take k) : Int) + 1) = (lenR (R.take k) : Int) + 1 := IntWalk.i64_in _ (by omega)
      obtain ⟨g, rfl⟩ := HP.out (by omega)
      have hg : g < wr.heap.size := (HO.out.lt g (by simp [rmS, Go.Proofs.Ytaaelhhiceildaa.ob, Value.ownBlock])).2
      have hst := lenR_take hlt
      cases hgn : R[k].gone with
      | true =>
        have s10 : wr.cell? ⟨g, k * 11 + 10, none⟩ = some (.bool true) := by rw [← hgn]; exact HO.out.cellAt k 10 hlt (by omega)
        have HST : Hid (lenR (R.take (k + 1)) = lenR (R.take k)) := Lib.hid (by rw [hst]; simp [lv, hgn])
        clear hst hgn
        go_wp2
        go_roundw
        case rel => exact ⟨k + 1, by omega, by rw [HST.out], by go_num, Lib.hid trivial⟩
        case measure => simp [intOf]; omega
      | false =>
        have s10 : wr.cell? ⟨g, k * 11 + 10, none⟩ = some (.bool false) := by rw [← hgn]; exact HO.out.cellAt k 10 hlt (by omega)
        have HST : Hid (lenR (R.take (k + 1)) = lenR (R.take k) + 1) := Lib.hid (by rw [hst]; simp [lv, hgn])
        clear hst hgn
        go_wp2
        go_roundw
        case rel => exact ⟨k + 1, by omega, by rw [HST.out]; go_num, by go_num, Lib.hid trivial⟩
        case measure => simp [intOf]; omega
    · have hlt' : ¬ (k : Int) < (R.length : Int) := by omega
      obtain rfl : k = R.length := by omega
      go_wp2
      go_ret
      exact ⟨by first | rfl | simp, rfl⟩
theorem eq_v5 (a c : V5) (W : World) : (binOp .eql 26 (.agg #[.int .i64 a.k, .int .i64 a.p, .int .i64 a.q, .string a.s, .int .i64 a.r]) (.agg #[.int .i64 c.k, .int .i64 c.p, .int .i64 c.q, .string c.s, .int .i64 c.r])).run Try.prog W = .ok (.bool (decide (a = c))) W := by
  rw [eq_val]
  have : eqV a.k a.p a.q a.s a.r c.k c.p c.q c.s c.r = decide (a = c) := by
    unfold eqV
    rw [Bool.eq_iff_iff]
    cases a; cases c; simp
  rw [this]
theorem fnd_snoc (t : Rs) (k : V5) : ∀ (R : List Rs), (∀ s ∈ R, s.key = k → s.gone = true) → fnd (R ++ [t]) k = if t.key = k then some R.length else fnd R k
  | [], _ => by
    simp only [List.nil_append, fnd, List.length_nil]
    by_cases h : t.key = k <;> cases t.gone <;> simp [h]
  | s :: R, h => by
    have ih := fnd_snoc t k R (fun x hx => h x (List.mem_cons_of_mem _ hx))
    have hs : ¬ (s.key = k ∧ s.gone = false) := fun e => by have := h s List.mem_cons_self e.1; rw [e.2] at this; cases this
    rw [List.cons_append, fnd, if_neg hs, ih]
    by_cases e : t.key = k
    · simp [e]
    · rw [if_neg e, if_neg e, fnd, if_neg hs]
def fI (o : Option Nat) : Int := match o with
  | some i => i
  | none => -1
end Go.Proofs.Ytaaelhhiceildaa
