/- Layer 12: made: both maps after the calls that came in. -/
import Derived.Test.YthgkbjiclghfkaaOdrSu
namespace Go.Proofs.Ythgkbjiclghfkaa
open Go.RowKit Go.Joins M1
set_option linter.unusedVariables false
theorem info_opM : (Try.prog.info? 33).map (fun i => (i.zero, i.size, i.bytes)) = some (some (.agg #[.int .i64 0, .int .i64 0, .int .i64 0, .int .i64 0, .string ⟨#[]⟩, .int .i64 0, .int .i64 0, .int .i64 0, .int .i64 0, .string ⟨#[]⟩, .int .i64 0]), 11, 104) := by kernel_rfl
/-- The list after calls. -/
def playR (R : List Rs) (l : List OpA) : List Rs := l.foldl stepR R
theorem playR_take {l : List OpA} {i : Nat} (hi : i < l.length) (R : List Rs) : playR R (l.take (i + 1)) = stepR (playR R (l.take i)) l[i] := by
  unfold playR
  rw [List.take_succ_eq_append_getElem hi, List.foldl_append]; rfl
theorem setR_len (R : List Rs) (k v : V5) : (setR R k v).length ≤ R.length + 1 := by
  have hi : (insR R k v).length ≤ R.length + 1 := by
    unfold insR
    rw [List.length_append]
    have := List.length_filter_le aliveR R
    split <;> simp <;> omega
  unfold setR
  split
  · omega
  · split
    · split
      · rw [List.length_set]; omega
      · split
        · rw [List.length_set]; omega
        · exact hi
    · split
      · omega
      · exact hi
theorem stepR_len (R : List Rs) (x : OpA) : (stepR R x).length ≤ R.length + 1 := by
  unfold stepR
  split
  · exact setR_len _ _ _
  · split
    · exact setR_len _ _ _
    · omega
theorem playR_len (l : List OpA) : ∀ (R : List Rs), (playR R l).length ≤ R.length + l.length := by
  induction l with
  | nil => intro R; simp [playR]
  | cons x l ih =>
    intro R
    have h1 := ih (stepR R x)
    have h2 := stepR_len R x
    show (playR (stepR R x) l).length ≤ _
    rw [List.length_cons]; omega
theorem tw_new {B b b2 : Nat} {w1 w2 : World} (ho : OmR B b (.slice none 0 0) (.map none) [] w1) (hr : RM B b2 (.slice none 0 0) [] w2) (hb2 : w1.heap.size ≤ b2) (hb : Below w1.heap.size w1 w2) : Tw B b (.slice none 0 0) (.map none) b2 (.slice none 0 0) [] w2 := by
  refine ⟨ho.ch (Ch.of_below (S := []) hb) (by simp), hr, fun g hg hg2 => ?_⟩
  have h1 := (ho.lt g hg).2
  simp [rmS, Go.Proofs.Ythgkbjiclghfkaa.ob, Value.ownBlock] at hg2
  omega
theorem TwSaid.belowB {B b : Nat} {v m : Value} {b2 : Nat} {v2 : Value} {R R' : List Rs} {w w' : World} (h : Tw B b v m b2 v2 R w) (hs : TwSaid B b v m b2 v2 R' w w') (hB : B ≤ w.heap.size) : Below B w w' := hs.2.belowB (fun g hg => (h.lt g hg).1) hB
set_option maxHeartbeats 4000000 in
theorem made_no (p : Option Addr) (cap : Nat) (l : List OpA) (w : World) (hlm : l.length ≤ maxLen) (hp : 0 < l.length → ∃ g o, p = some ⟨g, o, none⟩ ∧ g < w.heap.size ∧ ∀ (j m : Nat) (hj : j < l.length), m < 11 → w.cell? ⟨g, o + j * 11 + m, none⟩ = (opC l[j])[m]?) (hl : 400 < l.length) :
    Calls Try.prog 15 #[.slice p l.length cap] w fun e w' => e = .returned (.tuple #[.pointer none, .pointer none, .bool false]) ∧ Below w.heap.size w w' := by
  have QN := Lib.hid (new_R w.heap.size w (Nat.le_refl _))
  have hd : (400 : Int) < (l.length : Int) := by omega
  clear hp
  go_enter Try.func15, Try.ntmps15
  go_wp2_with (first | (go_at_call 10; (with_reducible refine (QN.out).mono ?_); rintro e w1 ⟨b, rfl, ho, hb1, hbel⟩; have HO1 := Lib.hid ho; have HB1 := Lib.hid hbel; have HR1 := Lib.hid (rnew_any w.heap.size w1 hbel.size); clear ho hb1 hbel) | (go_at_call 11; (with_reducible refine (HR1.out).mono ?_); rintro e w2 ⟨b2, rfl, hr2, hb2, hbel2⟩; have HT2 := Lib.hid (tw_new HO1.out hr2 hb2 hbel2); have HB2 := Lib.hid (HB1.out.trans (hbel2.mono HB1.out.size)); clear hr2 hb2 hbel2))
  go_ret3
  exact ⟨rfl, HB2.out⟩
set_option maxHeartbeats 8000000 in
theorem made_yes (p : Option Addr) (cap : Nat) (l : List OpA) (w : World) (hlm : l.length ≤ maxLen) (hp : 0 < l.length → ∃ g o, p = some ⟨g, o, none⟩ ∧ g < w.heap.size ∧ ∀ (j m : Nat) (hj : j < l.length), m < 11 → w.cell? ⟨g, o + j * 11 + m, none⟩ = (opC l[j])[m]?) (hl : l.length ≤ 400) :
    Calls Try.prog 15 #[.slice p l.length cap] w fun e w' => (∃ b v m b2 v2, e = .returned (.tuple #[.pointer (some ⟨b, 0, none⟩), .pointer (some ⟨b2, 0, none⟩), .bool true]) ∧ Tw w.heap.size b v m b2 v2 (playR [] l) w') ∧ Below w.heap.size w w' := by
  have QN := Lib.hid (new_R w.heap.size w (Nat.le_refl _))
  obtain ⟨i0, hi0, jz0, jz1, jz2⟩ := info_parts info_opM
  have hd : ¬ (400 : Int) < (l.length : Int) := by omega
  have HP := Lib.hid hp
  clear hp
  go_enter Try.func15, Try.ntmps15
  go_wp2_with (first | (go_at_call 10; (with_reducible refine (QN.out).mono ?_); rintro e w1 ⟨b, rfl, ho, hb1, hbel⟩; have HO1 := Lib.hid ho; have HB1 := Lib.hid hbel; have HR1 := Lib.hid (rnew_any w.heap.size w1 hbel.size); clear ho hb1 hbel) | (go_at_call 11; (with_reducible refine (HR1.out).mono ?_); rintro e w2 ⟨b2, rfl, hr2, hb2, hbel2⟩; have HT2 := Lib.hid (tw_new HO1.out hr2 hb2 hbel2); have HB2 := Lib.hid (HB1.out.trans (hbel2.mono HB1.out.size)); clear hr2 hb2 hbel2))
  go_loopw [7] (fun v7 wr => ∃ i : Nat, i ≤ l.length ∧ v7 = .int .i64 (i : Int) ∧ Hid (∃ v m v2, Tw w.heap.size b v m b2 v2 (playR [] (l.take i)) wr) ∧ Hid (Below w.heap.size w wr)) (fun v7 _ => l.length - (intOf v7).toNat)
  case atStart => exact ⟨0, Nat.zero_le _, rfl, Lib.hid ⟨_, _, _, HT2.out⟩, HB2⟩
  case round =>
    obtain ⟨i, hi, rfl, HX, HB⟩ := hrel
    rename World => wr
    by_cases hlt : i < l.length
    · have hlt' : (i : Int) < (l.length : Int) := by omega
      have hi0' : (0 : Int) ≤ (i : Int) := by omega
      have di : IntKind.i64.wrap ((i : Int) + 1) = (i : Int) + 1 := IntWalk.i64_in _ (by omega)
      obtain ⟨v, m, v2, hT⟩ := HX.out
      have HT := Lib.hid hT
      have HPL : Hid ((playR [] (l.take i)).length ≤ 1000000) := Lib.hid (by have := playR_len (l.take i) []; rw [List.length_take] at this; simp at this; omega)
      have QS := Lib.hid (step_any w.heap.size b v m b2 v2 _ l[i] wr hT HPL.out HB.out.size)
      have HPT : Hid (playR [] (l.take (i + 1)) = stepR (playR [] (l.take i)) l[i]) := Lib.hid (playR_take hlt [])
      obtain ⟨g, o, rfl, hgl, key⟩ := HP.out (by omega)
      have key2 : ∀ j, j < 11 → wr.cell? ⟨g, o + i * 11 + j, none⟩ = (opC l[i])[j]? := fun j hj => (HB.out.cell (p := ⟨g, _, none⟩) hgl).trans (key i j hlt hj)
      have hgr : g < wr.heap.size := Nat.lt_of_lt_of_le hgl HB.out.size
      have s0 : wr.cell? ⟨g, o + i * 11, none⟩ = some (.int .i64 l[i].kind) := key2 0 (by omega)
      have s1 : wr.cell? ⟨g, o + i * 11 + 1, none⟩ = some (.int .i64 l[i].key.k) := key2 1 (by omega)
      have s2 : wr.cell? ⟨g, o + i * 11 + 2, none⟩ = some (.int .i64 l[i].key.p) := key2 2 (by omega)
      have s3 : wr.cell? ⟨g, o + i * 11 + 3, none⟩ = some (.int .i64 l[i].key.q) := key2 3 (by omega)
      have s4 : wr.cell? ⟨g, o + i * 11 + 4, none⟩ = some (.string l[i].key.s) := key2 4 (by omega)
      have s5 : wr.cell? ⟨g, o + i * 11 + 5, none⟩ = some (.int .i64 l[i].key.r) := key2 5 (by omega)
      have s6 : wr.cell? ⟨g, o + i * 11 + 6, none⟩ = some (.int .i64 l[i].val.k) := key2 6 (by omega)
      have s7 : wr.cell? ⟨g, o + i * 11 + 7, none⟩ = some (.int .i64 l[i].val.p) := key2 7 (by omega)
      have s8 : wr.cell? ⟨g, o + i * 11 + 8, none⟩ = some (.int .i64 l[i].val.q) := key2 8 (by omega)
      have s9 : wr.cell? ⟨g, o + i * 11 + 9, none⟩ = some (.string l[i].val.s) := key2 9 (by omega)
      have s10 : wr.cell? ⟨g, o + i * 11 + 10, none⟩ = some (.int .i64 l[i].val.r) := key2 10 (by omega)
      clear key key2 hT
      go_wp2_with (go_at_call 12; (with_reducible refine (QS.out).mono ?_); rintro e w3 ⟨rfl, hs3⟩)
      have HB3 : Hid (Below w.heap.size w w3) := Lib.hid (HB.out.trans (hs3.belowB HT.out HB.out.size))
      obtain ⟨⟨v', m', v2', ht3, _⟩, _⟩ := hs3
      rw [← HPT.out] at ht3
      have HT3 := Lib.hid ht3
      clear ht3
      go_wp2
      go_roundw
      case rel => exact ⟨i + 1, by omega, by go_num, Lib.hid ⟨_, _, _, HT3.out⟩, HB3⟩
      case measure => simp [intOf]; omega
    · have hlt' : ¬ (i : Int) < (l.length : Int) := by omega
      have HX2 : Hid (∃ v m v2, Tw w.heap.size b v m b2 v2 (playR [] l) wr) := Lib.hid (by have := HX.out; rw [show l.take i = l from by rw [show i = l.length by omega, List.take_length]] at this; exact this)
      go_wp2
      go_ret3
      obtain ⟨v, m, v2, h⟩ := HX2.out
      first
      | exact ⟨⟨b, v, m, b2, v2, rfl, h⟩, HB.out⟩
      | exact ⟨⟨b, v, m, b2, rfl, v2, h⟩, HB.out⟩
      | exact ⟨⟨b, v, m, b2, ⟨v2, rfl, h⟩⟩, HB.out⟩
end Go.Proofs.Ythgkbjiclghfkaa
