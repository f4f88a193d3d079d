/- Layer 12: the functions of ordered maps (11). -/
import Derived.Test.YthgkbjiclghfkaaOdrL
import Derived.Deep.DeepCutAuto
import Derived.Deep.CutBlock
import Derived.BigQuiet
import Derived.Deep.RegionHeld3
namespace Go.Proofs.Ythgkbjiclghfkaa
open Go.RowKit Go.Joins M1
set_option linter.unusedVariables false
def OmR (B b : Nat) (v m : Value) (R : List Rs) (w : World) : Prop := ∃ L, Om B b v m L w ∧ rabs L = R
theorem OmR.ch {B b : Nat} {v m : Value} {R : List Rs} {w w' : World} {S : List Nat} (h : OmR B b v m R w) (hc : Ch S w w') (hS : ∀ g ∈ omS b v m, g ∉ S) : OmR B b v m R w' := by
  obtain ⟨L, h1, h2⟩ := h
  exact ⟨L, h1.ch hc hS, h2⟩
theorem OmR.lt {B b : Nat} {v m : Value} {R : List Rs} {w : World} (h : OmR B b v m R w) : ∀ g ∈ omS b v m, B ≤ g ∧ g < w.heap.size := by
  obtain ⟨L, h1, h2⟩ := h
  exact h1.lt
theorem set_R (B b : Nat) (v m : Value) (R : List Rs) (k x : V5) (w : World) (h : OmR B b v m R w) (hL : R.length ≤ 1000000) (hBw : B ≤ w.heap.size) :
    Calls Try.prog 20 #[.pointer (some ⟨b, 0, none⟩), .agg #[.int .i64 k.k, .int .i64 k.p, .int .i64 k.q, .string k.s, .int .i64 k.r], .agg #[.int .i64 x.k, .int .i64 x.p, .int .i64 x.q, .string x.s, .int .i64 x.r]] w fun e w' => e = .returned (.int .i64 (errR k x)) ∧ (∃ v' m', OmR B b v' m' (setR R k x) w' ∧ ∀ g ∈ omS b v' m', g ∈ omS b v m ∨ w.heap.size ≤ g) ∧ Ch (omS b v m) w w' := by
  obtain ⟨L, h1, rfl⟩ := h
  refine (set_any B b v m L k x w h1 (by rw [rabs_len] at hL; exact hL) hBw).mono ?_
  rintro e w' ⟨rfl, ⟨v', m', L', q1, q2, _, q4⟩, q5⟩
  exact ⟨rfl, ⟨v', m', ⟨L', q1, q2⟩, q4⟩, q5⟩
theorem get_R (B b : Nat) (v m : Value) (R : List Rs) (k : V5) (w : World) (h : OmR B b v m R w) (hL : R.length ≤ 1000000) :
    Calls Try.prog 18 #[.pointer (some ⟨b, 0, none⟩), .agg #[.int .i64 k.k, .int .i64 k.p, .int .i64 k.q, .string k.s, .int .i64 k.r]] w fun e w' => e = .returned (.agg #[.int .i64 (getR R k).k, .int .i64 (getR R k).p, .int .i64 (getR R k).q, .string (getR R k).s, .int .i64 (getR R k).r]) ∧ Below w.heap.size w w' := by
  obtain ⟨L, h1, rfl⟩ := h
  rw [getL_R h1.inv]
  exact get_any B b v m L k w h1 (by rw [rabs_len] at hL; exact hL)
theorem len_R (B b : Nat) (v m : Value) (R : List Rs) (w : World) (h : OmR B b v m R w) :
    Calls Try.prog 19 #[.pointer (some ⟨b, 0, none⟩)] w fun e w' => e = .returned (.int .i64 (lenR R : Int)) ∧ w = w' := by
  obtain ⟨L, h1, rfl⟩ := h
  rw [lenR_abs]
  exact len_any B b v m L w h1
theorem slots_R (B b : Nat) (v m : Value) (R : List Rs) (w : World) (h : OmR B b v m R w) :
    Calls Try.prog 21 #[.pointer (some ⟨b, 0, none⟩)] w fun e w' => e = .returned (.int .i64 (R.length : Int)) ∧ w = w' := by
  obtain ⟨L, h1, rfl⟩ := h
  rw [rabs_len]
  exact slots_any B b v m L w h1
theorem keys_R (B b : Nat) (v m : Value) (R : List Rs) (w : World) (h : OmR B b v m R w) (hL : R.length ≤ 1000000) :
    Calls Try.prog 16 #[.pointer (some ⟨b, 0, none⟩)] w fun e w' => (∃ v', e = .returned v' ∧ w'.ownsRow w.heap.size 31 5 v' (keysR R).length ((keysR R).flatMap vC)) ∧ Below w.heap.size w w' := by
  obtain ⟨L, h1, rfl⟩ := h
  rw [keysR_abs]
  exact keys_any B b v m L w h1 (by rw [rabs_len] at hL; exact hL)
theorem new_R (B : Nat) (w : World) (hB : B ≤ w.heap.size) :
    Calls Try.prog 10 #[] w fun e w' => ∃ b, e = .returned (.pointer (some ⟨b, 0, none⟩)) ∧ OmR B b (.slice none 0 0) (.map none) [] w' ∧ w.heap.size ≤ b ∧ Below w.heap.size w w' := by
  exact (new_any B w hB).mono fun e w' ⟨b, h1, h2, h3⟩ => ⟨b, h1, ⟨[], h2, rfl⟩, h3⟩
def lv1 : List Rs := setR [] (⟨3, 0, 0, ⟨#[97]⟩, 0⟩ : V5) (⟨1, 0, 0, ⟨#[]⟩, 1⟩ : V5)
def lv2 : List Rs := setR lv1 (⟨3, 0, 0, ⟨#[98]⟩, 0⟩ : V5) (⟨1, 0, 0, ⟨#[]⟩, 1⟩ : V5)
def lv3 : List Rs := setR lv2 (⟨3, 0, 0, ⟨#[97]⟩, 0⟩ : V5) v5z
def lv4 : List Rs := setR lv3 (⟨3, 0, 0, ⟨#[97]⟩, 0⟩ : V5) (⟨3, 0, 0, ⟨#[98]⟩, 0⟩ : V5)
theorem lv_facts : errR (⟨3, 0, 0, ⟨#[97]⟩, 0⟩ : V5) (⟨1, 0, 0, ⟨#[]⟩, 1⟩ : V5) = 0 ∧ errR (⟨3, 0, 0, ⟨#[98]⟩, 0⟩ : V5) (⟨1, 0, 0, ⟨#[]⟩, 1⟩ : V5) = 0 ∧ errR (⟨3, 0, 0, ⟨#[97]⟩, 0⟩ : V5) v5z = 0 ∧ errR (⟨3, 0, 0, ⟨#[97]⟩, 0⟩ : V5) (⟨3, 0, 0, ⟨#[98]⟩, 0⟩ : V5) = 0 := by decide +kernel
theorem lv_keys : (keysR lv4 = [(⟨3, 0, 0, ⟨#[98]⟩, 0⟩ : V5), (⟨3, 0, 0, ⟨#[97]⟩, 0⟩ : V5)]) := by
  have : (keysR lv4).map (fun v => (v.k, v.p, v.q, v.s.data.toList, v.r)) = [(3, 0, 0, [98], 0), (3, 0, 0, [97], 0)] := by decide +kernel
  decide +kernel
theorem lv_len : lv4.length = 3 ∧ lv1.length ≤ 3 ∧ lv2.length ≤ 3 ∧ lv3.length ≤ 3 := by decide +kernel
theorem lv_get : getR lv4 (⟨3, 0, 0, ⟨#[97]⟩, 0⟩ : V5) = (⟨3, 0, 0, ⟨#[98]⟩, 0⟩ : V5) := by decide +kernel
theorem keepL {B b : Nat} {v m : Value} {R : List Rs} {W6 V V' : World}
    (h : (∀ c o, c < W6.heap.size → V.cell? ⟨c, o, none⟩ = W6.cell? ⟨c, o, none⟩) ∧ OmR B b v m R V ∧ Below W6.heap.size W6 V) (hb : Below V.heap.size V V') :
    (∀ c o, c < W6.heap.size → V'.cell? ⟨c, o, none⟩ = W6.cell? ⟨c, o, none⟩) ∧ OmR B b v m R V' ∧ Below W6.heap.size W6 V' := by
  obtain ⟨h1, h2, h3⟩ := h
  exact ⟨fun c o hc => (hb.cell (p := ⟨c, o, none⟩) (Nat.lt_of_lt_of_le hc h3.size)).trans (h1 c o hc), h2.ch (Ch.of_below (S := []) hb) (by simp), h3.trans (hb.mono h3.size)⟩
set_option maxHeartbeats 8000000 in
set_option maxRecDepth 100000 in
theorem lives_any (w : World) :
    Calls Try.prog 14 #[] w fun e w' => e = .returned (.bool true) ∧ Below w.heap.size w w' := by
  have QN := Lib.hid (new_R w.heap.size w (Nat.le_refl _))
  go_enter Try.func14, Try.ntmps14
  go_upto_region 2 with (go_at_call 10; (with_reducible refine (QN.out).mono ?_); rintro e w1 ⟨b, rfl, ho, hb1, hbel⟩)
  have QS2 : Hid (∀ W v m, OmR w.heap.size b v m ([] : List Rs) W → w.heap.size ≤ W.heap.size → Calls Try.prog 20 #[.pointer (some ⟨b, 0, none⟩), .agg #[.int .i64 3, .int .i64 0, .int .i64 0, .string ⟨#[97]⟩, .int .i64 0], .agg #[.int .i64 1, .int .i64 0, .int .i64 0, .string ⟨#[]⟩, .int .i64 1]] W fun e w' => e = .returned (.int .i64 0) ∧ (∃ v' m', OmR w.heap.size b v' m' lv1 w' ∧ ∀ g ∈ omS b v' m', g ∈ omS b v m ∨ W.heap.size ≤ g) ∧ Ch (omS b v m) W w') := Lib.hid fun W v m h hB => by
    have := set_R w.heap.size b v m ([] : List Rs) (⟨3, 0, 0, ⟨#[97]⟩, 0⟩ : V5) (⟨1, 0, 0, ⟨#[]⟩, 1⟩ : V5) W h (by decide) hB
    rw [show errR (⟨3, 0, 0, ⟨#[97]⟩, 0⟩ : V5) (⟨1, 0, 0, ⟨#[]⟩, 1⟩ : V5) = 0 from lv_facts.1] at this
    exact this
  have QS3 : Hid (∀ W v m, OmR w.heap.size b v m lv1 W → w.heap.size ≤ W.heap.size → Calls Try.prog 20 #[.pointer (some ⟨b, 0, none⟩), .agg #[.int .i64 3, .int .i64 0, .int .i64 0, .string ⟨#[98]⟩, .int .i64 0], .agg #[.int .i64 1, .int .i64 0, .int .i64 0, .string ⟨#[]⟩, .int .i64 1]] W fun e w' => e = .returned (.int .i64 0) ∧ (∃ v' m', OmR w.heap.size b v' m' lv2 w' ∧ ∀ g ∈ omS b v' m', g ∈ omS b v m ∨ W.heap.size ≤ g) ∧ Ch (omS b v m) W w') := Lib.hid fun W v m h hB => by
    have := set_R w.heap.size b v m lv1 (⟨3, 0, 0, ⟨#[98]⟩, 0⟩ : V5) (⟨1, 0, 0, ⟨#[]⟩, 1⟩ : V5) W h (by have := lv_len; omega) hB
    rw [show errR (⟨3, 0, 0, ⟨#[98]⟩, 0⟩ : V5) (⟨1, 0, 0, ⟨#[]⟩, 1⟩ : V5) = 0 from lv_facts.2.1] at this
    exact this
  have QS4 : Hid (∀ W v m, OmR w.heap.size b v m lv2 W → w.heap.size ≤ W.heap.size → Calls Try.prog 20 #[.pointer (some ⟨b, 0, none⟩), .agg #[.int .i64 3, .int .i64 0, .int .i64 0, .string ⟨#[97]⟩, .int .i64 0], .agg #[.int .i64 0, .int .i64 0, .int .i64 0, .string ⟨#[]⟩, .int .i64 0]] W fun e w' => e = .returned (.int .i64 0) ∧ (∃ v' m', OmR w.heap.size b v' m' lv3 w' ∧ ∀ g ∈ omS b v' m', g ∈ omS b v m ∨ W.heap.size ≤ g) ∧ Ch (omS b v m) W w') := Lib.hid fun W v m h hB => by
    have := set_R w.heap.size b v m lv2 (⟨3, 0, 0, ⟨#[97]⟩, 0⟩ : V5) v5z W h (by have := lv_len; omega) hB
    rw [show errR (⟨3, 0, 0, ⟨#[97]⟩, 0⟩ : V5) v5z = 0 from lv_facts.2.2.1] at this
    exact this
  have QS5 : Hid (∀ W v m, OmR w.heap.size b v m lv3 W → w.heap.size ≤ W.heap.size → Calls Try.prog 20 #[.pointer (some ⟨b, 0, none⟩), .agg #[.int .i64 3, .int .i64 0, .int .i64 0, .string ⟨#[97]⟩, .int .i64 0], .agg #[.int .i64 3, .int .i64 0, .int .i64 0, .string ⟨#[98]⟩, .int .i64 0]] W fun e w' => e = .returned (.int .i64 0) ∧ (∃ v' m', OmR w.heap.size b v' m' lv4 w' ∧ ∀ g ∈ omS b v' m', g ∈ omS b v m ∨ W.heap.size ≤ g) ∧ Ch (omS b v m) W w') := Lib.hid fun W v m h hB => by
    have := set_R w.heap.size b v m lv3 (⟨3, 0, 0, ⟨#[97]⟩, 0⟩ : V5) (⟨3, 0, 0, ⟨#[98]⟩, 0⟩ : V5) W h (by have := lv_len; omega) hB
    rw [show errR (⟨3, 0, 0, ⟨#[97]⟩, 0⟩ : V5) (⟨3, 0, 0, ⟨#[98]⟩, 0⟩ : V5) = 0 from lv_facts.2.2.2] at this
    exact this
  have HW0 := Lib.hid hbel
  have HO0 := Lib.hid ho
  clear QN
  go_upto_region 6 with fail
  have HCB : Hid (Ch [] w1 (((w1.alloc (.cells #[.int .i64 3, .int .i64 0, .int .i64 0, .string ⟨#[97]⟩, .int .i64 0] 31)).alloc (.cells #[.int .i64 3, .int .i64 0, .int .i64 0, .string ⟨#[98]⟩, .int .i64 0] 31)).alloc (.cells #[.int .i64 1, .int .i64 0, .int .i64 0, .string ⟨#[]⟩, .int .i64 1] 31))) := Lib.hid ((((Ch.refl [] w1).alloc _).alloc _).alloc _)
  have HO1 : Hid (OmR w.heap.size b (.slice none 0 0) (.map none) [] (((w1.alloc (.cells #[.int .i64 3, .int .i64 0, .int .i64 0, .string ⟨#[97]⟩, .int .i64 0] 31)).alloc (.cells #[.int .i64 3, .int .i64 0, .int .i64 0, .string ⟨#[98]⟩, .int .i64 0] 31)).alloc (.cells #[.int .i64 1, .int .i64 0, .int .i64 0, .string ⟨#[]⟩, .int .i64 1] 31))) := Lib.hid (HO0.out.ch HCB.out (by simp))
  have HB1 : Hid (w.heap.size ≤ (((w1.alloc (.cells #[.int .i64 3, .int .i64 0, .int .i64 0, .string ⟨#[97]⟩, .int .i64 0] 31)).alloc (.cells #[.int .i64 3, .int .i64 0, .int .i64 0, .string ⟨#[98]⟩, .int .i64 0] 31)).alloc (.cells #[.int .i64 1, .int .i64 0, .int .i64 0, .string ⟨#[]⟩, .int .i64 1] 31)).heap.size) := Lib.hid (Nat.le_trans hbel.size HCB.out.size)
  have HD1 : Hid (∀ y ∈ omS b (.slice none 0 0) (.map none), y < w1.heap.size ∨ w1.heap.size + 3 ≤ y) := Lib.hid fun y hy => .inl (HO0.out.lt y hy).2
  have HZ1 : Hid (w1.heap.size + 3 ≤ (((w1.alloc (.cells #[.int .i64 3, .int .i64 0, .int .i64 0, .string ⟨#[97]⟩, .int .i64 0] 31)).alloc (.cells #[.int .i64 3, .int .i64 0, .int .i64 0, .string ⟨#[98]⟩, .int .i64 0] 31)).alloc (.cells #[.int .i64 1, .int .i64 0, .int .i64 0, .string ⟨#[]⟩, .int .i64 1] 31)).heap.size) := Lib.hid (by simp)
  have HW1 : Hid (Below w.heap.size w (((w1.alloc (.cells #[.int .i64 3, .int .i64 0, .int .i64 0, .string ⟨#[97]⟩, .int .i64 0] 31)).alloc (.cells #[.int .i64 3, .int .i64 0, .int .i64 0, .string ⟨#[98]⟩, .int .i64 0] 31)).alloc (.cells #[.int .i64 1, .int .i64 0, .int .i64 0, .string ⟨#[]⟩, .int .i64 1] 31))) := Lib.hid (hbel.trans (HCB.out.below.mono hbel.size))
  have K01 : Hid (Blk 31 (w1.heap.size) #[.int .i64 3, .int .i64 0, .int .i64 0, .string ⟨#[97]⟩, .int .i64 0] (((w1.alloc (.cells #[.int .i64 3, .int .i64 0, .int .i64 0, .string ⟨#[97]⟩, .int .i64 0] 31)).alloc (.cells #[.int .i64 3, .int .i64 0, .int .i64 0, .string ⟨#[98]⟩, .int .i64 0] 31)).alloc (.cells #[.int .i64 1, .int .i64 0, .int .i64 0, .string ⟨#[]⟩, .int .i64 1] 31))) := Lib.hid ((Blk.new w1 31 _ _ rfl).ch (((Ch.refl [] _).alloc _).alloc _) (by simp))
  have K11 : Hid (Blk 31 (w1.heap.size + 1) #[.int .i64 3, .int .i64 0, .int .i64 0, .string ⟨#[98]⟩, .int .i64 0] (((w1.alloc (.cells #[.int .i64 3, .int .i64 0, .int .i64 0, .string ⟨#[97]⟩, .int .i64 0] 31)).alloc (.cells #[.int .i64 3, .int .i64 0, .int .i64 0, .string ⟨#[98]⟩, .int .i64 0] 31)).alloc (.cells #[.int .i64 1, .int .i64 0, .int .i64 0, .string ⟨#[]⟩, .int .i64 1] 31))) := Lib.hid ((Blk.new (w1.alloc (.cells #[.int .i64 3, .int .i64 0, .int .i64 0, .string ⟨#[97]⟩, .int .i64 0] 31)) 31 _ _ (by simp)).ch ((Ch.refl [] _).alloc _) (by simp))
  have K21 : Hid (Blk 31 (w1.heap.size + 1 + 1) #[.int .i64 1, .int .i64 0, .int .i64 0, .string ⟨#[]⟩, .int .i64 1] (((w1.alloc (.cells #[.int .i64 3, .int .i64 0, .int .i64 0, .string ⟨#[97]⟩, .int .i64 0] 31)).alloc (.cells #[.int .i64 3, .int .i64 0, .int .i64 0, .string ⟨#[98]⟩, .int .i64 0] 31)).alloc (.cells #[.int .i64 1, .int .i64 0, .int .i64 0, .string ⟨#[]⟩, .int .i64 1] 31))) := Lib.hid (Blk.new ((w1.alloc (.cells #[.int .i64 3, .int .i64 0, .int .i64 0, .string ⟨#[97]⟩, .int .i64 0] 31)).alloc (.cells #[.int .i64 3, .int .i64 0, .int .i64 0, .string ⟨#[98]⟩, .int .i64 0] 31)) 31 _ _ (by simp))
  clear ho hb1 hbel
  go_upto_region 8 with (first | (go_at_call 20; (with_reducible refine (QS2.out _ _ _ HO1.out HB1.out).mono ?_); rintro e w2 ⟨rfl, ⟨v2, m2, ho2, hf2⟩, hc2⟩; have HO2 := Lib.hid ho2; have HB2 : Hid (w.heap.size ≤ w2.heap.size) := Lib.hid (Nat.le_trans HB1.out hc2.size); have HD2 : Hid (∀ y ∈ omS b v2 m2, y < w1.heap.size ∨ w1.heap.size + 3 ≤ y) := Lib.hid (fun y hy => (hf2 y hy).elim (fun h' => HD1.out y h') (fun h' => .inr (Nat.le_trans HZ1.out h'))); have HZ2 : Hid (w1.heap.size + 3 ≤ w2.heap.size) := Lib.hid (Nat.le_trans HZ1.out hc2.size); have HW2 : Hid (Below w.heap.size w w2) := Lib.hid (HW1.out.trans (hc2.belowB (fun y hy => (HO1.out.lt y hy).1) HB1.out)); have K02 := Lib.hid (K01.out.ch hc2 (fun hy => by have := HD1.out _ hy; omega)); have K12 := Lib.hid (K11.out.ch hc2 (fun hy => by have := HD1.out _ hy; omega)); have K22 := Lib.hid (K21.out.ch hc2 (fun hy => by have := HD1.out _ hy; omega)); have c2_0_0 : w2.cell? ⟨w1.heap.size, 0, none⟩ = some (.int .i64 3) := K02.out.cell 0; have c2_0_1 : w2.cell? ⟨w1.heap.size, 1, none⟩ = some (.int .i64 0) := K02.out.cell 1; have c2_0_2 : w2.cell? ⟨w1.heap.size, 2, none⟩ = some (.int .i64 0) := K02.out.cell 2; have c2_0_3 : w2.cell? ⟨w1.heap.size, 3, none⟩ = some (.string ⟨#[97]⟩) := K02.out.cell 3; have c2_0_4 : w2.cell? ⟨w1.heap.size, 4, none⟩ = some (.int .i64 0) := K02.out.cell 4; have c2_1_0 : w2.cell? ⟨w1.heap.size + 1, 0, none⟩ = some (.int .i64 3) := K12.out.cell 0; have c2_1_1 : w2.cell? ⟨w1.heap.size + 1, 1, none⟩ = some (.int .i64 0) := K12.out.cell 1; have c2_1_2 : w2.cell? ⟨w1.heap.size + 1, 2, none⟩ = some (.int .i64 0) := K12.out.cell 2; have c2_1_3 : w2.cell? ⟨w1.heap.size + 1, 3, none⟩ = some (.string ⟨#[98]⟩) := K12.out.cell 3; have c2_1_4 : w2.cell? ⟨w1.heap.size + 1, 4, none⟩ = some (.int .i64 0) := K12.out.cell 4; have c2_2_0 : w2.cell? ⟨w1.heap.size + 1 + 1, 0, none⟩ = some (.int .i64 1) := K22.out.cell 0; have c2_2_1 : w2.cell? ⟨w1.heap.size + 1 + 1, 1, none⟩ = some (.int .i64 0) := K22.out.cell 1; have c2_2_2 : w2.cell? ⟨w1.heap.size + 1 + 1, 2, none⟩ = some (.int .i64 0) := K22.out.cell 2; have c2_2_3 : w2.cell? ⟨w1.heap.size + 1 + 1, 3, none⟩ = some (.string ⟨#[]⟩) := K22.out.cell 3; have c2_2_4 : w2.cell? ⟨w1.heap.size + 1 + 1, 4, none⟩ = some (.int .i64 1) := K22.out.cell 4; clear ho2 hf2 hc2) | (go_at_call 20; (with_reducible refine (QS3.out _ _ _ HO2.out HB2.out).mono ?_); rintro e w3 ⟨rfl, ⟨v3, m3, ho3, hf3⟩, hc3⟩; have HO3 := Lib.hid ho3; have HB3 : Hid (w.heap.size ≤ w3.heap.size) := Lib.hid (Nat.le_trans HB2.out hc3.size); have HD3 : Hid (∀ y ∈ omS b v3 m3, y < w1.heap.size ∨ w1.heap.size + 3 ≤ y) := Lib.hid (fun y hy => (hf3 y hy).elim (fun h' => HD2.out y h') (fun h' => .inr (Nat.le_trans HZ2.out h'))); have HZ3 : Hid (w1.heap.size + 3 ≤ w3.heap.size) := Lib.hid (Nat.le_trans HZ2.out hc3.size); have HW3 : Hid (Below w.heap.size w w3) := Lib.hid (HW2.out.trans (hc3.belowB (fun y hy => (HO2.out.lt y hy).1) HB2.out)); have K03 := Lib.hid (K02.out.ch hc3 (fun hy => by have := HD2.out _ hy; omega)); have K13 := Lib.hid (K12.out.ch hc3 (fun hy => by have := HD2.out _ hy; omega)); have K23 := Lib.hid (K22.out.ch hc3 (fun hy => by have := HD2.out _ hy; omega)); have c3_0_0 : w3.cell? ⟨w1.heap.size, 0, none⟩ = some (.int .i64 3) := K03.out.cell 0; have c3_0_1 : w3.cell? ⟨w1.heap.size, 1, none⟩ = some (.int .i64 0) := K03.out.cell 1; have c3_0_2 : w3.cell? ⟨w1.heap.size, 2, none⟩ = some (.int .i64 0) := K03.out.cell 2; have c3_0_3 : w3.cell? ⟨w1.heap.size, 3, none⟩ = some (.string ⟨#[97]⟩) := K03.out.cell 3; have c3_0_4 : w3.cell? ⟨w1.heap.size, 4, none⟩ = some (.int .i64 0) := K03.out.cell 4; have c3_1_0 : w3.cell? ⟨w1.heap.size + 1, 0, none⟩ = some (.int .i64 3) := K13.out.cell 0; have c3_1_1 : w3.cell? ⟨w1.heap.size + 1, 1, none⟩ = some (.int .i64 0) := K13.out.cell 1; have c3_1_2 : w3.cell? ⟨w1.heap.size + 1, 2, none⟩ = some (.int .i64 0) := K13.out.cell 2; have c3_1_3 : w3.cell? ⟨w1.heap.size + 1, 3, none⟩ = some (.string ⟨#[98]⟩) := K13.out.cell 3; have c3_1_4 : w3.cell? ⟨w1.heap.size + 1, 4, none⟩ = some (.int .i64 0) := K13.out.cell 4; have c3_2_0 : w3.cell? ⟨w1.heap.size + 1 + 1, 0, none⟩ = some (.int .i64 1) := K23.out.cell 0; have c3_2_1 : w3.cell? ⟨w1.heap.size + 1 + 1, 1, none⟩ = some (.int .i64 0) := K23.out.cell 1; have c3_2_2 : w3.cell? ⟨w1.heap.size + 1 + 1, 2, none⟩ = some (.int .i64 0) := K23.out.cell 2; have c3_2_3 : w3.cell? ⟨w1.heap.size + 1 + 1, 3, none⟩ = some (.string ⟨#[]⟩) := K23.out.cell 3; have c3_2_4 : w3.cell? ⟨w1.heap.size + 1 + 1, 4, none⟩ = some (.int .i64 1) := K23.out.cell 4; clear ho3 hf3 hc3) | (go_at_call 20; (with_reducible refine (QS4.out _ _ _ HO3.out HB3.out).mono ?_); rintro e w4 ⟨rfl, ⟨v4, m4, ho4, hf4⟩, hc4⟩; have HO4 := Lib.hid ho4; have HB4 : Hid (w.heap.size ≤ w4.heap.size) := Lib.hid (Nat.le_trans HB3.out hc4.size); have HD4 : Hid (∀ y ∈ omS b v4 m4, y < w1.heap.size ∨ w1.heap.size + 3 ≤ y) := Lib.hid (fun y hy => (hf4 y hy).elim (fun h' => HD3.out y h') (fun h' => .inr (Nat.le_trans HZ3.out h'))); have HZ4 : Hid (w1.heap.size + 3 ≤ w4.heap.size) := Lib.hid (Nat.le_trans HZ3.out hc4.size); have HW4 : Hid (Below w.heap.size w w4) := Lib.hid (HW3.out.trans (hc4.belowB (fun y hy => (HO3.out.lt y hy).1) HB3.out)); have K04 := Lib.hid (K03.out.ch hc4 (fun hy => by have := HD3.out _ hy; omega)); have K14 := Lib.hid (K13.out.ch hc4 (fun hy => by have := HD3.out _ hy; omega)); have K24 := Lib.hid (K23.out.ch hc4 (fun hy => by have := HD3.out _ hy; omega)); have c4_0_0 : w4.cell? ⟨w1.heap.size, 0, none⟩ = some (.int .i64 3) := K04.out.cell 0; have c4_0_1 : w4.cell? ⟨w1.heap.size, 1, none⟩ = some (.int .i64 0) := K04.out.cell 1; have c4_0_2 : w4.cell? ⟨w1.heap.size, 2, none⟩ = some (.int .i64 0) := K04.out.cell 2; have c4_0_3 : w4.cell? ⟨w1.heap.size, 3, none⟩ = some (.string ⟨#[97]⟩) := K04.out.cell 3; have c4_0_4 : w4.cell? ⟨w1.heap.size, 4, none⟩ = some (.int .i64 0) := K04.out.cell 4; have c4_1_0 : w4.cell? ⟨w1.heap.size + 1, 0, none⟩ = some (.int .i64 3) := K14.out.cell 0; have c4_1_1 : w4.cell? ⟨w1.heap.size + 1, 1, none⟩ = some (.int .i64 0) := K14.out.cell 1; have c4_1_2 : w4.cell? ⟨w1.heap.size + 1, 2, none⟩ = some (.int .i64 0) := K14.out.cell 2; have c4_1_3 : w4.cell? ⟨w1.heap.size + 1, 3, none⟩ = some (.string ⟨#[98]⟩) := K14.out.cell 3; have c4_1_4 : w4.cell? ⟨w1.heap.size + 1, 4, none⟩ = some (.int .i64 0) := K14.out.cell 4; have c4_2_0 : w4.cell? ⟨w1.heap.size + 1 + 1, 0, none⟩ = some (.int .i64 1) := K24.out.cell 0; have c4_2_1 : w4.cell? ⟨w1.heap.size + 1 + 1, 1, none⟩ = some (.int .i64 0) := K24.out.cell 1; have c4_2_2 : w4.cell? ⟨w1.heap.size + 1 + 1, 2, none⟩ = some (.int .i64 0) := K24.out.cell 2; have c4_2_3 : w4.cell? ⟨w1.heap.size + 1 + 1, 3, none⟩ = some (.string ⟨#[]⟩) := K24.out.cell 3; have c4_2_4 : w4.cell? ⟨w1.heap.size + 1 + 1, 4, none⟩ = some (.int .i64 1) := K24.out.cell 4; clear ho4 hf4 hc4) | (go_at_call 20; (with_reducible refine (QS5.out _ _ _ HO4.out HB4.out).mono ?_); rintro e w5 ⟨rfl, ⟨v5, m5, ho5, hf5⟩, hc5⟩; have HO5 := Lib.hid ho5; have HB5 : Hid (w.heap.size ≤ w5.heap.size) := Lib.hid (Nat.le_trans HB4.out hc5.size); have HD5 : Hid (∀ y ∈ omS b v5 m5, y < w1.heap.size ∨ w1.heap.size + 3 ≤ y) := Lib.hid (fun y hy => (hf5 y hy).elim (fun h' => HD4.out y h') (fun h' => .inr (Nat.le_trans HZ4.out h'))); have HZ5 : Hid (w1.heap.size + 3 ≤ w5.heap.size) := Lib.hid (Nat.le_trans HZ4.out hc5.size); have HW5 : Hid (Below w.heap.size w w5) := Lib.hid (HW4.out.trans (hc5.belowB (fun y hy => (HO4.out.lt y hy).1) HB4.out)); have K05 := Lib.hid (K04.out.ch hc5 (fun hy => by have := HD4.out _ hy; omega)); have K15 := Lib.hid (K14.out.ch hc5 (fun hy => by have := HD4.out _ hy; omega)); have K25 := Lib.hid (K24.out.ch hc5 (fun hy => by have := HD4.out _ hy; omega)); have c5_0_0 : w5.cell? ⟨w1.heap.size, 0, none⟩ = some (.int .i64 3) := K05.out.cell 0; have c5_0_1 : w5.cell? ⟨w1.heap.size, 1, none⟩ = some (.int .i64 0) := K05.out.cell 1; have c5_0_2 : w5.cell? ⟨w1.heap.size, 2, none⟩ = some (.int .i64 0) := K05.out.cell 2; have c5_0_3 : w5.cell? ⟨w1.heap.size, 3, none⟩ = some (.string ⟨#[97]⟩) := K05.out.cell 3; have c5_0_4 : w5.cell? ⟨w1.heap.size, 4, none⟩ = some (.int .i64 0) := K05.out.cell 4; have c5_1_0 : w5.cell? ⟨w1.heap.size + 1, 0, none⟩ = some (.int .i64 3) := K15.out.cell 0; have c5_1_1 : w5.cell? ⟨w1.heap.size + 1, 1, none⟩ = some (.int .i64 0) := K15.out.cell 1; have c5_1_2 : w5.cell? ⟨w1.heap.size + 1, 2, none⟩ = some (.int .i64 0) := K15.out.cell 2; have c5_1_3 : w5.cell? ⟨w1.heap.size + 1, 3, none⟩ = some (.string ⟨#[98]⟩) := K15.out.cell 3; have c5_1_4 : w5.cell? ⟨w1.heap.size + 1, 4, none⟩ = some (.int .i64 0) := K15.out.cell 4; have c5_2_0 : w5.cell? ⟨w1.heap.size + 1 + 1, 0, none⟩ = some (.int .i64 1) := K25.out.cell 0; have c5_2_1 : w5.cell? ⟨w1.heap.size + 1 + 1, 1, none⟩ = some (.int .i64 0) := K25.out.cell 1; have c5_2_2 : w5.cell? ⟨w1.heap.size + 1 + 1, 2, none⟩ = some (.int .i64 0) := K25.out.cell 2; have c5_2_3 : w5.cell? ⟨w1.heap.size + 1 + 1, 3, none⟩ = some (.string ⟨#[]⟩) := K25.out.cell 3; have c5_2_4 : w5.cell? ⟨w1.heap.size + 1 + 1, 4, none⟩ = some (.int .i64 1) := K25.out.cell 4; clear ho5 hf5 hc5))
  have QK := Lib.hid (keys_R w.heap.size b v5 m5 lv4 w5 HO5.out (by have := lv_len; omega))
  rw [lv_keys] at QK
  go_upto_region 9 with (go_at_call 16; (with_reducible refine (QK.out).mono ?_); rintro e w6 ⟨⟨kv, rfl, hown⟩, hb6⟩)
  obtain ⟨kr, kc, rfl⟩ := Joins.ownsRow_form hown (by decide)
  have hkr := own_lo hown (mem_ob.2 rfl)
  have HKA : Hid (∀ j, j < 10 → w6.cell? ⟨kr, j, none⟩ = (([(⟨3, 0, 0, ⟨#[98]⟩, 0⟩ : V5), (⟨3, 0, 0, ⟨#[97]⟩, 0⟩ : V5)] : List V5).flatMap vC)[j]?) := Lib.hid fun j hj => hown.cellAt j (by simpa using hj)
  have r0 : w6.cell? ⟨kr, 0, none⟩ = some (.int .i64 3) := HKA.out 0 (by decide)
  have r1 : w6.cell? ⟨kr, 1, none⟩ = some (.int .i64 0) := HKA.out 1 (by decide)
  have r2 : w6.cell? ⟨kr, 2, none⟩ = some (.int .i64 0) := HKA.out 2 (by decide)
  have r3 : w6.cell? ⟨kr, 3, none⟩ = some (.string ⟨#[98]⟩) := HKA.out 3 (by decide)
  have r4 : w6.cell? ⟨kr, 4, none⟩ = some (.int .i64 0) := HKA.out 4 (by decide)
  have r5 : w6.cell? ⟨kr, 5, none⟩ = some (.int .i64 3) := HKA.out 5 (by decide)
  have r6 : w6.cell? ⟨kr, 6, none⟩ = some (.int .i64 0) := HKA.out 6 (by decide)
  have r7 : w6.cell? ⟨kr, 7, none⟩ = some (.int .i64 0) := HKA.out 7 (by decide)
  have r8 : w6.cell? ⟨kr, 8, none⟩ = some (.string ⟨#[97]⟩) := HKA.out 8 (by decide)
  have r9 : w6.cell? ⟨kr, 9, none⟩ = some (.int .i64 0) := HKA.out 9 (by decide)
  have K06 := Lib.hid (K05.out.below hb6)
  have K16 := Lib.hid (K15.out.below hb6)
  have a0 : w6.cell? ⟨w1.heap.size, 0, none⟩ = some (.int .i64 3) := K06.out.cell 0
  have a1 : w6.cell? ⟨w1.heap.size, 1, none⟩ = some (.int .i64 0) := K06.out.cell 1
  have a2 : w6.cell? ⟨w1.heap.size, 2, none⟩ = some (.int .i64 0) := K06.out.cell 2
  have a3 : w6.cell? ⟨w1.heap.size, 3, none⟩ = some (.string ⟨#[97]⟩) := K06.out.cell 3
  have a4 : w6.cell? ⟨w1.heap.size, 4, none⟩ = some (.int .i64 0) := K06.out.cell 4
  have b0 : w6.cell? ⟨w1.heap.size + 1, 0, none⟩ = some (.int .i64 3) := K16.out.cell 0
  have b1 : w6.cell? ⟨w1.heap.size + 1, 1, none⟩ = some (.int .i64 0) := K16.out.cell 1
  have b2 : w6.cell? ⟨w1.heap.size + 1, 2, none⟩ = some (.int .i64 0) := K16.out.cell 2
  have b3 : w6.cell? ⟨w1.heap.size + 1, 3, none⟩ = some (.string ⟨#[98]⟩) := K16.out.cell 3
  have b4 : w6.cell? ⟨w1.heap.size + 1, 4, none⟩ = some (.int .i64 0) := K16.out.cell 4
  have z0 := K06.out.lt
  have z1 := K16.out.lt
  have z2 := hkr.2
  have HO6 := Lib.hid (HO5.out.ch (Ch.of_below (S := []) hb6) (by simp))
  have HW6 := Lib.hid (HW5.out.trans (hb6.mono HB5.out))
  have QL : Hid (∀ W, OmR w.heap.size b v5 m5 lv4 W → Calls Try.prog 21 #[.pointer (some ⟨b, 0, none⟩)] W fun e w' => e = .returned (.int .i64 3) ∧ W = w') := Lib.hid fun W h => by
    have := slots_R w.heap.size b v5 m5 lv4 W h
    rw [lv_len.1] at this
    exact this
  have QG : Hid (∀ W, OmR w.heap.size b v5 m5 lv4 W → Calls Try.prog 18 #[.pointer (some ⟨b, 0, none⟩), .agg #[.int .i64 3, .int .i64 0, .int .i64 0, .string ⟨#[97]⟩, .int .i64 0]] W fun e w' => e = .returned (.agg #[.int .i64 3, .int .i64 0, .int .i64 0, .string ⟨#[98]⟩, .int .i64 0]) ∧ Below W.heap.size W w') := Lib.hid fun W h => by
    have := get_R w.heap.size b v5 m5 lv4 (⟨3, 0, 0, ⟨#[97]⟩, 0⟩ : V5) W h (by have := lv_len; omega)
    rw [lv_get] at this
    exact this
  have E1 : ∀ W, (binOp .eql 31 (.agg #[.int .i64 3, .int .i64 0, .int .i64 0, .string ⟨#[98]⟩, .int .i64 0]) (.agg #[.int .i64 3, .int .i64 0, .int .i64 0, .string ⟨#[98]⟩, .int .i64 0])).run Try.prog W = .ok (.bool true) W := fun W => by rw [eq_val]; rfl
  have E2 : ∀ W, (binOp .eql 31 (.agg #[.int .i64 3, .int .i64 0, .int .i64 0, .string ⟨#[97]⟩, .int .i64 0]) (.agg #[.int .i64 3, .int .i64 0, .int .i64 0, .string ⟨#[97]⟩, .int .i64 0])).run Try.prog W = .ok (.bool true) W := fun W => by rw [eq_val]; rfl
  have ho6 := HO6.out
  have hW := Below.refl w6.heap.size w6
  have hcc : ∀ c o, c < w6.heap.size → w6.drew.cell? ⟨c, o, none⟩ = w6.cell? ⟨c, o, none⟩ := fun _ _ _ => rfl
  clear hown hb6 hkr QS2 QS3 QS4 QS5 QK
  go_region_held3 (fun w' => (∀ c o, c < w6.heap.size → w'.cell? ⟨c, o, none⟩ = w6.cell? ⟨c, o, none⟩) ∧ OmR w.heap.size b v5 m5 lv4 w' ∧ Below w6.heap.size w6 w') (first | assumption | exact ⟨hcc, ho6.ch ((Ch.refl [] w6).drew) (by simp), hW.drew⟩ | exact keepL (by assumption) hb2) (first | (go_at_call 21; have hE := (‹_ ∧ OmR _ _ _ _ _ _ ∧ Below _ _ _›).2.1; (with_reducible refine (QL.out _ hE).mono ?_); clear hE; rintro e w' ⟨rfl, rfl⟩) | (go_at_call 18; have hE := (‹_ ∧ OmR _ _ _ _ _ _ ∧ Below _ _ _›).2.1; (with_reducible refine (QG.out _ hE).mono ?_); clear hE; rintro e w2 ⟨rfl, hb2⟩))
  all_goals (
    go_wp2
    go_ret
    exact ⟨rfl, HW6.out.trans (((‹_ ∧ OmR _ _ _ _ _ _ ∧ Below _ _ _›).2.2).mono HW6.out.size)⟩)
end Go.Proofs.Ythgkbjiclghfkaa
