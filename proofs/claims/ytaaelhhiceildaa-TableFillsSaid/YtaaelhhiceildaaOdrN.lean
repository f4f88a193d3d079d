/- Layer 12: the functions of ordered maps (11). -/
import Derived.Test.YtaaelhhiceildaaOdrL
import Derived.Deep.DeepCutAuto
import Derived.Deep.CutBlock
import Derived.BigQuiet
import Derived.Deep.RegionHeld3
namespace Go.Proofs.Ytaaelhhiceildaa
open Go.RowKit Go.Joins M1
set_option linter.unusedVariables false
def OmR (B b : Nat) (v m : Value) (R : List Rs) (w : World) : Prop := ∃ L, Om B b v m L w ∧ rabs L = R
theorem OmR.ch {B b : Nat} {v m : Value} {R : List Rs} {w w' : World} {S : List Nat} (h : OmR B b v m R w) (hc : Ch S w w') (hS : ∀ g ∈ omS b v m, g ∉ S) : OmR B b v m R w' := by
  obtain ⟨L, h1, h2⟩ := h
  exact ⟨L, h1.ch hc hS, h2⟩
theorem OmR.lt {B b : Nat} {v m : Value} {R : List Rs} {w : World} (h : OmR B b v m R w) : ∀ g ∈ omS b v m, B ≤ g ∧ g < w.heap.size := by
  obtain ⟨L, h1, h2⟩ := h
  exact h1.lt
theorem set_R (B b : Nat) (v m : Value) (R : List Rs) (k x : V5) (w : World) (h : OmR B b v m R w) (hL : R.length ≤ 1000000) (hBw : B ≤ w.heap.size) :
    Calls Try.prog 48 #[.pointer (some ⟨b, 0, none⟩), .agg #[.int .i64 k.k, .int .i64 k.p, .int .i64 k.q, .string k.s, .int .i64 k.r], .agg #[.int .i64 x.k, .int .i64 x.p, .int .i64 x.q, .string x.s, .int .i64 x.r]] w fun e w' => e = .returned (.int .i64 (errR k x)) ∧ (∃ v' m', OmR B b v' m' (setR R k x) w' ∧ ∀ g ∈ omS b v' m', g ∈ omS b v m ∨ w.heap.size ≤ g) ∧ Ch (omS b v m) w w' := by
  obtain ⟨L, h1, rfl⟩ := h
  refine (set_any B b v m L k x w h1 (by rw [rabs_len] at hL; exact hL) hBw).mono ?_
  rintro e w' ⟨rfl, ⟨v', m', L', q1, q2, _, q4⟩, q5⟩
  exact ⟨rfl, ⟨v', m', ⟨L', q1, q2⟩, q4⟩, q5⟩
theorem get_R (B b : Nat) (v m : Value) (R : List Rs) (k : V5) (w : World) (h : OmR B b v m R w) (hL : R.length ≤ 1000000) :
    Calls Try.prog 33 #[.pointer (some ⟨b, 0, none⟩), .agg #[.int .i64 k.k, .int .i64 k.p, .int .i64 k.q, .string k.s, .int .i64 k.r]] w fun e w' => e = .returned (.agg #[.int .i64 (getR R k).k, .int .i64 (getR R k).p, .int .i64 (getR R k).q, .string (getR R k).s, .int .i64 (getR R k).r]) ∧ Below w.heap.size w w' := by
  obtain ⟨L, h1, rfl⟩ := h
  rw [getL_R h1.inv]
  exact get_any B b v m L k w h1 (by rw [rabs_len] at hL; exact hL)
theorem len_R (B b : Nat) (v m : Value) (R : List Rs) (w : World) (h : OmR B b v m R w) :
    Calls Try.prog 36 #[.pointer (some ⟨b, 0, none⟩)] w fun e w' => e = .returned (.int .i64 (lenR R : Int)) ∧ w = w' := by
  obtain ⟨L, h1, rfl⟩ := h
  rw [lenR_abs]
  exact len_any B b v m L w h1
theorem slots_R (B b : Nat) (v m : Value) (R : List Rs) (w : World) (h : OmR B b v m R w) :
    Calls Try.prog 41 #[.pointer (some ⟨b, 0, none⟩)] w fun e w' => e = .returned (.int .i64 (R.length : Int)) ∧ w = w' := by
  obtain ⟨L, h1, rfl⟩ := h
  rw [rabs_len]
  exact slots_any B b v m L w h1
theorem keys_R (B b : Nat) (v m : Value) (R : List Rs) (w : World) (h : OmR B b v m R w) (hL : R.length ≤ 1000000) :
    Calls Try.prog 61 #[.pointer (some ⟨b, 0, none⟩)] w fun e w' => (∃ v', e = .returned v' ∧ w'.ownsRow w.heap.size 26 5 v' (keysR R).length ((keysR R).flatMap vC)) ∧ Below w.heap.size w w' := by
  obtain ⟨L, h1, rfl⟩ := h
  rw [keysR_abs]
  exact keys_any B b v m L w h1 (by rw [rabs_len] at hL; exact hL)
theorem new_R (B : Nat) (w : World) (hB : B ≤ w.heap.size) :
    Calls Try.prog 25 #[] w fun e w' => ∃ b, e = .returned (.pointer (some ⟨b, 0, none⟩)) ∧ OmR B b (.slice none 0 0) (.map none) [] w' ∧ w.heap.size ≤ b ∧ Below w.heap.size w w' := by
  exact (new_any B w hB).mono fun e w' ⟨b, h1, h2, h3⟩ => ⟨b, h1, ⟨[], h2, rfl⟩, h3⟩
def lv1 : List Rs := setR [] (⟨3, 0, 0, ⟨#[97]⟩, 0⟩ : V5) (⟨1, 0, 0, ⟨#[]⟩, 1⟩ : V5)
def lv2 : List Rs := setR lv1 (⟨3, 0, 0, ⟨#[98]⟩, 0⟩ : V5) (⟨1, 0, 0, ⟨#[]⟩, 1⟩ : V5)
def lv3 : List Rs := setR lv2 (⟨3, 0, 0, ⟨#[97]⟩, 0⟩ : V5) v5z
def lv4 : List Rs := setR lv3 (⟨3, 0, 0, ⟨#[97]⟩, 0⟩ : V5) (⟨3, 0, 0, ⟨#[98]⟩, 0⟩ : V5)
theorem lv_facts : errR (⟨3, 0, 0, ⟨#[97]⟩, 0⟩ : V5) (⟨1, 0, 0, ⟨#[]⟩, 1⟩ : V5) = 0 ∧ errR (⟨3, 0, 0, ⟨#[98]⟩, 0⟩ : V5) (⟨1, 0, 0, ⟨#[]⟩, 1⟩ : V5) = 0 ∧ errR (⟨3, 0, 0, ⟨#[97]⟩, 0⟩ : V5) v5z = 0 ∧ errR (⟨3, 0, 0, ⟨#[97]⟩, 0⟩ : V5) (⟨3, 0, 0, ⟨#[98]⟩, 0⟩ : V5) = 0 := by decide +kernel
theorem lv_keys : (keysR lv4 = [(⟨3, 0, 0, ⟨#[98]⟩, 0⟩ : V5), (⟨3, 0, 0, ⟨#[97]⟩, 0⟩ : V5)]) := by
  have : (keysR lv4).map (fun v => (v.k, v.p, v.q, v.s.data.toList, v.r)) = [(3, 0, 0, [98], 0), (3, 0, 0, [97], 0)] := by decide +kernel
  decide +kernel
theorem lv_len : lv4.length = 3 ∧ lv1.length ≤ 3 ∧ lv2.length ≤ 3 ∧ lv3.length ≤ 3 := by decide +kernel
theorem lv_get : getR lv4 (⟨3, 0, 0, ⟨#[97]⟩, 0⟩ : V5) = (⟨3, 0, 0, ⟨#[98]⟩, 0⟩ : V5) := by decide +kernel
theorem keepL {B b : Nat} {v m : Value} {R : List Rs} {W6 V V' : World}
    (h : (∀ c o, c < W6.heap.size → V.cell? ⟨c, o, none⟩ = W6.cell? ⟨c, o, none⟩) ∧ OmR B b v m R V ∧ Below W6.heap.size W6 V) (hb : Below V.heap.size V V') :
    (∀ c o, c < W6.heap.size → V'.cell? ⟨c, o, none⟩ = W6.cell? ⟨c, o, none⟩) ∧ OmR B b v m R V' ∧ Below W6.heap.size W6 V' := by
  obtain ⟨h1, h2, h3⟩ := h
  exact ⟨fun c o hc => (hb.cell (p := ⟨c, o, none⟩) (Nat.lt_of_lt_of_le hc h3.size)).trans (h1 c o hc), h2.ch (Ch.of_below (S := []) hb) (by simp), h3.trans (hb.mono h3.size)⟩
end Go.Proofs.Ytaaelhhiceildaa
