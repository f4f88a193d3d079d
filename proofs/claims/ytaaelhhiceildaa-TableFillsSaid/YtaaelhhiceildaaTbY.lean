/- Layer 13: the chapter's small case. -/
import Derived.Test.YtaaelhhiceildaaTbX
import Derived.Test.YtaaelhhiceildaaTbN
import Derived.Test.YtaaelhhiceildaaTbB
namespace Go.Proofs.Ytaaelhhiceildaa
open Go.RowKit Go.Joins M1
set_option linter.unusedVariables false
theorem num13 (n : Int) (w : World) : Calls Try.prog 20 #[.int .i64 n] w fun e w' => e = .returned (.agg #[.int .i64 2, .int .i64 n, .int .i64 1, .string ⟨#[]⟩, .int .i64 0]) ∧ Below w.heap.size w w' := by
  go_enter Try.func20, Try.ntmps20
  go_wp2
  refine bodyPost_ret (v := .agg #[.int .i64 2, .int .i64 n, .int .i64 1, .string ⟨#[]⟩, .int .i64 0]) (by simp [results, Try.results20, go_sem]) rfl ⟨rfl, (Below.refl _ _).alloc (Nat.le_refl _) _⟩
theorem str13 (s : ByteArray) (w : World) : Calls Try.prog 24 #[.string s] w fun e w' => e = .returned (.agg #[.int .i64 3, .int .i64 0, .int .i64 0, .string s, .int .i64 0]) ∧ Below w.heap.size w w' := by
  go_enter Try.func24, Try.ntmps24
  go_wp2
  refine bodyPost_ret (v := .agg #[.int .i64 3, .int .i64 0, .int .i64 0, .string s, .int .i64 0]) (by simp [results, Try.results24, go_sem]) rfl ⟨rfl, (Below.refl _ _).alloc (Nat.le_refl _) _⟩
def aw0 : TS := ⟨[], 0, [], false⟩
def aw1 : TS := setT aw0 (⟨2, 3, 1, ⟨#[]⟩, 0⟩ : V5) (⟨3, 0, 0, ⟨#[99]⟩, 0⟩ : V5)
def aw2 : TS := setT aw1 (⟨2, 1, 1, ⟨#[]⟩, 0⟩ : V5) (⟨3, 0, 0, ⟨#[97]⟩, 0⟩ : V5)
def aw3 : TS := setT aw2 (⟨2, 2, 1, ⟨#[]⟩, 0⟩ : V5) (⟨3, 0, 0, ⟨#[98]⟩, 0⟩ : V5)
def aw4 : TS := insS aw3 1 (⟨3, 0, 0, ⟨#[120]⟩, 0⟩ : V5)
def aw5 : TS := remS aw4 0
def aw6 : TS := nxS aw5 v5z
theorem aw_err : errR (⟨2, 3, 1, ⟨#[]⟩, 0⟩ : V5) (⟨3, 0, 0, ⟨#[99]⟩, 0⟩ : V5) = 0 ∧ errR (⟨2, 1, 1, ⟨#[]⟩, 0⟩ : V5) (⟨3, 0, 0, ⟨#[97]⟩, 0⟩ : V5) = 0 ∧ errR (⟨2, 2, 1, ⟨#[]⟩, 0⟩ : V5) (⟨3, 0, 0, ⟨#[98]⟩, 0⟩ : V5) = 0 ∧ okV (⟨3, 0, 0, ⟨#[120]⟩, 0⟩ : V5) = true ∧ okV v5z = true := by decide +kernel
theorem aw_len : aw0.arr.length + aw0.R.length ≤ 9 ∧ aw1.arr.length + aw1.R.length ≤ 9 ∧ aw2.arr.length + aw2.R.length ≤ 9 ∧ aw3.arr.length + aw3.R.length ≤ 9 ∧ aw4.arr.length + aw4.R.length ≤ 9 ∧ aw5.arr.length + aw5.R.length ≤ 9 := by decide +kernel
theorem aw_num : aw2.arr.length = 1 ∧ aw3.arr.length = 3 ∧ sizeT aw3 = 10 ∧ lenR aw3.R + cntA aw3.arr = 3 ∧ (extS aw3 (lastA aw3)).arr.length = 4 := by decide +kernel
theorem aw_get : getT aw4 (⟨2, 2, 1, ⟨#[]⟩, 0⟩ : V5) = (⟨3, 0, 0, ⟨#[120]⟩, 0⟩ : V5) ∧ getT aw4 (⟨2, 4, 1, ⟨#[]⟩, 0⟩ : V5) = (⟨3, 0, 0, ⟨#[99]⟩, 0⟩ : V5) ∧ aw4.arr = [(⟨3, 0, 0, ⟨#[97]⟩, 0⟩ : V5), (⟨3, 0, 0, ⟨#[120]⟩, 0⟩ : V5), (⟨3, 0, 0, ⟨#[98]⟩, 0⟩ : V5), (⟨3, 0, 0, ⟨#[99]⟩, 0⟩ : V5)] ∧ aw5.arr = [(⟨3, 0, 0, ⟨#[120]⟩, 0⟩ : V5), (⟨3, 0, 0, ⟨#[98]⟩, 0⟩ : V5), (⟨3, 0, 0, ⟨#[99]⟩, 0⟩ : V5)] ∧ aw5.bl = 0 ∧ elF aw5.arr.length v5z = none ∧ keyV 1 = (⟨2, 1, 1, ⟨#[]⟩, 0⟩ : V5) := by decide +kernel
theorem aw_ti : Ti aw0 ∧ Ti aw1 ∧ Ti aw2 ∧ Ti aw3 := by
  have h0 : Ti aw0 := Ti.new false
  have l := aw_len
  have b0 := lenR_le aw0.R
  have h1 : Ti aw1 := (ti_setT h0 _ _ (by omega)).1
  have b1 := lenR_le aw1.R
  have h2 : Ti aw2 := (ti_setT h1 _ _ (by omega)).1
  have b2 := lenR_le aw2.R
  exact ⟨h0, h1, h2, (ti_setT h2 _ _ (by omega)).1⟩
theorem aw_next : nxT aw5 v5z = ⟨(⟨2, 1, 1, ⟨#[]⟩, 0⟩ : V5), (⟨3, 0, 0, ⟨#[120]⟩, 0⟩ : V5), true, 0⟩ := by
  obtain ⟨_, _, _, h4, h5, h6, h7⟩ := aw_get
  have hl : 0 < aw5.arr.length := by rw [h4]; decide
  have hk : (aw5.arr[0]).k ≠ 0 := by
    have e : aw5.arr[0]? = some (⟨3, 0, 0, ⟨#[120]⟩, 0⟩ : V5) := by rw [h4]; rfl
    rw [List.getElem?_eq_getElem hl] at e
    injection e with e
    rw [e]; decide
  have hf : fstA aw5.arr (max 0 aw5.bl) = 0 := by
    rw [h5]
    exact fstA_at hl hk
  unfold nxT
  rw [aw_err.2.2.2.2, h6, if_neg (by simp)]
  show (if v5z.k = 0 then neN aw5 0 else _) = _
  rw [if_pos (by rfl)]
  unfold neN
  rw [hf, h4]
  show (⟨keyV ((0 : Nat) + 1), _, true, 0⟩ : Nx) = _
  rw [show keyV ((0 : Nat) + 1) = keyV 1 from rfl, h7]
theorem aset1 {B t : Nat} {va : Value} {b : Nat} {v m : Value} {w : World} (h : Tb B t va b v m aw0 w) (hB : B ≤ w.heap.size) :
    Calls Try.prog 12 #[.pointer (some ⟨t, 0, none⟩), .agg #[.int .i64 2, .int .i64 3, .int .i64 1, .string ⟨#[]⟩, .int .i64 0], .agg #[.int .i64 3, .int .i64 0, .int .i64 0, .string ⟨#[99]⟩, .int .i64 0]] w fun e w' => e = .returned (.int .i64 0) ∧ TbSaid B t va b v m aw1 w w' := by
  have := tset_any B t va b v m aw0 w h (⟨2, 3, 1, ⟨#[]⟩, 0⟩ : V5) (⟨3, 0, 0, ⟨#[99]⟩, 0⟩ : V5) (by have := aw_len; omega) hB aw_ti.1.ok.1
  rw [aw_err.1] at this
  exact this
theorem aset2 {B t : Nat} {va : Value} {b : Nat} {v m : Value} {w : World} (h : Tb B t va b v m aw1 w) (hB : B ≤ w.heap.size) :
    Calls Try.prog 12 #[.pointer (some ⟨t, 0, none⟩), .agg #[.int .i64 2, .int .i64 1, .int .i64 1, .string ⟨#[]⟩, .int .i64 0], .agg #[.int .i64 3, .int .i64 0, .int .i64 0, .string ⟨#[97]⟩, .int .i64 0]] w fun e w' => e = .returned (.int .i64 0) ∧ TbSaid B t va b v m aw2 w w' := by
  have := tset_any B t va b v m aw1 w h (⟨2, 1, 1, ⟨#[]⟩, 0⟩ : V5) (⟨3, 0, 0, ⟨#[97]⟩, 0⟩ : V5) (by have := aw_len; omega) hB aw_ti.2.1.ok.1
  rw [aw_err.2.1] at this
  exact this
theorem aset3 {B t : Nat} {va : Value} {b : Nat} {v m : Value} {w : World} (h : Tb B t va b v m aw2 w) (hB : B ≤ w.heap.size) :
    Calls Try.prog 12 #[.pointer (some ⟨t, 0, none⟩), .agg #[.int .i64 2, .int .i64 2, .int .i64 1, .string ⟨#[]⟩, .int .i64 0], .agg #[.int .i64 3, .int .i64 0, .int .i64 0, .string ⟨#[98]⟩, .int .i64 0]] w fun e w' => e = .returned (.int .i64 0) ∧ TbSaid B t va b v m aw3 w w' := by
  have := tset_any B t va b v m aw2 w h (⟨2, 2, 1, ⟨#[]⟩, 0⟩ : V5) (⟨3, 0, 0, ⟨#[98]⟩, 0⟩ : V5) (by have := aw_len; omega) hB aw_ti.2.2.1.ok.1
  rw [aw_err.2.2.1] at this
  exact this
theorem ains {B t : Nat} {va : Value} {b : Nat} {v m : Value} {w : World} (h : Tb B t va b v m aw3 w) (hB : B ≤ w.heap.size) :
    Calls Try.prog 22 #[.pointer (some ⟨t, 0, none⟩), .int .i64 2, .agg #[.int .i64 3, .int .i64 0, .int .i64 0, .string ⟨#[120]⟩, .int .i64 0]] w fun e w' => e = .returned (.int .i64 0) ∧ TbSaid B t va b v m aw4 w w' :=
  ins_mid B t va b v m aw3 w h 1 (⟨3, 0, 0, ⟨#[120]⟩, 0⟩ : V5) (by have := aw_num; omega) (by have := aw_len; omega) hB aw_ti.2.2.2.ok.1 aw_err.2.2.2.1 (by have := aw_num; omega) (by have := aw_num; omega)
theorem aarr {B t : Nat} {va : Value} {b : Nat} {v m : Value} {w : World} (h : Tb B t va b v m aw2 w) :
    Calls Try.prog 17 #[.pointer (some ⟨t, 0, none⟩)] w fun e w' => e = .returned (.int .i64 1) ∧ w = w' := by
  have := tarr_any B t va b v m aw2 w h
  rw [aw_num.1] at this
  exact this
theorem aarr3 {B t : Nat} {va : Value} {b : Nat} {v m : Value} {w : World} (h : Tb B t va b v m aw3 w) :
    Calls Try.prog 17 #[.pointer (some ⟨t, 0, none⟩)] w fun e w' => e = .returned (.int .i64 3) ∧ w = w' := by
  have := tarr_any B t va b v m aw3 w h
  rw [aw_num.2.1] at this
  exact this
theorem asize {B t : Nat} {va : Value} {b : Nat} {v m : Value} {w : World} (h : Tb B t va b v m aw3 w) :
    Calls Try.prog 21 #[.pointer (some ⟨t, 0, none⟩)] w fun e w' => e = .returned (.int .i64 10) ∧ w = w' := by
  have := tsize_any B t va b v m aw3 w h (by have := aw_len; omega)
  rw [aw_num.2.2.1] at this
  exact this
theorem acount {B t : Nat} {va : Value} {b : Nat} {v m : Value} {w : World} (h : Tb B t va b v m aw3 w) :
    Calls Try.prog 16 #[.pointer (some ⟨t, 0, none⟩)] w fun e w' => e = .returned (.int .i64 3) ∧ Below w.heap.size w w' := by
  have := tcount_any B t va b v m aw3 w h (by have := aw_len; omega)
  rw [aw_num.2.2.2.1] at this
  exact this
theorem aget2 {B t : Nat} {va : Value} {b : Nat} {v m : Value} {w : World} (h : Tb B t va b v m aw4 w) :
    Calls Try.prog 14 #[.pointer (some ⟨t, 0, none⟩), .agg #[.int .i64 2, .int .i64 2, .int .i64 1, .string ⟨#[]⟩, .int .i64 0]] w fun e w' => e = .returned (.agg #[.int .i64 3, .int .i64 0, .int .i64 0, .string ⟨#[120]⟩, .int .i64 0]) ∧ Below w.heap.size w w' := by
  have := tget_any B t va b v m aw4 w h (⟨2, 2, 1, ⟨#[]⟩, 0⟩ : V5) (by have := aw_len; omega) (by have := aw_len; omega)
  rw [aw_get.1] at this
  exact this
theorem aget4 {B t : Nat} {va : Value} {b : Nat} {v m : Value} {w : World} (h : Tb B t va b v m aw4 w) :
    Calls Try.prog 14 #[.pointer (some ⟨t, 0, none⟩), .agg #[.int .i64 2, .int .i64 4, .int .i64 1, .string ⟨#[]⟩, .int .i64 0]] w fun e w' => e = .returned (.agg #[.int .i64 3, .int .i64 0, .int .i64 0, .string ⟨#[99]⟩, .int .i64 0]) ∧ Below w.heap.size w w' := by
  have := tget_any B t va b v m aw4 w h (⟨2, 4, 1, ⟨#[]⟩, 0⟩ : V5) (by have := aw_len; omega) (by have := aw_len; omega)
  rw [aw_get.2.1] at this
  exact this
theorem arem {B t : Nat} {va : Value} {b : Nat} {v m : Value} {w : World} (h : Tb B t va b v m aw4 w) :
    Calls Try.prog 23 #[.pointer (some ⟨t, 0, none⟩), .int .i64 1] w fun e w' => e = .returned (.tuple #[.agg #[.int .i64 3, .int .i64 0, .int .i64 0, .string ⟨#[97]⟩, .int .i64 0], .int .i64 0]) ∧ TbSaid B t va b v m aw5 w w' := by
  have h0 : 0 < aw4.arr.length := by rw [aw_get.2.2.1]; decide
  have e0 : aw4.arr[0] = (⟨3, 0, 0, ⟨#[97]⟩, 0⟩ : V5) := by
    have e : aw4.arr[0]? = some (⟨3, 0, 0, ⟨#[97]⟩, 0⟩ : V5) := by rw [aw_get.2.2.1]; rfl
    rw [List.getElem?_eq_getElem h0] at e
    injection e
  have := rem_any B t va b v m aw4 w h 0 h0 (by have := aw_len; omega)
  rw [e0] at this
  exact this
theorem tnx_any (B t : Nat) (va : Value) (b : Nat) (v m : Value) (s : TS) (w : World) (h : Tb B t va b v m s w) (k : V5) (hL : s.arr.length + s.R.length ≤ 900000) :
    Calls Try.prog 18 #[.pointer (some ⟨t, 0, none⟩), .agg #[.int .i64 k.k, .int .i64 k.p, .int .i64 k.q, .string k.s, .int .i64 k.r]] w fun e w' => e = .returned (NxV (nxT s k)) ∧ TbSaid B t va b v m (nxS s k) w w' := by
  unfold nxT nxS
  cases hk : okV k with
  | false => exact (tnx_bad t k w hk).mono fun e w' hh => ⟨hh.1, tb_0 h hh.2⟩
  | true =>
    simp only [Bool.true_eq_false, if_false]
    cases he : elF s.arr.length k with
    | some i => exact tnx_some B t va b v m s w h k hL hk i he
    | none =>
      dsimp only
      by_cases h0 : k.k = 0
      · rw [if_pos h0, if_pos h0]; exact tnx_nil B t va b v m s w h k hL hk he h0
      · rw [if_neg h0, if_neg h0]
        by_cases hc : (nrT s k).err ≠ 0 ∧ isInt k = true ∧ 1 ≤ k.p
        · rw [if_pos hc]; exact tnx_r1 B t va b v m s w h k hL hk he h0 hc
        · rw [if_neg hc]; exact tnx_r0 B t va b v m s w h k hL hk he h0 hc
theorem anext {B t : Nat} {va : Value} {b : Nat} {v m : Value} {w : World} (h : Tb B t va b v m aw5 w) :
    Calls Try.prog 18 #[.pointer (some ⟨t, 0, none⟩), .agg #[.int .i64 0, .int .i64 0, .int .i64 0, .string ⟨#[]⟩, .int .i64 0]] w fun e w' => e = .returned (.tuple #[.agg #[.int .i64 2, .int .i64 1, .int .i64 1, .string ⟨#[]⟩, .int .i64 0], .agg #[.int .i64 3, .int .i64 0, .int .i64 0, .string ⟨#[120]⟩, .int .i64 0], .bool true, .int .i64 0]) ∧ TbSaid B t va b v m aw6 w w' := by
  have := tnx_any B t va b v m aw5 w h v5z (by have := aw_len; omega)
  rw [aw_next] at this
  exact this
theorem alen {B t : Nat} {va : Value} {b : Nat} {v m : Value} {w : World} (h : Tb B t va b v m aw6 w) :
    Calls Try.prog 19 #[.pointer (some ⟨t, 0, none⟩)] w fun e w' => e = .returned (.int .i64 3) ∧ w = w' := by
  have := tlen_any B t va b v m aw6 w h
  have e : aw6.arr.length = 3 := by
    unfold aw6 nxS
    rw [aw_err.2.2.2.2, aw_get.2.2.2.2.2.1, if_neg (by simp)]
    show (if v5z.k = 0 then neS aw5 0 else aw5).arr.length = 3
    rw [if_pos (by rfl)]
    show (neS aw5 0).arr.length = 3
    unfold neS
    rw [aw_get.2.2.2.1]; rfl
  rw [e] at this
  exact this
set_option maxHeartbeats 8000000 in
set_option maxRecDepth 100000 in
theorem awake_any (w : World) :
    Calls Try.prog 10 #[] w fun e w' => e = .returned (.bool true) ∧ Below w.heap.size w w' := by
  have QN := Lib.hid (tnew_any w.heap.size w (Nat.le_refl _))
  go_enter Try.func10, Try.ntmps10
  go_upto_region 2 with (go_at_call 11; (with_reducible refine (QN.out).mono ?_); rintro e w1 ⟨t, b0, rfl, ht, _, hb⟩; have HT : Hid (Tb w.heap.size t _ b0 _ _ aw0 w1) := Lib.hid ht; have HB := Lib.hid hb; clear ht hb QN)
  have TOK1 : Hid True := Lib.hid trivial
  have NX : ∀ W, (binOp .neq 26 (.agg #[.int .i64 3, .int .i64 0, .int .i64 0, .string ⟨#[120]⟩, .int .i64 0]) (.agg #[.int .i64 3, .int .i64 0, .int .i64 0, .string ⟨#[120]⟩, .int .i64 0])).run Try.prog W = .ok (.bool false) W := fun W => by kernel_rfl
  have NC : ∀ W, (binOp .neq 26 (.agg #[.int .i64 3, .int .i64 0, .int .i64 0, .string ⟨#[99]⟩, .int .i64 0]) (.agg #[.int .i64 3, .int .i64 0, .int .i64 0, .string ⟨#[99]⟩, .int .i64 0])).run Try.prog W = .ok (.bool false) W := fun W => by kernel_rfl
  go_upto_region 4 with (first | (go_at_call 20; (with_reducible refine (num13 _ _).mono ?_); rintro e w1 ⟨rfl, hb1⟩; have ht1 := HT.out.below hb1; have hb2 := HB.out.trans (hb1.mono HB.out.size); clear HT HB hb1; have HT := Lib.hid ht1; have HB := Lib.hid hb2; clear ht1 hb2) | (go_at_call 24; (with_reducible refine (str13 _ _).mono ?_); rintro e w1 ⟨rfl, hb1⟩; have ht1 := HT.out.below hb1; have hb2 := HB.out.trans (hb1.mono HB.out.size); clear HT HB hb1; have HT := Lib.hid ht1; have HB := Lib.hid hb2; clear ht1 hb2) | (clear TOK1; go_at_call 12; (with_reducible refine (aset1 HT.out HB.out.size).mono ?_); rintro e w1 ⟨rfl, ⟨va1, b1, v1, m1, ht1, _⟩, hc1⟩; have hb2 := HB.out.trans (hc1.belowB (fun g hg => (HT.out.lt g hg).1) HB.out.size); clear HT HB hc1; have HT := Lib.hid ht1; have HB := Lib.hid hb2; clear ht1 hb2; have TOK2 : Hid True := Lib.hid trivial) | (clear TOK2; go_at_call 12; (with_reducible refine (aset2 HT.out HB.out.size).mono ?_); rintro e w1 ⟨rfl, ⟨va1, b1, v1, m1, ht1, _⟩, hc1⟩; have hb2 := HB.out.trans (hc1.belowB (fun g hg => (HT.out.lt g hg).1) HB.out.size); clear HT HB hc1; have HT := Lib.hid ht1; have HB := Lib.hid hb2; clear ht1 hb2; have TOK3 : Hid True := Lib.hid trivial) | (clear TOK3; go_at_call 12; (with_reducible refine (aset3 HT.out HB.out.size).mono ?_); rintro e w1 ⟨rfl, ⟨va1, b1, v1, m1, ht1, _⟩, hc1⟩; have hb2 := HB.out.trans (hc1.belowB (fun g hg => (HT.out.lt g hg).1) HB.out.size); clear HT HB hc1; have HT := Lib.hid ht1; have HB := Lib.hid hb2; clear ht1 hb2; have TOK4 : Hid True := Lib.hid trivial) | (go_at_call 17; (with_reducible refine (aarr HT.out).mono ?_); rintro e w1 ⟨rfl, rfl⟩))
  go_upto_region 6 with (first | (go_at_call 20; (with_reducible refine (num13 _ _).mono ?_); rintro e w1 ⟨rfl, hb1⟩; have ht1 := HT.out.below hb1; have hb2 := HB.out.trans (hb1.mono HB.out.size); clear HT HB hb1; have HT := Lib.hid ht1; have HB := Lib.hid hb2; clear ht1 hb2) | (go_at_call 24; (with_reducible refine (str13 _ _).mono ?_); rintro e w1 ⟨rfl, hb1⟩; have ht1 := HT.out.below hb1; have hb2 := HB.out.trans (hb1.mono HB.out.size); clear HT HB hb1; have HT := Lib.hid ht1; have HB := Lib.hid hb2; clear ht1 hb2) | (go_at_call 17; (with_reducible refine (aarr3 HT.out).mono ?_); rintro e w1 ⟨rfl, rfl⟩) | (go_at_call 21; (with_reducible refine (asize HT.out).mono ?_); rintro e w1 ⟨rfl, rfl⟩) | (go_at_call 16; (with_reducible refine (acount HT.out).mono ?_); rintro e w1 ⟨rfl, hb1⟩; have ht1 := HT.out.below hb1; have hb2 := HB.out.trans (hb1.mono HB.out.size); clear HT HB hb1; have HT := Lib.hid ht1; have HB := Lib.hid hb2; clear ht1 hb2) | (clear TOK4; go_at_call 22; (with_reducible refine (ains HT.out HB.out.size).mono ?_); rintro e w1 ⟨rfl, ⟨va1, b1, v1, m1, ht1, _⟩, hc1⟩; have hb2 := HB.out.trans (hc1.belowB (fun g hg => (HT.out.lt g hg).1) HB.out.size); clear HT HB hc1; have HT := Lib.hid ht1; have HB := Lib.hid hb2; clear ht1 hb2; have TOK5 : Hid True := Lib.hid trivial) | (go_at_call 14; (with_reducible refine (aget2 HT.out).mono ?_); rintro e w1 ⟨rfl, hb1⟩; have ht1 := HT.out.below hb1; have hb2 := HB.out.trans (hb1.mono HB.out.size); clear HT HB hb1; have HT := Lib.hid ht1; have HB := Lib.hid hb2; clear ht1 hb2) | (go_at_call 14; (with_reducible refine (aget4 HT.out).mono ?_); rintro e w1 ⟨rfl, hb1⟩; have ht1 := HT.out.below hb1; have hb2 := HB.out.trans (hb1.mono HB.out.size); clear HT HB hb1; have HT := Lib.hid ht1; have HB := Lib.hid hb2; clear ht1 hb2))
  clear NX NC
  go_upto_region 7 with (go_at_call 23; (with_reducible refine (arem HT.out).mono ?_); rintro e w1 ⟨rfl, ⟨va1, b1, v1, m1, ht1, _⟩, hc1⟩; have hb2 := HB.out.trans (hc1.belowB (fun g hg => (HT.out.lt g hg).1) HB.out.size); clear HT HB hc1; have HT := Lib.hid ht1; have HB := Lib.hid hb2; clear ht1 hb2)
  rename World => w2
  have K2 : Hid (Blk 26 w2.heap.size #[.int .i64 3, .int .i64 0, .int .i64 0, .string ⟨#[97]⟩, .int .i64 0] (w2.alloc (.cells #[.int .i64 3, .int .i64 0, .int .i64 0, .string ⟨#[97]⟩, .int .i64 0] 26))) := Lib.hid (Blk.new w2 _ _ _ rfl)
  have HN2 : Hid (∀ g ∈ tbS t va1 b1 v1 m1, g < w2.heap.size) := Lib.hid fun g hg => (HT.out.lt g hg).2
  have HT3 := Lib.hid (HT.out.ch0 ((Ch.refl [] w2).alloc (.cells #[.int .i64 3, .int .i64 0, .int .i64 0, .string ⟨#[97]⟩, .int .i64 0] 26)))
  have HB3 := Lib.hid (HB.out.alloc HB.out.size (.cells #[.int .i64 3, .int .i64 0, .int .i64 0, .string ⟨#[97]⟩, .int .i64 0] 26))
  clear HT HB
  generalize (w2.alloc (.cells #[.int .i64 3, .int .i64 0, .int .i64 0, .string ⟨#[97]⟩, .int .i64 0] 26)) = w3 at *
  generalize w2.heap.size = n2 at *
  go_upto_region 8 with (go_at_call 18; (with_reducible refine (anext HT3.out).mono ?_); rintro e w4 ⟨rfl, ⟨va4, b4, v4, m4, ht4, _⟩, hc4⟩; have HT4 := Lib.hid ht4; have HB4 := Lib.hid (HB3.out.trans (hc4.belowB (fun g hg => (HT3.out.lt g hg).1) HB3.out.size)); have K4 := Lib.hid (K2.out.ch hc4 (fun hq => absurd (HN2.out _ hq) (Nat.lt_irrefl _))); clear ht4 hc4)
  have HD5 : Hid (Ch [] w4 ((w4.alloc (.cells #[.int .i64 2, .int .i64 1, .int .i64 1, .string ⟨#[]⟩, .int .i64 0] 26)).alloc (.cells #[.int .i64 3, .int .i64 0, .int .i64 0, .string ⟨#[120]⟩, .int .i64 0] 26))) := Lib.hid (((Ch.refl [] w4).alloc _).alloc _)
  have KX5 : Hid (Blk 26 w4.heap.size #[.int .i64 2, .int .i64 1, .int .i64 1, .string ⟨#[]⟩, .int .i64 0] ((w4.alloc (.cells #[.int .i64 2, .int .i64 1, .int .i64 1, .string ⟨#[]⟩, .int .i64 0] 26)).alloc (.cells #[.int .i64 3, .int .i64 0, .int .i64 0, .string ⟨#[120]⟩, .int .i64 0] 26))) := Lib.hid ((Blk.new w4 26 _ _ rfl).ch ((Ch.refl [] _).alloc _) (not_nil _))
  have KY5 : Hid (Blk 26 (w4.heap.size + 1) #[.int .i64 3, .int .i64 0, .int .i64 0, .string ⟨#[120]⟩, .int .i64 0] ((w4.alloc (.cells #[.int .i64 2, .int .i64 1, .int .i64 1, .string ⟨#[]⟩, .int .i64 0] 26)).alloc (.cells #[.int .i64 3, .int .i64 0, .int .i64 0, .string ⟨#[120]⟩, .int .i64 0] 26))) := Lib.hid (Blk.new _ 26 _ _ (by simp))
  generalize ((w4.alloc (.cells #[.int .i64 2, .int .i64 1, .int .i64 1, .string ⟨#[]⟩, .int .i64 0] 26)).alloc (.cells #[.int .i64 3, .int .i64 0, .int .i64 0, .string ⟨#[120]⟩, .int .i64 0] 26)) = w5 at *
  generalize w4.heap.size = n4 at *
  have K5 := Lib.hid (K4.out.ch HD5.out (not_nil _))
  have HT5 := Lib.hid (HT4.out.ch0 HD5.out)
  have HB5 : Hid (w.heap.size ≤ w5.heap.size) := Lib.hid (Nat.le_trans HB4.out.size HD5.out.size)
  have a0 : w5.cell? ⟨n2, 0, none⟩ = some (.int .i64 3) := K5.out.cell 0
  have a1 : w5.cell? ⟨n2, 1, none⟩ = some (.int .i64 0) := K5.out.cell 1
  have a2 : w5.cell? ⟨n2, 2, none⟩ = some (.int .i64 0) := K5.out.cell 2
  have a3 : w5.cell? ⟨n2, 3, none⟩ = some (.string ⟨#[97]⟩) := K5.out.cell 3
  have a4 : w5.cell? ⟨n2, 4, none⟩ = some (.int .i64 0) := K5.out.cell 4
  have la := K5.out.lt
  have x0 : w5.cell? ⟨n4, 0, none⟩ = some (.int .i64 2) := KX5.out.cell 0
  have x1 : w5.cell? ⟨n4, 1, none⟩ = some (.int .i64 1) := KX5.out.cell 1
  have x2 : w5.cell? ⟨n4, 2, none⟩ = some (.int .i64 1) := KX5.out.cell 2
  have x3 : w5.cell? ⟨n4, 3, none⟩ = some (.string ⟨#[]⟩) := KX5.out.cell 3
  have x4 : w5.cell? ⟨n4, 4, none⟩ = some (.int .i64 0) := KX5.out.cell 4
  have lx := KX5.out.lt
  have y0 : w5.cell? ⟨(n4 + 1), 0, none⟩ = some (.int .i64 3) := KY5.out.cell 0
  have y1 : w5.cell? ⟨(n4 + 1), 1, none⟩ = some (.int .i64 0) := KY5.out.cell 1
  have y2 : w5.cell? ⟨(n4 + 1), 2, none⟩ = some (.int .i64 0) := KY5.out.cell 2
  have y3 : w5.cell? ⟨(n4 + 1), 3, none⟩ = some (.string ⟨#[120]⟩) := KY5.out.cell 3
  have y4 : w5.cell? ⟨(n4 + 1), 4, none⟩ = some (.int .i64 0) := KY5.out.cell 4
  have ly := KY5.out.lt
  have EA : ∀ W, (binOp .eql 26 (.agg #[.int .i64 3, .int .i64 0, .int .i64 0, .string ⟨#[97]⟩, .int .i64 0]) (.agg #[.int .i64 3, .int .i64 0, .int .i64 0, .string ⟨#[97]⟩, .int .i64 0])).run Try.prog W = .ok (.bool true) W := fun W => by kernel_rfl
  have EX : ∀ W, (binOp .eql 26 (.agg #[.int .i64 3, .int .i64 0, .int .i64 0, .string ⟨#[120]⟩, .int .i64 0]) (.agg #[.int .i64 3, .int .i64 0, .int .i64 0, .string ⟨#[120]⟩, .int .i64 0])).run Try.prog W = .ok (.bool true) W := fun W => by kernel_rfl
  have EN : ∀ W, (binOp .eql 26 (.agg #[.int .i64 2, .int .i64 1, .int .i64 1, .string ⟨#[]⟩, .int .i64 0]) (.agg #[.int .i64 2, .int .i64 1, .int .i64 1, .string ⟨#[]⟩, .int .i64 0])).run Try.prog W = .ok (.bool true) W := fun W => by kernel_rfl
  have QLN : Hid (∀ W, Below w5.heap.size w5 W → Calls Try.prog 19 #[.pointer (some ⟨t, 0, none⟩)] W fun e w' => e = .returned (.int .i64 3) ∧ W = w') := Lib.hid fun W hb => alen (HT5.out.below hb)
  have QSZ : Hid (∀ W, Calls Try.prog 12 #[.pointer (some ⟨t, 0, none⟩), .agg #[.int .i64 0, .int .i64 0, .int .i64 0, .string ⟨#[]⟩, .int .i64 0], .agg #[.int .i64 2, .int .i64 1, .int .i64 1, .string ⟨#[]⟩, .int .i64 0]] W fun e w' => e = .returned (.int .i64 13) ∧ Ch [] W w') := Lib.hid fun W => tset_k0 t v5z (⟨2, 1, 1, ⟨#[]⟩, 0⟩ : V5) W rfl
  have hW := Below.refl w5.heap.size w5
  have hcc : ∀ c o, c < w5.heap.size → w5.drew.cell? ⟨c, o, none⟩ = w5.cell? ⟨c, o, none⟩ := fun _ _ _ => rfl
  go_region_held3 (fun w' => (∀ c o, c < w5.heap.size → w'.cell? ⟨c, o, none⟩ = w5.cell? ⟨c, o, none⟩) ∧ Below w5.heap.size w5 w') (first | assumption | exact ⟨hcc, hW.drew⟩ | exact keepB (by assumption) hb1) (first | (go_at_call 20; (with_reducible refine (num13 _ _).mono ?_); rintro e w1 ⟨rfl, hb1⟩) | (go_at_call 24; (with_reducible refine (str13 _ _).mono ?_); rintro e w1 ⟨rfl, hb1⟩) | (go_at_call 19; have hE := (‹_ ∧ Below _ _ _›).2; (with_reducible refine (QLN.out _ hE).mono ?_); clear hE; rintro e w1 ⟨rfl, rfl⟩) | (go_at_call 12; (with_reducible refine (QSZ.out _).mono ?_); rintro e w1 ⟨rfl, hc1⟩; have hb1 := hc1.below; clear hc1))
  all_goals (
    have hS := ‹_ ∧ Below _ _ _›
    go_wp2
    go_ret
    exact ⟨rfl, HB4.out.trans ((HD5.out.below.mono HB4.out.size).trans (hS.2.mono HB5.out))⟩)
end Go.Proofs.Ytaaelhhiceildaa
