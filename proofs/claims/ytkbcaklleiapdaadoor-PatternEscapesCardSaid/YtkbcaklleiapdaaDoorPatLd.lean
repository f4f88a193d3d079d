/- Contracts of layer 4: an item. -/
import Derived.Test.YtkbcaklleiapdaaDoorPatKb
import Derived.Test.YtkbcaklleiapdaaDoorPatLc
namespace Go.Proofs.YtkbcaklleiapdaaDoor
open Go.RowKit M4
set_option linter.unusedVariables false
theorem it_nil {b : Nat} {p : ByteArray} {res : Except Nat (Itm × Nat × List Nat × List Nat)} {st op : Value} {w w' : World} {e : Ending} (h : ItSaid b p res st op w e w') (hk : ∀ r, res = .ok r → ¬ (r.1.kind = 0 ∨ r.1.kind = 5)) :
    ∃ k0 q x y c code : Int, e = .returned (.tuple #[.agg #[.int .i64 k0, .nilFunc, .int .u8 q, .int .u8 x, .int .u8 y, .int .i64 c], .int .i64 code]) := by
  have h1 := h.1
  cases res with
  | ok r =>
    obtain ⟨v, _, _, h2, _, _, _, h3⟩ := h1
    rw [h3.nil (hk r rfl)] at h2
    exact ⟨_, _, _, _, _, _, h2⟩
  | error c => exact ⟨_, _, _, _, _, _, h1⟩
theorem it_func {b : Nat} {p : ByteArray} {r : Itm × Nat × List Nat × List Nat} {st op : Value} {w w' : World} {e : Ending} (h : ItSaid b p (.ok r) st op w e w') (hk : r.1.kind = 0 ∨ r.1.kind = 5) :
    ∃ (k0 q x y c code : Int) (F : FuncId) (fst caps : Array Value), e = .returned (.tuple #[.agg #[.int .i64 k0, .func (.func F) fst caps, .int .u8 q, .int .u8 x, .int .u8 y, .int .i64 c], .int .i64 code]) := by
  obtain ⟨v, _, _, h2, _, _, _, h3⟩ := h.1
  obtain ⟨_, F, fst, caps, hv, _⟩ := (h3.tv hk).ex
  rw [hv] at h2
  exact ⟨_, _, _, _, _, _, F, fst, caps, h2⟩
/-- What the caller's own block does not change. -/
theorem ItSaid.lift {b R : Nat} {p : ByteArray} {res : Except Nat (Itm × Nat × List Nat × List Nat)} {st op : Value} {w w2 w3 W : World} {e : Ending} (h : ItSaid b p res st op w2 e w3) (hs : ∀ g ∈ ob st, g < w.heap.size) (ho : ∀ g ∈ ob op, g < w.heap.size) (hb : b < w.heap.size) (hR : w.heap.size ≤ R) (hR2 : R < w2.heap.size) (h1 : Ch [b] w w2) (h3 : Ch [R] w3 W) : ItSaid b p res st op w e W := by
  have hz := h.2.size
  have hS : Ch (b :: (ob st ++ ob op)) w W := Ch.new (Ch.trans (h1.mono (by simp)) h.2) hR (h3.mono (by simp))
  refine ⟨?_, hS⟩
  have g1 := h.1
  cases res with
  | error c => exact g1
  | ok r =>
    obtain ⟨v, st', op', e1, e2, e3, e4, e5⟩ := g1
    have n1 : ∀ g ∈ ob st', g ∉ [R] := fun g hg => by
      simp
      rcases e3 g hg with h5 | h5
      · have := hs g h5; omega
      · omega
    have n2 : ∀ g ∈ ob op', g ∉ [R] := fun g hg => by
      simp
      rcases e4 g hg with h5 | h5
      · have := ho g h5; omega
      · omega
    refine ⟨v, st', op', e1, ⟨e2.rd.ch h3 (by simp; omega), h3.own e2.s n1, h3.own e2.o n2, e2.n1, e2.n2, e2.so⟩, e3.base h1.size, e4.base h1.size, ⟨e5.nil, fun hk => ?_, e5.same⟩⟩
    exact ((e5.tv hk).kept (h3.kp (Nat.le_refl _) (by intro g hg; simp at hg; omega))).wide h1.size h3.size (Nat.le_refl _)
theorem opening_any (b : Nat) (p : ByteArray) (k : Nat) (st op : Value) (sts opn : List Nat) (w : World) (hp : p.size ≤ 1000000) (h40 : p.data.toList[k]? = some 40) (h16 : sts.length ≤ 16) (ho16 : opn.length ≤ sts.length) (h : RdS b p (k + 1) sts opn st op w) :
    Calls Tryd.prog 55 #[.pointer (some ⟨b, 0, none⟩)] w fun e w' => ItSaid b p (itemF p.data.toList k sts opn) st op w e w' := by
  obtain ⟨hk, _⟩ := get_of h40
  unfold itemF
  rw [if_pos h40]
  by_cases h1 : sts.length = 16
  · rw [if_pos h1]; exact opening_lim b p (k + 1) st op sts opn w h1 h
  · rw [if_neg h1]
    by_cases h41 : p.data.toList[k + 1]? = some 41
    · rw [if_pos h41]; exact opening_pos b p (k + 1) st op sts opn w hp hk (by omega) h h41
    · rw [if_neg h41]; exact opening_begin b p (k + 1) st op sts opn w hp hk (by omega) (by omega) h h41
theorem closing_any (b : Nat) (p : ByteArray) (k : Nat) (st op : Value) (sts opn : List Nat) (w : World) (h41 : p.data.toList[k]? = some 41) (h16 : sts.length ≤ 16) (ho16 : opn.length ≤ sts.length) (hop : ∀ n ∈ opn, n < sts.length) (h : RdS b p (k + 1) sts opn st op w) :
    Calls Tryd.prog 56 #[.pointer (some ⟨b, 0, none⟩)] w fun e w' => ItSaid b p (itemF p.data.toList k sts opn) st op w e w' := by
  unfold itemF
  rw [if_neg (by rw [h41]; decide), if_pos h41]
  cases hl : opn.getLast? with
  | none =>
    have : opn = [] := List.getLast?_eq_none_iff.1 hl
    subst this
    exact closing_err b p (k + 1) st op sts w h
  | some n =>
    obtain ⟨ys, rfl⟩ := List.getLast?_eq_some_iff.1 hl
    simp only []
    rw [List.dropLast_concat]
    exact closing_ok b p (k + 1) st op sts ys n w (hop n (by simp)) h16 (by simp at ho16; omega) h
theorem balance_any (b : Nat) (p : ByteArray) (k : Nat) (st op : Value) (sts opn : List Nat) (w : World) (hp : p.size ≤ 1000000) (h37 : p.data.toList[k]? = some 37) (h98 : p.data.toList[k + 1]? = some 98) (h : RdS b p (k + 2) sts opn st op w) :
    Calls Tryd.prog 57 #[.pointer (some ⟨b, 0, none⟩)] w fun e w' => ItSaid b p (itemF p.data.toList k sts opn) st op w e w' := by
  obtain ⟨hk, _⟩ := get_of h98
  have hll : p.data.toList.length = p.size := Array.length_toList
  unfold itemF
  rw [if_neg (by rw [h37]; decide), if_neg (by rw [h37]; decide), if_pos ⟨h37, h98⟩, hll]
  by_cases h4 : p.size < k + 4
  · rw [if_pos h4]; exact balance_err b p (k + 2) st op sts opn w hp (by omega) (by omega) h
  · rw [if_neg h4]; exact balance_ok b p (k + 2) st op sts opn w hp (by omega) h
theorem frontier_any (b : Nat) (p : ByteArray) (k : Nat) (st op : Value) (sts opn : List Nat) (w : World) (hp : p.size ≤ 1000000) (h37 : p.data.toList[k]? = some 37) (h102 : p.data.toList[k + 1]? = some 102) (h : RdS b p (k + 2) sts opn st op w) :
    Calls Tryd.prog 58 #[.pointer (some ⟨b, 0, none⟩)] w fun e w' => ItSaid b p (itemF p.data.toList k sts opn) st op w e w' := by
  obtain ⟨hk, _⟩ := get_of h102
  unfold itemF
  rw [if_neg (by rw [h37]; decide), if_neg (by rw [h37]; decide), if_neg (by rw [h102]; simp), if_pos ⟨h37, h102⟩]
  by_cases h91 : p.data.toList[k + 2]? = some 91
  · rw [if_pos h91]
    cases hs : setF p.data.toList (k + 3) with
    | none => exact frontier_err b p (k + 2) st op sts opn w hp (by omega) h h91 hs
    | some r => exact frontier_ok b p (k + 2) st op sts opn w hp (by omega) h h91 r hs
  · rw [if_neg h91]; exact frontier_no b p (k + 2) st op sts opn w hp (by omega) h h91
theorem again_any (b : Nat) (p : ByteArray) (k : Nat) (st op : Value) (sts opn : List Nat) (c : UInt8) (w : World) (h37 : p.data.toList[k]? = some 37) (hc : p.data.toList[k + 1]? = some c) (hc1 : 49 ≤ c.toNat) (hc2 : c.toNat ≤ 57) (h16 : sts.length ≤ 16) (hb : ∀ x ∈ sts, x ≤ 2) (h : RdS b p (k + 2) sts opn st op w) :
    Calls Tryd.prog 59 #[.pointer (some ⟨b, 0, none⟩), .int .i64 (((c.toNat - 49 : Nat)) : Int)] w fun e w' => ItSaid b p (itemF p.data.toList k sts opn) st op w e w' := by
  have n98 : c ≠ 98 := fun e => by rw [e] at hc2; revert hc2; decide
  have n102 : c ≠ 102 := fun e => by rw [e] at hc2; revert hc2; decide
  unfold itemF
  rw [if_neg (by rw [h37]; decide), if_neg (by rw [h37]; decide), if_neg (by rw [hc]; simp [n98]), if_neg (by rw [hc]; simp [n102]), if_pos ⟨h37, c, hc, hc1, hc2⟩]
  rw [show p.data.toList.getD (k + 1) 0 = c by rw [List.getD_eq_getElem?_getD, hc]; rfl]
  cases hs : sts[c.toNat - 49]? with
  | none =>
    rw [if_neg (by simp)]
    exact again_out b p (k + 2) st op sts opn w (c.toNat - 49) (by omega) h16 h (by simpa using hs)
  | some x =>
    by_cases hx : x = 1
    · subst hx
      rw [if_pos rfl]
      exact again_ok b p (k + 2) st op sts opn w (c.toNat - 49) (by omega) h16 h hs
    · rw [if_neg (by simp [hx])]
      exact again_err b p (k + 2) st op sts opn w (c.toNat - 49) (by omega) h16 h x hs hx (hb x (List.mem_of_getElem? hs))
/-- No item but a single. -/
def Sgl (l : List UInt8) (k : Nat) : Prop := ¬ l[k]? = some 40 ∧ ¬ l[k]? = some 41 ∧ ¬ (l[k]? = some 37 ∧ l[k + 1]? = some 98) ∧ ¬ (l[k]? = some 37 ∧ l[k + 1]? = some 102) ∧ ¬ (l[k]? = some 37 ∧ (∃ c, l[k + 1]? = some c ∧ 49 ≤ c.toNat ∧ c.toNat ≤ 57))
theorem item_sgl {l : List UInt8} {k : Nat} (h : Sgl l k) (sts opn : List Nat) : itemF l k sts opn = match singleF l k with | .error e => .error e | .ok r => .ok (r.1, r.2, sts, opn) := by
  unfold itemF
  rw [if_neg h.1, if_neg h.2.1, if_neg h.2.2.1, if_neg h.2.2.2.1, if_neg h.2.2.2.2]
  cases singleF l k <;> rfl
theorem single_any4 (b : Nat) (p : ByteArray) (k : Nat) (st op : Value) (sts opn : List Nat) (w : World) (hp : p.size ≤ 1000000) (hk : k < p.size) (hs : Sgl p.data.toList k) (h : RdS b p k sts opn st op w) :
    Calls Tryd.prog 60 #[.pointer (some ⟨b, 0, none⟩)] w fun e w' => ItSaid b p (itemF p.data.toList k sts opn) st op w e w' := by
  rw [item_sgl hs]
  cases ht : testF p.data.toList k with
  | none =>
    have hsg : singleF p.data.toList k = .error 4 := by unfold singleF; rw [ht]
    refine (single_err b p k st op w hp hk h.rd ht).mono fun e w' h1 => ?_
    have h2 := h1.1
    unfold SingleSaid at h2
    rw [hsg] at h2 ⊢
    exact ⟨h2, h1.2.mono (by simp)⟩
  | some u =>
    refine (single_ok b p k st op w hp hk h.rd u ht).mono fun e w' h1 => ?_
    have h2 := h1.1
    unfold SingleSaid at h2
    cases hsg : singleF p.data.toList k with
    | error c => unfold singleF at hsg; rw [ht] at hsg; cases hsg
    | ok r =>
      rw [hsg] at h2
      obtain ⟨v, h3, h4, h5⟩ := h2
      exact ⟨⟨v, st, op, h3, h.ch h1.2 h4, NewO.refl _ _, NewO.refl _ _, TVi.of (Or.inl (single_lt hsg).2.2) h5⟩, h1.2.mono (by simp)⟩

set_option maxHeartbeats 8000000 in
set_option maxRecDepth 100000 in
theorem item_40 (b : Nat) (p : ByteArray) (k : Nat) (st op : Value) (sts opn : List Nat) (w : World) (hp : p.size ≤ 1000000) (hk : k < p.size) (h16 : sts.length ≤ 16) (ho16 : opn.length ≤ sts.length) (hop : ∀ n ∈ opn, n < sts.length) (hbd : ∀ x ∈ sts, x ≤ 2) (h : RdS b p k sts opn st op w) (h40 : p.data.toList[k]? = some 40) :
    Calls Tryd.prog 44 #[.pointer (some ⟨b, 0, none⟩)] w fun e w' => ItSaid b p (itemF p.data.toList k sts opn) st op w e w' := by
  have hbl := h.rd.lt
  have hR1 : Itb w.heap.size it0 (w.alloc (.cells #[.int .i64 0, .nilFunc, .int .u8 0, .int .u8 0, .int .u8 0, .int .i64 0] 88)) := itb_new w it0 _ rfl
  have hr1 : Rd b p k st op (w.alloc (.cells #[.int .i64 0, .nilFunc, .int .u8 0, .int .u8 0, .int .u8 0, .int .i64 0] 88)) := h.rd.ch ((Ch.refl [] _).alloc _) (by simp)
  have hc1 : Ch [b] w (w.alloc (.cells #[.int .i64 0, .nilFunc, .int .u8 0, .int .u8 0, .int .u8 0, .int .i64 0] 88)) := (Ch.refl [b] w).alloc _
  have hz1 : (w.alloc (.cells #[.int .i64 0, .nilFunc, .int .u8 0, .int .u8 0, .int .u8 0, .int .i64 0] 88)).heap.size = w.heap.size + 1 := by simp
  obtain ⟨w1, hw1⟩ : ∃ w1, w.alloc (.cells #[.int .i64 0, .nilFunc, .int .u8 0, .int .u8 0, .int .u8 0, .int .i64 0] 88) = w1 := ⟨_, rfl⟩
  rw [hw1] at hR1 hr1 hc1 hz1
  obtain ⟨R, hRe⟩ : ∃ R, w.heap.size = R := ⟨_, rfl⟩
  rw [hRe] at hR1 hbl hz1
  have hbR : b ≠ R := by omega
  have HH := Lib.hid h
  have HR1 := Lib.hid hR1
  have Hr1 := Lib.hid hr1
  have HC1 := Lib.hid hc1
  have HSL : Hid (∀ g ∈ ob st, g < w.heap.size) := Lib.hid (fun g hg => own_lt h.s hg)
  have HOL : Hid (∀ g ∈ ob op, g < w.heap.size) := Lib.hid (fun g hg => own_lt h.o hg)
  have HBL : Hid (b < w.heap.size) := Lib.hid h.rd.lt
  have N40 := Lib.hid fun (W : World) (hW : Rd b p k st op W) => by
    have := skip4_lit b p k st op 40 40 rfl W hp (by omega) hW
    rw [if_pos h40, decide_eq_true h40] at this; exact this
  have O1 := Lib.hid fun W hW => opening_any b p k st op sts opn W hp h40 h16 ho16 hW
  have HNIL : Hid (∀ r, itemF p.data.toList k sts opn = .ok r → ¬ (r.1.kind = 0 ∨ r.1.kind = 5)) := Lib.hid (fun r hr => by
    unfold itemF at hr
    rw [if_pos h40] at hr
    split at hr
    · cases hr
    · split at hr <;> (cases hr; simp))
  clear h40
  go_enter Tryd.func44, Tryd.ntmps44
  go_upto_region 1 with fail
  (try simp only [hw1, hRe])
  have HRE := Lib.hid hRe
  clear hw1 hRe hR1 hr1 hc1 h
  go_upto_region 2 with (go_at_call 43; (with_reducible refine (N40.out _ Hr1.out).mono ?_); rintro e W2 ⟨rfl, h2, hg2⟩)
  have HRD2 := Lib.hid h2
  have HCA : Hid (Ch [b] w1 W2) := Lib.hid (Ch.of_grown hg2 (by simp))
  clear h2 hg2
  have hR2 := HR1.out.ch HCA.out (by simp; omega)
  have HR2 := Lib.hid hR2
  have HC2 : Hid (Ch [b] w W2) := Lib.hid (HC1.out.trans HCA.out)
  have hz3 : R < W2.heap.size := by have := HCA.out.size; omega
  have HS2 := Lib.hid (HH.out.ch HC2.out HRD2.out)
  have HRN : Hid (R ∉ b :: (ob st ++ ob op)) := Lib.hid (by
    have h1 := HRE.out
    intro e
    simp at e
    rcases e with e | e | e
    · omega
    · have := HSL.out R e; omega
    · have := HOL.out R e; omega)
  clear hR2
  go_wp2_with (go_at_call 55; (with_reducible refine (O1.out W2 HS2.out).mono ?_); rintro e w3 hIt; obtain ⟨k0, q, x, y, cc, code, he⟩ := it_nil hIt HNIL.out; subst he; have HIT := Lib.hid hIt; have hR := HR2.out.ch hIt.2 HRN.out; have r0 := hR.cell 0; have r1 := hR.cell 1; have r2 := hR.cell 2; have r3 := hR.cell 3; have r4 := hR.cell 4; have r5 := hR.cell 5; simp [it0] at r0 r1 r2 r3 r4 r5; have f0 := hR.fz 0; have f1 := hR.fz 1; have f2 := hR.fz 2; have f3 := hR.fz 3; have f4 := hR.fz 4; have f5 := hR.fz 5; have HR := Lib.hid hR; clear hIt hR)
  show bodyPost _ _ _ Exit.ret _ (st6 w3 R (.int .i64 k0) (.nilFunc) (.int .u8 q) (.int .u8 x) (.int .u8 y) (.int .i64 cc))
  have hI : Itb R #[.int .i64 k0, .nilFunc, .int .u8 q, .int .u8 x, .int .u8 y, .int .i64 cc] (st6 w3 R (.int .i64 k0) (.nilFunc) (.int .u8 q) (.int .u8 x) (.int .u8 y) (.int .i64 cc)) := st6_it HR.out
  have hS : Ch [R] w3 (st6 w3 R (.int .i64 k0) (.nilFunc) (.int .u8 q) (.int .u8 x) (.int .u8 y) (.int .i64 cc)) := st6_ch
  have d0 := hI.cell 0
  have d1 := hI.cell 1
  have d2 := hI.cell 2
  have d3 := hI.cell 3
  have d4 := hI.cell 4
  have d5 := hI.cell 5
  simp at d0 d1 d2 d3 d4 d5
  generalize (st6 w3 R (.int .i64 k0) (.nilFunc) (.int .u8 q) (.int .u8 x) (.int .u8 y) (.int .i64 cc)) = W9 at *
  refine bodyPost_ret (v := .tuple #[.agg #[.int .i64 k0, .nilFunc, .int .u8 q, .int .u8 x, .int .u8 y, .int .i64 cc], .int .i64 code]) ?_ rfl (HIT.out.lift HSL.out HOL.out HBL.out (Nat.le_of_eq HRE.out) hz3 HC2.out hS)
  simp [results, Tryd.results44, go_sem, d0, d1, d2, d3, d4, d5]

set_option maxHeartbeats 8000000 in
set_option maxRecDepth 100000 in
theorem item_41 (b : Nat) (p : ByteArray) (k : Nat) (st op : Value) (sts opn : List Nat) (w : World) (hp : p.size ≤ 1000000) (hk : k < p.size) (h16 : sts.length ≤ 16) (ho16 : opn.length ≤ sts.length) (hop : ∀ n ∈ opn, n < sts.length) (hbd : ∀ x ∈ sts, x ≤ 2) (h : RdS b p k sts opn st op w) (h41 : p.data.toList[k]? = some 41) :
    Calls Tryd.prog 44 #[.pointer (some ⟨b, 0, none⟩)] w fun e w' => ItSaid b p (itemF p.data.toList k sts opn) st op w e w' := by
  have hbl := h.rd.lt
  have hR1 : Itb w.heap.size it0 (w.alloc (.cells #[.int .i64 0, .nilFunc, .int .u8 0, .int .u8 0, .int .u8 0, .int .i64 0] 88)) := itb_new w it0 _ rfl
  have hr1 : Rd b p k st op (w.alloc (.cells #[.int .i64 0, .nilFunc, .int .u8 0, .int .u8 0, .int .u8 0, .int .i64 0] 88)) := h.rd.ch ((Ch.refl [] _).alloc _) (by simp)
  have hc1 : Ch [b] w (w.alloc (.cells #[.int .i64 0, .nilFunc, .int .u8 0, .int .u8 0, .int .u8 0, .int .i64 0] 88)) := (Ch.refl [b] w).alloc _
  have hz1 : (w.alloc (.cells #[.int .i64 0, .nilFunc, .int .u8 0, .int .u8 0, .int .u8 0, .int .i64 0] 88)).heap.size = w.heap.size + 1 := by simp
  obtain ⟨w1, hw1⟩ : ∃ w1, w.alloc (.cells #[.int .i64 0, .nilFunc, .int .u8 0, .int .u8 0, .int .u8 0, .int .i64 0] 88) = w1 := ⟨_, rfl⟩
  rw [hw1] at hR1 hr1 hc1 hz1
  obtain ⟨R, hRe⟩ : ∃ R, w.heap.size = R := ⟨_, rfl⟩
  rw [hRe] at hR1 hbl hz1
  have hbR : b ≠ R := by omega
  have HH := Lib.hid h
  have HR1 := Lib.hid hR1
  have Hr1 := Lib.hid hr1
  have HC1 := Lib.hid hc1
  have HSL : Hid (∀ g ∈ ob st, g < w.heap.size) := Lib.hid (fun g hg => own_lt h.s hg)
  have HOL : Hid (∀ g ∈ ob op, g < w.heap.size) := Lib.hid (fun g hg => own_lt h.o hg)
  have HBL : Hid (b < w.heap.size) := Lib.hid h.rd.lt
  have h40 : ¬ p.data.toList[k]? = some 40 := by rw [h41]; decide
  have N40 := Lib.hid fun (W : World) (hW : Rd b p k st op W) => by
    have := skip4_lit b p k st op 40 40 rfl W hp (by omega) hW
    rw [if_neg h40, decide_eq_false h40] at this; exact this
  have N41 := Lib.hid fun (W : World) (hW : Rd b p k st op W) => by
    have := skip4_lit b p k st op 41 41 rfl W hp (by omega) hW
    rw [if_pos h41, decide_eq_true h41] at this; exact this
  have O1 := Lib.hid fun W hW => closing_any b p k st op sts opn W h41 h16 ho16 hop hW
  have HNIL : Hid (∀ r, itemF p.data.toList k sts opn = .ok r → ¬ (r.1.kind = 0 ∨ r.1.kind = 5)) := Lib.hid (fun r hr => by
    unfold itemF at hr
    rw [if_neg h40, if_pos h41] at hr
    split at hr <;> (cases hr; try simp))
  clear h40 h41
  go_enter Tryd.func44, Tryd.ntmps44
  go_upto_region 1 with fail
  (try simp only [hw1, hRe])
  have HRE := Lib.hid hRe
  clear hw1 hRe hR1 hr1 hc1 h
  go_upto_region 4 with (go_at_call 43; first | ((with_reducible refine (N40.out _ Hr1.out).mono ?_); rintro e w4 ⟨rfl, h4, hg4⟩) | ((with_reducible refine (N41.out _ h4).mono ?_); rintro e W2 ⟨rfl, h2, hg2⟩))
  have HRD2 := Lib.hid h2
  have HCA : Hid (Ch [b] w1 W2) := Lib.hid ((Ch.of_grown hg4 (by simp)).trans (Ch.of_grown hg2 (by simp)))
  clear h2 hg2 h4 hg4
  have hR2 := HR1.out.ch HCA.out (by simp; omega)
  have HR2 := Lib.hid hR2
  have HC2 : Hid (Ch [b] w W2) := Lib.hid (HC1.out.trans HCA.out)
  have hz3 : R < W2.heap.size := by have := HCA.out.size; omega
  have HS2 := Lib.hid (HH.out.ch HC2.out HRD2.out)
  have HRN : Hid (R ∉ b :: (ob st ++ ob op)) := Lib.hid (by
    have h1 := HRE.out
    intro e
    simp at e
    rcases e with e | e | e
    · omega
    · have := HSL.out R e; omega
    · have := HOL.out R e; omega)
  clear hR2
  go_wp2_with (go_at_call 56; (with_reducible refine (O1.out W2 HS2.out).mono ?_); rintro e w3 hIt; obtain ⟨k0, q, x, y, cc, code, he⟩ := it_nil hIt HNIL.out; subst he; have HIT := Lib.hid hIt; have hR := HR2.out.ch hIt.2 HRN.out; have r0 := hR.cell 0; have r1 := hR.cell 1; have r2 := hR.cell 2; have r3 := hR.cell 3; have r4 := hR.cell 4; have r5 := hR.cell 5; simp [it0] at r0 r1 r2 r3 r4 r5; have f0 := hR.fz 0; have f1 := hR.fz 1; have f2 := hR.fz 2; have f3 := hR.fz 3; have f4 := hR.fz 4; have f5 := hR.fz 5; have HR := Lib.hid hR; clear hIt hR)
  show bodyPost _ _ _ Exit.ret _ (st6 w3 R (.int .i64 k0) (.nilFunc) (.int .u8 q) (.int .u8 x) (.int .u8 y) (.int .i64 cc))
  have hI : Itb R #[.int .i64 k0, .nilFunc, .int .u8 q, .int .u8 x, .int .u8 y, .int .i64 cc] (st6 w3 R (.int .i64 k0) (.nilFunc) (.int .u8 q) (.int .u8 x) (.int .u8 y) (.int .i64 cc)) := st6_it HR.out
  have hS : Ch [R] w3 (st6 w3 R (.int .i64 k0) (.nilFunc) (.int .u8 q) (.int .u8 x) (.int .u8 y) (.int .i64 cc)) := st6_ch
  have d0 := hI.cell 0
  have d1 := hI.cell 1
  have d2 := hI.cell 2
  have d3 := hI.cell 3
  have d4 := hI.cell 4
  have d5 := hI.cell 5
  simp at d0 d1 d2 d3 d4 d5
  generalize (st6 w3 R (.int .i64 k0) (.nilFunc) (.int .u8 q) (.int .u8 x) (.int .u8 y) (.int .i64 cc)) = W9 at *
  refine bodyPost_ret (v := .tuple #[.agg #[.int .i64 k0, .nilFunc, .int .u8 q, .int .u8 x, .int .u8 y, .int .i64 cc], .int .i64 code]) ?_ rfl (HIT.out.lift HSL.out HOL.out HBL.out (Nat.le_of_eq HRE.out) hz3 HC2.out hS)
  simp [results, Tryd.results44, go_sem, d0, d1, d2, d3, d4, d5]

theorem kind_f {l : List UInt8} {k : Nat} {sts opn : List Nat} {r : Itm × Nat × List Nat × List Nat} (h37 : l[k]? = some 37) (h102 : l[k + 1]? = some 102) (hr : itemF l k sts opn = .ok r) : r.1.kind = 0 ∨ r.1.kind = 5 := by
  unfold itemF at hr
  rw [if_neg (by rw [h37]; decide), if_neg (by rw [h37]; decide), if_neg (by rw [h102]; simp), if_pos ⟨h37, h102⟩] at hr
  split at hr
  · split at hr
    · cases hr
    · cases hr; exact Or.inr rfl
  · cases hr
theorem kind_d {l : List UInt8} {k : Nat} {sts opn : List Nat} {r : Itm × Nat × List Nat × List Nat} {c : UInt8} (h37 : l[k]? = some 37) (hc : l[k + 1]? = some c) (hc1 : 49 ≤ c.toNat) (hc2 : c.toNat ≤ 57) (hr : itemF l k sts opn = .ok r) : ¬ (r.1.kind = 0 ∨ r.1.kind = 5) := by
  have n98 : c ≠ 98 := fun e => by rw [e] at hc2; revert hc2; decide
  have n102 : c ≠ 102 := fun e => by rw [e] at hc2; revert hc2; decide
  unfold itemF at hr
  rw [if_neg (by rw [h37]; decide), if_neg (by rw [h37]; decide), if_neg (by rw [hc]; simp [n98]), if_neg (by rw [hc]; simp [n102]), if_pos ⟨h37, c, hc, hc1, hc2⟩] at hr
  split at hr
  · cases hr; simp
  · cases hr

set_option maxHeartbeats 8000000 in
set_option maxRecDepth 100000 in
theorem item_b (b : Nat) (p : ByteArray) (k : Nat) (st op : Value) (sts opn : List Nat) (w : World) (hp : p.size ≤ 1000000) (hk : k < p.size) (h16 : sts.length ≤ 16) (ho16 : opn.length ≤ sts.length) (hop : ∀ n ∈ opn, n < sts.length) (hbd : ∀ x ∈ sts, x ≤ 2) (h : RdS b p k sts opn st op w) (h37 : p.data.toList[k]? = some 37) (c : UInt8) (hc98 : c = 98) (hc : p.data.toList[k + 1]? = some c) :
    Calls Tryd.prog 44 #[.pointer (some ⟨b, 0, none⟩)] w fun e w' => ItSaid b p (itemF p.data.toList k sts opn) st op w e w' := by
  have hbl := h.rd.lt
  have hR1 : Itb w.heap.size it0 (w.alloc (.cells #[.int .i64 0, .nilFunc, .int .u8 0, .int .u8 0, .int .u8 0, .int .i64 0] 88)) := itb_new w it0 _ rfl
  have hr1 : Rd b p k st op (w.alloc (.cells #[.int .i64 0, .nilFunc, .int .u8 0, .int .u8 0, .int .u8 0, .int .i64 0] 88)) := h.rd.ch ((Ch.refl [] _).alloc _) (by simp)
  have hc1 : Ch [b] w (w.alloc (.cells #[.int .i64 0, .nilFunc, .int .u8 0, .int .u8 0, .int .u8 0, .int .i64 0] 88)) := (Ch.refl [b] w).alloc _
  have hz1 : (w.alloc (.cells #[.int .i64 0, .nilFunc, .int .u8 0, .int .u8 0, .int .u8 0, .int .i64 0] 88)).heap.size = w.heap.size + 1 := by simp
  obtain ⟨w1, hw1⟩ : ∃ w1, w.alloc (.cells #[.int .i64 0, .nilFunc, .int .u8 0, .int .u8 0, .int .u8 0, .int .i64 0] 88) = w1 := ⟨_, rfl⟩
  rw [hw1] at hR1 hr1 hc1 hz1
  obtain ⟨R, hRe⟩ : ∃ R, w.heap.size = R := ⟨_, rfl⟩
  rw [hRe] at hR1 hbl hz1
  have hbR : b ≠ R := by omega
  have HH := Lib.hid h
  have HR1 := Lib.hid hR1
  have Hr1 := Lib.hid hr1
  have HC1 := Lib.hid hc1
  have HSL : Hid (∀ g ∈ ob st, g < w.heap.size) := Lib.hid (fun g hg => own_lt h.s hg)
  have HOL : Hid (∀ g ∈ ob op, g < w.heap.size) := Lib.hid (fun g hg => own_lt h.o hg)
  have HBL : Hid (b < w.heap.size) := Lib.hid h.rd.lt
  have h40 : ¬ p.data.toList[k]? = some 40 := by rw [h37]; decide
  have h41 : ¬ p.data.toList[k]? = some 41 := by rw [h37]; decide
  have N40 := Lib.hid fun (W : World) (hW : Rd b p k st op W) => by
    have := skip4_lit b p k st op 40 40 rfl W hp (by omega) hW
    rw [if_neg h40, decide_eq_false h40] at this; exact this
  have N41 := Lib.hid fun (W : World) (hW : Rd b p k st op W) => by
    have := skip4_lit b p k st op 41 41 rfl W hp (by omega) hW
    rw [if_neg h41, decide_eq_false h41] at this; exact this
  have O1 := Lib.hid fun W hW => balance_any b p k st op sts opn W hp h37 (by rw [hc, hc98]) hW
  have HNIL : Hid (∀ r, itemF p.data.toList k sts opn = .ok r → ¬ (r.1.kind = 0 ∨ r.1.kind = 5)) := Lib.hid (fun r hr => by unfold itemF at hr; rw [if_neg h40, if_neg h41, if_pos ⟨h37, by rw [hc, hc98]⟩] at hr; split at hr <;> (cases hr; try simp))
  have hkk : (k : Int) < (p.size : Int) := by omega
  have hk0 : 0 ≤ (k : Int) := by omega
  have hw1k : IntKind.i64.wrap ((k : Int) + 1) = ((k + 1 : Nat) : Int) := by rw [i64w _ (by omega)]; push_cast; rfl
  obtain ⟨_, hp37⟩ := get_of h37
  have x37 : ((p[k].toNat : Int) == 37) = true := by rw [hp37]; rfl
  clear hp37
  obtain ⟨hk1, hpc⟩ := get_of hc
  have hck : (p[k + 1].toNat : Int) = (c.toNat : Int) := by rw [hpc]
  have hkk1 : ((k + 1 : Nat) : Int) < (p.size : Int) := by omega
  have hkk2 : (k : Int) + 1 < (p.size : Int) := by omega
  have hk10 : 0 ≤ ((k + 1 : Nat) : Int) := by omega
  have hkd : decide (k + 1 < p.size) = true := decide_eq_true hk1
  clear hpc
  have y1 : ((c.toNat : Int) == 98) = true := by rw [hc98]; rfl
  clear hc98
  have hw2k : IntKind.i64.wrap ((k : Int) + 2) = (k : Int) + 2 := i64w _ (by omega)
  clear h40 h41 h37 hc
  go_enter Tryd.func44, Tryd.ntmps44
  go_upto_region 1 with fail
  (try simp only [hw1, hRe])
  have HRE := Lib.hid hRe
  clear hw1 hRe hR1 hr1 hc1 h
  go_upto_region 5 with (go_at_call 43; first | ((with_reducible refine (N40.out _ Hr1.out).mono ?_); rintro e w4 ⟨rfl, h4, hg4⟩) | ((with_reducible refine (N41.out _ h4).mono ?_); rintro e w5 ⟨rfl, h5, hg5⟩))
  have HCA5 : Hid (Ch [b] w1 w5) := Lib.hid ((Ch.of_grown hg4 (by simp)).trans (Ch.of_grown hg5 (by simp)))
  have H5 := Lib.hid h5
  have m0 := h5.c0
  have m1 := h5.c1
  have mf := h5.fz 1
  clear hg4 hg5 h4 h5
  go_quiet (fail)
  go_upto_region 6 with fail
  go_quiet (fail)
  go_upto_region 9 with fail
  go_name_world W2 hV
  have HRD2 : Hid (Rd b p (k + 2) st op W2) := Lib.hid (by rw [← hV]; exact (H5.out.drewN _).set1 (k + 2) _ (by push_cast; rfl))
  have HCA : Hid (Ch [b] w1 W2) := Lib.hid (by rw [← hV]; exact (HCA5.out.drewN _).set b 1 _ (Or.inl (by simp)))
  clear hV m0 m1 mf
  have hR2 := HR1.out.ch HCA.out (by simp; omega)
  have HR2 := Lib.hid hR2
  have HC2 : Hid (Ch [b] w W2) := Lib.hid (HC1.out.trans HCA.out)
  have hz3 : R < W2.heap.size := by have := HCA.out.size; omega
  have HS2 := Lib.hid (HH.out.ch HC2.out HRD2.out)
  have HRN : Hid (R ∉ b :: (ob st ++ ob op)) := Lib.hid (by
    have h1 := HRE.out
    intro e
    simp at e
    rcases e with e | e | e
    · omega
    · have := HSL.out R e; omega
    · have := HOL.out R e; omega)
  clear hR2
  go_wp2_with (go_at_call 57; (with_reducible refine (O1.out W2 HS2.out).mono ?_); rintro e w3 hIt; obtain ⟨k0, q, x, y, cc, code, he⟩ := it_nil hIt HNIL.out; subst he; have HIT := Lib.hid hIt; have hR := HR2.out.ch hIt.2 HRN.out; have r0 := hR.cell 0; have r1 := hR.cell 1; have r2 := hR.cell 2; have r3 := hR.cell 3; have r4 := hR.cell 4; have r5 := hR.cell 5; simp [it0] at r0 r1 r2 r3 r4 r5; have f0 := hR.fz 0; have f1 := hR.fz 1; have f2 := hR.fz 2; have f3 := hR.fz 3; have f4 := hR.fz 4; have f5 := hR.fz 5; have HR := Lib.hid hR; clear hIt hR)
  show bodyPost _ _ _ Exit.ret _ (st6 w3 R (.int .i64 k0) (.nilFunc) (.int .u8 q) (.int .u8 x) (.int .u8 y) (.int .i64 cc))
  have hI : Itb R #[.int .i64 k0, .nilFunc, .int .u8 q, .int .u8 x, .int .u8 y, .int .i64 cc] (st6 w3 R (.int .i64 k0) (.nilFunc) (.int .u8 q) (.int .u8 x) (.int .u8 y) (.int .i64 cc)) := st6_it HR.out
  have hS : Ch [R] w3 (st6 w3 R (.int .i64 k0) (.nilFunc) (.int .u8 q) (.int .u8 x) (.int .u8 y) (.int .i64 cc)) := st6_ch
  have d0 := hI.cell 0
  have d1 := hI.cell 1
  have d2 := hI.cell 2
  have d3 := hI.cell 3
  have d4 := hI.cell 4
  have d5 := hI.cell 5
  simp at d0 d1 d2 d3 d4 d5
  generalize (st6 w3 R (.int .i64 k0) (.nilFunc) (.int .u8 q) (.int .u8 x) (.int .u8 y) (.int .i64 cc)) = W9 at *
  refine bodyPost_ret (v := .tuple #[.agg #[.int .i64 k0, .nilFunc, .int .u8 q, .int .u8 x, .int .u8 y, .int .i64 cc], .int .i64 code]) ?_ rfl (HIT.out.lift HSL.out HOL.out HBL.out (Nat.le_of_eq HRE.out) hz3 HC2.out hS)
  simp [results, Tryd.results44, go_sem, d0, d1, d2, d3, d4, d5]

set_option maxHeartbeats 8000000 in
set_option maxRecDepth 100000 in
theorem item_f (b : Nat) (p : ByteArray) (k : Nat) (st op : Value) (sts opn : List Nat) (w : World) (hp : p.size ≤ 1000000) (hk : k < p.size) (h16 : sts.length ≤ 16) (ho16 : opn.length ≤ sts.length) (hop : ∀ n ∈ opn, n < sts.length) (hbd : ∀ x ∈ sts, x ≤ 2) (h : RdS b p k sts opn st op w) (h37 : p.data.toList[k]? = some 37) (c : UInt8) (hc102 : c = 102) (hc : p.data.toList[k + 1]? = some c) (r : Itm × Nat × List Nat × List Nat) (hok : itemF p.data.toList k sts opn = .ok r) :
    Calls Tryd.prog 44 #[.pointer (some ⟨b, 0, none⟩)] w fun e w' => ItSaid b p (itemF p.data.toList k sts opn) st op w e w' := by
  have hbl := h.rd.lt
  have hR1 : Itb w.heap.size it0 (w.alloc (.cells #[.int .i64 0, .nilFunc, .int .u8 0, .int .u8 0, .int .u8 0, .int .i64 0] 88)) := itb_new w it0 _ rfl
  have hr1 : Rd b p k st op (w.alloc (.cells #[.int .i64 0, .nilFunc, .int .u8 0, .int .u8 0, .int .u8 0, .int .i64 0] 88)) := h.rd.ch ((Ch.refl [] _).alloc _) (by simp)
  have hc1 : Ch [b] w (w.alloc (.cells #[.int .i64 0, .nilFunc, .int .u8 0, .int .u8 0, .int .u8 0, .int .i64 0] 88)) := (Ch.refl [b] w).alloc _
  have hz1 : (w.alloc (.cells #[.int .i64 0, .nilFunc, .int .u8 0, .int .u8 0, .int .u8 0, .int .i64 0] 88)).heap.size = w.heap.size + 1 := by simp
  obtain ⟨w1, hw1⟩ : ∃ w1, w.alloc (.cells #[.int .i64 0, .nilFunc, .int .u8 0, .int .u8 0, .int .u8 0, .int .i64 0] 88) = w1 := ⟨_, rfl⟩
  rw [hw1] at hR1 hr1 hc1 hz1
  obtain ⟨R, hRe⟩ : ∃ R, w.heap.size = R := ⟨_, rfl⟩
  rw [hRe] at hR1 hbl hz1
  have hbR : b ≠ R := by omega
  have HH := Lib.hid h
  have HR1 := Lib.hid hR1
  have Hr1 := Lib.hid hr1
  have HC1 := Lib.hid hc1
  have HSL : Hid (∀ g ∈ ob st, g < w.heap.size) := Lib.hid (fun g hg => own_lt h.s hg)
  have HOL : Hid (∀ g ∈ ob op, g < w.heap.size) := Lib.hid (fun g hg => own_lt h.o hg)
  have HBL : Hid (b < w.heap.size) := Lib.hid h.rd.lt
  have h40 : ¬ p.data.toList[k]? = some 40 := by rw [h37]; decide
  have h41 : ¬ p.data.toList[k]? = some 41 := by rw [h37]; decide
  have N40 := Lib.hid fun (W : World) (hW : Rd b p k st op W) => by
    have := skip4_lit b p k st op 40 40 rfl W hp (by omega) hW
    rw [if_neg h40, decide_eq_false h40] at this; exact this
  have N41 := Lib.hid fun (W : World) (hW : Rd b p k st op W) => by
    have := skip4_lit b p k st op 41 41 rfl W hp (by omega) hW
    rw [if_neg h41, decide_eq_false h41] at this; exact this
  have O1 := Lib.hid fun W hW => frontier_any b p k st op sts opn W hp h37 (by rw [hc, hc102]) hW
  have HFUN : Hid (∀ (e : Ending) (W W' : World), ItSaid b p (itemF p.data.toList k sts opn) st op W e W' → ∃ (k0 q x y cc code : Int) (F : FuncId) (fst caps : Array Value), e = .returned (.tuple #[.agg #[.int .i64 k0, .func (.func F) fst caps, .int .u8 q, .int .u8 x, .int .u8 y, .int .i64 cc], .int .i64 code])) := Lib.hid (fun e W W' hI => by rw [hok] at hI; exact it_func hI (kind_f h37 (by rw [hc, hc102]) hok))
  have hkk : (k : Int) < (p.size : Int) := by omega
  have hk0 : 0 ≤ (k : Int) := by omega
  have hw1k : IntKind.i64.wrap ((k : Int) + 1) = ((k + 1 : Nat) : Int) := by rw [i64w _ (by omega)]; push_cast; rfl
  obtain ⟨_, hp37⟩ := get_of h37
  have x37 : ((p[k].toNat : Int) == 37) = true := by rw [hp37]; rfl
  clear hp37
  obtain ⟨hk1, hpc⟩ := get_of hc
  have hck : (p[k + 1].toNat : Int) = (c.toNat : Int) := by rw [hpc]
  have hkk1 : ((k + 1 : Nat) : Int) < (p.size : Int) := by omega
  have hkk2 : (k : Int) + 1 < (p.size : Int) := by omega
  have hk10 : 0 ≤ ((k + 1 : Nat) : Int) := by omega
  have hkd : decide (k + 1 < p.size) = true := decide_eq_true hk1
  clear hpc
  have y1 : ((c.toNat : Int) == 98) = false := by rw [hc102]; rfl
  have y2 : ((c.toNat : Int) == 102) = true := by rw [hc102]; rfl
  clear hc102 hok
  have hw2k : IntKind.i64.wrap ((k : Int) + 2) = (k : Int) + 2 := i64w _ (by omega)
  clear h40 h41 h37 hc
  go_enter Tryd.func44, Tryd.ntmps44
  go_upto_region 1 with fail
  (try simp only [hw1, hRe])
  have HRE := Lib.hid hRe
  clear hw1 hRe hR1 hr1 hc1 h
  go_upto_region 5 with (go_at_call 43; first | ((with_reducible refine (N40.out _ Hr1.out).mono ?_); rintro e w4 ⟨rfl, h4, hg4⟩) | ((with_reducible refine (N41.out _ h4).mono ?_); rintro e w5 ⟨rfl, h5, hg5⟩))
  have HCA5 : Hid (Ch [b] w1 w5) := Lib.hid ((Ch.of_grown hg4 (by simp)).trans (Ch.of_grown hg5 (by simp)))
  have H5 := Lib.hid h5
  have m0 := h5.c0
  have m1 := h5.c1
  have mf := h5.fz 1
  clear hg4 hg5 h4 h5
  go_quiet (fail)
  go_upto_region 6 with fail
  go_quiet (fail)
  go_upto_region 12 with fail
  go_name_world W2 hV
  have HRD2 : Hid (Rd b p (k + 2) st op W2) := Lib.hid (by rw [← hV]; exact (H5.out.drewN _).set1 (k + 2) _ (by push_cast; rfl))
  have HCA : Hid (Ch [b] w1 W2) := Lib.hid (by rw [← hV]; exact (HCA5.out.drewN _).set b 1 _ (Or.inl (by simp)))
  clear hV m0 m1 mf
  have hR2 := HR1.out.ch HCA.out (by simp; omega)
  have HR2 := Lib.hid hR2
  have HC2 : Hid (Ch [b] w W2) := Lib.hid (HC1.out.trans HCA.out)
  have hz3 : R < W2.heap.size := by have := HCA.out.size; omega
  have HS2 := Lib.hid (HH.out.ch HC2.out HRD2.out)
  have HRN : Hid (R ∉ b :: (ob st ++ ob op)) := Lib.hid (by
    have h1 := HRE.out
    intro e
    simp at e
    rcases e with e | e | e
    · omega
    · have := HSL.out R e; omega
    · have := HOL.out R e; omega)
  clear hR2
  go_wp2_with (go_at_call 58; (with_reducible refine (O1.out W2 HS2.out).mono ?_); rintro e w3 hIt; obtain ⟨k0, q, x, y, cc, code, F, fst, caps, he⟩ := HFUN.out _ _ _ hIt; subst he; have HIT := Lib.hid hIt; have hR := HR2.out.ch hIt.2 HRN.out; have r0 := hR.cell 0; have r1 := hR.cell 1; have r2 := hR.cell 2; have r3 := hR.cell 3; have r4 := hR.cell 4; have r5 := hR.cell 5; simp [it0] at r0 r1 r2 r3 r4 r5; have f0 := hR.fz 0; have f1 := hR.fz 1; have f2 := hR.fz 2; have f3 := hR.fz 3; have f4 := hR.fz 4; have f5 := hR.fz 5; have HR := Lib.hid hR; clear hIt hR)
  show bodyPost _ _ _ Exit.ret _ (st6 w3 R (.int .i64 k0) (.func (.func F) fst caps) (.int .u8 q) (.int .u8 x) (.int .u8 y) (.int .i64 cc))
  have hI : Itb R #[.int .i64 k0, .func (.func F) fst caps, .int .u8 q, .int .u8 x, .int .u8 y, .int .i64 cc] (st6 w3 R (.int .i64 k0) (.func (.func F) fst caps) (.int .u8 q) (.int .u8 x) (.int .u8 y) (.int .i64 cc)) := st6_it HR.out
  have hS : Ch [R] w3 (st6 w3 R (.int .i64 k0) (.func (.func F) fst caps) (.int .u8 q) (.int .u8 x) (.int .u8 y) (.int .i64 cc)) := st6_ch
  have d0 := hI.cell 0
  have d1 := hI.cell 1
  have d2 := hI.cell 2
  have d3 := hI.cell 3
  have d4 := hI.cell 4
  have d5 := hI.cell 5
  simp at d0 d1 d2 d3 d4 d5
  generalize (st6 w3 R (.int .i64 k0) (.func (.func F) fst caps) (.int .u8 q) (.int .u8 x) (.int .u8 y) (.int .i64 cc)) = W9 at *
  refine bodyPost_ret (v := .tuple #[.agg #[.int .i64 k0, .func (.func F) fst caps, .int .u8 q, .int .u8 x, .int .u8 y, .int .i64 cc], .int .i64 code]) ?_ rfl (HIT.out.lift HSL.out HOL.out HBL.out (Nat.le_of_eq HRE.out) hz3 HC2.out hS)
  simp [results, Tryd.results44, go_sem, d0, d1, d2, d3, d4, d5]

set_option maxHeartbeats 8000000 in
set_option maxRecDepth 100000 in
theorem item_fe (b : Nat) (p : ByteArray) (k : Nat) (st op : Value) (sts opn : List Nat) (w : World) (hp : p.size ≤ 1000000) (hk : k < p.size) (h16 : sts.length ≤ 16) (ho16 : opn.length ≤ sts.length) (hop : ∀ n ∈ opn, n < sts.length) (hbd : ∀ x ∈ sts, x ≤ 2) (h : RdS b p k sts opn st op w) (h37 : p.data.toList[k]? = some 37) (c : UInt8) (hc102 : c = 102) (hc : p.data.toList[k + 1]? = some c) (er : Nat) (hok : itemF p.data.toList k sts opn = .error er) :
    Calls Tryd.prog 44 #[.pointer (some ⟨b, 0, none⟩)] w fun e w' => ItSaid b p (itemF p.data.toList k sts opn) st op w e w' := by
  have hbl := h.rd.lt
  have hR1 : Itb w.heap.size it0 (w.alloc (.cells #[.int .i64 0, .nilFunc, .int .u8 0, .int .u8 0, .int .u8 0, .int .i64 0] 88)) := itb_new w it0 _ rfl
  have hr1 : Rd b p k st op (w.alloc (.cells #[.int .i64 0, .nilFunc, .int .u8 0, .int .u8 0, .int .u8 0, .int .i64 0] 88)) := h.rd.ch ((Ch.refl [] _).alloc _) (by simp)
  have hc1 : Ch [b] w (w.alloc (.cells #[.int .i64 0, .nilFunc, .int .u8 0, .int .u8 0, .int .u8 0, .int .i64 0] 88)) := (Ch.refl [b] w).alloc _
  have hz1 : (w.alloc (.cells #[.int .i64 0, .nilFunc, .int .u8 0, .int .u8 0, .int .u8 0, .int .i64 0] 88)).heap.size = w.heap.size + 1 := by simp
  obtain ⟨w1, hw1⟩ : ∃ w1, w.alloc (.cells #[.int .i64 0, .nilFunc, .int .u8 0, .int .u8 0, .int .u8 0, .int .i64 0] 88) = w1 := ⟨_, rfl⟩
  rw [hw1] at hR1 hr1 hc1 hz1
  obtain ⟨R, hRe⟩ : ∃ R, w.heap.size = R := ⟨_, rfl⟩
  rw [hRe] at hR1 hbl hz1
  have hbR : b ≠ R := by omega
  have HH := Lib.hid h
  have HR1 := Lib.hid hR1
  have Hr1 := Lib.hid hr1
  have HC1 := Lib.hid hc1
  have HSL : Hid (∀ g ∈ ob st, g < w.heap.size) := Lib.hid (fun g hg => own_lt h.s hg)
  have HOL : Hid (∀ g ∈ ob op, g < w.heap.size) := Lib.hid (fun g hg => own_lt h.o hg)
  have HBL : Hid (b < w.heap.size) := Lib.hid h.rd.lt
  have h40 : ¬ p.data.toList[k]? = some 40 := by rw [h37]; decide
  have h41 : ¬ p.data.toList[k]? = some 41 := by rw [h37]; decide
  have N40 := Lib.hid fun (W : World) (hW : Rd b p k st op W) => by
    have := skip4_lit b p k st op 40 40 rfl W hp (by omega) hW
    rw [if_neg h40, decide_eq_false h40] at this; exact this
  have N41 := Lib.hid fun (W : World) (hW : Rd b p k st op W) => by
    have := skip4_lit b p k st op 41 41 rfl W hp (by omega) hW
    rw [if_neg h41, decide_eq_false h41] at this; exact this
  have O1 := Lib.hid fun W hW => frontier_any b p k st op sts opn W hp h37 (by rw [hc, hc102]) hW
  have HNIL : Hid (∀ r, itemF p.data.toList k sts opn = .ok r → ¬ (r.1.kind = 0 ∨ r.1.kind = 5)) := Lib.hid (fun r hr => by rw [hok] at hr; cases hr)
  have hkk : (k : Int) < (p.size : Int) := by omega
  have hk0 : 0 ≤ (k : Int) := by omega
  have hw1k : IntKind.i64.wrap ((k : Int) + 1) = ((k + 1 : Nat) : Int) := by rw [i64w _ (by omega)]; push_cast; rfl
  obtain ⟨_, hp37⟩ := get_of h37
  have x37 : ((p[k].toNat : Int) == 37) = true := by rw [hp37]; rfl
  clear hp37
  obtain ⟨hk1, hpc⟩ := get_of hc
  have hck : (p[k + 1].toNat : Int) = (c.toNat : Int) := by rw [hpc]
  have hkk1 : ((k + 1 : Nat) : Int) < (p.size : Int) := by omega
  have hkk2 : (k : Int) + 1 < (p.size : Int) := by omega
  have hk10 : 0 ≤ ((k + 1 : Nat) : Int) := by omega
  have hkd : decide (k + 1 < p.size) = true := decide_eq_true hk1
  clear hpc
  have y1 : ((c.toNat : Int) == 98) = false := by rw [hc102]; rfl
  have y2 : ((c.toNat : Int) == 102) = true := by rw [hc102]; rfl
  clear hc102 hok
  have hw2k : IntKind.i64.wrap ((k : Int) + 2) = (k : Int) + 2 := i64w _ (by omega)
  clear h40 h41 h37 hc
  go_enter Tryd.func44, Tryd.ntmps44
  go_upto_region 1 with fail
  (try simp only [hw1, hRe])
  have HRE := Lib.hid hRe
  clear hw1 hRe hR1 hr1 hc1 h
  go_upto_region 5 with (go_at_call 43; first | ((with_reducible refine (N40.out _ Hr1.out).mono ?_); rintro e w4 ⟨rfl, h4, hg4⟩) | ((with_reducible refine (N41.out _ h4).mono ?_); rintro e w5 ⟨rfl, h5, hg5⟩))
  have HCA5 : Hid (Ch [b] w1 w5) := Lib.hid ((Ch.of_grown hg4 (by simp)).trans (Ch.of_grown hg5 (by simp)))
  have H5 := Lib.hid h5
  have m0 := h5.c0
  have m1 := h5.c1
  have mf := h5.fz 1
  clear hg4 hg5 h4 h5
  go_quiet (fail)
  go_upto_region 6 with fail
  go_quiet (fail)
  go_upto_region 12 with fail
  go_name_world W2 hV
  have HRD2 : Hid (Rd b p (k + 2) st op W2) := Lib.hid (by rw [← hV]; exact (H5.out.drewN _).set1 (k + 2) _ (by push_cast; rfl))
  have HCA : Hid (Ch [b] w1 W2) := Lib.hid (by rw [← hV]; exact (HCA5.out.drewN _).set b 1 _ (Or.inl (by simp)))
  clear hV m0 m1 mf
  have hR2 := HR1.out.ch HCA.out (by simp; omega)
  have HR2 := Lib.hid hR2
  have HC2 : Hid (Ch [b] w W2) := Lib.hid (HC1.out.trans HCA.out)
  have hz3 : R < W2.heap.size := by have := HCA.out.size; omega
  have HS2 := Lib.hid (HH.out.ch HC2.out HRD2.out)
  have HRN : Hid (R ∉ b :: (ob st ++ ob op)) := Lib.hid (by
    have h1 := HRE.out
    intro e
    simp at e
    rcases e with e | e | e
    · omega
    · have := HSL.out R e; omega
    · have := HOL.out R e; omega)
  clear hR2
  go_wp2_with (go_at_call 58; (with_reducible refine (O1.out W2 HS2.out).mono ?_); rintro e w3 hIt; obtain ⟨k0, q, x, y, cc, code, he⟩ := it_nil hIt HNIL.out; subst he; have HIT := Lib.hid hIt; have hR := HR2.out.ch hIt.2 HRN.out; have r0 := hR.cell 0; have r1 := hR.cell 1; have r2 := hR.cell 2; have r3 := hR.cell 3; have r4 := hR.cell 4; have r5 := hR.cell 5; simp [it0] at r0 r1 r2 r3 r4 r5; have f0 := hR.fz 0; have f1 := hR.fz 1; have f2 := hR.fz 2; have f3 := hR.fz 3; have f4 := hR.fz 4; have f5 := hR.fz 5; have HR := Lib.hid hR; clear hIt hR)
  show bodyPost _ _ _ Exit.ret _ (st6 w3 R (.int .i64 k0) (.nilFunc) (.int .u8 q) (.int .u8 x) (.int .u8 y) (.int .i64 cc))
  have hI : Itb R #[.int .i64 k0, .nilFunc, .int .u8 q, .int .u8 x, .int .u8 y, .int .i64 cc] (st6 w3 R (.int .i64 k0) (.nilFunc) (.int .u8 q) (.int .u8 x) (.int .u8 y) (.int .i64 cc)) := st6_it HR.out
  have hS : Ch [R] w3 (st6 w3 R (.int .i64 k0) (.nilFunc) (.int .u8 q) (.int .u8 x) (.int .u8 y) (.int .i64 cc)) := st6_ch
  have d0 := hI.cell 0
  have d1 := hI.cell 1
  have d2 := hI.cell 2
  have d3 := hI.cell 3
  have d4 := hI.cell 4
  have d5 := hI.cell 5
  simp at d0 d1 d2 d3 d4 d5
  generalize (st6 w3 R (.int .i64 k0) (.nilFunc) (.int .u8 q) (.int .u8 x) (.int .u8 y) (.int .i64 cc)) = W9 at *
  refine bodyPost_ret (v := .tuple #[.agg #[.int .i64 k0, .nilFunc, .int .u8 q, .int .u8 x, .int .u8 y, .int .i64 cc], .int .i64 code]) ?_ rfl (HIT.out.lift HSL.out HOL.out HBL.out (Nat.le_of_eq HRE.out) hz3 HC2.out hS)
  simp [results, Tryd.results44, go_sem, d0, d1, d2, d3, d4, d5]

set_option maxHeartbeats 8000000 in
set_option maxRecDepth 100000 in
theorem item_d (b : Nat) (p : ByteArray) (k : Nat) (st op : Value) (sts opn : List Nat) (w : World) (hp : p.size ≤ 1000000) (hk : k < p.size) (h16 : sts.length ≤ 16) (ho16 : opn.length ≤ sts.length) (hop : ∀ n ∈ opn, n < sts.length) (hbd : ∀ x ∈ sts, x ≤ 2) (h : RdS b p k sts opn st op w) (h37 : p.data.toList[k]? = some 37) (c : UInt8) (hd1 : 49 ≤ c.toNat) (hd2 : c.toNat ≤ 57) (hc : p.data.toList[k + 1]? = some c) :
    Calls Tryd.prog 44 #[.pointer (some ⟨b, 0, none⟩)] w fun e w' => ItSaid b p (itemF p.data.toList k sts opn) st op w e w' := by
  have hbl := h.rd.lt
  have hR1 : Itb w.heap.size it0 (w.alloc (.cells #[.int .i64 0, .nilFunc, .int .u8 0, .int .u8 0, .int .u8 0, .int .i64 0] 88)) := itb_new w it0 _ rfl
  have hr1 : Rd b p k st op (w.alloc (.cells #[.int .i64 0, .nilFunc, .int .u8 0, .int .u8 0, .int .u8 0, .int .i64 0] 88)) := h.rd.ch ((Ch.refl [] _).alloc _) (by simp)
  have hc1 : Ch [b] w (w.alloc (.cells #[.int .i64 0, .nilFunc, .int .u8 0, .int .u8 0, .int .u8 0, .int .i64 0] 88)) := (Ch.refl [b] w).alloc _
  have hz1 : (w.alloc (.cells #[.int .i64 0, .nilFunc, .int .u8 0, .int .u8 0, .int .u8 0, .int .i64 0] 88)).heap.size = w.heap.size + 1 := by simp
  obtain ⟨w1, hw1⟩ : ∃ w1, w.alloc (.cells #[.int .i64 0, .nilFunc, .int .u8 0, .int .u8 0, .int .u8 0, .int .i64 0] 88) = w1 := ⟨_, rfl⟩
  rw [hw1] at hR1 hr1 hc1 hz1
  obtain ⟨R, hRe⟩ : ∃ R, w.heap.size = R := ⟨_, rfl⟩
  rw [hRe] at hR1 hbl hz1
  have hbR : b ≠ R := by omega
  have HH := Lib.hid h
  have HR1 := Lib.hid hR1
  have Hr1 := Lib.hid hr1
  have HC1 := Lib.hid hc1
  have HSL : Hid (∀ g ∈ ob st, g < w.heap.size) := Lib.hid (fun g hg => own_lt h.s hg)
  have HOL : Hid (∀ g ∈ ob op, g < w.heap.size) := Lib.hid (fun g hg => own_lt h.o hg)
  have HBL : Hid (b < w.heap.size) := Lib.hid h.rd.lt
  have h40 : ¬ p.data.toList[k]? = some 40 := by rw [h37]; decide
  have h41 : ¬ p.data.toList[k]? = some 41 := by rw [h37]; decide
  have N40 := Lib.hid fun (W : World) (hW : Rd b p k st op W) => by
    have := skip4_lit b p k st op 40 40 rfl W hp (by omega) hW
    rw [if_neg h40, decide_eq_false h40] at this; exact this
  have N41 := Lib.hid fun (W : World) (hW : Rd b p k st op W) => by
    have := skip4_lit b p k st op 41 41 rfl W hp (by omega) hW
    rw [if_neg h41, decide_eq_false h41] at this; exact this
  have O1 := Lib.hid fun W hW => again_any b p k st op sts opn c W h37 hc hd1 hd2 h16 hbd hW
  have HNIL : Hid (∀ r, itemF p.data.toList k sts opn = .ok r → ¬ (r.1.kind = 0 ∨ r.1.kind = 5)) := Lib.hid (fun r hr => by exact kind_d h37 hc hd1 hd2 hr)
  have hkk : (k : Int) < (p.size : Int) := by omega
  have hk0 : 0 ≤ (k : Int) := by omega
  have hw1k : IntKind.i64.wrap ((k : Int) + 1) = ((k + 1 : Nat) : Int) := by rw [i64w _ (by omega)]; push_cast; rfl
  obtain ⟨_, hp37⟩ := get_of h37
  have x37 : ((p[k].toNat : Int) == 37) = true := by rw [hp37]; rfl
  clear hp37
  obtain ⟨hk1, hpc⟩ := get_of hc
  have hck : (p[k + 1].toNat : Int) = (c.toNat : Int) := by rw [hpc]
  have hkk1 : ((k + 1 : Nat) : Int) < (p.size : Int) := by omega
  have hkk2 : (k : Int) + 1 < (p.size : Int) := by omega
  have hk10 : 0 ≤ ((k + 1 : Nat) : Int) := by omega
  have hkd : decide (k + 1 < p.size) = true := decide_eq_true hk1
  clear hpc
  have y1 : ((c.toNat : Int) == 98) = false := by rw [beq_eq_false_iff_ne]; omega
  have y2 : ((c.toNat : Int) == 102) = false := by rw [beq_eq_false_iff_ne]; omega
  have y3 : (49 : Int) ≤ (c.toNat : Int) := by omega
  have y4 : (c.toNat : Int) ≤ 57 := by omega
  have y3n : decide (49 ≤ c.toNat) = true := decide_eq_true hd1
  have y5 : IntKind.u8.wrap ((c.toNat : Int) - 49) = ((c.toNat - 49 : Nat) : Int) := by simp only [IntKind.wrap]; simp [IntKind.signed, IntKind.bits]; omega
  have y6 : (c.toNat : Int) - 49 = ((c.toNat - 49 : Nat) : Int) := by omega
  have y7 : IntKind.i64.wrap ((c.toNat - 49 : Nat) : Int) = ((c.toNat - 49 : Nat) : Int) := i64w _ (by omega)
  have hw2k : IntKind.i64.wrap ((k : Int) + 2) = (k : Int) + 2 := i64w _ (by omega)
  clear h40 h41 h37 hc
  go_enter Tryd.func44, Tryd.ntmps44
  go_upto_region 1 with fail
  (try simp only [hw1, hRe])
  have HRE := Lib.hid hRe
  clear hw1 hRe hR1 hr1 hc1 h
  go_upto_region 5 with (go_at_call 43; first | ((with_reducible refine (N40.out _ Hr1.out).mono ?_); rintro e w4 ⟨rfl, h4, hg4⟩) | ((with_reducible refine (N41.out _ h4).mono ?_); rintro e w5 ⟨rfl, h5, hg5⟩))
  have HCA5 : Hid (Ch [b] w1 w5) := Lib.hid ((Ch.of_grown hg4 (by simp)).trans (Ch.of_grown hg5 (by simp)))
  have H5 := Lib.hid h5
  have m0 := h5.c0
  have m1 := h5.c1
  have mf := h5.fz 1
  clear hg4 hg5 h4 h5
  go_quiet (fail)
  go_upto_region 6 with fail
  go_quiet (fail)
  go_upto_region 15 with fail
  go_name_world W2 hV
  have HRD2 : Hid (Rd b p (k + 2) st op W2) := Lib.hid (by rw [← hV]; exact (H5.out.drewN _).set1 (k + 2) _ (by push_cast; rfl))
  have HCA : Hid (Ch [b] w1 W2) := Lib.hid (by rw [← hV]; exact (HCA5.out.drewN _).set b 1 _ (Or.inl (by simp)))
  clear hV m0 m1 mf
  have hR2 := HR1.out.ch HCA.out (by simp; omega)
  have HR2 := Lib.hid hR2
  have HC2 : Hid (Ch [b] w W2) := Lib.hid (HC1.out.trans HCA.out)
  have hz3 : R < W2.heap.size := by have := HCA.out.size; omega
  have HS2 := Lib.hid (HH.out.ch HC2.out HRD2.out)
  have HRN : Hid (R ∉ b :: (ob st ++ ob op)) := Lib.hid (by
    have h1 := HRE.out
    intro e
    simp at e
    rcases e with e | e | e
    · omega
    · have := HSL.out R e; omega
    · have := HOL.out R e; omega)
  clear hR2
  go_wp2_with (go_at_call 59; (with_reducible refine (O1.out W2 HS2.out).mono ?_); rintro e w3 hIt; obtain ⟨k0, q, x, y, cc, code, he⟩ := it_nil hIt HNIL.out; subst he; have HIT := Lib.hid hIt; have hR := HR2.out.ch hIt.2 HRN.out; have r0 := hR.cell 0; have r1 := hR.cell 1; have r2 := hR.cell 2; have r3 := hR.cell 3; have r4 := hR.cell 4; have r5 := hR.cell 5; simp [it0] at r0 r1 r2 r3 r4 r5; have f0 := hR.fz 0; have f1 := hR.fz 1; have f2 := hR.fz 2; have f3 := hR.fz 3; have f4 := hR.fz 4; have f5 := hR.fz 5; have HR := Lib.hid hR; clear hIt hR)
  show bodyPost _ _ _ Exit.ret _ (st6 w3 R (.int .i64 k0) (.nilFunc) (.int .u8 q) (.int .u8 x) (.int .u8 y) (.int .i64 cc))
  have hI : Itb R #[.int .i64 k0, .nilFunc, .int .u8 q, .int .u8 x, .int .u8 y, .int .i64 cc] (st6 w3 R (.int .i64 k0) (.nilFunc) (.int .u8 q) (.int .u8 x) (.int .u8 y) (.int .i64 cc)) := st6_it HR.out
  have hS : Ch [R] w3 (st6 w3 R (.int .i64 k0) (.nilFunc) (.int .u8 q) (.int .u8 x) (.int .u8 y) (.int .i64 cc)) := st6_ch
  have d0 := hI.cell 0
  have d1 := hI.cell 1
  have d2 := hI.cell 2
  have d3 := hI.cell 3
  have d4 := hI.cell 4
  have d5 := hI.cell 5
  simp at d0 d1 d2 d3 d4 d5
  generalize (st6 w3 R (.int .i64 k0) (.nilFunc) (.int .u8 q) (.int .u8 x) (.int .u8 y) (.int .i64 cc)) = W9 at *
  refine bodyPost_ret (v := .tuple #[.agg #[.int .i64 k0, .nilFunc, .int .u8 q, .int .u8 x, .int .u8 y, .int .i64 cc], .int .i64 code]) ?_ rfl (HIT.out.lift HSL.out HOL.out HBL.out (Nat.le_of_eq HRE.out) hz3 HC2.out hS)
  simp [results, Tryd.results44, go_sem, d0, d1, d2, d3, d4, d5]
end Go.Proofs.YtkbcaklleiapdaaDoor
