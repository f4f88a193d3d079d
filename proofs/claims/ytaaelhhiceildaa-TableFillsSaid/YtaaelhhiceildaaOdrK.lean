/- Layer 12: the functions of ordered maps (9). -/
import Derived.Test.YtaaelhhiceildaaOdrJa
import Derived.Test.YtaaelhhiceildaaOdrJb
import Derived.Deep.DeepCutAuto
import Derived.Deep.CutBlock
import Derived.BigQuiet
import Derived.RegionTactic
import Derived.Deep.RegionLaw
import Derived.Lib.ItoaWalk
namespace Go.Proofs.Ytaaelhhiceildaa
open Go.RowKit Go.Joins M1
set_option linter.unusedVariables false
theorem insert_any (B b : Nat) (v m : Value) (L : List Sl) (k x : V5) (w : World) (h : Om B b v m L w) (hk : ∀ i, lastI L k = some i → ∃ hi : i < L.length, L[i].bh ≠ 0) (hL : L.length ≤ 1000000) (hBw : B ≤ w.heap.size) :
    Calls Try.prog 60 #[.pointer (some ⟨b, 0, none⟩), .agg #[.int .i64 k.k, .int .i64 k.p, .int .i64 k.q, .string k.s, .int .i64 k.r], .agg #[.int .i64 x.k, .int .i64 x.p, .int .i64 x.q, .string x.s, .int .i64 x.r]] w fun e w' => InSaid B b v m (insL L k x) w e w' := by
  unfold insL
  by_cases hd : L.length - cnt L > cnt L + 8
  · rw [if_pos hd]
    obtain ⟨l, hl1, _, ⟨_, rfl⟩ | ⟨g', rfl, _, _⟩⟩ := h.mp
    · exfalso
      have h0 : 0 < L.length := by omega
      have := hl1 L[0].key
      cases hj : lastI L L[0].key with
      | none => exact absurd rfl (lastI_none hj _ (List.getElem_mem h0))
      | some j => rw [hj] at this; cases this
    · exact insert_a B b g' v L k x w h hk hL hBw hd
  · rw [if_neg hd]
    obtain ⟨l, hl1, _, ⟨rfl, _⟩ | ⟨g', rfl, _, _⟩⟩ := h.mp
    · exact insert_b B b v L k x w h hk hL hBw hd
    · exact insert_c B b g' v L k x w h hk hL hBw hd
def SetSaid (B b : Nat) (v m : Value) (L : List Sl) (k x : V5) (w : World) (e : Ending) (w' : World) : Prop :=
  e = .returned (.int .i64 (errR k x)) ∧ (∃ v' m' L', Om B b v' m' L' w' ∧ rabs L' = setR (rabs L) k x ∧ L'.length ≤ L.length + 1 ∧ ∀ g ∈ omS b v' m', g ∈ omS b v m ∨ w.heap.size ≤ g) ∧ Ch (omS b v m) w w'
theorem set_same_said {B b : Nat} {v m : Value} {L : List Sl} {k x : V5} {w w' : World} {c : Int} (h : Om B b v m L w) (hc : Ch [] w w') (h1 : errR k x = c) (h2 : setR (rabs L) k x = rabs L) : SetSaid B b v m L k x w (.returned (.int .i64 c)) w' :=
  ⟨by rw [h1], ⟨v, m, L, h.keep hc, h2.symm, by omega, fun g hg => .inl hg⟩, hc.mono (by simp)⟩
theorem set_nil (k x : V5) (w : World) :
    Calls Try.prog 48 #[.pointer none, .agg #[.int .i64 k.k, .int .i64 k.p, .int .i64 k.q, .string k.s, .int .i64 k.r], .agg #[.int .i64 x.k, .int .i64 x.p, .int .i64 x.q, .string x.s, .int .i64 x.r]] w fun e w' => e = .returned (.int .i64 1) ∧ Below w.heap.size w w' := by
  go_enter Try.func48, Try.ntmps48
  go_wp2
  go_ret
  refine ⟨rfl, ?_⟩
  repeat (first | exact Below.refl _ _ | refine below_drewN ?_ _ | refine Below.drew ?_ | refine Below.setCell ?_ (by first | omega | (simp; done) | (simp; omega)) _ | refine Below.alloc ?_ (by first | omega | (simp; done) | (simp; omega)) _ | refine vstep (by assumption) (by first | omega | (simp; done) | (simp; omega)) ?_)
theorem insL_len (L : List Sl) (k x : V5) : (insL L k x).length ≤ L.length + 1 := by
  unfold insL
  rw [List.length_append]
  split
  · have : (kept L).length ≤ L.length := List.length_filter_le _ _
    simp; omega
  · simp
theorem setR_bad {R : List Rs} {k x : V5} (h : errR k x ≠ 0) : setR R k x = R := by unfold setR; rw [if_pos h]
theorem errR_ok {k x : V5} (h1 : k.k ≠ 0) (h2 : okV k = true) (h3 : okV x = true) : errR k x = 0 := by
  unfold errR; rw [if_neg (by simp [h1, h2]), if_neg (by simp [h3])]
theorem setR_ins {L : List Sl} {k x : V5} (hI : Inv L) (he : errR k x = 0) (hx : x.k ≠ 0) (hk : ∀ i, lastI L k = some i → ∃ hi : i < L.length, L[i].bh ≠ 0) : setR (rabs L) k x = rabs (insL L k x) := by
  unfold setR
  rw [if_neg (by simp [he]), fnd_abs hI, insL_R]
  cases hl : lastI L k with
  | none => simp only; rw [if_neg hx]
  | some i =>
    obtain ⟨hi, hb⟩ := hk i hl
    simp only
    rw [if_neg hx, List.getElem?_eq_getElem (by rw [rabs_len]; exact hi), rabs_at L i hi, if_neg (by simp [rab_gone hb])]
theorem setR_val {L : List Sl} {k x : V5} (hI : Inv L) (he : errR k x = 0) (hx : x.k ≠ 0) {i : Nat} (hl : lastI L k = some i) (hi : i < L.length) (hb : L[i].bh = 0) : setR (rabs L) k x = rabs (L.set i ⟨L[i].key, x, 0⟩) := by
  obtain ⟨_, hk, _⟩ := lastI_some hl
  unfold setR
  rw [if_neg (by simp [he]), fnd_abs hI, hl]
  simp only
  rw [if_neg hx, List.getElem?_eq_getElem (by rw [rabs_len]; exact hi), rabs_at L i hi, if_pos (by simp [rab_live hb])]
  unfold rabs
  rw [List.map_set, hk]
  rfl
theorem setR_del {L : List Sl} {k x : V5} (hI : Inv L) (he : errR k x = 0) (hx : x.k = 0) {i : Nat} (hl : lastI L k = some i) : setR (rabs L) k x = rabs (L.set i ⟨k, v5z, i + 1⟩) := by
  unfold setR
  rw [if_neg (by simp [he]), fnd_abs hI, hl]
  simp only
  rw [if_pos hx]
  unfold rabs
  rw [List.map_set]
  rfl
theorem setR_none {L : List Sl} {k x : V5} (hI : Inv L) (he : errR k x = 0) (hx : x.k = 0) (hk : ∀ i, lastI L k = some i → ∃ hi : i < L.length, L[i].bh ≠ 0) : setR (rabs L) k x = rabs L := by
  cases hl : lastI L k with
  | none =>
    unfold setR
    rw [if_neg (by simp [he]), fnd_abs hI, hl]
    simp only
    rw [if_pos hx]
  | some i =>
    obtain ⟨hi, hb⟩ := hk i hl
    obtain ⟨_, hkk, _⟩ := lastI_some hl
    rw [setR_del hI he hx hl]
    unfold rabs
    rw [List.map_set]
    apply List.ext_getElem
    · simp
    · intro j h1 h2
      rw [List.getElem_set]
      split
      · rename_i e; subst e
        rw [List.getElem_map]
        have hg := hI.gone _ (List.getElem_mem hi) hb
        unfold rab liveB
        simp [hkk, hg, hb]
      · rfl
set_option maxHeartbeats 4000000 in
theorem set_k0 (B b : Nat) (v m : Value) (L : List Sl) (k x : V5) (w : World) (h : Om B b v m L w) (hL : L.length ≤ 1000000) (hBw : B ≤ w.heap.size) (hk : k.k = 0) :
    Calls Try.prog 48 #[.pointer (some ⟨b, 0, none⟩), .agg #[.int .i64 k.k, .int .i64 k.p, .int .i64 k.q, .string k.s, .int .i64 k.r], .agg #[.int .i64 x.k, .int .i64 x.p, .int .i64 x.q, .string x.s, .int .i64 x.r]] w fun e w' => SetSaid B b v m L k x w e w' := by
  have HC0 : Hid (Ch [] w ((w.alloc (.cells #[.int .i64 k.k, .int .i64 k.p, .int .i64 k.q, .string k.s, .int .i64 k.r] 26)).alloc (.cells #[.int .i64 x.k, .int .i64 x.p, .int .i64 x.q, .string x.s, .int .i64 x.r] 26))) := Lib.hid (((Ch.refl [] w).alloc _).alloc _)
  have BKK : Hid (∀ W, Ch [] ((w.alloc (.cells #[.int .i64 k.k, .int .i64 k.p, .int .i64 k.q, .string k.s, .int .i64 k.r] 26)).alloc (.cells #[.int .i64 x.k, .int .i64 x.p, .int .i64 x.q, .string x.s, .int .i64 x.r] 26)) W → Blk 26 w.heap.size #[.int .i64 k.k, .int .i64 k.p, .int .i64 k.q, .string k.s, .int .i64 k.r] W) := Lib.hid fun W hc => ((Blk.new w 26 _ _ rfl).ch (((Ch.refl [] _).alloc _)) (by simp)).ch hc (by simp)
  have BKX : Hid (∀ W, Ch [] ((w.alloc (.cells #[.int .i64 k.k, .int .i64 k.p, .int .i64 k.q, .string k.s, .int .i64 k.r] 26)).alloc (.cells #[.int .i64 x.k, .int .i64 x.p, .int .i64 x.q, .string x.s, .int .i64 x.r] 26)) W → Blk 26 (w.heap.size + 1) #[.int .i64 x.k, .int .i64 x.p, .int .i64 x.q, .string x.s, .int .i64 x.r] W) := Lib.hid fun W hc => (Blk.new (w.alloc (.cells #[.int .i64 k.k, .int .i64 k.p, .int .i64 k.q, .string k.s, .int .i64 k.r] 26)) 26 _ _ (by simp)).ch hc (by simp)
  have HX : Hid (∀ w', Ch [] w w' → SetSaid B b v m L k x w (.returned (.int .i64 13)) w') := Lib.hid fun w' hc => set_same_said h hc (by unfold errR; rw [if_pos (.inl hk)]) (setR_bad (by unfold errR; rw [if_pos (.inl hk)]; decide))
  have ek : (k.k == 0) = true := by rw [beq_iff_eq]; exact hk
  clear h hL hBw
  go_enter Try.func48, Try.ntmps48
  go_wp2
  go_ret
  exact HX.out _ (((Ch.refl [] w).alloc _).alloc _)
set_option maxHeartbeats 4000000 in
theorem set_k1 (B b : Nat) (v m : Value) (L : List Sl) (k x : V5) (w : World) (h : Om B b v m L w) (hL : L.length ≤ 1000000) (hBw : B ≤ w.heap.size) (hk : k.k ≠ 0) (hv : okV k = false) :
    Calls Try.prog 48 #[.pointer (some ⟨b, 0, none⟩), .agg #[.int .i64 k.k, .int .i64 k.p, .int .i64 k.q, .string k.s, .int .i64 k.r], .agg #[.int .i64 x.k, .int .i64 x.p, .int .i64 x.q, .string x.s, .int .i64 x.r]] w fun e w' => SetSaid B b v m L k x w e w' := by
  have HC0 : Hid (Ch [] w ((w.alloc (.cells #[.int .i64 k.k, .int .i64 k.p, .int .i64 k.q, .string k.s, .int .i64 k.r] 26)).alloc (.cells #[.int .i64 x.k, .int .i64 x.p, .int .i64 x.q, .string x.s, .int .i64 x.r] 26))) := Lib.hid (((Ch.refl [] w).alloc _).alloc _)
  have BKK : Hid (∀ W, Ch [] ((w.alloc (.cells #[.int .i64 k.k, .int .i64 k.p, .int .i64 k.q, .string k.s, .int .i64 k.r] 26)).alloc (.cells #[.int .i64 x.k, .int .i64 x.p, .int .i64 x.q, .string x.s, .int .i64 x.r] 26)) W → Blk 26 w.heap.size #[.int .i64 k.k, .int .i64 k.p, .int .i64 k.q, .string k.s, .int .i64 k.r] W) := Lib.hid fun W hc => ((Blk.new w 26 _ _ rfl).ch (((Ch.refl [] _).alloc _)) (by simp)).ch hc (by simp)
  have BKX : Hid (∀ W, Ch [] ((w.alloc (.cells #[.int .i64 k.k, .int .i64 k.p, .int .i64 k.q, .string k.s, .int .i64 k.r] 26)).alloc (.cells #[.int .i64 x.k, .int .i64 x.p, .int .i64 x.q, .string x.s, .int .i64 x.r] 26)) W → Blk 26 (w.heap.size + 1) #[.int .i64 x.k, .int .i64 x.p, .int .i64 x.q, .string x.s, .int .i64 x.r] W) := Lib.hid fun W hc => (Blk.new (w.alloc (.cells #[.int .i64 k.k, .int .i64 k.p, .int .i64 k.q, .string k.s, .int .i64 k.r] 26)) 26 _ _ (by simp)).ch hc (by simp)
  have Q1 : Hid (∀ w, Calls Try.prog 26 #[.agg #[.int .i64 k.k, .int .i64 k.p, .int .i64 k.q, .string k.s, .int .i64 k.r]] w fun e w' => e = .returned (.bool false) ∧ Below w.heap.size w w') := Lib.hid fun w => by rw [← hv]; exact valid5 k.k k.p k.q k.s k.r w
  have HX : Hid (∀ w', Ch [] w w' → SetSaid B b v m L k x w (.returned (.int .i64 13)) w') := Lib.hid fun w' hc => set_same_said h hc (by unfold errR; rw [if_pos (.inr hv)]) (setR_bad (by unfold errR; rw [if_pos (.inr hv)]; decide))
  have e0 : (k.k == 0) = false := by rw [beq_eq_false_iff_ne]; exact hk
  clear h hL hBw hk hv
  go_enter Try.func48, Try.ntmps48
  go_wp2_with (go_at_call 26; (with_reducible refine (Q1.out _).mono ?_); rintro e w1 ⟨rfl, hb1⟩; have HD1 : Hid (Ch [] ((w.alloc (.cells #[.int .i64 k.k, .int .i64 k.p, .int .i64 k.q, .string k.s, .int .i64 k.r] 26)).alloc (.cells #[.int .i64 x.k, .int .i64 x.p, .int .i64 x.q, .string x.s, .int .i64 x.r] 26)) w1) := Lib.hid (((Ch.refl [] _)).trans (Ch.of_below hb1)); clear hb1; have q1_0 : w1.cell? ⟨w.heap.size, 0, none⟩ = some (.int .i64 k.k) := (BKK.out _ HD1.out).cell 0; have q1_1 : w1.cell? ⟨w.heap.size, 1, none⟩ = some (.int .i64 k.p) := (BKK.out _ HD1.out).cell 1; have q1_2 : w1.cell? ⟨w.heap.size, 2, none⟩ = some (.int .i64 k.q) := (BKK.out _ HD1.out).cell 2; have q1_3 : w1.cell? ⟨w.heap.size, 3, none⟩ = some (.string k.s) := (BKK.out _ HD1.out).cell 3; have q1_4 : w1.cell? ⟨w.heap.size, 4, none⟩ = some (.int .i64 k.r) := (BKK.out _ HD1.out).cell 4; have t1_0 : w1.cell? ⟨w.heap.size + 1, 0, none⟩ = some (.int .i64 x.k) := (BKX.out _ HD1.out).cell 0; have t1_1 : w1.cell? ⟨w.heap.size + 1, 1, none⟩ = some (.int .i64 x.p) := (BKX.out _ HD1.out).cell 1; have t1_2 : w1.cell? ⟨w.heap.size + 1, 2, none⟩ = some (.int .i64 x.q) := (BKX.out _ HD1.out).cell 2; have t1_3 : w1.cell? ⟨w.heap.size + 1, 3, none⟩ = some (.string x.s) := (BKX.out _ HD1.out).cell 3; have t1_4 : w1.cell? ⟨w.heap.size + 1, 4, none⟩ = some (.int .i64 x.r) := (BKX.out _ HD1.out).cell 4)
  go_ret
  exact HX.out _ (HC0.out.trans HD1.out)
set_option maxHeartbeats 4000000 in
theorem set_x1 (B b : Nat) (v m : Value) (L : List Sl) (k x : V5) (w : World) (h : Om B b v m L w) (hL : L.length ≤ 1000000) (hBw : B ≤ w.heap.size) (hk : k.k ≠ 0) (hv : okV k = true) (hx : okV x = false) :
    Calls Try.prog 48 #[.pointer (some ⟨b, 0, none⟩), .agg #[.int .i64 k.k, .int .i64 k.p, .int .i64 k.q, .string k.s, .int .i64 k.r], .agg #[.int .i64 x.k, .int .i64 x.p, .int .i64 x.q, .string x.s, .int .i64 x.r]] w fun e w' => SetSaid B b v m L k x w e w' := by
  have HC0 : Hid (Ch [] w ((w.alloc (.cells #[.int .i64 k.k, .int .i64 k.p, .int .i64 k.q, .string k.s, .int .i64 k.r] 26)).alloc (.cells #[.int .i64 x.k, .int .i64 x.p, .int .i64 x.q, .string x.s, .int .i64 x.r] 26))) := Lib.hid (((Ch.refl [] w).alloc _).alloc _)
  have BKK : Hid (∀ W, Ch [] ((w.alloc (.cells #[.int .i64 k.k, .int .i64 k.p, .int .i64 k.q, .string k.s, .int .i64 k.r] 26)).alloc (.cells #[.int .i64 x.k, .int .i64 x.p, .int .i64 x.q, .string x.s, .int .i64 x.r] 26)) W → Blk 26 w.heap.size #[.int .i64 k.k, .int .i64 k.p, .int .i64 k.q, .string k.s, .int .i64 k.r] W) := Lib.hid fun W hc => ((Blk.new w 26 _ _ rfl).ch (((Ch.refl [] _).alloc _)) (by simp)).ch hc (by simp)
  have BKX : Hid (∀ W, Ch [] ((w.alloc (.cells #[.int .i64 k.k, .int .i64 k.p, .int .i64 k.q, .string k.s, .int .i64 k.r] 26)).alloc (.cells #[.int .i64 x.k, .int .i64 x.p, .int .i64 x.q, .string x.s, .int .i64 x.r] 26)) W → Blk 26 (w.heap.size + 1) #[.int .i64 x.k, .int .i64 x.p, .int .i64 x.q, .string x.s, .int .i64 x.r] W) := Lib.hid fun W hc => (Blk.new (w.alloc (.cells #[.int .i64 k.k, .int .i64 k.p, .int .i64 k.q, .string k.s, .int .i64 k.r] 26)) 26 _ _ (by simp)).ch hc (by simp)
  have Q1 : Hid (∀ w, Calls Try.prog 26 #[.agg #[.int .i64 k.k, .int .i64 k.p, .int .i64 k.q, .string k.s, .int .i64 k.r]] w fun e w' => e = .returned (.bool true) ∧ Below w.heap.size w w') := Lib.hid fun w => by rw [← hv]; exact valid5 k.k k.p k.q k.s k.r w
  have Q2 : Hid (∀ w, Calls Try.prog 26 #[.agg #[.int .i64 x.k, .int .i64 x.p, .int .i64 x.q, .string x.s, .int .i64 x.r]] w fun e w' => e = .returned (.bool false) ∧ Below w.heap.size w w') := Lib.hid fun w => by rw [← hx]; exact valid5 x.k x.p x.q x.s x.r w
  have HX : Hid (∀ w', Ch [] w w' → SetSaid B b v m L k x w (.returned (.int .i64 2)) w') := Lib.hid fun w' hc => by
    have he : errR k x = 2 := by unfold errR; rw [if_neg (by simp [hk, hv]), if_pos hx]
    exact set_same_said h hc he (setR_bad (by rw [he]; decide))
  have e0 : (k.k == 0) = false := by rw [beq_eq_false_iff_ne]; exact hk
  clear h hL hBw hk hv hx
  go_enter Try.func48, Try.ntmps48
  go_wp2_with (first | (go_at_call 26; (with_reducible refine (Q1.out _).mono ?_); rintro e w1 ⟨rfl, hb1⟩; have HD1 : Hid (Ch [] ((w.alloc (.cells #[.int .i64 k.k, .int .i64 k.p, .int .i64 k.q, .string k.s, .int .i64 k.r] 26)).alloc (.cells #[.int .i64 x.k, .int .i64 x.p, .int .i64 x.q, .string x.s, .int .i64 x.r] 26)) w1) := Lib.hid (((Ch.refl [] _)).trans (Ch.of_below hb1)); clear hb1; have q1_0 : w1.cell? ⟨w.heap.size, 0, none⟩ = some (.int .i64 k.k) := (BKK.out _ HD1.out).cell 0; have q1_1 : w1.cell? ⟨w.heap.size, 1, none⟩ = some (.int .i64 k.p) := (BKK.out _ HD1.out).cell 1; have q1_2 : w1.cell? ⟨w.heap.size, 2, none⟩ = some (.int .i64 k.q) := (BKK.out _ HD1.out).cell 2; have q1_3 : w1.cell? ⟨w.heap.size, 3, none⟩ = some (.string k.s) := (BKK.out _ HD1.out).cell 3; have q1_4 : w1.cell? ⟨w.heap.size, 4, none⟩ = some (.int .i64 k.r) := (BKK.out _ HD1.out).cell 4; have t1_0 : w1.cell? ⟨w.heap.size + 1, 0, none⟩ = some (.int .i64 x.k) := (BKX.out _ HD1.out).cell 0; have t1_1 : w1.cell? ⟨w.heap.size + 1, 1, none⟩ = some (.int .i64 x.p) := (BKX.out _ HD1.out).cell 1; have t1_2 : w1.cell? ⟨w.heap.size + 1, 2, none⟩ = some (.int .i64 x.q) := (BKX.out _ HD1.out).cell 2; have t1_3 : w1.cell? ⟨w.heap.size + 1, 3, none⟩ = some (.string x.s) := (BKX.out _ HD1.out).cell 3; have t1_4 : w1.cell? ⟨w.heap.size + 1, 4, none⟩ = some (.int .i64 x.r) := (BKX.out _ HD1.out).cell 4) | (go_at_call 26; (with_reducible refine (Q2.out _).mono ?_); rintro e w2 ⟨rfl, hb2⟩; have HD2 : Hid (Ch [] ((w.alloc (.cells #[.int .i64 k.k, .int .i64 k.p, .int .i64 k.q, .string k.s, .int .i64 k.r] 26)).alloc (.cells #[.int .i64 x.k, .int .i64 x.p, .int .i64 x.q, .string x.s, .int .i64 x.r] 26)) w2) := Lib.hid ((HD1.out).trans (Ch.of_below hb2)); clear hb2; have q2_0 : w2.cell? ⟨w.heap.size, 0, none⟩ = some (.int .i64 k.k) := (BKK.out _ HD2.out).cell 0; have q2_1 : w2.cell? ⟨w.heap.size, 1, none⟩ = some (.int .i64 k.p) := (BKK.out _ HD2.out).cell 1; have q2_2 : w2.cell? ⟨w.heap.size, 2, none⟩ = some (.int .i64 k.q) := (BKK.out _ HD2.out).cell 2; have q2_3 : w2.cell? ⟨w.heap.size, 3, none⟩ = some (.string k.s) := (BKK.out _ HD2.out).cell 3; have q2_4 : w2.cell? ⟨w.heap.size, 4, none⟩ = some (.int .i64 k.r) := (BKK.out _ HD2.out).cell 4; have t2_0 : w2.cell? ⟨w.heap.size + 1, 0, none⟩ = some (.int .i64 x.k) := (BKX.out _ HD2.out).cell 0; have t2_1 : w2.cell? ⟨w.heap.size + 1, 1, none⟩ = some (.int .i64 x.p) := (BKX.out _ HD2.out).cell 1; have t2_2 : w2.cell? ⟨w.heap.size + 1, 2, none⟩ = some (.int .i64 x.q) := (BKX.out _ HD2.out).cell 2; have t2_3 : w2.cell? ⟨w.heap.size + 1, 3, none⟩ = some (.string x.s) := (BKX.out _ HD2.out).cell 3; have t2_4 : w2.cell? ⟨w.heap.size + 1, 4, none⟩ = some (.int .i64 x.r) := (BKX.out _ HD2.out).cell 4))
  go_ret
  exact HX.out _ (HC0.out.trans HD2.out)
set_option maxHeartbeats 4000000 in
theorem set_n0 (B b : Nat) (v m : Value) (L : List Sl) (k x : V5) (w : World) (h : Om B b v m L w) (hL : L.length ≤ 1000000) (hBw : B ≤ w.heap.size) (hk : k.k ≠ 0) (hv : okV k = true) (hx : okV x = true) (hx0 : x.k = 0) (a : Int) (hen : ∀ e, EnSaid L k e → e = .returned (.tuple #[.int .i64 a, .bool false])) (hnk : ∀ i, lastI L k = some i → ∃ hi : i < L.length, L[i].bh ≠ 0) :
    Calls Try.prog 48 #[.pointer (some ⟨b, 0, none⟩), .agg #[.int .i64 k.k, .int .i64 k.p, .int .i64 k.q, .string k.s, .int .i64 k.r], .agg #[.int .i64 x.k, .int .i64 x.p, .int .i64 x.q, .string x.s, .int .i64 x.r]] w fun e w' => SetSaid B b v m L k x w e w' := by
  have HC0 : Hid (Ch [] w ((w.alloc (.cells #[.int .i64 k.k, .int .i64 k.p, .int .i64 k.q, .string k.s, .int .i64 k.r] 26)).alloc (.cells #[.int .i64 x.k, .int .i64 x.p, .int .i64 x.q, .string x.s, .int .i64 x.r] 26))) := Lib.hid (((Ch.refl [] w).alloc _).alloc _)
  have BKK : Hid (∀ W, Ch [] ((w.alloc (.cells #[.int .i64 k.k, .int .i64 k.p, .int .i64 k.q, .string k.s, .int .i64 k.r] 26)).alloc (.cells #[.int .i64 x.k, .int .i64 x.p, .int .i64 x.q, .string x.s, .int .i64 x.r] 26)) W → Blk 26 w.heap.size #[.int .i64 k.k, .int .i64 k.p, .int .i64 k.q, .string k.s, .int .i64 k.r] W) := Lib.hid fun W hc => ((Blk.new w 26 _ _ rfl).ch (((Ch.refl [] _).alloc _)) (by simp)).ch hc (by simp)
  have BKX : Hid (∀ W, Ch [] ((w.alloc (.cells #[.int .i64 k.k, .int .i64 k.p, .int .i64 k.q, .string k.s, .int .i64 k.r] 26)).alloc (.cells #[.int .i64 x.k, .int .i64 x.p, .int .i64 x.q, .string x.s, .int .i64 x.r] 26)) W → Blk 26 (w.heap.size + 1) #[.int .i64 x.k, .int .i64 x.p, .int .i64 x.q, .string x.s, .int .i64 x.r] W) := Lib.hid fun W hc => (Blk.new (w.alloc (.cells #[.int .i64 k.k, .int .i64 k.p, .int .i64 k.q, .string k.s, .int .i64 k.r] 26)) 26 _ _ (by simp)).ch hc (by simp)
  have Q1 : Hid (∀ w, Calls Try.prog 26 #[.agg #[.int .i64 k.k, .int .i64 k.p, .int .i64 k.q, .string k.s, .int .i64 k.r]] w fun e w' => e = .returned (.bool true) ∧ Below w.heap.size w w') := Lib.hid fun w => by rw [← hv]; exact valid5 k.k k.p k.q k.s k.r w
  have Q2 : Hid (∀ w, Calls Try.prog 26 #[.agg #[.int .i64 x.k, .int .i64 x.p, .int .i64 x.q, .string x.s, .int .i64 x.r]] w fun e w' => e = .returned (.bool true) ∧ Below w.heap.size w w') := Lib.hid fun w => by rw [← hx]; exact valid5 x.k x.p x.q x.s x.r w
  have e0 : (k.k == 0) = false := by rw [beq_eq_false_iff_ne]; exact hk
  have hz := errR_ok hk hv hx
  have QE : Hid (∀ W, Ch [] w W → Calls Try.prog 52 #[.pointer (some ⟨b, 0, none⟩), .agg #[.int .i64 k.k, .int .i64 k.p, .int .i64 k.q, .string k.s, .int .i64 k.r]] W fun e w' => e = .returned (.tuple #[.int .i64 a, .bool false]) ∧ Below W.heap.size W w') := Lib.hid fun W hc => (entry_any B b v m L k W (h.keep hc) hL).mono fun e w' ⟨h1, h2⟩ => ⟨hen _ h1, h2⟩
  have HX : Hid (∀ w', Ch [] w w' → SetSaid B b v m L k x w (.returned (.int .i64 0)) w') := Lib.hid fun w' hc => set_same_said h hc hz (setR_none h.inv hz hx0 hnk)
  have e2 : (x.k != 0) = false := by rw [bne_eq_false_iff_eq]; exact hx0
  clear h hL hBw hk hv hx hx0 hen hnk hz
  go_enter Try.func48, Try.ntmps48
  go_wp2_with (first | (go_at_call 26; (with_reducible refine (Q1.out _).mono ?_); rintro e w1 ⟨rfl, hb1⟩; have HD1 : Hid (Ch [] ((w.alloc (.cells #[.int .i64 k.k, .int .i64 k.p, .int .i64 k.q, .string k.s, .int .i64 k.r] 26)).alloc (.cells #[.int .i64 x.k, .int .i64 x.p, .int .i64 x.q, .string x.s, .int .i64 x.r] 26)) w1) := Lib.hid (((Ch.refl [] _)).trans (Ch.of_below hb1)); clear hb1; have q1_0 : w1.cell? ⟨w.heap.size, 0, none⟩ = some (.int .i64 k.k) := (BKK.out _ HD1.out).cell 0; have q1_1 : w1.cell? ⟨w.heap.size, 1, none⟩ = some (.int .i64 k.p) := (BKK.out _ HD1.out).cell 1; have q1_2 : w1.cell? ⟨w.heap.size, 2, none⟩ = some (.int .i64 k.q) := (BKK.out _ HD1.out).cell 2; have q1_3 : w1.cell? ⟨w.heap.size, 3, none⟩ = some (.string k.s) := (BKK.out _ HD1.out).cell 3; have q1_4 : w1.cell? ⟨w.heap.size, 4, none⟩ = some (.int .i64 k.r) := (BKK.out _ HD1.out).cell 4; have t1_0 : w1.cell? ⟨w.heap.size + 1, 0, none⟩ = some (.int .i64 x.k) := (BKX.out _ HD1.out).cell 0; have t1_1 : w1.cell? ⟨w.heap.size + 1, 1, none⟩ = some (.int .i64 x.p) := (BKX.out _ HD1.out).cell 1; have t1_2 : w1.cell? ⟨w.heap.size + 1, 2, none⟩ = some (.int .i64 x.q) := (BKX.out _ HD1.out).cell 2; have t1_3 : w1.cell? ⟨w.heap.size + 1, 3, none⟩ = some (.string x.s) := (BKX.out _ HD1.out).cell 3; have t1_4 : w1.cell? ⟨w.heap.size + 1, 4, none⟩ = some (.int .i64 x.r) := (BKX.out _ HD1.out).cell 4) | (go_at_call 26; (with_reducible refine (Q2.out _).mono ?_); rintro e w2 ⟨rfl, hb2⟩; have HD2 : Hid (Ch [] ((w.alloc (.cells #[.int .i64 k.k, .int .i64 k.p, .int .i64 k.q, .string k.s, .int .i64 k.r] 26)).alloc (.cells #[.int .i64 x.k, .int .i64 x.p, .int .i64 x.q, .string x.s, .int .i64 x.r] 26)) w2) := Lib.hid ((HD1.out).trans (Ch.of_below hb2)); clear hb2; have q2_0 : w2.cell? ⟨w.heap.size, 0, none⟩ = some (.int .i64 k.k) := (BKK.out _ HD2.out).cell 0; have q2_1 : w2.cell? ⟨w.heap.size, 1, none⟩ = some (.int .i64 k.p) := (BKK.out _ HD2.out).cell 1; have q2_2 : w2.cell? ⟨w.heap.size, 2, none⟩ = some (.int .i64 k.q) := (BKK.out _ HD2.out).cell 2; have q2_3 : w2.cell? ⟨w.heap.size, 3, none⟩ = some (.string k.s) := (BKK.out _ HD2.out).cell 3; have q2_4 : w2.cell? ⟨w.heap.size, 4, none⟩ = some (.int .i64 k.r) := (BKK.out _ HD2.out).cell 4; have t2_0 : w2.cell? ⟨w.heap.size + 1, 0, none⟩ = some (.int .i64 x.k) := (BKX.out _ HD2.out).cell 0; have t2_1 : w2.cell? ⟨w.heap.size + 1, 1, none⟩ = some (.int .i64 x.p) := (BKX.out _ HD2.out).cell 1; have t2_2 : w2.cell? ⟨w.heap.size + 1, 2, none⟩ = some (.int .i64 x.q) := (BKX.out _ HD2.out).cell 2; have t2_3 : w2.cell? ⟨w.heap.size + 1, 3, none⟩ = some (.string x.s) := (BKX.out _ HD2.out).cell 3; have t2_4 : w2.cell? ⟨w.heap.size + 1, 4, none⟩ = some (.int .i64 x.r) := (BKX.out _ HD2.out).cell 4) | (go_at_call 52; (with_reducible refine (QE.out _ (HC0.out.trans HD2.out)).mono ?_); rintro e w3 ⟨rfl, hb3⟩; have HD3 : Hid (Ch [] ((w.alloc (.cells #[.int .i64 k.k, .int .i64 k.p, .int .i64 k.q, .string k.s, .int .i64 k.r] 26)).alloc (.cells #[.int .i64 x.k, .int .i64 x.p, .int .i64 x.q, .string x.s, .int .i64 x.r] 26)) w3) := Lib.hid ((HD2.out).trans (Ch.of_below hb3)); clear hb3; have q3_0 : w3.cell? ⟨w.heap.size, 0, none⟩ = some (.int .i64 k.k) := (BKK.out _ HD3.out).cell 0; have q3_1 : w3.cell? ⟨w.heap.size, 1, none⟩ = some (.int .i64 k.p) := (BKK.out _ HD3.out).cell 1; have q3_2 : w3.cell? ⟨w.heap.size, 2, none⟩ = some (.int .i64 k.q) := (BKK.out _ HD3.out).cell 2; have q3_3 : w3.cell? ⟨w.heap.size, 3, none⟩ = some (.string k.s) := (BKK.out _ HD3.out).cell 3; have q3_4 : w3.cell? ⟨w.heap.size, 4, none⟩ = some (.int .i64 k.r) := (BKK.out _ HD3.out).cell 4; have t3_0 : w3.cell? ⟨w.heap.size + 1, 0, none⟩ = some (.int .i64 x.k) := (BKX.out _ HD3.out).cell 0; have t3_1 : w3.cell? ⟨w.heap.size + 1, 1, none⟩ = some (.int .i64 x.p) := (BKX.out _ HD3.out).cell 1; have t3_2 : w3.cell? ⟨w.heap.size + 1, 2, none⟩ = some (.int .i64 x.q) := (BKX.out _ HD3.out).cell 2; have t3_3 : w3.cell? ⟨w.heap.size + 1, 3, none⟩ = some (.string x.s) := (BKX.out _ HD3.out).cell 3; have t3_4 : w3.cell? ⟨w.heap.size + 1, 4, none⟩ = some (.int .i64 x.r) := (BKX.out _ HD3.out).cell 4))
  go_ret
  exact HX.out _ (HC0.out.trans HD3.out)
set_option maxHeartbeats 4000000 in
theorem set_n1 (B b : Nat) (v m : Value) (L : List Sl) (k x : V5) (w : World) (h : Om B b v m L w) (hL : L.length ≤ 1000000) (hBw : B ≤ w.heap.size) (hk : k.k ≠ 0) (hv : okV k = true) (hx : okV x = true) (hx0 : x.k ≠ 0) (a : Int) (hen : ∀ e, EnSaid L k e → e = .returned (.tuple #[.int .i64 a, .bool false])) (hnk : ∀ i, lastI L k = some i → ∃ hi : i < L.length, L[i].bh ≠ 0) :
    Calls Try.prog 48 #[.pointer (some ⟨b, 0, none⟩), .agg #[.int .i64 k.k, .int .i64 k.p, .int .i64 k.q, .string k.s, .int .i64 k.r], .agg #[.int .i64 x.k, .int .i64 x.p, .int .i64 x.q, .string x.s, .int .i64 x.r]] w fun e w' => SetSaid B b v m L k x w e w' := by
  have HC0 : Hid (Ch [] w ((w.alloc (.cells #[.int .i64 k.k, .int .i64 k.p, .int .i64 k.q, .string k.s, .int .i64 k.r] 26)).alloc (.cells #[.int .i64 x.k, .int .i64 x.p, .int .i64 x.q, .string x.s, .int .i64 x.r] 26))) := Lib.hid (((Ch.refl [] w).alloc _).alloc _)
  have BKK : Hid (∀ W, Ch [] ((w.alloc (.cells #[.int .i64 k.k, .int .i64 k.p, .int .i64 k.q, .string k.s, .int .i64 k.r] 26)).alloc (.cells #[.int .i64 x.k, .int .i64 x.p, .int .i64 x.q, .string x.s, .int .i64 x.r] 26)) W → Blk 26 w.heap.size #[.int .i64 k.k, .int .i64 k.p, .int .i64 k.q, .string k.s, .int .i64 k.r] W) := Lib.hid fun W hc => ((Blk.new w 26 _ _ rfl).ch (((Ch.refl [] _).alloc _)) (by simp)).ch hc (by simp)
  have BKX : Hid (∀ W, Ch [] ((w.alloc (.cells #[.int .i64 k.k, .int .i64 k.p, .int .i64 k.q, .string k.s, .int .i64 k.r] 26)).alloc (.cells #[.int .i64 x.k, .int .i64 x.p, .int .i64 x.q, .string x.s, .int .i64 x.r] 26)) W → Blk 26 (w.heap.size + 1) #[.int .i64 x.k, .int .i64 x.p, .int .i64 x.q, .string x.s, .int .i64 x.r] W) := Lib.hid fun W hc => (Blk.new (w.alloc (.cells #[.int .i64 k.k, .int .i64 k.p, .int .i64 k.q, .string k.s, .int .i64 k.r] 26)) 26 _ _ (by simp)).ch hc (by simp)
  have Q1 : Hid (∀ w, Calls Try.prog 26 #[.agg #[.int .i64 k.k, .int .i64 k.p, .int .i64 k.q, .string k.s, .int .i64 k.r]] w fun e w' => e = .returned (.bool true) ∧ Below w.heap.size w w') := Lib.hid fun w => by rw [← hv]; exact valid5 k.k k.p k.q k.s k.r w
  have Q2 : Hid (∀ w, Calls Try.prog 26 #[.agg #[.int .i64 x.k, .int .i64 x.p, .int .i64 x.q, .string x.s, .int .i64 x.r]] w fun e w' => e = .returned (.bool true) ∧ Below w.heap.size w w') := Lib.hid fun w => by rw [← hx]; exact valid5 x.k x.p x.q x.s x.r w
  have e0 : (k.k == 0) = false := by rw [beq_eq_false_iff_ne]; exact hk
  have hz := errR_ok hk hv hx
  have QE : Hid (∀ W, Ch [] w W → Calls Try.prog 52 #[.pointer (some ⟨b, 0, none⟩), .agg #[.int .i64 k.k, .int .i64 k.p, .int .i64 k.q, .string k.s, .int .i64 k.r]] W fun e w' => e = .returned (.tuple #[.int .i64 a, .bool false]) ∧ Below W.heap.size W w') := Lib.hid fun W hc => (entry_any B b v m L k W (h.keep hc) hL).mono fun e w' ⟨h1, h2⟩ => ⟨hen _ h1, h2⟩
  have QI : Hid (∀ W, Ch [] w W → Calls Try.prog 60 #[.pointer (some ⟨b, 0, none⟩), .agg #[.int .i64 k.k, .int .i64 k.p, .int .i64 k.q, .string k.s, .int .i64 k.r], .agg #[.int .i64 x.k, .int .i64 x.p, .int .i64 x.q, .string x.s, .int .i64 x.r]] W fun e w' => InSaid B b v m (insL L k x) W e w') := Lib.hid fun W hc => insert_any B b v m L k x W (h.keep hc) hnk hL (Nat.le_trans hBw hc.size)
  have HX : Hid (setR (rabs L) k x = rabs (insL L k x) ∧ errR k x = 0) := Lib.hid ⟨setR_ins h.inv hz hx0 hnk, hz⟩
  have e2 : (x.k != 0) = true := by rw [bne_iff_ne]; exact hx0
  clear h hL hBw hk hv hx hx0 hen hnk hz
  go_enter Try.func48, Try.ntmps48
  go_wp2_with (first | (go_at_call 26; (with_reducible refine (Q1.out _).mono ?_); rintro e w1 ⟨rfl, hb1⟩; have HD1 : Hid (Ch [] ((w.alloc (.cells #[.int .i64 k.k, .int .i64 k.p, .int .i64 k.q, .string k.s, .int .i64 k.r] 26)).alloc (.cells #[.int .i64 x.k, .int .i64 x.p, .int .i64 x.q, .string x.s, .int .i64 x.r] 26)) w1) := Lib.hid (((Ch.refl [] _)).trans (Ch.of_below hb1)); clear hb1; have q1_0 : w1.cell? ⟨w.heap.size, 0, none⟩ = some (.int .i64 k.k) := (BKK.out _ HD1.out).cell 0; have q1_1 : w1.cell? ⟨w.heap.size, 1, none⟩ = some (.int .i64 k.p) := (BKK.out _ HD1.out).cell 1; have q1_2 : w1.cell? ⟨w.heap.size, 2, none⟩ = some (.int .i64 k.q) := (BKK.out _ HD1.out).cell 2; have q1_3 : w1.cell? ⟨w.heap.size, 3, none⟩ = some (.string k.s) := (BKK.out _ HD1.out).cell 3; have q1_4 : w1.cell? ⟨w.heap.size, 4, none⟩ = some (.int .i64 k.r) := (BKK.out _ HD1.out).cell 4; have t1_0 : w1.cell? ⟨w.heap.size + 1, 0, none⟩ = some (.int .i64 x.k) := (BKX.out _ HD1.out).cell 0; have t1_1 : w1.cell? ⟨w.heap.size + 1, 1, none⟩ = some (.int .i64 x.p) := (BKX.out _ HD1.out).cell 1; have t1_2 : w1.cell? ⟨w.heap.size + 1, 2, none⟩ = some (.int .i64 x.q) := (BKX.out _ HD1.out).cell 2; have t1_3 : w1.cell? ⟨w.heap.size + 1, 3, none⟩ = some (.string x.s) := (BKX.out _ HD1.out).cell 3; have t1_4 : w1.cell? ⟨w.heap.size + 1, 4, none⟩ = some (.int .i64 x.r) := (BKX.out _ HD1.out).cell 4) | (go_at_call 26; (with_reducible refine (Q2.out _).mono ?_); rintro e w2 ⟨rfl, hb2⟩; have HD2 : Hid (Ch [] ((w.alloc (.cells #[.int .i64 k.k, .int .i64 k.p, .int .i64 k.q, .string k.s, .int .i64 k.r] 26)).alloc (.cells #[.int .i64 x.k, .int .i64 x.p, .int .i64 x.q, .string x.s, .int .i64 x.r] 26)) w2) := Lib.hid ((HD1.out).trans (Ch.of_below hb2)); clear hb2; have q2_0 : w2.cell? ⟨w.heap.size, 0, none⟩ = some (.int .i64 k.k) := (BKK.out _ HD2.out).cell 0; have q2_1 : w2.cell? ⟨w.heap.size, 1, none⟩ = some (.int .i64 k.p) := (BKK.out _ HD2.out).cell 1; have q2_2 : w2.cell? ⟨w.heap.size, 2, none⟩ = some (.int .i64 k.q) := (BKK.out _ HD2.out).cell 2; have q2_3 : w2.cell? ⟨w.heap.size, 3, none⟩ = some (.string k.s) := (BKK.out _ HD2.out).cell 3; have q2_4 : w2.cell? ⟨w.heap.size, 4, none⟩ = some (.int .i64 k.r) := (BKK.out _ HD2.out).cell 4; have t2_0 : w2.cell? ⟨w.heap.size + 1, 0, none⟩ = some (.int .i64 x.k) := (BKX.out _ HD2.out).cell 0; have t2_1 : w2.cell? ⟨w.heap.size + 1, 1, none⟩ = some (.int .i64 x.p) := (BKX.out _ HD2.out).cell 1; have t2_2 : w2.cell? ⟨w.heap.size + 1, 2, none⟩ = some (.int .i64 x.q) := (BKX.out _ HD2.out).cell 2; have t2_3 : w2.cell? ⟨w.heap.size + 1, 3, none⟩ = some (.string x.s) := (BKX.out _ HD2.out).cell 3; have t2_4 : w2.cell? ⟨w.heap.size + 1, 4, none⟩ = some (.int .i64 x.r) := (BKX.out _ HD2.out).cell 4) | (go_at_call 52; (with_reducible refine (QE.out _ (HC0.out.trans HD2.out)).mono ?_); rintro e w3 ⟨rfl, hb3⟩; have HD3 : Hid (Ch [] ((w.alloc (.cells #[.int .i64 k.k, .int .i64 k.p, .int .i64 k.q, .string k.s, .int .i64 k.r] 26)).alloc (.cells #[.int .i64 x.k, .int .i64 x.p, .int .i64 x.q, .string x.s, .int .i64 x.r] 26)) w3) := Lib.hid ((HD2.out).trans (Ch.of_below hb3)); clear hb3; have q3_0 : w3.cell? ⟨w.heap.size, 0, none⟩ = some (.int .i64 k.k) := (BKK.out _ HD3.out).cell 0; have q3_1 : w3.cell? ⟨w.heap.size, 1, none⟩ = some (.int .i64 k.p) := (BKK.out _ HD3.out).cell 1; have q3_2 : w3.cell? ⟨w.heap.size, 2, none⟩ = some (.int .i64 k.q) := (BKK.out _ HD3.out).cell 2; have q3_3 : w3.cell? ⟨w.heap.size, 3, none⟩ = some (.string k.s) := (BKK.out _ HD3.out).cell 3; have q3_4 : w3.cell? ⟨w.heap.size, 4, none⟩ = some (.int .i64 k.r) := (BKK.out _ HD3.out).cell 4; have t3_0 : w3.cell? ⟨w.heap.size + 1, 0, none⟩ = some (.int .i64 x.k) := (BKX.out _ HD3.out).cell 0; have t3_1 : w3.cell? ⟨w.heap.size + 1, 1, none⟩ = some (.int .i64 x.p) := (BKX.out _ HD3.out).cell 1; have t3_2 : w3.cell? ⟨w.heap.size + 1, 2, none⟩ = some (.int .i64 x.q) := (BKX.out _ HD3.out).cell 2; have t3_3 : w3.cell? ⟨w.heap.size + 1, 3, none⟩ = some (.string x.s) := (BKX.out _ HD3.out).cell 3; have t3_4 : w3.cell? ⟨w.heap.size + 1, 4, none⟩ = some (.int .i64 x.r) := (BKX.out _ HD3.out).cell 4) | (go_at_call 60; (with_reducible refine (QI.out _ (HC0.out.trans HD3.out)).mono ?_); rintro e w4 ⟨rfl, ⟨v', m', ho, hf⟩, hc⟩; have HO4 := Lib.hid ho; have HF4 := Lib.hid hf; have HC4 := Lib.hid hc; clear ho hf hc))
  go_ret
  exact ⟨by rw [HX.out.2] <;> rfl, ⟨v', m', _, HO4.out, HX.out.1.symm, insL_len L k x, fun y hy => (HF4.out y hy).imp id (fun h' => Nat.le_trans (HC0.out.trans HD3.out).size h')⟩, ((HC0.out.trans HD3.out).mono (by simp)).trans HC4.out⟩
set_option maxHeartbeats 4000000 in
theorem set_v (B b : Nat) (v m : Value) (L : List Sl) (k x : V5) (w : World) (h : Om B b v m L w) (hL : L.length ≤ 1000000) (hBw : B ≤ w.heap.size) (hk : k.k ≠ 0) (hv : okV k = true) (hx : okV x = true) (hx0 : x.k ≠ 0) (i : Nat) (hl : lastI L k = some i) (hi : i < L.length) (hb0 : L[i].bh = 0) :
    Calls Try.prog 48 #[.pointer (some ⟨b, 0, none⟩), .agg #[.int .i64 k.k, .int .i64 k.p, .int .i64 k.q, .string k.s, .int .i64 k.r], .agg #[.int .i64 x.k, .int .i64 x.p, .int .i64 x.q, .string x.s, .int .i64 x.r]] w fun e w' => SetSaid B b v m L k x w e w' := by
  have HC0 : Hid (Ch [] w ((w.alloc (.cells #[.int .i64 k.k, .int .i64 k.p, .int .i64 k.q, .string k.s, .int .i64 k.r] 26)).alloc (.cells #[.int .i64 x.k, .int .i64 x.p, .int .i64 x.q, .string x.s, .int .i64 x.r] 26))) := Lib.hid (((Ch.refl [] w).alloc _).alloc _)
  have BKK : Hid (∀ W, Ch [] ((w.alloc (.cells #[.int .i64 k.k, .int .i64 k.p, .int .i64 k.q, .string k.s, .int .i64 k.r] 26)).alloc (.cells #[.int .i64 x.k, .int .i64 x.p, .int .i64 x.q, .string x.s, .int .i64 x.r] 26)) W → Blk 26 w.heap.size #[.int .i64 k.k, .int .i64 k.p, .int .i64 k.q, .string k.s, .int .i64 k.r] W) := Lib.hid fun W hc => ((Blk.new w 26 _ _ rfl).ch (((Ch.refl [] _).alloc _)) (by simp)).ch hc (by simp)
  have BKX : Hid (∀ W, Ch [] ((w.alloc (.cells #[.int .i64 k.k, .int .i64 k.p, .int .i64 k.q, .string k.s, .int .i64 k.r] 26)).alloc (.cells #[.int .i64 x.k, .int .i64 x.p, .int .i64 x.q, .string x.s, .int .i64 x.r] 26)) W → Blk 26 (w.heap.size + 1) #[.int .i64 x.k, .int .i64 x.p, .int .i64 x.q, .string x.s, .int .i64 x.r] W) := Lib.hid fun W hc => (Blk.new (w.alloc (.cells #[.int .i64 k.k, .int .i64 k.p, .int .i64 k.q, .string k.s, .int .i64 k.r] 26)) 26 _ _ (by simp)).ch hc (by simp)
  have Q1 : Hid (∀ w, Calls Try.prog 26 #[.agg #[.int .i64 k.k, .int .i64 k.p, .int .i64 k.q, .string k.s, .int .i64 k.r]] w fun e w' => e = .returned (.bool true) ∧ Below w.heap.size w w') := Lib.hid fun w => by rw [← hv]; exact valid5 k.k k.p k.q k.s k.r w
  have Q2 : Hid (∀ w, Calls Try.prog 26 #[.agg #[.int .i64 x.k, .int .i64 x.p, .int .i64 x.q, .string x.s, .int .i64 x.r]] w fun e w' => e = .returned (.bool true) ∧ Below w.heap.size w w') := Lib.hid fun w => by rw [← hx]; exact valid5 x.k x.p x.q x.s x.r w
  have e0 : (k.k == 0) = false := by rw [beq_eq_false_iff_ne]; exact hk
  have hz := errR_ok hk hv hx
  have QE : Hid (∀ W, Ch [] w W → Calls Try.prog 52 #[.pointer (some ⟨b, 0, none⟩), .agg #[.int .i64 k.k, .int .i64 k.p, .int .i64 k.q, .string k.s, .int .i64 k.r]] W fun e w' => e = .returned (.tuple #[.int .i64 (i : Int), .bool true]) ∧ Below W.heap.size W w') := Lib.hid fun W hc => (entry_any B b v m L k W (h.keep hc) hL).mono fun e w' ⟨h1, h2⟩ => ⟨by unfold EnSaid at h1; rw [hl] at h1; simp only [List.getElem?_eq_getElem hi, (liveB_iff _).2 hb0] at h1; exact h1, h2⟩
  have HR := Lib.hid (setR_val h.inv hz hx0 hl hi hb0)
  have HZ := Lib.hid hz
  have HIV := Lib.hid (inv_val h.inv hi hb0 x)
  obtain ⟨p, cap, rfl, hp⟩ := h.form
  obtain ⟨g, rfl⟩ := hp (by omega)
  have hi2 : (i : Int) < (L.length : Int) := by omega
  have HL := Lib.hid hL
  have hi3 : i ≤ 1000000 := by omega
  have HOO := Lib.hid h
  have e2 : (x.k != 0) = true := by rw [bne_iff_ne]; exact hx0
  have HX : Hid (∀ W, Ch [] w W → SetSaid B b (.slice (some ⟨g, 0, none⟩) L.length cap) m L k x w (.returned (.int .i64 0)) (stL W g (i * 11 + 5) [.int .i64 x.k, .int .i64 x.p, .int .i64 x.q, .string x.s, .int .i64 x.r])) := Lib.hid fun W hc => by
    obtain ⟨q1, q2, q3, q4⟩ := (h.keep hc).put i hi [.int .i64 x.k, .int .i64 x.p, .int .i64 x.q, .string x.s, .int .i64 x.r] 5 (by simp) ⟨L[i].key, x, 0⟩ (by simp [slC, patch, hb0]) rfl
    refine ⟨by rw [HZ.out], ⟨_, _, _, ⟨?_, h.lo, ?_, q3, HIV.out.1⟩, HR.out.symm, by simp, fun y hy => .inl hy⟩, (hc.mono (by simp)).trans (q4.mono (by simp [omS, Go.Proofs.Ytaaelhhiceildaa.ob, Value.ownBlock]))⟩
    · rw [HIV.out.2]; exact q1
    · rw [List.length_set] at q2 ⊢; exact q2
  have HFZ : Hid (∀ W, Ch [] w W → W.cell? ⟨b, 0, none⟩ = some (.slice (some ⟨g, 0, none⟩) L.length cap) ∧ b < W.heap.size ∧ g < W.heap.size ∧ (∀ j, W.frozen? ⟨g, j, none⟩ = false) ∧ W.cell? ⟨g, i * 11 + 5, none⟩ = some (.int .i64 L[i].val.k) ∧ W.cell? ⟨g, i * 11 + 6, none⟩ = some (.int .i64 L[i].val.p) ∧ W.cell? ⟨g, i * 11 + 7, none⟩ = some (.int .i64 L[i].val.q) ∧ W.cell? ⟨g, i * 11 + 8, none⟩ = some (.string L[i].val.s) ∧ W.cell? ⟨g, i * 11 + 9, none⟩ = some (.int .i64 L[i].val.r)) := Lib.hid fun W hc => by
    have ho := h.keep hc
    obtain ⟨_, _, _, _, _, s5, s6, s7, s8, s9, _⟩ := ho.slot i hi
    exact ⟨ho.blk.cell 0, ho.blk.lt, (own_lo ho.row (mem_ob.2 rfl)).2, fun j => ho.row.frozenAt j, s5, s6, s7, s8, s9⟩
  clear h hL hBw hk hv hx hx0 hl hb0 hz hp
  go_enter Try.func48, Try.ntmps48
  go_upto_region 11 with (first | (go_at_call 26; (with_reducible refine (Q1.out _).mono ?_); rintro e w1 ⟨rfl, hb1⟩; have HD1 : Hid (Ch [] ((w.alloc (.cells #[.int .i64 k.k, .int .i64 k.p, .int .i64 k.q, .string k.s, .int .i64 k.r] 26)).alloc (.cells #[.int .i64 x.k, .int .i64 x.p, .int .i64 x.q, .string x.s, .int .i64 x.r] 26)) w1) := Lib.hid (((Ch.refl [] _)).trans (Ch.of_below hb1)); clear hb1; have q1_0 : w1.cell? ⟨w.heap.size, 0, none⟩ = some (.int .i64 k.k) := (BKK.out _ HD1.out).cell 0; have q1_1 : w1.cell? ⟨w.heap.size, 1, none⟩ = some (.int .i64 k.p) := (BKK.out _ HD1.out).cell 1; have q1_2 : w1.cell? ⟨w.heap.size, 2, none⟩ = some (.int .i64 k.q) := (BKK.out _ HD1.out).cell 2; have q1_3 : w1.cell? ⟨w.heap.size, 3, none⟩ = some (.string k.s) := (BKK.out _ HD1.out).cell 3; have q1_4 : w1.cell? ⟨w.heap.size, 4, none⟩ = some (.int .i64 k.r) := (BKK.out _ HD1.out).cell 4; have t1_0 : w1.cell? ⟨w.heap.size + 1, 0, none⟩ = some (.int .i64 x.k) := (BKX.out _ HD1.out).cell 0; have t1_1 : w1.cell? ⟨w.heap.size + 1, 1, none⟩ = some (.int .i64 x.p) := (BKX.out _ HD1.out).cell 1; have t1_2 : w1.cell? ⟨w.heap.size + 1, 2, none⟩ = some (.int .i64 x.q) := (BKX.out _ HD1.out).cell 2; have t1_3 : w1.cell? ⟨w.heap.size + 1, 3, none⟩ = some (.string x.s) := (BKX.out _ HD1.out).cell 3; have t1_4 : w1.cell? ⟨w.heap.size + 1, 4, none⟩ = some (.int .i64 x.r) := (BKX.out _ HD1.out).cell 4) | (go_at_call 26; (with_reducible refine (Q2.out _).mono ?_); rintro e w2 ⟨rfl, hb2⟩; have HD2 : Hid (Ch [] ((w.alloc (.cells #[.int .i64 k.k, .int .i64 k.p, .int .i64 k.q, .string k.s, .int .i64 k.r] 26)).alloc (.cells #[.int .i64 x.k, .int .i64 x.p, .int .i64 x.q, .string x.s, .int .i64 x.r] 26)) w2) := Lib.hid ((HD1.out).trans (Ch.of_below hb2)); clear hb2; have q2_0 : w2.cell? ⟨w.heap.size, 0, none⟩ = some (.int .i64 k.k) := (BKK.out _ HD2.out).cell 0; have q2_1 : w2.cell? ⟨w.heap.size, 1, none⟩ = some (.int .i64 k.p) := (BKK.out _ HD2.out).cell 1; have q2_2 : w2.cell? ⟨w.heap.size, 2, none⟩ = some (.int .i64 k.q) := (BKK.out _ HD2.out).cell 2; have q2_3 : w2.cell? ⟨w.heap.size, 3, none⟩ = some (.string k.s) := (BKK.out _ HD2.out).cell 3; have q2_4 : w2.cell? ⟨w.heap.size, 4, none⟩ = some (.int .i64 k.r) := (BKK.out _ HD2.out).cell 4; have t2_0 : w2.cell? ⟨w.heap.size + 1, 0, none⟩ = some (.int .i64 x.k) := (BKX.out _ HD2.out).cell 0; have t2_1 : w2.cell? ⟨w.heap.size + 1, 1, none⟩ = some (.int .i64 x.p) := (BKX.out _ HD2.out).cell 1; have t2_2 : w2.cell? ⟨w.heap.size + 1, 2, none⟩ = some (.int .i64 x.q) := (BKX.out _ HD2.out).cell 2; have t2_3 : w2.cell? ⟨w.heap.size + 1, 3, none⟩ = some (.string x.s) := (BKX.out _ HD2.out).cell 3; have t2_4 : w2.cell? ⟨w.heap.size + 1, 4, none⟩ = some (.int .i64 x.r) := (BKX.out _ HD2.out).cell 4) | (go_at_call 52; (with_reducible refine (QE.out _ (HC0.out.trans HD2.out)).mono ?_); rintro e w3 ⟨rfl, hb3⟩; have HD3 : Hid (Ch [] ((w.alloc (.cells #[.int .i64 k.k, .int .i64 k.p, .int .i64 k.q, .string k.s, .int .i64 k.r] 26)).alloc (.cells #[.int .i64 x.k, .int .i64 x.p, .int .i64 x.q, .string x.s, .int .i64 x.r] 26)) w3) := Lib.hid ((HD2.out).trans (Ch.of_below hb3)); clear hb3; have q3_0 : w3.cell? ⟨w.heap.size, 0, none⟩ = some (.int .i64 k.k) := (BKK.out _ HD3.out).cell 0; have q3_1 : w3.cell? ⟨w.heap.size, 1, none⟩ = some (.int .i64 k.p) := (BKK.out _ HD3.out).cell 1; have q3_2 : w3.cell? ⟨w.heap.size, 2, none⟩ = some (.int .i64 k.q) := (BKK.out _ HD3.out).cell 2; have q3_3 : w3.cell? ⟨w.heap.size, 3, none⟩ = some (.string k.s) := (BKK.out _ HD3.out).cell 3; have q3_4 : w3.cell? ⟨w.heap.size, 4, none⟩ = some (.int .i64 k.r) := (BKK.out _ HD3.out).cell 4; have t3_0 : w3.cell? ⟨w.heap.size + 1, 0, none⟩ = some (.int .i64 x.k) := (BKX.out _ HD3.out).cell 0; have t3_1 : w3.cell? ⟨w.heap.size + 1, 1, none⟩ = some (.int .i64 x.p) := (BKX.out _ HD3.out).cell 1; have t3_2 : w3.cell? ⟨w.heap.size + 1, 2, none⟩ = some (.int .i64 x.q) := (BKX.out _ HD3.out).cell 2; have t3_3 : w3.cell? ⟨w.heap.size + 1, 3, none⟩ = some (.string x.s) := (BKX.out _ HD3.out).cell 3; have t3_4 : w3.cell? ⟨w.heap.size + 1, 4, none⟩ = some (.int .i64 x.r) := (BKX.out _ HD3.out).cell 4))
  obtain ⟨z0, z1, z2, z3, z5, z6, z7, z8, z9⟩ := HFZ.out w3 (HC0.out.trans HD3.out)
  have hq := (BKX.out _ HD3.out).lt
  go_region
  all_goals (
    go_wp2
    go_ret
    exact HX.out _ ((HC0.out.trans HD3.out).drew))
end Go.Proofs.Ytaaelhhiceildaa
