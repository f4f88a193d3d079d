/- Layer 18: the walk of RegistryReuses (2). -/
import Derived.Test.YtbfeahafogbbhaaRegR
namespace Go.Proofs.Ytbfeahafogbbhaa
open Go.ChangeShapes Go.WideShapes Go.ChangeAt Go.RowKit Go.Joins Go.Deep M1
set_option linter.unusedVariables false
theorem cellsU8 : Try.prog.cellsOf 5 = 1 := by kernel_rfl
def u8C (n : Int) : List Value := [.int .u8 n]
structure U8A (w : World) (v : Value) (l : List Int) : Prop where
  form : ∃ p c, v = .slice p l.length c ∧ (0 < l.length → ∃ g o, p = some ⟨g, o, none⟩ ∧ g < w.heap.size ∧ ∀ (j m : Nat) (hj : j < l.length), m < 1 → w.cell? ⟨g, o + j * 1 + m, none⟩ = (u8C l[j])[m]?)
theorem u8s_nil (w : World) (c : Nat) : U8A w (.slice none 0 c) [] := ⟨_, _, rfl, fun h => absurd h (by decide)⟩
theorem u8_range {n : Int} (h : (Lit.int .u8 n).wf = true) : 0 ≤ n ∧ n < 256 := by
  simp only [Lit.wf, Bool.and_eq_true, decide_eq_true_eq] at h
  have h1 : IntKind.min .u8 = 0 := by decide
  have h2 : IntKind.max .u8 = 255 := by decide
  rw [h1, h2] at h
  omega
theorem open_u8s {H : Type} {enc : TypeId × Value → H} {W : World} {sp : Nat → Bool} {fuel len cap : Nat} {a : Option Addr} {x : DataW H × List MemPlace} (h : DataW.trod enc Try.prog W 0 sp true fuel 48 [.slice a len cap] = some x) :
    ∃ l : List Int, (U8A W (.slice a len cap) l ∧ ∀ y ∈ l, 0 ≤ y ∧ y < 256) ∧ l.length = len ∧ len ≤ maxLen := by
  rcases open_slice Try.underlying48 h with ⟨hc, _⟩ | ⟨b, len', cap', m, n, D, Pl, hc, _, hl, hcm, hmm, _, hi⟩
  · simp only [List.cons.injEq, Value.slice.injEq, and_true] at hc
    obtain ⟨rfl, rfl, rfl⟩ := hc
    exact ⟨[], ⟨u8s_nil _ _, fun y hy => by cases hy⟩, rfl, Nat.zero_le _⟩
  · simp only [List.cons.injEq, Value.slice.injEq, and_true] at hc
    obtain ⟨rfl, rfl, rfl⟩ := hc
    have hlm : len ≤ m := by rw [hmm]; split <;> omega
    have each : ∀ i, i < len → ∃ y : Int, (0 ≤ y ∧ y < 256) ∧ ∀ j, j < 1 → W.cell? ((b.add (i * 1)).add j) = (u8C y)[j]? := by
      intro i hil
      obtain ⟨cs, h1, h2⟩ := hi i (by omega)
      rw [cellsU8] at h1
      obtain ⟨_, hlen, hcell⟩ := World.cells?_some h1
      obtain ⟨y, rfl, _, wy⟩ := DataW.trod_int Try.underlying5 h2
      exact ⟨y, u8_range wy, fun j hj => hcell j hj⟩
    obtain ⟨I, hI⟩ : ∃ I : Nat → Int, ∀ i, i < len → (0 ≤ I i ∧ I i < 256) ∧ ∀ j, j < 1 → W.cell? ((b.add (i * 1)).add j) = (u8C (I i))[j]? :=
      ⟨fun i => if h : i < len then Classical.choose (each i h) else 0, fun i h => by have := Classical.choose_spec (each i h); simpa [h] using this⟩
    obtain ⟨g, o, spt⟩ := b
    refine ⟨(List.range len).map I, ⟨⟨some ⟨g, o, spt⟩, cap, by simp, fun h0 => ?_⟩, fun y hy => ?_⟩, by simp, Nat.le_trans hl hcm⟩
    rotate_left
    · obtain ⟨i, hi1, rfl⟩ := List.mem_map.1 hy
      exact (hI i (List.mem_range.1 hi1)).1
    have h0 : 0 < len := by simpa using h0
    have hsp : spt = none := by
      have h9 : W.cell? _ = some (.int .u8 (I 0)) := (hI 0 h0).2 0 (by omega)
      have := World.cell?_spot h9
      simpa [Addr.add] using this
    subst hsp
    have h9 : W.cell? _ = some (.int .u8 (I 0)) := (hI 0 h0).2 0 (by omega)
    refine ⟨g, o, rfl, World.block_lt_of_cell? W _ h9, fun j m hj hm => ?_⟩
    have hjl : j < len := by simpa using hj
    have h1 := (hI j hjl).2 m hm
    rw [addr_addQ, addr_addQ] at h1
    rw [List.getElem_map, List.getElem_range]
    exact h1
/-- A table whose entries are the keys of D, each with itself as value. -/
def muF (m i : Nat) : List Bool := (List.range (m + 1)).map (fun r => decide (1 ≤ r ∧ r < i))
theorem muF_len (m i : Nat) : (muF m i).length = m + 1 := by simp [muF]
theorem muF_one (m : Nat) : muF m 1 = List.replicate (m + 1) false := by
  apply List.ext_getElem
  · simp [muF]
  · intro n h1 h2
    simp [muF]; omega
theorem muF_get (m i r : Nat) (h : r ≤ m) : (muF m i).getD r false = decide (1 ≤ r ∧ r < i) := by
  unfold muF List.getD
  rw [List.getElem?_map, List.getElem?_range (by omega)]
  rfl
theorem muF_set (m i : Nat) (h1 : 1 ≤ i) (h2 : i ≤ m) : (muF m i).set i true = muF m (i + 1) := by
  apply List.ext_getElem
  · simp [muF]
  · intro n h3 h4
    rw [List.getElem_set]
    by_cases he : i = n
    · subst he; simp [muF, h1]
    · rw [if_neg he]; simp only [muF, List.getElem_map, List.getElem_range]
      congr 1
      apply propext
      omega
theorem mk_full (m : Nat) : Mk m (List.replicate m o5) (muF m (m + 1)) := by
  refine ⟨by simp, muF_len _ _, fun r h1 h2 => ?_⟩
  rw [muF_get m _ r h2, held_rep m r h1 h2]
  simp; omega
theorem info_bool : (Try.prog.info? 4).map (fun i => (i.zero, i.size, i.bytes)) = some (some (.bool false), 1, 1) := by kernel_rfl
theorem ref_rep (i : Nat) : refR (List.replicate i o5) [] = (i : Int) + 1 ∧ refK (List.replicate i o5) [] o5 = List.replicate (i + 1) o5 := by
  refine ⟨by simp [refR], ?_⟩
  show List.replicate i o5 ++ [o5] = _
  rw [List.replicate_succ']
theorem take_last {fr : List Int} {j : Nat} {x : Int} (h : fr[j]? = some x) : fr.take (j + 1) = fr.take j ++ [x] := by rw [List.take_add_one, h]; rfl
theorem ref_take {fr : List Int} {j : Nat} {x : Int} (K : List V5) (h : fr[j]? = some x) : refR K (fr.take (j + 1)) = x ∧ (fr.take (j + 1)).dropLast = fr.take j ∧ (refK K (fr.take (j + 1)) o5).length = K.length := by
  rw [take_last h]
  refine ⟨by simp [refR], by simp, by simp [refK]⟩
theorem mk_no {m : Nat} {K : List V5} {U : List Bool} (h : Mk m K U) (r : Nat) (hr : heldB K (r : Int) = false) : Mk m K (U.set r false) := by
  obtain ⟨a, b, c⟩ := h
  refine ⟨a, by simpa using b, fun s s1 s2 => ?_⟩
  by_cases he : s = r
  · subst he
    rw [hr]
    unfold List.getD; rw [List.getElem?_set_self (by omega)]; rfl
  · rw [← c s s1 s2]
    unfold List.getD; rw [List.getElem?_set_ne (fun e => he e.symm)]
set_option maxRecDepth 20000 in
set_option maxHeartbeats 16000000 in
theorem walkR (n8 : Int) (wn8 : (Lit.int .u8 n8).wf = true) (p0 : Option Addr) (c0 : Nat) (l0 : List Int) (w : World) (hl : l0.length ≤ maxLen) (hu : ∀ y ∈ l0, 0 ≤ y ∧ y < 256)
    (hp : 0 < l0.length → ∃ g o, p0 = some ⟨g, o, none⟩ ∧ g < w.heap.size ∧ ∀ (j m : Nat) (hj : j < l0.length), m < 1 → w.cell? ⟨g, o + j * 1 + m, none⟩ = (u8C l0[j])[m]?) :
    Calls Try.prog 5 #[.int .u8 n8, .slice p0 l0.length c0] w fun e w' => e = .returned (.bool true) ∧ Below w.heap.size w w' := by
  have hn8 : 0 ≤ n8 ∧ n8 ≤ 255 := by simpa [Lit.wf, IntKind.min, IntKind.max, IntKind.signed, IntKind.bits] using wn8
  have QN := Lib.hid (gw_new w)
  have QA := Lib.hid fun W => lives_any W
  have HP := Lib.hid hp
  have HU := Lib.hid hu
  have hl2 : l0.length ≤ 9223372036854775807 := hl
  have htn : 0 ≤ n8.tmod 50 := Int.tmod_nonneg _ hn8.1
  have htm := Int.tmod_lt_of_pos n8 (show (0 : Int) < 50 by decide)
  obtain ⟨m, hm⟩ : ∃ m : Nat, m = (n8.tmod 50).toNat + 1 := ⟨_, rfl⟩
  have e1 : 1 + n8.tmod 50 = (m : Int) := by omega
  have e1b : 1 + n8 % 50 = (m : Int) := by rw [← Int.tmod_eq_emod_of_nonneg hn8.1]; exact e1
  have hm1 : 1 ≤ m := by omega
  have hm50 : m ≤ 50 := by omega
  have e3 : IntKind.i64.wrap n8 = n8 := IntWalk.i64_in _ (by omega)
  obtain ⟨m1, hmm1⟩ : ∃ m1 : Nat, m1 = m + 1 := ⟨_, rfl⟩
  have e4 : (m : Int) + 1 = (m1 : Int) := by omega
  have hm1b : m1 ≤ 51 := by omega
  have HMM := Lib.hid hmm1
  clear hmm1
  clear wn8 hp hu hl hm htn htm
  go_enter Try.func5, Try.ntmps5
  go_upto_region 2 with (go_at_call 12; (with_reducible refine (QN.out).mono ?_); rintro e w1 ⟨t, rfl, hf, hlt⟩; have HF := Lib.hid hf; clear hf hlt)
  by_cases h100 : (100 : Int) < (l0.length : Int)
  · clear hn8 e1 e1b hm1 hm50 e3 e4 hm1b
    go_wp2_with (go_at_call 11; (with_reducible refine (QA.out _).mono ?_); rintro e w3 ⟨rfl, hs⟩; have HC3 : Hid (Ch [] w w3) := Lib.hid (HF.out.ch.trans hs); clear hs)
    go_ret
    exact ⟨rfl, HC3.out.below⟩
  · have HL100 : Hid (l0.length ≤ 100) := Lib.hid (by omega)
    go_upto_region 5 with fail
    have HB := Lib.hid (GB.of HF.out o5)
    obtain ⟨R, hR⟩ : ∃ R, R = w1.heap.size := ⟨_, rfl⟩
    rw [← hR] at HB ⊢
    have HR := Lib.hid hR
    clear hR
    have HB0 : Hid (GB w t [] [] R o5 (w1.alloc (.cells #[.int .i64 8, .int .i64 0, .int .i64 0, .string ⟨#[]⟩, .int .i64 5] 33))) := HB
    generalize (w1.alloc (.cells #[.int .i64 8, .int .i64 0, .int .i64 0, .string ⟨#[]⟩, .int .i64 5] 33)) = w2 at *
    go_upto_region 6 with fail
    obtain ⟨i0, hi0, jz0, jz1, jz2⟩ := info_parts info_bool
    obtain ⟨W1, hr, hown, hg1⟩ := run_make_full (P := Try.prog) w2 w.heap.size 49 4 i0 (.bool false) 1 Try.underlying49 hi0 jz0 jz1 .i64 .i64 m1 (by rw [jz2]; omega) (by unfold maxLen; omega) HB0.out.gw.ch.size
    have HX : Hid (Rx w t (List.replicate 0 o5) [] R w2.heap.size m1 (muF m 1) (.slice none 0 0) [] W1) := Lib.hid (by
      have hC1 : Ch [] w2 W1 := Ch.of_below ((Below.refl w2.heap.size w2).grown hg1 (Nat.le_refl _) (fun k e => by cases e))
      obtain ⟨vk, vf, h1, h2, h3, h4, h5⟩ := HB0.out
      refine ⟨vk, vf, h1.ch0 hC1, h2, h3.trans hC1, h4.ch hC1 (not_nil _), ?_, World.ownsRow_nil _ _ _ _, fun g hg hm => ?_⟩
      · have e : (madeCells (Value.bool false).cells (m1 * 1)).toList = bC (muF m 1) := by
          rw [muF_one, Nat.mul_one, ← HMM.out]
          show (madeCells #[Value.bool false] m1).toList = _
          rw [toList_madeCells_one]; simp [bC]
        rw [e] at hown
        exact hown
      · simp [Go.Proofs.Ytbfeahafogbbhaa.ob, Value.ownBlock] at hg
        rcases hg with rfl | rfl
        · exact h5 hm
        · have := (h1.lt _ hm).2; omega)
    obtain ⟨u, hu⟩ : ∃ u, u = w2.heap.size := ⟨_, rfl⟩
    rw [← hu] at HX hr
    have HUU := Lib.hid hu
    clear hown hg1 hu jz0 jz1 jz2 hi0 e1 e1b e3 hn8 h100
    go_upto_region 7 with fail
    clear hr
    go_wp2
    go_loopw [9] (fun v9 wr => ∃ i : Nat, 1 ≤ i ∧ i ≤ m + 1 ∧ v9 = .int .i64 (i : Int) ∧ Hid (Rx w t (List.replicate (i - 1) o5) [] R u m1 (muF m i) (.slice none 0 0) [] wr)) (fun v9 _ => m + 2 - (intOf v9).toNat)
    case atStart => exact ⟨1, Nat.le_refl _, by omega, rfl, HX⟩
    case round =>
      obtain ⟨i, hi1, hi2, rfl, HX⟩ := hrel
      rename World => wr
      by_cases hlt : i ≤ m
      · have hlt' : (i : Int) ≤ (m : Int) := by omega
        have HLT := Lib.hid (And.intro hi1 hlt)
        have QR : Hid (∀ W, Rx w t (List.replicate (i - 1) o5) [] R u m1 (muF m i) (.slice none 0 0) [] W → Calls Try.prog 18 #[.pointer (some ⟨t, 0, none⟩), .agg #[.int .i64 8, .int .i64 0, .int .i64 0, .string ⟨#[]⟩, .int .i64 5]] W fun e w' => e = .returned (.tuple #[.int .i64 (i : Int), .int .i64 0]) ∧ Rx w t (List.replicate i o5) [] R u m1 (muF m i) (.slice none 0 0) [] w') := Lib.hid fun W h => by
          have q := ref_rep (i - 1)
          have := rx_ref h (by simp; omega)
          rw [q.1, q.2, show ((i - 1 : Nat) : Int) + 1 = (i : Int) by omega, show i - 1 + 1 = i by omega] at this
          exact this
        have di : IntKind.i64.wrap ((i : Int) + 1) = (i : Int) + 1 := IntWalk.i64_in _ (by omega)
        have dj : (i : Int) < (m1 : Int) := by omega
        have dk : (0 : Int) ≤ (i : Int) := by omega
        have wrc0 : wr.cell? ⟨R, 0, none⟩ = some (.int .i64 8) := HX.out.box.cell 0
        have wrc1 : wr.cell? ⟨R, 1, none⟩ = some (.int .i64 0) := HX.out.box.cell 1
        have wrc2 : wr.cell? ⟨R, 2, none⟩ = some (.int .i64 0) := HX.out.box.cell 2
        have wrc3 : wr.cell? ⟨R, 3, none⟩ = some (.string ⟨#[]⟩) := HX.out.box.cell 3
        have wrc4 : wr.cell? ⟨R, 4, none⟩ = some (.int .i64 5) := HX.out.box.cell 4
        have wrl := HX.out.box.lt
        clear hi1 hi2 hlt
        go_upto_region 11 with (go_at_call 18; (with_reducible refine (QR.out _ HX.out).mono ?_); rintro e w4 ⟨rfl, hf⟩; have HX4 := Lib.hid hf; clear hf)
        clear wrc0 wrc1 wrc2 wrc3 wrc4 wrl
        have hat := HX4.out.at (by rw [muF_len, HMM.out]) i (by have := HLT.out; have := HMM.out; omega)
        have a0 := hat.1
        have a1 := hat.2.1
        have a2 := hat.2.2
        have HX5 := Lib.hid (HX4.out.mark i true)
        clear hat
        go_wp2
        go_roundw
        case rel => exact ⟨i + 1, by omega, by have := HLT.out; omega, by go_num, Lib.hid (by have := HX5.out; rw [muF_set m i HLT.out.1 HLT.out.2] at this; exact this)⟩
        case measure => have := HLT.out; simp [intOf]; omega
      · obtain rfl : i = m + 1 := by omega
        have hlt' : ¬ (m1 : Int) ≤ (m : Int) := by omega
        have e5 : ((m + 1 : Nat) : Int) = (m1 : Int) := by omega
        rw [e5]
        clear e5
        have HX1 : Hid (Rx w t (List.replicate m o5) [] R u m1 (muF m (m + 1)) (.slice none ([] : List Int).length 0) [] wr) := HX
        have HM1 := Lib.hid (mk_full m)
        clear HX hi1 hi2 hlt
        go_wp2
        go_loopw [12, 13] (fun v12 v13 wr => ∃ (k : Nat) (K : List V5) (F : List Int) (U : List Bool) (pf : Option Addr) (cf : Nat), k ≤ l0.length ∧ F.length ≤ k ∧ v12 = .slice pf F.length cf ∧ v13 = .int .i64 (k : Int) ∧ Hid (Rx w t K F R u m1 U (.slice pf F.length cf) F wr) ∧ Hid (Mk m K U)) (fun _ v13 _ => l0.length - (intOf v13).toNat)
        case atStart => exact ⟨0, List.replicate m o5, [], muF m (m + 1), none, 0, Nat.zero_le _, Nat.le_refl _, rfl, rfl, HX1, HM1⟩
        case round =>
          obtain ⟨k, K, F, U, pf, cf, hk, hfk, rfl, rfl, HX, HM⟩ := hrel
          rename World => wq
          by_cases hlt : k < l0.length
          · have HK := Lib.hid (And.intro hlt hfk)
            have hi1 : (k : Int) < (l0.length : Int) := by omega
            have hi0 : (0 : Int) ≤ (k : Int) := by omega
            obtain ⟨g1, o1, rfl, hg1, k1⟩ := HP.out (by omega)
            obtain ⟨d, hd⟩ : ∃ d, d = l0[k] := ⟨_, rfl⟩
            have hdb := HU.out d (by rw [hd]; exact List.getElem_mem hlt)
            have hcd : wq.cell? ⟨g1, o1 + k, none⟩ = some (.int .u8 d) := (HX.out.chw.below.cell (p := ⟨g1, _, none⟩) hg1).trans (by have := k1 k 0 hlt (by omega); rw [Nat.mul_one, Nat.add_zero] at this; rw [this, hd]; rfl)
            have hg1l : g1 < wq.heap.size := Nat.lt_of_lt_of_le hg1 HX.out.chw.size
            have hq0 : 0 ≤ d.tmod (m : Int) := Int.tmod_nonneg _ hdb.1
            have hq1 := Int.tmod_lt_of_pos d (show (0 : Int) < (m : Int) by omega)
            obtain ⟨q, hq⟩ : ∃ q : Nat, q = (d.tmod (m : Int)).toNat := ⟨_, rfl⟩
            have e6 : d.tmod (m : Int) = (q : Int) := by omega
            obtain ⟨r, hr⟩ : ∃ r : Nat, r = q + 1 := ⟨_, rfl⟩
            have e7 : 1 + (q : Int) = (r : Int) := by omega
            have e8 : IntKind.i64.wrap d = d := IntWalk.i64_in _ (by omega)
            have e9 : ¬ (m : Int) = 0 := by omega
            have hr1 : 1 ≤ r ∧ r ≤ m := by omega
            have hq50 : q < 50 := by omega
            have hrl : (r : Int) < (m1 : Int) := by have := HMM.out; omega
            have hr0 : (0 : Int) ≤ (r : Int) := by omega
            have HR1 := Lib.hid hr1
            have hrz : (r : Int) ≠ 0 := by omega
            have hmk := HM.out.2.2 r hr1.1 hr1.2
            have HUL : Hid (U.length = m1) := Lib.hid (by rw [HM.out.2.1, HMM.out])
            have HRM : Hid (r < m1) := Lib.hid (by have := HMM.out; omega)
            clear k1 hd hq0 hq1 hq hr hlt hk hfk hr1 hdb
            cases hh : heldB K (r : Int) with
            | true =>
              rw [hh] at hmk
              have QU : Hid (∀ W, Rx w t K F R u m1 U (.slice pf F.length cf) F W → Calls Try.prog 21 #[.pointer (some ⟨t, 0, none⟩), .int .i64 (r : Int)] W fun e w' => e = .returned (.int .i64 0) ∧ Rx w t (unK K (r : Int)) (F ++ [(r : Int)]) R u m1 U (.slice pf F.length cf) F w') := Lib.hid fun W h => rx_un h (r : Int) hh
              have HM2 := Lib.hid (mk_un HM.out HR1.out.1 HR1.out.2)
              have HMK := Lib.hid hmk
              clear hh hmk hrz
              go_upto_region 20 with (go_at_call 21; (with_reducible refine (QU.out _ HX.out).mono ?_); rintro e w5 ⟨rfl, hf⟩; have HX5 := Lib.hid hf; clear hf)
              clear hcd hg1l
              have hat := HX5.out.at HUL.out r HRM.out
              rw [HMK.out] at hat
              have a0 := hat.1
              have a1 := hat.2.1
              have a2 := hat.2.2
              clear hat
              go_upto_region 23 with fail
              have HX6 := Lib.hid (HX5.out.step ((Ch.refl [] w5).alloc (.cells #[.int .i64 (r : Int)] 3)))
              have HO6 := Lib.hid HX6.out.frr
              have HC6 : Hid ((w5.alloc (.cells #[.int .i64 (r : Int)] 3)).cell? ⟨w5.heap.size, 0, none⟩ = some (.int .i64 (r : Int))) := Lib.hid ((Blk.new w5 3 #[.int .i64 (r : Int)] _ rfl).cell 0)
              have HZ6 : Hid (w.heap.size ≤ (w5.alloc (.cells #[.int .i64 (r : Int)] 3)).heap.size ∧ F.length ≤ 1000000) := Lib.hid ⟨HX6.out.chw.size, by have := HK.out; have := HL100.out; omega⟩
              clear a0 a1 a2
              go_upto_region 24 with (at_builtin; refine append_int rfl _ _ rfl w.heap.size _ F rfl HO6.out ⟨w5.heap.size, 0, none⟩ (r : Int) rfl HC6.out HZ6.out.2 HZ6.out.1 ?_; intro v' W' ho' hc' hg')
              obtain ⟨p2, c2, rfl⟩ := ownB_form ho'
              have HX7 : Hid (Rx w t (unK K (r : Int)) (F ++ [(r : Int)]) R u m1 U (.slice p2 (F.length + 1) c2) (F ++ [(r : Int)]) W') := Lib.hid (HX6.out.grow hc' (by simpa using ho') (fun y hy => by rcases hg' y (by simpa using hy) with z | z; exact .inl z; right; simp at z ⊢; omega))
              have hat := HX7.out.at HUL.out r HRM.out
              rw [HMK.out] at hat
              have a0 := hat.1
              have a1 := hat.2.1
              have a2 := hat.2.2
              have HX8 := Lib.hid (HX7.out.mark r false)
              clear hat ho' hc' hg'
              go_wp2
              go_roundw
              case rel => exact ⟨k + 1, unK K (r : Int), F ++ [(r : Int)], U.set r false, p2, c2, by have := HK.out; omega, by have := HK.out; simp; omega, by simp, by go_num, by simpa using HX8, HM2⟩
              case measure => have := HK.out; simp [intOf]; omega
            | false =>
              rw [hh] at hmk
              have QU : Hid (∀ W, Rx w t K F R u m1 U (.slice pf F.length cf) F W → Calls Try.prog 21 #[.pointer (some ⟨t, 0, none⟩), .int .i64 (r : Int)] W fun e w' => e = .returned (.int .i64 6) ∧ Rx w t K F R u m1 U (.slice pf F.length cf) F w') := Lib.hid fun W h => rx_unbad h (r : Int) hh hrz
              have HMK := Lib.hid hmk
              have HMK0 := Lib.hid hh
              clear hh hmk hrz
              go_upto_region 20 with (go_at_call 21; (with_reducible refine (QU.out _ HX.out).mono ?_); rintro e w5 ⟨rfl, hf⟩; have HX5 := Lib.hid hf; clear hf)
              clear hcd hg1l
              have hat := HX5.out.at HUL.out r HRM.out
              rw [HMK.out] at hat
              have a0 := hat.1
              have a1 := hat.2.1
              have a2 := hat.2.2
              have HX8 := Lib.hid (HX5.out.mark r false)
              have HM8 := Lib.hid (mk_no HM.out r HMK0.out)
              clear hat
              go_wp2
              go_roundw
              case rel => exact ⟨k + 1, K, F, U.set r false, pf, cf, by have := HK.out; omega, by have := HK.out; omega, rfl, by go_num, HX8, HM8⟩
              case measure => have := HK.out; simp [intOf]; omega
          · have hi1 : ¬ (k : Int) < (l0.length : Int) := by omega
            have HFB : Hid (F.length ≤ 100 ∧ K.length = m) := Lib.hid ⟨by have := HL100.out; omega, HM.out.1⟩
            have e5 : IntKind.i64.wrap ((F.length : Int) - 1) = (F.length : Int) - 1 := IntWalk.i64_in _ (by have := HFB.out; omega)
            have hfb : F.length ≤ 100 := HFB.out.1
            clear hlt hk hfk HM
            have HX1 : Hid (Rx w t K (F.take F.length) R u m1 U (.slice pf F.length cf) F wq) := Lib.hid (by rw [List.take_length]; exact HX.out)
            have HKM : Hid (K.length = m) := Lib.hid HFB.out.2
            go_wp2
            go_loopw [16] (fun v16 wr => ∃ (j : Nat) (K : List V5), j ≤ F.length ∧ v16 = .int .i64 ((j : Int) - 1) ∧ Hid (Rx w t K (F.take j) R u m1 U (.slice pf F.length cf) F wr) ∧ Hid (K.length = m)) (fun v16 _ => (intOf v16 + 1).toNat)
            case atStart => exact ⟨F.length, K, Nat.le_refl _, by go_num, HX1, HKM⟩
            case round =>
              obtain ⟨j, K2, hj, rfl, HX, HKM⟩ := hrel
              rename World => wz
              cases j with
              | zero =>
                have QR : Hid (∀ W, Rx w t K2 [] R u m1 U (.slice pf F.length cf) F W → Calls Try.prog 18 #[.pointer (some ⟨t, 0, none⟩), .agg #[.int .i64 8, .int .i64 0, .int .i64 0, .string ⟨#[]⟩, .int .i64 5]] W fun e w' => e = .returned (.tuple #[.int .i64 (m1 : Int), .int .i64 0]) ∧ Rx w t (K2 ++ [o5]) [] R u m1 U (.slice pf F.length cf) F w') := Lib.hid fun W h => by
                  have := rx_ref h (by have := HKM.out; have := HMM.out; simp; omega)
                  rw [show refR K2 [] = (m1 : Int) by have := HKM.out; have := HMM.out; simp [refR]; omega] at this
                  exact this
                have QL : Hid (∀ W, Rx w t (K2 ++ [o5]) [] R u m1 U (.slice pf F.length cf) F W → Calls Try.prog 17 #[.pointer (some ⟨t, 0, none⟩)] W fun e w' => e = .returned (.int .i64 (m1 : Int)) ∧ Rx w t (K2 ++ [o5]) [] R u m1 U (.slice pf F.length cf) F w') := Lib.hid fun W h => by
                  have := rx_len h
                  rw [show (((K2 ++ [o5]).length : Nat) : Int) - ((([] : List Int).length : Nat) : Int) = (m1 : Int) by have := HKM.out; have := HMM.out; simp; omega] at this
                  exact this
                have HXZ : Hid (Rx w t K2 [] R u m1 U (.slice pf F.length cf) F wz) := HX
                clear HX
                obtain ⟨z, hz⟩ : ∃ z : Int, z = ((0 : Nat) : Int) - 1 := ⟨_, rfl⟩
                rw [← hz]
                have hz0 : ¬ (0 : Int) ≤ z := by omega
                clear hz hj
                have wzc0 : wz.cell? ⟨R, 0, none⟩ = some (.int .i64 8) := HXZ.out.box.cell 0
                have wzc1 : wz.cell? ⟨R, 1, none⟩ = some (.int .i64 0) := HXZ.out.box.cell 1
                have wzc2 : wz.cell? ⟨R, 2, none⟩ = some (.int .i64 0) := HXZ.out.box.cell 2
                have wzc3 : wz.cell? ⟨R, 3, none⟩ = some (.string ⟨#[]⟩) := HXZ.out.box.cell 3
                have wzc4 : wz.cell? ⟨R, 4, none⟩ = some (.int .i64 5) := HXZ.out.box.cell 4
                have wzl := HXZ.out.box.lt
                go_wp2_with (first | (go_at_call 18; (with_reducible refine (QR.out _ HXZ.out).mono ?_); rintro e w6 ⟨rfl, hf⟩; have HX6 := Lib.hid hf; clear hf; clear wzc0 wzc1 wzc2 wzc3 wzc4 wzl) | (go_at_call 17; (with_reducible refine (QL.out _ HX6.out).mono ?_); rintro e w7 ⟨rfl, hf⟩; have HX7 := Lib.hid hf; clear hf) | (go_at_call 11; (with_reducible refine (QA.out _).mono ?_); rintro e w8 ⟨rfl, hs⟩; have HC8 := Lib.hid (HX7.out.chw.trans hs); clear hs))
                go_ret
                exact ⟨rfl, HC8.out.below⟩
              | succ j =>
                obtain ⟨x, hx⟩ : ∃ x, F[j]? = some x := ⟨_, List.getElem?_eq_getElem (by omega)⟩
                obtain ⟨q1, q2, q3⟩ := ref_take K2 hx
                have QR : Hid (∀ W, Rx w t K2 (F.take (j + 1)) R u m1 U (.slice pf F.length cf) F W → Calls Try.prog 18 #[.pointer (some ⟨t, 0, none⟩), .agg #[.int .i64 8, .int .i64 0, .int .i64 0, .string ⟨#[]⟩, .int .i64 5]] W fun e w' => e = .returned (.tuple #[.int .i64 x, .int .i64 0]) ∧ Rx w t (refK K2 (F.take (j + 1)) o5) (F.take j) R u m1 U (.slice pf F.length cf) F w') := Lib.hid fun W h => by
                  have := rx_ref h (by have := HKM.out; simp; omega)
                  rw [q1, q2] at this
                  exact this
                have HKM2 : Hid ((refK K2 (F.take (j + 1)) o5).length = m) := Lib.hid (q3.trans HKM.out)
                have HXZ : Hid (Rx w t K2 (F.take (j + 1)) R u m1 U (.slice pf F.length cf) F wz) := HX
                clear HX q1 q2 q3
                obtain ⟨gf, hgf⟩ : ∃ gf, pf = some ⟨gf, 0, none⟩ := by
                  rcases form_row HXZ.out.frr with ⟨y1, y2⟩ | ⟨g, c, y⟩
                  · omega
                  · injection y with y; exact ⟨g, y⟩
                subst hgf
                rw [show (((j + 1 : Nat) : Int) - 1) = (j : Int) by omega]
                have dk : (0 : Int) ≤ (j : Int) := by omega
                have dj : (j : Int) < (F.length : Int) := by omega
                have di : IntKind.i64.wrap ((j : Int) - 1) = (j : Int) - 1 := IntWalk.i64_in _ (by omega)
                have HJ : Hid (j + 1 ≤ F.length ∧ F[j]? = some x) := Lib.hid ⟨hj, hx⟩
                clear hj hx
                have wzc0 : wz.cell? ⟨R, 0, none⟩ = some (.int .i64 8) := HXZ.out.box.cell 0
                have wzc1 : wz.cell? ⟨R, 1, none⟩ = some (.int .i64 0) := HXZ.out.box.cell 1
                have wzc2 : wz.cell? ⟨R, 2, none⟩ = some (.int .i64 0) := HXZ.out.box.cell 2
                have wzc3 : wz.cell? ⟨R, 3, none⟩ = some (.string ⟨#[]⟩) := HXZ.out.box.cell 3
                have wzc4 : wz.cell? ⟨R, 4, none⟩ = some (.int .i64 5) := HXZ.out.box.cell 4
                have wzl := HXZ.out.box.lt
                go_upto_region 29 with (go_at_call 18; (with_reducible refine (QR.out _ HXZ.out).mono ?_); rintro e w6 ⟨rfl, hf⟩; have HX6 := Lib.hid hf; clear hf)
                clear wzc0 wzc1 wzc2 wzc3 wzc4 wzl
                have HG : w6.cell? ⟨gf, j, none⟩ = some (.int .i64 x) := by
                  rw [HX6.out.frr.cellAt j (by have := HJ.out.1; omega)]
                  simp [iC, HJ.out.2]
                have hgl : gf < w6.heap.size := (own_lo (g := gf) HX6.out.frr (mem_ob.2 rfl)).2
                go_wp2
                go_roundw
                case rel => exact ⟨j, refK K2 (F.take (j + 1)) o5, by have := HJ.out.1; omega, by go_num, HX6, HKM2⟩
                case measure => simp [intOf]
end Go.Proofs.Ytbfeahafogbbhaa
