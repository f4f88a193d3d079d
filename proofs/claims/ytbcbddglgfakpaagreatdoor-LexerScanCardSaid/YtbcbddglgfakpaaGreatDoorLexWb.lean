/- The reference of layer 3: gaps, hexadecimal digits. -/
import Derived.Test.YtbcbddglgfakpaaGreatDoorLexE
import Derived.Test.YtbcbddglgfakpaaGreatDoorLexC

namespace Go.Proofs.YtbcbddglgfakpaaGreatDoor
open Go.RowKit M3
set_option linter.unusedVariables false
theorem sk_nil : sk [] = (0, 0) := by decide
theorem count_no {l : List UInt8} (h : ∀ c ∈ l, c ≠ 10) : Lib.countByte l 10 = 0 := List.count_eq_zero.2 fun hc => h _ hc rfl
theorem count_cons (c : UInt8) (l : List UInt8) : Lib.countByte (c :: l) 10 = (if c = 10 then 1 else 0) + Lib.countByte l 10 := by
  unfold Lib.countByte
  rw [List.count_cons]
  by_cases h : c = 10
  · subst h; simp; omega
  · rw [if_neg h, if_neg (by simpa using h)]; omega
theorem count_app (l m : List UInt8) : Lib.countByte (l ++ m) 10 = Lib.countByte l 10 + Lib.countByte m 10 := List.count_append
theorem sk_bl {c : UInt8} (t : List UInt8) (h : has blL c = true) : sk (c :: t) = (1 + (sk t).1, (if c = 10 then 1 else 0) + (sk t).2) := by
  have e : cntP (has blL) (c :: t) = cntP (has blL) t + 1 := cntP_yes h
  cases hp : Lib.hasPrefix (t.drop (cntP (has blL) t)) [45, 45] with
  | true =>
    have hp' : Lib.hasPrefix ((c :: t).drop (cntP (has blL) (c :: t))) [45, 45] = true := by rw [e, List.drop_succ_cons]; exact hp
    rw [sk_yes hp', sk_yes hp, e]
    generalize cntP (has blL) t = n
    simp only [List.drop_succ_cons, List.take_succ_cons, count_cons]
    generalize cntP (nah [10]) (t.drop n) = m
    rw [show n + 1 + m = (n + m) + 1 by omega, List.drop_succ_cons]
    refine Prod.ext ?_ ?_
    · show n + m + 1 + _ = 1 + (n + m + _); omega
    · show _ + _ + _ = _ + (_ + _); omega
  | false =>
    have hp' : Lib.hasPrefix ((c :: t).drop (cntP (has blL) (c :: t))) [45, 45] = false := by rw [e, List.drop_succ_cons]; exact hp
    rw [sk_no hp', sk_no hp, e, List.take_succ_cons, count_cons]
    refine Prod.ext ?_ rfl
    show _ + 1 = 1 + _; omega
theorem sk_non {c : UInt8} {t : List UInt8} (h1 : has blL c = false) (h2 : Lib.hasPrefix (c :: t) [45, 45] = false) : sk (c :: t) = (0, 0) := by
  have h0 : cntP (has blL) (c :: t) = 0 := cntP_no h1
  rw [sk_no (by rw [h0, List.drop_zero]; exact h2), h0]
  rfl
theorem sk_rem (t : List UInt8) : sk (45 :: 45 :: t) = (cntP (nah [10]) (45 :: 45 :: t) + (sk ((45 :: 45 :: t).drop (cntP (nah [10]) (45 :: 45 :: t)))).1, (sk ((45 :: 45 :: t).drop (cntP (nah [10]) (45 :: 45 :: t)))).2) := by
  have h0 : cntP (has blL) (45 :: 45 :: t) = 0 := cntP_no (by decide)
  have hp : Lib.hasPrefix ((45 :: 45 :: t).drop (cntP (has blL) (45 :: 45 :: t))) [45, 45] = true := by
    rw [h0, List.drop_zero]; unfold Lib.hasPrefix; simp [List.isPrefixOf]
  rw [sk_yes hp, h0, List.drop_zero, List.take_zero, Nat.zero_add]
  refine Prod.ext rfl ?_
  show Lib.countByte [] 10 + _ = _
  rw [show Lib.countByte [] 10 = 0 from rfl, Nat.zero_add]
theorem nah_take (x : List UInt8) : Lib.countByte (x.take (cntP (nah [10]) x)) 10 = 0 := count_no fun c hc e => by
  have := cntP_take (nah [10]) x c hc
  rw [e] at this
  exact absurd this (by decide)
theorem count_split (x : List UInt8) (n : Nat) : Lib.countByte x 10 = Lib.countByte (x.take n) 10 + Lib.countByte (x.drop n) 10 := by
  rw [← count_app, List.take_append_drop]
theorem text_cases (x : List UInt8) : x = [] ∨ (∃ c t, x = c :: t ∧ has blL c = true) ∨ (∃ t, x = 45 :: 45 :: t) ∨ (∃ c t, x = c :: t ∧ has blL c = false ∧ Lib.hasPrefix x [45, 45] = false) := by
  match x with
  | [] => exact .inl rfl
  | c :: t =>
    cases h : has blL c with
    | true => exact .inr (.inl ⟨c, t, rfl, h⟩)
    | false =>
      cases hp : Lib.hasPrefix (c :: t) [45, 45] with
      | true => obtain ⟨u, hu⟩ := M3.pre2 hp; exact .inr (.inr (.inl ⟨u, hu⟩))
      | false => exact .inr (.inr (.inr ⟨c, t, rfl, h, rfl⟩))
theorem sk_lines (n : Nat) : ∀ x : List UInt8, x.length < n → (sk x).2 = Lib.countByte (x.take (sk x).1) 10 := by
  induction n with
  | zero => intro x h; omega
  | succ n ih =>
    intro x hx
    rcases text_cases x with rfl | ⟨c, t, rfl, hc⟩ | ⟨t, rfl⟩ | ⟨c, t, rfl, hc, hp⟩
    · rfl
    · have i := ih t (by simp at hx; omega)
      rw [sk_bl t hc]
      show _ + _ = Lib.countByte ((c :: t).take (1 + (sk t).1)) 10
      rw [Nat.add_comm 1, List.take_succ_cons, count_cons, i]
    · have h2 : 2 ≤ cntP (nah [10]) (45 :: 45 :: t) := by rw [cntP_yes (by decide), cntP_yes (by decide)]; omega
      have hle := cntP_le (nah [10]) (45 :: 45 :: t)
      have h0 := nah_take (45 :: 45 :: t)
      have i := ih ((45 :: 45 :: t).drop (cntP (nah [10]) (45 :: 45 :: t))) (by rw [List.length_drop]; omega)
      rw [sk_rem t]
      generalize 45 :: 45 :: t = x at *
      generalize cntP (nah [10]) x = m at *
      show (sk (x.drop m)).2 = Lib.countByte (x.take (m + (sk (x.drop m)).1)) 10
      rw [List.take_add, count_app, h0, i, Nat.zero_add]
    · rw [sk_non hc hp]; rfl
theorem ne2 (c : UInt8) (n : Nat) (hn : n < 256) (h : c ≠ UInt8.ofNat n) : ((c.toNat : Int) == (n : Int)) = false := by
  rw [beq_eq_false_iff_ne]; intro e; exact h (UInt8.toNat_inj.1 (by simp; omega))

set_option maxHeartbeats 8000000 in
set_option maxRecDepth 100000 in
theorem rgap_any (s : ByteArray) (a : Nat) (w : World) (hs : s.size ≤ 4000000000) (ha : a ≤ s.size) :
    Calls Tryz.prog 10 #[.string s, .int .i64 (a : Int)] w fun e w' => e = .returned (.int .i64 ((a + (sk (s.data.toList.drop a)).1 : Nat) : Int)) ∧ w = w' := by
  have hll : s.data.toList.length = s.size := by simp
  obtain ⟨G, hG⟩ : ∃ G, a + (sk (s.data.toList.drop a)).1 = G := ⟨_, rfl⟩
  rw [hG]
  go_enter Tryz.func10, Tryz.ntmps10
  go_wp2
  go_loop [1] (fun v1 => ∃ k : Nat, a ≤ k ∧ k ≤ s.size ∧ v1 = .int .i64 (k : Int) ∧ Hid (k + (sk (s.data.toList.drop k)).1 = G)) (fun v1 => s.size - (intOf v1).toNat)
  case atStart => exact ⟨a, Nat.le_refl _, ha, rfl, Lib.hid hG⟩
  case round =>
    obtain ⟨k, hak, hks, rfl, HG⟩ := hrel
    by_cases hlt : k < s.size
    · have hlt' : (k : Int) < (s.size : Int) := by omega
      have hk0 : 0 ≤ (k : Int) := by omega
      have hdr : s.data.toList.drop k = s[k] :: s.data.toList.drop (k + 1) := by rw [List.drop_eq_getElem_cons (by omega)]; rfl
      obtain ⟨c, hc⟩ : ∃ c, s[k] = c := ⟨_, rfl⟩
      have hci : (s[k].toNat : Int) = (c.toNat : Int) := by rw [hc]
      have hgg := HG.out
      rw [hdr, hc] at hgg
      cases hbl : has blL c with
      | true =>
        have hg2 := hgg
        rw [sk_bl _ hbl] at hg2
        have HN : Hid (k + 1 + (sk (s.data.toList.drop (k + 1))).1 = G) := Lib.hid (by simp only [] at hg2; omega)
        have hcc : c = 32 ∨ c = 9 ∨ c = 10 ∨ c = 13 := by unfold has blL at hbl; simpa using hbl
        clear hgg hg2 hdr HG
        rcases hcc with hc0 | hc1 | hc2 | hc3
        · have e0 : ((c.toNat : Int) == 32) = true := by rw [hc0]; rfl
          clear hbl hc0
          go_wp2
          go_round
          case rel => exact ⟨k + 1, by omega, by omega, by go_num, HN⟩
          case measure => simp [intOf]; omega
        · have e0 : ((c.toNat : Int) == 32) = false := by rw [hc1]; rfl
          have e1 : ((c.toNat : Int) == 9) = true := by rw [hc1]; rfl
          clear hbl hc1
          go_wp2
          go_round
          case rel => exact ⟨k + 1, by omega, by omega, by go_num, HN⟩
          case measure => simp [intOf]; omega
        · have e0 : ((c.toNat : Int) == 32) = false := by rw [hc2]; rfl
          have e1 : ((c.toNat : Int) == 9) = false := by rw [hc2]; rfl
          have e2 : ((c.toNat : Int) == 10) = true := by rw [hc2]; rfl
          clear hbl hc2
          go_wp2
          go_round
          case rel => exact ⟨k + 1, by omega, by omega, by go_num, HN⟩
          case measure => simp [intOf]; omega
        · have e0 : ((c.toNat : Int) == 32) = false := by rw [hc3]; rfl
          have e1 : ((c.toNat : Int) == 9) = false := by rw [hc3]; rfl
          have e2 : ((c.toNat : Int) == 10) = false := by rw [hc3]; rfl
          have e3 : ((c.toNat : Int) == 13) = true := by rw [hc3]; rfl
          clear hbl hc3
          go_wp2
          go_round
          case rel => exact ⟨k + 1, by omega, by omega, by go_num, HN⟩
          case measure => simp [intOf]; omega
      | false =>
        have hnn : c ≠ 32 ∧ c ≠ 9 ∧ c ≠ 10 ∧ c ≠ 13 := by unfold has blL at hbl; simpa using hbl
        obtain ⟨n0, n1, n2, n3⟩ := hnn
        have ne : ∀ n : Nat, n < 256 → c ≠ UInt8.ofNat n → ((c.toNat : Int) == (n : Int)) = false := fun n hn h => by
          rw [beq_eq_false_iff_ne]; intro e; exact h (UInt8.toNat_inj.1 (by simp; omega))
        have e0 : ((c.toNat : Int) == 32) = false := ne 32 (by decide) n0
        have e1 : ((c.toNat : Int) == 9) = false := ne 9 (by decide) n1
        have e2 : ((c.toNat : Int) == 10) = false := ne 10 (by decide) n2
        have e3 : ((c.toNat : Int) == 13) = false := ne 13 (by decide) n3
        by_cases hm : c = 45
        · have e4 : ((c.toNat : Int) == 45) = true := by rw [hm]; rfl
          by_cases hk1 : k + 1 < s.size
          · have hk1' : (k : Int) + 1 < (s.size : Int) := by omega
            have hk10 : 0 ≤ (k : Int) + 1 := by omega
            have hdr2 : s.data.toList.drop (k + 1) = s[k + 1] :: s.data.toList.drop (k + 1 + 1) := by rw [List.drop_eq_getElem_cons (by omega)]; rfl
            obtain ⟨d, hd⟩ : ∃ d, s[k + 1] = d := ⟨_, rfl⟩
            have hdi : (s[k + 1].toNat : Int) = (d.toNat : Int) := by rw [hd]
            by_cases hd4 : d = 45
            · have e5 : ((d.toNat : Int) == 45) = true := by rw [hd4]; rfl
              have hr := sk_rem (s.data.toList.drop (k + 1 + 1))
              have hrr : (45 : UInt8) :: 45 :: s.data.toList.drop (k + 1 + 1) = s.data.toList.drop k := by rw [hdr, hc, hm, hdr2, hd, hd4]
              rw [hrr] at hr
              have hmle := cntP_le (nah [10]) (s.data.toList.drop k)
              rw [List.length_drop, hll] at hmle
              have hm1 : 0 < cntP (nah [10]) (s.data.toList.drop k) := by rw [hdr, hc, hm, cntP_yes (by decide)]; omega
              obtain ⟨m, hmm⟩ : ∃ m, cntP (nah [10]) (s.data.toList.drop k) = m := ⟨_, rfl⟩
              rw [hmm] at hr hmle hm1
              rw [List.drop_drop] at hr
              have HN : Hid (k + m + (sk (s.data.toList.drop (k + m))).1 = G) := Lib.hid (by
                have := HG.out; rw [hr] at this; simp only [] at this; omega)
              have HM : Hid (k + cntP (nah [10]) (s.data.toList.drop k) = k + m) := Lib.hid (by rw [hmm])
              clear hgg hdr hdr2 hr hrr HG hmm hd4 hm n0 n1 n2 n3 ne hbl
              go_wp2
              go_loop [1] (fun v1 => ∃ j : Nat, k ≤ j ∧ j ≤ s.size ∧ v1 = .int .i64 (j : Int) ∧ Hid (j + cntP (nah [10]) (s.data.toList.drop j) = k + m)) (fun v1 => s.size - (intOf v1).toNat)
              case atStart => exact ⟨k, Nat.le_refl _, hks, rfl, HM⟩
              case round =>
                obtain ⟨j, hkj, hjs, rfl, HJ⟩ := hrel
                by_cases hjl : j < s.size
                · have hjl' : (j : Int) < (s.size : Int) := by omega
                  have hj0 : 0 ≤ (j : Int) := by omega
                  have hj := HJ.out
                  have hdr : s.data.toList.drop j = s[j] :: s.data.toList.drop (j + 1) := by rw [List.drop_eq_getElem_cons (by omega)]; rfl
                  obtain ⟨f, hf⟩ : ∃ f, s[j] = f := ⟨_, rfl⟩
                  have hfi : (s[j].toNat : Int) = (f.toNat : Int) := by rw [hf]
                  rw [hdr, hf] at hj
                  by_cases hf10 : f = 10
                  · have e6 : ((f.toNat : Int) != 10) = false := by rw [hf10]; rfl
                    rw [hf10, cntP_no (by decide)] at hj
                    have hjm : j = k + m := by omega
                    subst hjm
                    clear hdr HJ hj hf10
                    go_wp2
                    go_round
                    case rel => exact ⟨k + m, by omega, by omega, rfl, HN⟩
                    case measure => simp [intOf]; omega
                  · have e6 : ((f.toNat : Int) != 10) = true := by rw [bne_iff_ne]; intro e; exact hf10 (UInt8.toNat_inj.1 (by show f.toNat = 10; omega))
                    rw [cntP_yes (by unfold nah has; simpa using hf10)] at hj
                    have HJ2 : Hid (j + 1 + cntP (nah [10]) (s.data.toList.drop (j + 1)) = k + m) := Lib.hid (by omega)
                    clear hdr HJ hj hf10
                    go_wp2
                    go_round
                    case rel => exact ⟨j + 1, by omega, by omega, by go_num, HJ2⟩
                    case measure => simp [intOf]; omega
                · have hjl' : ¬ (j : Int) < (s.size : Int) := by omega
                  have hj := HJ.out
                  rw [List.drop_eq_nil_of_le (by omega)] at hj
                  have hjm : j = k + m := by simp only [cntP_nil] at hj; omega
                  subst hjm
                  clear HJ hj
                  go_wp2
                  go_round
                  case rel => exact ⟨k + m, by omega, by omega, rfl, HN⟩
                  case measure => simp [intOf]; omega
            · have e5 : ((d.toNat : Int) == 45) = false := ne2 d 45 (by decide) hd4
              have hGk : G = k := by
                rw [sk_non hbl (by rw [hdr2, hd]; unfold Lib.hasPrefix; simp [List.isPrefixOf]; intro _ e; exact hd4 e.symm)] at hgg
                simp only [] at hgg; omega
              subst hGk
              clear hgg hdr hdr2 HG ne n0 n1 n2 n3 hbl hm hd4
              go_wp2
              go_ret
              exact ⟨rfl, rfl⟩
          · have hk1' : ¬ (k : Int) + 1 < (s.size : Int) := by omega
            have hGk : G = k := by
              rw [sk_non hbl (by rw [List.drop_eq_nil_of_le (by omega)]; unfold Lib.hasPrefix; simp [List.isPrefixOf])] at hgg
              simp only [] at hgg; omega
            subst hGk
            clear hgg hdr HG ne n0 n1 n2 n3 hbl hm
            go_wp2
            go_ret
            exact ⟨rfl, rfl⟩
        · have e4 : ((c.toNat : Int) == 45) = false := ne 45 (by decide) hm
          have hGk : G = k := by
            rw [sk_non hbl (by unfold Lib.hasPrefix; simp [List.isPrefixOf]; intro e; exact absurd e.symm hm)] at hgg
            simp only [] at hgg; omega
          subst hGk
          clear hgg hdr HG ne n0 n1 n2 n3 hbl hm
          go_wp2
          go_ret
          exact ⟨rfl, rfl⟩
    · have hlt' : ¬ (k : Int) < (s.size : Int) := by omega
      have hGk : G = k := by
        have := HG.out
        rw [List.drop_eq_nil_of_le (by omega), sk_nil] at this
        simp only [] at this; omega
      subst hGk
      clear HG
      go_wp2
      go_ret
      exact ⟨rfl, rfl⟩
def twoL : List (List UInt8) := [[47, 47], [60, 60], [62, 62], [61, 61], [126, 61], [60, 61], [62, 61], [58, 58], [46, 46]]
def oneL : List UInt8 := [43, 45, 42, 47, 37, 94, 35, 38, 126, 124, 60, 62, 61, 40, 41, 123, 125, 91, 93, 59, 58, 44, 46]
theorem sy3 : (symsL.all fun k => decide (k.length < 3) || (k == [46, 46, 46])) = true := by decide
theorem sy2 : (symsL.all fun k => decide (k.length ≠ 2) || twoL.contains k) = true := by decide
theorem sy1 : (symsL.all fun k => decide (k.length ≠ 1) || oneL.contains (k.headD 0)) = true := by decide
theorem sym_mem {l : List UInt8} (h : sym l = true) : l ∈ symsL := by
  unfold sym at h
  obtain ⟨k, hk, e⟩ := List.any_eq_true.1 h
  rw [eq_of_beq e]; exact hk
theorem sym_no3 {l : List UInt8} (hl : l.length = 3) (h : l ≠ [46, 46, 46]) : sym l = false := by
  cases hs : sym l with
  | false => rfl
  | true =>
    have := List.all_eq_true.1 sy3 l (sym_mem hs)
    simp [hl] at this
    exact absurd this h
theorem sym_no2 {l : List UInt8} (hl : l.length = 2) (h : twoL.contains l = false) : sym l = false := by
  cases hs : sym l with
  | false => rfl
  | true =>
    have := List.all_eq_true.1 sy2 l (sym_mem hs)
    rw [h, hl] at this
    exact absurd this (by decide)
theorem sym_no1 {c : UInt8} (h : oneL.contains c = false) : sym [c] = false := by
  cases hs : sym [c] with
  | false => rfl
  | true =>
    have := List.all_eq_true.1 sy1 _ (sym_mem hs)
    rw [show [c].headD 0 = c from rfl, h] at this
    exact absurd this (by simp)
theorem two_sym : (twoL.all fun k => sym k) = true := by decide
theorem one_sym : (oneL.all fun c => sym [c]) = true := by decide
theorem symN3 {l : List UInt8} (h : 3 ≤ l.length) (h3 : l.take 3 = [46, 46, 46]) : symN l = 3 := by
  unfold symN; rw [show min 3 l.length = 3 by omega]; exact symD_yes (by decide) (by rw [h3]; decide)
theorem symN_d2 {l : List UInt8} (h2 : 2 ≤ l.length) (h3 : 3 ≤ l.length → l.take 3 ≠ [46, 46, 46]) : symN l = symD l 2 := by
  unfold symN
  by_cases h : 3 ≤ l.length
  · rw [show min 3 l.length = 3 by omega]
    exact symD_no (sym_no3 (by rw [List.length_take]; omega) (h3 h))
  · rw [show min 3 l.length = 2 by omega]
theorem symN2 {l k : List UInt8} (h2 : 2 ≤ l.length) (h3 : 3 ≤ l.length → l.take 3 ≠ [46, 46, 46]) (hk : twoL.contains k = true) (e : l.take 2 = k) : symN l = 2 := by
  rw [symN_d2 h2 h3]
  refine symD_yes (by decide) ?_
  rw [e]
  exact List.all_eq_true.1 two_sym k (by simpa using hk)
theorem symN_d1 {l : List UInt8} (h1 : 1 ≤ l.length) (h3 : 3 ≤ l.length → l.take 3 ≠ [46, 46, 46]) (h2 : 2 ≤ l.length → twoL.contains (l.take 2) = false) : symN l = symD l 1 := by
  by_cases h : 2 ≤ l.length
  · rw [symN_d2 h h3]
    exact symD_no (sym_no2 (by rw [List.length_take]; omega) (h2 h))
  · unfold symN; rw [show min 3 l.length = 1 by omega]
theorem symN1 {l : List UInt8} (h1 : 1 ≤ l.length) (h3 : 3 ≤ l.length → l.take 3 ≠ [46, 46, 46]) (h2 : 2 ≤ l.length → twoL.contains (l.take 2) = false) : symN l = if oneL.contains (l.headD 0) = true then 1 else 0 := by
  rw [symN_d1 h1 h3 h2]
  match l, h1 with
  | c :: t, _ =>
    by_cases h : oneL.contains c = true
    · rw [if_pos (show oneL.contains ((c :: t).headD 0) = true from h)]
      exact symD_yes (by decide) (List.all_eq_true.1 one_sym c (by simpa using h))
    · rw [if_neg (show ¬ oneL.contains ((c :: t).headD 0) = true from h), symD_no (show sym ((c :: t).take (0 + 1)) = false from sym_no1 (by simpa using h))]
      rfl

set_option maxHeartbeats 8000000 in
set_option maxRecDepth 100000 in
theorem rsym_any (s : ByteArray) (w : World) (hs : s.size ≤ 4000000000) :
    Calls Tryz.prog 30 #[.string s] w fun e w' => e = .returned (.int .i64 (symN s.data.toList : Int)) ∧ w = w' := by
  have hll : s.data.toList.length = s.size := by simp
  by_cases h0 : s.size = 0
  · have l1 : ¬ 3 ≤ (s.size : Int) := by omega
    have l2 : ¬ 2 ≤ (s.size : Int) := by omega
    have l3 : ¬ 1 ≤ (s.size : Int) := by omega
    have HX : Hid (symN s.data.toList = 0) := Lib.hid (by rw [List.eq_nil_of_length_eq_zero (show s.data.toList.length = 0 by omega)]; rfl)
    go_enter Tryz.func30, Tryz.ntmps30
    go_wp2
    go_ret
    exact ⟨by rw [HX.out]; rfl, rfl⟩
  have l3 : 1 ≤ (s.size : Int) := by omega
  have hpos : 0 < s.size := by omega
  have hp' : (0 : Int) < (s.size : Int) := by omega
  have hh : s.data.toList.headD 0 = s[0] := by
    rw [List.headD_eq_head?_getD, List.head?_eq_getElem?, List.getElem?_eq_getElem (by omega)]; simp; rfl
  have e3 : (s.extract 0 3).toList = s.data.toList.take 3 := by rw [toList_data, ext_bs, bs_list]; simp
  have e2 : (s.extract 0 2).toList = s.data.toList.take 2 := by rw [toList_data, ext_bs, bs_list]; simp
  by_cases hA : 3 ≤ s.size ∧ s.data.toList.take 3 = [46, 46, 46]
  · have l1 : 3 ≤ (s.size : Int) := by omega
    have a3 : ((s.extract 0 3).toList == [46, 46, 46]) = true := by rw [e3, hA.2]; rfl
    have HX : Hid (symN s.data.toList = 3) := Lib.hid (symN3 (by omega) hA.2)
    go_enter Tryz.func30, Tryz.ntmps30
    go_wp2
    go_ret
    exact ⟨by rw [HX.out]; rfl, rfl⟩
  have h3 : 3 ≤ s.data.toList.length → s.data.toList.take 3 ≠ [46, 46, 46] := fun h e => hA ⟨by omega, e⟩
  have a3 : 3 ≤ s.size → ((s.extract 0 3).toList == [46, 46, 46]) = false := fun h => by rw [beq_eq_false_iff_ne, e3]; exact h3 (by omega)
  have H3 := Lib.hid h3
  clear h3 hA
  by_cases hB : 2 ≤ s.size ∧ twoL.contains (s.data.toList.take 2) = true
  · have l2 : 2 ≤ (s.size : Int) := by omega
    have HX : Hid (symN s.data.toList = 2) := Lib.hid (symN2 (by omega) H3.out hB.2 rfl)
    have hm : s.data.toList.take 2 ∈ twoL := by simpa using hB.2
    unfold twoL at hm
    rw [← e2] at hm
    clear hB e2 e3 hh
    simp only [List.mem_cons, List.not_mem_nil, or_false] at hm
    by_cases h3s : 3 ≤ s.size
    · have l1 : 3 ≤ (s.size : Int) := by omega
      have a3' := a3 h3s
      rcases hm with e0 | e1 | e2 | e3 | e4 | e5 | e6 | e7 | e8
      · have t0 : ((s.extract 0 2).toList == [47, 47]) = true := by rw [e0]; rfl
        clear e0 a3
        go_enter Tryz.func30, Tryz.ntmps30
        go_wp2
        go_ret
        exact ⟨by rw [HX.out]; rfl, rfl⟩
      · have t0 : ((s.extract 0 2).toList == [47, 47]) = false := by rw [e1]; rfl
        have t1 : ((s.extract 0 2).toList == [60, 60]) = true := by rw [e1]; rfl
        clear e1 a3
        go_enter Tryz.func30, Tryz.ntmps30
        go_wp2
        go_ret
        exact ⟨by rw [HX.out]; rfl, rfl⟩
      · have t0 : ((s.extract 0 2).toList == [47, 47]) = false := by rw [e2]; rfl
        have t1 : ((s.extract 0 2).toList == [60, 60]) = false := by rw [e2]; rfl
        have t2 : ((s.extract 0 2).toList == [62, 62]) = true := by rw [e2]; rfl
        clear e2 a3
        go_enter Tryz.func30, Tryz.ntmps30
        go_wp2
        go_ret
        exact ⟨by rw [HX.out]; rfl, rfl⟩
      · have t0 : ((s.extract 0 2).toList == [47, 47]) = false := by rw [e3]; rfl
        have t1 : ((s.extract 0 2).toList == [60, 60]) = false := by rw [e3]; rfl
        have t2 : ((s.extract 0 2).toList == [62, 62]) = false := by rw [e3]; rfl
        have t3 : ((s.extract 0 2).toList == [61, 61]) = true := by rw [e3]; rfl
        clear e3 a3
        go_enter Tryz.func30, Tryz.ntmps30
        go_wp2
        go_ret
        exact ⟨by rw [HX.out]; rfl, rfl⟩
      · have t0 : ((s.extract 0 2).toList == [47, 47]) = false := by rw [e4]; rfl
        have t1 : ((s.extract 0 2).toList == [60, 60]) = false := by rw [e4]; rfl
        have t2 : ((s.extract 0 2).toList == [62, 62]) = false := by rw [e4]; rfl
        have t3 : ((s.extract 0 2).toList == [61, 61]) = false := by rw [e4]; rfl
        have t4 : ((s.extract 0 2).toList == [126, 61]) = true := by rw [e4]; rfl
        clear e4 a3
        go_enter Tryz.func30, Tryz.ntmps30
        go_wp2
        go_ret
        exact ⟨by rw [HX.out]; rfl, rfl⟩
      · have t0 : ((s.extract 0 2).toList == [47, 47]) = false := by rw [e5]; rfl
        have t1 : ((s.extract 0 2).toList == [60, 60]) = false := by rw [e5]; rfl
        have t2 : ((s.extract 0 2).toList == [62, 62]) = false := by rw [e5]; rfl
        have t3 : ((s.extract 0 2).toList == [61, 61]) = false := by rw [e5]; rfl
        have t4 : ((s.extract 0 2).toList == [126, 61]) = false := by rw [e5]; rfl
        have t5 : ((s.extract 0 2).toList == [60, 61]) = true := by rw [e5]; rfl
        clear e5 a3
        go_enter Tryz.func30, Tryz.ntmps30
        go_wp2
        go_ret
        exact ⟨by rw [HX.out]; rfl, rfl⟩
      · have t0 : ((s.extract 0 2).toList == [47, 47]) = false := by rw [e6]; rfl
        have t1 : ((s.extract 0 2).toList == [60, 60]) = false := by rw [e6]; rfl
        have t2 : ((s.extract 0 2).toList == [62, 62]) = false := by rw [e6]; rfl
        have t3 : ((s.extract 0 2).toList == [61, 61]) = false := by rw [e6]; rfl
        have t4 : ((s.extract 0 2).toList == [126, 61]) = false := by rw [e6]; rfl
        have t5 : ((s.extract 0 2).toList == [60, 61]) = false := by rw [e6]; rfl
        have t6 : ((s.extract 0 2).toList == [62, 61]) = true := by rw [e6]; rfl
        clear e6 a3
        go_enter Tryz.func30, Tryz.ntmps30
        go_wp2
        go_ret
        exact ⟨by rw [HX.out]; rfl, rfl⟩
      · have t0 : ((s.extract 0 2).toList == [47, 47]) = false := by rw [e7]; rfl
        have t1 : ((s.extract 0 2).toList == [60, 60]) = false := by rw [e7]; rfl
        have t2 : ((s.extract 0 2).toList == [62, 62]) = false := by rw [e7]; rfl
        have t3 : ((s.extract 0 2).toList == [61, 61]) = false := by rw [e7]; rfl
        have t4 : ((s.extract 0 2).toList == [126, 61]) = false := by rw [e7]; rfl
        have t5 : ((s.extract 0 2).toList == [60, 61]) = false := by rw [e7]; rfl
        have t6 : ((s.extract 0 2).toList == [62, 61]) = false := by rw [e7]; rfl
        have t7 : ((s.extract 0 2).toList == [58, 58]) = true := by rw [e7]; rfl
        clear e7 a3
        go_enter Tryz.func30, Tryz.ntmps30
        go_wp2
        go_ret
        exact ⟨by rw [HX.out]; rfl, rfl⟩
      · have t0 : ((s.extract 0 2).toList == [47, 47]) = false := by rw [e8]; rfl
        have t1 : ((s.extract 0 2).toList == [60, 60]) = false := by rw [e8]; rfl
        have t2 : ((s.extract 0 2).toList == [62, 62]) = false := by rw [e8]; rfl
        have t3 : ((s.extract 0 2).toList == [61, 61]) = false := by rw [e8]; rfl
        have t4 : ((s.extract 0 2).toList == [126, 61]) = false := by rw [e8]; rfl
        have t5 : ((s.extract 0 2).toList == [60, 61]) = false := by rw [e8]; rfl
        have t6 : ((s.extract 0 2).toList == [62, 61]) = false := by rw [e8]; rfl
        have t7 : ((s.extract 0 2).toList == [58, 58]) = false := by rw [e8]; rfl
        have t8 : ((s.extract 0 2).toList == [46, 46]) = true := by rw [e8]; rfl
        clear e8 a3
        go_enter Tryz.func30, Tryz.ntmps30
        go_wp2
        go_ret
        exact ⟨by rw [HX.out]; rfl, rfl⟩
    · have l1 : ¬ 3 ≤ (s.size : Int) := by omega
      rcases hm with e0 | e1 | e2 | e3 | e4 | e5 | e6 | e7 | e8
      · have t0 : ((s.extract 0 2).toList == [47, 47]) = true := by rw [e0]; rfl
        clear e0 a3
        go_enter Tryz.func30, Tryz.ntmps30
        go_wp2
        go_ret
        exact ⟨by rw [HX.out]; rfl, rfl⟩
      · have t0 : ((s.extract 0 2).toList == [47, 47]) = false := by rw [e1]; rfl
        have t1 : ((s.extract 0 2).toList == [60, 60]) = true := by rw [e1]; rfl
        clear e1 a3
        go_enter Tryz.func30, Tryz.ntmps30
        go_wp2
        go_ret
        exact ⟨by rw [HX.out]; rfl, rfl⟩
      · have t0 : ((s.extract 0 2).toList == [47, 47]) = false := by rw [e2]; rfl
        have t1 : ((s.extract 0 2).toList == [60, 60]) = false := by rw [e2]; rfl
        have t2 : ((s.extract 0 2).toList == [62, 62]) = true := by rw [e2]; rfl
        clear e2 a3
        go_enter Tryz.func30, Tryz.ntmps30
        go_wp2
        go_ret
        exact ⟨by rw [HX.out]; rfl, rfl⟩
      · have t0 : ((s.extract 0 2).toList == [47, 47]) = false := by rw [e3]; rfl
        have t1 : ((s.extract 0 2).toList == [60, 60]) = false := by rw [e3]; rfl
        have t2 : ((s.extract 0 2).toList == [62, 62]) = false := by rw [e3]; rfl
        have t3 : ((s.extract 0 2).toList == [61, 61]) = true := by rw [e3]; rfl
        clear e3 a3
        go_enter Tryz.func30, Tryz.ntmps30
        go_wp2
        go_ret
        exact ⟨by rw [HX.out]; rfl, rfl⟩
      · have t0 : ((s.extract 0 2).toList == [47, 47]) = false := by rw [e4]; rfl
        have t1 : ((s.extract 0 2).toList == [60, 60]) = false := by rw [e4]; rfl
        have t2 : ((s.extract 0 2).toList == [62, 62]) = false := by rw [e4]; rfl
        have t3 : ((s.extract 0 2).toList == [61, 61]) = false := by rw [e4]; rfl
        have t4 : ((s.extract 0 2).toList == [126, 61]) = true := by rw [e4]; rfl
        clear e4 a3
        go_enter Tryz.func30, Tryz.ntmps30
        go_wp2
        go_ret
        exact ⟨by rw [HX.out]; rfl, rfl⟩
      · have t0 : ((s.extract 0 2).toList == [47, 47]) = false := by rw [e5]; rfl
        have t1 : ((s.extract 0 2).toList == [60, 60]) = false := by rw [e5]; rfl
        have t2 : ((s.extract 0 2).toList == [62, 62]) = false := by rw [e5]; rfl
        have t3 : ((s.extract 0 2).toList == [61, 61]) = false := by rw [e5]; rfl
        have t4 : ((s.extract 0 2).toList == [126, 61]) = false := by rw [e5]; rfl
        have t5 : ((s.extract 0 2).toList == [60, 61]) = true := by rw [e5]; rfl
        clear e5 a3
        go_enter Tryz.func30, Tryz.ntmps30
        go_wp2
        go_ret
        exact ⟨by rw [HX.out]; rfl, rfl⟩
      · have t0 : ((s.extract 0 2).toList == [47, 47]) = false := by rw [e6]; rfl
        have t1 : ((s.extract 0 2).toList == [60, 60]) = false := by rw [e6]; rfl
        have t2 : ((s.extract 0 2).toList == [62, 62]) = false := by rw [e6]; rfl
        have t3 : ((s.extract 0 2).toList == [61, 61]) = false := by rw [e6]; rfl
        have t4 : ((s.extract 0 2).toList == [126, 61]) = false := by rw [e6]; rfl
        have t5 : ((s.extract 0 2).toList == [60, 61]) = false := by rw [e6]; rfl
        have t6 : ((s.extract 0 2).toList == [62, 61]) = true := by rw [e6]; rfl
        clear e6 a3
        go_enter Tryz.func30, Tryz.ntmps30
        go_wp2
        go_ret
        exact ⟨by rw [HX.out]; rfl, rfl⟩
      · have t0 : ((s.extract 0 2).toList == [47, 47]) = false := by rw [e7]; rfl
        have t1 : ((s.extract 0 2).toList == [60, 60]) = false := by rw [e7]; rfl
        have t2 : ((s.extract 0 2).toList == [62, 62]) = false := by rw [e7]; rfl
        have t3 : ((s.extract 0 2).toList == [61, 61]) = false := by rw [e7]; rfl
        have t4 : ((s.extract 0 2).toList == [126, 61]) = false := by rw [e7]; rfl
        have t5 : ((s.extract 0 2).toList == [60, 61]) = false := by rw [e7]; rfl
        have t6 : ((s.extract 0 2).toList == [62, 61]) = false := by rw [e7]; rfl
        have t7 : ((s.extract 0 2).toList == [58, 58]) = true := by rw [e7]; rfl
        clear e7 a3
        go_enter Tryz.func30, Tryz.ntmps30
        go_wp2
        go_ret
        exact ⟨by rw [HX.out]; rfl, rfl⟩
      · have t0 : ((s.extract 0 2).toList == [47, 47]) = false := by rw [e8]; rfl
        have t1 : ((s.extract 0 2).toList == [60, 60]) = false := by rw [e8]; rfl
        have t2 : ((s.extract 0 2).toList == [62, 62]) = false := by rw [e8]; rfl
        have t3 : ((s.extract 0 2).toList == [61, 61]) = false := by rw [e8]; rfl
        have t4 : ((s.extract 0 2).toList == [126, 61]) = false := by rw [e8]; rfl
        have t5 : ((s.extract 0 2).toList == [60, 61]) = false := by rw [e8]; rfl
        have t6 : ((s.extract 0 2).toList == [62, 61]) = false := by rw [e8]; rfl
        have t7 : ((s.extract 0 2).toList == [58, 58]) = false := by rw [e8]; rfl
        have t8 : ((s.extract 0 2).toList == [46, 46]) = true := by rw [e8]; rfl
        clear e8 a3
        go_enter Tryz.func30, Tryz.ntmps30
        go_wp2
        go_ret
        exact ⟨by rw [HX.out]; rfl, rfl⟩
  have HN := Lib.hid (symN1 (l := s.data.toList) (by omega) H3.out (fun h => by
    cases hc : twoL.contains (s.data.toList.take 2) with
    | false => rfl
    | true => exact absurd ⟨by omega, hc⟩ hB))
  have tn : 2 ≤ s.size → ∀ k ∈ twoL, ((s.extract 0 2).toList == k) = false := fun h k hk => by
    rw [beq_eq_false_iff_ne, e2]; intro e
    exact hB ⟨h, by rw [e]; simpa using hk⟩
  rw [hh] at HN
  obtain ⟨c, hc⟩ : ∃ c, s[0] = c := ⟨_, rfl⟩
  have hci : (s[0].toNat : Int) = (c.toNat : Int) := by rw [hc]
  rw [hc] at HN
  clear hB e2 e3 hh hc
  have TN := Lib.hid tn
  have A3 := Lib.hid a3
  clear tn a3
  by_cases hC : oneL.contains c = true
  · have HX : Hid (symN s.data.toList = 1) := Lib.hid (by rw [HN.out, if_pos hC])
    have hm : c ∈ oneL := by simpa using hC
    unfold oneL at hm
    simp only [List.mem_cons, List.not_mem_nil, or_false] at hm
    clear hC HN
    by_cases h2s : 2 ≤ s.size
    · have l2 : 2 ≤ (s.size : Int) := by omega
      have t0 := TN.out h2s [47, 47] (by decide)
      have t1 := TN.out h2s [60, 60] (by decide)
      have t2 := TN.out h2s [62, 62] (by decide)
      have t3 := TN.out h2s [61, 61] (by decide)
      have t4 := TN.out h2s [126, 61] (by decide)
      have t5 := TN.out h2s [60, 61] (by decide)
      have t6 := TN.out h2s [62, 61] (by decide)
      have t7 := TN.out h2s [58, 58] (by decide)
      have t8 := TN.out h2s [46, 46] (by decide)
      by_cases h3s : 3 ≤ s.size
      · have l1 : 3 ≤ (s.size : Int) := by omega
        have a3' := A3.out h3s
        rcases hm with e0 | e1 | e2 | e3 | e4 | e5 | e6 | e7 | e8 | e9 | e10 | e11 | e12 | e13 | e14 | e15 | e16 | e17 | e18 | e19 | e20 | e21 | e22
        · have o0 : ((c.toNat : Int) == 43) = true := by rw [e0]; rfl
          clear e0
          go_enter Tryz.func30, Tryz.ntmps30
          go_wp2
          go_ret
          exact ⟨by rw [HX.out]; rfl, rfl⟩
        · have o0 : ((c.toNat : Int) == 43) = false := by rw [e1]; rfl
          have o1 : ((c.toNat : Int) == 45) = true := by rw [e1]; rfl
          clear e1
          go_enter Tryz.func30, Tryz.ntmps30
          go_wp2
          go_ret
          exact ⟨by rw [HX.out]; rfl, rfl⟩
        · have o0 : ((c.toNat : Int) == 43) = false := by rw [e2]; rfl
          have o1 : ((c.toNat : Int) == 45) = false := by rw [e2]; rfl
          have o2 : ((c.toNat : Int) == 42) = true := by rw [e2]; rfl
          clear e2
          go_enter Tryz.func30, Tryz.ntmps30
          go_wp2
          go_ret
          exact ⟨by rw [HX.out]; rfl, rfl⟩
        · have o0 : ((c.toNat : Int) == 43) = false := by rw [e3]; rfl
          have o1 : ((c.toNat : Int) == 45) = false := by rw [e3]; rfl
          have o2 : ((c.toNat : Int) == 42) = false := by rw [e3]; rfl
          have o3 : ((c.toNat : Int) == 47) = true := by rw [e3]; rfl
          clear e3
          go_enter Tryz.func30, Tryz.ntmps30
          go_wp2
          go_ret
          exact ⟨by rw [HX.out]; rfl, rfl⟩
        · have o0 : ((c.toNat : Int) == 43) = false := by rw [e4]; rfl
          have o1 : ((c.toNat : Int) == 45) = false := by rw [e4]; rfl
          have o2 : ((c.toNat : Int) == 42) = false := by rw [e4]; rfl
          have o3 : ((c.toNat : Int) == 47) = false := by rw [e4]; rfl
          have o4 : ((c.toNat : Int) == 37) = true := by rw [e4]; rfl
          clear e4
          go_enter Tryz.func30, Tryz.ntmps30
          go_wp2
          go_ret
          exact ⟨by rw [HX.out]; rfl, rfl⟩
        · have o0 : ((c.toNat : Int) == 43) = false := by rw [e5]; rfl
          have o1 : ((c.toNat : Int) == 45) = false := by rw [e5]; rfl
          have o2 : ((c.toNat : Int) == 42) = false := by rw [e5]; rfl
          have o3 : ((c.toNat : Int) == 47) = false := by rw [e5]; rfl
          have o4 : ((c.toNat : Int) == 37) = false := by rw [e5]; rfl
          have o5 : ((c.toNat : Int) == 94) = true := by rw [e5]; rfl
          clear e5
          go_enter Tryz.func30, Tryz.ntmps30
          go_wp2
          go_ret
          exact ⟨by rw [HX.out]; rfl, rfl⟩
        · have o0 : ((c.toNat : Int) == 43) = false := by rw [e6]; rfl
          have o1 : ((c.toNat : Int) == 45) = false := by rw [e6]; rfl
          have o2 : ((c.toNat : Int) == 42) = false := by rw [e6]; rfl
          have o3 : ((c.toNat : Int) == 47) = false := by rw [e6]; rfl
          have o4 : ((c.toNat : Int) == 37) = false := by rw [e6]; rfl
          have o5 : ((c.toNat : Int) == 94) = false := by rw [e6]; rfl
          have o6 : ((c.toNat : Int) == 35) = true := by rw [e6]; rfl
          clear e6
          go_enter Tryz.func30, Tryz.ntmps30
          go_wp2
          go_ret
          exact ⟨by rw [HX.out]; rfl, rfl⟩
        · have o0 : ((c.toNat : Int) == 43) = false := by rw [e7]; rfl
          have o1 : ((c.toNat : Int) == 45) = false := by rw [e7]; rfl
          have o2 : ((c.toNat : Int) == 42) = false := by rw [e7]; rfl
          have o3 : ((c.toNat : Int) == 47) = false := by rw [e7]; rfl
          have o4 : ((c.toNat : Int) == 37) = false := by rw [e7]; rfl
          have o5 : ((c.toNat : Int) == 94) = false := by rw [e7]; rfl
          have o6 : ((c.toNat : Int) == 35) = false := by rw [e7]; rfl
          have o7 : ((c.toNat : Int) == 38) = true := by rw [e7]; rfl
          clear e7
          go_enter Tryz.func30, Tryz.ntmps30
          go_wp2
          go_ret
          exact ⟨by rw [HX.out]; rfl, rfl⟩
        · have o0 : ((c.toNat : Int) == 43) = false := by rw [e8]; rfl
          have o1 : ((c.toNat : Int) == 45) = false := by rw [e8]; rfl
          have o2 : ((c.toNat : Int) == 42) = false := by rw [e8]; rfl
          have o3 : ((c.toNat : Int) == 47) = false := by rw [e8]; rfl
          have o4 : ((c.toNat : Int) == 37) = false := by rw [e8]; rfl
          have o5 : ((c.toNat : Int) == 94) = false := by rw [e8]; rfl
          have o6 : ((c.toNat : Int) == 35) = false := by rw [e8]; rfl
          have o7 : ((c.toNat : Int) == 38) = false := by rw [e8]; rfl
          have o8 : ((c.toNat : Int) == 126) = true := by rw [e8]; rfl
          clear e8
          go_enter Tryz.func30, Tryz.ntmps30
          go_wp2
          go_ret
          exact ⟨by rw [HX.out]; rfl, rfl⟩
        · have o0 : ((c.toNat : Int) == 43) = false := by rw [e9]; rfl
          have o1 : ((c.toNat : Int) == 45) = false := by rw [e9]; rfl
          have o2 : ((c.toNat : Int) == 42) = false := by rw [e9]; rfl
          have o3 : ((c.toNat : Int) == 47) = false := by rw [e9]; rfl
          have o4 : ((c.toNat : Int) == 37) = false := by rw [e9]; rfl
          have o5 : ((c.toNat : Int) == 94) = false := by rw [e9]; rfl
          have o6 : ((c.toNat : Int) == 35) = false := by rw [e9]; rfl
          have o7 : ((c.toNat : Int) == 38) = false := by rw [e9]; rfl
          have o8 : ((c.toNat : Int) == 126) = false := by rw [e9]; rfl
          have o9 : ((c.toNat : Int) == 124) = true := by rw [e9]; rfl
          clear e9
          go_enter Tryz.func30, Tryz.ntmps30
          go_wp2
          go_ret
          exact ⟨by rw [HX.out]; rfl, rfl⟩
        · have o0 : ((c.toNat : Int) == 43) = false := by rw [e10]; rfl
          have o1 : ((c.toNat : Int) == 45) = false := by rw [e10]; rfl
          have o2 : ((c.toNat : Int) == 42) = false := by rw [e10]; rfl
          have o3 : ((c.toNat : Int) == 47) = false := by rw [e10]; rfl
          have o4 : ((c.toNat : Int) == 37) = false := by rw [e10]; rfl
          have o5 : ((c.toNat : Int) == 94) = false := by rw [e10]; rfl
          have o6 : ((c.toNat : Int) == 35) = false := by rw [e10]; rfl
          have o7 : ((c.toNat : Int) == 38) = false := by rw [e10]; rfl
          have o8 : ((c.toNat : Int) == 126) = false := by rw [e10]; rfl
          have o9 : ((c.toNat : Int) == 124) = false := by rw [e10]; rfl
          have o10 : ((c.toNat : Int) == 60) = true := by rw [e10]; rfl
          clear e10
          go_enter Tryz.func30, Tryz.ntmps30
          go_wp2
          go_ret
          exact ⟨by rw [HX.out]; rfl, rfl⟩
        · have o0 : ((c.toNat : Int) == 43) = false := by rw [e11]; rfl
          have o1 : ((c.toNat : Int) == 45) = false := by rw [e11]; rfl
          have o2 : ((c.toNat : Int) == 42) = false := by rw [e11]; rfl
          have o3 : ((c.toNat : Int) == 47) = false := by rw [e11]; rfl
          have o4 : ((c.toNat : Int) == 37) = false := by rw [e11]; rfl
          have o5 : ((c.toNat : Int) == 94) = false := by rw [e11]; rfl
          have o6 : ((c.toNat : Int) == 35) = false := by rw [e11]; rfl
          have o7 : ((c.toNat : Int) == 38) = false := by rw [e11]; rfl
          have o8 : ((c.toNat : Int) == 126) = false := by rw [e11]; rfl
          have o9 : ((c.toNat : Int) == 124) = false := by rw [e11]; rfl
          have o10 : ((c.toNat : Int) == 60) = false := by rw [e11]; rfl
          have o11 : ((c.toNat : Int) == 62) = true := by rw [e11]; rfl
          clear e11
          go_enter Tryz.func30, Tryz.ntmps30
          go_wp2
          go_ret
          exact ⟨by rw [HX.out]; rfl, rfl⟩
        · have o0 : ((c.toNat : Int) == 43) = false := by rw [e12]; rfl
          have o1 : ((c.toNat : Int) == 45) = false := by rw [e12]; rfl
          have o2 : ((c.toNat : Int) == 42) = false := by rw [e12]; rfl
          have o3 : ((c.toNat : Int) == 47) = false := by rw [e12]; rfl
          have o4 : ((c.toNat : Int) == 37) = false := by rw [e12]; rfl
          have o5 : ((c.toNat : Int) == 94) = false := by rw [e12]; rfl
          have o6 : ((c.toNat : Int) == 35) = false := by rw [e12]; rfl
          have o7 : ((c.toNat : Int) == 38) = false := by rw [e12]; rfl
          have o8 : ((c.toNat : Int) == 126) = false := by rw [e12]; rfl
          have o9 : ((c.toNat : Int) == 124) = false := by rw [e12]; rfl
          have o10 : ((c.toNat : Int) == 60) = false := by rw [e12]; rfl
          have o11 : ((c.toNat : Int) == 62) = false := by rw [e12]; rfl
          have o12 : ((c.toNat : Int) == 61) = true := by rw [e12]; rfl
          clear e12
          go_enter Tryz.func30, Tryz.ntmps30
          go_wp2
          go_ret
          exact ⟨by rw [HX.out]; rfl, rfl⟩
        · have o0 : ((c.toNat : Int) == 43) = false := by rw [e13]; rfl
          have o1 : ((c.toNat : Int) == 45) = false := by rw [e13]; rfl
          have o2 : ((c.toNat : Int) == 42) = false := by rw [e13]; rfl
          have o3 : ((c.toNat : Int) == 47) = false := by rw [e13]; rfl
          have o4 : ((c.toNat : Int) == 37) = false := by rw [e13]; rfl
          have o5 : ((c.toNat : Int) == 94) = false := by rw [e13]; rfl
          have o6 : ((c.toNat : Int) == 35) = false := by rw [e13]; rfl
          have o7 : ((c.toNat : Int) == 38) = false := by rw [e13]; rfl
          have o8 : ((c.toNat : Int) == 126) = false := by rw [e13]; rfl
          have o9 : ((c.toNat : Int) == 124) = false := by rw [e13]; rfl
          have o10 : ((c.toNat : Int) == 60) = false := by rw [e13]; rfl
          have o11 : ((c.toNat : Int) == 62) = false := by rw [e13]; rfl
          have o12 : ((c.toNat : Int) == 61) = false := by rw [e13]; rfl
          have o13 : ((c.toNat : Int) == 40) = true := by rw [e13]; rfl
          clear e13
          go_enter Tryz.func30, Tryz.ntmps30
          go_wp2
          go_ret
          exact ⟨by rw [HX.out]; rfl, rfl⟩
        · have o0 : ((c.toNat : Int) == 43) = false := by rw [e14]; rfl
          have o1 : ((c.toNat : Int) == 45) = false := by rw [e14]; rfl
          have o2 : ((c.toNat : Int) == 42) = false := by rw [e14]; rfl
          have o3 : ((c.toNat : Int) == 47) = false := by rw [e14]; rfl
          have o4 : ((c.toNat : Int) == 37) = false := by rw [e14]; rfl
          have o5 : ((c.toNat : Int) == 94) = false := by rw [e14]; rfl
          have o6 : ((c.toNat : Int) == 35) = false := by rw [e14]; rfl
          have o7 : ((c.toNat : Int) == 38) = false := by rw [e14]; rfl
          have o8 : ((c.toNat : Int) == 126) = false := by rw [e14]; rfl
          have o9 : ((c.toNat : Int) == 124) = false := by rw [e14]; rfl
          have o10 : ((c.toNat : Int) == 60) = false := by rw [e14]; rfl
          have o11 : ((c.toNat : Int) == 62) = false := by rw [e14]; rfl
          have o12 : ((c.toNat : Int) == 61) = false := by rw [e14]; rfl
          have o13 : ((c.toNat : Int) == 40) = false := by rw [e14]; rfl
          have o14 : ((c.toNat : Int) == 41) = true := by rw [e14]; rfl
          clear e14
          go_enter Tryz.func30, Tryz.ntmps30
          go_wp2
          go_ret
          exact ⟨by rw [HX.out]; rfl, rfl⟩
        · have o0 : ((c.toNat : Int) == 43) = false := by rw [e15]; rfl
          have o1 : ((c.toNat : Int) == 45) = false := by rw [e15]; rfl
          have o2 : ((c.toNat : Int) == 42) = false := by rw [e15]; rfl
          have o3 : ((c.toNat : Int) == 47) = false := by rw [e15]; rfl
          have o4 : ((c.toNat : Int) == 37) = false := by rw [e15]; rfl
          have o5 : ((c.toNat : Int) == 94) = false := by rw [e15]; rfl
          have o6 : ((c.toNat : Int) == 35) = false := by rw [e15]; rfl
          have o7 : ((c.toNat : Int) == 38) = false := by rw [e15]; rfl
          have o8 : ((c.toNat : Int) == 126) = false := by rw [e15]; rfl
          have o9 : ((c.toNat : Int) == 124) = false := by rw [e15]; rfl
          have o10 : ((c.toNat : Int) == 60) = false := by rw [e15]; rfl
          have o11 : ((c.toNat : Int) == 62) = false := by rw [e15]; rfl
          have o12 : ((c.toNat : Int) == 61) = false := by rw [e15]; rfl
          have o13 : ((c.toNat : Int) == 40) = false := by rw [e15]; rfl
          have o14 : ((c.toNat : Int) == 41) = false := by rw [e15]; rfl
          have o15 : ((c.toNat : Int) == 123) = true := by rw [e15]; rfl
          clear e15
          go_enter Tryz.func30, Tryz.ntmps30
          go_wp2
          go_ret
          exact ⟨by rw [HX.out]; rfl, rfl⟩
        · have o0 : ((c.toNat : Int) == 43) = false := by rw [e16]; rfl
          have o1 : ((c.toNat : Int) == 45) = false := by rw [e16]; rfl
          have o2 : ((c.toNat : Int) == 42) = false := by rw [e16]; rfl
          have o3 : ((c.toNat : Int) == 47) = false := by rw [e16]; rfl
          have o4 : ((c.toNat : Int) == 37) = false := by rw [e16]; rfl
          have o5 : ((c.toNat : Int) == 94) = false := by rw [e16]; rfl
          have o6 : ((c.toNat : Int) == 35) = false := by rw [e16]; rfl
          have o7 : ((c.toNat : Int) == 38) = false := by rw [e16]; rfl
          have o8 : ((c.toNat : Int) == 126) = false := by rw [e16]; rfl
          have o9 : ((c.toNat : Int) == 124) = false := by rw [e16]; rfl
          have o10 : ((c.toNat : Int) == 60) = false := by rw [e16]; rfl
          have o11 : ((c.toNat : Int) == 62) = false := by rw [e16]; rfl
          have o12 : ((c.toNat : Int) == 61) = false := by rw [e16]; rfl
          have o13 : ((c.toNat : Int) == 40) = false := by rw [e16]; rfl
          have o14 : ((c.toNat : Int) == 41) = false := by rw [e16]; rfl
          have o15 : ((c.toNat : Int) == 123) = false := by rw [e16]; rfl
          have o16 : ((c.toNat : Int) == 125) = true := by rw [e16]; rfl
          clear e16
          go_enter Tryz.func30, Tryz.ntmps30
          go_wp2
          go_ret
          exact ⟨by rw [HX.out]; rfl, rfl⟩
        · have o0 : ((c.toNat : Int) == 43) = false := by rw [e17]; rfl
          have o1 : ((c.toNat : Int) == 45) = false := by rw [e17]; rfl
          have o2 : ((c.toNat : Int) == 42) = false := by rw [e17]; rfl
          have o3 : ((c.toNat : Int) == 47) = false := by rw [e17]; rfl
          have o4 : ((c.toNat : Int) == 37) = false := by rw [e17]; rfl
          have o5 : ((c.toNat : Int) == 94) = false := by rw [e17]; rfl
          have o6 : ((c.toNat : Int) == 35) = false := by rw [e17]; rfl
          have o7 : ((c.toNat : Int) == 38) = false := by rw [e17]; rfl
          have o8 : ((c.toNat : Int) == 126) = false := by rw [e17]; rfl
          have o9 : ((c.toNat : Int) == 124) = false := by rw [e17]; rfl
          have o10 : ((c.toNat : Int) == 60) = false := by rw [e17]; rfl
          have o11 : ((c.toNat : Int) == 62) = false := by rw [e17]; rfl
          have o12 : ((c.toNat : Int) == 61) = false := by rw [e17]; rfl
          have o13 : ((c.toNat : Int) == 40) = false := by rw [e17]; rfl
          have o14 : ((c.toNat : Int) == 41) = false := by rw [e17]; rfl
          have o15 : ((c.toNat : Int) == 123) = false := by rw [e17]; rfl
          have o16 : ((c.toNat : Int) == 125) = false := by rw [e17]; rfl
          have o17 : ((c.toNat : Int) == 91) = true := by rw [e17]; rfl
          clear e17
          go_enter Tryz.func30, Tryz.ntmps30
          go_wp2
          go_ret
          exact ⟨by rw [HX.out]; rfl, rfl⟩
        · have o0 : ((c.toNat : Int) == 43) = false := by rw [e18]; rfl
          have o1 : ((c.toNat : Int) == 45) = false := by rw [e18]; rfl
          have o2 : ((c.toNat : Int) == 42) = false := by rw [e18]; rfl
          have o3 : ((c.toNat : Int) == 47) = false := by rw [e18]; rfl
          have o4 : ((c.toNat : Int) == 37) = false := by rw [e18]; rfl
          have o5 : ((c.toNat : Int) == 94) = false := by rw [e18]; rfl
          have o6 : ((c.toNat : Int) == 35) = false := by rw [e18]; rfl
          have o7 : ((c.toNat : Int) == 38) = false := by rw [e18]; rfl
          have o8 : ((c.toNat : Int) == 126) = false := by rw [e18]; rfl
          have o9 : ((c.toNat : Int) == 124) = false := by rw [e18]; rfl
          have o10 : ((c.toNat : Int) == 60) = false := by rw [e18]; rfl
          have o11 : ((c.toNat : Int) == 62) = false := by rw [e18]; rfl
          have o12 : ((c.toNat : Int) == 61) = false := by rw [e18]; rfl
          have o13 : ((c.toNat : Int) == 40) = false := by rw [e18]; rfl
          have o14 : ((c.toNat : Int) == 41) = false := by rw [e18]; rfl
          have o15 : ((c.toNat : Int) == 123) = false := by rw [e18]; rfl
          have o16 : ((c.toNat : Int) == 125) = false := by rw [e18]; rfl
          have o17 : ((c.toNat : Int) == 91) = false := by rw [e18]; rfl
          have o18 : ((c.toNat : Int) == 93) = true := by rw [e18]; rfl
          clear e18
          go_enter Tryz.func30, Tryz.ntmps30
          go_wp2
          go_ret
          exact ⟨by rw [HX.out]; rfl, rfl⟩
        · have o0 : ((c.toNat : Int) == 43) = false := by rw [e19]; rfl
          have o1 : ((c.toNat : Int) == 45) = false := by rw [e19]; rfl
          have o2 : ((c.toNat : Int) == 42) = false := by rw [e19]; rfl
          have o3 : ((c.toNat : Int) == 47) = false := by rw [e19]; rfl
          have o4 : ((c.toNat : Int) == 37) = false := by rw [e19]; rfl
          have o5 : ((c.toNat : Int) == 94) = false := by rw [e19]; rfl
          have o6 : ((c.toNat : Int) == 35) = false := by rw [e19]; rfl
          have o7 : ((c.toNat : Int) == 38) = false := by rw [e19]; rfl
          have o8 : ((c.toNat : Int) == 126) = false := by rw [e19]; rfl
          have o9 : ((c.toNat : Int) == 124) = false := by rw [e19]; rfl
          have o10 : ((c.toNat : Int) == 60) = false := by rw [e19]; rfl
          have o11 : ((c.toNat : Int) == 62) = false := by rw [e19]; rfl
          have o12 : ((c.toNat : Int) == 61) = false := by rw [e19]; rfl
          have o13 : ((c.toNat : Int) == 40) = false := by rw [e19]; rfl
          have o14 : ((c.toNat : Int) == 41) = false := by rw [e19]; rfl
          have o15 : ((c.toNat : Int) == 123) = false := by rw [e19]; rfl
          have o16 : ((c.toNat : Int) == 125) = false := by rw [e19]; rfl
          have o17 : ((c.toNat : Int) == 91) = false := by rw [e19]; rfl
          have o18 : ((c.toNat : Int) == 93) = false := by rw [e19]; rfl
          have o19 : ((c.toNat : Int) == 59) = true := by rw [e19]; rfl
          clear e19
          go_enter Tryz.func30, Tryz.ntmps30
          go_wp2
          go_ret
          exact ⟨by rw [HX.out]; rfl, rfl⟩
        · have o0 : ((c.toNat : Int) == 43) = false := by rw [e20]; rfl
          have o1 : ((c.toNat : Int) == 45) = false := by rw [e20]; rfl
          have o2 : ((c.toNat : Int) == 42) = false := by rw [e20]; rfl
          have o3 : ((c.toNat : Int) == 47) = false := by rw [e20]; rfl
          have o4 : ((c.toNat : Int) == 37) = false := by rw [e20]; rfl
          have o5 : ((c.toNat : Int) == 94) = false := by rw [e20]; rfl
          have o6 : ((c.toNat : Int) == 35) = false := by rw [e20]; rfl
          have o7 : ((c.toNat : Int) == 38) = false := by rw [e20]; rfl
          have o8 : ((c.toNat : Int) == 126) = false := by rw [e20]; rfl
          have o9 : ((c.toNat : Int) == 124) = false := by rw [e20]; rfl
          have o10 : ((c.toNat : Int) == 60) = false := by rw [e20]; rfl
          have o11 : ((c.toNat : Int) == 62) = false := by rw [e20]; rfl
          have o12 : ((c.toNat : Int) == 61) = false := by rw [e20]; rfl
          have o13 : ((c.toNat : Int) == 40) = false := by rw [e20]; rfl
          have o14 : ((c.toNat : Int) == 41) = false := by rw [e20]; rfl
          have o15 : ((c.toNat : Int) == 123) = false := by rw [e20]; rfl
          have o16 : ((c.toNat : Int) == 125) = false := by rw [e20]; rfl
          have o17 : ((c.toNat : Int) == 91) = false := by rw [e20]; rfl
          have o18 : ((c.toNat : Int) == 93) = false := by rw [e20]; rfl
          have o19 : ((c.toNat : Int) == 59) = false := by rw [e20]; rfl
          have o20 : ((c.toNat : Int) == 58) = true := by rw [e20]; rfl
          clear e20
          go_enter Tryz.func30, Tryz.ntmps30
          go_wp2
          go_ret
          exact ⟨by rw [HX.out]; rfl, rfl⟩
        · have o0 : ((c.toNat : Int) == 43) = false := by rw [e21]; rfl
          have o1 : ((c.toNat : Int) == 45) = false := by rw [e21]; rfl
          have o2 : ((c.toNat : Int) == 42) = false := by rw [e21]; rfl
          have o3 : ((c.toNat : Int) == 47) = false := by rw [e21]; rfl
          have o4 : ((c.toNat : Int) == 37) = false := by rw [e21]; rfl
          have o5 : ((c.toNat : Int) == 94) = false := by rw [e21]; rfl
          have o6 : ((c.toNat : Int) == 35) = false := by rw [e21]; rfl
          have o7 : ((c.toNat : Int) == 38) = false := by rw [e21]; rfl
          have o8 : ((c.toNat : Int) == 126) = false := by rw [e21]; rfl
          have o9 : ((c.toNat : Int) == 124) = false := by rw [e21]; rfl
          have o10 : ((c.toNat : Int) == 60) = false := by rw [e21]; rfl
          have o11 : ((c.toNat : Int) == 62) = false := by rw [e21]; rfl
          have o12 : ((c.toNat : Int) == 61) = false := by rw [e21]; rfl
          have o13 : ((c.toNat : Int) == 40) = false := by rw [e21]; rfl
          have o14 : ((c.toNat : Int) == 41) = false := by rw [e21]; rfl
          have o15 : ((c.toNat : Int) == 123) = false := by rw [e21]; rfl
          have o16 : ((c.toNat : Int) == 125) = false := by rw [e21]; rfl
          have o17 : ((c.toNat : Int) == 91) = false := by rw [e21]; rfl
          have o18 : ((c.toNat : Int) == 93) = false := by rw [e21]; rfl
          have o19 : ((c.toNat : Int) == 59) = false := by rw [e21]; rfl
          have o20 : ((c.toNat : Int) == 58) = false := by rw [e21]; rfl
          have o21 : ((c.toNat : Int) == 44) = true := by rw [e21]; rfl
          clear e21
          go_enter Tryz.func30, Tryz.ntmps30
          go_wp2
          go_ret
          exact ⟨by rw [HX.out]; rfl, rfl⟩
        · have o0 : ((c.toNat : Int) == 43) = false := by rw [e22]; rfl
          have o1 : ((c.toNat : Int) == 45) = false := by rw [e22]; rfl
          have o2 : ((c.toNat : Int) == 42) = false := by rw [e22]; rfl
          have o3 : ((c.toNat : Int) == 47) = false := by rw [e22]; rfl
          have o4 : ((c.toNat : Int) == 37) = false := by rw [e22]; rfl
          have o5 : ((c.toNat : Int) == 94) = false := by rw [e22]; rfl
          have o6 : ((c.toNat : Int) == 35) = false := by rw [e22]; rfl
          have o7 : ((c.toNat : Int) == 38) = false := by rw [e22]; rfl
          have o8 : ((c.toNat : Int) == 126) = false := by rw [e22]; rfl
          have o9 : ((c.toNat : Int) == 124) = false := by rw [e22]; rfl
          have o10 : ((c.toNat : Int) == 60) = false := by rw [e22]; rfl
          have o11 : ((c.toNat : Int) == 62) = false := by rw [e22]; rfl
          have o12 : ((c.toNat : Int) == 61) = false := by rw [e22]; rfl
          have o13 : ((c.toNat : Int) == 40) = false := by rw [e22]; rfl
          have o14 : ((c.toNat : Int) == 41) = false := by rw [e22]; rfl
          have o15 : ((c.toNat : Int) == 123) = false := by rw [e22]; rfl
          have o16 : ((c.toNat : Int) == 125) = false := by rw [e22]; rfl
          have o17 : ((c.toNat : Int) == 91) = false := by rw [e22]; rfl
          have o18 : ((c.toNat : Int) == 93) = false := by rw [e22]; rfl
          have o19 : ((c.toNat : Int) == 59) = false := by rw [e22]; rfl
          have o20 : ((c.toNat : Int) == 58) = false := by rw [e22]; rfl
          have o21 : ((c.toNat : Int) == 44) = false := by rw [e22]; rfl
          have o22 : ((c.toNat : Int) == 46) = true := by rw [e22]; rfl
          clear e22
          go_enter Tryz.func30, Tryz.ntmps30
          go_wp2
          go_ret
          exact ⟨by rw [HX.out]; rfl, rfl⟩
      · have l1 : ¬ 3 ≤ (s.size : Int) := by omega
        rcases hm with e0 | e1 | e2 | e3 | e4 | e5 | e6 | e7 | e8 | e9 | e10 | e11 | e12 | e13 | e14 | e15 | e16 | e17 | e18 | e19 | e20 | e21 | e22
        · have o0 : ((c.toNat : Int) == 43) = true := by rw [e0]; rfl
          clear e0
          go_enter Tryz.func30, Tryz.ntmps30
          go_wp2
          go_ret
          exact ⟨by rw [HX.out]; rfl, rfl⟩
        · have o0 : ((c.toNat : Int) == 43) = false := by rw [e1]; rfl
          have o1 : ((c.toNat : Int) == 45) = true := by rw [e1]; rfl
          clear e1
          go_enter Tryz.func30, Tryz.ntmps30
          go_wp2
          go_ret
          exact ⟨by rw [HX.out]; rfl, rfl⟩
        · have o0 : ((c.toNat : Int) == 43) = false := by rw [e2]; rfl
          have o1 : ((c.toNat : Int) == 45) = false := by rw [e2]; rfl
          have o2 : ((c.toNat : Int) == 42) = true := by rw [e2]; rfl
          clear e2
          go_enter Tryz.func30, Tryz.ntmps30
          go_wp2
          go_ret
          exact ⟨by rw [HX.out]; rfl, rfl⟩
        · have o0 : ((c.toNat : Int) == 43) = false := by rw [e3]; rfl
          have o1 : ((c.toNat : Int) == 45) = false := by rw [e3]; rfl
          have o2 : ((c.toNat : Int) == 42) = false := by rw [e3]; rfl
          have o3 : ((c.toNat : Int) == 47) = true := by rw [e3]; rfl
          clear e3
          go_enter Tryz.func30, Tryz.ntmps30
          go_wp2
          go_ret
          exact ⟨by rw [HX.out]; rfl, rfl⟩
        · have o0 : ((c.toNat : Int) == 43) = false := by rw [e4]; rfl
          have o1 : ((c.toNat : Int) == 45) = false := by rw [e4]; rfl
          have o2 : ((c.toNat : Int) == 42) = false := by rw [e4]; rfl
          have o3 : ((c.toNat : Int) == 47) = false := by rw [e4]; rfl
          have o4 : ((c.toNat : Int) == 37) = true := by rw [e4]; rfl
          clear e4
          go_enter Tryz.func30, Tryz.ntmps30
          go_wp2
          go_ret
          exact ⟨by rw [HX.out]; rfl, rfl⟩
        · have o0 : ((c.toNat : Int) == 43) = false := by rw [e5]; rfl
          have o1 : ((c.toNat : Int) == 45) = false := by rw [e5]; rfl
          have o2 : ((c.toNat : Int) == 42) = false := by rw [e5]; rfl
          have o3 : ((c.toNat : Int) == 47) = false := by rw [e5]; rfl
          have o4 : ((c.toNat : Int) == 37) = false := by rw [e5]; rfl
          have o5 : ((c.toNat : Int) == 94) = true := by rw [e5]; rfl
          clear e5
          go_enter Tryz.func30, Tryz.ntmps30
          go_wp2
          go_ret
          exact ⟨by rw [HX.out]; rfl, rfl⟩
        · have o0 : ((c.toNat : Int) == 43) = false := by rw [e6]; rfl
          have o1 : ((c.toNat : Int) == 45) = false := by rw [e6]; rfl
          have o2 : ((c.toNat : Int) == 42) = false := by rw [e6]; rfl
          have o3 : ((c.toNat : Int) == 47) = false := by rw [e6]; rfl
          have o4 : ((c.toNat : Int) == 37) = false := by rw [e6]; rfl
          have o5 : ((c.toNat : Int) == 94) = false := by rw [e6]; rfl
          have o6 : ((c.toNat : Int) == 35) = true := by rw [e6]; rfl
          clear e6
          go_enter Tryz.func30, Tryz.ntmps30
          go_wp2
          go_ret
          exact ⟨by rw [HX.out]; rfl, rfl⟩
        · have o0 : ((c.toNat : Int) == 43) = false := by rw [e7]; rfl
          have o1 : ((c.toNat : Int) == 45) = false := by rw [e7]; rfl
          have o2 : ((c.toNat : Int) == 42) = false := by rw [e7]; rfl
          have o3 : ((c.toNat : Int) == 47) = false := by rw [e7]; rfl
          have o4 : ((c.toNat : Int) == 37) = false := by rw [e7]; rfl
          have o5 : ((c.toNat : Int) == 94) = false := by rw [e7]; rfl
          have o6 : ((c.toNat : Int) == 35) = false := by rw [e7]; rfl
          have o7 : ((c.toNat : Int) == 38) = true := by rw [e7]; rfl
          clear e7
          go_enter Tryz.func30, Tryz.ntmps30
          go_wp2
          go_ret
          exact ⟨by rw [HX.out]; rfl, rfl⟩
        · have o0 : ((c.toNat : Int) == 43) = false := by rw [e8]; rfl
          have o1 : ((c.toNat : Int) == 45) = false := by rw [e8]; rfl
          have o2 : ((c.toNat : Int) == 42) = false := by rw [e8]; rfl
          have o3 : ((c.toNat : Int) == 47) = false := by rw [e8]; rfl
          have o4 : ((c.toNat : Int) == 37) = false := by rw [e8]; rfl
          have o5 : ((c.toNat : Int) == 94) = false := by rw [e8]; rfl
          have o6 : ((c.toNat : Int) == 35) = false := by rw [e8]; rfl
          have o7 : ((c.toNat : Int) == 38) = false := by rw [e8]; rfl
          have o8 : ((c.toNat : Int) == 126) = true := by rw [e8]; rfl
          clear e8
          go_enter Tryz.func30, Tryz.ntmps30
          go_wp2
          go_ret
          exact ⟨by rw [HX.out]; rfl, rfl⟩
        · have o0 : ((c.toNat : Int) == 43) = false := by rw [e9]; rfl
          have o1 : ((c.toNat : Int) == 45) = false := by rw [e9]; rfl
          have o2 : ((c.toNat : Int) == 42) = false := by rw [e9]; rfl
          have o3 : ((c.toNat : Int) == 47) = false := by rw [e9]; rfl
          have o4 : ((c.toNat : Int) == 37) = false := by rw [e9]; rfl
          have o5 : ((c.toNat : Int) == 94) = false := by rw [e9]; rfl
          have o6 : ((c.toNat : Int) == 35) = false := by rw [e9]; rfl
          have o7 : ((c.toNat : Int) == 38) = false := by rw [e9]; rfl
          have o8 : ((c.toNat : Int) == 126) = false := by rw [e9]; rfl
          have o9 : ((c.toNat : Int) == 124) = true := by rw [e9]; rfl
          clear e9
          go_enter Tryz.func30, Tryz.ntmps30
          go_wp2
          go_ret
          exact ⟨by rw [HX.out]; rfl, rfl⟩
        · have o0 : ((c.toNat : Int) == 43) = false := by rw [e10]; rfl
          have o1 : ((c.toNat : Int) == 45) = false := by rw [e10]; rfl
          have o2 : ((c.toNat : Int) == 42) = false := by rw [e10]; rfl
          have o3 : ((c.toNat : Int) == 47) = false := by rw [e10]; rfl
          have o4 : ((c.toNat : Int) == 37) = false := by rw [e10]; rfl
          have o5 : ((c.toNat : Int) == 94) = false := by rw [e10]; rfl
          have o6 : ((c.toNat : Int) == 35) = false := by rw [e10]; rfl
          have o7 : ((c.toNat : Int) == 38) = false := by rw [e10]; rfl
          have o8 : ((c.toNat : Int) == 126) = false := by rw [e10]; rfl
          have o9 : ((c.toNat : Int) == 124) = false := by rw [e10]; rfl
          have o10 : ((c.toNat : Int) == 60) = true := by rw [e10]; rfl
          clear e10
          go_enter Tryz.func30, Tryz.ntmps30
          go_wp2
          go_ret
          exact ⟨by rw [HX.out]; rfl, rfl⟩
        · have o0 : ((c.toNat : Int) == 43) = false := by rw [e11]; rfl
          have o1 : ((c.toNat : Int) == 45) = false := by rw [e11]; rfl
          have o2 : ((c.toNat : Int) == 42) = false := by rw [e11]; rfl
          have o3 : ((c.toNat : Int) == 47) = false := by rw [e11]; rfl
          have o4 : ((c.toNat : Int) == 37) = false := by rw [e11]; rfl
          have o5 : ((c.toNat : Int) == 94) = false := by rw [e11]; rfl
          have o6 : ((c.toNat : Int) == 35) = false := by rw [e11]; rfl
          have o7 : ((c.toNat : Int) == 38) = false := by rw [e11]; rfl
          have o8 : ((c.toNat : Int) == 126) = false := by rw [e11]; rfl
          have o9 : ((c.toNat : Int) == 124) = false := by rw [e11]; rfl
          have o10 : ((c.toNat : Int) == 60) = false := by rw [e11]; rfl
          have o11 : ((c.toNat : Int) == 62) = true := by rw [e11]; rfl
          clear e11
          go_enter Tryz.func30, Tryz.ntmps30
          go_wp2
          go_ret
          exact ⟨by rw [HX.out]; rfl, rfl⟩
        · have o0 : ((c.toNat : Int) == 43) = false := by rw [e12]; rfl
          have o1 : ((c.toNat : Int) == 45) = false := by rw [e12]; rfl
          have o2 : ((c.toNat : Int) == 42) = false := by rw [e12]; rfl
          have o3 : ((c.toNat : Int) == 47) = false := by rw [e12]; rfl
          have o4 : ((c.toNat : Int) == 37) = false := by rw [e12]; rfl
          have o5 : ((c.toNat : Int) == 94) = false := by rw [e12]; rfl
          have o6 : ((c.toNat : Int) == 35) = false := by rw [e12]; rfl
          have o7 : ((c.toNat : Int) == 38) = false := by rw [e12]; rfl
          have o8 : ((c.toNat : Int) == 126) = false := by rw [e12]; rfl
          have o9 : ((c.toNat : Int) == 124) = false := by rw [e12]; rfl
          have o10 : ((c.toNat : Int) == 60) = false := by rw [e12]; rfl
          have o11 : ((c.toNat : Int) == 62) = false := by rw [e12]; rfl
          have o12 : ((c.toNat : Int) == 61) = true := by rw [e12]; rfl
          clear e12
          go_enter Tryz.func30, Tryz.ntmps30
          go_wp2
          go_ret
          exact ⟨by rw [HX.out]; rfl, rfl⟩
        · have o0 : ((c.toNat : Int) == 43) = false := by rw [e13]; rfl
          have o1 : ((c.toNat : Int) == 45) = false := by rw [e13]; rfl
          have o2 : ((c.toNat : Int) == 42) = false := by rw [e13]; rfl
          have o3 : ((c.toNat : Int) == 47) = false := by rw [e13]; rfl
          have o4 : ((c.toNat : Int) == 37) = false := by rw [e13]; rfl
          have o5 : ((c.toNat : Int) == 94) = false := by rw [e13]; rfl
          have o6 : ((c.toNat : Int) == 35) = false := by rw [e13]; rfl
          have o7 : ((c.toNat : Int) == 38) = false := by rw [e13]; rfl
          have o8 : ((c.toNat : Int) == 126) = false := by rw [e13]; rfl
          have o9 : ((c.toNat : Int) == 124) = false := by rw [e13]; rfl
          have o10 : ((c.toNat : Int) == 60) = false := by rw [e13]; rfl
          have o11 : ((c.toNat : Int) == 62) = false := by rw [e13]; rfl
          have o12 : ((c.toNat : Int) == 61) = false := by rw [e13]; rfl
          have o13 : ((c.toNat : Int) == 40) = true := by rw [e13]; rfl
          clear e13
          go_enter Tryz.func30, Tryz.ntmps30
          go_wp2
          go_ret
          exact ⟨by rw [HX.out]; rfl, rfl⟩
        · have o0 : ((c.toNat : Int) == 43) = false := by rw [e14]; rfl
          have o1 : ((c.toNat : Int) == 45) = false := by rw [e14]; rfl
          have o2 : ((c.toNat : Int) == 42) = false := by rw [e14]; rfl
          have o3 : ((c.toNat : Int) == 47) = false := by rw [e14]; rfl
          have o4 : ((c.toNat : Int) == 37) = false := by rw [e14]; rfl
          have o5 : ((c.toNat : Int) == 94) = false := by rw [e14]; rfl
          have o6 : ((c.toNat : Int) == 35) = false := by rw [e14]; rfl
          have o7 : ((c.toNat : Int) == 38) = false := by rw [e14]; rfl
          have o8 : ((c.toNat : Int) == 126) = false := by rw [e14]; rfl
          have o9 : ((c.toNat : Int) == 124) = false := by rw [e14]; rfl
          have o10 : ((c.toNat : Int) == 60) = false := by rw [e14]; rfl
          have o11 : ((c.toNat : Int) == 62) = false := by rw [e14]; rfl
          have o12 : ((c.toNat : Int) == 61) = false := by rw [e14]; rfl
          have o13 : ((c.toNat : Int) == 40) = false := by rw [e14]; rfl
          have o14 : ((c.toNat : Int) == 41) = true := by rw [e14]; rfl
          clear e14
          go_enter Tryz.func30, Tryz.ntmps30
          go_wp2
          go_ret
          exact ⟨by rw [HX.out]; rfl, rfl⟩
        · have o0 : ((c.toNat : Int) == 43) = false := by rw [e15]; rfl
          have o1 : ((c.toNat : Int) == 45) = false := by rw [e15]; rfl
          have o2 : ((c.toNat : Int) == 42) = false := by rw [e15]; rfl
          have o3 : ((c.toNat : Int) == 47) = false := by rw [e15]; rfl
          have o4 : ((c.toNat : Int) == 37) = false := by rw [e15]; rfl
          have o5 : ((c.toNat : Int) == 94) = false := by rw [e15]; rfl
          have o6 : ((c.toNat : Int) == 35) = false := by rw [e15]; rfl
          have o7 : ((c.toNat : Int) == 38) = false := by rw [e15]; rfl
          have o8 : ((c.toNat : Int) == 126) = false := by rw [e15]; rfl
          have o9 : ((c.toNat : Int) == 124) = false := by rw [e15]; rfl
          have o10 : ((c.toNat : Int) == 60) = false := by rw [e15]; rfl
          have o11 : ((c.toNat : Int) == 62) = false := by rw [e15]; rfl
          have o12 : ((c.toNat : Int) == 61) = false := by rw [e15]; rfl
          have o13 : ((c.toNat : Int) == 40) = false := by rw [e15]; rfl
          have o14 : ((c.toNat : Int) == 41) = false := by rw [e15]; rfl
          have o15 : ((c.toNat : Int) == 123) = true := by rw [e15]; rfl
          clear e15
          go_enter Tryz.func30, Tryz.ntmps30
          go_wp2
          go_ret
          exact ⟨by rw [HX.out]; rfl, rfl⟩
        · have o0 : ((c.toNat : Int) == 43) = false := by rw [e16]; rfl
          have o1 : ((c.toNat : Int) == 45) = false := by rw [e16]; rfl
          have o2 : ((c.toNat : Int) == 42) = false := by rw [e16]; rfl
          have o3 : ((c.toNat : Int) == 47) = false := by rw [e16]; rfl
          have o4 : ((c.toNat : Int) == 37) = false := by rw [e16]; rfl
          have o5 : ((c.toNat : Int) == 94) = false := by rw [e16]; rfl
          have o6 : ((c.toNat : Int) == 35) = false := by rw [e16]; rfl
          have o7 : ((c.toNat : Int) == 38) = false := by rw [e16]; rfl
          have o8 : ((c.toNat : Int) == 126) = false := by rw [e16]; rfl
          have o9 : ((c.toNat : Int) == 124) = false := by rw [e16]; rfl
          have o10 : ((c.toNat : Int) == 60) = false := by rw [e16]; rfl
          have o11 : ((c.toNat : Int) == 62) = false := by rw [e16]; rfl
          have o12 : ((c.toNat : Int) == 61) = false := by rw [e16]; rfl
          have o13 : ((c.toNat : Int) == 40) = false := by rw [e16]; rfl
          have o14 : ((c.toNat : Int) == 41) = false := by rw [e16]; rfl
          have o15 : ((c.toNat : Int) == 123) = false := by rw [e16]; rfl
          have o16 : ((c.toNat : Int) == 125) = true := by rw [e16]; rfl
          clear e16
          go_enter Tryz.func30, Tryz.ntmps30
          go_wp2
          go_ret
          exact ⟨by rw [HX.out]; rfl, rfl⟩
        · have o0 : ((c.toNat : Int) == 43) = false := by rw [e17]; rfl
          have o1 : ((c.toNat : Int) == 45) = false := by rw [e17]; rfl
          have o2 : ((c.toNat : Int) == 42) = false := by rw [e17]; rfl
          have o3 : ((c.toNat : Int) == 47) = false := by rw [e17]; rfl
          have o4 : ((c.toNat : Int) == 37) = false := by rw [e17]; rfl
          have o5 : ((c.toNat : Int) == 94) = false := by rw [e17]; rfl
          have o6 : ((c.toNat : Int) == 35) = false := by rw [e17]; rfl
          have o7 : ((c.toNat : Int) == 38) = false := by rw [e17]; rfl
          have o8 : ((c.toNat : Int) == 126) = false := by rw [e17]; rfl
          have o9 : ((c.toNat : Int) == 124) = false := by rw [e17]; rfl
          have o10 : ((c.toNat : Int) == 60) = false := by rw [e17]; rfl
          have o11 : ((c.toNat : Int) == 62) = false := by rw [e17]; rfl
          have o12 : ((c.toNat : Int) == 61) = false := by rw [e17]; rfl
          have o13 : ((c.toNat : Int) == 40) = false := by rw [e17]; rfl
          have o14 : ((c.toNat : Int) == 41) = false := by rw [e17]; rfl
          have o15 : ((c.toNat : Int) == 123) = false := by rw [e17]; rfl
          have o16 : ((c.toNat : Int) == 125) = false := by rw [e17]; rfl
          have o17 : ((c.toNat : Int) == 91) = true := by rw [e17]; rfl
          clear e17
          go_enter Tryz.func30, Tryz.ntmps30
          go_wp2
          go_ret
          exact ⟨by rw [HX.out]; rfl, rfl⟩
        · have o0 : ((c.toNat : Int) == 43) = false := by rw [e18]; rfl
          have o1 : ((c.toNat : Int) == 45) = false := by rw [e18]; rfl
          have o2 : ((c.toNat : Int) == 42) = false := by rw [e18]; rfl
          have o3 : ((c.toNat : Int) == 47) = false := by rw [e18]; rfl
          have o4 : ((c.toNat : Int) == 37) = false := by rw [e18]; rfl
          have o5 : ((c.toNat : Int) == 94) = false := by rw [e18]; rfl
          have o6 : ((c.toNat : Int) == 35) = false := by rw [e18]; rfl
          have o7 : ((c.toNat : Int) == 38) = false := by rw [e18]; rfl
          have o8 : ((c.toNat : Int) == 126) = false := by rw [e18]; rfl
          have o9 : ((c.toNat : Int) == 124) = false := by rw [e18]; rfl
          have o10 : ((c.toNat : Int) == 60) = false := by rw [e18]; rfl
          have o11 : ((c.toNat : Int) == 62) = false := by rw [e18]; rfl
          have o12 : ((c.toNat : Int) == 61) = false := by rw [e18]; rfl
          have o13 : ((c.toNat : Int) == 40) = false := by rw [e18]; rfl
          have o14 : ((c.toNat : Int) == 41) = false := by rw [e18]; rfl
          have o15 : ((c.toNat : Int) == 123) = false := by rw [e18]; rfl
          have o16 : ((c.toNat : Int) == 125) = false := by rw [e18]; rfl
          have o17 : ((c.toNat : Int) == 91) = false := by rw [e18]; rfl
          have o18 : ((c.toNat : Int) == 93) = true := by rw [e18]; rfl
          clear e18
          go_enter Tryz.func30, Tryz.ntmps30
          go_wp2
          go_ret
          exact ⟨by rw [HX.out]; rfl, rfl⟩
        · have o0 : ((c.toNat : Int) == 43) = false := by rw [e19]; rfl
          have o1 : ((c.toNat : Int) == 45) = false := by rw [e19]; rfl
          have o2 : ((c.toNat : Int) == 42) = false := by rw [e19]; rfl
          have o3 : ((c.toNat : Int) == 47) = false := by rw [e19]; rfl
          have o4 : ((c.toNat : Int) == 37) = false := by rw [e19]; rfl
          have o5 : ((c.toNat : Int) == 94) = false := by rw [e19]; rfl
          have o6 : ((c.toNat : Int) == 35) = false := by rw [e19]; rfl
          have o7 : ((c.toNat : Int) == 38) = false := by rw [e19]; rfl
          have o8 : ((c.toNat : Int) == 126) = false := by rw [e19]; rfl
          have o9 : ((c.toNat : Int) == 124) = false := by rw [e19]; rfl
          have o10 : ((c.toNat : Int) == 60) = false := by rw [e19]; rfl
          have o11 : ((c.toNat : Int) == 62) = false := by rw [e19]; rfl
          have o12 : ((c.toNat : Int) == 61) = false := by rw [e19]; rfl
          have o13 : ((c.toNat : Int) == 40) = false := by rw [e19]; rfl
          have o14 : ((c.toNat : Int) == 41) = false := by rw [e19]; rfl
          have o15 : ((c.toNat : Int) == 123) = false := by rw [e19]; rfl
          have o16 : ((c.toNat : Int) == 125) = false := by rw [e19]; rfl
          have o17 : ((c.toNat : Int) == 91) = false := by rw [e19]; rfl
          have o18 : ((c.toNat : Int) == 93) = false := by rw [e19]; rfl
          have o19 : ((c.toNat : Int) == 59) = true := by rw [e19]; rfl
          clear e19
          go_enter Tryz.func30, Tryz.ntmps30
          go_wp2
          go_ret
          exact ⟨by rw [HX.out]; rfl, rfl⟩
        · have o0 : ((c.toNat : Int) == 43) = false := by rw [e20]; rfl
          have o1 : ((c.toNat : Int) == 45) = false := by rw [e20]; rfl
          have o2 : ((c.toNat : Int) == 42) = false := by rw [e20]; rfl
          have o3 : ((c.toNat : Int) == 47) = false := by rw [e20]; rfl
          have o4 : ((c.toNat : Int) == 37) = false := by rw [e20]; rfl
          have o5 : ((c.toNat : Int) == 94) = false := by rw [e20]; rfl
          have o6 : ((c.toNat : Int) == 35) = false := by rw [e20]; rfl
          have o7 : ((c.toNat : Int) == 38) = false := by rw [e20]; rfl
          have o8 : ((c.toNat : Int) == 126) = false := by rw [e20]; rfl
          have o9 : ((c.toNat : Int) == 124) = false := by rw [e20]; rfl
          have o10 : ((c.toNat : Int) == 60) = false := by rw [e20]; rfl
          have o11 : ((c.toNat : Int) == 62) = false := by rw [e20]; rfl
          have o12 : ((c.toNat : Int) == 61) = false := by rw [e20]; rfl
          have o13 : ((c.toNat : Int) == 40) = false := by rw [e20]; rfl
          have o14 : ((c.toNat : Int) == 41) = false := by rw [e20]; rfl
          have o15 : ((c.toNat : Int) == 123) = false := by rw [e20]; rfl
          have o16 : ((c.toNat : Int) == 125) = false := by rw [e20]; rfl
          have o17 : ((c.toNat : Int) == 91) = false := by rw [e20]; rfl
          have o18 : ((c.toNat : Int) == 93) = false := by rw [e20]; rfl
          have o19 : ((c.toNat : Int) == 59) = false := by rw [e20]; rfl
          have o20 : ((c.toNat : Int) == 58) = true := by rw [e20]; rfl
          clear e20
          go_enter Tryz.func30, Tryz.ntmps30
          go_wp2
          go_ret
          exact ⟨by rw [HX.out]; rfl, rfl⟩
        · have o0 : ((c.toNat : Int) == 43) = false := by rw [e21]; rfl
          have o1 : ((c.toNat : Int) == 45) = false := by rw [e21]; rfl
          have o2 : ((c.toNat : Int) == 42) = false := by rw [e21]; rfl
          have o3 : ((c.toNat : Int) == 47) = false := by rw [e21]; rfl
          have o4 : ((c.toNat : Int) == 37) = false := by rw [e21]; rfl
          have o5 : ((c.toNat : Int) == 94) = false := by rw [e21]; rfl
          have o6 : ((c.toNat : Int) == 35) = false := by rw [e21]; rfl
          have o7 : ((c.toNat : Int) == 38) = false := by rw [e21]; rfl
          have o8 : ((c.toNat : Int) == 126) = false := by rw [e21]; rfl
          have o9 : ((c.toNat : Int) == 124) = false := by rw [e21]; rfl
          have o10 : ((c.toNat : Int) == 60) = false := by rw [e21]; rfl
          have o11 : ((c.toNat : Int) == 62) = false := by rw [e21]; rfl
          have o12 : ((c.toNat : Int) == 61) = false := by rw [e21]; rfl
          have o13 : ((c.toNat : Int) == 40) = false := by rw [e21]; rfl
          have o14 : ((c.toNat : Int) == 41) = false := by rw [e21]; rfl
          have o15 : ((c.toNat : Int) == 123) = false := by rw [e21]; rfl
          have o16 : ((c.toNat : Int) == 125) = false := by rw [e21]; rfl
          have o17 : ((c.toNat : Int) == 91) = false := by rw [e21]; rfl
          have o18 : ((c.toNat : Int) == 93) = false := by rw [e21]; rfl
          have o19 : ((c.toNat : Int) == 59) = false := by rw [e21]; rfl
          have o20 : ((c.toNat : Int) == 58) = false := by rw [e21]; rfl
          have o21 : ((c.toNat : Int) == 44) = true := by rw [e21]; rfl
          clear e21
          go_enter Tryz.func30, Tryz.ntmps30
          go_wp2
          go_ret
          exact ⟨by rw [HX.out]; rfl, rfl⟩
        · have o0 : ((c.toNat : Int) == 43) = false := by rw [e22]; rfl
          have o1 : ((c.toNat : Int) == 45) = false := by rw [e22]; rfl
          have o2 : ((c.toNat : Int) == 42) = false := by rw [e22]; rfl
          have o3 : ((c.toNat : Int) == 47) = false := by rw [e22]; rfl
          have o4 : ((c.toNat : Int) == 37) = false := by rw [e22]; rfl
          have o5 : ((c.toNat : Int) == 94) = false := by rw [e22]; rfl
          have o6 : ((c.toNat : Int) == 35) = false := by rw [e22]; rfl
          have o7 : ((c.toNat : Int) == 38) = false := by rw [e22]; rfl
          have o8 : ((c.toNat : Int) == 126) = false := by rw [e22]; rfl
          have o9 : ((c.toNat : Int) == 124) = false := by rw [e22]; rfl
          have o10 : ((c.toNat : Int) == 60) = false := by rw [e22]; rfl
          have o11 : ((c.toNat : Int) == 62) = false := by rw [e22]; rfl
          have o12 : ((c.toNat : Int) == 61) = false := by rw [e22]; rfl
          have o13 : ((c.toNat : Int) == 40) = false := by rw [e22]; rfl
          have o14 : ((c.toNat : Int) == 41) = false := by rw [e22]; rfl
          have o15 : ((c.toNat : Int) == 123) = false := by rw [e22]; rfl
          have o16 : ((c.toNat : Int) == 125) = false := by rw [e22]; rfl
          have o17 : ((c.toNat : Int) == 91) = false := by rw [e22]; rfl
          have o18 : ((c.toNat : Int) == 93) = false := by rw [e22]; rfl
          have o19 : ((c.toNat : Int) == 59) = false := by rw [e22]; rfl
          have o20 : ((c.toNat : Int) == 58) = false := by rw [e22]; rfl
          have o21 : ((c.toNat : Int) == 44) = false := by rw [e22]; rfl
          have o22 : ((c.toNat : Int) == 46) = true := by rw [e22]; rfl
          clear e22
          go_enter Tryz.func30, Tryz.ntmps30
          go_wp2
          go_ret
          exact ⟨by rw [HX.out]; rfl, rfl⟩
    · have l2 : ¬ 2 ≤ (s.size : Int) := by omega
      have l1 : ¬ 3 ≤ (s.size : Int) := by omega
      rcases hm with e0 | e1 | e2 | e3 | e4 | e5 | e6 | e7 | e8 | e9 | e10 | e11 | e12 | e13 | e14 | e15 | e16 | e17 | e18 | e19 | e20 | e21 | e22
      · have o0 : ((c.toNat : Int) == 43) = true := by rw [e0]; rfl
        clear e0
        go_enter Tryz.func30, Tryz.ntmps30
        go_wp2
        go_ret
        exact ⟨by rw [HX.out]; rfl, rfl⟩
      · have o0 : ((c.toNat : Int) == 43) = false := by rw [e1]; rfl
        have o1 : ((c.toNat : Int) == 45) = true := by rw [e1]; rfl
        clear e1
        go_enter Tryz.func30, Tryz.ntmps30
        go_wp2
        go_ret
        exact ⟨by rw [HX.out]; rfl, rfl⟩
      · have o0 : ((c.toNat : Int) == 43) = false := by rw [e2]; rfl
        have o1 : ((c.toNat : Int) == 45) = false := by rw [e2]; rfl
        have o2 : ((c.toNat : Int) == 42) = true := by rw [e2]; rfl
        clear e2
        go_enter Tryz.func30, Tryz.ntmps30
        go_wp2
        go_ret
        exact ⟨by rw [HX.out]; rfl, rfl⟩
      · have o0 : ((c.toNat : Int) == 43) = false := by rw [e3]; rfl
        have o1 : ((c.toNat : Int) == 45) = false := by rw [e3]; rfl
        have o2 : ((c.toNat : Int) == 42) = false := by rw [e3]; rfl
        have o3 : ((c.toNat : Int) == 47) = true := by rw [e3]; rfl
        clear e3
        go_enter Tryz.func30, Tryz.ntmps30
        go_wp2
        go_ret
        exact ⟨by rw [HX.out]; rfl, rfl⟩
      · have o0 : ((c.toNat : Int) == 43) = false := by rw [e4]; rfl
        have o1 : ((c.toNat : Int) == 45) = false := by rw [e4]; rfl
        have o2 : ((c.toNat : Int) == 42) = false := by rw [e4]; rfl
        have o3 : ((c.toNat : Int) == 47) = false := by rw [e4]; rfl
        have o4 : ((c.toNat : Int) == 37) = true := by rw [e4]; rfl
        clear e4
        go_enter Tryz.func30, Tryz.ntmps30
        go_wp2
        go_ret
        exact ⟨by rw [HX.out]; rfl, rfl⟩
      · have o0 : ((c.toNat : Int) == 43) = false := by rw [e5]; rfl
        have o1 : ((c.toNat : Int) == 45) = false := by rw [e5]; rfl
        have o2 : ((c.toNat : Int) == 42) = false := by rw [e5]; rfl
        have o3 : ((c.toNat : Int) == 47) = false := by rw [e5]; rfl
        have o4 : ((c.toNat : Int) == 37) = false := by rw [e5]; rfl
        have o5 : ((c.toNat : Int) == 94) = true := by rw [e5]; rfl
        clear e5
        go_enter Tryz.func30, Tryz.ntmps30
        go_wp2
        go_ret
        exact ⟨by rw [HX.out]; rfl, rfl⟩
      · have o0 : ((c.toNat : Int) == 43) = false := by rw [e6]; rfl
        have o1 : ((c.toNat : Int) == 45) = false := by rw [e6]; rfl
        have o2 : ((c.toNat : Int) == 42) = false := by rw [e6]; rfl
        have o3 : ((c.toNat : Int) == 47) = false := by rw [e6]; rfl
        have o4 : ((c.toNat : Int) == 37) = false := by rw [e6]; rfl
        have o5 : ((c.toNat : Int) == 94) = false := by rw [e6]; rfl
        have o6 : ((c.toNat : Int) == 35) = true := by rw [e6]; rfl
        clear e6
        go_enter Tryz.func30, Tryz.ntmps30
        go_wp2
        go_ret
        exact ⟨by rw [HX.out]; rfl, rfl⟩
      · have o0 : ((c.toNat : Int) == 43) = false := by rw [e7]; rfl
        have o1 : ((c.toNat : Int) == 45) = false := by rw [e7]; rfl
        have o2 : ((c.toNat : Int) == 42) = false := by rw [e7]; rfl
        have o3 : ((c.toNat : Int) == 47) = false := by rw [e7]; rfl
        have o4 : ((c.toNat : Int) == 37) = false := by rw [e7]; rfl
        have o5 : ((c.toNat : Int) == 94) = false := by rw [e7]; rfl
        have o6 : ((c.toNat : Int) == 35) = false := by rw [e7]; rfl
        have o7 : ((c.toNat : Int) == 38) = true := by rw [e7]; rfl
        clear e7
        go_enter Tryz.func30, Tryz.ntmps30
        go_wp2
        go_ret
        exact ⟨by rw [HX.out]; rfl, rfl⟩
      · have o0 : ((c.toNat : Int) == 43) = false := by rw [e8]; rfl
        have o1 : ((c.toNat : Int) == 45) = false := by rw [e8]; rfl
        have o2 : ((c.toNat : Int) == 42) = false := by rw [e8]; rfl
        have o3 : ((c.toNat : Int) == 47) = false := by rw [e8]; rfl
        have o4 : ((c.toNat : Int) == 37) = false := by rw [e8]; rfl
        have o5 : ((c.toNat : Int) == 94) = false := by rw [e8]; rfl
        have o6 : ((c.toNat : Int) == 35) = false := by rw [e8]; rfl
        have o7 : ((c.toNat : Int) == 38) = false := by rw [e8]; rfl
        have o8 : ((c.toNat : Int) == 126) = true := by rw [e8]; rfl
        clear e8
        go_enter Tryz.func30, Tryz.ntmps30
        go_wp2
        go_ret
        exact ⟨by rw [HX.out]; rfl, rfl⟩
      · have o0 : ((c.toNat : Int) == 43) = false := by rw [e9]; rfl
        have o1 : ((c.toNat : Int) == 45) = false := by rw [e9]; rfl
        have o2 : ((c.toNat : Int) == 42) = false := by rw [e9]; rfl
        have o3 : ((c.toNat : Int) == 47) = false := by rw [e9]; rfl
        have o4 : ((c.toNat : Int) == 37) = false := by rw [e9]; rfl
        have o5 : ((c.toNat : Int) == 94) = false := by rw [e9]; rfl
        have o6 : ((c.toNat : Int) == 35) = false := by rw [e9]; rfl
        have o7 : ((c.toNat : Int) == 38) = false := by rw [e9]; rfl
        have o8 : ((c.toNat : Int) == 126) = false := by rw [e9]; rfl
        have o9 : ((c.toNat : Int) == 124) = true := by rw [e9]; rfl
        clear e9
        go_enter Tryz.func30, Tryz.ntmps30
        go_wp2
        go_ret
        exact ⟨by rw [HX.out]; rfl, rfl⟩
      · have o0 : ((c.toNat : Int) == 43) = false := by rw [e10]; rfl
        have o1 : ((c.toNat : Int) == 45) = false := by rw [e10]; rfl
        have o2 : ((c.toNat : Int) == 42) = false := by rw [e10]; rfl
        have o3 : ((c.toNat : Int) == 47) = false := by rw [e10]; rfl
        have o4 : ((c.toNat : Int) == 37) = false := by rw [e10]; rfl
        have o5 : ((c.toNat : Int) == 94) = false := by rw [e10]; rfl
        have o6 : ((c.toNat : Int) == 35) = false := by rw [e10]; rfl
        have o7 : ((c.toNat : Int) == 38) = false := by rw [e10]; rfl
        have o8 : ((c.toNat : Int) == 126) = false := by rw [e10]; rfl
        have o9 : ((c.toNat : Int) == 124) = false := by rw [e10]; rfl
        have o10 : ((c.toNat : Int) == 60) = true := by rw [e10]; rfl
        clear e10
        go_enter Tryz.func30, Tryz.ntmps30
        go_wp2
        go_ret
        exact ⟨by rw [HX.out]; rfl, rfl⟩
      · have o0 : ((c.toNat : Int) == 43) = false := by rw [e11]; rfl
        have o1 : ((c.toNat : Int) == 45) = false := by rw [e11]; rfl
        have o2 : ((c.toNat : Int) == 42) = false := by rw [e11]; rfl
        have o3 : ((c.toNat : Int) == 47) = false := by rw [e11]; rfl
        have o4 : ((c.toNat : Int) == 37) = false := by rw [e11]; rfl
        have o5 : ((c.toNat : Int) == 94) = false := by rw [e11]; rfl
        have o6 : ((c.toNat : Int) == 35) = false := by rw [e11]; rfl
        have o7 : ((c.toNat : Int) == 38) = false := by rw [e11]; rfl
        have o8 : ((c.toNat : Int) == 126) = false := by rw [e11]; rfl
        have o9 : ((c.toNat : Int) == 124) = false := by rw [e11]; rfl
        have o10 : ((c.toNat : Int) == 60) = false := by rw [e11]; rfl
        have o11 : ((c.toNat : Int) == 62) = true := by rw [e11]; rfl
        clear e11
        go_enter Tryz.func30, Tryz.ntmps30
        go_wp2
        go_ret
        exact ⟨by rw [HX.out]; rfl, rfl⟩
      · have o0 : ((c.toNat : Int) == 43) = false := by rw [e12]; rfl
        have o1 : ((c.toNat : Int) == 45) = false := by rw [e12]; rfl
        have o2 : ((c.toNat : Int) == 42) = false := by rw [e12]; rfl
        have o3 : ((c.toNat : Int) == 47) = false := by rw [e12]; rfl
        have o4 : ((c.toNat : Int) == 37) = false := by rw [e12]; rfl
        have o5 : ((c.toNat : Int) == 94) = false := by rw [e12]; rfl
        have o6 : ((c.toNat : Int) == 35) = false := by rw [e12]; rfl
        have o7 : ((c.toNat : Int) == 38) = false := by rw [e12]; rfl
        have o8 : ((c.toNat : Int) == 126) = false := by rw [e12]; rfl
        have o9 : ((c.toNat : Int) == 124) = false := by rw [e12]; rfl
        have o10 : ((c.toNat : Int) == 60) = false := by rw [e12]; rfl
        have o11 : ((c.toNat : Int) == 62) = false := by rw [e12]; rfl
        have o12 : ((c.toNat : Int) == 61) = true := by rw [e12]; rfl
        clear e12
        go_enter Tryz.func30, Tryz.ntmps30
        go_wp2
        go_ret
        exact ⟨by rw [HX.out]; rfl, rfl⟩
      · have o0 : ((c.toNat : Int) == 43) = false := by rw [e13]; rfl
        have o1 : ((c.toNat : Int) == 45) = false := by rw [e13]; rfl
        have o2 : ((c.toNat : Int) == 42) = false := by rw [e13]; rfl
        have o3 : ((c.toNat : Int) == 47) = false := by rw [e13]; rfl
        have o4 : ((c.toNat : Int) == 37) = false := by rw [e13]; rfl
        have o5 : ((c.toNat : Int) == 94) = false := by rw [e13]; rfl
        have o6 : ((c.toNat : Int) == 35) = false := by rw [e13]; rfl
        have o7 : ((c.toNat : Int) == 38) = false := by rw [e13]; rfl
        have o8 : ((c.toNat : Int) == 126) = false := by rw [e13]; rfl
        have o9 : ((c.toNat : Int) == 124) = false := by rw [e13]; rfl
        have o10 : ((c.toNat : Int) == 60) = false := by rw [e13]; rfl
        have o11 : ((c.toNat : Int) == 62) = false := by rw [e13]; rfl
        have o12 : ((c.toNat : Int) == 61) = false := by rw [e13]; rfl
        have o13 : ((c.toNat : Int) == 40) = true := by rw [e13]; rfl
        clear e13
        go_enter Tryz.func30, Tryz.ntmps30
        go_wp2
        go_ret
        exact ⟨by rw [HX.out]; rfl, rfl⟩
      · have o0 : ((c.toNat : Int) == 43) = false := by rw [e14]; rfl
        have o1 : ((c.toNat : Int) == 45) = false := by rw [e14]; rfl
        have o2 : ((c.toNat : Int) == 42) = false := by rw [e14]; rfl
        have o3 : ((c.toNat : Int) == 47) = false := by rw [e14]; rfl
        have o4 : ((c.toNat : Int) == 37) = false := by rw [e14]; rfl
        have o5 : ((c.toNat : Int) == 94) = false := by rw [e14]; rfl
        have o6 : ((c.toNat : Int) == 35) = false := by rw [e14]; rfl
        have o7 : ((c.toNat : Int) == 38) = false := by rw [e14]; rfl
        have o8 : ((c.toNat : Int) == 126) = false := by rw [e14]; rfl
        have o9 : ((c.toNat : Int) == 124) = false := by rw [e14]; rfl
        have o10 : ((c.toNat : Int) == 60) = false := by rw [e14]; rfl
        have o11 : ((c.toNat : Int) == 62) = false := by rw [e14]; rfl
        have o12 : ((c.toNat : Int) == 61) = false := by rw [e14]; rfl
        have o13 : ((c.toNat : Int) == 40) = false := by rw [e14]; rfl
        have o14 : ((c.toNat : Int) == 41) = true := by rw [e14]; rfl
        clear e14
        go_enter Tryz.func30, Tryz.ntmps30
        go_wp2
        go_ret
        exact ⟨by rw [HX.out]; rfl, rfl⟩
      · have o0 : ((c.toNat : Int) == 43) = false := by rw [e15]; rfl
        have o1 : ((c.toNat : Int) == 45) = false := by rw [e15]; rfl
        have o2 : ((c.toNat : Int) == 42) = false := by rw [e15]; rfl
        have o3 : ((c.toNat : Int) == 47) = false := by rw [e15]; rfl
        have o4 : ((c.toNat : Int) == 37) = false := by rw [e15]; rfl
        have o5 : ((c.toNat : Int) == 94) = false := by rw [e15]; rfl
        have o6 : ((c.toNat : Int) == 35) = false := by rw [e15]; rfl
        have o7 : ((c.toNat : Int) == 38) = false := by rw [e15]; rfl
        have o8 : ((c.toNat : Int) == 126) = false := by rw [e15]; rfl
        have o9 : ((c.toNat : Int) == 124) = false := by rw [e15]; rfl
        have o10 : ((c.toNat : Int) == 60) = false := by rw [e15]; rfl
        have o11 : ((c.toNat : Int) == 62) = false := by rw [e15]; rfl
        have o12 : ((c.toNat : Int) == 61) = false := by rw [e15]; rfl
        have o13 : ((c.toNat : Int) == 40) = false := by rw [e15]; rfl
        have o14 : ((c.toNat : Int) == 41) = false := by rw [e15]; rfl
        have o15 : ((c.toNat : Int) == 123) = true := by rw [e15]; rfl
        clear e15
        go_enter Tryz.func30, Tryz.ntmps30
        go_wp2
        go_ret
        exact ⟨by rw [HX.out]; rfl, rfl⟩
      · have o0 : ((c.toNat : Int) == 43) = false := by rw [e16]; rfl
        have o1 : ((c.toNat : Int) == 45) = false := by rw [e16]; rfl
        have o2 : ((c.toNat : Int) == 42) = false := by rw [e16]; rfl
        have o3 : ((c.toNat : Int) == 47) = false := by rw [e16]; rfl
        have o4 : ((c.toNat : Int) == 37) = false := by rw [e16]; rfl
        have o5 : ((c.toNat : Int) == 94) = false := by rw [e16]; rfl
        have o6 : ((c.toNat : Int) == 35) = false := by rw [e16]; rfl
        have o7 : ((c.toNat : Int) == 38) = false := by rw [e16]; rfl
        have o8 : ((c.toNat : Int) == 126) = false := by rw [e16]; rfl
        have o9 : ((c.toNat : Int) == 124) = false := by rw [e16]; rfl
        have o10 : ((c.toNat : Int) == 60) = false := by rw [e16]; rfl
        have o11 : ((c.toNat : Int) == 62) = false := by rw [e16]; rfl
        have o12 : ((c.toNat : Int) == 61) = false := by rw [e16]; rfl
        have o13 : ((c.toNat : Int) == 40) = false := by rw [e16]; rfl
        have o14 : ((c.toNat : Int) == 41) = false := by rw [e16]; rfl
        have o15 : ((c.toNat : Int) == 123) = false := by rw [e16]; rfl
        have o16 : ((c.toNat : Int) == 125) = true := by rw [e16]; rfl
        clear e16
        go_enter Tryz.func30, Tryz.ntmps30
        go_wp2
        go_ret
        exact ⟨by rw [HX.out]; rfl, rfl⟩
      · have o0 : ((c.toNat : Int) == 43) = false := by rw [e17]; rfl
        have o1 : ((c.toNat : Int) == 45) = false := by rw [e17]; rfl
        have o2 : ((c.toNat : Int) == 42) = false := by rw [e17]; rfl
        have o3 : ((c.toNat : Int) == 47) = false := by rw [e17]; rfl
        have o4 : ((c.toNat : Int) == 37) = false := by rw [e17]; rfl
        have o5 : ((c.toNat : Int) == 94) = false := by rw [e17]; rfl
        have o6 : ((c.toNat : Int) == 35) = false := by rw [e17]; rfl
        have o7 : ((c.toNat : Int) == 38) = false := by rw [e17]; rfl
        have o8 : ((c.toNat : Int) == 126) = false := by rw [e17]; rfl
        have o9 : ((c.toNat : Int) == 124) = false := by rw [e17]; rfl
        have o10 : ((c.toNat : Int) == 60) = false := by rw [e17]; rfl
        have o11 : ((c.toNat : Int) == 62) = false := by rw [e17]; rfl
        have o12 : ((c.toNat : Int) == 61) = false := by rw [e17]; rfl
        have o13 : ((c.toNat : Int) == 40) = false := by rw [e17]; rfl
        have o14 : ((c.toNat : Int) == 41) = false := by rw [e17]; rfl
        have o15 : ((c.toNat : Int) == 123) = false := by rw [e17]; rfl
        have o16 : ((c.toNat : Int) == 125) = false := by rw [e17]; rfl
        have o17 : ((c.toNat : Int) == 91) = true := by rw [e17]; rfl
        clear e17
        go_enter Tryz.func30, Tryz.ntmps30
        go_wp2
        go_ret
        exact ⟨by rw [HX.out]; rfl, rfl⟩
      · have o0 : ((c.toNat : Int) == 43) = false := by rw [e18]; rfl
        have o1 : ((c.toNat : Int) == 45) = false := by rw [e18]; rfl
        have o2 : ((c.toNat : Int) == 42) = false := by rw [e18]; rfl
        have o3 : ((c.toNat : Int) == 47) = false := by rw [e18]; rfl
        have o4 : ((c.toNat : Int) == 37) = false := by rw [e18]; rfl
        have o5 : ((c.toNat : Int) == 94) = false := by rw [e18]; rfl
        have o6 : ((c.toNat : Int) == 35) = false := by rw [e18]; rfl
        have o7 : ((c.toNat : Int) == 38) = false := by rw [e18]; rfl
        have o8 : ((c.toNat : Int) == 126) = false := by rw [e18]; rfl
        have o9 : ((c.toNat : Int) == 124) = false := by rw [e18]; rfl
        have o10 : ((c.toNat : Int) == 60) = false := by rw [e18]; rfl
        have o11 : ((c.toNat : Int) == 62) = false := by rw [e18]; rfl
        have o12 : ((c.toNat : Int) == 61) = false := by rw [e18]; rfl
        have o13 : ((c.toNat : Int) == 40) = false := by rw [e18]; rfl
        have o14 : ((c.toNat : Int) == 41) = false := by rw [e18]; rfl
        have o15 : ((c.toNat : Int) == 123) = false := by rw [e18]; rfl
        have o16 : ((c.toNat : Int) == 125) = false := by rw [e18]; rfl
        have o17 : ((c.toNat : Int) == 91) = false := by rw [e18]; rfl
        have o18 : ((c.toNat : Int) == 93) = true := by rw [e18]; rfl
        clear e18
        go_enter Tryz.func30, Tryz.ntmps30
        go_wp2
        go_ret
        exact ⟨by rw [HX.out]; rfl, rfl⟩
      · have o0 : ((c.toNat : Int) == 43) = false := by rw [e19]; rfl
        have o1 : ((c.toNat : Int) == 45) = false := by rw [e19]; rfl
        have o2 : ((c.toNat : Int) == 42) = false := by rw [e19]; rfl
        have o3 : ((c.toNat : Int) == 47) = false := by rw [e19]; rfl
        have o4 : ((c.toNat : Int) == 37) = false := by rw [e19]; rfl
        have o5 : ((c.toNat : Int) == 94) = false := by rw [e19]; rfl
        have o6 : ((c.toNat : Int) == 35) = false := by rw [e19]; rfl
        have o7 : ((c.toNat : Int) == 38) = false := by rw [e19]; rfl
        have o8 : ((c.toNat : Int) == 126) = false := by rw [e19]; rfl
        have o9 : ((c.toNat : Int) == 124) = false := by rw [e19]; rfl
        have o10 : ((c.toNat : Int) == 60) = false := by rw [e19]; rfl
        have o11 : ((c.toNat : Int) == 62) = false := by rw [e19]; rfl
        have o12 : ((c.toNat : Int) == 61) = false := by rw [e19]; rfl
        have o13 : ((c.toNat : Int) == 40) = false := by rw [e19]; rfl
        have o14 : ((c.toNat : Int) == 41) = false := by rw [e19]; rfl
        have o15 : ((c.toNat : Int) == 123) = false := by rw [e19]; rfl
        have o16 : ((c.toNat : Int) == 125) = false := by rw [e19]; rfl
        have o17 : ((c.toNat : Int) == 91) = false := by rw [e19]; rfl
        have o18 : ((c.toNat : Int) == 93) = false := by rw [e19]; rfl
        have o19 : ((c.toNat : Int) == 59) = true := by rw [e19]; rfl
        clear e19
        go_enter Tryz.func30, Tryz.ntmps30
        go_wp2
        go_ret
        exact ⟨by rw [HX.out]; rfl, rfl⟩
      · have o0 : ((c.toNat : Int) == 43) = false := by rw [e20]; rfl
        have o1 : ((c.toNat : Int) == 45) = false := by rw [e20]; rfl
        have o2 : ((c.toNat : Int) == 42) = false := by rw [e20]; rfl
        have o3 : ((c.toNat : Int) == 47) = false := by rw [e20]; rfl
        have o4 : ((c.toNat : Int) == 37) = false := by rw [e20]; rfl
        have o5 : ((c.toNat : Int) == 94) = false := by rw [e20]; rfl
        have o6 : ((c.toNat : Int) == 35) = false := by rw [e20]; rfl
        have o7 : ((c.toNat : Int) == 38) = false := by rw [e20]; rfl
        have o8 : ((c.toNat : Int) == 126) = false := by rw [e20]; rfl
        have o9 : ((c.toNat : Int) == 124) = false := by rw [e20]; rfl
        have o10 : ((c.toNat : Int) == 60) = false := by rw [e20]; rfl
        have o11 : ((c.toNat : Int) == 62) = false := by rw [e20]; rfl
        have o12 : ((c.toNat : Int) == 61) = false := by rw [e20]; rfl
        have o13 : ((c.toNat : Int) == 40) = false := by rw [e20]; rfl
        have o14 : ((c.toNat : Int) == 41) = false := by rw [e20]; rfl
        have o15 : ((c.toNat : Int) == 123) = false := by rw [e20]; rfl
        have o16 : ((c.toNat : Int) == 125) = false := by rw [e20]; rfl
        have o17 : ((c.toNat : Int) == 91) = false := by rw [e20]; rfl
        have o18 : ((c.toNat : Int) == 93) = false := by rw [e20]; rfl
        have o19 : ((c.toNat : Int) == 59) = false := by rw [e20]; rfl
        have o20 : ((c.toNat : Int) == 58) = true := by rw [e20]; rfl
        clear e20
        go_enter Tryz.func30, Tryz.ntmps30
        go_wp2
        go_ret
        exact ⟨by rw [HX.out]; rfl, rfl⟩
      · have o0 : ((c.toNat : Int) == 43) = false := by rw [e21]; rfl
        have o1 : ((c.toNat : Int) == 45) = false := by rw [e21]; rfl
        have o2 : ((c.toNat : Int) == 42) = false := by rw [e21]; rfl
        have o3 : ((c.toNat : Int) == 47) = false := by rw [e21]; rfl
        have o4 : ((c.toNat : Int) == 37) = false := by rw [e21]; rfl
        have o5 : ((c.toNat : Int) == 94) = false := by rw [e21]; rfl
        have o6 : ((c.toNat : Int) == 35) = false := by rw [e21]; rfl
        have o7 : ((c.toNat : Int) == 38) = false := by rw [e21]; rfl
        have o8 : ((c.toNat : Int) == 126) = false := by rw [e21]; rfl
        have o9 : ((c.toNat : Int) == 124) = false := by rw [e21]; rfl
        have o10 : ((c.toNat : Int) == 60) = false := by rw [e21]; rfl
        have o11 : ((c.toNat : Int) == 62) = false := by rw [e21]; rfl
        have o12 : ((c.toNat : Int) == 61) = false := by rw [e21]; rfl
        have o13 : ((c.toNat : Int) == 40) = false := by rw [e21]; rfl
        have o14 : ((c.toNat : Int) == 41) = false := by rw [e21]; rfl
        have o15 : ((c.toNat : Int) == 123) = false := by rw [e21]; rfl
        have o16 : ((c.toNat : Int) == 125) = false := by rw [e21]; rfl
        have o17 : ((c.toNat : Int) == 91) = false := by rw [e21]; rfl
        have o18 : ((c.toNat : Int) == 93) = false := by rw [e21]; rfl
        have o19 : ((c.toNat : Int) == 59) = false := by rw [e21]; rfl
        have o20 : ((c.toNat : Int) == 58) = false := by rw [e21]; rfl
        have o21 : ((c.toNat : Int) == 44) = true := by rw [e21]; rfl
        clear e21
        go_enter Tryz.func30, Tryz.ntmps30
        go_wp2
        go_ret
        exact ⟨by rw [HX.out]; rfl, rfl⟩
      · have o0 : ((c.toNat : Int) == 43) = false := by rw [e22]; rfl
        have o1 : ((c.toNat : Int) == 45) = false := by rw [e22]; rfl
        have o2 : ((c.toNat : Int) == 42) = false := by rw [e22]; rfl
        have o3 : ((c.toNat : Int) == 47) = false := by rw [e22]; rfl
        have o4 : ((c.toNat : Int) == 37) = false := by rw [e22]; rfl
        have o5 : ((c.toNat : Int) == 94) = false := by rw [e22]; rfl
        have o6 : ((c.toNat : Int) == 35) = false := by rw [e22]; rfl
        have o7 : ((c.toNat : Int) == 38) = false := by rw [e22]; rfl
        have o8 : ((c.toNat : Int) == 126) = false := by rw [e22]; rfl
        have o9 : ((c.toNat : Int) == 124) = false := by rw [e22]; rfl
        have o10 : ((c.toNat : Int) == 60) = false := by rw [e22]; rfl
        have o11 : ((c.toNat : Int) == 62) = false := by rw [e22]; rfl
        have o12 : ((c.toNat : Int) == 61) = false := by rw [e22]; rfl
        have o13 : ((c.toNat : Int) == 40) = false := by rw [e22]; rfl
        have o14 : ((c.toNat : Int) == 41) = false := by rw [e22]; rfl
        have o15 : ((c.toNat : Int) == 123) = false := by rw [e22]; rfl
        have o16 : ((c.toNat : Int) == 125) = false := by rw [e22]; rfl
        have o17 : ((c.toNat : Int) == 91) = false := by rw [e22]; rfl
        have o18 : ((c.toNat : Int) == 93) = false := by rw [e22]; rfl
        have o19 : ((c.toNat : Int) == 59) = false := by rw [e22]; rfl
        have o20 : ((c.toNat : Int) == 58) = false := by rw [e22]; rfl
        have o21 : ((c.toNat : Int) == 44) = false := by rw [e22]; rfl
        have o22 : ((c.toNat : Int) == 46) = true := by rw [e22]; rfl
        clear e22
        go_enter Tryz.func30, Tryz.ntmps30
        go_wp2
        go_ret
        exact ⟨by rw [HX.out]; rfl, rfl⟩
  · have HX : Hid (symN s.data.toList = 0) := Lib.hid (by rw [HN.out, if_neg hC])
    have hm : c ∉ oneL := by simpa using hC
    unfold oneL at hm
    simp only [List.mem_cons, List.not_mem_nil, or_false, not_or] at hm
    obtain ⟨m0, m1, m2, m3, m4, m5, m6, m7, m8, m9, m10, m11, m12, m13, m14, m15, m16, m17, m18, m19, m20, m21, m22⟩ := hm
    have o0 : ((c.toNat : Int) == 43) = false := ne2 c 43 (by decide) m0
    have o1 : ((c.toNat : Int) == 45) = false := ne2 c 45 (by decide) m1
    have o2 : ((c.toNat : Int) == 42) = false := ne2 c 42 (by decide) m2
    have o3 : ((c.toNat : Int) == 47) = false := ne2 c 47 (by decide) m3
    have o4 : ((c.toNat : Int) == 37) = false := ne2 c 37 (by decide) m4
    have o5 : ((c.toNat : Int) == 94) = false := ne2 c 94 (by decide) m5
    have o6 : ((c.toNat : Int) == 35) = false := ne2 c 35 (by decide) m6
    have o7 : ((c.toNat : Int) == 38) = false := ne2 c 38 (by decide) m7
    have o8 : ((c.toNat : Int) == 126) = false := ne2 c 126 (by decide) m8
    have o9 : ((c.toNat : Int) == 124) = false := ne2 c 124 (by decide) m9
    have o10 : ((c.toNat : Int) == 60) = false := ne2 c 60 (by decide) m10
    have o11 : ((c.toNat : Int) == 62) = false := ne2 c 62 (by decide) m11
    have o12 : ((c.toNat : Int) == 61) = false := ne2 c 61 (by decide) m12
    have o13 : ((c.toNat : Int) == 40) = false := ne2 c 40 (by decide) m13
    have o14 : ((c.toNat : Int) == 41) = false := ne2 c 41 (by decide) m14
    have o15 : ((c.toNat : Int) == 123) = false := ne2 c 123 (by decide) m15
    have o16 : ((c.toNat : Int) == 125) = false := ne2 c 125 (by decide) m16
    have o17 : ((c.toNat : Int) == 91) = false := ne2 c 91 (by decide) m17
    have o18 : ((c.toNat : Int) == 93) = false := ne2 c 93 (by decide) m18
    have o19 : ((c.toNat : Int) == 59) = false := ne2 c 59 (by decide) m19
    have o20 : ((c.toNat : Int) == 58) = false := ne2 c 58 (by decide) m20
    have o21 : ((c.toNat : Int) == 44) = false := ne2 c 44 (by decide) m21
    have o22 : ((c.toNat : Int) == 46) = false := ne2 c 46 (by decide) m22
    clear hC HN m0 m1 m2 m3 m4 m5 m6 m7 m8 m9 m10 m11 m12 m13 m14 m15 m16 m17 m18 m19 m20 m21 m22
    by_cases h2s : 2 ≤ s.size
    · have l2 : 2 ≤ (s.size : Int) := by omega
      have t0 := TN.out h2s [47, 47] (by decide)
      have t1 := TN.out h2s [60, 60] (by decide)
      have t2 := TN.out h2s [62, 62] (by decide)
      have t3 := TN.out h2s [61, 61] (by decide)
      have t4 := TN.out h2s [126, 61] (by decide)
      have t5 := TN.out h2s [60, 61] (by decide)
      have t6 := TN.out h2s [62, 61] (by decide)
      have t7 := TN.out h2s [58, 58] (by decide)
      have t8 := TN.out h2s [46, 46] (by decide)
      by_cases h3s : 3 ≤ s.size
      · have l1 : 3 ≤ (s.size : Int) := by omega
        have a3' := A3.out h3s
        go_enter Tryz.func30, Tryz.ntmps30
        go_wp2
        go_ret
        exact ⟨by rw [HX.out]; rfl, rfl⟩
      · have l1 : ¬ 3 ≤ (s.size : Int) := by omega
        go_enter Tryz.func30, Tryz.ntmps30
        go_wp2
        go_ret
        exact ⟨by rw [HX.out]; rfl, rfl⟩
    · have l2 : ¬ 2 ≤ (s.size : Int) := by omega
      have l1 : ¬ 3 ≤ (s.size : Int) := by omega
      go_enter Tryz.func30, Tryz.ntmps30
      go_wp2
      go_ret
      exact ⟨by rw [HX.out]; rfl, rfl⟩
end Go.Proofs.YtbcbddglgfakpaaGreatDoor
