/- The reference of layer 3: the tokens of any text. -/
import Derived.Test.YtbcbddglgfakpaaGreatDoorLexWf
namespace Go.Proofs.YtbcbddglgfakpaaGreatDoor
open Go.RowKit Go.Joins M1 M2 M3
set_option linter.unusedVariables false
theorem tkR_progress2 {l : List UInt8} {a n : Nat} (hl : l.length = n) (ha : a < n) (h : (tkR l a).E = 0) : a < (tkR l a).nx ∧ (tkR l a).nx ≤ n := by
  subst hl; exact tkR_progress ha h
set_option maxHeartbeats 16000000 in
set_option maxRecDepth 100000 in
theorem rscan3_any (s : ByteArray) (w : World) (hs : s.size ≤ 65536) :
    Calls Tryz.prog 6 #[.string s] w fun e w' => ∃ v, e = .returned (.tuple #[v, .int .i64 ((lexR s.data.toList).2.1 : Int), .int .i64 (lexR s.data.toList).2.2]) ∧ OwnT w.heap.size w' v (lexR s.data.toList).1 ∧ Below w.heap.size w w' := by
  obtain ⟨i0, hi, hz0, hz1, hz2⟩ := info_parts infoTok
  have hs' : ¬ 65536 < (s.size : Int) := by omega
  have hll : s.data.toList.length = s.size := by simp
  have hk0 := sk_le s.data.toList
  rw [hll] at hk0
  have G0 := Lib.hid fun W => (show Calls Tryz.prog 10 #[.string s, .int .i64 0] W fun e w' => e = .returned (.int .i64 (((sk s.data.toList).1 : Nat) : Int)) ∧ W = w' from by
    have := rgap_any s 0 W (by omega) (Nat.zero_le _)
    rw [List.drop_zero, Nat.zero_add] at this
    exact this)
  have HPR := Lib.hid fun a (ha : a < s.size) (h : (tkR s.data.toList a).E = 0) => tkR_progress2 hll ha h
  obtain ⟨R, hR⟩ : ∃ R, lexR s.data.toList = R := ⟨_, rfl⟩
  rw [hR]
  have HR0 : Hid (R = scF (tkR s.data.toList) s.data.toList (s.size + 1) (0 + (sk (s.data.toList.drop 0)).1) (1 + (sk (s.data.toList.drop 0)).2) []) := Lib.hid (by rw [← hR]; unfold lexR scT; rw [hll, List.drop_zero, Nat.zero_add])
  clear hR
  go_enter Tryz.func6, Tryz.ntmps6
  go_wp2_with (go_at_call 10; (with_reducible refine (G0.out _).mono ?_); rintro e w1 ⟨rfl, rfl⟩)
  go_loopw [5, 6, 7, 8] (fun v5 v6 v7 v8 wr => ∃ (fr ln0 f : Nat) (ts : List Tok), fr ≤ s.size ∧ ln0 ≤ fr + 1 ∧ s.size - (fr + (sk (s.data.toList.drop fr)).1) < f ∧ ts.length ≤ fr ∧ v6 = .int .i64 (ln0 : Int) ∧ v7 = .int .i64 (fr : Int) ∧ v8 = .int .i64 ((fr + (sk (s.data.toList.drop fr)).1 : Nat) : Int) ∧ Hid (OwnT w.heap.size wr v5 ts) ∧ Hid (Below w.heap.size w wr) ∧ Hid (R = scF (tkR s.data.toList) s.data.toList f (fr + (sk (s.data.toList.drop fr)).1) (ln0 + (sk (s.data.toList.drop fr)).2) ts)) (fun _ _ _ v8 _ => s.size - (intOf v8).toNat)
  case atStart => exact ⟨0, 1, s.size + 1, [], by omega, by omega, by omega, by simp, rfl, rfl, by rw [List.drop_zero, Nat.zero_add], Lib.hid (World.ownsRow_nil _ _ _ _), Lib.hid (Below.refl _ _), HR0⟩
  case round =>
    obtain ⟨fr, ln0, f, ts, hfr, hln0, hf, hts, rfl, rfl, rfl, HO, HB, HR⟩ := hrel
    rename World => W0
    have hz0' := HB.out.size
    have hsk := sk_le (s.data.toList.drop fr)
    rw [List.length_drop, hll] at hsk
    have hlines := sk_lines _ (s.data.toList.drop fr) (Nat.lt_succ_self _)
    obtain ⟨p, hp⟩ : ∃ p, fr + (sk (s.data.toList.drop fr)).1 = p := ⟨_, rfl⟩
    obtain ⟨ln, hln⟩ : ∃ ln, ln0 + (sk (s.data.toList.drop fr)).2 = ln := ⟨_, rfl⟩
    rw [hp, hln] at HR
    rw [hp] at hf
    rw [hp]
    have HC0 : Hid (ln0 + Lib.countByte ((s.data.toList.drop fr).take (p - fr)) 10 = ln) := Lib.hid (by
      rw [show p - fr = (sk (s.data.toList.drop fr)).1 by omega, ← hlines]; exact hln)
    have hps : p ≤ s.size := by omega
    have hpf : fr ≤ p := by omega
    have hlnp : ln ≤ p + 1 := by omega
    clear hsk hlines hp hln
    by_cases hlt : p < s.size
    · have hlt' : (p : Int) < (s.size : Int) := by omega
      have T0 := fun W => rtoken_any s p ln W (by omega) hlt
      unfold RtokSaid at T0
      have hpr := HPR.out p hlt
      have HR1 : Hid (R = if (tkR s.data.toList p).E = 0 then scF (tkR s.data.toList) s.data.toList (f - 1) ((tkR s.data.toList p).nx + (sk (s.data.toList.drop (tkR s.data.toList p).nx)).1) (ln + (sk (s.data.toList.drop (tkR s.data.toList p).nx)).2) (ts ++ [⟨(tkR s.data.toList p).K, (tkR s.data.toList p).x, ln, p⟩]) else ([], ln, (tkR s.data.toList p).E)) := Lib.hid (by
        rw [HR.out]
        obtain ⟨g, rfl⟩ : ∃ g, f = g + 1 := ⟨f - 1, by omega⟩
        rw [scF, if_pos (by rw [hll]; exact hlt)]; rfl)
      obtain ⟨t, ht⟩ : ∃ t, tkR s.data.toList p = t := ⟨_, rfl⟩
      rw [ht] at T0 hpr HR1
      have T1 := Lib.hid T0
      clear T0 ht HR
      go_wp2
      go_loop [6, 9] (fun v6 v9 => ∃ (i n : Nat), fr ≤ i ∧ i ≤ p ∧ n ≤ i + 1 ∧ v6 = .int .i64 (n : Int) ∧ v9 = .int .i64 (i : Int) ∧ Hid (n + Lib.countByte ((s.data.toList.drop i).take (p - i)) 10 = ln)) (fun _ v9 => p - (intOf v9).toNat)
      case atStart => exact ⟨fr, ln0, Nat.le_refl _, hpf, hln0, rfl, rfl, HC0⟩
      case round =>
        obtain ⟨i, n, hfi, hip, hni, rfl, rfl, HC⟩ := hrel
        by_cases hilt : i < p
        · have hil' : (i : Int) < (p : Int) := by omega
          have his : (i : Int) < (s.size : Int) := by omega
          have hi0 : 0 ≤ (i : Int) := by omega
          have hdr : s.data.toList.drop i = s[i] :: s.data.toList.drop (i + 1) := by rw [List.drop_eq_getElem_cons (by omega)]; rfl
          have hc := HC.out
          rw [hdr, show p - i = (p - (i + 1)) + 1 by omega, List.take_succ_cons, count_cons] at hc
          obtain ⟨c, hcc⟩ : ∃ c, s[i] = c := ⟨_, rfl⟩
          have hci : (s[i].toNat : Int) = (c.toNat : Int) := by rw [hcc]
          rw [hcc] at hc
          by_cases h10 : c = 10
          · have e1 : ((c.toNat : Int) == 10) = true := by rw [h10]; rfl
            rw [if_pos h10] at hc
            have HC2 : Hid (n + 1 + Lib.countByte ((s.data.toList.drop (i + 1)).take (p - (i + 1))) 10 = ln) := Lib.hid (by omega)
            clear hc hdr h10 HC HR1 T1 HO HB
            go_wp2
            go_round
            case rel => exact ⟨i + 1, n + 1, by omega, by omega, by omega, by go_num, by go_num, HC2⟩
            case measure => simp [intOf]; omega
          · have e1 : ((c.toNat : Int) == 10) = false := by rw [beq_eq_false_iff_ne]; intro e; exact h10 (UInt8.toNat_inj.1 (by show c.toNat = 10; omega))
            rw [if_neg h10] at hc
            have HC2 : Hid (n + Lib.countByte ((s.data.toList.drop (i + 1)).take (p - (i + 1))) 10 = ln) := Lib.hid (by omega)
            clear hc hdr h10 HC HR1 T1 HO HB
            go_wp2
            go_round
            case rel => exact ⟨i + 1, n, by omega, by omega, by omega, rfl, by go_num, HC2⟩
            case measure => simp [intOf]; omega
        · have hil' : ¬ (i : Int) < (p : Int) := by omega
          have hnln : n = ln := by
            have hc := HC.out
            rw [show p - i = 0 by omega, List.take_zero] at hc
            exact hc
          subst hnln
          clear HC HC0
          by_cases hE : t.E = 0
          · have hE' : (t.E != 0) = false := by rw [bne_eq_false_iff_eq]; exact hE
            obtain ⟨n1, n2⟩ := hpr hE
            have HR2 : Hid (R = scF (tkR s.data.toList) s.data.toList (f - 1) (t.nx + (sk (s.data.toList.drop t.nx)).1) (n + (sk (s.data.toList.drop t.nx)).2) (ts ++ [⟨t.K, t.x, n, p⟩])) := Lib.hid (by rw [HR1.out, if_pos hE])
            have hsk := sk_le (s.data.toList.drop t.nx)
            rw [List.length_drop, hll] at hsk
            have T2 := Lib.hid fun W => (show Calls Tryz.prog 11 #[.string s, .int .i64 (p : Int), .int .i64 (n : Int)] W fun e w' => e = .returned (.tuple #[.agg #[.int .i64 t.K, .string (bs t.x), .int .i64 (n : Int), .int .i64 (p : Int)], .int .i64 (t.nx : Int), .int .i64 0]) ∧ Below W.heap.size W w' from by
              have := T1.out W; rw [rtk_ok hE rfl rfl rfl] at this; exact this)
            have G1 := Lib.hid fun W => rgap_any s t.nx W (by omega) n2
            clear hpr hE HR1 T1
            go_upto_region 14 with (go_at_call 11; (with_reducible refine (T2.out _).mono ?_); rintro e w5 ⟨rfl, hb5⟩)
            go_name_world V hV
            have h5 := hb5.size
            have hbV : Below W0.heap.size W0 V := by rw [← hV]; exact hb5.alloc h5 _
            have HOV := Lib.hid (OwnT.kept HO.out (grow_below hbV none) (fun j e => by cases e))
            have HTV : Hid (Tk w5.heap.size t.K (bs t.x) (n : Int) (p : Int) V) := Lib.hid (by rw [← hV]; exact heap_alloc_new w5 _)
            have HBV := Lib.hid (HB.out.trans (hbV.mono hz0'))
            clear hb5 hV hbV HO HB
            have p0 := HTV.out.c0
            have p1 := HTV.out.c1
            have p2 := HTV.out.c2
            have p3 := HTV.out.c3
            have hown := HOV.out
            unfold OwnT at hown
            have HOW := Lib.hid hown
            have hsV := HBV.out.size
            clear hown
            go_wp2_with (at_builtin; refine wpList_append_own _ rfl _ _ 23 rfl w.heap.size 30 i0 (.agg #[.int .i64 0, .string ⟨#[]⟩, .int .i64 0, .int .i64 0]) 4 40 Tryz.underlying23 hi hz0 hz1 hz2 rfl (by decide) _ _ _ rfl (HOW.out.alloc _) ⟨V.heap.size, 0, none⟩ 1 1 [.int .i64 t.K, .string (bs t.x), .int .i64 (n : Int), .int .i64 (p : Int)] rfl rfl (by intro j u' hj; match j, hj with | 0, hj => (simp at hj; subst hj; simp [Addr.add]) | 1, hj => (simp at hj; subst hj; simp [Addr.add]) | 2, hj => (simp at hj; subst hj; simp [Addr.add]) | 3, hj => (simp at hj; subst hj; simp [Addr.add])) (by intro u' hu'; simp at hu'; rcases hu' with rfl | rfl | rfl | rfl <;> rfl) (by unfold maxLen; omega) (by omega) (by simp; omega) ?_)
            intro v1 W2 hown1 hgrow _
            have HO2 : Hid (OwnT w.heap.size W2 v1 (ts ++ [⟨t.K, t.x, n, p⟩])) := Lib.hid (by
              unfold OwnT
              rw [List.length_append, List.flatMap_append, List.flatMap_cons, List.flatMap_nil, List.append_nil]
              exact hown1)
            have HB2 : Hid (Below w.heap.size w W2) := Lib.hid (Below.grown (HBV.out.alloc (by omega) _) hgrow (by simp; omega) (fun k e => (World.ownsRow.lt HOW.out k e).1))
            clear hown1 hgrow p0 p1 p2 p3
            go_wp2_with (go_at_call 10; (with_reducible refine (G1.out _).mono ?_); rintro e w6 ⟨rfl, h6⟩; subst w6)
            go_roundw
            case rel => exact ⟨t.nx, n, f - 1, ts ++ [⟨t.K, t.x, n, p⟩], n2, by omega, by omega, by simp; omega, rfl, rfl, rfl, HO2, HB2, HR2⟩
            case measure => simp [intOf]; omega
          · have hE' : (t.E != 0) = true := by rw [bne_iff_ne]; exact hE
            have HR2 : Hid (R = ([], n, t.E)) := Lib.hid (by rw [HR1.out, if_neg hE])
            have T2 := Lib.hid fun W => (show Calls Tryz.prog 11 #[.string s, .int .i64 (p : Int), .int .i64 (n : Int)] W fun e w' => e = .returned (.tuple #[.agg #[.int .i64 0, .string ⟨#[]⟩, .int .i64 0, .int .i64 0], .int .i64 0, .int .i64 t.E]) ∧ Below W.heap.size W w' from by
              have := T1.out W; rw [rtk_err rfl hE] at this; exact this)
            clear hpr hE HR1 T1
            go_upto_region 14 with (go_at_call 11; (with_reducible refine (T2.out _).mono ?_); rintro e w5 ⟨rfl, hb5⟩)
            go_name_world V hV
            have HBV : Hid (Below w.heap.size w V) := Lib.hid (by rw [← hV]; exact (HB.out.trans (hb5.mono hz0')).alloc (by have := hb5.size; omega) _)
            clear hV hb5
            go_wp2
            (try simp only [Exit.inBlock, Exit.then])
            refine bodyPost_ret (results_tmp3 rfl _ _ _) rfl ?_
            exact ⟨.slice none 0 0, by rw [HR2.out]; rfl, by rw [HR2.out]; exact World.ownsRow_nil _ _ _ _, HBV.out⟩
    · have hlt' : ¬ (p : Int) < (s.size : Int) := by omega
      have HR2 : Hid (R = (ts, 0, 0)) := Lib.hid (by
        rw [HR.out]
        obtain ⟨g, rfl⟩ : ∃ g, f = g + 1 := ⟨f - 1, by omega⟩
        rw [scF, if_neg (by rw [hll]; exact hlt)])
      clear HR HC0
      go_wp2
      (try simp only [Exit.inBlock, Exit.then])
      refine bodyPost_ret (results_tmp3 rfl _ _ _) rfl ?_
      exact ⟨_, by rw [HR2.out]; rfl, by rw [HR2.out]; exact HO.out, HB.out⟩
/-- A token that came in. -/
structure TI where
  k : Int
  x : ByteArray
  ln : Int
  a : Int
/-- The tokens of a slice in memory. -/
def ArgT (w : World) (g o : Nat) (ts : List TI) : Prop := ∀ (j : Nat) (h : j < ts.length), w.cell? ⟨g, o + j * 4, none⟩ = some (.int .i64 ts[j].k) ∧ w.cell? ⟨g, o + j * 4 + 1, none⟩ = some (.string ts[j].x) ∧ w.cell? ⟨g, o + j * 4 + 2, none⟩ = some (.int .i64 ts[j].ln) ∧ w.cell? ⟨g, o + j * 4 + 3, none⟩ = some (.int .i64 ts[j].a)
theorem ArgT.kept {w w' : World} {g o : Nat} {ts : List TI} (h : ArgT w g o ts) (hb : Below w.heap.size w w') (hg : g < w.heap.size) : ArgT w' g o ts := fun j hj => by
  obtain ⟨h0, h1, h2, h3⟩ := h j hj
  exact ⟨by rw [hb.cell hg]; exact h0, by rw [hb.cell hg]; exact h1, by rw [hb.cell hg]; exact h2, by rw [hb.cell hg]; exact h3⟩

set_option linter.unusedVariables false
def tiO (t : Tok) : TI := ⟨t.k, bs t.x, (t.ln : Int), (t.a : Int)⟩
theorem flat_get (ts : List Tok) : ∀ (i r : Nat) (hi : i < ts.length), r < 4 → (ts.flatMap cellsT)[i * 4 + r]? = (cellsT ts[i])[r]? := by
  induction ts with
  | nil => intro i r hi; simp at hi
  | cons t ts ih =>
    intro i r hi hr
    rw [List.flatMap_cons]
    match i, hi with
    | 0, _ => rw [List.getElem?_append_left (by rw [cellsT_len]; omega)]; simp
    | i + 1, hi => rw [List.getElem?_append_right (by rw [cellsT_len]; omega), cellsT_len, show (i + 1) * 4 + r - 4 = i * 4 + r by omega, ih i r (by simpa using hi) hr]; rfl
theorem own_arg {base : Nat} {w : World} {v : Value} {ts : List Tok} (h : OwnT base w v ts) :
    ∃ p cap g o, v = .slice p ts.length cap ∧ (0 < ts.length → p = some ⟨g, o, none⟩) ∧ (0 < ts.length → g < w.heap.size) ∧ ArgT w g o (ts.map tiO) := by
  rcases ownsRow_forms h with ⟨e, h0⟩ | ⟨g, cap, rfl⟩
  · exact ⟨none, 0, 0, 0, by rw [e, h0], fun hp => by omega, fun hp => by omega, fun j hj => by simp at hj; omega⟩
  · refine ⟨some ⟨g, 0, none⟩, cap, g, 0, rfl, fun _ => rfl, fun _ => (World.ownsRow.lt h g rfl).2, fun j hj => ?_⟩
    have hj' : j < ts.length := by simpa using hj
    have key : ∀ r, r < 4 → w.cell? ⟨g, 0 + j * 4 + r, none⟩ = (cellsT ts[j])[r]? := fun r hr => by
      rw [Nat.zero_add, World.ownsRow.cellAt h (j * 4 + r) (by omega), flat_get ts j r hj' hr]
    have e : (ts.map tiO)[j] = tiO ts[j] := by simp
    rw [e]
    exact ⟨key 0 (by omega), key 1 (by omega), key 2 (by omega), key 3 (by omega)⟩
theorem belowD {B : Nat} {a w : World} (h : Below B a w) (n : Nat) : Below B a (w.drewN n) := h.trans ⟨rfl, rfl, rfl, Nat.le_refl _, fun _ _ => rfl⟩
set_option maxHeartbeats 8000000 in
set_option maxRecDepth 100000 in
theorem same_any (p q : Option Addr) (g o cap g2 o2 cap2 : Nat) (ts : List TI) (w : World) (hp : 0 < ts.length → p = some ⟨g, o, none⟩) (hq : 0 < ts.length → q = some ⟨g2, o2, none⟩) (hA : ArgT w g o ts) (hA2 : ArgT w g2 o2 ts) (hg : 0 < ts.length → g < w.heap.size) (hg2 : 0 < ts.length → g2 < w.heap.size) (hn : ts.length ≤ 1000000) :
    Calls Tryz.prog 7 #[.slice p ts.length cap, .slice q ts.length cap2] w fun e w' => e = .returned (.bool true) ∧ Below w.heap.size w w' := by
  go_enter Tryz.func7, Tryz.ntmps7
  go_wp2
  go_loopw [5] (fun v5 wr => ∃ k : Nat, k ≤ ts.length ∧ v5 = .int .i64 (k : Int) ∧ Hid (Below w.heap.size w wr)) (fun v5 _ => ts.length - (intOf v5).toNat)
  case atStart => exact ⟨0, Nat.zero_le _, rfl, Lib.hid (Below.refl _ _)⟩
  case round =>
    obtain ⟨k, hk, rfl, HB⟩ := hrel
    rename World => W0
    by_cases hlt : k < ts.length
    · have hlt' : (k : Int) < (ts.length : Int) := by omega
      have hpp := hp (by omega)
      have hqq := hq (by omega)
      subst hpp hqq
      obtain ⟨a0, a1, a2, a3⟩ := hA.kept HB.out (hg (by omega)) k hlt
      obtain ⟨b0, b1, b2, b3⟩ := hA2.kept HB.out (hg2 (by omega)) k hlt
      have HBD := Lib.hid fun n => belowD HB.out n
      generalize ts[k] = t at *
      clear hA hA2 hg hg2
      go_wp2
      go_quiet (fail)
      go_wp2
      go_roundw
      case rel => exact ⟨k + 1, by omega, by go_num, Lib.hid (HBD.out _)⟩
      case measure => simp [intOf]; omega
    · have hlt' : ¬ (k : Int) < (ts.length : Int) := by omega
      go_wp2
      go_ret
      exact ⟨rfl, HB.out⟩
end Go.Proofs.YtbcbddglgfakpaaGreatDoor
