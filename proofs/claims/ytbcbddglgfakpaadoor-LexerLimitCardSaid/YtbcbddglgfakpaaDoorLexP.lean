/- Contracts of layer 3: the text of tokens. -/
import Derived.Test.YtbcbddglgfakpaaDoorLexO
import Derived.Test.YtbcbddglgfakpaaDoorLexJ
namespace Go.Proofs.YtbcbddglgfakpaaDoor
open Go.RowKit Go.Joins M1 M2 M3
set_option linter.unusedVariables false
theorem blbK (B b : Nat) (l : List UInt8) (x : UInt8) (v : Int) (hv : (x.toNat : Int) = v) (w : World) (h : Bl B b l w) (hl : l.length ≤ 100000000) (hB : B ≤ w.heap.size) :
    Calls Tryd.prog 36 #[(.pointer (some ⟨b, 0, none⟩)), .int .u8 v] w fun e w' => e = .returned .nilIface ∧ Bl B b (l ++ [x]) w' ∧ Below B w w' ∧ Lib.OthersKept 5 (some b) w w' := by
  subst hv
  refine (bbyte_any B b (Lib.byteCells l) (x.toNat : Int) w h (by rw [Lib.byteCells_length]; omega) hB).mono fun e w' ⟨h1, h2, h3, h4⟩ => ⟨h1, .inr ?_, h3, h4⟩
  rw [show Lib.byteCells (l ++ [x]) = Lib.byteCells l ++ [.int .u8 (x.toNat : Int)] by simp [Lib.byteCells]]
  exact h2
theorem blsK (B b : Nat) (l : List UInt8) (y : ByteArray) (w : World) (h : Bl B b l w) (hl : l.length ≤ 100000000) (hy : y.size ≤ 100000000) (hB : B ≤ w.heap.size) :
    Calls Tryd.prog 26 #[(.pointer (some ⟨b, 0, none⟩)), .string y] w fun e w' => e = .returned (.tuple #[.int .i64 y.size, .nilIface]) ∧ Bl B b (l ++ y.data.toList) w' ∧ Below B w w' ∧ Lib.OthersKept 5 (some b) w w' := by
  refine (bstr_any B b (Lib.byteCells l) y w h (by rw [Lib.byteCells_length]; omega) hB).mono fun e w' ⟨h1, h2, h3, h4⟩ => ⟨h1, .inr ?_, h3, h4⟩
  rw [show Lib.byteCells (l ++ y.data.toList) = Lib.byteCells l ++ Lib.strCells y by simp [Lib.byteCells, Lib.strCells]]
  exact h2
theorem bat_below {B b : Nat} {p : Value} {l : List Value} {w w' : World} (h : BAt B b p l w) (hb : Below w.heap.size w w') : BAt B b p l w' := by
  obtain ⟨hB, v, hbk, hown, hne⟩ := h
  exact ⟨hB, v, (hb.block b (Array.getElem?_eq_some_iff.1 hbk).1).trans hbk, World.ownsRow.kept hown (grow_below hb none) (by cases e : v.ownBlock with | none => exact .inl rfl | some j => exact .inr (by simp)), hne⟩
theorem bl_below {B b : Nat} {l : List UInt8} {w w' : World} (h : Bl B b l w) (hb : Below w.heap.size w w') : Bl B b l w' := by
  cases h with
  | inl h => exact .inl (bat_below h hb)
  | inr h => exact .inr (bat_below h hb)
theorem bl_lt {B b : Nat} {l : List UInt8} {w : World} (h : Bl B b l w) : b < w.heap.size := by
  cases h with
  | inl h => exact h.lt
  | inr h => exact h.lt
theorem Tk.others {c b : Nat} {k ln a : Int} {x : ByteArray} {w w' : World} (h : Tk c k x ln a w) (hq : Lib.OthersKept 5 (some b) w w') (hc : c ≠ b) : Tk c k x ln a w' :=
  hq c _ h (fun e => hc (Option.some.inj e)) (fun _ _ e => by injection e with _ h2 _; exact absurd h2 (by decide))
/-- A token that came in. -/
structure TI where
  k : Int
  x : ByteArray
  ln : Int
  a : Int
def one (t : TI) : List UInt8 := if t.k = 4 then qt t.x.data.toList else t.x.data.toList
def joinL : List TI → List UInt8
  | [] => []
  | t :: ts => one t ++ ts.flatMap fun t => 32 :: one t
theorem join_first {ts : List TI} (h : 0 < ts.length) : joinL (ts.take 1) = one ts[0] := by
  match ts, h with
  | t :: ts, _ => simp [joinL]
theorem join_step {ts : List TI} {k : Nat} (hk : k < ts.length) (h0 : 0 < k) : joinL (ts.take (k + 1)) = joinL (ts.take k) ++ [32] ++ one ts[k] := by
  match ts, k, hk, h0 with
  | t :: ts, k + 1, hk, _ =>
    have hk' : k < ts.length := by simpa using hk
    show one t ++ (ts.take (k + 1)).flatMap _ = (one t ++ (ts.take k).flatMap _) ++ [32] ++ one ts[k]
    rw [List.take_succ_eq_append_getElem hk', List.flatMap_append]
    simp
theorem one_len (t : TI) : (one t).length ≤ 4 * t.x.size + 2 := by
  have h := qt_len t.x.data.toList
  have hll : t.x.data.toList.length = t.x.size := by simp
  unfold one qt
  split
  · rw [List.length_cons, List.length_append]; simp only [List.length_cons, List.length_nil]; omega
  · omega
/-- The tokens of a slice in memory. -/
def ArgT (w : World) (g o : Nat) (ts : List TI) : Prop := ∀ (j : Nat) (h : j < ts.length), w.cell? ⟨g, o + j * 4, none⟩ = some (.int .i64 ts[j].k) ∧ w.cell? ⟨g, o + j * 4 + 1, none⟩ = some (.string ts[j].x) ∧ w.cell? ⟨g, o + j * 4 + 2, none⟩ = some (.int .i64 ts[j].ln) ∧ w.cell? ⟨g, o + j * 4 + 3, none⟩ = some (.int .i64 ts[j].a)
theorem ArgT.kept {w w' : World} {g o : Nat} {ts : List TI} (h : ArgT w g o ts) (hb : Below w.heap.size w w') (hg : g < w.heap.size) : ArgT w' g o ts := fun j hj => by
  obtain ⟨h0, h1, h2, h3⟩ := h j hj
  exact ⟨by rw [hb.cell hg]; exact h0, by rw [hb.cell hg]; exact h1, by rw [hb.cell hg]; exact h2, by rw [hb.cell hg]; exact h3⟩

set_option maxHeartbeats 4000000 in
theorem join_any (p : Option Addr) (g o cap : Nat) (ts : List TI) (w : World) (hp : 0 < ts.length → p = some ⟨g, o, none⟩) (hA : ArgT w g o ts) (hg' : 0 < ts.length → g < w.heap.size) (hn : ts.length ≤ 3000) (hx : ∀ t ∈ ts, t.x.size ≤ 5000) :
    Calls Tryd.prog 19 #[.slice p ts.length cap] w fun e w' => e = .returned (.string (bs (joinL ts))) ∧ Below w.heap.size w w' := by
  have h0 := bl_new w
  have hb0 : Below w.heap.size w (w.alloc (.cells #[.pointer none, .slice none 0 0] 44)) := (Below.refl _ _).alloc (Nat.le_refl _) _
  go_enter Tryd.func19, Tryd.ntmps19
  go_wp2
  have H0 := Lib.hid h0
  have HB0 := Lib.hid hb0
  clear h0 hb0
  go_loopw [8] (fun v8 wr => ∃ k : Nat, k ≤ ts.length ∧ v8 = .int .i64 (k : Int) ∧ Hid ((joinL (ts.take k)).length ≤ k * 20010) ∧ Hid (Bl w.heap.size w.heap.size (joinL (ts.take k)) wr) ∧ Hid (Below w.heap.size w wr)) (fun v8 _ => ts.length - (intOf v8).toNat)
  case atStart => exact ⟨0, Nat.zero_le _, rfl, Lib.hid (by simp [joinL]), H0, HB0⟩
  case round =>
    obtain ⟨k, hk, rfl, HLn, HK, HB⟩ := hrel
    rename World => W0
    have hz0 := HB.out.size
    by_cases hlt : k < ts.length
    · have hlt' : (k : Int) < (ts.length : Int) := by omega
      have hpp := hp (by omega)
      have hg := hg' (by omega)
      subst hpp
      obtain ⟨t, ht⟩ : ∃ t, ts[k] = t := ⟨_, rfl⟩
      have hA' := hA.kept HB.out hg k hlt
      rw [ht] at hA'
      obtain ⟨a0, a1, a2, a3⟩ := hA'
      have hxk := hx _ (List.getElem_mem hlt)
      rw [ht] at hxk
      go_upto_region 5 with fail
      go_name_world V hV
      have HBl : Hid (Bl w.heap.size w.heap.size (joinL (ts.take k)) V) := Lib.hid (by rw [← hV]; exact bl_below HK.out ((Below.refl _ _).alloc (Nat.le_refl _) _))
      have HTk : Hid (Tk W0.heap.size t.k t.x t.ln t.a V) := Lib.hid (by rw [← hV]; exact heap_alloc_new W0 _)
      have HBV : Hid (Below w.heap.size w V) := Lib.hid (by rw [← hV]; exact HB.out.alloc hz0 _)
      have hzV : W0.heap.size + 1 = V.heap.size := by rw [← hV]; simp
      have hln := HLn.out
      have hbb : w.heap.size < W0.heap.size := bl_lt HK.out
      clear hV a0 a1 a2 a3 hA
      by_cases hk00 : k = 0
      · by_cases hq : t.k = 4
        · have hk0' : ¬ 0 < (k : Int) := by omega
          have hq4 : (t.k == 4) = true := by rw [beq_iff_eq]; exact hq
          have HO1 : Hid (one t = qt t.x.data.toList) := Lib.hid (if_pos hq)
          have HJ : Hid (joinL (ts.take (k + 1)) = joinL (ts.take k) ++ one t) := Lib.hid (by
            have hk00 : k = 0 := by omega
            subst hk00; rw [← ht]; exact join_first hlt)
          clear hq hk00 ht
          have c0 := HTk.out.c0
          have c1 := HTk.out.c1
          go_wp2_with fail
          refine (quote_any t.x V (by omega)).mono ?_
          rintro e w3 ⟨rfl, hb3⟩
          have hz3 := hb3.size
          have h3 := bl_below HBl.out hb3
          go_wp2_with fail
          refine (blsK w.heap.size w.heap.size _ _ w3 h3 (by first | omega | (simp; omega)) (by rw [bs_size]; have := one_len t; rw [HO1.out] at this; omega) (by omega)).mono ?_
          rintro e w4 ⟨rfl, h4, hb4, hk4⟩
          rw [bs_list] at h4
          clear c0 c1
          go_wp2
          go_roundw
          case rel =>
            refine ⟨k + 1, by omega, by go_num, Lib.hid ?_, Lib.hid ?_, Lib.hid (HBV.out.trans ((hb3.mono (by omega)).trans hb4))⟩
            · have := one_len t
              rw [HJ.out]; rw [List.length_append]; omega
            · rw [HJ.out, HO1.out]; exact h4
          case measure => simp [intOf]; omega
        · have hk0' : ¬ 0 < (k : Int) := by omega
          have hq4 : (t.k == 4) = false := by rw [beq_eq_false_iff_ne]; exact hq
          have HO1 : Hid (one t = t.x.data.toList) := Lib.hid (if_neg hq)
          have HJ : Hid (joinL (ts.take (k + 1)) = joinL (ts.take k) ++ one t) := Lib.hid (by
            have hk00 : k = 0 := by omega
            subst hk00; rw [← ht]; exact join_first hlt)
          clear hq hk00 ht
          have c0 := HTk.out.c0
          have c1 := HTk.out.c1
          go_wp2_with fail
          refine (blsK w.heap.size w.heap.size _ _ V HBl.out (by first | omega | (simp; omega)) (by omega) (by omega)).mono ?_
          rintro e w4 ⟨rfl, h4, hb4, hk4⟩
          clear c0 c1
          go_wp2
          go_roundw
          case rel =>
            refine ⟨k + 1, by omega, by go_num, Lib.hid ?_, Lib.hid ?_, Lib.hid (HBV.out.trans hb4)⟩
            · have := one_len t
              rw [HJ.out]; rw [List.length_append]; omega
            · rw [HJ.out, HO1.out]; exact h4
          case measure => simp [intOf]; omega
      · by_cases hq : t.k = 4
        · have hk0' : 0 < (k : Int) := by omega
          have hq4 : (t.k == 4) = true := by rw [beq_iff_eq]; exact hq
          have HO1 : Hid (one t = qt t.x.data.toList) := Lib.hid (if_pos hq)
          have HJ : Hid (joinL (ts.take (k + 1)) = joinL (ts.take k) ++ [32] ++ one t) := Lib.hid (by rw [← ht]; exact join_step hlt (by omega))
          clear hq hk00 ht
          go_wp2_with fail
          refine (blbK w.heap.size w.heap.size _ 32 32 rfl V HBl.out (by omega) (by omega)).mono ?_
          rintro e w2 ⟨rfl, h2, hb2, hk2⟩
          have hz2 := hb2.size
          have hT2 := HTk.out.others hk2 (by omega)
          have c0 := hT2.c0
          have c1 := hT2.c1
          go_wp2_with fail
          refine (quote_any t.x w2 (by omega)).mono ?_
          rintro e w3 ⟨rfl, hb3⟩
          have hz3 := hb3.size
          have h3 := bl_below h2 hb3
          go_wp2_with fail
          refine (blsK w.heap.size w.heap.size _ _ w3 h3 (by first | omega | (simp; omega)) (by rw [bs_size]; have := one_len t; rw [HO1.out] at this; omega) (by omega)).mono ?_
          rintro e w4 ⟨rfl, h4, hb4, hk4⟩
          rw [bs_list] at h4
          clear c0 c1
          go_wp2
          go_roundw
          case rel =>
            refine ⟨k + 1, by omega, by go_num, Lib.hid ?_, Lib.hid ?_, Lib.hid (HBV.out.trans ((hb2.trans (hb3.mono (by omega))).trans hb4))⟩
            · have := one_len t
              rw [HJ.out]; rw [List.length_append, List.length_append]; simp only [List.length_cons, List.length_nil]; omega
            · rw [HJ.out, HO1.out]; exact h4
          case measure => simp [intOf]; omega
        · have hk0' : 0 < (k : Int) := by omega
          have hq4 : (t.k == 4) = false := by rw [beq_eq_false_iff_ne]; exact hq
          have HO1 : Hid (one t = t.x.data.toList) := Lib.hid (if_neg hq)
          have HJ : Hid (joinL (ts.take (k + 1)) = joinL (ts.take k) ++ [32] ++ one t) := Lib.hid (by rw [← ht]; exact join_step hlt (by omega))
          clear hq hk00 ht
          go_wp2_with fail
          refine (blbK w.heap.size w.heap.size _ 32 32 rfl V HBl.out (by omega) (by omega)).mono ?_
          rintro e w2 ⟨rfl, h2, hb2, hk2⟩
          have hz2 := hb2.size
          have hT2 := HTk.out.others hk2 (by omega)
          have c0 := hT2.c0
          have c1 := hT2.c1
          go_wp2_with fail
          refine (blsK w.heap.size w.heap.size _ _ w2 h2 (by first | omega | (simp; omega)) (by omega) (by omega)).mono ?_
          rintro e w4 ⟨rfl, h4, hb4, hk4⟩
          clear c0 c1
          go_wp2
          go_roundw
          case rel =>
            refine ⟨k + 1, by omega, by go_num, Lib.hid ?_, Lib.hid ?_, Lib.hid (HBV.out.trans (hb2.trans hb4))⟩
            · have := one_len t
              rw [HJ.out]; rw [List.length_append, List.length_append]; simp only [List.length_cons, List.length_nil]; omega
            · rw [HJ.out, HO1.out]; exact h4
          case measure => simp [intOf]; omega
    · have hk2 : k = ts.length := by omega
      have hlt' : ¬ (k : Int) < (ts.length : Int) := by omega
      have H5 : Hid (Bl w.heap.size w.heap.size (joinL ts) W0) := Lib.hid (by have := HK.out; rw [hk2, List.take_length] at this; exact this)
      clear hk2
      go_wp2_with fail
      refine (blS w.heap.size w.heap.size _ W0 H5.out hz0).mono ?_
      rintro e w3 ⟨rfl, hb3⟩
      go_wp2
      go_ret
      exact ⟨rfl, HB.out.trans hb3⟩
end Go.Proofs.YtbcbddglgfakpaaDoor
