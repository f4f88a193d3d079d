/- The reference of layer 9: directives. -/
import Derived.Test.YtbdcmnhfmkefdaaGreatDoorFmtU
namespace Go.Proofs.YtbdcmnhfmkefdaaGreatDoor
open Go.RowKit Go.Joins M1 M2 M9
set_option linter.unusedVariables false
/-- A directive behind flags that are known. -/
def dirG (mi ze pl : Bool) (l : List UInt8) : Option (Pc × List UInt8) := ptF (mi || (l.takeWhile isFlag).contains 45) (ze || (l.takeWhile isFlag).contains 48) (pl || (l.takeWhile isFlag).contains 43) (numF (l.dropWhile isFlag)).1 (numF (l.dropWhile isFlag)).2
theorem dirG_start (l : List UInt8) : dirF l = dirG false false false l := by unfold dirG dirF; simp only [Bool.false_or]
theorem dirG_stop {mi ze pl : Bool} {l : List UInt8} (h : ∀ c r, l = c :: r → isFlag c = false) : dirG mi ze pl l = ptF mi ze pl (numF l).1 (numF l).2 := by
  have h1 : l.takeWhile isFlag = [] ∧ l.dropWhile isFlag = l := by
    cases l with
    | nil => exact ⟨rfl, rfl⟩
    | cons c r => rw [List.takeWhile_cons, List.dropWhile_cons, h c r rfl]; exact ⟨rfl, rfl⟩
  unfold dirG
  rw [h1.1, h1.2]
  simp
theorem dirG_45 (mi ze pl : Bool) (r : List UInt8) : dirG mi ze pl (45 :: r) = dirG true ze pl r := by
  unfold dirG
  rw [List.takeWhile_cons, List.dropWhile_cons, show isFlag 45 = true from rfl]
  simp
theorem dirG_48 (mi ze pl : Bool) (r : List UInt8) : dirG mi ze pl (48 :: r) = dirG mi true pl r := by
  unfold dirG
  rw [List.takeWhile_cons, List.dropWhile_cons, show isFlag 48 = true from rfl]
  simp
theorem dirG_43 (mi ze pl : Bool) (r : List UInt8) : dirG mi ze pl (43 :: r) = dirG mi ze true r := by
  unfold dirG
  rw [List.takeWhile_cons, List.dropWhile_cons, show isFlag 43 = true from rfl]
  simp
theorem numF_none {l : List UInt8} (h : ∀ c r, l = c :: r → isDig c = false) : numF l = (0, l) := numN_stop h 2
theorem numF_some {c : UInt8} {r : List UInt8} (h : isDig c = true) : (numF (c :: r)).2.length < r.length + 1 := by
  unfold numF
  rw [numN_go h]
  have := numN_len 1 (0 * 10 + (c.toNat - 48)) r
  omega
theorem ptF_dot {mi ze pl : Bool} {w : Nat} {r : List UInt8} : ptF mi ze pl w (46 :: r) = if (numF r).2.length = r.length ∨ 12 < (numF r).1 then none else vbF mi ze pl w (numF r).1 (numF r).2 := by
  unfold ptF
  rw [if_pos (show (46 :: r).head? = some 46 from rfl)]
  rfl
theorem ptF_nodot {mi ze pl : Bool} {w : Nat} {l : List UInt8} (h : l.head? ≠ some 46) : ptF mi ze pl w l = vbF mi ze pl w (-1) l := by
  unfold ptF
  rw [if_neg h]
/-- What the reference's directive answers. -/
def RDir (s : ByteArray) (r : Option (Pc × List UInt8)) (e : Ending) : Prop := match r with
  | none => e = .returned (.tuple #[.agg #[.string ⟨#[]⟩, .int .u8 0, .bool false, .bool false, .bool false, .int .i64 0, .int .i64 0], .int .i64 0, .bool false])
  | some (p, t) => ∃ j : Nat, j ≤ s.size ∧ s.data.toList.drop j = t ∧ e = .returned (.tuple #[.agg (pcC p).toArray, .int .i64 (j : Int), .bool true])
theorem rDir_none {s : ByteArray} {r : Option (Pc × List UInt8)} (h : r = none) : RDir s r (.returned (.tuple #[.agg #[.string ⟨#[]⟩, .int .u8 0, .bool false, .bool false, .bool false, .int .i64 0, .int .i64 0], .int .i64 0, .bool false])) := by subst h; rfl
theorem rDir_some {s : ByteArray} {r : Option (Pc × List UInt8)} {c : UInt8} {mi ze pl : Bool} {wd : Nat} {pc : Int} {t : List UInt8} {j : Nat} {n : Int} (h : r = some (⟨[], c.toNat, mi, ze, pl, wd, pc⟩, t)) (hj : j ≤ s.size) (hd : s.data.toList.drop j = t) (hn : n = (j : Int)) : RDir s r (.returned (.tuple #[.agg #[.string ⟨#[]⟩, .int .u8 (c.toNat : Int), .bool mi, .bool ze, .bool pl, .int .i64 (wd : Int), .int .i64 pc], .int .i64 n, .bool true])) := by subst h hn; exact ⟨j, hj, hd, rfl⟩
theorem blk7 {b : Nat} {c0 c1 c2 c3 c4 c5 c6 : Value} {T : TypeId} {W : World} (h : Blk T b #[c0, c1, c2, c3, c4, c5, c6] W) : W.cell? ⟨b, 0, none⟩ = some c0 ∧ W.cell? ⟨b, 1, none⟩ = some c1 ∧ W.cell? ⟨b, 2, none⟩ = some c2 ∧ W.cell? ⟨b, 3, none⟩ = some c3 ∧ W.cell? ⟨b, 4, none⟩ = some c4 ∧ W.cell? ⟨b, 5, none⟩ = some c5 ∧ W.cell? ⟨b, 6, none⟩ = some c6 :=
  ⟨h.cell 0, h.cell 1, h.cell 2, h.cell 3, h.cell 4, h.cell 5, h.cell 6⟩
/-- The reference's part under construction, and its answer. -/
def DR (w : World) (v : Int) (mi ze pl : Bool) (wd pc : Int) (wr : World) : Prop := Blk 32 (w.heap.size + 1) #[.string ⟨#[]⟩, .int .u8 v, .bool mi, .bool ze, .bool pl, .int .i64 wd, .int .i64 pc] wr ∧ Blk 32 w.heap.size #[.string ⟨#[]⟩, .int .u8 0, .bool false, .bool false, .bool false, .int .i64 0, .int .i64 0] wr ∧ Below w.heap.size w wr
section
variable {w wr W : World} {v : Int} {mi ze pl : Bool} {wd pc : Int}
theorem DR.cells (h : DR w v mi ze pl wd pc wr) : wr.cell? ⟨w.heap.size + 1, 0, none⟩ = some (.string ⟨#[]⟩) ∧ wr.cell? ⟨w.heap.size + 1, 1, none⟩ = some (.int .u8 v) ∧ wr.cell? ⟨w.heap.size + 1, 2, none⟩ = some (.bool mi) ∧ wr.cell? ⟨w.heap.size + 1, 3, none⟩ = some (.bool ze) ∧ wr.cell? ⟨w.heap.size + 1, 4, none⟩ = some (.bool pl) ∧ wr.cell? ⟨w.heap.size + 1, 5, none⟩ = some (.int .i64 wd) ∧ wr.cell? ⟨w.heap.size + 1, 6, none⟩ = some (.int .i64 pc) := blk7 h.1
theorem DR.below (h : DR w v mi ze pl wd pc wr) (hb : Below wr.heap.size wr W) : DR w v mi ze pl wd pc W := ⟨h.1.below hb, h.2.1.below hb, h.2.2.trans (hb.mono h.2.2.size)⟩
theorem DR.set_ (h : DR w v mi ze pl wd pc wr) (i : Nat) (x : Value) (v' : Int) (mi' ze' pl' : Bool) (wd' pc' : Int) (e : (#[.string ⟨#[]⟩, .int .u8 v, .bool mi, .bool ze, .bool pl, .int .i64 wd, .int .i64 pc] : Array Value).setIfInBounds i x = #[.string ⟨#[]⟩, .int .u8 v', .bool mi', .bool ze', .bool pl', .int .i64 wd', .int .i64 pc']) : DR w v' mi' ze' pl' wd' pc' (wr.setCell ⟨w.heap.size + 1, i, none⟩ x) :=
  ⟨e ▸ h.1.set i x, h.2.1.ch ((Ch.refl [w.heap.size + 1] wr).set _ _ _ (.inl (by simp))) (by simp), h.2.2.setCell (p := ⟨w.heap.size + 1, i, none⟩) (by simp) x⟩
end
set_option maxHeartbeats 16000000 in
set_option maxRecDepth 100000 in
theorem rdir9 (s : ByteArray) (k : Nat) (w : World) (hs : s.size ≤ 100000) (hk : k < s.size) :
    Calls Tryz.prog 33 #[.string s, .int .i64 (k : Int)] w fun e w' => RDir s (dirF (s.data.toList.drop (k + 1))) e ∧ Below w.heap.size w w' := by
  have hll : s.data.toList.length = s.size := by simp
  have HG := Lib.hid (dirG_start (s.data.toList.drop (k + 1)))
  generalize dirF (s.data.toList.drop (k + 1)) = R at *
  go_enter Tryz.func33, Tryz.ntmps33
  go_upto_region 2 with fail
  have HD0 : Hid (DR w 0 false false false 0 (-1) ((w.alloc (.cells #[.string ⟨#[]⟩, .int .u8 0, .bool false, .bool false, .bool false, .int .i64 0, .int .i64 0] 32)).alloc (.cells #[.string ⟨#[]⟩, .int .u8 0, .bool false, .bool false, .bool false, .int .i64 0, .int .i64 (-1)] 32))) := Lib.hid ⟨Blk.new _ _ _ _ (by simp), (Blk.new w _ _ _ rfl).below ((Below.refl _ _).alloc (Nat.le_refl _) _), ((Below.refl _ _).alloc (Nat.le_refl _) _).alloc (by simp) _⟩
  generalize (w.alloc (.cells #[.string ⟨#[]⟩, .int .u8 0, .bool false, .bool false, .bool false, .int .i64 0, .int .i64 0] 32)).alloc (.cells #[.string ⟨#[]⟩, .int .u8 0, .bool false, .bool false, .bool false, .int .i64 0, .int .i64 (-1)] 32) = W0 at *
  go_wp2
  go_loopw [1] (fun v1 wr => ∃ (j : Nat) (mi ze pl : Bool), j ≤ s.size ∧ v1 = .int .i64 (j : Int) ∧ Hid (R = dirG mi ze pl (s.data.toList.drop j)) ∧ Hid (DR w 0 mi ze pl 0 (-1) wr)) (fun v1 _ => s.size - (intOf v1).toNat)
  case atStart => exact ⟨k + 1, false, false, false, by omega, by go_num, HG, HD0⟩
  case round =>
    clear HG HD0
    obtain ⟨j, mi, ze, pl, hj, rfl, HG, HD⟩ := hrel
    rename World => W1
    obtain ⟨b0, b1, b2, b3, b4, b5, b6⟩ := HD.out.cells
    by_cases hjs : j < s.size
    · have hjs' : (j : Int) < (s.size : Int) := by omega
      have hdr : s.data.toList.drop j = s[j] :: s.data.toList.drop (j + 1) := by rw [List.drop_eq_getElem_cons (by omega)]; rfl
      obtain ⟨c, hc⟩ : ∃ c, s[j] = c := ⟨_, rfl⟩
      have hci : (s[j].toNat : Int) = (c.toNat : Int) := by rw [hc]
      rw [hc] at hdr
      by_cases h45 : c = 45
      · subst h45
        have HG2 := Lib.hid (HG.out.trans (by rw [hdr, dirG_45]))
        have HD2 := Lib.hid (HD.out.set_ 2 (.bool true) 0 true ze pl 0 (-1) rfl)
        have f2 := HD.out.1.fz 2
        have hct : (s[j].toNat : Int) = 45 := by rw [hc]; rfl
        clear hdr HG hci
        go_wp2
        go_roundw
        case rel => exact ⟨j + 1, true, ze, pl, by omega, by go_num, HG2, HD2⟩
        case measure => simp [intOf]; omega
      · by_cases h48 : c = 48
        · subst h48
          have HG2 := Lib.hid (HG.out.trans (by rw [hdr, dirG_48]))
          have HD2 := Lib.hid (HD.out.set_ 3 (.bool true) 0 mi true pl 0 (-1) rfl)
          have f3 := HD.out.1.fz 3
          have hct : (s[j].toNat : Int) = 48 := by rw [hc]; rfl
          clear hdr HG hci
          go_wp2
          go_roundw
          case rel => exact ⟨j + 1, mi, true, pl, by omega, by go_num, HG2, HD2⟩
          case measure => simp [intOf]; omega
        · by_cases h43 : c = 43
          · subst h43
            have HG2 := Lib.hid (HG.out.trans (by rw [hdr, dirG_43]))
            have HD2 := Lib.hid (HD.out.set_ 4 (.bool true) 0 mi ze true 0 (-1) rfl)
            have f4 := HD.out.1.fz 4
            have hct : (s[j].toNat : Int) = 43 := by rw [hc]; rfl
            clear hdr HG hci
            go_wp2
            go_roundw
            case rel => exact ⟨j + 1, mi, ze, true, by omega, by go_num, HG2, HD2⟩
            case measure => simp [intOf]; omega
          · have hnf : isFlag c = false := by unfold isFlag; simp [h45, h48, h43]
            have HP := Lib.hid (HG.out.trans (dirG_stop (fun c' r e => by rw [hdr] at e; injection e with e _; rw [← e]; exact hnf)))
            have g1 : ((s[j].toNat : Int) == 45) = false := by rw [hc, beq_eq_false_iff_ne]; intro e; exact h45 (UInt8.toNat_inj.1 (by simpa using (by omega : c.toNat = 45)))
            have g2 : ((s[j].toNat : Int) == 48) = false := by rw [hc, beq_eq_false_iff_ne]; intro e; exact h48 (UInt8.toNat_inj.1 (by simpa using (by omega : c.toNat = 48)))
            have g3 : ((s[j].toNat : Int) == 43) = false := by rw [hc, beq_eq_false_iff_ne]; intro e; exact h43 (UInt8.toNat_inj.1 (by simpa using (by omega : c.toNat = 43)))
            clear hdr HG hc hci h45 h48 h43 hnf
            go_upto_region 11 with fail
            clear b0 b1 b2 b3 b4 b5 b6 g1 g2 g3
            have QN := Lib.hid (rnum9 s j W1 (by omega) (by omega))
            have hw0 := numF_val (s.data.toList.drop j)
            unfold RNum at QN
            generalize (numF (s.data.toList.drop j)).1 = wd at *
            generalize (numF (s.data.toList.drop j)).2 = r1 at *
            go_upto_region 12 with (go_at_call 54; (with_reducible refine (QN.out).mono ?_); rintro e w2 ⟨⟨j2, hj1, hj2, hd2, rfl⟩, hb2⟩; have HD2 := Lib.hid (HD.out.below hb2); have f5 := HD2.out.1.fz 5; obtain ⟨b0, b1, b2, b3, b4, b5, b6⟩ := HD2.out.cells)
            have HD3 := Lib.hid (HD2.out.set_ 5 (.int .i64 (wd : Int)) 0 mi ze pl (wd : Int) (-1) rfl)
            clear b0 b1 b2 b3 b4 b5 b6 f5 HD2 QN HD hb2
            generalize w2.setCell ⟨w.heap.size + 1, 5, none⟩ (.int .i64 (wd : Int)) = w3 at *
            subst hd2
            have hj2' : j2 ≤ s.size := by omega
            clear hj1 hj2
            have e0 : ¬ (12 : Int) < -1 := by decide
            by_cases hjd : j2 < s.size
            · have hjd' : (j2 : Int) < (s.size : Int) := by omega
              have hd3 : s.data.toList.drop j2 = s[j2] :: s.data.toList.drop (j2 + 1) := by rw [List.drop_eq_getElem_cons (by omega)]; rfl
              by_cases h46 : s[j2] = 46
              · have hct : (s[j2].toNat : Int) = 46 := by rw [h46]; rfl
                have HQ : Hid (R = if (numF (s.data.toList.drop (j2 + 1))).2.length = (s.data.toList.drop (j2 + 1)).length ∨ 12 < (numF (s.data.toList.drop (j2 + 1))).1 then none else vbF mi ze pl wd ((numF (s.data.toList.drop (j2 + 1))).1 : Int) (numF (s.data.toList.drop (j2 + 1))).2) := Lib.hid (HP.out.trans (by rw [hd3, h46]; exact ptF_dot))
                have QD : Hid (∀ W, Calls Tryz.prog 55 #[.string s, .int .i64 ((j2 : Int) + 1)] W fun e w' => e = .returned (.bool (digD s.data.toList (j2 + 1))) ∧ W = w') := Lib.hid fun W => by have h := rdig9 s (j2 + 1) W (by omega) (by omega); push_cast at h; exact h
                clear HP hd3
                cases hdg : digD s.data.toList (j2 + 1) with
                | false =>
                  have HX : Hid (R = none) := Lib.hid (HQ.out.trans (if_pos (.inl (by rw [numF_none (drop_dig hdg)]))))
                  rw [hdg] at QD
                  clear HQ hdg
                  obtain ⟨b0, b1, b2, b3, b4, b5, b6⟩ := HD3.out.cells
                  obtain ⟨r0, r1', r2, r3', r4, r5, r6⟩ := blk7 HD3.out.2.1
                  have f0 := HD3.out.2.1.fz 0
                  have f1 := HD3.out.2.1.fz 1
                  have f2 := HD3.out.2.1.fz 2
                  have f3 := HD3.out.2.1.fz 3
                  have f4 := HD3.out.2.1.fz 4
                  have f5 := HD3.out.2.1.fz 5
                  have f6 := HD3.out.2.1.fz 6
                  go_wp2_with (go_at_call 55; (with_reducible refine (QD.out _).mono ?_); rintro e w' ⟨rfl, rfl⟩)
                  show bodyPost _ _ _ Exit.ret _ (st7 w3 w.heap.size (.string ⟨#[]⟩) (.int .u8 0) (.bool false) (.bool false) (.bool false) (.int .i64 0) (.int .i64 0))
                  have hI : Blk 32 w.heap.size #[.string ⟨#[]⟩, .int .u8 0, .bool false, .bool false, .bool false, .int .i64 0, .int .i64 0] (st7 w3 w.heap.size (.string ⟨#[]⟩) (.int .u8 0) (.bool false) (.bool false) (.bool false) (.int .i64 0) (.int .i64 0)) ∧ Below w.heap.size w (st7 w3 w.heap.size (.string ⟨#[]⟩) (.int .u8 0) (.bool false) (.bool false) (.bool false) (.int .i64 0) (.int .i64 0)) := ⟨st7_blk HD3.out.2.1, st7_below HD3.out.2.2 (Nat.le_refl _)⟩
                  generalize st7 w3 w.heap.size (.string ⟨#[]⟩) (.int .u8 0) (.bool false) (.bool false) (.bool false) (.int .i64 0) (.int .i64 0) = W9 at *
                  obtain ⟨d0, d1, d2, d3, d4, d5, d6⟩ := blk7 hI.1
                  refine bodyPost_ret (v := .tuple #[.agg #[.string ⟨#[]⟩, .int .u8 0, .bool false, .bool false, .bool false, .int .i64 0, .int .i64 0], .int .i64 0, .bool false]) (by simp [results, Tryz.results33, go_sem, d0, d1, d2, d3, d4, d5, d6]) rfl ⟨rDir_none HX.out, hI.2⟩
                | true =>
                  obtain ⟨hl4, hg4⟩ := digD_lt hdg
                  have hne : ¬ (numF (s.data.toList.drop (j2 + 1))).2.length = (s.data.toList.drop (j2 + 1)).length := by
                    rw [List.drop_eq_getElem_cons hl4, List.length_cons]
                    have := numF_some (r := s.data.toList.drop (j2 + 1 + 1)) hg4
                    omega
                  have QN : Hid (∀ W, Calls Tryz.prog 54 #[.string s, .int .i64 ((j2 : Int) + 1)] W fun e w' => RNum s (j2 + 1) e ∧ Below W.heap.size W w') := Lib.hid fun W => by have h := rnum9 s (j2 + 1) W (by omega) (by omega); push_cast at h; exact h
                  have hw1 := numF_val (s.data.toList.drop (j2 + 1))
                  unfold RNum at QN
                  rw [hdg] at QD
                  clear hdg hg4
                  generalize (numF (s.data.toList.drop (j2 + 1))).1 = pn at *
                  generalize (numF (s.data.toList.drop (j2 + 1))).2 = r3 at *
                  go_upto_region 16 with (first | (go_at_call 55; (with_reducible refine (QD.out _).mono ?_); rintro e w' ⟨rfl, rfl⟩) | (go_at_call 54; (with_reducible refine (QN.out _).mono ?_); rintro e w4 ⟨⟨j3, hj3, hj4, hd4, rfl⟩, hb4⟩; have HD4 := Lib.hid (HD3.out.below hb4); have f6 := HD4.out.1.fz 6; obtain ⟨b0, b1, b2, b3, b4, b5, b6⟩ := HD4.out.cells))
                  have HD5 := Lib.hid (HD4.out.set_ 6 (.int .i64 (pn : Int)) 0 mi ze pl (wd : Int) (pn : Int) rfl)
                  clear b0 b1 b2 b3 b4 b5 b6 f6 HD4 QN HD3 hb4 QD
                  generalize w4.setCell ⟨w.heap.size + 1, 6, none⟩ (.int .i64 (pn : Int)) = w5 at *
                  subst hd4
                  by_cases h12 : 12 < pn
                  · have HX : Hid (R = none) := Lib.hid (HQ.out.trans (if_pos (.inr h12)))
                    have e2 : (12 : Int) < (pn : Int) := by omega
                    clear HQ hne
                    obtain ⟨b0, b1, b2, b3, b4, b5, b6⟩ := HD5.out.cells
                    obtain ⟨r0, r1', r2, r3', r4, r5, r6⟩ := blk7 HD5.out.2.1
                    have f0 := HD5.out.2.1.fz 0
                    have f1 := HD5.out.2.1.fz 1
                    have f2 := HD5.out.2.1.fz 2
                    have f3 := HD5.out.2.1.fz 3
                    have f4 := HD5.out.2.1.fz 4
                    have f5 := HD5.out.2.1.fz 5
                    have f6 := HD5.out.2.1.fz 6
                    go_wp2
                    show bodyPost _ _ _ Exit.ret _ (st7 w5 w.heap.size (.string ⟨#[]⟩) (.int .u8 0) (.bool false) (.bool false) (.bool false) (.int .i64 0) (.int .i64 0))
                    have hI : Blk 32 w.heap.size #[.string ⟨#[]⟩, .int .u8 0, .bool false, .bool false, .bool false, .int .i64 0, .int .i64 0] (st7 w5 w.heap.size (.string ⟨#[]⟩) (.int .u8 0) (.bool false) (.bool false) (.bool false) (.int .i64 0) (.int .i64 0)) ∧ Below w.heap.size w (st7 w5 w.heap.size (.string ⟨#[]⟩) (.int .u8 0) (.bool false) (.bool false) (.bool false) (.int .i64 0) (.int .i64 0)) := ⟨st7_blk HD5.out.2.1, st7_below HD5.out.2.2 (Nat.le_refl _)⟩
                    generalize st7 w5 w.heap.size (.string ⟨#[]⟩) (.int .u8 0) (.bool false) (.bool false) (.bool false) (.int .i64 0) (.int .i64 0) = W9 at *
                    obtain ⟨d0, d1, d2, d3, d4, d5, d6⟩ := blk7 hI.1
                    refine bodyPost_ret (v := .tuple #[.agg #[.string ⟨#[]⟩, .int .u8 0, .bool false, .bool false, .bool false, .int .i64 0, .int .i64 0], .int .i64 0, .bool false]) (by simp [results, Tryz.results33, go_sem, d0, d1, d2, d3, d4, d5, d6]) rfl ⟨rDir_none HX.out, hI.2⟩
                  · have HV := Lib.hid (HQ.out.trans (if_neg (fun h => h.elim hne h12)))
                    have e2 : ¬ (12 : Int) < (pn : Int) := by omega
                    clear HQ hne
                    by_cases hjv : j3 < s.size
                    · have hjv' : ¬ (s.size : Int) ≤ (j3 : Int) := by omega
                      have hdv : s.data.toList.drop j3 = s[j3] :: s.data.toList.drop (j3 + 1) := by rw [List.drop_eq_getElem_cons (by omega)]; rfl
                      have QV := Lib.hid (rverb9 s[j3] w5)
                      have hcb := byte_bd9 s[j3]
                      cases hv : isVerb s[j3] with
                      | false =>
                        have HX : Hid (R = none) := Lib.hid (HV.out.trans (by rw [hdv]; exact vbF_no hv))
                        rw [hv] at QV
                        clear hv hdv HV
                        obtain ⟨b0, b1, b2, b3, b4, b5, b6⟩ := HD5.out.cells
                        obtain ⟨r0, r1', r2, r3', r4, r5, r6⟩ := blk7 HD5.out.2.1
                        have f0 := HD5.out.2.1.fz 0
                        have f1 := HD5.out.2.1.fz 1
                        have f2 := HD5.out.2.1.fz 2
                        have f3 := HD5.out.2.1.fz 3
                        have f4 := HD5.out.2.1.fz 4
                        have f5 := HD5.out.2.1.fz 5
                        have f6 := HD5.out.2.1.fz 6
                        go_wp2_with (go_at_call 56; (with_reducible refine (QV.out).mono ?_); rintro e w' ⟨rfl, rfl⟩)
                        show bodyPost _ _ _ Exit.ret _ (st7 w5 w.heap.size (.string ⟨#[]⟩) (.int .u8 0) (.bool false) (.bool false) (.bool false) (.int .i64 0) (.int .i64 0))
                        have hI : Blk 32 w.heap.size #[.string ⟨#[]⟩, .int .u8 0, .bool false, .bool false, .bool false, .int .i64 0, .int .i64 0] (st7 w5 w.heap.size (.string ⟨#[]⟩) (.int .u8 0) (.bool false) (.bool false) (.bool false) (.int .i64 0) (.int .i64 0)) ∧ Below w.heap.size w (st7 w5 w.heap.size (.string ⟨#[]⟩) (.int .u8 0) (.bool false) (.bool false) (.bool false) (.int .i64 0) (.int .i64 0)) := ⟨st7_blk HD5.out.2.1, st7_below HD5.out.2.2 (Nat.le_refl _)⟩
                        generalize st7 w5 w.heap.size (.string ⟨#[]⟩) (.int .u8 0) (.bool false) (.bool false) (.bool false) (.int .i64 0) (.int .i64 0) = W9 at *
                        obtain ⟨d0, d1, d2, d3, d4, d5, d6⟩ := blk7 hI.1
                        refine bodyPost_ret (v := .tuple #[.agg #[.string ⟨#[]⟩, .int .u8 0, .bool false, .bool false, .bool false, .int .i64 0, .int .i64 0], .int .i64 0, .bool false]) (by simp [results, Tryz.results33, go_sem, d0, d1, d2, d3, d4, d5, d6]) rfl ⟨rDir_none HX.out, hI.2⟩
                      | true =>
                        have HX : Hid (R = some (⟨[], s[j3].toNat, mi, ze, pl, wd, (pn : Int)⟩, s.data.toList.drop (j3 + 1))) := Lib.hid (HV.out.trans (by rw [hdv]; exact vbF_yes hv))
                        rw [hv] at QV
                        clear hv hdv HV
                        obtain ⟨b0, b1, b2, b3, b4, b5, b6⟩ := HD5.out.cells
                        have g1 := HD5.out.1.fz 1
                        go_upto_region 19 with (go_at_call 56; (with_reducible refine (QV.out).mono ?_); rintro e w' ⟨rfl, rfl⟩)
                        have HD9 := Lib.hid (HD5.out.set_ 1 (.int .u8 (s[j3].toNat : Int)) (s[j3].toNat : Int) mi ze pl (wd : Int) (pn : Int) rfl)
                        clear b0 b1 b2 b3 b4 b5 b6 g1 HD5
                        generalize w5.setCell ⟨w.heap.size + 1, 1, none⟩ (.int .u8 (s[j3].toNat : Int)) = w9 at *
                        obtain ⟨b0, b1, b2, b3, b4, b5, b6⟩ := HD9.out.cells
                        obtain ⟨r0, r1', r2, r3', r4, r5, r6⟩ := blk7 HD9.out.2.1
                        have f0 := HD9.out.2.1.fz 0
                        have f1 := HD9.out.2.1.fz 1
                        have f2 := HD9.out.2.1.fz 2
                        have f3 := HD9.out.2.1.fz 3
                        have f4 := HD9.out.2.1.fz 4
                        have f5 := HD9.out.2.1.fz 5
                        have f6 := HD9.out.2.1.fz 6
                        go_wp2
                        show bodyPost _ _ _ Exit.ret _ (st7 w9 w.heap.size (.string ⟨#[]⟩) (.int .u8 (s[j3].toNat : Int)) (.bool mi) (.bool ze) (.bool pl) (.int .i64 (wd : Int)) (.int .i64 (pn : Int)))
                        have hI : Blk 32 w.heap.size #[.string ⟨#[]⟩, .int .u8 (s[j3].toNat : Int), .bool mi, .bool ze, .bool pl, .int .i64 (wd : Int), .int .i64 (pn : Int)] (st7 w9 w.heap.size (.string ⟨#[]⟩) (.int .u8 (s[j3].toNat : Int)) (.bool mi) (.bool ze) (.bool pl) (.int .i64 (wd : Int)) (.int .i64 (pn : Int))) ∧ Below w.heap.size w (st7 w9 w.heap.size (.string ⟨#[]⟩) (.int .u8 (s[j3].toNat : Int)) (.bool mi) (.bool ze) (.bool pl) (.int .i64 (wd : Int)) (.int .i64 (pn : Int))) := ⟨st7_blk HD9.out.2.1, st7_below HD9.out.2.2 (Nat.le_refl _)⟩
                        generalize st7 w9 w.heap.size (.string ⟨#[]⟩) (.int .u8 (s[j3].toNat : Int)) (.bool mi) (.bool ze) (.bool pl) (.int .i64 (wd : Int)) (.int .i64 (pn : Int)) = W9 at *
                        obtain ⟨d0, d1, d2, d3, d4, d5, d6⟩ := blk7 hI.1
                        refine bodyPost_ret (v := .tuple #[.agg #[.string ⟨#[]⟩, .int .u8 (s[j3].toNat : Int), .bool mi, .bool ze, .bool pl, .int .i64 (wd : Int), .int .i64 (pn : Int)], .int .i64 ((j3 : Int) + 1), .bool true]) (by simp [results, Tryz.results33, go_sem, d0, d1, d2, d3, d4, d5, d6]) rfl ⟨rDir_some HX.out (by omega) rfl (by omega), hI.2⟩
                    · have hjv' : (s.size : Int) ≤ (j3 : Int) := by omega
                      have HX : Hid (R = none) := Lib.hid (HV.out.trans (by rw [List.drop_eq_nil_of_le (by omega)]; rfl))
                      clear HV
                      obtain ⟨b0, b1, b2, b3, b4, b5, b6⟩ := HD5.out.cells
                      obtain ⟨r0, r1', r2, r3', r4, r5, r6⟩ := blk7 HD5.out.2.1
                      have f0 := HD5.out.2.1.fz 0
                      have f1 := HD5.out.2.1.fz 1
                      have f2 := HD5.out.2.1.fz 2
                      have f3 := HD5.out.2.1.fz 3
                      have f4 := HD5.out.2.1.fz 4
                      have f5 := HD5.out.2.1.fz 5
                      have f6 := HD5.out.2.1.fz 6
                      go_wp2
                      show bodyPost _ _ _ Exit.ret _ (st7 w5 w.heap.size (.string ⟨#[]⟩) (.int .u8 0) (.bool false) (.bool false) (.bool false) (.int .i64 0) (.int .i64 0))
                      have hI : Blk 32 w.heap.size #[.string ⟨#[]⟩, .int .u8 0, .bool false, .bool false, .bool false, .int .i64 0, .int .i64 0] (st7 w5 w.heap.size (.string ⟨#[]⟩) (.int .u8 0) (.bool false) (.bool false) (.bool false) (.int .i64 0) (.int .i64 0)) ∧ Below w.heap.size w (st7 w5 w.heap.size (.string ⟨#[]⟩) (.int .u8 0) (.bool false) (.bool false) (.bool false) (.int .i64 0) (.int .i64 0)) := ⟨st7_blk HD5.out.2.1, st7_below HD5.out.2.2 (Nat.le_refl _)⟩
                      generalize st7 w5 w.heap.size (.string ⟨#[]⟩) (.int .u8 0) (.bool false) (.bool false) (.bool false) (.int .i64 0) (.int .i64 0) = W9 at *
                      obtain ⟨d0, d1, d2, d3, d4, d5, d6⟩ := blk7 hI.1
                      refine bodyPost_ret (v := .tuple #[.agg #[.string ⟨#[]⟩, .int .u8 0, .bool false, .bool false, .bool false, .int .i64 0, .int .i64 0], .int .i64 0, .bool false]) (by simp [results, Tryz.results33, go_sem, d0, d1, d2, d3, d4, d5, d6]) rfl ⟨rDir_none HX.out, hI.2⟩
              · have g46 : ((s[j2].toNat : Int) == 46) = false := by rw [beq_eq_false_iff_ne]; intro e; exact h46 (UInt8.toNat_inj.1 (by simpa using (by omega : s[j2].toNat = 46)))
                have HV := Lib.hid (HP.out.trans (ptF_nodot (by rw [hd3]; simpa using h46)))
                go_upto_region 16 with fail
                clear HP hd3 h46 g46
                by_cases hjv : j2 < s.size
                · have hjv' : ¬ (s.size : Int) ≤ (j2 : Int) := by omega
                  have hdv : s.data.toList.drop j2 = s[j2] :: s.data.toList.drop (j2 + 1) := by rw [List.drop_eq_getElem_cons (by omega)]; rfl
                  have QV := Lib.hid (rverb9 s[j2] w3)
                  have hcb := byte_bd9 s[j2]
                  cases hv : isVerb s[j2] with
                  | false =>
                    have HX : Hid (R = none) := Lib.hid (HV.out.trans (by rw [hdv]; exact vbF_no hv))
                    rw [hv] at QV
                    clear hv hdv HV
                    obtain ⟨b0, b1, b2, b3, b4, b5, b6⟩ := HD3.out.cells
                    obtain ⟨r0, r1', r2, r3', r4, r5, r6⟩ := blk7 HD3.out.2.1
                    have f0 := HD3.out.2.1.fz 0
                    have f1 := HD3.out.2.1.fz 1
                    have f2 := HD3.out.2.1.fz 2
                    have f3 := HD3.out.2.1.fz 3
                    have f4 := HD3.out.2.1.fz 4
                    have f5 := HD3.out.2.1.fz 5
                    have f6 := HD3.out.2.1.fz 6
                    go_wp2_with (go_at_call 56; (with_reducible refine (QV.out).mono ?_); rintro e w' ⟨rfl, rfl⟩)
                    show bodyPost _ _ _ Exit.ret _ (st7 w3 w.heap.size (.string ⟨#[]⟩) (.int .u8 0) (.bool false) (.bool false) (.bool false) (.int .i64 0) (.int .i64 0))
                    have hI : Blk 32 w.heap.size #[.string ⟨#[]⟩, .int .u8 0, .bool false, .bool false, .bool false, .int .i64 0, .int .i64 0] (st7 w3 w.heap.size (.string ⟨#[]⟩) (.int .u8 0) (.bool false) (.bool false) (.bool false) (.int .i64 0) (.int .i64 0)) ∧ Below w.heap.size w (st7 w3 w.heap.size (.string ⟨#[]⟩) (.int .u8 0) (.bool false) (.bool false) (.bool false) (.int .i64 0) (.int .i64 0)) := ⟨st7_blk HD3.out.2.1, st7_below HD3.out.2.2 (Nat.le_refl _)⟩
                    generalize st7 w3 w.heap.size (.string ⟨#[]⟩) (.int .u8 0) (.bool false) (.bool false) (.bool false) (.int .i64 0) (.int .i64 0) = W9 at *
                    obtain ⟨d0, d1, d2, d3, d4, d5, d6⟩ := blk7 hI.1
                    refine bodyPost_ret (v := .tuple #[.agg #[.string ⟨#[]⟩, .int .u8 0, .bool false, .bool false, .bool false, .int .i64 0, .int .i64 0], .int .i64 0, .bool false]) (by simp [results, Tryz.results33, go_sem, d0, d1, d2, d3, d4, d5, d6]) rfl ⟨rDir_none HX.out, hI.2⟩
                  | true =>
                    have HX : Hid (R = some (⟨[], s[j2].toNat, mi, ze, pl, wd, (-1)⟩, s.data.toList.drop (j2 + 1))) := Lib.hid (HV.out.trans (by rw [hdv]; exact vbF_yes hv))
                    rw [hv] at QV
                    clear hv hdv HV
                    obtain ⟨b0, b1, b2, b3, b4, b5, b6⟩ := HD3.out.cells
                    have g1 := HD3.out.1.fz 1
                    go_upto_region 19 with (go_at_call 56; (with_reducible refine (QV.out).mono ?_); rintro e w' ⟨rfl, rfl⟩)
                    have HD9 := Lib.hid (HD3.out.set_ 1 (.int .u8 (s[j2].toNat : Int)) (s[j2].toNat : Int) mi ze pl (wd : Int) (-1) rfl)
                    clear b0 b1 b2 b3 b4 b5 b6 g1 HD3
                    generalize w3.setCell ⟨w.heap.size + 1, 1, none⟩ (.int .u8 (s[j2].toNat : Int)) = w9 at *
                    obtain ⟨b0, b1, b2, b3, b4, b5, b6⟩ := HD9.out.cells
                    obtain ⟨r0, r1', r2, r3', r4, r5, r6⟩ := blk7 HD9.out.2.1
                    have f0 := HD9.out.2.1.fz 0
                    have f1 := HD9.out.2.1.fz 1
                    have f2 := HD9.out.2.1.fz 2
                    have f3 := HD9.out.2.1.fz 3
                    have f4 := HD9.out.2.1.fz 4
                    have f5 := HD9.out.2.1.fz 5
                    have f6 := HD9.out.2.1.fz 6
                    go_wp2
                    show bodyPost _ _ _ Exit.ret _ (st7 w9 w.heap.size (.string ⟨#[]⟩) (.int .u8 (s[j2].toNat : Int)) (.bool mi) (.bool ze) (.bool pl) (.int .i64 (wd : Int)) (.int .i64 (-1)))
                    have hI : Blk 32 w.heap.size #[.string ⟨#[]⟩, .int .u8 (s[j2].toNat : Int), .bool mi, .bool ze, .bool pl, .int .i64 (wd : Int), .int .i64 (-1)] (st7 w9 w.heap.size (.string ⟨#[]⟩) (.int .u8 (s[j2].toNat : Int)) (.bool mi) (.bool ze) (.bool pl) (.int .i64 (wd : Int)) (.int .i64 (-1))) ∧ Below w.heap.size w (st7 w9 w.heap.size (.string ⟨#[]⟩) (.int .u8 (s[j2].toNat : Int)) (.bool mi) (.bool ze) (.bool pl) (.int .i64 (wd : Int)) (.int .i64 (-1))) := ⟨st7_blk HD9.out.2.1, st7_below HD9.out.2.2 (Nat.le_refl _)⟩
                    generalize st7 w9 w.heap.size (.string ⟨#[]⟩) (.int .u8 (s[j2].toNat : Int)) (.bool mi) (.bool ze) (.bool pl) (.int .i64 (wd : Int)) (.int .i64 (-1)) = W9 at *
                    obtain ⟨d0, d1, d2, d3, d4, d5, d6⟩ := blk7 hI.1
                    refine bodyPost_ret (v := .tuple #[.agg #[.string ⟨#[]⟩, .int .u8 (s[j2].toNat : Int), .bool mi, .bool ze, .bool pl, .int .i64 (wd : Int), .int .i64 (-1)], .int .i64 ((j2 : Int) + 1), .bool true]) (by simp [results, Tryz.results33, go_sem, d0, d1, d2, d3, d4, d5, d6]) rfl ⟨rDir_some HX.out (by omega) rfl (by omega), hI.2⟩
                · exact absurd hjd hjv
            · have hjd' : ¬ (j2 : Int) < (s.size : Int) := by omega
              have hje : (s.size : Int) ≤ (j2 : Int) := by omega
              have HX : Hid (R = none) := Lib.hid (HP.out.trans (by rw [List.drop_eq_nil_of_le (by omega)]; rfl))
              clear HP
              obtain ⟨b0, b1, b2, b3, b4, b5, b6⟩ := HD3.out.cells
              obtain ⟨r0, r1', r2, r3', r4, r5, r6⟩ := blk7 HD3.out.2.1
              have f0 := HD3.out.2.1.fz 0
              have f1 := HD3.out.2.1.fz 1
              have f2 := HD3.out.2.1.fz 2
              have f3 := HD3.out.2.1.fz 3
              have f4 := HD3.out.2.1.fz 4
              have f5 := HD3.out.2.1.fz 5
              have f6 := HD3.out.2.1.fz 6
              go_wp2
              show bodyPost _ _ _ Exit.ret _ (st7 w3 w.heap.size (.string ⟨#[]⟩) (.int .u8 0) (.bool false) (.bool false) (.bool false) (.int .i64 0) (.int .i64 0))
              have hI : Blk 32 w.heap.size #[.string ⟨#[]⟩, .int .u8 0, .bool false, .bool false, .bool false, .int .i64 0, .int .i64 0] (st7 w3 w.heap.size (.string ⟨#[]⟩) (.int .u8 0) (.bool false) (.bool false) (.bool false) (.int .i64 0) (.int .i64 0)) ∧ Below w.heap.size w (st7 w3 w.heap.size (.string ⟨#[]⟩) (.int .u8 0) (.bool false) (.bool false) (.bool false) (.int .i64 0) (.int .i64 0)) := ⟨st7_blk HD3.out.2.1, st7_below HD3.out.2.2 (Nat.le_refl _)⟩
              generalize st7 w3 w.heap.size (.string ⟨#[]⟩) (.int .u8 0) (.bool false) (.bool false) (.bool false) (.int .i64 0) (.int .i64 0) = W9 at *
              obtain ⟨d0, d1, d2, d3, d4, d5, d6⟩ := blk7 hI.1
              refine bodyPost_ret (v := .tuple #[.agg #[.string ⟨#[]⟩, .int .u8 0, .bool false, .bool false, .bool false, .int .i64 0, .int .i64 0], .int .i64 0, .bool false]) (by simp [results, Tryz.results33, go_sem, d0, d1, d2, d3, d4, d5, d6]) rfl ⟨rDir_none HX.out, hI.2⟩
    · have hjs' : ¬ (j : Int) < (s.size : Int) := by omega
      have HP := Lib.hid (HG.out.trans (dirG_stop (fun c' r e => by rw [List.drop_eq_nil_of_le (by omega)] at e; cases e)))
      go_upto_region 11 with fail
      clear b0 b1 b2 b3 b4 b5 b6 HG
      have QN := Lib.hid (rnum9 s j W1 (by omega) (by omega))
      have hw0 := numF_val (s.data.toList.drop j)
      unfold RNum at QN
      generalize (numF (s.data.toList.drop j)).1 = wd at *
      generalize (numF (s.data.toList.drop j)).2 = r1 at *
      go_upto_region 12 with (go_at_call 54; (with_reducible refine (QN.out).mono ?_); rintro e w2 ⟨⟨j2, hj1, hj2, hd2, rfl⟩, hb2⟩; have HD2 := Lib.hid (HD.out.below hb2); have f5 := HD2.out.1.fz 5; obtain ⟨b0, b1, b2, b3, b4, b5, b6⟩ := HD2.out.cells)
      have HD3 := Lib.hid (HD2.out.set_ 5 (.int .i64 (wd : Int)) 0 mi ze pl (wd : Int) (-1) rfl)
      clear b0 b1 b2 b3 b4 b5 b6 f5 HD2 QN HD hb2
      generalize w2.setCell ⟨w.heap.size + 1, 5, none⟩ (.int .i64 (wd : Int)) = w3 at *
      subst hd2
      have hj2' : j2 ≤ s.size := by omega
      clear hj1 hj2
      have e0 : ¬ (12 : Int) < -1 := by decide
      by_cases hjd : j2 < s.size
      · have hjd' : (j2 : Int) < (s.size : Int) := by omega
        have hd3 : s.data.toList.drop j2 = s[j2] :: s.data.toList.drop (j2 + 1) := by rw [List.drop_eq_getElem_cons (by omega)]; rfl
        by_cases h46 : s[j2] = 46
        · have hct : (s[j2].toNat : Int) = 46 := by rw [h46]; rfl
          have HQ : Hid (R = if (numF (s.data.toList.drop (j2 + 1))).2.length = (s.data.toList.drop (j2 + 1)).length ∨ 12 < (numF (s.data.toList.drop (j2 + 1))).1 then none else vbF mi ze pl wd ((numF (s.data.toList.drop (j2 + 1))).1 : Int) (numF (s.data.toList.drop (j2 + 1))).2) := Lib.hid (HP.out.trans (by rw [hd3, h46]; exact ptF_dot))
          have QD : Hid (∀ W, Calls Tryz.prog 55 #[.string s, .int .i64 ((j2 : Int) + 1)] W fun e w' => e = .returned (.bool (digD s.data.toList (j2 + 1))) ∧ W = w') := Lib.hid fun W => by have h := rdig9 s (j2 + 1) W (by omega) (by omega); push_cast at h; exact h
          clear HP hd3
          cases hdg : digD s.data.toList (j2 + 1) with
          | false =>
            have HX : Hid (R = none) := Lib.hid (HQ.out.trans (if_pos (.inl (by rw [numF_none (drop_dig hdg)]))))
            rw [hdg] at QD
            clear HQ hdg
            obtain ⟨b0, b1, b2, b3, b4, b5, b6⟩ := HD3.out.cells
            obtain ⟨r0, r1', r2, r3', r4, r5, r6⟩ := blk7 HD3.out.2.1
            have f0 := HD3.out.2.1.fz 0
            have f1 := HD3.out.2.1.fz 1
            have f2 := HD3.out.2.1.fz 2
            have f3 := HD3.out.2.1.fz 3
            have f4 := HD3.out.2.1.fz 4
            have f5 := HD3.out.2.1.fz 5
            have f6 := HD3.out.2.1.fz 6
            go_wp2_with (go_at_call 55; (with_reducible refine (QD.out _).mono ?_); rintro e w' ⟨rfl, rfl⟩)
            show bodyPost _ _ _ Exit.ret _ (st7 w3 w.heap.size (.string ⟨#[]⟩) (.int .u8 0) (.bool false) (.bool false) (.bool false) (.int .i64 0) (.int .i64 0))
            have hI : Blk 32 w.heap.size #[.string ⟨#[]⟩, .int .u8 0, .bool false, .bool false, .bool false, .int .i64 0, .int .i64 0] (st7 w3 w.heap.size (.string ⟨#[]⟩) (.int .u8 0) (.bool false) (.bool false) (.bool false) (.int .i64 0) (.int .i64 0)) ∧ Below w.heap.size w (st7 w3 w.heap.size (.string ⟨#[]⟩) (.int .u8 0) (.bool false) (.bool false) (.bool false) (.int .i64 0) (.int .i64 0)) := ⟨st7_blk HD3.out.2.1, st7_below HD3.out.2.2 (Nat.le_refl _)⟩
            generalize st7 w3 w.heap.size (.string ⟨#[]⟩) (.int .u8 0) (.bool false) (.bool false) (.bool false) (.int .i64 0) (.int .i64 0) = W9 at *
            obtain ⟨d0, d1, d2, d3, d4, d5, d6⟩ := blk7 hI.1
            refine bodyPost_ret (v := .tuple #[.agg #[.string ⟨#[]⟩, .int .u8 0, .bool false, .bool false, .bool false, .int .i64 0, .int .i64 0], .int .i64 0, .bool false]) (by simp [results, Tryz.results33, go_sem, d0, d1, d2, d3, d4, d5, d6]) rfl ⟨rDir_none HX.out, hI.2⟩
          | true =>
            obtain ⟨hl4, hg4⟩ := digD_lt hdg
            have hne : ¬ (numF (s.data.toList.drop (j2 + 1))).2.length = (s.data.toList.drop (j2 + 1)).length := by
              rw [List.drop_eq_getElem_cons hl4, List.length_cons]
              have := numF_some (r := s.data.toList.drop (j2 + 1 + 1)) hg4
              omega
            have QN : Hid (∀ W, Calls Tryz.prog 54 #[.string s, .int .i64 ((j2 : Int) + 1)] W fun e w' => RNum s (j2 + 1) e ∧ Below W.heap.size W w') := Lib.hid fun W => by have h := rnum9 s (j2 + 1) W (by omega) (by omega); push_cast at h; exact h
            have hw1 := numF_val (s.data.toList.drop (j2 + 1))
            unfold RNum at QN
            rw [hdg] at QD
            clear hdg hg4
            generalize (numF (s.data.toList.drop (j2 + 1))).1 = pn at *
            generalize (numF (s.data.toList.drop (j2 + 1))).2 = r3 at *
            go_upto_region 16 with (first | (go_at_call 55; (with_reducible refine (QD.out _).mono ?_); rintro e w' ⟨rfl, rfl⟩) | (go_at_call 54; (with_reducible refine (QN.out _).mono ?_); rintro e w4 ⟨⟨j3, hj3, hj4, hd4, rfl⟩, hb4⟩; have HD4 := Lib.hid (HD3.out.below hb4); have f6 := HD4.out.1.fz 6; obtain ⟨b0, b1, b2, b3, b4, b5, b6⟩ := HD4.out.cells))
            have HD5 := Lib.hid (HD4.out.set_ 6 (.int .i64 (pn : Int)) 0 mi ze pl (wd : Int) (pn : Int) rfl)
            clear b0 b1 b2 b3 b4 b5 b6 f6 HD4 QN HD3 hb4 QD
            generalize w4.setCell ⟨w.heap.size + 1, 6, none⟩ (.int .i64 (pn : Int)) = w5 at *
            subst hd4
            by_cases h12 : 12 < pn
            · have HX : Hid (R = none) := Lib.hid (HQ.out.trans (if_pos (.inr h12)))
              have e2 : (12 : Int) < (pn : Int) := by omega
              clear HQ hne
              obtain ⟨b0, b1, b2, b3, b4, b5, b6⟩ := HD5.out.cells
              obtain ⟨r0, r1', r2, r3', r4, r5, r6⟩ := blk7 HD5.out.2.1
              have f0 := HD5.out.2.1.fz 0
              have f1 := HD5.out.2.1.fz 1
              have f2 := HD5.out.2.1.fz 2
              have f3 := HD5.out.2.1.fz 3
              have f4 := HD5.out.2.1.fz 4
              have f5 := HD5.out.2.1.fz 5
              have f6 := HD5.out.2.1.fz 6
              go_wp2
              show bodyPost _ _ _ Exit.ret _ (st7 w5 w.heap.size (.string ⟨#[]⟩) (.int .u8 0) (.bool false) (.bool false) (.bool false) (.int .i64 0) (.int .i64 0))
              have hI : Blk 32 w.heap.size #[.string ⟨#[]⟩, .int .u8 0, .bool false, .bool false, .bool false, .int .i64 0, .int .i64 0] (st7 w5 w.heap.size (.string ⟨#[]⟩) (.int .u8 0) (.bool false) (.bool false) (.bool false) (.int .i64 0) (.int .i64 0)) ∧ Below w.heap.size w (st7 w5 w.heap.size (.string ⟨#[]⟩) (.int .u8 0) (.bool false) (.bool false) (.bool false) (.int .i64 0) (.int .i64 0)) := ⟨st7_blk HD5.out.2.1, st7_below HD5.out.2.2 (Nat.le_refl _)⟩
              generalize st7 w5 w.heap.size (.string ⟨#[]⟩) (.int .u8 0) (.bool false) (.bool false) (.bool false) (.int .i64 0) (.int .i64 0) = W9 at *
              obtain ⟨d0, d1, d2, d3, d4, d5, d6⟩ := blk7 hI.1
              refine bodyPost_ret (v := .tuple #[.agg #[.string ⟨#[]⟩, .int .u8 0, .bool false, .bool false, .bool false, .int .i64 0, .int .i64 0], .int .i64 0, .bool false]) (by simp [results, Tryz.results33, go_sem, d0, d1, d2, d3, d4, d5, d6]) rfl ⟨rDir_none HX.out, hI.2⟩
            · have HV := Lib.hid (HQ.out.trans (if_neg (fun h => h.elim hne h12)))
              have e2 : ¬ (12 : Int) < (pn : Int) := by omega
              clear HQ hne
              by_cases hjv : j3 < s.size
              · have hjv' : ¬ (s.size : Int) ≤ (j3 : Int) := by omega
                have hdv : s.data.toList.drop j3 = s[j3] :: s.data.toList.drop (j3 + 1) := by rw [List.drop_eq_getElem_cons (by omega)]; rfl
                have QV := Lib.hid (rverb9 s[j3] w5)
                have hcb := byte_bd9 s[j3]
                cases hv : isVerb s[j3] with
                | false =>
                  have HX : Hid (R = none) := Lib.hid (HV.out.trans (by rw [hdv]; exact vbF_no hv))
                  rw [hv] at QV
                  clear hv hdv HV
                  obtain ⟨b0, b1, b2, b3, b4, b5, b6⟩ := HD5.out.cells
                  obtain ⟨r0, r1', r2, r3', r4, r5, r6⟩ := blk7 HD5.out.2.1
                  have f0 := HD5.out.2.1.fz 0
                  have f1 := HD5.out.2.1.fz 1
                  have f2 := HD5.out.2.1.fz 2
                  have f3 := HD5.out.2.1.fz 3
                  have f4 := HD5.out.2.1.fz 4
                  have f5 := HD5.out.2.1.fz 5
                  have f6 := HD5.out.2.1.fz 6
                  go_wp2_with (go_at_call 56; (with_reducible refine (QV.out).mono ?_); rintro e w' ⟨rfl, rfl⟩)
                  show bodyPost _ _ _ Exit.ret _ (st7 w5 w.heap.size (.string ⟨#[]⟩) (.int .u8 0) (.bool false) (.bool false) (.bool false) (.int .i64 0) (.int .i64 0))
                  have hI : Blk 32 w.heap.size #[.string ⟨#[]⟩, .int .u8 0, .bool false, .bool false, .bool false, .int .i64 0, .int .i64 0] (st7 w5 w.heap.size (.string ⟨#[]⟩) (.int .u8 0) (.bool false) (.bool false) (.bool false) (.int .i64 0) (.int .i64 0)) ∧ Below w.heap.size w (st7 w5 w.heap.size (.string ⟨#[]⟩) (.int .u8 0) (.bool false) (.bool false) (.bool false) (.int .i64 0) (.int .i64 0)) := ⟨st7_blk HD5.out.2.1, st7_below HD5.out.2.2 (Nat.le_refl _)⟩
                  generalize st7 w5 w.heap.size (.string ⟨#[]⟩) (.int .u8 0) (.bool false) (.bool false) (.bool false) (.int .i64 0) (.int .i64 0) = W9 at *
                  obtain ⟨d0, d1, d2, d3, d4, d5, d6⟩ := blk7 hI.1
                  refine bodyPost_ret (v := .tuple #[.agg #[.string ⟨#[]⟩, .int .u8 0, .bool false, .bool false, .bool false, .int .i64 0, .int .i64 0], .int .i64 0, .bool false]) (by simp [results, Tryz.results33, go_sem, d0, d1, d2, d3, d4, d5, d6]) rfl ⟨rDir_none HX.out, hI.2⟩
                | true =>
                  have HX : Hid (R = some (⟨[], s[j3].toNat, mi, ze, pl, wd, (pn : Int)⟩, s.data.toList.drop (j3 + 1))) := Lib.hid (HV.out.trans (by rw [hdv]; exact vbF_yes hv))
                  rw [hv] at QV
                  clear hv hdv HV
                  obtain ⟨b0, b1, b2, b3, b4, b5, b6⟩ := HD5.out.cells
                  have g1 := HD5.out.1.fz 1
                  go_upto_region 19 with (go_at_call 56; (with_reducible refine (QV.out).mono ?_); rintro e w' ⟨rfl, rfl⟩)
                  have HD9 := Lib.hid (HD5.out.set_ 1 (.int .u8 (s[j3].toNat : Int)) (s[j3].toNat : Int) mi ze pl (wd : Int) (pn : Int) rfl)
                  clear b0 b1 b2 b3 b4 b5 b6 g1 HD5
                  generalize w5.setCell ⟨w.heap.size + 1, 1, none⟩ (.int .u8 (s[j3].toNat : Int)) = w9 at *
                  obtain ⟨b0, b1, b2, b3, b4, b5, b6⟩ := HD9.out.cells
                  obtain ⟨r0, r1', r2, r3', r4, r5, r6⟩ := blk7 HD9.out.2.1
                  have f0 := HD9.out.2.1.fz 0
                  have f1 := HD9.out.2.1.fz 1
                  have f2 := HD9.out.2.1.fz 2
                  have f3 := HD9.out.2.1.fz 3
                  have f4 := HD9.out.2.1.fz 4
                  have f5 := HD9.out.2.1.fz 5
                  have f6 := HD9.out.2.1.fz 6
                  go_wp2
                  show bodyPost _ _ _ Exit.ret _ (st7 w9 w.heap.size (.string ⟨#[]⟩) (.int .u8 (s[j3].toNat : Int)) (.bool mi) (.bool ze) (.bool pl) (.int .i64 (wd : Int)) (.int .i64 (pn : Int)))
                  have hI : Blk 32 w.heap.size #[.string ⟨#[]⟩, .int .u8 (s[j3].toNat : Int), .bool mi, .bool ze, .bool pl, .int .i64 (wd : Int), .int .i64 (pn : Int)] (st7 w9 w.heap.size (.string ⟨#[]⟩) (.int .u8 (s[j3].toNat : Int)) (.bool mi) (.bool ze) (.bool pl) (.int .i64 (wd : Int)) (.int .i64 (pn : Int))) ∧ Below w.heap.size w (st7 w9 w.heap.size (.string ⟨#[]⟩) (.int .u8 (s[j3].toNat : Int)) (.bool mi) (.bool ze) (.bool pl) (.int .i64 (wd : Int)) (.int .i64 (pn : Int))) := ⟨st7_blk HD9.out.2.1, st7_below HD9.out.2.2 (Nat.le_refl _)⟩
                  generalize st7 w9 w.heap.size (.string ⟨#[]⟩) (.int .u8 (s[j3].toNat : Int)) (.bool mi) (.bool ze) (.bool pl) (.int .i64 (wd : Int)) (.int .i64 (pn : Int)) = W9 at *
                  obtain ⟨d0, d1, d2, d3, d4, d5, d6⟩ := blk7 hI.1
                  refine bodyPost_ret (v := .tuple #[.agg #[.string ⟨#[]⟩, .int .u8 (s[j3].toNat : Int), .bool mi, .bool ze, .bool pl, .int .i64 (wd : Int), .int .i64 (pn : Int)], .int .i64 ((j3 : Int) + 1), .bool true]) (by simp [results, Tryz.results33, go_sem, d0, d1, d2, d3, d4, d5, d6]) rfl ⟨rDir_some HX.out (by omega) rfl (by omega), hI.2⟩
              · have hjv' : (s.size : Int) ≤ (j3 : Int) := by omega
                have HX : Hid (R = none) := Lib.hid (HV.out.trans (by rw [List.drop_eq_nil_of_le (by omega)]; rfl))
                clear HV
                obtain ⟨b0, b1, b2, b3, b4, b5, b6⟩ := HD5.out.cells
                obtain ⟨r0, r1', r2, r3', r4, r5, r6⟩ := blk7 HD5.out.2.1
                have f0 := HD5.out.2.1.fz 0
                have f1 := HD5.out.2.1.fz 1
                have f2 := HD5.out.2.1.fz 2
                have f3 := HD5.out.2.1.fz 3
                have f4 := HD5.out.2.1.fz 4
                have f5 := HD5.out.2.1.fz 5
                have f6 := HD5.out.2.1.fz 6
                go_wp2
                show bodyPost _ _ _ Exit.ret _ (st7 w5 w.heap.size (.string ⟨#[]⟩) (.int .u8 0) (.bool false) (.bool false) (.bool false) (.int .i64 0) (.int .i64 0))
                have hI : Blk 32 w.heap.size #[.string ⟨#[]⟩, .int .u8 0, .bool false, .bool false, .bool false, .int .i64 0, .int .i64 0] (st7 w5 w.heap.size (.string ⟨#[]⟩) (.int .u8 0) (.bool false) (.bool false) (.bool false) (.int .i64 0) (.int .i64 0)) ∧ Below w.heap.size w (st7 w5 w.heap.size (.string ⟨#[]⟩) (.int .u8 0) (.bool false) (.bool false) (.bool false) (.int .i64 0) (.int .i64 0)) := ⟨st7_blk HD5.out.2.1, st7_below HD5.out.2.2 (Nat.le_refl _)⟩
                generalize st7 w5 w.heap.size (.string ⟨#[]⟩) (.int .u8 0) (.bool false) (.bool false) (.bool false) (.int .i64 0) (.int .i64 0) = W9 at *
                obtain ⟨d0, d1, d2, d3, d4, d5, d6⟩ := blk7 hI.1
                refine bodyPost_ret (v := .tuple #[.agg #[.string ⟨#[]⟩, .int .u8 0, .bool false, .bool false, .bool false, .int .i64 0, .int .i64 0], .int .i64 0, .bool false]) (by simp [results, Tryz.results33, go_sem, d0, d1, d2, d3, d4, d5, d6]) rfl ⟨rDir_none HX.out, hI.2⟩
        · have g46 : ((s[j2].toNat : Int) == 46) = false := by rw [beq_eq_false_iff_ne]; intro e; exact h46 (UInt8.toNat_inj.1 (by simpa using (by omega : s[j2].toNat = 46)))
          have HV := Lib.hid (HP.out.trans (ptF_nodot (by rw [hd3]; simpa using h46)))
          go_upto_region 16 with fail
          clear HP hd3 h46 g46
          by_cases hjv : j2 < s.size
          · have hjv' : ¬ (s.size : Int) ≤ (j2 : Int) := by omega
            have hdv : s.data.toList.drop j2 = s[j2] :: s.data.toList.drop (j2 + 1) := by rw [List.drop_eq_getElem_cons (by omega)]; rfl
            have QV := Lib.hid (rverb9 s[j2] w3)
            have hcb := byte_bd9 s[j2]
            cases hv : isVerb s[j2] with
            | false =>
              have HX : Hid (R = none) := Lib.hid (HV.out.trans (by rw [hdv]; exact vbF_no hv))
              rw [hv] at QV
              clear hv hdv HV
              obtain ⟨b0, b1, b2, b3, b4, b5, b6⟩ := HD3.out.cells
              obtain ⟨r0, r1', r2, r3', r4, r5, r6⟩ := blk7 HD3.out.2.1
              have f0 := HD3.out.2.1.fz 0
              have f1 := HD3.out.2.1.fz 1
              have f2 := HD3.out.2.1.fz 2
              have f3 := HD3.out.2.1.fz 3
              have f4 := HD3.out.2.1.fz 4
              have f5 := HD3.out.2.1.fz 5
              have f6 := HD3.out.2.1.fz 6
              go_wp2_with (go_at_call 56; (with_reducible refine (QV.out).mono ?_); rintro e w' ⟨rfl, rfl⟩)
              show bodyPost _ _ _ Exit.ret _ (st7 w3 w.heap.size (.string ⟨#[]⟩) (.int .u8 0) (.bool false) (.bool false) (.bool false) (.int .i64 0) (.int .i64 0))
              have hI : Blk 32 w.heap.size #[.string ⟨#[]⟩, .int .u8 0, .bool false, .bool false, .bool false, .int .i64 0, .int .i64 0] (st7 w3 w.heap.size (.string ⟨#[]⟩) (.int .u8 0) (.bool false) (.bool false) (.bool false) (.int .i64 0) (.int .i64 0)) ∧ Below w.heap.size w (st7 w3 w.heap.size (.string ⟨#[]⟩) (.int .u8 0) (.bool false) (.bool false) (.bool false) (.int .i64 0) (.int .i64 0)) := ⟨st7_blk HD3.out.2.1, st7_below HD3.out.2.2 (Nat.le_refl _)⟩
              generalize st7 w3 w.heap.size (.string ⟨#[]⟩) (.int .u8 0) (.bool false) (.bool false) (.bool false) (.int .i64 0) (.int .i64 0) = W9 at *
              obtain ⟨d0, d1, d2, d3, d4, d5, d6⟩ := blk7 hI.1
              refine bodyPost_ret (v := .tuple #[.agg #[.string ⟨#[]⟩, .int .u8 0, .bool false, .bool false, .bool false, .int .i64 0, .int .i64 0], .int .i64 0, .bool false]) (by simp [results, Tryz.results33, go_sem, d0, d1, d2, d3, d4, d5, d6]) rfl ⟨rDir_none HX.out, hI.2⟩
            | true =>
              have HX : Hid (R = some (⟨[], s[j2].toNat, mi, ze, pl, wd, (-1)⟩, s.data.toList.drop (j2 + 1))) := Lib.hid (HV.out.trans (by rw [hdv]; exact vbF_yes hv))
              rw [hv] at QV
              clear hv hdv HV
              obtain ⟨b0, b1, b2, b3, b4, b5, b6⟩ := HD3.out.cells
              have g1 := HD3.out.1.fz 1
              go_upto_region 19 with (go_at_call 56; (with_reducible refine (QV.out).mono ?_); rintro e w' ⟨rfl, rfl⟩)
              have HD9 := Lib.hid (HD3.out.set_ 1 (.int .u8 (s[j2].toNat : Int)) (s[j2].toNat : Int) mi ze pl (wd : Int) (-1) rfl)
              clear b0 b1 b2 b3 b4 b5 b6 g1 HD3
              generalize w3.setCell ⟨w.heap.size + 1, 1, none⟩ (.int .u8 (s[j2].toNat : Int)) = w9 at *
              obtain ⟨b0, b1, b2, b3, b4, b5, b6⟩ := HD9.out.cells
              obtain ⟨r0, r1', r2, r3', r4, r5, r6⟩ := blk7 HD9.out.2.1
              have f0 := HD9.out.2.1.fz 0
              have f1 := HD9.out.2.1.fz 1
              have f2 := HD9.out.2.1.fz 2
              have f3 := HD9.out.2.1.fz 3
              have f4 := HD9.out.2.1.fz 4
              have f5 := HD9.out.2.1.fz 5
              have f6 := HD9.out.2.1.fz 6
              go_wp2
              show bodyPost _ _ _ Exit.ret _ (st7 w9 w.heap.size (.string ⟨#[]⟩) (.int .u8 (s[j2].toNat : Int)) (.bool mi) (.bool ze) (.bool pl) (.int .i64 (wd : Int)) (.int .i64 (-1)))
              have hI : Blk 32 w.heap.size #[.string ⟨#[]⟩, .int .u8 (s[j2].toNat : Int), .bool mi, .bool ze, .bool pl, .int .i64 (wd : Int), .int .i64 (-1)] (st7 w9 w.heap.size (.string ⟨#[]⟩) (.int .u8 (s[j2].toNat : Int)) (.bool mi) (.bool ze) (.bool pl) (.int .i64 (wd : Int)) (.int .i64 (-1))) ∧ Below w.heap.size w (st7 w9 w.heap.size (.string ⟨#[]⟩) (.int .u8 (s[j2].toNat : Int)) (.bool mi) (.bool ze) (.bool pl) (.int .i64 (wd : Int)) (.int .i64 (-1))) := ⟨st7_blk HD9.out.2.1, st7_below HD9.out.2.2 (Nat.le_refl _)⟩
              generalize st7 w9 w.heap.size (.string ⟨#[]⟩) (.int .u8 (s[j2].toNat : Int)) (.bool mi) (.bool ze) (.bool pl) (.int .i64 (wd : Int)) (.int .i64 (-1)) = W9 at *
              obtain ⟨d0, d1, d2, d3, d4, d5, d6⟩ := blk7 hI.1
              refine bodyPost_ret (v := .tuple #[.agg #[.string ⟨#[]⟩, .int .u8 (s[j2].toNat : Int), .bool mi, .bool ze, .bool pl, .int .i64 (wd : Int), .int .i64 (-1)], .int .i64 ((j2 : Int) + 1), .bool true]) (by simp [results, Tryz.results33, go_sem, d0, d1, d2, d3, d4, d5, d6]) rfl ⟨rDir_some HX.out (by omega) rfl (by omega), hI.2⟩
          · exact absurd hjd hjv
      · have hjd' : ¬ (j2 : Int) < (s.size : Int) := by omega
        have hje : (s.size : Int) ≤ (j2 : Int) := by omega
        have HX : Hid (R = none) := Lib.hid (HP.out.trans (by rw [List.drop_eq_nil_of_le (by omega)]; rfl))
        clear HP
        obtain ⟨b0, b1, b2, b3, b4, b5, b6⟩ := HD3.out.cells
        obtain ⟨r0, r1', r2, r3', r4, r5, r6⟩ := blk7 HD3.out.2.1
        have f0 := HD3.out.2.1.fz 0
        have f1 := HD3.out.2.1.fz 1
        have f2 := HD3.out.2.1.fz 2
        have f3 := HD3.out.2.1.fz 3
        have f4 := HD3.out.2.1.fz 4
        have f5 := HD3.out.2.1.fz 5
        have f6 := HD3.out.2.1.fz 6
        go_wp2
        show bodyPost _ _ _ Exit.ret _ (st7 w3 w.heap.size (.string ⟨#[]⟩) (.int .u8 0) (.bool false) (.bool false) (.bool false) (.int .i64 0) (.int .i64 0))
        have hI : Blk 32 w.heap.size #[.string ⟨#[]⟩, .int .u8 0, .bool false, .bool false, .bool false, .int .i64 0, .int .i64 0] (st7 w3 w.heap.size (.string ⟨#[]⟩) (.int .u8 0) (.bool false) (.bool false) (.bool false) (.int .i64 0) (.int .i64 0)) ∧ Below w.heap.size w (st7 w3 w.heap.size (.string ⟨#[]⟩) (.int .u8 0) (.bool false) (.bool false) (.bool false) (.int .i64 0) (.int .i64 0)) := ⟨st7_blk HD3.out.2.1, st7_below HD3.out.2.2 (Nat.le_refl _)⟩
        generalize st7 w3 w.heap.size (.string ⟨#[]⟩) (.int .u8 0) (.bool false) (.bool false) (.bool false) (.int .i64 0) (.int .i64 0) = W9 at *
        obtain ⟨d0, d1, d2, d3, d4, d5, d6⟩ := blk7 hI.1
        refine bodyPost_ret (v := .tuple #[.agg #[.string ⟨#[]⟩, .int .u8 0, .bool false, .bool false, .bool false, .int .i64 0, .int .i64 0], .int .i64 0, .bool false]) (by simp [results, Tryz.results33, go_sem, d0, d1, d2, d3, d4, d5, d6]) rfl ⟨rDir_none HX.out, hI.2⟩
end Go.Proofs.YtbdcmnhfmkefdaaGreatDoor
