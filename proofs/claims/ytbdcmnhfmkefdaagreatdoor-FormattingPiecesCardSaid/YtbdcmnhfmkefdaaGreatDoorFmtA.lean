/- Contracts of layer 9: widths, digits, flags. -/
import Derived.Test.YtbdcmnhfmkefdaaGreatDoorNumB
import Derived.Test.YtbdcmnhfmkefdaaGreatDoorFmtM
import Derived.Test.YtbdcmnhfmkefdaaGreatDoorCh
import Derived.OneCell
import Derived.Deep.RegionHeld3
import Derived.Deep.DeepCutAuto
import Derived.Deep.QuietTactic
import Derived.BigQuiet
import Derived.StillTailTactics
import Derived.IntWalk
namespace Go.Proofs.YtbdcmnhfmkefdaaGreatDoor
open Go.RowKit M1 M2 M9
set_option linter.unusedVariables false
/-- A string of these bytes. -/
def bq (l : List UInt8) : ByteArray := ⟨l.toArray⟩
theorem bq_list (l : List UInt8) : (bq l).data.toList = l := by simp [bq]
theorem bq_size (l : List UInt8) : (bq l).size = l.length := by simp [bq, ByteArray.size]
theorem bq_eta (s : ByteArray) : bq s.data.toList = s := by apply ByteArray.ext; rw [← Array.toList_inj, bq_list]
theorem bq_drop (s : ByteArray) (a : Nat) : s.extract a s.size = bq (s.data.toList.drop a) := by
  apply ByteArray.ext
  rw [← Array.toList_inj, Lib.extract_data, bq_list, List.take_of_length_le]; simp
theorem bq_inj {s : ByteArray} {l : List UInt8} (h : s.data.toList = l) : s = bq l := by rw [← h, bq_eta]
theorem miss_any (s : ByteArray) (n : Int) (w : World) (hs : s.size ≤ 100000000) :
    Calls Tryz.prog 39 #[.string s, .int .i64 n] w fun e w' => e = .returned (.int .i64 (missF s.size n : Int)) ∧ w = w' := by
  have hm : max (0 : Int) (min (max 0 n) 99 - (s.size : Int)) = (missF s.size n : Int) := by unfold missF; omega
  have HM := Lib.hid hm
  have h1 : -100000000 ≤ min (max 0 n) 99 - (s.size : Int) := by omega
  have h2 : min (max 0 n) 99 - (s.size : Int) ≤ 99 := by omega
  clear hm
  go_enter Tryz.func39, Tryz.ntmps39
  go_wp2
  go_ret
  refine ⟨?_, rfl⟩
  rw [← HM.out]
  exact ret_int (by omega)

theorem cons_of (s : ByteArray) (h : 0 < s.size) : s.data.toList = s[0] :: (s.extract 1 s.size).data.toList := by
  rw [bq_drop, bq_list]
  have h2 := List.drop_eq_getElem_cons (l := s.data.toList) (i := 0) (by simpa using h)
  rw [List.drop_zero] at h2
  exact h2
theorem ne_empty {s : ByteArray} (h : 0 < s.size) : s.toList.isEmpty = false := by
  rw [Lib.toList_data, List.isEmpty_eq_false_iff]
  intro e
  have h2 : s.data.toList.length = s.size := by simp
  rw [e] at h2
  simp at h2
  omega
theorem nil_of {s : ByteArray} (h : s.size = 0) : s = ⟨#[]⟩ := ByteArray.ext (Array.eq_empty_of_size_eq_zero h)
theorem ext1_size (s : ByteArray) (h : 0 < s.size) : (s.extract 1 s.size).size < s.size := by rw [ByteArray.size_extract]; omega
def NumSaid (l : List UInt8) (e : Ending) : Prop := e = .returned (.tuple #[.int .i64 ((numF l).1 : Int), .string (bq (numF l).2)])
theorem numSaid_of {l r : List UInt8} {m : Nat} {s : ByteArray} (h : numF l = (m, r)) (hs : s.data.toList = r) : NumSaid l (.returned (.tuple #[.int .i64 (m : Int), .string s])) := by
  unfold NumSaid; rw [h, ← hs, bq_eta]
theorem byte_bd9 (c : UInt8) : 0 ≤ (c.toNat : Int) ∧ (c.toNat : Int) ≤ 255 := by have := c.toNat_lt; omega
set_option maxHeartbeats 2000000 in
theorem number9_any (s : ByteArray) (w : World) (hs : s.size ≤ 100000000) :
    Calls Tryz.prog 52 #[.string s] w fun e w' => NumSaid s.data.toList e ∧ ∃ n, w' = w.drewN n := by
  go_enter Tryz.func52, Tryz.ntmps52
  go_wp2
  go_loopw [0, 2, 4] (fun v0 v2 v4 wr => ∃ (r : ByteArray) (m k : Nat), k ≤ 2 ∧ Hid (numN (2 - k) m r.data.toList = numF s.data.toList) ∧ m ≤ 9 * k + 81 * (k / 2) ∧ r.size ≤ s.size ∧ v0 = .string r ∧ v2 = .int .i64 (m : Int) ∧ v4 = .int .i64 (k : Int) ∧ Hid (∃ n, wr = w.drewN n)) (fun v0 v2 v4 _ => 2 - (intOf v4).toNat)
  case atStart => exact ⟨s, 0, 0, by omega, Lib.hid rfl, by omega, Nat.le_refl _, rfl, rfl, rfl, Lib.hid ⟨0, rfl⟩⟩
  case round =>
    obtain ⟨r, m, k, hk, HF, hm, hr, rfl, rfl, rfl, HW⟩ := hrel
    rename World => W0
    by_cases hk2 : k < 2
    · have hk2' : (k : Int) < 2 := by omega
      by_cases h0 : r.size = 0
      · obtain rfl := nil_of h0
        have HX : Hid (numF s.data.toList = (m, [])) := Lib.hid (by
          rw [← HF.out, show 2 - k = (1 - k) + 1 by omega]; rfl)
        clear h0
        go_wp2
        go_ret2
        exact ⟨numSaid_of HX.out rfl, HW.out⟩
      · have h1 : 0 < r.size := by omega
        have hze := ne_empty h1
        have hcb := byte_bd9 r[0]
        have HC := Lib.hid (cons_of r h1)
        have hx := ext1_size r h1
        by_cases hd : isDig r[0] = true
        · have hd2 := (isDig_iff _).1 hd
          have HX : Hid (numN (2 - (k + 1)) (m * 10 + (r[0].toNat - 48)) (r.extract 1 r.size).data.toList = numF s.data.toList) := Lib.hid (by
            rw [← HF.out, HC.out, show 2 - k = (2 - (k + 1)) + 1 by omega, numN, if_pos hd])
          have g1 : ¬ (r[0].toNat : Int) < 48 := by omega
          have g2 : ¬ (57 : Int) < (r[0].toNat : Int) := by omega
          clear h0
          go_upto_region 4 with fail
          have q1 : IntKind.u8.wrap ((r[0].toNat : Int) - 48) = (r[0].toNat : Int) - 48 := IntWalk.u8_in _ (by omega)
          go_quiet (fail)
          go_wp2
          go_roundw
          case rel => exact ⟨r.extract 1 r.size, m * 10 + (r[0].toNat - 48), k + 1, by omega, HX, by omega, by omega, rfl, (by congr 1; omega), by go_num, Lib.hid (by obtain ⟨n, hn⟩ := HW.out; exact ⟨n + nq, by rw [hn]; simp⟩)⟩
          case measure => simp [intOf]; omega
        · have HX : Hid (numF s.data.toList = (m, r.data.toList)) := Lib.hid (by
            rw [← HF.out, HC.out, show 2 - k = (1 - k) + 1 by omega, numN, if_neg hd])
          rw [isDig_iff] at hd
          by_cases g1 : (r[0].toNat : Int) < 48
          · clear h0 hd
            go_wp2
            go_ret2
            exact ⟨numSaid_of HX.out rfl, HW.out⟩
          · have g2 : (57 : Int) < (r[0].toNat : Int) := by omega
            clear h0 hd
            go_wp2
            go_ret2
            exact ⟨numSaid_of HX.out rfl, HW.out⟩
    · have hk2' : ¬ (k : Int) < 2 := by omega
      have HX : Hid (numF s.data.toList = (m, r.data.toList)) := Lib.hid (by
        rw [← HF.out, show 2 - k = 0 by omega]; rfl)
      go_wp2
      go_ret2
      exact ⟨numSaid_of HX.out rfl, HW.out⟩

/-- What the flags make of a part. -/
def flagsPc (p : Pc) (l : List UInt8) : Pc := { p with minus := p.minus || l.contains 45, zero := p.zero || l.contains 48, plus := p.plus || l.contains 43 }
/-- The cells of a part. -/
def pcC (p : Pc) : List Value := [.string (bq p.text), .int .u8 (p.verb : Int), .bool p.minus, .bool p.zero, .bool p.plus, .int .i64 (p.width : Int), .int .i64 p.places]
abbrev PcAt (b : Nat) (p : Pc) (w : World) : Prop := Blk 31 b (pcC p).toArray w
theorem tw_at {P : UInt8 → Bool} : ∀ (l : List UInt8) (k : Nat), (∀ c ∈ l.take k, P c = true) → ∀ (h : k < l.length), P l[k] = false → l.takeWhile P = l.take k ∧ l.dropWhile P = l.drop k
  | [], k, _, h, _ => absurd h (by simp)
  | c :: l, 0, _, _, hn => by
    have : P c = false := hn
    simp [List.takeWhile, List.dropWhile, this]
  | c :: l, k + 1, ha, h, hn => by
    have hc : P c = true := ha c (by simp)
    obtain ⟨h1, h2⟩ := tw_at l k (fun d hd => ha d (by simp [hd])) (by simpa using h) (by simpa using hn)
    simp [List.takeWhile, List.dropWhile, hc, h1, h2]
theorem tw_all {P : UInt8 → Bool} : ∀ (l : List UInt8), (∀ c ∈ l, P c = true) → l.takeWhile P = l ∧ l.dropWhile P = []
  | [], _ => ⟨rfl, rfl⟩
  | c :: l, ha => by
    have hc : P c = true := ha c (by simp)
    obtain ⟨h1, h2⟩ := tw_all l (fun d hd => ha d (by simp [hd]))
    simp [List.takeWhile, List.dropWhile, hc, h1, h2]
theorem flags_nil (p : Pc) : flagsPc p [] = p := by simp [flagsPc]
theorem flags_step (p : Pc) (l : List UInt8) (k : Nat) (h : k < l.length) : flagsPc p (l.take (k + 1)) = flagsPc (flagsPc p (l.take k)) [l[k]] := by
  rw [List.take_succ_eq_append_getElem h]
  generalize l.take k = a
  generalize l[k] = c
  simp [flagsPc, Bool.or_assoc]
theorem flags_45 (p : Pc) (c : UInt8) (h : c.toNat = 45) : (pcC (flagsPc p [c])).toArray = (pcC p).toArray.setIfInBounds 2 (.bool true) := by
  obtain rfl : c = 45 := UInt8.toNat_inj.1 h
  simp [flagsPc, pcC]
theorem flags_48 (p : Pc) (c : UInt8) (h : c.toNat = 48) : (pcC (flagsPc p [c])).toArray = (pcC p).toArray.setIfInBounds 3 (.bool true) := by
  obtain rfl : c = 48 := UInt8.toNat_inj.1 h
  simp [flagsPc, pcC]
theorem flags_43 (p : Pc) (c : UInt8) (h : c.toNat = 43) : (pcC (flagsPc p [c])).toArray = (pcC p).toArray.setIfInBounds 4 (.bool true) := by
  obtain rfl : c = 43 := UInt8.toNat_inj.1 h
  simp [flagsPc, pcC]
theorem isFlag_iff (c : UInt8) : isFlag c = true ↔ c.toNat = 45 ∨ c.toNat = 48 ∨ c.toNat = 43 := by
  unfold isFlag
  simp only [Bool.or_eq_true, beq_iff_eq]
  constructor
  · rintro ((rfl | rfl) | rfl)
    · exact .inl rfl
    · exact .inr (.inl rfl)
    · exact .inr (.inr rfl)
  · rintro (h | h | h)
    · exact .inl (.inl (UInt8.toNat_inj.1 h))
    · exact .inl (.inr (UInt8.toNat_inj.1 h))
    · exact .inr (UInt8.toNat_inj.1 h)
theorem all_snoc {P : UInt8 → Bool} {l : List UInt8} {k : Nat} (h : ∀ c ∈ l.take k, P c = true) (hk : k < l.length) (hc : P l[k] = true) : ∀ c ∈ l.take (k + 1), P c = true := by
  intro c hm
  rw [List.take_succ_eq_append_getElem hk] at hm
  rcases List.mem_append.1 hm with h1 | h1
  · exact h c h1
  · simp at h1; rw [h1]; exact hc
/-- What stands when the flags have been read up to an index. -/
def FlS (b : Nat) (p : Pc) (l : List UInt8) (w : World) (k : Nat) (wr : World) : Prop := (∀ c ∈ l.take k, isFlag c = true) ∧ PcAt b (flagsPc p (l.take k)) wr ∧ Ch [b] w wr
theorem FlS.next {b : Nat} {p : Pc} {l : List UInt8} {w : World} {k : Nat} {wr : World} (h : FlS b p l w k wr) (hk : k < l.length) (i : Nat) (hc : isFlag l[k] = true) (he : (pcC (flagsPc (flagsPc p (l.take k)) [l[k]])).toArray = (pcC (flagsPc p (l.take k))).toArray.setIfInBounds i (.bool true)) :
    FlS b p l w (k + 1) (wr.setCell ⟨b, i, none⟩ (.bool true)) := by
  refine ⟨all_snoc h.1 hk hc, ?_, h.2.2.set _ _ _ (.inl (by simp))⟩
  rw [flags_step p l k hk]
  unfold PcAt
  rw [he]
  exact h.2.1.set _ _
def FlagsSaid (b : Nat) (p : Pc) (l : List UInt8) (w : World) (e : Ending) (w' : World) : Prop := e = .returned (.string (bq (l.dropWhile isFlag))) ∧ PcAt b (flagsPc p (l.takeWhile isFlag)) w' ∧ Ch [b] w w'
set_option maxHeartbeats 4000000 in
theorem flags_any (s : ByteArray) (b : Nat) (p : Pc) (w : World) (hs : s.size ≤ 100000000) (hp : PcAt b p w) :
    Calls Tryz.prog 51 #[.pointer (some ⟨b, 0, none⟩), .string s] w fun e w' => FlagsSaid b p s.data.toList w e w' := by
  have hll : s.data.toList.length = s.size := by simp
  have HP := Lib.hid hp
  have HS := Lib.hid hll
  clear hp hll
  go_enter Tryz.func51, Tryz.ntmps51
  go_wp2
  go_loopw [8] (fun v8 wr => ∃ k : Nat, k ≤ s.size ∧ v8 = .int .i64 (k : Int) ∧ Hid (FlS b p s.data.toList w k wr)) (fun v8 _ => s.size - (intOf v8).toNat)
  case atStart => exact ⟨0, Nat.zero_le _, rfl, Lib.hid ⟨by simp, by simpa [flags_nil] using HP.out, Ch.refl _ _⟩⟩
  case round =>
    obtain ⟨k, hk, rfl, HF⟩ := hrel
    rename World => W0
    by_cases hlt : k < s.size
    · have hlt' : (k : Int) < (s.size : Int) := by omega
      have hcb := byte_bd9 s[k]
      have hkl : k < s.data.toList.length := by have := HS.out; omega
      have hx : s.data.toList[k] = s[k] := rfl
      have f2 := HF.out.2.1.fz 2
      have f3 := HF.out.2.1.fz 3
      have f4 := HF.out.2.1.fz 4
      have c2 : W0.cell? ⟨b, 2, none⟩ = some (.bool (flagsPc p (s.data.toList.take k)).minus) := HF.out.2.1.cell 2
      have c3 : W0.cell? ⟨b, 3, none⟩ = some (.bool (flagsPc p (s.data.toList.take k)).zero) := HF.out.2.1.cell 3
      have c4 : W0.cell? ⟨b, 4, none⟩ = some (.bool (flagsPc p (s.data.toList.take k)).plus) := HF.out.2.1.cell 4
      have HN := Lib.hid (HF.out.next hkl)
      have HX := Lib.hid hx
      clear hx
      by_cases h45 : s[k].toNat = 45
      · have e1 : ((s[k].toNat : Int) == 45) = true := by simp; omega
        have HG := Lib.hid (HN.out 2 (by rw [HX.out, isFlag_iff]; exact .inl h45) (flags_45 _ _ (by rw [HX.out]; exact h45)))
        clear h45
        go_wp2
        go_roundw
        case rel => exact ⟨k + 1, by omega, by go_num, HG⟩
        case measure => simp [intOf]; omega
      have e1 : ((s[k].toNat : Int) == 45) = false := by simp; omega
      by_cases h48 : s[k].toNat = 48
      · have e2 : ((s[k].toNat : Int) == 48) = true := by simp; omega
        have HG := Lib.hid (HN.out 3 (by rw [HX.out, isFlag_iff]; exact .inr (.inl h48)) (flags_48 _ _ (by rw [HX.out]; exact h48)))
        clear h48 h45
        go_wp2
        go_roundw
        case rel => exact ⟨k + 1, by omega, by go_num, HG⟩
        case measure => simp [intOf]; omega
      have e2 : ((s[k].toNat : Int) == 48) = false := by simp; omega
      by_cases h43 : s[k].toNat = 43
      · have e3 : ((s[k].toNat : Int) == 43) = true := by simp; omega
        have HG := Lib.hid (HN.out 4 (by rw [HX.out, isFlag_iff]; exact .inr (.inr h43)) (flags_43 _ _ (by rw [HX.out]; exact h43)))
        clear h43 h48 h45
        go_wp2
        go_roundw
        case rel => exact ⟨k + 1, by omega, by go_num, HG⟩
        case measure => simp [intOf]; omega
      have e3 : ((s[k].toNat : Int) == 43) = false := by simp; omega
      have hno : isFlag s.data.toList[k] = false := by
        rw [HX.out, Bool.eq_false_iff, ne_eq, isFlag_iff]; omega
      have HT := Lib.hid (tw_at s.data.toList k HF.out.1 hkl hno)
      have hB := bq_drop s k
      clear hno h43 h48 h45
      go_wp2
      go_ret
      exact ⟨by rw [HT.out.2]; rfl, by rw [HT.out.1]; exact HF.out.2.1, HF.out.2.2⟩
    · have hlt' : ¬ (k : Int) < (s.size : Int) := by omega
      have HT : Hid (s.data.toList.takeWhile isFlag = s.data.toList.take k ∧ s.data.toList.dropWhile isFlag = []) := Lib.hid (by
        have e : s.data.toList.take k = s.data.toList := List.take_of_length_le (by rw [HS.out]; omega)
        have h1 := HF.out.1
        rw [e] at h1 ⊢
        exact tw_all _ h1)
      go_wp2
      go_ret
      exact ⟨by rw [HT.out.2]; rfl, by rw [HT.out.1]; exact HF.out.2.1, HF.out.2.2⟩
end Go.Proofs.YtbdcmnhfmkefdaaGreatDoor
