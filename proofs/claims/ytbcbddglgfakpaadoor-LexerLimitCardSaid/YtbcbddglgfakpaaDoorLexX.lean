/- Contracts of layer 3: two hexadecimal digits are read. -/
import Derived.Test.YtbcbddglgfakpaaDoorProg
import Derived.Test.YtbcbddglgfakpaaDoorShelfPu
import Derived.Test.YtbcbddglgfakpaaDoorLexW
import Derived.Shelf.Pu.ToError
import Derived.Lib.ConvBytes
import Derived.Lib.ParseIntBMem
import Derived.Laws.Strings3
import Derived.Laws.Closers25
import Derived.Laws.Closers25b
import Derived.BigCall
import Derived.BigGuard
namespace Go.Proofs.YtbcbddglgfakpaaDoor.M3
/-- The value of a hexadecimal digit. -/
def hxv (c : UInt8) : Option Nat :=
  if 48 ≤ c.toNat ∧ c.toNat ≤ 57 then some (c.toNat - 48) else if 97 ≤ c.toNat ∧ c.toNat ≤ 102 then some (c.toNat - 87) else if 65 ≤ c.toNat ∧ c.toNat ≤ 70 then some (c.toNat - 55) else none
def pH : Nat → List UInt8 → Option Nat
  | acc, [] => some acc
  | acc, c :: t => match hxv c with
    | some d => pH (acc * 16 + d) t
    | none => none
theorem pH_some {acc : Nat} {c : UInt8} {t : List UInt8} {d : Nat} (h : hxv c = some d) : pH acc (c :: t) = pH (acc * 16 + d) t := by rw [pH, h]
theorem pH_none {acc : Nat} {c : UInt8} {t : List UInt8} (h : hxv c = none) : pH acc (c :: t) = none := by rw [pH, h]
theorem hxv_lt {c : UInt8} {d : Nat} (h : hxv c = some d) : d < 16 := by
  unfold hxv at h
  split at h
  · injection h; omega
  · split at h
    · injection h; omega
    · split at h
      · injection h; omega
      · cases h
end Go.Proofs.YtbcbddglgfakpaaDoor.M3
namespace Go.Proofs.YtbcbddglgfakpaaDoor
open Go.RowKit M3
set_option linter.unusedVariables false
def lowB (n : Nat) : Bool :=
  if 48 ≤ n ∧ n ≤ 57 then true
  else if 97 ≤ n ∧ n ≤ 102 then bits .or .u8 (n : Int) 32 == (n : Int)
  else if 65 ≤ n ∧ n ≤ 70 then bits .or .u8 (n : Int) 32 == (n : Int) + 32
  else decide (bits .or .u8 (n : Int) 32 < 97) || decide (103 ≤ bits .or .u8 (n : Int) 32)
theorem low_all : (List.range 256).all lowB = true := by kernel_rfl
theorem low_of (c : UInt8) : lowB c.toNat = true := List.all_eq_true.1 low_all c.toNat (List.mem_range.2 c.toNat_lt)
theorem low_any (c : Int) (w : World) : Calls Tryd.prog 83 #[.int .u8 c] w fun e w' => e = .returned (.int .u8 (bits .or .u8 c 32)) ∧ w' = w :=
  AnyPu.internal_strconv_lower { Tryd.laysPu14 with } c w
def puT (o : Option Nat) : Value := match o with
  | some u => .tuple #[.int .u64 (u : Int), .nilIface]
  | none => .tuple #[.int .u64 0, .iface 99 (.int .i64 2)]

set_option maxHeartbeats 16000000 in
set_option maxRecDepth 100000 in
theorem ipu16 (t : ByteArray) (ht : t.size = 2) (w : World) :
    Calls Tryd.prog 79 #[.string t, .int .i64 16, .int .i64 8] w fun e w' => e = .returned (puT (pH 0 t.data.toList)) ∧ w' = Lib.bytesWorld w 5 t := by
  have hemp : t.toList.isEmpty = false := by
    rw [← decide_eq_emptyBytes]
    exact decide_eq_false (fun h => by rw [h] at ht; cases ht)
  have hcv := Lib.run_convert_string_bytes (P := Tryd.prog) w 9 42 5 t (u := .string) Tryd.underlying9 Tryd.underlying42 Tryd.underlying5
  have hB : ∀ j, j < t.size → (Lib.bytesWorld w 5 t).cell? ⟨w.heap.size, j, none⟩ = some (.int .u8 (t.data.toList.getD j 0).toNat) := fun j hj => Lib.bytesWorld_cell w 5 t j hj
  obtain ⟨W1, hW1⟩ : ∃ W1, W1 = Lib.bytesWorld w 5 t := ⟨_, rfl⟩
  rw [← hW1] at hcv hB ⊢
  clear hW1
  obtain ⟨bs, hL⟩ : ∃ bs, bs = t.data.toList := ⟨_, rfl⟩
  have hLn : bs.length = t.size := by rw [hL]; simp
  rw [← hL] at hB ⊢
  clear hL
  have hmv : IntKind.u64.wrap (IntKind.u64.wrap 256 - 1) = 255 := by
    rw [IntKind.wrap_u64, IntKind.wrap_u64]
    decide
  have hts : (t.size : Int) = 2 := by omega
  have LW := fun c w => low_any c w
  go_enter Tryd.func79, Tryd.ntmps79
  go_wp2
  go_loop [12, 13, 101] (fun vu vn vi => ∃ (k acc : Nat) (a : Int), vu = .bool false ∧ vn = .int .u64 a ∧ vi = .int .i64 k ∧ k ≤ 2 ∧ Hid (a = (acc : Int) ∧ acc + 1 ≤ 16 ^ k ∧ pH 0 bs = pH acc (bs.drop k)))
    (fun _ _ vi => 2 - (intOf vi).toNat)
  case atStart => exact ⟨0, 0, 0, rfl, rfl, rfl, by omega, rfl, by decide, rfl⟩
  case round =>
    obtain ⟨k, acc, a, rfl, rfl, rfl, hk, hh⟩ := hrel
    obtain ⟨ha, hacc, hdec⟩ := hh.out
    clear hh
    by_cases hkn : k < 2
    · have hacc2 : acc + 1 ≤ 16 := by
        match k, hkn with
        | 0, _ => simp at hacc; omega
        | 1, _ => simp at hacc; omega
      have a0 : 0 ≤ a := by omega
      have a1 : a ≤ 15 := by omega
      have hc := hB k (by omega)
      have hdrop : bs.drop k = bs[k]'(by omega) :: bs.drop (k + 1) := List.drop_eq_getElem_cons (by omega)
      have hget : bs.getD k 0 = bs[k]'(by omega) := by simp [List.getD, List.getElem?_eq_getElem (show k < bs.length by omega)]
      rw [hdrop] at hdec
      rw [hget] at hc
      have hpow : ∀ d, d < 16 → acc * 16 + d + 1 ≤ 16 ^ (k + 1) := fun d hd => by rw [Nat.pow_succ]; omega
      generalize bs[k]'(by omega) = c at hc hdec
      have hc256 : c.toNat < 256 := c.toNat_lt
      have hlow := low_of c
      have HL := Lib.hid (LW (c.toNat : Int))
      clear hB hdrop hget
      obtain ⟨r95, h95⟩ : ∃ r, ((c.toNat : Int) == 95) = r := ⟨_, rfl⟩
      by_cases hdig : 48 ≤ c.toNat ∧ c.toNat ≤ 57
      · obtain ⟨hd0, hd1⟩ := hdig
        have h95' : r95 = false := by rw [← h95, beq_eq_false_iff_ne]; omega
        subst h95'
        rw [pH_some (show hxv c = some (c.toNat - 48) by unfold hxv; rw [if_pos ⟨hd0, hd1⟩])] at hdec
        have HN : Hid (a * 16 + ((c.toNat : Int) - 48) = ((acc * 16 + (c.toNat - 48) : Nat) : Int) ∧ acc * 16 + (c.toNat - 48) + 1 ≤ 16 ^ (k + 1) ∧ pH 0 bs = pH (acc * 16 + (c.toNat - 48)) (bs.drop (k + 1))) := Lib.hid ⟨by omega, hpow _ (by omega), hdec⟩
        clear hacc hdec ha hlow hpow LW hacc2
        go_wp2
        refine ⟨⟨k + 1, acc * 16 + (c.toNat - 48), a * 16 + ((c.toNat : Int) - 48), rfl, (by first | rfl | (congr 1; omega)), (by first | rfl | (congr 1; omega)), by omega, HN⟩, by simp [intOf]; omega⟩
      · have hnd : c.toNat < 48 ∨ 57 < c.toNat := by omega
        unfold lowB at hlow
        rw [if_neg hdig] at hlow
        cases hx : hxv c with
        | some d =>
          have hlt := hxv_lt hx
          have hv : bits .or .u8 (c.toNat : Int) 32 = (d : Int) + 87 := by
            unfold hxv at hx
            rw [if_neg hdig] at hx
            by_cases h1 : 97 ≤ c.toNat ∧ c.toNat ≤ 102
            · rw [if_pos h1] at hx hlow; injection hx with hx; rw [beq_iff_eq.1 hlow]; omega
            · rw [if_neg h1] at hx hlow
              by_cases h2 : 65 ≤ c.toNat ∧ c.toNat ≤ 70
              · rw [if_pos h2] at hx hlow; injection hx with hx; rw [beq_iff_eq.1 hlow]; omega
              · rw [if_neg h2] at hx; cases hx
          have h10 : 10 ≤ d := by
            unfold hxv at hx
            rw [if_neg hdig] at hx
            by_cases h1 : 97 ≤ c.toNat ∧ c.toNat ≤ 102
            · rw [if_pos h1] at hx; injection hx with hx; omega
            · rw [if_neg h1] at hx
              by_cases h2 : 65 ≤ c.toNat ∧ c.toNat ≤ 70
              · rw [if_pos h2] at hx; injection hx with hx; omega
              · rw [if_neg h2] at hx; cases hx
          have h95' : r95 = false := by
            rw [← h95, beq_eq_false_iff_ne]; intro h
            have : c = 95 := UInt8.toNat_inj.1 (by show c.toNat = 95; omega)
            rw [this, show hxv 95 = none by decide] at hx; cases hx
          subst h95'
          rw [pH_some hx] at hdec
          have HN : Hid (a * 16 + (d : Int) = ((acc * 16 + d : Nat) : Int) ∧ acc * 16 + d + 1 ≤ 16 ^ (k + 1) ∧ pH 0 bs = pH (acc * 16 + d) (bs.drop (k + 1))) := Lib.hid ⟨by omega, hpow _ hlt, hdec⟩
          rw [hv] at HL
          have hnd1 : ¬ 48 ≤ c.toNat ∨ ¬ c.toNat ≤ 57 := by omega
          clear hacc hdec ha hlow hpow LW hacc2 hv hx hnd
          rcases hnd1 with hnd1 | hnd1
          all_goals (
            go_wp2_with (go_at_call 83; (with_reducible refine (HL.out _).mono ?_); rintro e w3 ⟨rfl, rfl⟩)
            refine ⟨⟨k + 1, acc * 16 + d, a * 16 + (d : Int), rfl, (by first | rfl | (congr 1; omega)), (by first | rfl | (congr 1; omega)), by omega, HN⟩, by simp [intOf]; omega⟩)
        | none =>
          have hv : bits .or .u8 (c.toNat : Int) 32 < 97 ∨ 103 ≤ bits .or .u8 (c.toNat : Int) 32 := by
            unfold hxv at hx
            rw [if_neg hdig] at hx
            by_cases h1 : 97 ≤ c.toNat ∧ c.toNat ≤ 102
            · rw [if_pos h1] at hx; cases hx
            · rw [if_neg h1] at hx hlow
              by_cases h2 : 65 ≤ c.toNat ∧ c.toNat ≤ 70
              · rw [if_pos h2] at hx; cases hx
              · rw [if_neg h2] at hlow
                rcases Bool.or_eq_true_iff.1 hlow with h | h
                · exact .inl (of_decide_eq_true h)
                · exact .inr (of_decide_eq_true h)
          have hv0 := bits_lo_u8 .or (c.toNat : Int) 32
          have hv1 := bits_hi_u8 .or (c.toNat : Int) 32
          rw [pH_none hx] at hdec
          clear hacc ha hlow hpow LW hacc2 hx
          generalize bits .or .u8 (c.toNat : Int) 32 = v at *
          have hnd1 : ¬ 48 ≤ c.toNat ∨ ¬ c.toNat ≤ 57 := by omega
          clear hnd
          have hv2 : ¬ 97 ≤ v ∨ (97 ≤ v ∧ ¬ v ≤ 122) ∨ (97 ≤ v ∧ v ≤ 122 ∧ 103 ≤ v) := by omega
          clear hv
          cases r95
          all_goals (
            rcases hnd1 with hnd1 | hnd1
            all_goals (
              rcases hv2 with g1 | ⟨g1, g2⟩ | ⟨g1, g2, g3⟩
              all_goals (
                go_wp2_with (go_at_call 83; (with_reducible refine (HL.out _).mono ?_); rintro e w3 ⟨rfl, rfl⟩)
                go_ret2
                first | exact ⟨rfl, rfl⟩ | exact ⟨by rw [hdec]; rfl, rfl⟩)))
    · have hkk : k = 2 := by omega
      subst hkk
      have hF : pH acc (bs.drop 2) = some acc := by rw [List.drop_eq_nil_of_le (by omega)]; rfl
      rw [hF] at hdec
      subst ha
      clear hacc hF hB
      go_wp2
      go_ret2
      first | exact ⟨rfl, rfl⟩ | exact ⟨by rw [hdec]; rfl, rfl⟩
end Go.Proofs.YtbcbddglgfakpaaDoor
