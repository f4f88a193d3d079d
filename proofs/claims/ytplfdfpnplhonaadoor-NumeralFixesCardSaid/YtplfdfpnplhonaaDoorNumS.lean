/- Contracts of layer 2: digits plus one, and whether all are zeros. -/
import Derived.Test.YtplfdfpnplhonaaDoorNumZ
namespace Go.Proofs.YtplfdfpnplhonaaDoor
open Go.RowKit Go.Sort M1 M2
set_option linter.unusedVariables false
theorem own_set {base g cap : Nat} {w : World} {l m : List UInt8} (h : OwnB base w g cap l) (j : Nat) (x : UInt8) (u : Value) (hu : u = .int .u8 (x.toNat : Int)) (hm : l.set j x = m) : OwnB base (w.setCell ⟨g, j, none⟩ u) g cap m := by
  subst hm
  have h2 := (World.ownsRow.stored h j u).1
  unfold OwnB
  rw [List.length_set, List.map_set, hu] at *
  exact h2
theorem set_mid (b z : List UInt8) (c x : UInt8) : (b ++ [c] ++ z).set b.length x = b ++ [x] ++ z := by
  simp
set_option maxHeartbeats 1000000 in
theorem inc_any (base g cap : Nat) (l : List UInt8) (w : World) (hO : OwnB base w g cap l) (hl : l.length ≤ 100) :
    Calls Tryd.prog 40 #[.slice (some ⟨g, 0, none⟩) l.length cap] w fun e w' => e = .returned (.tuple #[.slice (some ⟨g, 0, none⟩) l.length cap, .bool (inc l).2]) ∧ OwnB base w' g cap (inc l).1 ∧ RowKit.Below base w w' := by
  have hg := own_lt hO
  go_enter Tryd.func40, Tryd.ntmps40
  go_wp2
  go_loopw [4] (fun vi wr => ∃ (i : Int) (a : List UInt8) (n : Nat), vi = .int .i64 i ∧ i = (a.length : Int) - 1 ∧ a.length + n = l.length ∧ Hid (OwnB base wr g cap (a ++ List.replicate n 48)) ∧ Hid (inc l = ((inc a).1 ++ List.replicate n 48, (inc a).2)) ∧ Hid (RowKit.Below base w wr)) (fun vi _ => (intOf vi + 1).toNat)
  case atStart => exact ⟨(l.length : Int) - 1, l, 0, rfl, rfl, rfl, Lib.hid (by simpa using hO), Lib.hid (by simp), Lib.hid (RowKit.Below.refl _ _)⟩
  case round =>
    obtain ⟨i, a, n, rfl, hi, hn, HO, HI, HB⟩ := hrel
    rename World => W0
    rcases List.eq_nil_or_concat a with ha | ⟨b, c, ha⟩
    · subst ha
      have hi1 : i = -1 := by simpa using hi
      subst hi1
      have HR : Hid (Ending.returned (.tuple #[.slice (some ⟨g, 0, none⟩) l.length cap, .bool true]) = .returned (.tuple #[.slice (some ⟨g, 0, none⟩) l.length cap, .bool (inc l).2])) := Lib.hid (by rw [HI.out]; rfl)
      have HX : Hid (OwnB base W0 g cap (inc l).1) := Lib.hid (by rw [HI.out]; exact HO.out)
      clear hi hn
      go_wp2
      go_ret2
      exact ⟨HR.out, HX.out, HB.out⟩
    · rw [List.concat_eq_append] at ha
      subst ha
      have hib : i = (b.length : Int) := by rw [hi, List.length_append]; simp
      subst hib
      have hbl : b.length < l.length := by rw [← hn, List.length_append]; simp <;> omega
      have hcj := own_cell HO.out b.length (by simp)
      have hfj := own_frozen HO.out b.length
      rw [show (b ++ [c] ++ List.replicate n 48)[b.length]'(by simp) = c by simp] at hcj
      have hcb := byte_bd c
      have hn2 : b.length + (n + 1) = l.length := by rw [← hn, List.length_append]; simp <;> omega
      clear hi hn
      by_cases h57 : c.toNat < 57
      · have h57' : (c.toNat : Int) < 57 := by omega
        have hu : (UInt8.ofNat (c.toNat + 1)).toNat = c.toNat + 1 := by simp <;> omega
        have HW : Hid (OwnB base (W0.setCell ⟨g, b.length, none⟩ (.int .u8 ((c.toNat : Int) + 1))) g cap (inc l).1) := Lib.hid (by
          rw [HI.out, inc_lo h57]
          exact own_set HO.out _ (UInt8.ofNat (c.toNat + 1)) _ (by rw [hu]; push_cast; rfl) (set_mid _ _ _ _))
        have HB2 : Hid (RowKit.Below base w (W0.setCell ⟨g, b.length, none⟩ (.int .u8 ((c.toNat : Int) + 1)))) := Lib.hid (HB.out.setCell hg.1 _)
        have HR : Hid (Ending.returned (.tuple #[.slice (some ⟨g, 0, none⟩) l.length cap, .bool false]) = .returned (.tuple #[.slice (some ⟨g, 0, none⟩) l.length cap, .bool (inc l).2])) := Lib.hid (by rw [HI.out, inc_lo h57])
        clear hu
        go_wp2
        go_ret2
        exact ⟨HR.out, HW.out, HB2.out⟩
      · have h57' : ¬ (c.toNat : Int) < 57 := by omega
        have HW : Hid (OwnB base (W0.setCell ⟨g, b.length, none⟩ (.int .u8 48)) g cap (b ++ List.replicate (n + 1) 48)) := Lib.hid
          (own_set HO.out _ 48 _ rfl (by rw [set_mid, List.append_assoc]; rfl))
        have HB2 : Hid (RowKit.Below base w (W0.setCell ⟨g, b.length, none⟩ (.int .u8 48))) := Lib.hid (HB.out.setCell hg.1 _)
        have HI2 : Hid (inc l = ((inc b).1 ++ List.replicate (n + 1) 48, (inc b).2)) := Lib.hid (by rw [HI.out, inc_hi h57, List.append_assoc]; rfl)
        go_wp2
        go_roundw
        case rel => exact ⟨(b.length : Int) - 1, b, n + 1, by go_num, rfl, hn2, HW, HI2, HB2⟩
        case measure => simp [intOf]
/-- Whether all are zeros. -/
def zb (l : List UInt8) : Bool := decide (∀ c ∈ l, c = 48)
theorem zeros_any (base g cap : Nat) (l : List UInt8) (w : World) (hO : OwnB base w g cap l) (hl : l.length ≤ 100) :
    Calls Tryd.prog 41 #[.slice (some ⟨g, 0, none⟩) l.length cap] w fun e w' => e = .returned (.bool (zb l)) ∧ w = w' := by
  go_enter Tryd.func41, Tryd.ntmps41
  go_wp2
  go_loop [3] (fun vi => ∃ k : Nat, k ≤ l.length ∧ vi = .int .i64 k ∧ Hid (∀ (j : Nat) (hj : j < l.length), j < k → l[j] = 48)) (fun vi => l.length - (intOf vi).toNat)
  case atStart => exact ⟨0, Nat.zero_le _, rfl, Lib.hid (fun j _ h => by omega)⟩
  case round =>
    obtain ⟨k, hk, rfl, HC⟩ := hrel
    by_cases hkl : k < l.length
    · have hcj := own_cell hO k hkl
      have hcb := byte_bd l[k]
      cases h48 : ((l[k].toNat : Int) == 48) with
      | true =>
        have h48' : ((l[k].toNat : Int) != 48) = false := by rw [bne, h48]; rfl
        have HN : Hid (∀ (j : Nat) (hj : j < l.length), j < k + 1 → l[j] = 48) := Lib.hid fun j hj hjk => by
          by_cases h : j < k
          · exact HC.out j hj h
          · obtain rfl : j = k := by omega
            exact UInt8.toNat_inj.1 (by have := beq_iff_eq.1 h48; show l[j].toNat = 48; omega)
        generalize (l[k].toNat : Int) = C at *
        go_wp2
        go_round
        case rel => exact ⟨k + 1, by omega, by go_num, HN⟩
        case measure => simp [intOf]; omega
      | false =>
        have h48' : ((l[k].toNat : Int) != 48) = true := by rw [bne, h48]; rfl
        have HR : Hid (zb l = false) := Lib.hid (decide_eq_false fun h => by
          have h1 := h l[k] (List.getElem_mem _)
          rw [h1] at h48; simp at h48)
        generalize (l[k].toNat : Int) = C at *
        go_wp2
        go_ret
        exact ⟨by rw [HR.out]; rfl, rfl⟩
    · have HR : Hid (zb l = true) := Lib.hid (decide_eq_true fun c hc => by
        obtain ⟨j, hj, rfl⟩ := List.mem_iff_getElem.1 hc
        exact HC.out j hj (by omega))
      go_wp2
      go_ret
      exact ⟨by rw [HR.out]; rfl, rfl⟩
end Go.Proofs.YtplfdfpnplhonaaDoor
