/- Layer 12: shown: both maps show the same list. -/
import Derived.Test.YthgkbjiclghfkaaOdrKs
import Derived.Test.YthgkbjiclghfkaaOdrU
namespace Go.Proofs.Ythgkbjiclghfkaa
open Go.RowKit Go.Joins M1
set_option linter.unusedVariables false
set_option maxHeartbeats 2000000 in
theorem shown_same (B b b' : Nat) (v m v' : Value) (R : List Rs) (w : World) (h1 : OmR B b v m R w) (h2 : RM B b' v' R w) (hL : R.length ≤ 1000000) :
    Calls Try.prog 13 #[.pointer (some ⟨b, 0, none⟩), .pointer (some ⟨b', 0, none⟩)] w fun e w' => e = .returned (.bool true) ∧ Below w.heap.size w w' := by
  have QL := Lib.hid (len_R B b v m R w h1)
  have QM := Lib.hid (rlen_any B b' v' R w h2 hL)
  have QS := Lib.hid (slots_R B b v m R w h1)
  have QT := Lib.hid (rslots_any B b' v' R w h2)
  have QK := Lib.hid (keys_R B b v m R w h1 hL)
  have QN : Hid (∀ W, Below w.heap.size w W → _) := Lib.hid fun W hb => rkeys_any B b' v' R W (h2.below hb) hL
  have HKL : Hid ((keysR R).length ≤ 1000000) := Lib.hid (by have := ksR_len R R.length; rw [List.take_length] at this; omega)
  clear h1 h2
  go_enter Try.func13, Try.ntmps13
  go_wp2_with (first | (go_at_call 19; (with_reducible refine (QL.out).mono ?_); rintro e wL ⟨rfl, rfl⟩) | (go_at_call 28; (with_reducible refine (QM.out).mono ?_); rintro e wM ⟨rfl, rfl⟩) | (go_at_call 21; (with_reducible refine (QS.out).mono ?_); rintro e wS ⟨rfl, rfl⟩) | (go_at_call 29; (with_reducible refine (QT.out).mono ?_); rintro e wT ⟨rfl, rfl⟩) | (go_at_call 16; (with_reducible refine (QK.out).mono ?_); rintro e w1 ⟨⟨k1, rfl, ho1⟩, hb1⟩; have HN1 := Lib.hid (QN.out w1 hb1); have HO1 := Lib.hid ho1; have HB1 := Lib.hid hb1; clear ho1 hb1) | (go_at_call 24; (with_reducible refine (HN1.out).mono ?_); rintro e w2 ⟨⟨k2, rfl, ho2⟩, hb2⟩; have HB2 := Lib.hid (HB1.out.trans (hb2.mono HB1.out.size)); have HQ := Lib.hid (keys_same w.heap.size w1.heap.size k1 k2 (keysR R) w2 ((Ch.of_below (S := []) hb2).ownB HO1.out (by simp)) ho2 HKL.out); clear ho2 hb2) | (go_at_call 23; (with_reducible refine (HQ.out).mono ?_); rintro e w3 ⟨rfl, hb3⟩))
  go_ret
  exact ⟨rfl, HB2.out.trans (hb3.mono HB2.out.size)⟩
end Go.Proofs.Ythgkbjiclghfkaa
