/- Contracts of layer 4: All, with its errors. -/
import Derived.Test.YtkbcaklleiapdaaDoorPatAe
import Derived.Test.YtkbcaklleiapdaaDoorPatAf
import Derived.Test.YtkbcaklleiapdaaDoorPatAh
namespace Go.Proofs.YtkbcaklleiapdaaDoor
open Go.RowKit M4
set_option linter.unusedVariables false
set_option maxHeartbeats 4000000 in
theorem all_err (s p : ByteArray) (w : World) (hp : p.size ≤ 1000000) (c : Nat) (hc : 0 < c) (hr : readF p.data.toList = .error c) :
    Calls Tryd.prog 21 #[.string s, .string p] w fun e w' => e = .returned (.tuple #[.slice none 0 0, .int .i64 (c : Int)]) ∧ Below w.heap.size w w' := by
  have HBG := Lib.hid (begin_err s p w hp c hc hr)
  have y1 : ((c : Int) != 0) = true := by rw [bne_iff_ne]; omega
  have y2 : (c : Int) ≠ 0 := by omega
  clear hr
  go_enter Tryd.func21, Tryd.ntmps21
  go_wp2_with (go_at_call 39; (with_reducible refine HBG.out.mono ?_); rintro e w2 ⟨rfl, hb⟩; have HB := Lib.hid hb; clear hb)
  go_ret2
  exact ⟨rfl, HB.out⟩
theorem all_ok (s p : ByteArray) (w : World) (hp : p.size ≤ 1000000) (hs : s.size ≤ 1000000) (g : Pg) (hr : readF p.data.toList = .ok g) :
    Calls Tryd.prog 21 #[.string s, .string p] w fun e w' => AllSaid (alln s.data.toList g 0 none 100000) g.caps w.heap.size e w' ∧ Below w.heap.size w w' := by
  have hG : ∀ E : Env, E.s = s → E.g = g → Good E := fun E h1 h2 => good_of (by rw [h1]; exact hs) hp hr h2
  cases h : g.start with
  | true => exact all_true s p w hp hs g hr hG h
  | false => exact all_false s p w hp hs g hr hG h
theorem at_fn (s p : ByteArray) (i : Nat) (w : World) (hp : p.size ≤ 1000000) (hs : s.size ≤ 1000000) (g : Pg) (hr : readF p.data.toList = .ok g) (hi : i ≤ s.size) :
    Calls Tryd.prog 17 #[.string s, .string p, .int .i64 (i : Int)] w fun e w' => FirstSaid (firstM s.data.toList g 1 i 100000) g.caps w.heap.size e w' ∧ Below w.heap.size w w' :=
  atf_ok s p i 1 w hp hs g hr (fun E h1 h2 => good_of (by rw [h1]; exact hs) hp hr h2) hi rfl
theorem find_fn (s p : ByteArray) (i : Nat) (w : World) (hp : p.size ≤ 1000000) (hs : s.size ≤ 1000000) (g : Pg) (hr : readF p.data.toList = .ok g) (hi : i ≤ s.size) :
    Calls Tryd.prog 20 #[.string s, .string p, .int .i64 (i : Int)] w fun e w' => FirstSaid (firstM s.data.toList g (if g.start = true then 1 else s.size + 1 - i) i 100000) g.caps w.heap.size e w' ∧ Below w.heap.size w w' :=
  find_ok s p i _ w hp hs g hr (fun E h1 h2 => good_of (by rw [h1]; exact hs) hp hr h2) hi rfl
end Go.Proofs.YtkbcaklleiapdaaDoor
