/- Layer 20: what Check says of the six actions of ProtocolValid. -/
import Derived.Test.YtdgdpckjcpgoaaaPrP
import Derived.Test.YtdgdpckjcpgoaaaPrN
namespace Go.Proofs.Ytdgdpckjcpgoaaa
open Go.RowKit Go.Joins M1
set_option linter.unusedVariables false
theorem chk_of {a : Act} (h1 : formB a = true) (h2 : a.l.length ≤ 200) (h3 : a.kp.length ≤ 32) (h4 : okV a.f = true) (h5 : a.l.all okV = true) (h6 : a.kp.all okV = true) (h7 : a.s.size ≤ 65536) : checkE a = 0 := by
  unfold checkE
  rw [if_neg (by rw [h1]; decide), if_neg (by omega), if_neg (by omega), if_neg (by rw [h4]; decide), if_neg (by rw [h5]; decide), if_neg (by rw [h6]; decide), if_neg (by omega)]
theorem chk_all {a : Act} (h : checkE a = 0) : a.l.all okV = true := by
  unfold checkE at h
  split at h; · simp at h
  split at h; · simp at h
  split at h; · simp at h
  split at h; · simp at h
  split at h; · simp at h
  rename_i h5
  simpa using h5
theorem okV_z : okV v5z = true := by decide +kernel
theorem chk_fail (y : V5) (lv : Int) (h : 0 ≤ lv ∧ lv ≤ 255) (hy : okV y = true) : checkE (failA y lv) = 0 :=
  chk_of (by simp [formB, inK, clrA, zA, failA, h]) (by simp [failA]) (by simp [failA]) okV_z (by simp [failA, hy]) rfl (by simp [failA]; decide)
theorem chk_err : checkE (errA ⟨#[120]⟩) = 0 := by kernel_rfl
theorem chk_call (k : Int) (hk : k = 3 ∨ k = 4) (x : V5) (l : List V5) (nx : Int) (h : 0 ≤ nx ∧ nx ≤ 255) (hx : okV x = true) (hl : l.all okV = true) (hn : l.length ≤ 32) : checkE (callA k x l nx l) = 0 :=
  chk_of (by rcases hk with rfl | rfl <;> simp [formB, inK, clrA, zA, callA, h]) (by simp [callA]; omega) hn hx hl hl (by simp [callA]; decide)
theorem chk_yld (l : List V5) (nx : Int) (h : 0 ≤ nx ∧ nx ≤ 255) (hl : l.all okV = true) (hn : l.length ≤ 32) : checkE (yldA l nx l) = 0 :=
  chk_of (by simp [formB, inK, clrA, zA, yldA, h]) (by simp [yldA]; omega) hn okV_z hl hl (by simp [yldA]; decide)
end Go.Proofs.Ytdgdpckjcpgoaaa
