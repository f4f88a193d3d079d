/- Layer 20: ProtocolValid: the six actions stand in both lists, whatever is written into mine. -/
import Derived.Test.YtdgdpckjcpgoaaaPrXm
import Derived.Test.YtdgdpckjcpgoaaaPrX
namespace Go.Proofs.Ytdgdpckjcpgoaaa
open Go.RowKit Go.Joins M1
set_option linter.unusedVariables false
def AR (W : World) (m i : Nat) (a : Act) (vl vk : Value) : Prop :=
  W.cell? ⟨m, i * 12, none⟩ = some (.int .i64 a.k) ∧ W.cell? ⟨m, i * 12 + 1, none⟩ = some (.int .i64 a.op) ∧ W.cell? ⟨m, i * 12 + 2, none⟩ = some (.int .i64 a.f.k) ∧ W.cell? ⟨m, i * 12 + 3, none⟩ = some (.int .i64 a.f.p) ∧ W.cell? ⟨m, i * 12 + 4, none⟩ = some (.int .i64 a.f.q) ∧ W.cell? ⟨m, i * 12 + 5, none⟩ = some (.string a.f.s) ∧ W.cell? ⟨m, i * 12 + 6, none⟩ = some (.int .i64 a.f.r) ∧ W.cell? ⟨m, i * 12 + 7, none⟩ = some (vl) ∧ W.cell? ⟨m, i * 12 + 8, none⟩ = some (.string a.s) ∧ W.cell? ⟨m, i * 12 + 9, none⟩ = some (.int .i64 a.lv) ∧ W.cell? ⟨m, i * 12 + 10, none⟩ = some (.int .i64 a.nx) ∧ W.cell? ⟨m, i * 12 + 11, none⟩ = some (vk)
theorem Rw.past {B g : Nat} {v : Value} {l : List V5} {w w' : World} (h : Rw B v l w) (hc : Ch [g] w w') (hg : g < B) : VA w' v l :=
  (h.ch hc (fun b hb => by have := (own_lo h hb).1; simp; omega)).va
theorem six_of {W8 W : World} {g ma mb B1 B2 : Nat} {x y : V5} {l : List V5} {nx lv : Int} {va1 vb1 va2 vb2 va3 vb3 va4 vb4 va5 vb5 va6 vb6 ua4 ub4 ua5 ub5 ua6 ub6 : Value} (h : Ch [g] W8 W) (hg1 : g < B1) (hg2 : g < B2) (hma : B1 ≤ ma) (hmb : B2 ≤ mb)
    (ba : Blk 31 ma #[.int .i64 1, .int .i64 0, .int .i64 0, .int .i64 0, .int .i64 0, .string ⟨#[]⟩, .int .i64 0, va1, .string ⟨#[]⟩, .int .i64 0, .int .i64 0, .slice none 0 0, .int .i64 2, .int .i64 0, .int .i64 0, .int .i64 0, .int .i64 0, .string ⟨#[]⟩, .int .i64 0, va2, .string ⟨#[]⟩, .int .i64 lv, .int .i64 0, .slice none 0 0, .int .i64 2, .int .i64 0, .int .i64 0, .int .i64 0, .int .i64 0, .string ⟨#[]⟩, .int .i64 0, va3, .string ⟨#[]⟩, .int .i64 1, .int .i64 0, .slice none 0 0, .int .i64 3, .int .i64 0, .int .i64 x.k, .int .i64 x.p, .int .i64 x.q, .string x.s, .int .i64 x.r, va4, .string ⟨#[]⟩, .int .i64 0, .int .i64 nx, ua4, .int .i64 4, .int .i64 0, .int .i64 x.k, .int .i64 x.p, .int .i64 x.q, .string x.s, .int .i64 x.r, va5, .string ⟨#[]⟩, .int .i64 0, .int .i64 nx, ua5, .int .i64 5, .int .i64 0, .int .i64 0, .int .i64 0, .int .i64 0, .string ⟨#[]⟩, .int .i64 0, va6, .string ⟨#[]⟩, .int .i64 0, .int .i64 nx, ua6] W8) (bb : Blk 31 mb #[.int .i64 1, .int .i64 0, .int .i64 0, .int .i64 0, .int .i64 0, .string ⟨#[]⟩, .int .i64 0, vb1, .string ⟨#[]⟩, .int .i64 0, .int .i64 0, .slice none 0 0, .int .i64 2, .int .i64 0, .int .i64 0, .int .i64 0, .int .i64 0, .string ⟨#[]⟩, .int .i64 0, vb2, .string ⟨#[]⟩, .int .i64 lv, .int .i64 0, .slice none 0 0, .int .i64 2, .int .i64 0, .int .i64 0, .int .i64 0, .int .i64 0, .string ⟨#[]⟩, .int .i64 0, vb3, .string ⟨#[]⟩, .int .i64 1, .int .i64 0, .slice none 0 0, .int .i64 3, .int .i64 0, .int .i64 x.k, .int .i64 x.p, .int .i64 x.q, .string x.s, .int .i64 x.r, vb4, .string ⟨#[]⟩, .int .i64 0, .int .i64 nx, ub4, .int .i64 4, .int .i64 0, .int .i64 x.k, .int .i64 x.p, .int .i64 x.q, .string x.s, .int .i64 x.r, vb5, .string ⟨#[]⟩, .int .i64 0, .int .i64 nx, ub5, .int .i64 5, .int .i64 0, .int .i64 0, .int .i64 0, .int .i64 0, .string ⟨#[]⟩, .int .i64 0, vb6, .string ⟨#[]⟩, .int .i64 0, .int .i64 nx, ub6] W8)
    (ra1 : Rw B1 va1 (l) W8)
    (ra2 : Rw B1 va2 ([y]) W8)
    (ra3 : Rw B1 va3 ([v5s (cutS ⟨#[120]⟩)]) W8)
    (ra4 : Rw B1 va4 (l) W8) (sa4 : Rw B1 ua4 (l) W8)
    (ra5 : Rw B1 va5 (l) W8) (sa5 : Rw B1 ua5 (l) W8)
    (ra6 : Rw B1 va6 (l) W8) (sa6 : Rw B1 ua6 (l) W8)
    (rb1 : Rw B2 vb1 (l) W8)
    (rb2 : Rw B2 vb2 ([y]) W8)
    (rb3 : Rw B2 vb3 ([v5s (cutS ⟨#[120]⟩)]) W8)
    (rb4 : Rw B2 vb4 (l) W8) (sb4 : Rw B2 ub4 (l) W8)
    (rb5 : Rw B2 vb5 (l) W8) (sb5 : Rw B2 ub5 (l) W8)
    (rb6 : Rw B2 vb6 (l) W8) (sb6 : Rw B2 ub6 (l) W8)
    (hl : l.length ≤ 32) (k1 : checkE (retA l) = 0) (k2 : checkE (retA [x]) = 0) (hy : y ∈ l) (hnx : 0 ≤ nx ∧ nx ≤ 255) (hlv : 0 ≤ lv ∧ lv ≤ 255) :
    ∀ i : Nat, i < 6 → ∃ (a : Act) (vl vk vl' vk' : Value), AR W ma i a vl vk ∧ AR W mb i a vl' vk' ∧ VA W vl a.l ∧ VA W vk a.kp ∧ VA W vl' a.l ∧ VA W vk' a.kp ∧ a.l.length ≤ 200 ∧ a.kp.length ≤ 200 ∧ checkE a = 0 := by
  have ba' := ba.ch h (by simp; omega)
  have bb' := bb.ch h (by simp; omega)
  have okl : l.all okV = true := chk_all k1
  have okx : okV x = true := by have := chk_all k2; simpa [retA] using this
  have oky : okV y = true := List.all_eq_true.1 okl y hy
  intro i hi
  rcases (by omega : i = 0 ∨ i = 1 ∨ i = 2 ∨ i = 3 ∨ i = 4 ∨ i = 5) with rfl | rfl | rfl | rfl | rfl | rfl
  · exact ⟨retA l, va1, .slice none 0 0, vb1, .slice none 0 0, ⟨ba'.cell 0, ba'.cell 1, ba'.cell 2, ba'.cell 3, ba'.cell 4, ba'.cell 5, ba'.cell 6, ba'.cell 7, ba'.cell 8, ba'.cell 9, ba'.cell 10, ba'.cell 11⟩, ⟨bb'.cell 0, bb'.cell 1, bb'.cell 2, bb'.cell 3, bb'.cell 4, bb'.cell 5, bb'.cell 6, bb'.cell 7, bb'.cell 8, bb'.cell 9, bb'.cell 10, bb'.cell 11⟩, ra1.past h hg1, VA.nil W, rb1.past h hg2, VA.nil W, (by show l.length ≤ 200; omega), (by show 0 ≤ 200; omega), k1⟩
  · exact ⟨failA y lv, va2, .slice none 0 0, vb2, .slice none 0 0, ⟨ba'.cell 12, ba'.cell 13, ba'.cell 14, ba'.cell 15, ba'.cell 16, ba'.cell 17, ba'.cell 18, ba'.cell 19, ba'.cell 20, ba'.cell 21, ba'.cell 22, ba'.cell 23⟩, ⟨bb'.cell 12, bb'.cell 13, bb'.cell 14, bb'.cell 15, bb'.cell 16, bb'.cell 17, bb'.cell 18, bb'.cell 19, bb'.cell 20, bb'.cell 21, bb'.cell 22, bb'.cell 23⟩, ra2.past h hg1, VA.nil W, rb2.past h hg2, VA.nil W, (by show 1 ≤ 200; omega), (by show 0 ≤ 200; omega), chk_fail y lv hlv oky⟩
  · exact ⟨errA ⟨#[120]⟩, va3, .slice none 0 0, vb3, .slice none 0 0, ⟨ba'.cell 24, ba'.cell 25, ba'.cell 26, ba'.cell 27, ba'.cell 28, ba'.cell 29, ba'.cell 30, ba'.cell 31, ba'.cell 32, ba'.cell 33, ba'.cell 34, ba'.cell 35⟩, ⟨bb'.cell 24, bb'.cell 25, bb'.cell 26, bb'.cell 27, bb'.cell 28, bb'.cell 29, bb'.cell 30, bb'.cell 31, bb'.cell 32, bb'.cell 33, bb'.cell 34, bb'.cell 35⟩, ra3.past h hg1, VA.nil W, rb3.past h hg2, VA.nil W, (by show 1 ≤ 200; omega), (by show 0 ≤ 200; omega), chk_err⟩
  · exact ⟨callA 3 x l nx l, va4, ua4, vb4, ub4, ⟨ba'.cell 36, ba'.cell 37, ba'.cell 38, ba'.cell 39, ba'.cell 40, ba'.cell 41, ba'.cell 42, ba'.cell 43, ba'.cell 44, ba'.cell 45, ba'.cell 46, ba'.cell 47⟩, ⟨bb'.cell 36, bb'.cell 37, bb'.cell 38, bb'.cell 39, bb'.cell 40, bb'.cell 41, bb'.cell 42, bb'.cell 43, bb'.cell 44, bb'.cell 45, bb'.cell 46, bb'.cell 47⟩, ra4.past h hg1, sa4.past h hg1, rb4.past h hg2, sb4.past h hg2, (by show l.length ≤ 200; omega), (by show l.length ≤ 200; omega), chk_call 3 (.inl rfl) x l nx hnx okx okl hl⟩
  · exact ⟨callA 4 x l nx l, va5, ua5, vb5, ub5, ⟨ba'.cell 48, ba'.cell 49, ba'.cell 50, ba'.cell 51, ba'.cell 52, ba'.cell 53, ba'.cell 54, ba'.cell 55, ba'.cell 56, ba'.cell 57, ba'.cell 58, ba'.cell 59⟩, ⟨bb'.cell 48, bb'.cell 49, bb'.cell 50, bb'.cell 51, bb'.cell 52, bb'.cell 53, bb'.cell 54, bb'.cell 55, bb'.cell 56, bb'.cell 57, bb'.cell 58, bb'.cell 59⟩, ra5.past h hg1, sa5.past h hg1, rb5.past h hg2, sb5.past h hg2, (by show l.length ≤ 200; omega), (by show l.length ≤ 200; omega), chk_call 4 (.inr rfl) x l nx hnx okx okl hl⟩
  · exact ⟨yldA l nx l, va6, ua6, vb6, ub6, ⟨ba'.cell 60, ba'.cell 61, ba'.cell 62, ba'.cell 63, ba'.cell 64, ba'.cell 65, ba'.cell 66, ba'.cell 67, ba'.cell 68, ba'.cell 69, ba'.cell 70, ba'.cell 71⟩, ⟨bb'.cell 60, bb'.cell 61, bb'.cell 62, bb'.cell 63, bb'.cell 64, bb'.cell 65, bb'.cell 66, bb'.cell 67, bb'.cell 68, bb'.cell 69, bb'.cell 70, bb'.cell 71⟩, ra6.past h hg1, sa6.past h hg1, rb6.past h hg2, sb6.past h hg2, (by show l.length ≤ 200; omega), (by show l.length ≤ 200; omega), chk_yld l nx hnx okl hl⟩
end Go.Proofs.Ytdgdpckjcpgoaaa
