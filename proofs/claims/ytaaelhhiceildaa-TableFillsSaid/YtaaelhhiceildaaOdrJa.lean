/- Layer 12: the functions of ordered maps (8a). -/
import Derived.Test.YtaaelhhiceildaaOdrJ
import Derived.Deep.DeepCutAuto
import Derived.Deep.CutBlock
import Derived.BigQuiet
import Derived.Maps.AppendAt
import Derived.Laws.MakeOwn
import Derived.OwnWalk
import Derived.RegionTactic
import Derived.Deep.RegionLaw
import Derived.Deep.AppendLies
import Derived.Lib.ItoaWalk
import Derived.Carry
namespace Go.Proofs.Ytaaelhhiceildaa
open Go.RowKit Go.Joins M1
set_option linter.unusedVariables false
set_option maxHeartbeats 8000000 in
theorem insert_a (B b g' : Nat) (v : Value) (L : List Sl) (k x : V5) (w : World) (h : Om B b v (.map (some g')) L w) (hk : ∀ i, lastI L k = some i → ∃ hi : i < L.length, L[i].bh ≠ 0) (hL : L.length ≤ 1000000) (hBw : B ≤ w.heap.size) (hd : cnt L + 8 < L.length - cnt L) :
    Calls Try.prog 60 #[.pointer (some ⟨b, 0, none⟩), .agg #[.int .i64 k.k, .int .i64 k.p, .int .i64 k.q, .string k.s, .int .i64 k.r], .agg #[.int .i64 x.k, .int .i64 x.p, .int .i64 x.q, .string x.s, .int .i64 x.r]] w fun e w' => InSaid B b v (.map (some g')) (kept L ++ [⟨k, x, 0⟩]) w e w' := by
  obtain ⟨p, cap, rfl, _⟩ := h.form
  obtain ⟨i0, hi0, jz0, jz1, jz2⟩ := info_parts info_slot
  obtain ⟨c0, c1, c2, f0, f1, f2, hb⟩ := h.cells
  obtain ⟨p1, p2, p3⟩ := h.apart
  have hcl := cnt_le L
  have hd1 : IntKind.i64.wrap ((L.length : Int) - (cnt L : Int)) = (L.length : Int) - (cnt L : Int) := IntWalk.i64_in _ (by omega)
  have hd2 : IntKind.i64.wrap ((cnt L : Int) + 8) = (cnt L : Int) + 8 := IntWalk.i64_in _ (by omega)
  have hd3 : (8 : Int) = 8 := rfl
  have ME : ∀ W, (binOp .eql 70 (.map (some g')) (.map none)).run Try.prog W = .ok (.bool false) W := fun W => by kernel_rfl
  have CC := fun n => (h.keep ((((Ch.refl [] w).alloc (.cells #[.int .i64 k.k, .int .i64 k.p, .int .i64 k.q, .string k.s, .int .i64 k.r] 26)).alloc (.cells #[.int .i64 x.k, .int .i64 x.p, .int .i64 x.q, .string x.s, .int .i64 x.r] 26)).drewN n)).cells
  have CC0 := fun n => (CC n).1
  have CC1 := fun n => (CC n).2.1
  have CC2 := fun n => (CC n).2.2.1
  have HCN : Hid (∀ n, Ch [] w (((w.alloc (.cells #[.int .i64 k.k, .int .i64 k.p, .int .i64 k.q, .string k.s, .int .i64 k.r] 26)).alloc (.cells #[.int .i64 x.k, .int .i64 x.p, .int .i64 x.q, .string x.s, .int .i64 x.r] 26)).drewN n)) := Lib.hid fun n => (((Ch.refl [] w).alloc _).alloc _).drewN n
  have HKA : Hid (∀ n, Blk 26 w.heap.size #[.int .i64 k.k, .int .i64 k.p, .int .i64 k.q, .string k.s, .int .i64 k.r] (((w.alloc (.cells #[.int .i64 k.k, .int .i64 k.p, .int .i64 k.q, .string k.s, .int .i64 k.r] 26)).alloc (.cells #[.int .i64 x.k, .int .i64 x.p, .int .i64 x.q, .string x.s, .int .i64 x.r] 26)).drewN n)) := Lib.hid fun n => (Blk.new w 26 _ _ rfl).ch (((Ch.refl [] _).alloc _).drewN n) (by simp)
  have HKB : Hid (∀ n, Blk 26 (w.heap.size + 1) #[.int .i64 x.k, .int .i64 x.p, .int .i64 x.q, .string x.s, .int .i64 x.r] (((w.alloc (.cells #[.int .i64 k.k, .int .i64 k.p, .int .i64 k.q, .string k.s, .int .i64 k.r] 26)).alloc (.cells #[.int .i64 x.k, .int .i64 x.p, .int .i64 x.q, .string x.s, .int .i64 x.r] 26)).drewN n)) := Lib.hid fun n => (Blk.new (w.alloc (.cells #[.int .i64 k.k, .int .i64 k.p, .int .i64 k.q, .string k.s, .int .i64 k.r] 26)) 26 _ _ (by simp)).ch ((Ch.refl [] _).drewN n) (by simp)
  have HOO := Lib.hid h
  have HI1 := Lib.hid h.inv
  have HK1 := Lib.hid hk
  have HLL := Lib.hid hL
  have HLO := Lib.hid h.lo
  have HBW := Lib.hid hBw
  clear CC
  have hd0 : (cnt L : Int) + 8 < (L.length : Int) - (cnt L : Int) := by omega
  have QD : Hid (∀ n, Calls Try.prog 72 #[.pointer (some ⟨b, 0, none⟩)] (((w.alloc (.cells #[.int .i64 k.k, .int .i64 k.p, .int .i64 k.q, .string k.s, .int .i64 k.r] 26)).alloc (.cells #[.int .i64 x.k, .int .i64 x.p, .int .i64 x.q, .string x.s, .int .i64 x.r] 26)).drewN n) fun e w' => e = .returned (.tuple #[]) ∧ (∃ v', Om B b v' (.map (some g')) (kept L) w' ∧ ∀ y ∈ omS b v' (.map (some g')), y ∈ omS b (.slice p L.length cap) (.map (some g')) ∨ (((w.alloc (.cells #[.int .i64 k.k, .int .i64 k.p, .int .i64 k.q, .string k.s, .int .i64 k.r] 26)).alloc (.cells #[.int .i64 x.k, .int .i64 x.p, .int .i64 x.q, .string x.s, .int .i64 x.r] 26)).drewN n).heap.size ≤ y) ∧ Ch (omS b (.slice p L.length cap) (.map (some g'))) (((w.alloc (.cells #[.int .i64 k.k, .int .i64 k.p, .int .i64 k.q, .string k.s, .int .i64 k.r] 26)).alloc (.cells #[.int .i64 x.k, .int .i64 x.p, .int .i64 x.q, .string x.s, .int .i64 x.r] 26)).drewN n) w') := Lib.hid fun n => drop_any B b _ _ L _ (h.keep (((((Ch.refl [] w).alloc _).alloc _)).drewN n)) hL (by have := (HCN.out n).size; omega) (by omega)
  have HLTA := Lib.hid h.lt
  have HK2 : Hid (∀ i, lastI (kept L) k = some i → ∃ hi : i < (kept L).length, (kept L)[i].bh ≠ 0) := Lib.hid fun i hi => by
    rw [last_none_of_kept k h.inv hk] at hi; cases hi
  have HLK : Hid ((kept L).length ≤ 1000000) := Lib.hid (Nat.le_trans (List.length_filter_le _ _) hL)
  clear h hk hL hBw hcl p1 p2 p3
  go_enter Try.func60, Try.ntmps60
  go_upto_region 1 with fail
  go_quiet (fail)
  go_upto_region 3 with (go_at_call 72; (with_reducible refine (QD.out _).mono ?_); rintro e w1 ⟨rfl, ⟨v1, ho1, hf1⟩, hc1⟩)
  have HCV : Hid (Ch (omS b (.slice p L.length cap) (.map (some g'))) w w1) := Lib.hid (((HCN.out _).mono (by simp)).trans hc1)
  have HNQ : Hid (w.heap.size ≤ (((w.alloc (.cells #[.int .i64 k.k, .int .i64 k.p, .int .i64 k.q, .string k.s, .int .i64 k.r] 26)).alloc (.cells #[.int .i64 x.k, .int .i64 x.p, .int .i64 x.q, .string x.s, .int .i64 x.r] 26)).drewN nq).heap.size) := Lib.hid (HCN.out _).size
  have HKK : Hid (Blk 26 w.heap.size #[.int .i64 k.k, .int .i64 k.p, .int .i64 k.q, .string k.s, .int .i64 k.r] w1) := Lib.hid ((HKA.out _).ch hc1 (fun hy => by have := (HLTA.out _ hy).2; omega))
  have HKV : Hid (Blk 26 (w.heap.size + 1) #[.int .i64 x.k, .int .i64 x.p, .int .i64 x.q, .string x.s, .int .i64 x.r] w1) := Lib.hid ((HKB.out _).ch hc1 (fun hy => by have := (HLTA.out _ hy).2; omega))
  have HFR : Hid (∀ y ∈ omS b v1 (.map (some g')), y ∈ omS b (.slice p L.length cap) (.map (some g')) ∨ w.heap.size ≤ y) := Lib.hid fun y hy => (hf1 y hy).imp id (fun h' => Nat.le_trans HNQ.out h')
  have HBK := Lib.hid ho1.blk
  have HRW := Lib.hid ho1.row
  obtain ⟨l, hl1, hl2, hl3⟩ := ho1.mp
  obtain ⟨hB1, hm⟩ : B ≤ g' ∧ Mp g' l w1 := by
    rcases hl3 with ⟨e, _⟩ | ⟨y, e, h1, h2⟩
    · cases e
    · cases e; exact ⟨h1, h2⟩
  have HL1 : Hid ((∀ x, look l x = (lastI (kept L) x).map (fun i => (i : Int))) ∧ Uniq l) := Lib.hid ⟨hl1, hl2⟩
  have HB1 := Lib.hid hB1
  have HM := Lib.hid hm
  obtain ⟨p1, p2, p3⟩ := ho1.apart
  have HGB : Hid (g' ≠ b) := Lib.hid (p2 g' (by simp [mb]))
  have HGR : Hid (g' ∉ ob v1) := Lib.hid (p3 g' (by simp [mb]))
  have HRB : Hid (∀ y ∈ ob v1, y ≠ b) := Lib.hid fun y hy => p1 y hy
  have HII := Lib.hid ho1.inv
  have HGK : Hid (w.heap.size ≠ g' ∧ w.heap.size + 1 ≠ g') := Lib.hid (by have := (HLTA.out g' (by simp [omS, mb])).2; omega)
  have HBV : Hid (B ≤ w1.heap.size) := Lib.hid (by have := HCV.out.size; have := HBW.out; omega)
  obtain ⟨pp, cc, hv1⟩ : ∃ pp cc, v1 = .slice pp (kept L).length cc := by obtain ⟨pp, cc, e, _⟩ := ho1.form; exact ⟨pp, cc, e⟩
  subst hv1
  have k2 : w1.cell? ⟨b, 2, none⟩ = some (.map (some g')) := ho1.blk.cell 2
  have kb := ho1.blk.lt
  clear ho1 hf1 hc1 hl1 hl2 hl3 hB1 hm p1 p2 p3 CC0 CC1 CC2 c0 c1 c2 f0 f1 f2 hb hd1 hd2 hd3 hd0
  go_upto_region 5 with fail
  clear k2 kb
  have a0 : w1.cell? ⟨b, 0, none⟩ = some (.slice pp (kept L).length cc) := HBK.out.cell 0
  have a2 : w1.cell? ⟨b, 2, none⟩ = some (.map (some g')) := HBK.out.cell 2
  have hbV := HBK.out.lt
  have q0 : w1.cell? ⟨w.heap.size, 0, none⟩ = some (.int .i64 k.k) := HKK.out.cell 0
  have q1 : w1.cell? ⟨w.heap.size, 1, none⟩ = some (.int .i64 k.p) := HKK.out.cell 1
  have q2 : w1.cell? ⟨w.heap.size, 2, none⟩ = some (.int .i64 k.q) := HKK.out.cell 2
  have q3 : w1.cell? ⟨w.heap.size, 3, none⟩ = some (.string k.s) := HKK.out.cell 3
  have q4 : w1.cell? ⟨w.heap.size, 4, none⟩ = some (.int .i64 k.r) := HKK.out.cell 4
  have hqs := HKK.out.lt
  obtain ⟨w2, hr2, hm2, hc2⟩ := put_run (HM.out.ch (Ch.refl [] w1).drew (by simp)) k ((kept L).length : Int)
  have HM2 := Lib.hid hm2
  have HC2 : Hid (Ch [g'] w1 w2) := Lib.hid ((Ch.refl [g'] w1).drew.trans hc2)
  clear hm2 hc2
  go_region
  have hbk2 := HBK.out.ch HC2.out (by simp; exact fun e => HGB.out e.symm)
  have b0 : w2.cell? ⟨b, 0, none⟩ = some (.slice pp (kept L).length cc) := hbk2.cell 0
  have hbw2 := hbk2.lt
  have hkk2 := HKK.out.ch HC2.out (by simp; exact HGK.out.1)
  have hkv2 := HKV.out.ch HC2.out (by simp; exact HGK.out.2)
  have r0 : w2.cell? ⟨w.heap.size, 0, none⟩ = some (.int .i64 k.k) := hkk2.cell 0
  have r1 : w2.cell? ⟨w.heap.size, 1, none⟩ = some (.int .i64 k.p) := hkk2.cell 1
  have r2 : w2.cell? ⟨w.heap.size, 2, none⟩ = some (.int .i64 k.q) := hkk2.cell 2
  have r3 : w2.cell? ⟨w.heap.size, 3, none⟩ = some (.string k.s) := hkk2.cell 3
  have r4 : w2.cell? ⟨w.heap.size, 4, none⟩ = some (.int .i64 k.r) := hkk2.cell 4
  have t0 : w2.cell? ⟨w.heap.size + 1, 0, none⟩ = some (.int .i64 x.k) := hkv2.cell 0
  have t1 : w2.cell? ⟨w.heap.size + 1, 1, none⟩ = some (.int .i64 x.p) := hkv2.cell 1
  have t2 : w2.cell? ⟨w.heap.size + 1, 2, none⟩ = some (.int .i64 x.q) := hkv2.cell 2
  have t3 : w2.cell? ⟨w.heap.size + 1, 3, none⟩ = some (.string x.s) := hkv2.cell 3
  have t4 : w2.cell? ⟨w.heap.size + 1, 4, none⟩ = some (.int .i64 x.r) := hkv2.cell 4
  have hz2 := hkk2.lt
  have hz3 := hkv2.lt
  have HBK2 := Lib.hid hbk2
  have HRW2 : Hid (w2.ownsRow B 78 11 (.slice pp (kept L).length cc) (kept L).length ((kept L).flatMap slC)) := Lib.hid (HC2.out.ownB HRW.out (fun y hy => by simp; exact fun e => HGR.out (e ▸ hy)))
  have HBw2 : Hid (B ≤ w2.heap.size) := Lib.hid (by have := HC2.out.size; have := HBV.out; omega)
  clear a0 a2 hbk2 hkk2 hkv2 q0 q1 q2 q3 q4 hr2
  go_upto_region 6 with fail
  go_region_law (refine step_append_lies _ (by rfl) _ _ 69 (by rfl) B 78 i0 (.agg #[.int .i64 0, .int .i64 0, .int .i64 0, .string ⟨#[]⟩, .int .i64 0, .int .i64 0, .int .i64 0, .int .i64 0, .string ⟨#[]⟩, .int .i64 0, .int .i64 0]) 11 104 Try.underlying69 hi0 jz0 jz1 jz2 rfl (by decide) _ (kept L).length ((kept L).flatMap slC) (by rfl) (Ch.ownB (by first | exact ((Ch.refl [] w2).drew).alloc _ | exact ((Ch.refl [] w2).alloc _).drew) HRW2.out (by simp)) ⟨w2.heap.size, 0, none⟩ 1 1 (slC ⟨k, x, 0⟩) (by rfl) (by rfl) (by first | exact slC_at ⟨k, x, 0⟩ w2.drew _ rfl | exact slC_at ⟨k, x, 0⟩ w2 _ rfl) (slC_one _) (by decide) (by unfold maxLen; have := HLK.out; omega) (by have := HLK.out; omega) (by have := HBw2.out; simp; omega) _ (by rfl) ?_; intro g1 cp w3 hown1 hgrow hat hlt1; have h23 : Ch (ob (.slice pp (kept L).length cc)) w2 w3 := Ch.trans (by first | exact ((Ch.refl _ w2).drew).alloc _ | exact ((Ch.refl _ w2).alloc _).drew) (Ch.of_grown hgrow (fun y e => mem_ob.2 e)); have H23 := Lib.hid h23; have HO1 := Lib.hid hown1; have HAT := Lib.hid hat; have hbk3 := HBK2.out.ch h23 (fun hy => HRB.out _ hy rfl); have HBK3 := Lib.hid hbk3; have u0 : w3.cell? ⟨b, 0, none⟩ = some (.slice pp (kept L).length cc) := hbk3.cell 0; have u1 : w3.cell? ⟨b, 1, none⟩ = some (.int .i64 (cnt (kept L) : Int)) := hbk3.cell 1; have v0 := hbk3.fz 0; have v1 := hbk3.fz 1; have hb3 := hbk3.lt; clear h23 hown1 hgrow hat hbk3)
  all_goals (
    have hcw : IntKind.i64.wrap ((cnt (kept L) : Int) + 1) = (cnt (kept L) : Int) + 1 := IntWalk.i64_in _ (by have := cnt_le (kept L); have := HLK.out; omega)
    have HMM : Hid (Mp g' (putM l k ((kept L).length : Int)) w3) := Lib.hid (HM2.out.ch H23.out HGR.out)
    have HCE : Hid (Ch (omS b (.slice p L.length cap) (.map (some g'))) w w3) := Lib.hid (by
      have hA := HCV.out.trans (HC2.out.mono (T := omS b (.slice p L.length cap) (.map (some g'))) (by simp [omS, mb]))
      refine ⟨H23.out.os.trans hA.os, H23.out.tape.trans hA.tape, H23.out.output.trans hA.output, Nat.le_trans hA.size H23.out.size, fun y hy hn => ?_⟩
      rw [H23.out.block y (Nat.lt_of_lt_of_le hy hA.size) (fun ho => ?_), hA.block y hy hn]
      rcases HFR.out y (by simp only [omS, List.mem_cons, List.mem_append]; exact .inr (.inl ho)) with h' | h'
      · exact hn h'
      · omega)
    obtain ⟨hOm, hCb⟩ := om_add k x HII.out HK2.out HBK3.out HLO.out HO1.out HL1.out.1 HL1.out.2 HB1.out HMM.out
    have HX : Hid (InSaid B b (.slice p L.length cap) (.map (some g')) ((kept L) ++ [⟨k, x, 0⟩]) w (.returned (.tuple #[])) ((w3.setCell ⟨b, 0, none⟩ (.slice (some ⟨g1, 0, none⟩) ((kept L).length + 1) cp)).setCell ⟨b, 1, none⟩ (.int .i64 ((cnt (kept L) : Int) + 1)))) := Lib.hid ⟨rfl, ⟨_, _, hOm, fun y hy => by
        simp only [omS, List.mem_cons, List.mem_append] at hy
        rcases hy with hy | hy | hy
        · exact .inl (by simp [omS, hy])
        · rcases HAT.out with h' | h'
          · exact HFR.out y (by simp only [omS, List.mem_cons, List.mem_append]; right; left; rw [mem_ob] at hy ⊢; rw [h']; simpa [Value.ownBlock] using hy)
          · right; simp [Go.Proofs.Ytaaelhhiceildaa.ob, Value.ownBlock] at hy; subst hy; rw [h']; simp; have := HC2.out.size; have := HCV.out.size; omega
        · exact HFR.out y (by simp only [omS, List.mem_cons, List.mem_append]; exact .inr (.inr hy))⟩, HCE.out.trans (hCb.mono (by simp [omS]))⟩
    clear hOm
    go_wp2
    go_end0
    exact HX.out)
end Go.Proofs.Ytaaelhhiceildaa
