/- Layer 12: the functions of ordered maps (8b). -/
import Derived.Test.YtaaelhhiceildaaOdrJ
import Derived.Deep.DeepCutAuto
import Derived.Deep.CutBlock
import Derived.BigQuiet
import Derived.Maps.AppendAt
import Derived.Laws.MakeOwn
import Derived.OwnWalk
import Derived.RegionTactic
import Derived.Deep.RegionLaw
import Derived.Deep.AppendLies
import Derived.Lib.ItoaWalk
import Derived.Carry
namespace Go.Proofs.Ytaaelhhiceildaa
open Go.RowKit Go.Joins M1
set_option linter.unusedVariables false
set_option maxHeartbeats 8000000 in
theorem insert_b (B b : Nat) (v : Value) (L : List Sl) (k x : V5) (w : World) (h : Om B b v (.map none) L w) (hk : ∀ i, lastI L k = some i → ∃ hi : i < L.length, L[i].bh ≠ 0) (hL : L.length ≤ 1000000) (hBw : B ≤ w.heap.size) (hd : ¬ cnt L + 8 < L.length - cnt L) :
    Calls Try.prog 60 #[.pointer (some ⟨b, 0, none⟩), .agg #[.int .i64 k.k, .int .i64 k.p, .int .i64 k.q, .string k.s, .int .i64 k.r], .agg #[.int .i64 x.k, .int .i64 x.p, .int .i64 x.q, .string x.s, .int .i64 x.r]] w fun e w' => InSaid B b v (.map none) (L ++ [⟨k, x, 0⟩]) w e w' := by
  obtain ⟨p, cap, rfl, _⟩ := h.form
  obtain ⟨i0, hi0, jz0, jz1, jz2⟩ := info_parts info_slot
  obtain ⟨c0, c1, c2, f0, f1, f2, hb⟩ := h.cells
  obtain ⟨p1, p2, p3⟩ := h.apart
  have hcl := cnt_le L
  have hd1 : IntKind.i64.wrap ((L.length : Int) - (cnt L : Int)) = (L.length : Int) - (cnt L : Int) := IntWalk.i64_in _ (by omega)
  have hd2 : IntKind.i64.wrap ((cnt L : Int) + 8) = (cnt L : Int) + 8 := IntWalk.i64_in _ (by omega)
  have hd3 : ¬ (cnt L : Int) + 8 < (L.length : Int) - (cnt L : Int) := by omega
  have ME : ∀ W, (binOp .eql 70 (.map none) (.map none)).run Try.prog W = .ok (.bool true) W := fun W => by kernel_rfl
  have CC := fun n => (h.keep ((((Ch.refl [] w).alloc (.cells #[.int .i64 k.k, .int .i64 k.p, .int .i64 k.q, .string k.s, .int .i64 k.r] 26)).alloc (.cells #[.int .i64 x.k, .int .i64 x.p, .int .i64 x.q, .string x.s, .int .i64 x.r] 26)).drewN n)).cells
  have CC0 := fun n => (CC n).1
  have CC1 := fun n => (CC n).2.1
  have CC2 := fun n => (CC n).2.2.1
  have HCN : Hid (∀ n, Ch [] w (((w.alloc (.cells #[.int .i64 k.k, .int .i64 k.p, .int .i64 k.q, .string k.s, .int .i64 k.r] 26)).alloc (.cells #[.int .i64 x.k, .int .i64 x.p, .int .i64 x.q, .string x.s, .int .i64 x.r] 26)).drewN n)) := Lib.hid fun n => (((Ch.refl [] w).alloc _).alloc _).drewN n
  have HKA : Hid (∀ n, Blk 26 w.heap.size #[.int .i64 k.k, .int .i64 k.p, .int .i64 k.q, .string k.s, .int .i64 k.r] (((w.alloc (.cells #[.int .i64 k.k, .int .i64 k.p, .int .i64 k.q, .string k.s, .int .i64 k.r] 26)).alloc (.cells #[.int .i64 x.k, .int .i64 x.p, .int .i64 x.q, .string x.s, .int .i64 x.r] 26)).drewN n)) := Lib.hid fun n => (Blk.new w 26 _ _ rfl).ch (((Ch.refl [] _).alloc _).drewN n) (by simp)
  have HKB : Hid (∀ n, Blk 26 (w.heap.size + 1) #[.int .i64 x.k, .int .i64 x.p, .int .i64 x.q, .string x.s, .int .i64 x.r] (((w.alloc (.cells #[.int .i64 k.k, .int .i64 k.p, .int .i64 k.q, .string k.s, .int .i64 k.r] 26)).alloc (.cells #[.int .i64 x.k, .int .i64 x.p, .int .i64 x.q, .string x.s, .int .i64 x.r] 26)).drewN n)) := Lib.hid fun n => (Blk.new (w.alloc (.cells #[.int .i64 k.k, .int .i64 k.p, .int .i64 k.q, .string k.s, .int .i64 k.r] 26)) 26 _ _ (by simp)).ch ((Ch.refl [] _).drewN n) (by simp)
  have HOO := Lib.hid h
  have HI1 := Lib.hid h.inv
  have HK1 := Lib.hid hk
  have HLL := Lib.hid hL
  have HLO := Lib.hid h.lo
  have HBW := Lib.hid hBw
  clear CC
  obtain ⟨l, hl1, hl2, hl3⟩ := h.mp
  obtain rfl : l = [] := by
    rcases hl3 with ⟨_, e⟩ | ⟨y, e, _⟩
    · exact e
    · cases e
  have HL1 : Hid ((∀ x, look ([] : MP) x = (lastI L x).map (fun i => (i : Int))) ∧ Uniq ([] : MP)) := Lib.hid ⟨hl1, trivial⟩
  have HRB : Hid (∀ y ∈ ob (Value.slice p L.length cap), y ≠ b) := Lib.hid fun y hy => p1 y hy
  have HRL : Hid (∀ y ∈ ob (Value.slice p L.length cap), y < w.heap.size) := Lib.hid fun y hy => (own_lo h.row hy).2
  have hmm := @run_makeMap Try.prog
  have CF2 := fun n => ((h.keep (((((Ch.refl [] w).alloc (.cells #[.int .i64 k.k, .int .i64 k.p, .int .i64 k.q, .string k.s, .int .i64 k.r] 26)).alloc (.cells #[.int .i64 x.k, .int .i64 x.p, .int .i64 x.q, .string x.s, .int .i64 x.r] 26)).drewN n).alloc (.map #[] 0))).cells).2.2.2.2.2.1
  have CF3 := fun n => ((h.keep (((((Ch.refl [] w).alloc (.cells #[.int .i64 k.k, .int .i64 k.p, .int .i64 k.q, .string k.s, .int .i64 k.r] 26)).alloc (.cells #[.int .i64 x.k, .int .i64 x.p, .int .i64 x.q, .string x.s, .int .i64 x.r] 26)).drewN n).alloc (.map #[] 0))).cells).2.2.1
  clear h hk hL hBw hcl hl1 hl2 hl3 p1 p2 p3
  go_enter Try.func60, Try.ntmps60
  go_upto_region 1 with fail
  go_quiet (fail)
  go_upto_region 5 with fail
  have HCV : Hid (∀ n, Ch [b] w (((((w.alloc (.cells #[.int .i64 k.k, .int .i64 k.p, .int .i64 k.q, .string k.s, .int .i64 k.r] 26)).alloc (.cells #[.int .i64 x.k, .int .i64 x.p, .int .i64 x.q, .string x.s, .int .i64 x.r] 26)).drewN n).alloc (.map #[] 0)).setCell ⟨b, 2, none⟩ (.map (some (w.heap.size + 1 + 1))))) := Lib.hid fun n => (((HCN.out n).mono (T := [b]) (by simp)).alloc _).set b 2 _ (.inl (by simp))
  have HVB : Hid (∀ n, Blk 72 b #[.slice p L.length cap, .int .i64 (cnt L), .map (some (w.heap.size + 1 + 1))] (((((w.alloc (.cells #[.int .i64 k.k, .int .i64 k.p, .int .i64 k.q, .string k.s, .int .i64 k.r] 26)).alloc (.cells #[.int .i64 x.k, .int .i64 x.p, .int .i64 x.q, .string x.s, .int .i64 x.r] 26)).drewN n).alloc (.map #[] 0)).setCell ⟨b, 2, none⟩ (.map (some (w.heap.size + 1 + 1))))) := Lib.hid fun n => (((HOO.out.keep (HCN.out n)).keep ((Ch.refl [] _).alloc (.map #[] 0))).blk.set 2 _)
  have HVK : Hid (∀ n, Blk 26 w.heap.size #[.int .i64 k.k, .int .i64 k.p, .int .i64 k.q, .string k.s, .int .i64 k.r] (((((w.alloc (.cells #[.int .i64 k.k, .int .i64 k.p, .int .i64 k.q, .string k.s, .int .i64 k.r] 26)).alloc (.cells #[.int .i64 x.k, .int .i64 x.p, .int .i64 x.q, .string x.s, .int .i64 x.r] 26)).drewN n).alloc (.map #[] 0)).setCell ⟨b, 2, none⟩ (.map (some (w.heap.size + 1 + 1))))) := Lib.hid fun n => (HKA.out n).ch (((Ch.refl [b] _).alloc _).set b 2 _ (.inl (by simp))) (by have := HOO.out.blk.lt; simp; omega)
  have HVV : Hid (∀ n, Blk 26 (w.heap.size + 1) #[.int .i64 x.k, .int .i64 x.p, .int .i64 x.q, .string x.s, .int .i64 x.r] (((((w.alloc (.cells #[.int .i64 k.k, .int .i64 k.p, .int .i64 k.q, .string k.s, .int .i64 k.r] 26)).alloc (.cells #[.int .i64 x.k, .int .i64 x.p, .int .i64 x.q, .string x.s, .int .i64 x.r] 26)).drewN n).alloc (.map #[] 0)).setCell ⟨b, 2, none⟩ (.map (some (w.heap.size + 1 + 1))))) := Lib.hid fun n => (HKB.out n).ch (((Ch.refl [b] _).alloc _).set b 2 _ (.inl (by simp))) (by have := HOO.out.blk.lt; simp; omega)
  have HVM : Hid (∀ n, Mp (w.heap.size + 1 + 1) [] (((((w.alloc (.cells #[.int .i64 k.k, .int .i64 k.p, .int .i64 k.q, .string k.s, .int .i64 k.r] 26)).alloc (.cells #[.int .i64 x.k, .int .i64 x.p, .int .i64 x.q, .string x.s, .int .i64 x.r] 26)).drewN n).alloc (.map #[] 0)).setCell ⟨b, 2, none⟩ (.map (some (w.heap.size + 1 + 1))))) := Lib.hid fun n => (Mp.new _ _ (by simp)).ch ((Ch.refl [b] _).set b 2 _ (.inl (by simp))) (by have := HOO.out.blk.lt; have := (HCN.out n).size; simp; simp at this; omega)
  have HVR : Hid (∀ n, (((((w.alloc (.cells #[.int .i64 k.k, .int .i64 k.p, .int .i64 k.q, .string k.s, .int .i64 k.r] 26)).alloc (.cells #[.int .i64 x.k, .int .i64 x.p, .int .i64 x.q, .string x.s, .int .i64 x.r] 26)).drewN n).alloc (.map #[] 0)).setCell ⟨b, 2, none⟩ (.map (some (w.heap.size + 1 + 1)))).ownsRow B 78 11 (.slice p L.length cap) L.length (L.flatMap slC)) := Lib.hid fun n => (HCV.out n).ownB HOO.out.row (fun y hy => by simpa using HRB.out y hy)
  have hgs : (((w.alloc (.cells #[.int .i64 k.k, .int .i64 k.p, .int .i64 k.q, .string k.s, .int .i64 k.r] 26)).alloc (.cells #[.int .i64 x.k, .int .i64 x.p, .int .i64 x.q, .string x.s, .int .i64 x.r] 26)).drewN nq).heap.size = w.heap.size + 2 := by simp
  go_name_world V hV
  obtain ⟨g', hg'⟩ : ∃ g', g' = w.heap.size + 1 + 1 := ⟨_, rfl⟩
  have hg2 : g' = w.heap.size + 2 := hg'
  have HBK : Hid (Blk 72 b #[.slice p L.length cap, .int .i64 (cnt L), .map (some g')] V) := Lib.hid (by rw [← hV, hg']; exact HVB.out _)
  have HRW : Hid (V.ownsRow B 78 11 (.slice p L.length cap) L.length (L.flatMap slC)) := Lib.hid (by rw [← hV]; exact HVR.out _)
  obtain ⟨l, hl⟩ : ∃ l : MP, l = [] := ⟨_, rfl⟩
  have HM : Hid (Mp g' l V) := Lib.hid (by rw [← hV, hg', hl]; exact HVM.out _)
  have HL1' : Hid ((∀ x, look l x = (lastI L x).map (fun i => (i : Int))) ∧ Uniq l) := Lib.hid (by rw [hl]; exact HL1.out)
  have HKK : Hid (Blk 26 w.heap.size #[.int .i64 k.k, .int .i64 k.p, .int .i64 k.q, .string k.s, .int .i64 k.r] V) := Lib.hid (by rw [← hV]; exact HVK.out _)
  have HKV : Hid (Blk 26 (w.heap.size + 1) #[.int .i64 x.k, .int .i64 x.p, .int .i64 x.q, .string x.s, .int .i64 x.r] V) := Lib.hid (by rw [← hV]; exact HVV.out _)
  have HCW : Hid (Ch (omS b (.slice p L.length cap) (.map none)) w V) := Lib.hid (by rw [← hV]; exact (HCV.out _).mono (by simp [omS]))
  have HGB : Hid (g' ≠ b) := Lib.hid (by have := HOO.out.blk.lt; omega)
  have HGR : Hid (g' ∉ ob (Value.slice p L.length cap)) := Lib.hid fun hy => by have := HRL.out _ hy; omega
  have HGK : Hid (w.heap.size ≠ g' ∧ w.heap.size + 1 ≠ g') := Lib.hid (by omega)
  have HGN : Hid (w.heap.size ≤ g') := Lib.hid (by omega)
  have HB1 : Hid (B ≤ g') := Lib.hid (by have := HBW.out; omega)
  have HFR : Hid (∀ y ∈ omS b (.slice p L.length cap) (.map (some g')), y ∈ omS b (.slice p L.length cap) (.map none) ∨ w.heap.size ≤ y) := Lib.hid fun y hy => by
    simp only [omS, List.mem_cons, List.mem_append] at hy
    rcases hy with hy | hy | hy
    · exact .inl (by simp [omS, hy])
    · exact .inl (by simp [omS, hy])
    · simp [mb] at hy; subst hy; exact .inr HGN.out
  have HBV : Hid (B ≤ V.heap.size) := Lib.hid (by have := HCW.out.size; have := HBW.out; omega)
  clear hV CC0 CC1 CC2 CF2 CF3 hmm c0 c1 c2 f0 f1 f2 hb hd1 hd2 hd3 hg' hg2 hl hgs HL1 HVB HVK HVV HVM HVR HCV
  have a0 : V.cell? ⟨b, 0, none⟩ = some (.slice p L.length cap) := HBK.out.cell 0
  have a2 : V.cell? ⟨b, 2, none⟩ = some (.map (some g')) := HBK.out.cell 2
  have hbV := HBK.out.lt
  have q0 : V.cell? ⟨w.heap.size, 0, none⟩ = some (.int .i64 k.k) := HKK.out.cell 0
  have q1 : V.cell? ⟨w.heap.size, 1, none⟩ = some (.int .i64 k.p) := HKK.out.cell 1
  have q2 : V.cell? ⟨w.heap.size, 2, none⟩ = some (.int .i64 k.q) := HKK.out.cell 2
  have q3 : V.cell? ⟨w.heap.size, 3, none⟩ = some (.string k.s) := HKK.out.cell 3
  have q4 : V.cell? ⟨w.heap.size, 4, none⟩ = some (.int .i64 k.r) := HKK.out.cell 4
  have hqs := HKK.out.lt
  obtain ⟨w2, hr2, hm2, hc2⟩ := put_run (HM.out.ch (Ch.refl [] V).drew (by simp)) k (L.length : Int)
  have HM2 := Lib.hid hm2
  have HC2 : Hid (Ch [g'] V w2) := Lib.hid ((Ch.refl [g'] V).drew.trans hc2)
  clear hm2 hc2
  go_region
  have hbk2 := HBK.out.ch HC2.out (by simp; exact fun e => HGB.out e.symm)
  have b0 : w2.cell? ⟨b, 0, none⟩ = some (.slice p L.length cap) := hbk2.cell 0
  have hbw2 := hbk2.lt
  have hkk2 := HKK.out.ch HC2.out (by simp; exact HGK.out.1)
  have hkv2 := HKV.out.ch HC2.out (by simp; exact HGK.out.2)
  have r0 : w2.cell? ⟨w.heap.size, 0, none⟩ = some (.int .i64 k.k) := hkk2.cell 0
  have r1 : w2.cell? ⟨w.heap.size, 1, none⟩ = some (.int .i64 k.p) := hkk2.cell 1
  have r2 : w2.cell? ⟨w.heap.size, 2, none⟩ = some (.int .i64 k.q) := hkk2.cell 2
  have r3 : w2.cell? ⟨w.heap.size, 3, none⟩ = some (.string k.s) := hkk2.cell 3
  have r4 : w2.cell? ⟨w.heap.size, 4, none⟩ = some (.int .i64 k.r) := hkk2.cell 4
  have t0 : w2.cell? ⟨w.heap.size + 1, 0, none⟩ = some (.int .i64 x.k) := hkv2.cell 0
  have t1 : w2.cell? ⟨w.heap.size + 1, 1, none⟩ = some (.int .i64 x.p) := hkv2.cell 1
  have t2 : w2.cell? ⟨w.heap.size + 1, 2, none⟩ = some (.int .i64 x.q) := hkv2.cell 2
  have t3 : w2.cell? ⟨w.heap.size + 1, 3, none⟩ = some (.string x.s) := hkv2.cell 3
  have t4 : w2.cell? ⟨w.heap.size + 1, 4, none⟩ = some (.int .i64 x.r) := hkv2.cell 4
  have hz2 := hkk2.lt
  have hz3 := hkv2.lt
  have HBK2 := Lib.hid hbk2
  have HRW2 : Hid (w2.ownsRow B 78 11 (.slice p L.length cap) L.length (L.flatMap slC)) := Lib.hid (HC2.out.ownB HRW.out (fun y hy => by simp; exact fun e => HGR.out (e ▸ hy)))
  have HBw2 : Hid (B ≤ w2.heap.size) := Lib.hid (by have := HC2.out.size; have := HBV.out; omega)
  clear a0 a2 hbk2 hkk2 hkv2 q0 q1 q2 q3 q4 hr2
  go_upto_region 6 with fail
  go_region_law (refine step_append_lies _ (by rfl) _ _ 69 (by rfl) B 78 i0 (.agg #[.int .i64 0, .int .i64 0, .int .i64 0, .string ⟨#[]⟩, .int .i64 0, .int .i64 0, .int .i64 0, .int .i64 0, .string ⟨#[]⟩, .int .i64 0, .int .i64 0]) 11 104 Try.underlying69 hi0 jz0 jz1 jz2 rfl (by decide) _ L.length (L.flatMap slC) (by rfl) (Ch.ownB (by first | exact ((Ch.refl [] w2).drew).alloc _ | exact ((Ch.refl [] w2).alloc _).drew) HRW2.out (by simp)) ⟨w2.heap.size, 0, none⟩ 1 1 (slC ⟨k, x, 0⟩) (by rfl) (by rfl) (by first | exact slC_at ⟨k, x, 0⟩ w2.drew _ rfl | exact slC_at ⟨k, x, 0⟩ w2 _ rfl) (slC_one _) (by decide) (by unfold maxLen; have := HLL.out; omega) (by have := HLL.out; omega) (by have := HBw2.out; simp; omega) _ (by rfl) ?_; intro g1 cp w3 hown1 hgrow hat hlt1; have h23 : Ch (ob (.slice p L.length cap)) w2 w3 := Ch.trans (by first | exact ((Ch.refl _ w2).drew).alloc _ | exact ((Ch.refl _ w2).alloc _).drew) (Ch.of_grown hgrow (fun y e => mem_ob.2 e)); have H23 := Lib.hid h23; have HO1 := Lib.hid hown1; have HAT := Lib.hid hat; have hbk3 := HBK2.out.ch h23 (fun hy => HRB.out _ hy rfl); have HBK3 := Lib.hid hbk3; have u0 : w3.cell? ⟨b, 0, none⟩ = some (.slice p L.length cap) := hbk3.cell 0; have u1 : w3.cell? ⟨b, 1, none⟩ = some (.int .i64 (cnt L : Int)) := hbk3.cell 1; have v0 := hbk3.fz 0; have v1 := hbk3.fz 1; have hb3 := hbk3.lt; clear h23 hown1 hgrow hat hbk3)
  all_goals (
    have hcw : IntKind.i64.wrap ((cnt L : Int) + 1) = (cnt L : Int) + 1 := IntWalk.i64_in _ (by have := cnt_le L; have := HLL.out; omega)
    have HMM : Hid (Mp g' (putM l k (L.length : Int)) w3) := Lib.hid (HM2.out.ch H23.out HGR.out)
    obtain ⟨hOm, hCb⟩ := om_add k x HI1.out HK1.out HBK3.out HLO.out HO1.out HL1'.out.1 HL1'.out.2 HB1.out HMM.out
    have HX : Hid (InSaid B b (.slice p L.length cap) (.map none) (L ++ [⟨k, x, 0⟩]) w (.returned (.tuple #[])) ((w3.setCell ⟨b, 0, none⟩ (.slice (some ⟨g1, 0, none⟩) (L.length + 1) cp)).setCell ⟨b, 1, none⟩ (.int .i64 ((cnt L : Int) + 1)))) := Lib.hid ⟨rfl, ⟨_, _, hOm, fun y hy => by
        simp only [omS, List.mem_cons, List.mem_append] at hy
        rcases hy with hy | hy | hy
        · exact .inl (by simp [omS, hy])
        · rcases HAT.out with h' | h'
          · exact HFR.out y (by simp only [omS, List.mem_cons, List.mem_append]; right; left; rw [mem_ob] at hy ⊢; rw [h']; simpa [Value.ownBlock] using hy)
          · right; simp [Go.Proofs.Ytaaelhhiceildaa.ob, Value.ownBlock] at hy; subst hy; rw [h']; simp; have := HC2.out.size; have := HCW.out.size; omega
        · exact HFR.out y (by simp only [omS, List.mem_cons, List.mem_append]; exact .inr (.inr hy))⟩, ((((HCW.out.fresh (L := [g']) (fun y hy => by simp at hy; subst hy; exact HGN.out) HC2.out).trans (H23.out.mono (fun y hy => by simp [omS, hy])))).trans (hCb.mono (by simp [omS])))⟩
    clear hOm
    go_wp2
    go_end0
    exact HX.out)
end Go.Proofs.Ytaaelhhiceildaa
