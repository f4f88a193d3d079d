/- Contracts of layer 4: a matcher is made. -/
import Derived.Test.YtkbcaklleiapdaaDoorPatR
import Derived.Test.YtkbcaklleiapdaaDoorPatAc
import Derived.Laws.MakeOwn
namespace Go.Proofs.YtkbcaklleiapdaaDoor
open Go.RowKit M4
set_option linter.unusedVariables false
theorem made_caps (n : Nat) (h : n ≤ 16) : madeCells (Value.agg #[.int .i64 0, .int .i64 0]).cells (n * 2) = (capC (zc n)).toArray :=
  match n, h with
  | 0, _ => by kernel_rfl
  | 1, _ => by kernel_rfl
  | 2, _ => by kernel_rfl
  | 3, _ => by kernel_rfl
  | 4, _ => by kernel_rfl
  | 5, _ => by kernel_rfl
  | 6, _ => by kernel_rfl
  | 7, _ => by kernel_rfl
  | 8, _ => by kernel_rfl
  | 9, _ => by kernel_rfl
  | 10, _ => by kernel_rfl
  | 11, _ => by kernel_rfl
  | 12, _ => by kernel_rfl
  | 13, _ => by kernel_rfl
  | 14, _ => by kernel_rfl
  | 15, _ => by kernel_rfl
  | 16, _ => by kernel_rfl
  | n + 17, h => absurd h (by omega)
theorem make_caps (n : Nat) (h : n ≤ 16) (W : World) : (Instr.makeSlice 27 (.int .i64 (n : Int)) (.int .i64 (n : Int))).run Tryd.prog W = .ok (.slice (some ⟨W.heap.size, 0, none⟩) n n) (W.alloc (.cells (capC (zc n)).toArray 43)) := by
  obtain ⟨i0, hi, jz0, jz1, jz2⟩ := info_parts info_cap
  have hr := run_make (P := Tryd.prog) W 27 43 i0 _ Tryd.underlying27 hi jz0 .i64 .i64 n n (by omega) (by omega) (by rw [jz2]; omega) (by omega)
  simp only [Int.toNat_natCast] at hr
  rw [hr, jz1, made_caps n h]
/-- A matcher that was made. -/
theorem mat_new {s : ByteArray} {g : Pg} {iv : Value} {vs : List Value} {w2 W : World} {b cb mv : Nat} (hI : Its g.its vs iv w2) (hc : Ch [] w2 W) (h1 : w2.heap.size ≤ b) (h2 : w2.heap.size ≤ cb) (h4 : b ≠ cb) (h5 : mv ≠ b) (h6 : mv ≠ cb)
    (hb : W.heap[b]? = some (.cells #[.string s, .bool g.start, .bool g.fin, iv, .int .i64 (g.caps : Int), .slice (some ⟨cb, 0, none⟩) g.caps g.caps, .int .i64 100000, .func (.func 52) #[] #[.pointer (some ⟨mv, 0, none⟩)]] 82 (0, 0)))
    (hcb : W.heap[cb]? = some (.cells (capC (zc g.caps)).toArray 43 (0, 0))) (hmv : W.heap[mv]? = some (.cells #[.pointer (some ⟨b, 0, none⟩)] 76 (0, 0))) :
    Mat ⟨w2.heap.size, b, cb, mv, s, g, vs, iv⟩ (zc g.caps) 100000 W :=
  ⟨hb, hcb, hmv, hc.own hI.own (by simp), fun g hg => own_lt hI.own hg, hI.len, fun j it v e1 e2 e3 => by
    obtain ⟨lo, hi, e5⟩ := hI.tv j it v e1 e2 e3
    obtain ⟨hhi, _⟩ := e5.ex
    exact ⟨lo, hi, hhi, e5.kept (hc.kp hhi (by simp))⟩, h1, h2, h4, h5, h6, by simp [zc]⟩
theorem alloc3 (w : World) (o1 o2 o3 : Obj) : (((w.alloc o1).alloc o2).alloc o3).drew.heap[w.heap.size]? = some o1 ∧ (((w.alloc o1).alloc o2).alloc o3).drew.heap[w.heap.size + 1]? = some o2 ∧ (((w.alloc o1).alloc o2).alloc o3).drew.heap[w.heap.size + 1 + 1]? = some o3 ∧ Ch [] w (((w.alloc o1).alloc o2).alloc o3).drew := by
  refine ⟨?_, ?_, ?_, (((((Ch.refl [] w).alloc _).alloc _).alloc _).drew)⟩
  · show (((w.alloc o1).alloc o2).alloc o3).heap[w.heap.size]? = _
    rw [Below.heap_alloc _ _ _ (by simp; omega), Below.heap_alloc _ _ _ (by simp)]; exact heap_new _ _
  · show (((w.alloc o1).alloc o2).alloc o3).heap[w.heap.size + 1]? = _
    rw [Below.heap_alloc _ _ _ (by simp)]
    have := heap_new (w.alloc o1) o2
    simpa using this
  · show (((w.alloc o1).alloc o2).alloc o3).heap[w.heap.size + 1 + 1]? = _
    have := heap_new ((w.alloc o1).alloc o2) o3
    simpa using this

set_option maxHeartbeats 4000000 in
theorem begin_err (s p : ByteArray) (w : World) (hp : p.size ≤ 1000000) (c : Nat) (hc : 0 < c) (hr : readF p.data.toList = .error c) :
    Calls Tryd.prog 39 #[.string s, .string p] w fun e w' => e = .returned (.tuple #[.pointer none, .int .i64 (c : Int)]) ∧ Below w.heap.size w w' := by
  have R0 := read_any p w hp
  unfold ReadSaid at R0
  rw [hr] at R0
  have HR := Lib.hid R0
  have y1 : ((c : Int) != 0) = true := by rw [bne_iff_ne]; omega
  have y2 : (c : Int) ≠ 0 := by omega
  clear R0 hr
  go_enter Tryd.func39, Tryd.ntmps39
  go_wp2_with (go_at_call 23; (with_reducible refine HR.out.mono ?_); rintro e w2 ⟨rfl, hb⟩; have HB := Lib.hid hb; clear hb)
  go_ret2
  exact ⟨rfl, HB.out.alloc HB.out.size _⟩
set_option maxHeartbeats 20000000 in
set_option maxRecDepth 100000 in
theorem begin_ok (s p : ByteArray) (w : World) (hp : p.size ≤ 1000000) (g : Pg) (hr : readF p.data.toList = .ok g) :
    Calls Tryd.prog 39 #[.string s, .string p] w fun e w' => (∃ E : Env, E.s = s ∧ E.g = g ∧ e = .returned (.tuple #[.pointer (some ⟨E.b, 0, none⟩), .int .i64 0]) ∧ Mat E (zc g.caps) 100000 w' ∧ w.heap.size ≤ E.b ∧ w.heap.size ≤ E.cb) ∧ Below w.heap.size w w' := by
  have R0 := read_any p w hp
  unfold ReadSaid at R0
  rw [hr] at R0
  have h16 := (readF_ok hr).2.2.1
  have HR := Lib.hid R0
  have hmk := make_caps g.caps h16
  clear R0 hr
  go_enter Tryd.func39, Tryd.ntmps39
  go_upto_region 4 with (go_at_call 23; (with_reducible refine HR.out.mono ?_); rintro e w2 ⟨⟨iv, vs, rfl, hi⟩, hb⟩; have HI := Lib.hid hi; have HB := Lib.hid hb; obtain ⟨p1, c1, hiv⟩ := own_form hi.own; subst hiv; clear hi hb)
  have hpb := heap_new w2 (.cells #[.bool g.start, .bool g.fin, .slice p1 g.its.length c1, .int .i64 (g.caps : Int)] 49)
  have hc0 : Ch [] w2 (w2.alloc (.cells #[.bool g.start, .bool g.fin, .slice p1 g.its.length c1, .int .i64 (g.caps : Int)] 49)) := (Ch.refl [] w2).alloc _
  have hz0 : (w2.alloc (.cells #[.bool g.start, .bool g.fin, .slice p1 g.its.length c1, .int .i64 (g.caps : Int)] 49)).heap.size = w2.heap.size + 1 := by simp
  obtain ⟨W0, hw0⟩ : ∃ W0, (w2.alloc (.cells #[.bool g.start, .bool g.fin, .slice p1 g.its.length c1, .int .i64 (g.caps : Int)] 49)) = W0 := ⟨_, rfl⟩
  rw [hw0] at hpb hc0 hz0
  rw [hw0]
  have q0 : W0.cell? ⟨w2.heap.size, 0, none⟩ = some (.bool g.start) := by simp [World.cell?, hpb]
  have q1 : W0.cell? ⟨w2.heap.size, 1, none⟩ = some (.bool g.fin) := by simp [World.cell?, hpb]
  have q2 : W0.cell? ⟨w2.heap.size, 2, none⟩ = some (.slice p1 g.its.length c1) := by simp [World.cell?, hpb]
  have q3 : W0.cell? ⟨w2.heap.size, 3, none⟩ = some (.int .i64 (g.caps : Int)) := by simp [World.cell?, hpb]
  have HC0 := Lib.hid hc0
  clear hpb hc0 hw0
  obtain ⟨B, hB⟩ : ∃ B, w2.heap.size = B := ⟨_, rfl⟩
  rw [hB] at q0 q1 q2 q3 hz0
  rw [hB]
  have hlt : B < W0.heap.size := by omega
  have HBE := Lib.hid hB
  clear hB
  go_region
  · have a3 := alloc3 W0 (.cells (capC (zc g.caps)).toArray 43) (.cells #[.string s, .bool g.start, .bool g.fin, .slice p1 g.its.length c1, .int .i64 (g.caps : Int), .slice (some ⟨B + 1, 0, none⟩) g.caps g.caps, .int .i64 100000, .nilFunc] 82) (.cells #[.pointer (some ⟨B + 1 + 1, 0, none⟩)] 76)
    rw [hz0] at a3
    obtain ⟨hcb, hmb, hmv, hc1⟩ := a3
    obtain ⟨W1, hw1⟩ : ∃ W1, (((W0.alloc (.cells (capC (zc g.caps)).toArray 43)).alloc (.cells #[.string s, .bool g.start, .bool g.fin, .slice p1 g.its.length c1, .int .i64 (g.caps : Int), .slice (some ⟨B + 1, 0, none⟩) g.caps g.caps, .int .i64 100000, .nilFunc] 82)).alloc (.cells #[.pointer (some ⟨B + 1 + 1, 0, none⟩)] 76)).drew = W1 := ⟨_, rfl⟩
    rw [hw1] at hcb hmb hmv hc1
    simp only [Exit.then]
    rw [hw1]
    have g0 : W1.cell? ⟨B + 1 + 1 + 1, 0, none⟩ = some (.pointer (some ⟨B + 1 + 1, 0, none⟩)) := by simp [World.cell?, hmv]
    have g7 : W1.cell? ⟨B + 1 + 1, 7, none⟩ = some .nilFunc := by simp [World.cell?, hmb]
    have f7 : W1.frozen? ⟨B + 1 + 1, 7, none⟩ = false := by simp [World.frozen?, hmb]
    have hsz := hc1.size
    have hS : Ch [B + 1 + 1] W1 (W1.setCell ⟨B + 1 + 1, 7, none⟩ (.func (.func 52) #[] #[.pointer (some ⟨B + 1 + 1 + 1, 0, none⟩)])) := (Ch.refl _ _).set _ 7 _ (Or.inl (by simp))
    have hcb9 := (Below.heap_setCell W1 ⟨B + 1 + 1, 7, none⟩ (.func (.func 52) #[] #[.pointer (some ⟨B + 1 + 1 + 1, 0, none⟩)]) (B + 1) (by simp)).trans hcb
    have hmv9 := (Below.heap_setCell W1 ⟨B + 1 + 1, 7, none⟩ (.func (.func 52) #[] #[.pointer (some ⟨B + 1 + 1 + 1, 0, none⟩)]) (B + 1 + 1 + 1) (by simp)).trans hmv
    have hmb9 := set_same W1 (B + 1 + 1) 7 _ _ (.func (.func 52) #[] #[.pointer (some ⟨B + 1 + 1 + 1, 0, none⟩)]) hmb
    have hall : Ch [] w2 (W1.setCell ⟨B + 1 + 1, 7, none⟩ (.func (.func 52) #[] #[.pointer (some ⟨B + 1 + 1 + 1, 0, none⟩)])) := Ch.new (HC0.out.trans hc1) (by have := HBE.out; omega) hS
    have hM := mat_new HI.out hall (by have := HBE.out; omega) (by have := HBE.out; omega) (by omega) (by omega) (by omega) hmb9 hcb9 hmv9
    have HMN := Lib.hid hM
    have HAL := Lib.hid hall
    clear hM hall hcb9 hmv9 hmb9 hS hcb hmv hmb hc1 hw1
    go_wp2
    go_ret2
    have hsb := HB.out.size
    have hbe := HBE.out
    exact ⟨⟨_, rfl, rfl, rfl, HMN.out, by simp; omega, by simp; omega⟩, HB.out.trans (HAL.out.below.mono HB.out.size)⟩
  · have a3 := alloc3 W0 (.cells (capC (zc g.caps)).toArray 43) (.cells #[.pointer (some ⟨B + 1 + 1 + 1, 0, none⟩)] 76) (.cells #[.string s, .bool g.start, .bool g.fin, .slice p1 g.its.length c1, .int .i64 (g.caps : Int), .slice (some ⟨B + 1, 0, none⟩) g.caps g.caps, .int .i64 100000, .nilFunc] 82)
    rw [hz0] at a3
    obtain ⟨hcb, hmv, hmb, hc1⟩ := a3
    obtain ⟨W1, hw1⟩ : ∃ W1, (((W0.alloc (.cells (capC (zc g.caps)).toArray 43)).alloc (.cells #[.pointer (some ⟨B + 1 + 1 + 1, 0, none⟩)] 76)).alloc (.cells #[.string s, .bool g.start, .bool g.fin, .slice p1 g.its.length c1, .int .i64 (g.caps : Int), .slice (some ⟨B + 1, 0, none⟩) g.caps g.caps, .int .i64 100000, .nilFunc] 82)).drew = W1 := ⟨_, rfl⟩
    rw [hw1] at hcb hmb hmv hc1
    simp only [Exit.then]
    rw [hw1]
    have g0 : W1.cell? ⟨B + 1 + 1, 0, none⟩ = some (.pointer (some ⟨B + 1 + 1 + 1, 0, none⟩)) := by simp [World.cell?, hmv]
    have g7 : W1.cell? ⟨B + 1 + 1 + 1, 7, none⟩ = some .nilFunc := by simp [World.cell?, hmb]
    have f7 : W1.frozen? ⟨B + 1 + 1 + 1, 7, none⟩ = false := by simp [World.frozen?, hmb]
    have hsz := hc1.size
    have hS : Ch [B + 1 + 1 + 1] W1 (W1.setCell ⟨B + 1 + 1 + 1, 7, none⟩ (.func (.func 52) #[] #[.pointer (some ⟨B + 1 + 1, 0, none⟩)])) := (Ch.refl _ _).set _ 7 _ (Or.inl (by simp))
    have hcb9 := (Below.heap_setCell W1 ⟨B + 1 + 1 + 1, 7, none⟩ (.func (.func 52) #[] #[.pointer (some ⟨B + 1 + 1, 0, none⟩)]) (B + 1) (by simp)).trans hcb
    have hmv9 := (Below.heap_setCell W1 ⟨B + 1 + 1 + 1, 7, none⟩ (.func (.func 52) #[] #[.pointer (some ⟨B + 1 + 1, 0, none⟩)]) (B + 1 + 1) (by simp)).trans hmv
    have hmb9 := set_same W1 (B + 1 + 1 + 1) 7 _ _ (.func (.func 52) #[] #[.pointer (some ⟨B + 1 + 1, 0, none⟩)]) hmb
    have hall : Ch [] w2 (W1.setCell ⟨B + 1 + 1 + 1, 7, none⟩ (.func (.func 52) #[] #[.pointer (some ⟨B + 1 + 1, 0, none⟩)])) := Ch.new (HC0.out.trans hc1) (by have := HBE.out; omega) hS
    have hM := mat_new HI.out hall (by have := HBE.out; omega) (by have := HBE.out; omega) (by omega) (by omega) (by omega) hmb9 hcb9 hmv9
    have HMN := Lib.hid hM
    have HAL := Lib.hid hall
    clear hM hall hcb9 hmv9 hmb9 hS hcb hmv hmb hc1 hw1
    go_wp2
    go_ret2
    have hsb := HB.out.size
    have hbe := HBE.out
    exact ⟨⟨_, rfl, rfl, rfl, HMN.out, by simp; omega, by simp; omega⟩, HB.out.trans (HAL.out.below.mono HB.out.size)⟩
  · have a3 := alloc3 W0 (.cells #[.pointer (some ⟨B + 1 + 1 + 1, 0, none⟩)] 76) (.cells (capC (zc g.caps)).toArray 43) (.cells #[.string s, .bool g.start, .bool g.fin, .slice p1 g.its.length c1, .int .i64 (g.caps : Int), .slice (some ⟨B + 1 + 1, 0, none⟩) g.caps g.caps, .int .i64 100000, .nilFunc] 82)
    rw [hz0] at a3
    obtain ⟨hmv, hcb, hmb, hc1⟩ := a3
    obtain ⟨W1, hw1⟩ : ∃ W1, (((W0.alloc (.cells #[.pointer (some ⟨B + 1 + 1 + 1, 0, none⟩)] 76)).alloc (.cells (capC (zc g.caps)).toArray 43)).alloc (.cells #[.string s, .bool g.start, .bool g.fin, .slice p1 g.its.length c1, .int .i64 (g.caps : Int), .slice (some ⟨B + 1 + 1, 0, none⟩) g.caps g.caps, .int .i64 100000, .nilFunc] 82)).drew = W1 := ⟨_, rfl⟩
    rw [hw1] at hcb hmb hmv hc1
    simp only [Exit.then]
    rw [hw1]
    have g0 : W1.cell? ⟨B + 1, 0, none⟩ = some (.pointer (some ⟨B + 1 + 1 + 1, 0, none⟩)) := by simp [World.cell?, hmv]
    have g7 : W1.cell? ⟨B + 1 + 1 + 1, 7, none⟩ = some .nilFunc := by simp [World.cell?, hmb]
    have f7 : W1.frozen? ⟨B + 1 + 1 + 1, 7, none⟩ = false := by simp [World.frozen?, hmb]
    have hsz := hc1.size
    have hS : Ch [B + 1 + 1 + 1] W1 (W1.setCell ⟨B + 1 + 1 + 1, 7, none⟩ (.func (.func 52) #[] #[.pointer (some ⟨B + 1, 0, none⟩)])) := (Ch.refl _ _).set _ 7 _ (Or.inl (by simp))
    have hcb9 := (Below.heap_setCell W1 ⟨B + 1 + 1 + 1, 7, none⟩ (.func (.func 52) #[] #[.pointer (some ⟨B + 1, 0, none⟩)]) (B + 1 + 1) (by simp)).trans hcb
    have hmv9 := (Below.heap_setCell W1 ⟨B + 1 + 1 + 1, 7, none⟩ (.func (.func 52) #[] #[.pointer (some ⟨B + 1, 0, none⟩)]) (B + 1) (by simp)).trans hmv
    have hmb9 := set_same W1 (B + 1 + 1 + 1) 7 _ _ (.func (.func 52) #[] #[.pointer (some ⟨B + 1, 0, none⟩)]) hmb
    have hall : Ch [] w2 (W1.setCell ⟨B + 1 + 1 + 1, 7, none⟩ (.func (.func 52) #[] #[.pointer (some ⟨B + 1, 0, none⟩)])) := Ch.new (HC0.out.trans hc1) (by have := HBE.out; omega) hS
    have hM := mat_new HI.out hall (by have := HBE.out; omega) (by have := HBE.out; omega) (by omega) (by omega) (by omega) hmb9 hcb9 hmv9
    have HMN := Lib.hid hM
    have HAL := Lib.hid hall
    clear hM hall hcb9 hmv9 hmb9 hS hcb hmv hmb hc1 hw1
    go_wp2
    go_ret2
    have hsb := HB.out.size
    have hbe := HBE.out
    exact ⟨⟨_, rfl, rfl, rfl, HMN.out, by simp; omega, by simp; omega⟩, HB.out.trans (HAL.out.below.mono HB.out.size)⟩
end Go.Proofs.YtkbcaklleiapdaaDoor
