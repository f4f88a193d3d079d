/- Layer 20: what Check of the code calls. -/
import Derived.Test.YtdgdpckjcpgoaaaPrE
namespace Go.Proofs.Ytdgdpckjcpgoaaa
open Go.RowKit Go.Joins M1
set_option linter.unusedVariables false
theorem isnum_any (n : Int) (w : World) : Calls Try.prog 43 #[.int .i64 n] w fun e w' => e = .returned (.bool (decide (0 ≤ n ∧ n ≤ 255))) ∧ w = w' := by
  by_cases h0 : 0 ≤ n
  · by_cases h1 : n ≤ 255
    · rw [decide_eq_true (show 0 ≤ n ∧ n ≤ 255 from ⟨h0, h1⟩)]
      go_enter Try.func43, Try.ntmps43
      go_wp2
      go_ret
      exact ⟨rfl, rfl⟩
    · rw [decide_eq_false (show ¬ (0 ≤ n ∧ n ≤ 255) from fun h => h1 h.2)]
      go_enter Try.func43, Try.ntmps43
      go_wp2
      go_ret
      exact ⟨rfl, rfl⟩
  · rw [decide_eq_false (show ¬ (0 ≤ n ∧ n ≤ 255) from fun h => h0 h.1)]
    go_enter Try.func43, Try.ntmps43
    go_wp2
    go_ret
    exact ⟨rfl, rfl⟩
set_option maxHeartbeats 2000000 in
theorem pvalid_any (v : Value) (l : List V5) (w : World) (h : VA w v l) (hl : l.length ≤ 1000000) :
    Calls Try.prog 37 #[v] w fun e w' => e = .returned (.bool (l.all okV)) ∧ Ch [] w w' := by
  obtain ⟨p, c, rfl, hc, hv⟩ := h
  obtain ⟨p', c', e', hk⟩ := hv.form
  injection e' with e1 e2 e3
  subst e1 e3
  obtain ⟨res, hres⟩ : ∃ res, res = l.all okV := ⟨_, rfl⟩
  rw [← hres]
  have HR := Lib.hid hres
  clear hv hc hres
  have HK := Lib.hid hk
  have HL := Lib.hid hl
  clear hk
  obtain ⟨n, hn⟩ : ∃ n, n = l.length := ⟨_, rfl⟩
  have HNN := Lib.hid hn
  rw [← hn]
  clear hn hl
  go_enter Try.func37, Try.ntmps37
  go_wp2
  go_loopw [7] (fun v7 wr => ∃ (k : Nat), k ≤ n ∧ v7 = .int .i64 (k : Int) ∧ Hid ((l.take k).all okV = true) ∧ Hid (Ch [] w wr)) (fun v7 _ => n - (intOf v7).toNat)
  case atStart => exact ⟨0, Nat.zero_le _, rfl, Lib.hid rfl, Lib.hid (Ch.refl _ _)⟩
  case round =>
    obtain ⟨k, hk, rfl, HT, HB⟩ := hrel
    rename World => W0
    by_cases hlt : k < n
    · have hlt' : (k : Int) < (n : Int) := by omega
      have hi0' : (0 : Int) ≤ (k : Int) := by omega
      have di : IntKind.i64.wrap ((k : Int) + 1) = (k : Int) + 1 := IntWalk.i64_in _ (by have := HL.out; have := HNN.out; omega)
      have hkl : k < l.length := by have := HNN.out; omega
      obtain ⟨g, o, rfl, hg, hcv⟩ := HK.out (by omega)
      obtain ⟨x, hx⟩ : ∃ x, x = l[k] := ⟨_, rfl⟩
      have m1 : ∀ j, j < 5 → W0.cell? ⟨g, o + k * 5 + j, none⟩ = (vC x)[j]? := fun j hj => (HB.out.below.cell (p := ⟨g, _, none⟩) hg).trans (by rw [hx]; exact hcv k j hkl hj)
      have hg2 : g < W0.heap.size := Nat.lt_of_lt_of_le hg HB.out.size
      have s0 : W0.cell? ⟨g, o + k * 5, none⟩ = some (.int .i64 x.k) := m1 0 (by omega)
      have s1 : W0.cell? ⟨g, o + k * 5 + 1, none⟩ = some (.int .i64 x.p) := m1 1 (by omega)
      have s2 : W0.cell? ⟨g, o + k * 5 + 2, none⟩ = some (.int .i64 x.q) := m1 2 (by omega)
      have s3 : W0.cell? ⟨g, o + k * 5 + 3, none⟩ = some (.string x.s) := m1 3 (by omega)
      have s4 : W0.cell? ⟨g, o + k * 5 + 4, none⟩ = some (.int .i64 x.r) := m1 4 (by omega)
      have HTk : Hid (l.take (k + 1) = l.take k ++ [x]) := Lib.hid (by rw [hx, List.take_succ_eq_append_getElem hkl])
      have HX : Hid (x ∈ l) := Lib.hid (by rw [hx]; exact List.getElem_mem hkl)
      clear m1 hcv hx hkl
      cases hok : okV x with
      | true =>
        have QV : Hid (∀ W, Calls Try.prog 44 #[.agg #[.int .i64 x.k, .int .i64 x.p, .int .i64 x.q, .string x.s, .int .i64 x.r]] W fun e w' => e = .returned (.bool true) ∧ Below W.heap.size W w') := Lib.hid fun W => by rw [← hok]; exact valid5 x.k x.p x.q x.s x.r W
        have HOK := Lib.hid hok
        clear hok
        have HA : Hid (Ch [] w (W0.alloc (.cells #[.int .i64 x.k, .int .i64 x.p, .int .i64 x.q, .string x.s, .int .i64 x.r] 26))) := Lib.hid (HB.out.alloc _)
        go_wp2_with (go_at_call 44; (with_reducible refine (QV.out _).mono ?_); rintro e w1 ⟨rfl, hb⟩; have HC1 : Hid (Ch [] w w1) := Lib.hid (HA.out.trans (Ch.of_below hb)); clear hb)
        go_roundw
        case rel => exact ⟨k + 1, by omega, by go_num, Lib.hid (by rw [HTk.out, List.all_append, HT.out]; simp [HOK.out]), HC1⟩
        case measure => simp [intOf]; omega
      | false =>
        have QV : Hid (∀ W, Calls Try.prog 44 #[.agg #[.int .i64 x.k, .int .i64 x.p, .int .i64 x.q, .string x.s, .int .i64 x.r]] W fun e w' => e = .returned (.bool false) ∧ Below W.heap.size W w') := Lib.hid fun W => by rw [← hok]; exact valid5 x.k x.p x.q x.s x.r W
        have HF : Hid (l.all okV = false) := Lib.hid (by rw [List.all_eq_false]; exact ⟨x, HX.out, by simp [hok]⟩)
        clear hok
        have HA : Hid (Ch [] w (W0.alloc (.cells #[.int .i64 x.k, .int .i64 x.p, .int .i64 x.q, .string x.s, .int .i64 x.r] 26))) := Lib.hid (HB.out.alloc _)
        go_wp2_with (go_at_call 44; (with_reducible refine (QV.out _).mono ?_); rintro e w1 ⟨rfl, hb⟩; have HC1 : Hid (Ch [] w w1) := Lib.hid (HA.out.trans (Ch.of_below hb)); clear hb)
        go_ret
        exact ⟨by rw [HR.out, HF.out]; rfl, HC1.out⟩
    · have hlt' : ¬ (k : Int) < (n : Int) := by omega
      have HF : Hid (l.all okV = true) := Lib.hid (by have := HT.out; rwa [List.take_of_length_le (by have := HNN.out; omega)] at this)
      go_wp2
      go_ret
      exact ⟨by rw [HR.out, HF.out]; rfl, HB.out⟩
set_option maxHeartbeats 2000000 in
theorem wf_1 (op : Int) (f : V5) (s : ByteArray) (lv nx : Int) (p1 p2 : Option Addr) (n1 n2 c1 c2 : Nat) (w : World) :
    Calls Try.prog 42 #[.agg #[.int .i64 1, .int .i64 op, .int .i64 f.k, .int .i64 f.p, .int .i64 f.q, .string f.s, .int .i64 f.r, .slice p1 n1 c1, .string s, .int .i64 lv, .int .i64 nx, .slice p2 n2 c2]] w fun e w' => e = .returned (.tuple #[.agg #[.int .i64 0, .int .i64 op, .int .i64 f.k, .int .i64 f.p, .int .i64 f.q, .string f.s, .int .i64 f.r, .slice none 0 0, .string s, .int .i64 lv, .int .i64 nx, .slice p2 n2 c2], .bool true]) ∧ Ch [] w w' := by
  go_enter Try.func42, Try.ntmps42
  go_wp2
  refine bodyPost_ret (v := .tuple #[.agg #[.int .i64 0, .int .i64 op, .int .i64 f.k, .int .i64 f.p, .int .i64 f.q, .string f.s, .int .i64 f.r, .slice none 0 0, .string s, .int .i64 lv, .int .i64 nx, .slice p2 n2 c2], .bool true]) (by simp [results, Try.results42, go_sem]) rfl ⟨rfl, ?_⟩
  first | exact ((Ch.refl [] w).alloc _).alloc _ | exact (((Ch.refl [] w).alloc _).alloc _).drew
set_option maxHeartbeats 2000000 in
theorem wf_2 (op : Int) (f : V5) (s : ByteArray) (lv nx : Int) (p1 p2 : Option Addr) (n1 n2 c1 c2 : Nat) (w : World) :
    Calls Try.prog 42 #[.agg #[.int .i64 2, .int .i64 op, .int .i64 f.k, .int .i64 f.p, .int .i64 f.q, .string f.s, .int .i64 f.r, .slice p1 n1 c1, .string s, .int .i64 lv, .int .i64 nx, .slice p2 n2 c2]] w fun e w' => e = .returned (.tuple #[.agg #[.int .i64 0, .int .i64 op, .int .i64 f.k, .int .i64 f.p, .int .i64 f.q, .string f.s, .int .i64 f.r, .slice none 0 0, .string s, .int .i64 0, .int .i64 nx, .slice p2 n2 c2], .bool true]) ∧ Ch [] w w' := by
  go_enter Try.func42, Try.ntmps42
  go_wp2
  refine bodyPost_ret (v := .tuple #[.agg #[.int .i64 0, .int .i64 op, .int .i64 f.k, .int .i64 f.p, .int .i64 f.q, .string f.s, .int .i64 f.r, .slice none 0 0, .string s, .int .i64 0, .int .i64 nx, .slice p2 n2 c2], .bool true]) (by simp [results, Try.results42, go_sem]) rfl ⟨rfl, ?_⟩
  first | exact ((Ch.refl [] w).alloc _).alloc _ | exact (((Ch.refl [] w).alloc _).alloc _).drew
set_option maxHeartbeats 2000000 in
theorem wf_3 (op : Int) (f : V5) (s : ByteArray) (lv nx : Int) (p1 p2 : Option Addr) (n1 n2 c1 c2 : Nat) (w : World) :
    Calls Try.prog 42 #[.agg #[.int .i64 3, .int .i64 op, .int .i64 f.k, .int .i64 f.p, .int .i64 f.q, .string f.s, .int .i64 f.r, .slice p1 n1 c1, .string s, .int .i64 lv, .int .i64 nx, .slice p2 n2 c2]] w fun e w' => e = .returned (.tuple #[.agg #[.int .i64 0, .int .i64 op, .int .i64 0, .int .i64 0, .int .i64 0, .string ⟨#[]⟩, .int .i64 0, .slice none 0 0, .string s, .int .i64 lv, .int .i64 0, .slice none 0 0], .bool true]) ∧ Ch [] w w' := by
  go_enter Try.func42, Try.ntmps42
  go_wp2
  refine bodyPost_ret (v := .tuple #[.agg #[.int .i64 0, .int .i64 op, .int .i64 0, .int .i64 0, .int .i64 0, .string ⟨#[]⟩, .int .i64 0, .slice none 0 0, .string s, .int .i64 lv, .int .i64 0, .slice none 0 0], .bool true]) (by simp [results, Try.results42, go_sem]) rfl ⟨rfl, ?_⟩
  first | exact ((Ch.refl [] w).alloc _).alloc _ | exact (((Ch.refl [] w).alloc _).alloc _).drew
set_option maxHeartbeats 2000000 in
theorem wf_4 (op : Int) (f : V5) (s : ByteArray) (lv nx : Int) (p1 p2 : Option Addr) (n1 n2 c1 c2 : Nat) (w : World) :
    Calls Try.prog 42 #[.agg #[.int .i64 4, .int .i64 op, .int .i64 f.k, .int .i64 f.p, .int .i64 f.q, .string f.s, .int .i64 f.r, .slice p1 n1 c1, .string s, .int .i64 lv, .int .i64 nx, .slice p2 n2 c2]] w fun e w' => e = .returned (.tuple #[.agg #[.int .i64 0, .int .i64 op, .int .i64 0, .int .i64 0, .int .i64 0, .string ⟨#[]⟩, .int .i64 0, .slice none 0 0, .string s, .int .i64 lv, .int .i64 0, .slice none 0 0], .bool true]) ∧ Ch [] w w' := by
  go_enter Try.func42, Try.ntmps42
  go_wp2
  refine bodyPost_ret (v := .tuple #[.agg #[.int .i64 0, .int .i64 op, .int .i64 0, .int .i64 0, .int .i64 0, .string ⟨#[]⟩, .int .i64 0, .slice none 0 0, .string s, .int .i64 lv, .int .i64 0, .slice none 0 0], .bool true]) (by simp [results, Try.results42, go_sem]) rfl ⟨rfl, ?_⟩
  first | exact ((Ch.refl [] w).alloc _).alloc _ | exact (((Ch.refl [] w).alloc _).alloc _).drew
set_option maxHeartbeats 2000000 in
theorem wf_5 (op : Int) (f : V5) (s : ByteArray) (lv nx : Int) (p1 p2 : Option Addr) (n1 n2 c1 c2 : Nat) (w : World) :
    Calls Try.prog 42 #[.agg #[.int .i64 5, .int .i64 op, .int .i64 f.k, .int .i64 f.p, .int .i64 f.q, .string f.s, .int .i64 f.r, .slice p1 n1 c1, .string s, .int .i64 lv, .int .i64 nx, .slice p2 n2 c2]] w fun e w' => e = .returned (.tuple #[.agg #[.int .i64 0, .int .i64 op, .int .i64 f.k, .int .i64 f.p, .int .i64 f.q, .string f.s, .int .i64 f.r, .slice none 0 0, .string s, .int .i64 lv, .int .i64 0, .slice none 0 0], .bool true]) ∧ Ch [] w w' := by
  go_enter Try.func42, Try.ntmps42
  go_wp2
  refine bodyPost_ret (v := .tuple #[.agg #[.int .i64 0, .int .i64 op, .int .i64 f.k, .int .i64 f.p, .int .i64 f.q, .string f.s, .int .i64 f.r, .slice none 0 0, .string s, .int .i64 lv, .int .i64 0, .slice none 0 0], .bool true]) (by simp [results, Try.results42, go_sem]) rfl ⟨rfl, ?_⟩
  first | exact ((Ch.refl [] w).alloc _).alloc _ | exact (((Ch.refl [] w).alloc _).alloc _).drew
set_option maxHeartbeats 2000000 in
theorem wf_6 (op : Int) (f : V5) (s : ByteArray) (lv nx : Int) (p1 p2 : Option Addr) (n1 n2 c1 c2 : Nat) (w : World) :
    Calls Try.prog 42 #[.agg #[.int .i64 6, .int .i64 op, .int .i64 f.k, .int .i64 f.p, .int .i64 f.q, .string f.s, .int .i64 f.r, .slice p1 n1 c1, .string s, .int .i64 lv, .int .i64 nx, .slice p2 n2 c2]] w fun e w' => e = .returned (.tuple #[.agg #[.int .i64 0, .int .i64 0, .int .i64 f.k, .int .i64 f.p, .int .i64 f.q, .string f.s, .int .i64 f.r, .slice none 0 0, .string s, .int .i64 lv, .int .i64 nx, .slice p2 n2 c2], .bool true]) ∧ Ch [] w w' := by
  go_enter Try.func42, Try.ntmps42
  go_wp2
  refine bodyPost_ret (v := .tuple #[.agg #[.int .i64 0, .int .i64 0, .int .i64 f.k, .int .i64 f.p, .int .i64 f.q, .string f.s, .int .i64 f.r, .slice none 0 0, .string s, .int .i64 lv, .int .i64 nx, .slice p2 n2 c2], .bool true]) (by simp [results, Try.results42, go_sem]) rfl ⟨rfl, ?_⟩
  first | exact ((Ch.refl [] w).alloc _).alloc _ | exact (((Ch.refl [] w).alloc _).alloc _).drew
set_option maxHeartbeats 2000000 in
theorem wf_7 (op : Int) (f : V5) (s : ByteArray) (lv nx : Int) (p1 p2 : Option Addr) (n1 n2 c1 c2 : Nat) (w : World) :
    Calls Try.prog 42 #[.agg #[.int .i64 7, .int .i64 op, .int .i64 f.k, .int .i64 f.p, .int .i64 f.q, .string f.s, .int .i64 f.r, .slice p1 n1 c1, .string s, .int .i64 lv, .int .i64 nx, .slice p2 n2 c2]] w fun e w' => e = .returned (.tuple #[.agg #[.int .i64 0, .int .i64 op, .int .i64 f.k, .int .i64 f.p, .int .i64 f.q, .string f.s, .int .i64 f.r, .slice p1 n1 c1, .string s, .int .i64 lv, .int .i64 0, .slice none 0 0], .bool true]) ∧ Ch [] w w' := by
  go_enter Try.func42, Try.ntmps42
  go_wp2
  refine bodyPost_ret (v := .tuple #[.agg #[.int .i64 0, .int .i64 op, .int .i64 f.k, .int .i64 f.p, .int .i64 f.q, .string f.s, .int .i64 f.r, .slice p1 n1 c1, .string s, .int .i64 lv, .int .i64 0, .slice none 0 0], .bool true]) (by simp [results, Try.results42, go_sem]) rfl ⟨rfl, ?_⟩
  first | exact ((Ch.refl [] w).alloc _).alloc _ | exact (((Ch.refl [] w).alloc _).alloc _).drew
set_option maxHeartbeats 2000000 in
theorem wf_8 (op : Int) (f : V5) (s : ByteArray) (lv nx : Int) (p1 p2 : Option Addr) (n1 n2 c1 c2 : Nat) (w : World) :
    Calls Try.prog 42 #[.agg #[.int .i64 8, .int .i64 op, .int .i64 f.k, .int .i64 f.p, .int .i64 f.q, .string f.s, .int .i64 f.r, .slice p1 n1 c1, .string s, .int .i64 lv, .int .i64 nx, .slice p2 n2 c2]] w fun e w' => e = .returned (.tuple #[.agg #[.int .i64 0, .int .i64 op, .int .i64 f.k, .int .i64 f.p, .int .i64 f.q, .string f.s, .int .i64 f.r, .slice p1 n1 c1, .string ⟨#[]⟩, .int .i64 lv, .int .i64 nx, .slice p2 n2 c2], .bool true]) ∧ Ch [] w w' := by
  go_enter Try.func42, Try.ntmps42
  go_wp2
  refine bodyPost_ret (v := .tuple #[.agg #[.int .i64 0, .int .i64 op, .int .i64 f.k, .int .i64 f.p, .int .i64 f.q, .string f.s, .int .i64 f.r, .slice p1 n1 c1, .string ⟨#[]⟩, .int .i64 lv, .int .i64 nx, .slice p2 n2 c2], .bool true]) (by simp [results, Try.results42, go_sem]) rfl ⟨rfl, ?_⟩
  first | exact ((Ch.refl [] w).alloc _).alloc _ | exact (((Ch.refl [] w).alloc _).alloc _).drew
set_option maxHeartbeats 2000000 in
theorem wf_9 (op : Int) (f : V5) (s : ByteArray) (lv nx : Int) (p1 p2 : Option Addr) (n1 n2 c1 c2 : Nat) (w : World) :
    Calls Try.prog 42 #[.agg #[.int .i64 9, .int .i64 op, .int .i64 f.k, .int .i64 f.p, .int .i64 f.q, .string f.s, .int .i64 f.r, .slice p1 n1 c1, .string s, .int .i64 lv, .int .i64 nx, .slice p2 n2 c2]] w fun e w' => e = .returned (.tuple #[.agg #[.int .i64 0, .int .i64 op, .int .i64 f.k, .int .i64 f.p, .int .i64 f.q, .string f.s, .int .i64 f.r, .slice p1 n1 c1, .string ⟨#[]⟩, .int .i64 lv, .int .i64 0, .slice none 0 0], .bool true]) ∧ Ch [] w w' := by
  go_enter Try.func42, Try.ntmps42
  go_wp2
  refine bodyPost_ret (v := .tuple #[.agg #[.int .i64 0, .int .i64 op, .int .i64 f.k, .int .i64 f.p, .int .i64 f.q, .string f.s, .int .i64 f.r, .slice p1 n1 c1, .string ⟨#[]⟩, .int .i64 lv, .int .i64 0, .slice none 0 0], .bool true]) (by simp [results, Try.results42, go_sem]) rfl ⟨rfl, ?_⟩
  first | exact ((Ch.refl [] w).alloc _).alloc _ | exact (((Ch.refl [] w).alloc _).alloc _).drew
set_option maxHeartbeats 2000000 in
theorem wf_0 (op : Int) (f : V5) (s : ByteArray) (lv nx : Int) (p1 p2 : Option Addr) (n1 n2 c1 c2 : Nat) (w : World) (k : Int) (h1 : ¬ k = 1) (h2 : ¬ k = 2) (h3 : ¬ k = 3) (h4 : ¬ k = 4) (h5 : ¬ k = 5) (h6 : ¬ k = 6) (h7 : ¬ k = 7) (h8 : ¬ k = 8) (h9 : ¬ k = 9) :
    Calls Try.prog 42 #[.agg #[.int .i64 k, .int .i64 op, .int .i64 f.k, .int .i64 f.p, .int .i64 f.q, .string f.s, .int .i64 f.r, .slice p1 n1 c1, .string s, .int .i64 lv, .int .i64 nx, .slice p2 n2 c2]] w fun e w' => e = .returned (.tuple #[.agg #[.int .i64 k, .int .i64 op, .int .i64 f.k, .int .i64 f.p, .int .i64 f.q, .string f.s, .int .i64 f.r, .slice p1 n1 c1, .string s, .int .i64 lv, .int .i64 nx, .slice p2 n2 c2], .bool false]) ∧ Ch [] w w' := by
  have b1 : (k == 1) = false := by rw [beq_eq_false_iff_ne]; exact h1
  have b2 : (k == 2) = false := by rw [beq_eq_false_iff_ne]; exact h2
  have b3 : (k == 3) = false := by rw [beq_eq_false_iff_ne]; exact h3
  have b4 : (k == 4) = false := by rw [beq_eq_false_iff_ne]; exact h4
  have b5 : (k == 5) = false := by rw [beq_eq_false_iff_ne]; exact h5
  have b6 : (k == 6) = false := by rw [beq_eq_false_iff_ne]; exact h6
  have b7 : (k == 7) = false := by rw [beq_eq_false_iff_ne]; exact h7
  have b8 : (k == 8) = false := by rw [beq_eq_false_iff_ne]; exact h8
  have b9 : (k == 9) = false := by rw [beq_eq_false_iff_ne]; exact h9
  go_enter Try.func42, Try.ntmps42
  go_wp2
  refine bodyPost_ret (v := .tuple #[.agg #[.int .i64 k, .int .i64 op, .int .i64 f.k, .int .i64 f.p, .int .i64 f.q, .string f.s, .int .i64 f.r, .slice p1 n1 c1, .string s, .int .i64 lv, .int .i64 nx, .slice p2 n2 c2], .bool false]) (by simp [results, Try.results42, go_sem]) rfl ⟨rfl, ?_⟩
  first | exact ((Ch.refl [] w).alloc _).alloc _ | exact (((Ch.refl [] w).alloc _).alloc _).drew
def inK (k : Int) : Bool := decide (1 ≤ k ∧ k ≤ 9)
def clrA (a : Act) : Act :=
  if a.k = 1 then { a with k := 0, l := [] } else
  if a.k = 2 then { a with k := 0, l := [], lv := 0 } else
  if a.k = 3 then { a with k := 0, f := v5z, l := [], nx := 0, kp := [] } else
  if a.k = 4 then { a with k := 0, f := v5z, l := [], nx := 0, kp := [] } else
  if a.k = 5 then { a with k := 0, l := [], nx := 0, kp := [] } else
  if a.k = 6 then { a with k := 0, op := 0, l := [] } else
  if a.k = 7 then { a with k := 0, nx := 0, kp := [] } else
  if a.k = 8 then { a with k := 0, s := ⟨#[]⟩ } else
  if a.k = 9 then { a with k := 0, s := ⟨#[]⟩, nx := 0, kp := [] } else
  a
theorem wf_any (a : Act) (vl vk : Value) (w : World) (h1 : VA w vl a.l) (h2 : VA w vk a.kp) :
    Calls Try.prog 42 #[.agg #[.int .i64 a.k, .int .i64 a.op, .int .i64 a.f.k, .int .i64 a.f.p, .int .i64 a.f.q, .string a.f.s, .int .i64 a.f.r, vl, .string a.s, .int .i64 a.lv, .int .i64 a.nx, vk]] w fun e w' => (∃ vl' vk', e = .returned (.tuple #[.agg #[.int .i64 (clrA a).k, .int .i64 (clrA a).op, .int .i64 (clrA a).f.k, .int .i64 (clrA a).f.p, .int .i64 (clrA a).f.q, .string (clrA a).f.s, .int .i64 (clrA a).f.r, vl', .string (clrA a).s, .int .i64 (clrA a).lv, .int .i64 (clrA a).nx, vk'], .bool (inK a.k)]) ∧ VA w vl' (clrA a).l ∧ VA w vk' (clrA a).kp) ∧ Ch [] w w' := by
  obtain ⟨p1, c1, rfl, q1, r1⟩ := h1
  obtain ⟨p2, c2, rfl, q2, r2⟩ := h2
  have H1 : VA w (.slice p1 a.l.length c1) a.l := ⟨p1, c1, rfl, q1, r1⟩
  have H2 : VA w (.slice p2 a.kp.length c2) a.kp := ⟨p2, c2, rfl, q2, r2⟩
  have HN := VA.nil w
  obtain ⟨k, op, f, l, s, lv, nx, kp⟩ := a
  simp only at H1 H2 q1 q2 r1 r2
  by_cases e1 : k = 1
  · subst e1
    exact (wf_1 op f s lv nx p1 p2 l.length kp.length c1 c2 w).mono fun e w' hh => ⟨⟨(.slice none 0 0), (.slice p2 kp.length c2), hh.1, HN, H2⟩, hh.2⟩
  by_cases e2 : k = 2
  · subst e2
    exact (wf_2 op f s lv nx p1 p2 l.length kp.length c1 c2 w).mono fun e w' hh => ⟨⟨(.slice none 0 0), (.slice p2 kp.length c2), hh.1, HN, H2⟩, hh.2⟩
  by_cases e3 : k = 3
  · subst e3
    exact (wf_3 op f s lv nx p1 p2 l.length kp.length c1 c2 w).mono fun e w' hh => ⟨⟨(.slice none 0 0), (.slice none 0 0), hh.1, HN, HN⟩, hh.2⟩
  by_cases e4 : k = 4
  · subst e4
    exact (wf_4 op f s lv nx p1 p2 l.length kp.length c1 c2 w).mono fun e w' hh => ⟨⟨(.slice none 0 0), (.slice none 0 0), hh.1, HN, HN⟩, hh.2⟩
  by_cases e5 : k = 5
  · subst e5
    exact (wf_5 op f s lv nx p1 p2 l.length kp.length c1 c2 w).mono fun e w' hh => ⟨⟨(.slice none 0 0), (.slice none 0 0), hh.1, HN, HN⟩, hh.2⟩
  by_cases e6 : k = 6
  · subst e6
    exact (wf_6 op f s lv nx p1 p2 l.length kp.length c1 c2 w).mono fun e w' hh => ⟨⟨(.slice none 0 0), (.slice p2 kp.length c2), hh.1, HN, H2⟩, hh.2⟩
  by_cases e7 : k = 7
  · subst e7
    exact (wf_7 op f s lv nx p1 p2 l.length kp.length c1 c2 w).mono fun e w' hh => ⟨⟨(.slice p1 l.length c1), (.slice none 0 0), hh.1, H1, HN⟩, hh.2⟩
  by_cases e8 : k = 8
  · subst e8
    exact (wf_8 op f s lv nx p1 p2 l.length kp.length c1 c2 w).mono fun e w' hh => ⟨⟨(.slice p1 l.length c1), (.slice p2 kp.length c2), hh.1, H1, H2⟩, hh.2⟩
  by_cases e9 : k = 9
  · subst e9
    exact (wf_9 op f s lv nx p1 p2 l.length kp.length c1 c2 w).mono fun e w' hh => ⟨⟨(.slice p1 l.length c1), (.slice none 0 0), hh.1, H1, HN⟩, hh.2⟩
  have hc : clrA ⟨k, op, f, l, s, lv, nx, kp⟩ = ⟨k, op, f, l, s, lv, nx, kp⟩ := by simp [clrA, e1, e2, e3, e4, e5, e6, e7, e8, e9]
  have hi : inK k = false := by unfold inK; rw [decide_eq_false_iff_not]; omega
  rw [hc, hi]
  exact (wf_0 op f s lv nx p1 p2 l.length kp.length c1 c2 w k e1 e2 e3 e4 e5 e6 e7 e8 e9).mono fun e w' hh => ⟨⟨_, _, hh.1, H1, H2⟩, hh.2⟩
end Go.Proofs.Ytdgdpckjcpgoaaa
