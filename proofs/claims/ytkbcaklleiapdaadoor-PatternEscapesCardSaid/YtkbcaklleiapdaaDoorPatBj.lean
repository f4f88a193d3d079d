/- Contracts of layer 4: the matches of All read; Replace. -/
import Derived.Test.YtkbcaklleiapdaaDoorPatBe
import Derived.Test.YtkbcaklleiapdaaDoorPatAi
import Derived.Test.YtkbcaklleiapdaaDoorPatAm
namespace Go.Proofs.YtkbcaklleiapdaaDoor
open Go.RowKit Go.Joins M4
set_option linter.unusedVariables false
theorem capR_own {w : World} {v : Value} {n : Nat} {m : Caps} (h : w.ownsRow 0 43 2 v n (capC m)) (hn : m.length = n) : ∃ p c, v = .slice p n c ∧ CapR w (.slice p n c) m := by
  obtain ⟨p, c, rfl⟩ := own_form h
  refine ⟨p, c, rfl, p, n, c, rfl, hn.symm, fun h0 => ?_⟩
  obtain ⟨g, rfl, h1, h2⟩ := caps_row h hn h0
  exact ⟨g, 0, rfl, h1, fun k c hk => by rw [Nat.zero_add]; exact h2 k c hk⟩
theorem cellsM_get : ∀ (ms : List Mt) (vs : List Value) (k : Nat) (m : Mt) (v : Value), ms[k]? = some m → vs[k]? = some v → (cellsM ms vs)[k * 3]? = some (.int .i64 (m.fr : Int)) ∧ (cellsM ms vs)[k * 3 + 1]? = some (.int .i64 (m.to : Int)) ∧ (cellsM ms vs)[k * 3 + 2]? = some v
  | [], _, k, m, v, h, _ => by simp at h
  | _ :: _, [], k, m, v, _, h => by simp at h
  | a :: ms, b :: vs, 0, m, v, h1, h2 => by
    simp at h1 h2
    subst h1 h2
    exact ⟨rfl, rfl, rfl⟩
  | a :: ms, b :: vs, k + 1, m, v, h1, h2 => by
    have ih := cellsM_get ms vs k m v (by simpa using h1) (by simpa using h2)
    have e : cellsM (a :: ms) (b :: vs) = .int .i64 (a.fr : Int) :: .int .i64 (a.to : Int) :: b :: cellsM ms vs := rfl
    rw [e, show (k + 1) * 3 = k * 3 + 1 + 1 + 1 by omega, show k * 3 + 1 + 1 + 1 + 1 = k * 3 + 1 + 1 + 1 + 1 from rfl]
    exact ⟨by simpa using ih.1, by simpa using ih.2.1, by simpa using ih.2.2⟩
/-- A list of matches that can be read. -/
def ReadM (w : World) (p : Option Addr) (n : Nat) (ms : List Mt) : Prop := ∃ g, p = some ⟨g, 0, none⟩ ∧ g < w.heap.size ∧ ∀ k m, ms[k]? = some m → ∃ q d, w.cell? ⟨g, k * 3, none⟩ = some (.int .i64 (m.fr : Int)) ∧ w.cell? ⟨g, k * 3 + 1, none⟩ = some (.int .i64 (m.to : Int)) ∧ w.cell? ⟨g, k * 3 + 2, none⟩ = some (.slice q n d) ∧ CapR w (.slice q n d) m.caps ∧ w.ownsRow 0 43 2 (.slice q n d) n (capC m.caps)
theorem mts_read {B n : Nat} {ms : List Mt} {vs : List Value} {p : Option Addr} {c len : Nat} {w : World} (h : Mts B n ms vs (.slice p len c) w) (hl : len = ms.length) (hn : ∀ m ∈ ms, m.caps.length = n) (h0 : 0 < len) : ReadM w p n ms := by
  subst hl
  obtain ⟨g, cap, hv⟩ := Joins.ownsRow_form h.own h0
  cases hv
  refine ⟨g, rfl, own_lt h.own (mem_ob.2 rfl), fun k m hk => ?_⟩
  have hkl := (List.getElem?_eq_some_iff.1 hk).1
  have hkv : vs[k]? = some (vs[k]'(by rw [h.len]; exact hkl)) := List.getElem?_eq_getElem _
  obtain ⟨h1, h2⟩ := h.cp k m _ hk hkv
  obtain ⟨q, d, e, h3⟩ := capR_own h1 (hn m (List.mem_of_getElem? hk))
  obtain ⟨c0, c1, c2⟩ := cellsM_get ms vs k m _ hk hkv
  rw [e] at c2 h1
  exact ⟨q, d, by rw [h.own.cellAt (k * 3) (by omega)]; exact c0, by rw [h.own.cellAt (k * 3 + 1) (by omega)]; exact c1, by rw [h.own.cellAt (k * 3 + 2) (by omega)]; exact c2, h3, h1⟩
theorem asc_take {s : List UInt8} {g : Pg} : ∀ (ms : List Mt) (n : Nat) (last : Option Nat) (i : Nat), Asc s g last i ms → Asc s g last i (ms.take n)
  | [], n, _, _, _ => by simp [Asc]
  | m :: ms, 0, _, _, _ => by simp [Asc]
  | m :: ms, n + 1, _, _, h => by
    obtain ⟨h1, h2, h3, h4, h5, h6⟩ := h
    exact ⟨h1, h2, h3, h4, h5, asc_take ms n _ _ h6⟩
theorem asc_caps {s : List UInt8} {g : Pg} (hg : Gok g) : ∀ (ms : List Mt) (last : Option Nat) (i : Nat), Asc s g last i ms → ∀ m ∈ ms, Mok s g.caps m
  | [], _, _, _, m, hm => by cases hm
  | a :: ms, last, i, h, m, hm => by
    obtain ⟨h1, h2, h3, h4, h5, h6⟩ := h
    rcases List.mem_cons.1 hm with rfl | h7
    · exact atM_ok hg h5 h3
    · exact asc_caps hg ms _ _ h6 m h7
theorem mok_lies {s : List UInt8} {n : Nat} {m : Mt} (h : Mok s n m) : liesB s.length m.fr m.to m.caps = true := by
  refine liesB_all (by omega) (by have := h.le; omega) (by have := h.hi; omega) fun j c hj hc => ?_
  have h1 := h.caps c (List.mem_of_getElem? hc)
  have h2 := h.hi
  obtain ⟨a, b⟩ := c
  simp only [] at h1
  unfold capB
  simp only [Bool.and_eq_true, decide_eq_true_eq]
  split <;> omega
def ReplSaid (r : Except Nat (List UInt8)) (n : Nat) (e : Ending) : Prop := match r with
  | .ok t => e = .returned (.tuple #[.string (bs t), .int .i64 (n : Int), .int .i64 0])
  | .error c => e = .returned (.tuple #[.string ⟨#[]⟩, .int .i64 0, .int .i64 (c : Int)])
theorem fillE_err {I : UInt8 → Option (List UInt8)} {repl : List UInt8} {c : Nat} (h : fillE I repl = .error c) : 0 < c := by
  unfold fillE at h
  split at h
  · cases h; decide
  · split at h
    · cases h; decide
    · cases h
theorem fillE_len {I : UInt8 → Option (List UInt8)} {repl t : List UInt8} (h : fillE I repl = .ok t) : t.length ≤ 4096 := by
  unfold fillE at h
  split at h
  · cases h
  · split at h
    · cases h
    · cases h; omega
end Go.Proofs.YtkbcaklleiapdaaDoor
namespace Go.Proofs.YtkbcaklleiapdaaDoor
open Go.RowKit Go.Joins M4
set_option linter.unusedVariables false
/-- A builder behind a world. -/
structure RB (B : Nat) (w1 : World) (acc : List UInt8) (wr : World) : Prop where
  bl : Bl B B acc wr
  bel : Below B w1 wr
  hz : B < wr.heap.size
  h1 : w1.heap.size = B
theorem RB.ch {B : Nat} {w1 : World} {acc : List UInt8} {W W' : World} (h : RB B w1 acc W) (hc : Ch [] W W') : RB B w1 acc W' :=
  ⟨bl_ch h.bl hc (by simp) (by simp), h.bel.trans (hc.below.mono (Nat.le_of_lt h.hz)), Nat.lt_of_lt_of_le h.hz hc.size, h.h1⟩
theorem RB.add {B : Nat} {w1 : World} {acc acc' : List UInt8} {W W' : World} (h : RB B w1 acc W) (hb : Bl B B acc' W') (hB : Below B W W') : RB B w1 acc' W' :=
  ⟨hb, h.bel.trans hB, Nat.lt_of_lt_of_le h.hz hB.size, h.h1⟩
theorem Mtb.others {R B : Nat} {cs : Array Value} {W W' : World} (h : Mtb R cs W) (hk : Lib.OthersKept 5 (some B) W W') (hR : R ≠ B) : Mtb R cs W' :=
  hk R _ h (by simp; exact hR) (fun c fz e => by injection e with _ e2; revert e2; decide)
theorem replE_nil (s repl : List UInt8) (a : Nat) (acc : List UInt8) : replE s repl [] a acc = if 4096 < (acc ++ s.drop a).length then .error 14 else .ok (acc ++ s.drop a) := by rfl
theorem replE_err {s repl : List UInt8} {m : Mt} {ms : List Mt} {a c : Nat} {acc : List UInt8} (h : fillE (insF s m.fr m.to m.caps) repl = .error c) : replE s repl (m :: ms) a acc = .error c := by
  rw [replE, h]
theorem replE_ok {s repl t : List UInt8} {m : Mt} {ms : List Mt} {a : Nat} {acc : List UInt8} (h : fillE (insF s m.fr m.to m.caps) repl = .ok t) : replE s repl (m :: ms) a acc = if 4096 < (acc ++ cutF s a m.fr ++ t).length then .error 14 else replE s repl ms m.to (acc ++ cutF s a m.fr ++ t) := by
  rw [replE, h]
set_option maxHeartbeats 16000000 in
set_option maxRecDepth 100000 in
theorem replace_ok (s p repl : ByteArray) (most : Int) (w : World) (hp : p.size ≤ 1000000) (hs : s.size ≤ 1000000) (n : Nat) (hrs : 0 < n → repl.size ≤ 1000000) (g : Pg) (hr : readF p.data.toList = .ok g) (hg : Gok g) (ms : List Mt) (hall : alln s.data.toList g 0 none 100000 = some ms) (hasc : Asc s.data.toList g none 0 ms) (hml : ms.length ≤ 10000000) (hT : Tab w)
    (hm : (most < 0 ∧ n = ms.length) ∨ (0 ≤ most ∧ (ms.length : Int) ≤ most ∧ n = ms.length) ∨ (most = (n : Int) ∧ n < ms.length)) :
    Calls Tryd.prog 22 #[.string s, .string p, .string repl, .int .i64 most] w fun e w' => ReplSaid (replE s.data.toList repl.data.toList (ms.take n) 0 []) n e ∧ Below w.heap.size w w' := by
  have QA0 : Calls Tryd.prog 21 #[.string s, .string p] w fun e w' => (∃ p c vs, e = .returned (.tuple #[.slice p ms.length c, .int .i64 0]) ∧ Mts w.heap.size g.caps ms vs (.slice p ms.length c) w') ∧ Below w.heap.size w w' := by
    have := all_ok s p w hp hs g hr
    rw [hall] at this
    exact this
  have QA := Lib.hid QA0
  clear QA0
  have hmok := asc_caps hg ms _ _ hasc
  have hsl : s.data.toList.length = s.size := by simp
  have hn : n ≤ ms.length := by omega
  obtain ⟨R, hR⟩ : ∃ R, replE s.data.toList repl.data.toList (ms.take n) 0 [] = R := ⟨_, rfl⟩
  rw [hR]
  have HR0 := Lib.hid hR
  have HAS := Lib.hid (asc_take ms n _ _ hasc)
  have HMO := Lib.hid hmok
  have HT := Lib.hid hT
  have HSL := Lib.hid hsl
  clear hr hall hasc hmok hR hT hsl
  rcases hm with ⟨hm1, hm2⟩ | ⟨hm1, hm3, hm2⟩ | ⟨hm1, hm2⟩
  rw [← hm2] at QA
  have HM2 := Lib.hid hm2
  clear hm2
  go_enter Tryd.func22, Tryd.ntmps22
  go_upto_region 6 with (go_at_call 21; (with_reducible refine (QA.out).mono ?_); rintro e w1 ⟨⟨lp, lc, vs, rfl, hms⟩, hb⟩; have HMS := Lib.hid hms; have HB := Lib.hid hb; clear hms hb)
  have HRD := Lib.hid (fun h0 => mts_read HMS.out HM2.out (fun m hm => (HMO.out m hm).len) h0)
  clear HMS HM2 QA
  rotate_left
  rw [← hm2] at QA
  have HM2 := Lib.hid hm2
  have hm4 : decide (most < (n : Int)) = false := decide_eq_false (by omega)
  clear hm2 hm3
  go_enter Tryd.func22, Tryd.ntmps22
  go_upto_region 6 with (go_at_call 21; (with_reducible refine (QA.out).mono ?_); rintro e w1 ⟨⟨lp, lc, vs, rfl, hms⟩, hb⟩; have HMS := Lib.hid hms; have HB := Lib.hid hb; clear hms hb)
  have HRD := Lib.hid (fun h0 => mts_read HMS.out HM2.out (fun m hm => (HMO.out m hm).len) h0)
  clear HMS HM2 QA
  rotate_left
  subst hm1
  have HM2 := Lib.hid hm2
  have hm4 : (n : Int) < (ms.length : Int) := by omega
  obtain ⟨len, hlen⟩ : ∃ len, ms.length = len := ⟨_, rfl⟩
  rw [hlen] at QA hm4
  have HLE := Lib.hid hlen
  clear hm2 hlen
  go_enter Tryd.func22, Tryd.ntmps22
  go_upto_region 2 with (go_at_call 21; (with_reducible refine (QA.out).mono ?_); rintro e w1 ⟨⟨lp, lc, vs, rfl, hms⟩, hb⟩; have HMS := Lib.hid hms; have HB := Lib.hid hb; clear hms hb)
  have hcap := own_cap (by have := HMS.out.own; rw [HLE.out] at this; exact this)
  obtain ⟨g0, hlp, hg0, hcell⟩ := mts_read HMS.out HLE.out.symm (fun m hm => (HMO.out m hm).len) (by omega)
  subst hlp
  have HRD : Hid (0 < n → ReadM w1 (some ⟨g0, 0, none⟩) g.caps ms) := Lib.hid (fun _ => ⟨g0, rfl, hg0, hcell⟩)
  have hcap2 : (n : Int) ≤ (lc : Int) := by omega
  have hg1 : decide ((n : Int) < (len : Int)) = true := decide_eq_true hm4
  have hg2 : decide (n < len) = true := decide_eq_true (by omega)
  clear HMS HM2 QA hcell hcap
  go_upto_region 6 with fail
  rotate_left
  all_goals (
    go_upto_region 7 with fail
    have hbl := bl_new w1
    obtain ⟨W1, hW1⟩ : ∃ W1, w1.alloc (.cells #[.pointer none, .slice none 0 0] 59) = W1 := ⟨_, rfl⟩
    obtain ⟨B, hBe⟩ : ∃ B, w1.heap.size = B := ⟨_, rfl⟩
    have hRB : RB B w1 [] W1 := by
      rw [← hW1, ← hBe]
      exact ⟨hbl, (Below.refl _ _).alloc (Nat.le_refl _) _, by simp, rfl⟩
    rw [hW1]
    simp only [hBe]
    have HRB0 := Lib.hid hRB
    have HBE := Lib.hid hBe
    clear hW1 hbl hRB hBe
    go_wp2
    go_loopw [14, 41] (fun v14 v41 wr => ∃ k a : Nat, k ≤ n ∧ a ≤ s.size ∧ v14 = .int .i64 (a : Int) ∧ v41 = .int .i64 (k : Int) ∧ Hid (∃ acc last, RB B w1 acc wr ∧ acc.length ≤ 4096 ∧ Asc s.data.toList g last a ((ms.take n).drop k) ∧ replE s.data.toList repl.data.toList ((ms.take n).drop k) a acc = R)) (fun _ v41 _ => n - (intOf v41).toNat)
    case atStart => exact ⟨0, 0, Nat.zero_le _, Nat.zero_le _, rfl, rfl, Lib.hid ⟨[], none, HRB0.out, by simp, HAS.out, HR0.out⟩⟩
    case round =>
      obtain ⟨k, a, hk, has, rfl, rfl, HI⟩ := hrel
      rename World => W0
      obtain ⟨acc, last, hrb, hac, has2, hre⟩ := HI.out
      clear HI
      have hk1 := i64w ((k : Int) + 1) (by omega)
      have c1 : (0 : Int) ≤ (a : Int) := by omega
      by_cases hlt : k < n
      · have hlt' : (k : Int) < (n : Int) := by omega
        obtain ⟨m, hmk⟩ : ∃ m, ms[k]? = some m := ⟨ms[k]'(by omega), List.getElem?_eq_getElem _⟩
        have hmk2 : (ms.take n)[k]? = some m := by rw [List.getElem?_take, if_pos hlt]; exact hmk
        obtain ⟨hkl, hke⟩ := List.getElem?_eq_some_iff.1 hmk2
        rw [List.drop_eq_getElem_cons hkl, hke] at has2 hre
        have hok := HMO.out m (List.mem_of_getElem? hmk)
        obtain ⟨gg, hlp, hgl, hrd⟩ := HRD.out (by omega)
        obtain ⟨q, d, x0, x1, x2, x3, -⟩ := hrd k m hmk
        first | subst hlp | (obtain rfl : gg = g0 := by injection hlp with e; injection e with e; exact e.symm)
        have hgB : gg < B := by rw [← HBE.out]; exact hgl
        have HRB := Lib.hid hrb
        have e0 : W0.cell? ⟨gg, k * 3, none⟩ = some (.int .i64 (m.fr : Int)) := by rw [hrb.bel.cell hgB]; exact x0
        have e1 : W0.cell? ⟨gg, k * 3 + 1, none⟩ = some (.int .i64 (m.to : Int)) := by rw [hrb.bel.cell hgB]; exact x1
        have e2 : W0.cell? ⟨gg, k * 3 + 2, none⟩ = some (.slice q g.caps d) := by rw [hrb.bel.cell hgB]; exact x2
        have hRB := Nat.ne_of_gt hrb.hz
        have hli := mok_lies hok
        rw [HSL.out] at hli
        have l1 := has2.1
        have l2 := hok.le
        have l3 := hok.hi
        rw [HSL.out] at l3
        have hcl : m.caps.length ≤ 1000000 := by rw [hok.len]; have := hg.2.2; omega
        have HAN := Lib.hid has2.2.2.2.2.2
        obtain ⟨mf, mt, mc⟩ := m
        simp only [] at e0 e1 e2 l1 l2 l3 hcl hli x3 HAN
        obtain ⟨V, hV⟩ : ∃ V, W0.alloc (.cells #[.int .i64 (mf : Int), .int .i64 (mt : Int), .slice q g.caps d] 29) = V := ⟨_, rfl⟩
        obtain ⟨X, hX⟩ : ∃ X, W0.heap.size = X := ⟨_, rfl⟩
        have hMV : Mtb X #[.int .i64 (mf : Int), .int .i64 (mt : Int), .slice q g.caps d] V := by rw [← hV, ← hX]; exact mtb_new _ _ _ rfl
        have hRV : RB B w1 acc V := by rw [← hV]; exact hrb.ch ((Ch.refl _ _).alloc _)
        rw [hX] at hRB
        have HMV := Lib.hid hMV
        have HRV := Lib.hid hRV
        have hbV : Below w1.heap.size w1 V := by rw [HBE.out]; exact hRV.bel
        have QF0 := fill_any s repl mf mt (.slice q g.caps d) mc V (x3.below hbV) (tab_below HT.out (HB.out.trans (hbV.mono HB.out.size))) hs (hrs (by omega)) hcl hli
        have v0 := hMV.cell 0
        have v1 := hMV.cell 1
        have v2 := hMV.cell 2
        simp at v0 v1 v2
        have c2 : (a : Int) ≤ (mf : Int) := by omega
        have c3 : (mf : Int) ≤ (s.size : Int) := by omega
        have c4 : (0 : Int) ≤ (mf : Int) := by omega
        have HV := Lib.hid hV
        have HX := Lib.hid hX
        clear x0 x1 x2 x3 hrd hgl hli hbV hMV hRV hrb has2 hok hmk hmk2 hkl hke hX hV
        cases hfe : fillE (insF s.data.toList mf mt mc) repl.data.toList with
        | error cd =>
          have QF : Hid (Calls Tryd.prog 13 #[.string s, .string repl, .agg #[.int .i64 (mf : Int), .int .i64 (mt : Int), .slice q g.caps d]] V fun e w' => e = .returned (.tuple #[.string ⟨#[]⟩, .int .i64 (cd : Int)]) ∧ Below V.heap.size V w') := Lib.hid (QF0.mono fun e w' ⟨h1, h2⟩ => ⟨by rw [hfe] at h1; exact h1, h2⟩)
          have hcd := fillE_err hfe
          have y1 : ((cd : Int) != 0) = true := by rw [bne_iff_ne]; omega
          have HRE : Hid (Except.error cd = R) := Lib.hid (by rw [← hre]; exact (replE_err hfe).symm)
          clear QF0 hfe hre HAN
          go_upto_region 11 with fail
          rw [HV.out]
          simp only [HX.out]
          go_wp2_with (go_at_call 13; (with_reducible refine (QF.out).mono ?_); rintro e w3 ⟨rfl, hb3⟩)
          go_ret3
          exact ⟨by rw [← HRE.out]; rfl, HB.out.trans ((HRV.out.ch (Ch.of_below hb3)).bel.mono (by rw [← HBE.out]; exact HB.out.size))⟩
        | ok t =>
          have QF : Hid (Calls Tryd.prog 13 #[.string s, .string repl, .agg #[.int .i64 (mf : Int), .int .i64 (mt : Int), .slice q g.caps d]] V fun e w' => e = .returned (.tuple #[.string (bs t), .int .i64 0]) ∧ Below V.heap.size V w') := Lib.hid (QF0.mono fun e w' ⟨h1, h2⟩ => ⟨by rw [hfe] at h1; exact h1, h2⟩)
          have htl := fillE_len hfe
          rw [replE_ok hfe] at hre
          have htd : (bs t).data.toList = t := bs_toList t
          have hts : (bs t).size ≤ 4096 := by rw [bs_size]; exact htl
          have hxe : (s.extract a mf).data.toList = cutF s.data.toList a mf := by rw [ext_bs, bs_toList]
          have hxz : (s.extract a mf).size ≤ s.size := by rw [ByteArray.size_extract]; omega
          have hcz : (cutF s.data.toList a mf).length ≤ s.size := by unfold cutF; rw [List.length_take, List.length_drop, HSL.out]; omega
          have QW := Lib.hid fun W (h : RB B w1 acc W) => bls2 B B acc (s.extract a mf) W h.bl (by omega) (by omega) (Nat.le_of_lt h.hz)
          rw [hxe] at QW
          have hl2 : (acc ++ cutF s.data.toList a mf).length ≤ 2000000 := by rw [List.length_append]; omega
          have QW2 := Lib.hid fun W (h : RB B w1 (acc ++ cutF s.data.toList a mf) W) => bls2 B B (acc ++ cutF s.data.toList a mf) (bs t) W h.bl (by omega) (by omega) (Nat.le_of_lt h.hz)
          rw [htd] at QW2
          generalize bs t = tb at *
          generalize hr2 : acc ++ cutF s.data.toList a mf = res at *
          generalize hr3 : res ++ t = res2 at *
          obtain ⟨ln, hln⟩ : ∃ ln, res2.length = ln := ⟨_, rfl⟩
          clear QF0 hfe hr2 hr3 hxe hxz htd
          by_cases hlong : 4096 < res2.length
          · rw [if_pos hlong] at hre
            have HRE := Lib.hid hre
            have d1 : decide ((4096 : Int) < (ln : Int)) = true := decide_eq_true (by omega)
            clear hre
            go_upto_region 11 with fail
            rw [HV.out]
            simp only [HX.out]
            go_upto_region 14 with (go_at_call 13; (with_reducible refine (QF.out).mono ?_); rintro e w3 ⟨rfl, hb3⟩)
            have hR3 := HRV.out.ch (Ch.of_below hb3)
            have hM3 := HMV.out.ch (Ch.of_below (S := []) hb3) (by simp)
            have HR3 := Lib.hid hR3
            have HM3 := Lib.hid hM3
            have f0 := hM3.cell 0
            simp at f0
            have QA1 := Lib.hid (QW.out w3 hR3)
            clear hR3 hM3 hb3 v0 v1 v2 e0 e1 e2
            go_upto_region 15 with (go_at_call 28; (with_reducible refine (QA1.out).mono ?_); rintro e w4 ⟨rfl, h4, b4, o4⟩)
            have HR4 := Lib.hid (HR3.out.add h4 b4)
            have HM4 := Lib.hid (HM3.out.others o4 hRB)
            have QA2 := Lib.hid (QW2.out w4 HR4.out)
            clear h4 b4 o4 f0 QA1
            go_upto_region 16 with (go_at_call 28; (with_reducible refine (QA2.out).mono ?_); rintro e w5 ⟨rfl, h5, b5, o5⟩)
            have HR5 := Lib.hid (HR4.out.add h5 b5)
            have HM5 := Lib.hid (HM4.out.others o5 hRB)
            have f1 := HM5.out.cell 1
            simp at f1
            have QL := Lib.hid (bll B B res2 w5 h5)
            rw [hln] at QL
            clear h5 b5 o5 QA2
            go_wp2_with (go_at_call 27; (with_reducible refine (QL.out).mono ?_); rintro e w6 ⟨rfl, rfl⟩)
            go_ret3
            exact ⟨by rw [← HRE.out]; rfl, HB.out.trans (HR5.out.bel.mono (by rw [← HBE.out]; exact HB.out.size))⟩
          · rw [if_neg hlong] at hre
            have HRE := Lib.hid hre
            have d1 : decide ((4096 : Int) < (ln : Int)) = false := decide_eq_false (by omega)
            clear hre
            go_upto_region 11 with fail
            rw [HV.out]
            simp only [HX.out]
            go_upto_region 14 with (go_at_call 13; (with_reducible refine (QF.out).mono ?_); rintro e w3 ⟨rfl, hb3⟩)
            have hR3 := HRV.out.ch (Ch.of_below hb3)
            have hM3 := HMV.out.ch (Ch.of_below (S := []) hb3) (by simp)
            have HR3 := Lib.hid hR3
            have HM3 := Lib.hid hM3
            have f0 := hM3.cell 0
            simp at f0
            have QA1 := Lib.hid (QW.out w3 hR3)
            clear hR3 hM3 hb3 v0 v1 v2 e0 e1 e2
            go_upto_region 15 with (go_at_call 28; (with_reducible refine (QA1.out).mono ?_); rintro e w4 ⟨rfl, h4, b4, o4⟩)
            have HR4 := Lib.hid (HR3.out.add h4 b4)
            have HM4 := Lib.hid (HM3.out.others o4 hRB)
            have QA2 := Lib.hid (QW2.out w4 HR4.out)
            clear h4 b4 o4 f0 QA1
            go_upto_region 16 with (go_at_call 28; (with_reducible refine (QA2.out).mono ?_); rintro e w5 ⟨rfl, h5, b5, o5⟩)
            have HR5 := Lib.hid (HR4.out.add h5 b5)
            have HM5 := Lib.hid (HM4.out.others o5 hRB)
            have f1 := HM5.out.cell 1
            simp at f1
            have QL := Lib.hid (bll B B res2 w5 h5)
            rw [hln] at QL
            clear h5 b5 o5 QA2
            go_wp2_with (go_at_call 27; (with_reducible refine (QL.out).mono ?_); rintro e w6 ⟨rfl, rfl⟩)
            go_roundw
            case rel => exact ⟨k + 1, mt, by omega, by omega, rfl, by go_num, Lib.hid ⟨res2, _, HR5.out, by omega, HAN.out, HRE.out⟩⟩
            case measure => simp [intOf]; omega
      · have hlt' : ¬ (k : Int) < (n : Int) := by omega
        have hdr : (ms.take n).drop k = [] := List.drop_eq_nil_of_le (by rw [List.length_take]; omega)
        rw [hdr, replE_nil] at hre
        have HRB := Lib.hid hrb
        have HEX := Lib.hid (ext_bs s a s.size)
        have hxs : (s.extract a s.size).data.toList = s.data.toList.drop a := by
          rw [ext_bs, bs_toList]; unfold cutF; rw [List.take_of_length_le (by rw [List.length_drop, HSL.out]; omega)]
        have hxz : (s.extract a s.size).size ≤ s.size := by rw [ByteArray.size_extract]; omega
        have QS := Lib.hid (bls2 B B acc (s.extract a s.size) W0 hrb.bl (by omega) (by omega) (Nat.le_of_lt hrb.hz))
        rw [hxs] at QS
        have hll : (acc ++ s.data.toList.drop a).length ≤ 2000000 := by rw [List.length_append, List.length_drop, HSL.out]; omega
        generalize acc ++ s.data.toList.drop a = res at *
        obtain ⟨ln, hln⟩ : ∃ ln, res.length = ln := ⟨_, rfl⟩
        clear hdr has2 hrb hxs HEX
        by_cases hlong : 4096 < res.length
        · rw [if_pos hlong] at hre
          have HRE := Lib.hid hre
          have d1 : decide ((4096 : Int) < (ln : Int)) = true := decide_eq_true (by omega)
          clear hre
          go_upto_region 21 with (go_at_call 28; (with_reducible refine (QS.out).mono ?_); rintro e w3 ⟨rfl, h3, h4, -⟩)
          have HW3 := Lib.hid (HRB.out.add h3 h4)
          have QL := Lib.hid (bll B B res w3 h3)
          rw [hln] at QL
          clear h3 h4 QS
          go_wp2_with (go_at_call 27; (with_reducible refine (QL.out).mono ?_); rintro e w4 ⟨rfl, rfl⟩)
          go_ret3
          exact ⟨by rw [← HRE.out]; rfl, HB.out.trans (HW3.out.bel.mono (by rw [← HBE.out]; exact HB.out.size))⟩
        · rw [if_neg hlong] at hre
          have HRE := Lib.hid hre
          have d1 : decide ((4096 : Int) < (ln : Int)) = false := decide_eq_false (by omega)
          clear hre
          go_upto_region 21 with (go_at_call 28; (with_reducible refine (QS.out).mono ?_); rintro e w3 ⟨rfl, h3, h4, -⟩)
          have HW3 := Lib.hid (HRB.out.add h3 h4)
          have QL := Lib.hid (bll B B res w3 h3)
          rw [hln] at QL
          clear h3 h4 QS
          have QT := Lib.hid (blS B B res w3 HW3.out.bl (Nat.le_of_lt HW3.out.hz))
          go_wp2_with (first | (go_at_call 27; (with_reducible refine (QL.out).mono ?_); rintro e w4 ⟨rfl, rfl⟩) | (go_at_call 31; (with_reducible refine (QT.out).mono ?_); rintro e w5 ⟨rfl, hb5⟩))
          go_ret3
          exact ⟨by rw [← HRE.out]; rfl, HB.out.trans ((HW3.out.bel.trans hb5).mono (by rw [← HBE.out]; exact HB.out.size))⟩)
end Go.Proofs.YtkbcaklleiapdaaDoor
namespace Go.Proofs.YtkbcaklleiapdaaDoor
open Go.RowKit Go.Joins M4
set_option linter.unusedVariables false
set_option maxHeartbeats 2000000 in
theorem replace_bad (s p repl : ByteArray) (most : Int) (w : World) (c : Nat) (hc : 0 < c)
    (h : Calls Tryd.prog 21 #[.string s, .string p] w fun e w' => e = .returned (.tuple #[.slice none 0 0, .int .i64 (c : Int)]) ∧ Below w.heap.size w w') :
    Calls Tryd.prog 22 #[.string s, .string p, .string repl, .int .i64 most] w fun e w' => e = .returned (.tuple #[.string ⟨#[]⟩, .int .i64 0, .int .i64 (c : Int)]) ∧ Below w.heap.size w w' := by
  have QA := Lib.hid h
  have y1 : ((c : Int) != 0) = true := by rw [bne_iff_ne]; omega
  clear h
  go_enter Tryd.func22, Tryd.ntmps22
  go_wp2_with (go_at_call 21; (with_reducible refine (QA.out).mono ?_); rintro e w1 ⟨rfl, hb⟩)
  go_ret3
  exact ⟨rfl, hb⟩
theorem all_lim (s p : ByteArray) (w : World) (hp : p.size ≤ 1000000) (hs : s.size ≤ 1000000) (g : Pg) (hr : readF p.data.toList = .ok g) (h : alln s.data.toList g 0 none 100000 = none) :
    Calls Tryd.prog 21 #[.string s, .string p] w fun e w' => e = .returned (.tuple #[.slice none 0 0, .int .i64 3]) ∧ Below w.heap.size w w' := by
  have := all_ok s p w hp hs g hr
  rw [h] at this
  exact this
/-- A pattern that is read. -/
def pgOf (l : List UInt8) : Pg := match readF l with
  | .ok g => g
  | .error _ => ⟨false, false, [], 0⟩
def okOf (l : List UInt8) : Bool := match readF l with
  | .ok _ => true
  | .error _ => false
theorem read_of {l : List UInt8} (h : okOf l = true) : readF l = .ok (pgOf l) := by
  unfold okOf at h; unfold pgOf
  cases hr : readF l with
  | ok g => rfl
  | error c => rw [hr] at h; cases h
def isMt (r : Option (Option Mt)) (a b : Nat) (c : Caps) : Bool := match r with
  | some (some m) => m.fr == a && m.to == b && m.caps == c
  | _ => false
theorem mt_of {r : Option (Option Mt)} {a b : Nat} {c : Caps} (h : isMt r a b c = true) : r = some (some ⟨a, b, c⟩) := by
  unfold isMt at h
  split at h
  · rename_i m
    obtain ⟨x, y, z⟩ := m
    simp at h
    obtain ⟨⟨rfl, rfl⟩, rfl⟩ := h
    rfl
  · cases h
def areMt : List Mt → List (Nat × Nat × Caps) → Bool
  | [], [] => true
  | m :: ms, c :: cs => m.fr == c.1 && m.to == c.2.1 && m.caps == c.2.2 && areMt ms cs
  | _, _ => false
theorem mts_of : ∀ {ms : List Mt} {cs : List (Nat × Nat × Caps)}, areMt ms cs = true → ms = cs.map fun c => ⟨c.1, c.2.1, c.2.2⟩
  | [], [], _ => rfl
  | m :: ms, c :: cs, h => by
    unfold areMt at h
    simp only [Bool.and_eq_true, beq_iff_eq] at h
    obtain ⟨⟨⟨h1, h2⟩, h3⟩, h4⟩ := h
    obtain ⟨x, y, z⟩ := m
    simp only [] at h1 h2 h3
    subst h1 h2 h3
    rw [mts_of h4]; rfl
  | [], _ :: _, h => by cases h
  | _ :: _, [], h => by cases h
def p1 : ByteArray := ⟨#[40, 37, 119, 43, 41, 61, 40, 37, 119, 42, 41]⟩
theorem x1 : okOf p1.data.toList = true ∧ (pgOf p1.data.toList).caps = 2 ∧ isMt (firstM [107, 101, 121, 61, 118, 97, 108] (pgOf p1.data.toList) 1 0 100000) 0 7 [(0, 3), (4, 7)] = true := by decide +kernel
def p2 : ByteArray := ⟨#[37, 98, 40, 41]⟩
theorem x2 : okOf p2.data.toList = true ∧ (pgOf p2.data.toList).caps = 0 ∧ (pgOf p2.data.toList).start = false ∧ isMt (firstM [102, 40, 97, 40, 98, 41, 99, 41, 100] (pgOf p2.data.toList) 10 0 100000) 1 8 [] = true := by decide +kernel
def p3 : ByteArray := ⟨#[108]⟩
theorem x3 : okOf p3.data.toList = true := by decide +kernel
theorem y3 : (match alln [104, 101, 108, 108, 111] (pgOf p3.data.toList) 0 none 100000 with
  | some ms => areMt ms [(2, 3, []), (3, 4, [])]
  | none => false) = true := by decide +kernel
def p4 : ByteArray := ⟨#[97, 42]⟩
theorem x4 : okOf p4.data.toList = true := by decide +kernel
theorem y4 : (match alln [97, 97, 98] (pgOf p4.data.toList) 0 none 100000 with
  | some ms => areMt ms [(0, 2, []), (3, 3, [])]
  | none => false) = true := by decide +kernel
end Go.Proofs.YtkbcaklleiapdaaDoor
