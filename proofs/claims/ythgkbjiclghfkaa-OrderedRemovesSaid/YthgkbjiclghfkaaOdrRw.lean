/- If keys are removed while one goes through a map, the others still come once each, in order. No condition. -/
import Derived.Test.YthgkbjiclghfkaaOdrZr
import Derived.Test.YthgkbjiclghfkaaOdrKs
import Derived.Test.YthgkbjiclghfkaaOdrQv
namespace Go.Proofs.Ythgkbjiclghfkaa.orderedRemovesLaw
open Go.ChangeShapes Go.WideShapes Go.ChangeAt Go.RowKit Go.Joins Go.Deep M1
set_option linter.unusedVariables false
theorem fd_valR (k p q : Int) (s : ByteArray) (r : Int) (W : World) : (Instr.field 31 (.agg #[.int .i64 k, .int .i64 p, .int .i64 q, .string s, .int .i64 r]) 0).run Try.prog W = .ok (.int .i64 k) W := by kernel_rfl
set_option maxHeartbeats 16000000 in
set_option maxRecDepth 100000 in
theorem walk (p : Option Addr) (cap : Nat) (l : List OpA) (p1 : Option Addr) (cap1 : Nat) (mk : List Bool) (w : World) (hlm : l.length ≤ maxLen) (hp : 0 < l.length → ∃ g o, p = some ⟨g, o, none⟩ ∧ g < w.heap.size ∧ ∀ (j m : Nat) (hj : j < l.length), m < 11 → w.cell? ⟨g, o + j * 11 + m, none⟩ = (opC l[j])[m]?) (hlm1 : mk.length ≤ maxLen) (hp1 : 0 < mk.length → ∃ g o, p1 = some ⟨g, o, none⟩ ∧ g < w.heap.size ∧ ∀ (j m : Nat) (hj : j < mk.length), m < 1 → w.cell? ⟨g, o + j * 1 + m, none⟩ = (blC mk[j])[m]?) :
    Calls Try.prog 5 #[.slice p l.length cap, .slice p1 mk.length cap1] w fun e w' => e = .returned (.bool true) ∧ Below w.heap.size w w' := by
  by_cases hl : 400 < l.length
  · have QM := Lib.hid (made_no p cap l w hlm hp hl)
    have hd : (400 : Int) < (l.length : Int) := by omega
    clear hp hp1
    go_enter Try.func5, Try.ntmps5
    go_wp2_with (first | (go_at_call 15; (with_reducible refine (QM.out).mono ?_); rintro e w1 ⟨rfl, hb1⟩; have HB1 := Lib.hid hb1; have QV := Lib.hid (lives_any w1); clear hb1) | (go_at_call 14; (with_reducible refine (QV.out).mono ?_); rintro e w8 ⟨rfl, hb8⟩))
    go_ret
    exact ⟨rfl, HB1.out.trans (hb8.mono HB1.out.size)⟩
  have QM := Lib.hid (made_yes p cap l w hlm hp (by omega))
  have HL : Hid ((playR [] l).length ≤ 1000000) := Lib.hid (by have := playR_len l []; simp at this; omega)
  have HO : Hid (Ok (playR [] l)) := Lib.hid (ok_play l [] ok_nil)
  have HVK : Hid (Vk (playR [] l)) := Lib.hid (vk_play l [] vk_nil)
  have HM := Lib.hid hp1
  clear hp hp1
  generalize (playR [] l) = R at *
  have HKN : Hid ((keysR R).length = lenR R) := Lib.hid (keysR_len R)
  have HKL : Hid ((keysR R).length ≤ 1000000) := Lib.hid (by have := HKN.out; have := lenR_le R; have := HL.out; omega)
  go_enter Try.func5, Try.ntmps5
  go_upto_region 4 with (go_at_call 15; (with_reducible refine (QM.out).mono ?_); rintro e w1 ⟨⟨b, v, m, b2, v2, rfl, ht1⟩, hb1⟩; have HT1 := Lib.hid ht1; have HB1 := Lib.hid hb1; clear ht1 hb1)
  have HU := Lib.hid HT1.out.om.un
  have HOS : Hid (∀ g ∈ omS b v m, g < w1.heap.size) := Lib.hid fun g hg => (HT1.out.om.lt g hg).2
  have QK := Lib.hid (keys_R w.heap.size b v m R w1 HT1.out.om HL.out)
  go_upto_region 5 with (go_at_call 16; (with_reducible refine (QK.out).mono ?_); rintro e w2 ⟨⟨vK, rfl, hr2⟩, hb2⟩)
  obtain ⟨pK, cK, rfl⟩ := ownB_form hr2
  have HR2 := Lib.hid hr2
  have HC2 : Hid (Ch [] w1 w2) := Lib.hid (Ch.of_below hb2)
  have HB2 := Lib.hid (HB1.out.trans (hb2.mono HB1.out.size))
  have HFK : Hid (∀ W : World, W.ownsRow w1.heap.size 31 5 (.slice pK (keysR R).length cK) (keysR R).length ((keysR R).flatMap vC) → 0 < (keysR R).length → ∃ g, pK = some ⟨g, 0, none⟩ ∧ g < W.heap.size ∧ ∀ i (hi : i < (keysR R).length) j, j < 5 → W.cell? ⟨g, i * 5 + j, none⟩ = (vC (keysR R)[i])[j]?) := Lib.hid fun W h h0 => by
    rcases Joins.ownsRow_forms h with ⟨e1, e2⟩ | ⟨g, cap, e1⟩
    · omega
    · injection e1 with e1 e2 e3
      subst e1; subst e3
      exact ⟨g, rfl, (own_lo h (mem_ob.2 rfl)).2, fun i hi j hj => by
        rw [h.cellAt (i * 5 + j) (by omega), flat_at vC 5 vC_len _ i j hi hj]⟩
  have K3 : Hid (Blk 31 w2.heap.size #[.int .i64 0, .int .i64 0, .int .i64 0, .string ⟨#[]⟩, .int .i64 0] (w2.alloc (.cells #[.int .i64 0, .int .i64 0, .int .i64 0, .string ⟨#[]⟩, .int .i64 0] 31))) := Lib.hid (Blk.new w2 _ _ _ rfl)
  have H3 : Hid (OmR w.heap.size b v m R (w2.alloc (.cells #[.int .i64 0, .int .i64 0, .int .i64 0, .string ⟨#[]⟩, .int .i64 0] 31)) ∧ (w2.alloc (.cells #[.int .i64 0, .int .i64 0, .int .i64 0, .string ⟨#[]⟩, .int .i64 0] 31)).ownsRow w1.heap.size 31 5 (.slice pK (keysR R).length cK) (keysR R).length ((keysR R).flatMap vC) ∧ Below w.heap.size w (w2.alloc (.cells #[.int .i64 0, .int .i64 0, .int .i64 0, .string ⟨#[]⟩, .int .i64 0] 31))) := Lib.hid ⟨HT1.out.om.ch (HC2.out.alloc _) (fun g _ => not_nil g), ((Ch.refl [] w2).alloc _).ownB hr2 (fun g _ => not_nil g), HB2.out.alloc HB2.out.size _⟩
  clear hr2 hb2 QK QM
  go_wp2
  go_loopw [10] (fun v8 wr => ∃ (i : Nat) (kc : V5) (v m : Value) (R' : List Rs), i ≤ (keysR R).length ∧ v8 = .int .i64 (i : Int) ∧ Hid (At2 R R' i kc) ∧ Hid (Gd R mk i R') ∧ Hid (Blk 31 w2.heap.size #[.int .i64 kc.k, .int .i64 kc.p, .int .i64 kc.q, .string kc.s, .int .i64 kc.r] wr) ∧ Hid (OmR w.heap.size b v m R' wr ∧ wr.ownsRow w1.heap.size 31 5 (.slice pK (keysR R).length cK) (keysR R).length ((keysR R).flatMap vC) ∧ Below w.heap.size w wr) ∧ Hid (∀ g ∈ omS b v m, g < w1.heap.size ∨ w2.heap.size < g)) (fun v8 _ => (keysR R).length - (intOf v8).toNat)
  case atStart => exact ⟨0, v5z, v, m, R, Nat.zero_le _, rfl, Lib.hid (at2_zero R R), Lib.hid (gd_zero R mk), K3, H3, Lib.hid fun g hg => .inl (HOS.out g hg)⟩
  case round =>
    clear HOS K3 H3
    obtain ⟨i, kc, v, m, R', hi, rfl, HA, HG, HK, HX, HF⟩ := hrel
    rename World => wr
    have HRL : Hid (R'.length ≤ 1000000) := Lib.hid (by rw [HG.out.len]; exact HL.out)
    have HUr := Lib.hid HX.out.1.un
    have QN := Lib.hid (next_R w.heap.size b v m R' kc wr HX.out.1 HRL.out)
    have k0 : wr.cell? ⟨w2.heap.size, 0, none⟩ = some (.int .i64 kc.k) := HK.out.cell 0
    have k1 : wr.cell? ⟨w2.heap.size, 1, none⟩ = some (.int .i64 kc.p) := HK.out.cell 1
    have k2 : wr.cell? ⟨w2.heap.size, 2, none⟩ = some (.int .i64 kc.q) := HK.out.cell 2
    have k3 : wr.cell? ⟨w2.heap.size, 3, none⟩ = some (.string kc.s) := HK.out.cell 3
    have k4 : wr.cell? ⟨w2.heap.size, 4, none⟩ = some (.int .i64 kc.r) := HK.out.cell 4
    have hkl := HK.out.lt
    by_cases hlt : i < (keysR R).length
    · have hlt' : (i : Int) < ((keysR R).length : Int) := by omega
      have hi0' : (0 : Int) ≤ (i : Int) := by omega
      have di : IntKind.i64.wrap ((i : Int) + 1) = (i : Int) + 1 := IntWalk.i64_in _ (by have := HKL.out; omega)
      obtain ⟨j, hj, hgn, hrk, hi', hk, hf, hn⟩ := gd_next HO.out HU.out HUr.out HG.out HA.out (by rw [← HKN.out]; exact hlt)
      have HAT : Hid (∀ R'', Un R'' → Gd R mk (i + 1) R'' → At2 R R'' (i + 1) (keysR R)[i]) := Lib.hid fun R'' hu hg => by
        rw [hk]
        exact gd_at HO.out hj hgn hrk (by rw [un_fnd HU.out hu hg.len hg.key]; exact HU.out.live j hj hgn)
      have HDEL : Hid (rmv mk i = true → errR (keysR R)[i] v5z = 0 ∧ Gd R mk (i + 1) (setR R' (keysR R)[i] v5z)) := Lib.hid fun hm => by
        rw [hk] at hf ⊢
        exact gd_del HO.out HVK.out HG.out hj hgn hrk hf hm
      have HSKIP : Hid (rmv mk i = false → Gd R mk (i + 1) R') := Lib.hid fun hm => gd_skip HG.out hm
      have hq := QN.out
      rw [hn] at hq
      have QN2 : Hid (Calls Try.prog 17 #[.pointer (some ⟨b, 0, none⟩), .agg #[.int .i64 kc.k, .int .i64 kc.p, .int .i64 kc.q, .string kc.s, .int .i64 kc.r]] wr fun e w' => e = .returned (.tuple #[.agg #[.int .i64 ((keysR R)[i]).k, .int .i64 ((keysR R)[i]).p, .int .i64 ((keysR R)[i]).q, .string ((keysR R)[i]).s, .int .i64 ((keysR R)[i]).r], .agg #[.int .i64 (R[j].val).k, .int .i64 (R[j].val).p, .int .i64 (R[j].val).q, .string (R[j].val).s, .int .i64 (R[j].val).r], .bool true, .int .i64 0]) ∧ OmR w.heap.size b v m R' w' ∧ Ch (omS b v m) wr w') := Lib.hid hq
      have HFW : Hid (∀ W : World, W.ownsRow w1.heap.size 31 5 (.slice pK (keysR R).length cK) (keysR R).length ((keysR R).flatMap vC) → ∃ g, pK = some ⟨g, 0, none⟩ ∧ g < W.heap.size ∧ ∀ j, j < 5 → W.cell? ⟨g, i * 5 + j, none⟩ = (vC (keysR R)[i])[j]?) := Lib.hid fun W h => by
        obtain ⟨g, q1, q2, q3⟩ := HFK.out W h (by omega)
        exact ⟨g, q1, q2, fun j hj => q3 i hlt j hj⟩
      clear hn hgn hrk hk hf hq QN
      generalize (keysR R)[i] = y at *
      generalize R[j].val = x at *
      clear hj
      have NE1 := fun W => neq_v5 y W
      have HMX : (∃ (_ : i < mk.length), mk[i] = true) ∨ (∃ (_ : i < mk.length), mk[i] = false) ∨ ¬ i < mk.length := by
        by_cases h : i < mk.length
        · cases hh : mk[i] with
          | true => exact .inl ⟨h, hh⟩
          | false => exact .inr (.inl ⟨h, hh⟩)
        · exact .inr (.inr h)
      go_upto_region 10 with (go_at_call 17; (with_reducible refine (QN2.out).mono ?_); rintro e w4 ⟨rfl, ho4, hc4⟩)
      have hc6 : Ch [] w4 ((w4.alloc (.cells #[.int .i64 y.k, .int .i64 y.p, .int .i64 y.q, .string y.s, .int .i64 y.r] 31)).alloc (.cells #[.int .i64 x.k, .int .i64 x.p, .int .i64 x.q, .string x.s, .int .i64 x.r] 31)) := ((Ch.refl [] w4).alloc _).alloc _
      have HO6 : Hid (OmR w.heap.size b v m R' ((w4.alloc (.cells #[.int .i64 y.k, .int .i64 y.p, .int .i64 y.q, .string y.s, .int .i64 y.r] 31)).alloc (.cells #[.int .i64 x.k, .int .i64 x.p, .int .i64 x.q, .string x.s, .int .i64 x.r] 31))) := Lib.hid (ho4.ch hc6 (fun g _ => not_nil g))
      have HX6 : Hid (((w4.alloc (.cells #[.int .i64 y.k, .int .i64 y.p, .int .i64 y.q, .string y.s, .int .i64 y.r] 31)).alloc (.cells #[.int .i64 x.k, .int .i64 x.p, .int .i64 x.q, .string x.s, .int .i64 x.r] 31)).ownsRow w1.heap.size 31 5 (.slice pK (keysR R).length cK) (keysR R).length ((keysR R).flatMap vC) ∧ Below w.heap.size w ((w4.alloc (.cells #[.int .i64 y.k, .int .i64 y.p, .int .i64 y.q, .string y.s, .int .i64 y.r] 31)).alloc (.cells #[.int .i64 x.k, .int .i64 x.p, .int .i64 x.q, .string x.s, .int .i64 x.r] 31))) := Lib.hid (by
        have hb4 : Below w.heap.size w w4 := HX.out.2.2.trans (hc4.belowB (fun g hg => (HX.out.1.lt g hg).1) HX.out.2.2.size)
        exact ⟨hc6.ownB (hc4.ownB HX.out.2.1 (fun g hg hg2 => by have h1 := own_lo HR2.out hg; have h2 := HF.out g hg2; omega)) (fun g _ => not_nil g), hb4.trans (hc6.below.mono hb4.size)⟩)
      have HK6 : Hid (Blk 31 w2.heap.size #[.int .i64 kc.k, .int .i64 kc.p, .int .i64 kc.q, .string kc.s, .int .i64 kc.r] ((w4.alloc (.cells #[.int .i64 y.k, .int .i64 y.p, .int .i64 y.q, .string y.s, .int .i64 y.r] 31)).alloc (.cells #[.int .i64 x.k, .int .i64 x.p, .int .i64 x.q, .string x.s, .int .i64 x.r] 31))) := Lib.hid ((HK.out.ch hc4 (fun hg => by have h2 := HF.out _ hg; have := HC2.out.size; omega)).ch hc6 (not_nil _))
      have HN6 : Hid (Blk 31 w4.heap.size #[.int .i64 y.k, .int .i64 y.p, .int .i64 y.q, .string y.s, .int .i64 y.r] ((w4.alloc (.cells #[.int .i64 y.k, .int .i64 y.p, .int .i64 y.q, .string y.s, .int .i64 y.r] 31)).alloc (.cells #[.int .i64 x.k, .int .i64 x.p, .int .i64 x.q, .string x.s, .int .i64 x.r] 31))) := Lib.hid ((Blk.new w4 31 _ _ rfl).ch ((Ch.refl [] _).alloc _) (not_nil _))
      have HNN : Hid (w4.heap.size ∉ omS b v m) := Lib.hid fun hg => by have := (HX.out.1.lt _ hg).2; have := hc4.size; omega
      have HKN2 : Hid (w2.heap.size ∉ omS b v m) := Lib.hid fun hg => by have h2 := HF.out _ hg; have := HC2.out.size; omega
      have HRN : Hid (∀ g ∈ ob (Value.slice pK (keysR R).length cK), g ∉ omS b v m) := Lib.hid fun g hg hg2 => by have h1 := own_lo HR2.out hg; have h2 := HF.out g hg2; omega
      have HWL : Hid (w2.heap.size < ((w4.alloc (.cells #[.int .i64 y.k, .int .i64 y.p, .int .i64 y.q, .string y.s, .int .i64 y.r] 31)).alloc (.cells #[.int .i64 x.k, .int .i64 x.p, .int .i64 x.q, .string x.s, .int .i64 x.r] 31)).heap.size) := Lib.hid HK6.out.lt
      generalize ((w4.alloc (.cells #[.int .i64 y.k, .int .i64 y.p, .int .i64 y.q, .string y.s, .int .i64 y.r] 31)).alloc (.cells #[.int .i64 x.k, .int .i64 x.p, .int .i64 x.q, .string x.s, .int .i64 x.r] 31)) = w6 at *
      generalize w4.heap.size = n4 at *
      clear ho4 hc4 hc6 k0 k1 k2 k3 k4 hkl
      have a0 : w6.cell? ⟨n4, 0, none⟩ = some (.int .i64 y.k) := HN6.out.cell 0
      have a1 : w6.cell? ⟨n4, 1, none⟩ = some (.int .i64 y.p) := HN6.out.cell 1
      have a2 : w6.cell? ⟨n4, 2, none⟩ = some (.int .i64 y.q) := HN6.out.cell 2
      have a3 : w6.cell? ⟨n4, 3, none⟩ = some (.string y.s) := HN6.out.cell 3
      have a4 : w6.cell? ⟨n4, 4, none⟩ = some (.int .i64 y.r) := HN6.out.cell 4
      have al := HN6.out.lt
      obtain ⟨g, rfl, hgl, key⟩ := HFW.out w6 HX6.out.1
      have d0 : w6.cell? ⟨g, i * 5, none⟩ = some (.int .i64 y.k) := key 0 (by omega)
      have d1 : w6.cell? ⟨g, i * 5 + 1, none⟩ = some (.int .i64 y.p) := key 1 (by omega)
      have d2 : w6.cell? ⟨g, i * 5 + 2, none⟩ = some (.int .i64 y.q) := key 2 (by omega)
      have d3 : w6.cell? ⟨g, i * 5 + 3, none⟩ = some (.string y.s) := key 3 (by omega)
      have d4 : w6.cell? ⟨g, i * 5 + 4, none⟩ = some (.int .i64 y.r) := key 4 (by omega)
      clear key
      go_quiet (fail)
      go_upto_region 12 with fail
      go_name_world V7 hV
      have HC7 : Hid (Ch [] w6 V7) := Lib.hid (by rw [← hV]; first | exact (Ch.refl [] w6).drewN _ | exact (Ch.refl [] w6).drew | exact Ch.refl [] w6)
      clear hV a0 a1 a2 a3 a4 al d0 d1 d2 d3 d4 hgl NE1
      have HO7 : Hid (OmR w.heap.size b v m R' V7) := Lib.hid (HO6.out.ch HC7.out (fun g' _ => not_nil g'))
      have HB7 : Hid (Below w.heap.size w V7) := Lib.hid (HX6.out.2.trans (HC7.out.below.mono HX6.out.2.size))
      rcases HMX with ⟨hml, hmt⟩ | ⟨hml, hmf⟩ | hml
      · have hml' : (i : Int) < (mk.length : Int) := by omega
        obtain ⟨gm, om, rfl, hgm, keym⟩ := HM.out (by omega)
        have hm0 : V7.cell? ⟨gm, om + i, none⟩ = some (.bool true) := (HB7.out.cell (p := ⟨gm, _, none⟩) hgm).trans (by have := keym i 0 hml (by omega); simpa [blC, hmt] using this)
        have hgm2 : gm < V7.heap.size := Nat.lt_of_lt_of_le hgm HB7.out.size
        obtain ⟨he, hG9⟩ := HDEL.out (by unfold rmv; rw [List.getElem?_eq_getElem hml, hmt]; rfl)
        have HG9 := Lib.hid hG9
        have QS : Hid (Calls Try.prog 20 #[.pointer (some ⟨b, 0, none⟩), .agg #[.int .i64 y.k, .int .i64 y.p, .int .i64 y.q, .string y.s, .int .i64 y.r], .agg #[.int .i64 0, .int .i64 0, .int .i64 0, .string ⟨#[]⟩, .int .i64 0]] V7 fun e w' => e = .returned (.int .i64 0) ∧ (∃ v' m', OmR w.heap.size b v' m' (setR R' y v5z) w' ∧ ∀ g ∈ omS b v' m', g ∈ omS b v m ∨ V7.heap.size ≤ g) ∧ Ch (omS b v m) V7 w') := Lib.hid (by
          have := set_R w.heap.size b v m R' y v5z V7 HO7.out HRL.out HB7.out.size
          rw [he] at this
          exact this)
        have HN7 := HN6.out.ch HC7.out (not_nil _)
        have a0 : V7.cell? ⟨n4, 0, none⟩ = some (.int .i64 y.k) := HN7.cell 0
        have a1 : V7.cell? ⟨n4, 1, none⟩ = some (.int .i64 y.p) := HN7.cell 1
        have a2 : V7.cell? ⟨n4, 2, none⟩ = some (.int .i64 y.q) := HN7.cell 2
        have a3 : V7.cell? ⟨n4, 3, none⟩ = some (.string y.s) := HN7.cell 3
        have a4 : V7.cell? ⟨n4, 4, none⟩ = some (.int .i64 y.r) := HN7.cell 4
        have al := HN7.lt
        clear keym hmt he hG9 HN7
        go_upto_region 14 with (go_at_call 20; (with_reducible refine (QS.out).mono ?_); rintro e V9 ⟨rfl, ⟨v9, m9, ho9, hf9⟩, hc9⟩)
        have HO9 := Lib.hid ho9
        have HC9 : Hid (Ch (omS b v m) w6 V9) := Lib.hid ((HC7.out.mono (fun g' hg' => absurd hg' (not_nil g'))).trans hc9)
        have HF9 : Hid (∀ g ∈ omS b v9 m9, g < w1.heap.size ∨ w2.heap.size < g) := Lib.hid fun g' hg' => by
          rcases hf9 g' hg' with q | q
          · exact HF.out g' q
          · right; have := HC7.out.size; have := HWL.out; omega
        have HA9 := Lib.hid (HAT.out _ ho9.un HG9.out)
        clear ho9 hf9 hc9 a0 a1 a2 a3 a4 al hm0 hgm2
        have HN9 := HN6.out.ch HC9.out HNN.out
        have HK9 := HK6.out.ch HC9.out HKN2.out
        have HR9 := Lib.hid (HC9.out.ownB HX6.out.1 (fun g' hg' => HRN.out g' hg'))
        have HB9 : Hid (Below w.heap.size w V9) := Lib.hid (HX6.out.2.trans (HC9.out.belowB (fun g' hg' => (HX.out.1.lt g' hg').1) HX6.out.2.size))
        have a0 : V9.cell? ⟨n4, 0, none⟩ = some (.int .i64 y.k) := HN9.cell 0
        have a1 : V9.cell? ⟨n4, 1, none⟩ = some (.int .i64 y.p) := HN9.cell 1
        have a2 : V9.cell? ⟨n4, 2, none⟩ = some (.int .i64 y.q) := HN9.cell 2
        have a3 : V9.cell? ⟨n4, 3, none⟩ = some (.string y.s) := HN9.cell 3
        have a4 : V9.cell? ⟨n4, 4, none⟩ = some (.int .i64 y.r) := HN9.cell 4
        have k0 : V9.cell? ⟨w2.heap.size, 0, none⟩ = some (.int .i64 kc.k) := HK9.cell 0
        have k1 : V9.cell? ⟨w2.heap.size, 1, none⟩ = some (.int .i64 kc.p) := HK9.cell 1
        have k2 : V9.cell? ⟨w2.heap.size, 2, none⟩ = some (.int .i64 kc.q) := HK9.cell 2
        have k3 : V9.cell? ⟨w2.heap.size, 3, none⟩ = some (.string kc.s) := HK9.cell 3
        have k4 : V9.cell? ⟨w2.heap.size, 4, none⟩ = some (.int .i64 kc.r) := HK9.cell 4
        have al := HN9.lt
        have kl := HK9.lt
        have k0f := HK9.fz 0
        have k1f := HK9.fz 1
        have k2f := HK9.fz 2
        have k3f := HK9.fz 3
        have k4f := HK9.fz 4
        have HFF : Hid (Blk 31 w2.heap.size #[.int .i64 y.k, .int .i64 y.p, .int .i64 y.q, .string y.s, .int .i64 y.r] (st5 V9 w2.heap.size (.int .i64 y.k) (.int .i64 y.p) (.int .i64 y.q) (.string y.s) (.int .i64 y.r)) ∧ OmR w.heap.size b v9 m9 (setR R' y v5z) (st5 V9 w2.heap.size (.int .i64 y.k) (.int .i64 y.p) (.int .i64 y.q) (.string y.s) (.int .i64 y.r)) ∧ (st5 V9 w2.heap.size (.int .i64 y.k) (.int .i64 y.p) (.int .i64 y.q) (.string y.s) (.int .i64 y.r)).ownsRow w1.heap.size 31 5 (.slice (some ⟨g, 0, none⟩) (keysR R).length cK) (keysR R).length ((keysR R).flatMap vC) ∧ Below w.heap.size w (st5 V9 w2.heap.size (.int .i64 y.k) (.int .i64 y.p) (.int .i64 y.q) (.string y.s) (.int .i64 y.r))) := Lib.hid (by
          have hc : Ch [w2.heap.size] V9 (st5 V9 w2.heap.size (.int .i64 y.k) (.int .i64 y.p) (.int .i64 y.q) (.string y.s) (.int .i64 y.r)) := st5_ch (Ch.refl _ _) (.inl (by simp))
          refine ⟨st5_blk HK9, HO9.out.ch hc (fun g' hg' => by simp; intro e; have := HF9.out g' hg'; have := HC2.out.size; omega), hc.ownB HR9.out (fun g' hg' => by simp; have := (own_lo HR2.out hg').2; omega), ?_⟩
          exact st5_bel HB9.out HB2.out.size)
        clear HN9 HK9
        go_wp2
        go_roundw
        (case rel => first
          | exact ⟨i + 1, y, v9, m9, setR R' y v5z, by omega, by go_num, HA9, HG9, Lib.hid HFF.out.1, Lib.hid HFF.out.2, HF9⟩
          | exact ⟨i + 1, y, v9, m9, setR R' y v5z, by omega, by go_num, HA9, HG9, Lib.hid (HFF.out.1.ch (Ch.refl [] _).drew (not_nil _)), Lib.hid ⟨HFF.out.2.1.ch (Ch.refl [] _).drew (fun g' _ => not_nil g'), (Ch.refl [] _).drew.ownB HFF.out.2.2.1 (fun g' _ => not_nil g'), HFF.out.2.2.2.drew⟩, HF9⟩)
        (case measure => simp [intOf]; omega)
      · have hml' : (i : Int) < (mk.length : Int) := by omega
        obtain ⟨gm, om, rfl, hgm, keym⟩ := HM.out (by omega)
        have hm0 : V7.cell? ⟨gm, om + i, none⟩ = some (.bool false) := (HB7.out.cell (p := ⟨gm, _, none⟩) hgm).trans (by have := keym i 0 hml (by omega); simpa [blC, hmf] using this)
        have hgm2 : gm < V7.heap.size := Nat.lt_of_lt_of_le hgm HB7.out.size
        have HG9 := Lib.hid (HSKIP.out (by unfold rmv; rw [List.getElem?_eq_getElem hml, hmf]; rfl))
        have HO9 := HO7
        have HC9 : Hid (Ch (omS b v m) w6 V7) := Lib.hid (HC7.out.mono (fun g' hg' => absurd hg' (not_nil g')))
        have HF9 := HF
        have HA9 := Lib.hid (HAT.out _ HUr.out HG9.out)
        clear keym hmf
        go_upto_region 14 with fail
        clear hm0 hgm2
        have HN9 := HN6.out.ch HC9.out HNN.out
        have HK9 := HK6.out.ch HC9.out HKN2.out
        have HR9 := Lib.hid (HC9.out.ownB HX6.out.1 (fun g' hg' => HRN.out g' hg'))
        have HB9 : Hid (Below w.heap.size w V7) := Lib.hid (HX6.out.2.trans (HC9.out.belowB (fun g' hg' => (HX.out.1.lt g' hg').1) HX6.out.2.size))
        have a0 : V7.cell? ⟨n4, 0, none⟩ = some (.int .i64 y.k) := HN9.cell 0
        have a1 : V7.cell? ⟨n4, 1, none⟩ = some (.int .i64 y.p) := HN9.cell 1
        have a2 : V7.cell? ⟨n4, 2, none⟩ = some (.int .i64 y.q) := HN9.cell 2
        have a3 : V7.cell? ⟨n4, 3, none⟩ = some (.string y.s) := HN9.cell 3
        have a4 : V7.cell? ⟨n4, 4, none⟩ = some (.int .i64 y.r) := HN9.cell 4
        have k0 : V7.cell? ⟨w2.heap.size, 0, none⟩ = some (.int .i64 kc.k) := HK9.cell 0
        have k1 : V7.cell? ⟨w2.heap.size, 1, none⟩ = some (.int .i64 kc.p) := HK9.cell 1
        have k2 : V7.cell? ⟨w2.heap.size, 2, none⟩ = some (.int .i64 kc.q) := HK9.cell 2
        have k3 : V7.cell? ⟨w2.heap.size, 3, none⟩ = some (.string kc.s) := HK9.cell 3
        have k4 : V7.cell? ⟨w2.heap.size, 4, none⟩ = some (.int .i64 kc.r) := HK9.cell 4
        have al := HN9.lt
        have kl := HK9.lt
        have k0f := HK9.fz 0
        have k1f := HK9.fz 1
        have k2f := HK9.fz 2
        have k3f := HK9.fz 3
        have k4f := HK9.fz 4
        have HFF : Hid (Blk 31 w2.heap.size #[.int .i64 y.k, .int .i64 y.p, .int .i64 y.q, .string y.s, .int .i64 y.r] (st5 V7 w2.heap.size (.int .i64 y.k) (.int .i64 y.p) (.int .i64 y.q) (.string y.s) (.int .i64 y.r)) ∧ OmR w.heap.size b v m (R') (st5 V7 w2.heap.size (.int .i64 y.k) (.int .i64 y.p) (.int .i64 y.q) (.string y.s) (.int .i64 y.r)) ∧ (st5 V7 w2.heap.size (.int .i64 y.k) (.int .i64 y.p) (.int .i64 y.q) (.string y.s) (.int .i64 y.r)).ownsRow w1.heap.size 31 5 (.slice (some ⟨g, 0, none⟩) (keysR R).length cK) (keysR R).length ((keysR R).flatMap vC) ∧ Below w.heap.size w (st5 V7 w2.heap.size (.int .i64 y.k) (.int .i64 y.p) (.int .i64 y.q) (.string y.s) (.int .i64 y.r))) := Lib.hid (by
          have hc : Ch [w2.heap.size] V7 (st5 V7 w2.heap.size (.int .i64 y.k) (.int .i64 y.p) (.int .i64 y.q) (.string y.s) (.int .i64 y.r)) := st5_ch (Ch.refl _ _) (.inl (by simp))
          refine ⟨st5_blk HK9, HO9.out.ch hc (fun g' hg' => by simp; intro e; have := HF9.out g' hg'; have := HC2.out.size; omega), hc.ownB HR9.out (fun g' hg' => by simp; have := (own_lo HR2.out hg').2; omega), ?_⟩
          exact st5_bel HB9.out HB2.out.size)
        clear HN9 HK9
        go_wp2
        go_roundw
        (case rel => first
          | exact ⟨i + 1, y, v, m, R', by omega, by go_num, HA9, HG9, Lib.hid HFF.out.1, Lib.hid HFF.out.2, HF9⟩
          | exact ⟨i + 1, y, v, m, R', by omega, by go_num, HA9, HG9, Lib.hid (HFF.out.1.ch (Ch.refl [] _).drew (not_nil _)), Lib.hid ⟨HFF.out.2.1.ch (Ch.refl [] _).drew (fun g' _ => not_nil g'), (Ch.refl [] _).drew.ownB HFF.out.2.2.1 (fun g' _ => not_nil g'), HFF.out.2.2.2.drew⟩, HF9⟩)
        (case measure => simp [intOf]; omega)
      · have hml' : ¬ (i : Int) < (mk.length : Int) := by omega
        have HG9 := Lib.hid (HSKIP.out (by unfold rmv; rw [List.getElem?_eq_none (by omega)]; rfl))
        have HO9 := HO7
        have HC9 : Hid (Ch (omS b v m) w6 V7) := Lib.hid (HC7.out.mono (fun g' hg' => absurd hg' (not_nil g')))
        have HF9 := HF
        have HA9 := Lib.hid (HAT.out _ HUr.out HG9.out)
        go_upto_region 14 with fail
        have HN9 := HN6.out.ch HC9.out HNN.out
        have HK9 := HK6.out.ch HC9.out HKN2.out
        have HR9 := Lib.hid (HC9.out.ownB HX6.out.1 (fun g' hg' => HRN.out g' hg'))
        have HB9 : Hid (Below w.heap.size w V7) := Lib.hid (HX6.out.2.trans (HC9.out.belowB (fun g' hg' => (HX.out.1.lt g' hg').1) HX6.out.2.size))
        have a0 : V7.cell? ⟨n4, 0, none⟩ = some (.int .i64 y.k) := HN9.cell 0
        have a1 : V7.cell? ⟨n4, 1, none⟩ = some (.int .i64 y.p) := HN9.cell 1
        have a2 : V7.cell? ⟨n4, 2, none⟩ = some (.int .i64 y.q) := HN9.cell 2
        have a3 : V7.cell? ⟨n4, 3, none⟩ = some (.string y.s) := HN9.cell 3
        have a4 : V7.cell? ⟨n4, 4, none⟩ = some (.int .i64 y.r) := HN9.cell 4
        have k0 : V7.cell? ⟨w2.heap.size, 0, none⟩ = some (.int .i64 kc.k) := HK9.cell 0
        have k1 : V7.cell? ⟨w2.heap.size, 1, none⟩ = some (.int .i64 kc.p) := HK9.cell 1
        have k2 : V7.cell? ⟨w2.heap.size, 2, none⟩ = some (.int .i64 kc.q) := HK9.cell 2
        have k3 : V7.cell? ⟨w2.heap.size, 3, none⟩ = some (.string kc.s) := HK9.cell 3
        have k4 : V7.cell? ⟨w2.heap.size, 4, none⟩ = some (.int .i64 kc.r) := HK9.cell 4
        have al := HN9.lt
        have kl := HK9.lt
        have k0f := HK9.fz 0
        have k1f := HK9.fz 1
        have k2f := HK9.fz 2
        have k3f := HK9.fz 3
        have k4f := HK9.fz 4
        have HFF : Hid (Blk 31 w2.heap.size #[.int .i64 y.k, .int .i64 y.p, .int .i64 y.q, .string y.s, .int .i64 y.r] (st5 V7 w2.heap.size (.int .i64 y.k) (.int .i64 y.p) (.int .i64 y.q) (.string y.s) (.int .i64 y.r)) ∧ OmR w.heap.size b v m (R') (st5 V7 w2.heap.size (.int .i64 y.k) (.int .i64 y.p) (.int .i64 y.q) (.string y.s) (.int .i64 y.r)) ∧ (st5 V7 w2.heap.size (.int .i64 y.k) (.int .i64 y.p) (.int .i64 y.q) (.string y.s) (.int .i64 y.r)).ownsRow w1.heap.size 31 5 (.slice (some ⟨g, 0, none⟩) (keysR R).length cK) (keysR R).length ((keysR R).flatMap vC) ∧ Below w.heap.size w (st5 V7 w2.heap.size (.int .i64 y.k) (.int .i64 y.p) (.int .i64 y.q) (.string y.s) (.int .i64 y.r))) := Lib.hid (by
          have hc : Ch [w2.heap.size] V7 (st5 V7 w2.heap.size (.int .i64 y.k) (.int .i64 y.p) (.int .i64 y.q) (.string y.s) (.int .i64 y.r)) := st5_ch (Ch.refl _ _) (.inl (by simp))
          refine ⟨st5_blk HK9, HO9.out.ch hc (fun g' hg' => by simp; intro e; have := HF9.out g' hg'; have := HC2.out.size; omega), hc.ownB HR9.out (fun g' hg' => by simp; have := (own_lo HR2.out hg').2; omega), ?_⟩
          exact st5_bel HB9.out HB2.out.size)
        clear HN9 HK9
        go_wp2
        go_roundw
        (case rel => first
          | exact ⟨i + 1, y, v, m, R', by omega, by go_num, HA9, HG9, Lib.hid HFF.out.1, Lib.hid HFF.out.2, HF9⟩
          | exact ⟨i + 1, y, v, m, R', by omega, by go_num, HA9, HG9, Lib.hid (HFF.out.1.ch (Ch.refl [] _).drew (not_nil _)), Lib.hid ⟨HFF.out.2.1.ch (Ch.refl [] _).drew (fun g' _ => not_nil g'), (Ch.refl [] _).drew.ownB HFF.out.2.2.1 (fun g' _ => not_nil g'), HFF.out.2.2.2.drew⟩, HF9⟩)
        (case measure => simp [intOf]; omega)
    · have hlt' : ¬ (i : Int) < ((keysR R).length : Int) := by omega
      have hil : i = lenR R := by have := HKN.out; omega
      subst hil
      have hn := gd_end HG.out HA.out
      have hq := QN.out
      rw [hn] at hq
      have QN2 : Hid (Calls Try.prog 17 #[.pointer (some ⟨b, 0, none⟩), .agg #[.int .i64 kc.k, .int .i64 kc.p, .int .i64 kc.q, .string kc.s, .int .i64 kc.r]] wr fun e w' => e = .returned (.tuple #[.agg #[.int .i64 0, .int .i64 0, .int .i64 0, .string ⟨#[]⟩, .int .i64 0], .agg #[.int .i64 0, .int .i64 0, .int .i64 0, .string ⟨#[]⟩, .int .i64 0], .bool false, .int .i64 0]) ∧ OmR w.heap.size b v m R' w' ∧ Ch (omS b v m) wr w') := Lib.hid hq
      clear hn hq QN
      go_wp2_with (go_at_call 17; (with_reducible refine (QN2.out).mono ?_); rintro e w4 ⟨rfl, ho4, hc4⟩; have HO4 : Hid (OmR w.heap.size b v m R' ((w4.alloc (.cells #[.int .i64 0, .int .i64 0, .int .i64 0, .string ⟨#[]⟩, .int .i64 0] 31)).alloc (.cells #[.int .i64 0, .int .i64 0, .int .i64 0, .string ⟨#[]⟩, .int .i64 0] 31))) := Lib.hid (ho4.ch (((Ch.refl [] w4).alloc _).alloc _) (fun g _ => not_nil g)); have HB4 : Hid (Below w.heap.size w ((w4.alloc (.cells #[.int .i64 0, .int .i64 0, .int .i64 0, .string ⟨#[]⟩, .int .i64 0] 31)).alloc (.cells #[.int .i64 0, .int .i64 0, .int .i64 0, .string ⟨#[]⟩, .int .i64 0] 31))) := Lib.hid (((HX.out.2.2.trans (hc4.belowB (fun g hg => (HX.out.1.lt g hg).1) HX.out.2.2.size)).alloc (Nat.le_trans HX.out.2.2.size hc4.size) _).alloc (by have := hc4.size; have := HX.out.2.2.size; simp; omega) _); have HR4 : Hid (((w4.alloc (.cells #[.int .i64 0, .int .i64 0, .int .i64 0, .string ⟨#[]⟩, .int .i64 0] 31)).alloc (.cells #[.int .i64 0, .int .i64 0, .int .i64 0, .string ⟨#[]⟩, .int .i64 0] 31)).ownsRow w1.heap.size 31 5 (.slice pK (keysR R).length cK) (keysR R).length ((keysR R).flatMap vC)) := Lib.hid ((((Ch.refl [] w4).alloc _).alloc _).ownB (hc4.ownB HX.out.2.1 (fun g hg hg2 => by have h1 := own_lo HR2.out hg; have h2 := HF.out g hg2; omega)) (fun g _ => not_nil g)); clear ho4 hc4)
      generalize ((w4.alloc (.cells #[.int .i64 0, .int .i64 0, .int .i64 0, .string ⟨#[]⟩, .int .i64 0] 31)).alloc (.cells #[.int .i64 0, .int .i64 0, .int .i64 0, .string ⟨#[]⟩, .int .i64 0] 31)) = w5 at *
      have FD := fd_valR
      go_loopw [19] (fun v19 W => ∃ i : Nat, i ≤ (keysR R).length ∧ v19 = .int .i64 (i : Int) ∧ Hid (Below w5.heap.size w5 W)) (fun v19 _ => (keysR R).length - (intOf v19).toNat)
      case atStart => exact ⟨0, Nat.zero_le _, rfl, Lib.hid (Below.refl _ _)⟩
      case round =>
        clear k0 k1 k2 k3 k4 hkl hi hlt hlt'
        obtain ⟨i, hi, rfl, HBW⟩ := hrel
        rename World => W
        have HBT : Hid (Below w.heap.size w W) := Lib.hid (HB4.out.trans (HBW.out.mono HB4.out.size))
        by_cases hlt : i < (keysR R).length
        · have hlt' : (i : Int) < ((keysR R).length : Int) := by omega
          have hi0' : (0 : Int) ≤ (i : Int) := by omega
          have di : IntKind.i64.wrap ((i : Int) + 1) = (i : Int) + 1 := IntWalk.i64_in _ (by have := HKL.out; omega)
          obtain ⟨g, rfl, hgl, key⟩ := HFK.out W ((Ch.of_below (S := []) HBW.out).ownB HR4.out (fun g _ => not_nil g)) (by omega)
          have hget := gd_get HO.out HU.out HUr.out HG.out hlt
          have QG := Lib.hid (get_R w.heap.size b v m R' (keysR R)[i] W (HO4.out.ch (Ch.of_below (S := []) HBW.out) (fun g _ => not_nil g)) HRL.out)
          have key2 := key i hlt
          generalize getR R' (keysR R)[i] = z at *
          generalize (keysR R)[i] = y at *
          have d0 : W.cell? ⟨g, i * 5, none⟩ = some (.int .i64 y.k) := key2 0 (by omega)
          have d1 : W.cell? ⟨g, i * 5 + 1, none⟩ = some (.int .i64 y.p) := key2 1 (by omega)
          have d2 : W.cell? ⟨g, i * 5 + 2, none⟩ = some (.int .i64 y.q) := key2 2 (by omega)
          have d3 : W.cell? ⟨g, i * 5 + 3, none⟩ = some (.string y.s) := key2 3 (by omega)
          have d4 : W.cell? ⟨g, i * 5 + 4, none⟩ = some (.int .i64 y.r) := key2 4 (by omega)
          clear key key2
          by_cases hml : i < mk.length
          · have hml' : (i : Int) < (mk.length : Int) := by omega
            obtain ⟨gm, om, rfl, hgm, keym⟩ := HM.out (by omega)
            have hgm2 : gm < W.heap.size := Nat.lt_of_lt_of_le hgm HBT.out.size
            cases hmt : mk[i] with
            | true =>
              have hm0 : W.cell? ⟨gm, om + i, none⟩ = some (.bool true) := (HBT.out.cell (p := ⟨gm, _, none⟩) hgm).trans (by have := keym i 0 hml (by omega); simpa [blC, hmt] using this)
              have e0 : (z.k == 0) = true := beq_iff_eq.2 (hget.2 (by unfold rmv; rw [List.getElem?_eq_getElem hml, hmt]; rfl))
              have HM1 : Hid (∀ W', Below W.heap.size W W' → W'.cell? ⟨gm, om + i, none⟩ = some (.bool true) ∧ gm < W'.heap.size) := Lib.hid fun W' hb => ⟨(hb.cell (p := ⟨gm, _, none⟩) hgm2).trans hm0, Nat.lt_of_lt_of_le hgm2 hb.size⟩
              clear keym hmt hget
              go_wp2_with (go_at_call 18; (with_reducible refine (QG.out).mono ?_); rintro e W7 ⟨rfl, hb7⟩; have HB7 := Lib.hid hb7; obtain ⟨m7, g7⟩ := HM1.out W7 hb7; clear hb7)
              go_roundw
              (case rel => exact ⟨i + 1, by omega, by go_num, Lib.hid (HBW.out.trans (HB7.out.mono HBW.out.size))⟩)
              (case measure => simp [intOf]; omega)
            | false =>
              have hm0 : W.cell? ⟨gm, om + i, none⟩ = some (.bool false) := (HBT.out.cell (p := ⟨gm, _, none⟩) hgm).trans (by have := keym i 0 hml (by omega); simpa [blC, hmt] using this)
              have e0 : (z.k == 0) = false := beq_eq_false_iff_ne.2 (fun h => by have := hget.1 h; unfold rmv at this; rw [List.getElem?_eq_getElem hml, hmt] at this; cases this)
              have HM1 : Hid (∀ W', Below W.heap.size W W' → W'.cell? ⟨gm, om + i, none⟩ = some (.bool false) ∧ gm < W'.heap.size) := Lib.hid fun W' hb => ⟨(hb.cell (p := ⟨gm, _, none⟩) hgm2).trans hm0, Nat.lt_of_lt_of_le hgm2 hb.size⟩
              clear keym hmt hget
              go_wp2_with (go_at_call 18; (with_reducible refine (QG.out).mono ?_); rintro e W7 ⟨rfl, hb7⟩; have HB7 := Lib.hid hb7; obtain ⟨m7, g7⟩ := HM1.out W7 hb7; clear hb7)
              go_roundw
              (case rel => exact ⟨i + 1, by omega, by go_num, Lib.hid (HBW.out.trans (HB7.out.mono HBW.out.size))⟩)
              (case measure => simp [intOf]; omega)
          · have hml' : ¬ (i : Int) < (mk.length : Int) := by omega
            have e0 : (z.k == 0) = false := beq_eq_false_iff_ne.2 (fun h => by have := hget.1 h; unfold rmv at this; rw [List.getElem?_eq_none (by omega)] at this; cases this)
            clear hget
            go_wp2_with (go_at_call 18; (with_reducible refine (QG.out).mono ?_); rintro e W7 ⟨rfl, hb7⟩; have HB7 := Lib.hid hb7; clear hb7)
            go_roundw
            (case rel => exact ⟨i + 1, by omega, by go_num, Lib.hid (HBW.out.trans (HB7.out.mono HBW.out.size))⟩)
            (case measure => simp [intOf]; omega)
        · have hlt' : ¬ (i : Int) < ((keysR R).length : Int) := by omega
          have QV := Lib.hid (lives_any W)
          go_wp2_with (go_at_call 14; (with_reducible refine (QV.out).mono ?_); rintro e w8 ⟨rfl, hb8⟩)
          go_ret
          exact ⟨rfl, HBT.out.trans (hb8.mono HBT.out.size)⟩
end Go.Proofs.Ythgkbjiclghfkaa.orderedRemovesLaw
