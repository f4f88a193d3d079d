/- Going through a map from nil on, the keys come in their order with their values; afterwards there is none. No condition. -/
import Derived.Test.YthgkbjiclghfkaaOdrZm
import Derived.Test.YthgkbjiclghfkaaOdrKs
namespace Go.Proofs.Ythgkbjiclghfkaa.orderedNextLaw
open Go.ChangeShapes Go.WideShapes Go.ChangeAt Go.RowKit Go.Joins Go.Deep M1
set_option linter.unusedVariables false
set_option maxHeartbeats 16000000 in
set_option maxRecDepth 100000 in
theorem walk (p : Option Addr) (cap : Nat) (l : List OpA) (w : World) (hlm : l.length ≤ maxLen) (hp : 0 < l.length → ∃ g o, p = some ⟨g, o, none⟩ ∧ g < w.heap.size ∧ ∀ (j m : Nat) (hj : j < l.length), m < 11 → w.cell? ⟨g, o + j * 11 + m, none⟩ = (opC l[j])[m]?) :
    Calls Try.prog 4 #[.slice p l.length cap] w fun e w' => e = .returned (.bool true) ∧ Below w.heap.size w w' := by
  by_cases hl : 400 < l.length
  · have QM := Lib.hid (made_no p cap l w hlm hp hl)
    have hd : (400 : Int) < (l.length : Int) := by omega
    clear hp
    go_enter Try.func4, Try.ntmps4
    go_wp2_with (first | (go_at_call 15; (with_reducible refine (QM.out).mono ?_); rintro e w1 ⟨rfl, hb1⟩; have HB1 := Lib.hid hb1; have QV := Lib.hid (lives_any w1); clear hb1) | (go_at_call 14; (with_reducible refine (QV.out).mono ?_); rintro e w8 ⟨rfl, hb8⟩))
    go_ret
    exact ⟨rfl, HB1.out.trans (hb8.mono HB1.out.size)⟩
  have QM := Lib.hid (made_yes p cap l w hlm hp (by omega))
  have HL : Hid ((playR [] l).length ≤ 1000000) := Lib.hid (by have := playR_len l []; simp at this; omega)
  have HO : Hid (Ok (playR [] l)) := Lib.hid (ok_play l [] ok_nil)
  clear hp
  generalize (playR [] l) = R at *
  have HKN : Hid ((keysR R).length = lenR R) := Lib.hid (keysR_len R)
  have HKL : Hid ((keysR R).length ≤ 1000000) := Lib.hid (by have := HKN.out; have := lenR_le R; have := HL.out; omega)
  go_enter Try.func4, Try.ntmps4
  go_upto_region 4 with (go_at_call 15; (with_reducible refine (QM.out).mono ?_); rintro e w1 ⟨⟨b, v, m, b2, v2, rfl, ht1⟩, hb1⟩; have HT1 := Lib.hid ht1; have HB1 := Lib.hid hb1; clear ht1 hb1)
  have HU := Lib.hid HT1.out.om.un
  have HOS : Hid (∀ g ∈ omS b v m, g < w1.heap.size) := Lib.hid fun g hg => (HT1.out.om.lt g hg).2
  have QK := Lib.hid (keys_R w.heap.size b v m R w1 HT1.out.om HL.out)
  go_upto_region 5 with (go_at_call 16; (with_reducible refine (QK.out).mono ?_); rintro e w2 ⟨⟨vK, rfl, hr2⟩, hb2⟩)
  obtain ⟨pK, cK, rfl⟩ := ownB_form hr2
  have HR2 := Lib.hid hr2
  have HC2 : Hid (Ch [] w1 w2) := Lib.hid (Ch.of_below hb2)
  have HB2 := Lib.hid (HB1.out.trans (hb2.mono HB1.out.size))
  have HFK : Hid (∀ W : World, W.ownsRow w1.heap.size 31 5 (.slice pK (keysR R).length cK) (keysR R).length ((keysR R).flatMap vC) → 0 < (keysR R).length → ∃ g, pK = some ⟨g, 0, none⟩ ∧ g < W.heap.size ∧ ∀ i (hi : i < (keysR R).length) j, j < 5 → W.cell? ⟨g, i * 5 + j, none⟩ = (vC (keysR R)[i])[j]?) := Lib.hid fun W h h0 => by
    rcases Joins.ownsRow_forms h with ⟨e1, e2⟩ | ⟨g, cap, e1⟩
    · omega
    · injection e1 with e1 e2 e3
      subst e1; subst e3
      exact ⟨g, rfl, (own_lo h (mem_ob.2 rfl)).2, fun i hi j hj => by
        rw [h.cellAt (i * 5 + j) (by omega), flat_at vC 5 vC_len _ i j hi hj]⟩
  have K3 : Hid (Blk 31 w2.heap.size #[.int .i64 0, .int .i64 0, .int .i64 0, .string ⟨#[]⟩, .int .i64 0] (w2.alloc (.cells #[.int .i64 0, .int .i64 0, .int .i64 0, .string ⟨#[]⟩, .int .i64 0] 31))) := Lib.hid (Blk.new w2 _ _ _ rfl)
  have H3 : Hid (OmR w.heap.size b v m R (w2.alloc (.cells #[.int .i64 0, .int .i64 0, .int .i64 0, .string ⟨#[]⟩, .int .i64 0] 31)) ∧ (w2.alloc (.cells #[.int .i64 0, .int .i64 0, .int .i64 0, .string ⟨#[]⟩, .int .i64 0] 31)).ownsRow w1.heap.size 31 5 (.slice pK (keysR R).length cK) (keysR R).length ((keysR R).flatMap vC) ∧ Below w.heap.size w (w2.alloc (.cells #[.int .i64 0, .int .i64 0, .int .i64 0, .string ⟨#[]⟩, .int .i64 0] 31))) := Lib.hid ⟨HT1.out.om.ch (HC2.out.alloc _) (fun g _ => not_nil g), ((Ch.refl [] w2).alloc _).ownB hr2 (fun g _ => not_nil g), HB2.out.alloc HB2.out.size _⟩
  have HKB : Hid (w2.heap.size ∉ omS b v m ∧ w.heap.size ≤ w2.heap.size) := Lib.hid ⟨fun hg => by have := HOS.out _ hg; have := HC2.out.size; omega, HB2.out.size⟩
  have HKO : Hid (∀ g ∈ ob (Value.slice pK (keysR R).length cK), g ∉ omS b v m ∧ g ≠ w2.heap.size) := Lib.hid fun g hg => ⟨fun h => by have h1 := HOS.out g h; have h2 := (own_lo HR2.out hg).1; omega, fun h => by have := (own_lo HR2.out hg).2; omega⟩
  clear hr2 hb2 QK QM
  go_wp2
  go_loopw [8] (fun v8 wr => ∃ (i : Nat) (kc : V5), i ≤ (keysR R).length ∧ v8 = .int .i64 (i : Int) ∧ Hid (At R i kc) ∧ Hid (Blk 31 w2.heap.size #[.int .i64 kc.k, .int .i64 kc.p, .int .i64 kc.q, .string kc.s, .int .i64 kc.r] wr) ∧ Hid (OmR w.heap.size b v m R wr ∧ wr.ownsRow w1.heap.size 31 5 (.slice pK (keysR R).length cK) (keysR R).length ((keysR R).flatMap vC) ∧ Below w.heap.size w wr)) (fun v8 _ => (keysR R).length - (intOf v8).toNat)
  case atStart => exact ⟨0, v5z, Nat.zero_le _, rfl, Lib.hid (at_zero R), K3, H3⟩
  case round =>
    obtain ⟨i, kc, hi, rfl, HA, HK, HX⟩ := hrel
    rename World => wr
    have QN := Lib.hid (next_R w.heap.size b v m R kc wr HX.out.1 HL.out)
    have k0 : wr.cell? ⟨w2.heap.size, 0, none⟩ = some (.int .i64 kc.k) := HK.out.cell 0
    have k1 : wr.cell? ⟨w2.heap.size, 1, none⟩ = some (.int .i64 kc.p) := HK.out.cell 1
    have k2 : wr.cell? ⟨w2.heap.size, 2, none⟩ = some (.int .i64 kc.q) := HK.out.cell 2
    have k3 : wr.cell? ⟨w2.heap.size, 3, none⟩ = some (.string kc.s) := HK.out.cell 3
    have k4 : wr.cell? ⟨w2.heap.size, 4, none⟩ = some (.int .i64 kc.r) := HK.out.cell 4
    have hkl := HK.out.lt
    by_cases hlt : i < (keysR R).length
    · have hlt' : (i : Int) < ((keysR R).length : Int) := by omega
      have hi0' : (0 : Int) ≤ (i : Int) := by omega
      have di : IntKind.i64.wrap ((i : Int) + 1) = (i : Int) + 1 := IntWalk.i64_in _ (by have := HKL.out; omega)
      obtain ⟨hi', x, hn, hg, hx0, hA⟩ := at_step HO.out HU.out HA.out (by rw [← HKN.out]; exact hlt)
      have HA2 := Lib.hid hA
      have e0 : (x.k == 0) = false := beq_eq_false_iff_ne.2 hx0
      have hq := QN.out
      rw [hn] at hq
      have QN2 : Hid (Calls Try.prog 17 #[.pointer (some ⟨b, 0, none⟩), .agg #[.int .i64 kc.k, .int .i64 kc.p, .int .i64 kc.q, .string kc.s, .int .i64 kc.r]] wr fun e w' => e = .returned (.tuple #[.agg #[.int .i64 ((keysR R)[i]).k, .int .i64 ((keysR R)[i]).p, .int .i64 ((keysR R)[i]).q, .string ((keysR R)[i]).s, .int .i64 ((keysR R)[i]).r], .agg #[.int .i64 x.k, .int .i64 x.p, .int .i64 x.q, .string x.s, .int .i64 x.r], .bool true, .int .i64 0]) ∧ OmR w.heap.size b v m R w' ∧ Ch (omS b v m) wr w') := Lib.hid hq
      have HFW : Hid (∀ W : World, W.ownsRow w1.heap.size 31 5 (.slice pK (keysR R).length cK) (keysR R).length ((keysR R).flatMap vC) → ∃ g, pK = some ⟨g, 0, none⟩ ∧ g < W.heap.size ∧ ∀ j, j < 5 → W.cell? ⟨g, i * 5 + j, none⟩ = (vC (keysR R)[i])[j]?) := Lib.hid fun W h => by
        obtain ⟨g, q1, q2, q3⟩ := HFK.out W h (by omega)
        exact ⟨g, q1, q2, fun j hj => q3 i hlt j hj⟩
      have QG : Hid (∀ W, OmR w.heap.size b v m R W → Calls Try.prog 18 #[.pointer (some ⟨b, 0, none⟩), .agg #[.int .i64 ((keysR R)[i]).k, .int .i64 ((keysR R)[i]).p, .int .i64 ((keysR R)[i]).q, .string ((keysR R)[i]).s, .int .i64 ((keysR R)[i]).r]] W fun e w' => e = .returned (.agg #[.int .i64 x.k, .int .i64 x.p, .int .i64 x.q, .string x.s, .int .i64 x.r]) ∧ Below W.heap.size W w') := Lib.hid fun W h => by
        have := get_R w.heap.size b v m R ((keysR R)[i]) W h HL.out
        rw [hg] at this
        exact this
      clear hn hg hx0 hA hq QN
      generalize (keysR R)[i] = y at *
      have NE1 := fun W => neq_v5 y W
      have NE2 := fun W => neq_v5 x W
      go_upto_region 10 with (go_at_call 17; (with_reducible refine (QN2.out).mono ?_); rintro e w4 ⟨rfl, ho4, hc4⟩)
      have HX6 : Hid (OmR w.heap.size b v m R ((w4.alloc (.cells #[.int .i64 y.k, .int .i64 y.p, .int .i64 y.q, .string y.s, .int .i64 y.r] 31)).alloc (.cells #[.int .i64 x.k, .int .i64 x.p, .int .i64 x.q, .string x.s, .int .i64 x.r] 31)) ∧ ((w4.alloc (.cells #[.int .i64 y.k, .int .i64 y.p, .int .i64 y.q, .string y.s, .int .i64 y.r] 31)).alloc (.cells #[.int .i64 x.k, .int .i64 x.p, .int .i64 x.q, .string x.s, .int .i64 x.r] 31)).ownsRow w1.heap.size 31 5 (.slice pK (keysR R).length cK) (keysR R).length ((keysR R).flatMap vC) ∧ Below w.heap.size w ((w4.alloc (.cells #[.int .i64 y.k, .int .i64 y.p, .int .i64 y.q, .string y.s, .int .i64 y.r] 31)).alloc (.cells #[.int .i64 x.k, .int .i64 x.p, .int .i64 x.q, .string x.s, .int .i64 x.r] 31))) := Lib.hid (by
        have hb4 : Below w.heap.size w w4 := HX.out.2.2.trans (hc4.belowB (fun g hg => (HX.out.1.lt g hg).1) HX.out.2.2.size)
        have hc6 : Ch [] w4 ((w4.alloc (.cells #[.int .i64 y.k, .int .i64 y.p, .int .i64 y.q, .string y.s, .int .i64 y.r] 31)).alloc (.cells #[.int .i64 x.k, .int .i64 x.p, .int .i64 x.q, .string x.s, .int .i64 x.r] 31)) := ((Ch.refl [] w4).alloc _).alloc _
        exact ⟨ho4.ch hc6 (fun g _ => not_nil g), hc6.ownB (hc4.ownB HX.out.2.1 (fun g hg => (HKO.out g hg).1)) (fun g _ => not_nil g), hb4.trans (hc6.below.mono hb4.size)⟩)
      have HK6 : Hid (Blk 31 w2.heap.size #[.int .i64 kc.k, .int .i64 kc.p, .int .i64 kc.q, .string kc.s, .int .i64 kc.r] ((w4.alloc (.cells #[.int .i64 y.k, .int .i64 y.p, .int .i64 y.q, .string y.s, .int .i64 y.r] 31)).alloc (.cells #[.int .i64 x.k, .int .i64 x.p, .int .i64 x.q, .string x.s, .int .i64 x.r] 31))) := Lib.hid ((HK.out.ch hc4 HKB.out.1).ch (((Ch.refl [] w4).alloc _).alloc _) (not_nil _))
      have HN6 : Hid (Blk 31 w4.heap.size #[.int .i64 y.k, .int .i64 y.p, .int .i64 y.q, .string y.s, .int .i64 y.r] ((w4.alloc (.cells #[.int .i64 y.k, .int .i64 y.p, .int .i64 y.q, .string y.s, .int .i64 y.r] 31)).alloc (.cells #[.int .i64 x.k, .int .i64 x.p, .int .i64 x.q, .string x.s, .int .i64 x.r] 31))) := Lib.hid ((Blk.new w4 31 _ _ rfl).ch ((Ch.refl [] _).alloc _) (not_nil _))
      have HV6 : Hid (Blk 31 (w4.heap.size + 1) #[.int .i64 x.k, .int .i64 x.p, .int .i64 x.q, .string x.s, .int .i64 x.r] ((w4.alloc (.cells #[.int .i64 y.k, .int .i64 y.p, .int .i64 y.q, .string y.s, .int .i64 y.r] 31)).alloc (.cells #[.int .i64 x.k, .int .i64 x.p, .int .i64 x.q, .string x.s, .int .i64 x.r] 31))) := Lib.hid (Blk.new _ 31 _ _ (by simp))
      have HZ6 : Hid (w2.heap.size ≠ w4.heap.size) := Lib.hid (by have := (HK.out.ch hc4 HKB.out.1).lt; omega)
      generalize ((w4.alloc (.cells #[.int .i64 y.k, .int .i64 y.p, .int .i64 y.q, .string y.s, .int .i64 y.r] 31)).alloc (.cells #[.int .i64 x.k, .int .i64 x.p, .int .i64 x.q, .string x.s, .int .i64 x.r] 31)) = w6 at *
      generalize w4.heap.size = n4 at *
      clear ho4 hc4 k0 k1 k2 k3 k4 hkl
      have a0 : w6.cell? ⟨n4, 0, none⟩ = some (.int .i64 y.k) := HN6.out.cell 0
      have a1 : w6.cell? ⟨n4, 1, none⟩ = some (.int .i64 y.p) := HN6.out.cell 1
      have a2 : w6.cell? ⟨n4, 2, none⟩ = some (.int .i64 y.q) := HN6.out.cell 2
      have a3 : w6.cell? ⟨n4, 3, none⟩ = some (.string y.s) := HN6.out.cell 3
      have a4 : w6.cell? ⟨n4, 4, none⟩ = some (.int .i64 y.r) := HN6.out.cell 4
      have c0 : w6.cell? ⟨(n4 + 1), 0, none⟩ = some (.int .i64 x.k) := HV6.out.cell 0
      have c1 : w6.cell? ⟨(n4 + 1), 1, none⟩ = some (.int .i64 x.p) := HV6.out.cell 1
      have c2 : w6.cell? ⟨(n4 + 1), 2, none⟩ = some (.int .i64 x.q) := HV6.out.cell 2
      have c3 : w6.cell? ⟨(n4 + 1), 3, none⟩ = some (.string x.s) := HV6.out.cell 3
      have c4 : w6.cell? ⟨(n4 + 1), 4, none⟩ = some (.int .i64 x.r) := HV6.out.cell 4
      have al := HN6.out.lt
      have cl := HV6.out.lt
      obtain ⟨g, rfl, hgl, key⟩ := HFW.out w6 HX6.out.2.1
      have d0 : w6.cell? ⟨g, i * 5, none⟩ = some (.int .i64 y.k) := key 0 (by omega)
      have d1 : w6.cell? ⟨g, i * 5 + 1, none⟩ = some (.int .i64 y.p) := key 1 (by omega)
      have d2 : w6.cell? ⟨g, i * 5 + 2, none⟩ = some (.int .i64 y.q) := key 2 (by omega)
      have d3 : w6.cell? ⟨g, i * 5 + 3, none⟩ = some (.string y.s) := key 3 (by omega)
      have d4 : w6.cell? ⟨g, i * 5 + 4, none⟩ = some (.int .i64 y.r) := key 4 (by omega)
      clear key
      have ho6 := HX6.out.1
      have hW := Below.refl w6.heap.size w6
      have hcc : ∀ c o, c < w6.heap.size → w6.drew.cell? ⟨c, o, none⟩ = w6.cell? ⟨c, o, none⟩ := fun _ _ _ => rfl
      go_region_held3 (fun w' => (∀ c o, c < w6.heap.size → w'.cell? ⟨c, o, none⟩ = w6.cell? ⟨c, o, none⟩) ∧ OmR w.heap.size b v m R w' ∧ Below w6.heap.size w6 w') (first | assumption | exact ⟨hcc, ho6.ch ((Ch.refl [] w6).drew) (by simp), hW.drew⟩ | exact keepL (by assumption) hb7) (first | (go_at_call 18; have hE := (‹_ ∧ OmR _ _ _ _ _ _ ∧ Below _ _ _›).2.1; (with_reducible refine (QG.out _ hE).mono ?_); clear hE; rintro e w7 ⟨rfl, hb7⟩))
      all_goals (
        have hS := ‹_ ∧ OmR _ _ _ _ _ _ ∧ Below _ _ _›
        rename World => V9
        have HN9 := HN6.out.below hS.2.2
        have HK9 := HK6.out.below hS.2.2
        have HV9 := Lib.hid (And.intro hS.2.1 hS.2.2)
        clear a0 a1 a2 a3 a4 al c0 c1 c2 c3 c4 cl d0 d1 d2 d3 d4 hgl NE1 NE2 hcc ho6 hW
        have a0 : V9.cell? ⟨n4, 0, none⟩ = some (.int .i64 y.k) := HN9.cell 0
        have a1 : V9.cell? ⟨n4, 1, none⟩ = some (.int .i64 y.p) := HN9.cell 1
        have a2 : V9.cell? ⟨n4, 2, none⟩ = some (.int .i64 y.q) := HN9.cell 2
        have a3 : V9.cell? ⟨n4, 3, none⟩ = some (.string y.s) := HN9.cell 3
        have a4 : V9.cell? ⟨n4, 4, none⟩ = some (.int .i64 y.r) := HN9.cell 4
        have k0 : V9.cell? ⟨w2.heap.size, 0, none⟩ = some (.int .i64 kc.k) := HK9.cell 0
        have k1 : V9.cell? ⟨w2.heap.size, 1, none⟩ = some (.int .i64 kc.p) := HK9.cell 1
        have k2 : V9.cell? ⟨w2.heap.size, 2, none⟩ = some (.int .i64 kc.q) := HK9.cell 2
        have k3 : V9.cell? ⟨w2.heap.size, 3, none⟩ = some (.string kc.s) := HK9.cell 3
        have k4 : V9.cell? ⟨w2.heap.size, 4, none⟩ = some (.int .i64 kc.r) := HK9.cell 4
        have al := HN9.lt
        have kl := HK9.lt
        have k0f := HK9.fz 0
        have k1f := HK9.fz 1
        have k2f := HK9.fz 2
        have k3f := HK9.fz 3
        have k4f := HK9.fz 4
        have HF : Hid (Blk 31 w2.heap.size #[.int .i64 y.k, .int .i64 y.p, .int .i64 y.q, .string y.s, .int .i64 y.r] (st5 V9 w2.heap.size (.int .i64 y.k) (.int .i64 y.p) (.int .i64 y.q) (.string y.s) (.int .i64 y.r)) ∧ OmR w.heap.size b v m R (st5 V9 w2.heap.size (.int .i64 y.k) (.int .i64 y.p) (.int .i64 y.q) (.string y.s) (.int .i64 y.r)) ∧ (st5 V9 w2.heap.size (.int .i64 y.k) (.int .i64 y.p) (.int .i64 y.q) (.string y.s) (.int .i64 y.r)).ownsRow w1.heap.size 31 5 (.slice (some ⟨g, 0, none⟩) (keysR R).length cK) (keysR R).length ((keysR R).flatMap vC) ∧ Below w.heap.size w (st5 V9 w2.heap.size (.int .i64 y.k) (.int .i64 y.p) (.int .i64 y.q) (.string y.s) (.int .i64 y.r))) := Lib.hid (by
          have hc : Ch [w2.heap.size] V9 (st5 V9 w2.heap.size (.int .i64 y.k) (.int .i64 y.p) (.int .i64 y.q) (.string y.s) (.int .i64 y.r)) := st5_ch (Ch.refl _ _) (.inl (by simp))
          refine ⟨st5_blk HK9, HV9.out.1.ch hc (fun g' hg' => by simp; intro e; subst e; exact HKB.out.1 hg'), hc.ownB ((Ch.of_below (S := []) HV9.out.2).ownB HX6.out.2.1 (fun g' _ => not_nil g')) (fun g' hg' => by simp; exact (HKO.out g' hg').2), ?_⟩
          have hb9 := HX6.out.2.2.trans (HV9.out.2.mono HX6.out.2.2.size)
          exact st5_bel hb9 HKB.out.2)
        clear HN9 HK9 hS
        go_wp2
        go_roundw
        (case rel => first
          | exact ⟨i + 1, y, by omega, by go_num, HA2, Lib.hid HF.out.1, Lib.hid HF.out.2⟩
          | exact ⟨i + 1, y, by omega, by go_num, HA2, Lib.hid (HF.out.1.ch (Ch.refl [] _).drew (not_nil _)), Lib.hid ⟨HF.out.2.1.ch (Ch.refl [] _).drew (fun g' _ => not_nil g'), (Ch.refl [] _).drew.ownB HF.out.2.2.1 (fun g' _ => not_nil g'), HF.out.2.2.2.drew⟩⟩)
        (case measure => simp [intOf]; omega))
    · have hlt' : ¬ (i : Int) < ((keysR R).length : Int) := by omega
      have hn := at_end (R := R) (k := kc) (by have := HA.out; rw [show i = lenR R by have := HKN.out; omega] at this; exact this)
      have hq := QN.out
      rw [hn] at hq
      have QN2 : Hid (Calls Try.prog 17 #[.pointer (some ⟨b, 0, none⟩), .agg #[.int .i64 kc.k, .int .i64 kc.p, .int .i64 kc.q, .string kc.s, .int .i64 kc.r]] wr fun e w' => e = .returned (.tuple #[.agg #[.int .i64 0, .int .i64 0, .int .i64 0, .string ⟨#[]⟩, .int .i64 0], .agg #[.int .i64 0, .int .i64 0, .int .i64 0, .string ⟨#[]⟩, .int .i64 0], .bool false, .int .i64 0]) ∧ OmR w.heap.size b v m R w' ∧ Ch (omS b v m) wr w') := Lib.hid hq
      have EZ : ∀ W, (binOp .eql 31 (.agg #[.int .i64 0, .int .i64 0, .int .i64 0, .string ⟨#[]⟩, .int .i64 0]) (.agg #[.int .i64 0, .int .i64 0, .int .i64 0, .string ⟨#[]⟩, .int .i64 0])).run Try.prog W = .ok (.bool true) W := fun W => by rw [eq_val]; rfl
      clear hn hq QN
      go_wp2_with (first | (go_at_call 17; (with_reducible refine (QN2.out).mono ?_); rintro e w4 ⟨rfl, ho4, hc4⟩; have HO4 : Hid (OmR w.heap.size b v m R ((w4.alloc (.cells #[.int .i64 0, .int .i64 0, .int .i64 0, .string ⟨#[]⟩, .int .i64 0] 31)).alloc (.cells #[.int .i64 0, .int .i64 0, .int .i64 0, .string ⟨#[]⟩, .int .i64 0] 31))) := Lib.hid (ho4.ch (((Ch.refl [] w4).alloc _).alloc _) (fun g _ => not_nil g)); have HB4 : Hid (Below w.heap.size w ((w4.alloc (.cells #[.int .i64 0, .int .i64 0, .int .i64 0, .string ⟨#[]⟩, .int .i64 0] 31)).alloc (.cells #[.int .i64 0, .int .i64 0, .int .i64 0, .string ⟨#[]⟩, .int .i64 0] 31))) := Lib.hid (((HX.out.2.2.trans (hc4.belowB (fun g hg => (HX.out.1.lt g hg).1) HX.out.2.2.size)).alloc (Nat.le_trans HX.out.2.2.size hc4.size) _).alloc (by have := hc4.size; have := HX.out.2.2.size; simp; omega) _); have QL := Lib.hid (len_R w.heap.size b v m R _ HO4.out); have QV := Lib.hid (lives_any ((w4.alloc (.cells #[.int .i64 0, .int .i64 0, .int .i64 0, .string ⟨#[]⟩, .int .i64 0] 31)).alloc (.cells #[.int .i64 0, .int .i64 0, .int .i64 0, .string ⟨#[]⟩, .int .i64 0] 31))); clear ho4 hc4) | (go_at_call 19; (with_reducible refine (QL.out).mono ?_); rintro e w5 ⟨rfl, rfl⟩; have hz : ((keysR R).length : Int) = (lenR R : Int) := by rw [HKN.out]) | (go_at_call 14; (with_reducible refine (QV.out).mono ?_); rintro e w8 ⟨rfl, hb8⟩))
      go_ret
      exact ⟨rfl, HB4.out.trans (hb8.mono HB4.out.size)⟩
end Go.Proofs.Ythgkbjiclghfkaa.orderedNextLaw
