/- Layer 12: a part of the walk of OrderedSets. -/
import Derived.Test.YthgkbjiclghfkaaOdrZs
import Derived.Test.YthgkbjiclghfkaaOdrKs
import Derived.Test.YthgkbjiclghfkaaOdrQv
namespace Go.Proofs.Ythgkbjiclghfkaa.orderedSetsLaw
open Go.ChangeShapes Go.WideShapes Go.ChangeAt Go.RowKit Go.Joins Go.Deep M1
set_option linter.unusedVariables false
theorem hp_below {p : Option Addr} {l : List OpA} {w W : World} (h : 0 < l.length → ∃ g o, p = some ⟨g, o, none⟩ ∧ g < w.heap.size ∧ ∀ (j m : Nat) (hj : j < l.length), m < 11 → w.cell? ⟨g, o + j * 11 + m, none⟩ = (opC l[j])[m]?) (hb : Below w.heap.size w W) : 0 < l.length → ∃ g o, p = some ⟨g, o, none⟩ ∧ g < W.heap.size ∧ ∀ (j m : Nat) (hj : j < l.length), m < 11 → W.cell? ⟨g, o + j * 11 + m, none⟩ = (opC l[j])[m]? := fun h0 => by
  obtain ⟨g, o, h1, h2, h3⟩ := h h0
  exact ⟨g, o, h1, Nat.lt_of_lt_of_le h2 hb.size, fun j m hj hm => (hb.cell (p := ⟨g, _, none⟩) h2).trans (h3 j m hj hm)⟩
theorem neq_v5g (a c : V5) (W : World) : (binOp .neq 31 (.agg #[.int .i64 a.k, .int .i64 a.p, .int .i64 a.q, .string a.s, .int .i64 a.r]) (.agg #[.int .i64 c.k, .int .i64 c.p, .int .i64 c.q, .string c.s, .int .i64 c.r])).run Try.prog W = .ok (.bool (!decide (a = c))) W := by
  rw [neq_val]
  have : eqV a.k a.p a.q a.s a.r c.k c.p c.q c.s c.r = decide (a = c) := by
    unfold eqV
    rw [Bool.eq_iff_iff]
    cases a; cases c; simp
  rw [this]
set_option maxHeartbeats 8000000 in
theorem walk_a (p : Option Addr) (cap : Nat) (l : List OpA) (k x : V5) (po : Option Addr) (co : Nat) (os : List V5) (w : World) (hlm : l.length ≤ maxLen) (hp : 0 < l.length → ∃ g o, p = some ⟨g, o, none⟩ ∧ g < w.heap.size ∧ ∀ (j m : Nat) (hj : j < l.length), m < 11 → w.cell? ⟨g, o + j * 11 + m, none⟩ = (opC l[j])[m]?) (hlo : os.length ≤ maxLen) (hpo : 0 < os.length → ∃ g o, po = some ⟨g, o, none⟩ ∧ g < w.heap.size ∧ ∀ (j m : Nat) (hj : j < os.length), m < 5 → w.cell? ⟨g, o + j * 5 + m, none⟩ = (vC os[j])[m]?) (hl : 400 < l.length) :
    Calls Try.prog 6 #[.slice p l.length cap, .agg #[.int .i64 k.k, .int .i64 k.p, .int .i64 k.q, .string k.s, .int .i64 k.r], .agg #[.int .i64 x.k, .int .i64 x.p, .int .i64 x.q, .string x.s, .int .i64 x.r], .slice po os.length co] w fun e w' => e = .returned (.bool true) ∧ Below w.heap.size w w' := by
  have HW0 : Hid (Below w.heap.size w ((w.alloc (.cells #[.int .i64 k.k, .int .i64 k.p, .int .i64 k.q, .string k.s, .int .i64 k.r] 31)).alloc (.cells #[.int .i64 x.k, .int .i64 x.p, .int .i64 x.q, .string x.s, .int .i64 x.r] 31))) := Lib.hid (((Below.refl w.heap.size w).alloc (Nat.le_refl _) _).alloc (by simp) _)
  have QM := Lib.hid (made_no p cap l ((w.alloc (.cells #[.int .i64 k.k, .int .i64 k.p, .int .i64 k.q, .string k.s, .int .i64 k.r] 31)).alloc (.cells #[.int .i64 x.k, .int .i64 x.p, .int .i64 x.q, .string x.s, .int .i64 x.r] 31)) hlm (hp_below hp HW0.out) hl)
  have hd : (400 : Int) < (l.length : Int) := by omega
  clear hp hpo
  go_enter Try.func6, Try.ntmps6
  go_upto_region 1 with fail
  generalize ((w.alloc (.cells #[.int .i64 k.k, .int .i64 k.p, .int .i64 k.q, .string k.s, .int .i64 k.r] 31)).alloc (.cells #[.int .i64 x.k, .int .i64 x.p, .int .i64 x.q, .string x.s, .int .i64 x.r] 31)) = w0 at *
  go_wp2_with (first | (go_at_call 15; (with_reducible refine (QM.out).mono ?_); rintro e w1 ⟨rfl, hb1⟩; have HB1 := Lib.hid (HW0.out.trans (hb1.mono HW0.out.size)); have QV := Lib.hid (lives_any w1); clear hb1) | (go_at_call 14; (with_reducible refine (QV.out).mono ?_); rintro e w8 ⟨rfl, hb8⟩))
  go_ret
  exact ⟨rfl, HB1.out.trans (hb8.mono HB1.out.size)⟩
set_option maxHeartbeats 8000000 in
theorem walk_b (p : Option Addr) (cap : Nat) (l : List OpA) (k x : V5) (po : Option Addr) (co : Nat) (os : List V5) (w : World) (hlm : l.length ≤ maxLen) (hp : 0 < l.length → ∃ g o, p = some ⟨g, o, none⟩ ∧ g < w.heap.size ∧ ∀ (j m : Nat) (hj : j < l.length), m < 11 → w.cell? ⟨g, o + j * 11 + m, none⟩ = (opC l[j])[m]?) (hlo : os.length ≤ maxLen) (hpo : 0 < os.length → ∃ g o, po = some ⟨g, o, none⟩ ∧ g < w.heap.size ∧ ∀ (j m : Nat) (hj : j < os.length), m < 5 → w.cell? ⟨g, o + j * 5 + m, none⟩ = (vC os[j])[m]?) (hl : l.length ≤ 400) (ho : 40 < os.length) :
    Calls Try.prog 6 #[.slice p l.length cap, .agg #[.int .i64 k.k, .int .i64 k.p, .int .i64 k.q, .string k.s, .int .i64 k.r], .agg #[.int .i64 x.k, .int .i64 x.p, .int .i64 x.q, .string x.s, .int .i64 x.r], .slice po os.length co] w fun e w' => e = .returned (.bool true) ∧ Below w.heap.size w w' := by
  have HW0 : Hid (Below w.heap.size w ((w.alloc (.cells #[.int .i64 k.k, .int .i64 k.p, .int .i64 k.q, .string k.s, .int .i64 k.r] 31)).alloc (.cells #[.int .i64 x.k, .int .i64 x.p, .int .i64 x.q, .string x.s, .int .i64 x.r] 31))) := Lib.hid (((Below.refl w.heap.size w).alloc (Nat.le_refl _) _).alloc (by simp) _)
  have QM := Lib.hid (made_yes p cap l ((w.alloc (.cells #[.int .i64 k.k, .int .i64 k.p, .int .i64 k.q, .string k.s, .int .i64 k.r] 31)).alloc (.cells #[.int .i64 x.k, .int .i64 x.p, .int .i64 x.q, .string x.s, .int .i64 x.r] 31)) hlm (hp_below hp HW0.out) hl)
  have hd : ¬ (400 : Int) < (l.length : Int) := by omega
  have hd1 : (40 : Int) < (os.length : Int) := by omega
  clear hp hpo
  go_enter Try.func6, Try.ntmps6
  go_upto_region 1 with fail
  generalize ((w.alloc (.cells #[.int .i64 k.k, .int .i64 k.p, .int .i64 k.q, .string k.s, .int .i64 k.r] 31)).alloc (.cells #[.int .i64 x.k, .int .i64 x.p, .int .i64 x.q, .string x.s, .int .i64 x.r] 31)) = w0 at *
  go_wp2_with (first | (go_at_call 15; (with_reducible refine (QM.out).mono ?_); rintro e w1 ⟨⟨b, v, m, b2, v2, rfl, ht1⟩, hb1⟩; have HB1 := Lib.hid (HW0.out.trans (hb1.mono HW0.out.size)); have QV := Lib.hid (lives_any w1); clear ht1 hb1) | (go_at_call 14; (with_reducible refine (QV.out).mono ?_); rintro e w8 ⟨rfl, hb8⟩))
  go_ret
  exact ⟨rfl, HB1.out.trans (hb8.mono HB1.out.size)⟩
set_option maxHeartbeats 16000000 in
set_option maxRecDepth 100000 in
theorem walk_c1 (p : Option Addr) (cap : Nat) (l : List OpA) (k x : V5) (po : Option Addr) (co : Nat) (os : List V5) (w : World) (hlm : l.length ≤ maxLen) (hp : 0 < l.length → ∃ g o, p = some ⟨g, o, none⟩ ∧ g < w.heap.size ∧ ∀ (j m : Nat) (hj : j < l.length), m < 11 → w.cell? ⟨g, o + j * 11 + m, none⟩ = (opC l[j])[m]?) (hlo : os.length ≤ maxLen) (hpo : 0 < os.length → ∃ g o, po = some ⟨g, o, none⟩ ∧ g < w.heap.size ∧ ∀ (j m : Nat) (hj : j < os.length), m < 5 → w.cell? ⟨g, o + j * 5 + m, none⟩ = (vC os[j])[m]?) (hl : l.length ≤ 400) (ho : os.length ≤ 40) (hk : okV k = false) :
    Calls Try.prog 6 #[.slice p l.length cap, .agg #[.int .i64 k.k, .int .i64 k.p, .int .i64 k.q, .string k.s, .int .i64 k.r], .agg #[.int .i64 x.k, .int .i64 x.p, .int .i64 x.q, .string x.s, .int .i64 x.r], .slice po os.length co] w fun e w' => e = .returned (.bool true) ∧ Below w.heap.size w w' := by
  have HW0 : Hid (Below w.heap.size w ((w.alloc (.cells #[.int .i64 k.k, .int .i64 k.p, .int .i64 k.q, .string k.s, .int .i64 k.r] 31)).alloc (.cells #[.int .i64 x.k, .int .i64 x.p, .int .i64 x.q, .string x.s, .int .i64 x.r] 31))) := Lib.hid (((Below.refl w.heap.size w).alloc (Nat.le_refl _) _).alloc (by simp) _)
  have QM := Lib.hid (made_yes p cap l ((w.alloc (.cells #[.int .i64 k.k, .int .i64 k.p, .int .i64 k.q, .string k.s, .int .i64 k.r] 31)).alloc (.cells #[.int .i64 x.k, .int .i64 x.p, .int .i64 x.q, .string x.s, .int .i64 x.r] 31)) hlm (hp_below hp HW0.out) hl)
  have HK0 : Hid (Blk 31 w.heap.size #[.int .i64 k.k, .int .i64 k.p, .int .i64 k.q, .string k.s, .int .i64 k.r] ((w.alloc (.cells #[.int .i64 k.k, .int .i64 k.p, .int .i64 k.q, .string k.s, .int .i64 k.r] 31)).alloc (.cells #[.int .i64 x.k, .int .i64 x.p, .int .i64 x.q, .string x.s, .int .i64 x.r] 31))) := Lib.hid ((Blk.new w 31 _ _ rfl).ch ((Ch.refl [] _).alloc _) (not_nil _))
  have HX0 : Hid (Blk 31 (w.heap.size + 1) #[.int .i64 x.k, .int .i64 x.p, .int .i64 x.q, .string x.s, .int .i64 x.r] ((w.alloc (.cells #[.int .i64 k.k, .int .i64 k.p, .int .i64 k.q, .string k.s, .int .i64 k.r] 31)).alloc (.cells #[.int .i64 x.k, .int .i64 x.p, .int .i64 x.q, .string x.s, .int .i64 x.r] 31))) := Lib.hid (Blk.new _ 31 _ _ (by simp))
  have HL : Hid ((playR [] l).length ≤ 400) := Lib.hid (by have := playR_len l []; simp at this; omega)
  have HE : Hid (errR k x = 13) := Lib.hid (by unfold errR; rw [if_pos (.inr hk)])
  have HOK := Lib.hid hk
  clear hk
  obtain ⟨i0, hi0, jz0, jz1, jz2⟩ := info_parts info_val
  have hd : ¬ (400 : Int) < (l.length : Int) := by omega
  have hd1 : ¬ (40 : Int) < (os.length : Int) := by omega
  have HPO := Lib.hid hpo
  clear hp hpo
  generalize (playR [] l) = R at *
  go_enter Try.func6, Try.ntmps6
  go_upto_region 1 with fail
  generalize ((w.alloc (.cells #[.int .i64 k.k, .int .i64 k.p, .int .i64 k.q, .string k.s, .int .i64 k.r] 31)).alloc (.cells #[.int .i64 x.k, .int .i64 x.p, .int .i64 x.q, .string x.s, .int .i64 x.r] 31)) = w0 at *
  go_upto_region 4 with (go_at_call 15; (with_reducible refine (QM.out).mono ?_); rintro e w1 ⟨⟨b, v, m, b2, v2, rfl, ht1⟩, hb1⟩; have HO1 := Lib.hid ht1.om; have HB1 := Lib.hid hb1; clear ht1 hb1)
  have HOS : Hid (∀ g ∈ omS b v m, w0.heap.size ≤ g ∧ g < w1.heap.size) := Lib.hid fun g hg => HO1.out.lt g hg
  have HOW : Hid (w1.ownsRow w1.heap.size 31 5 (.slice none 0 0) 0 ((((os.take 0).map (getR R))).flatMap vC)) := Lib.hid (World.ownsRow_nil _ _ _ _)
  clear QM
  go_wp2
  go_loopw [12, 13] (fun v12 v13 wr => ∃ (i : Nat) (p3 : Option Addr) (c3 : Nat), i ≤ os.length ∧ v12 = .slice p3 i c3 ∧ v13 = .int .i64 (i : Int) ∧ Hid (wr.ownsRow w1.heap.size 31 5 (.slice p3 i c3) i ((((os.take i).map (getR R))).flatMap vC)) ∧ Hid (Below w1.heap.size w1 wr)) (fun _ v13 _ => os.length - (intOf v13).toNat)
  case atStart => exact ⟨0, none, 0, Nat.zero_le _, rfl, rfl, HOW, Lib.hid (Below.refl _ _)⟩
  case round =>
    obtain ⟨i, p3, c3, hi, rfl, rfl, HV, HB⟩ := hrel
    rename World => wr
    have HB0r : Hid (Below w0.heap.size w0 wr) := Lib.hid (HB1.out.trans (HB.out.mono HB1.out.size))
    have HBwr : Hid (Below w.heap.size w wr) := Lib.hid (HW0.out.trans (HB0r.out.mono HW0.out.size))
    have HOr : Hid (OmR w0.heap.size b v m R wr) := Lib.hid (HO1.out.ch (Ch.of_below (S := []) HB.out) (fun g _ => not_nil g))
    by_cases hlt : i < os.length
    · have hlt' : (i : Int) < (os.length : Int) := by omega
      have hi0' : (0 : Int) ≤ (i : Int) := by omega
      have di : IntKind.i64.wrap ((i : Int) + 1) = (i : Int) + 1 := IntWalk.i64_in _ (by omega)
      obtain ⟨g, o, rfl, hgl, key⟩ := HPO.out (by omega)
      have key2 : ∀ j, j < 5 → wr.cell? ⟨g, o + i * 5 + j, none⟩ = (vC os[i])[j]? := fun j hj => (HBwr.out.cell (p := ⟨g, _, none⟩) hgl).trans (key i j hlt hj)
      have hgr : g < wr.heap.size := Nat.lt_of_lt_of_le hgl HBwr.out.size
      have d0 : wr.cell? ⟨g, o + i * 5, none⟩ = some (.int .i64 os[i].k) := key2 0 (by omega)
      have d1 : wr.cell? ⟨g, o + i * 5 + 1, none⟩ = some (.int .i64 os[i].p) := key2 1 (by omega)
      have d2 : wr.cell? ⟨g, o + i * 5 + 2, none⟩ = some (.int .i64 os[i].q) := key2 2 (by omega)
      have d3 : wr.cell? ⟨g, o + i * 5 + 3, none⟩ = some (.string os[i].s) := key2 3 (by omega)
      have d4 : wr.cell? ⟨g, o + i * 5 + 4, none⟩ = some (.int .i64 os[i].r) := key2 4 (by omega)
      have QG := Lib.hid (get_R w0.heap.size b v m R os[i] wr HOr.out (by have := HL.out; omega))
      have HST : Hid ((((os.take (i + 1)).map (getR R))) = (((os.take i).map (getR R))) ++ [getR R os[i]]) := Lib.hid (by rw [List.take_succ_eq_append_getElem hlt, List.map_append]; rfl)
      clear key key2
      generalize getR R os[i] = z at *
      go_wp2_with (first | (go_at_call 18; (with_reducible refine (QG.out).mono ?_); rintro e w4 ⟨rfl, hb4⟩; have HH : Hid ((w4.alloc (.cells #[.int .i64 z.k, .int .i64 z.p, .int .i64 z.q, .string z.s, .int .i64 z.r] 31)).ownsRow w1.heap.size 31 5 (.slice p3 i c3) i ((((os.take i).map (getR R))).flatMap vC)) := Lib.hid ((((Ch.of_below (S := []) hb4)).alloc _).ownB HV.out (fun g _ => not_nil g)); have HB4 : Hid (Below w1.heap.size w1 w4) := Lib.hid (HB.out.trans (hb4.mono HB.out.size)); clear hb4) | (at_builtin; refine wpList_append_own_at _ rfl _ _ 39 rfl w1.heap.size 31 i0 (.agg #[.int .i64 0, .int .i64 0, .int .i64 0, .string ⟨#[]⟩, .int .i64 0]) 5 48 Try.underlying39 hi0 jz0 jz1 jz2 rfl (by decide) _ _ _ rfl HH.out ⟨w4.heap.size, 0, none⟩ 1 1 (vC z) rfl rfl (vC_at z _ _ rfl) (vC_one _) (by unfold maxLen; omega) (by omega) (by have := HB4.out.size; simp; omega) ?_))
      intro v5 w5 ho5 hg5 _ _
      obtain ⟨p5, c5, rfl⟩ := ownB_form ho5
      have HB5 : Hid (Below w1.heap.size w1 w5) := Lib.hid ((HB4.out.alloc HB4.out.size _).grown hg5 (by have := HB4.out.size; simp; omega) (fun q e => (own_lo HH.out (mem_ob.2 e)).1))
      have HO5 : Hid (w5.ownsRow w1.heap.size 31 5 (.slice p5 (i + 1) c5) (i + 1) ((((os.take (i + 1)).map (getR R))).flatMap vC)) := Lib.hid (by
        rw [HST.out, List.flatMap_append]; simpa using ho5)
      clear ho5 hg5
      go_wp2
      go_roundw
      (case rel => exact ⟨i + 1, p5, c5, by omega, rfl, by go_num, HO5, HB5⟩)
      (case measure => simp [intOf]; omega)
    · have hlt' : ¬ (i : Int) < (os.length : Int) := by omega
      obtain rfl : i = os.length := by omega
      have HRW : Hid (wr.ownsRow w1.heap.size 31 5 (.slice p3 os.length c3) os.length ((os.map (getR R)).flatMap vC)) := Lib.hid (by have := HV.out; rw [List.take_length] at this; exact this)
      have QL := Lib.hid (slots_R w0.heap.size b v m R wr HOr.out)
      have QS : Hid (Calls Try.prog 20 #[.pointer (some ⟨b, 0, none⟩), .agg #[.int .i64 k.k, .int .i64 k.p, .int .i64 k.q, .string k.s, .int .i64 k.r], .agg #[.int .i64 x.k, .int .i64 x.p, .int .i64 x.q, .string x.s, .int .i64 x.r]] wr fun e w' => e = .returned (.int .i64 13) ∧ (∃ v' m', OmR w0.heap.size b v' m' (setR R k x) w' ∧ ∀ g ∈ omS b v' m', g ∈ omS b v m ∨ wr.heap.size ≤ g) ∧ Ch (omS b v m) wr w') := Lib.hid (by
        have := set_R w0.heap.size b v m R k x wr HOr.out (by have := HL.out; omega) HB0r.out.size
        rw [HE.out] at this
        exact this)
      have HKr := HK0.out.below HB0r.out
      have HXr := HX0.out.below HB0r.out
      have k0 : wr.cell? ⟨w.heap.size, 0, none⟩ = some (.int .i64 k.k) := HKr.cell 0
      have k1 : wr.cell? ⟨w.heap.size, 1, none⟩ = some (.int .i64 k.p) := HKr.cell 1
      have k2 : wr.cell? ⟨w.heap.size, 2, none⟩ = some (.int .i64 k.q) := HKr.cell 2
      have k3 : wr.cell? ⟨w.heap.size, 3, none⟩ = some (.string k.s) := HKr.cell 3
      have k4 : wr.cell? ⟨w.heap.size, 4, none⟩ = some (.int .i64 k.r) := HKr.cell 4
      have x0 : wr.cell? ⟨(w.heap.size + 1), 0, none⟩ = some (.int .i64 x.k) := HXr.cell 0
      have x1 : wr.cell? ⟨(w.heap.size + 1), 1, none⟩ = some (.int .i64 x.p) := HXr.cell 1
      have x2 : wr.cell? ⟨(w.heap.size + 1), 2, none⟩ = some (.int .i64 x.q) := HXr.cell 2
      have x3 : wr.cell? ⟨(w.heap.size + 1), 3, none⟩ = some (.string x.s) := HXr.cell 3
      have x4 : wr.cell? ⟨(w.heap.size + 1), 4, none⟩ = some (.int .i64 x.r) := HXr.cell 4
      have kl := HKr.lt
      have xl := HXr.lt
      have HKR := Lib.hid HKr
      have HXR := Lib.hid HXr
      clear HKr HXr HV
      have HUR := Lib.hid HOr.out.un
      go_upto_region 11 with (first | (go_at_call 21; (with_reducible refine (QL.out).mono ?_); rintro e wS ⟨rfl, rfl⟩) | (go_at_call 20; (with_reducible refine (QS.out).mono ?_); rintro e w5 ⟨rfl, ⟨v5, m5, ho5, hf5⟩, hc5⟩))
      have HO5 := Lib.hid ho5
      have HK5 : Hid (Blk 31 w.heap.size #[.int .i64 k.k, .int .i64 k.p, .int .i64 k.q, .string k.s, .int .i64 k.r] w5) := Lib.hid (HKR.out.ch hc5 (fun hg => by have h1 := (HOS.out _ hg).1; have h2 := HK0.out.lt; omega))
      have HX5 : Hid (Blk 31 (w.heap.size + 1) #[.int .i64 x.k, .int .i64 x.p, .int .i64 x.q, .string x.s, .int .i64 x.r] w5) := Lib.hid (HXR.out.ch hc5 (fun hg => by have h1 := (HOS.out _ hg).1; have h2 := HX0.out.lt; omega))
      have HR5 : Hid (w5.ownsRow w1.heap.size 31 5 (.slice p3 os.length c3) os.length ((os.map (getR R)).flatMap vC)) := Lib.hid (hc5.ownB HRW.out (fun g hg hg2 => by have h1 := (own_lo HRW.out hg).1; have h2 := (HOS.out g hg2).2; omega))
      have HB5 : Hid (Below w.heap.size w w5) := Lib.hid (HBwr.out.trans (hc5.belowB (fun g hg => Nat.le_trans HW0.out.size (HOS.out g hg).1) HBwr.out.size))
      have HU5 := Lib.hid ho5.un
      have HG5 : Hid (∀ y, (y ≠ k ∨ True) → getR (setR R k x) y = getR R y) := Lib.hid fun y _ => by rw [setR_err (by rw [HE.out]; decide)]
      have HLE : Hid ((setR R k x).length = R.length) := Lib.hid (by rw [setR_err (by rw [HE.out]; decide)])
      have HL5 : Hid ((setR R k x).length ≤ 1000000) := Lib.hid (by have := setR_len R k x; have := HL.out; omega)
      clear ho5 hf5 hc5 k0 k1 k2 k3 k4 x0 x1 x2 x3 x4 kl xl hlt hlt' hi QL QS HUR HU5 HE
      generalize setR R k x = R5 at *
      have QVK : Hid (∀ W, Calls Try.prog 22 #[.agg #[.int .i64 k.k, .int .i64 k.p, .int .i64 k.q, .string k.s, .int .i64 k.r]] W fun e w' => e = .returned (.bool false) ∧ Below W.heap.size W w') := Lib.hid fun W => by have := rvalid5 k.k k.p k.q k.s k.r W; rw [show validF k.k k.p k.q k.s k.r = false from HOK.out] at this; exact this
      have QL2 : Hid (∀ W, OmR w0.heap.size b v5 m5 R5 W → Calls Try.prog 21 #[.pointer (some ⟨b, 0, none⟩)] W fun e w' => e = .returned (.int .i64 (R.length : Int)) ∧ W = w') := Lib.hid fun W h => by have := slots_R w0.heap.size b v5 m5 R5 W h; rw [HLE.out] at this; exact this
      have k0 : w5.cell? ⟨w.heap.size, 0, none⟩ = some (.int .i64 k.k) := HK5.out.cell 0
      have k1 : w5.cell? ⟨w.heap.size, 1, none⟩ = some (.int .i64 k.p) := HK5.out.cell 1
      have k2 : w5.cell? ⟨w.heap.size, 2, none⟩ = some (.int .i64 k.q) := HK5.out.cell 2
      have k3 : w5.cell? ⟨w.heap.size, 3, none⟩ = some (.string k.s) := HK5.out.cell 3
      have k4 : w5.cell? ⟨w.heap.size, 4, none⟩ = some (.int .i64 k.r) := HK5.out.cell 4
      have kl := HK5.out.lt
      go_upto_region 12 with (go_at_call 22; (with_reducible refine (QVK.out _).mono ?_); rintro e w6 ⟨rfl, hb6⟩; have HB6 := Lib.hid hb6; have HK6 := Lib.hid (HK5.out.below hb6); have g0 : w6.cell? ⟨w.heap.size, 0, none⟩ = some (.int .i64 k.k) := HK6.out.cell 0; have g1 : w6.cell? ⟨w.heap.size, 1, none⟩ = some (.int .i64 k.p) := HK6.out.cell 1; have g2 : w6.cell? ⟨w.heap.size, 2, none⟩ = some (.int .i64 k.q) := HK6.out.cell 2; have g3 : w6.cell? ⟨w.heap.size, 3, none⟩ = some (.string k.s) := HK6.out.cell 3; have g4 : w6.cell? ⟨w.heap.size, 4, none⟩ = some (.int .i64 k.r) := HK6.out.cell 4; have gl := HK6.out.lt; clear hb6)
      clear k0 k1 k2 k3 k4 kl
      have HX6 := Lib.hid (HX5.out.below HB6.out)
      have HO6 : Hid (OmR w0.heap.size b v5 m5 R5 w6) := Lib.hid (HO5.out.ch (Ch.of_below (S := []) HB6.out) (fun g _ => not_nil g))
      have HR6 := Lib.hid ((Ch.of_below (S := []) HB6.out).ownB HR5.out (fun g _ => not_nil g))
      have HBw6 : Hid (Below w.heap.size w w6) := Lib.hid (HB5.out.trans (HB6.out.mono HB5.out.size))
      have x0 : w6.cell? ⟨(w.heap.size + 1), 0, none⟩ = some (.int .i64 x.k) := HX6.out.cell 0
      have x1 : w6.cell? ⟨(w.heap.size + 1), 1, none⟩ = some (.int .i64 x.p) := HX6.out.cell 1
      have x2 : w6.cell? ⟨(w.heap.size + 1), 2, none⟩ = some (.int .i64 x.q) := HX6.out.cell 2
      have x3 : w6.cell? ⟨(w.heap.size + 1), 3, none⟩ = some (.string x.s) := HX6.out.cell 3
      have x4 : w6.cell? ⟨(w.heap.size + 1), 4, none⟩ = some (.int .i64 x.r) := HX6.out.cell 4
      have xl := HX6.out.lt
      have NX := fun W => neq_v5 x W
      have ho6 := HO6.out
      have hW := Below.refl w6.heap.size w6
      have hcc : ∀ c o, c < w6.heap.size → w6.drew.cell? ⟨c, o, none⟩ = w6.cell? ⟨c, o, none⟩ := fun _ _ _ => rfl
      have QLQ : Hid (∀ n, Calls Try.prog 21 #[.pointer (some ⟨b, 0, none⟩)] (w6.drewN n) fun e w'' => e = .returned (.int .i64 (R.length : Int)) ∧ ∃ m, w'' = w6.drewN m) := Lib.hid fun n => (QL2.out _ (HO6.out.ch ((Ch.refl [] w6).drewN n) (fun g _ => not_nil g))).mono (fun e w' h => ⟨h.1, n, h.2.symm⟩)
      go_quiet ((go_at_call 21; exact QLQ.out _))
      go_upto_region 14 with fail
      go_name_world V9 hV9
      all_goals (
        have HC9 : Hid (Ch [] w6 V9) := Lib.hid (by rw [← hV9]; first | exact (Ch.refl [] w6).drewN _ | exact (Ch.refl [] w6).drew | exact Ch.refl [] w6)
        clear hV9
        have HO9 : Hid (OmR w0.heap.size b v5 m5 R5 V9) := Lib.hid (HO6.out.ch HC9.out (fun g _ => not_nil g))
        have HB9 : Hid (Below w6.heap.size w6 V9) := Lib.hid HC9.out.below
        have HK9 : Hid (Blk 31 w.heap.size #[.int .i64 k.k, .int .i64 k.p, .int .i64 k.q, .string k.s, .int .i64 k.r] V9) := Lib.hid (HK6.out.below HB9.out)
        have HR9 : Hid (V9.ownsRow w1.heap.size 31 5 (.slice p3 os.length c3) os.length ((os.map (getR R)).flatMap vC)) := Lib.hid ((Ch.of_below (S := []) HB9.out).ownB HR6.out (fun g _ => not_nil g))
        have HBw9 : Hid (Below w.heap.size w V9) := Lib.hid (HBw6.out.trans (HB9.out.mono HBw6.out.size))
        clear NX hcc ho6 hW g0 g1 g2 g3 g4 gl x0 x1 x2 x3 x4 xl
        go_wp2
        go_loopw [17] (fun v17 wr => ∃ i : Nat, i ≤ os.length ∧ v17 = .int .i64 (i : Int) ∧ Hid (OmR w0.heap.size b v5 m5 R5 wr ∧ Below V9.heap.size V9 wr)) (fun v17 _ => os.length - (intOf v17).toNat)
        (case atStart => first | exact ⟨0, Nat.zero_le _, rfl, Lib.hid ⟨HO9.out, Below.refl _ _⟩⟩ | exact ⟨0, Nat.zero_le _, rfl, Lib.hid ⟨HO9.out.ch (Ch.refl [] _).drew (fun g' _ => not_nil g'), (Below.refl _ _).drew⟩⟩)
        (case round =>
          obtain ⟨i, hi, rfl, HX⟩ := hrel
          rename World => wr
          have HBT : Hid (Below w.heap.size w wr) := Lib.hid (HBw9.out.trans (HX.out.2.mono HBw9.out.size))
          by_cases hlt : i < os.length
          · have hlt' : (i : Int) < (os.length : Int) := by omega
            have hi0' : (0 : Int) ≤ (i : Int) := by omega
            have di : IntKind.i64.wrap ((i : Int) + 1) = (i : Int) + 1 := IntWalk.i64_in _ (by omega)
            obtain ⟨g, o, rfl, hgl, key⟩ := HPO.out (by omega)
            have key2 : ∀ j, j < 5 → wr.cell? ⟨g, o + i * 5 + j, none⟩ = (vC os[i])[j]? := fun j hj => (HBT.out.cell (p := ⟨g, _, none⟩) hgl).trans (key i j hlt hj)
            have hgr : g < wr.heap.size := Nat.lt_of_lt_of_le hgl HBT.out.size
            have d0 : wr.cell? ⟨g, o + i * 5, none⟩ = some (.int .i64 os[i].k) := key2 0 (by omega)
            have d1 : wr.cell? ⟨g, o + i * 5 + 1, none⟩ = some (.int .i64 os[i].p) := key2 1 (by omega)
            have d2 : wr.cell? ⟨g, o + i * 5 + 2, none⟩ = some (.int .i64 os[i].q) := key2 2 (by omega)
            have d3 : wr.cell? ⟨g, o + i * 5 + 3, none⟩ = some (.string os[i].s) := key2 3 (by omega)
            have d4 : wr.cell? ⟨g, o + i * 5 + 4, none⟩ = some (.int .i64 os[i].r) := key2 4 (by omega)
            have HRr := (Ch.of_below (S := []) HX.out.2).ownB HR9.out (fun g _ => not_nil g)
            obtain ⟨g3, rfl, h3l, h3c⟩ : ∃ g3, p3 = some ⟨g3, 0, none⟩ ∧ g3 < wr.heap.size ∧ ∀ j, j < 5 → wr.cell? ⟨g3, i * 5 + j, none⟩ = (vC (getR R os[i]))[j]? := by
              rcases Joins.ownsRow_forms HRr with ⟨e1, e2⟩ | ⟨g3, cap3, e1⟩
              · omega
              · injection e1 with e1 e2 e3
                subst e1; subst e3
                exact ⟨g3, rfl, (own_lo HRr (mem_ob.2 rfl)).2, fun j hj => by
                  rw [HRr.cellAt (i * 5 + j) (by omega), flat_at vC 5 vC_len _ i j (by rw [List.length_map]; exact hlt) hj, List.getElem_map]⟩
            have f0 : wr.cell? ⟨g3, i * 5, none⟩ = some (.int .i64 (getR R os[i]).k) := h3c 0 (by omega)
            have f1 : wr.cell? ⟨g3, i * 5 + 1, none⟩ = some (.int .i64 (getR R os[i]).p) := h3c 1 (by omega)
            have f2 : wr.cell? ⟨g3, i * 5 + 2, none⟩ = some (.int .i64 (getR R os[i]).q) := h3c 2 (by omega)
            have f3 : wr.cell? ⟨g3, i * 5 + 3, none⟩ = some (.string (getR R os[i]).s) := h3c 3 (by omega)
            have f4 : wr.cell? ⟨g3, i * 5 + 4, none⟩ = some (.int .i64 (getR R os[i]).r) := h3c 4 (by omega)
            have HKr := HK9.out.below HX.out.2
            have k0 : wr.cell? ⟨w.heap.size, 0, none⟩ = some (.int .i64 k.k) := HKr.cell 0
            have k1 : wr.cell? ⟨w.heap.size, 1, none⟩ = some (.int .i64 k.p) := HKr.cell 1
            have k2 : wr.cell? ⟨w.heap.size, 2, none⟩ = some (.int .i64 k.q) := HKr.cell 2
            have k3 : wr.cell? ⟨w.heap.size, 3, none⟩ = some (.string k.s) := HKr.cell 3
            have k4 : wr.cell? ⟨w.heap.size, 4, none⟩ = some (.int .i64 k.r) := HKr.cell 4
            have kl := HKr.lt
            clear key key2 HRr HKr
            have NZ := fun W => neq_v5 (getR R os[i]) W
            have ho6 := HX.out.1
            have hW := Below.refl wr.heap.size wr
            have hcc : ∀ c o, c < wr.heap.size → wr.drew.cell? ⟨c, o, none⟩ = wr.cell? ⟨c, o, none⟩ := fun _ _ _ => rfl
            by_cases hyk : os[i] = k
            · have NEK : ∀ W, (binOp .neq 31 (.agg #[.int .i64 os[i].k, .int .i64 os[i].p, .int .i64 os[i].q, .string os[i].s, .int .i64 os[i].r]) (.agg #[.int .i64 k.k, .int .i64 k.p, .int .i64 k.q, .string k.s, .int .i64 k.r])).run Try.prog W = .ok (.bool false) W := fun W => by rw [neq_v5g]; simp [hyk]
              have QG : Hid (∀ W, OmR w0.heap.size b v5 m5 R5 W → Calls Try.prog 18 #[.pointer (some ⟨b, 0, none⟩), .agg #[.int .i64 os[i].k, .int .i64 os[i].p, .int .i64 os[i].q, .string os[i].s, .int .i64 os[i].r]] W fun e w' => e = .returned (.agg #[.int .i64 (getR R os[i]).k, .int .i64 (getR R os[i]).p, .int .i64 (getR R os[i]).q, .string (getR R os[i]).s, .int .i64 (getR R os[i]).r]) ∧ Below W.heap.size W w') := Lib.hid fun W h => by
                have := get_R w0.heap.size b v5 m5 R5 os[i] W h HL5.out
                rw [HG5.out os[i] (.inr trivial)] at this
                exact this
              clear hyk h3c
              generalize getR R os[i] = z at *
              generalize os[i] = y at *
              go_upto_region 17 with fail
              first | go_region_held3 (fun w' => (∀ c o, c < wr.heap.size → w'.cell? ⟨c, o, none⟩ = wr.cell? ⟨c, o, none⟩) ∧ OmR w0.heap.size b v5 m5 R5 w' ∧ Below wr.heap.size wr w') (first | assumption | exact ⟨hcc, ho6.ch ((Ch.refl [] wr).drew) (by simp), hW.drew⟩ | exact keepL (by assumption) hb7) (first | (go_at_call 18; have hE := (‹_ ∧ OmR _ _ _ _ _ _ ∧ Below _ _ _›).2.1; (with_reducible refine (QG.out _ hE).mono ?_); clear hE; rintro e w7 ⟨rfl, hb7⟩)) | fail
              all_goals (
                have hS := ‹_ ∧ OmR _ _ _ _ _ _ ∧ Below _ _ _›
                have HS9 := Lib.hid hS.2
                clear hS
                go_wp2
                go_roundw
                (case rel => first
                  | exact ⟨i + 1, by omega, by go_num, Lib.hid ⟨HS9.out.1, HX.out.2.trans (HS9.out.2.mono HX.out.2.size)⟩⟩
                  | exact ⟨i + 1, by omega, by go_num, Lib.hid ⟨HS9.out.1.ch (Ch.refl [] _).drew (fun g' _ => not_nil g'), (HX.out.2.trans (HS9.out.2.mono HX.out.2.size)).drew⟩⟩)
                (case measure => simp [intOf]; omega))

            · have NEK : ∀ W, (binOp .neq 31 (.agg #[.int .i64 os[i].k, .int .i64 os[i].p, .int .i64 os[i].q, .string os[i].s, .int .i64 os[i].r]) (.agg #[.int .i64 k.k, .int .i64 k.p, .int .i64 k.q, .string k.s, .int .i64 k.r])).run Try.prog W = .ok (.bool true) W := fun W => by rw [neq_v5g]; simp [hyk]
              have QG : Hid (∀ W, OmR w0.heap.size b v5 m5 R5 W → Calls Try.prog 18 #[.pointer (some ⟨b, 0, none⟩), .agg #[.int .i64 os[i].k, .int .i64 os[i].p, .int .i64 os[i].q, .string os[i].s, .int .i64 os[i].r]] W fun e w' => e = .returned (.agg #[.int .i64 (getR R os[i]).k, .int .i64 (getR R os[i]).p, .int .i64 (getR R os[i]).q, .string (getR R os[i]).s, .int .i64 (getR R os[i]).r]) ∧ Below W.heap.size W w') := Lib.hid fun W h => by
                have := get_R w0.heap.size b v5 m5 R5 os[i] W h HL5.out
                rw [HG5.out os[i] (.inl hyk)] at this
                exact this
              clear hyk h3c
              generalize getR R os[i] = z at *
              generalize os[i] = y at *
              go_upto_region 17 with fail
              first | go_region_held (fun w' => (∀ c o, c < wr.heap.size → w'.cell? ⟨c, o, none⟩ = wr.cell? ⟨c, o, none⟩) ∧ OmR w0.heap.size b v5 m5 R5 w' ∧ Below wr.heap.size wr w') (first | assumption | exact ⟨hcc, ho6.ch ((Ch.refl [] wr).drew) (by simp), hW.drew⟩ | exact keepL (by assumption) hb7) (first | (go_at_call 18; have hE := (‹_ ∧ OmR _ _ _ _ _ _ ∧ Below _ _ _›).2.1; (with_reducible refine (QG.out _ hE).mono ?_); clear hE; rintro e w7 ⟨rfl, hb7⟩)) | fail
              all_goals (
                have hS := ‹_ ∧ OmR _ _ _ _ _ _ ∧ Below _ _ _›
                have HS9 := Lib.hid hS.2
                clear hS
                go_wp2
                go_roundw
                (case rel => first
                  | exact ⟨i + 1, by omega, by go_num, Lib.hid ⟨HS9.out.1, HX.out.2.trans (HS9.out.2.mono HX.out.2.size)⟩⟩
                  | exact ⟨i + 1, by omega, by go_num, Lib.hid ⟨HS9.out.1.ch (Ch.refl [] _).drew (fun g' _ => not_nil g'), (HX.out.2.trans (HS9.out.2.mono HX.out.2.size)).drew⟩⟩)
                (case measure => simp [intOf]; omega))

          · have hlt' : ¬ (i : Int) < (os.length : Int) := by omega
            have QV := Lib.hid (lives_any wr)
            go_wp2_with (go_at_call 14; (with_reducible refine (QV.out).mono ?_); rintro e w8 ⟨rfl, hb8⟩)
            go_ret
            exact ⟨rfl, HBT.out.trans (hb8.mono HBT.out.size)⟩))
set_option maxHeartbeats 16000000 in
set_option maxRecDepth 100000 in
theorem walk_c2 (p : Option Addr) (cap : Nat) (l : List OpA) (k x : V5) (po : Option Addr) (co : Nat) (os : List V5) (w : World) (hlm : l.length ≤ maxLen) (hp : 0 < l.length → ∃ g o, p = some ⟨g, o, none⟩ ∧ g < w.heap.size ∧ ∀ (j m : Nat) (hj : j < l.length), m < 11 → w.cell? ⟨g, o + j * 11 + m, none⟩ = (opC l[j])[m]?) (hlo : os.length ≤ maxLen) (hpo : 0 < os.length → ∃ g o, po = some ⟨g, o, none⟩ ∧ g < w.heap.size ∧ ∀ (j m : Nat) (hj : j < os.length), m < 5 → w.cell? ⟨g, o + j * 5 + m, none⟩ = (vC os[j])[m]?) (hl : l.length ≤ 400) (ho : os.length ≤ 40) (hk : okV k = true) (hk0 : k.k = 0) :
    Calls Try.prog 6 #[.slice p l.length cap, .agg #[.int .i64 k.k, .int .i64 k.p, .int .i64 k.q, .string k.s, .int .i64 k.r], .agg #[.int .i64 x.k, .int .i64 x.p, .int .i64 x.q, .string x.s, .int .i64 x.r], .slice po os.length co] w fun e w' => e = .returned (.bool true) ∧ Below w.heap.size w w' := by
  have HW0 : Hid (Below w.heap.size w ((w.alloc (.cells #[.int .i64 k.k, .int .i64 k.p, .int .i64 k.q, .string k.s, .int .i64 k.r] 31)).alloc (.cells #[.int .i64 x.k, .int .i64 x.p, .int .i64 x.q, .string x.s, .int .i64 x.r] 31))) := Lib.hid (((Below.refl w.heap.size w).alloc (Nat.le_refl _) _).alloc (by simp) _)
  have QM := Lib.hid (made_yes p cap l ((w.alloc (.cells #[.int .i64 k.k, .int .i64 k.p, .int .i64 k.q, .string k.s, .int .i64 k.r] 31)).alloc (.cells #[.int .i64 x.k, .int .i64 x.p, .int .i64 x.q, .string x.s, .int .i64 x.r] 31)) hlm (hp_below hp HW0.out) hl)
  have HK0 : Hid (Blk 31 w.heap.size #[.int .i64 k.k, .int .i64 k.p, .int .i64 k.q, .string k.s, .int .i64 k.r] ((w.alloc (.cells #[.int .i64 k.k, .int .i64 k.p, .int .i64 k.q, .string k.s, .int .i64 k.r] 31)).alloc (.cells #[.int .i64 x.k, .int .i64 x.p, .int .i64 x.q, .string x.s, .int .i64 x.r] 31))) := Lib.hid ((Blk.new w 31 _ _ rfl).ch ((Ch.refl [] _).alloc _) (not_nil _))
  have HX0 : Hid (Blk 31 (w.heap.size + 1) #[.int .i64 x.k, .int .i64 x.p, .int .i64 x.q, .string x.s, .int .i64 x.r] ((w.alloc (.cells #[.int .i64 k.k, .int .i64 k.p, .int .i64 k.q, .string k.s, .int .i64 k.r] 31)).alloc (.cells #[.int .i64 x.k, .int .i64 x.p, .int .i64 x.q, .string x.s, .int .i64 x.r] 31))) := Lib.hid (Blk.new _ 31 _ _ (by simp))
  have HL : Hid ((playR [] l).length ≤ 400) := Lib.hid (by have := playR_len l []; simp at this; omega)
  have HE : Hid (errR k x = 13) := Lib.hid (by unfold errR; rw [if_pos (.inl hk0)])
  have HOK := Lib.hid hk
  have e1 : (k.k != 0) = false := by simp [hk0]
  clear hk hk0
  obtain ⟨i0, hi0, jz0, jz1, jz2⟩ := info_parts info_val
  have hd : ¬ (400 : Int) < (l.length : Int) := by omega
  have hd1 : ¬ (40 : Int) < (os.length : Int) := by omega
  have HPO := Lib.hid hpo
  clear hp hpo
  generalize (playR [] l) = R at *
  go_enter Try.func6, Try.ntmps6
  go_upto_region 1 with fail
  generalize ((w.alloc (.cells #[.int .i64 k.k, .int .i64 k.p, .int .i64 k.q, .string k.s, .int .i64 k.r] 31)).alloc (.cells #[.int .i64 x.k, .int .i64 x.p, .int .i64 x.q, .string x.s, .int .i64 x.r] 31)) = w0 at *
  go_upto_region 4 with (go_at_call 15; (with_reducible refine (QM.out).mono ?_); rintro e w1 ⟨⟨b, v, m, b2, v2, rfl, ht1⟩, hb1⟩; have HO1 := Lib.hid ht1.om; have HB1 := Lib.hid hb1; clear ht1 hb1)
  have HOS : Hid (∀ g ∈ omS b v m, w0.heap.size ≤ g ∧ g < w1.heap.size) := Lib.hid fun g hg => HO1.out.lt g hg
  have HOW : Hid (w1.ownsRow w1.heap.size 31 5 (.slice none 0 0) 0 ((((os.take 0).map (getR R))).flatMap vC)) := Lib.hid (World.ownsRow_nil _ _ _ _)
  clear QM
  go_wp2
  go_loopw [12, 13] (fun v12 v13 wr => ∃ (i : Nat) (p3 : Option Addr) (c3 : Nat), i ≤ os.length ∧ v12 = .slice p3 i c3 ∧ v13 = .int .i64 (i : Int) ∧ Hid (wr.ownsRow w1.heap.size 31 5 (.slice p3 i c3) i ((((os.take i).map (getR R))).flatMap vC)) ∧ Hid (Below w1.heap.size w1 wr)) (fun _ v13 _ => os.length - (intOf v13).toNat)
  case atStart => exact ⟨0, none, 0, Nat.zero_le _, rfl, rfl, HOW, Lib.hid (Below.refl _ _)⟩
  case round =>
    obtain ⟨i, p3, c3, hi, rfl, rfl, HV, HB⟩ := hrel
    rename World => wr
    have HB0r : Hid (Below w0.heap.size w0 wr) := Lib.hid (HB1.out.trans (HB.out.mono HB1.out.size))
    have HBwr : Hid (Below w.heap.size w wr) := Lib.hid (HW0.out.trans (HB0r.out.mono HW0.out.size))
    have HOr : Hid (OmR w0.heap.size b v m R wr) := Lib.hid (HO1.out.ch (Ch.of_below (S := []) HB.out) (fun g _ => not_nil g))
    by_cases hlt : i < os.length
    · have hlt' : (i : Int) < (os.length : Int) := by omega
      have hi0' : (0 : Int) ≤ (i : Int) := by omega
      have di : IntKind.i64.wrap ((i : Int) + 1) = (i : Int) + 1 := IntWalk.i64_in _ (by omega)
      obtain ⟨g, o, rfl, hgl, key⟩ := HPO.out (by omega)
      have key2 : ∀ j, j < 5 → wr.cell? ⟨g, o + i * 5 + j, none⟩ = (vC os[i])[j]? := fun j hj => (HBwr.out.cell (p := ⟨g, _, none⟩) hgl).trans (key i j hlt hj)
      have hgr : g < wr.heap.size := Nat.lt_of_lt_of_le hgl HBwr.out.size
      have d0 : wr.cell? ⟨g, o + i * 5, none⟩ = some (.int .i64 os[i].k) := key2 0 (by omega)
      have d1 : wr.cell? ⟨g, o + i * 5 + 1, none⟩ = some (.int .i64 os[i].p) := key2 1 (by omega)
      have d2 : wr.cell? ⟨g, o + i * 5 + 2, none⟩ = some (.int .i64 os[i].q) := key2 2 (by omega)
      have d3 : wr.cell? ⟨g, o + i * 5 + 3, none⟩ = some (.string os[i].s) := key2 3 (by omega)
      have d4 : wr.cell? ⟨g, o + i * 5 + 4, none⟩ = some (.int .i64 os[i].r) := key2 4 (by omega)
      have QG := Lib.hid (get_R w0.heap.size b v m R os[i] wr HOr.out (by have := HL.out; omega))
      have HST : Hid ((((os.take (i + 1)).map (getR R))) = (((os.take i).map (getR R))) ++ [getR R os[i]]) := Lib.hid (by rw [List.take_succ_eq_append_getElem hlt, List.map_append]; rfl)
      clear key key2
      generalize getR R os[i] = z at *
      go_wp2_with (first | (go_at_call 18; (with_reducible refine (QG.out).mono ?_); rintro e w4 ⟨rfl, hb4⟩; have HH : Hid ((w4.alloc (.cells #[.int .i64 z.k, .int .i64 z.p, .int .i64 z.q, .string z.s, .int .i64 z.r] 31)).ownsRow w1.heap.size 31 5 (.slice p3 i c3) i ((((os.take i).map (getR R))).flatMap vC)) := Lib.hid ((((Ch.of_below (S := []) hb4)).alloc _).ownB HV.out (fun g _ => not_nil g)); have HB4 : Hid (Below w1.heap.size w1 w4) := Lib.hid (HB.out.trans (hb4.mono HB.out.size)); clear hb4) | (at_builtin; refine wpList_append_own_at _ rfl _ _ 39 rfl w1.heap.size 31 i0 (.agg #[.int .i64 0, .int .i64 0, .int .i64 0, .string ⟨#[]⟩, .int .i64 0]) 5 48 Try.underlying39 hi0 jz0 jz1 jz2 rfl (by decide) _ _ _ rfl HH.out ⟨w4.heap.size, 0, none⟩ 1 1 (vC z) rfl rfl (vC_at z _ _ rfl) (vC_one _) (by unfold maxLen; omega) (by omega) (by have := HB4.out.size; simp; omega) ?_))
      intro v5 w5 ho5 hg5 _ _
      obtain ⟨p5, c5, rfl⟩ := ownB_form ho5
      have HB5 : Hid (Below w1.heap.size w1 w5) := Lib.hid ((HB4.out.alloc HB4.out.size _).grown hg5 (by have := HB4.out.size; simp; omega) (fun q e => (own_lo HH.out (mem_ob.2 e)).1))
      have HO5 : Hid (w5.ownsRow w1.heap.size 31 5 (.slice p5 (i + 1) c5) (i + 1) ((((os.take (i + 1)).map (getR R))).flatMap vC)) := Lib.hid (by
        rw [HST.out, List.flatMap_append]; simpa using ho5)
      clear ho5 hg5
      go_wp2
      go_roundw
      (case rel => exact ⟨i + 1, p5, c5, by omega, rfl, by go_num, HO5, HB5⟩)
      (case measure => simp [intOf]; omega)
    · have hlt' : ¬ (i : Int) < (os.length : Int) := by omega
      obtain rfl : i = os.length := by omega
      have HRW : Hid (wr.ownsRow w1.heap.size 31 5 (.slice p3 os.length c3) os.length ((os.map (getR R)).flatMap vC)) := Lib.hid (by have := HV.out; rw [List.take_length] at this; exact this)
      have QL := Lib.hid (slots_R w0.heap.size b v m R wr HOr.out)
      have QS : Hid (Calls Try.prog 20 #[.pointer (some ⟨b, 0, none⟩), .agg #[.int .i64 k.k, .int .i64 k.p, .int .i64 k.q, .string k.s, .int .i64 k.r], .agg #[.int .i64 x.k, .int .i64 x.p, .int .i64 x.q, .string x.s, .int .i64 x.r]] wr fun e w' => e = .returned (.int .i64 13) ∧ (∃ v' m', OmR w0.heap.size b v' m' (setR R k x) w' ∧ ∀ g ∈ omS b v' m', g ∈ omS b v m ∨ wr.heap.size ≤ g) ∧ Ch (omS b v m) wr w') := Lib.hid (by
        have := set_R w0.heap.size b v m R k x wr HOr.out (by have := HL.out; omega) HB0r.out.size
        rw [HE.out] at this
        exact this)
      have HKr := HK0.out.below HB0r.out
      have HXr := HX0.out.below HB0r.out
      have k0 : wr.cell? ⟨w.heap.size, 0, none⟩ = some (.int .i64 k.k) := HKr.cell 0
      have k1 : wr.cell? ⟨w.heap.size, 1, none⟩ = some (.int .i64 k.p) := HKr.cell 1
      have k2 : wr.cell? ⟨w.heap.size, 2, none⟩ = some (.int .i64 k.q) := HKr.cell 2
      have k3 : wr.cell? ⟨w.heap.size, 3, none⟩ = some (.string k.s) := HKr.cell 3
      have k4 : wr.cell? ⟨w.heap.size, 4, none⟩ = some (.int .i64 k.r) := HKr.cell 4
      have x0 : wr.cell? ⟨(w.heap.size + 1), 0, none⟩ = some (.int .i64 x.k) := HXr.cell 0
      have x1 : wr.cell? ⟨(w.heap.size + 1), 1, none⟩ = some (.int .i64 x.p) := HXr.cell 1
      have x2 : wr.cell? ⟨(w.heap.size + 1), 2, none⟩ = some (.int .i64 x.q) := HXr.cell 2
      have x3 : wr.cell? ⟨(w.heap.size + 1), 3, none⟩ = some (.string x.s) := HXr.cell 3
      have x4 : wr.cell? ⟨(w.heap.size + 1), 4, none⟩ = some (.int .i64 x.r) := HXr.cell 4
      have kl := HKr.lt
      have xl := HXr.lt
      have HKR := Lib.hid HKr
      have HXR := Lib.hid HXr
      clear HKr HXr HV
      have HUR := Lib.hid HOr.out.un
      go_upto_region 11 with (first | (go_at_call 21; (with_reducible refine (QL.out).mono ?_); rintro e wS ⟨rfl, rfl⟩) | (go_at_call 20; (with_reducible refine (QS.out).mono ?_); rintro e w5 ⟨rfl, ⟨v5, m5, ho5, hf5⟩, hc5⟩))
      have HO5 := Lib.hid ho5
      have HK5 : Hid (Blk 31 w.heap.size #[.int .i64 k.k, .int .i64 k.p, .int .i64 k.q, .string k.s, .int .i64 k.r] w5) := Lib.hid (HKR.out.ch hc5 (fun hg => by have h1 := (HOS.out _ hg).1; have h2 := HK0.out.lt; omega))
      have HX5 : Hid (Blk 31 (w.heap.size + 1) #[.int .i64 x.k, .int .i64 x.p, .int .i64 x.q, .string x.s, .int .i64 x.r] w5) := Lib.hid (HXR.out.ch hc5 (fun hg => by have h1 := (HOS.out _ hg).1; have h2 := HX0.out.lt; omega))
      have HR5 : Hid (w5.ownsRow w1.heap.size 31 5 (.slice p3 os.length c3) os.length ((os.map (getR R)).flatMap vC)) := Lib.hid (hc5.ownB HRW.out (fun g hg hg2 => by have h1 := (own_lo HRW.out hg).1; have h2 := (HOS.out g hg2).2; omega))
      have HB5 : Hid (Below w.heap.size w w5) := Lib.hid (HBwr.out.trans (hc5.belowB (fun g hg => Nat.le_trans HW0.out.size (HOS.out g hg).1) HBwr.out.size))
      have HU5 := Lib.hid ho5.un
      have HG5 : Hid (∀ y, (y ≠ k ∨ True) → getR (setR R k x) y = getR R y) := Lib.hid fun y _ => by rw [setR_err (by rw [HE.out]; decide)]
      have HLE : Hid ((setR R k x).length = R.length) := Lib.hid (by rw [setR_err (by rw [HE.out]; decide)])
      have HL5 : Hid ((setR R k x).length ≤ 1000000) := Lib.hid (by have := setR_len R k x; have := HL.out; omega)
      clear ho5 hf5 hc5 k0 k1 k2 k3 k4 x0 x1 x2 x3 x4 kl xl hlt hlt' hi QL QS HUR HU5 HE
      generalize setR R k x = R5 at *
      have QVK : Hid (∀ W, Calls Try.prog 22 #[.agg #[.int .i64 k.k, .int .i64 k.p, .int .i64 k.q, .string k.s, .int .i64 k.r]] W fun e w' => e = .returned (.bool true) ∧ Below W.heap.size W w') := Lib.hid fun W => by have := rvalid5 k.k k.p k.q k.s k.r W; rw [show validF k.k k.p k.q k.s k.r = true from HOK.out] at this; exact this
      have QL2 : Hid (∀ W, OmR w0.heap.size b v5 m5 R5 W → Calls Try.prog 21 #[.pointer (some ⟨b, 0, none⟩)] W fun e w' => e = .returned (.int .i64 (R.length : Int)) ∧ W = w') := Lib.hid fun W h => by have := slots_R w0.heap.size b v5 m5 R5 W h; rw [HLE.out] at this; exact this
      have k0 : w5.cell? ⟨w.heap.size, 0, none⟩ = some (.int .i64 k.k) := HK5.out.cell 0
      have k1 : w5.cell? ⟨w.heap.size, 1, none⟩ = some (.int .i64 k.p) := HK5.out.cell 1
      have k2 : w5.cell? ⟨w.heap.size, 2, none⟩ = some (.int .i64 k.q) := HK5.out.cell 2
      have k3 : w5.cell? ⟨w.heap.size, 3, none⟩ = some (.string k.s) := HK5.out.cell 3
      have k4 : w5.cell? ⟨w.heap.size, 4, none⟩ = some (.int .i64 k.r) := HK5.out.cell 4
      have kl := HK5.out.lt
      go_upto_region 12 with (go_at_call 22; (with_reducible refine (QVK.out _).mono ?_); rintro e w6 ⟨rfl, hb6⟩; have HB6 := Lib.hid hb6; have HK6 := Lib.hid (HK5.out.below hb6); have g0 : w6.cell? ⟨w.heap.size, 0, none⟩ = some (.int .i64 k.k) := HK6.out.cell 0; have g1 : w6.cell? ⟨w.heap.size, 1, none⟩ = some (.int .i64 k.p) := HK6.out.cell 1; have g2 : w6.cell? ⟨w.heap.size, 2, none⟩ = some (.int .i64 k.q) := HK6.out.cell 2; have g3 : w6.cell? ⟨w.heap.size, 3, none⟩ = some (.string k.s) := HK6.out.cell 3; have g4 : w6.cell? ⟨w.heap.size, 4, none⟩ = some (.int .i64 k.r) := HK6.out.cell 4; have gl := HK6.out.lt; clear hb6)
      clear k0 k1 k2 k3 k4 kl
      have HX6 := Lib.hid (HX5.out.below HB6.out)
      have HO6 : Hid (OmR w0.heap.size b v5 m5 R5 w6) := Lib.hid (HO5.out.ch (Ch.of_below (S := []) HB6.out) (fun g _ => not_nil g))
      have HR6 := Lib.hid ((Ch.of_below (S := []) HB6.out).ownB HR5.out (fun g _ => not_nil g))
      have HBw6 : Hid (Below w.heap.size w w6) := Lib.hid (HB5.out.trans (HB6.out.mono HB5.out.size))
      have x0 : w6.cell? ⟨(w.heap.size + 1), 0, none⟩ = some (.int .i64 x.k) := HX6.out.cell 0
      have x1 : w6.cell? ⟨(w.heap.size + 1), 1, none⟩ = some (.int .i64 x.p) := HX6.out.cell 1
      have x2 : w6.cell? ⟨(w.heap.size + 1), 2, none⟩ = some (.int .i64 x.q) := HX6.out.cell 2
      have x3 : w6.cell? ⟨(w.heap.size + 1), 3, none⟩ = some (.string x.s) := HX6.out.cell 3
      have x4 : w6.cell? ⟨(w.heap.size + 1), 4, none⟩ = some (.int .i64 x.r) := HX6.out.cell 4
      have xl := HX6.out.lt
      have NX := fun W => neq_v5 x W
      have ho6 := HO6.out
      have hW := Below.refl w6.heap.size w6
      have hcc : ∀ c o, c < w6.heap.size → w6.drew.cell? ⟨c, o, none⟩ = w6.cell? ⟨c, o, none⟩ := fun _ _ _ => rfl
      have QLQ : Hid (∀ n, Calls Try.prog 21 #[.pointer (some ⟨b, 0, none⟩)] (w6.drewN n) fun e w'' => e = .returned (.int .i64 (R.length : Int)) ∧ ∃ m, w'' = w6.drewN m) := Lib.hid fun n => (QL2.out _ (HO6.out.ch ((Ch.refl [] w6).drewN n) (fun g _ => not_nil g))).mono (fun e w' h => ⟨h.1, n, h.2.symm⟩)
      go_quiet ((go_at_call 21; exact QLQ.out _))
      go_upto_region 14 with fail
      go_name_world V9 hV9
      all_goals (
        have HC9 : Hid (Ch [] w6 V9) := Lib.hid (by rw [← hV9]; first | exact (Ch.refl [] w6).drewN _ | exact (Ch.refl [] w6).drew | exact Ch.refl [] w6)
        clear hV9
        have HO9 : Hid (OmR w0.heap.size b v5 m5 R5 V9) := Lib.hid (HO6.out.ch HC9.out (fun g _ => not_nil g))
        have HB9 : Hid (Below w6.heap.size w6 V9) := Lib.hid HC9.out.below
        have HK9 : Hid (Blk 31 w.heap.size #[.int .i64 k.k, .int .i64 k.p, .int .i64 k.q, .string k.s, .int .i64 k.r] V9) := Lib.hid (HK6.out.below HB9.out)
        have HR9 : Hid (V9.ownsRow w1.heap.size 31 5 (.slice p3 os.length c3) os.length ((os.map (getR R)).flatMap vC)) := Lib.hid ((Ch.of_below (S := []) HB9.out).ownB HR6.out (fun g _ => not_nil g))
        have HBw9 : Hid (Below w.heap.size w V9) := Lib.hid (HBw6.out.trans (HB9.out.mono HBw6.out.size))
        clear NX hcc ho6 hW g0 g1 g2 g3 g4 gl x0 x1 x2 x3 x4 xl
        go_wp2
        go_loopw [17] (fun v17 wr => ∃ i : Nat, i ≤ os.length ∧ v17 = .int .i64 (i : Int) ∧ Hid (OmR w0.heap.size b v5 m5 R5 wr ∧ Below V9.heap.size V9 wr)) (fun v17 _ => os.length - (intOf v17).toNat)
        (case atStart => first | exact ⟨0, Nat.zero_le _, rfl, Lib.hid ⟨HO9.out, Below.refl _ _⟩⟩ | exact ⟨0, Nat.zero_le _, rfl, Lib.hid ⟨HO9.out.ch (Ch.refl [] _).drew (fun g' _ => not_nil g'), (Below.refl _ _).drew⟩⟩)
        (case round =>
          obtain ⟨i, hi, rfl, HX⟩ := hrel
          rename World => wr
          have HBT : Hid (Below w.heap.size w wr) := Lib.hid (HBw9.out.trans (HX.out.2.mono HBw9.out.size))
          by_cases hlt : i < os.length
          · have hlt' : (i : Int) < (os.length : Int) := by omega
            have hi0' : (0 : Int) ≤ (i : Int) := by omega
            have di : IntKind.i64.wrap ((i : Int) + 1) = (i : Int) + 1 := IntWalk.i64_in _ (by omega)
            obtain ⟨g, o, rfl, hgl, key⟩ := HPO.out (by omega)
            have key2 : ∀ j, j < 5 → wr.cell? ⟨g, o + i * 5 + j, none⟩ = (vC os[i])[j]? := fun j hj => (HBT.out.cell (p := ⟨g, _, none⟩) hgl).trans (key i j hlt hj)
            have hgr : g < wr.heap.size := Nat.lt_of_lt_of_le hgl HBT.out.size
            have d0 : wr.cell? ⟨g, o + i * 5, none⟩ = some (.int .i64 os[i].k) := key2 0 (by omega)
            have d1 : wr.cell? ⟨g, o + i * 5 + 1, none⟩ = some (.int .i64 os[i].p) := key2 1 (by omega)
            have d2 : wr.cell? ⟨g, o + i * 5 + 2, none⟩ = some (.int .i64 os[i].q) := key2 2 (by omega)
            have d3 : wr.cell? ⟨g, o + i * 5 + 3, none⟩ = some (.string os[i].s) := key2 3 (by omega)
            have d4 : wr.cell? ⟨g, o + i * 5 + 4, none⟩ = some (.int .i64 os[i].r) := key2 4 (by omega)
            have HRr := (Ch.of_below (S := []) HX.out.2).ownB HR9.out (fun g _ => not_nil g)
            obtain ⟨g3, rfl, h3l, h3c⟩ : ∃ g3, p3 = some ⟨g3, 0, none⟩ ∧ g3 < wr.heap.size ∧ ∀ j, j < 5 → wr.cell? ⟨g3, i * 5 + j, none⟩ = (vC (getR R os[i]))[j]? := by
              rcases Joins.ownsRow_forms HRr with ⟨e1, e2⟩ | ⟨g3, cap3, e1⟩
              · omega
              · injection e1 with e1 e2 e3
                subst e1; subst e3
                exact ⟨g3, rfl, (own_lo HRr (mem_ob.2 rfl)).2, fun j hj => by
                  rw [HRr.cellAt (i * 5 + j) (by omega), flat_at vC 5 vC_len _ i j (by rw [List.length_map]; exact hlt) hj, List.getElem_map]⟩
            have f0 : wr.cell? ⟨g3, i * 5, none⟩ = some (.int .i64 (getR R os[i]).k) := h3c 0 (by omega)
            have f1 : wr.cell? ⟨g3, i * 5 + 1, none⟩ = some (.int .i64 (getR R os[i]).p) := h3c 1 (by omega)
            have f2 : wr.cell? ⟨g3, i * 5 + 2, none⟩ = some (.int .i64 (getR R os[i]).q) := h3c 2 (by omega)
            have f3 : wr.cell? ⟨g3, i * 5 + 3, none⟩ = some (.string (getR R os[i]).s) := h3c 3 (by omega)
            have f4 : wr.cell? ⟨g3, i * 5 + 4, none⟩ = some (.int .i64 (getR R os[i]).r) := h3c 4 (by omega)
            have HKr := HK9.out.below HX.out.2
            have k0 : wr.cell? ⟨w.heap.size, 0, none⟩ = some (.int .i64 k.k) := HKr.cell 0
            have k1 : wr.cell? ⟨w.heap.size, 1, none⟩ = some (.int .i64 k.p) := HKr.cell 1
            have k2 : wr.cell? ⟨w.heap.size, 2, none⟩ = some (.int .i64 k.q) := HKr.cell 2
            have k3 : wr.cell? ⟨w.heap.size, 3, none⟩ = some (.string k.s) := HKr.cell 3
            have k4 : wr.cell? ⟨w.heap.size, 4, none⟩ = some (.int .i64 k.r) := HKr.cell 4
            have kl := HKr.lt
            clear key key2 HRr HKr
            have NZ := fun W => neq_v5 (getR R os[i]) W
            have ho6 := HX.out.1
            have hW := Below.refl wr.heap.size wr
            have hcc : ∀ c o, c < wr.heap.size → wr.drew.cell? ⟨c, o, none⟩ = wr.cell? ⟨c, o, none⟩ := fun _ _ _ => rfl
            by_cases hyk : os[i] = k
            · have NEK : ∀ W, (binOp .neq 31 (.agg #[.int .i64 os[i].k, .int .i64 os[i].p, .int .i64 os[i].q, .string os[i].s, .int .i64 os[i].r]) (.agg #[.int .i64 k.k, .int .i64 k.p, .int .i64 k.q, .string k.s, .int .i64 k.r])).run Try.prog W = .ok (.bool false) W := fun W => by rw [neq_v5g]; simp [hyk]
              have QG : Hid (∀ W, OmR w0.heap.size b v5 m5 R5 W → Calls Try.prog 18 #[.pointer (some ⟨b, 0, none⟩), .agg #[.int .i64 os[i].k, .int .i64 os[i].p, .int .i64 os[i].q, .string os[i].s, .int .i64 os[i].r]] W fun e w' => e = .returned (.agg #[.int .i64 (getR R os[i]).k, .int .i64 (getR R os[i]).p, .int .i64 (getR R os[i]).q, .string (getR R os[i]).s, .int .i64 (getR R os[i]).r]) ∧ Below W.heap.size W w') := Lib.hid fun W h => by
                have := get_R w0.heap.size b v5 m5 R5 os[i] W h HL5.out
                rw [HG5.out os[i] (.inr trivial)] at this
                exact this
              clear hyk h3c
              generalize getR R os[i] = z at *
              generalize os[i] = y at *
              go_upto_region 17 with fail
              first | go_region_held3 (fun w' => (∀ c o, c < wr.heap.size → w'.cell? ⟨c, o, none⟩ = wr.cell? ⟨c, o, none⟩) ∧ OmR w0.heap.size b v5 m5 R5 w' ∧ Below wr.heap.size wr w') (first | assumption | exact ⟨hcc, ho6.ch ((Ch.refl [] wr).drew) (by simp), hW.drew⟩ | exact keepL (by assumption) hb7) (first | (go_at_call 18; have hE := (‹_ ∧ OmR _ _ _ _ _ _ ∧ Below _ _ _›).2.1; (with_reducible refine (QG.out _ hE).mono ?_); clear hE; rintro e w7 ⟨rfl, hb7⟩)) | fail
              all_goals (
                have hS := ‹_ ∧ OmR _ _ _ _ _ _ ∧ Below _ _ _›
                have HS9 := Lib.hid hS.2
                clear hS
                go_wp2
                go_roundw
                (case rel => first
                  | exact ⟨i + 1, by omega, by go_num, Lib.hid ⟨HS9.out.1, HX.out.2.trans (HS9.out.2.mono HX.out.2.size)⟩⟩
                  | exact ⟨i + 1, by omega, by go_num, Lib.hid ⟨HS9.out.1.ch (Ch.refl [] _).drew (fun g' _ => not_nil g'), (HX.out.2.trans (HS9.out.2.mono HX.out.2.size)).drew⟩⟩)
                (case measure => simp [intOf]; omega))

            · have NEK : ∀ W, (binOp .neq 31 (.agg #[.int .i64 os[i].k, .int .i64 os[i].p, .int .i64 os[i].q, .string os[i].s, .int .i64 os[i].r]) (.agg #[.int .i64 k.k, .int .i64 k.p, .int .i64 k.q, .string k.s, .int .i64 k.r])).run Try.prog W = .ok (.bool true) W := fun W => by rw [neq_v5g]; simp [hyk]
              have QG : Hid (∀ W, OmR w0.heap.size b v5 m5 R5 W → Calls Try.prog 18 #[.pointer (some ⟨b, 0, none⟩), .agg #[.int .i64 os[i].k, .int .i64 os[i].p, .int .i64 os[i].q, .string os[i].s, .int .i64 os[i].r]] W fun e w' => e = .returned (.agg #[.int .i64 (getR R os[i]).k, .int .i64 (getR R os[i]).p, .int .i64 (getR R os[i]).q, .string (getR R os[i]).s, .int .i64 (getR R os[i]).r]) ∧ Below W.heap.size W w') := Lib.hid fun W h => by
                have := get_R w0.heap.size b v5 m5 R5 os[i] W h HL5.out
                rw [HG5.out os[i] (.inl hyk)] at this
                exact this
              clear hyk h3c
              generalize getR R os[i] = z at *
              generalize os[i] = y at *
              go_upto_region 17 with fail
              first | go_region_held (fun w' => (∀ c o, c < wr.heap.size → w'.cell? ⟨c, o, none⟩ = wr.cell? ⟨c, o, none⟩) ∧ OmR w0.heap.size b v5 m5 R5 w' ∧ Below wr.heap.size wr w') (first | assumption | exact ⟨hcc, ho6.ch ((Ch.refl [] wr).drew) (by simp), hW.drew⟩ | exact keepL (by assumption) hb7) (first | (go_at_call 18; have hE := (‹_ ∧ OmR _ _ _ _ _ _ ∧ Below _ _ _›).2.1; (with_reducible refine (QG.out _ hE).mono ?_); clear hE; rintro e w7 ⟨rfl, hb7⟩)) | fail
              all_goals (
                have hS := ‹_ ∧ OmR _ _ _ _ _ _ ∧ Below _ _ _›
                have HS9 := Lib.hid hS.2
                clear hS
                go_wp2
                go_roundw
                (case rel => first
                  | exact ⟨i + 1, by omega, by go_num, Lib.hid ⟨HS9.out.1, HX.out.2.trans (HS9.out.2.mono HX.out.2.size)⟩⟩
                  | exact ⟨i + 1, by omega, by go_num, Lib.hid ⟨HS9.out.1.ch (Ch.refl [] _).drew (fun g' _ => not_nil g'), (HX.out.2.trans (HS9.out.2.mono HX.out.2.size)).drew⟩⟩)
                (case measure => simp [intOf]; omega))

          · have hlt' : ¬ (i : Int) < (os.length : Int) := by omega
            have QV := Lib.hid (lives_any wr)
            go_wp2_with (go_at_call 14; (with_reducible refine (QV.out).mono ?_); rintro e w8 ⟨rfl, hb8⟩)
            go_ret
            exact ⟨rfl, HBT.out.trans (hb8.mono HBT.out.size)⟩))
end Go.Proofs.Ythgkbjiclghfkaa.orderedSetsLaw
