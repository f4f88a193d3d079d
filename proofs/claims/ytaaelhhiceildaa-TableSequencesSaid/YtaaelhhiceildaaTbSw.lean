/- TableSequences: Insert and Remove on sequences. -/
import Derived.Test.YtaaelhhiceildaaTbSq
import Derived.Test.YtaaelhhiceildaaTbQv
import Derived.Deep.DeepCutAuto
import Derived.Deep.CutBlock
import Derived.BigQuiet
import Derived.RegionTactic
namespace Go.Proofs.Ytaaelhhiceildaa.tableSequencesLaw
open Go.ChangeShapes Go.WideShapes Go.ChangeAt Go.RowKit Go.Joins Go.Deep M1
set_option linter.unusedVariables false
/-- A table that is a sequence alone, and the box of the value. -/
structure Sw (B t : Nat) (a : List V5) (n5 : Nat) (v : V5) (va : Value) (b : Nat) (q m : Value) (wr : World) : Prop where
  tb : Tb B t va b q m (sq a) wr
  nb : n5 < B
  kb : Blk 26 n5 #[.int .i64 v.k, .int .i64 v.p, .int .i64 v.q, .string v.s, .int .i64 v.r] wr
theorem Sw.ch0 {B t : Nat} {a : List V5} {n5 : Nat} {v : V5} {va : Value} {b : Nat} {q m : Value} {w w' : World} (h : Sw B t a n5 v va b q m w) (hc : Ch [] w w') : Sw B t a n5 v va b q m w' :=
  ⟨h.tb.ch0 hc, h.nb, h.kb.ch hc (not_nil _)⟩
theorem Sw.said {B t : Nat} {a a' : List V5} {n5 : Nat} {v : V5} {va : Value} {b : Nat} {q m : Value} {w w' : World} (h : Sw B t a n5 v va b q m w) (hB : B ≤ w.heap.size) (hs : TbSaid B t va b q m (sq a') w w') : (∃ va' b' q' m', Sw B t a' n5 v va' b' q' m' w') ∧ Below B w w' := by
  obtain ⟨⟨va', b', q', m', h1, h2⟩, hc⟩ := hs
  exact ⟨⟨va', b', q', m', h1, h.nb, h.kb.ch hc (fun hq => by have := (h.tb.lt _ hq).1; have := h.nb; omega)⟩, hc.belowB (fun g hg => (h.tb.lt g hg).1) hB⟩
theorem keyJ {j : Nat} (h : j ≤ 2000000) : (⟨2, (j : Int) + 1, 1, ⟨#[]⟩, 0⟩ : V5) = keyV ((j : Int) + 1) := by
  rw [show ((j : Int) + 1) = ((j + 1 : Nat) : Int) by omega, keyS (by omega)]
theorem sget_any {B t : Nat} {a : List V5} {n5 : Nat} {v : V5} {va : Value} {b : Nat} {q m : Value} {w : World} (h : Sw B t a n5 v va b q m w) (j : Nat) (y : V5) (hy : a[j]? = some y) (hl : a.length ≤ 1000000) :
    Calls Try.prog 14 #[.pointer (some ⟨t, 0, none⟩), .agg #[.int .i64 2, .int .i64 ((j : Int) + 1), .int .i64 1, .string ⟨#[]⟩, .int .i64 0]] w fun e w' => e = .returned (.agg #[.int .i64 y.k, .int .i64 y.p, .int .i64 y.q, .string y.s, .int .i64 y.r]) ∧ Below w.heap.size w w' := by
  have hj := (List.getElem?_eq_some_iff.1 hy).1
  have h3 := tget_any B t va b q m (sq a) w h.tb (⟨2, (j : Int) + 1, 1, ⟨#[]⟩, 0⟩ : V5) hl (by show 0 ≤ _; omega)
  rw [keyJ (by omega), sq_get a j hj (by omega), (List.getElem?_eq_some_iff.1 hy).2, ← keyJ (by omega)] at h3
  exact h3
theorem sget0 {B t : Nat} {a : List V5} {n5 : Nat} {v : V5} {va : Value} {b : Nat} {q m : Value} {w : World} (h : Sw B t a n5 v va b q m w) (hl : a.length ≤ 1000000) :
    Calls Try.prog 14 #[.pointer (some ⟨t, 0, none⟩), .agg #[.int .i64 2, .int .i64 ((a.length : Int) + 1), .int .i64 1, .string ⟨#[]⟩, .int .i64 0]] w fun e w' => e = .returned (.agg #[.int .i64 0, .int .i64 0, .int .i64 0, .string ⟨#[]⟩, .int .i64 0]) ∧ Below w.heap.size w w' := by
  have h3 := tget_any B t va b q m (sq a) w h.tb (⟨2, (a.length : Int) + 1, 1, ⟨#[]⟩, 0⟩ : V5) hl (by show 0 ≤ _; omega)
  rw [keyJ (by omega), sq_get0 a (by omega), ← keyJ (by omega)] at h3
  exact h3
theorem slen {B t : Nat} {a : List V5} {n5 : Nat} {v : V5} {va : Value} {b : Nat} {q m : Value} {w : World} (h : Sw B t a n5 v va b q m w) :
    Calls Try.prog 19 #[.pointer (some ⟨t, 0, none⟩)] w fun e w' => e = .returned (.int .i64 (a.length : Int)) ∧ w = w' := tlen_any B t va b q m (sq a) w h.tb
/-- The value at a place that was inserted. -/
theorem mid_at (a : List V5) (j : Nat) (v : V5) (h : j ≤ a.length) : (a.take j ++ v :: a.drop j)[j]? = some v := by
  rw [List.getElem?_append_right (by rw [List.length_take]; omega), List.length_take, Nat.min_eq_left h, Nat.sub_self]; rfl
theorem mid_lo (a : List V5) (j i : Nat) (v : V5) (h : j ≤ a.length) (hi : i < j) : (a.take j ++ v :: a.drop j)[i]? = a[i]? := by
  rw [List.getElem?_append_left (by rw [List.length_take]; omega), List.getElem?_take, if_pos hi]
theorem mid_hi (a : List V5) (j i : Nat) (v : V5) (h : j ≤ a.length) (hi : j ≤ i) : (a.take j ++ v :: a.drop j)[i + 1]? = a[i]? := by
  rw [List.getElem?_append_right (by rw [List.length_take]; omega), List.length_take, Nat.min_eq_left h, show i + 1 - j = (i - j) + 1 by omega, List.getElem?_cons_succ, List.getElem?_drop, show j + (i - j) = i by omega]
theorem mid_len (a : List V5) (j : Nat) (v : V5) (h : j ≤ a.length) : (a.take j ++ v :: a.drop j).length = a.length + 1 := by simp; omega
/-- Insert, at a place that there is. -/
theorem sins {B t : Nat} {a : List V5} {n5 : Nat} {v : V5} {va : Value} {b : Nat} {q m : Value} {w : World} (h : Sw B t a n5 v va b q m w) (hB : B ≤ w.heap.size) (j : Nat) (hj : j ≤ a.length) (hl : a.length ≤ 1000) (hn : ∀ y ∈ a, y.k ≠ 0) (hv : okV v = true) (hc : v.k ≠ 0 ∨ j < a.length) :
    Calls Try.prog 22 #[.pointer (some ⟨t, 0, none⟩), .int .i64 ((j : Int) + 1), .agg #[.int .i64 v.k, .int .i64 v.p, .int .i64 v.q, .string v.s, .int .i64 v.r]] w fun e w' => e = .returned (.int .i64 0) ∧ TbSaid B t va b q m (sq (a.take j ++ v :: a.drop j)) w w' := by
  by_cases hjn : j < a.length
  · obtain ⟨y, hy⟩ : ∃ y, lastA (sq a) = y := ⟨_, rfl⟩
    have hyk : y.k ≠ 0 := by
      rw [← hy]
      unfold lastA
      show ((a[a.length - 1]?).getD v5z).k ≠ 0
      rw [List.getElem?_eq_getElem (by omega)]
      exact hn _ (List.getElem_mem _)
    have he := sq_ext a y hyk (by omega)
    have := ins_mid B t va b q m (sq a) w h.tb j v hjn (by show a.length + 0 ≤ _; omega) hB Good.nil hv (by rw [hy, he]; show a.length ≤ (a ++ [y]).length; simp) (by rw [hy, he]; show (a ++ [y]).length ≤ _; simp; omega)
    rw [ins_sq a j v hjn hn (by omega)] at this
    exact this
  · obtain rfl : j = a.length := by omega
    have hz : v.k ≠ 0 := hc.resolve_right hjn
    have := ins_end B t va b q m (sq a) w h.tb ((a.length : Int) + 1) rfl v (by show a.length + 0 ≤ _; omega) hB Good.nil hv
    rw [show extK (sq a) = keyV ((a.length : Int) + 1) from rfl, sq_err a v hv (by omega), sq_set a v hv hz (by omega)] at this
    rw [List.take_of_length_le (Nat.le_refl _), List.drop_of_length_le (Nat.le_refl _)]
    exact this
theorem sins0 {B t : Nat} {a : List V5} {n5 : Nat} {v : V5} {va : Value} {b : Nat} {q m : Value} {w : World} (h : Sw B t a n5 v va b q m w) (hB : B ≤ w.heap.size) (hl : a.length ≤ 1000) (hv : okV v = true) (hz : v.k = 0) :
    Calls Try.prog 22 #[.pointer (some ⟨t, 0, none⟩), .int .i64 ((a.length : Int) + 1), .agg #[.int .i64 v.k, .int .i64 v.p, .int .i64 v.q, .string v.s, .int .i64 v.r]] w fun e w' => e = .returned (.int .i64 0) ∧ TbSaid B t va b q m (sq a) w w' := by
  have hvz := okV_nil hv hz
  have := ins_end B t va b q m (sq a) w h.tb ((a.length : Int) + 1) rfl v (by show a.length + 0 ≤ _; omega) hB Good.nil hv
  rw [show extK (sq a) = keyV ((a.length : Int) + 1) from rfl, sq_err a v hv (by omega)] at this
  rw [show setT (sq a) (keyV ((a.length : Int) + 1)) v = sq a by rw [hvz]; exact sq_set0 a (by omega)] at this
  exact this
theorem srem {B t : Nat} {a : List V5} {n5 : Nat} {v : V5} {va : Value} {b : Nat} {q m : Value} {w : World} (j : Nat) (h : Sw B t (a.take j ++ v :: a.drop j) n5 v va b q m w) (hj : j ≤ a.length) (hl : a.length ≤ 1000) (hn : ∀ y ∈ a, y.k ≠ 0) :
    Calls Try.prog 23 #[.pointer (some ⟨t, 0, none⟩), .int .i64 ((j : Int) + 1)] w fun e w' => e = .returned (.tuple #[.agg #[.int .i64 v.k, .int .i64 v.p, .int .i64 v.q, .string v.s, .int .i64 v.r], .int .i64 0]) ∧ TbSaid B t va b q m (sq a) w w' := by
  have hlen := mid_len a j v hj
  have hlt : j < (a.take j ++ v :: a.drop j).length := by omega
  have := rem_any B t va b q m (sq (a.take j ++ v :: a.drop j)) w h.tb j hlt (by show (a.take j ++ v :: a.drop j).length ≤ _; omega)
  have e1 : (sq (a.take j ++ v :: a.drop j)).arr[j] = v := by
    have h2 := mid_at a j v hj
    rw [List.getElem?_eq_getElem hlt] at h2
    exact Option.some.inj h2
  have e2 : remS (sq (a.take j ++ v :: a.drop j)) j = sq a := by
    have h3 := rem_sq (a.take j) v (a.drop j) (fun y hy => hn y (by rw [List.take_append_drop] at hy; exact hy))
    rw [List.take_append_drop, List.length_take, Nat.min_eq_left hj] at h3
    exact h3
  rw [e1, e2] at this
  exact this
set_option maxHeartbeats 16000000 in
set_option maxRecDepth 100000 in
theorem walk (p : Option Addr) (cap : Nat) (l : List V5) (at1 : Int) (wat : (Lit.int .i64 at1).wf = true) (k p1 q : Int) (s : ByteArray) (r : Int) (w : World) (hlm : l.length ≤ maxLen) (hp : 0 < l.length → ∃ g o, p = some ⟨g, o, none⟩ ∧ g < w.heap.size ∧ ∀ (j m : Nat) (hj : j < l.length), m < 5 → w.cell? ⟨g, o + j * 5 + m, none⟩ = (vC l[j])[m]?) :
    Calls Try.prog 6 #[.slice p l.length cap, .int .i64 at1, .agg #[.int .i64 k, .int .i64 p1, .int .i64 q, .string s, .int .i64 r]] w fun e w' => e = .returned (.bool true) ∧ Below w.heap.size w w' := by
  obtain ⟨v, rfl, rfl, rfl, rfl, rfl⟩ : ∃ v : V5, k = v.k ∧ p1 = v.p ∧ q = v.q ∧ s = v.s ∧ r = v.r := ⟨⟨k, p1, q, s, r⟩, rfl, rfl, rfl, rfl, rfl⟩
  have HP := Lib.hid hp
  have HD1 : Hid (Ch [] w (w.alloc (.cells #[.int .i64 v.k, .int .i64 v.p, .int .i64 v.q, .string v.s, .int .i64 v.r] 26))) := Lib.hid ((Ch.refl [] w).alloc _)
  have KB1 : Hid (Blk 26 w.heap.size #[.int .i64 v.k, .int .i64 v.p, .int .i64 v.q, .string v.s, .int .i64 v.r] (w.alloc (.cells #[.int .i64 v.k, .int .i64 v.p, .int .i64 v.q, .string v.s, .int .i64 v.r] 26))) := Lib.hid (Blk.new w _ _ _ rfl)
  have HAW := Lib.hid awake_any
  clear hp wat
  go_enter Try.func6, Try.ntmps6
  go_upto_region 1 with fail
  generalize (w.alloc (.cells #[.int .i64 v.k, .int .i64 v.p, .int .i64 v.q, .string v.s, .int .i64 v.r] 26)) = w1 at *
  by_cases hl : l.length ≤ 100
  · have hl2 : ¬ ((100 : Int) < (l.length : Int)) := by omega
    have QN := Lib.hid (tnew_any w1.heap.size w1 (Nat.le_refl _))
    have HL := Lib.hid hl
    clear hl
    go_upto_region 6 with (go_at_call 11; (with_reducible refine (QN.out).mono ?_); rintro e w2 ⟨t, b0, rfl, ht, _, hb⟩; have HT2 := Lib.hid ht; have HB2 := Lib.hid hb; clear ht hb)
    rename World => w2
    have HS2 : Hid (Sw w1.heap.size t (l.take 0) w.heap.size v (.slice none 0 0) b0 (.slice none 0 0) (.map none) w2) := Lib.hid ⟨HT2.out, KB1.out.lt, KB1.out.ch (Ch.of_below HB2.out) (not_nil _)⟩
    clear HT2 QN KB1
    go_wp2
    go_loopw [8] (fun v8 wr => ∃ (i : Nat) (va : Value) (b : Nat) (q m : Value), v8 = .int .i64 (i : Int) ∧ Hid (i ≤ l.length) ∧ Hid (Sw w1.heap.size t (l.take i) w.heap.size v va b q m wr) ∧ Hid (Below w1.heap.size w1 wr) ∧ Hid (∀ y ∈ l.take i, y.k ≠ 0)) (fun v8 _ => l.length - (intOf v8).toNat)
    case atStart => exact ⟨0, _, b0, _, _, rfl, Lib.hid (Nat.zero_le _), HS2, HB2, Lib.hid (fun y hy => by simp at hy)⟩
    case round =>
      clear HS2 HB2
      obtain ⟨i, va, b, q, m, rfl, HI, HS, HB, HNN⟩ := hrel
      rename World => wr
      by_cases hlt : i < l.length
      · have hlt2 : (i : Int) < (l.length : Int) := by omega
        have hi0 : (0 : Int) ≤ (i : Int) := by omega
        have di : IntKind.i64.wrap ((i : Int) + 1) = (i : Int) + 1 := IntWalk.i64_in _ (by have := HL.out; omega)
        obtain ⟨g, o, rfl, hgl, key⟩ := HP.out (by omega)
        have HGL : Hid (g < w1.heap.size) := Lib.hid (by have := HD1.out.size; omega)
        obtain ⟨x, hx⟩ : ∃ x : V5, l[i] = x := ⟨_, rfl⟩
        have KEY : Hid (∀ W, Below w1.heap.size w1 W → ∀ j, j < 5 → W.cell? ⟨g, o + i * 5 + j, none⟩ = (vC x)[j]?) := Lib.hid fun W hb j hj => by rw [← hx]; exact ((hb.cell (p := ⟨g, _, none⟩) HGL.out).trans (HD1.out.below.cell (p := ⟨g, _, none⟩) hgl)).trans (key i j hlt hj)
        have HLX : Hid (l[i]? = some x) := Lib.hid (by rw [List.getElem?_eq_getElem hlt, hx])
        have HLT := Lib.hid hlt
        have HTK : Hid (l.take (i + 1) = l.take i ++ [x]) := Lib.hid (by rw [List.take_succ_eq_append_getElem hlt, hx])
        clear key hgl hx hlt
        have d0 : wr.cell? ⟨g, o + i * 5, none⟩ = some (.int .i64 x.k) := KEY.out wr HB.out 0 (by omega)
        have d1 : wr.cell? ⟨g, o + i * 5 + 1, none⟩ = some (.int .i64 x.p) := KEY.out wr HB.out 1 (by omega)
        have d2 : wr.cell? ⟨g, o + i * 5 + 2, none⟩ = some (.int .i64 x.q) := KEY.out wr HB.out 2 (by omega)
        have d3 : wr.cell? ⟨g, o + i * 5 + 3, none⟩ = some (.string x.s) := KEY.out wr HB.out 3 (by omega)
        have d4 : wr.cell? ⟨g, o + i * 5 + 4, none⟩ = some (.int .i64 x.r) := KEY.out wr HB.out 4 (by omega)
        have dl : g < wr.heap.size := Nat.lt_of_lt_of_le HGL.out HB.out.size
        by_cases hz : x.k = 0
        · have ez : (x.k == 0) = true := beq_iff_eq.2 hz
          clear hz
          go_upto_region 9 with fail
          go_quiet (fail)
          go_upto_region 10 with fail
          go_name_world V1 hV
          have HC1 : Hid (Ch [] wr V1) := Lib.hid (by rw [← hV]; first | exact (Ch.refl [] wr).drewN _ | exact (Ch.refl [] wr).drew | exact Ch.refl [] wr)
          have HBV := Lib.hid (HB.out.trans (HC1.out.below.mono HB.out.size))
          clear hV
          go_wp2_with (go_at_call 10; (with_reducible refine (HAW.out _).mono ?_); rintro e wz ⟨rfl, hbz⟩)
          go_ret
          exact ⟨rfl, HD1.out.below.trans ((HBV.out.trans (hbz.mono HBV.out.size)).mono HD1.out.size)⟩
        · have ez : (x.k == 0) = false := beq_eq_false_iff_ne.2 hz
          have HXZ := Lib.hid hz
          clear hz
          have HKJ : Hid ((⟨2, (i : Int) + 1, 1, ⟨#[]⟩, 0⟩ : V5) = keyV ((i : Int) + 1)) := Lib.hid (keyJ (by have := HL.out; have := HI.out; omega))
          obtain ⟨ec, hec⟩ : ∃ ec, errR (⟨2, (i : Int) + 1, 1, ⟨#[]⟩, 0⟩ : V5) x = ec := ⟨_, rfl⟩
          obtain ⟨s1, hs1⟩ : ∃ s1, setT (sq (l.take i)) (⟨2, (i : Int) + 1, 1, ⟨#[]⟩, 0⟩ : V5) x = s1 := ⟨_, rfl⟩
          have QS : Hid (∀ W, Ch [] wr W → Calls Try.prog 12 #[.pointer (some ⟨t, 0, none⟩), .agg #[.int .i64 2, .int .i64 ((i : Int) + 1), .int .i64 1, .string ⟨#[]⟩, .int .i64 0], .agg #[.int .i64 x.k, .int .i64 x.p, .int .i64 x.q, .string x.s, .int .i64 x.r]] W fun e w' => e = .returned (.int .i64 ec) ∧ TbSaid w1.heap.size t va b q m s1 wr w') := Lib.hid fun W hc => (tset_any w1.heap.size t va b q m (sq (l.take i)) W (HS.out.tb.ch0 hc) (⟨2, (i : Int) + 1, 1, ⟨#[]⟩, 0⟩ : V5) x (by show (l.take i).length + 0 ≤ _; rw [List.length_take]; have := HL.out; omega) (Nat.le_trans HB.out.size hc.size) Good.nil).mono fun e w' hh => ⟨by rw [← hec]; exact hh.1, by rw [← hs1]; exact tb_chain (fun g hg => .inl hg) (hc.mono (fun g hg => absurd hg (not_nil g))) hh.2⟩
          rw [HKJ.out] at hec hs1
          have HEC := Lib.hid hec
          have HS1 := Lib.hid hs1
          clear hec hs1
          go_upto_region 9 with fail
          obtain ⟨bd, hbd⟩ : ∃ bd, (ec != 0) = bd := ⟨_, rfl⟩
          have HBD := Lib.hid hbd
          go_cut [45] from 22 to 46 (fun v45 wx => v45 = .bool bd ∧ Hid (TbSaid w1.heap.size t va b q m s1 wr wx))
          case first =>
            go_region_law (first | (go_simp; go_at_call 20; (with_reducible refine (num13 _ _).mono ?_); rintro e w6 ⟨rfl, hb6⟩; (first | have HC6 : Hid (Ch [] wr w6) := Lib.hid (Ch.of_below hb6) | have HC6 : Hid (Ch [] wr w6) := Lib.hid (((Ch.refl [] wr).drew).trans (Ch.of_below hb6)) | have HC6 : Hid (Ch [] wr w6) := Lib.hid (((Ch.refl [] wr).drewN _).trans (Ch.of_below hb6))); have HB6 := Lib.hid (HB.out.trans (HC6.out.below.mono HB.out.size)); have e0 : w6.cell? ⟨g, o + i * 5, none⟩ = some (.int .i64 x.k) := KEY.out w6 HB6.out 0 (by omega); have e1 : w6.cell? ⟨g, o + i * 5 + 1, none⟩ = some (.int .i64 x.p) := KEY.out w6 HB6.out 1 (by omega); have e2 : w6.cell? ⟨g, o + i * 5 + 2, none⟩ = some (.int .i64 x.q) := KEY.out w6 HB6.out 2 (by omega); have e3 : w6.cell? ⟨g, o + i * 5 + 3, none⟩ = some (.string x.s) := KEY.out w6 HB6.out 3 (by omega); have e4 : w6.cell? ⟨g, o + i * 5 + 4, none⟩ = some (.int .i64 x.r) := KEY.out w6 HB6.out 4 (by omega); have el : g < w6.heap.size := Nat.lt_of_lt_of_le HGL.out HB6.out.size; clear hb6) | (go_simp; go_at_call 12; (with_reducible refine (QS.out _ ?hc).mono ?_); (case hc => first | exact HC6.out | exact HC6.out.drew | exact HC6.out.drewN _); rintro e w7 ⟨rfl, hs7⟩; have HS7 := Lib.hid hs7; clear hs7))
            all_goals (
              go_wp2_with fail
              go_meet
              exact ⟨rfl, HS7⟩)
          obtain ⟨rfl, HSS⟩ := hcut
          rename World => w8
          clear d0 d1 d2 d3 d4 dl QS hbd
          cases hxo : okV x with
          | true =>
            have e0 : errR (keyV ((i : Int) + 1)) x = 0 := by
              have h3 := sq_err (l.take i) x hxo (by rw [List.length_take]; have := HL.out; omega)
              rw [List.length_take, Nat.min_eq_left HI.out] at h3
              exact h3
            obtain rfl : bd = false := by rw [← HBD.out, ← HEC.out, e0]; rfl
            obtain rfl : s1 = sq (l.take (i + 1)) := by
              have h3 := sq_set (l.take i) x hxo HXZ.out (by rw [List.length_take]; have := HL.out; omega)
              rw [List.length_take, Nat.min_eq_left HI.out] at h3
              rw [← HS1.out, h3, HTK.out]
            obtain ⟨⟨va8, b8, q8, m8, h8⟩, hb8⟩ := HS.out.said HB.out.size HSS.out
            have HS8 := Lib.hid h8
            have HB8 := Lib.hid (HB.out.trans (hb8.mono (Nat.le_refl _)))
            have HXO := Lib.hid hxo
            clear h8 hb8 e0 hxo HBD HEC
            go_wp2
            go_roundw
            (case rel => exact ⟨i + 1, va8, b8, q8, m8, by go_num, Lib.hid (by have := HLT.out; omega), HS8, HB8, Lib.hid (fun y hy => by
              rw [HTK.out] at hy
              rcases List.mem_append.1 hy with h' | h'
              · exact HNN.out y h'
              · rw [List.mem_singleton] at h'; rw [h']; exact HXZ.out)⟩)
            (case measure => have := HLT.out; simp [intOf]; omega)
          | false =>
            have hkk := key_ok (n := i + 1) (by have := HL.out; have := HI.out; omega)
            rw [show (((i + 1 : Nat)) : Int) = (i : Int) + 1 by omega] at hkk
            have e2 : errR (keyV ((i : Int) + 1)) x = 2 := by unfold errR; rw [if_neg (by simp [hkk.1, hkk.2]), if_pos hxo]
            obtain rfl : bd = true := by rw [← HBD.out, ← HEC.out, e2]; rfl
            obtain rfl : s1 = sq (l.take i) := by rw [← HS1.out]; unfold setT; rw [if_pos (by rw [e2]; decide)]
            obtain ⟨_, hb8⟩ := HS.out.said HB.out.size HSS.out
            have HB8 := Lib.hid (HB.out.trans (hb8.mono (Nat.le_refl _)))
            clear hb8 e2 hkk hxo HBD HEC
            go_wp2_with (go_at_call 10; (with_reducible refine (HAW.out _).mono ?_); rintro e wz ⟨rfl, hbz⟩)
            go_ret
            exact ⟨rfl, HD1.out.below.trans ((HB8.out.trans (hbz.mono HB8.out.size)).mono HD1.out.size)⟩
      · obtain rfl : i = l.length := by have := HI.out; omega
        have hlt2 : ¬ (l.length : Int) < (l.length : Int) := by omega
        have HNL : Hid (∀ y ∈ l, y.k ≠ 0) := Lib.hid (by have h3 := HNN.out; rw [List.take_of_length_le (Nat.le_refl _)] at h3; exact h3)
        rw [List.take_of_length_le (Nat.le_refl _)] at HS
        clear hlt
        have z0 : wr.cell? ⟨w.heap.size, 0, none⟩ = some (.int .i64 v.k) := HS.out.kb.cell 0
        have z1 : wr.cell? ⟨w.heap.size, 1, none⟩ = some (.int .i64 v.p) := HS.out.kb.cell 1
        have z2 : wr.cell? ⟨w.heap.size, 2, none⟩ = some (.int .i64 v.q) := HS.out.kb.cell 2
        have z3 : wr.cell? ⟨w.heap.size, 3, none⟩ = some (.string v.s) := HS.out.kb.cell 3
        have z4 : wr.cell? ⟨w.heap.size, 4, none⟩ = some (.int .i64 v.r) := HS.out.kb.cell 4
        have zl := HS.out.kb.lt
        have dn1 : IntKind.i64.wrap ((l.length : Int) + 1) = (l.length : Int) + 1 := IntWalk.i64_in _ (by have := HL.out; omega)
        by_cases h1 : at1 < 1
        · have QI := Lib.hid (ins_lo w1.heap.size t va b q m (sq l) wr HS.out.tb at1 v (by show l.length ≤ _; have := HL.out; omega) h1)
          go_wp2_with (first | (go_at_call 22; (with_reducible refine (QI.out).mono ?_); rintro e w4 ⟨rfl, hc4⟩; have HS4 := Lib.hid (HS.out.ch0 hc4); have HB4 := Lib.hid (HB.out.trans (hc4.below.mono HB.out.size)); clear hc4) | (go_at_call 19; (with_reducible refine (slen HS4.out).mono ?_); rintro e wl ⟨rfl, rfl⟩) | (go_at_call 10; (with_reducible refine (HAW.out _).mono ?_); rintro e wz ⟨rfl, hbz⟩))
          go_ret
          exact ⟨rfl, HD1.out.below.trans ((HB4.out.trans (hbz.mono HB4.out.size)).mono HD1.out.size)⟩
        · by_cases h2 : (l.length : Int) + 1 < at1
          · have QI := Lib.hid (ins_hi w1.heap.size t va b q m (sq l) wr HS.out.tb at1 v (by show l.length ≤ _; have := HL.out; omega) h1 h2)
            go_wp2_with (first | (go_at_call 22; (with_reducible refine (QI.out).mono ?_); rintro e w4 ⟨rfl, hc4⟩; have HS4 := Lib.hid (HS.out.ch0 hc4); have HB4 := Lib.hid (HB.out.trans (hc4.below.mono HB.out.size)); clear hc4) | (go_at_call 19; (with_reducible refine (slen HS4.out).mono ?_); rintro e wl ⟨rfl, rfl⟩) | (go_at_call 10; (with_reducible refine (HAW.out _).mono ?_); rintro e wz ⟨rfl, hbz⟩))
            go_ret
            exact ⟨rfl, HD1.out.below.trans ((HB4.out.trans (hbz.mono HB4.out.size)).mono HD1.out.size)⟩
          · obtain ⟨j, rfl⟩ : ∃ j : Nat, at1 = (j : Int) + 1 := ⟨(at1 - 1).toNat, by omega⟩
            have HJ : Hid (j ≤ l.length) := Lib.hid (by omega)
            cases hvo : okV v with
            | false =>
              have QI := Lib.hid (ins_bad w1.heap.size t va b q m (sq l) wr HS.out.tb ((j : Int) + 1) v (by show l.length ≤ _; have := HL.out; omega) h1 h2 hvo)
              have QV : Hid (∀ W, Calls Try.prog 13 #[.agg #[.int .i64 v.k, .int .i64 v.p, .int .i64 v.q, .string v.s, .int .i64 v.r]] W fun e w' => e = .returned (.bool false) ∧ Below W.heap.size W w') := Lib.hid fun W => by rw [← (show okV v = false from hvo)]; exact rvalid5 v.k v.p v.q v.s v.r W
              clear hvo
              go_upto_region 14 with (go_at_call 22; (with_reducible refine (QI.out).mono ?_); rintro e w4 ⟨rfl, hc4⟩; have HS4 := Lib.hid (HS.out.ch0 hc4); have HB4 := Lib.hid (HB.out.trans (hc4.below.mono HB.out.size)); clear hc4)
              clear z0 z1 z2 z3 z4 zl
              have y0 : w4.cell? ⟨w.heap.size, 0, none⟩ = some (.int .i64 v.k) := HS4.out.kb.cell 0
              have y1 : w4.cell? ⟨w.heap.size, 1, none⟩ = some (.int .i64 v.p) := HS4.out.kb.cell 1
              have y2 : w4.cell? ⟨w.heap.size, 2, none⟩ = some (.int .i64 v.q) := HS4.out.kb.cell 2
              have y3 : w4.cell? ⟨w.heap.size, 3, none⟩ = some (.string v.s) := HS4.out.kb.cell 3
              have y4 : w4.cell? ⟨w.heap.size, 4, none⟩ = some (.int .i64 v.r) := HS4.out.kb.cell 4
              have yl := HS4.out.kb.lt
              go_wp2_with (first | (go_at_call 13; (with_reducible refine (QV.out _).mono ?_); rintro e w5 ⟨rfl, hb5⟩; have HS5 := Lib.hid (HS4.out.ch0 (Ch.of_below hb5)); have HB5 := Lib.hid (HB4.out.trans (hb5.mono HB4.out.size)); clear hb5) | (go_at_call 19; (with_reducible refine (slen HS5.out).mono ?_); rintro e wl ⟨rfl, rfl⟩) | (go_at_call 10; (with_reducible refine (HAW.out _).mono ?_); rintro e wz ⟨rfl, hbz⟩))
              go_ret
              exact ⟨rfl, HD1.out.below.trans ((HB5.out.trans (hbz.mono HB5.out.size)).mono HD1.out.size)⟩
            | true =>
              have HVO := Lib.hid hvo
              obtain ⟨a1, hq, hg, ha⟩ : ∃ a1 : List V5, (∀ W, (Sw w1.heap.size t (l) w.heap.size v va b q m W) → w1.heap.size ≤ W.heap.size → Calls Try.prog 22 #[.pointer (some ⟨t, 0, none⟩), .int .i64 ((j : Int) + 1), .agg #[.int .i64 v.k, .int .i64 v.p, .int .i64 v.q, .string v.s, .int .i64 v.r]] W fun e w' => e = .returned (.int .i64 0) ∧ TbSaid w1.heap.size t va b q m (sq a1) W w') ∧ (∀ va b q m W, (Sw w1.heap.size t (a1) w.heap.size v va b q m W) → Calls Try.prog 14 #[.pointer (some ⟨t, 0, none⟩), .agg #[.int .i64 2, .int .i64 ((j : Int) + 1), .int .i64 1, .string ⟨#[]⟩, .int .i64 0]] W fun e w' => e = .returned (.agg #[.int .i64 v.k, .int .i64 v.p, .int .i64 v.q, .string v.s, .int .i64 v.r]) ∧ Below W.heap.size W w') ∧ (v.k ≠ 0 → a1 = l.take j ++ v :: l.drop j) := by
                have hl2 : l.length ≤ 100 := HL.out
                by_cases hc : v.k ≠ 0 ∨ j < l.length
                · exact ⟨l.take j ++ v :: l.drop j, fun W h hB => sins h hB j HJ.out (by omega) HNL.out HVO.out hc, fun _ _ _ _ W h => sget_any h j v (mid_at l j v HJ.out) (by rw [mid_len l j v HJ.out]; omega), fun _ => rfl⟩
                · have hz : v.k = 0 := Decidable.not_not.1 (fun h => hc (.inl h))
                  obtain rfl : j = l.length := by have := HJ.out; have := fun h => hc (.inr h); omega
                  refine ⟨l, fun W h hB => sins0 h hB (by omega) HVO.out hz, fun _ _ _ _ W h => ?_, fun h => absurd hz h⟩
                  have h3 := sget0 h (by omega)
                  have hvz := okV_nil HVO.out hz
                  rw [hvz]
                  exact h3
              have HQ := Lib.hid hq
              have HG := Lib.hid hg
              have HA := Lib.hid ha
              clear hq hg ha hvo
              have QI := Lib.hid (HQ.out wr HS.out HB.out.size)
              go_upto_region 12 with (go_at_call 22; (with_reducible refine (QI.out).mono ?_); rintro e w4 ⟨rfl, hs4⟩)
              obtain ⟨⟨va4, b4, q4, m4, h4⟩, hb4⟩ := HS.out.said HB.out.size hs4
              have HS4 := Lib.hid h4
              have HB4 := Lib.hid (HB.out.trans (hb4.mono (Nat.le_refl _)))
              clear h4 hb4 hs4 QI HS HB
              clear z0 z1 z2 z3 z4 zl
              have y0 : w4.cell? ⟨w.heap.size, 0, none⟩ = some (.int .i64 v.k) := HS4.out.kb.cell 0
              have y1 : w4.cell? ⟨w.heap.size, 1, none⟩ = some (.int .i64 v.p) := HS4.out.kb.cell 1
              have y2 : w4.cell? ⟨w.heap.size, 2, none⟩ = some (.int .i64 v.q) := HS4.out.kb.cell 2
              have y3 : w4.cell? ⟨w.heap.size, 3, none⟩ = some (.string v.s) := HS4.out.kb.cell 3
              have y4 : w4.cell? ⟨w.heap.size, 4, none⟩ = some (.int .i64 v.r) := HS4.out.kb.cell 4
              have yl := HS4.out.kb.lt
              have QV : Hid (∀ W, Calls Try.prog 13 #[.agg #[.int .i64 v.k, .int .i64 v.p, .int .i64 v.q, .string v.s, .int .i64 v.r]] W fun e w' => e = .returned (.bool true) ∧ Below W.heap.size W w') := Lib.hid fun W => by rw [← (show okV v = true from HVO.out)]; exact rvalid5 v.k v.p v.q v.s v.r W
              go_upto_region 16 with (go_at_call 13; (with_reducible refine (QV.out _).mono ?_); rintro e w5 ⟨rfl, hb5⟩)
              have HS5 := Lib.hid (HS4.out.ch0 (Ch.of_below hb5))
              have HB5 := Lib.hid (HB4.out.trans (hb5.mono HB4.out.size))
              clear hb5
              clear y0 y1 y2 y3 y4 yl
              have z0 : w5.cell? ⟨w.heap.size, 0, none⟩ = some (.int .i64 v.k) := HS5.out.kb.cell 0
              have z1 : w5.cell? ⟨w.heap.size, 1, none⟩ = some (.int .i64 v.p) := HS5.out.kb.cell 1
              have z2 : w5.cell? ⟨w.heap.size, 2, none⟩ = some (.int .i64 v.q) := HS5.out.kb.cell 2
              have z3 : w5.cell? ⟨w.heap.size, 3, none⟩ = some (.string v.s) := HS5.out.kb.cell 3
              have z4 : w5.cell? ⟨w.heap.size, 4, none⟩ = some (.int .i64 v.r) := HS5.out.kb.cell 4
              have zl := HS5.out.kb.lt
              have QG : Hid (∀ W, Below w5.heap.size w5 W → Calls Try.prog 14 #[.pointer (some ⟨t, 0, none⟩), .agg #[.int .i64 2, .int .i64 ((j : Int) + 1), .int .i64 1, .string ⟨#[]⟩, .int .i64 0]] W fun e w' => e = .returned (.agg #[.int .i64 v.k, .int .i64 v.p, .int .i64 v.q, .string v.s, .int .i64 v.r]) ∧ Below W.heap.size W w') := Lib.hid fun W hb => HG.out _ _ _ _ W (HS5.out.ch0 (Ch.of_below hb))
              have EQ : ∀ W, (binOp .neq 26 (.agg #[.int .i64 v.k, .int .i64 v.p, .int .i64 v.q, .string v.s, .int .i64 v.r]) (.agg #[.int .i64 v.k, .int .i64 v.p, .int .i64 v.q, .string v.s, .int .i64 v.r])).run Try.prog W = .ok (.bool false) W := fun W => neq_v5 v W
              have hW := Below.refl w5.heap.size w5
              have hcc : ∀ c o, c < w5.heap.size → w5.drew.cell? ⟨c, o, none⟩ = w5.cell? ⟨c, o, none⟩ := fun _ _ _ => rfl
              go_upto_region 16 with fail
              go_region_held3 (fun w' => (∀ c o, c < w5.heap.size → w'.cell? ⟨c, o, none⟩ = w5.cell? ⟨c, o, none⟩) ∧ Below w5.heap.size w5 w') (first | assumption | exact ⟨hcc, hW.drew⟩ | exact keepB (by assumption) hb1) (first | (go_at_call 20; (with_reducible refine (num13 _ _).mono ?_); rintro e w9 ⟨rfl, hb1⟩) | (go_at_call 14; have hE := (‹_ ∧ Below _ _ _›).2; (with_reducible refine (QG.out _ hE).mono ?_); clear hE; rintro e w9 ⟨rfl, hb1⟩))
              all_goals (
                have hS := ‹_ ∧ Below _ _ _›
                have HSN := Lib.hid (HS5.out.ch0 (Ch.of_below hS.2))
                have HBN := Lib.hid (HB5.out.trans (hS.2.mono HB5.out.size))
                clear hS hW hcc
                rename World => w6
                clear z0 z1 z2 z3 z4 zl
                have y0 : w6.cell? ⟨w.heap.size, 0, none⟩ = some (.int .i64 v.k) := HSN.out.kb.cell 0
                have y1 : w6.cell? ⟨w.heap.size, 1, none⟩ = some (.int .i64 v.p) := HSN.out.kb.cell 1
                have y2 : w6.cell? ⟨w.heap.size, 2, none⟩ = some (.int .i64 v.q) := HSN.out.kb.cell 2
                have y3 : w6.cell? ⟨w.heap.size, 3, none⟩ = some (.string v.s) := HSN.out.kb.cell 3
                have y4 : w6.cell? ⟨w.heap.size, 4, none⟩ = some (.int .i64 v.r) := HSN.out.kb.cell 4
                have yl := HSN.out.kb.lt
                by_cases hz : v.k = 0
                · have ez : (v.k == 0) = true := beq_iff_eq.2 hz
                  clear hz
                  go_wp2_with (go_at_call 10; (with_reducible refine (HAW.out _).mono ?_); rintro e wz ⟨rfl, hbz⟩)
                  go_ret
                  exact ⟨rfl, HD1.out.below.trans ((HBN.out.trans (hbz.mono HBN.out.size)).mono HD1.out.size)⟩
                · have ez : (v.k == 0) = false := beq_eq_false_iff_ne.2 hz
                  have HVZ := Lib.hid hz
                  have HS : Hid (Sw w1.heap.size t (l.take j ++ v :: l.drop j) w.heap.size v va4 b4 q4 m4 w6) := Lib.hid (by have h3 := HSN.out; rw [HA.out hz] at h3; exact h3)
                  have HB := HBN
                  clear hz HSN HBN EQ
                  go_upto_region 20 with fail
                  clear y0 y1 y2 y3 y4 yl
                  go_wp2
                  go_loopw [10] (fun v10 wr => ∃ (i : Nat) (va : Value) (b : Nat) (q m : Value), v10 = .int .i64 (i : Int) ∧ Hid (i ≤ l.length) ∧ Hid (Sw w1.heap.size t (l.take j ++ v :: l.drop j) w.heap.size v va b q m wr) ∧ Hid (Below w1.heap.size w1 wr)) (fun v10 _ => l.length - (intOf v10).toNat)
                  case atStart => exact ⟨0, _, _, _, _, rfl, Lib.hid (Nat.zero_le _), HS, HB⟩
                  case round =>
                    clear HS HB
                    obtain ⟨i, va, b, q, m, rfl, HI, HS, HB⟩ := hrel
                    rename World => wr
                    by_cases hlt : i < l.length
                    · have hlt2 : (i : Int) < (l.length : Int) := by omega
                      have hi0 : (0 : Int) ≤ (i : Int) := by omega
                      have di : IntKind.i64.wrap ((i : Int) + 1) = (i : Int) + 1 := IntWalk.i64_in _ (by have := HL.out; omega)
                      obtain ⟨g, o, rfl, hgl, key⟩ := HP.out (by omega)
                      have HGL : Hid (g < w1.heap.size) := Lib.hid (by have := HD1.out.size; omega)
                      obtain ⟨x, hx⟩ : ∃ x : V5, l[i] = x := ⟨_, rfl⟩
                      have KEY : Hid (∀ W, Below w1.heap.size w1 W → ∀ j, j < 5 → W.cell? ⟨g, o + i * 5 + j, none⟩ = (vC x)[j]?) := Lib.hid fun W hb j hj => by rw [← hx]; exact ((hb.cell (p := ⟨g, _, none⟩) HGL.out).trans (HD1.out.below.cell (p := ⟨g, _, none⟩) hgl)).trans (key i j hlt hj)
                      have HLX : Hid (l[i]? = some x) := Lib.hid (by rw [List.getElem?_eq_getElem hlt, hx])
                      have HLT := Lib.hid hlt
                      clear key hgl hx hlt
                      have di2 : IntKind.i64.wrap ((i : Int) + 1 + 1) = (i : Int) + 1 + 1 := IntWalk.i64_in _ (by have := HL.out; have := HLT.out; omega)
                      have d0 : wr.cell? ⟨g, o + i * 5, none⟩ = some (.int .i64 x.k) := KEY.out wr HB.out 0 (by omega)
                      have d1 : wr.cell? ⟨g, o + i * 5 + 1, none⟩ = some (.int .i64 x.p) := KEY.out wr HB.out 1 (by omega)
                      have d2 : wr.cell? ⟨g, o + i * 5 + 2, none⟩ = some (.int .i64 x.q) := KEY.out wr HB.out 2 (by omega)
                      have d3 : wr.cell? ⟨g, o + i * 5 + 3, none⟩ = some (.string x.s) := KEY.out wr HB.out 3 (by omega)
                      have d4 : wr.cell? ⟨g, o + i * 5 + 4, none⟩ = some (.int .i64 x.r) := KEY.out wr HB.out 4 (by omega)
                      have dl : g < wr.heap.size := Nat.lt_of_lt_of_le HGL.out HB.out.size
                      by_cases hij : i < j
                      · have hg24 : ¬ (j : Int) + 1 ≤ (i : Int) + 1 := by omega
                        have HIJ := Lib.hid hij
                        clear hij
                        have QG : Hid (∀ W, Below wr.heap.size wr W → Calls Try.prog 14 #[.pointer (some ⟨t, 0, none⟩), .agg #[.int .i64 2, .int .i64 ((i : Int) + 1), .int .i64 1, .string ⟨#[]⟩, .int .i64 0]] W fun e w' => e = .returned (.agg #[.int .i64 x.k, .int .i64 x.p, .int .i64 x.q, .string x.s, .int .i64 x.r]) ∧ Below W.heap.size W w') := Lib.hid fun W hb => sget_any (HS.out.ch0 (Ch.of_below hb)) i x (by rw [mid_lo l j i v HJ.out HIJ.out]; exact HLX.out) (by rw [mid_len l j v HJ.out]; have := HL.out; omega)
                        have EQ : ∀ W, (binOp .neq 26 (.agg #[.int .i64 x.k, .int .i64 x.p, .int .i64 x.q, .string x.s, .int .i64 x.r]) (.agg #[.int .i64 x.k, .int .i64 x.p, .int .i64 x.q, .string x.s, .int .i64 x.r])).run Try.prog W = .ok (.bool false) W := fun W => neq_v5 x W
                        have hW := Below.refl wr.heap.size wr
                        have hcc : ∀ c o, c < wr.heap.size → wr.drew.cell? ⟨c, o, none⟩ = wr.cell? ⟨c, o, none⟩ := fun _ _ _ => rfl
                        go_upto_region 26 with fail
                        go_region_held3 (fun w' => (∀ c o, c < wr.heap.size → w'.cell? ⟨c, o, none⟩ = wr.cell? ⟨c, o, none⟩) ∧ Below wr.heap.size wr w') (first | assumption | exact ⟨hcc, hW.drew⟩ | exact keepB (by assumption) hb1) (first | (go_at_call 20; (with_reducible refine (num13 _ _).mono ?_); rintro e w9 ⟨rfl, hb1⟩) | (go_at_call 14; have hE := (‹_ ∧ Below _ _ _›).2; (with_reducible refine (QG.out _ hE).mono ?_); clear hE; rintro e w9 ⟨rfl, hb1⟩))
                        all_goals (
                          have hS := ‹_ ∧ Below _ _ _›
                          have HSN := Lib.hid (HS.out.ch0 (Ch.of_below hS.2))
                          have HBN := Lib.hid (HB.out.trans (hS.2.mono HB.out.size))
                          clear hS hW hcc
                          go_wp2_with fail
                          go_roundw
                          (case rel => exact ⟨i + 1, va, b, q, m, by go_num, Lib.hid (by have := HLT.out; omega), HSN, HBN⟩)
                          (case measure => have := HLT.out; simp [intOf]; omega))
                      · have hg24 : (j : Int) + 1 ≤ (i : Int) + 1 := by omega
                        have HIJ : Hid (j ≤ i) := Lib.hid (by omega)
                        clear hij
                        have QG : Hid (∀ W, Below wr.heap.size wr W → Calls Try.prog 14 #[.pointer (some ⟨t, 0, none⟩), .agg #[.int .i64 2, .int .i64 ((i : Int) + 1 + 1), .int .i64 1, .string ⟨#[]⟩, .int .i64 0]] W fun e w' => e = .returned (.agg #[.int .i64 x.k, .int .i64 x.p, .int .i64 x.q, .string x.s, .int .i64 x.r]) ∧ Below W.heap.size W w') := Lib.hid fun W hb => (by have h3 := sget_any (HS.out.ch0 (Ch.of_below hb)) (i + 1) x (by rw [mid_hi l j i v HJ.out HIJ.out]; exact HLX.out) (by rw [mid_len l j v HJ.out]; have := HL.out; omega); rw [show (((i + 1 : Nat)) : Int) + 1 = (i : Int) + 1 + 1 by omega] at h3; exact h3)
                        have EQ : ∀ W, (binOp .neq 26 (.agg #[.int .i64 x.k, .int .i64 x.p, .int .i64 x.q, .string x.s, .int .i64 x.r]) (.agg #[.int .i64 x.k, .int .i64 x.p, .int .i64 x.q, .string x.s, .int .i64 x.r])).run Try.prog W = .ok (.bool false) W := fun W => neq_v5 x W
                        have hW := Below.refl wr.heap.size wr
                        have hcc : ∀ c o, c < wr.heap.size → wr.drew.cell? ⟨c, o, none⟩ = wr.cell? ⟨c, o, none⟩ := fun _ _ _ => rfl
                        go_upto_region 26 with fail
                        go_region_held3 (fun w' => (∀ c o, c < wr.heap.size → w'.cell? ⟨c, o, none⟩ = wr.cell? ⟨c, o, none⟩) ∧ Below wr.heap.size wr w') (first | assumption | exact ⟨hcc, hW.drew⟩ | exact keepB (by assumption) hb1) (first | (go_at_call 20; (with_reducible refine (num13 _ _).mono ?_); rintro e w9 ⟨rfl, hb1⟩) | (go_at_call 14; have hE := (‹_ ∧ Below _ _ _›).2; (with_reducible refine (QG.out _ hE).mono ?_); clear hE; rintro e w9 ⟨rfl, hb1⟩))
                        all_goals (
                          have hS := ‹_ ∧ Below _ _ _›
                          have HSN := Lib.hid (HS.out.ch0 (Ch.of_below hS.2))
                          have HBN := Lib.hid (HB.out.trans (hS.2.mono HB.out.size))
                          clear hS hW hcc
                          go_wp2_with fail
                          go_roundw
                          (case rel => exact ⟨i + 1, va, b, q, m, by go_num, Lib.hid (by have := HLT.out; omega), HSN, HBN⟩)
                          (case measure => have := HLT.out; simp [intOf]; omega))
                    · have hlt2 : ¬ (i : Int) < (l.length : Int) := by omega
                      clear hlt
                      have QR := Lib.hid (srem j HS.out HJ.out (by have := HL.out; omega) HNL.out)
                      go_upto_region 29 with (go_at_call 23; (with_reducible refine (QR.out).mono ?_); rintro e w5 ⟨rfl, hs5⟩)
                      obtain ⟨⟨va5, b5, q5, m5, h5⟩, hb5⟩ := HS.out.said HB.out.size hs5
                      have HS6 : Hid (Sw w1.heap.size t (l) w.heap.size v va5 b5 q5 m5 (w5.alloc (.cells #[.int .i64 v.k, .int .i64 v.p, .int .i64 v.q, .string v.s, .int .i64 v.r] 26))) := Lib.hid (h5.ch0 ((Ch.refl [] w5).alloc _))
                      have HB6 : Hid (Below w1.heap.size w1 (w5.alloc (.cells #[.int .i64 v.k, .int .i64 v.p, .int .i64 v.q, .string v.s, .int .i64 v.r] 26))) := Lib.hid ((HB.out.trans (hb5.mono (Nat.le_refl _))).trans ((((Ch.refl [] w5).alloc (.cells #[.int .i64 v.k, .int .i64 v.p, .int .i64 v.q, .string v.s, .int .i64 v.r] 26)).below).mono (Nat.le_trans HB.out.size hb5.size)))
                      have K6 : Hid (Blk 26 w5.heap.size #[.int .i64 v.k, .int .i64 v.p, .int .i64 v.q, .string v.s, .int .i64 v.r] (w5.alloc (.cells #[.int .i64 v.k, .int .i64 v.p, .int .i64 v.q, .string v.s, .int .i64 v.r] 26))) := Lib.hid (Blk.new w5 _ _ _ rfl)
                      clear hs5 h5 hb5 QR HS HB
                      generalize (w5.alloc (.cells #[.int .i64 v.k, .int .i64 v.p, .int .i64 v.q, .string v.s, .int .i64 v.r] 26)) = w6 at *
                      generalize w5.heap.size = n12 at *
                      have z0 : w6.cell? ⟨w.heap.size, 0, none⟩ = some (.int .i64 v.k) := HS6.out.kb.cell 0
                      have z1 : w6.cell? ⟨w.heap.size, 1, none⟩ = some (.int .i64 v.p) := HS6.out.kb.cell 1
                      have z2 : w6.cell? ⟨w.heap.size, 2, none⟩ = some (.int .i64 v.q) := HS6.out.kb.cell 2
                      have z3 : w6.cell? ⟨w.heap.size, 3, none⟩ = some (.string v.s) := HS6.out.kb.cell 3
                      have z4 : w6.cell? ⟨w.heap.size, 4, none⟩ = some (.int .i64 v.r) := HS6.out.kb.cell 4
                      have zl := HS6.out.kb.lt
                      have y0 : w6.cell? ⟨n12, 0, none⟩ = some (.int .i64 v.k) := K6.out.cell 0
                      have y1 : w6.cell? ⟨n12, 1, none⟩ = some (.int .i64 v.p) := K6.out.cell 1
                      have y2 : w6.cell? ⟨n12, 2, none⟩ = some (.int .i64 v.q) := K6.out.cell 2
                      have y3 : w6.cell? ⟨n12, 3, none⟩ = some (.string v.s) := K6.out.cell 3
                      have y4 : w6.cell? ⟨n12, 4, none⟩ = some (.int .i64 v.r) := K6.out.cell 4
                      have yl := K6.out.lt
                      have EQ : ∀ W, (binOp .neq 26 (.agg #[.int .i64 v.k, .int .i64 v.p, .int .i64 v.q, .string v.s, .int .i64 v.r]) (.agg #[.int .i64 v.k, .int .i64 v.p, .int .i64 v.q, .string v.s, .int .i64 v.r])).run Try.prog W = .ok (.bool false) W := fun W => neq_v5 v W
                      go_wp2_with (go_at_call 19; (with_reducible refine (slen HS6.out).mono ?_); rintro e wl ⟨rfl, rfl⟩)
                      have HS := HS6
                      have HB := HB6
                      go_wp2
                      go_loopw [14] (fun v14 wr => ∃ (i : Nat) (va : Value) (b : Nat) (q m : Value), v14 = .int .i64 (i : Int) ∧ Hid (i ≤ l.length) ∧ Hid (Sw w1.heap.size t (l) w.heap.size v va b q m wr) ∧ Hid (Below w1.heap.size w1 wr)) (fun v14 _ => l.length - (intOf v14).toNat)
                      case atStart => exact ⟨0, _, _, _, _, rfl, Lib.hid (Nat.zero_le _), HS, HB⟩
                      case round =>
                        clear HS HB
                        obtain ⟨i, va, b, q, m, rfl, HI, HS, HB⟩ := hrel
                        rename World => wr
                        by_cases hlt : i < l.length
                        · have hlt2 : (i : Int) < (l.length : Int) := by omega
                          have hi0 : (0 : Int) ≤ (i : Int) := by omega
                          have di : IntKind.i64.wrap ((i : Int) + 1) = (i : Int) + 1 := IntWalk.i64_in _ (by have := HL.out; omega)
                          obtain ⟨g, o, rfl, hgl, key⟩ := HP.out (by omega)
                          have HGL : Hid (g < w1.heap.size) := Lib.hid (by have := HD1.out.size; omega)
                          obtain ⟨x, hx⟩ : ∃ x : V5, l[i] = x := ⟨_, rfl⟩
                          have KEY : Hid (∀ W, Below w1.heap.size w1 W → ∀ j, j < 5 → W.cell? ⟨g, o + i * 5 + j, none⟩ = (vC x)[j]?) := Lib.hid fun W hb j hj => by rw [← hx]; exact ((hb.cell (p := ⟨g, _, none⟩) HGL.out).trans (HD1.out.below.cell (p := ⟨g, _, none⟩) hgl)).trans (key i j hlt hj)
                          have HLX : Hid (l[i]? = some x) := Lib.hid (by rw [List.getElem?_eq_getElem hlt, hx])
                          have HLT := Lib.hid hlt
                          clear key hgl hx hlt
                          have d0 : wr.cell? ⟨g, o + i * 5, none⟩ = some (.int .i64 x.k) := KEY.out wr HB.out 0 (by omega)
                          have d1 : wr.cell? ⟨g, o + i * 5 + 1, none⟩ = some (.int .i64 x.p) := KEY.out wr HB.out 1 (by omega)
                          have d2 : wr.cell? ⟨g, o + i * 5 + 2, none⟩ = some (.int .i64 x.q) := KEY.out wr HB.out 2 (by omega)
                          have d3 : wr.cell? ⟨g, o + i * 5 + 3, none⟩ = some (.string x.s) := KEY.out wr HB.out 3 (by omega)
                          have d4 : wr.cell? ⟨g, o + i * 5 + 4, none⟩ = some (.int .i64 x.r) := KEY.out wr HB.out 4 (by omega)
                          have dl : g < wr.heap.size := Nat.lt_of_lt_of_le HGL.out HB.out.size
                          have QG : Hid (∀ W, Below wr.heap.size wr W → Calls Try.prog 14 #[.pointer (some ⟨t, 0, none⟩), .agg #[.int .i64 2, .int .i64 ((i : Int) + 1), .int .i64 1, .string ⟨#[]⟩, .int .i64 0]] W fun e w' => e = .returned (.agg #[.int .i64 x.k, .int .i64 x.p, .int .i64 x.q, .string x.s, .int .i64 x.r]) ∧ Below W.heap.size W w') := Lib.hid fun W hb => sget_any (HS.out.ch0 (Ch.of_below hb)) i x HLX.out (by have := HL.out; omega)
                          have EQ : ∀ W, (binOp .neq 26 (.agg #[.int .i64 x.k, .int .i64 x.p, .int .i64 x.q, .string x.s, .int .i64 x.r]) (.agg #[.int .i64 x.k, .int .i64 x.p, .int .i64 x.q, .string x.s, .int .i64 x.r])).run Try.prog W = .ok (.bool false) W := fun W => neq_v5 x W
                          have hW := Below.refl wr.heap.size wr
                          have hcc : ∀ c o, c < wr.heap.size → wr.drew.cell? ⟨c, o, none⟩ = wr.cell? ⟨c, o, none⟩ := fun _ _ _ => rfl
                          go_upto_region 34 with fail
                          go_region_held3 (fun w' => (∀ c o, c < wr.heap.size → w'.cell? ⟨c, o, none⟩ = wr.cell? ⟨c, o, none⟩) ∧ Below wr.heap.size wr w') (first | assumption | exact ⟨hcc, hW.drew⟩ | exact keepB (by assumption) hb1) (first | (go_at_call 20; (with_reducible refine (num13 _ _).mono ?_); rintro e w9 ⟨rfl, hb1⟩) | (go_at_call 14; have hE := (‹_ ∧ Below _ _ _›).2; (with_reducible refine (QG.out _ hE).mono ?_); clear hE; rintro e w9 ⟨rfl, hb1⟩))
                          all_goals (
                            have hS := ‹_ ∧ Below _ _ _›
                            have HSN := Lib.hid (HS.out.ch0 (Ch.of_below hS.2))
                            have HBN := Lib.hid (HB.out.trans (hS.2.mono HB.out.size))
                            clear hS hW hcc
                            go_wp2_with fail
                            go_roundw
                            (case rel => exact ⟨i + 1, va, b, q, m, by go_num, Lib.hid (by have := HLT.out; omega), HSN, HBN⟩)
                            (case measure => have := HLT.out; simp [intOf]; omega))
                        · have hlt2 : ¬ (i : Int) < (l.length : Int) := by omega
                          go_wp2_with (go_at_call 10; (with_reducible refine (HAW.out _).mono ?_); rintro e wz ⟨rfl, hbz⟩)
                          go_ret
                          exact ⟨rfl, HD1.out.below.trans ((HB.out.trans (hbz.mono HB.out.size)).mono HD1.out.size)⟩)

  · have hl2 : (100 : Int) < (l.length : Int) := by omega
    clear hl
    go_wp2_with (go_at_call 10; (with_reducible refine (HAW.out _).mono ?_); rintro e wz ⟨rfl, hbz⟩)
    go_ret
    exact ⟨rfl, HD1.out.below.trans (hbz.mono HD1.out.size)⟩
end Go.Proofs.Ytaaelhhiceildaa.tableSequencesLaw
