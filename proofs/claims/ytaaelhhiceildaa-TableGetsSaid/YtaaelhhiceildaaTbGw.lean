/- TableGets: Get returns what was set last for a key. -/
import Derived.Test.YtaaelhhiceildaaTbOp
import Derived.Test.YtaaelhhiceildaaTbW
import Derived.Deep.DeepCutAuto
import Derived.Deep.CutBlock
import Derived.BigQuiet
import Derived.RegionTactic
namespace Go.Proofs.Ytaaelhhiceildaa.tableGetsLaw
open Go.ChangeShapes Go.WideShapes Go.ChangeAt Go.RowKit Go.Joins Go.Deep M1
set_option linter.unusedVariables false
/-- What holds in the loop. -/
structure Gw (B t : Nat) (i : Nat) (k : V5) (n3 n6 : Nat) (va : Value) (b : Nat) (v m : Value) (s : TS) (y : V5) (wr : World) : Prop where
  tb : Tb B t va b v m s wr
  ti : Ti s
  c1 : s.arr.length + lenR s.R ≤ i
  c2 : s.R.length ≤ i
  nn : n6 ∉ tbS t va b v m
  nb : n3 < B ∧ B ≤ n6
  kb : Blk 26 n3 #[.int .i64 k.k, .int .i64 k.p, .int .i64 k.q, .string k.s, .int .i64 k.r] wr
  wb : Blk 26 n6 #[.int .i64 y.k, .int .i64 y.p, .int .i64 y.q, .string y.s, .int .i64 y.r] wr
theorem Gw.ch0 {B t i : Nat} {k : V5} {n3 n6 : Nat} {va : Value} {b : Nat} {v m : Value} {s : TS} {y : V5} {w w' : World} (h : Gw B t i k n3 n6 va b v m s y w) (hc : Ch [] w w') : Gw B t i k n3 n6 va b v m s y w' :=
  ⟨h.tb.ch0 hc, h.ti, h.c1, h.c2, h.nn, h.nb, h.kb.ch hc (not_nil _), h.wb.ch hc (not_nil _)⟩
theorem Gw.set {B t i : Nat} {k : V5} {n3 n6 : Nat} {va : Value} {b : Nat} {v m : Value} {s : TS} {y : V5} {w w' : World} (h : Gw B t i k n3 n6 va b v m s y w) (K X : V5) (hi : i ≤ 200) (hs : TbSaid B t va b v m (setT s K X) w w') : (∃ va' b' v' m', Gw B t (i + 1) k n3 n6 va' b' v' m' (setT s K X) y w') ∧ Below B w w' := by
  obtain ⟨⟨va', b', v', m', h1, h2⟩, hc⟩ := hs
  have hl := lenR_le s.R
  have c1 := h.c1
  have c2 := h.c2
  obtain ⟨a1, a2, a3, a4⟩ := ti_setT h.ti K X (by omega)
  have hlo : ∀ g ∈ tbS t va b v m, B ≤ g := fun g hg => (h.tb.lt g hg).1
  refine ⟨⟨va', b', v', m', h1, a1, by omega, by omega, fun hq => ?_, h.nb, h.kb.ch hc (fun hq => ?_), h.wb.ch hc h.nn⟩, hc.belowB hlo ?_⟩
  · rcases h2 _ hq with q | q
    · exact h.nn q
    · have := h.wb.lt; omega
  · have := hlo _ hq; have := h.nb.1; omega
  · have := h.nb.2; have := h.wb.lt; omega
theorem Gw.want {B t i : Nat} {k : V5} {n3 n6 : Nat} {va : Value} {b : Nat} {v m : Value} {s : TS} {y : V5} {w : World} (h : Gw B t i k n3 n6 va b v m s y w) (z : V5) : Gw B t i k n3 n6 va b v m s z (st5 w n6 (.int .i64 z.k) (.int .i64 z.p) (.int .i64 z.q) (.string z.s) (.int .i64 z.r)) ∧ Below B w (st5 w n6 (.int .i64 z.k) (.int .i64 z.p) (.int .i64 z.q) (.string z.s) (.int .i64 z.r)) := by
  have hc : Ch [n6] w (st5 w n6 (.int .i64 z.k) (.int .i64 z.p) (.int .i64 z.q) (.string z.s) (.int .i64 z.r)) := st5_ch (Ch.refl _ _) (.inl (by simp))
  have hb := h.nb
  exact ⟨⟨h.tb.ch hc (fun g hg => by simp; intro e; subst e; exact h.nn hg), h.ti, h.c1, h.c2, h.nn, h.nb, h.kb.ch hc (by simp; omega), st5_blk h.wb⟩, hc.belowB (fun g hg => by simp at hg; omega) (by have := h.wb.lt; omega)⟩
set_option maxHeartbeats 16000000 in
set_option maxRecDepth 100000 in
theorem walk (p : Option Addr) (cap : Nat) (l : List OpA) (k p1 q : Int) (s : ByteArray) (r : Int) (w : World) (hlm : l.length ≤ maxLen) (hp : 0 < l.length → ∃ g o, p = some ⟨g, o, none⟩ ∧ g < w.heap.size ∧ ∀ (j m : Nat) (hj : j < l.length), m < 12 → w.cell? ⟨g, o + j * 12 + m, none⟩ = (opC l[j])[m]?) :
    Calls Try.prog 3 #[.slice p l.length cap, .agg #[.int .i64 k, .int .i64 p1, .int .i64 q, .string s, .int .i64 r]] w fun e w' => e = .returned (.bool true) ∧ Below w.heap.size w w' := by
  obtain ⟨k5, rfl, rfl, rfl, rfl, rfl⟩ : ∃ k5 : V5, k = k5.k ∧ p1 = k5.p ∧ q = k5.q ∧ s = k5.s ∧ r = k5.r := ⟨⟨k, p1, q, s, r⟩, rfl, rfl, rfl, rfl, rfl⟩
  rename V5 => k
  have HP := Lib.hid hp
  obtain ⟨i0, hi0, jz0, jz1, jz2⟩ := info_parts info_op13
  have HD1 : Hid (Ch [] w (w.alloc (.cells #[.int .i64 k.k, .int .i64 k.p, .int .i64 k.q, .string k.s, .int .i64 k.r] 26))) := Lib.hid ((Ch.refl [] w).alloc _)
  have KB1 : Hid (Blk 26 w.heap.size #[.int .i64 k.k, .int .i64 k.p, .int .i64 k.q, .string k.s, .int .i64 k.r] (w.alloc (.cells #[.int .i64 k.k, .int .i64 k.p, .int .i64 k.q, .string k.s, .int .i64 k.r] 26))) := Lib.hid (Blk.new w _ _ _ rfl)
  have HAW := Lib.hid awake_any
  clear hp
  go_enter Try.func3, Try.ntmps3
  go_upto_region 1 with fail
  generalize (w.alloc (.cells #[.int .i64 k.k, .int .i64 k.p, .int .i64 k.q, .string k.s, .int .i64 k.r] 26)) = w1 at *
  by_cases hl : l.length ≤ 200
  · have hl2 : ¬ ((200 : Int) < (l.length : Int)) := by omega
    have e1 : decide ((200 : Int) < (l.length : Int)) = false := decide_eq_false hl2
    have QL := Lib.hid (large13 p l.length cap w1)
    rw [e1] at QL
    have QN := Lib.hid (tnew_any w1.heap.size w1 (Nat.le_refl _))
    have HL := Lib.hid hl
    clear hl e1
    go_upto_region 6 with (first | (go_at_call 9; (with_reducible refine (QL.out).mono ?_); rintro e wx ⟨rfl, rfl⟩) | (go_at_call 11; (with_reducible refine (QN.out).mono ?_); rintro e w2 ⟨t, b0, rfl, ht, _, hb⟩; have HT2 := Lib.hid ht; have HB2 := Lib.hid hb; clear ht hb))
    rename World => w2
    go_upto_region 7 with fail
    have HG3 : Hid (Gw w1.heap.size t 0 k w.heap.size w2.heap.size _ b0 _ _ ⟨[], 0, [], false⟩ v5z (w2.alloc (.cells #[.int .i64 0, .int .i64 0, .int .i64 0, .string ⟨#[]⟩, .int .i64 0] 26))) := Lib.hid ⟨HT2.out.ch0 ((Ch.refl [] _).alloc _), Ti.new false, Nat.le_refl _, Nat.le_refl _, fun hq => absurd (HT2.out.lt _ hq).2 (Nat.lt_irrefl _), ⟨KB1.out.lt, HB2.out.size⟩, (KB1.out.ch (Ch.of_below HB2.out) (not_nil _)).ch ((Ch.refl [] _).alloc _) (not_nil _), Blk.new w2 _ _ _ rfl⟩
    have HB3 : Hid (Below w1.heap.size w1 (w2.alloc (.cells #[.int .i64 0, .int .i64 0, .int .i64 0, .string ⟨#[]⟩, .int .i64 0] 26))) := Lib.hid (HB2.out.alloc HB2.out.size _)
    have HZ0 : Hid (v5z = getT ⟨[], 0, [], false⟩ k) := Lib.hid (by rw [getT_no _ (fun i a b => by simp at b; omega)]; rfl)
    generalize (w2.alloc (.cells #[.int .i64 0, .int .i64 0, .int .i64 0, .string ⟨#[]⟩, .int .i64 0] 26)) = w3 at *
    generalize w2.heap.size = n6 at *
    clear HT2 HB2 QN QL KB1
    go_wp2
    go_loopw [7] (fun v7 wr => ∃ (i : Nat) (va : Value) (b : Nat) (v m : Value) (s : TS), v7 = .int .i64 (i : Int) ∧ Hid (i ≤ l.length) ∧ Hid (Gw w1.heap.size t i k w.heap.size n6 va b v m s (getT s k) wr) ∧ Hid (Below w1.heap.size w1 wr)) (fun v7 _ => l.length - (intOf v7).toNat)
    case atStart => exact ⟨0, _, b0, _, _, _, rfl, Lib.hid (Nat.zero_le _), Lib.hid (by rw [← HZ0.out]; exact HG3.out), HB3⟩
    case round =>
      obtain ⟨i, va, b, v, m, s, rfl, HI, HG, HBI⟩ := hrel
      rename World => wr
      clear HG3 HB3 HZ0
      by_cases hlt : i < l.length
      · have hlt2 : (i : Int) < (l.length : Int) := by omega
        have hi0 : (0 : Int) ≤ (i : Int) := by omega
        have di : IntKind.i64.wrap ((i : Int) + 1) = (i : Int) + 1 := IntWalk.i64_in _ (by have := HL.out; omega)
        obtain ⟨g, o, rfl, hgl, key⟩ := HP.out (by omega)
        have HGL : Hid (g < w1.heap.size) := Lib.hid (by have := HD1.out.size; omega)
        obtain ⟨x, hx⟩ : ∃ x : OpA, l[i] = x := ⟨_, rfl⟩
        have KEY : Hid (∀ W, Below w1.heap.size w1 W → ∀ j, j < 12 → W.cell? ⟨g, o + i * 12 + j, none⟩ = (opC x)[j]?) := Lib.hid fun W hb j hj => by rw [← hx]; exact ((hb.cell (p := ⟨g, _, none⟩) HGL.out).trans (HD1.out.below.cell (p := ⟨g, _, none⟩) hgl)).trans (key i j hlt hj)
        have hgr : g < wr.heap.size := Nat.lt_of_lt_of_le HGL.out HBI.out.size
        have HI2 : Hid (i ≤ 200) := Lib.hid (by have := HL.out; omega)
        have HLT := Lib.hid hlt
        clear key hgl hx hlt
        have s0 : wr.cell? ⟨g, o + i * 12, none⟩ = some (.int .i64 x.kind) := KEY.out wr HBI.out 0 (by omega)
        have s1 : wr.cell? ⟨g, o + i * 12 + 1, none⟩ = some (.int .i64 x.pos) := KEY.out wr HBI.out 1 (by omega)
        have s2 : wr.cell? ⟨g, o + i * 12 + 2, none⟩ = some (.int .i64 x.key.k) := KEY.out wr HBI.out 2 (by omega)
        have s3 : wr.cell? ⟨g, o + i * 12 + 3, none⟩ = some (.int .i64 x.key.p) := KEY.out wr HBI.out 3 (by omega)
        have s4 : wr.cell? ⟨g, o + i * 12 + 4, none⟩ = some (.int .i64 x.key.q) := KEY.out wr HBI.out 4 (by omega)
        have s5 : wr.cell? ⟨g, o + i * 12 + 5, none⟩ = some (.string x.key.s) := KEY.out wr HBI.out 5 (by omega)
        have s6 : wr.cell? ⟨g, o + i * 12 + 6, none⟩ = some (.int .i64 x.key.r) := KEY.out wr HBI.out 6 (by omega)
        have s7 : wr.cell? ⟨g, o + i * 12 + 7, none⟩ = some (.int .i64 x.val.k) := KEY.out wr HBI.out 7 (by omega)
        have s8 : wr.cell? ⟨g, o + i * 12 + 8, none⟩ = some (.int .i64 x.val.p) := KEY.out wr HBI.out 8 (by omega)
        have s9 : wr.cell? ⟨g, o + i * 12 + 9, none⟩ = some (.int .i64 x.val.q) := KEY.out wr HBI.out 9 (by omega)
        have s10 : wr.cell? ⟨g, o + i * 12 + 10, none⟩ = some (.string x.val.s) := KEY.out wr HBI.out 10 (by omega)
        have s11 : wr.cell? ⟨g, o + i * 12 + 11, none⟩ = some (.int .i64 x.val.r) := KEY.out wr HBI.out 11 (by omega)
        have QS : Hid (∀ W, Ch [] wr W → Calls Try.prog 12 #[.pointer (some ⟨t, 0, none⟩), .agg #[.int .i64 x.key.k, .int .i64 x.key.p, .int .i64 x.key.q, .string x.key.s, .int .i64 x.key.r], .agg #[.int .i64 x.val.k, .int .i64 x.val.p, .int .i64 x.val.q, .string x.val.s, .int .i64 x.val.r]] W fun e w' => e = .returned (.int .i64 (errR x.key x.val)) ∧ TbSaid w1.heap.size t va b v m (setT s x.key x.val) wr w') := Lib.hid fun W hc => (tset_any w1.heap.size t va b v m s W (HG.out.tb.ch0 hc) x.key x.val (by have := HG.out.c1; have := HG.out.c2; have := lenR_le s.R; have := HI2.out; omega) (Nat.le_trans HBI.out.size hc.size) HG.out.ti.ok.1).mono fun e w' hh => ⟨hh.1, tb_chain (fun g hg => .inl hg) (hc.mono (fun g hg => absurd hg (not_nil g))) hh.2⟩
        have HGET : Hid (getT (setT s x.key x.val) k = if errR x.key x.val = 0 ∧ k = x.key then x.val else getT s k) := Lib.hid ((ti_setT HG.out.ti x.key x.val (by have := HG.out.c1; have := HI2.out; omega)).2.1 k)
        obtain ⟨ec, hec⟩ : ∃ ec, errR x.key x.val = ec := ⟨_, rfl⟩
        rw [hec] at QS
        have HEC := Lib.hid hec
        clear hec
        go_upto_region 10 with fail
        go_cut [8] from 17 to 89 (fun v8 wx => v8 = .int .i64 ec ∧ Hid ((∃ va' b' v' m', Gw w1.heap.size t (i + 1) k w.heap.size n6 va' b' v' m' (setT s x.key x.val) (getT s k) wx) ∧ Below w1.heap.size wr wx))
        case first =>
          go_region_law (go_simp; go_at_call 12; (with_reducible refine (QS.out _ ?hc).mono ?_); (case hc => first | exact Ch.refl _ _ | exact (Ch.refl _ _).drew | exact (Ch.refl _ _).drewN _); rintro e w4 ⟨rfl, hs4⟩; have HS4 := Lib.hid (HG.out.set x.key x.val HI2.out hs4); clear hs4)
          all_goals (
            go_wp2_with fail
            go_meet
            exact ⟨rfl, HS4⟩)
        obtain ⟨rfl, HS⟩ := hcut
        rename World => w4
        obtain ⟨⟨va4, b4, v4, m4, hg4⟩, hb4⟩ := HS.out
        have HG4 := Lib.hid hg4
        have HBI4 : Hid (Below w1.heap.size w1 w4) := Lib.hid (HBI.out.trans (hb4.mono (Nat.le_refl _)))
        clear HS hg4 hb4 s0 s1 s2 s3 s4 s5 s6 s7 s8 s9 s10 s11 hgr QS HG HBI
        have s0 : w4.cell? ⟨g, o + i * 12, none⟩ = some (.int .i64 x.kind) := KEY.out w4 HBI4.out 0 (by omega)
        have s1 : w4.cell? ⟨g, o + i * 12 + 1, none⟩ = some (.int .i64 x.pos) := KEY.out w4 HBI4.out 1 (by omega)
        have s2 : w4.cell? ⟨g, o + i * 12 + 2, none⟩ = some (.int .i64 x.key.k) := KEY.out w4 HBI4.out 2 (by omega)
        have s3 : w4.cell? ⟨g, o + i * 12 + 3, none⟩ = some (.int .i64 x.key.p) := KEY.out w4 HBI4.out 3 (by omega)
        have s4 : w4.cell? ⟨g, o + i * 12 + 4, none⟩ = some (.int .i64 x.key.q) := KEY.out w4 HBI4.out 4 (by omega)
        have s5 : w4.cell? ⟨g, o + i * 12 + 5, none⟩ = some (.string x.key.s) := KEY.out w4 HBI4.out 5 (by omega)
        have s6 : w4.cell? ⟨g, o + i * 12 + 6, none⟩ = some (.int .i64 x.key.r) := KEY.out w4 HBI4.out 6 (by omega)
        have s7 : w4.cell? ⟨g, o + i * 12 + 7, none⟩ = some (.int .i64 x.val.k) := KEY.out w4 HBI4.out 7 (by omega)
        have s8 : w4.cell? ⟨g, o + i * 12 + 8, none⟩ = some (.int .i64 x.val.p) := KEY.out w4 HBI4.out 8 (by omega)
        have s9 : w4.cell? ⟨g, o + i * 12 + 9, none⟩ = some (.int .i64 x.val.q) := KEY.out w4 HBI4.out 9 (by omega)
        have s10 : w4.cell? ⟨g, o + i * 12 + 10, none⟩ = some (.string x.val.s) := KEY.out w4 HBI4.out 10 (by omega)
        have s11 : w4.cell? ⟨g, o + i * 12 + 11, none⟩ = some (.int .i64 x.val.r) := KEY.out w4 HBI4.out 11 (by omega)
        have hgr : g < w4.heap.size := Nat.lt_of_lt_of_le HGL.out HBI4.out.size
        by_cases hk : x.key.k = 0
        · obtain rfl : ec = 13 := by rw [← HEC.out]; unfold errR; rw [if_pos (.inl hk)]
          have HSG : Hid (setT s x.key x.val = s) := Lib.hid (by unfold setT; rw [if_pos (by rw [HEC.out]; decide)])
          have ek : (x.key.k != 0) = false := by simp [hk]
          go_upto_region 14 with fail
          go_quiet (fail)
          go_upto_region 16 with fail
          go_name_world V1 hV
          have HC1 : Hid (Ch [] w4 V1) := Lib.hid (by rw [← hV]; first | exact (Ch.refl [] w4).drewN _ | exact (Ch.refl [] w4).drew | exact Ch.refl [] w4)
          have HGV : Hid (Gw w1.heap.size t (i + 1) k w.heap.size n6 va4 b4 v4 m4 (setT s x.key x.val) (getT (setT s x.key x.val) k) V1) := Lib.hid (by have h1 := HG4.out.ch0 HC1.out; rw [HSG.out] at h1 ⊢; exact h1)
          have HBV := Lib.hid (HBI4.out.trans (HC1.out.below.mono HBI4.out.size))
          clear hV
          clear s0 s1 s2 s3 s4 s5 s6 s7 s8 s9 s10 s11 hgr
          have QG : Hid (∀ W, Below V1.heap.size V1 W → Calls Try.prog 14 #[.pointer (some ⟨t, 0, none⟩), .agg #[.int .i64 k.k, .int .i64 k.p, .int .i64 k.q, .string k.s, .int .i64 k.r]] W fun e w' => e = .returned (.agg #[.int .i64 (getT (setT s x.key x.val) k).k, .int .i64 (getT (setT s x.key x.val) k).p, .int .i64 (getT (setT s x.key x.val) k).q, .string (getT (setT s x.key x.val) k).s, .int .i64 (getT (setT s x.key x.val) k).r]) ∧ Below W.heap.size W w') := Lib.hid fun W hb => tget_any w1.heap.size t va4 b4 v4 m4 (setT s x.key x.val) W (HGV.out.tb.below hb) k (by have := HGV.out.c1; have := HI2.out; omega) (by have := HGV.out.c2; have := HI2.out; omega)
          obtain ⟨z, hz⟩ : ∃ z, getT (setT s x.key x.val) k = z := ⟨_, rfl⟩
          have HZ := Lib.hid hz
          rw [hz] at QG HGV
          clear hz
          have EQ : ∀ W, (binOp .neq 26 (.agg #[.int .i64 z.k, .int .i64 z.p, .int .i64 z.q, .string z.s, .int .i64 z.r]) (.agg #[.int .i64 z.k, .int .i64 z.p, .int .i64 z.q, .string z.s, .int .i64 z.r])).run Try.prog W = .ok (.bool false) W := fun W => neq_v5 z W
          have a0 : V1.cell? ⟨w.heap.size, 0, none⟩ = some (.int .i64 k.k) := HGV.out.kb.cell 0
          have a1 : V1.cell? ⟨w.heap.size, 1, none⟩ = some (.int .i64 k.p) := HGV.out.kb.cell 1
          have a2 : V1.cell? ⟨w.heap.size, 2, none⟩ = some (.int .i64 k.q) := HGV.out.kb.cell 2
          have a3 : V1.cell? ⟨w.heap.size, 3, none⟩ = some (.string k.s) := HGV.out.kb.cell 3
          have a4 : V1.cell? ⟨w.heap.size, 4, none⟩ = some (.int .i64 k.r) := HGV.out.kb.cell 4
          have c0 : V1.cell? ⟨n6, 0, none⟩ = some (.int .i64 z.k) := HGV.out.wb.cell 0
          have c1 : V1.cell? ⟨n6, 1, none⟩ = some (.int .i64 z.p) := HGV.out.wb.cell 1
          have c2 : V1.cell? ⟨n6, 2, none⟩ = some (.int .i64 z.q) := HGV.out.wb.cell 2
          have c3 : V1.cell? ⟨n6, 3, none⟩ = some (.string z.s) := HGV.out.wb.cell 3
          have c4 : V1.cell? ⟨n6, 4, none⟩ = some (.int .i64 z.r) := HGV.out.wb.cell 4
          have la := HGV.out.kb.lt
          have lc := HGV.out.wb.lt
          have hW := Below.refl V1.heap.size V1
          have hcc : ∀ c o, c < V1.heap.size → V1.drew.cell? ⟨c, o, none⟩ = V1.cell? ⟨c, o, none⟩ := fun _ _ _ => rfl
          go_upto_region 16 with fail
          go_region_held3 (fun w' => (∀ c o, c < V1.heap.size → w'.cell? ⟨c, o, none⟩ = V1.cell? ⟨c, o, none⟩) ∧ Below V1.heap.size V1 w') (first | assumption | exact ⟨hcc, hW.drew⟩ | exact keepB (by assumption) hb1) (first | (go_at_call 14; have hE := (‹_ ∧ Below _ _ _›).2; (with_reducible refine (QG.out _ hE).mono ?_); clear hE; rintro e w9 ⟨rfl, hb1⟩))
          all_goals (
            have hS := ‹_ ∧ Below _ _ _›
            have HGN := Lib.hid (HGV.out.ch0 (Ch.of_below hS.2))
            have HBN := Lib.hid (HBV.out.trans (hS.2.mono HBV.out.size))
            clear hS hW hcc
            go_wp2
            go_roundw
            (case rel => exact ⟨i + 1, va4, b4, v4, m4, (setT s x.key x.val), by go_num, Lib.hid (by have := HLT.out; omega), (by rw [HZ.out]; exact HGN), HBN⟩)
            (case measure => have := HLT.out; simp [intOf]; omega))
        · cases hk1 : okV x.key with
          | false =>
            obtain rfl : ec = 13 := by rw [← HEC.out]; unfold errR; rw [if_pos (.inr hk1)]
            have HSG : Hid (setT s x.key x.val = s) := Lib.hid (by unfold setT; rw [if_pos (by rw [HEC.out]; decide)])
            have ek : (x.key.k != 0) = true := bne_iff_ne.2 hk
            have Q1 : Hid (∀ W, Calls Try.prog 13 #[.agg #[.int .i64 x.key.k, .int .i64 x.key.p, .int .i64 x.key.q, .string x.key.s, .int .i64 x.key.r]] W fun e w' => e = .returned (.bool false) ∧ Below W.heap.size W w') := Lib.hid fun W => by rw [← (show okV x.key = false from hk1)]; exact rvalid5 x.key.k x.key.p x.key.q x.key.s x.key.r W
            go_upto_region 12 with (go_at_call 13; (with_reducible refine (Q1.out _).mono ?_); rintro e w5 ⟨rfl, hb5⟩; have HG5 := Lib.hid (HG4.out.ch0 (Ch.of_below hb5)); have HBI5 := Lib.hid (HBI4.out.trans (hb5.mono HBI4.out.size)); have t5_0 : w5.cell? ⟨g, o + i * 12, none⟩ = some (.int .i64 x.kind) := KEY.out w5 HBI5.out 0 (by omega); have t5_1 : w5.cell? ⟨g, o + i * 12 + 1, none⟩ = some (.int .i64 x.pos) := KEY.out w5 HBI5.out 1 (by omega); have t5_2 : w5.cell? ⟨g, o + i * 12 + 2, none⟩ = some (.int .i64 x.key.k) := KEY.out w5 HBI5.out 2 (by omega); have t5_3 : w5.cell? ⟨g, o + i * 12 + 3, none⟩ = some (.int .i64 x.key.p) := KEY.out w5 HBI5.out 3 (by omega); have t5_4 : w5.cell? ⟨g, o + i * 12 + 4, none⟩ = some (.int .i64 x.key.q) := KEY.out w5 HBI5.out 4 (by omega); have t5_5 : w5.cell? ⟨g, o + i * 12 + 5, none⟩ = some (.string x.key.s) := KEY.out w5 HBI5.out 5 (by omega); have t5_6 : w5.cell? ⟨g, o + i * 12 + 6, none⟩ = some (.int .i64 x.key.r) := KEY.out w5 HBI5.out 6 (by omega); have t5_7 : w5.cell? ⟨g, o + i * 12 + 7, none⟩ = some (.int .i64 x.val.k) := KEY.out w5 HBI5.out 7 (by omega); have t5_8 : w5.cell? ⟨g, o + i * 12 + 8, none⟩ = some (.int .i64 x.val.p) := KEY.out w5 HBI5.out 8 (by omega); have t5_9 : w5.cell? ⟨g, o + i * 12 + 9, none⟩ = some (.int .i64 x.val.q) := KEY.out w5 HBI5.out 9 (by omega); have t5_10 : w5.cell? ⟨g, o + i * 12 + 10, none⟩ = some (.string x.val.s) := KEY.out w5 HBI5.out 10 (by omega); have t5_11 : w5.cell? ⟨g, o + i * 12 + 11, none⟩ = some (.int .i64 x.val.r) := KEY.out w5 HBI5.out 11 (by omega); have hgr5 : g < w5.heap.size := Nat.lt_of_lt_of_le HGL.out HBI5.out.size; clear hb5)
            clear s0 s1 s2 s3 s4 s5 s6 s7 s8 s9 s10 s11 hgr
            go_upto_region 14 with fail
            go_quiet (fail)
            go_upto_region 16 with fail
            go_name_world V1 hV
            have HC1 : Hid (Ch [] w5 V1) := Lib.hid (by rw [← hV]; first | exact (Ch.refl [] w5).drewN _ | exact (Ch.refl [] w5).drew | exact Ch.refl [] w5)
            have HGV : Hid (Gw w1.heap.size t (i + 1) k w.heap.size n6 va4 b4 v4 m4 (setT s x.key x.val) (getT (setT s x.key x.val) k) V1) := Lib.hid (by have h1 := HG5.out.ch0 HC1.out; rw [HSG.out] at h1 ⊢; exact h1)
            have HBV := Lib.hid (HBI5.out.trans (HC1.out.below.mono HBI5.out.size))
            clear hV
            clear t5_0 t5_1 t5_2 t5_3 t5_4 t5_5 t5_6 t5_7 t5_8 t5_9 t5_10 t5_11 hgr5
            have QG : Hid (∀ W, Below V1.heap.size V1 W → Calls Try.prog 14 #[.pointer (some ⟨t, 0, none⟩), .agg #[.int .i64 k.k, .int .i64 k.p, .int .i64 k.q, .string k.s, .int .i64 k.r]] W fun e w' => e = .returned (.agg #[.int .i64 (getT (setT s x.key x.val) k).k, .int .i64 (getT (setT s x.key x.val) k).p, .int .i64 (getT (setT s x.key x.val) k).q, .string (getT (setT s x.key x.val) k).s, .int .i64 (getT (setT s x.key x.val) k).r]) ∧ Below W.heap.size W w') := Lib.hid fun W hb => tget_any w1.heap.size t va4 b4 v4 m4 (setT s x.key x.val) W (HGV.out.tb.below hb) k (by have := HGV.out.c1; have := HI2.out; omega) (by have := HGV.out.c2; have := HI2.out; omega)
            obtain ⟨z, hz⟩ : ∃ z, getT (setT s x.key x.val) k = z := ⟨_, rfl⟩
            have HZ := Lib.hid hz
            rw [hz] at QG HGV
            clear hz
            have EQ : ∀ W, (binOp .neq 26 (.agg #[.int .i64 z.k, .int .i64 z.p, .int .i64 z.q, .string z.s, .int .i64 z.r]) (.agg #[.int .i64 z.k, .int .i64 z.p, .int .i64 z.q, .string z.s, .int .i64 z.r])).run Try.prog W = .ok (.bool false) W := fun W => neq_v5 z W
            have a0 : V1.cell? ⟨w.heap.size, 0, none⟩ = some (.int .i64 k.k) := HGV.out.kb.cell 0
            have a1 : V1.cell? ⟨w.heap.size, 1, none⟩ = some (.int .i64 k.p) := HGV.out.kb.cell 1
            have a2 : V1.cell? ⟨w.heap.size, 2, none⟩ = some (.int .i64 k.q) := HGV.out.kb.cell 2
            have a3 : V1.cell? ⟨w.heap.size, 3, none⟩ = some (.string k.s) := HGV.out.kb.cell 3
            have a4 : V1.cell? ⟨w.heap.size, 4, none⟩ = some (.int .i64 k.r) := HGV.out.kb.cell 4
            have c0 : V1.cell? ⟨n6, 0, none⟩ = some (.int .i64 z.k) := HGV.out.wb.cell 0
            have c1 : V1.cell? ⟨n6, 1, none⟩ = some (.int .i64 z.p) := HGV.out.wb.cell 1
            have c2 : V1.cell? ⟨n6, 2, none⟩ = some (.int .i64 z.q) := HGV.out.wb.cell 2
            have c3 : V1.cell? ⟨n6, 3, none⟩ = some (.string z.s) := HGV.out.wb.cell 3
            have c4 : V1.cell? ⟨n6, 4, none⟩ = some (.int .i64 z.r) := HGV.out.wb.cell 4
            have la := HGV.out.kb.lt
            have lc := HGV.out.wb.lt
            have hW := Below.refl V1.heap.size V1
            have hcc : ∀ c o, c < V1.heap.size → V1.drew.cell? ⟨c, o, none⟩ = V1.cell? ⟨c, o, none⟩ := fun _ _ _ => rfl
            go_upto_region 16 with fail
            go_region_held3 (fun w' => (∀ c o, c < V1.heap.size → w'.cell? ⟨c, o, none⟩ = V1.cell? ⟨c, o, none⟩) ∧ Below V1.heap.size V1 w') (first | assumption | exact ⟨hcc, hW.drew⟩ | exact keepB (by assumption) hb1) (first | (go_at_call 14; have hE := (‹_ ∧ Below _ _ _›).2; (with_reducible refine (QG.out _ hE).mono ?_); clear hE; rintro e w9 ⟨rfl, hb1⟩))
            all_goals (
              have hS := ‹_ ∧ Below _ _ _›
              have HGN := Lib.hid (HGV.out.ch0 (Ch.of_below hS.2))
              have HBN := Lib.hid (HBV.out.trans (hS.2.mono HBV.out.size))
              clear hS hW hcc
              go_wp2
              go_roundw
              (case rel => exact ⟨i + 1, va4, b4, v4, m4, (setT s x.key x.val), by go_num, Lib.hid (by have := HLT.out; omega), (by rw [HZ.out]; exact HGN), HBN⟩)
              (case measure => have := HLT.out; simp [intOf]; omega))
          | true =>
            cases hx1 : okV x.val with
            | false =>
              obtain rfl : ec = 2 := by rw [← HEC.out]; unfold errR; rw [if_neg (by simp [hk, hk1]), if_pos hx1]
              have HSG : Hid (setT s x.key x.val = s) := Lib.hid (by unfold setT; rw [if_pos (by rw [HEC.out]; decide)])
              have ek : (x.key.k != 0) = true := bne_iff_ne.2 hk
              have Q1 : Hid (∀ W, Calls Try.prog 13 #[.agg #[.int .i64 x.key.k, .int .i64 x.key.p, .int .i64 x.key.q, .string x.key.s, .int .i64 x.key.r]] W fun e w' => e = .returned (.bool true) ∧ Below W.heap.size W w') := Lib.hid fun W => by rw [← (show okV x.key = true from hk1)]; exact rvalid5 x.key.k x.key.p x.key.q x.key.s x.key.r W
              have Q2 : Hid (∀ W, Calls Try.prog 13 #[.agg #[.int .i64 x.val.k, .int .i64 x.val.p, .int .i64 x.val.q, .string x.val.s, .int .i64 x.val.r]] W fun e w' => e = .returned (.bool false) ∧ Below W.heap.size W w') := Lib.hid fun W => by rw [← (show okV x.val = false from hx1)]; exact rvalid5 x.val.k x.val.p x.val.q x.val.s x.val.r W
              go_upto_region 12 with (go_at_call 13; (with_reducible refine (Q1.out _).mono ?_); rintro e w5 ⟨rfl, hb5⟩; have HG5 := Lib.hid (HG4.out.ch0 (Ch.of_below hb5)); have HBI5 := Lib.hid (HBI4.out.trans (hb5.mono HBI4.out.size)); have t5_0 : w5.cell? ⟨g, o + i * 12, none⟩ = some (.int .i64 x.kind) := KEY.out w5 HBI5.out 0 (by omega); have t5_1 : w5.cell? ⟨g, o + i * 12 + 1, none⟩ = some (.int .i64 x.pos) := KEY.out w5 HBI5.out 1 (by omega); have t5_2 : w5.cell? ⟨g, o + i * 12 + 2, none⟩ = some (.int .i64 x.key.k) := KEY.out w5 HBI5.out 2 (by omega); have t5_3 : w5.cell? ⟨g, o + i * 12 + 3, none⟩ = some (.int .i64 x.key.p) := KEY.out w5 HBI5.out 3 (by omega); have t5_4 : w5.cell? ⟨g, o + i * 12 + 4, none⟩ = some (.int .i64 x.key.q) := KEY.out w5 HBI5.out 4 (by omega); have t5_5 : w5.cell? ⟨g, o + i * 12 + 5, none⟩ = some (.string x.key.s) := KEY.out w5 HBI5.out 5 (by omega); have t5_6 : w5.cell? ⟨g, o + i * 12 + 6, none⟩ = some (.int .i64 x.key.r) := KEY.out w5 HBI5.out 6 (by omega); have t5_7 : w5.cell? ⟨g, o + i * 12 + 7, none⟩ = some (.int .i64 x.val.k) := KEY.out w5 HBI5.out 7 (by omega); have t5_8 : w5.cell? ⟨g, o + i * 12 + 8, none⟩ = some (.int .i64 x.val.p) := KEY.out w5 HBI5.out 8 (by omega); have t5_9 : w5.cell? ⟨g, o + i * 12 + 9, none⟩ = some (.int .i64 x.val.q) := KEY.out w5 HBI5.out 9 (by omega); have t5_10 : w5.cell? ⟨g, o + i * 12 + 10, none⟩ = some (.string x.val.s) := KEY.out w5 HBI5.out 10 (by omega); have t5_11 : w5.cell? ⟨g, o + i * 12 + 11, none⟩ = some (.int .i64 x.val.r) := KEY.out w5 HBI5.out 11 (by omega); have hgr5 : g < w5.heap.size := Nat.lt_of_lt_of_le HGL.out HBI5.out.size; clear hb5)
              clear s0 s1 s2 s3 s4 s5 s6 s7 s8 s9 s10 s11 hgr
              go_upto_region 14 with (go_at_call 13; (with_reducible refine (Q2.out _).mono ?_); rintro e w6 ⟨rfl, hb6⟩; have HG6 := Lib.hid (HG5.out.ch0 (Ch.of_below hb6)); have HBI6 := Lib.hid (HBI5.out.trans (hb6.mono HBI5.out.size)); have t6_0 : w6.cell? ⟨g, o + i * 12, none⟩ = some (.int .i64 x.kind) := KEY.out w6 HBI6.out 0 (by omega); have t6_1 : w6.cell? ⟨g, o + i * 12 + 1, none⟩ = some (.int .i64 x.pos) := KEY.out w6 HBI6.out 1 (by omega); have t6_2 : w6.cell? ⟨g, o + i * 12 + 2, none⟩ = some (.int .i64 x.key.k) := KEY.out w6 HBI6.out 2 (by omega); have t6_3 : w6.cell? ⟨g, o + i * 12 + 3, none⟩ = some (.int .i64 x.key.p) := KEY.out w6 HBI6.out 3 (by omega); have t6_4 : w6.cell? ⟨g, o + i * 12 + 4, none⟩ = some (.int .i64 x.key.q) := KEY.out w6 HBI6.out 4 (by omega); have t6_5 : w6.cell? ⟨g, o + i * 12 + 5, none⟩ = some (.string x.key.s) := KEY.out w6 HBI6.out 5 (by omega); have t6_6 : w6.cell? ⟨g, o + i * 12 + 6, none⟩ = some (.int .i64 x.key.r) := KEY.out w6 HBI6.out 6 (by omega); have t6_7 : w6.cell? ⟨g, o + i * 12 + 7, none⟩ = some (.int .i64 x.val.k) := KEY.out w6 HBI6.out 7 (by omega); have t6_8 : w6.cell? ⟨g, o + i * 12 + 8, none⟩ = some (.int .i64 x.val.p) := KEY.out w6 HBI6.out 8 (by omega); have t6_9 : w6.cell? ⟨g, o + i * 12 + 9, none⟩ = some (.int .i64 x.val.q) := KEY.out w6 HBI6.out 9 (by omega); have t6_10 : w6.cell? ⟨g, o + i * 12 + 10, none⟩ = some (.string x.val.s) := KEY.out w6 HBI6.out 10 (by omega); have t6_11 : w6.cell? ⟨g, o + i * 12 + 11, none⟩ = some (.int .i64 x.val.r) := KEY.out w6 HBI6.out 11 (by omega); have hgr6 : g < w6.heap.size := Nat.lt_of_lt_of_le HGL.out HBI6.out.size; clear hb6)
              clear t5_0 t5_1 t5_2 t5_3 t5_4 t5_5 t5_6 t5_7 t5_8 t5_9 t5_10 t5_11 hgr5
              go_upto_region 14 with fail
              go_quiet (fail)
              go_upto_region 16 with fail
              go_name_world V1 hV
              have HC1 : Hid (Ch [] w6 V1) := Lib.hid (by rw [← hV]; first | exact (Ch.refl [] w6).drewN _ | exact (Ch.refl [] w6).drew | exact Ch.refl [] w6)
              have HGV : Hid (Gw w1.heap.size t (i + 1) k w.heap.size n6 va4 b4 v4 m4 (setT s x.key x.val) (getT (setT s x.key x.val) k) V1) := Lib.hid (by have h1 := HG6.out.ch0 HC1.out; rw [HSG.out] at h1 ⊢; exact h1)
              have HBV := Lib.hid (HBI6.out.trans (HC1.out.below.mono HBI6.out.size))
              clear hV
              clear t6_0 t6_1 t6_2 t6_3 t6_4 t6_5 t6_6 t6_7 t6_8 t6_9 t6_10 t6_11 hgr6
              have QG : Hid (∀ W, Below V1.heap.size V1 W → Calls Try.prog 14 #[.pointer (some ⟨t, 0, none⟩), .agg #[.int .i64 k.k, .int .i64 k.p, .int .i64 k.q, .string k.s, .int .i64 k.r]] W fun e w' => e = .returned (.agg #[.int .i64 (getT (setT s x.key x.val) k).k, .int .i64 (getT (setT s x.key x.val) k).p, .int .i64 (getT (setT s x.key x.val) k).q, .string (getT (setT s x.key x.val) k).s, .int .i64 (getT (setT s x.key x.val) k).r]) ∧ Below W.heap.size W w') := Lib.hid fun W hb => tget_any w1.heap.size t va4 b4 v4 m4 (setT s x.key x.val) W (HGV.out.tb.below hb) k (by have := HGV.out.c1; have := HI2.out; omega) (by have := HGV.out.c2; have := HI2.out; omega)
              obtain ⟨z, hz⟩ : ∃ z, getT (setT s x.key x.val) k = z := ⟨_, rfl⟩
              have HZ := Lib.hid hz
              rw [hz] at QG HGV
              clear hz
              have EQ : ∀ W, (binOp .neq 26 (.agg #[.int .i64 z.k, .int .i64 z.p, .int .i64 z.q, .string z.s, .int .i64 z.r]) (.agg #[.int .i64 z.k, .int .i64 z.p, .int .i64 z.q, .string z.s, .int .i64 z.r])).run Try.prog W = .ok (.bool false) W := fun W => neq_v5 z W
              have a0 : V1.cell? ⟨w.heap.size, 0, none⟩ = some (.int .i64 k.k) := HGV.out.kb.cell 0
              have a1 : V1.cell? ⟨w.heap.size, 1, none⟩ = some (.int .i64 k.p) := HGV.out.kb.cell 1
              have a2 : V1.cell? ⟨w.heap.size, 2, none⟩ = some (.int .i64 k.q) := HGV.out.kb.cell 2
              have a3 : V1.cell? ⟨w.heap.size, 3, none⟩ = some (.string k.s) := HGV.out.kb.cell 3
              have a4 : V1.cell? ⟨w.heap.size, 4, none⟩ = some (.int .i64 k.r) := HGV.out.kb.cell 4
              have c0 : V1.cell? ⟨n6, 0, none⟩ = some (.int .i64 z.k) := HGV.out.wb.cell 0
              have c1 : V1.cell? ⟨n6, 1, none⟩ = some (.int .i64 z.p) := HGV.out.wb.cell 1
              have c2 : V1.cell? ⟨n6, 2, none⟩ = some (.int .i64 z.q) := HGV.out.wb.cell 2
              have c3 : V1.cell? ⟨n6, 3, none⟩ = some (.string z.s) := HGV.out.wb.cell 3
              have c4 : V1.cell? ⟨n6, 4, none⟩ = some (.int .i64 z.r) := HGV.out.wb.cell 4
              have la := HGV.out.kb.lt
              have lc := HGV.out.wb.lt
              have hW := Below.refl V1.heap.size V1
              have hcc : ∀ c o, c < V1.heap.size → V1.drew.cell? ⟨c, o, none⟩ = V1.cell? ⟨c, o, none⟩ := fun _ _ _ => rfl
              go_upto_region 16 with fail
              go_region_held3 (fun w' => (∀ c o, c < V1.heap.size → w'.cell? ⟨c, o, none⟩ = V1.cell? ⟨c, o, none⟩) ∧ Below V1.heap.size V1 w') (first | assumption | exact ⟨hcc, hW.drew⟩ | exact keepB (by assumption) hb1) (first | (go_at_call 14; have hE := (‹_ ∧ Below _ _ _›).2; (with_reducible refine (QG.out _ hE).mono ?_); clear hE; rintro e w9 ⟨rfl, hb1⟩))
              all_goals (
                have hS := ‹_ ∧ Below _ _ _›
                have HGN := Lib.hid (HGV.out.ch0 (Ch.of_below hS.2))
                have HBN := Lib.hid (HBV.out.trans (hS.2.mono HBV.out.size))
                clear hS hW hcc
                go_wp2
                go_roundw
                (case rel => exact ⟨i + 1, va4, b4, v4, m4, (setT s x.key x.val), by go_num, Lib.hid (by have := HLT.out; omega), (by rw [HZ.out]; exact HGN), HBN⟩)
                (case measure => have := HLT.out; simp [intOf]; omega))
            | true =>
              obtain rfl : ec = 0 := by rw [← HEC.out]; exact errR_ok hk hk1 hx1
              have ek : (x.key.k != 0) = true := bne_iff_ne.2 hk
              have Q1 : Hid (∀ W, Calls Try.prog 13 #[.agg #[.int .i64 x.key.k, .int .i64 x.key.p, .int .i64 x.key.q, .string x.key.s, .int .i64 x.key.r]] W fun e w' => e = .returned (.bool true) ∧ Below W.heap.size W w') := Lib.hid fun W => by rw [← (show okV x.key = true from hk1)]; exact rvalid5 x.key.k x.key.p x.key.q x.key.s x.key.r W
              have Q2 : Hid (∀ W, Calls Try.prog 13 #[.agg #[.int .i64 x.val.k, .int .i64 x.val.p, .int .i64 x.val.q, .string x.val.s, .int .i64 x.val.r]] W fun e w' => e = .returned (.bool true) ∧ Below W.heap.size W w') := Lib.hid fun W => by rw [← (show okV x.val = true from hx1)]; exact rvalid5 x.val.k x.val.p x.val.q x.val.s x.val.r W
              have HGT : Hid (getT (setT s x.key x.val) k = if errR x.key x.val = 0 ∧ k = x.key then x.val else getT s k) := Lib.hid (HGET.out)
              go_upto_region 12 with (go_at_call 13; (with_reducible refine (Q1.out _).mono ?_); rintro e w5 ⟨rfl, hb5⟩; have HG5 := Lib.hid (HG4.out.ch0 (Ch.of_below hb5)); have HBI5 := Lib.hid (HBI4.out.trans (hb5.mono HBI4.out.size)); have t5_0 : w5.cell? ⟨g, o + i * 12, none⟩ = some (.int .i64 x.kind) := KEY.out w5 HBI5.out 0 (by omega); have t5_1 : w5.cell? ⟨g, o + i * 12 + 1, none⟩ = some (.int .i64 x.pos) := KEY.out w5 HBI5.out 1 (by omega); have t5_2 : w5.cell? ⟨g, o + i * 12 + 2, none⟩ = some (.int .i64 x.key.k) := KEY.out w5 HBI5.out 2 (by omega); have t5_3 : w5.cell? ⟨g, o + i * 12 + 3, none⟩ = some (.int .i64 x.key.p) := KEY.out w5 HBI5.out 3 (by omega); have t5_4 : w5.cell? ⟨g, o + i * 12 + 4, none⟩ = some (.int .i64 x.key.q) := KEY.out w5 HBI5.out 4 (by omega); have t5_5 : w5.cell? ⟨g, o + i * 12 + 5, none⟩ = some (.string x.key.s) := KEY.out w5 HBI5.out 5 (by omega); have t5_6 : w5.cell? ⟨g, o + i * 12 + 6, none⟩ = some (.int .i64 x.key.r) := KEY.out w5 HBI5.out 6 (by omega); have t5_7 : w5.cell? ⟨g, o + i * 12 + 7, none⟩ = some (.int .i64 x.val.k) := KEY.out w5 HBI5.out 7 (by omega); have t5_8 : w5.cell? ⟨g, o + i * 12 + 8, none⟩ = some (.int .i64 x.val.p) := KEY.out w5 HBI5.out 8 (by omega); have t5_9 : w5.cell? ⟨g, o + i * 12 + 9, none⟩ = some (.int .i64 x.val.q) := KEY.out w5 HBI5.out 9 (by omega); have t5_10 : w5.cell? ⟨g, o + i * 12 + 10, none⟩ = some (.string x.val.s) := KEY.out w5 HBI5.out 10 (by omega); have t5_11 : w5.cell? ⟨g, o + i * 12 + 11, none⟩ = some (.int .i64 x.val.r) := KEY.out w5 HBI5.out 11 (by omega); have hgr5 : g < w5.heap.size := Nat.lt_of_lt_of_le HGL.out HBI5.out.size; clear hb5)
              clear s0 s1 s2 s3 s4 s5 s6 s7 s8 s9 s10 s11 hgr
              go_upto_region 14 with (go_at_call 13; (with_reducible refine (Q2.out _).mono ?_); rintro e w6 ⟨rfl, hb6⟩; have HG6 := Lib.hid (HG5.out.ch0 (Ch.of_below hb6)); have HBI6 := Lib.hid (HBI5.out.trans (hb6.mono HBI5.out.size)); have t6_0 : w6.cell? ⟨g, o + i * 12, none⟩ = some (.int .i64 x.kind) := KEY.out w6 HBI6.out 0 (by omega); have t6_1 : w6.cell? ⟨g, o + i * 12 + 1, none⟩ = some (.int .i64 x.pos) := KEY.out w6 HBI6.out 1 (by omega); have t6_2 : w6.cell? ⟨g, o + i * 12 + 2, none⟩ = some (.int .i64 x.key.k) := KEY.out w6 HBI6.out 2 (by omega); have t6_3 : w6.cell? ⟨g, o + i * 12 + 3, none⟩ = some (.int .i64 x.key.p) := KEY.out w6 HBI6.out 3 (by omega); have t6_4 : w6.cell? ⟨g, o + i * 12 + 4, none⟩ = some (.int .i64 x.key.q) := KEY.out w6 HBI6.out 4 (by omega); have t6_5 : w6.cell? ⟨g, o + i * 12 + 5, none⟩ = some (.string x.key.s) := KEY.out w6 HBI6.out 5 (by omega); have t6_6 : w6.cell? ⟨g, o + i * 12 + 6, none⟩ = some (.int .i64 x.key.r) := KEY.out w6 HBI6.out 6 (by omega); have t6_7 : w6.cell? ⟨g, o + i * 12 + 7, none⟩ = some (.int .i64 x.val.k) := KEY.out w6 HBI6.out 7 (by omega); have t6_8 : w6.cell? ⟨g, o + i * 12 + 8, none⟩ = some (.int .i64 x.val.p) := KEY.out w6 HBI6.out 8 (by omega); have t6_9 : w6.cell? ⟨g, o + i * 12 + 9, none⟩ = some (.int .i64 x.val.q) := KEY.out w6 HBI6.out 9 (by omega); have t6_10 : w6.cell? ⟨g, o + i * 12 + 10, none⟩ = some (.string x.val.s) := KEY.out w6 HBI6.out 10 (by omega); have t6_11 : w6.cell? ⟨g, o + i * 12 + 11, none⟩ = some (.int .i64 x.val.r) := KEY.out w6 HBI6.out 11 (by omega); have hgr6 : g < w6.heap.size := Nat.lt_of_lt_of_le HGL.out HBI6.out.size; clear hb6)
              clear t5_0 t5_1 t5_2 t5_3 t5_4 t5_5 t5_6 t5_7 t5_8 t5_9 t5_10 t5_11 hgr5
              by_cases hkk : x.key = k
              · have HWV : Hid (getT (setT s x.key x.val) k = x.val) := Lib.hid (by rw [HGT.out, if_pos ⟨HEC.out, hkk.symm⟩])
                have EQK : ∀ W, (binOp .eql 26 (.agg #[.int .i64 x.key.k, .int .i64 x.key.p, .int .i64 x.key.q, .string x.key.s, .int .i64 x.key.r]) (.agg #[.int .i64 k.k, .int .i64 k.p, .int .i64 k.q, .string k.s, .int .i64 k.r])).run Try.prog W = .ok (.bool true) W := fun W => by have h1 := eq_v5 x.key k W; rw [decide_eq_true hkk] at h1; exact h1
                have a0 : w6.cell? ⟨w.heap.size, 0, none⟩ = some (.int .i64 k.k) := HG6.out.kb.cell 0
                have a1 : w6.cell? ⟨w.heap.size, 1, none⟩ = some (.int .i64 k.p) := HG6.out.kb.cell 1
                have a2 : w6.cell? ⟨w.heap.size, 2, none⟩ = some (.int .i64 k.q) := HG6.out.kb.cell 2
                have a3 : w6.cell? ⟨w.heap.size, 3, none⟩ = some (.string k.s) := HG6.out.kb.cell 3
                have a4 : w6.cell? ⟨w.heap.size, 4, none⟩ = some (.int .i64 k.r) := HG6.out.kb.cell 4
                have la := HG6.out.kb.lt
                go_upto_region 14 with fail
                go_region
                all_goals (
                  go_upto_region 15 with fail
                  have HG7 := Lib.hid (HG6.out.ch0 ((Ch.refl [] w6).drew))
                  have HBI7 := Lib.hid (HBI6.out.trans ((Below.refl w6.heap.size w6).drew.mono HBI6.out.size))
                  clear a0 a1 a2 a3 a4 la EQK HG6 HBI6
                  clear t6_0 t6_1 t6_2 t6_3 t6_4 t6_5 t6_6 t6_7 t6_8 t6_9 t6_10 t6_11 hgr6
                  generalize w6.drew = V1 at *
                  obtain ⟨z0, hz0⟩ : ∃ z0, getT s k = z0 := ⟨_, rfl⟩
                  rw [hz0] at HG7
                  clear hz0
                  have s0 : V1.cell? ⟨g, o + i * 12, none⟩ = some (.int .i64 x.kind) := KEY.out V1 HBI7.out 0 (by omega)
                  have s1 : V1.cell? ⟨g, o + i * 12 + 1, none⟩ = some (.int .i64 x.pos) := KEY.out V1 HBI7.out 1 (by omega)
                  have s2 : V1.cell? ⟨g, o + i * 12 + 2, none⟩ = some (.int .i64 x.key.k) := KEY.out V1 HBI7.out 2 (by omega)
                  have s3 : V1.cell? ⟨g, o + i * 12 + 3, none⟩ = some (.int .i64 x.key.p) := KEY.out V1 HBI7.out 3 (by omega)
                  have s4 : V1.cell? ⟨g, o + i * 12 + 4, none⟩ = some (.int .i64 x.key.q) := KEY.out V1 HBI7.out 4 (by omega)
                  have s5 : V1.cell? ⟨g, o + i * 12 + 5, none⟩ = some (.string x.key.s) := KEY.out V1 HBI7.out 5 (by omega)
                  have s6 : V1.cell? ⟨g, o + i * 12 + 6, none⟩ = some (.int .i64 x.key.r) := KEY.out V1 HBI7.out 6 (by omega)
                  have s7 : V1.cell? ⟨g, o + i * 12 + 7, none⟩ = some (.int .i64 x.val.k) := KEY.out V1 HBI7.out 7 (by omega)
                  have s8 : V1.cell? ⟨g, o + i * 12 + 8, none⟩ = some (.int .i64 x.val.p) := KEY.out V1 HBI7.out 8 (by omega)
                  have s9 : V1.cell? ⟨g, o + i * 12 + 9, none⟩ = some (.int .i64 x.val.q) := KEY.out V1 HBI7.out 9 (by omega)
                  have s10 : V1.cell? ⟨g, o + i * 12 + 10, none⟩ = some (.string x.val.s) := KEY.out V1 HBI7.out 10 (by omega)
                  have s11 : V1.cell? ⟨g, o + i * 12 + 11, none⟩ = some (.int .i64 x.val.r) := KEY.out V1 HBI7.out 11 (by omega)
                  have hgrV : g < V1.heap.size := Nat.lt_of_lt_of_le HGL.out HBI7.out.size
                  have e0 : V1.cell? ⟨n6, 0, none⟩ = some (.int .i64 z0.k) := HG7.out.wb.cell 0
                  have e1 : V1.cell? ⟨n6, 1, none⟩ = some (.int .i64 z0.p) := HG7.out.wb.cell 1
                  have e2 : V1.cell? ⟨n6, 2, none⟩ = some (.int .i64 z0.q) := HG7.out.wb.cell 2
                  have e3 : V1.cell? ⟨n6, 3, none⟩ = some (.string z0.s) := HG7.out.wb.cell 3
                  have e4 : V1.cell? ⟨n6, 4, none⟩ = some (.int .i64 z0.r) := HG7.out.wb.cell 4
                  have ef0 := HG7.out.wb.fz 0
                  have ef1 := HG7.out.wb.fz 1
                  have ef2 := HG7.out.wb.fz 2
                  have ef3 := HG7.out.wb.fz 3
                  have ef4 := HG7.out.wb.fz 4
                  have le := HG7.out.wb.lt
                  have HG8 : Hid (Gw w1.heap.size t (i + 1) k w.heap.size n6 va4 b4 v4 m4 (setT s x.key x.val) (getT (setT s x.key x.val) k) (st5 V1 n6 (.int .i64 x.val.k) (.int .i64 x.val.p) (.int .i64 x.val.q) (.string x.val.s) (.int .i64 x.val.r))) := Lib.hid (by rw [HWV.out]; exact (HG7.out.want x.val).1)
                  have HB8 : Hid (Below w1.heap.size w1 (st5 V1 n6 (.int .i64 x.val.k) (.int .i64 x.val.p) (.int .i64 x.val.q) (.string x.val.s) (.int .i64 x.val.r))) := Lib.hid (HBI7.out.trans (HG7.out.want x.val).2)
                  go_upto_region 16 with fail
                  show _
                  unfold st5 at HG8 HB8
                  clear s0 s1 s2 s3 s4 s5 s6 s7 s8 s9 s10 s11 hgrV e0 e1 e2 e3 e4 ef0 ef1 ef2 ef3 ef4 le
                  generalize (((((V1.setCell ⟨n6, 0, none⟩ (.int .i64 x.val.k)).setCell ⟨n6, 1, none⟩ (.int .i64 x.val.p)).setCell ⟨n6, 2, none⟩ (.int .i64 x.val.q)).setCell ⟨n6, 3, none⟩ (.string x.val.s)).setCell ⟨n6, 4, none⟩ (.int .i64 x.val.r)) = V2 at *
                  have QG : Hid (∀ W, Below V2.heap.size V2 W → Calls Try.prog 14 #[.pointer (some ⟨t, 0, none⟩), .agg #[.int .i64 k.k, .int .i64 k.p, .int .i64 k.q, .string k.s, .int .i64 k.r]] W fun e w' => e = .returned (.agg #[.int .i64 (getT (setT s x.key x.val) k).k, .int .i64 (getT (setT s x.key x.val) k).p, .int .i64 (getT (setT s x.key x.val) k).q, .string (getT (setT s x.key x.val) k).s, .int .i64 (getT (setT s x.key x.val) k).r]) ∧ Below W.heap.size W w') := Lib.hid fun W hb => tget_any w1.heap.size t va4 b4 v4 m4 (setT s x.key x.val) W (HG8.out.tb.below hb) k (by have := HG8.out.c1; have := HI2.out; omega) (by have := HG8.out.c2; have := HI2.out; omega)
                  obtain ⟨z, hz⟩ : ∃ z, getT (setT s x.key x.val) k = z := ⟨_, rfl⟩
                  have HZ := Lib.hid hz
                  rw [hz] at QG HG8
                  clear hz
                  have EQ : ∀ W, (binOp .neq 26 (.agg #[.int .i64 z.k, .int .i64 z.p, .int .i64 z.q, .string z.s, .int .i64 z.r]) (.agg #[.int .i64 z.k, .int .i64 z.p, .int .i64 z.q, .string z.s, .int .i64 z.r])).run Try.prog W = .ok (.bool false) W := fun W => neq_v5 z W
                  have a0 : V2.cell? ⟨w.heap.size, 0, none⟩ = some (.int .i64 k.k) := HG8.out.kb.cell 0
                  have a1 : V2.cell? ⟨w.heap.size, 1, none⟩ = some (.int .i64 k.p) := HG8.out.kb.cell 1
                  have a2 : V2.cell? ⟨w.heap.size, 2, none⟩ = some (.int .i64 k.q) := HG8.out.kb.cell 2
                  have a3 : V2.cell? ⟨w.heap.size, 3, none⟩ = some (.string k.s) := HG8.out.kb.cell 3
                  have a4 : V2.cell? ⟨w.heap.size, 4, none⟩ = some (.int .i64 k.r) := HG8.out.kb.cell 4
                  have c0 : V2.cell? ⟨n6, 0, none⟩ = some (.int .i64 z.k) := HG8.out.wb.cell 0
                  have c1 : V2.cell? ⟨n6, 1, none⟩ = some (.int .i64 z.p) := HG8.out.wb.cell 1
                  have c2 : V2.cell? ⟨n6, 2, none⟩ = some (.int .i64 z.q) := HG8.out.wb.cell 2
                  have c3 : V2.cell? ⟨n6, 3, none⟩ = some (.string z.s) := HG8.out.wb.cell 3
                  have c4 : V2.cell? ⟨n6, 4, none⟩ = some (.int .i64 z.r) := HG8.out.wb.cell 4
                  have la := HG8.out.kb.lt
                  have lc := HG8.out.wb.lt
                  have hW := Below.refl V2.heap.size V2
                  have hcc : ∀ c o, c < V2.heap.size → V2.drew.cell? ⟨c, o, none⟩ = V2.cell? ⟨c, o, none⟩ := fun _ _ _ => rfl
                  go_upto_region 16 with fail
                  go_region_held3 (fun w' => (∀ c o, c < V2.heap.size → w'.cell? ⟨c, o, none⟩ = V2.cell? ⟨c, o, none⟩) ∧ Below V2.heap.size V2 w') (first | assumption | exact ⟨hcc, hW.drew⟩ | exact keepB (by assumption) hb1) (first | (go_at_call 14; have hE := (‹_ ∧ Below _ _ _›).2; (with_reducible refine (QG.out _ hE).mono ?_); clear hE; rintro e w9 ⟨rfl, hb1⟩))
                  all_goals (
                    have hS := ‹_ ∧ Below _ _ _›
                    have HGN := Lib.hid (HG8.out.ch0 (Ch.of_below hS.2))
                    have HBN := Lib.hid (HB8.out.trans (hS.2.mono HB8.out.size))
                    clear hS hW hcc
                    go_wp2
                    go_roundw
                    (case rel => exact ⟨i + 1, va4, b4, v4, m4, (setT s x.key x.val), by go_num, Lib.hid (by have := HLT.out; omega), (by rw [HZ.out]; exact HGN), HBN⟩)
                    (case measure => have := HLT.out; simp [intOf]; omega)))
              · have HWV : Hid (getT (setT s x.key x.val) k = getT s k) := Lib.hid (by rw [HGT.out, if_neg (fun q => hkk q.2.symm)])
                have EQK : ∀ W, (binOp .eql 26 (.agg #[.int .i64 x.key.k, .int .i64 x.key.p, .int .i64 x.key.q, .string x.key.s, .int .i64 x.key.r]) (.agg #[.int .i64 k.k, .int .i64 k.p, .int .i64 k.q, .string k.s, .int .i64 k.r])).run Try.prog W = .ok (.bool false) W := fun W => by have h1 := eq_v5 x.key k W; rw [decide_eq_false hkk] at h1; exact h1
                have a0 : w6.cell? ⟨w.heap.size, 0, none⟩ = some (.int .i64 k.k) := HG6.out.kb.cell 0
                have a1 : w6.cell? ⟨w.heap.size, 1, none⟩ = some (.int .i64 k.p) := HG6.out.kb.cell 1
                have a2 : w6.cell? ⟨w.heap.size, 2, none⟩ = some (.int .i64 k.q) := HG6.out.kb.cell 2
                have a3 : w6.cell? ⟨w.heap.size, 3, none⟩ = some (.string k.s) := HG6.out.kb.cell 3
                have a4 : w6.cell? ⟨w.heap.size, 4, none⟩ = some (.int .i64 k.r) := HG6.out.kb.cell 4
                have la := HG6.out.kb.lt
                go_upto_region 14 with fail
                go_region
                all_goals (
                  go_upto_region 16 with fail
                  have HG7 := Lib.hid (HG6.out.ch0 ((Ch.refl [] w6).drew))
                  have HBI7 := Lib.hid (HBI6.out.trans ((Below.refl w6.heap.size w6).drew.mono HBI6.out.size))
                  clear a0 a1 a2 a3 a4 la EQK HG6 HBI6
                  clear t6_0 t6_1 t6_2 t6_3 t6_4 t6_5 t6_6 t6_7 t6_8 t6_9 t6_10 t6_11 hgr6
                  generalize w6.drew = V1 at *
                  have HG8 : Hid (Gw w1.heap.size t (i + 1) k w.heap.size n6 va4 b4 v4 m4 (setT s x.key x.val) (getT (setT s x.key x.val) k) V1) := Lib.hid (by rw [HWV.out]; exact HG7.out)
                  have QG : Hid (∀ W, Below V1.heap.size V1 W → Calls Try.prog 14 #[.pointer (some ⟨t, 0, none⟩), .agg #[.int .i64 k.k, .int .i64 k.p, .int .i64 k.q, .string k.s, .int .i64 k.r]] W fun e w' => e = .returned (.agg #[.int .i64 (getT (setT s x.key x.val) k).k, .int .i64 (getT (setT s x.key x.val) k).p, .int .i64 (getT (setT s x.key x.val) k).q, .string (getT (setT s x.key x.val) k).s, .int .i64 (getT (setT s x.key x.val) k).r]) ∧ Below W.heap.size W w') := Lib.hid fun W hb => tget_any w1.heap.size t va4 b4 v4 m4 (setT s x.key x.val) W (HG8.out.tb.below hb) k (by have := HG8.out.c1; have := HI2.out; omega) (by have := HG8.out.c2; have := HI2.out; omega)
                  obtain ⟨z, hz⟩ : ∃ z, getT (setT s x.key x.val) k = z := ⟨_, rfl⟩
                  have HZ := Lib.hid hz
                  rw [hz] at QG HG8
                  clear hz
                  have EQ : ∀ W, (binOp .neq 26 (.agg #[.int .i64 z.k, .int .i64 z.p, .int .i64 z.q, .string z.s, .int .i64 z.r]) (.agg #[.int .i64 z.k, .int .i64 z.p, .int .i64 z.q, .string z.s, .int .i64 z.r])).run Try.prog W = .ok (.bool false) W := fun W => neq_v5 z W
                  have a0 : V1.cell? ⟨w.heap.size, 0, none⟩ = some (.int .i64 k.k) := HG8.out.kb.cell 0
                  have a1 : V1.cell? ⟨w.heap.size, 1, none⟩ = some (.int .i64 k.p) := HG8.out.kb.cell 1
                  have a2 : V1.cell? ⟨w.heap.size, 2, none⟩ = some (.int .i64 k.q) := HG8.out.kb.cell 2
                  have a3 : V1.cell? ⟨w.heap.size, 3, none⟩ = some (.string k.s) := HG8.out.kb.cell 3
                  have a4 : V1.cell? ⟨w.heap.size, 4, none⟩ = some (.int .i64 k.r) := HG8.out.kb.cell 4
                  have c0 : V1.cell? ⟨n6, 0, none⟩ = some (.int .i64 z.k) := HG8.out.wb.cell 0
                  have c1 : V1.cell? ⟨n6, 1, none⟩ = some (.int .i64 z.p) := HG8.out.wb.cell 1
                  have c2 : V1.cell? ⟨n6, 2, none⟩ = some (.int .i64 z.q) := HG8.out.wb.cell 2
                  have c3 : V1.cell? ⟨n6, 3, none⟩ = some (.string z.s) := HG8.out.wb.cell 3
                  have c4 : V1.cell? ⟨n6, 4, none⟩ = some (.int .i64 z.r) := HG8.out.wb.cell 4
                  have la := HG8.out.kb.lt
                  have lc := HG8.out.wb.lt
                  have hW := Below.refl V1.heap.size V1
                  have hcc : ∀ c o, c < V1.heap.size → V1.drew.cell? ⟨c, o, none⟩ = V1.cell? ⟨c, o, none⟩ := fun _ _ _ => rfl
                  go_upto_region 16 with fail
                  go_region_held3 (fun w' => (∀ c o, c < V1.heap.size → w'.cell? ⟨c, o, none⟩ = V1.cell? ⟨c, o, none⟩) ∧ Below V1.heap.size V1 w') (first | assumption | exact ⟨hcc, hW.drew⟩ | exact keepB (by assumption) hb1) (first | (go_at_call 14; have hE := (‹_ ∧ Below _ _ _›).2; (with_reducible refine (QG.out _ hE).mono ?_); clear hE; rintro e w9 ⟨rfl, hb1⟩))
                  all_goals (
                    have hS := ‹_ ∧ Below _ _ _›
                    have HGN := Lib.hid (HG8.out.ch0 (Ch.of_below hS.2))
                    have HBN := Lib.hid (HBI7.out.trans (hS.2.mono HBI7.out.size))
                    clear hS hW hcc
                    go_wp2
                    go_roundw
                    (case rel => exact ⟨i + 1, va4, b4, v4, m4, (setT s x.key x.val), by go_num, Lib.hid (by have := HLT.out; omega), (by rw [HZ.out]; exact HGN), HBN⟩)
                    (case measure => have := HLT.out; simp [intOf]; omega)))
      · have hlt2 : ¬ (i : Int) < (l.length : Int) := by omega
        have QA := Lib.hid (HAW.out wr)
        go_wp2_with (go_at_call 10; (with_reducible refine (QA.out).mono ?_); rintro e w9 ⟨rfl, hb9⟩)
        go_ret
        exact ⟨rfl, HD1.out.below.trans ((HBI.out.trans (hb9.mono HBI.out.size)).mono HD1.out.size)⟩
  · have hl2 : (200 : Int) < (l.length : Int) := by omega
    have e1 : decide ((200 : Int) < (l.length : Int)) = true := decide_eq_true hl2
    have QL := Lib.hid (large13 p l.length cap w1)
    rw [e1] at QL
    have QA := Lib.hid (HAW.out w1)
    go_wp2_with (first | (go_at_call 9; (with_reducible refine (QL.out).mono ?_); rintro e wx ⟨rfl, rfl⟩) | (go_at_call 10; (with_reducible refine (QA.out).mono ?_); rintro e w9 ⟨rfl, hb9⟩))
    go_ret
    exact ⟨rfl, HD1.out.below.trans (hb9.mono HD1.out.size)⟩
end Go.Proofs.Ytaaelhhiceildaa.tableGetsLaw
