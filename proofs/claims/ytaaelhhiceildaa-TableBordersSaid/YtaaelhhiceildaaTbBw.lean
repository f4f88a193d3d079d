/- TableBorders: the length is a border. -/
import Derived.Test.YtaaelhhiceildaaTbOp
import Derived.Test.YtaaelhhiceildaaTbW
import Derived.Deep.DeepCutAuto
import Derived.Deep.CutBlock
import Derived.BigQuiet
import Derived.RegionTactic
namespace Go.Proofs.Ytaaelhhiceildaa.tableBordersLaw
open Go.ChangeShapes Go.WideShapes Go.ChangeAt Go.RowKit Go.Joins Go.Deep M1
set_option linter.unusedVariables false
def Nn (s : TS) : Prop := ∀ x ∈ s.arr, x.k ≠ 0
theorem extF_nn : ∀ (f : Nat) (s : TS) (x : V5), Nn s → Nn (extF f s x)
  | 0, s, x, h => h
  | f + 1, s, x, h => by
    unfold extF
    split
    · exact h
    · rename_i hx
      exact extF_nn f _ _ (fun y hy => by
        rcases List.mem_append.1 (show y ∈ s.arr ++ [x] from by rw [← extA_arr]; exact hy) with q | q
        · exact h y q
        · rw [List.mem_singleton] at q; rw [q]; exact hx)
theorem setT_nn (s : TS) (k v : V5) (h : Nn s) (hv : v.k ≠ 0) : Nn (setT s k v) := by
  unfold setT
  split
  · exact h
  · split
    · unfold putS
      rw [if_pos hv]
      intro y hy
      rcases List.mem_or_eq_of_mem_set hy with q | q
      · exact h y q
      · rw [q]; exact hv
    · split
      · have he : Nn (extE s v) := extF_nn _ s v h
        unfold extS
        split
        · exact he
        · exact he
      · unfold restS
        split
        · exact h
        · exact h
theorem fd_val (k p q : Int) (s : ByteArray) (r : Int) (W : World) : (Instr.field 26 (.agg #[.int .i64 k, .int .i64 p, .int .i64 q, .string s, .int .i64 r]) 0).run Try.prog W = .ok (.int .i64 k) W := by kernel_rfl
/-- What holds in the loop. -/
structure Lw (B t : Nat) (i : Nat) (rm : Bool) (va : Value) (b : Nat) (v m : Value) (s : TS) (wr : World) : Prop where
  tb : Tb B t va b v m s wr
  ti : Ti s
  c1 : s.arr.length + lenR s.R ≤ i
  c2 : s.R.length ≤ i
  nn : rm = false → Nn s
theorem Lw.ch0 {B t i : Nat} {rm : Bool} {va : Value} {b : Nat} {v m : Value} {s : TS} {w w' : World} (h : Lw B t i rm va b v m s w) (hc : Ch [] w w') : Lw B t i rm va b v m s w' :=
  ⟨h.tb.ch0 hc, h.ti, h.c1, h.c2, h.nn⟩
theorem Lw.set {B t i : Nat} {rm : Bool} {va : Value} {b : Nat} {v m : Value} {s : TS} {w w' : World} (h : Lw B t i rm va b v m s w) (K X : V5) (hi : i ≤ 200) (hB : B ≤ w.heap.size) (hs : TbSaid B t va b v m (setT s K X) w w') : (∃ va' b' v' m', Lw B t (i + 1) (rm || (X.k == 0)) va' b' v' m' (setT s K X) w') ∧ Below B w w' := by
  obtain ⟨⟨va', b', v', m', h1, h2⟩, hc⟩ := hs
  have hl := lenR_le s.R
  have c1 := h.c1
  have c2 := h.c2
  obtain ⟨a1, a2, a3, a4⟩ := ti_setT h.ti K X (by omega)
  refine ⟨⟨va', b', v', m', h1, a1, by omega, by omega, fun hr => ?_⟩, hc.belowB (fun g hg => (h.tb.lt g hg).1) hB⟩
  rw [Bool.or_eq_false_iff] at hr
  exact setT_nn s K X (h.nn hr.1) (by simpa using hr.2)
theorem key_eq {n : Nat} (h : n ≤ 3000000) : (⟨2, (n : Int), 1, ⟨#[]⟩, 0⟩ : V5) = keyV (n : Int) := (keyS h).symm
set_option maxHeartbeats 16000000 in
set_option maxRecDepth 100000 in
theorem walk (p : Option Addr) (cap : Nat) (l : List OpA) (w : World) (hlm : l.length ≤ maxLen) (hp : 0 < l.length → ∃ g o, p = some ⟨g, o, none⟩ ∧ g < w.heap.size ∧ ∀ (j m : Nat) (hj : j < l.length), m < 12 → w.cell? ⟨g, o + j * 12 + m, none⟩ = (opC l[j])[m]?) :
    Calls Try.prog 5 #[.slice p l.length cap] w fun e w' => e = .returned (.bool true) ∧ Below w.heap.size w w' := by
  have HP := Lib.hid hp
  have FD := fd_val
  obtain ⟨i0, hi0, jz0, jz1, jz2⟩ := info_parts info_op13
  have HAW := Lib.hid awake_any
  clear hp
  go_enter Try.func5, Try.ntmps5
  by_cases hl : l.length ≤ 200
  · have hl2 : ¬ ((200 : Int) < (l.length : Int)) := by omega
    have e1 : decide ((200 : Int) < (l.length : Int)) = false := decide_eq_false hl2
    have QL := Lib.hid (large13 p l.length cap w)
    rw [e1] at QL
    have QN := Lib.hid (tnew_any w.heap.size w (Nat.le_refl _))
    have HL := Lib.hid hl
    clear hl e1
    go_upto_region 7 with (first | (go_at_call 9; (with_reducible refine (QL.out).mono ?_); rintro e wx ⟨rfl, rfl⟩) | (go_at_call 11; (with_reducible refine (QN.out).mono ?_); rintro e w2 ⟨t, b0, rfl, ht, _, hb⟩; have HT2 := Lib.hid ht; have HB2 := Lib.hid hb; clear ht hb))
    rename World => w2
    have HG3 : Hid (Lw w.heap.size t 0 false _ b0 _ _ ⟨[], 0, [], false⟩ w2) := Lib.hid ⟨HT2.out, Ti.new false, Nat.le_refl _, Nat.le_refl _, fun _ x hx => by cases hx⟩
    clear HT2 QN QL
    go_wp2
    go_loopw [4, 5] (fun v4 v5 wr => ∃ (i : Nat) (rm : Bool) (va : Value) (b : Nat) (v m : Value) (s : TS), v4 = .bool rm ∧ v5 = .int .i64 (i : Int) ∧ Hid (i ≤ l.length) ∧ Hid (Lw w.heap.size t i rm va b v m s wr) ∧ Hid (Below w.heap.size w wr)) (fun _ v5 _ => l.length - (intOf v5).toNat)
    case atStart => exact ⟨0, false, _, b0, _, _, _, rfl, rfl, Lib.hid (Nat.zero_le _), HG3, HB2⟩
    case round =>
      obtain ⟨i, rm, va, b, v, m, s, rfl, rfl, HI, HG, HBI⟩ := hrel
      rename World => wr
      clear HG3 HB2
      by_cases hlt : i < l.length
      · have hlt2 : (i : Int) < (l.length : Int) := by omega
        have hi0 : (0 : Int) ≤ (i : Int) := by omega
        have di : IntKind.i64.wrap ((i : Int) + 1) = (i : Int) + 1 := IntWalk.i64_in _ (by have := HL.out; omega)
        obtain ⟨g, o, rfl, hgl, key⟩ := HP.out (by omega)
        have HGL := Lib.hid hgl
        obtain ⟨x, hx⟩ : ∃ x : OpA, l[i] = x := ⟨_, rfl⟩
        have KEY : Hid (∀ W, Below w.heap.size w W → ∀ j, j < 12 → W.cell? ⟨g, o + i * 12 + j, none⟩ = (opC x)[j]?) := Lib.hid fun W hb j hj => by rw [← hx]; exact (hb.cell (p := ⟨g, _, none⟩) hgl).trans (key i j hlt hj)
        have hgr : g < wr.heap.size := Nat.lt_of_lt_of_le hgl HBI.out.size
        have HI2 : Hid (i ≤ 200) := Lib.hid (by have := HL.out; omega)
        have HLT := Lib.hid hlt
        clear key hgl hx hlt
        have s0 : wr.cell? ⟨g, o + i * 12, none⟩ = some (.int .i64 x.kind) := KEY.out wr HBI.out 0 (by omega)
        have s1 : wr.cell? ⟨g, o + i * 12 + 1, none⟩ = some (.int .i64 x.pos) := KEY.out wr HBI.out 1 (by omega)
        have s2 : wr.cell? ⟨g, o + i * 12 + 2, none⟩ = some (.int .i64 x.key.k) := KEY.out wr HBI.out 2 (by omega)
        have s3 : wr.cell? ⟨g, o + i * 12 + 3, none⟩ = some (.int .i64 x.key.p) := KEY.out wr HBI.out 3 (by omega)
        have s4 : wr.cell? ⟨g, o + i * 12 + 4, none⟩ = some (.int .i64 x.key.q) := KEY.out wr HBI.out 4 (by omega)
        have s5 : wr.cell? ⟨g, o + i * 12 + 5, none⟩ = some (.string x.key.s) := KEY.out wr HBI.out 5 (by omega)
        have s6 : wr.cell? ⟨g, o + i * 12 + 6, none⟩ = some (.int .i64 x.key.r) := KEY.out wr HBI.out 6 (by omega)
        have s7 : wr.cell? ⟨g, o + i * 12 + 7, none⟩ = some (.int .i64 x.val.k) := KEY.out wr HBI.out 7 (by omega)
        have s8 : wr.cell? ⟨g, o + i * 12 + 8, none⟩ = some (.int .i64 x.val.p) := KEY.out wr HBI.out 8 (by omega)
        have s9 : wr.cell? ⟨g, o + i * 12 + 9, none⟩ = some (.int .i64 x.val.q) := KEY.out wr HBI.out 9 (by omega)
        have s10 : wr.cell? ⟨g, o + i * 12 + 10, none⟩ = some (.string x.val.s) := KEY.out wr HBI.out 10 (by omega)
        have s11 : wr.cell? ⟨g, o + i * 12 + 11, none⟩ = some (.int .i64 x.val.r) := KEY.out wr HBI.out 11 (by omega)
        have QS : Hid (∀ W, Ch [] wr W → Calls Try.prog 12 #[.pointer (some ⟨t, 0, none⟩), .agg #[.int .i64 x.key.k, .int .i64 x.key.p, .int .i64 x.key.q, .string x.key.s, .int .i64 x.key.r], .agg #[.int .i64 x.val.k, .int .i64 x.val.p, .int .i64 x.val.q, .string x.val.s, .int .i64 x.val.r]] W fun e w' => e = .returned (.int .i64 (errR x.key x.val)) ∧ TbSaid w.heap.size t va b v m (setT s x.key x.val) wr w') := Lib.hid fun W hc => (tset_any w.heap.size t va b v m s W (HG.out.tb.ch0 hc) x.key x.val (by have := HG.out.c1; have := HG.out.c2; have := lenR_le s.R; have := HI2.out; omega) (Nat.le_trans HBI.out.size hc.size) HG.out.ti.ok.1).mono fun e w' hh => ⟨hh.1, tb_chain (fun g hg => .inl hg) (hc.mono (fun g hg => absurd hg (not_nil g))) hh.2⟩
        obtain ⟨ec, hec⟩ : ∃ ec, errR x.key x.val = ec := ⟨_, rfl⟩
        rw [hec] at QS
        clear hec
        go_upto_region 10 with fail
        go_cut [31] from 14 to 106 (fun v31 wx => Hid ((∃ va' b' v' m', Lw w.heap.size t (i + 1) (rm || (x.val.k == 0)) va' b' v' m' (setT s x.key x.val) wx) ∧ Below w.heap.size wr wx))
        case first =>
          go_region_law (go_simp; go_at_call 12; (with_reducible refine (QS.out _ ?hc).mono ?_); (case hc => first | exact Ch.refl _ _ | exact (Ch.refl _ _).drew | exact (Ch.refl _ _).drewN _); rintro e w4 ⟨rfl, hs4⟩; have HS4 := Lib.hid (HG.out.set x.key x.val HI2.out HBI.out.size hs4); clear hs4)
          all_goals (
            go_wp2_with fail
            go_meet
            exact HS4)
        rename World => w4
        have HS := hcut
        clear hcut
        obtain ⟨⟨va4, b4, v4, m4, hg4⟩, hb4⟩ := HS.out
        have HL4 := Lib.hid hg4
        have HB := Lib.hid (HBI.out.trans (hb4.mono (Nat.le_refl _)))
        clear HS hg4 hb4 s0 s1 s2 s3 s4 s5 s6 s7 s8 s9 s10 s11 hgr QS HG HBI
        obtain ⟨S, hS⟩ : ∃ S, (setT s x.key x.val) = S := ⟨_, rfl⟩
        rw [hS] at HL4
        clear hS
        obtain ⟨rm2, hrm⟩ : ∃ rm2, (rm || (x.val.k == 0)) = rm2 := ⟨_, rfl⟩
        rw [hrm] at HL4
        have s0 : w4.cell? ⟨g, o + i * 12, none⟩ = some (.int .i64 x.kind) := KEY.out w4 HB.out 0 (by omega)
        have s1 : w4.cell? ⟨g, o + i * 12 + 1, none⟩ = some (.int .i64 x.pos) := KEY.out w4 HB.out 1 (by omega)
        have s2 : w4.cell? ⟨g, o + i * 12 + 2, none⟩ = some (.int .i64 x.key.k) := KEY.out w4 HB.out 2 (by omega)
        have s3 : w4.cell? ⟨g, o + i * 12 + 3, none⟩ = some (.int .i64 x.key.p) := KEY.out w4 HB.out 3 (by omega)
        have s4 : w4.cell? ⟨g, o + i * 12 + 4, none⟩ = some (.int .i64 x.key.q) := KEY.out w4 HB.out 4 (by omega)
        have s5 : w4.cell? ⟨g, o + i * 12 + 5, none⟩ = some (.string x.key.s) := KEY.out w4 HB.out 5 (by omega)
        have s6 : w4.cell? ⟨g, o + i * 12 + 6, none⟩ = some (.int .i64 x.key.r) := KEY.out w4 HB.out 6 (by omega)
        have s7 : w4.cell? ⟨g, o + i * 12 + 7, none⟩ = some (.int .i64 x.val.k) := KEY.out w4 HB.out 7 (by omega)
        have s8 : w4.cell? ⟨g, o + i * 12 + 8, none⟩ = some (.int .i64 x.val.p) := KEY.out w4 HB.out 8 (by omega)
        have s9 : w4.cell? ⟨g, o + i * 12 + 9, none⟩ = some (.int .i64 x.val.q) := KEY.out w4 HB.out 9 (by omega)
        have s10 : w4.cell? ⟨g, o + i * 12 + 10, none⟩ = some (.string x.val.s) := KEY.out w4 HB.out 10 (by omega)
        have s11 : w4.cell? ⟨g, o + i * 12 + 11, none⟩ = some (.int .i64 x.val.r) := KEY.out w4 HB.out 11 (by omega)
        have hgr : g < w4.heap.size := Nat.lt_of_lt_of_le HGL.out HB.out.size
        go_upto_region 11 with fail
        go_cut [4] from 14 to 106 (fun v4 wx => v4 = .bool rm2 ∧ wx = w4)
        case first =>
          cases rm with
          | true =>
            obtain rfl : rm2 = true := by rw [← hrm]; rfl
            go_wp2_with fail
            go_meet
            exact ⟨rfl, rfl⟩
          | false =>
            have hr2 : (x.val.k == 0) = rm2 := by rw [← hrm]; rfl
            clear hrm
            go_wp2_with fail
            go_meet
            exact ⟨rfl, rfl⟩
        obtain ⟨rfl, hw4⟩ := hcut
        subst hw4
        rename World => w5
        clear s0 s1 s2 s3 s4 s5 s6 s7 s8 s9 s10 s11 hgr hrm
        obtain ⟨n, hn⟩ : ∃ n, S.arr.length = n := ⟨_, rfl⟩
        have HN := Lib.hid hn
        have HNI : Hid (n ≤ i + 1) := Lib.hid (by have := HL4.out.c1; omega)
        have hbig : n + 2 ≤ 3000000 := by have := HNI.out; have := HI2.out; omega
        have dn : IntKind.i64.wrap ((n : Int) + 1) = (n : Int) + 1 := IntWalk.i64_in _ (by omega)
        have h1 : ¬ (n : Int) < 0 := by omega
        have h2 : ¬ (l.length : Int) < (n : Int) := by have := HNI.out; have := HLT.out; omega
        have HBG := Lib.hid hbig
        have QLn : Hid (∀ W, Lw w.heap.size t (i + 1) rm2 va4 b4 v4 m4 S W → Calls Try.prog 19 #[.pointer (some ⟨t, 0, none⟩)] W fun e w' => e = .returned (.int .i64 (n : Int)) ∧ W = w') := Lib.hid fun W hW => by rw [← HN.out]; exact tlen_any _ t va4 b4 v4 m4 S W hW.tb
        have QAr : Hid (∀ W, Lw w.heap.size t (i + 1) rm2 va4 b4 v4 m4 S W → Calls Try.prog 17 #[.pointer (some ⟨t, 0, none⟩)] W fun e w' => e = .returned (.int .i64 (n : Int)) ∧ W = w') := Lib.hid fun W hW => by rw [← HN.out]; exact tarr_any _ t va4 b4 v4 m4 S W hW.tb
        have QT : Hid (∀ W, Lw w.heap.size t (i + 1) rm2 va4 b4 v4 m4 S W → Calls Try.prog 14 #[.pointer (some ⟨t, 0, none⟩), .agg #[.int .i64 2, .int .i64 ((n : Int) + 1), .int .i64 1, .string ⟨#[]⟩, .int .i64 0]] W fun e w' => e = .returned (.agg #[.int .i64 0, .int .i64 0, .int .i64 0, .string ⟨#[]⟩, .int .i64 0]) ∧ Below W.heap.size W w') := Lib.hid fun W hW => by
          have h3 := tget_any _ t va4 b4 v4 m4 S W hW.tb (⟨2, (n : Int) + 1, 1, ⟨#[]⟩, 0⟩ : V5) (by have := HN.out; have := HBG.out; have := hW.c1; have := HI2.out; omega) (by have := hW.c2; have := HI2.out; omega)
          have h4 : getT S (⟨2, (n : Int) + 1, 1, ⟨#[]⟩, 0⟩ : V5) = v5z := by
            have e : (⟨2, (n : Int) + 1, 1, ⟨#[]⟩, 0⟩ : V5) = keyV (((n + 1 : Nat)) : Int) := by rw [keyS (by have := HBG.out; omega)]; simp
            rw [e, getT_no S (fun j a c q => by have := HN.out; have := HBG.out; have := keyS_inj (by omega) (by omega) q; omega)]
            have := hW.ti.top
            rw [HN.out] at this
            rw [show (((n + 1 : Nat)) : Int) = (n : Int) + 1 by omega]
            exact this
          rw [h4] at h3
          exact h3
        have QJ : Hid (∀ (j : Nat) (hj : j < S.arr.length), ∀ W, Lw w.heap.size t (i + 1) rm2 va4 b4 v4 m4 S W → Calls Try.prog 14 #[.pointer (some ⟨t, 0, none⟩), .agg #[.int .i64 2, .int .i64 ((j : Int) + 1), .int .i64 1, .string ⟨#[]⟩, .int .i64 0]] W fun e w' => e = .returned (.agg #[.int .i64 S.arr[j].k, .int .i64 S.arr[j].p, .int .i64 S.arr[j].q, .string S.arr[j].s, .int .i64 S.arr[j].r]) ∧ Below W.heap.size W w') := Lib.hid fun j hj W hW => by
          have h3 := tget_any _ t va4 b4 v4 m4 S W hW.tb (⟨2, (j : Int) + 1, 1, ⟨#[]⟩, 0⟩ : V5) (by have := HN.out; have := HBG.out; omega) (by have := hW.c2; have := HI2.out; omega)
          have h4 : getT S (⟨2, (j : Int) + 1, 1, ⟨#[]⟩, 0⟩ : V5) = S.arr[j] := by
            have e : (⟨2, (j : Int) + 1, 1, ⟨#[]⟩, 0⟩ : V5) = keyV (((j + 1 : Nat)) : Int) := by rw [keyS (by have := HN.out; have := HBG.out; omega)]; simp
            rw [e, getT_at S (by omega) (by omega) (by have := HN.out; have := HBG.out; omega), Nat.add_sub_cancel, List.getElem?_eq_getElem hj]
            rfl
          rw [h4] at h3
          exact h3
        have HLAST : Hid (0 < n → ∃ hj : n - 1 < S.arr.length, (S.arr[n - 1]).k ≠ 0) := Lib.hid fun h0 => by
          have h5 := HN.out
          have h6 := HL4.out.ti.last (List.ne_nil_of_length_pos (by omega))
          have hj : n - 1 < S.arr.length := by omega
          rw [last_get, h5, List.getElem?_eq_getElem hj] at h6
          exact ⟨hj, h6⟩
        clear hn hbig
        go_upto_region 12 with fail
        go_cut [6] from 14 to 106 (fun v6 wx => v6 = .int .i64 (n : Int) ∧ Hid (Lw w.heap.size t (i + 1) rm2 va4 b4 v4 m4 S wx) ∧ Hid (Below w.heap.size w wx))
        case first =>
          go_wp2_with (go_at_call 19; (with_reducible refine (QLn.out _ HL4.out).mono ?_); rintro e w9 ⟨rfl, rfl⟩)
          go_meet
          exact ⟨rfl, HL4, HB⟩
        obtain ⟨rfl, HL4, HB⟩ := hcut
        rename World => w6
        go_upto_region 13 with fail
        go_cut [78] from 14 to 106 (fun v78 wx => v78 = .bool false ∧ Hid (Lw w.heap.size t (i + 1) rm2 va4 b4 v4 m4 S wx) ∧ Hid (Below w.heap.size w wx))
        case first =>
          by_cases h0 : 0 < n
          · obtain ⟨hj, hyk⟩ := HLAST.out h0
            have hn0 : (0 : Int) < (n : Int) := by omega
            obtain ⟨y, hy⟩ : ∃ y, S.arr[n - 1] = y := ⟨_, rfl⟩
            rw [hy] at hyk
            have QB : Hid (∀ W, Lw w.heap.size t (i + 1) rm2 va4 b4 v4 m4 S W → Calls Try.prog 14 #[.pointer (some ⟨t, 0, none⟩), .agg #[.int .i64 2, .int .i64 (n : Int), .int .i64 1, .string ⟨#[]⟩, .int .i64 0]] W fun e w' => e = .returned (.agg #[.int .i64 y.k, .int .i64 y.p, .int .i64 y.q, .string y.s, .int .i64 y.r]) ∧ Below W.heap.size W w') := Lib.hid fun W hW => by
              have h3 := QJ.out (n - 1) hj W hW
              rw [show (((n - 1 : Nat) : Int) + 1) = (n : Int) by omega, hy] at h3
              exact h3
            have ey : (y.k == 0) = false := beq_eq_false_iff_ne.2 hyk
            clear hy hyk hj h0
            go_wp2_with (first | (go_at_call 17; (with_reducible refine (QAr.out _ HL4.out).mono ?_); rintro e w9 ⟨rfl, rfl⟩) | (go_at_call 20; (with_reducible refine (num13 _ _).mono ?_); rintro e w9 ⟨rfl, hb1⟩; have hb2 := HB.out.trans (hb1.mono HB.out.size); have hl2 := HL4.out.ch0 (Ch.of_below hb1); clear HB HL4 hb1; have HB := Lib.hid hb2; have HL4 := Lib.hid hl2; clear hb2 hl2) | (go_at_call 14; (with_reducible refine (QT.out _ HL4.out).mono ?_); rintro e w9 ⟨rfl, hb1⟩; have hb2 := HB.out.trans (hb1.mono HB.out.size); have hl2 := HL4.out.ch0 (Ch.of_below hb1); clear HB HL4 hb1; have HB := Lib.hid hb2; have HL4 := Lib.hid hl2; clear hb2 hl2) | (go_at_call 14; (with_reducible refine (QB.out _ HL4.out).mono ?_); rintro e w9 ⟨rfl, hb1⟩; have hb2 := HB.out.trans (hb1.mono HB.out.size); have hl2 := HL4.out.ch0 (Ch.of_below hb1); clear HB HL4 hb1; have HB := Lib.hid hb2; have HL4 := Lib.hid hl2; clear hb2 hl2))
            go_meet
            exact ⟨rfl, HL4, HB⟩
          · have hn0 : ¬ (0 : Int) < (n : Int) := by omega
            clear h0
            go_wp2_with (first | (go_at_call 17; (with_reducible refine (QAr.out _ HL4.out).mono ?_); rintro e w9 ⟨rfl, rfl⟩) | (go_at_call 20; (with_reducible refine (num13 _ _).mono ?_); rintro e w9 ⟨rfl, hb1⟩; have hb2 := HB.out.trans (hb1.mono HB.out.size); have hl2 := HL4.out.ch0 (Ch.of_below hb1); clear HB HL4 hb1; have HB := Lib.hid hb2; have HL4 := Lib.hid hl2; clear hb2 hl2) | (go_at_call 14; (with_reducible refine (QT.out _ HL4.out).mono ?_); rintro e w9 ⟨rfl, hb1⟩; have hb2 := HB.out.trans (hb1.mono HB.out.size); have hl2 := HL4.out.ch0 (Ch.of_below hb1); clear HB HL4 hb1; have HB := Lib.hid hb2; have HL4 := Lib.hid hl2; clear hb2 hl2))
            go_meet
            exact ⟨rfl, HL4, HB⟩
        obtain ⟨rfl, HL4, HB⟩ := hcut
        rename World => w7
        clear h1 h2 dn QT QAr QLn HLAST
        go_wp2
        go_loopw [7] (fun v7 wr => ∃ j : Nat, v7 = .int .i64 ((j : Int) + 1) ∧ Hid (j ≤ n) ∧ Hid (Lw w.heap.size t (i + 1) rm2 va4 b4 v4 m4 S wr) ∧ Hid (Below w.heap.size w wr)) (fun v7 _ => n + 1 - (intOf v7).toNat)
        case atStart => exact ⟨0, rfl, Lib.hid (Nat.zero_le _), HL4, HB⟩
        case round =>
          clear HL4 HB
          obtain ⟨j, rfl, HJ, HL4, HB⟩ := hrel
          rename World => w8
          have QSz : Hid (∀ W, Lw w.heap.size t (i + 1) rm2 va4 b4 v4 m4 S W → Calls Try.prog 21 #[.pointer (some ⟨t, 0, none⟩)] W fun e w' => e = .returned (.int .i64 (sizeT S : Int)) ∧ W = w') := Lib.hid fun W hW => tsize_any _ t va4 b4 v4 m4 S W hW.tb (by have := HN.out; have := HBG.out; have := hW.c2; have := HNI.out; have := HI2.out; omega)
          have QCt : Hid (∀ W, Lw w.heap.size t (i + 1) rm2 va4 b4 v4 m4 S W → Calls Try.prog 16 #[.pointer (some ⟨t, 0, none⟩)] W fun e w' => e = .returned (.int .i64 ((lenR S.R + cntA S.arr : Nat) : Int)) ∧ Below W.heap.size W w') := Lib.hid fun W hW => tcount_any _ t va4 b4 v4 m4 S W hW.tb (by have := HN.out; have := HBG.out; have := hW.c2; have := HNI.out; have := HI2.out; omega)
          have hsz : ¬ ((sizeT S : Int) < 4 + 2 * (n : Int)) := by have := HN.out; unfold sizeT; omega
          have hct : ¬ ((l.length : Int) < ((lenR S.R + cntA S.arr : Nat) : Int)) := by
            have h5 := cntA_le S.arr S.arr.length
            rw [List.take_length] at h5
            have := HL4.out.c1
            have := HLT.out
            omega
          have d2 : IntKind.i64.wrap (2 * (n : Int)) = 2 * (n : Int) := IntWalk.i64_in _ (by have := HNI.out; have := HI2.out; omega)
          have d4 : IntKind.i64.wrap (4 + 2 * (n : Int)) = 4 + 2 * (n : Int) := IntWalk.i64_in _ (by have := HNI.out; have := HI2.out; omega)
          have dj : IntKind.i64.wrap ((j : Int) + 1 + 1) = (j : Int) + 1 + 1 := IntWalk.i64_in _ (by have := HJ.out; have := HNI.out; have := HI2.out; omega)
          generalize (sizeT S : Int) = sz at *
          generalize ((lenR S.R + cntA S.arr : Nat) : Int) = ct at *
          by_cases hjn : j < n
          · have hjn2 : (j : Int) + 1 ≤ (n : Int) := by omega
            cases rm2 with
            | true =>
              go_wp2_with (first | (go_at_call 21; (with_reducible refine (QSz.out _ HL4.out).mono ?_); rintro e w9 ⟨rfl, rfl⟩) | (go_at_call 16; (with_reducible refine (QCt.out _ HL4.out).mono ?_); rintro e w9 ⟨rfl, hb1⟩; have hb2 := HB.out.trans (hb1.mono HB.out.size); have hl2 := HL4.out.ch0 (Ch.of_below hb1); clear HB HL4 hb1; have HB := Lib.hid hb2; have HL4 := Lib.hid hl2; clear hb2 hl2))
              go_roundw
              (case rel => exact ⟨i + 1, true, va4, b4, v4, m4, S, rfl, by go_num, Lib.hid (by have := HLT.out; omega), HL4, HB⟩)
              (case measure => have := HLT.out; simp [intOf]; omega)
            | false =>
              obtain ⟨y, hy⟩ : ∃ y, S.arr[j]'(by have := HN.out; omega) = y := ⟨_, rfl⟩
              have hyk : y.k ≠ 0 := by rw [← hy]; exact HL4.out.nn rfl _ (List.getElem_mem _)
              have ey : (y.k == 0) = false := beq_eq_false_iff_ne.2 hyk
              have QB : Hid (∀ W, Lw w.heap.size t (i + 1) false va4 b4 v4 m4 S W → Calls Try.prog 14 #[.pointer (some ⟨t, 0, none⟩), .agg #[.int .i64 2, .int .i64 ((j : Int) + 1), .int .i64 1, .string ⟨#[]⟩, .int .i64 0]] W fun e w' => e = .returned (.agg #[.int .i64 y.k, .int .i64 y.p, .int .i64 y.q, .string y.s, .int .i64 y.r]) ∧ Below W.heap.size W w') := Lib.hid fun W hW => by
                have h3 := QJ.out j (by have := HN.out; omega) W hW
                rw [hy] at h3
                exact h3
              have HJN := Lib.hid hjn
              clear hy hyk hjn
              go_wp2_with (first | (go_at_call 20; (with_reducible refine (num13 _ _).mono ?_); rintro e w9 ⟨rfl, hb1⟩; have hb2 := HB.out.trans (hb1.mono HB.out.size); have hl2 := HL4.out.ch0 (Ch.of_below hb1); clear HB HL4 hb1; have HB := Lib.hid hb2; have HL4 := Lib.hid hl2; clear hb2 hl2) | (go_at_call 14; (with_reducible refine (QB.out _ HL4.out).mono ?_); rintro e w9 ⟨rfl, hb1⟩; have hb2 := HB.out.trans (hb1.mono HB.out.size); have hl2 := HL4.out.ch0 (Ch.of_below hb1); clear HB HL4 hb1; have HB := Lib.hid hb2; have HL4 := Lib.hid hl2; clear hb2 hl2))
              go_roundw
              (case rel => exact ⟨j + 1, by go_num, Lib.hid (by have := HJN.out; omega), HL4, HB⟩)
              (case measure => have := HJN.out; simp [intOf]; omega)
          · have hjn2 : ¬ (j : Int) + 1 ≤ (n : Int) := by omega
            go_wp2_with (first | (go_at_call 21; (with_reducible refine (QSz.out _ HL4.out).mono ?_); rintro e w9 ⟨rfl, rfl⟩) | (go_at_call 16; (with_reducible refine (QCt.out _ HL4.out).mono ?_); rintro e w9 ⟨rfl, hb1⟩; have hb2 := HB.out.trans (hb1.mono HB.out.size); have hl2 := HL4.out.ch0 (Ch.of_below hb1); clear HB HL4 hb1; have HB := Lib.hid hb2; have HL4 := Lib.hid hl2; clear hb2 hl2))
            go_roundw
            (case rel => exact ⟨i + 1, rm2, va4, b4, v4, m4, S, rfl, by go_num, Lib.hid (by have := HLT.out; omega), HL4, HB⟩)
            (case measure => have := HLT.out; simp [intOf]; omega)
      · have hlt2 : ¬ (i : Int) < (l.length : Int) := by omega
        have QA := Lib.hid (HAW.out wr)
        go_wp2_with (go_at_call 10; (with_reducible refine (QA.out).mono ?_); rintro e w9 ⟨rfl, hb9⟩)
        go_ret
        exact ⟨rfl, HBI.out.trans (hb9.mono HBI.out.size)⟩
  · have hl2 : (200 : Int) < (l.length : Int) := by omega
    have e1 : decide ((200 : Int) < (l.length : Int)) = true := decide_eq_true hl2
    have QL := Lib.hid (large13 p l.length cap w)
    rw [e1] at QL
    have QA := Lib.hid (HAW.out w)
    go_wp2_with (first | (go_at_call 9; (with_reducible refine (QL.out).mono ?_); rintro e wx ⟨rfl, rfl⟩) | (go_at_call 10; (with_reducible refine (QA.out).mono ?_); rintro e w9 ⟨rfl, hb9⟩))
    go_ret
    exact ⟨rfl, hb9⟩
end Go.Proofs.Ytaaelhhiceildaa.tableBordersLaw
