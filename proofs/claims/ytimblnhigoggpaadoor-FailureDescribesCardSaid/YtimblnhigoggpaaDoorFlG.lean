/- Layer 19: the law's awake. -/
import Derived.Test.YtimblnhigoggpaaDoorFlF
import Derived.Deep.RegionHeld3
namespace Go.Proofs.YtimblnhigoggpaaDoor
open Go.RowKit Go.Joins M1
set_option linter.unusedVariables false
def xF : Pl := ⟨⟨#[102]⟩, 7, true⟩
def xM : Pl := ⟨⟨#[109, 97, 105, 110]⟩, 3, false⟩
def tr2 : List Pl := [⟨⟨#[101, 114, 114, 111, 114]⟩, 0, false⟩, xF]
def tr1 : List Pl := [xM]
theorem it7 : itB 7 = ⟨#[55]⟩ := by
  unfold itB Lib.itoa
  rw [if_neg (by decide), Lib.decDigits_eq]
  first | rfl | decide +kernel | simp [Lib.nDigits]
theorem it3 : itB 3 = ⟨#[51]⟩ := by
  unfold itB Lib.itoa
  rw [if_neg (by decide), Lib.decDigits_eq]
  first | rfl | decide +kernel | simp [Lib.nDigits]
theorem pos1 : posI 1 tr2 = some xF := by decide +kernel
theorem pos2 : posI 2 tr2 = none := by decide +kernel
theorem pos3 : posI 1 tr1 = some xM := by decide +kernel
theorem pre7 : preB xF = ⟨#[55, 58, 32]⟩ := by unfold preB xF; rw [it7]; rfl
theorem pre3 : preB xM = ⟨#[51, 58, 32]⟩ := by unfold preB xM; rw [it3]; rfl
theorem line_e : lineB ⟨⟨#[101, 114, 114, 111, 114]⟩, 0, false⟩ = ⟨#[101, 114, 114, 111, 114]⟩ := by decide +kernel
theorem line_f : lineB xF = ⟨#[102, 58, 55, 32, 40, 116, 97, 105, 108, 32, 99, 97, 108, 108, 41]⟩ := by unfold lineB numB tailB xF; rw [it7]; decide +kernel
theorem cut_div : cutS ⟨#[100, 105, 118, 105, 115, 105, 111, 110, 32, 98, 121, 32, 122, 101, 114, 111]⟩ = ⟨#[100, 105, 118, 105, 115, 105, 111, 110, 32, 98, 121, 32, 122, 101, 114, 111]⟩ := by unfold cutS; rw [if_pos (by decide)]
theorem call_nil : callE 0 = ⟨#[97, 116, 116, 101, 109, 112, 116, 32, 116, 111, 32, 99, 97, 108, 108, 32, 97, 32, 110, 105, 108, 32, 118, 97, 108, 117, 101]⟩ := by decide +kernel
theorem PA.lit2 (W : World) : PA (W.alloc (.cells #[.string ⟨#[101, 114, 114, 111, 114]⟩, .int .i64 0, .bool false, .string ⟨#[102]⟩, .int .i64 7, .bool true] 44)) (.slice (some ⟨W.heap.size, 0, none⟩) 2 2) tr2 := by
  refine ⟨_, 2, rfl, (fun e => by cases e), ⟨some ⟨W.heap.size, 0, none⟩, 2, rfl, fun _ => ⟨W.heap.size, 0, rfl, by simp, fun j m hj hm => ?_⟩⟩⟩
  have h := fun i => Blk.cell (Blk.new W 44 #[.string ⟨#[101, 114, 114, 111, 114]⟩, .int .i64 0, .bool false, .string ⟨#[102]⟩, .int .i64 7, .bool true] _ rfl) i
  have hj : j < 2 := hj
  rw [show (0 + j * 3 + m) = j * 3 + m by omega, h]
  match j, hj, m, hm with
  | 0, _, 0, _ => rfl
  | 0, _, 1, _ => rfl
  | 0, _, 2, _ => rfl
  | 1, _, 0, _ => rfl
  | 1, _, 1, _ => rfl
  | 1, _, 2, _ => rfl
theorem PA.lit1 (W : World) : PA (W.alloc (.cells #[.string ⟨#[109, 97, 105, 110]⟩, .int .i64 3, .bool false] 44)) (.slice (some ⟨W.heap.size, 0, none⟩) 1 1) tr1 := by
  refine ⟨_, 1, rfl, (fun e => by cases e), ⟨some ⟨W.heap.size, 0, none⟩, 1, rfl, fun _ => ⟨W.heap.size, 0, rfl, by simp, fun j m hj hm => ?_⟩⟩⟩
  have h := fun i => Blk.cell (Blk.new W 44 #[.string ⟨#[109, 97, 105, 110]⟩, .int .i64 3, .bool false] _ rfl) i
  have hj : j < 1 := hj
  rw [show (0 + j * 3 + m) = j * 3 + m by omega, h]
  match j, hj, m, hm with
  | 0, _, 0, _ => rfl
  | 0, _, 1, _ => rfl
  | 0, _, 2, _ => rfl
theorem aw_raise1 (vt : Value) (W : World) (h : PA W vt tr2) : Calls Tryd.prog 14 #[.agg #[.int .i64 3, .int .i64 0, .int .i64 0, .string ⟨#[110, 111]⟩, .int .i64 0], .int .i64 1, vt] W fun e w' => ∃ p c, e = .returned (.agg #[.int .i64 3, .int .i64 0, .int .i64 0, .string ⟨#[55, 58, 32, 110, 111]⟩, .int .i64 0, .slice p 2 c]) ∧ RP W.heap.size (.slice p 2 c) tr2 w' ∧ Ch [] W w' := by
  have := raise_ok ⟨3, 0, 0, ⟨#[110, 111]⟩, 0⟩ 1 vt tr2 W h (by decide) (by decide) xF pos1 (it_small 7 (by decide) W) (by decide) (by unfold xF; rw [it7]; decide) (by rw [pre7]; decide)
  refine this.mono ?_
  rintro e w' ⟨v', rfl, hr, hc⟩
  rw [pre7]
  obtain ⟨p, c, rfl⟩ := ownB_form hr
  exact ⟨p, c, rfl, hr, hc⟩
theorem aw_raise2 (vt : Value) (W : World) (h : PA W vt tr2) : Calls Tryd.prog 14 #[.agg #[.int .i64 3, .int .i64 0, .int .i64 0, .string ⟨#[110, 111]⟩, .int .i64 0], .int .i64 2, vt] W fun e w' => ∃ p c, e = .returned (.agg #[.int .i64 3, .int .i64 0, .int .i64 0, .string ⟨#[110, 111]⟩, .int .i64 0, .slice p 2 c]) ∧ RP W.heap.size (.slice p 2 c) tr2 w' ∧ Ch [] W w' := by
  have := raise_none ⟨3, 0, 0, ⟨#[110, 111]⟩, 0⟩ 2 vt tr2 W h (by decide) (by decide) pos2
  refine this.mono ?_
  rintro e w' ⟨v', rfl, hr, hc⟩
  obtain ⟨p, c, rfl⟩ := ownB_form hr
  exact ⟨p, c, rfl, hr, hc⟩
theorem aw_msg (vt : Value) (W : World) (h : PA W vt tr1) : Calls Tryd.prog 16 #[.string ⟨#[100, 105, 118, 105, 115, 105, 111, 110, 32, 98, 121, 32, 122, 101, 114, 111]⟩, vt] W fun e w' => ∃ p c, e = .returned (.agg #[.int .i64 3, .int .i64 0, .int .i64 0, .string ⟨#[51, 58, 32, 100, 105, 118, 105, 115, 105, 111, 110, 32, 98, 121, 32, 122, 101, 114, 111]⟩, .int .i64 0, .slice p 1 c]) ∧ RP W.heap.size (.slice p 1 c) tr1 w' ∧ Ch [] W w' := by
  have := message_of ⟨#[100, 105, 118, 105, 115, 105, 111, 110, 32, 98, 121, 32, 122, 101, 114, 111]⟩ vt tr1 ⟨3, 0, 0, ⟨#[51, 58, 32, 100, 105, 118, 105, 115, 105, 111, 110, 32, 98, 121, 32, 122, 101, 114, 111]⟩, 0⟩ W (fun W' hW => by
    rw [cut_div]
    have := raise_ok ⟨3, 0, 0, ⟨#[100, 105, 118, 105, 115, 105, 111, 110, 32, 98, 121, 32, 122, 101, 114, 111]⟩, 0⟩ 1 vt tr1 W' (h.below hW) (by decide) (by decide) xM pos3 (it_small 3 (by decide) W') (by decide) (by unfold xM; rw [it3]; decide) (by rw [pre3]; decide)
    rw [pre3] at this
    exact this)
  refine this.mono ?_
  rintro e w' ⟨v', rfl, hr, hc⟩
  obtain ⟨p, c, rfl⟩ := ownB_form hr
  exact ⟨p, c, rfl, hr, hc⟩
theorem aw_lines (v : V5) (vt : Value) (W : World) (h : PA W vt tr2) : Calls Tryd.prog 20 #[.agg #[.int .i64 v.k, .int .i64 v.p, .int .i64 v.q, .string v.s, .int .i64 v.r, vt]] W fun e w' => (∃ g c, e = .returned (.slice (some ⟨g, 0, none⟩) 2 c) ∧ g < w'.heap.size ∧ w'.cell? ⟨g, 0, none⟩ = some (.string ⟨#[101, 114, 114, 111, 114]⟩) ∧ w'.cell? ⟨g, 1, none⟩ = some (.string ⟨#[102, 58, 55, 32, 40, 116, 97, 105, 108, 32, 99, 97, 108, 108, 41]⟩)) ∧ Ch [] W w' := by
  refine (lines21 v vt tr2 W h (by decide) (fun p hp => ?_)).mono ?_
  · simp [tr2] at hp
    rcases hp with rfl | rfl
    · exact ⟨fun q => absurd q (by decide), by decide, by decide +kernel⟩
    · exact ⟨fun _ => it_small 7 (by decide) W, by decide, by unfold xF; rw [it7]; decide⟩
  · rintro e w' ⟨⟨v', rfl, hr⟩, hc⟩
    have hm : tr2.map lineB = [⟨#[101, 114, 114, 111, 114]⟩, ⟨#[102, 58, 55, 32, 40, 116, 97, 105, 108, 32, 99, 97, 108, 108, 41]⟩] := by
      show [lineB _, lineB xF] = _
      rw [line_e, line_f]
    rw [hm] at hr
    rcases Joins.ownsRow_forms hr with ⟨h1, h2⟩ | ⟨g, cap, h1⟩
    · cases h2
    · subst h1
      exact ⟨⟨g, cap, rfl, (own_lo hr (mem_ob.2 rfl)).2, hr.cellAt 0 (by decide), hr.cellAt 1 (by decide)⟩, hc⟩
def AwS (W0 w' : World) : Prop := Ch [] W0 w'
theorem aw_keep {W0 W W' : World} (h : (∀ c o, c < W0.heap.size → W.cell? ⟨c, o, none⟩ = W0.cell? ⟨c, o, none⟩) ∧ AwS W0 W) (hb : Ch [] W W') : (∀ c o, c < W0.heap.size → W'.cell? ⟨c, o, none⟩ = W0.cell? ⟨c, o, none⟩) ∧ AwS W0 W' :=
  ⟨fun c o hc => (hb.below.cell (p := ⟨c, o, none⟩) (Nat.lt_of_lt_of_le hc h.2.size)).trans (h.1 c o hc), h.2.trans hb⟩
theorem aw_start (W0 : World) : (∀ c o, c < W0.heap.size → W0.drew.cell? ⟨c, o, none⟩ = W0.cell? ⟨c, o, none⟩) ∧ AwS W0 W0.drew := ⟨fun _ _ _ => rfl, (Ch.refl [] W0).drew⟩
set_option maxHeartbeats 16000000 in
theorem awake_any (w : World) : Calls Tryd.prog 12 #[] w fun e w' => e = .returned (.bool true) ∧ Ch [] w w' := by
  have QS : Hid (∀ (s : ByteArray) W, Calls Tryd.prog 25 #[.string s] W fun e w' => e = .returned (.agg #[.int .i64 3, .int .i64 0, .int .i64 0, .string s, .int .i64 0]) ∧ Ch [] W w') := Lib.hid fun s W => str_any s W
  have Q1 : Hid (∀ vt W, PA W vt tr2 → Calls Tryd.prog 14 #[.agg #[.int .i64 3, .int .i64 0, .int .i64 0, .string ⟨#[110, 111]⟩, .int .i64 0], .int .i64 1, vt] W fun e w' => ∃ p c, e = .returned (.agg #[.int .i64 3, .int .i64 0, .int .i64 0, .string ⟨#[55, 58, 32, 110, 111]⟩, .int .i64 0, .slice p 2 c]) ∧ RP W.heap.size (.slice p 2 c) tr2 w' ∧ Ch [] W w') := Lib.hid aw_raise1
  have Q2 : Hid (∀ vt W, PA W vt tr2 → Calls Tryd.prog 14 #[.agg #[.int .i64 3, .int .i64 0, .int .i64 0, .string ⟨#[110, 111]⟩, .int .i64 0], .int .i64 2, vt] W fun e w' => ∃ p c, e = .returned (.agg #[.int .i64 3, .int .i64 0, .int .i64 0, .string ⟨#[110, 111]⟩, .int .i64 0, .slice p 2 c]) ∧ RP W.heap.size (.slice p 2 c) tr2 w' ∧ Ch [] W w') := Lib.hid aw_raise2
  have Q3 : Hid (∀ vt W, PA W vt tr1 → Calls Tryd.prog 16 #[.string ⟨#[100, 105, 118, 105, 115, 105, 111, 110, 32, 98, 121, 32, 122, 101, 114, 111]⟩, vt] W fun e w' => ∃ p c, e = .returned (.agg #[.int .i64 3, .int .i64 0, .int .i64 0, .string ⟨#[51, 58, 32, 100, 105, 118, 105, 115, 105, 111, 110, 32, 98, 121, 32, 122, 101, 114, 111]⟩, .int .i64 0, .slice p 1 c]) ∧ RP W.heap.size (.slice p 1 c) tr1 w' ∧ Ch [] W w') := Lib.hid aw_msg
  have Q4 : Hid (∀ vt W, PA W vt tr2 → Calls Tryd.prog 20 #[.agg #[.int .i64 3, .int .i64 0, .int .i64 0, .string ⟨#[55, 58, 32, 110, 111]⟩, .int .i64 0, vt]] W fun e w' => (∃ g c, e = .returned (.slice (some ⟨g, 0, none⟩) 2 c) ∧ g < w'.heap.size ∧ w'.cell? ⟨g, 0, none⟩ = some (.string ⟨#[101, 114, 114, 111, 114]⟩) ∧ w'.cell? ⟨g, 1, none⟩ = some (.string ⟨#[102, 58, 55, 32, 40, 116, 97, 105, 108, 32, 99, 97, 108, 108, 41]⟩)) ∧ Ch [] W w') := Lib.hid fun vt W h => aw_lines ⟨3, 0, 0, ⟨#[55, 58, 32, 110, 111]⟩, 0⟩ vt W h
  have HT0 : Hid (PA (w.alloc (.cells #[.string ⟨#[101, 114, 114, 111, 114]⟩, .int .i64 0, .bool false, .string ⟨#[102]⟩, .int .i64 7, .bool true] 44)) (.slice (some ⟨w.heap.size, 0, none⟩) 2 2) tr2) := Lib.hid (PA.lit2 w)
  have HC0 : Hid (Ch [] w (w.alloc (.cells #[.string ⟨#[101, 114, 114, 111, 114]⟩, .int .i64 0, .bool false, .string ⟨#[102]⟩, .int .i64 7, .bool true] 44))) := Lib.hid ((Ch.refl [] w).alloc _)
  go_enter Tryd.func12, Tryd.ntmps12
  go_upto_region 5 with (first | (go_at_call 14; (with_reducible refine (Q1.out _ _ (HT0.out.below HS1.out)).mono ?_); rintro e w2 ⟨pa, ca, rfl, hr, hc⟩; have HRA := Lib.hid hr; have HC2 : Hid (Ch [] (w.alloc (.cells #[.string ⟨#[101, 114, 114, 111, 114]⟩, .int .i64 0, .bool false, .string ⟨#[102]⟩, .int .i64 7, .bool true] 44)) w2) := Lib.hid (HS1.out.trans hc); have TOKA : Hid True := Lib.hid trivial; clear hr hc) | (go_at_call 14; (with_reducible refine (Q2.out _ _ (HT0.out.below HS2.out)).mono ?_); rintro e w4 ⟨pb, cb, rfl, hr, hc⟩; have HRB := Lib.hid hr; have HK4 : Hid (Ch [] w3 w4) := Lib.hid hc; have HC4 : Hid (Ch [] (w.alloc (.cells #[.string ⟨#[101, 114, 114, 111, 114]⟩, .int .i64 0, .bool false, .string ⟨#[102]⟩, .int .i64 7, .bool true] 44)) w4) := Lib.hid (HS2.out.trans hc); clear hr hc; have HT4 : Hid (PA ((w4.alloc (.cells #[.int .i64 3, .int .i64 0, .int .i64 0, .string ⟨#[110, 111]⟩, .int .i64 0, .slice pb 2 cb] 31)).alloc (.cells #[.string ⟨#[109, 97, 105, 110]⟩, .int .i64 3, .bool false] 44)) (.slice (some ⟨w4.heap.size + 1, 0, none⟩) 1 1) tr1) := Lib.hid (by have := PA.lit1 (w4.alloc (.cells #[.int .i64 3, .int .i64 0, .int .i64 0, .string ⟨#[110, 111]⟩, .int .i64 0, .slice pb 2 cb] 31)); simpa using this)) | (go_at_call 16; (with_reducible refine (Q3.out _ _ HT4.out).mono ?_); rintro e w5 ⟨pm, cm, rfl, hr, hc⟩; have HRM := Lib.hid hr; have HC5 := Lib.hid hc; clear hr hc) | (go_at_call 25; (with_reducible refine (QS.out _ _).mono ?_); rintro e w3 ⟨rfl, hc⟩; have HS3a := Lib.hid hc; have HS2 : Hid (Ch [] (w.alloc (.cells #[.string ⟨#[101, 114, 114, 111, 114]⟩, .int .i64 0, .bool false, .string ⟨#[102]⟩, .int .i64 7, .bool true] 44)) w3) := Lib.hid ((HC2.out.alloc (.cells #[.int .i64 3, .int .i64 0, .int .i64 0, .string ⟨#[55, 58, 32, 110, 111]⟩, .int .i64 0, .slice pa 2 ca] 31)).trans hc); clear hc) | (go_at_call 25; (with_reducible refine (QS.out _ _).mono ?_); rintro e w1 ⟨rfl, hc⟩; have HS1 : Hid (Ch [] (w.alloc (.cells #[.string ⟨#[101, 114, 114, 111, 114]⟩, .int .i64 0, .bool false, .string ⟨#[102]⟩, .int .i64 7, .bool true] 44)) w1) := Lib.hid hc; clear hc))
  obtain ⟨A, hA⟩ : ∃ A, A = w2.heap.size := ⟨_, rfl⟩
  obtain ⟨B, hB⟩ : ∃ B, B = w4.heap.size := ⟨_, rfl⟩
  obtain ⟨M, hM⟩ : ∃ M, M = w5.heap.size := ⟨_, rfl⟩
  obtain ⟨WX, hW⟩ : ∃ WX, WX = w5.alloc (.cells #[.int .i64 3, .int .i64 0, .int .i64 0, .string ⟨#[51, 58, 32, 100, 105, 118, 105, 115, 105, 111, 110, 32, 98, 121, 32, 122, 101, 114, 111]⟩, .int .i64 0, .slice pm 1 cm] 31) := ⟨_, rfl⟩
  have K4 : Hid (Ch [] (w4.alloc (.cells #[.int .i64 3, .int .i64 0, .int .i64 0, .string ⟨#[110, 111]⟩, .int .i64 0, .slice pb 2 cb] 31)) WX) := Lib.hid (by rw [hW]; exact (((Ch.refl [] _).alloc _).trans HC5.out).alloc _)
  have K2 : Hid (Ch [] (w2.alloc (.cells #[.int .i64 3, .int .i64 0, .int .i64 0, .string ⟨#[55, 58, 32, 110, 111]⟩, .int .i64 0, .slice pa 2 ca] 31)) WX) := Lib.hid (((HS3a.out.trans HK4.out).alloc _).trans K4.out)
  have HBA : Hid (Blk 31 A #[.int .i64 3, .int .i64 0, .int .i64 0, .string ⟨#[55, 58, 32, 110, 111]⟩, .int .i64 0, .slice pa 2 ca] WX) := Lib.hid ((Blk.new w2 31 #[.int .i64 3, .int .i64 0, .int .i64 0, .string ⟨#[55, 58, 32, 110, 111]⟩, .int .i64 0, .slice pa 2 ca] A hA).ch K2.out (not_nil _))
  have HBB : Hid (Blk 31 B #[.int .i64 3, .int .i64 0, .int .i64 0, .string ⟨#[110, 111]⟩, .int .i64 0, .slice pb 2 cb] WX) := Lib.hid ((Blk.new w4 31 #[.int .i64 3, .int .i64 0, .int .i64 0, .string ⟨#[110, 111]⟩, .int .i64 0, .slice pb 2 cb] B hB).ch K4.out (not_nil _))
  have HBM : Hid (Blk 31 M #[.int .i64 3, .int .i64 0, .int .i64 0, .string ⟨#[51, 58, 32, 100, 105, 118, 105, 115, 105, 111, 110, 32, 98, 121, 32, 122, 101, 114, 111]⟩, .int .i64 0, .slice pm 1 cm] WX) := Lib.hid (by rw [hW]; exact Blk.new w5 _ _ M hM)
  have HCX : Hid (Ch [] w WX) := Lib.hid ((HC0.out.trans HC2.out).trans (((Ch.refl [] w2).alloc _).trans K2.out))
  have PAA : Hid (PA WX (.slice pa 2 ca) tr2) := Lib.hid ((HRA.out.ch0 (((Ch.refl [] w2).alloc _).trans K2.out)).pa)
  have PAB : Hid (PA WX (.slice pb 2 cb) tr2) := Lib.hid ((HRB.out.ch0 (((Ch.refl [] w4).alloc _).trans K4.out)).pa)
  have PAM : Hid (PA WX (.slice pm 1 cm) tr1) := Lib.hid (by rw [hW]; exact (HRM.out.ch0 ((Ch.refl [] w5).alloc _)).pa)
  rw [← hA, ← hB, ← hM, ← hW]
  clear hA hB hM hW Q1 Q2 Q3 HT0 HC0 HS1 HRA HC2 TOKA HS3a HS2 HRB HC4 HT4 HRM HC5 K4 K2 HK4
  have a0 : WX.cell? ⟨A, 0, none⟩ = some (.int .i64 3) := HBA.out.cell 0
  have a1 : WX.cell? ⟨A, 1, none⟩ = some (.int .i64 0) := HBA.out.cell 1
  have a2 : WX.cell? ⟨A, 2, none⟩ = some (.int .i64 0) := HBA.out.cell 2
  have a3 : WX.cell? ⟨A, 3, none⟩ = some (.string ⟨#[55, 58, 32, 110, 111]⟩) := HBA.out.cell 3
  have a4 : WX.cell? ⟨A, 4, none⟩ = some (.int .i64 0) := HBA.out.cell 4
  have a5 : WX.cell? ⟨A, 5, none⟩ = some (.slice pa 2 ca) := HBA.out.cell 5
  have la := HBA.out.lt
  go_upto_region 6 with (go_at_call 20; (with_reducible refine (Q4.out _ _ PAA.out).mono ?_); rintro e w6 ⟨⟨gl, cl, rfl, hg, h0, h1⟩, hc⟩; have HC6 := Lib.hid hc; have HG := Lib.hid hg; have HL0 := Lib.hid h0; have HL1 := Lib.hid h1; clear hg h0 h1 hc)
  clear a0 a1 a2 a3 a4 a5 la Q4
  have HBA6 := Lib.hid (HBA.out.ch HC6.out (not_nil _))
  have HBB6 := Lib.hid (HBB.out.ch HC6.out (not_nil _))
  have HBM6 := Lib.hid (HBM.out.ch HC6.out (not_nil _))
  have PAA6 := Lib.hid (PAA.out.below HC6.out)
  have PAB6 := Lib.hid (PAB.out.below HC6.out)
  have PAM6 := Lib.hid (PAM.out.below HC6.out)
  have HC := Lib.hid (HCX.out.trans HC6.out)
  clear HBA HBB HBM PAA PAB PAM HCX HC6
  generalize w6 = W0 at *
  have a0 : W0.cell? ⟨A, 0, none⟩ = some (.int .i64 3) := HBA6.out.cell 0
  have a1 : W0.cell? ⟨A, 1, none⟩ = some (.int .i64 0) := HBA6.out.cell 1
  have a2 : W0.cell? ⟨A, 2, none⟩ = some (.int .i64 0) := HBA6.out.cell 2
  have a3 : W0.cell? ⟨A, 3, none⟩ = some (.string ⟨#[55, 58, 32, 110, 111]⟩) := HBA6.out.cell 3
  have a4 : W0.cell? ⟨A, 4, none⟩ = some (.int .i64 0) := HBA6.out.cell 4
  have a5 : W0.cell? ⟨A, 5, none⟩ = some (.slice pa 2 ca) := HBA6.out.cell 5
  have la := HBA6.out.lt
  have b0 : W0.cell? ⟨B, 0, none⟩ = some (.int .i64 3) := HBB6.out.cell 0
  have b1 : W0.cell? ⟨B, 1, none⟩ = some (.int .i64 0) := HBB6.out.cell 1
  have b2 : W0.cell? ⟨B, 2, none⟩ = some (.int .i64 0) := HBB6.out.cell 2
  have b3 : W0.cell? ⟨B, 3, none⟩ = some (.string ⟨#[110, 111]⟩) := HBB6.out.cell 3
  have b4 : W0.cell? ⟨B, 4, none⟩ = some (.int .i64 0) := HBB6.out.cell 4
  have b5 : W0.cell? ⟨B, 5, none⟩ = some (.slice pb 2 cb) := HBB6.out.cell 5
  have lb := HBB6.out.lt
  have m0 : W0.cell? ⟨M, 0, none⟩ = some (.int .i64 3) := HBM6.out.cell 0
  have m1 : W0.cell? ⟨M, 1, none⟩ = some (.int .i64 0) := HBM6.out.cell 1
  have m2 : W0.cell? ⟨M, 2, none⟩ = some (.int .i64 0) := HBM6.out.cell 2
  have m3 : W0.cell? ⟨M, 3, none⟩ = some (.string ⟨#[51, 58, 32, 100, 105, 118, 105, 115, 105, 111, 110, 32, 98, 121, 32, 122, 101, 114, 111]⟩) := HBM6.out.cell 3
  have m4 : W0.cell? ⟨M, 4, none⟩ = some (.int .i64 0) := HBM6.out.cell 4
  have m5 : W0.cell? ⟨M, 5, none⟩ = some (.slice pm 1 cm) := HBM6.out.cell 5
  have lm := HBM6.out.lt
  have s0 := HL0.out
  have s1 := HL1.out
  have sg := HG.out
  have QSa : Hid (∀ W, ((∀ c o, c < W0.heap.size → W.cell? ⟨c, o, none⟩ = W0.cell? ⟨c, o, none⟩) ∧ AwS W0 W) → Calls Tryd.prog 25 #[.string ⟨#[55, 58, 32, 110, 111]⟩] W fun e w' => e = .returned (.agg #[.int .i64 3, .int .i64 0, .int .i64 0, .string ⟨#[55, 58, 32, 110, 111]⟩, .int .i64 0]) ∧ ((∀ c o, c < W0.heap.size → w'.cell? ⟨c, o, none⟩ = W0.cell? ⟨c, o, none⟩) ∧ AwS W0 w')) := Lib.hid fun W h => (QS.out ⟨#[55, 58, 32, 110, 111]⟩ W).mono fun e w' hh => ⟨hh.1, aw_keep h hh.2⟩
  have QSb : Hid (∀ W, ((∀ c o, c < W0.heap.size → W.cell? ⟨c, o, none⟩ = W0.cell? ⟨c, o, none⟩) ∧ AwS W0 W) → Calls Tryd.prog 25 #[.string ⟨#[110, 111]⟩] W fun e w' => e = .returned (.agg #[.int .i64 3, .int .i64 0, .int .i64 0, .string ⟨#[110, 111]⟩, .int .i64 0]) ∧ ((∀ c o, c < W0.heap.size → w'.cell? ⟨c, o, none⟩ = W0.cell? ⟨c, o, none⟩) ∧ AwS W0 w')) := Lib.hid fun W h => (QS.out ⟨#[110, 111]⟩ W).mono fun e w' hh => ⟨hh.1, aw_keep h hh.2⟩
  have QT : Hid (∀ W, ((∀ c o, c < W0.heap.size → W.cell? ⟨c, o, none⟩ = W0.cell? ⟨c, o, none⟩) ∧ AwS W0 W) → Calls Tryd.prog 18 #[.agg #[.int .i64 3, .int .i64 0, .int .i64 0, .string ⟨#[51, 58, 32, 100, 105, 118, 105, 115, 105, 111, 110, 32, 98, 121, 32, 122, 101, 114, 111]⟩, .int .i64 0, .slice pm 1 cm]] W fun e w' => e = .returned (.string ⟨#[51, 58, 32, 100, 105, 118, 105, 115, 105, 111, 110, 32, 98, 121, 32, 122, 101, 114, 111]⟩) ∧ ((∀ c o, c < W0.heap.size → w'.cell? ⟨c, o, none⟩ = W0.cell? ⟨c, o, none⟩) ∧ AwS W0 w')) := Lib.hid fun W h => (ftext_str ⟨#[51, 58, 32, 100, 105, 118, 105, 115, 105, 111, 110, 32, 98, 121, 32, 122, 101, 114, 111]⟩ 0 0 0 _ tr1 W (PAM6.out.below h.2)).mono fun e w' hh => ⟨hh.1, aw_keep h hh.2⟩
  have QE1 : Hid (∀ W, ((∀ c o, c < W0.heap.size → W.cell? ⟨c, o, none⟩ = W0.cell? ⟨c, o, none⟩) ∧ AwS W0 W) → Calls Tryd.prog 22 #[.agg #[.int .i64 3, .int .i64 0, .int .i64 0, .string ⟨#[55, 58, 32, 110, 111]⟩, .int .i64 0, .slice pa 2 ca], .agg #[.int .i64 3, .int .i64 0, .int .i64 0, .string ⟨#[55, 58, 32, 110, 111]⟩, .int .i64 0, .slice pa 2 ca]] W fun e w' => e = .returned (.bool true) ∧ ((∀ c o, c < W0.heap.size → w'.cell? ⟨c, o, none⟩ = W0.cell? ⟨c, o, none⟩) ∧ AwS W0 w')) := Lib.hid fun W h => by
    have this := fsame_any _ _ (⟨⟨3, 0, 0, ⟨#[55, 58, 32, 110, 111]⟩, 0⟩, tr2⟩ : Flr) ⟨⟨3, 0, 0, ⟨#[55, 58, 32, 110, 111]⟩, 0⟩, tr2⟩ W ⟨_, rfl, PAA6.out.below h.2⟩ ⟨_, rfl, PAA6.out.below h.2⟩ (by decide) (by decide)
    rw [decide_eq_true rfl] at this
    exact this.mono fun e w' hh => ⟨hh.1, aw_keep h hh.2⟩
  have QE2 : Hid (∀ W, ((∀ c o, c < W0.heap.size → W.cell? ⟨c, o, none⟩ = W0.cell? ⟨c, o, none⟩) ∧ AwS W0 W) → Calls Tryd.prog 22 #[.agg #[.int .i64 3, .int .i64 0, .int .i64 0, .string ⟨#[55, 58, 32, 110, 111]⟩, .int .i64 0, .slice pa 2 ca], .agg #[.int .i64 3, .int .i64 0, .int .i64 0, .string ⟨#[110, 111]⟩, .int .i64 0, .slice pb 2 cb]] W fun e w' => e = .returned (.bool false) ∧ ((∀ c o, c < W0.heap.size → w'.cell? ⟨c, o, none⟩ = W0.cell? ⟨c, o, none⟩) ∧ AwS W0 w')) := Lib.hid fun W h => by
    have this := fsame_any _ _ (⟨⟨3, 0, 0, ⟨#[55, 58, 32, 110, 111]⟩, 0⟩, tr2⟩ : Flr) ⟨⟨3, 0, 0, ⟨#[110, 111]⟩, 0⟩, tr2⟩ W ⟨_, rfl, PAA6.out.below h.2⟩ ⟨_, rfl, PAB6.out.below h.2⟩ (by decide) (by decide)
    rw [show decide ((⟨⟨3, 0, 0, ⟨#[55, 58, 32, 110, 111]⟩, 0⟩, tr2⟩ : Flr) = ⟨⟨3, 0, 0, ⟨#[110, 111]⟩, 0⟩, tr2⟩) = false by decide +kernel] at this
    exact this.mono fun e w' hh => ⟨hh.1, aw_keep h hh.2⟩
  have QD : Hid (∀ W, ((∀ c o, c < W0.heap.size → W.cell? ⟨c, o, none⟩ = W0.cell? ⟨c, o, none⟩) ∧ AwS W0 W) → Calls Tryd.prog 23 #[.int .i64 8, .agg #[.int .i64 0, .int .i64 0, .int .i64 0, .string ⟨#[]⟩, .int .i64 0]] W fun e w' => e = .returned (.string ⟨#[97, 116, 116, 101, 109, 112, 116, 32, 116, 111, 32, 99, 97, 108, 108, 32, 97, 32, 110, 105, 108, 32, 118, 97, 108, 117, 101]⟩) ∧ ((∀ c o, c < W0.heap.size → w'.cell? ⟨c, o, none⟩ = W0.cell? ⟨c, o, none⟩) ∧ AwS W0 w')) := Lib.hid fun W h => by
    have this := describe_call ⟨0, 0, 0, ⟨#[]⟩, 0⟩ W (by decide)
    rw [show callE (⟨0, 0, 0, ⟨#[]⟩, 0⟩ : V5).k = ⟨#[97, 116, 116, 101, 109, 112, 116, 32, 116, 111, 32, 99, 97, 108, 108, 32, 97, 32, 110, 105, 108, 32, 118, 97, 108, 117, 101]⟩ from call_nil] at this
    exact this.mono fun e w' hh => ⟨hh.1, aw_keep h hh.2⟩
  have EQa : ∀ W, (binOp .eql 25 (.agg #[.int .i64 3, .int .i64 0, .int .i64 0, .string ⟨#[55, 58, 32, 110, 111]⟩, .int .i64 0]) (.agg #[.int .i64 3, .int .i64 0, .int .i64 0, .string ⟨#[55, 58, 32, 110, 111]⟩, .int .i64 0])).run Tryd.prog W = .ok (.bool true) W := fun W => by have := eq_v5 ⟨3, 0, 0, ⟨#[55, 58, 32, 110, 111]⟩, 0⟩ ⟨3, 0, 0, ⟨#[55, 58, 32, 110, 111]⟩, 0⟩ W; rw [decide_eq_true rfl] at this; exact this
  have EQb : ∀ W, (binOp .eql 25 (.agg #[.int .i64 3, .int .i64 0, .int .i64 0, .string ⟨#[110, 111]⟩, .int .i64 0]) (.agg #[.int .i64 3, .int .i64 0, .int .i64 0, .string ⟨#[110, 111]⟩, .int .i64 0])).run Tryd.prog W = .ok (.bool true) W := fun W => by have := eq_v5 ⟨3, 0, 0, ⟨#[110, 111]⟩, 0⟩ ⟨3, 0, 0, ⟨#[110, 111]⟩, 0⟩ W; rw [decide_eq_true rfl] at this; exact this
  have hS0 := aw_start W0
  clear QS HBA6 HBB6 HBM6 PAA6 PAB6 PAM6 HL0 HL1 HG
  go_region_held3 (fun w' => (∀ c o, c < W0.heap.size → w'.cell? ⟨c, o, none⟩ = W0.cell? ⟨c, o, none⟩) ∧ AwS W0 w') (first | assumption | exact hS0) (first | (go_at_call 25; (with_reducible refine (QSa.out _ (by assumption)).mono ?_); rintro e w1 ⟨rfl, hq1⟩) | (go_at_call 25; (with_reducible refine (QSb.out _ (by assumption)).mono ?_); rintro e w1 ⟨rfl, hq1⟩) | (go_at_call 18; (with_reducible refine (QT.out _ (by assumption)).mono ?_); rintro e w1 ⟨rfl, hq1⟩) | (go_at_call 22; (with_reducible refine (QE1.out _ (by assumption)).mono ?_); rintro e w1 ⟨rfl, hq1⟩) | (go_at_call 22; (with_reducible refine (QE2.out _ (by assumption)).mono ?_); rintro e w1 ⟨rfl, hq1⟩) | (go_at_call 23; (with_reducible refine (QD.out _ (by assumption)).mono ?_); rintro e w1 ⟨rfl, hq1⟩))
  all_goals (
    have hS := ‹_ ∧ AwS _ _›
    go_wp2
    go_ret
    exact ⟨rfl, HC.out.trans hS.2⟩)
end Go.Proofs.YtimblnhigoggpaaDoor
