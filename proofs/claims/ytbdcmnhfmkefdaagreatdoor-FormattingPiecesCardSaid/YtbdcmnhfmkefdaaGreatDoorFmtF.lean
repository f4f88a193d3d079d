/- Contracts of layer 9: the parts of a format. -/
import Derived.Test.YtbdcmnhfmkefdaaGreatDoorFmtE
namespace Go.Proofs.YtbdcmnhfmkefdaaGreatDoor
open Go.RowKit Go.Joins M1 M2 M9
set_option linter.unusedVariables false
theorem occ37 {l : List UInt8} {j : Nat} (hl : j < l.length) : Lib.occAt l [37] j = (37 == l[j]) := by
  unfold Lib.occAt
  rw [List.drop_eq_getElem_cons hl]
  simp [List.isPrefixOf]
theorem ne37 {l : List UInt8} {j : Nat} (hl : j < l.length) (h : l[j]? ≠ some 37) : Lib.occAt l [37] j = false := by
  rw [occ37 hl, beq_eq_false_iff_ne]
  intro hh
  apply h
  rw [List.getElem?_eq_getElem hl, ← hh]
theorem cut37_yes {l : List UInt8} {k : Nat} (hk : k < l.length) (h : l[k]? = some 37) (hn : ∀ (j : Nat), j < k → l[j]? ≠ some 37) : Lib.cut l [37] = (l.take k, l.drop (k + 1), true) := by
  have e : Lib.index l [37] = k := by
    refine Lib.index_first (by omega) ?_ fun j hj => ne37 (by omega) (hn j hj)
    rw [occ37 hk, beq_iff_eq]
    rw [List.getElem?_eq_getElem hk] at h
    exact (Option.some.inj h).symm
  unfold Lib.cut; rw [if_pos (by omega), e]; simp
theorem cut37_no {l : List UInt8} (hn : ∀ (j : Nat), l[j]? ≠ some 37) : Lib.cut l [37] = (l, [], false) := by
  have e : Lib.index l [37] = -1 := by
    refine Lib.index_none fun j hj => ?_
    by_cases hl : j < l.length
    · exact ne37 hl (hn j)
    · unfold Lib.occAt; rw [List.drop_eq_nil_of_le (by omega)]; rfl
  unfold Lib.cut; rw [if_neg (by omega)]
theorem cut37_any (s : ByteArray) (w : World) (hs : s.size ≤ 4000000000) (he : Env w) :
    Calls Tryz.prog 27 #[.string s, .string ⟨#[37]⟩] w fun e w' => e = .returned (.tuple #[.string (bq (Lib.cut s.data.toList [37]).1), .string (bq (Lib.cut s.data.toList [37]).2.1), .bool (Lib.cut s.data.toList [37]).2.2]) ∧ ∃ n, w' = w.drewN n := by
  obtain ⟨m, hm⟩ := he.ml
  exact Tryz.strings_Cut s ⟨#[37]⟩ m w (by omega) hm
/-- The first percent sign. -/
theorem pct_split : ∀ (l : List UInt8), (∀ c ∈ l, c ≠ 37) ∨ ∃ a r, l = a ++ 37 :: r ∧ ∀ c ∈ a, c ≠ 37
  | [] => .inl (by simp)
  | c :: l => by
    by_cases h : c = 37
    · exact .inr ⟨[], l, by rw [h]; rfl, by simp⟩
    · rcases pct_split l with h1 | ⟨a, r, h1, h2⟩
      · exact .inl (fun d hd => (List.mem_cons.1 hd).elim (fun e => e ▸ h) (h1 d))
      · exact .inr ⟨c :: a, r, by rw [h1]; rfl, fun d hd => (List.mem_cons.1 hd).elim (fun e => e ▸ h) (h2 d)⟩
theorem cut37_none {l : List UInt8} (h : ∀ c ∈ l, c ≠ 37) : Lib.cut l [37] = (l, [], false) := cut37_no fun j e => h 37 (List.mem_of_getElem? e) rfl
theorem cut37_some {a r : List UInt8} (h : ∀ c ∈ a, c ≠ 37) : Lib.cut (a ++ 37 :: r) [37] = (a, r, true) := by
  have := cut37_yes (l := a ++ 37 :: r) (k := a.length) (by simp) (by simp) (fun j hj e => by
    rw [List.getElem?_append_left hj] at e
    exact h 37 (List.mem_of_getElem? e) rfl)
  rw [this]; simp
/-- A new list of parts. -/
theorem Rdr.add {B b : Nat} {ps ps' : List Pc} {acc : List UInt8} {p vl vl' vb : Value} {w w' : World} (h : Rdr B b ps acc p vl vb w) (hc : Ch (Go.Proofs.YtbdcmnhfmkefdaaGreatDoor.ob vl) w w') (ho : w'.ownsRow B 31 7 vl' ps'.length (ps'.flatMap pcC)) :
    Rdr B b ps' acc p vl' vb (w'.setCell ⟨b, 0, none⟩ vl') ∧ Ch (rdB b vl vb) w (w'.setCell ⟨b, 0, none⟩ vl') := by
  have h1 : Blk 63 b #[vl, p, vb] w' := h.blk.ch hc (fun e => h.nl b e rfl)
  have hs : Ch [b] w' (w'.setCell ⟨b, 0, none⟩ vl') := (Ch.refl _ _).set b 0 _ (.inl (by simp))
  refine ⟨⟨h1.set 0 _, h.lo, h.hp, ?_, ?_⟩, ?_⟩
  · exact hs.ownB ho (fun g hg => by simpa using ob_blk ho h1 (by decide) g hg)
  · exact hs.ownB (hc.ownB h.ob (fun g hg e => h.lb g e hg)) (fun g hg => by simpa using h.nb g hg)
  · exact (hc.mono (fun g hg => by simp [rdB, hg])).trans (hs.mono (fun g hg => by simp at hg; simp [rdB, hg]))
def sizeV (v : Value) : Nat := match v with
  | .string r => r.size
  | _ => 0
def PiSaid (r : Option (List Pc)) (B : Nat) (e : Ending) (w' : World) : Prop := match r with
  | none => e = .returned (.tuple #[.slice none 0 0, .int .i64 4])
  | some ps => ∃ v, e = .returned (.tuple #[v, .int .i64 0]) ∧ w'.ownsRow B 31 7 v ps.length (ps.flatMap pcC)
theorem piSaid_none {r : Option (List Pc)} {B : Nat} {w' : World} (h : r = none) : PiSaid r B (.returned (.tuple #[.slice none 0 0, .int .i64 4])) w' := by subst h; rfl
theorem piSaid_some {r : Option (List Pc)} {B : Nat} {w' : World} {ps : List Pc} {v : Value} (h : r = some ps) (ho : w'.ownsRow B 31 7 v ps.length (ps.flatMap pcC)) : PiSaid r B (.returned (.tuple #[v, .int .i64 0])) w' := by subst h; exact ⟨v, rfl, ho⟩
/-- The head of the loop: a rest, the parts before it, the text before it. -/
structure PH (w : World) (n : Nat) (R : Option (List Pc)) (x : ByteArray) (ps : List Pc) (acc : List UInt8) (p vl vb : Value) (wr : World) : Prop where
  rd : Rdr w.heap.size w.heap.size ps acc p vl vb wr
  bel : Below w.heap.size w wr
  res : R = (pieces x.data.toList acc).map fun q => ps ++ q
  n1 : ps.length + 2 * x.size ≤ 2 * n
  n2 : acc.length + x.size ≤ n
theorem withText_end (ps : List Pc) (acc : List UInt8) (q : List Pc) : ps ++ withText acc q = endT ps acc ++ q := by
  unfold withText endT
  split
  · rfl
  · simp
theorem endT_len (ps : List Pc) (acc : List UInt8) : (endT ps acc).length ≤ ps.length + 1 := by
  unfold endT
  split
  · omega
  · simp
theorem pre37 (l : List UInt8) : Lib.hasPrefix l [37] = true ↔ l.head? = some 37 := by
  cases l with
  | nil => simp [Lib.hasPrefix]
  | cons c r =>
    simp only [Lib.hasPrefix, List.isPrefixOf, List.head?_cons, Option.some.injEq, Bool.and_true, beq_iff_eq]
    exact ⟨fun h => h.symm, fun h => h.symm⟩
theorem rd_below {B b : Nat} {ps : List Pc} {acc : List UInt8} {p vl vb : Value} {w W W' : World} (h : Rdr B b ps acc p vl vb W) (hc : Ch (rdB b vl vb) W W') (hb : Below B w W) (hB : B ≤ W.heap.size) : Below B w W' := hb.trans (hc.belowB (fun g hg => (rdB_lo h g hg).1) hB)
set_option maxHeartbeats 16000000 in
set_option maxRecDepth 100000 in
theorem pieces_any (s : ByteArray) (w : World) (he : E9 w) (hs : s.size ≤ 100000) :
    Calls Tryz.prog 12 #[.string s] w fun e w' => PiSaid (pieces s.data.toList []) w.heap.size e w' ∧ Below w.heap.size w w' := by
  obtain ⟨i0, hi0, jz0, jz1, jz2⟩ := info_parts info_piece
  have HS : Hid (pieces s.data.toList [] = (pieces s.data.toList []).map fun q => [] ++ q) := Lib.hid (by simp)
  generalize hR : pieces s.data.toList [] = R at *
  rw [← hR] at HS
  have HS2 : Hid (R = (pieces s.data.toList []).map fun q => [] ++ q) := Lib.hid (by rw [← hR]; exact HS.out)
  clear HS hR
  go_enter Tryz.func12, Tryz.ntmps12
  go_wp2
  have HH0 : Hid (PH w s.size R s [] [] (.pointer none) (.slice none 0 0) (.slice none 0 0) (w.alloc (.cells #[.slice none 0 0, .pointer none, .slice none 0 0] 63))) := Lib.hid ⟨⟨Blk.new _ _ _ _ rfl, Nat.le_refl _, .inl rfl, World.ownsRow_nil _ _ _ _, World.ownsRow_nil _ _ _ _⟩, (Below.refl _ _).alloc (Nat.le_refl _) _, HS2.out, by simp, by simp⟩
  go_loopw [0] (fun v0 wr => ∃ (x : ByteArray), Hid (∃ ps acc p vl vb, PH w s.size R x ps acc p vl vb wr) ∧ v0 = .string x) (fun v0 _ => sizeV v0)
  case atStart => exact ⟨s, Lib.hid ⟨_, _, _, _, _, HH0.out⟩, rfl⟩
  case round =>
    obtain ⟨x, HX, rfl⟩ := hrel
    rename World => W0
    obtain ⟨ps, acc, p, vl, vb, hh⟩ := HX.out
    have HH := Lib.hid hh
    have hn1 := hh.n1
    have hn2 := hh.n2
    have hlx : x.data.toList.length = x.size := by simp
    have QC := Lib.hid (cut37_any x W0 (by omega) (he.on hh.bel).env)
    have hsz0 := hh.bel.size
    clear hh HX
    rcases pct_split x.data.toList with hno | ⟨a, r, hxe, ha⟩
    · rw [cut37_none hno, bq_eta] at QC
      have HR : Hid (R = some (endT ps (acc ++ x.data.toList))) := Lib.hid (by rw [HH.out.res, pieces_all _ _ hno]; simp [withText_end])
      clear hno
      go_upto_region 3 with (go_at_call 27; (with_reducible refine (QC.out).mono ?_); rintro e w2 ⟨rfl, k, rfl⟩)
      have HRd := Lib.hid (HH.out.rd.keep ((Ch.refl [] W0).drewN k))
      have HB := Lib.hid (HH.out.bel.trans (((Ch.refl [] W0).drewN k).below.mono hsz0))
      generalize W0.drewN k = W1 at *
      have QW := Lib.hid (rstr_any w.heap.size w.heap.size ps acc x p vl vb W1 HRd.out (by omega) HB.out.size)
      go_upto_region 5 with (go_at_call 28; (with_reducible refine (QW.out).mono ?_); rintro e w3 ⟨rfl, ⟨p2, vb2, hr2⟩, hc2⟩)
      have HB2 := Lib.hid (rd_below HRd.out hc2 HB.out HB.out.size)
      have QE := Lib.hid (endText_any w.heap.size w.heap.size ps (acc ++ x.data.toList) p2 vl vb2 w3 hr2 (by omega) HB2.out.size)
      go_upto_region 6 with (go_at_call 29; (with_reducible refine (QE.out).mono ?_); rintro e w4 ⟨rfl, ⟨p3, vl3, vb3, hr3⟩, hc3⟩)
      have HB3 := Lib.hid (rd_below hr2 hc3 HB2.out HB2.out.size)
      have c0 := hr3.cells.1
      have HR3 := Lib.hid hr3
      clear hr2 hr3 hc2 hc3 QW QE QC
      go_wp2
      go_ret2
      exact ⟨piSaid_some HR.out HR3.out.ol, HB3.out⟩
    · have hax : a.length + r.length + 1 = x.size := by
        have := congrArg List.length hxe
        simp at this; omega
      have HR0 : Hid (R = (pieces (37 :: r) (acc ++ a)).map fun q => ps ++ q) := Lib.hid (by rw [HH.out.res, hxe, pieces_texts _ _ _ ha])
      rw [hxe, cut37_some ha] at QC
      have hba := bq_size a
      have hla := bq_list a
      have QP : Hid (∀ W, Calls Tryz.prog 30 #[.string (bq r), .string ⟨#[37]⟩] W fun e w' => e = .returned (.tuple #[.string (bq (Lib.trimPrefix r [37])), .bool (Lib.hasPrefix r [37])]) ∧ W = w') := Lib.hid fun W => by
        have := cutp_any (bq r) ⟨#[37]⟩ W
        rw [bq_list, show (⟨#[37]⟩ : ByteArray).data.toList = [37] from rfl] at this
        exact this
      clear hxe ha hlx
      go_upto_region 3 with (go_at_call 27; (with_reducible refine (QC.out).mono ?_); rintro e w2 ⟨rfl, k, rfl⟩)
      have HRd := Lib.hid (HH.out.rd.keep ((Ch.refl [] W0).drewN k))
      have HB := Lib.hid (HH.out.bel.trans (((Ch.refl [] W0).drewN k).below.mono hsz0))
      generalize W0.drewN k = W1 at *
      have QW := rstr_any w.heap.size w.heap.size ps acc (bq a) p vl vb W1 HRd.out (by omega) HB.out.size
      rw [hla] at QW
      have QW := Lib.hid QW
      cases hpp : Lib.hasPrefix r [37] with
      | true =>
        rw [hpp] at QP
        obtain ⟨r2, rfl⟩ : ∃ r2, r = 37 :: r2 := by
          cases r with
          | nil => cases hpp
          | cons c r2 => exact ⟨r2, by have := (pre37 _).1 hpp; simp at this; rw [this]⟩
        have htp : Lib.trimPrefix (37 :: r2) [37] = r2 := by unfold Lib.trimPrefix; rw [if_pos hpp]; rfl
        rw [htp] at QP
        rw [pieces_pct] at HR0
        have hb2 := bq_size r2
        have hl2 := bq_list r2
        simp only [List.length_cons] at hax
        clear htp hpp
        go_upto_region 7 with (go_at_call 28; (with_reducible refine (QW.out).mono ?_); rintro e w3 ⟨rfl, ⟨p2, vb2, hr2⟩, hc2⟩)
        have HB2 := Lib.hid (rd_below HRd.out hc2 HB.out HB.out.size)
        have QB := Lib.hid (rbyte_any w.heap.size w.heap.size ps (acc ++ a) 37 37 rfl p2 vl vb2 w3 hr2 (by rw [List.length_append]; omega) HB2.out.size)
        go_upto_region 10 with (first | (go_at_call 30; (with_reducible refine (QP.out _).mono ?_); rintro e w' ⟨rfl, rfl⟩) | (go_at_call 31; (with_reducible refine (QB.out).mono ?_); rintro e w4 ⟨rfl, ⟨p3, vb3, hr3⟩, hc3⟩))
        have HB3 := Lib.hid (rd_below hr2 hc3 HB2.out HB2.out.size)
        have HN : Hid (PH w s.size R (bq r2) ps (acc ++ a ++ [37]) p3 vl vb3 w4) := Lib.hid ⟨hr3, HB3.out, by rw [HR0.out, hl2], by omega, by simp only [List.length_append, List.length_cons, List.length_nil]; omega⟩
        have hlt : (bq r2).size < x.size := by omega
        clear hr2 hr3 hc2 hc3 QW QB QP QC hb2 hl2 hba hla
        go_wp2
        go_roundw
        case rel => exact ⟨bq r2, Lib.hid ⟨_, _, _, _, _, HN.out⟩, rfl⟩
        case measure => exact hlt
      | false =>
        rw [hpp] at QP
        have hh37 : r.head? ≠ some 37 := fun e => by have := (pre37 r).2 e; rw [hpp] at this; cases this
        have hb2 := bq_size r
        have HDi := Lib.hid fun W he => dir_any (bq r) W he (by omega)
        rw [bq_list] at HDi
        clear hpp
        go_upto_region 7 with (go_at_call 28; (with_reducible refine (QW.out).mono ?_); rintro e w3 ⟨rfl, ⟨p2, vb2, hr2⟩, hc2⟩)
        have HB2 := Lib.hid (rd_below HRd.out hc2 HB.out HB.out.size)
        have HR2 := Lib.hid hr2
        clear hr2 hc2 QW QC
        cases hd : dirF r with
        | none =>
          have QD := HDi.out w3 (he.on HB2.out)
          rw [hd] at QD
          have QD : Hid (Calls Tryz.prog 32 #[.string (bq r)] w3 fun e w' => e = .returned (.tuple #[.agg #[.string ⟨#[]⟩, .int .u8 0, .bool false, .bool false, .bool false, .int .i64 0, .int .i64 0], .string ⟨#[]⟩, .bool false]) ∧ Below w3.heap.size w3 w') := Lib.hid QD
          have HRN : Hid (R = none) := Lib.hid (by rw [HR0.out, pieces_bad hh37 hd]; rfl)
          clear HDi hh37 hd
          go_wp2_with (first | (go_at_call 30; (with_reducible refine (QP.out _).mono ?_); rintro e w' ⟨rfl, rfl⟩) | (go_at_call 32; (with_reducible refine (QD.out).mono ?_); rintro e w4 ⟨rfl, hb4⟩))
          go_ret2
          exact ⟨piSaid_none HRN.out, (HB2.out.trans (hb4.mono HB2.out.size)).alloc (Nat.le_trans HB2.out.size hb4.size) _⟩
        | some qt =>
          obtain ⟨⟨tx, ve, mi, ze, pl, wd, pc⟩, t⟩ := qt
          have QD := HDi.out w3 (he.on HB2.out)
          rw [hd] at QD
          have QD : Hid (Calls Tryz.prog 32 #[.string (bq r)] w3 fun e w' => e = .returned (.tuple #[.agg #[.string (bq tx), .int .u8 (ve : Int), .bool mi, .bool ze, .bool pl, .int .i64 (wd : Int), .int .i64 pc], .string (bq t), .bool true]) ∧ Below w3.heap.size w3 w') := Lib.hid QD
          have HRS : Hid (R = (pieces t []).map fun q => (endT ps (acc ++ a) ++ [⟨tx, ve, mi, ze, pl, wd, pc⟩]) ++ q) := Lib.hid (by
            rw [HR0.out, pieces_dir hh37 hd, Option.map_map]
            congr 1; funext q
            simp only [Function.comp]
            rw [withText_end]; simp)
          have htl := dirF_len hd
          have hbt := bq_size t
          have hlt2 := bq_list t
          clear HDi hh37 hd HR0
          go_upto_region 14 with (first | (go_at_call 30; (with_reducible refine (QP.out _).mono ?_); rintro e w' ⟨rfl, rfl⟩) | (go_at_call 32; (with_reducible refine (QD.out).mono ?_); rintro e w4 ⟨rfl, hb4⟩))
          have HB4 := Lib.hid (HB2.out.trans (hb4.mono HB2.out.size))
          have HR4 := Lib.hid (HR2.out.keep (Ch.of_below hb4))
          clear hb4 HR2 QD QP
          have HP5 := Lib.hid (Blk.new w4 31 #[.string (bq tx), .int .u8 (ve : Int), .bool mi, .bool ze, .bool pl, .int .i64 (wd : Int), .int .i64 pc] _ rfl)
          have HR5 := Lib.hid (HR4.out.keep ((Ch.refl [] w4).alloc (.cells #[.string (bq tx), .int .u8 (ve : Int), .bool mi, .bool ze, .bool pl, .int .i64 (wd : Int), .int .i64 pc] 31)))
          have HB5 := Lib.hid (HB4.out.alloc HB4.out.size (.cells #[.string (bq tx), .int .u8 (ve : Int), .bool mi, .bool ze, .bool pl, .int .i64 (wd : Int), .int .i64 pc] 31))
          generalize w4.alloc (.cells #[.string (bq tx), .int .u8 (ve : Int), .bool mi, .bool ze, .bool pl, .int .i64 (wd : Int), .int .i64 pc] 31) = w5 at *
          have HNB : Hid (w4.heap.size ∉ rdB w.heap.size vl vb2) := Lib.hid fun e => by have := (rdB_lo HR4.out _ e).2; omega
          clear HR4 HB4
          generalize w4.heap.size = Bp at *
          have hps5 : ps.length ≤ 1000000 := by omega
          have QE := Lib.hid (endText_any w.heap.size w.heap.size ps (acc ++ a) p2 vl vb2 w5 HR5.out hps5 HB5.out.size)
          go_upto_region 15 with (go_at_call 29; (with_reducible refine (QE.out).mono ?_); rintro e w6 ⟨rfl, ⟨p3, vl3, vb3, hr3⟩, hc3⟩)
          have HB6 := Lib.hid (rd_below HR5.out hc3 HB5.out HB5.out.size)
          have HP6 := Lib.hid (HP5.out.ch hc3 HNB.out)
          obtain ⟨c0, -, -, f0, -, -⟩ := hr3.cells
          obtain ⟨b0, b1, b2, b3, b4, b5, b6⟩ : w6.cell? ⟨Bp, 0, none⟩ = some (.string (bq tx)) ∧ w6.cell? ⟨Bp, 1, none⟩ = some (.int .u8 (ve : Int)) ∧ w6.cell? ⟨Bp, 2, none⟩ = some (.bool mi) ∧ w6.cell? ⟨Bp, 3, none⟩ = some (.bool ze) ∧ w6.cell? ⟨Bp, 4, none⟩ = some (.bool pl) ∧ w6.cell? ⟨Bp, 5, none⟩ = some (.int .i64 (wd : Int)) ∧ w6.cell? ⟨Bp, 6, none⟩ = some (.int .i64 pc) := ⟨HP6.out.cell 0, HP6.out.cell 1, HP6.out.cell 2, HP6.out.cell 3, HP6.out.cell 4, HP6.out.cell 5, HP6.out.cell 6⟩
          have HR6 := Lib.hid hr3
          have hlt6 := hr3.blk.lt
          have hlp6 := HP6.out.lt
          have hel := endT_len ps (acc ++ a)
          have HOA := Lib.hid fun o => ((Ch.refl [] w6).alloc o).ownB hr3.ol (by simp)
          have hz6 := HB6.out.size
          clear hr3 hc3 QE HP5 HP6 HR5 HB5 HNB
          generalize endT ps (acc ++ a) = ps6 at *
          go_wp2_with (at_builtin; refine wpList_append_own _ rfl _ _ 23 rfl w.heap.size 31 i0 (.agg #[.string ⟨#[]⟩, .int .u8 0, .bool false, .bool false, .bool false, .int .i64 0, .int .i64 0]) 7 40 Tryz.underlying23 hi0 jz0 jz1 jz2 rfl (by decide) _ _ _ rfl (HOA.out _) ⟨w6.heap.size, 0, none⟩ 1 1 [.string (bq tx), .int .u8 (ve : Int), .bool mi, .bool ze, .bool pl, .int .i64 (wd : Int), .int .i64 pc] rfl rfl (news_alloc w6 #[.string (bq tx), .int .u8 (ve : Int), .bool mi, .bool ze, .bool pl, .int .i64 (wd : Int), .int .i64 pc] _ _ rfl) (by intro u' hu'; simp at hu'; rcases hu' with rfl | rfl | rfl | rfl | rfl | rfl | rfl <;> rfl) (by unfold maxLen; omega) (by omega) (by simp; omega) ?_)
          intro v2 w7 hown7 hgrow _
          obtain ⟨g, cap, rfl⟩ := ownsRow_form hown7 (by omega)
          have hcg : Ch (Go.Proofs.YtbdcmnhfmkefdaaGreatDoor.ob vl3) w6 w7 := ((Ch.refl _ w6).alloc _).trans (Ch.of_grown hgrow (fun b e => mem_ob.2 e))
          have hb7 := HR6.out.blk.ch hcg (fun e => HR6.out.nl _ e rfl)
          have HA := Lib.hid (HR6.out.add (ps' := ps6 ++ [⟨tx, ve, mi, ze, pl, wd, pc⟩]) (vl' := .slice (some ⟨g, 0, none⟩) (ps6.length + 1) cap) hcg (by
            have e1 : (ps6 ++ [(⟨tx, ve, mi, ze, pl, wd, pc⟩ : Pc)]).length = ps6.length + 1 := by simp
            have e2 : (ps6 ++ [(⟨tx, ve, mi, ze, pl, wd, pc⟩ : Pc)]).flatMap pcC = ps6.flatMap pcC ++ [.string (bq tx), .int .u8 (ve : Int), .bool mi, .bool ze, .bool pl, .int .i64 (wd : Int), .int .i64 pc] := by rw [List.flatMap_append]; simp [pcC]
            rw [e1, e2]; exact hown7))
          have k0 : w7.cell? ⟨w.heap.size, 0, none⟩ = some vl3 := hb7.cell 0
          have k0f := hb7.fz 0
          have HN : Hid (PH w s.size R (bq t) (ps6 ++ [⟨tx, ve, mi, ze, pl, wd, pc⟩]) [] p3 (.slice (some ⟨g, 0, none⟩) (ps6.length + 1) cap) vb3 (w7.setCell ⟨w.heap.size, 0, none⟩ (.slice (some ⟨g, 0, none⟩) (ps6.length + 1) cap))) := Lib.hid ⟨HA.out.1, rd_below HR6.out HA.out.2 HB6.out hz6, by rw [HRS.out, hlt2], by simp only [List.length_append, List.length_cons, List.length_nil]; omega, by simp only [List.length_nil]; omega⟩
          have hlt : (bq t).size < x.size := by omega
          clear hown7 hgrow hcg hb7 HA HOA HR6 HRS hlt2 hbt hla hba b0 b1 b2 b3 b4 b5 b6 c0 f0
          go_wp2
          go_roundw
          case rel => exact ⟨bq t, Lib.hid ⟨_, _, _, _, _, HN.out⟩, rfl⟩
          case measure => exact hlt
end Go.Proofs.YtbdcmnhfmkefdaaGreatDoor
