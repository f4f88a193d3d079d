/- Contracts of layer 9: Format. -/
import Derived.Test.YtbdcmnhfmkefdaaGreatDoorFmtJ
namespace Go.Proofs.YtbdcmnhfmkefdaaGreatDoor
open Go.RowKit Go.Joins M1 M2 M9
set_option linter.unusedVariables false
theorem pcs_bd : ∀ (n : Nat) (l acc : List UInt8) (q : List Pc), pcs n l acc = some q → l.length ≤ n → q.length ≤ 2 * l.length + 1 ∧ ∀ p ∈ q, p.text.length ≤ acc.length + l.length
  | 0, l, acc, q, h, hl => by
    injection h with h; subst h
    unfold withText
    split
    · simp
    · simp [textPc]
  | n + 1, [], acc, q, h, _ => by
    injection h with h; subst h
    unfold withText
    split
    · simp
    · simp [textPc]
  | n + 1, c :: r, acc, q, h, hl => by
    simp only [List.length_cons] at hl
    rw [pcs] at h
    split at h
    · have := pcs_bd n _ _ _ h (by omega)
      simp only [List.length_append, List.length_cons, List.length_nil] at this ⊢
      exact ⟨by omega, fun p hp => by have := this.2 p hp; omega⟩
    · split at h
      · have := pcs_bd n _ _ _ h (by rw [List.length_drop]; omega)
        simp only [List.length_append, List.length_cons, List.length_nil, List.length_drop] at this ⊢
        exact ⟨by omega, fun p hp => by have := this.2 p hp; omega⟩
      · cases hd : dirF r with
        | none => rw [hd] at h; cases h
        | some x =>
          obtain ⟨p0, t⟩ := x
          have hlt := dirF_len hd
          have hok := (dirF_ok hd).1
          rw [hd] at h
          simp only [] at h
          cases hq : pcs n t [] with
          | none => rw [hq] at h; cases h
          | some q' =>
            rw [hq] at h
            injection h with h
            have := pcs_bd n _ _ _ hq (by omega)
            have htx : p0.text.length = 0 := by
              rcases hok with hk | hk
              · exact absurd hk.1 (dirF_ok hd).2
              · rw [hk.1]; rfl
            simp only [List.length_nil, List.length_cons] at this ⊢
            subst h
            unfold withText
            split
            · simp only [List.length_cons]
              refine ⟨by omega, fun p hp => ?_⟩
              rcases List.mem_cons.1 hp with rfl | hp
              · omega
              · have := this.2 p hp; omega
            · simp only [List.length_cons]
              refine ⟨by omega, fun p hp => ?_⟩
              rcases List.mem_cons.1 hp with rfl | hp
              · simp [textPc]
              · rcases List.mem_cons.1 hp with rfl | hp
                · omega
                · have := this.2 p hp; omega
theorem pieces_bd {l acc : List UInt8} {q : List Pc} (h : pieces l acc = some q) : q.length ≤ 2 * l.length + 1 ∧ ∀ p ∈ q, p.text.length ≤ acc.length + l.length := pcs_bd _ _ _ _ h (Nat.le_refl _)
theorem writtenF_len {p : Pc} {a : Vl} {t : List UInt8} (hs : a.str.length ≤ 100000) (hp : -1 ≤ p.places) (hp2 : p.places ≤ 12) (h : writtenF p a = some t) : t.length ≤ 600000 := by
  unfold writtenF at h
  cases hb : bareF p.verb p.places a with
  | none => rw [hb] at h; cases h
  | some x =>
    rw [hb] at h
    injection h with h
    have h1 := bareF_len hs hp hp2 hb
    have h2 : (signF p x).1.length ≤ 1 ∧ (signF p x).2.length ≤ x.length := by
      unfold signF
      split
      · split
        · simp
        · split <;> simp
      · simp
    have h3 : (fillF p (signF p x).1 (signF p x).2).length ≤ 99 + (signF p x).2.length := by
      unfold fillF
      split
      · have := missF_le ((signF p x).1.length + (signF p x).2.length) p.width
        simp only [List.length_append, List.length_replicate]; omega
      · omega
    subst h
    unfold padF
    have h4 := missF_le ((signF p x).1 ++ fillF p (signF p x).1 (signF p x).2).length p.width
    split
    · simp only [List.length_append, List.length_replicate] at *; omega
    · simp only [List.length_append, List.length_replicate] at *; omega
/-- An argument in memory. -/
structure Ar where
  kind : Int
  p : Int
  q : Int
  s : ByteArray
  ref : Int
def Ar.vl (a : Ar) : Vl := vlu a.kind a.p a.q a.s a.ref
def ArgV (w : World) (g o : Nat) (as' : List Ar) : Prop := ∀ (j : Nat) (h : j < as'.length), w.cell? ⟨g, o + j * 5, none⟩ = some (.int .i64 as'[j].kind) ∧ w.cell? ⟨g, o + j * 5 + 1, none⟩ = some (.int .i64 as'[j].p) ∧ w.cell? ⟨g, o + j * 5 + 2, none⟩ = some (.int .i64 as'[j].q) ∧ w.cell? ⟨g, o + j * 5 + 3, none⟩ = some (.string as'[j].s) ∧ w.cell? ⟨g, o + j * 5 + 4, none⟩ = some (.int .i64 as'[j].ref)
theorem ArgV.kept {w w' : World} {g o : Nat} {as' : List Ar} (h : ArgV w g o as') (hb : Below w.heap.size w w') (hg : g < w.heap.size) : ArgV w' g o as' := fun j hj => by
  obtain ⟨h0, h1, h2, h3, h4⟩ := h j hj
  exact ⟨by rw [hb.cell hg]; exact h0, by rw [hb.cell hg]; exact h1, by rw [hb.cell hg]; exact h2, by rw [hb.cell hg]; exact h3, by rw [hb.cell hg]; exact h4⟩
/-- Arguments that a slice holds. -/
structure Args (w : World) (v : Value) (as' : List Ar) : Prop where
  form : ∃ p c, v = .slice p as'.length c ∧ (0 < as'.length → ∃ g o, p = some ⟨g, o, none⟩ ∧ g < w.heap.size ∧ ArgV w g o as')
theorem Args.below {w w' : World} {v : Value} {as' : List Ar} (h : Args w v as') (hb : Below w.heap.size w w') : Args w' v as' := by
  obtain ⟨p, c, rfl, h2⟩ := h.form
  refine ⟨p, c, rfl, fun h0 => ?_⟩
  obtain ⟨g, o, h3, h4, h5⟩ := h2 h0
  exact ⟨g, o, h3, Nat.lt_of_lt_of_le h4 hb.size, h5.kept hb h4⟩
def FmSaid (r : Except (Nat × Int) (List UInt8)) (e : Ending) : Prop := match r with
  | .error (k, c) => e = .returned (.tuple #[.string ⟨#[]⟩, .int .i64 (k : Int), .int .i64 c])
  | .ok t => e = .returned (.tuple #[.string (bq t), .int .i64 0, .int .i64 0])
theorem fmSaid_err {r : Except (Nat × Int) (List UInt8)} {k : Nat} {c : Int} (h : r = .error (k, c)) {n : Int} (hn : n = (k : Int)) : FmSaid r (.returned (.tuple #[.string ⟨#[]⟩, .int .i64 n, .int .i64 c])) := by subst h hn; rfl
theorem fmSaid_ok {r : Except (Nat × Int) (List UInt8)} {t : List UInt8} (h : r = .ok t) {x : ByteArray} (hx : x = bq t) : FmSaid r (.returned (.tuple #[.string x, .int .i64 0, .int .i64 0])) := by subst h hx; rfl
theorem flat_at (ps : List Pc) : ∀ (k i : Nat) (hk : k < ps.length) (hi : i < 7), (ps.flatMap pcC)[k * 7 + i]? = (pcC ps[k])[i]? := by
  induction ps with
  | nil => intro k i hk; simp at hk
  | cons p ps ih =>
    intro k i hk hi
    cases k with
    | zero =>
      rw [List.flatMap_cons, List.getElem?_append_left (by simp [pcC]; omega)]; simp
    | succ k =>
      rw [List.flatMap_cons, List.getElem?_append_right (by simp [pcC]; omega), show (k + 1) * 7 + i - (pcC p).length = k * 7 + i by simp [pcC]; omega]
      exact ih k i (by simpa using hk) hi
/-- The cells of a part in the list. -/
theorem row_cells {w : World} {B : Nat} {g : Nat} {cap : Nat} {ps : List Pc} (h : w.ownsRow B 31 7 (.slice (some ⟨g, 0, none⟩) ps.length cap) ps.length (ps.flatMap pcC)) {k : Nat} (hk : k < ps.length) : ∀ i, i < 7 → w.cell? ⟨g, k * 7 + i, none⟩ = (pcC ps[k])[i]? := by
  intro i hi
  have h1 := flat_at ps k i hk hi
  obtain ⟨u, hu⟩ : ∃ u, (pcC ps[k])[i]? = some u := ⟨(pcC ps[k])[i]'(by simp [pcC]; omega), List.getElem?_eq_getElem _⟩
  rw [hu] at h1 ⊢
  have h2 := h.cells (g := g) rfl (k * 7 + i) u h1
  have ha : (⟨g, 0, none⟩ : Addr).add (k * 7 + i) = ⟨g, k * 7 + i, none⟩ := by
    unfold Addr.add; split
    · rename_i e; rw [e]
    · rw [Nat.zero_add]
  rw [ha] at h2; exact h2
theorem bls3 (B b : Nat) (l : List UInt8) (y : ByteArray) (w : World) (h : Bl B b l w) (hl : l.length + y.size ≤ 100000000000000) (hB : B ≤ w.heap.size) :
    Calls Tryz.prog 28 #[(.pointer (some ⟨b, 0, none⟩)), .string y] w fun e w' => e = .returned (.tuple #[.int .i64 y.size, .nilIface]) ∧ Bl B b (l ++ y.data.toList) w' ∧ Below B w w' := by
  refine (bstr_any B b (Lib.byteCells l) y w h (by rw [Lib.byteCells_length]; omega) hB).mono fun e w' ⟨h1, h2, h3, h4⟩ => ⟨h1, .inr ?_, h3⟩
  rw [show Lib.byteCells (l ++ y.data.toList) = Lib.byteCells l ++ Lib.strCells y by simp [Lib.byteCells, Lib.strCells]]
  exact h2
theorem fmtF_nil (vs : List Vl) (u : Nat) (acc : List UInt8) : fmtF [] vs u acc = if 4096 < acc.length then .error (0, 14) else .ok acc := rfl
theorem fmtF_text {p : Pc} {ps : List Pc} {vs : List Vl} {u : Nat} {acc : List UInt8} (h : p.verb = 0) : fmtF (p :: ps) vs u acc = fmtF ps vs u (acc ++ p.text) := by rw [fmtF, if_pos h]
theorem fmtF_none {p : Pc} {ps : List Pc} {vs : List Vl} {u : Nat} {acc : List UInt8} (h : p.verb ≠ 0) (h2 : vs[u]? = none) : fmtF (p :: ps) vs u acc = .error (u + 1, 18) := by rw [fmtF, if_neg h, h2]
theorem fmtF_bad {p : Pc} {ps : List Pc} {vs : List Vl} {u : Nat} {acc : List UInt8} {a : Vl} (h : p.verb ≠ 0) (h2 : vs[u]? = some a) (h3 : writtenF p a = none) : fmtF (p :: ps) vs u acc = .error (u + 1, 8) := by
  rw [fmtF, if_neg h, h2]; simp only []; rw [h3]
theorem fmtF_ok {p : Pc} {ps : List Pc} {vs : List Vl} {u : Nat} {acc : List UInt8} {a : Vl} {t : List UInt8} (h : p.verb ≠ 0) (h2 : vs[u]? = some a) (h3 : writtenF p a = some t) : fmtF (p :: ps) vs u acc = fmtF ps vs (u + 1) (acc ++ t) := by
  rw [fmtF, if_neg h, h2]; simp only []; rw [h3]
/-- The head of Format's loop. -/
structure FH (w w1 : World) (ps : List Pc) (vs : List Vl) (R : Except (Nat × Int) (List UInt8)) (k u : Nat) (acc : List UInt8) (wr : World) : Prop where
  bl : Bl w1.heap.size w1.heap.size acc wr
  bel : Below w1.heap.size w1 wr
  res : R = fmtF (ps.drop k) vs u acc
  len : acc.length ≤ k * 1000000
  us : u ≤ k
set_option maxHeartbeats 16000000 in
set_option maxRecDepth 100000 in
theorem format_any (f : ByteArray) (v : Value) (as' : List Ar) (w : World) (he : E9 w) (hf : f.size ≤ 100000) (ha : Args w v as') (hal : as'.length ≤ 1000000) (has : ∀ a ∈ as', a.s.size ≤ 100000) :
    Calls Tryz.prog 15 #[.string f, v] w fun e w' => FmSaid (formatF f.data.toList (as'.map Ar.vl)) e ∧ Below w.heap.size w w' := by
  have QP := Lib.hid (pieces_any f w he hf)
  have HEV := Lib.hid fun W (hb : Below w.heap.size w W) => he.on hb
  have HAV := Lib.hid fun W (hb : Below w.heap.size w W) => ha.below hb
  obtain ⟨vp, vc, rfl, -⟩ := ha.form
  have hll : f.data.toList.length = f.size := by simp
  have HFo : Hid (formatF f.data.toList (as'.map Ar.vl) = match pieces f.data.toList [] with | none => .error (0, 4) | some ps => fmtF ps (as'.map Ar.vl) 0 []) := Lib.hid rfl
  generalize formatF f.data.toList (as'.map Ar.vl) = R at *
  clear he
  cases hpp : pieces f.data.toList [] with
  | none =>
    rw [hpp] at QP HFo
    have HX : Hid (R = .error (0, 4)) := HFo
    clear hpp HFo ha
    go_enter Tryz.func15, Tryz.ntmps15
    go_wp2_with (go_at_call 12; (with_reducible refine (QP.out).mono ?_); rintro e w1 ⟨rfl, hb1⟩)
    go_ret3
    exact ⟨fmSaid_err HX.out rfl, hb1⟩
  | some ps =>
    rw [hpp] at QP HFo
    have HX : Hid (R = fmtF ps (as'.map Ar.vl) 0 []) := HFo
    obtain ⟨hbd1, hbd2⟩ := pieces_bd hpp
    have hok := pieces_ok hpp
    have HBD : Hid (∀ p ∈ ps, p.text.length ≤ 100000) := Lib.hid fun p hp => by have := hbd2 p hp; simp only [List.length_nil] at this; omega
    have HOK := Lib.hid hok
    have hpl : ps.length ≤ 300000 := by omega
    have HAS := Lib.hid has
    generalize hvs : as'.map Ar.vl = vs at *
    have HVS := Lib.hid hvs
    clear hpp HFo ha hbd1 hbd2 hok has hll hvs
    go_enter Tryz.func15, Tryz.ntmps15
    go_upto_region 4 with (go_at_call 12; (with_reducible refine (QP.out).mono ?_); rintro e w1 ⟨⟨v, rfl, ho⟩, hb1⟩)
    obtain ⟨q, cap, rfl⟩ := ownB_form ho
    have HO := Lib.hid ho
    have HB1 := Lib.hid hb1
    have HE1 := Lib.hid (HEV.out w1 hb1)
    have HA1 := Lib.hid (HAV.out w1 hb1)
    clear ho hb1 QP
    have HF0 : Hid (FH w w1 ps vs R 0 0 [] (w1.alloc (.cells #[.pointer none, .slice none 0 0] 61))) := Lib.hid ⟨bl_new w1, (Below.refl _ _).alloc (Nat.le_refl _) _, HX.out, by simp, by simp⟩
    go_wp2
    go_loopw [10, 25] (fun v10 v25 wr => ∃ k u : Nat, k ≤ ps.length ∧ v10 = .int .i64 (u : Int) ∧ v25 = .int .i64 (k : Int) ∧ u ≤ k ∧ Hid (∃ acc, FH w w1 ps vs R k u acc wr)) (fun _ v25 _ => ps.length - (intOf v25).toNat)
    case atStart => exact ⟨0, 0, Nat.zero_le _, rfl, rfl, Nat.le_refl _, Lib.hid ⟨[], HF0.out⟩⟩
    case round =>
      obtain ⟨k, u, hk, rfl, rfl, huk, HA⟩ := hrel
      rename World => W0
      obtain ⟨acc, hh⟩ := HA.out
      have HH := Lib.hid hh
      have hz0 := hh.bel.size
      have hal2 := hh.len
      clear hh HA
      by_cases hlt : k < ps.length
      · have hlt' : (k : Int) < (ps.length : Int) := by omega
        obtain ⟨⟨tx, ve, mi, ze, pl, wd, pc⟩, hpe⟩ : ∃ x, ps[k] = x := ⟨_, rfl⟩
        have hform := ownsRow_form HO.out (by omega)
        obtain ⟨g, cap2, hge⟩ := hform
        obtain ⟨rfl, rfl⟩ : q = some ⟨g, 0, none⟩ ∧ cap = cap2 := by injection hge with h1 _ h3; exact ⟨h1, h3⟩
        clear hge
        have hg1 : g < w1.heap.size := (HO.out.lt g rfl).2
        have hrc := row_cells HO.out hlt
        rw [hpe] at hrc
        have kc : ∀ i, i < 7 → W0.cell? ⟨g, k * 7 + i, none⟩ = (pcC ⟨tx, ve, mi, ze, pl, wd, pc⟩)[i]? := fun i hi => by rw [HH.out.bel.cell (p := ⟨g, k * 7 + i, none⟩) hg1]; exact hrc i hi
        obtain ⟨c0, c1, c2, c3, c4, c5, c6⟩ : W0.cell? ⟨g, k * 7, none⟩ = some (.string (bq tx)) ∧ W0.cell? ⟨g, k * 7 + 1, none⟩ = some (.int .u8 (ve : Int)) ∧ W0.cell? ⟨g, k * 7 + 2, none⟩ = some (.bool mi) ∧ W0.cell? ⟨g, k * 7 + 3, none⟩ = some (.bool ze) ∧ W0.cell? ⟨g, k * 7 + 4, none⟩ = some (.bool pl) ∧ W0.cell? ⟨g, k * 7 + 5, none⟩ = some (.int .i64 (wd : Int)) ∧ W0.cell? ⟨g, k * 7 + 6, none⟩ = some (.int .i64 pc) := ⟨kc 0 (by decide), kc 1 (by decide), kc 2 (by decide), kc 3 (by decide), kc 4 (by decide), kc 5 (by decide), kc 6 (by decide)⟩
        have HDR : Hid (ps.drop k = ⟨tx, ve, mi, ze, pl, wd, pc⟩ :: ps.drop (k + 1)) := Lib.hid (by rw [← hpe]; exact List.drop_eq_getElem_cons hlt)
        have hmem := List.getElem_mem hlt
        rw [hpe] at hmem
        have htx := HBD.out _ hmem
        have hokp := HOK.out _ hmem
        simp only [] at htx
        clear hrc kc hpe hmem
        go_upto_region 9 with fail
        have HP := Lib.hid (Blk.new W0 31 #[.string (bq tx), .int .u8 (ve : Int), .bool mi, .bool ze, .bool pl, .int .i64 (wd : Int), .int .i64 pc] _ rfl)
        have HBl := Lib.hid (bl_ch HH.out.bl ((Ch.refl [] W0).alloc (.cells #[.string (bq tx), .int .u8 (ve : Int), .bool mi, .bool ze, .bool pl, .int .i64 (wd : Int), .int .i64 pc] 31)) (by simp) (by simp))
        have HBV := Lib.hid (HH.out.bel.alloc hz0 (.cells #[.string (bq tx), .int .u8 (ve : Int), .bool mi, .bool ze, .bool pl, .int .i64 (wd : Int), .int .i64 pc] 31))
        have HRes := Lib.hid (HH.out.res.trans (by rw [HDR.out]))
        clear HH c0 c1 c2 c3 c4 c5 c6 HDR
        generalize W0.alloc (.cells #[.string (bq tx), .int .u8 (ve : Int), .bool mi, .bool ze, .bool pl, .int .i64 (wd : Int), .int .i64 pc] 31) = V at *
        generalize W0.heap.size = Bp at *
        have hzv := HBV.out.size
        have HBw := Lib.hid (HB1.out.trans (HBV.out.mono HB1.out.size))
        obtain ⟨b0, b1, b2, b3, b4, b5, b6⟩ : V.cell? ⟨Bp, 0, none⟩ = some (.string (bq tx)) ∧ V.cell? ⟨Bp, 1, none⟩ = some (.int .u8 (ve : Int)) ∧ V.cell? ⟨Bp, 2, none⟩ = some (.bool mi) ∧ V.cell? ⟨Bp, 3, none⟩ = some (.bool ze) ∧ V.cell? ⟨Bp, 4, none⟩ = some (.bool pl) ∧ V.cell? ⟨Bp, 5, none⟩ = some (.int .i64 (wd : Int)) ∧ V.cell? ⟨Bp, 6, none⟩ = some (.int .i64 pc) := ⟨HP.out.cell 0, HP.out.cell 1, HP.out.cell 2, HP.out.cell 3, HP.out.cell 4, HP.out.cell 5, HP.out.cell 6⟩
        by_cases hv0 : ve = 0
        · subst hv0
          have QW := bls3 w1.heap.size w1.heap.size acc (bq tx) V HBl.out (by rw [bq_size]; omega) hzv
          rw [bq_list] at QW
          have QW := Lib.hid QW
          have HRn : Hid (R = fmtF (ps.drop (k + 1)) vs u (acc ++ tx)) := Lib.hid (HRes.out.trans (fmtF_text rfl))
          clear HRes hokp
          go_wp2_with (go_at_call 28; (with_reducible refine (QW.out).mono ?_); rintro e w3 ⟨rfl, hb3, hc3⟩)
          have HN : Hid (FH w w1 ps vs R (k + 1) u (acc ++ tx) w3) := Lib.hid ⟨hb3, HBV.out.trans hc3, HRn.out, by rw [List.length_append]; omega, by omega⟩
          clear hb3 hc3 QW
          go_roundw
          case rel => exact ⟨k + 1, u, by omega, rfl, by go_num, by omega, Lib.hid ⟨_, HN.out⟩⟩
          case measure => simp [intOf]; omega
        · have ev : ((ve : Int) == 0) = false := by simp; omega
          obtain ⟨-, ⟨c, hcv, hce⟩, hw99, hp0, hp12⟩ := hokp.resolve_left (fun h => hv0 h.1)
          simp only [] at hce hw99 hp0 hp12
          subst hce
          have hu1 : IntKind.i64.wrap ((u : Int) + 1) = (u : Int) + 1 := IntWalk.i64_in _ (by omega)
          have hu2 : IntKind.i64.wrap ((u : Int) + 1 - 1) = (u : Int) := by rw [show (u : Int) + 1 - 1 = (u : Int) by omega]; exact IntWalk.i64_in _ (by omega)
          have hu3 : IntKind.i64.wrap (u : Int) = (u : Int) := IntWalk.i64_in _ (by omega)
          by_cases hua : u < as'.length
          · have d1 : ¬ (as'.length : Int) < (u : Int) + 1 := by omega
            have hua' : (u : Int) < (as'.length : Int) := by omega
            obtain ⟨a, hae⟩ : ∃ x, as'[u] = x := ⟨_, rfl⟩
            have hvu : vs[u]? = some a.vl := by rw [← HVS.out, List.getElem?_map, List.getElem?_eq_getElem hua, hae]; rfl
            obtain ⟨vp2, vc2, hve, hvf⟩ := (HA1.out.below HBV.out).form
            obtain ⟨ga, oa, hvp, hga, hav⟩ := hvf (by omega)
            obtain ⟨rfl, rfl⟩ : vp = some ⟨ga, oa, none⟩ ∧ vc = vc2 := by injection hve with h1 _ h3; exact ⟨h1.trans hvp, h3⟩
            obtain ⟨e0, e1, e2, e3, e4⟩ := hav u hua
            have hasz := HAS.out _ (List.getElem_mem hua)
            rw [hae] at e0 e1 e2 e3 e4 hasz
            obtain ⟨ak, ap, aq, az, ar⟩ := a
            simp only [] at e0 e1 e2 e3 e4 hasz
            have HVU := Lib.hid hvu
            have QW := written_any c hcv tx mi ze pl wd pc ak ap aq az ar V.drew (HEV.out _ HBw.out.drew) hasz hp0 hp12 hw99
            have HWL := Lib.hid fun t (h : writtenF ⟨tx, c.toNat, mi, ze, pl, wd, pc⟩ (vlu ak ap aq az ar) = some t) => writtenF_len (a := vlu ak ap aq az ar) (by simpa [vlu] using hasz) hp0 hp12 h
            have HNO := Lib.hid fun (h : writtenF ⟨tx, c.toNat, mi, ze, pl, wd, pc⟩ (vlu ak ap aq az ar) = none) => HRes.out.trans (fmtF_bad (p := ⟨tx, c.toNat, mi, ze, pl, wd, pc⟩) hv0 HVU.out h)
            have HYE := Lib.hid fun t (h : writtenF ⟨tx, c.toNat, mi, ze, pl, wd, pc⟩ (vlu ak ap aq az ar) = some t) => HRes.out.trans (fmtF_ok (p := ⟨tx, c.toNat, mi, ze, pl, wd, pc⟩) hv0 HVU.out h)
            clear hve hvf hvp hav hae hvu HVU hua HRes hv0
            cases hwr : writtenF ⟨tx, c.toNat, mi, ze, pl, wd, pc⟩ (vlu ak ap aq az ar) with
            | none =>
              rw [hwr] at QW
              have QW : Hid (Calls Tryz.prog 34 #[.agg #[.string (bq tx), .int .u8 (c.toNat : Int), .bool mi, .bool ze, .bool pl, .int .i64 (wd : Int), .int .i64 pc], .agg #[.int .i64 ak, .int .i64 ap, .int .i64 aq, .string az, .int .i64 ar]] V.drew fun e w' => e = .returned (.tuple #[.string ⟨#[]⟩, .bool false]) ∧ Below V.drew.heap.size V.drew w') := Lib.hid QW
              have HX2 := Lib.hid (HNO.out hwr)
              clear hwr HNO HYE HWL
              go_upto_region 14 with fail
              go_region_law (go_simp; go_at_call 34; (with_reducible refine (QW.out).mono ?_); rintro e w4 ⟨rfl, hb4⟩)
              all_goals (
                go_wp2
                go_ret3
                exact ⟨fmSaid_err HX2.out (by omega), HBw.out.drew.trans (hb4.mono HBw.out.size)⟩)
            | some t =>
              rw [hwr] at QW
              have QW : Hid (Calls Tryz.prog 34 #[.agg #[.string (bq tx), .int .u8 (c.toNat : Int), .bool mi, .bool ze, .bool pl, .int .i64 (wd : Int), .int .i64 pc], .agg #[.int .i64 ak, .int .i64 ap, .int .i64 aq, .string az, .int .i64 ar]] V.drew fun e w' => e = .returned (.tuple #[.string (bq t), .bool true]) ∧ Below V.drew.heap.size V.drew w') := Lib.hid QW
              have HX2 := Lib.hid (HYE.out t hwr)
              have htl := HWL.out t hwr
              clear hwr HNO HYE HWL
              go_upto_region 14 with fail
              go_region_law (go_simp; go_at_call 34; (with_reducible refine (QW.out).mono ?_); rintro e w4 ⟨rfl, hb4⟩)
              all_goals (
                have HBl4 := Lib.hid (bl_ch (w := V) HBl.out ((Ch.refl [] V).drew.trans (Ch.of_below (S := []) hb4)) (by simp) (by simp))
                have HB4 := Lib.hid (HBV.out.drew.trans (hb4.mono hzv))
                have hz4 := HB4.out.size
                have QS := bls3 w1.heap.size w1.heap.size acc (bq t) w4 HBl4.out (by rw [bq_size]; omega) hz4
                rw [bq_list] at QS
                have QS := Lib.hid QS
                go_wp2_with (go_at_call 28; (with_reducible refine (QS.out).mono ?_); rintro e w5 ⟨rfl, hb5, hc5⟩)
                have HN : Hid (FH w w1 ps vs R (k + 1) (u + 1) (acc ++ t) w5) := Lib.hid ⟨hb5, HB4.out.trans hc5, HX2.out, by rw [List.length_append]; omega, by omega⟩
                clear hb5 hc5 QS hb4
                go_roundw
                case rel => exact ⟨k + 1, u + 1, by omega, by go_num, by go_num, by omega, Lib.hid ⟨_, HN.out⟩⟩
                case measure => simp [intOf]; omega)
          · have d1 : (as'.length : Int) < (u : Int) + 1 := by omega
            have hvu : vs[u]? = none := by rw [← HVS.out, List.getElem?_map, List.getElem?_eq_none (by omega)]; rfl
            have HRn := Lib.hid (HRes.out.trans (fmtF_none hv0 hvu))
            clear HRes hvu hv0 hua
            go_wp2
            go_ret3
            exact ⟨fmSaid_err HRn.out (by omega), HBw.out⟩
      · have hke : k = ps.length := by omega
        have hlt' : ¬ (k : Int) < (ps.length : Int) := by omega
        have HRn : Hid (R = if 4096 < acc.length then .error (0, 14) else .ok acc) := Lib.hid (by rw [HH.out.res, hke, List.drop_length, fmtF_nil])
        have QL := Lib.hid (bll w1.heap.size w1.heap.size acc W0 HH.out.bl)
        have HBw := Lib.hid (HB1.out.trans (HH.out.bel.mono HB1.out.size))
        clear hke
        by_cases h4 : 4096 < acc.length
        · have d4 : (4096 : Int) < (acc.length : Int) := by omega
          have HX2 := Lib.hid (HRn.out.trans (if_pos h4))
          clear h4
          go_wp2_with (go_at_call 35; (with_reducible refine (QL.out).mono ?_); rintro e w' ⟨rfl, rfl⟩)
          go_ret3
          exact ⟨fmSaid_err HX2.out rfl, HBw.out⟩
        · have d4 : ¬ (4096 : Int) < (acc.length : Int) := by omega
          have HX2 := Lib.hid (HRn.out.trans (if_neg h4))
          have QS := Lib.hid (blS w1.heap.size w1.heap.size acc W0 HH.out.bl hz0)
          clear h4
          go_wp2_with (first | (go_at_call 35; (with_reducible refine (QL.out).mono ?_); rintro e w' ⟨rfl, rfl⟩) | (go_at_call 36; (with_reducible refine (QS.out).mono ?_); rintro e w3 ⟨rfl, hb3⟩))
          go_ret3
          exact ⟨fmSaid_ok HX2.out rfl, HBw.out.trans (hb3.mono HB1.out.size)⟩
end Go.Proofs.YtbdcmnhfmkefdaaGreatDoor
