/- The laws of layer 9: as many arguments are needed as there are directives. -/
import Derived.Test.YtbdcmnhfmkefdaaGreatDoorFmtW
namespace Go.Proofs.YtbdcmnhfmkefdaaGreatDoor
open Go.RowKit Go.Joins M1 M2 M9
set_option linter.unusedVariables false
/-- How many directives there are. -/
def dirsF (ps : List Pc) : Nat := (ps.filter fun p => p.verb != 0).length
theorem dirsF_cons (p : Pc) (ps : List Pc) : dirsF (p :: ps) = (if p.verb = 0 then 0 else 1) + dirsF ps := by
  unfold dirsF
  rw [List.filter_cons]
  by_cases h : p.verb = 0
  · simp [h]
  · simp [h]; omega
theorem dirsF_take {ps : List Pc} {k : Nat} (hk : k < ps.length) : dirsF (ps.take (k + 1)) = dirsF (ps.take k) + if ps[k].verb = 0 then 0 else 1 := by
  unfold dirsF
  rw [List.take_succ_eq_append_getElem hk, List.filter_append, List.length_append]
  congr 1
  by_cases h : ps[k].verb = 0
  · simp [h]
  · simp [h]
theorem dirsF_le (ps : List Pc) : dirsF ps ≤ ps.length := List.length_filter_le _ _
/-- What the number of directives tells of the answer. -/
def CntSaid (n d : Nat) (R : Except (Nat × Int) (List UInt8)) : Prop := match R with
  | .ok _ => d ≤ n
  | .error (k, c) => (d ≤ n → c ≠ 18) ∧ (n < d → (c = 18 ∧ k = n + 1) ∨ (c = 8 ∧ k ≤ n))
theorem fmtF_cnt (vs : List Vl) : ∀ (ps : List Pc) (u : Nat) (acc : List UInt8), u ≤ vs.length → CntSaid vs.length (u + dirsF ps) (fmtF ps vs u acc)
  | [], u, acc, hu => by
    rw [fmtF_nil]
    split
    · exact ⟨fun _ => by decide, fun h => by simp [dirsF] at h; omega⟩
    · show u + 0 ≤ vs.length; omega
  | p :: ps, u, acc, hu => by
    rw [dirsF_cons]
    by_cases h0 : p.verb = 0
    · rw [fmtF_text h0, if_pos h0, Nat.zero_add]; exact fmtF_cnt vs ps u _ hu
    · rw [if_neg h0]
      by_cases hn : u < vs.length
      · have h1 : vs[u]? = some vs[u] := List.getElem?_eq_getElem hn
        cases hw : writtenF p vs[u] with
        | none => rw [fmtF_bad h0 h1 hw]; exact ⟨fun _ => by decide, fun _ => .inr ⟨rfl, by omega⟩⟩
        | some t =>
          rw [fmtF_ok h0 h1 hw, ← Nat.add_assoc]
          exact fmtF_cnt vs ps (u + 1) _ hn
      · rw [fmtF_none h0 (List.getElem?_eq_none (by omega))]
        exact ⟨fun h => by omega, fun _ => .inl ⟨rfl, by omega⟩⟩
set_option maxHeartbeats 16000000 in
set_option maxRecDepth 100000 in
theorem counts_walk (f : ByteArray) (v : Value) (l : List Ar) (hl : l.length ≤ maxLen) (w : World) (he : E9 w) (ha : Args w v l) :
    Calls Tryz.prog 7 #[.string f, v] w fun e w' => e = .returned (.bool true) ∧ Below w.heap.size w w' := by
  have hL := Lib.hid fun W (hb : Below w.heap.size w W) => lives9 W (he.on hb)
  have QG := Lib.hid (large9 f v l w ha hl)
  unfold LgSaid at QG
  cases hlg : largeF f l with
  | true =>
    rw [hlg] at QG
    obtain ⟨p, c, rfl, -⟩ := ha.form
    clear ha he hlg
    go_enter Tryz.func7, Tryz.ntmps7
    go_wp2_with (first | (go_at_call 14; (with_reducible refine (QG.out).mono ?_); rintro e w' ⟨rfl, rfl⟩) | (go_at_call 11; (with_reducible refine (hL.out _ (Below.refl _ _)).mono ?_); rintro e w1 ⟨rfl, hb1⟩))
    go_ret
    exact ⟨rfl, hb1⟩
  | false =>
    rw [hlg] at QG
    obtain ⟨hf5, hl3, has⟩ := largeF_no hlg
    have QP := Lib.hid (pieces_any f w he (by omega))
    have QF := Lib.hid fun W (hb : Below w.heap.size w W) => format_any f v l W (he.on hb) (by omega) (ha.below hb) (by omega) (fun a h => by have := has a h; omega)
    obtain ⟨p, c, rfl, -⟩ := ha.form
    have HFo : Hid (formatF f.data.toList (l.map Ar.vl) = match pieces f.data.toList [] with | none => .error (0, 4) | some ps => fmtF ps (l.map Ar.vl) 0 []) := Lib.hid rfl
    generalize formatF f.data.toList (l.map Ar.vl) = R at *
    clear ha he hlg
    cases hpp : pieces f.data.toList [] with
    | none =>
      rw [hpp] at QP HFo
      have hR : R = .error (0, 4) := HFo.out
      subst hR
      clear hpp HFo
      go_enter Tryz.func7, Tryz.ntmps7
      go_wp2_with (first | (go_at_call 14; (with_reducible refine (QG.out).mono ?_); rintro e w' ⟨rfl, rfl⟩) | (go_at_call 12; (with_reducible refine (QP.out).mono ?_); rintro e w1 ⟨rfl, hb1⟩) | (go_at_call 15; (with_reducible refine (QF.out _ hb1).mono ?_); rintro e w2 ⟨rfl, hb2⟩; have H2 := Lib.hid (hb1.trans (hb2.mono hb1.size))) | (go_at_call 11; (with_reducible refine (hL.out _ H2.out).mono ?_); rintro e w3 ⟨rfl, hb3⟩))
      go_ret
      exact ⟨rfl, H2.out.trans (hb3.mono H2.out.size)⟩
    | some ps =>
      rw [hpp] at QP HFo
      have hR : R = fmtF ps (l.map Ar.vl) 0 [] := HFo.out
      have hcnt := fmtF_cnt (l.map Ar.vl) ps 0 [] (Nat.zero_le _)
      rw [← hR, List.length_map, Nat.zero_add] at hcnt
      have HCN := Lib.hid hcnt
      have hpl := (pieces_bd hpp).1
      have hfl : f.data.toList.length = f.size := by simp
      have hdl := dirsF_le ps
      have hpl2 : ps.length ≤ 10000 := by omega
      clear hpp HFo hR hcnt hpl hfl
      go_enter Tryz.func7, Tryz.ntmps7
      go_upto_region 4 with (first | (go_at_call 14; (with_reducible refine (QG.out).mono ?_); rintro e w' ⟨rfl, rfl⟩) | (go_at_call 12; (with_reducible refine (QP.out).mono ?_); rintro e w1 ⟨⟨v, rfl, ho⟩, hb1⟩))
      obtain ⟨q, cap, rfl⟩ := ownB_form ho
      have HO := Lib.hid ho
      have HB1 := Lib.hid hb1
      clear ho hb1 QP QG
      go_wp2
      go_loop [10, 11] (fun v10 v11 => ∃ k : Nat, k ≤ ps.length ∧ v11 = .int .i64 (k : Int) ∧ v10 = .int .i64 (dirsF (ps.take k) : Int)) (fun _ v11 => ps.length - (intOf v11).toNat)
      case atStart => exact ⟨0, Nat.zero_le _, rfl, rfl⟩
      case round =>
        obtain ⟨k, hk, rfl, rfl⟩ := hrel
        by_cases hlt : k < ps.length
        · have hlt' : (k : Int) < (ps.length : Int) := by omega
          have hform := ownsRow_form HO.out (by omega)
          obtain ⟨g, cap2, hge⟩ := hform
          obtain ⟨rfl, rfl⟩ : q = some ⟨g, 0, none⟩ ∧ cap = cap2 := by injection hge with h1 _ h3; exact ⟨h1, h3⟩
          have c1 : w1.cell? ⟨g, k * 7 + 1, none⟩ = some (.int .u8 (ps[k].verb : Int)) := row_cells HO.out hlt 1 (by decide)
          have HT := Lib.hid (dirsF_take hlt)
          have hdk := dirsF_le (ps.take k)
          rw [List.length_take] at hdk
          generalize dirsF (ps.take k) = d1 at *
          generalize ps[k].verb = ve at *
          clear hge
          by_cases hv : ve = 0
          · have HT2 : Hid (dirsF (ps.take (k + 1)) = d1) := Lib.hid (by rw [HT.out, if_pos hv]; rfl)
            subst hv
            go_wp2
            go_round
            case rel => exact ⟨k + 1, by omega, by go_num, by rw [HT2.out]⟩
            case measure => simp [intOf]; omega
          · have HT2 : Hid (dirsF (ps.take (k + 1)) = d1 + 1) := Lib.hid (by rw [HT.out, if_neg hv])
            have hv2 : ((ve : Int) != 0) = true := by simp; omega
            clear hv
            go_wp2
            go_round
            case rel => exact ⟨k + 1, by omega, by go_num, by rw [HT2.out]; go_num⟩
            case measure => simp [intOf]; omega
        · have hke : ps.take k = ps := List.take_of_length_le (by omega)
          have hlt' : ¬ (k : Int) < (ps.length : Int) := by omega
          rw [hke]
          generalize dirsF ps = d at *
          have QF1 := Lib.hid (QF.out _ HB1.out)
          clear hke QF
          cases R with
          | ok t =>
            have hdn : d ≤ l.length := HCN.out
            have e1 : (d : Int) ≤ (l.length : Int) := by omega
            clear HCN
            go_wp2_with (first | (go_at_call 15; (with_reducible refine (QF1.out).mono ?_); rintro e w2 ⟨rfl, hb2⟩; have H2 := Lib.hid (HB1.out.trans (hb2.mono HB1.out.size))) | (go_at_call 11; (with_reducible refine (hL.out _ H2.out).mono ?_); rintro e w3 ⟨rfl, hb3⟩))
            go_ret
            exact ⟨rfl, H2.out.trans (hb3.mono H2.out.size)⟩
          | error x =>
            obtain ⟨n, c⟩ := x
            obtain ⟨hc1, hc2⟩ := HCN.out
            clear HCN
            by_cases hdn : d ≤ l.length
            · have e1 : (d : Int) ≤ (l.length : Int) := by omega
              have e2 : (c != 18) = true := by simpa using hc1 hdn
              clear hc1 hc2
              go_wp2_with (first | (go_at_call 15; (with_reducible refine (QF1.out).mono ?_); rintro e w2 ⟨rfl, hb2⟩; have H2 := Lib.hid (HB1.out.trans (hb2.mono HB1.out.size))) | (go_at_call 11; (with_reducible refine (hL.out _ H2.out).mono ?_); rintro e w3 ⟨rfl, hb3⟩))
              go_ret
              exact ⟨rfl, H2.out.trans (hb3.mono H2.out.size)⟩
            · have e1 : ¬ (d : Int) ≤ (l.length : Int) := by omega
              rcases hc2 (by omega) with ⟨rfl, rfl⟩ | ⟨rfl, hn⟩
              · clear hc1 hc2
                have e3 : (((l.length + 1 : Nat) : Int) == (l.length : Int) + 1) = true := by simp
                go_wp2_with (first | (go_at_call 15; (with_reducible refine (QF1.out).mono ?_); rintro e w2 ⟨rfl, hb2⟩; have H2 := Lib.hid (HB1.out.trans (hb2.mono HB1.out.size))) | (go_at_call 11; (with_reducible refine (hL.out _ H2.out).mono ?_); rintro e w3 ⟨rfl, hb3⟩))
                go_ret
                exact ⟨rfl, H2.out.trans (hb3.mono H2.out.size)⟩
              · clear hc1 hc2
                have e4 : (n : Int) ≤ (l.length : Int) := by omega
                go_wp2_with (first | (go_at_call 15; (with_reducible refine (QF1.out).mono ?_); rintro e w2 ⟨rfl, hb2⟩; have H2 := Lib.hid (HB1.out.trans (hb2.mono HB1.out.size))) | (go_at_call 11; (with_reducible refine (hL.out _ H2.out).mono ?_); rintro e w3 ⟨rfl, hb3⟩))
                go_ret
                exact ⟨rfl, H2.out.trans (hb3.mono H2.out.size)⟩
end Go.Proofs.YtbdcmnhfmkefdaaGreatDoor
