/- Contracts of layer 9: what a verb makes of an argument. -/
import Derived.Test.YtbdcmnhfmkefdaaGreatDoorFmtH
import Derived.Test.YtbdcmnhfmkefdaaGreatDoorQuo
namespace Go.Proofs.YtbdcmnhfmkefdaaGreatDoor
open Go.RowKit M1 M2 M9
set_option linter.unusedVariables false
theorem numOf_vld (a : Vl) (h : (numOf a).E = 0) : vld (numOf a).P (numOf a).Q = true := by
  unfold numOf at *
  split at h
  · rename_i h2
    rw [if_pos h2]
    cases hv : vld a.p a.q with
    | true => simp [hv]
    | false => rw [hv] at h; simp at h
  · rename_i h2
    rw [if_neg h2]
    split at h
    · rename_i h3
      rw [if_pos h3]; exact good_vld (good_parse _) h
    · simp at h
theorem quote9 (s : ByteArray) (w : World) (hs : s.size ≤ 100000) :
    Calls Tryz.prog 81 #[.string s] w fun e w' => e = .returned (.string (bq (M3.qt s.data.toList))) ∧ Below w.heap.size w w' := quote_any s w hs
theorem fixed9 (p q k : Int) (w : World) (he : E9 w) (hv : vld p q = true) (h0 : 0 ≤ k) (h1 : k ≤ 12) :
    Calls Tryz.prog 84 #[.agg #[.int .i64 p, .int .i64 q], .int .i64 k] w fun e w' => e = .returned (.tuple #[.string (bq (fixL p q.toNat k.toNat)), .int .i64 0]) ∧ Below w.heap.size w w' := by
  have := fix_any p q k w he.env
  rw [show fixS p q k = fixL p q.toNat k.toNat by unfold fixS; rw [if_pos ⟨hv, h0, h1⟩], show fixE p q k = 0 by unfold fixE; rw [if_pos ⟨hv, h0, h1⟩]] at this
  exact this
theorem text9 (p q : Int) (w : World) (he : E9 w) : Calls Tryz.prog 83 #[.agg #[.int .i64 p, .int .i64 q]] w fun e w' => e = .returned (.string (bq (textR p q))) ∧ Below w.heap.size w w' := text_any p q w he.env

set_option maxHeartbeats 4000000 in
theorem bare_115 (kind p q : Int) (s : ByteArray) (ref pl : Int) (w : World) (he : E9 w) (hs : s.size ≤ 100000) (hp : -1 ≤ pl) (hp2 : pl ≤ 12) :
    Calls Tryz.prog 58 #[.agg #[.int .u8 115, .int .i64 0, .bool false, .bool false], .int .i64 pl, .agg #[.int .i64 kind, .int .i64 p, .int .i64 q, .string s, .int .i64 ref]] w fun e w' => OpSaid (bareF 115 pl (vlu kind p q s ref)) e ∧ Below w.heap.size w w' := by
  have hb0 : Below w.heap.size w ((w.alloc (.cells #[.int .u8 115, .int .i64 0, .bool false, .bool false] 98)).alloc (.cells #[.int .i64 kind, .int .i64 p, .int .i64 q, .string s, .int .i64 ref] 46)) := ((Below.refl _ _).alloc (Nat.le_refl _) _).alloc (by simp) _
  rw [show bareF 115 pl (vlu kind p q s ref) = begF pl (vlu kind p q s ref) from rfl]
  have Q := Lib.hid fun W (hb : Below w.heap.size w W) => beg_any kind p q s ref pl W (he.on hb) hp (by omega)
  clear he hp hp2 hs
  cases hr : begF pl (vlu kind p q s ref) with
  | none =>
    rw [hr] at Q
    go_enter Tryz.func58, Tryz.ntmps58
    go_wp2_with (go_at_call 80; (with_reducible refine (Q.out _ hb0).mono ?_); rintro e w2 ⟨rfl, hb2⟩; have H2 := Lib.hid (hb0.trans (hb2.mono (by simp; omega))))
    go_ret2
    exact ⟨rfl, H2.out⟩
  | some t =>
    rw [hr] at Q
    go_enter Tryz.func58, Tryz.ntmps58
    go_wp2_with (go_at_call 80; (with_reducible refine (Q.out _ hb0).mono ?_); rintro e w2 ⟨rfl, hb2⟩; have H2 := Lib.hid (hb0.trans (hb2.mono (by simp; omega))))
    go_ret2
    exact ⟨rfl, H2.out⟩

set_option maxHeartbeats 4000000 in
theorem bare_113 (kind p q : Int) (s : ByteArray) (ref pl : Int) (w : World) (he : E9 w) (hs : s.size ≤ 100000) (hp : -1 ≤ pl) (hp2 : pl ≤ 12) :
    Calls Tryz.prog 58 #[.agg #[.int .u8 113, .int .i64 0, .bool false, .bool false], .int .i64 pl, .agg #[.int .i64 kind, .int .i64 p, .int .i64 q, .string s, .int .i64 ref]] w fun e w' => OpSaid (bareF 113 pl (vlu kind p q s ref)) e ∧ Below w.heap.size w w' := by
  have hb0 : Below w.heap.size w ((w.alloc (.cells #[.int .u8 113, .int .i64 0, .bool false, .bool false] 98)).alloc (.cells #[.int .i64 kind, .int .i64 p, .int .i64 q, .string s, .int .i64 ref] 46)) := ((Below.refl _ _).alloc (Nat.le_refl _) _).alloc (by simp) _
  have QQ := Lib.hid fun w => quote9 s w hs
  by_cases hk : kind = 3
  · rw [show bareF 113 pl (vlu kind p q s ref) = some (M3.qt s.data.toList) by unfold bareF vlu; simp [hk]]
    have d3 : (kind != 3) = false := by simp [hk]
    generalize M3.qt s.data.toList = t at *
    clear hk he
    go_enter Tryz.func58, Tryz.ntmps58
    go_wp2_with (go_at_call 81; (with_reducible refine (QQ.out _).mono ?_); rintro e w2 ⟨rfl, hb2⟩; have H2 := Lib.hid (hb0.trans (hb2.mono (by simp; omega))))
    go_ret2
    exact ⟨rfl, H2.out⟩
  · rw [show bareF 113 pl (vlu kind p q s ref) = none by unfold bareF vlu; simp [hk]]
    have d3 : (kind != 3) = true := by simp [hk]
    clear hk he
    go_enter Tryz.func58, Tryz.ntmps58
    go_wp2
    go_ret2
    exact ⟨rfl, hb0⟩

set_option maxHeartbeats 4000000 in
theorem bare_103 (kind p q : Int) (s : ByteArray) (ref pl : Int) (w : World) (he : E9 w) (hs : s.size ≤ 100000) (hp : -1 ≤ pl) (hp2 : pl ≤ 12) :
    Calls Tryz.prog 58 #[.agg #[.int .u8 103, .int .i64 0, .bool true, .bool false], .int .i64 pl, .agg #[.int .i64 kind, .int .i64 p, .int .i64 q, .string s, .int .i64 ref]] w fun e w' => OpSaid (bareF 103 pl (vlu kind p q s ref)) e ∧ Below w.heap.size w w' := by
  have hb0 : Below w.heap.size w ((w.alloc (.cells #[.int .u8 103, .int .i64 0, .bool true, .bool false] 98)).alloc (.cells #[.int .i64 kind, .int .i64 p, .int .i64 q, .string s, .int .i64 ref] 46)) := ((Below.refl _ _).alloc (Nat.le_refl _) _).alloc (by simp) _
  have Q := Lib.hid fun W (hb : Below w.heap.size w W) => numberOf_any kind p q s ref W (he.on hb) (by omega)
  have hvl := numOf_vld (vlu kind p q s ref)
  have HEV := Lib.hid fun W (hb : Below w.heap.size w W) => he.on hb
  cases hR : numOf (vlu kind p q s ref) with | mk P Q' E =>
  rw [hR] at hvl
  unfold NoSaid at Q
  rw [hR] at Q
  simp only [] at hvl Q
  by_cases hE : E = 0
  · have hv := hvl hE
    rw [show bareF 103 pl (vlu kind p q s ref) = some (textR P Q') by unfold bareF; simp [hR, hE]]
    rw [show decide (E = 0) = true by simp [hE]] at Q
    clear hvl hR he hE
    have QT := Lib.hid fun W he => text9 P Q' W he
    generalize textR P Q' = t at *
    go_enter Tryz.func58, Tryz.ntmps58
    go_wp2_with (first | (go_at_call 82; (with_reducible refine (Q.out _ hb0).mono ?_); rintro e w2 ⟨rfl, hb2⟩; obtain ⟨hc2, hf2⟩ := bcell hb2; have hz2 := hb2.size; (try simp at hz2); have H2 := Lib.hid (hb0.trans (hb2.mono (by simp; omega))); have j0 : w2.cell? ⟨w.heap.size, 0, none⟩ = some (.int .u8 103) := (by rw [hc2 _ _ (by simp; omega)]; go_simp); have j1 : w2.cell? ⟨w.heap.size, 1, none⟩ = some (.int .i64 0) := (by rw [hc2 _ _ (by simp; omega)]; go_simp); have j2 : w2.cell? ⟨w.heap.size, 2, none⟩ = some (.bool true) := (by rw [hc2 _ _ (by simp; omega)]; go_simp); have j3 : w2.cell? ⟨w.heap.size, 3, none⟩ = some (.bool false) := (by rw [hc2 _ _ (by simp; omega)]; go_simp); have x2 : w.heap.size < w2.heap.size := (by omega); have H2a := Lib.hid (H2.out.alloc H2.out.size (.cells #[.int .i64 P, .int .i64 Q'] 44)); clear hc2 hf2 hb2) | (go_at_call 83; (with_reducible refine (QT.out _ (HEV.out _ H2a.out)).mono ?_); rintro e w3 ⟨rfl, hb3⟩; have H3 := Lib.hid (H2a.out.trans (hb3.mono H2a.out.size))))
    go_ret2
    exact ⟨rfl, H3.out⟩
  · rw [show bareF 103 pl (vlu kind p q s ref) = none by unfold bareF; simp [hR, hE]]
    rw [show decide (E = 0) = false by simp [hE]] at Q
    clear hvl hR he hE
    go_enter Tryz.func58, Tryz.ntmps58
    go_wp2_with (go_at_call 82; (with_reducible refine (Q.out _ hb0).mono ?_); rintro e w2 ⟨rfl, hb2⟩; obtain ⟨hc2, hf2⟩ := bcell hb2; have hz2 := hb2.size; (try simp at hz2); have H2 := Lib.hid (hb0.trans (hb2.mono (by simp; omega))); have j0 : w2.cell? ⟨w.heap.size, 0, none⟩ = some (.int .u8 103) := (by rw [hc2 _ _ (by simp; omega)]; go_simp); have j1 : w2.cell? ⟨w.heap.size, 1, none⟩ = some (.int .i64 0) := (by rw [hc2 _ _ (by simp; omega)]; go_simp); have j2 : w2.cell? ⟨w.heap.size, 2, none⟩ = some (.bool true) := (by rw [hc2 _ _ (by simp; omega)]; go_simp); have j3 : w2.cell? ⟨w.heap.size, 3, none⟩ = some (.bool false) := (by rw [hc2 _ _ (by simp; omega)]; go_simp); have x2 : w.heap.size < w2.heap.size := (by omega); have H2a := Lib.hid (H2.out.alloc H2.out.size (.cells #[.int .i64 P, .int .i64 Q'] 44)); clear hc2 hf2 hb2)
    go_ret2
    exact ⟨rfl, H2a.out⟩

set_option maxHeartbeats 4000000 in
theorem bare_100 (kind p q : Int) (s : ByteArray) (ref pl : Int) (w : World) (he : E9 w) (hs : s.size ≤ 100000) (hp : -1 ≤ pl) (hp2 : pl ≤ 12) :
    Calls Tryz.prog 58 #[.agg #[.int .u8 100, .int .i64 10, .bool true, .bool true], .int .i64 pl, .agg #[.int .i64 kind, .int .i64 p, .int .i64 q, .string s, .int .i64 ref]] w fun e w' => OpSaid (bareF 100 pl (vlu kind p q s ref)) e ∧ Below w.heap.size w w' := by
  have hb0 : Below w.heap.size w ((w.alloc (.cells #[.int .u8 100, .int .i64 10, .bool true, .bool true] 98)).alloc (.cells #[.int .i64 kind, .int .i64 p, .int .i64 q, .string s, .int .i64 ref] 46)) := ((Below.refl _ _).alloc (Nat.le_refl _) _).alloc (by simp) _
  have Q := Lib.hid fun W (hb : Below w.heap.size w W) => numberOf_any kind p q s ref W (he.on hb) (by omega)
  have hvl := numOf_vld (vlu kind p q s ref)
  have HEV := Lib.hid fun W (hb : Below w.heap.size w W) => he.on hb
  cases hR : numOf (vlu kind p q s ref) with | mk P Q' E =>
  rw [hR] at hvl
  unfold NoSaid at Q
  rw [hR] at Q
  simp only [] at hvl Q
  by_cases hE : E = 0
  · have hv := hvl hE
    rw [show bareF 100 pl (vlu kind p q s ref) = intF 100 P Q' by unfold bareF; simp [hR, hE]]
    rw [show decide (E = 0) = true by simp [hE]] at Q
    clear hvl hR he hE
    have QI : Hid (∀ W, Calls Tryz.prog 85 #[.agg #[.int .u8 100, .int .i64 10, .bool true, .bool true], .agg #[.int .i64 P, .int .i64 Q']] W fun e w' => OpSaid (intF 100 P Q') e ∧ Below W.heap.size W w') := Lib.hid fun W => integer_any 100 10 true true P Q' W (by unfold intRow; simp) hv
    cases hI : intF 100 P Q' with
    | none => 
      rw [hI] at QI
      clear hI
      go_enter Tryz.func58, Tryz.ntmps58
      go_wp2_with (first | (go_at_call 82; (with_reducible refine (Q.out _ hb0).mono ?_); rintro e w2 ⟨rfl, hb2⟩; obtain ⟨hc2, hf2⟩ := bcell hb2; have hz2 := hb2.size; (try simp at hz2); have H2 := Lib.hid (hb0.trans (hb2.mono (by simp; omega))); have j0 : w2.cell? ⟨w.heap.size, 0, none⟩ = some (.int .u8 100) := (by rw [hc2 _ _ (by simp; omega)]; go_simp); have j1 : w2.cell? ⟨w.heap.size, 1, none⟩ = some (.int .i64 10) := (by rw [hc2 _ _ (by simp; omega)]; go_simp); have j2 : w2.cell? ⟨w.heap.size, 2, none⟩ = some (.bool true) := (by rw [hc2 _ _ (by simp; omega)]; go_simp); have j3 : w2.cell? ⟨w.heap.size, 3, none⟩ = some (.bool true) := (by rw [hc2 _ _ (by simp; omega)]; go_simp); have x2 : w.heap.size < w2.heap.size := (by omega); have H2a := Lib.hid (H2.out.alloc H2.out.size (.cells #[.int .i64 P, .int .i64 Q'] 44)); clear hc2 hf2 hb2) | (go_at_call 85; (with_reducible refine (QI.out _).mono ?_); rintro e w3 ⟨rfl, hb3⟩; have H3 := Lib.hid (H2a.out.trans (hb3.mono H2a.out.size))))
      go_ret2
      exact ⟨rfl, H3.out⟩
    | some t => 
      rw [hI] at QI
      clear hI
      go_enter Tryz.func58, Tryz.ntmps58
      go_wp2_with (first | (go_at_call 82; (with_reducible refine (Q.out _ hb0).mono ?_); rintro e w2 ⟨rfl, hb2⟩; obtain ⟨hc2, hf2⟩ := bcell hb2; have hz2 := hb2.size; (try simp at hz2); have H2 := Lib.hid (hb0.trans (hb2.mono (by simp; omega))); have j0 : w2.cell? ⟨w.heap.size, 0, none⟩ = some (.int .u8 100) := (by rw [hc2 _ _ (by simp; omega)]; go_simp); have j1 : w2.cell? ⟨w.heap.size, 1, none⟩ = some (.int .i64 10) := (by rw [hc2 _ _ (by simp; omega)]; go_simp); have j2 : w2.cell? ⟨w.heap.size, 2, none⟩ = some (.bool true) := (by rw [hc2 _ _ (by simp; omega)]; go_simp); have j3 : w2.cell? ⟨w.heap.size, 3, none⟩ = some (.bool true) := (by rw [hc2 _ _ (by simp; omega)]; go_simp); have x2 : w.heap.size < w2.heap.size := (by omega); have H2a := Lib.hid (H2.out.alloc H2.out.size (.cells #[.int .i64 P, .int .i64 Q'] 44)); clear hc2 hf2 hb2) | (go_at_call 85; (with_reducible refine (QI.out _).mono ?_); rintro e w3 ⟨rfl, hb3⟩; have H3 := Lib.hid (H2a.out.trans (hb3.mono H2a.out.size))))
      go_ret2
      exact ⟨rfl, H3.out⟩
  · rw [show bareF 100 pl (vlu kind p q s ref) = none by unfold bareF; simp [hR, hE]]
    rw [show decide (E = 0) = false by simp [hE]] at Q
    clear hvl hR he hE
    go_enter Tryz.func58, Tryz.ntmps58
    go_wp2_with (go_at_call 82; (with_reducible refine (Q.out _ hb0).mono ?_); rintro e w2 ⟨rfl, hb2⟩; obtain ⟨hc2, hf2⟩ := bcell hb2; have hz2 := hb2.size; (try simp at hz2); have H2 := Lib.hid (hb0.trans (hb2.mono (by simp; omega))); have j0 : w2.cell? ⟨w.heap.size, 0, none⟩ = some (.int .u8 100) := (by rw [hc2 _ _ (by simp; omega)]; go_simp); have j1 : w2.cell? ⟨w.heap.size, 1, none⟩ = some (.int .i64 10) := (by rw [hc2 _ _ (by simp; omega)]; go_simp); have j2 : w2.cell? ⟨w.heap.size, 2, none⟩ = some (.bool true) := (by rw [hc2 _ _ (by simp; omega)]; go_simp); have j3 : w2.cell? ⟨w.heap.size, 3, none⟩ = some (.bool true) := (by rw [hc2 _ _ (by simp; omega)]; go_simp); have x2 : w.heap.size < w2.heap.size := (by omega); have H2a := Lib.hid (H2.out.alloc H2.out.size (.cells #[.int .i64 P, .int .i64 Q'] 44)); clear hc2 hf2 hb2)
    go_ret2
    exact ⟨rfl, H2a.out⟩

set_option maxHeartbeats 4000000 in
theorem bare_120 (kind p q : Int) (s : ByteArray) (ref pl : Int) (w : World) (he : E9 w) (hs : s.size ≤ 100000) (hp : -1 ≤ pl) (hp2 : pl ≤ 12) :
    Calls Tryz.prog 58 #[.agg #[.int .u8 120, .int .i64 16, .bool false, .bool true], .int .i64 pl, .agg #[.int .i64 kind, .int .i64 p, .int .i64 q, .string s, .int .i64 ref]] w fun e w' => OpSaid (bareF 120 pl (vlu kind p q s ref)) e ∧ Below w.heap.size w w' := by
  have hb0 : Below w.heap.size w ((w.alloc (.cells #[.int .u8 120, .int .i64 16, .bool false, .bool true] 98)).alloc (.cells #[.int .i64 kind, .int .i64 p, .int .i64 q, .string s, .int .i64 ref] 46)) := ((Below.refl _ _).alloc (Nat.le_refl _) _).alloc (by simp) _
  have Q := Lib.hid fun W (hb : Below w.heap.size w W) => numberOf_any kind p q s ref W (he.on hb) (by omega)
  have hvl := numOf_vld (vlu kind p q s ref)
  have HEV := Lib.hid fun W (hb : Below w.heap.size w W) => he.on hb
  cases hR : numOf (vlu kind p q s ref) with | mk P Q' E =>
  rw [hR] at hvl
  unfold NoSaid at Q
  rw [hR] at Q
  simp only [] at hvl Q
  by_cases hE : E = 0
  · have hv := hvl hE
    rw [show bareF 120 pl (vlu kind p q s ref) = intF 120 P Q' by unfold bareF; simp [hR, hE]]
    rw [show decide (E = 0) = true by simp [hE]] at Q
    clear hvl hR he hE
    have QI : Hid (∀ W, Calls Tryz.prog 85 #[.agg #[.int .u8 120, .int .i64 16, .bool false, .bool true], .agg #[.int .i64 P, .int .i64 Q']] W fun e w' => OpSaid (intF 120 P Q') e ∧ Below W.heap.size W w') := Lib.hid fun W => integer_any 120 16 false true P Q' W (by unfold intRow; simp) hv
    cases hI : intF 120 P Q' with
    | none => 
      rw [hI] at QI
      clear hI
      go_enter Tryz.func58, Tryz.ntmps58
      go_wp2_with (first | (go_at_call 82; (with_reducible refine (Q.out _ hb0).mono ?_); rintro e w2 ⟨rfl, hb2⟩; obtain ⟨hc2, hf2⟩ := bcell hb2; have hz2 := hb2.size; (try simp at hz2); have H2 := Lib.hid (hb0.trans (hb2.mono (by simp; omega))); have j0 : w2.cell? ⟨w.heap.size, 0, none⟩ = some (.int .u8 120) := (by rw [hc2 _ _ (by simp; omega)]; go_simp); have j1 : w2.cell? ⟨w.heap.size, 1, none⟩ = some (.int .i64 16) := (by rw [hc2 _ _ (by simp; omega)]; go_simp); have j2 : w2.cell? ⟨w.heap.size, 2, none⟩ = some (.bool false) := (by rw [hc2 _ _ (by simp; omega)]; go_simp); have j3 : w2.cell? ⟨w.heap.size, 3, none⟩ = some (.bool true) := (by rw [hc2 _ _ (by simp; omega)]; go_simp); have x2 : w.heap.size < w2.heap.size := (by omega); have H2a := Lib.hid (H2.out.alloc H2.out.size (.cells #[.int .i64 P, .int .i64 Q'] 44)); clear hc2 hf2 hb2) | (go_at_call 85; (with_reducible refine (QI.out _).mono ?_); rintro e w3 ⟨rfl, hb3⟩; have H3 := Lib.hid (H2a.out.trans (hb3.mono H2a.out.size))))
      go_ret2
      exact ⟨rfl, H3.out⟩
    | some t => 
      rw [hI] at QI
      clear hI
      go_enter Tryz.func58, Tryz.ntmps58
      go_wp2_with (first | (go_at_call 82; (with_reducible refine (Q.out _ hb0).mono ?_); rintro e w2 ⟨rfl, hb2⟩; obtain ⟨hc2, hf2⟩ := bcell hb2; have hz2 := hb2.size; (try simp at hz2); have H2 := Lib.hid (hb0.trans (hb2.mono (by simp; omega))); have j0 : w2.cell? ⟨w.heap.size, 0, none⟩ = some (.int .u8 120) := (by rw [hc2 _ _ (by simp; omega)]; go_simp); have j1 : w2.cell? ⟨w.heap.size, 1, none⟩ = some (.int .i64 16) := (by rw [hc2 _ _ (by simp; omega)]; go_simp); have j2 : w2.cell? ⟨w.heap.size, 2, none⟩ = some (.bool false) := (by rw [hc2 _ _ (by simp; omega)]; go_simp); have j3 : w2.cell? ⟨w.heap.size, 3, none⟩ = some (.bool true) := (by rw [hc2 _ _ (by simp; omega)]; go_simp); have x2 : w.heap.size < w2.heap.size := (by omega); have H2a := Lib.hid (H2.out.alloc H2.out.size (.cells #[.int .i64 P, .int .i64 Q'] 44)); clear hc2 hf2 hb2) | (go_at_call 85; (with_reducible refine (QI.out _).mono ?_); rintro e w3 ⟨rfl, hb3⟩; have H3 := Lib.hid (H2a.out.trans (hb3.mono H2a.out.size))))
      go_ret2
      exact ⟨rfl, H3.out⟩
  · rw [show bareF 120 pl (vlu kind p q s ref) = none by unfold bareF; simp [hR, hE]]
    rw [show decide (E = 0) = false by simp [hE]] at Q
    clear hvl hR he hE
    go_enter Tryz.func58, Tryz.ntmps58
    go_wp2_with (go_at_call 82; (with_reducible refine (Q.out _ hb0).mono ?_); rintro e w2 ⟨rfl, hb2⟩; obtain ⟨hc2, hf2⟩ := bcell hb2; have hz2 := hb2.size; (try simp at hz2); have H2 := Lib.hid (hb0.trans (hb2.mono (by simp; omega))); have j0 : w2.cell? ⟨w.heap.size, 0, none⟩ = some (.int .u8 120) := (by rw [hc2 _ _ (by simp; omega)]; go_simp); have j1 : w2.cell? ⟨w.heap.size, 1, none⟩ = some (.int .i64 16) := (by rw [hc2 _ _ (by simp; omega)]; go_simp); have j2 : w2.cell? ⟨w.heap.size, 2, none⟩ = some (.bool false) := (by rw [hc2 _ _ (by simp; omega)]; go_simp); have j3 : w2.cell? ⟨w.heap.size, 3, none⟩ = some (.bool true) := (by rw [hc2 _ _ (by simp; omega)]; go_simp); have x2 : w.heap.size < w2.heap.size := (by omega); have H2a := Lib.hid (H2.out.alloc H2.out.size (.cells #[.int .i64 P, .int .i64 Q'] 44)); clear hc2 hf2 hb2)
    go_ret2
    exact ⟨rfl, H2a.out⟩

set_option maxHeartbeats 4000000 in
theorem bare_88 (kind p q : Int) (s : ByteArray) (ref pl : Int) (w : World) (he : E9 w) (hs : s.size ≤ 100000) (hp : -1 ≤ pl) (hp2 : pl ≤ 12) :
    Calls Tryz.prog 58 #[.agg #[.int .u8 88, .int .i64 16, .bool false, .bool true], .int .i64 pl, .agg #[.int .i64 kind, .int .i64 p, .int .i64 q, .string s, .int .i64 ref]] w fun e w' => OpSaid (bareF 88 pl (vlu kind p q s ref)) e ∧ Below w.heap.size w w' := by
  have hb0 : Below w.heap.size w ((w.alloc (.cells #[.int .u8 88, .int .i64 16, .bool false, .bool true] 98)).alloc (.cells #[.int .i64 kind, .int .i64 p, .int .i64 q, .string s, .int .i64 ref] 46)) := ((Below.refl _ _).alloc (Nat.le_refl _) _).alloc (by simp) _
  have Q := Lib.hid fun W (hb : Below w.heap.size w W) => numberOf_any kind p q s ref W (he.on hb) (by omega)
  have hvl := numOf_vld (vlu kind p q s ref)
  have HEV := Lib.hid fun W (hb : Below w.heap.size w W) => he.on hb
  cases hR : numOf (vlu kind p q s ref) with | mk P Q' E =>
  rw [hR] at hvl
  unfold NoSaid at Q
  rw [hR] at Q
  simp only [] at hvl Q
  by_cases hE : E = 0
  · have hv := hvl hE
    rw [show bareF 88 pl (vlu kind p q s ref) = intF 88 P Q' by unfold bareF; simp [hR, hE]]
    rw [show decide (E = 0) = true by simp [hE]] at Q
    clear hvl hR he hE
    have QI : Hid (∀ W, Calls Tryz.prog 85 #[.agg #[.int .u8 88, .int .i64 16, .bool false, .bool true], .agg #[.int .i64 P, .int .i64 Q']] W fun e w' => OpSaid (intF 88 P Q') e ∧ Below W.heap.size W w') := Lib.hid fun W => integer_any 88 16 false true P Q' W (by unfold intRow; simp) hv
    cases hI : intF 88 P Q' with
    | none => 
      rw [hI] at QI
      clear hI
      go_enter Tryz.func58, Tryz.ntmps58
      go_wp2_with (first | (go_at_call 82; (with_reducible refine (Q.out _ hb0).mono ?_); rintro e w2 ⟨rfl, hb2⟩; obtain ⟨hc2, hf2⟩ := bcell hb2; have hz2 := hb2.size; (try simp at hz2); have H2 := Lib.hid (hb0.trans (hb2.mono (by simp; omega))); have j0 : w2.cell? ⟨w.heap.size, 0, none⟩ = some (.int .u8 88) := (by rw [hc2 _ _ (by simp; omega)]; go_simp); have j1 : w2.cell? ⟨w.heap.size, 1, none⟩ = some (.int .i64 16) := (by rw [hc2 _ _ (by simp; omega)]; go_simp); have j2 : w2.cell? ⟨w.heap.size, 2, none⟩ = some (.bool false) := (by rw [hc2 _ _ (by simp; omega)]; go_simp); have j3 : w2.cell? ⟨w.heap.size, 3, none⟩ = some (.bool true) := (by rw [hc2 _ _ (by simp; omega)]; go_simp); have x2 : w.heap.size < w2.heap.size := (by omega); have H2a := Lib.hid (H2.out.alloc H2.out.size (.cells #[.int .i64 P, .int .i64 Q'] 44)); clear hc2 hf2 hb2) | (go_at_call 85; (with_reducible refine (QI.out _).mono ?_); rintro e w3 ⟨rfl, hb3⟩; have H3 := Lib.hid (H2a.out.trans (hb3.mono H2a.out.size))))
      go_ret2
      exact ⟨rfl, H3.out⟩
    | some t => 
      rw [hI] at QI
      clear hI
      go_enter Tryz.func58, Tryz.ntmps58
      go_wp2_with (first | (go_at_call 82; (with_reducible refine (Q.out _ hb0).mono ?_); rintro e w2 ⟨rfl, hb2⟩; obtain ⟨hc2, hf2⟩ := bcell hb2; have hz2 := hb2.size; (try simp at hz2); have H2 := Lib.hid (hb0.trans (hb2.mono (by simp; omega))); have j0 : w2.cell? ⟨w.heap.size, 0, none⟩ = some (.int .u8 88) := (by rw [hc2 _ _ (by simp; omega)]; go_simp); have j1 : w2.cell? ⟨w.heap.size, 1, none⟩ = some (.int .i64 16) := (by rw [hc2 _ _ (by simp; omega)]; go_simp); have j2 : w2.cell? ⟨w.heap.size, 2, none⟩ = some (.bool false) := (by rw [hc2 _ _ (by simp; omega)]; go_simp); have j3 : w2.cell? ⟨w.heap.size, 3, none⟩ = some (.bool true) := (by rw [hc2 _ _ (by simp; omega)]; go_simp); have x2 : w.heap.size < w2.heap.size := (by omega); have H2a := Lib.hid (H2.out.alloc H2.out.size (.cells #[.int .i64 P, .int .i64 Q'] 44)); clear hc2 hf2 hb2) | (go_at_call 85; (with_reducible refine (QI.out _).mono ?_); rintro e w3 ⟨rfl, hb3⟩; have H3 := Lib.hid (H2a.out.trans (hb3.mono H2a.out.size))))
      go_ret2
      exact ⟨rfl, H3.out⟩
  · rw [show bareF 88 pl (vlu kind p q s ref) = none by unfold bareF; simp [hR, hE]]
    rw [show decide (E = 0) = false by simp [hE]] at Q
    clear hvl hR he hE
    go_enter Tryz.func58, Tryz.ntmps58
    go_wp2_with (go_at_call 82; (with_reducible refine (Q.out _ hb0).mono ?_); rintro e w2 ⟨rfl, hb2⟩; obtain ⟨hc2, hf2⟩ := bcell hb2; have hz2 := hb2.size; (try simp at hz2); have H2 := Lib.hid (hb0.trans (hb2.mono (by simp; omega))); have j0 : w2.cell? ⟨w.heap.size, 0, none⟩ = some (.int .u8 88) := (by rw [hc2 _ _ (by simp; omega)]; go_simp); have j1 : w2.cell? ⟨w.heap.size, 1, none⟩ = some (.int .i64 16) := (by rw [hc2 _ _ (by simp; omega)]; go_simp); have j2 : w2.cell? ⟨w.heap.size, 2, none⟩ = some (.bool false) := (by rw [hc2 _ _ (by simp; omega)]; go_simp); have j3 : w2.cell? ⟨w.heap.size, 3, none⟩ = some (.bool true) := (by rw [hc2 _ _ (by simp; omega)]; go_simp); have x2 : w.heap.size < w2.heap.size := (by omega); have H2a := Lib.hid (H2.out.alloc H2.out.size (.cells #[.int .i64 P, .int .i64 Q'] 44)); clear hc2 hf2 hb2)
    go_ret2
    exact ⟨rfl, H2a.out⟩

set_option maxHeartbeats 4000000 in
theorem bare_111 (kind p q : Int) (s : ByteArray) (ref pl : Int) (w : World) (he : E9 w) (hs : s.size ≤ 100000) (hp : -1 ≤ pl) (hp2 : pl ≤ 12) :
    Calls Tryz.prog 58 #[.agg #[.int .u8 111, .int .i64 8, .bool false, .bool true], .int .i64 pl, .agg #[.int .i64 kind, .int .i64 p, .int .i64 q, .string s, .int .i64 ref]] w fun e w' => OpSaid (bareF 111 pl (vlu kind p q s ref)) e ∧ Below w.heap.size w w' := by
  have hb0 : Below w.heap.size w ((w.alloc (.cells #[.int .u8 111, .int .i64 8, .bool false, .bool true] 98)).alloc (.cells #[.int .i64 kind, .int .i64 p, .int .i64 q, .string s, .int .i64 ref] 46)) := ((Below.refl _ _).alloc (Nat.le_refl _) _).alloc (by simp) _
  have Q := Lib.hid fun W (hb : Below w.heap.size w W) => numberOf_any kind p q s ref W (he.on hb) (by omega)
  have hvl := numOf_vld (vlu kind p q s ref)
  have HEV := Lib.hid fun W (hb : Below w.heap.size w W) => he.on hb
  cases hR : numOf (vlu kind p q s ref) with | mk P Q' E =>
  rw [hR] at hvl
  unfold NoSaid at Q
  rw [hR] at Q
  simp only [] at hvl Q
  by_cases hE : E = 0
  · have hv := hvl hE
    rw [show bareF 111 pl (vlu kind p q s ref) = intF 111 P Q' by unfold bareF; simp [hR, hE]]
    rw [show decide (E = 0) = true by simp [hE]] at Q
    clear hvl hR he hE
    have QI : Hid (∀ W, Calls Tryz.prog 85 #[.agg #[.int .u8 111, .int .i64 8, .bool false, .bool true], .agg #[.int .i64 P, .int .i64 Q']] W fun e w' => OpSaid (intF 111 P Q') e ∧ Below W.heap.size W w') := Lib.hid fun W => integer_any 111 8 false true P Q' W (by unfold intRow; simp) hv
    cases hI : intF 111 P Q' with
    | none => 
      rw [hI] at QI
      clear hI
      go_enter Tryz.func58, Tryz.ntmps58
      go_wp2_with (first | (go_at_call 82; (with_reducible refine (Q.out _ hb0).mono ?_); rintro e w2 ⟨rfl, hb2⟩; obtain ⟨hc2, hf2⟩ := bcell hb2; have hz2 := hb2.size; (try simp at hz2); have H2 := Lib.hid (hb0.trans (hb2.mono (by simp; omega))); have j0 : w2.cell? ⟨w.heap.size, 0, none⟩ = some (.int .u8 111) := (by rw [hc2 _ _ (by simp; omega)]; go_simp); have j1 : w2.cell? ⟨w.heap.size, 1, none⟩ = some (.int .i64 8) := (by rw [hc2 _ _ (by simp; omega)]; go_simp); have j2 : w2.cell? ⟨w.heap.size, 2, none⟩ = some (.bool false) := (by rw [hc2 _ _ (by simp; omega)]; go_simp); have j3 : w2.cell? ⟨w.heap.size, 3, none⟩ = some (.bool true) := (by rw [hc2 _ _ (by simp; omega)]; go_simp); have x2 : w.heap.size < w2.heap.size := (by omega); have H2a := Lib.hid (H2.out.alloc H2.out.size (.cells #[.int .i64 P, .int .i64 Q'] 44)); clear hc2 hf2 hb2) | (go_at_call 85; (with_reducible refine (QI.out _).mono ?_); rintro e w3 ⟨rfl, hb3⟩; have H3 := Lib.hid (H2a.out.trans (hb3.mono H2a.out.size))))
      go_ret2
      exact ⟨rfl, H3.out⟩
    | some t => 
      rw [hI] at QI
      clear hI
      go_enter Tryz.func58, Tryz.ntmps58
      go_wp2_with (first | (go_at_call 82; (with_reducible refine (Q.out _ hb0).mono ?_); rintro e w2 ⟨rfl, hb2⟩; obtain ⟨hc2, hf2⟩ := bcell hb2; have hz2 := hb2.size; (try simp at hz2); have H2 := Lib.hid (hb0.trans (hb2.mono (by simp; omega))); have j0 : w2.cell? ⟨w.heap.size, 0, none⟩ = some (.int .u8 111) := (by rw [hc2 _ _ (by simp; omega)]; go_simp); have j1 : w2.cell? ⟨w.heap.size, 1, none⟩ = some (.int .i64 8) := (by rw [hc2 _ _ (by simp; omega)]; go_simp); have j2 : w2.cell? ⟨w.heap.size, 2, none⟩ = some (.bool false) := (by rw [hc2 _ _ (by simp; omega)]; go_simp); have j3 : w2.cell? ⟨w.heap.size, 3, none⟩ = some (.bool true) := (by rw [hc2 _ _ (by simp; omega)]; go_simp); have x2 : w.heap.size < w2.heap.size := (by omega); have H2a := Lib.hid (H2.out.alloc H2.out.size (.cells #[.int .i64 P, .int .i64 Q'] 44)); clear hc2 hf2 hb2) | (go_at_call 85; (with_reducible refine (QI.out _).mono ?_); rintro e w3 ⟨rfl, hb3⟩; have H3 := Lib.hid (H2a.out.trans (hb3.mono H2a.out.size))))
      go_ret2
      exact ⟨rfl, H3.out⟩
  · rw [show bareF 111 pl (vlu kind p q s ref) = none by unfold bareF; simp [hR, hE]]
    rw [show decide (E = 0) = false by simp [hE]] at Q
    clear hvl hR he hE
    go_enter Tryz.func58, Tryz.ntmps58
    go_wp2_with (go_at_call 82; (with_reducible refine (Q.out _ hb0).mono ?_); rintro e w2 ⟨rfl, hb2⟩; obtain ⟨hc2, hf2⟩ := bcell hb2; have hz2 := hb2.size; (try simp at hz2); have H2 := Lib.hid (hb0.trans (hb2.mono (by simp; omega))); have j0 : w2.cell? ⟨w.heap.size, 0, none⟩ = some (.int .u8 111) := (by rw [hc2 _ _ (by simp; omega)]; go_simp); have j1 : w2.cell? ⟨w.heap.size, 1, none⟩ = some (.int .i64 8) := (by rw [hc2 _ _ (by simp; omega)]; go_simp); have j2 : w2.cell? ⟨w.heap.size, 2, none⟩ = some (.bool false) := (by rw [hc2 _ _ (by simp; omega)]; go_simp); have j3 : w2.cell? ⟨w.heap.size, 3, none⟩ = some (.bool true) := (by rw [hc2 _ _ (by simp; omega)]; go_simp); have x2 : w.heap.size < w2.heap.size := (by omega); have H2a := Lib.hid (H2.out.alloc H2.out.size (.cells #[.int .i64 P, .int .i64 Q'] 44)); clear hc2 hf2 hb2)
    go_ret2
    exact ⟨rfl, H2a.out⟩

set_option maxHeartbeats 4000000 in
theorem bare_99 (kind p q : Int) (s : ByteArray) (ref pl : Int) (w : World) (he : E9 w) (hs : s.size ≤ 100000) (hp : -1 ≤ pl) (hp2 : pl ≤ 12) :
    Calls Tryz.prog 58 #[.agg #[.int .u8 99, .int .i64 0, .bool false, .bool false], .int .i64 pl, .agg #[.int .i64 kind, .int .i64 p, .int .i64 q, .string s, .int .i64 ref]] w fun e w' => OpSaid (bareF 99 pl (vlu kind p q s ref)) e ∧ Below w.heap.size w w' := by
  have hb0 : Below w.heap.size w ((w.alloc (.cells #[.int .u8 99, .int .i64 0, .bool false, .bool false] 98)).alloc (.cells #[.int .i64 kind, .int .i64 p, .int .i64 q, .string s, .int .i64 ref] 46)) := ((Below.refl _ _).alloc (Nat.le_refl _) _).alloc (by simp) _
  have Q := Lib.hid fun W (hb : Below w.heap.size w W) => numberOf_any kind p q s ref W (he.on hb) (by omega)
  have hvl := numOf_vld (vlu kind p q s ref)
  have HEV := Lib.hid fun W (hb : Below w.heap.size w W) => he.on hb
  cases hR : numOf (vlu kind p q s ref) with | mk P Q' E =>
  rw [hR] at hvl
  unfold NoSaid at Q
  rw [hR] at Q
  simp only [] at hvl Q
  by_cases hE : E = 0
  · have hv := hvl hE
    rw [show bareF 99 pl (vlu kind p q s ref) = intF 99 P Q' by unfold bareF; simp [hR, hE]]
    rw [show decide (E = 0) = true by simp [hE]] at Q
    clear hvl hR he hE
    have QI : Hid (∀ W, Calls Tryz.prog 85 #[.agg #[.int .u8 99, .int .i64 0, .bool false, .bool false], .agg #[.int .i64 P, .int .i64 Q']] W fun e w' => OpSaid (intF 99 P Q') e ∧ Below W.heap.size W w') := Lib.hid fun W => integer_any 99 0 false false P Q' W (by unfold intRow; simp) hv
    cases hI : intF 99 P Q' with
    | none => 
      rw [hI] at QI
      clear hI
      go_enter Tryz.func58, Tryz.ntmps58
      go_wp2_with (first | (go_at_call 82; (with_reducible refine (Q.out _ hb0).mono ?_); rintro e w2 ⟨rfl, hb2⟩; obtain ⟨hc2, hf2⟩ := bcell hb2; have hz2 := hb2.size; (try simp at hz2); have H2 := Lib.hid (hb0.trans (hb2.mono (by simp; omega))); have j0 : w2.cell? ⟨w.heap.size, 0, none⟩ = some (.int .u8 99) := (by rw [hc2 _ _ (by simp; omega)]; go_simp); have j1 : w2.cell? ⟨w.heap.size, 1, none⟩ = some (.int .i64 0) := (by rw [hc2 _ _ (by simp; omega)]; go_simp); have j2 : w2.cell? ⟨w.heap.size, 2, none⟩ = some (.bool false) := (by rw [hc2 _ _ (by simp; omega)]; go_simp); have j3 : w2.cell? ⟨w.heap.size, 3, none⟩ = some (.bool false) := (by rw [hc2 _ _ (by simp; omega)]; go_simp); have x2 : w.heap.size < w2.heap.size := (by omega); have H2a := Lib.hid (H2.out.alloc H2.out.size (.cells #[.int .i64 P, .int .i64 Q'] 44)); clear hc2 hf2 hb2) | (go_at_call 85; (with_reducible refine (QI.out _).mono ?_); rintro e w3 ⟨rfl, hb3⟩; have H3 := Lib.hid (H2a.out.trans (hb3.mono H2a.out.size))))
      go_ret2
      exact ⟨rfl, H3.out⟩
    | some t => 
      rw [hI] at QI
      clear hI
      go_enter Tryz.func58, Tryz.ntmps58
      go_wp2_with (first | (go_at_call 82; (with_reducible refine (Q.out _ hb0).mono ?_); rintro e w2 ⟨rfl, hb2⟩; obtain ⟨hc2, hf2⟩ := bcell hb2; have hz2 := hb2.size; (try simp at hz2); have H2 := Lib.hid (hb0.trans (hb2.mono (by simp; omega))); have j0 : w2.cell? ⟨w.heap.size, 0, none⟩ = some (.int .u8 99) := (by rw [hc2 _ _ (by simp; omega)]; go_simp); have j1 : w2.cell? ⟨w.heap.size, 1, none⟩ = some (.int .i64 0) := (by rw [hc2 _ _ (by simp; omega)]; go_simp); have j2 : w2.cell? ⟨w.heap.size, 2, none⟩ = some (.bool false) := (by rw [hc2 _ _ (by simp; omega)]; go_simp); have j3 : w2.cell? ⟨w.heap.size, 3, none⟩ = some (.bool false) := (by rw [hc2 _ _ (by simp; omega)]; go_simp); have x2 : w.heap.size < w2.heap.size := (by omega); have H2a := Lib.hid (H2.out.alloc H2.out.size (.cells #[.int .i64 P, .int .i64 Q'] 44)); clear hc2 hf2 hb2) | (go_at_call 85; (with_reducible refine (QI.out _).mono ?_); rintro e w3 ⟨rfl, hb3⟩; have H3 := Lib.hid (H2a.out.trans (hb3.mono H2a.out.size))))
      go_ret2
      exact ⟨rfl, H3.out⟩
  · rw [show bareF 99 pl (vlu kind p q s ref) = none by unfold bareF; simp [hR, hE]]
    rw [show decide (E = 0) = false by simp [hE]] at Q
    clear hvl hR he hE
    go_enter Tryz.func58, Tryz.ntmps58
    go_wp2_with (go_at_call 82; (with_reducible refine (Q.out _ hb0).mono ?_); rintro e w2 ⟨rfl, hb2⟩; obtain ⟨hc2, hf2⟩ := bcell hb2; have hz2 := hb2.size; (try simp at hz2); have H2 := Lib.hid (hb0.trans (hb2.mono (by simp; omega))); have j0 : w2.cell? ⟨w.heap.size, 0, none⟩ = some (.int .u8 99) := (by rw [hc2 _ _ (by simp; omega)]; go_simp); have j1 : w2.cell? ⟨w.heap.size, 1, none⟩ = some (.int .i64 0) := (by rw [hc2 _ _ (by simp; omega)]; go_simp); have j2 : w2.cell? ⟨w.heap.size, 2, none⟩ = some (.bool false) := (by rw [hc2 _ _ (by simp; omega)]; go_simp); have j3 : w2.cell? ⟨w.heap.size, 3, none⟩ = some (.bool false) := (by rw [hc2 _ _ (by simp; omega)]; go_simp); have x2 : w.heap.size < w2.heap.size := (by omega); have H2a := Lib.hid (H2.out.alloc H2.out.size (.cells #[.int .i64 P, .int .i64 Q'] 44)); clear hc2 hf2 hb2)
    go_ret2
    exact ⟨rfl, H2a.out⟩

set_option maxHeartbeats 4000000 in
theorem bare_102 (kind p q : Int) (s : ByteArray) (ref pl : Int) (w : World) (he : E9 w) (hs : s.size ≤ 100000) (hp : -1 ≤ pl) (hp2 : pl ≤ 12) :
    Calls Tryz.prog 58 #[.agg #[.int .u8 102, .int .i64 0, .bool true, .bool true], .int .i64 pl, .agg #[.int .i64 kind, .int .i64 p, .int .i64 q, .string s, .int .i64 ref]] w fun e w' => OpSaid (bareF 102 pl (vlu kind p q s ref)) e ∧ Below w.heap.size w w' := by
  have hb0 : Below w.heap.size w ((w.alloc (.cells #[.int .u8 102, .int .i64 0, .bool true, .bool true] 98)).alloc (.cells #[.int .i64 kind, .int .i64 p, .int .i64 q, .string s, .int .i64 ref] 46)) := ((Below.refl _ _).alloc (Nat.le_refl _) _).alloc (by simp) _
  have Q := Lib.hid fun W (hb : Below w.heap.size w W) => numberOf_any kind p q s ref W (he.on hb) (by omega)
  have hvl := numOf_vld (vlu kind p q s ref)
  have HEV := Lib.hid fun W (hb : Below w.heap.size w W) => he.on hb
  cases hR : numOf (vlu kind p q s ref) with | mk P Q' E =>
  rw [hR] at hvl
  unfold NoSaid at Q
  rw [hR] at Q
  simp only [] at hvl Q
  by_cases hE : E = 0
  · have hv := hvl hE
    rw [show bareF 102 pl (vlu kind p q s ref) = some (fixL P Q'.toNat (if pl = -1 then 6 else pl.toNat)) by unfold bareF; simp [hR, hE]]
    rw [show decide (E = 0) = true by simp [hE]] at Q
    clear hvl hR he hE
    by_cases h6 : pl = -1
    · subst h6
      rw [if_pos rfl]
      have QF : Hid (∀ W, E9 W → Calls Tryz.prog 84 #[.agg #[.int .i64 P, .int .i64 Q'], .int .i64 6] W fun e w' => e = .returned (.tuple #[.string (bq (fixL P Q'.toNat 6)), .int .i64 0]) ∧ Below W.heap.size W w') := Lib.hid fun W he => fixed9 P Q' 6 W he hv (by decide) (by decide)
      generalize fixL P Q'.toNat 6 = t at *
      go_enter Tryz.func58, Tryz.ntmps58
      go_wp2_with (first | (go_at_call 82; (with_reducible refine (Q.out _ hb0).mono ?_); rintro e w2 ⟨rfl, hb2⟩; obtain ⟨hc2, hf2⟩ := bcell hb2; have hz2 := hb2.size; (try simp at hz2); have H2 := Lib.hid (hb0.trans (hb2.mono (by simp; omega))); have j0 : w2.cell? ⟨w.heap.size, 0, none⟩ = some (.int .u8 102) := (by rw [hc2 _ _ (by simp; omega)]; go_simp); have j1 : w2.cell? ⟨w.heap.size, 1, none⟩ = some (.int .i64 0) := (by rw [hc2 _ _ (by simp; omega)]; go_simp); have j2 : w2.cell? ⟨w.heap.size, 2, none⟩ = some (.bool true) := (by rw [hc2 _ _ (by simp; omega)]; go_simp); have j3 : w2.cell? ⟨w.heap.size, 3, none⟩ = some (.bool true) := (by rw [hc2 _ _ (by simp; omega)]; go_simp); have x2 : w.heap.size < w2.heap.size := (by omega); have H2a := Lib.hid (H2.out.alloc H2.out.size (.cells #[.int .i64 P, .int .i64 Q'] 44)); clear hc2 hf2 hb2) | (go_at_call 84; (with_reducible refine (QF.out _ (HEV.out _ H2a.out)).mono ?_); rintro e w3 ⟨rfl, hb3⟩; have H3 := Lib.hid (H2a.out.trans (hb3.mono H2a.out.size))))
      go_ret2
      exact ⟨rfl, H3.out⟩
    · rw [if_neg h6]
      have d6 : (pl == -1) = false := by simpa using h6
      have QF := Lib.hid fun W he => fixed9 P Q' pl W he hv (by omega) hp2
      generalize fixL P Q'.toNat pl.toNat = t at *
      clear h6
      go_enter Tryz.func58, Tryz.ntmps58
      go_wp2_with (first | (go_at_call 82; (with_reducible refine (Q.out _ hb0).mono ?_); rintro e w2 ⟨rfl, hb2⟩; obtain ⟨hc2, hf2⟩ := bcell hb2; have hz2 := hb2.size; (try simp at hz2); have H2 := Lib.hid (hb0.trans (hb2.mono (by simp; omega))); have j0 : w2.cell? ⟨w.heap.size, 0, none⟩ = some (.int .u8 102) := (by rw [hc2 _ _ (by simp; omega)]; go_simp); have j1 : w2.cell? ⟨w.heap.size, 1, none⟩ = some (.int .i64 0) := (by rw [hc2 _ _ (by simp; omega)]; go_simp); have j2 : w2.cell? ⟨w.heap.size, 2, none⟩ = some (.bool true) := (by rw [hc2 _ _ (by simp; omega)]; go_simp); have j3 : w2.cell? ⟨w.heap.size, 3, none⟩ = some (.bool true) := (by rw [hc2 _ _ (by simp; omega)]; go_simp); have x2 : w.heap.size < w2.heap.size := (by omega); have H2a := Lib.hid (H2.out.alloc H2.out.size (.cells #[.int .i64 P, .int .i64 Q'] 44)); clear hc2 hf2 hb2) | (go_at_call 84; (with_reducible refine (QF.out _ (HEV.out _ H2a.out)).mono ?_); rintro e w3 ⟨rfl, hb3⟩; have H3 := Lib.hid (H2a.out.trans (hb3.mono H2a.out.size))))
      go_ret2
      exact ⟨rfl, H3.out⟩
  · rw [show bareF 102 pl (vlu kind p q s ref) = none by unfold bareF; simp [hR, hE]]
    rw [show decide (E = 0) = false by simp [hE]] at Q
    clear hvl hR he hE
    go_enter Tryz.func58, Tryz.ntmps58
    go_wp2_with (go_at_call 82; (with_reducible refine (Q.out _ hb0).mono ?_); rintro e w2 ⟨rfl, hb2⟩; obtain ⟨hc2, hf2⟩ := bcell hb2; have hz2 := hb2.size; (try simp at hz2); have H2 := Lib.hid (hb0.trans (hb2.mono (by simp; omega))); have j0 : w2.cell? ⟨w.heap.size, 0, none⟩ = some (.int .u8 102) := (by rw [hc2 _ _ (by simp; omega)]; go_simp); have j1 : w2.cell? ⟨w.heap.size, 1, none⟩ = some (.int .i64 0) := (by rw [hc2 _ _ (by simp; omega)]; go_simp); have j2 : w2.cell? ⟨w.heap.size, 2, none⟩ = some (.bool true) := (by rw [hc2 _ _ (by simp; omega)]; go_simp); have j3 : w2.cell? ⟨w.heap.size, 3, none⟩ = some (.bool true) := (by rw [hc2 _ _ (by simp; omega)]; go_simp); have x2 : w.heap.size < w2.heap.size := (by omega); have H2a := Lib.hid (H2.out.alloc H2.out.size (.cells #[.int .i64 P, .int .i64 Q'] 44)); clear hc2 hf2 hb2)
    go_ret2
    exact ⟨rfl, H2a.out⟩
theorem bare_any (c : UInt8) (kind p q : Int) (s : ByteArray) (ref pl : Int) (w : World) (he : E9 w) (hs : s.size ≤ 100000) (hp : -1 ≤ pl) (hp2 : pl ≤ 12) (hc : isVerb c = true) :
    Calls Tryz.prog 58 #[.agg (vOf c.toNat).toArray, .int .i64 pl, .agg #[.int .i64 kind, .int .i64 p, .int .i64 q, .string s, .int .i64 ref]] w fun e w' => OpSaid (bareF c.toNat pl (vlu kind p q s ref)) e ∧ Below w.heap.size w w' := by
  have hm := (vHas_iff c).1 hc
  unfold verbLetters at hm
  simp only [List.mem_cons, List.not_mem_nil, or_false] at hm
  rcases hm with h | h | h | h | h | h | h | h | h <;> rw [h]
  · exact bare_100 kind p q s ref pl w he hs hp hp2
  · exact bare_120 kind p q s ref pl w he hs hp hp2
  · exact bare_88 kind p q s ref pl w he hs hp hp2
  · exact bare_111 kind p q s ref pl w he hs hp hp2
  · exact bare_102 kind p q s ref pl w he hs hp hp2
  · exact bare_115 kind p q s ref pl w he hs hp hp2
  · exact bare_99 kind p q s ref pl w he hs hp hp2
  · exact bare_113 kind p q s ref pl w he hs hp hp2
  · exact bare_103 kind p q s ref pl w he hs hp hp2
end Go.Proofs.YtbdcmnhfmkefdaaGreatDoor
