/- Contracts of layer 4: Escape. -/
import Derived.Test.YtkbcaklleiapdaaDoorPatBe
import Derived.Test.YtkbcaklleiapdaaDoorPatAi
import Derived.Laws.StructEq
import Derived.BigQuiet
namespace Go.Proofs.YtkbcaklleiapdaaDoor
open Go.RowKit Go.Joins M4
set_option linter.unusedVariables false
theorem esc_step {l : List UInt8} {k : Nat} (hk : k < l.length) : escF (l.take (k + 1)) = escF (l.take k) ++ (if alnum l[k] = true then [l[k]] else [37, l[k]]) := by
  unfold escF
  rw [List.take_succ_eq_append_getElem hk, List.flatMap_append]; simp
theorem bl_kp {lo hi B : Nat} {w W : World} (h : Below B w W) (hh : hi ≤ B) (hB : B ≤ w.heap.size) : Kp lo hi w W := ⟨h.size, fun g h1 h2 => h.block g (by omega)⟩
set_option maxHeartbeats 4000000 in
theorem escape_any (s : ByteArray) (w : World) (hs : s.size ≤ 1000000) :
    Calls Tryd.prog 15 #[.string s] w fun e w' => e = .returned (.string (bs (escF s.data.toList))) ∧ Below w.heap.size w w' := by
  have hll : s.data.toList.length = s.size := by simp
  go_enter Tryd.func15, Tryd.ntmps15
  go_upto_region 2 with (go_at_call 35; (with_reducible refine (within_any _ _ _ _).mono ?_); rintro e w2 ⟨rfl, rfl⟩)
  have hb2 : Below w.heap.size w ((w.alloc (.cells #[.string ⟨#[97, 122]⟩, .string ⟨#[65, 90]⟩, .string ⟨#[48, 57]⟩] 9)).alloc (.cells #[.slice (some ⟨w.heap.size, 0, none⟩) 3 3] 101)) := ((Below.refl _ _).alloc (Nat.le_refl _) _).alloc (by simp) _
  have hz2 : ((w.alloc (.cells #[.string ⟨#[97, 122]⟩, .string ⟨#[65, 90]⟩, .string ⟨#[48, 57]⟩] 9)).alloc (.cells #[.slice (some ⟨w.heap.size, 0, none⟩) 3 3] 101)).heap.size = w.heap.size + 2 := by simp
  obtain ⟨w2, hw2⟩ : ∃ w2, (w.alloc (.cells #[.string ⟨#[97, 122]⟩, .string ⟨#[65, 90]⟩, .string ⟨#[48, 57]⟩] 9)).alloc (.cells #[.slice (some ⟨w.heap.size, 0, none⟩) 3 3] 101) = w2 := ⟨_, rfl⟩
  have hL : RLst w.heap.size (w.heap.size + 2) w2 (w.heap.size + 1) [(97, 122), (65, 90), (48, 57)] := rlst_new rfl rfl hw2.symm
  rw [hw2] at hb2 hz2
  rw [hw2]
  have h0 := bl_new w2
  have hb3 : Below w2.heap.size w2 (w2.alloc (.cells #[.pointer none, .slice none 0 0] 59)) := (Below.refl _ _).alloc (Nat.le_refl _) _
  obtain ⟨B, hB⟩ : ∃ B, w2.heap.size = B := ⟨_, rfl⟩
  obtain ⟨D, hD⟩ : ∃ D, w.heap.size + 1 = D := ⟨_, rfl⟩
  have HBD : Hid (w.heap.size + 2 = B ∧ w.heap.size ≤ B) := Lib.hid (by omega)
  rw [hB] at h0 hb3
  rw [hD] at hL
  (try simp only [hD])
  have HL := Lib.hid hL
  have HB2 := Lib.hid hb2
  have H0 := Lib.hid h0
  have HB3 := Lib.hid hb3
  clear hL hb2 h0 hb3 hw2 hz2 hD
  go_wp2
  (try simp only [hB])
  have HBB := Lib.hid hB
  clear hB
  go_loopw [10] (fun v8 wr => ∃ k : Nat, k ≤ s.size ∧ v8 = .int .i64 (k : Int) ∧ Hid (Bl B B (escF (s.data.toList.take k)) wr) ∧ Hid (Below B w2 wr) ∧ Hid (B ≤ wr.heap.size)) (fun v8 _ => s.size - (intOf v8).toNat)
  case atStart => exact ⟨0, Nat.zero_le _, rfl, Lib.hid (by simpa [escF] using H0.out), HB3, Lib.hid (by have := HB3.out.size; have := HBB.out; omega)⟩
  case round =>
    obtain ⟨k, hk, rfl, HK, HB, HZ⟩ := hrel
    rename World => W0
    have hfl := escF_len (s.data.toList.take k)
    rw [List.length_take, hll] at hfl
    by_cases hlt : k < s.size
    · have hlt' : (k : Int) < (s.size : Int) := by omega
      have hst := esc_step (l := s.data.toList) (k := k) (by omega)
      have hsk : s.data.toList[k]'(by omega) = s[k] := rfl
      rw [hsk] at hst
      have wi := within1_any D [(97, 122), (65, 90), (48, 57)] s[k] W0 ⟨_, _, HL.out.kept (bl_kp HB.out (by have := HBD.out; omega) (by have := HBB.out; omega))⟩ (by decide)
      have hcb := s[k].toNat_lt
      cases ha : alnum s[k] with
      | true =>
        rw [show inR [(97, 122), (65, 90), (48, 57)] s[k] = true from ha] at wi
        rw [ha, if_pos rfl] at hst
        have HST := Lib.hid hst
        have W1 := Lib.hid wi
        have Q1 := Lib.hid (fun W (h : Bl B B (escF (s.data.toList.take k)) W) (hz : B ≤ W.heap.size) => blb B B _ s[k] _ rfl W h (by omega) hz)
        clear hst wi ha hsk hfl
        go_wp2_with fail
        refine (W1.out).mono ?_
        rintro e w3 ⟨rfl, rfl⟩
        go_wp2_with fail
        refine (Q1.out _ HK.out HZ.out).mono ?_
        rintro e w4 ⟨rfl, h4, hb4⟩
        have H4 := Lib.hid h4
        have HB4 := Lib.hid hb4
        have HZ4 := Lib.hid (Nat.le_trans HZ.out hb4.size)
        clear h4 hb4
        go_wp2
        go_roundw
        case rel => exact ⟨k + 1, by omega, by go_num, Lib.hid (by rw [HST.out]; exact H4.out), Lib.hid (HB.out.trans HB4.out), Lib.hid (Nat.le_trans HZ.out HB4.out.size)⟩
        case measure => simp [intOf]; omega
      | false =>
        rw [show inR [(97, 122), (65, 90), (48, 57)] s[k] = false from ha] at wi
        rw [ha, if_neg (by decide)] at hst
        have HST := Lib.hid hst
        have W1 := Lib.hid wi
        have Q1 := Lib.hid (fun W (h : Bl B B (escF (s.data.toList.take k)) W) (hz : B ≤ W.heap.size) => blb B B _ 37 37 rfl W h (by omega) hz)
        have Q2 := Lib.hid (fun W (h : Bl B B (escF (s.data.toList.take k) ++ [37]) W) (hz : B ≤ W.heap.size) => blb B B _ s[k] _ rfl W h (by rw [List.length_append, List.length_singleton]; omega) hz)
        clear hst wi ha hsk hfl
        go_wp2_with fail
        refine (W1.out).mono ?_
        rintro e w3 ⟨rfl, rfl⟩
        go_wp2_with fail
        refine (Q1.out _ HK.out HZ.out).mono ?_
        rintro e w4 ⟨rfl, h4, hb4⟩
        have H4 := Lib.hid h4
        have HB4 := Lib.hid hb4
        have HZ4 := Lib.hid (Nat.le_trans HZ.out hb4.size)
        clear h4 hb4
        go_wp2_with fail
        refine (Q2.out _ H4.out HZ4.out).mono ?_
        rintro e w5 ⟨rfl, h5, hb5⟩
        have H5 := Lib.hid h5
        have HB5 := Lib.hid hb5
        clear h5 hb5
        go_wp2
        go_roundw
        case rel => exact ⟨k + 1, by omega, by go_num, Lib.hid (by rw [HST.out]; have := H5.out; rw [List.append_assoc] at this; exact this), Lib.hid ((HB.out.trans HB4.out).trans HB5.out), Lib.hid (Nat.le_trans HZ4.out HB5.out.size)⟩
        case measure => simp [intOf]; omega
    · have hlt' : ¬ (k : Int) < (s.size : Int) := by omega
      have HL2 : Hid (Bl B B (escF s.data.toList) W0) := Lib.hid (by have := HK.out; rw [show k = s.data.toList.length by omega, List.take_length] at this; exact this)
      have S1 := Lib.hid (blS B B _ W0 HL2.out HZ.out)
      clear hfl
      go_wp2_with fail
      refine (S1.out).mono ?_
      rintro e w4 ⟨rfl, hb4⟩
      go_wp2
      go_ret
      exact ⟨rfl, HB2.out.trans ((HB.out.trans hb4).mono HBD.out.2)⟩
end Go.Proofs.YtkbcaklleiapdaaDoor
namespace Go.Proofs.YtkbcaklleiapdaaDoor
open Go.RowKit M4
theorem neq_cap (a b c d : Int) (w : World) : (binOp .neq 43 (.agg #[.int .i64 a, .int .i64 b]) (.agg #[.int .i64 c, .int .i64 d])).run Tryd.prog w = .ok (.bool (!((a == c) && (b == d)))) w := by
  have hf : (Tryd.prog.fieldsOf 43).toList.map (fun f => (f.name, f.type, f.offset)) = [("From", 3, 0), ("To", 3, 1)] := by kernel_rfl
  have p0 : ∀ (x y : Int) (w : World), (part 3 #[.int .i64 x, .int .i64 y] 0).run Tryd.prog w = .ok (.int .i64 x) w := fun _ _ _ => by kernel_rfl
  have p1 : ∀ (x y : Int) (w : World), (part 3 #[.int .i64 x, .int .i64 y] 1).run Tryd.prog w = .ok (.int .i64 y) w := fun _ _ _ => by kernel_rfl
  have hI : Tryd.prog.underlying 3 = some (.int .i64) := by kernel_rfl
  rw [run_neq_struct, run_equalIn_struct (P := Tryd.prog) w 9999 43 _ _ (by kernel_rfl) (by kernel_rfl)]
  generalize (Tryd.prog.fieldsOf 43).toList = F at hf
  rcases F with _ | ⟨f, _ | ⟨g, _ | ⟨x, F⟩⟩⟩
  · simp at hf
  · simp at hf
  · simp at hf
    obtain ⟨⟨h1, h2, h3⟩, h4, h5, h6⟩ := hf
    unfold Op.eqFields
    simp only [h1, h2, h3, Sem.run_ite, Sem.run_bind, p0, Result.andThen_ok, run_equalIn_int w 9998 _ .i64 .i64 a c hI]
    unfold Op.eqFields
    simp only [h4, h5, h6, Sem.run_ite, Sem.run_bind, p1, Result.andThen_ok, run_equalIn_int w 9998 _ .i64 .i64 b d hI]
    unfold Op.eqFields
    cases h : (a == c) <;> cases h' : (b == d) <;> simp
  · simp at hf
end Go.Proofs.YtkbcaklleiapdaaDoor
namespace Go.Proofs.YtkbcaklleiapdaaDoor
open Go.RowKit M4
set_option linter.unusedVariables false
theorem caps_row {w : World} {p : Option Addr} {n c : Nat} {m : Caps} (ho : w.ownsRow 0 43 2 (.slice p n c) n (capC m)) (hn : m.length = n) (h0 : 0 < n) :
    ∃ g, p = some ⟨g, 0, none⟩ ∧ g < w.heap.size ∧ ∀ k c, m[k]? = some c → w.cell? ⟨g, k * 2, none⟩ = some (.int .i64 c.1) ∧ w.cell? ⟨g, k * 2 + 1, none⟩ = some (.int .i64 c.2) := by
  obtain ⟨g, cap, hv⟩ := Joins.ownsRow_form ho (by omega)
  cases hv
  refine ⟨g, rfl, own_lt ho (mem_ob.2 rfl), fun k c hk => ?_⟩
  have hkl := (List.getElem?_eq_some_iff.1 hk).1
  obtain ⟨h1, h2⟩ := capC_get m k c hk
  exact ⟨by rw [ho.cellAt (k * 2) (by omega)]; exact h1, by rw [ho.cellAt (k * 2 + 1) (by omega)]; exact h2⟩
set_option maxHeartbeats 8000000 in
set_option maxRecDepth 100000 in
theorem same_pos (fr too : Int) (ga gb : Nat) (n ca cb : Nat) (m : Caps) (w : World) (hn : m.length = n) (hga : ga < w.heap.size) (hgb : gb < w.heap.size) (h16 : n ≤ 16) (ha : ∀ k c, m[k]? = some c → w.cell? ⟨ga, k * 2, none⟩ = some (.int .i64 c.1) ∧ w.cell? ⟨ga, k * 2 + 1, none⟩ = some (.int .i64 c.2)) (hb : ∀ k c, m[k]? = some c → w.cell? ⟨gb, k * 2, none⟩ = some (.int .i64 c.1) ∧ w.cell? ⟨gb, k * 2 + 1, none⟩ = some (.int .i64 c.2)) :
    Calls Tryd.prog 18 #[.agg #[.int .i64 fr, .int .i64 too, .slice (some ⟨ga, 0, none⟩) n ca], .agg #[.int .i64 fr, .int .i64 too, .slice (some ⟨gb, 0, none⟩) n cb]] w fun e w' => e = .returned (.bool true) ∧ Below w.heap.size w w' := by
  have HA := Lib.hid ha
  have HB := Lib.hid hb
  have HN := Lib.hid hn
  clear ha hb hn
  go_enter Tryd.func18, Tryd.ntmps18
  go_upto_region 3 with fail
  have hb2 : Below w.heap.size w ((w.alloc (.cells #[.int .i64 fr, .int .i64 too, .slice (some ⟨ga, 0, none⟩) n ca] 29)).alloc (.cells #[.int .i64 fr, .int .i64 too, .slice (some ⟨gb, 0, none⟩) n cb] 29)) := ((Below.refl _ _).alloc (Nat.le_refl _) _).alloc (by simp) _
  have hA : Mtb w.heap.size #[.int .i64 fr, .int .i64 too, .slice (some ⟨ga, 0, none⟩) n ca] ((w.alloc (.cells #[.int .i64 fr, .int .i64 too, .slice (some ⟨ga, 0, none⟩) n ca] 29)).alloc (.cells #[.int .i64 fr, .int .i64 too, .slice (some ⟨gb, 0, none⟩) n cb] 29)) := (mtb_new w _ _ rfl).ch ((Ch.refl [] _).alloc _) (by simp)
  have hB : Mtb (w.heap.size + 1) #[.int .i64 fr, .int .i64 too, .slice (some ⟨gb, 0, none⟩) n cb] ((w.alloc (.cells #[.int .i64 fr, .int .i64 too, .slice (some ⟨ga, 0, none⟩) n ca] 29)).alloc (.cells #[.int .i64 fr, .int .i64 too, .slice (some ⟨gb, 0, none⟩) n cb] 29)) := mtb_new _ _ _ (by simp)
  obtain ⟨W1, hW1⟩ : ∃ W1, ((w.alloc (.cells #[.int .i64 fr, .int .i64 too, .slice (some ⟨ga, 0, none⟩) n ca] 29)).alloc (.cells #[.int .i64 fr, .int .i64 too, .slice (some ⟨gb, 0, none⟩) n cb] 29)) = W1 := ⟨_, rfl⟩
  obtain ⟨A, hAe⟩ : ∃ A, w.heap.size = A := ⟨_, rfl⟩
  obtain ⟨B, hBe⟩ : ∃ B, A + 1 = B := ⟨_, rfl⟩
  rw [hW1] at hb2 hA hB
  rw [hAe] at hA
  rw [hAe, hBe] at hB
  have HMA := Lib.hid hA
  have HMB := Lib.hid hB
  have HB2 := Lib.hid hb2
  clear hb2 hA hB
  rw [hW1]
  (try simp only [hAe, hBe])
  have HAE := Lib.hid hAe
  clear hW1 hAe hBe
  go_wp2
  go_loopw [5] (fun vi wr => ∃ k : Nat, k ≤ n ∧ vi = .int .i64 (k : Int) ∧ Hid (Ch [] W1 wr)) (fun vi _ => n - (intOf vi).toNat)
  case atStart => exact ⟨0, Nat.zero_le _, rfl, Lib.hid (Ch.refl _ _)⟩
  case round =>
    obtain ⟨k, hk, rfl, HC⟩ := hrel
    rename World => W0
    have hma := HMA.out.ch HC.out (by simp)
    have hmb := HMB.out.ch HC.out (by simp)
    have a2 := hma.cell 2
    have b2 := hmb.cell 2
    simp at a2 b2
    have la := hma.lt
    have lb := hmb.lt
    have hk1 := i64w ((k : Int) + 1) (by omega)
    by_cases hlt : k < n
    · have hlt' : (k : Int) < (n : Int) := by omega
      obtain ⟨c, hc⟩ : ∃ c, m[k]? = some c := ⟨m[k]'(by have := HN.out; omega), List.getElem?_eq_getElem _⟩
      have hB0 : Below w.heap.size w W0 := HB2.out.trans (HC.out.below.mono HB2.out.size)
      obtain ⟨x1, x2⟩ := HA.out k c hc
      obtain ⟨z1, z2⟩ := HB.out k c hc
      have c0 : W0.cell? ⟨ga, k * 2, none⟩ = some (.int .i64 c.1) := by rw [hB0.cell hga]; exact x1
      have c1 : W0.cell? ⟨ga, k * 2 + 1, none⟩ = some (.int .i64 c.2) := by rw [hB0.cell hga]; exact x2
      have d0 : W0.cell? ⟨gb, k * 2, none⟩ = some (.int .i64 c.1) := by rw [hB0.cell hgb]; exact z1
      have d1 : W0.cell? ⟨gb, k * 2 + 1, none⟩ = some (.int .i64 c.2) := by rw [hB0.cell hgb]; exact z2
      have hne : ∀ W, (binOp .neq 43 (.agg #[.int .i64 c.1, .int .i64 c.2]) (.agg #[.int .i64 c.1, .int .i64 c.2])).run Tryd.prog W = .ok (.bool false) W := fun W => by rw [neq_cap]; simp
      clear x1 x2 z1 z2 hc hB0 hma hmb
      go_wp2
      go_quiet (fail)
      go_wp2
      go_roundw
      case rel => exact ⟨k + 1, by omega, by go_num, Lib.hid (HC.out.drewN _)⟩
      case measure => simp [intOf]; omega
    · have hlt' : ¬ (k : Int) < (n : Int) := by omega
      clear hma hmb
      go_wp2
      go_ret
      exact ⟨rfl, HB2.out.trans (HC.out.below.mono HB2.out.size)⟩
set_option maxHeartbeats 8000000 in
set_option maxRecDepth 100000 in
theorem same_zero (fr too : Int) (pa pb : Option Addr) (n ca cb : Nat) (m : Caps) (w : World) (hn : n = 0) :
    Calls Tryd.prog 18 #[.agg #[.int .i64 fr, .int .i64 too, .slice pa n ca], .agg #[.int .i64 fr, .int .i64 too, .slice pb n cb]] w fun e w' => e = .returned (.bool true) ∧ Below w.heap.size w w' := by
  have HN := Lib.hid hn
  have h16 : n ≤ 16 := by omega
  clear hn
  go_enter Tryd.func18, Tryd.ntmps18
  go_upto_region 3 with fail
  have hb2 : Below w.heap.size w ((w.alloc (.cells #[.int .i64 fr, .int .i64 too, .slice pa n ca] 29)).alloc (.cells #[.int .i64 fr, .int .i64 too, .slice pb n cb] 29)) := ((Below.refl _ _).alloc (Nat.le_refl _) _).alloc (by simp) _
  have hA : Mtb w.heap.size #[.int .i64 fr, .int .i64 too, .slice pa n ca] ((w.alloc (.cells #[.int .i64 fr, .int .i64 too, .slice pa n ca] 29)).alloc (.cells #[.int .i64 fr, .int .i64 too, .slice pb n cb] 29)) := (mtb_new w _ _ rfl).ch ((Ch.refl [] _).alloc _) (by simp)
  have hB : Mtb (w.heap.size + 1) #[.int .i64 fr, .int .i64 too, .slice pb n cb] ((w.alloc (.cells #[.int .i64 fr, .int .i64 too, .slice pa n ca] 29)).alloc (.cells #[.int .i64 fr, .int .i64 too, .slice pb n cb] 29)) := mtb_new _ _ _ (by simp)
  obtain ⟨W1, hW1⟩ : ∃ W1, ((w.alloc (.cells #[.int .i64 fr, .int .i64 too, .slice pa n ca] 29)).alloc (.cells #[.int .i64 fr, .int .i64 too, .slice pb n cb] 29)) = W1 := ⟨_, rfl⟩
  obtain ⟨A, hAe⟩ : ∃ A, w.heap.size = A := ⟨_, rfl⟩
  obtain ⟨B, hBe⟩ : ∃ B, A + 1 = B := ⟨_, rfl⟩
  rw [hW1] at hb2 hA hB
  rw [hAe] at hA
  rw [hAe, hBe] at hB
  have HMA := Lib.hid hA
  have HMB := Lib.hid hB
  have HB2 := Lib.hid hb2
  clear hb2 hA hB
  rw [hW1]
  (try simp only [hAe, hBe])
  have HAE := Lib.hid hAe
  clear hW1 hAe hBe
  go_wp2
  go_loopw [5] (fun vi wr => ∃ k : Nat, k ≤ n ∧ vi = .int .i64 (k : Int) ∧ Hid (Ch [] W1 wr)) (fun vi _ => n - (intOf vi).toNat)
  case atStart => exact ⟨0, Nat.zero_le _, rfl, Lib.hid (Ch.refl _ _)⟩
  case round =>
    obtain ⟨k, hk, rfl, HC⟩ := hrel
    rename World => W0
    have hma := HMA.out.ch HC.out (by simp)
    have hmb := HMB.out.ch HC.out (by simp)
    have a2 := hma.cell 2
    have b2 := hmb.cell 2
    simp at a2 b2
    have la := hma.lt
    have lb := hmb.lt
    have hk1 := i64w ((k : Int) + 1) (by omega)
    by_cases hlt : k < n
    · have hlt' : (k : Int) < (n : Int) := by omega
      exact absurd hlt (by have := HN.out; omega)
    · have hlt' : ¬ (k : Int) < (n : Int) := by omega
      clear hma hmb
      go_wp2
      go_ret
      exact ⟨rfl, HB2.out.trans (HC.out.below.mono HB2.out.size)⟩
set_option maxHeartbeats 8000000 in
set_option maxRecDepth 100000 in
theorem same_yes (fr too : Int) (pa pb : Option Addr) (n ca cb : Nat) (m : Caps) (w : World) (hn : m.length = n) (h16 : n ≤ 16) (ha : w.ownsRow 0 43 2 (.slice pa n ca) n (capC m)) (hb : w.ownsRow 0 43 2 (.slice pb n cb) n (capC m)) :
    Calls Tryd.prog 18 #[.agg #[.int .i64 fr, .int .i64 too, .slice pa n ca], .agg #[.int .i64 fr, .int .i64 too, .slice pb n cb]] w fun e w' => e = .returned (.bool true) ∧ Below w.heap.size w w' := by
  rcases Nat.eq_zero_or_pos n with h0 | h0
  · exact same_zero fr too pa pb n ca cb m w h0
  · obtain ⟨ga, rfl, h1, h2⟩ := caps_row ha hn h0
    obtain ⟨gb, rfl, h3, h4⟩ := caps_row hb hn h0
    exact same_pos fr too ga gb n ca cb m w hn h1 h3 h16 h2 h4
end Go.Proofs.YtkbcaklleiapdaaDoor
