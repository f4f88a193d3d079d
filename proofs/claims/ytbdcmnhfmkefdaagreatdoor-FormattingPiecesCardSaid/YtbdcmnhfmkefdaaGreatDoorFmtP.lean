/- The reference of layer 9: the parts of a format. -/
import Derived.Test.YtbdcmnhfmkefdaaGreatDoorFmtV
import Derived.Test.YtbdcmnhfmkefdaaGreatDoorFmtR
namespace Go.Proofs.YtbdcmnhfmkefdaaGreatDoor
open Go.RowKit Go.Joins M1 M2 M9
set_option linter.unusedVariables false
theorem info_rpiece : (Tryz.prog.info? 32).map (fun i => (i.zero, i.size, i.bytes)) = some (some (.agg #[.string ⟨#[]⟩, .int .u8 0, .bool false, .bool false, .bool false, .int .i64 0, .int .i64 0]), 7, 40) := by kernel_rfl
/-- The reference's parts, and the text that is not complete. -/
structure RP (w : World) (ps : List Pc) (acc : List UInt8) (vl vb : Value) (W : World) : Prop where
  ol : W.ownsRow w.heap.size 32 7 vl ps.length (ps.flatMap pcC)
  ob : W.ownsRow w.heap.size 5 1 vb acc.length (Lib.byteCells acc)
  bel : Below w.heap.size w W
section
variable {w W W2 : World} {ps : List Pc} {acc : List UInt8} {vl vb : Value}
theorem RP.keep (h : RP w ps acc vl vb W) (hb : Below W.heap.size W W2) : RP w ps acc vl vb W2 :=
  ⟨(Ch.of_below (S := []) hb).ownB h.ol (by simp), (Ch.of_below (S := []) hb).ownB h.ob (by simp), h.bel.trans (hb.mono h.bel.size)⟩
theorem RP.byte {c : UInt8} {o : Obj} {v2 : Value} (h : RP w ps acc vl vb W) (hown : W2.ownsRow w.heap.size 5 1 v2 (acc.length + 1) (Lib.byteCells acc ++ [.int .u8 (c.toNat : Int)])) (hg : (W.alloc o).grownBy W2 vb.ownBlock) : RP w ps (acc ++ [c]) vl v2 W2 := by
  have hcg : Ch (Go.Proofs.YtbdcmnhfmkefdaaGreatDoor.ob vb) W W2 := ((Ch.refl _ W).alloc o).trans (Ch.of_grown hg (fun b e => mem_ob.2 e))
  exact ⟨hcg.ownB h.ol (ob_ob h.ol h.ob (by decide)), owU_add hown, h.bel.trans (hcg.belowB (fun g hg => (own_lo h.ob hg).1) h.bel.size)⟩
theorem RP.part {o : Obj} {v2 : Value} (h : RP w ps acc vl vb W) (p : Pc) (hown : W2.ownsRow w.heap.size 32 7 v2 (ps.length + 1) (ps.flatMap pcC ++ pcC p)) (hg : (W.alloc o).grownBy W2 vl.ownBlock) : RP w (ps ++ [p]) acc v2 vb W2 := by
  have hcg : Ch (Go.Proofs.YtbdcmnhfmkefdaaGreatDoor.ob vl) W W2 := ((Ch.refl _ W).alloc o).trans (Ch.of_grown hg (fun b e => mem_ob.2 e))
  have e1 : (ps ++ [p]).length = ps.length + 1 := by simp
  have e2 : (ps ++ [p]).flatMap pcC = ps.flatMap pcC ++ pcC p := by rw [List.flatMap_append]; simp
  exact ⟨by rw [e1, e2]; exact hown, hcg.ownB h.ob (ob_ob h.ob h.ol (by decide)), h.bel.trans (hcg.belowB (fun g hg => (own_lo h.ol hg).1) h.bel.size)⟩
theorem RP.flush (h : RP w ps acc vl vb W) : RP w ps [] vl (.slice none 0 0) W := ⟨h.ol, World.ownsRow_nil _ _ _ _, h.bel⟩
end
/-- What the reference's Pieces answers. -/
def RPi (w : World) (r : Option (List Pc)) (e : Ending) (w' : World) : Prop := match r with
  | none => e = .returned (.tuple #[.slice none 0 0, .int .i64 4])
  | some ps => ∃ v, e = .returned (.tuple #[v, .int .i64 0]) ∧ w'.ownsRow w.heap.size 32 7 v ps.length (ps.flatMap pcC)
theorem rPi_none {w w' : World} {r : Option (List Pc)} (h : r = none) : RPi w r (.returned (.tuple #[.slice none 0 0, .int .i64 4])) w' := by subst h; rfl
theorem rPi_some {w w' : World} {r : Option (List Pc)} {ps : List Pc} {v : Value} (h : r = some ps) (ho : w'.ownsRow w.heap.size 32 7 v ps.length (ps.flatMap pcC)) : RPi w r (.returned (.tuple #[v, .int .i64 0])) w' := by subst h; exact ⟨v, rfl, ho⟩
set_option maxHeartbeats 16000000 in
set_option maxRecDepth 100000 in
theorem rpieces9 (s : ByteArray) (w : World) (hs : s.size ≤ 100000) :
    Calls Tryz.prog 13 #[.string s] w fun e w' => RPi w (pieces s.data.toList []) e w' ∧ Below w.heap.size w w' := by
  obtain ⟨i0, hi, hz0, hz1, hz2⟩ := info_parts rd_byte
  obtain ⟨i1, hi1, jz0, jz1, jz2⟩ := info_parts info_rpiece
  have hll : s.data.toList.length = s.size := by simp
  have HG : Hid (pieces s.data.toList [] = (pieces (s.data.toList.drop 0) []).map fun q => [] ++ q) := Lib.hid (by simp)
  generalize pieces s.data.toList [] = R at *
  go_enter Tryz.func13, Tryz.ntmps13
  go_wp2
  go_loopw [4, 5, 6] (fun v4 v5 v6 wr => ∃ (j : Nat) (ps : List Pc) (acc : List UInt8), j ≤ s.size ∧ ps.length ≤ 2 * j ∧ acc.length ≤ j ∧ v6 = .int .i64 (j : Int) ∧ Hid (R = (pieces (s.data.toList.drop j) acc).map fun q => ps ++ q) ∧ Hid (RP w ps acc v4 v5 wr)) (fun _ _ v6 _ => s.size - (intOf v6).toNat)
  case atStart => exact ⟨0, [], [], Nat.zero_le _, Nat.zero_le _, Nat.zero_le _, rfl, HG, Lib.hid ⟨World.ownsRow_nil _ _ _ _, World.ownsRow_nil _ _ _ _, Below.refl _ _⟩⟩
  case round =>
    clear HG
    obtain ⟨j, ps, acc, hj, hpl, hal, rfl, HG, HR⟩ := hrel
    rename World => W0
    rename_i v4 v5
    obtain ⟨ql, cl, rfl⟩ := ownB_form HR.out.ol
    obtain ⟨qb, cb, rfl⟩ := ownB_form HR.out.ob
    have hsz := HR.out.bel.size
    have HOB := Lib.hid fun o => ((Ch.refl [] W0).alloc o).ownB HR.out.ob (by simp)
    by_cases hjs : j < s.size
    · have hjs' : (j : Int) < (s.size : Int) := by omega
      have hdr : s.data.toList.drop j = s[j] :: s.data.toList.drop (j + 1) := by rw [List.drop_eq_getElem_cons (by omega)]; rfl
      have hcb := byte_bd9 s[j]
      by_cases h37 : s[j] = 37
      · have hct : (s[j].toNat : Int) = 37 := by rw [h37]; rfl
        rw [h37] at hdr
        by_cases h2 : (s.data.toList.drop (j + 1)).head? = some 37
        · obtain ⟨hj1, hc2, hdr2⟩ : ∃ h : j + 1 < s.size, s[j + 1] = 37 ∧ s.data.toList.drop (j + 1) = 37 :: s.data.toList.drop (j + 2) := by
            by_cases hj1 : j + 1 < s.size
            · have e : s.data.toList.drop (j + 1) = s[j + 1] :: s.data.toList.drop (j + 2) := by rw [List.drop_eq_getElem_cons (by omega)]; rfl
              rw [e] at h2
              have h3 : s[j + 1] = 37 := by simpa using h2
              exact ⟨hj1, h3, by rw [e, h3]⟩
            · rw [List.drop_eq_nil_of_le (by omega)] at h2; cases h2
          have hct2 : (s[j + 1].toNat : Int) = 37 := by rw [hc2]; rfl
          have hj1' : (j : Int) + 1 < (s.size : Int) := by omega
          have HG2 : Hid (R = (pieces (s.data.toList.drop (j + 2)) (acc ++ [37])).map fun q => ps ++ q) := Lib.hid (HG.out.trans (by rw [hdr, hdr2, pieces_pct]))
          clear HG hdr hdr2 h37 hc2 h2
          go_wp2_with (at_builtin; refine wpList_append_own _ rfl _ _ 56 rfl w.heap.size 5 i0 (.int .u8 0) 1 1 Tryz.underlying56 hi hz0 hz1 hz2 rfl (by decide) _ _ _ rfl (HOB.out _) ⟨W0.heap.size, 0, none⟩ 1 1 [.int .u8 37] rfl rfl (by intro j u' hj; match j, hj with | 0, hj => (simp at hj; subst hj; simp [Addr.add])) (by intro u' hu'; simp at hu'; subst hu'; rfl) (by unfold maxLen; omega) (by omega) (by simp; omega) ?_)
          intro v2 w2 hown2 hgrow _
          have HR2 := Lib.hid (HR.out.byte (c := 37) hown2 hgrow)
          clear hown2 hgrow HR HOB
          go_wp2
          go_roundw
          case rel => exact ⟨j + 2, ps, acc ++ [37], by omega, by omega, by rw [List.length_append]; simp; omega, by go_num, HG2, HR2⟩
          case measure => simp [intOf]; omega
        · have QD := Lib.hid (rdir9 s j W0 hs hjs)
          have hno : ¬ ((j : Int) + 1 < (s.size : Int)) ∨ ∃ h : j + 1 < s.size, ((s[j + 1].toNat : Int) == 37) = false := by
            by_cases hj1 : j + 1 < s.size
            · refine .inr ⟨hj1, ?_⟩
              have e : s.data.toList.drop (j + 1) = s[j + 1] :: s.data.toList.drop (j + 2) := by rw [List.drop_eq_getElem_cons (by omega)]; rfl
              rw [e] at h2
              rw [beq_eq_false_iff_ne]; intro e2
              exact h2 (by rw [List.head?_cons]; congr 1; exact UInt8.toNat_inj.1 (by simpa using (by omega : s[j + 1].toNat = 37)))
            · exact .inl (by omega)
          cases hd : dirF (s.data.toList.drop (j + 1)) with
          | none =>
            rw [hd] at QD
            have HX : Hid (R = none) := Lib.hid (HG.out.trans (by rw [hdr, pieces_bad h2 hd]; rfl))
            have QD : Hid (Calls Tryz.prog 33 #[.string s, .int .i64 (j : Int)] W0 fun e w' => e = .returned (.tuple #[.agg #[.string ⟨#[]⟩, .int .u8 0, .bool false, .bool false, .bool false, .int .i64 0, .int .i64 0], .int .i64 0, .bool false]) ∧ Below W0.heap.size W0 w') := Lib.hid QD.out
            clear HG hdr h37 hd h2 HOB
            rcases hno with hj1' | ⟨hj1, g37⟩
            · go_wp2_with (go_at_call 33; (with_reducible refine (QD.out).mono ?_); rintro e w4 ⟨rfl, hb4⟩)
              go_ret2
              exact ⟨rPi_none HX.out, (HR.out.bel.trans (hb4.mono hsz)).alloc (Nat.le_trans hsz hb4.size) _⟩
            · have hj1' : (j : Int) + 1 < (s.size : Int) := by omega
              go_wp2_with (go_at_call 33; (with_reducible refine (QD.out).mono ?_); rintro e w4 ⟨rfl, hb4⟩)
              go_ret2
              exact ⟨rPi_none HX.out, (HR.out.bel.trans (hb4.mono hsz)).alloc (Nat.le_trans hsz hb4.size) _⟩
          | some qt =>
            obtain ⟨⟨tx, ve, mi, ze, pl, wd, pc⟩, t⟩ := qt
            rw [hd] at QD
            have HX : Hid (R = (pieces t []).map fun q => (ps ++ withText acc [] ++ [⟨tx, ve, mi, ze, pl, wd, pc⟩]) ++ q) := Lib.hid (HG.out.trans (by
              rw [hdr, pieces_dir h2 hd, Option.map_map]
              congr 1; funext q
              simp only [Function.comp]
              unfold withText
              split <;> simp))
            have QD : Hid (Calls Tryz.prog 33 #[.string s, .int .i64 (j : Int)] W0 fun e w' => (∃ j2 : Nat, j2 ≤ s.size ∧ s.data.toList.drop j2 = t ∧ e = .returned (.tuple #[.agg #[.string (bq tx), .int .u8 (ve : Int), .bool mi, .bool ze, .bool pl, .int .i64 (wd : Int), .int .i64 pc], .int .i64 (j2 : Int), .bool true])) ∧ Below W0.heap.size W0 w') := Lib.hid QD.out
            have htl := dirF_len hd
            rw [List.length_drop] at htl
            clear HG hdr h37 hd h2 HOB
            rcases hno with hj1' | ⟨hj1, g37⟩
            · exfalso; omega
            · have hj1' : (j : Int) + 1 < (s.size : Int) := by omega
              go_upto_region 12 with (go_at_call 33; (with_reducible refine (QD.out).mono ?_); rintro e w4 ⟨⟨j2, hj2, ht, rfl⟩, hb4⟩)
              subst ht
              rw [List.length_drop] at htl
              have HR4 := Lib.hid (HR.out.keep hb4)
              have HNL : Hid (∀ g ∈ Go.Proofs.YtbdcmnhfmkefdaaGreatDoor.ob (.slice ql ps.length cl), g ≠ w4.heap.size) := Lib.hid fun g hg e => by have := (own_lo HR4.out.ol hg).2; omega
              have HP5 := Lib.hid (Blk.new w4 32 #[.string (bq tx), .int .u8 (ve : Int), .bool mi, .bool ze, .bool pl, .int .i64 (wd : Int), .int .i64 pc] _ rfl)
              have HR5 := Lib.hid (HR4.out.keep ((Below.refl _ _).alloc (Nat.le_refl _) (.cells #[.string (bq tx), .int .u8 (ve : Int), .bool mi, .bool ze, .bool pl, .int .i64 (wd : Int), .int .i64 pc] 32)))
              clear HR4 HR hb4 QD hsz
              generalize w4.alloc (.cells #[.string (bq tx), .int .u8 (ve : Int), .bool mi, .bool ze, .bool pl, .int .i64 (wd : Int), .int .i64 pc] 32) = w5 at *
              generalize w4.heap.size = Bp at *
              have hlt5 := HP5.out.lt
              have hsz5 := HR5.out.bel.size
              by_cases ha0 : acc = []
              · subst ha0
                have h0 : ¬ (0 : Int) < ((([] : List UInt8).length : Nat) : Int) := by decide
                have HX2 : Hid (R = (pieces (s.data.toList.drop j2) []).map fun q => (ps ++ [⟨tx, ve, mi, ze, pl, wd, pc⟩]) ++ q) := Lib.hid (HX.out.trans (by unfold withText; rw [if_pos rfl, List.append_nil]))
                obtain ⟨b0, b1, b2, b3, b4, b5, b6⟩ := blk7 HP5.out
                clear HX
                have HOL := Lib.hid fun o => ((Ch.refl [] w5).alloc o).ownB HR5.out.ol (by simp)
                go_wp2_with (at_builtin; refine wpList_append_own _ rfl _ _ 27 rfl w.heap.size 32 i1 (.agg #[.string ⟨#[]⟩, .int .u8 0, .bool false, .bool false, .bool false, .int .i64 0, .int .i64 0]) 7 40 Tryz.underlying27 hi1 jz0 jz1 jz2 rfl (by decide) _ _ _ rfl (HOL.out _) ⟨w5.heap.size, 0, none⟩ 1 1 [.string (bq tx), .int .u8 (ve : Int), .bool mi, .bool ze, .bool pl, .int .i64 (wd : Int), .int .i64 pc] rfl rfl (news_alloc w5 #[.string (bq tx), .int .u8 (ve : Int), .bool mi, .bool ze, .bool pl, .int .i64 (wd : Int), .int .i64 pc] _ _ rfl) (by intro u' hu'; simp at hu'; rcases hu' with rfl | rfl | rfl | rfl | rfl | rfl | rfl <;> rfl) (by unfold maxLen; omega) (by omega) (by simp; omega) ?_)
                intro v9 w9 hown9 hgrow9 _
                have HR9 := Lib.hid (HR5.out.part ⟨tx, ve, mi, ze, pl, wd, pc⟩ hown9 hgrow9)
                clear hown9 hgrow9 HOL
                go_wp2
                go_roundw
                case rel => exact ⟨j2, ps ++ [⟨tx, ve, mi, ze, pl, wd, pc⟩], [], hj2, by rw [List.length_append]; simp; omega, by simp, rfl, HX2, HR9⟩
                case measure => simp [intOf]; omega
              · have hal0 : 0 < acc.length := List.length_pos_iff.2 ha0
                have h0 : (0 : Int) < (acc.length : Int) := by omega
                have HX2 : Hid (R = (pieces (s.data.toList.drop j2) []).map fun q => (ps ++ [textPc acc] ++ [⟨tx, ve, mi, ze, pl, wd, pc⟩]) ++ q) := Lib.hid (HX.out.trans (by unfold withText; rw [if_neg ha0]))
                have hcv := owU_str HR5.out.ob
                have HOL := Lib.hid fun o => ((Ch.refl [] w5).alloc o).ownB HR5.out.ol (by simp)
                have hpt : pcC (textPc acc) = [.string (bq acc), .int .u8 0, .bool false, .bool false, .bool false, .int .i64 0, .int .i64 0] := rfl
                obtain ⟨z, hz⟩ : ∃ z, bq acc = z := ⟨_, rfl⟩
                rw [hz] at hcv hpt
                clear HX ha0
                go_wp2_with (at_builtin; refine wpList_append_own _ rfl _ _ 27 rfl w.heap.size 32 i1 (.agg #[.string ⟨#[]⟩, .int .u8 0, .bool false, .bool false, .bool false, .int .i64 0, .int .i64 0]) 7 40 Tryz.underlying27 hi1 jz0 jz1 jz2 rfl (by decide) _ _ _ rfl (HOL.out _) ⟨w5.heap.size, 0, none⟩ 1 1 [.string z, .int .u8 0, .bool false, .bool false, .bool false, .int .i64 0, .int .i64 0] rfl rfl (news_alloc w5 #[.string z, .int .u8 0, .bool false, .bool false, .bool false, .int .i64 0, .int .i64 0] _ _ rfl) (by intro u' hu'; simp at hu'; rcases hu' with rfl | rfl | rfl | rfl | rfl | rfl | rfl <;> rfl) (by unfold maxLen; omega) (by omega) (by simp; omega) ?_)
                intro v6 w6 hown6 hgrow6 _
                have HR6 := Lib.hid ((HR5.out.part (textPc acc) (by rw [hpt]; exact hown6) hgrow6))
                have hcg : Ch (Go.Proofs.YtbdcmnhfmkefdaaGreatDoor.ob (.slice ql ps.length cl)) w5 w6 := ((Ch.refl _ w5).alloc _).trans (Ch.of_grown hgrow6 (fun b e => mem_ob.2 e))
                have HP6 := Lib.hid (HP5.out.ch hcg (fun e => HNL.out _ e rfl))
                have hel : (ps ++ [textPc acc]).length = ps.length + 1 := by simp
                obtain ⟨g6, c6, rfl⟩ := ownsRow_form HR6.out.ol (by omega)
                have hlt6 := HP6.out.lt
                have hsz6 := HR6.out.bel.size
                obtain ⟨b0, b1, b2, b3, b4, b5, b6⟩ := blk7 HP6.out
                clear hown6 hgrow6 hcg HP5 HR5 HNL HOL hcv hpt
                generalize ps ++ [textPc acc] = ps6 at *
                have HOL := Lib.hid fun o => ((Ch.refl [] w6).alloc o).ownB HR6.out.ol (by simp)
                go_wp2_with (at_builtin; refine wpList_append_own _ rfl _ _ 27 rfl w.heap.size 32 i1 (.agg #[.string ⟨#[]⟩, .int .u8 0, .bool false, .bool false, .bool false, .int .i64 0, .int .i64 0]) 7 40 Tryz.underlying27 hi1 jz0 jz1 jz2 rfl (by decide) _ _ _ rfl (HOL.out _) ⟨w6.heap.size, 0, none⟩ 1 1 [.string (bq tx), .int .u8 (ve : Int), .bool mi, .bool ze, .bool pl, .int .i64 (wd : Int), .int .i64 pc] rfl rfl (news_alloc w6 #[.string (bq tx), .int .u8 (ve : Int), .bool mi, .bool ze, .bool pl, .int .i64 (wd : Int), .int .i64 pc] _ _ rfl) (by intro u' hu'; simp at hu'; rcases hu' with rfl | rfl | rfl | rfl | rfl | rfl | rfl <;> rfl) (by unfold maxLen; omega) (by omega) (by simp; omega) ?_)
                intro v9 w9 hown9 hgrow9 _
                have HR9 := Lib.hid ((HR6.out.part ⟨tx, ve, mi, ze, pl, wd, pc⟩ (by rw [hel]; exact hown9) hgrow9).flush)
                clear hown9 hgrow9 HOL
                go_wp2
                go_roundw
                case rel => exact ⟨j2, ps6 ++ [⟨tx, ve, mi, ze, pl, wd, pc⟩], [], hj2, by rw [List.length_append]; simp; omega, by simp, rfl, HX2, HR9⟩
                case measure => simp [intOf]; omega
      · have g37 : ((s[j].toNat : Int) != 37) = true := by
          simp only [bne_iff_ne, ne_eq]; intro e; exact h37 (UInt8.toNat_inj.1 (by simpa using (by omega : s[j].toNat = 37)))
        have HG2 : Hid (R = (pieces (s.data.toList.drop (j + 1)) (acc ++ [s[j]])).map fun q => ps ++ q) := Lib.hid (HG.out.trans (by rw [hdr, pieces_plain h37]))
        clear HG hdr h37
        go_wp2_with (at_builtin; refine wpList_append_own _ rfl _ _ 56 rfl w.heap.size 5 i0 (.int .u8 0) 1 1 Tryz.underlying56 hi hz0 hz1 hz2 rfl (by decide) _ _ _ rfl (HOB.out _) ⟨W0.heap.size, 0, none⟩ 1 1 [.int .u8 (s[j].toNat : Int)] rfl rfl (by intro j u' hj; match j, hj with | 0, hj => (simp at hj; subst hj; simp [Addr.add])) (by intro u' hu'; simp at hu'; subst hu'; rfl) (by unfold maxLen; omega) (by omega) (by simp; omega) ?_)
        intro v2 w2 hown2 hgrow _
        have HR2 := Lib.hid (HR.out.byte (c := s[j]) hown2 hgrow)
        clear hown2 hgrow HR HOB
        go_wp2
        go_roundw
        case rel => exact ⟨j + 1, ps, acc ++ [s[j]], by omega, by omega, by rw [List.length_append]; simp; omega, by go_num, HG2, HR2⟩
        case measure => simp [intOf]; omega
    · have hjs' : ¬ (j : Int) < (s.size : Int) := by omega
      have HX : Hid (R = some (ps ++ withText acc [])) := Lib.hid (HG.out.trans (by rw [List.drop_eq_nil_of_le (by omega), pieces_nil]; rfl))
      clear HG HOB
      by_cases ha0 : acc = []
      · subst ha0
        have h0 : ¬ (0 : Int) < ((([] : List UInt8).length : Nat) : Int) := by decide
        have HX2 : Hid (R = some ps) := Lib.hid (HX.out.trans (by unfold withText; rw [if_pos rfl, List.append_nil]))
        go_wp2
        go_ret2
        exact ⟨rPi_some HX2.out HR.out.ol, HR.out.bel⟩
      · have hal0 : 0 < acc.length := List.length_pos_iff.2 ha0
        have h0 : (0 : Int) < (acc.length : Int) := by omega
        have HX2 : Hid (R = some (ps ++ [textPc acc])) := Lib.hid (HX.out.trans (by unfold withText; rw [if_neg ha0]))
        have hcv := owU_str HR.out.ob
        have HOL := Lib.hid fun o => ((Ch.refl [] W0).alloc o).ownB HR.out.ol (by simp)
        have hpt : pcC (textPc acc) = [.string (bq acc), .int .u8 0, .bool false, .bool false, .bool false, .int .i64 0, .int .i64 0] := rfl
        obtain ⟨z, hz⟩ : ∃ z, bq acc = z := ⟨_, rfl⟩
        rw [hz] at hcv hpt
        clear HX ha0
        go_wp2_with (at_builtin; refine wpList_append_own _ rfl _ _ 27 rfl w.heap.size 32 i1 (.agg #[.string ⟨#[]⟩, .int .u8 0, .bool false, .bool false, .bool false, .int .i64 0, .int .i64 0]) 7 40 Tryz.underlying27 hi1 jz0 jz1 jz2 rfl (by decide) _ _ _ rfl (HOL.out _) ⟨W0.heap.size, 0, none⟩ 1 1 [.string z, .int .u8 0, .bool false, .bool false, .bool false, .int .i64 0, .int .i64 0] rfl rfl (news_alloc W0 #[.string z, .int .u8 0, .bool false, .bool false, .bool false, .int .i64 0, .int .i64 0] _ _ rfl) (by intro u' hu'; simp at hu'; rcases hu' with rfl | rfl | rfl | rfl | rfl | rfl | rfl <;> rfl) (by unfold maxLen; omega) (by omega) (by simp; omega) ?_)
        intro v2 w2 hown2 hgrow _
        have HR2 := Lib.hid (HR.out.part (textPc acc) (by rw [hpt]; exact hown2) hgrow)
        clear hown2 hgrow HR HOL
        go_wp2
        go_ret2
        exact ⟨rPi_some HX2.out HR2.out.ol, HR2.out.bel⟩
end Go.Proofs.YtbdcmnhfmkefdaaGreatDoor
