/- The laws of layer 9: two formats, one behind the other: the walk. -/
import Derived.Test.YtbdcmnhfmkefdaaGreatDoorFmtAq
namespace Go.Proofs.YtbdcmnhfmkefdaaGreatDoor
open Go.RowKit Go.Joins M1 M2 M9
set_option linter.unusedVariables false
theorem fmSaid_form {R : Except (Nat × Int) (List UInt8)} {e : Ending} (h : FmSaid R e) : ∃ s n c, e = .returned (.tuple #[.string s, .int .i64 n, .int .i64 c]) := by
  cases R with
  | error x => exact ⟨_, _, _, h⟩
  | ok t => exact ⟨_, _, _, h⟩
set_option maxHeartbeats 16000000 in
set_option maxRecDepth 100000 in
theorem apart_walk (f g : ByteArray) (va vb : Value) (la lb : List Ar) (hla : la.length ≤ maxLen) (hlb : lb.length ≤ maxLen) (w : World) (he : E9 w) (ha : Args w va la) (hb : Args w vb lb) (hca : Caps va) (hcb : Caps vb) :
    Calls Tryz.prog 8 #[.string f, .string g, va, vb] w fun e w' => e = .returned (.bool true) ∧ Below w.heap.size w w' := by
  have hL := Lib.hid fun W (hb : Below w.heap.size w W) => lives9 W (he.on hb)
  have QA := Lib.hid (large9 f va la w ha hla)
  have QB := Lib.hid (large9 g vb lb w hb hlb)
  unfold LgSaid at QA QB
  obtain ⟨pa, ca, rfl, -⟩ := ha.form
  obtain ⟨pb, cb, rfl, -⟩ := hb.form
  obtain ⟨hca1, hca2⟩ := hca.of
  obtain ⟨hcb1, hcb2⟩ := hcb.of
  clear hca hcb
  cases h1 : largeF f la with
  | true =>
    rw [h1] at QA
    clear ha hb he h1 QB hca1 hca2 hcb1 hcb2
    go_enter Tryz.func8, Tryz.ntmps8
    go_wp2_with (first | (go_at_call 14; (with_reducible refine (QA.out).mono ?_); rintro e w' ⟨rfl, rfl⟩) | (go_at_call 11; (with_reducible refine (hL.out _ (Below.refl _ _)).mono ?_); rintro e w1 ⟨rfl, hb1⟩))
    go_ret
    exact ⟨rfl, hb1⟩
  | false =>
    rw [h1] at QA
    cases h2 : largeF g lb with
    | true =>
      rw [h2] at QB
      clear ha hb he h1 h2 hca1 hca2 hcb1 hcb2
      go_enter Tryz.func8, Tryz.ntmps8
      go_wp2_with (first | (go_at_call 14; (with_reducible refine (QA.out).mono ?_); rintro e w' ⟨rfl, rfl⟩) | (go_at_call 14; (with_reducible refine (QB.out).mono ?_); rintro e w' ⟨rfl, rfl⟩) | (go_at_call 11; (with_reducible refine (hL.out _ (Below.refl _ _)).mono ?_); rintro e w1 ⟨rfl, hb1⟩))
      go_ret
      exact ⟨rfl, hb1⟩
    | false =>
      rw [h2] at QB
      obtain ⟨hf5, hl3, has⟩ := largeF_no h1
      obtain ⟨hg5, hm3, hbs⟩ := largeF_no h2
      obtain ⟨ps, c, hpc, hpl, QP0⟩ := pieces_list f w he (by omega)
      have QP := Lib.hid QP0
      have hdl := dirsF_le ps
      have hpl2 : ps.length ≤ 10000 := by omega
      have HPC := Lib.hid hpc
      have HA := Lib.hid ha
      have HB := Lib.hid hb
      have HE := Lib.hid he
      have HS1 := Lib.hid has
      have HS2 := Lib.hid hbs
      have HCA := Lib.hid hca2
      have HCB := Lib.hid hcb2
      clear QP0 hpc ha hb he has hbs hca2 hcb2 h1 h2
      go_enter Tryz.func8, Tryz.ntmps8
      go_upto_region 4 with (first | (go_at_call 14; (with_reducible refine (QA.out).mono ?_); rintro e w' ⟨rfl, rfl⟩) | (go_at_call 14; (with_reducible refine (QB.out).mono ?_); rintro e w' ⟨rfl, rfl⟩) | (go_at_call 12; (with_reducible refine (QP.out).mono ?_); rintro e w1 ⟨⟨v, rfl, ho⟩, hb1⟩))
      obtain ⟨q, cap, rfl⟩ := ownB_form ho
      have HO := Lib.hid ho
      have HB1 := Lib.hid hb1
      clear ho hb1 QP QA QB
      go_wp2
      go_loop [11, 12] (fun v11 v12 => ∃ k : Nat, k ≤ ps.length ∧ v12 = .int .i64 (k : Int) ∧ v11 = .int .i64 (dirsF (ps.take k) : Int)) (fun _ v12 => ps.length - (intOf v12).toNat)
      case atStart => exact ⟨0, Nat.zero_le _, rfl, rfl⟩
      case round =>
        obtain ⟨k, hk, rfl, rfl⟩ := hrel
        by_cases hlt : k < ps.length
        · have hlt' : (k : Int) < (ps.length : Int) := by omega
          have hform := ownsRow_form HO.out (by omega)
          obtain ⟨g', cap2, hge⟩ := hform
          obtain ⟨rfl, rfl⟩ : q = some ⟨g', 0, none⟩ ∧ cap = cap2 := by injection hge with h1 _ h3; exact ⟨h1, h3⟩
          have c1 : w1.cell? ⟨g', k * 7 + 1, none⟩ = some (.int .u8 (ps[k].verb : Int)) := row_cells HO.out hlt 1 (by decide)
          have HT := Lib.hid (dirsF_take hlt)
          have hdk := dirsF_le (ps.take k)
          rw [List.length_take] at hdk
          generalize dirsF (ps.take k) = d1 at *
          generalize ps[k].verb = ve at *
          clear hge
          by_cases hv : ve = 0
          · have HT2 : Hid (dirsF (ps.take (k + 1)) = d1) := Lib.hid (by rw [HT.out, if_pos hv]; rfl)
            subst hv
            go_wp2
            go_round
            case rel => exact ⟨k + 1, by omega, by go_num, by rw [HT2.out]⟩
            case measure => simp [intOf]; omega
          · have HT2 : Hid (dirsF (ps.take (k + 1)) = d1 + 1) := Lib.hid (by rw [HT.out, if_neg hv])
            have hv2 : ((ve : Int) != 0) = true := by simp; omega
            clear hv
            go_wp2
            go_round
            case rel => exact ⟨k + 1, by omega, by go_num, by rw [HT2.out]; go_num⟩
            case measure => simp [intOf]; omega
        · have hke : ps.take k = ps := List.take_of_length_le (by omega)
          have hlt' : ¬ (k : Int) < (ps.length : Int) := by omega
          rw [hke]
          obtain ⟨d, hd⟩ : ∃ d, dirsF ps = d := ⟨_, rfl⟩
          rw [hd] at hdl ⊢
          have HD := Lib.hid hd
          clear hke hd
          rcases HPC.out with ⟨hp, rfl⟩ | rfl
          · by_cases hda : d ≤ la.length
            · have e1 : ¬ (la.length : Int) < (d : Int) := by omega
              have hdc : d ≤ ca := by omega
              have HA1 : Hid (∀ W, Below w.heap.size w W → Args W (.slice pa d ca) (la.take d)) := Lib.hid fun W hb => (HA.out.below hb).take hda
              have HB2 : Hid (∀ W, Below w.heap.size w W → Args W (.slice pb lb.length cb) lb) := Lib.hid fun W hb => HB.out.below hb
              have hs1 : ∀ a ∈ la.take d, a.s.size ≤ 100000 := fun a h => by have := HS1.out a (List.mem_of_mem_take h); omega
              have hs2 : ∀ a ∈ lb, a.s.size ≤ 100000 := fun a h => by have := HS2.out a h; omega
              have hs3 : ∀ a ∈ [] ++ la.take d ++ lb, a.s.size ≤ 100000 := fun a h => by
                rcases List.mem_append.1 h with h | h
                · exact hs1 a h
                · exact hs2 a h
              have htl : (la.take d).length = d := by rw [List.length_take]; omega
              have QF1 := Lib.hid (format_any f (.slice pa d ca) (la.take d) w1 (HE.out.on HB1.out) (by omega) (HA1.out _ HB1.out) (by omega) hs1)
              have QF2 := Lib.hid fun W (hb : Below w.heap.size w W) => format_any g (.slice pb lb.length cb) lb W (HE.out.on hb) (by omega) (HB2.out W hb) (by omega) hs2
              have QF3 := Lib.hid fun v W (hb : Below w.heap.size w W) (ha : Args W v ([] ++ la.take d ++ lb)) => format_any (f ++ g) v ([] ++ la.take d ++ lb) W (HE.out.on hb) (by rw [ByteArray.size_append]; omega) ha (by simp; omega) hs3
              have HAO : Hid (∀ W v, W.ownsRow w.heap.size 46 5 v (0 + d + lb.length) (([] ++ la.take d ++ lb).flatMap arC) → Args W v ([] ++ la.take d ++ lb)) := Lib.hid fun W v h => args_own h (by rw [List.length_append, List.nil_append, htl]; omega)
              have hfg : (f ++ g).data.toList = f.data.toList ++ g.data.toList := by rw [ByteArray.data_append, Array.toList_append]
              have htwo := fun s => two_formats (f := f.data.toList) (g := g.data.toList) (s := s) (va := (la.take d).map Ar.vl) (vb := lb.map Ar.vl) hp (by rw [List.length_map, htl]; exact HD.out)
              rw [hfg, List.nil_append, List.map_append] at QF3
              clear hfg HPC hp HS1 HS2 hs1 hs2 hs3 HA HB HE
              have her : ∀ n c, formatF f.data.toList ((la.take d).map Ar.vl) = .error (n, c) → c ≠ 0 := fun n c h => formatF_err h
              have hmx : ∀ t, formatF g.data.toList (lb.map Ar.vl) = .ok t → t.length ≤ 4096 := fun t h => formatF_max h
              have her2 : ∀ n c, formatF g.data.toList (lb.map Ar.vl) = .error (n, c) → c ≠ 0 := fun n c h => formatF_err h
              generalize formatF f.data.toList ((la.take d).map Ar.vl) = R1 at *
              generalize formatF g.data.toList (lb.map Ar.vl) = R2 at *
              generalize formatF (f.data.toList ++ g.data.toList) ((la.take d).map Ar.vl ++ lb.map Ar.vl) = R3 at *
              rw [List.nil_append] at HAO
              cases R1 with
              | error x =>
                obtain ⟨n1, c1⟩ := x
                have e2 : (c1 != 0) = true := by simpa using her n1 c1 rfl
                clear her hmx htwo her2
                go_wp2_with (first | (go_at_call 15; (with_reducible refine (QF1.out).mono ?_); rintro e w2 ⟨rfl, hb2⟩; have H2 := Lib.hid (HB1.out.trans (hb2.mono HB1.out.size))) | (go_at_call 15; (with_reducible refine (QF2.out _ H2.out).mono ?_); rintro e w3 ⟨he3, hb3⟩; obtain ⟨s3, n3, c3, rfl⟩ := fmSaid_form he3; clear he3; have H3 := Lib.hid (H2.out.trans (hb3.mono H2.out.size)); have H3a := Lib.hid (H3.out.alloc H3.out.size (.cells #[] 46)); have hs3 := H3a.out.size) | (at_builtin; refine append_args w rfl (.tmp 79) (.tmp 82) rfl w.heap.size _ 0 [] rfl (own0_any H3.out.size) pa d ca (la.take d) rfl (HA1.out _ H3a.out) HCA.out (by rw [List.length_take]; omega) H3a.out hs3 ?_; intro v4 W4 ho4 hb4 hs4; have HO4 := Lib.hid ho4; have H4 := Lib.hid hb4; clear ho4 hb4) | (at_builtin; refine append_args w rfl (.tmp 83) (.tmp 84) rfl w.heap.size v4 (0 + d) ([] ++ la.take d) rfl HO4.out pb lb.length cb lb rfl (HB2.out _ H4.out) HCB.out (by omega) H4.out hs4 ?_; intro v5 W5 ho5 hb5 hs5; have HO5 := Lib.hid ho5; have H5 := Lib.hid hb5; clear ho5 hb5) | (go_at_call 15; (with_reducible refine (QF3.out _ _ H5.out (HAO.out _ _ HO5.out)).mono ?_); rintro e w6 ⟨he6, hb6⟩; obtain ⟨s6, n6, c6, rfl⟩ := fmSaid_form he6; clear he6; have H6 := Lib.hid (H5.out.trans (hb6.mono H5.out.size))) | (go_at_call 11; (with_reducible refine (hL.out _ H6.out).mono ?_); rintro e w9 ⟨rfl, hb9⟩))
                go_ret
                exact ⟨rfl, H6.out.trans (hb9.mono H6.out.size)⟩
              | ok s =>
                obtain ⟨ht, hsl⟩ := htwo s rfl
                have HTW := Lib.hid ht
                clear her htwo ht
                cases R2 with
                | error x =>
                  obtain ⟨n2, c2⟩ := x
                  have e2 : (c2 != 0) = true := by simpa using her2 n2 c2 rfl
                  obtain ⟨n3, c3, rfl, hc3⟩ := HTW.out
                  have e3 : (c3 != 0) = true := by simpa using hc3
                  clear hmx her2 HTW hc3 hsl
                  go_wp2_with (first | (go_at_call 15; (with_reducible refine (QF1.out).mono ?_); rintro e w2 ⟨rfl, hb2⟩; have H2 := Lib.hid (HB1.out.trans (hb2.mono HB1.out.size))) | (go_at_call 15; (with_reducible refine (QF2.out _ H2.out).mono ?_); rintro e w3 ⟨rfl, hb3⟩; have H3 := Lib.hid (H2.out.trans (hb3.mono H2.out.size)); have H3a := Lib.hid (H3.out.alloc H3.out.size (.cells #[] 46)); have hs3 := H3a.out.size) | (at_builtin; refine append_args w rfl (.tmp 79) (.tmp 82) rfl w.heap.size _ 0 [] rfl (own0_any H3.out.size) pa d ca (la.take d) rfl (HA1.out _ H3a.out) HCA.out (by rw [List.length_take]; omega) H3a.out hs3 ?_; intro v4 W4 ho4 hb4 hs4; have HO4 := Lib.hid ho4; have H4 := Lib.hid hb4; clear ho4 hb4) | (at_builtin; refine append_args w rfl (.tmp 83) (.tmp 84) rfl w.heap.size v4 (0 + d) ([] ++ la.take d) rfl HO4.out pb lb.length cb lb rfl (HB2.out _ H4.out) HCB.out (by omega) H4.out hs4 ?_; intro v5 W5 ho5 hb5 hs5; have HO5 := Lib.hid ho5; have H5 := Lib.hid hb5; clear ho5 hb5) | (go_at_call 15; (with_reducible refine (QF3.out _ _ H5.out (HAO.out _ _ HO5.out)).mono ?_); rintro e w6 ⟨rfl, hb6⟩; have H6 := Lib.hid (H5.out.trans (hb6.mono H5.out.size))) | (go_at_call 11; (with_reducible refine (hL.out _ H6.out).mono ?_); rintro e w9 ⟨rfl, hb9⟩))
                  go_ret
                  exact ⟨rfl, H6.out.trans (hb9.mono H6.out.size)⟩
                | ok t =>
                  have htl := hmx t rfl
                  have h3 : R3 = if 4096 < s.length + t.length then .error (0, 14) else .ok (s ++ t) := HTW.out
                  clear hmx her2 HTW
                  have hxs := bq_size s
                  have hys := bq_size t
                  have q3 : IntKind.i64.wrap (((bq s).size : Int) + ((bq t).size : Int)) = ((bq s).size : Int) + ((bq t).size : Int) := IntWalk.i64_in _ (by omega)
                  by_cases h4 : 4096 < s.length + t.length
                  · rw [if_pos h4] at h3
                    subst h3
                    have e4 : (4096 : Int) < ((bq s).size : Int) + ((bq t).size : Int) := by omega
                    go_wp2_with (first | (go_at_call 15; (with_reducible refine (QF1.out).mono ?_); rintro e w2 ⟨rfl, hb2⟩; have H2 := Lib.hid (HB1.out.trans (hb2.mono HB1.out.size))) | (go_at_call 15; (with_reducible refine (QF2.out _ H2.out).mono ?_); rintro e w3 ⟨rfl, hb3⟩; have H3 := Lib.hid (H2.out.trans (hb3.mono H2.out.size)); have H3a := Lib.hid (H3.out.alloc H3.out.size (.cells #[] 46)); have hs3 := H3a.out.size) | (at_builtin; refine append_args w rfl (.tmp 79) (.tmp 82) rfl w.heap.size _ 0 [] rfl (own0_any H3.out.size) pa d ca (la.take d) rfl (HA1.out _ H3a.out) HCA.out (by rw [List.length_take]; omega) H3a.out hs3 ?_; intro v4 W4 ho4 hb4 hs4; have HO4 := Lib.hid ho4; have H4 := Lib.hid hb4; clear ho4 hb4) | (at_builtin; refine append_args w rfl (.tmp 83) (.tmp 84) rfl w.heap.size v4 (0 + d) ([] ++ la.take d) rfl HO4.out pb lb.length cb lb rfl (HB2.out _ H4.out) HCB.out (by omega) H4.out hs4 ?_; intro v5 W5 ho5 hb5 hs5; have HO5 := Lib.hid ho5; have H5 := Lib.hid hb5; clear ho5 hb5) | (go_at_call 15; (with_reducible refine (QF3.out _ _ H5.out (HAO.out _ _ HO5.out)).mono ?_); rintro e w6 ⟨rfl, hb6⟩; have H6 := Lib.hid (H5.out.trans (hb6.mono H5.out.size))) | (go_at_call 11; (with_reducible refine (hL.out _ H6.out).mono ?_); rintro e w9 ⟨rfl, hb9⟩))
                    go_ret
                    exact ⟨rfl, H6.out.trans (hb9.mono H6.out.size)⟩
                  · rw [if_neg h4] at h3
                    subst h3
                    have e4 : ¬ (4096 : Int) < ((bq s).size : Int) + ((bq t).size : Int) := by omega
                    have QF4 : Hid (∀ v W, Below w.heap.size w W → Args W v (la.take d ++ lb) → Calls Tryz.prog 15 #[.string (f ++ g), v] W fun e w' => e = .returned (.tuple #[.string (bq s ++ bq t), .int .i64 0, .int .i64 0]) ∧ Below W.heap.size W w') := Lib.hid fun v W hb ha => (QF3.out v W hb ha).mono fun e w' ⟨h1, h2⟩ => ⟨by rw [bq_app]; exact h1, h2⟩
                    clear QF3
                    go_wp2_with (first | (go_at_call 15; (with_reducible refine (QF1.out).mono ?_); rintro e w2 ⟨rfl, hb2⟩; have H2 := Lib.hid (HB1.out.trans (hb2.mono HB1.out.size))) | (go_at_call 15; (with_reducible refine (QF2.out _ H2.out).mono ?_); rintro e w3 ⟨rfl, hb3⟩; have H3 := Lib.hid (H2.out.trans (hb3.mono H2.out.size)); have H3a := Lib.hid (H3.out.alloc H3.out.size (.cells #[] 46)); have hs3 := H3a.out.size) | (at_builtin; refine append_args w rfl (.tmp 79) (.tmp 82) rfl w.heap.size _ 0 [] rfl (own0_any H3.out.size) pa d ca (la.take d) rfl (HA1.out _ H3a.out) HCA.out (by rw [List.length_take]; omega) H3a.out hs3 ?_; intro v4 W4 ho4 hb4 hs4; have HO4 := Lib.hid ho4; have H4 := Lib.hid hb4; clear ho4 hb4) | (at_builtin; refine append_args w rfl (.tmp 83) (.tmp 84) rfl w.heap.size v4 (0 + d) ([] ++ la.take d) rfl HO4.out pb lb.length cb lb rfl (HB2.out _ H4.out) HCB.out (by omega) H4.out hs4 ?_; intro v5 W5 ho5 hb5 hs5; have HO5 := Lib.hid ho5; have H5 := Lib.hid hb5; clear ho5 hb5) | (go_at_call 15; (with_reducible refine (QF4.out _ _ H5.out (HAO.out _ _ HO5.out)).mono ?_); rintro e w6 ⟨rfl, hb6⟩; have H6 := Lib.hid (H5.out.trans (hb6.mono H5.out.size))) | (go_at_call 11; (with_reducible refine (hL.out _ H6.out).mono ?_); rintro e w9 ⟨rfl, hb9⟩))
                    go_ret
                    exact ⟨rfl, H6.out.trans (hb9.mono H6.out.size)⟩
            · have e1 : (la.length : Int) < (d : Int) := by omega
              clear HPC hp
              go_wp2_with (go_at_call 11; (with_reducible refine (hL.out _ HB1.out).mono ?_); rintro e w9 ⟨rfl, hb9⟩)
              go_ret
              exact ⟨rfl, HB1.out.trans (hb9.mono HB1.out.size)⟩
          · clear HPC
            go_wp2_with (go_at_call 11; (with_reducible refine (hL.out _ HB1.out).mono ?_); rintro e w9 ⟨rfl, hb9⟩)
            go_ret
            exact ⟨rfl, HB1.out.trans (hb9.mono HB1.out.size)⟩
end Go.Proofs.YtbdcmnhfmkefdaaGreatDoor
