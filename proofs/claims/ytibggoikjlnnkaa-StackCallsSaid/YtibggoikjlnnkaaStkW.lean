/- Layer 17: the reference's SetTop, Rotate, Insert, Remove. -/
import Derived.Test.YtibggoikjlnnkaaStkU
import Derived.Test.YtibggoikjlnnkaaStkF
namespace Go.Proofs.Ytibggoikjlnnkaa
open Go.RowKit Go.Joins M1
set_option linter.unusedVariables false
def lenAt (w : World) (t : Nat) : Nat := match w.cell? ⟨t, 0, none⟩ with
  | some (.slice _ n _) => n
  | _ => 0
theorem rotS_succ {l : List V5} {k r m j : Nat} {x : V5} (h : l[k + j]? = some x) : rotS l k r m (j + 1) = (rotS l k r m j).set (k + (j + r) % m) x := by
  conv => lhs; unfold rotS
  rw [h]
theorem sk_step {T : TypeId} {B t lim : Nat} {va va' : Value} {l' : List V5} {w W0 W1 W2 : World} (h2 : ∀ g ∈ skS t va', g ∈ skS t va ∨ w.heap.size ≤ g) (h3 : Ch (skS t va) w W0) (hc : Ch [] W0 W1) (hs : SkSaid T B t va' l' lim W1 W2) : SkSaid T B t va l' lim w W2 := by
  obtain ⟨⟨va2, k1, k2⟩, k3⟩ := SkSaid.before hc hs
  refine ⟨⟨va2, k1, fun g hg => ?_⟩, ⟨k3.os.trans h3.os, k3.tape.trans h3.tape, k3.output.trans h3.output, Nat.le_trans h3.size k3.size, fun g q1 q2 => (k3.block g (Nat.lt_of_lt_of_le q1 h3.size) (fun e => ?_)).trans (h3.block g q1 q2)⟩⟩
  · rcases k2 g hg with q | q
    · exact h2 g q
    · right; have := h3.size; omega
  · rcases h2 g e with q | q
    · exact q2 q
    · omega
theorem rsettop_nil (n : Int) (w : World) : Calls Try.prog 36 #[.pointer none, .int .i64 n] w fun e w' => e = .returned (.int .i64 1) ∧ w = w' := by
  go_enter Try.func36, Try.ntmps36
  go_wp2
  go_ret
  exact ⟨rfl, rfl⟩
theorem rsettop_bad (B t : Nat) (va : Value) (l : List V5) (lim : Nat) (w : World) (h : Sk 65 B t va l lim w) (n : Int) (hn : n < 0 ∨ (lim : Int) < n) :
    Calls Try.prog 36 #[.pointer (some ⟨t, 0, none⟩), .int .i64 n] w fun e w' => e = .returned (.int .i64 6) ∧ SkSaid 65 B t va l lim w w' := by
  have H := Lib.hid h
  obtain ⟨p, cap, rfl⟩ := h.form1
  have c1 : w.cell? ⟨t, 1, none⟩ = some (.int .i64 (lim : Int)) := h.blk.cell 1
  have hb := h.blk.lt
  clear h
  by_cases g1 : n < 0
  · clear hn
    go_enter Try.func36, Try.ntmps36
    go_wp2
    go_ret
    exact ⟨rfl, sk_0 H.out (Ch.refl _ _)⟩
  · have g2 : (lim : Int) < n := by omega
    clear hn
    go_enter Try.func36, Try.ntmps36
    go_wp2
    go_ret
    exact ⟨rfl, sk_0 H.out (Ch.refl _ _)⟩
set_option maxHeartbeats 4000000 in
theorem rsettop_ok (B t : Nat) (va : Value) (l : List V5) (lim : Nat) (w : World) (h : Sk 65 B t va l lim w) (k : Nat) (hk : k ≤ lim) (hB : B ≤ w.heap.size) :
    Calls Try.prog 36 #[.pointer (some ⟨t, 0, none⟩), .int .i64 (k : Int)] w fun e w' => e = .returned (.int .i64 0) ∧ SkSaid 65 B t va (if k < l.length then l.take k else l ++ List.replicate (k - l.length) v5z) lim w w' := by
  have HS0 : Hid (SkSaid 65 B t va (l ++ List.replicate 0 v5z) lim w w) := Lib.hid (by simpa using sk_0 h (Ch.refl _ _))
  have HLL : Hid (l.length ≤ lim ∧ lim ≤ 1000 ∧ k ≤ lim ∧ B ≤ w.heap.size) := Lib.hid ⟨h.le, h.top, hk, hB⟩
  obtain ⟨p, cap, rfl⟩ := h.form1
  have c1 : w.cell? ⟨t, 1, none⟩ = some (.int .i64 (lim : Int)) := h.blk.cell 1
  have hb := h.blk.lt
  have g1 : ¬ (k : Int) < 0 := by omega
  have g2 : ¬ (lim : Int) < (k : Int) := by omega
  obtain ⟨res, hres⟩ : ∃ res, res = (if k < l.length then l.take k else l ++ List.replicate (k - l.length) v5z) := ⟨_, rfl⟩
  rw [← hres]
  have HRES := Lib.hid hres
  clear h hk hB hres
  go_enter Try.func36, Try.ntmps36
  go_wp2
  clear c1 hb
  go_loopw [] (fun wr => ∃ j : Nat, (j = 0 ∨ l.length + j ≤ k) ∧ Hid (SkSaid 65 B t (.slice p l.length cap) (l ++ List.replicate j v5z) lim w wr)) (fun wr => k - lenAt wr t)
  case atStart => exact ⟨0, .inl rfl, HS0⟩
  case round =>
    obtain ⟨j, hj, HS⟩ := hrel
    rename World => W0
    obtain ⟨⟨va', h1, h2⟩, h3⟩ := HS.out
    have HK := Lib.hid h1
    have H2 := Lib.hid h2
    have H3 := Lib.hid h3
    have hlen : (l ++ List.replicate j v5z).length = l.length + j := by simp
    have HJ := Lib.hid hj
    clear h2 h3
    by_cases hlt : l.length + j < k
    · obtain ⟨p', cap', rfl⟩ := h1.form1
      rw [hlen] at HK H2 h1
      have c0 : W0.cell? ⟨t, 0, none⟩ = some (.slice p' (l.length + j) cap') := h1.blk.cell 0
      have hbl := h1.blk.lt
      have hlt' : ((l.length + j : Nat) : Int) < (k : Int) := by omega
      have HLT := Lib.hid hlt
      have HLA : Hid (lenAt W0 t = l.length + j) := Lib.hid (by unfold lenAt; rw [c0])
      have hc4 : Ch [] W0 (W0.alloc (.cells #[.int .i64 0, .int .i64 0, .int .i64 0, .string ⟨#[]⟩, .int .i64 0] 35)) := (Ch.refl [] W0).alloc _
      have H4 := Lib.hid (h1.ch0 hc4)
      have HR4 : Hid ((W0.alloc (.cells #[.int .i64 0, .int .i64 0, .int .i64 0, .string ⟨#[]⟩, .int .i64 0] 35)).ownsRow B 35 5 (.slice p' (l.length + j) cap') (l ++ List.replicate j v5z).length ((l ++ List.replicate j v5z).flatMap vC)) := Lib.hid H4.out.row
      have HV1 : Hid (ValsA (W0.alloc (.cells #[.int .i64 0, .int .i64 0, .int .i64 0, .string ⟨#[]⟩, .int .i64 0] 35)) (.slice (some ⟨W0.heap.size, 0, none⟩) 1 1) [v5z]) := Lib.hid (vals_one v5z W0)
      have HBD : Hid ((l ++ List.replicate j v5z).length + [v5z].length ≤ 1000000 ∧ B ≤ (W0.alloc (.cells #[.int .i64 0, .int .i64 0, .int .i64 0, .string ⟨#[]⟩, .int .i64 0] 35)).heap.size) := Lib.hid ⟨by rw [hlen]; have := HLL.out; simp; omega, by have h5 := HLL.out.2.2.2; have h6 := H3.out.size; have h7 := hc4.size; omega⟩
      clear h1 hlt hc4
      go_upto_region 6 with fail
      go_wp2_with (at_builtin; refine append_vals rfl _ _ rfl B _ (l ++ List.replicate j v5z) rfl HR4.out (some ⟨W0.heap.size, 0, none⟩) 1 1 [v5z] rfl HV1.out (fun e => by cases e) HBD.out.1 HBD.out.2 ?_)
      intro v' W' ho' hc' hg'
      obtain ⟨p2, c2, rfl⟩ := ownB_form ho'
      have hbt := H4.out.blk.ch hc' (fun e => H4.out.ap t e rfl)
      have d0 : W'.cell? ⟨t, 0, none⟩ = some (.slice p' (l.length + j) cap') := hbt.cell 0
      have f0 := hbt.fz 0
      have hbl2 := hbt.lt
      have HLB : Hid (lenAt (W'.setCell ⟨t, 0, none⟩ (.slice p2 (l.length + (j + 1)) c2)) t = l.length + (j + 1)) := Lib.hid (by
        have := (hbt.set 0 (.slice p2 (l.length + (j + 1)) c2)).cell 0
        unfold lenAt
        rw [this]; rfl)
      have HS2 : Hid (SkSaid 65 B t (.slice p l.length cap) (l ++ List.replicate (j + 1) v5z) lim w (W'.setCell ⟨t, 0, none⟩ (.slice p2 (l.length + (j + 1)) c2))) := Lib.hid (sk_step H2.out H3.out ((Ch.refl [] W0).alloc (.cells #[.int .i64 0, .int .i64 0, .int .i64 0, .string ⟨#[]⟩, .int .i64 0] 35)) (H4.out.laid (va' := .slice p2 (l.length + (j + 1)) c2) (l' := l ++ List.replicate (j + 1) v5z) (by decide) hc' (by rw [List.replicate_succ', ← List.append_assoc]; simpa using ho') (by have := HLL.out; have := HLT.out; simp; omega) (by simpa using hg')))
      clear ho' hc' hg' hbt c0 hbl
      go_wp2_with fail
      go_roundw
      case rel => exact ⟨j + 1, .inr (by have := HLT.out; omega), HS2⟩
      case measure => rw [HLA.out, HLB.out]; have := HLT.out; omega
    · have hge : k ≤ l.length + j := by omega
      have HEQ : Hid ((l ++ List.replicate j v5z).take k = res) := Lib.hid (by
        rw [HRES.out]
        by_cases hq : k < l.length
        · rw [if_pos hq, List.take_append_of_le_length (by omega)]
        · rw [if_neg hq, List.take_of_length_le (by simp; omega)]
          congr 2
          rcases hj with q | q <;> omega)
      rcases h1.form with ⟨rfl, he⟩ | ⟨g, cap', rfl⟩
      · have hl0 : l.length + j = 0 := by have := congrArg List.length he; simpa [hlen] using this
        obtain rfl : k = 0 := by omega
        have c0 : W0.cell? ⟨t, 0, none⟩ = some (.slice none 0 0) := h1.blk.cell 0
        have f0 := h1.blk.fz 0
        have hbl := h1.blk.lt
        have HS9 := Lib.hid (Sk.shorter (T := 65) (cap := 0) (p := none) (l := []) (by decide) (by rw [he] at h1; exact h1) 0 (Nat.zero_le _))
        have HE0 : Hid (([] : List V5).take 0 = res) := Lib.hid (by rw [← HEQ.out, he])
        clear h1 hlt hge hj he hlen hl0
        go_upto_region 7 with fail
        go_wp2
        go_ret
        exact ⟨rfl, by rw [← HE0.out]; exact sk_step H2.out H3.out (Ch.refl _ _) HS9.out⟩
      · have hcap : (l ++ List.replicate j v5z).length ≤ cap' := row_cap h1.row
        have HS9 := Lib.hid (Sk.shorter (T := 65) (by decide) h1 k (by rw [hlen]; exact hge))
        rw [hlen] at h1 hcap
        have c0 : W0.cell? ⟨t, 0, none⟩ = some (.slice (some ⟨g, 0, none⟩) (l.length + j) cap') := h1.blk.cell 0
        have f0 := h1.blk.fz 0
        have hbl := h1.blk.lt
        have hlt' : ¬ ((l.length + j : Nat) : Int) < (k : Int) := by omega
        have hk1 : (k : Int) ≤ ((l.length + j : Nat) : Int) := by omega
        have hk3 : (k : Int) ≤ (cap' : Int) := by omega
        clear h1 hlt hge hj hcap hlen
        go_upto_region 7 with fail
        go_wp2
        go_ret
        exact ⟨rfl, by rw [← HEQ.out]; exact sk_step H2.out H3.out (Ch.refl _ _) HS9.out⟩
theorem rsettop_all (B t : Nat) (va : Value) (l : List V5) (lim : Nat) (w : World) (h : Sk 65 B t va l lim w) (n : Int) (hB : B ≤ w.heap.size) :
    Calls Try.prog 36 #[.pointer (some ⟨t, 0, none⟩), .int .i64 n] w fun e w' => e = .returned (.int .i64 (topE lim n)) ∧ SkSaid 65 B t va (topL l lim n) lim w w' := by
  unfold topL topE
  by_cases g1 : n < 0
  · simp only [if_pos g1]; exact rsettop_bad B t va l lim w h n (.inl g1)
  · by_cases g2 : (lim : Int) < n
    · simp only [if_neg g1, if_pos g2]; exact rsettop_bad B t va l lim w h n (.inr g2)
    · simp only [if_neg g1, if_neg g2, if_true]
      obtain ⟨k, rfl⟩ : ∃ k : Nat, n = (k : Int) := ⟨n.toNat, by omega⟩
      have := rsettop_ok B t va l lim w h k (by omega) hB
      by_cases g3 : k < l.length
      · rw [if_pos g3] at this
        rw [if_pos (show (k : Int) < (l.length : Int) by omega)]
        simpa using this
      · rw [if_neg g3] at this
        rw [if_neg (show ¬ (k : Int) < (l.length : Int) by omega)]
        simpa using this
theorem Sk.put2 {T : TypeId} {B t lim g cap : Nat} {l : List V5} {w : World} (h : Sk T B t (.slice (some ⟨g, 0, none⟩) l.length cap) l lim w) (j : Nat) (hj : j < l.length) (x : V5) :
    Sk T B t (.slice (some ⟨g, 0, none⟩) l.length cap) (l.set j x) lim (stL w g (j * 5) (vC x)) ∧ Ch [g] w (stL w g (j * 5) (vC x)) := by
  have hc : Ch [g] w (stL w g (j * 5) (vC x)) := stL_ch (by simp) _ _ (Ch.refl _ _)
  have hr := h.row
  rw [← map_flat] at hr
  have := row_store (n := 5) (vC x) (C := l.map vC) (fun c hc => by obtain ⟨y, _, rfl⟩ := List.mem_map.1 hc; rfl) j 0 (by simpa using hj) (by rw [vC_len]; omega) hr
  rw [List.getElem_map, show Go.Proofs.Ytibggoikjlnnkaa.patch (vC l[j]) 0 (vC x) = vC x from rfl, ← List.map_set, map_flat] at this
  have h2 := h.patched (l' := l.set j x) hc (by simp) (by simpa using this)
  rw [List.length_set] at h2
  exact ⟨h2, hc⟩
theorem rrot_nil (i n : Int) (w : World) : Calls Try.prog 42 #[.pointer none, .int .i64 i, .int .i64 n] w fun e w' => e = .returned (.int .i64 1) ∧ w = w' := by
  have Q := Lib.hid (rabs_nil i w)
  go_enter Try.func42, Try.ntmps42
  go_wp2_with (go_at_call 37; (with_reducible refine (Q.out).mono ?_); rintro e w1 ⟨rfl, rfl⟩)
  go_ret
  exact ⟨rfl, rfl⟩
theorem rrot_none (B t : Nat) (va : Value) (l : List V5) (lim : Nat) (w : World) (h : Sk 65 B t va l lim w) (i n : Int) (he : absI l.length i = none) :
    Calls Try.prog 42 #[.pointer (some ⟨t, 0, none⟩), .int .i64 i, .int .i64 n] w fun e w' => e = .returned (.int .i64 6) ∧ w = w' := by
  have Q := Lib.hid (rabs_none B t va l lim w h i he)
  clear h he
  go_enter Try.func42, Try.ntmps42
  go_wp2_with (go_at_call 37; (with_reducible refine (Q.out).mono ?_); rintro e w1 ⟨rfl, rfl⟩)
  go_ret
  exact ⟨rfl, rfl⟩
set_option maxHeartbeats 4000000 in
theorem rrot_p (B t : Nat) (g cap : Nat) (l : List V5) (lim : Nat) (w : World) (h : Sk 65 B t (.slice (some ⟨g, 0, none⟩) l.length cap) l lim w) (i n : Int) (k : Nat) (hk : k < l.length) (he : absI l.length i = some k) (m r : Nat) (hm : l.length - k = m) (hr : rotN n m = r) (hs : ¬ n.tmod (m : Int) < 0) (hB : B ≤ w.heap.size) :
    Calls Try.prog 42 #[.pointer (some ⟨t, 0, none⟩), .int .i64 i, .int .i64 n] w fun e w' => e = .returned (.int .i64 0) ∧ SkSaid 65 B t (.slice (some ⟨g, 0, none⟩) l.length cap) (rotL l k n) lim w w' := by
  have Q := Lib.hid (rabs_some B t _ l lim w h i k he)
  have hL : l.length ≤ 1000 := Nat.le_trans h.le h.top
  have hm0 : 0 < m := by omega
  have hfix := tmod_fix n (m : Int) (by omega)
  rw [← rotN_eq hm0, hr] at hfix
  have hrm : r < m := by rw [← hr]; exact rotN_lt hm0
  have e1 : ¬ (m : Int) = 0 := by omega
  have em : (l.length : Int) - ((k : Int) + 1) + 1 = (m : Int) := by omega
  have e2 : IntKind.i64.wrap (n.tmod (m : Int)) = n.tmod (m : Int) := IntWalk.i64_in _ (by
    have := Int.tmod_lt_of_pos n (show (0 : Int) < (m : Int) by omega)
    have h2 := Int.tmod_lt_of_pos (-n) (show (0 : Int) < (m : Int) by omega)
    rw [Int.neg_tmod] at h2; omega)
  rw [if_neg hs] at hfix
  have e4 : IntKind.i64.wrap ((r : Int)) = (r : Int) := by exact IntWalk.i64_in _ (by omega)
  have hc0 : Ch [] w (w.alloc (.cells #[] 35)) := (Ch.refl [] w).alloc _
  have H0 := Lib.hid (h.ch0 hc0)
  have HA := Lib.hid (ValsA.of_row H0.out.row)
  have HN := Lib.hid (World.ownsRow_lit (w := w) (base := w.heap.size) #[] 0 (e := 35) (size := 5) (Nat.le_refl _) (Nat.zero_le _) rfl)
  have HGL : Hid (g < w.heap.size) := Lib.hid (h.lt g (by simp [skS, Go.Proofs.Ytibggoikjlnnkaa.ob, Value.ownBlock])).2
  have HTL : Hid (t < w.heap.size) := Lib.hid h.blk.lt
  have c0 : w.cell? ⟨t, 0, none⟩ = some (.slice (some ⟨g, 0, none⟩) l.length cap) := h.blk.cell 0
  have hb := h.blk.lt
  have d0 : (w.alloc (.cells #[] 35)).cell? ⟨t, 0, none⟩ = some (.slice (some ⟨g, 0, none⟩) l.length cap) := H0.out.blk.cell 0
  have HL : Hid (([] : List V5).length + l.length ≤ 1000000 ∧ w.heap.size ≤ (w.alloc (.cells #[] 35)).heap.size) := Lib.hid ⟨by simp; omega, hc0.size⟩
  have HNM : Hid (l.length - k = m ∧ rotN n m = r ∧ r < m ∧ k < l.length ∧ l.length ≤ 1000) := Lib.hid ⟨hm, hr, hrm, hk, hL⟩
  clear h he hm hr hc0 hk
  rw [hfix] at e2 hs
  go_enter Try.func42, Try.ntmps42
  go_upto_region 8 with (go_at_call 37; (with_reducible refine (Q.out).mono ?_); rintro e w1 ⟨rfl, rfl⟩)
  go_wp2_with (at_builtin; refine append_vals rfl _ _ rfl w.heap.size _ ([] : List V5) rfl HN.out (some ⟨g, 0, none⟩) l.length cap l rfl HA.out (fun e => by cases e) HL.out.1 HL.out.2 ?_)
  intro v' W1 ho' hc' hg'
  have HO : Hid (W1.ownsRow w.heap.size 35 5 v' l.length (l.flatMap vC)) := Lib.hid (by simpa using ho')
  have HC1 : Hid (Ch [] w W1) := Lib.hid (((Ch.refl [] w).alloc (.cells #[] 35)).fresh (fun y hy => by simp [Go.Proofs.Ytibggoikjlnnkaa.ob, Value.ownBlock] at hy; omega) hc')
  have HK1 : Hid (Sk 65 B t (.slice (some ⟨g, 0, none⟩) l.length cap) (rotS l k r m 0) lim W1) := Lib.hid (H0.out.ch hc' (fun y hy hm => by
    simp [Go.Proofs.Ytibggoikjlnnkaa.ob, Value.ownBlock] at hm
    subst hm
    simp only [skS, List.mem_cons] at hy
    rcases hy with q | q
    · have := HTL.out; omega
    · simp [Go.Proofs.Ytibggoikjlnnkaa.ob, Value.ownBlock] at q; have := HGL.out; omega))
  obtain ⟨u, cu, rfl⟩ : ∃ u cu, v' = .slice (some ⟨u, 0, none⟩) l.length cu := by
    obtain ⟨g', c', e, _⟩ := HO.out.form (show 0 < l.length by have := HNM.out; omega)
    exact ⟨g', c', e⟩
  have HU : Hid (u ≠ g ∧ u ≠ t) := Lib.hid (by
    have q1 := (own_lo (g := u) HO.out (mem_ob.2 rfl)).1
    have q2 := HGL.out
    have q3 := HTL.out
    exact ⟨by omega, by omega⟩)
  clear ho' hc' hg' c0 hb d0
  go_wp2
  go_loopw [11] (fun v11 wr => ∃ j : Nat, j ≤ m ∧ v11 = .int .i64 (j : Int) ∧ Hid (Sk 65 B t (.slice (some ⟨g, 0, none⟩) l.length cap) (rotS l k r m j) lim wr) ∧ Hid (Ch [g] W1 wr)) (fun v11 _ => m - (intOf v11).toNat)
  case atStart => exact ⟨0, Nat.zero_le _, rfl, HK1, Lib.hid (Ch.refl _ _)⟩
  case round =>
    obtain ⟨j, hj, rfl, HK, HCG⟩ := hrel
    rename World => wr
    by_cases hlt : j < m
    · have hlt' : (j : Int) < (m : Int) := by omega
      have HLT := Lib.hid hlt
      obtain ⟨n1, n2, n3, n4, n5⟩ := HNM.out
      obtain ⟨q, hq⟩ : ∃ q, q = (j + r) % m := ⟨_, rfl⟩
      have hqm : q < m := by rw [hq]; exact Nat.mod_lt _ hm0
      have eq1 : ((j : Int) + (r : Int)).tmod (m : Int) = (q : Int) := by
        rw [hq, Int.tmod_eq_emod_of_nonneg (by omega)]; simp
      have eq2 : IntKind.i64.wrap (((j : Int) + (r : Int)).tmod (m : Int)) = (q : Int) := by rw [eq1]; exact IntWalk.i64_in _ (by omega)
      have dk : IntKind.i64.wrap ((k : Int) + 1 - 1) = (k : Int) := by rw [show (k : Int) + 1 - 1 = k by omega]; exact IntWalk.i64_in _ (by omega)
      have ek : (k : Int) + 1 - 1 = (k : Int) := by omega
      have i1 : (k : Int) + (q : Int) < (l.length : Int) := by omega
      have i2 : (k : Int) + (j : Int) < (l.length : Int) := by omega
      have i3 : (0 : Int) ≤ (k : Int) + (q : Int) := by omega
      have i4 : (0 : Int) ≤ (k : Int) + (j : Int) := by omega
      have t1 : ((k : Int) + (q : Int)).toNat = k + q := by omega
      have t2 : ((k : Int) + (j : Int)).toNat = k + j := by omega
      have hkj : k + j < l.length := by omega
      have hkq : k + q < (rotS l k r m j).length := by rw [rotS_len]; omega
      obtain ⟨x, hx⟩ : ∃ x, x = l[k + j] := ⟨_, rfl⟩
      have HX : Hid (l[k + j]? = some x) := Lib.hid (by rw [hx, List.getElem?_eq_getElem hkj])
      obtain ⟨y, hy⟩ : ∃ y, y = (rotS l k r m j)[k + q] := ⟨_, rfl⟩
      have hro : wr.ownsRow w.heap.size 35 5 (.slice (some ⟨u, 0, none⟩) l.length cu) l.length (l.flatMap vC) := HCG.out.ownB HO.out (fun z hz => by simp [Go.Proofs.Ytibggoikjlnnkaa.ob, Value.ownBlock] at hz; subst hz; simpa using HU.out.1)
      have hvs : ∀ z, z < 5 → wr.cell? ⟨u, (k + j) * 5 + z, none⟩ = (vC x)[z]? := fun z hz => by
        rw [hro.cellAt ((k + j) * 5 + z) (by omega), flat_at vC 5 vC_len _ (k + j) z hkj hz, hx]
      have hkr := HK.out.row
      have hrl := rotS_len l k r m j
      have hvt : ∀ z, z < 5 → wr.cell? ⟨g, (k + q) * 5 + z, none⟩ = (vC y)[z]? := fun z hz => by
        rw [← hrl] at hkr
        rw [hkr.cellAt ((k + q) * 5 + z) (by omega), flat_at vC 5 vC_len _ (k + q) z hkq hz, hy]
      have s0 : wr.cell? ⟨u, (k + j) * 5, none⟩ = some (.int .i64 x.k) := hvs 0 (by omega)
      have s1 : wr.cell? ⟨u, (k + j) * 5 + 1, none⟩ = some (.int .i64 x.p) := hvs 1 (by omega)
      have s2 : wr.cell? ⟨u, (k + j) * 5 + 2, none⟩ = some (.int .i64 x.q) := hvs 2 (by omega)
      have s3 : wr.cell? ⟨u, (k + j) * 5 + 3, none⟩ = some (.string x.s) := hvs 3 (by omega)
      have s4 : wr.cell? ⟨u, (k + j) * 5 + 4, none⟩ = some (.int .i64 x.r) := hvs 4 (by omega)
      have z0 : wr.cell? ⟨g, (k + q) * 5, none⟩ = some (.int .i64 y.k) := hvt 0 (by omega)
      have z1 : wr.cell? ⟨g, (k + q) * 5 + 1, none⟩ = some (.int .i64 y.p) := hvt 1 (by omega)
      have z2 : wr.cell? ⟨g, (k + q) * 5 + 2, none⟩ = some (.int .i64 y.q) := hvt 2 (by omega)
      have z3 : wr.cell? ⟨g, (k + q) * 5 + 3, none⟩ = some (.string y.s) := hvt 3 (by omega)
      have z4 : wr.cell? ⟨g, (k + q) * 5 + 4, none⟩ = some (.int .i64 y.r) := hvt 4 (by omega)
      have hkr2 := hkr
      rw [hrl] at hkr2
      have f0 := hkr2.frozenAt ((k + q) * 5)
      have f1 := hkr2.frozenAt ((k + q) * 5 + 1)
      have f2 := hkr2.frozenAt ((k + q) * 5 + 2)
      have f3 := hkr2.frozenAt ((k + q) * 5 + 3)
      have f4 := hkr2.frozenAt ((k + q) * 5 + 4)
      have c0 : wr.cell? ⟨t, 0, none⟩ = some (.slice (some ⟨g, 0, none⟩) l.length cap) := HK.out.blk.cell 0
      have hbl := HK.out.blk.lt
      have hgl := (HK.out.lt g (by simp [skS, Go.Proofs.Ytibggoikjlnnkaa.ob, Value.ownBlock])).2
      have hul := (own_lo (g := u) hro (mem_ob.2 rfl)).2
      have hug := HU.out.1
      have hgu : ¬ g = u := fun e => hug e.symm
      have HP := Lib.hid (Sk.put2 (by have := HK.out; rw [← hrl] at this; exact this) (k + q) hkq x)
      have HRS : Hid ((rotS l k r m j).set (k + q) x = rotS l k r m (j + 1)) := Lib.hid (by rw [rotS_succ HX.out, ← hq])
      have HRL := Lib.hid hrl
      clear hro hvs hkr hkr2 hrl hvt hx hy hq hlt n1 n2
      go_upto_region 12 with fail
      go_region
      go_wp2
      go_roundw
      case rel => exact ⟨j + 1, by have := HLT.out; omega, by go_num, Lib.hid (by
        have h1 := HP.out.1
        rw [HRS.out, HRL.out] at h1
        exact h1.ch0 (Ch.refl [] _).drew), Lib.hid ((HCG.out.trans HP.out.2).trans (Ch.refl _ _).drew)⟩
      case measure => have := HLT.out; simp [intOf]; omega
    · obtain ⟨n1, n2, n3, n4, n5⟩ := HNM.out
      have hlt' : ¬ (j : Int) < (m : Int) := by omega
      have HF : Hid (SkSaid 65 B t (.slice (some ⟨g, 0, none⟩) l.length cap) (rotL l k n) lim w wr) := Lib.hid (by
        have h1 := HK.out
        obtain rfl : j = m := by omega
        rw [← n2, ← n1, rotS_rotL l k n n4] at h1
        exact ⟨⟨_, h1, fun y hy => .inl hy⟩, (HC1.out.mono (fun y hy => absurd hy (not_nil y))).trans (HCG.out.mono (fun y hy => by simp at hy; subst hy; simp [skS, Go.Proofs.Ytibggoikjlnnkaa.ob, Value.ownBlock]))⟩)
      clear n1 n2 hlt
      go_wp2
      go_ret
      exact ⟨rfl, HF.out⟩
set_option maxHeartbeats 4000000 in
theorem rrot_n (B t : Nat) (g cap : Nat) (l : List V5) (lim : Nat) (w : World) (h : Sk 65 B t (.slice (some ⟨g, 0, none⟩) l.length cap) l lim w) (i n : Int) (k : Nat) (hk : k < l.length) (he : absI l.length i = some k) (m r : Nat) (hm : l.length - k = m) (hr : rotN n m = r) (hs : n.tmod (m : Int) < 0) (hB : B ≤ w.heap.size) :
    Calls Try.prog 42 #[.pointer (some ⟨t, 0, none⟩), .int .i64 i, .int .i64 n] w fun e w' => e = .returned (.int .i64 0) ∧ SkSaid 65 B t (.slice (some ⟨g, 0, none⟩) l.length cap) (rotL l k n) lim w w' := by
  have Q := Lib.hid (rabs_some B t _ l lim w h i k he)
  have hL : l.length ≤ 1000 := Nat.le_trans h.le h.top
  have hm0 : 0 < m := by omega
  have hfix := tmod_fix n (m : Int) (by omega)
  rw [← rotN_eq hm0, hr] at hfix
  have hrm : r < m := by rw [← hr]; exact rotN_lt hm0
  have e1 : ¬ (m : Int) = 0 := by omega
  have em : (l.length : Int) - ((k : Int) + 1) + 1 = (m : Int) := by omega
  have e2 : IntKind.i64.wrap (n.tmod (m : Int)) = n.tmod (m : Int) := IntWalk.i64_in _ (by
    have := Int.tmod_lt_of_pos n (show (0 : Int) < (m : Int) by omega)
    have h2 := Int.tmod_lt_of_pos (-n) (show (0 : Int) < (m : Int) by omega)
    rw [Int.neg_tmod] at h2; omega)
  rw [if_pos hs] at hfix
  have e4 : IntKind.i64.wrap (n.tmod (m : Int) + (m : Int)) = (r : Int) := by rw [hfix]; exact IntWalk.i64_in _ (by omega)
  have e4b : wrap64 (n.tmod (m : Int) + (m : Int)) = (r : Int) := by (rw [hfix]; unfold wrap64) <;> omega
  have hc0 : Ch [] w (w.alloc (.cells #[] 35)) := (Ch.refl [] w).alloc _
  have H0 := Lib.hid (h.ch0 hc0)
  have HA := Lib.hid (ValsA.of_row H0.out.row)
  have HN := Lib.hid (World.ownsRow_lit (w := w) (base := w.heap.size) #[] 0 (e := 35) (size := 5) (Nat.le_refl _) (Nat.zero_le _) rfl)
  have HGL : Hid (g < w.heap.size) := Lib.hid (h.lt g (by simp [skS, Go.Proofs.Ytibggoikjlnnkaa.ob, Value.ownBlock])).2
  have HTL : Hid (t < w.heap.size) := Lib.hid h.blk.lt
  have c0 : w.cell? ⟨t, 0, none⟩ = some (.slice (some ⟨g, 0, none⟩) l.length cap) := h.blk.cell 0
  have hb := h.blk.lt
  have d0 : (w.alloc (.cells #[] 35)).cell? ⟨t, 0, none⟩ = some (.slice (some ⟨g, 0, none⟩) l.length cap) := H0.out.blk.cell 0
  have HL : Hid (([] : List V5).length + l.length ≤ 1000000 ∧ w.heap.size ≤ (w.alloc (.cells #[] 35)).heap.size) := Lib.hid ⟨by simp; omega, hc0.size⟩
  have HNM : Hid (l.length - k = m ∧ rotN n m = r ∧ r < m ∧ k < l.length ∧ l.length ≤ 1000) := Lib.hid ⟨hm, hr, hrm, hk, hL⟩
  clear h he hm hr hc0 hk
  clear hfix
  go_enter Try.func42, Try.ntmps42
  go_upto_region 8 with (go_at_call 37; (with_reducible refine (Q.out).mono ?_); rintro e w1 ⟨rfl, rfl⟩)
  go_wp2_with (at_builtin; refine append_vals rfl _ _ rfl w.heap.size _ ([] : List V5) rfl HN.out (some ⟨g, 0, none⟩) l.length cap l rfl HA.out (fun e => by cases e) HL.out.1 HL.out.2 ?_)
  intro v' W1 ho' hc' hg'
  have HO : Hid (W1.ownsRow w.heap.size 35 5 v' l.length (l.flatMap vC)) := Lib.hid (by simpa using ho')
  have HC1 : Hid (Ch [] w W1) := Lib.hid (((Ch.refl [] w).alloc (.cells #[] 35)).fresh (fun y hy => by simp [Go.Proofs.Ytibggoikjlnnkaa.ob, Value.ownBlock] at hy; omega) hc')
  have HK1 : Hid (Sk 65 B t (.slice (some ⟨g, 0, none⟩) l.length cap) (rotS l k r m 0) lim W1) := Lib.hid (H0.out.ch hc' (fun y hy hm => by
    simp [Go.Proofs.Ytibggoikjlnnkaa.ob, Value.ownBlock] at hm
    subst hm
    simp only [skS, List.mem_cons] at hy
    rcases hy with q | q
    · have := HTL.out; omega
    · simp [Go.Proofs.Ytibggoikjlnnkaa.ob, Value.ownBlock] at q; have := HGL.out; omega))
  obtain ⟨u, cu, rfl⟩ : ∃ u cu, v' = .slice (some ⟨u, 0, none⟩) l.length cu := by
    obtain ⟨g', c', e, _⟩ := HO.out.form (show 0 < l.length by have := HNM.out; omega)
    exact ⟨g', c', e⟩
  have HU : Hid (u ≠ g ∧ u ≠ t) := Lib.hid (by
    have q1 := (own_lo (g := u) HO.out (mem_ob.2 rfl)).1
    have q2 := HGL.out
    have q3 := HTL.out
    exact ⟨by omega, by omega⟩)
  clear ho' hc' hg' c0 hb d0
  go_wp2
  go_loopw [11] (fun v11 wr => ∃ j : Nat, j ≤ m ∧ v11 = .int .i64 (j : Int) ∧ Hid (Sk 65 B t (.slice (some ⟨g, 0, none⟩) l.length cap) (rotS l k r m j) lim wr) ∧ Hid (Ch [g] W1 wr)) (fun v11 _ => m - (intOf v11).toNat)
  case atStart => exact ⟨0, Nat.zero_le _, rfl, HK1, Lib.hid (Ch.refl _ _)⟩
  case round =>
    obtain ⟨j, hj, rfl, HK, HCG⟩ := hrel
    rename World => wr
    by_cases hlt : j < m
    · have hlt' : (j : Int) < (m : Int) := by omega
      have HLT := Lib.hid hlt
      obtain ⟨n1, n2, n3, n4, n5⟩ := HNM.out
      obtain ⟨q, hq⟩ : ∃ q, q = (j + r) % m := ⟨_, rfl⟩
      have hqm : q < m := by rw [hq]; exact Nat.mod_lt _ hm0
      have eq1 : ((j : Int) + (r : Int)).tmod (m : Int) = (q : Int) := by
        rw [hq, Int.tmod_eq_emod_of_nonneg (by omega)]; simp
      have eq2 : IntKind.i64.wrap (((j : Int) + (r : Int)).tmod (m : Int)) = (q : Int) := by rw [eq1]; exact IntWalk.i64_in _ (by omega)
      have dk : IntKind.i64.wrap ((k : Int) + 1 - 1) = (k : Int) := by rw [show (k : Int) + 1 - 1 = k by omega]; exact IntWalk.i64_in _ (by omega)
      have ek : (k : Int) + 1 - 1 = (k : Int) := by omega
      have i1 : (k : Int) + (q : Int) < (l.length : Int) := by omega
      have i2 : (k : Int) + (j : Int) < (l.length : Int) := by omega
      have i3 : (0 : Int) ≤ (k : Int) + (q : Int) := by omega
      have i4 : (0 : Int) ≤ (k : Int) + (j : Int) := by omega
      have t1 : ((k : Int) + (q : Int)).toNat = k + q := by omega
      have t2 : ((k : Int) + (j : Int)).toNat = k + j := by omega
      have hkj : k + j < l.length := by omega
      have hkq : k + q < (rotS l k r m j).length := by rw [rotS_len]; omega
      obtain ⟨x, hx⟩ : ∃ x, x = l[k + j] := ⟨_, rfl⟩
      have HX : Hid (l[k + j]? = some x) := Lib.hid (by rw [hx, List.getElem?_eq_getElem hkj])
      obtain ⟨y, hy⟩ : ∃ y, y = (rotS l k r m j)[k + q] := ⟨_, rfl⟩
      have hro : wr.ownsRow w.heap.size 35 5 (.slice (some ⟨u, 0, none⟩) l.length cu) l.length (l.flatMap vC) := HCG.out.ownB HO.out (fun z hz => by simp [Go.Proofs.Ytibggoikjlnnkaa.ob, Value.ownBlock] at hz; subst hz; simpa using HU.out.1)
      have hvs : ∀ z, z < 5 → wr.cell? ⟨u, (k + j) * 5 + z, none⟩ = (vC x)[z]? := fun z hz => by
        rw [hro.cellAt ((k + j) * 5 + z) (by omega), flat_at vC 5 vC_len _ (k + j) z hkj hz, hx]
      have hkr := HK.out.row
      have hrl := rotS_len l k r m j
      have hvt : ∀ z, z < 5 → wr.cell? ⟨g, (k + q) * 5 + z, none⟩ = (vC y)[z]? := fun z hz => by
        rw [← hrl] at hkr
        rw [hkr.cellAt ((k + q) * 5 + z) (by omega), flat_at vC 5 vC_len _ (k + q) z hkq hz, hy]
      have s0 : wr.cell? ⟨u, (k + j) * 5, none⟩ = some (.int .i64 x.k) := hvs 0 (by omega)
      have s1 : wr.cell? ⟨u, (k + j) * 5 + 1, none⟩ = some (.int .i64 x.p) := hvs 1 (by omega)
      have s2 : wr.cell? ⟨u, (k + j) * 5 + 2, none⟩ = some (.int .i64 x.q) := hvs 2 (by omega)
      have s3 : wr.cell? ⟨u, (k + j) * 5 + 3, none⟩ = some (.string x.s) := hvs 3 (by omega)
      have s4 : wr.cell? ⟨u, (k + j) * 5 + 4, none⟩ = some (.int .i64 x.r) := hvs 4 (by omega)
      have z0 : wr.cell? ⟨g, (k + q) * 5, none⟩ = some (.int .i64 y.k) := hvt 0 (by omega)
      have z1 : wr.cell? ⟨g, (k + q) * 5 + 1, none⟩ = some (.int .i64 y.p) := hvt 1 (by omega)
      have z2 : wr.cell? ⟨g, (k + q) * 5 + 2, none⟩ = some (.int .i64 y.q) := hvt 2 (by omega)
      have z3 : wr.cell? ⟨g, (k + q) * 5 + 3, none⟩ = some (.string y.s) := hvt 3 (by omega)
      have z4 : wr.cell? ⟨g, (k + q) * 5 + 4, none⟩ = some (.int .i64 y.r) := hvt 4 (by omega)
      have hkr2 := hkr
      rw [hrl] at hkr2
      have f0 := hkr2.frozenAt ((k + q) * 5)
      have f1 := hkr2.frozenAt ((k + q) * 5 + 1)
      have f2 := hkr2.frozenAt ((k + q) * 5 + 2)
      have f3 := hkr2.frozenAt ((k + q) * 5 + 3)
      have f4 := hkr2.frozenAt ((k + q) * 5 + 4)
      have c0 : wr.cell? ⟨t, 0, none⟩ = some (.slice (some ⟨g, 0, none⟩) l.length cap) := HK.out.blk.cell 0
      have hbl := HK.out.blk.lt
      have hgl := (HK.out.lt g (by simp [skS, Go.Proofs.Ytibggoikjlnnkaa.ob, Value.ownBlock])).2
      have hul := (own_lo (g := u) hro (mem_ob.2 rfl)).2
      have hug := HU.out.1
      have hgu : ¬ g = u := fun e => hug e.symm
      have HP := Lib.hid (Sk.put2 (by have := HK.out; rw [← hrl] at this; exact this) (k + q) hkq x)
      have HRS : Hid ((rotS l k r m j).set (k + q) x = rotS l k r m (j + 1)) := Lib.hid (by rw [rotS_succ HX.out, ← hq])
      have HRL := Lib.hid hrl
      clear hro hvs hkr hkr2 hrl hvt hx hy hq hlt n1 n2
      go_upto_region 12 with fail
      go_region
      go_wp2
      go_roundw
      case rel => exact ⟨j + 1, by have := HLT.out; omega, by go_num, Lib.hid (by
        have h1 := HP.out.1
        rw [HRS.out, HRL.out] at h1
        exact h1.ch0 (Ch.refl [] _).drew), Lib.hid ((HCG.out.trans HP.out.2).trans (Ch.refl _ _).drew)⟩
      case measure => have := HLT.out; simp [intOf]; omega
    · obtain ⟨n1, n2, n3, n4, n5⟩ := HNM.out
      have hlt' : ¬ (j : Int) < (m : Int) := by omega
      have HF : Hid (SkSaid 65 B t (.slice (some ⟨g, 0, none⟩) l.length cap) (rotL l k n) lim w wr) := Lib.hid (by
        have h1 := HK.out
        obtain rfl : j = m := by omega
        rw [← n2, ← n1, rotS_rotL l k n n4] at h1
        exact ⟨⟨_, h1, fun y hy => .inl hy⟩, (HC1.out.mono (fun y hy => absurd hy (not_nil y))).trans (HCG.out.mono (fun y hy => by simp at hy; subst hy; simp [skS, Go.Proofs.Ytibggoikjlnnkaa.ob, Value.ownBlock]))⟩)
      clear n1 n2 hlt
      go_wp2
      go_ret
      exact ⟨rfl, HF.out⟩
theorem rrotate_all (B t : Nat) (va : Value) (l : List V5) (lim : Nat) (w : World) (h : Sk 65 B t va l lim w) (i n : Int) (hB : B ≤ w.heap.size) :
    Calls Try.prog 42 #[.pointer (some ⟨t, 0, none⟩), .int .i64 i, .int .i64 n] w fun e w' => e = .returned (.int .i64 (atE l i)) ∧ SkSaid 65 B t va (rotateL l i n) lim w w' := by
  unfold atE rotateL
  cases he : absI l.length i with
  | none => refine (rrot_none B t va l lim w h i n he).mono ?_; rintro e w' ⟨rfl, rfl⟩; exact ⟨rfl, sk_0 h (Ch.refl _ _)⟩
  | some k =>
    have hk := absI_lt he
    obtain ⟨g, cap, rfl⟩ := h.formN (by omega)
    by_cases hs : n.tmod ((l.length - k : Nat) : Int) < 0
    · exact rrot_n B t g cap l lim w h i n k hk he _ _ rfl rfl hs hB
    · exact rrot_p B t g cap l lim w h i n k hk he _ _ rfl rfl hs hB
theorem rinsert_nil (i : Int) (w : World) : Calls Try.prog 40 #[.pointer none, .int .i64 i] w fun e w' => e = .returned (.int .i64 1) ∧ w = w' := by
  have Q := Lib.hid (rrot_nil i 1 w)
  go_enter Try.func40, Try.ntmps40
  go_wp2_with (go_at_call 42; (with_reducible refine (Q.out).mono ?_); rintro e w1 ⟨rfl, rfl⟩)
  go_ret
  exact ⟨rfl, rfl⟩
theorem rinsert_all (B t : Nat) (va : Value) (l : List V5) (lim : Nat) (w : World) (h : Sk 65 B t va l lim w) (i : Int) (hB : B ≤ w.heap.size) :
    Calls Try.prog 40 #[.pointer (some ⟨t, 0, none⟩), .int .i64 i] w fun e w' => e = .returned (.int .i64 (atE l i)) ∧ SkSaid 65 B t va (rotateL l i 1) lim w w' := by
  have Q := Lib.hid (rrotate_all B t va l lim w h i 1 hB)
  clear h
  generalize atE l i = ae at *
  generalize rotateL l i 1 = al at *
  go_enter Try.func40, Try.ntmps40
  go_wp2_with (go_at_call 42; (with_reducible refine (Q.out).mono ?_); rintro e w1 ⟨rfl, HS⟩; have HS := Lib.hid HS)
  go_ret
  exact ⟨rfl, HS.out⟩
theorem rremove_nil (i : Int) (w : World) : Calls Try.prog 41 #[.pointer none, .int .i64 i] w fun e w' => e = .returned (.int .i64 1) ∧ w = w' := by
  have Q := Lib.hid (rrot_nil i (-1) w)
  go_enter Try.func41, Try.ntmps41
  go_wp2_with (go_at_call 42; (with_reducible refine (Q.out).mono ?_); rintro e w1 ⟨rfl, rfl⟩)
  go_ret
  exact ⟨rfl, rfl⟩
theorem rremove_all (B t : Nat) (va : Value) (l : List V5) (lim : Nat) (w : World) (h : Sk 65 B t va l lim w) (i : Int) (hB : B ≤ w.heap.size) :
    Calls Try.prog 41 #[.pointer (some ⟨t, 0, none⟩), .int .i64 i] w fun e w' => e = .returned (.int .i64 (atE l i)) ∧ SkSaid 65 B t va (remL l i) lim w w' := by
  have Q := Lib.hid (rrotate_all B t va l lim w h i (-1) hB)
  have HL : Hid (l.length ≤ lim) := Lib.hid h.le
  clear h
  unfold atE remL
  unfold atE rotateL at Q
  cases he : absI l.length i with
  | none =>
    rw [he] at Q
    clear he
    go_enter Try.func41, Try.ntmps41
    go_wp2_with (go_at_call 42; (with_reducible refine (Q.out).mono ?_); rintro e w1 ⟨rfl, HS⟩; have HS := Lib.hid HS)
    go_ret
    exact ⟨rfl, HS.out⟩
  | some k =>
    rw [he] at Q
    have hk := absI_lt he
    have hrl := rotL_len l k (-1)
    have hpe : popE (rotL l k (-1)) 1 = 0 := by unfold popE; rw [hrl, if_neg (by decide), if_neg (by omega)]
    have hpl : popL (rotL l k (-1)) 1 = l.take k ++ l.drop (k + 1) := by
      unfold popL; rw [hpe, if_pos rfl, hrl]
      exact rotL_remove l k hk
    have QP : Hid (∀ va' W, Sk 65 B t va' (rotL l k (-1)) lim W → Calls Try.prog 35 #[.pointer (some ⟨t, 0, none⟩), .int .i64 1] W fun e w' => e = .returned (.int .i64 0) ∧ SkSaid 65 B t va' (l.take k ++ l.drop (k + 1)) lim W w') := Lib.hid fun va' W h => by
      have := rpop_all B t va' _ lim W h 1
      rw [hpe, hpl] at this
      exact this
    clear he hrl hpe hpl hk
    go_enter Try.func41, Try.ntmps41
    go_wp2_with (first | (go_at_call 42; (with_reducible refine (Q.out).mono ?_); rintro e w1 ⟨rfl, ⟨⟨va', k1, k2⟩, k3⟩⟩; have K1 := Lib.hid k1; have K2 := Lib.hid k2; have K3 := Lib.hid k3; clear k1 k2 k3) | (go_at_call 35; (with_reducible refine (QP.out _ _ K1.out).mono ?_); rintro e w2 ⟨rfl, HS⟩; have HS := Lib.hid HS))
    go_ret
    exact ⟨rfl, sk_step K2.out K3.out (Ch.refl _ _) HS.out⟩
end Go.Proofs.Ytibggoikjlnnkaa
