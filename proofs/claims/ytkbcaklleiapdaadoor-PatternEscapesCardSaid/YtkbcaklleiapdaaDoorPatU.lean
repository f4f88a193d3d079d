/- Contracts of layer 4: an item without a quantifier. -/
import Derived.Test.YtkbcaklleiapdaaDoorPatT
import Derived.Test.YtkbcaklleiapdaaDoorShelf
import Derived.BigRegion
import Derived.StillTailTactics
namespace Go.Proofs.YtkbcaklleiapdaaDoor
open Go.RowKit M4
set_option linter.unusedVariables false
def OnceSaid (E : Env) (m : Caps) (left : Int) (i : Nat) (it : Itm) (e : Ending) (w' : World) : Prop :=
  if ((onceM E.s.data.toList it i m).2 : Int) ≤ left then
    match (onceM E.s.data.toList it i m).1 with
    | some r => e = .returned (.tuple #[.int .i64 (r.1 : Int), .bool true]) ∧ Mat E r.2 (left - (onceM E.s.data.toList it i m).2) w'
    | none => (∃ x : Int, e = .returned (.tuple #[.int .i64 x, .bool false])) ∧ Mat E m (left - (onceM E.s.data.toList it i m).2) w'
  else (∃ x : Int, e = .returned (.tuple #[.int .i64 x, .bool false])) ∧ Mat E m (-1) w'
theorem once_yes {E : Env} {m m' : Caps} {left : Int} {i k : Nat} {it : Itm} {e : Ending} {w' : World} (hl : 0 ≤ left) (h : onceM E.s.data.toList it i m = (some (k, m'), 0)) (he : e = .returned (.tuple #[.int .i64 (k : Int), .bool true])) (hM : Mat E m' left w') : OnceSaid E m left i it e w' := by
  unfold OnceSaid
  rw [h]
  simp only []
  rw [if_pos (by simpa using hl)]
  exact ⟨he, by simpa using hM⟩
theorem once_no {E : Env} {m : Caps} {left : Int} {i : Nat} {it : Itm} {e : Ending} {w' : World} (hl : 0 ≤ left) (h : onceM E.s.data.toList it i m = (none, 0)) (x : Int) (he : e = .returned (.tuple #[.int .i64 x, .bool false])) (hM : Mat E m left w') : OnceSaid E m left i it e w' := by
  unfold OnceSaid
  rw [h]
  simp only []
  rw [if_pos (by simpa using hl)]
  exact ⟨⟨x, he⟩, by simpa using hM⟩
theorem capC_get (m : Caps) : ∀ (k : Nat) (c : Int × Int), m[k]? = some c → (capC m)[k * 2]? = some (.int .i64 c.1) ∧ (capC m)[k * 2 + 1]? = some (.int .i64 c.2) := by
  induction m with
  | nil => intro k c h; simp at h
  | cons a m ih =>
    intro k c h
    have e : capC (a :: m) = .int .i64 a.1 :: .int .i64 a.2 :: capC m := rfl
    rw [e]
    cases k with
    | zero => simp at h; subst h; exact ⟨rfl, rfl⟩
    | succ k => rw [show (k + 1) * 2 = k * 2 + 1 + 1 by omega]; simp only [List.getElem?_cons_succ]; exact ih k c (by simpa using h)
theorem capC_set (m : Caps) : ∀ (k : Nat) (c : Int × Int) (x : Int), m[k]? = some c → (capC m).set (k * 2) (.int .i64 x) = capC (m.set k (x, c.2)) ∧ (capC m).set (k * 2 + 1) (.int .i64 x) = capC (m.set k (c.1, x)) := by
  induction m with
  | nil => intro k c x h; simp at h
  | cons a m ih =>
    intro k c x h
    have e : ∀ (a : Int × Int) (m : Caps), capC (a :: m) = .int .i64 a.1 :: .int .i64 a.2 :: capC m := fun _ _ => rfl
    cases k with
    | zero => simp at h; subst h; exact ⟨rfl, rfl⟩
    | succ k =>
      rw [show (k + 1) * 2 = k * 2 + 1 + 1 by omega, e]
      simp only [List.set_cons_succ]
      rw [e, e, (ih k c x (by simpa using h)).1, (ih k c x (by simpa using h)).2]
      exact ⟨rfl, rfl⟩
theorem Mat.setC {E : Env} {m m' : Caps} {left : Int} {w W : World} (h : Mat E m left w) (o : Nat) (v : Value) (hv : (capC m).set o v = capC m') (hl : m'.length = E.g.caps) (hW : W.heap = (w.setCell ⟨E.cb, o, none⟩ v).heap) (hos : W.os = w.os) (ht : W.tape = w.tape) (hout : W.output = w.output) : Mat E m' left W := by
  have hc : Ch [E.cb] w (w.setCell ⟨E.cb, o, none⟩ v) := (Ch.refl _ w).set E.cb o _ (Or.inl (by simp))
  have hc2 : Ch [E.cb] w W := ⟨hos, ht, hout, by rw [hW]; exact hc.size, fun g h1 h2 => by rw [hW]; exact hc.block g h1 h2⟩
  refine h.ch (hc2.mono (by simp)) ?_ ?_ hl
  · rw [hc2.block E.b (Array.getElem?_eq_some_iff.1 h.blk).1 (by simp; exact h.bc)]; exact h.blk
  · rw [hW, set_same w E.cb o _ _ _ h.cbk, ← hv]
    simp
theorem caps_get {m : Caps} {k : Nat} (h : k < m.length) : m[k]? = some (m.getD k (0, 0)) := by rw [List.getD_eq_getElem?_getD, List.getElem?_eq_getElem h]; rfl

set_option maxHeartbeats 8000000 in
set_option maxRecDepth 100000 in
theorem once_1 (E : Env) (m : Caps) (left : Int) (j i : Nat) (it : Itm) (gi cap : Nat) (w : World) (hs : E.s.size ≤ 1000000) (hi : i ≤ E.s.size) (hl : 0 ≤ left ∧ left ≤ 1000000) (hj : E.g.its[j]? = some it) (hiv : E.iv = .slice (some ⟨gi, 0, none⟩) E.g.its.length cap) (h : Mat E m left w) (hk : it.kind = 1) (hc : it.cap < m.length) :
    Calls Tryd.prog 70 #[.pointer (some ⟨E.b, 0, none⟩), .pointer (some ⟨gi, j * 6, none⟩), .int .i64 (i : Int)] w fun e w' => OnceSaid E m left i it e w' ∧ Ch [E.b, E.cb] w w' := by
  obtain ⟨l1, l2⟩ := hl
  have m0 := h.c 0
  have m5 := h.c 5
  have m7 := h.c 7
  simp at m0 m5 m7
  obtain ⟨gi', cap', v, hiv', hv, hcs⟩ := items_cell h hj
  obtain ⟨rfl, rfl⟩ : gi' = gi ∧ cap' = cap := by rw [hiv] at hiv'; cases hiv'; exact ⟨rfl, rfl⟩
  have c0 : w.cell? ⟨gi', j * 6, none⟩ = some (.int .i64 (it.kind : Int)) := hcs 0 (by decide)
  have c1 : w.cell? ⟨gi', j * 6 + 1, none⟩ = some v := hcs 1 (by decide)
  have c3 : w.cell? ⟨gi', j * 6 + 3, none⟩ = some (.int .u8 (it.x.toNat : Int)) := hcs 3 (by decide)
  have c4 : w.cell? ⟨gi', j * 6 + 4, none⟩ = some (.int .u8 (it.y.toNat : Int)) := hcs 4 (by decide)
  have c5 : w.cell? ⟨gi', j * 6 + 5, none⟩ = some (.int .i64 (it.cap : Int)) := hcs 5 (by decide)
  have HM := Lib.hid h
  rw [hk] at c0
  have hml := h.ml
  have hcg : it.cap < E.g.caps := by omega
  have hci : (it.cap : Int) < (E.g.caps : Int) := by omega
  have hci0 : 0 ≤ (it.cap : Int) := by omega
  have hgc := caps_get hc
  obtain ⟨c, hcc⟩ : ∃ c, m.getD it.cap (0, 0) = c := ⟨_, rfl⟩
  rw [hcc] at hgc
  have q0 := h.cc (it.cap * 2)
  have q1 := h.cc (it.cap * 2 + 1)
  rw [(capC_get m _ _ hgc).1] at q0
  rw [(capC_get m _ _ hgc).2] at q1
  have qf := h.cf (it.cap * 2)
  have qf1 := h.cf (it.cap * 2 + 1)
  have HGC := Lib.hid hgc
  have HO : Hid (onceM E.s.data.toList it i m = (some (i, m.set it.cap ((i : Int), c.2)), 0)) := Lib.hid (by unfold onceM; rw [hk]; simp only []; (try rw [hcc]))
  clear h hj hcs hv hiv hiv'
  clear hk hgc hcc hml hc
  go_enter Tryd.func70, Tryd.ntmps70
  go_upto_region 4 with fail
  go_region
  (try simp only [Exit.inBlock, Exit.then])
  have HN := Lib.hid (HM.out.setC (W := (w.setCell ⟨E.cb, it.cap * 2, none⟩ (.int .i64 (i : Int))).drew) (it.cap * 2) (.int .i64 (i : Int)) (capC_set m _ _ (i : Int) HGC.out).1 (by rw [List.length_set]; exact HM.out.ml) rfl rfl rfl rfl)
  have HC := Lib.hid (((Ch.refl [E.b, E.cb] w).set E.cb (it.cap * 2) (.int .i64 (i : Int)) (Or.inl (by simp))).drew)
  go_wp2
  go_ret2
  exact ⟨once_yes l1 HO.out rfl HN.out, HC.out⟩

set_option maxHeartbeats 8000000 in
set_option maxRecDepth 100000 in
theorem once_2 (E : Env) (m : Caps) (left : Int) (j i : Nat) (it : Itm) (gi cap : Nat) (w : World) (hs : E.s.size ≤ 1000000) (hi : i ≤ E.s.size) (hl : 0 ≤ left ∧ left ≤ 1000000) (hj : E.g.its[j]? = some it) (hiv : E.iv = .slice (some ⟨gi, 0, none⟩) E.g.its.length cap) (h : Mat E m left w) (hk : it.kind = 2) (hc : it.cap < m.length) :
    Calls Tryd.prog 70 #[.pointer (some ⟨E.b, 0, none⟩), .pointer (some ⟨gi, j * 6, none⟩), .int .i64 (i : Int)] w fun e w' => OnceSaid E m left i it e w' ∧ Ch [E.b, E.cb] w w' := by
  obtain ⟨l1, l2⟩ := hl
  have m0 := h.c 0
  have m5 := h.c 5
  have m7 := h.c 7
  simp at m0 m5 m7
  obtain ⟨gi', cap', v, hiv', hv, hcs⟩ := items_cell h hj
  obtain ⟨rfl, rfl⟩ : gi' = gi ∧ cap' = cap := by rw [hiv] at hiv'; cases hiv'; exact ⟨rfl, rfl⟩
  have c0 : w.cell? ⟨gi', j * 6, none⟩ = some (.int .i64 (it.kind : Int)) := hcs 0 (by decide)
  have c1 : w.cell? ⟨gi', j * 6 + 1, none⟩ = some v := hcs 1 (by decide)
  have c3 : w.cell? ⟨gi', j * 6 + 3, none⟩ = some (.int .u8 (it.x.toNat : Int)) := hcs 3 (by decide)
  have c4 : w.cell? ⟨gi', j * 6 + 4, none⟩ = some (.int .u8 (it.y.toNat : Int)) := hcs 4 (by decide)
  have c5 : w.cell? ⟨gi', j * 6 + 5, none⟩ = some (.int .i64 (it.cap : Int)) := hcs 5 (by decide)
  have HM := Lib.hid h
  rw [hk] at c0
  have hml := h.ml
  have hcg : it.cap < E.g.caps := by omega
  have hci : (it.cap : Int) < (E.g.caps : Int) := by omega
  have hci0 : 0 ≤ (it.cap : Int) := by omega
  have hgc := caps_get hc
  obtain ⟨c, hcc⟩ : ∃ c, m.getD it.cap (0, 0) = c := ⟨_, rfl⟩
  rw [hcc] at hgc
  have q0 := h.cc (it.cap * 2)
  have q1 := h.cc (it.cap * 2 + 1)
  rw [(capC_get m _ _ hgc).1] at q0
  rw [(capC_get m _ _ hgc).2] at q1
  have qf := h.cf (it.cap * 2)
  have qf1 := h.cf (it.cap * 2 + 1)
  have HGC := Lib.hid hgc
  have HO : Hid (onceM E.s.data.toList it i m = (some (i, m.set it.cap (c.1, (i : Int))), 0)) := Lib.hid (by unfold onceM; rw [hk]; simp only []; (try rw [hcc]))
  clear h hj hcs hv hiv hiv'
  clear hk hgc hcc hml hc
  go_enter Tryd.func70, Tryd.ntmps70
  go_upto_region 6 with fail
  go_region
  (try simp only [Exit.inBlock, Exit.then])
  have HN := Lib.hid (HM.out.setC (W := (w.setCell ⟨E.cb, it.cap * 2 + 1, none⟩ (.int .i64 (i : Int))).drew) (it.cap * 2 + 1) (.int .i64 (i : Int)) (capC_set m _ _ (i : Int) HGC.out).2 (by rw [List.length_set]; exact HM.out.ml) rfl rfl rfl rfl)
  have HC := Lib.hid (((Ch.refl [E.b, E.cb] w).set E.cb (it.cap * 2 + 1) (.int .i64 (i : Int)) (Or.inl (by simp))).drew)
  go_wp2
  go_ret2
  exact ⟨once_yes l1 HO.out rfl HN.out, HC.out⟩

set_option maxHeartbeats 8000000 in
set_option maxRecDepth 100000 in
theorem once_3 (E : Env) (m : Caps) (left : Int) (j i : Nat) (it : Itm) (gi cap : Nat) (w : World) (hs : E.s.size ≤ 1000000) (hi : i ≤ E.s.size) (hl : 0 ≤ left ∧ left ≤ 1000000) (hj : E.g.its[j]? = some it) (hiv : E.iv = .slice (some ⟨gi, 0, none⟩) E.g.its.length cap) (h : Mat E m left w) (hk : it.kind = 3) (hc : it.cap < m.length) :
    Calls Tryd.prog 70 #[.pointer (some ⟨E.b, 0, none⟩), .pointer (some ⟨gi, j * 6, none⟩), .int .i64 (i : Int)] w fun e w' => OnceSaid E m left i it e w' ∧ Ch [E.b, E.cb] w w' := by
  obtain ⟨l1, l2⟩ := hl
  have m0 := h.c 0
  have m5 := h.c 5
  have m7 := h.c 7
  simp at m0 m5 m7
  obtain ⟨gi', cap', v, hiv', hv, hcs⟩ := items_cell h hj
  obtain ⟨rfl, rfl⟩ : gi' = gi ∧ cap' = cap := by rw [hiv] at hiv'; cases hiv'; exact ⟨rfl, rfl⟩
  have c0 : w.cell? ⟨gi', j * 6, none⟩ = some (.int .i64 (it.kind : Int)) := hcs 0 (by decide)
  have c1 : w.cell? ⟨gi', j * 6 + 1, none⟩ = some v := hcs 1 (by decide)
  have c3 : w.cell? ⟨gi', j * 6 + 3, none⟩ = some (.int .u8 (it.x.toNat : Int)) := hcs 3 (by decide)
  have c4 : w.cell? ⟨gi', j * 6 + 4, none⟩ = some (.int .u8 (it.y.toNat : Int)) := hcs 4 (by decide)
  have c5 : w.cell? ⟨gi', j * 6 + 5, none⟩ = some (.int .i64 (it.cap : Int)) := hcs 5 (by decide)
  have HM := Lib.hid h
  rw [hk] at c0
  have hml := h.ml
  have hcg : it.cap < E.g.caps := by omega
  have hci : (it.cap : Int) < (E.g.caps : Int) := by omega
  have hci0 : 0 ≤ (it.cap : Int) := by omega
  have hgc := caps_get hc
  obtain ⟨c, hcc⟩ : ∃ c, m.getD it.cap (0, 0) = c := ⟨_, rfl⟩
  rw [hcc] at hgc
  have q0 := h.cc (it.cap * 2)
  have q1 := h.cc (it.cap * 2 + 1)
  rw [(capC_get m _ _ hgc).1] at q0
  rw [(capC_get m _ _ hgc).2] at q1
  have qf := h.cf (it.cap * 2)
  have qf1 := h.cf (it.cap * 2 + 1)
  have HGC := Lib.hid hgc
  have HO : Hid (onceM E.s.data.toList it i m = (some (i, m.set it.cap ((i : Int), -1)), 0)) := Lib.hid (by unfold onceM; rw [hk]; simp only []; (try rw [hcc]))
  clear h hj hcs hv hiv hiv'
  clear hk hgc hcc hml hc
  go_enter Tryd.func70, Tryd.ntmps70
  go_upto_region 8 with fail
  go_region
  (try simp only [Exit.inBlock, Exit.then])
  have HA := Lib.hid (HM.out.setC (W := (w.setCell ⟨E.cb, it.cap * 2, none⟩ (.int .i64 (i : Int)))) (it.cap * 2) (.int .i64 (i : Int)) (capC_set m _ _ (i : Int) HGC.out).1 (by rw [List.length_set]; exact HM.out.ml) rfl rfl rfl rfl)
  have hgl := (List.getElem?_eq_some_iff.1 HGC.out).1
  have HG2 : Hid ((m.set it.cap ((i : Int), c.2))[it.cap]? = some ((i : Int), c.2)) := Lib.hid (by simp [hgl])
  have HN := Lib.hid (HA.out.setC (m' := m.set it.cap ((i : Int), -1)) (W := ((w.setCell ⟨E.cb, it.cap * 2, none⟩ (.int .i64 (i : Int))).setCell ⟨E.cb, it.cap * 2 + 1, none⟩ (.int .i64 (-1))).drew) (it.cap * 2 + 1) (.int .i64 (-1)) (by rw [(capC_set _ _ _ (-1) HG2.out).2, List.set_set]) (by rw [List.length_set]; exact HM.out.ml) rfl rfl rfl rfl)
  have HC := Lib.hid ((((Ch.refl [E.b, E.cb] w).set E.cb (it.cap * 2) (.int .i64 (i : Int)) (Or.inl (by simp))).set E.cb (it.cap * 2 + 1) (.int .i64 (-1)) (Or.inl (by simp))).drew)
  clear hgl
  go_wp2
  go_ret2
  exact ⟨once_yes l1 HO.out rfl HN.out, HC.out⟩

set_option maxHeartbeats 8000000 in
set_option maxRecDepth 100000 in
theorem once_0 (E : Env) (m : Caps) (left : Int) (j i : Nat) (it : Itm) (gi cap : Nat) (w : World) (hs : E.s.size ≤ 1000000) (hi : i ≤ E.s.size) (hl : 0 ≤ left ∧ left ≤ 1000000) (hj : E.g.its[j]? = some it) (hiv : E.iv = .slice (some ⟨gi, 0, none⟩) E.g.its.length cap) (h : Mat E m left w) (hk : it.kind = 0) :
    Calls Tryd.prog 70 #[.pointer (some ⟨E.b, 0, none⟩), .pointer (some ⟨gi, j * 6, none⟩), .int .i64 (i : Int)] w fun e w' => OnceSaid E m left i it e w' ∧ Ch [E.b, E.cb] w w' := by
  obtain ⟨l1, l2⟩ := hl
  have m0 := h.c 0
  have m5 := h.c 5
  have m7 := h.c 7
  simp at m0 m5 m7
  obtain ⟨gi', cap', v, hiv', hv, hcs⟩ := items_cell h hj
  obtain ⟨rfl, rfl⟩ : gi' = gi ∧ cap' = cap := by rw [hiv] at hiv'; cases hiv'; exact ⟨rfl, rfl⟩
  have c0 : w.cell? ⟨gi', j * 6, none⟩ = some (.int .i64 (it.kind : Int)) := hcs 0 (by decide)
  have c1 : w.cell? ⟨gi', j * 6 + 1, none⟩ = some v := hcs 1 (by decide)
  have c3 : w.cell? ⟨gi', j * 6 + 3, none⟩ = some (.int .u8 (it.x.toNat : Int)) := hcs 3 (by decide)
  have c4 : w.cell? ⟨gi', j * 6 + 4, none⟩ = some (.int .u8 (it.y.toNat : Int)) := hcs 4 (by decide)
  have c5 : w.cell? ⟨gi', j * 6 + 5, none⟩ = some (.int .i64 (it.cap : Int)) := hcs 5 (by decide)
  have HM := Lib.hid h
  obtain ⟨lo, hi', hN, hT⟩ := h.tv j it v hj hv (Or.inl hk)
  have hlo := hT.ex.1
  obtain ⟨_, F, fst, caps, hvf, hF, hC⟩ := hT.ex
  subst hvf
  rw [hk] at c0
  have HO : Hid (onceM E.s.data.toList it i m = if belongs E.s.data.toList it.P i = true then (some (i + 1, m), 0) else (none, 0)) := Lib.hid (by unfold onceM; rw [hk]; rfl)
  have hw1 := i64w ((i : Int) + 1) (by omega)
  have HD := Lib.hid fun n => h.drewN n
  by_cases his : i < E.s.size
  · have hii : (i : Int) < (E.s.size : Int) := by omega
    have hii2 : 0 ≤ (i : Int) := by omega
    have hge := get_some E.s i his
    obtain ⟨c, hc⟩ : ∃ c, E.s[i] = c := ⟨_, rfl⟩
    have hci : (E.s[i].toNat : Int) = (c.toNat : Int) := by rw [hc]
    have hb : belongs E.s.data.toList it.P i = it.P c := by unfold belongs; rw [hge, hc]
    have HB := Lib.hid hb
    have C0 := fun n => (hC (w.drewN n) (Kp.below (Ch.drewN (Ch.refl [] w) n).below hlo) c)
    cases hp : it.P c with
    | true =>
      rw [hp] at C0
      have C1 := Lib.hid C0
      have HP := Lib.hid hp
      clear h hj hcs hv hiv hiv'
      clear hk hge hc hb hT hC C0 hp
      go_enter Tryd.func70, Tryd.ntmps70
      go_wp2
      go_quiet ((go_at_fn F; exact Calls.quiet_of (C1.out _)))
      go_wp2
      go_ret2
      exact ⟨once_yes l1 (by rw [HO.out, if_pos (by rw [HB.out, HP.out])]) (by push_cast; rfl) (HD.out _), (Ch.refl _ w).drewN _⟩
    | false =>
      rw [hp] at C0
      have C1 := Lib.hid C0
      have HP := Lib.hid hp
      clear h hj hcs hv hiv hiv'
      clear hk hge hc hb hT hC C0 hp
      go_enter Tryd.func70, Tryd.ntmps70
      go_wp2
      go_quiet ((go_at_fn F; exact Calls.quiet_of (C1.out _)))
      go_wp2
      go_ret2
      exact ⟨once_no l1 (by rw [HO.out, if_neg (by rw [HB.out, HP.out]; decide)]) _ rfl (HD.out _), (Ch.refl _ w).drewN _⟩
  · have hii : ¬ (i : Int) < (E.s.size : Int) := by omega
    have HB : Hid (belongs E.s.data.toList it.P i = false) := Lib.hid (by unfold belongs; rw [List.getElem?_eq_none (by simp; omega)])
    clear h hj hcs hv hiv hiv'
    clear hk hT hC
    go_enter Tryd.func70, Tryd.ntmps70
    go_wp2
    go_quiet (fail)
    go_wp2
    go_ret2
    exact ⟨once_no l1 (by rw [HO.out, if_neg (by rw [HB.out]; decide)]) _ rfl (HD.out _), (Ch.refl _ w).drewN _⟩
end Go.Proofs.YtkbcaklleiapdaaDoor
