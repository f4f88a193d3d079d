/- Layer 18: free, Ref, Unref, Len. -/
import Derived.Test.YtbfeahafogbbhaaRegA
import Derived.Lib.BufferMore
namespace Go.Proofs.Ytbfeahafogbbhaa
open Go.RowKit Go.Joins M1
set_option linter.unusedVariables false
theorem iC_one (F : List Int) : ∀ u ∈ iC F, u.oneCell' = true := by
  intro u hu
  obtain ⟨i, _, rfl⟩ := List.mem_map.1 hu
  rfl
/-- Integers that can be read. -/
structure IntsA (w : World) (v : Value) (l : List Int) : Prop where
  form : ∃ p c, v = .slice p l.length c ∧ (0 < l.length → ∃ g o, p = some ⟨g, o, none⟩ ∧ g < w.heap.size ∧ ∀ (j : Nat) (hj : j < l.length), w.cell? ⟨g, o + j, none⟩ = some (.int .i64 l[j]))
theorem IntsA.below {w w' : World} {v : Value} {l : List Int} (h : IntsA w v l) (hb : Ch [] w w') : IntsA w' v l := by
  obtain ⟨p, c, rfl, h2⟩ := h.form
  refine ⟨p, c, rfl, fun h0 => ?_⟩
  obtain ⟨g, o, h3, h4, h5⟩ := h2 h0
  exact ⟨g, o, h3, Nat.lt_of_lt_of_le h4 hb.size, fun j hj => (hb.below.cell (p := ⟨g, _, none⟩) h4).trans (h5 j hj)⟩
theorem IntsA.of_row {w : World} {B : Nat} {v : Value} {l : List Int} (h : w.ownsRow B 3 1 v l.length (iC l)) : IntsA w v l := by
  rcases Joins.ownsRow_forms h with ⟨h1, h2⟩ | ⟨g, cap, h1⟩
  · exact ⟨none, 0, by rw [h1, h2], fun h0 => by omega⟩
  · refine ⟨some ⟨g, 0, none⟩, cap, h1, fun _ => ⟨g, 0, rfl, (own_lo h (mem_ob.2 (by rw [h1]; rfl))).2, fun j hj => ?_⟩⟩
    rw [h1] at h
    rw [Nat.zero_add, h.cellAt j (by omega)]
    simp [iC, hj]
theorem IntsA.src {w : World} {a : Addr} {n c : Nat} {l : List Int} (h : IntsA w (.slice (some a) n c) l) : ∀ q u, (iC l)[q]? = some u → w.cell? (a.add q) = some u := by
  intro q u hu
  obtain ⟨p, c', e, h2⟩ := h.form
  injection e with e1 e2 e3
  subst e1 e3
  have hq : q < l.length := by
    have := (List.getElem?_eq_some_iff.1 hu).1
    rwa [iC_len] at this
  obtain ⟨g, o, e, hg, hv⟩ := h2 (by omega)
  obtain rfl : a = ⟨g, o, none⟩ := Option.some.inj e
  rw [addr_addQ, ← hu, hv q hq]
  simp [iC, hq]
theorem IntsA.len {w : World} {p : Option Addr} {n c : Nat} {l : List Int} (h : IntsA w (.slice p n c) l) : l.length = n := by
  obtain ⟨p', c', e, _⟩ := h.form
  injection e with e1 e2 e3
  exact e2.symm
set_option maxHeartbeats 4000000 in
theorem clonei_any (v : Value) (l : List Int) (w : World) (h : IntsA w v l) (hl : l.length ≤ 1000000) :
    Calls Try.prog 40 #[v] w fun e w' => (∃ v', e = .returned v' ∧ w'.ownsRow w.heap.size 3 1 v' l.length (iC l)) ∧ Below w.heap.size w w' := by
  obtain ⟨i0, hi0, jz0, jz1, jz2⟩ := info_parts info_int
  obtain ⟨p, c, rfl, _⟩ := h.form
  cases p with
  | none =>
    have h0 : l = [] := by
      rcases l with _ | ⟨x, l⟩
      · rfl
      · obtain ⟨p', c', e, h2⟩ := h.form
        obtain ⟨g, o, q, _⟩ := h2 (by simp)
        rw [q] at e
        exact absurd e (by simp)
    subst h0
    have hq : ∀ W, (binOp .eql 50 (.slice none 0 c) (.slice none 0 0)).run Try.prog W = .ok (.bool true) W := fun W => Lib.run_eql_slice_nil_nil W _ _ Try.underlying50
    have hq' : ∀ W, (binOp .eql 50 (.slice none ([] : List Int).length c) (.slice none 0 0)).run Try.prog W = .ok (.bool true) W := hq
    go_enter Try.func40, Try.ntmps40
    go_wp2
    go_ret
    exact ⟨⟨_, rfl, World.ownsRow_nil _ _ _ _⟩, Below.refl _ _⟩
  | some a =>
    have HS : Hid (∀ W, Ch [] w W → ∀ q u, (iC l)[q]? = some u → W.cell? (a.add q) = some u) := Lib.hid fun W hW => (h.below hW).src
    have hq : ∀ W, (binOp .eql 50 (.slice (some a) l.length c) (.slice none 0 0)).run Try.prog W = .ok (.bool false) W := fun W => Lib.run_eql_slice_some_nil W a _ _ Try.underlying50
    clear h
    go_enter Try.func40, Try.ntmps40
    go_upto_region 3 with fail
    have HN := Lib.hid (World.ownsRow_lit (w := w) (base := w.heap.size) #[] 0 (e := 3) (size := 1) (Nat.le_refl _) (Nat.zero_le _) rfl)
    have HC : Hid (Ch [] w (w.alloc (.cells #[] 3))) := Lib.hid ((Ch.refl [] w).alloc _)
    go_wp2_with (at_builtin; refine wpList_append_own_at _ rfl _ _ 50 rfl w.heap.size 3 i0 (.int .i64 0) 1 8 Try.underlying50 hi0 jz0 jz1 jz2 rfl (by decide) _ _ _ rfl HN.out a l.length c (iC l) rfl (by rw [iC_len, Nat.mul_one]) (HS.out _ HC.out) (iC_one _) (by unfold maxLen; omega) (by omega) (by simp) ?_)
    intro v5 w5 ho5 hg5 _ _
    have HO5 : Hid (w5.ownsRow w.heap.size 3 1 v5 l.length (iC l)) := Lib.hid (by simpa using ho5)
    have HB5 : Hid (Below w.heap.size w w5) := Lib.hid (((Below.refl _ w).alloc (Nat.le_refl _) _).grown hg5 (by simp) (fun q e => (own_lo HN.out (mem_ob.2 e)).1))
    clear ho5 hg5
    go_wp2
    go_ret
    exact ⟨⟨_, rfl, HO5.out⟩, HB5.out⟩
/-- One integer is appended. -/
theorem append_int {ops : Array Oper} {rest : List Oper} {o : Oper} {a : Act} {Q : Exit → Act → World → Prop} {W : World} (hgd : o.guard = none) (s x : Operand)
    (ho : o.op = .call { callee := .builtin .append, args := #[s, x], argTypes := #[50, 50] }) (B : Nat)
    (v : Value) (l1 : List Int) (hs : a.eval s = v) (hown : W.ownsRow B 3 1 v l1.length (iC l1))
    (ad : Addr) (i : Int) (hx : a.eval x = .slice (some ad) 1 1) (ha : W.cell? ad = some (.int .i64 i)) (hn : l1.length ≤ 1000000) (hB : B ≤ W.heap.size)
    (h : ∀ v' W', W'.ownsRow B 3 1 v' (l1 ++ [i]).length (iC (l1 ++ [i])) → Ch (ob v) W W' → (∀ g ∈ ob v', g ∈ ob v ∨ W.heap.size ≤ g) → wpList Try.prog ops Q rest (a.put o.dst v') W') : wpList Try.prog ops Q (o :: rest) a W := by
  obtain ⟨i0, hi0, jz0, jz1, jz2⟩ := info_parts info_int
  refine wpList_append_own_at _ hgd s x 50 ho B 3 i0 _ 1 8 Try.underlying50 hi0 jz0 jz1 jz2 rfl (by decide) v l1.length _ hs hown ad 1 1 [.int .i64 i] hx rfl ?_ (by simp [Value.oneCell']) (by unfold maxLen; omega) (by omega) hB ?_
  · intro j u hu
    obtain rfl : j = 0 := by
      have := (List.getElem?_eq_some_iff.1 hu).1
      simpa using this
    simp at hu
    subst hu
    have : ad.add 0 = ad := by unfold Addr.add; simp
    rw [this]; exact ha
  · intro v' W' ho' hg _ hl
    refine h v' W' (by simpa [iC] using ho') (Ch.of_grown hg (fun y e => mem_ob.2 e)) (fun g hg2 => ?_)
    rw [mem_ob] at hg2 ⊢
    rcases hl with q | q
    · left; rw [← q]; exact hg2
    · right; rw [q] at hg2; injection hg2 with hg2; omega
theorem Rg.layk {B t : Nat} {vk vf vm vk' : Value} {K K' : List V5} {F : List Int} {w W : World} (h : Rg B t vk vf vm K F w) (hc : Ch (ob vk) w W) (hr : W.ownsRow B 33 5 vk' K'.length (K'.flatMap vC)) (hg : ∀ g ∈ ob vk', g ∈ ob vk ∨ w.heap.size ≤ g) :
    RgSaid B t vk vf vm K' F w (W.setCell ⟨t, 0, none⟩ vk') := by
  have hb := h.blk.ch hc (fun e => h.apk t e rfl)
  have hap := ob_blk hr hb (by decide)
  have hf := hc.ownB h.rf (fun g q m => h.akf g m q)
  have hs : Ch [t] W (W.setCell ⟨t, 0, none⟩ vk') := (Ch.refl [t] W).set t 0 _ (.inl (by simp))
  refine ⟨⟨vk', vf, ⟨hb.set 0 _, h.lo, hs.ownB hr (fun g q => by simpa using hap g q), hs.ownB hf (fun g q => by simpa using h.apf g q)⟩, fun g q => ?_⟩, (hc.mono (fun g q => by simp [rgS, q])).trans (hs.mono (fun g q => by simp at q; subst q; simp [rgS]))⟩
  simp only [rgS, List.mem_cons, List.mem_append] at q ⊢
  rcases q with q | q | q
  · exact .inl (.inl q)
  · rcases hg g q with q | q
    · exact .inl (.inr (.inl q))
    · exact .inr q
  · exact .inl (.inr (.inr q))
theorem Rg.layf {B t : Nat} {vk vf vm vf' : Value} {K : List V5} {F F' : List Int} {w W : World} (h : Rg B t vk vf vm K F w) (hc : Ch (ob vf) w W) (hr : W.ownsRow B 3 1 vf' F'.length (iC F')) (hg : ∀ g ∈ ob vf', g ∈ ob vf ∨ w.heap.size ≤ g) :
    RgSaid B t vk vf vm K F' w (W.setCell ⟨t, 1, none⟩ vf') := by
  have hb := h.blk.ch hc (fun e => h.apf t e rfl)
  have hap := ob_blk hr hb (by decide)
  have hf := hc.ownB h.rk (fun g q m => h.akf g q m)
  have hs : Ch [t] W (W.setCell ⟨t, 1, none⟩ vf') := (Ch.refl [t] W).set t 1 _ (.inl (by simp))
  refine ⟨⟨vk, vf', ⟨hb.set 1 _, h.lo, hs.ownB hf (fun g q => by simpa using h.apk g q), hs.ownB hr (fun g q => by simpa using hap g q)⟩, fun g q => ?_⟩, (hc.mono (fun g q => by simp [rgS, q])).trans (hs.mono (fun g q => by simp at q; subst q; simp [rgS]))⟩
  simp only [rgS, List.mem_cons, List.mem_append] at q ⊢
  rcases q with q | q | q
  · exact .inl (.inl q)
  · exact .inl (.inr (.inl q))
  · rcases hg g q with q | q
    · exact .inl (.inr (.inr q))
    · exact .inr q
set_option maxHeartbeats 2000000 in
theorem free_new (B t : Nat) (vk vf vm : Value) (K : List V5) (w : World) (h : Rg B t vk vf vm K [] w) (hK : K.length ≤ 1000) (hB : B ≤ w.heap.size) :
    Calls Try.prog 38 #[.pointer (some ⟨t, 0, none⟩)] w fun e w' => e = .returned (.int .i64 ((K.length : Int) + 1)) ∧ RgSaid B t vk vf vm (K ++ [v5z]) [] w w' := by
  obtain ⟨i0, hi0, jz0, jz1, jz2⟩ := info_parts info_val
  obtain ⟨p, cap, rfl⟩ := ownB_form h.rk
  obtain ⟨q, cbp, rfl⟩ := ownB_form h.rf
  have c0 : w.cell? ⟨t, 0, none⟩ = some (.slice p K.length cap) := h.blk.cell 0
  have c1 : w.cell? ⟨t, 1, none⟩ = some (.slice q 0 cbp) := h.blk.cell 1
  have hb := h.blk.lt
  have hc : Ch [] w (w.alloc (.cells #[.int .i64 0, .int .i64 0, .int .i64 0, .string ⟨#[]⟩, .int .i64 0] 33)) := (Ch.refl [] w).alloc _
  have H4 := Lib.hid (h.ch0 hc)
  have HC := Lib.hid hc
  have HBB : Hid (B ≤ (w.alloc (.cells #[.int .i64 0, .int .i64 0, .int .i64 0, .string ⟨#[]⟩, .int .i64 0] 33)).heap.size ∧ K.length ≤ 1000) := Lib.hid ⟨Nat.le_trans hB hc.size, hK⟩
  clear h hc hK
  go_enter Try.func38, Try.ntmps38
  go_upto_region 3 with fail
  go_wp2_with (at_builtin; refine wpList_append_own_at _ rfl _ _ 63 rfl B 33 i0 (.agg #[.int .i64 0, .int .i64 0, .int .i64 0, .string ⟨#[]⟩, .int .i64 0]) 5 48 Try.underlying63 hi0 jz0 jz1 jz2 rfl (by decide) _ K.length (K.flatMap vC) rfl H4.out.rk ⟨w.heap.size, 0, none⟩ 1 1 (vC v5z) rfl rfl (vC_at v5z w _ rfl) (vC_one _) (by unfold maxLen; have := HBB.out; omega) (by have := HBB.out; omega) HBB.out.1 ?_)
  intro v' W' ho' hg' _ hl'
  obtain ⟨p2, c2, rfl⟩ := ownB_form ho'
  have hcc : Ch (ob (.slice p K.length cap)) (w.alloc (.cells #[.int .i64 0, .int .i64 0, .int .i64 0, .string ⟨#[]⟩, .int .i64 0] 33)) W' := Ch.of_grown hg' (fun y e => mem_ob.2 e)
  have hbt := H4.out.blk.ch hcc (fun e => H4.out.apk t e rfl)
  have d0 := hbt.cell 0
  have f0 := hbt.fz 0
  have hbl := hbt.lt
  have d1 : (W'.setCell ⟨t, 0, none⟩ (.slice p2 (K.length + 1) c2)).cell? ⟨t, 0, none⟩ = some (.slice p2 (K.length + 1) c2) := by have := (hbt.set 0 (.slice p2 (K.length + 1) c2)).cell 0; rw [this]; rfl
  have HS := Lib.hid (RgSaid.before HC.out (H4.out.layk (vk' := .slice p2 (K.length + 1) c2) (K' := K ++ [v5z]) hcc (by simpa using ho') (fun g hg2 => by
    rw [mem_ob] at hg2 ⊢
    rcases hl' with q | q
    · left; rw [← q]; exact hg2
    · right; rw [q] at hg2; injection hg2 with hg2; simp at hg2 ⊢; omega)))
  clear ho' hg' hl' hcc hbt c0 c1
  go_wp2
  go_ret
  exact ⟨rfl, HS.out⟩
set_option maxHeartbeats 2000000 in
theorem free_old (B t : Nat) (vk vf vm : Value) (K : List V5) (F : List Int) (r : Int) (w : World) (h : Rg B t vk vf vm K (F ++ [r]) w) (hF : F.length ≤ 1000) :
    Calls Try.prog 38 #[.pointer (some ⟨t, 0, none⟩)] w fun e w' => e = .returned (.int .i64 r) ∧ RgSaid B t vk vf vm K F w w' := by
  have hl : (F ++ [r]).length = F.length + 1 := by simp
  obtain ⟨g, cap, rfl⟩ : ∃ g cap, vf = .slice (some ⟨g, 0, none⟩) (F.length + 1) cap := by
    rcases form_row h.rf with ⟨_, h2⟩ | ⟨g, cap, h2⟩
    · omega
    · exact ⟨g, cap, by rw [h2, hl]⟩
  have c1 : w.cell? ⟨t, 1, none⟩ = some (.slice (some ⟨g, 0, none⟩) (F.length + 1) cap) := h.blk.cell 1
  have f1 := h.blk.fz 1
  have hb := h.blk.lt
  have hg := (h.lt g (by simp [rgS, Go.Proofs.Ytbfeahafogbbhaa.ob, Value.ownBlock])).2
  have hrf := h.rf
  rw [hl] at hrf
  have hcap := row_capg hrf
  have d0 : w.cell? ⟨g, F.length, none⟩ = some (.int .i64 r) := by
    rw [hrf.cellAt F.length (by omega)]; simp [iC]
  have e1 : IntKind.i64.wrap (((F.length + 1 : Nat) : Int) - 1) = (F.length : Int) := by rw [show ((F.length + 1 : Nat) : Int) - 1 = (F.length : Int) by omega]; exact IntWalk.i64_in _ (by omega)
  have e2 : ((F.length : Int) + 1) - 1 = (F.length : Int) := by omega
  have i1 : (F.length : Int) < ((F.length + 1 : Nat) : Int) := by omega
  have i2 : (F.length : Int) ≤ (cap : Int) := by omega
  have i3 : (0 : Int) ≤ (F.length : Int) := by omega
  have ht := own_take (n := F.length) hrf (by omega)
  have et : (iC (F ++ [r])).take (F.length * 1) = iC F := by unfold iC; rw [List.map_append, Nat.mul_one]; exact List.take_left' (by simp)
  rw [et] at ht
  have HS := Lib.hid (h.layf (vf' := .slice (some ⟨g, 0, none⟩) F.length cap) (F' := F) (Ch.refl _ w) ht (fun y hy => .inl ((ob_len y).1 hy)))
  clear h hrf hcap ht et hl
  go_enter Try.func38, Try.ntmps38
  go_wp2
  go_ret
  exact ⟨rfl, HS.out⟩
end Go.Proofs.Ytbfeahafogbbhaa
