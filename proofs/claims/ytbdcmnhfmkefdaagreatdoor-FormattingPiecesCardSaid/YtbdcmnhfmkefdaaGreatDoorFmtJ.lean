/- Contracts of layer 9: padding, what a directive makes of an argument. -/
import Derived.Test.YtbdcmnhfmkefdaaGreatDoorFmtI
namespace Go.Proofs.YtbdcmnhfmkefdaaGreatDoor
open Go.RowKit M1 M2 M9
set_option linter.unusedVariables false
theorem rep_one (c : UInt8) : ∀ n, Lib.repeatL [c] n = List.replicate n c
  | 0 => rfl
  | n + 1 => by rw [Lib.repeatL, rep_one c n, List.replicate_succ]; rfl
theorem rep9 (c : UInt8) (n : Nat) (w : World) (hn : n ≤ 1000000) :
    Calls Tryz.prog 25 #[.string ⟨#[c]⟩, .int .i64 (n : Int)] w fun e w' => e = .returned (.string (bq (List.replicate n c))) ∧ Below w.heap.size w w' := by
  have := Tryz.strings_Repeat ⟨#[c]⟩ n w (by omega) (by show 1 * n ≤ _; omega)
  rw [show (⟨#[c]⟩ : ByteArray).data.toList = [c] from rfl, rep_one] at this
  exact this
theorem missF_le (n : Nat) (k : Int) : missF n k ≤ 99 := by unfold missF; omega
theorem bq_app (a b : List UInt8) : bq a ++ bq b = bq (a ++ b) := by
  apply ByteArray.ext
  rw [← Array.toList_inj, bq_list, ByteArray.data_append, Array.toList_append, bq_list, bq_list]
theorem pad9 (s : ByteArray) (n : Int) (mi : Bool) (w : World) (hs : s.size ≤ 10000000) :
    Calls Tryz.prog 17 #[.string s, .int .i64 n, .bool mi] w fun e w' => e = .returned (.string (bq (padF s.data.toList n mi))) ∧ Below w.heap.size w w' := by
  have QM := Lib.hid fun w => miss_any s n w (by omega)
  have hl : s.data.toList.length = s.size := by simp
  have hm := missF_le s.size n
  have QR : Hid (∀ w, Calls Tryz.prog 25 #[.string ⟨#[32]⟩, .int .i64 (missF s.size n : Int)] w fun e w' => e = .returned (.string (bq (List.replicate (missF s.size n) 32))) ∧ Below w.heap.size w w') := Lib.hid fun w => rep9 32 _ w (by omega)
  have HP : Hid (bq (padF s.data.toList n mi) = if mi = true then s ++ bq (List.replicate (missF s.size n) 32) else bq (List.replicate (missF s.size n) 32) ++ s) := Lib.hid (by
    unfold padF
    rw [hl]
    have e1 : s ++ bq (List.replicate (missF s.size n) 32) = bq (s.data.toList ++ List.replicate (missF s.size n) 32) := by rw [← bq_app, bq_eta]
    have e2 : bq (List.replicate (missF s.size n) 32) ++ s = bq (List.replicate (missF s.size n) 32 ++ s.data.toList) := by rw [← bq_app, bq_eta]
    rw [e1, e2]
    split <;> rfl)
  have hz : (bq (List.replicate (missF s.size n) 32)).size ≤ 99 := by rw [bq_size, List.length_replicate]; omega
  generalize bq (padF s.data.toList n mi) = R at *
  generalize bq (List.replicate (missF s.size n) 32) = z at *
  generalize missF s.size n = k at *
  clear hl hm
  cases mi with
  | true =>
    have HP2 := Lib.hid (HP.out.trans (if_pos rfl))
    go_enter Tryz.func17, Tryz.ntmps17
    go_wp2_with (first | (go_at_call 39; (with_reducible refine (QM.out _).mono ?_); rintro e w' ⟨rfl, rfl⟩) | (go_at_call 25; (with_reducible refine (QR.out _).mono ?_); rintro e w2 ⟨rfl, hb2⟩))
    go_ret
    exact ⟨by rw [HP2.out]; rfl, hb2⟩
  | false =>
    have HP2 := Lib.hid (HP.out.trans (if_neg (by decide)))
    go_enter Tryz.func17, Tryz.ntmps17
    go_wp2_with (first | (go_at_call 39; (with_reducible refine (QM.out _).mono ?_); rintro e w' ⟨rfl, rfl⟩) | (go_at_call 25; (with_reducible refine (QR.out _).mono ?_); rintro e w2 ⟨rfl, hb2⟩))
    go_ret
    exact ⟨by rw [HP2.out]; rfl, hb2⟩
theorem dec_len (n : Nat) (h : n < 18446744073709551616) : (Lib.decDigits n).length ≤ 64 := by rw [← bd_ten n h]; exact (bd_len (by omega) h).2
theorem fixL_len (p q : Int) (k : Nat) (hv : vld p q = true) (hk : k ≤ 12) : (fixL p q.toNat k).length ≤ 100 := by
  obtain ⟨v1, v2, v3, v4, -⟩ := vld_iff.1 hv
  obtain ⟨Q, rfl⟩ := Int.eq_ofNat_of_zero_le (show 0 ≤ q by omega)
  rw [Int.toNat_natCast]
  have hq : 0 < Q := by omega
  have h1 := (fixT_div p.natAbs Q k hq).1
  have h2 : p.natAbs / Q ≤ 2147483647 := by have := Nat.div_le_self p.natAbs Q; omega
  have h3 := fixN_lt (p.natAbs % Q) Q k (Nat.mod_lt _ hq)
  have h4 := up_01 (fixN p.natAbs Q k) (fixR p.natAbs Q k) Q
  have hp : 0 < 10 ^ k := Nat.pow_pos (by omega)
  have h5 : (fixN (p.natAbs % Q) Q k + up (fixN p.natAbs Q k) (fixR p.natAbs Q k) Q) / 10 ^ k ≤ 1 := by
    rw [Nat.div_le_iff_le_mul_add_pred hp]
    generalize 10 ^ k = T at *
    omega
  have h6 := dec_len (fixT p.natAbs Q k / 10 ^ k) (by omega)
  unfold fixL
  rw [List.length_append, List.length_append]
  have h7 : (if p < 0 ∧ fixT p.natAbs Q k ≠ 0 then [45] else ([] : List UInt8)).length ≤ 1 := by split <;> simp
  have h8 : (if k = 0 then [] else 46 :: pad k (fixT p.natAbs Q k % 10 ^ k)).length ≤ 13 := by
    split
    · simp
    · rw [List.length_cons, pad_len]; omega
  omega
theorem textR_len (p q : Int) (hv : vld p q = true) : (textR p q).length ≤ 100 := by
  obtain ⟨v1, v2, v3, v4, -⟩ := vld_iff.1 hv
  unfold textR
  rw [if_pos hv]
  have h1 := Lib.itoa_length_le p (by omega) (by omega)
  have h2 := Lib.itoa_length_le q (by omega) (by omega)
  split
  · omega
  · rw [List.length_append, List.length_cons]; omega
theorem firstF_len (s : List UInt8) (pl : Int) : (firstF s pl).length ≤ s.length := by
  unfold firstF
  split
  · rw [List.length_take]; omega
  · omega
theorem intF_len {l : Nat} {p q : Int} {t : List UInt8} (hv : vld p q = true) (h : intF l p q = some t) : t.length ≤ 100 := by
  obtain ⟨v1, v2, v3, v4, -⟩ := vld_iff.1 hv
  have k10 := base_len p 10 (by decide) (by omega) (by omega)
  have k16 := base_len p 16 (by decide) (by omega) (by omega)
  have k8 := base_len p 8 (by decide) (by omega) (by omega)
  unfold intF at h
  split at h
  · cases h
  split at h
  · split at h
    · cases h
    · injection h with h; subst h; simp
  split at h
  · injection h with h; subst h; omega
  split at h
  · cases h
  split at h
  · injection h with h; subst h; omega
  split at h
  · injection h with h; subst h; rw [List.length_map]; omega
  split at h
  · injection h with h; subst h; omega
  · cases h
theorem bareF_len {l : Nat} {pl : Int} {a : Vl} {t : List UInt8} (hs : a.str.length ≤ 100000) (hp : -1 ≤ pl) (hp2 : pl ≤ 12) (h : bareF l pl a = some t) : t.length ≤ 500000 := by
  unfold bareF at h
  split at h
  · unfold begF at h
    split at h
    · rename_i hv
      injection h with h; subst h
      have := firstF_len (textR a.p a.q) pl
      have := textR_len a.p a.q hv.2
      omega
    · split at h
      · injection h with h; subst h
        have := firstF_len a.str pl
        omega
      · cases h
  split at h
  · split at h
    · injection h with h; subst h
      have := M3.qt_len a.str
      unfold M3.qt
      rw [List.length_cons, List.length_append]
      simp only [List.length_cons, List.length_nil]
      omega
    · cases h
  split at h
  · cases h
  rename_i hE
  have hv := numOf_vld a (by simpa using hE)
  split at h
  · injection h with h; subst h
    have := textR_len _ _ hv
    omega
  split at h
  · injection h with h; subst h
    have := fixL_len _ _ (if pl = -1 then 6 else pl.toNat) hv (by split <;> omega)
    omega
  · have := intF_len hv h
    omega
theorem vOf_row (c : UInt8) (hc : isVerb c = true) : ∃ b, vOf c.toNat = vrow (c.toNat : Int) b (signedV c.toNat) (zerosV c.toNat) := by
  have hm := (vHas_iff c).1 hc
  unfold verbLetters at hm
  simp only [List.mem_cons, List.not_mem_nil, or_false] at hm
  rcases hm with h | h | h | h | h | h | h | h | h <;> rw [h] <;> exact ⟨_, rfl⟩
/-- The state of a directive that is written. -/
structure WSt (w : World) (Bv : Nat) (tx : List UInt8) (ve : Nat) (mi ze pl : Bool) (wd : Nat) (pc b : Int) (sg vz : Bool) (W : World) : Prop where
  pb : Blk 31 w.heap.size #[.string (bq tx), .int .u8 (ve : Int), .bool mi, .bool ze, .bool pl, .int .i64 (wd : Int), .int .i64 pc] W
  vb : Blk 98 Bv #[.int .u8 (ve : Int), .int .i64 b, .bool sg, .bool vz] W
  bel : Below w.heap.size w W
theorem WSt.below {w : World} {Bv : Nat} {tx : List UInt8} {ve : Nat} {mi ze pl : Bool} {wd : Nat} {pc b : Int} {sg vz : Bool} {W W' : World} (h : WSt w Bv tx ve mi ze pl wd pc b sg vz W) (hb : Below W.heap.size W W') : WSt w Bv tx ve mi ze pl wd pc b sg vz W' := ⟨h.pb.below hb, h.vb.below hb, h.bel.trans (hb.mono h.bel.size)⟩
theorem WSt.cells {w : World} {Bv : Nat} {tx : List UInt8} {ve : Nat} {mi ze pl : Bool} {wd : Nat} {pc b : Int} {sg vz : Bool} {W : World} (h : WSt w Bv tx ve mi ze pl wd pc b sg vz W) : W.cell? ⟨w.heap.size, 2, none⟩ = some (.bool mi) ∧ W.cell? ⟨w.heap.size, 3, none⟩ = some (.bool ze) ∧ W.cell? ⟨w.heap.size, 4, none⟩ = some (.bool pl) ∧ W.cell? ⟨w.heap.size, 5, none⟩ = some (.int .i64 (wd : Int)) ∧ W.cell? ⟨w.heap.size, 6, none⟩ = some (.int .i64 pc) ∧ W.cell? ⟨Bv, 0, none⟩ = some (.int .u8 (ve : Int)) ∧ W.cell? ⟨Bv, 1, none⟩ = some (.int .i64 b) ∧ W.cell? ⟨Bv, 2, none⟩ = some (.bool sg) ∧ W.cell? ⟨Bv, 3, none⟩ = some (.bool vz) :=
  ⟨h.pb.cell 2, h.pb.cell 3, h.pb.cell 4, h.pb.cell 5, h.pb.cell 6, h.vb.cell 0, h.vb.cell 1, h.vb.cell 2, h.vb.cell 3⟩
theorem head45 (l : List UInt8) : Lib.hasPrefix l [45] = true ↔ l.head? = some 45 := by
  cases l with
  | nil => simp [Lib.hasPrefix]
  | cons c r =>
    simp only [Lib.hasPrefix, List.isPrefixOf, List.head?_cons, Option.some.injEq, Bool.and_true, beq_iff_eq]
    exact ⟨fun h => h.symm, fun h => h.symm⟩

/-- How the end of a directive's text is made. -/
def tailF (p : Pc) (sg s : List UInt8) : List UInt8 := padF (sg ++ fillF p sg s) p.width p.minus
theorem writtenF_some {p : Pc} {a : Vl} {t g x : List UInt8} (h : bareF p.verb p.places a = some t) (hg : signF p t = (g, x)) : writtenF p a = some (tailF p g x) := by
  unfold writtenF; rw [h, Option.map_some, hg]; rfl
theorem writtenF_none {p : Pc} {a : Vl} (h : bareF p.verb p.places a = none) : writtenF p a = none := by unfold writtenF; rw [h]; rfl
set_option maxHeartbeats 16000000 in
set_option maxRecDepth 100000 in
theorem written_any (c : UInt8) (hc : isVerb c = true) (tx : List UInt8) (mi ze pl : Bool) (wd : Nat) (pc : Int) (kind p q : Int) (s : ByteArray) (ref : Int) (w : World) (he : E9 w) (hs : s.size ≤ 100000) (hp : -1 ≤ pc) (hp2 : pc ≤ 12) (hw : wd ≤ 99) :
    Calls Tryz.prog 34 #[.agg #[.string (bq tx), .int .u8 (c.toNat : Int), .bool mi, .bool ze, .bool pl, .int .i64 (wd : Int), .int .i64 pc], .agg #[.int .i64 kind, .int .i64 p, .int .i64 q, .string s, .int .i64 ref]] w fun e w' => OpSaid (writtenF ⟨tx, c.toNat, mi, ze, pl, wd, pc⟩ (vlu kind p q s ref)) e ∧ Below w.heap.size w w' := by
  have HEV := Lib.hid fun W (hb : Below w.heap.size w W) => he.on hb
  obtain ⟨b, hrow⟩ := vOf_row c hc
  have QV := Lib.hid fun W (hb : Below w.heap.size w W) => verbOf_any c W (he.on hb)
  have QB := Lib.hid fun W (hb : Below w.heap.size w W) => bare_any c kind p q s ref pc W (he.on hb) hs hp hp2 hc
  unfold VSaid at QV
  rw [hrow, hc, show (vrow (c.toNat : Int) b (signedV c.toNat) (zerosV c.toNat)).toArray = #[.int .u8 (c.toNat : Int), .int .i64 b, .bool (signedV c.toNat), .bool (zerosV c.toNat)] from rfl] at QV
  rw [hrow, show (vrow (c.toNat : Int) b (signedV c.toNat) (zerosV c.toNat)).toArray = #[.int .u8 (c.toNat : Int), .int .i64 b, .bool (signedV c.toNat), .bool (zerosV c.toNat)] from rfl] at QB
  have HWS := Lib.hid fun t g x (h : bareF c.toNat pc (vlu kind p q s ref) = some t) (hg : signF ⟨tx, c.toNat, mi, ze, pl, wd, pc⟩ t = (g, x)) => writtenF_some (p := ⟨tx, c.toNat, mi, ze, pl, wd, pc⟩) h hg
  have HWN := Lib.hid fun (h : bareF c.toNat pc (vlu kind p q s ref) = none) => writtenF_none (p := ⟨tx, c.toNat, mi, ze, pl, wd, pc⟩) h
  have HBL := Lib.hid fun t (h : bareF c.toNat pc (vlu kind p q s ref) = some t) => bareF_len (a := vlu kind p q s ref) (by simpa [vlu] using hs) hp hp2 h
  have HSG : Hid (∀ t, signF ⟨tx, c.toNat, mi, ze, pl, wd, pc⟩ t = if signedV c.toNat = true then (if t.head? = some 45 then ([45], t.drop 1) else if pl = true then ([43], t) else ([], t)) else ([], t)) := Lib.hid fun t => rfl
  have HFL : Hid (∀ g x, tailF ⟨tx, c.toNat, mi, ze, pl, wd, pc⟩ g x = padF (g ++ (if zerosV c.toNat = true ∧ ze = true ∧ mi = false then List.replicate (missF (g.length + x.length) wd) 48 ++ x else x)) wd mi) := Lib.hid fun g x => rfl
  generalize hgs : (⟨tx, c.toNat, mi, ze, pl, wd, pc⟩ : Pc) = PP at *
  generalize writtenF PP (vlu kind p q s ref) = R at *
  generalize bareF c.toNat pc (vlu kind p q s ref) = br at *
  generalize hsv : signedV c.toNat = sg at *
  generalize hzv : zerosV c.toNat = vz at *
  clear hgs hsv hzv hrow he
  have hcb := byte_bd9 c
  have hW0 : Below w.heap.size w ((w.alloc (.cells #[.string (bq tx), .int .u8 (c.toNat : Int), .bool mi, .bool ze, .bool pl, .int .i64 (wd : Int), .int .i64 pc] 31)).alloc (.cells #[.int .i64 kind, .int .i64 p, .int .i64 q, .string s, .int .i64 ref] 46)) := ((Below.refl _ _).alloc (Nat.le_refl _) _).alloc (by simp) _
  have hP0 : Blk 31 w.heap.size #[.string (bq tx), .int .u8 (c.toNat : Int), .bool mi, .bool ze, .bool pl, .int .i64 (wd : Int), .int .i64 pc] ((w.alloc (.cells #[.string (bq tx), .int .u8 (c.toNat : Int), .bool mi, .bool ze, .bool pl, .int .i64 (wd : Int), .int .i64 pc] 31)).alloc (.cells #[.int .i64 kind, .int .i64 p, .int .i64 q, .string s, .int .i64 ref] 46)) := (Blk.new w _ _ _ rfl).ch ((Ch.refl [] _).alloc _) (by simp)
  have hA0 : Blk 46 (w.heap.size + 1) #[.int .i64 kind, .int .i64 p, .int .i64 q, .string s, .int .i64 ref] ((w.alloc (.cells #[.string (bq tx), .int .u8 (c.toNat : Int), .bool mi, .bool ze, .bool pl, .int .i64 (wd : Int), .int .i64 pc] 31)).alloc (.cells #[.int .i64 kind, .int .i64 p, .int .i64 q, .string s, .int .i64 ref] 46)) := Blk.new _ _ _ _ (by simp)
  have HW0 := Lib.hid hW0
  have HP0 := Lib.hid hP0
  have HA0 := Lib.hid hA0
  clear hW0 hP0 hA0
  go_enter Tryz.func34, Tryz.ntmps34
  go_upto_region 2 with (go_at_call 57; (with_reducible refine (QV.out _ HW0.out).mono ?_); rintro e w2 ⟨rfl, hb2⟩)
  have hz0 := HW0.out.size
  have HB2 := Lib.hid (HW0.out.trans (hb2.mono hz0))
  have HP2 := Lib.hid (HP0.out.below hb2)
  have HA2 := Lib.hid (HA0.out.below hb2)
  have hz2 := hb2.size
  clear hb2 QV HW0 HP0 HA0 hz0
  have HS0 : Hid (WSt w w2.heap.size tx c.toNat mi ze pl wd pc b sg vz (w2.alloc (.cells #[.int .u8 (c.toNat : Int), .int .i64 b, .bool sg, .bool vz] 98))) := Lib.hid ⟨HP2.out.ch ((Ch.refl [] _).alloc _) (by simp), Blk.new _ _ _ _ rfl, HB2.out.alloc HB2.out.size _⟩
  have hA3 := HA2.out.ch ((Ch.refl [] _).alloc (.cells #[.int .u8 (c.toNat : Int), .int .i64 b, .bool sg, .bool vz] 98)) (by simp)
  generalize w2.alloc (.cells #[.int .u8 (c.toNat : Int), .int .i64 b, .bool sg, .bool vz] 98) = w3 at *
  generalize w2.heap.size = Bv at *
  obtain ⟨a0, a1, a2, a3, a4⟩ : w3.cell? ⟨w.heap.size + 1, 0, none⟩ = some (.int .i64 kind) ∧ w3.cell? ⟨w.heap.size + 1, 1, none⟩ = some (.int .i64 p) ∧ w3.cell? ⟨w.heap.size + 1, 2, none⟩ = some (.int .i64 q) ∧ w3.cell? ⟨w.heap.size + 1, 3, none⟩ = some (.string s) ∧ w3.cell? ⟨w.heap.size + 1, 4, none⟩ = some (.int .i64 ref) := ⟨hA3.cell 0, hA3.cell 1, hA3.cell 2, hA3.cell 3, hA3.cell 4⟩
  obtain ⟨p2, p3, p4, p5, p6, v0, v1, v2, v3⟩ := HS0.out.cells
  clear hA3 HA2 HP2 HB2 hz2
  cases hbr : br with
  | none =>
    rw [hbr] at QB
    have HX := Lib.hid (HWN.out hbr)
    clear hbr HWN HWS HBL HSG HFL
    go_wp2_with (go_at_call 58; (with_reducible refine (QB.out _ HS0.out.bel).mono ?_); rintro e w4 ⟨rfl, hb4⟩)
    go_ret2
    exact ⟨opSaid_none HX.out, HS0.out.bel.trans (hb4.mono HS0.out.bel.size)⟩
  | some t =>
    rw [hbr] at QB
    have htl := HBL.out t hbr
    have HWT := Lib.hid fun g x => HWS.out t g x hbr
    have HST := Lib.hid (HSG.out t)
    clear hbr HWN HWS HBL HSG
    go_upto_region 5 with (go_at_call 58; (with_reducible refine (QB.out _ HS0.out.bel).mono ?_); rintro e w4 ⟨rfl, hb4⟩)
    have HS := Lib.hid (HS0.out.below hb4)
    clear hb4 HS0 QB a0 a1 a2 a3 a4 p2 p3 p4 p5 p6 v0 v1 v2 v3
    have hx : (bq t).size ≤ 500000 := by rw [bq_size]; exact htl
    obtain ⟨p2, p3, p4, p5, p6, v0, v1, v2, v3⟩ := HS.out.cells
    have hbt := bq_list t
    cases sg with
    | false =>
      have HW : Hid (R = some (tailF PP (⟨#[]⟩ : ByteArray).data.toList (bq t).data.toList)) := Lib.hid (HWT.out [] _ (by rw [HST.out, hbt]; rfl))
      have hg : (⟨#[]⟩ : ByteArray).size = 0 := rfl
      clear HWT HST hbt htl
      generalize bq t = x at *
      go_upto_region 12 with fail
      clear p2 p3 p4 p5 p6 v0 v1 v2 v3
      obtain ⟨p2, p3, p4, p5, p6, v0, v1, v2, v3⟩ := HS.out.cells
      have hsum : ((⟨#[]⟩ : ByteArray) ++ x).size = (⟨#[]⟩ : ByteArray).size + x.size := ByteArray.size_append
      by_cases hfill : vz = true ∧ ze = true ∧ mi = false
      · obtain ⟨rfl, rfl, rfl⟩ := hfill
        have hmf := missF_le ((⟨#[]⟩ : ByteArray).size + x.size) wd
        have QM := Lib.hid fun W => miss_any ((⟨#[]⟩ : ByteArray) ++ x) wd W (by omega)
        rw [hsum] at QM
        have QR : Hid (∀ w, Calls Tryz.prog 25 #[.string ⟨#[48]⟩, .int .i64 (missF ((⟨#[]⟩ : ByteArray).size + x.size) wd : Int)] w fun e w' => e = .returned (.string (bq (List.replicate (missF ((⟨#[]⟩ : ByteArray).size + x.size) wd) 48))) ∧ Below w.heap.size w w') := Lib.hid fun w => rep9 48 _ w (by omega)
        have HZ : Hid ((bq (List.replicate (missF ((⟨#[]⟩ : ByteArray).size + x.size) wd) 48)).data.toList = List.replicate (missF ((⟨#[]⟩ : ByteArray).data.toList.length + x.data.toList.length) wd) 48) := Lib.hid (by rw [bq_list, list_size, list_size])
        have hzs : (bq (List.replicate (missF ((⟨#[]⟩ : ByteArray).size + x.size) wd) 48)).size ≤ 99 := by rw [bq_size, List.length_replicate]; omega
        generalize bq (List.replicate (missF ((⟨#[]⟩ : ByteArray).size + x.size) wd) 48) = z at *
        generalize missF ((⟨#[]⟩ : ByteArray).size + x.size) wd = mk at *
        have QP := Lib.hid fun W => pad9 ((⟨#[]⟩ : ByteArray) ++ (z ++ x)) wd false W (by rw [ByteArray.size_append, ByteArray.size_append]; omega)
        clear hsum hmf
        go_wp2_with (first | (go_at_call 39; (with_reducible refine (QM.out _).mono ?_); rintro e w' ⟨rfl, rfl⟩) | (go_at_call 25; (with_reducible refine (QR.out _).mono ?_); rintro e w5 ⟨rfl, hb5⟩; have HS5 := Lib.hid (HS.out.below hb5); obtain ⟨q2, q3, q4, q5, q6, u0, u1, u2, u3⟩ := HS5.out.cells) | (go_at_call 17; (with_reducible refine (QP.out _).mono ?_); rintro e w6 ⟨rfl, hb6⟩))
        go_ret2
        exact ⟨opSaid_some HW.out (by rw [HFL.out, if_pos (by simp)]; simp [HZ.out]), HS5.out.bel.trans (hb6.mono HS5.out.bel.size)⟩
      · have QP := Lib.hid fun W => pad9 ((⟨#[]⟩ : ByteArray) ++ x) wd mi W (by omega)
        have HE : Hid (tailF PP (⟨#[]⟩ : ByteArray).data.toList x.data.toList = padF ((⟨#[]⟩ : ByteArray) ++ x).data.toList wd mi) := Lib.hid (by rw [HFL.out, if_neg hfill, ByteArray.data_append, Array.toList_append])
        clear hsum
        have hcase : vz = false ∨ (vz = true ∧ ze = false) ∨ (vz = true ∧ ze = true ∧ mi = true) := by
          revert hfill
          cases vz <;> cases ze <;> cases mi <;> simp
        clear hfill
        rcases hcase with rfl | ⟨rfl, rfl⟩ | ⟨rfl, rfl, rfl⟩
        all_goals (
          go_wp2_with (go_at_call 17; (with_reducible refine (QP.out _).mono ?_); rintro e w6 ⟨rfl, hb6⟩)
          go_ret2
          exact ⟨opSaid_some HW.out (by rw [HE.out]; simp [ByteArray.data_append]), HS.out.bel.trans (hb6.mono HS.out.bel.size)⟩)
    | true =>
      have QC : Hid (∀ W, Calls Tryz.prog 30 #[.string (bq t), .string ⟨#[45]⟩] W fun e w' => e = .returned (.tuple #[.string (bq (Lib.trimPrefix t [45])), .bool (Lib.hasPrefix t [45])]) ∧ W = w') := Lib.hid fun W => by
        have := cutp_any (bq t) ⟨#[45]⟩ W
        rw [bq_list, show (⟨#[45]⟩ : ByteArray).data.toList = [45] from rfl] at this
        exact this
      cases hh : Lib.hasPrefix t [45] with
      | true =>
        rw [hh, show Lib.trimPrefix t [45] = t.drop 1 by unfold Lib.trimPrefix; rw [if_pos hh]; rfl] at QC
        have hbd := bq_list (t.drop 1)
        have hx2 : (bq (t.drop 1)).size ≤ 500000 := by rw [bq_size, List.length_drop]; omega
        have HW : Hid (R = some (tailF PP (⟨#[45]⟩ : ByteArray).data.toList (bq (t.drop 1)).data.toList)) := Lib.hid (HWT.out [45] _ (by rw [HST.out, hbd, if_pos rfl, if_pos ((head45 t).1 hh)]))
        have hg : (⟨#[45]⟩ : ByteArray).size = 1 := rfl
        clear HWT HST hbt hbd htl hh
        generalize bq (t.drop 1) = x at *
        go_upto_region 12 with (go_at_call 30; (with_reducible refine (QC.out _).mono ?_); rintro e w' ⟨rfl, rfl⟩)
        skip
        clear p2 p3 p4 p5 p6 v0 v1 v2 v3
        obtain ⟨p2, p3, p4, p5, p6, v0, v1, v2, v3⟩ := HS.out.cells
        have hsum : ((⟨#[45]⟩ : ByteArray) ++ x).size = (⟨#[45]⟩ : ByteArray).size + x.size := ByteArray.size_append
        by_cases hfill : vz = true ∧ ze = true ∧ mi = false
        · obtain ⟨rfl, rfl, rfl⟩ := hfill
          have hmf := missF_le ((⟨#[45]⟩ : ByteArray).size + x.size) wd
          have QM := Lib.hid fun W => miss_any ((⟨#[45]⟩ : ByteArray) ++ x) wd W (by omega)
          rw [hsum] at QM
          have QR : Hid (∀ w, Calls Tryz.prog 25 #[.string ⟨#[48]⟩, .int .i64 (missF ((⟨#[45]⟩ : ByteArray).size + x.size) wd : Int)] w fun e w' => e = .returned (.string (bq (List.replicate (missF ((⟨#[45]⟩ : ByteArray).size + x.size) wd) 48))) ∧ Below w.heap.size w w') := Lib.hid fun w => rep9 48 _ w (by omega)
          have HZ : Hid ((bq (List.replicate (missF ((⟨#[45]⟩ : ByteArray).size + x.size) wd) 48)).data.toList = List.replicate (missF ((⟨#[45]⟩ : ByteArray).data.toList.length + x.data.toList.length) wd) 48) := Lib.hid (by rw [bq_list, list_size, list_size])
          have hzs : (bq (List.replicate (missF ((⟨#[45]⟩ : ByteArray).size + x.size) wd) 48)).size ≤ 99 := by rw [bq_size, List.length_replicate]; omega
          generalize bq (List.replicate (missF ((⟨#[45]⟩ : ByteArray).size + x.size) wd) 48) = z at *
          generalize missF ((⟨#[45]⟩ : ByteArray).size + x.size) wd = mk at *
          have QP := Lib.hid fun W => pad9 ((⟨#[45]⟩ : ByteArray) ++ (z ++ x)) wd false W (by rw [ByteArray.size_append, ByteArray.size_append]; omega)
          clear hsum hmf
          go_wp2_with (first | (go_at_call 39; (with_reducible refine (QM.out _).mono ?_); rintro e w' ⟨rfl, rfl⟩) | (go_at_call 25; (with_reducible refine (QR.out _).mono ?_); rintro e w5 ⟨rfl, hb5⟩; have HS5 := Lib.hid (HS.out.below hb5); obtain ⟨q2, q3, q4, q5, q6, u0, u1, u2, u3⟩ := HS5.out.cells) | (go_at_call 17; (with_reducible refine (QP.out _).mono ?_); rintro e w6 ⟨rfl, hb6⟩))
          go_ret2
          exact ⟨opSaid_some HW.out (by rw [HFL.out, if_pos (by simp)]; simp [HZ.out]), HS5.out.bel.trans (hb6.mono HS5.out.bel.size)⟩
        · have QP := Lib.hid fun W => pad9 ((⟨#[45]⟩ : ByteArray) ++ x) wd mi W (by omega)
          have HE : Hid (tailF PP (⟨#[45]⟩ : ByteArray).data.toList x.data.toList = padF ((⟨#[45]⟩ : ByteArray) ++ x).data.toList wd mi) := Lib.hid (by rw [HFL.out, if_neg hfill, ByteArray.data_append, Array.toList_append])
          clear hsum
          have hcase : vz = false ∨ (vz = true ∧ ze = false) ∨ (vz = true ∧ ze = true ∧ mi = true) := by
            revert hfill
            cases vz <;> cases ze <;> cases mi <;> simp
          clear hfill
          rcases hcase with rfl | ⟨rfl, rfl⟩ | ⟨rfl, rfl, rfl⟩
          all_goals (
            go_wp2_with (go_at_call 17; (with_reducible refine (QP.out _).mono ?_); rintro e w6 ⟨rfl, hb6⟩)
            go_ret2
            exact ⟨opSaid_some HW.out (by rw [HE.out]; simp [ByteArray.data_append]), HS.out.bel.trans (hb6.mono HS.out.bel.size)⟩)
      | false =>
        rw [hh] at QC
        have hno : t.head? ≠ some 45 := fun e => by have := (head45 t).2 e; rw [hh] at this; cases this
        cases pl with
        | true =>
          have HW : Hid (R = some (tailF PP (⟨#[43]⟩ : ByteArray).data.toList (bq t).data.toList)) := Lib.hid (HWT.out [43] _ (by rw [HST.out, hbt]; simp [hno]))
          have hg : (⟨#[43]⟩ : ByteArray).size = 1 := rfl
          clear HWT HST hbt htl hh hno
          generalize bq t = x at *
          go_upto_region 12 with (go_at_call 30; (with_reducible refine (QC.out _).mono ?_); rintro e w' ⟨rfl, rfl⟩)
          skip
          clear p2 p3 p4 p5 p6 v0 v1 v2 v3
          obtain ⟨p2, p3, p4, p5, p6, v0, v1, v2, v3⟩ := HS.out.cells
          have hsum : ((⟨#[43]⟩ : ByteArray) ++ x).size = (⟨#[43]⟩ : ByteArray).size + x.size := ByteArray.size_append
          by_cases hfill : vz = true ∧ ze = true ∧ mi = false
          · obtain ⟨rfl, rfl, rfl⟩ := hfill
            have hmf := missF_le ((⟨#[43]⟩ : ByteArray).size + x.size) wd
            have QM := Lib.hid fun W => miss_any ((⟨#[43]⟩ : ByteArray) ++ x) wd W (by omega)
            rw [hsum] at QM
            have QR : Hid (∀ w, Calls Tryz.prog 25 #[.string ⟨#[48]⟩, .int .i64 (missF ((⟨#[43]⟩ : ByteArray).size + x.size) wd : Int)] w fun e w' => e = .returned (.string (bq (List.replicate (missF ((⟨#[43]⟩ : ByteArray).size + x.size) wd) 48))) ∧ Below w.heap.size w w') := Lib.hid fun w => rep9 48 _ w (by omega)
            have HZ : Hid ((bq (List.replicate (missF ((⟨#[43]⟩ : ByteArray).size + x.size) wd) 48)).data.toList = List.replicate (missF ((⟨#[43]⟩ : ByteArray).data.toList.length + x.data.toList.length) wd) 48) := Lib.hid (by rw [bq_list, list_size, list_size])
            have hzs : (bq (List.replicate (missF ((⟨#[43]⟩ : ByteArray).size + x.size) wd) 48)).size ≤ 99 := by rw [bq_size, List.length_replicate]; omega
            generalize bq (List.replicate (missF ((⟨#[43]⟩ : ByteArray).size + x.size) wd) 48) = z at *
            generalize missF ((⟨#[43]⟩ : ByteArray).size + x.size) wd = mk at *
            have QP := Lib.hid fun W => pad9 ((⟨#[43]⟩ : ByteArray) ++ (z ++ x)) wd false W (by rw [ByteArray.size_append, ByteArray.size_append]; omega)
            clear hsum hmf
            go_wp2_with (first | (go_at_call 39; (with_reducible refine (QM.out _).mono ?_); rintro e w' ⟨rfl, rfl⟩) | (go_at_call 25; (with_reducible refine (QR.out _).mono ?_); rintro e w5 ⟨rfl, hb5⟩; have HS5 := Lib.hid (HS.out.below hb5); obtain ⟨q2, q3, q4, q5, q6, u0, u1, u2, u3⟩ := HS5.out.cells) | (go_at_call 17; (with_reducible refine (QP.out _).mono ?_); rintro e w6 ⟨rfl, hb6⟩))
            go_ret2
            exact ⟨opSaid_some HW.out (by rw [HFL.out, if_pos (by simp)]; simp [HZ.out]), HS5.out.bel.trans (hb6.mono HS5.out.bel.size)⟩
          · have QP := Lib.hid fun W => pad9 ((⟨#[43]⟩ : ByteArray) ++ x) wd mi W (by omega)
            have HE : Hid (tailF PP (⟨#[43]⟩ : ByteArray).data.toList x.data.toList = padF ((⟨#[43]⟩ : ByteArray) ++ x).data.toList wd mi) := Lib.hid (by rw [HFL.out, if_neg hfill, ByteArray.data_append, Array.toList_append])
            clear hsum
            have hcase : vz = false ∨ (vz = true ∧ ze = false) ∨ (vz = true ∧ ze = true ∧ mi = true) := by
              revert hfill
              cases vz <;> cases ze <;> cases mi <;> simp
            clear hfill
            rcases hcase with rfl | ⟨rfl, rfl⟩ | ⟨rfl, rfl, rfl⟩
            all_goals (
              go_wp2_with (go_at_call 17; (with_reducible refine (QP.out _).mono ?_); rintro e w6 ⟨rfl, hb6⟩)
              go_ret2
              exact ⟨opSaid_some HW.out (by rw [HE.out]; simp [ByteArray.data_append]), HS.out.bel.trans (hb6.mono HS.out.bel.size)⟩)
        | false =>
          have HW : Hid (R = some (tailF PP (⟨#[]⟩ : ByteArray).data.toList (bq t).data.toList)) := Lib.hid (HWT.out [] _ (by rw [HST.out, hbt]; simp [hno]))
          have hg : (⟨#[]⟩ : ByteArray).size = 0 := rfl
          clear HWT HST hbt htl hh hno
          generalize bq t = x at *
          go_upto_region 12 with (go_at_call 30; (with_reducible refine (QC.out _).mono ?_); rintro e w' ⟨rfl, rfl⟩)
          skip
          clear p2 p3 p4 p5 p6 v0 v1 v2 v3
          obtain ⟨p2, p3, p4, p5, p6, v0, v1, v2, v3⟩ := HS.out.cells
          have hsum : ((⟨#[]⟩ : ByteArray) ++ x).size = (⟨#[]⟩ : ByteArray).size + x.size := ByteArray.size_append
          by_cases hfill : vz = true ∧ ze = true ∧ mi = false
          · obtain ⟨rfl, rfl, rfl⟩ := hfill
            have hmf := missF_le ((⟨#[]⟩ : ByteArray).size + x.size) wd
            have QM := Lib.hid fun W => miss_any ((⟨#[]⟩ : ByteArray) ++ x) wd W (by omega)
            rw [hsum] at QM
            have QR : Hid (∀ w, Calls Tryz.prog 25 #[.string ⟨#[48]⟩, .int .i64 (missF ((⟨#[]⟩ : ByteArray).size + x.size) wd : Int)] w fun e w' => e = .returned (.string (bq (List.replicate (missF ((⟨#[]⟩ : ByteArray).size + x.size) wd) 48))) ∧ Below w.heap.size w w') := Lib.hid fun w => rep9 48 _ w (by omega)
            have HZ : Hid ((bq (List.replicate (missF ((⟨#[]⟩ : ByteArray).size + x.size) wd) 48)).data.toList = List.replicate (missF ((⟨#[]⟩ : ByteArray).data.toList.length + x.data.toList.length) wd) 48) := Lib.hid (by rw [bq_list, list_size, list_size])
            have hzs : (bq (List.replicate (missF ((⟨#[]⟩ : ByteArray).size + x.size) wd) 48)).size ≤ 99 := by rw [bq_size, List.length_replicate]; omega
            generalize bq (List.replicate (missF ((⟨#[]⟩ : ByteArray).size + x.size) wd) 48) = z at *
            generalize missF ((⟨#[]⟩ : ByteArray).size + x.size) wd = mk at *
            have QP := Lib.hid fun W => pad9 ((⟨#[]⟩ : ByteArray) ++ (z ++ x)) wd false W (by rw [ByteArray.size_append, ByteArray.size_append]; omega)
            clear hsum hmf
            go_wp2_with (first | (go_at_call 39; (with_reducible refine (QM.out _).mono ?_); rintro e w' ⟨rfl, rfl⟩) | (go_at_call 25; (with_reducible refine (QR.out _).mono ?_); rintro e w5 ⟨rfl, hb5⟩; have HS5 := Lib.hid (HS.out.below hb5); obtain ⟨q2, q3, q4, q5, q6, u0, u1, u2, u3⟩ := HS5.out.cells) | (go_at_call 17; (with_reducible refine (QP.out _).mono ?_); rintro e w6 ⟨rfl, hb6⟩))
            go_ret2
            exact ⟨opSaid_some HW.out (by rw [HFL.out, if_pos (by simp)]; simp [HZ.out]), HS5.out.bel.trans (hb6.mono HS5.out.bel.size)⟩
          · have QP := Lib.hid fun W => pad9 ((⟨#[]⟩ : ByteArray) ++ x) wd mi W (by omega)
            have HE : Hid (tailF PP (⟨#[]⟩ : ByteArray).data.toList x.data.toList = padF ((⟨#[]⟩ : ByteArray) ++ x).data.toList wd mi) := Lib.hid (by rw [HFL.out, if_neg hfill, ByteArray.data_append, Array.toList_append])
            clear hsum
            have hcase : vz = false ∨ (vz = true ∧ ze = false) ∨ (vz = true ∧ ze = true ∧ mi = true) := by
              revert hfill
              cases vz <;> cases ze <;> cases mi <;> simp
            clear hfill
            rcases hcase with rfl | ⟨rfl, rfl⟩ | ⟨rfl, rfl, rfl⟩
            all_goals (
              go_wp2_with (go_at_call 17; (with_reducible refine (QP.out _).mono ?_); rintro e w6 ⟨rfl, hb6⟩)
              go_ret2
              exact ⟨opSaid_some HW.out (by rw [HE.out]; simp [ByteArray.data_append]), HS.out.bel.trans (hb6.mono HS.out.bel.size)⟩)
end Go.Proofs.YtbdcmnhfmkefdaaGreatDoor
