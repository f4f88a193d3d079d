/- Layer 19: the messages. -/
import Derived.Test.YtimblnhigoggpaaDoorFlF
import Derived.Deep.WholeRow
namespace Go.Proofs.YtimblnhigoggpaaDoor
open Go.RowKit Go.Joins M1
set_option linter.unusedVariables false
def msgA : Array Value := #[.string ⟨#[]⟩, .string ⟨#[110, 105, 108, 32, 111, 98, 106, 101, 99, 116]⟩, .string ⟨#[98, 97, 100, 32, 97, 114, 103, 117, 109, 101, 110, 116]⟩, .string ⟨#[116, 111, 111, 32, 109, 97, 110, 121, 32, 118, 97, 108, 117, 101, 115]⟩, .string ⟨#[109, 97, 108, 102, 111, 114, 109, 101, 100, 32, 116, 101, 120, 116]⟩, .string ⟨#[117, 110, 101, 120, 112, 101, 99, 116, 101, 100, 32, 101, 110, 100]⟩, .string ⟨#[110, 117, 109, 98, 101, 114, 32, 111, 117, 116, 32, 111, 102, 32, 114, 97, 110, 103, 101]⟩, .string ⟨#[100, 105, 118, 105, 115, 105, 111, 110, 32, 98, 121, 32, 122, 101, 114, 111]⟩, .string ⟨#[]⟩, .string ⟨#[117, 110, 107, 110, 111, 119, 110, 32, 110, 97, 109, 101]⟩, .string ⟨#[100, 101, 99, 108, 97, 114, 101, 100, 32, 116, 119, 105, 99, 101]⟩, .string ⟨#[97, 116, 116, 101, 109, 112, 116, 32, 116, 111, 32, 97, 115, 115, 105, 103, 110, 32, 116, 111, 32, 97, 32, 99, 111, 110, 115, 116, 97, 110, 116]⟩, .string ⟨#[108, 97, 98, 101, 108, 32, 105, 115, 32, 110, 111, 116, 32, 118, 105, 115, 105, 98, 108, 101]⟩, .string ⟨#[105, 110, 100, 101, 120, 32, 105, 115, 32, 110, 105, 108]⟩, .string ⟨#[115, 116, 114, 105, 110, 103, 32, 116, 111, 111, 32, 108, 111, 110, 103]⟩, .string ⟨#[99, 104, 97, 105, 110, 32, 111, 102, 32, 109, 101, 116, 97, 116, 97, 98, 108, 101, 115, 32, 116, 111, 111, 32, 108, 111, 110, 103]⟩, .string ⟨#[99, 97, 110, 110, 111, 116, 32, 114, 101, 115, 117, 109, 101, 32, 110, 111, 110, 45, 115, 117, 115, 112, 101, 110, 100, 101, 100, 32, 99, 111, 114, 111, 117, 116, 105, 110, 101]⟩, .string ⟨#[115, 116, 97, 99, 107, 32, 111, 118, 101, 114, 102, 108, 111, 119]⟩, .string ⟨#[110, 111, 116, 104, 105, 110, 103, 32, 105, 115, 32, 116, 104, 101, 114, 101]⟩, .string ⟨#[99, 97, 110, 110, 111, 116, 32, 114, 101, 115, 117, 109, 101, 32, 100, 101, 97, 100, 32, 99, 111, 114, 111, 117, 116, 105, 110, 101]⟩, .string ⟨#[119, 114, 111, 110, 103, 32, 99, 104, 101, 99, 107, 115, 117, 109]⟩, .string ⟨#[98, 121, 116, 101, 99, 111, 100, 101, 32, 105, 115, 32, 110, 111, 116, 32, 115, 97, 102, 101]⟩, .string ⟨#[116, 104, 105, 110, 103, 115, 32, 100, 111, 32, 110, 111, 116, 32, 109, 97, 116, 99, 104]⟩, .string ⟨#[110, 111, 116, 32, 101, 110, 111, 117, 103, 104, 32, 109, 101, 109, 111, 114, 121]⟩, .string ⟨#[116, 111, 111, 32, 109, 97, 110, 121, 32, 115, 116, 101, 112, 115]⟩, .string ⟨#[97, 116, 116, 101, 109, 112, 116, 32, 116, 111, 32, 121, 105, 101, 108, 100, 32, 102, 114, 111, 109, 32, 111, 117, 116, 115, 105, 100, 101, 32, 97, 32, 99, 111, 114, 111, 117, 116, 105, 110, 101]⟩, .string ⟨#[101, 114, 114, 111, 114, 32, 105, 110, 32, 97, 32, 115, 99, 114, 105, 112, 116]⟩]
def zerA : Array Value := #[.string ⟨#[]⟩, .string ⟨#[]⟩, .string ⟨#[]⟩, .string ⟨#[]⟩, .string ⟨#[]⟩, .string ⟨#[]⟩, .string ⟨#[]⟩, .string ⟨#[]⟩, .string ⟨#[]⟩, .string ⟨#[]⟩, .string ⟨#[]⟩, .string ⟨#[]⟩, .string ⟨#[]⟩, .string ⟨#[]⟩, .string ⟨#[]⟩, .string ⟨#[]⟩, .string ⟨#[]⟩, .string ⟨#[]⟩, .string ⟨#[]⟩, .string ⟨#[]⟩, .string ⟨#[]⟩, .string ⟨#[]⟩, .string ⟨#[]⟩, .string ⟨#[]⟩, .string ⟨#[]⟩, .string ⟨#[]⟩, .string ⟨#[]⟩]
def msgB (k : Nat) : ByteArray := match msgA[k]? with
  | some (.string s) => s
  | _ => ⟨#[]⟩
theorem msg_at (k : Nat) (hk : k < 27) : msgA[k]? = some (.string (msgB k)) := by
  have : ∀ j : Fin 27, (match msgA[j.1]? with | some (.string _) => true | _ => false) = true := by decide +kernel
  have := this ⟨k, hk⟩
  unfold msgB
  revert this
  cases h : msgA[k]? with
  | none => intro h; cases h
  | some v => cases v <;> intro h <;> first | rfl | cases h
theorem wpList_built {P : Program} {ops : Array Oper} {rest : List Oper} {o : Oper} {a : Act} {w : World} {Q : Exit → Act → World → Prop} (c : Array Value) (hg : o.guard = none) (t : TypeId) (parts : Array (Nat × Operand)) (ho : o.op = .build t parts)
    (hf : P.built t (parts.map fun (i, x) => (i, a.eval x)).toList = some c)
    (h : wpList P ops Q rest (a.put o.dst (.agg c)) w) : wpList P ops Q (o :: rest) a w :=
  wpList_build hg t parts ho (by rw [hf]; rfl) (by rw [hf]; exact h)
theorem info58 : (Tryd.prog.info? 58).map (·.size) = some msgA.size := by kernel_rfl
theorem info58z : (Tryd.prog.info? 58).map (fun i => (i.zero, i.size)) = some (some (.agg zerA), 27) := by kernel_rfl
theorem msg_one : msgA.all (·.oneCell') = true := by kernel_rfl
theorem und58 : Tryd.prog.underlying 58 = some (.array 27 9) := by kernel_rfl
theorem mz_facts : ∃ M Z : Array Value, M = msgA ∧ (∀ w, (zeroValue 58).run Tryd.prog w = .ok (.agg Z) w) ∧ (Tryd.prog.info? 58).map (·.size) = some M.size ∧ M.all (·.oneCell') = true ∧ Z.size = M.size ∧ (∀ k, k < 27 → M[k]? = some (.string (msgB k))) :=
  ⟨msgA, zerA, rfl, (zero_of_info info58z).1, info58, msg_one, by kernel_rfl, msg_at⟩
set_option maxHeartbeats 4000000 in
theorem messages_any (M : Array Value) (hM : M = msgA) (w : World) : Calls Tryd.prog 42 #[] w fun e w' => e = .returned (.agg M) ∧ Ch [] w w' := by
  obtain ⟨M', Z, hM', zz, hi, h1, hzs, _⟩ := mz_facts
  obtain rfl : M' = M := hM'.trans hM.symm
  have HM := Lib.hid hM
  clear hM hM'
  go_enter Tryd.func42, Tryd.ntmps42
  go_upto_region 1 with fail
  go_wp2_with (first | (refine wpList_built M' rfl _ _ rfl (by rw [HM.out]; kernel_rfl) ?_) | (refine wpList_store_row rfl _ _ _ rfl w.heap.size M' rfl rfl 58 Z (heap_alloc_last w _) hi hzs h1 ?_))
  rw [World.setRow_alloc_new]
  have h := run_loadVar_new (P := Tryd.prog) w 58 M' 27 9 und58 hi
  clear HM
  refine bodyPost_ret (v := .agg M') (by
    have h0 : ∀ W, (asAddr (.pointer (some ⟨w.heap.size, 0, none⟩))).run Tryd.prog W = .ok ⟨w.heap.size, 0, none⟩ W := fun _ => rfl
    simp [results, Tryd.results42]
    show ((asAddr (.pointer (some ⟨w.heap.size, 0, none⟩))).run _ _).andThen _ = _
    rw [h0, Result.andThen_ok]
    exact h) rfl ⟨rfl, (Ch.refl [] w).alloc _⟩
set_option maxHeartbeats 4000000 in
set_option maxRecDepth 100000 in
theorem desc_in (k : Nat) (v : V5) (w : World) (hk : k < 27) (h8 : ¬ k = 8) : Calls Tryd.prog 23 #[.int .i64 (k : Int), .agg #[.int .i64 v.k, .int .i64 v.p, .int .i64 v.q, .string v.s, .int .i64 v.r]] w fun e' w' => e' = .returned (.string (msgB k)) ∧ Ch [] w w' := by
  obtain ⟨M, Z, hM, zz, hi, h1, hzs, hat⟩ := mz_facts
  have QM : Hid (∀ W, Calls Tryd.prog 42 #[] W fun e w' => e = .returned (.agg M) ∧ Ch [] W w') := Lib.hid (fun W => messages_any M hM W)
  clear hM
  have b8 : ((k : Int) == 8) = false := by rw [beq_eq_false_iff_ne]; omega
  have b8n : ¬ (k : Int) = 8 := by omega
  have hk0 : (0 : Int) ≤ (k : Int) := by omega
  have hk1 : (k : Int) < 27 := by omega
  have hk2 : ¬ (k : Int) < 0 := by omega
  have hk3 : ¬ (27 : Int) ≤ (k : Int) := by omega

  have HC0 : Hid (Ch [] w (w.alloc (.cells #[.int .i64 v.k, .int .i64 v.p, .int .i64 v.q, .string v.s, .int .i64 v.r] 25))) := Lib.hid ((Ch.refl [] w).alloc _)
  go_enter Tryd.func23, Tryd.ntmps23
  go_upto_region 4 with (first | (go_at_call 42; (with_reducible refine (QM.out _).mono ?_); rintro e w1 ⟨rfl, hc⟩; have HC1 : Hid (Ch [] w (w1.alloc (.cells M 58))) := Lib.hid ((HC0.out.trans hc).alloc _); have HL1 : Hid (Blk 58 w1.heap.size M (w1.alloc (.cells M 58))) := Lib.hid (Blk.new w1 58 M w1.heap.size rfl); clear hc) | (refine wpList_store_row rfl _ _ _ rfl w1.heap.size M rfl rfl 58 Z (heap_alloc_last w1 _) hi hzs h1 ?_))
  rw [World.setRow_alloc_new]
  generalize hR : w1.heap.size = R at *
  generalize (w1.alloc (.cells M 58)) = W1 at *
  have lR := HL1.out.lt
  have cR : W1.cell? ⟨R, k, none⟩ = some (.string (msgB k)) := (HL1.out.cell k).trans (hat k hk)
  go_wp2
  go_ret
  exact ⟨rfl, HC1.out⟩
set_option maxHeartbeats 4000000 in
set_option maxRecDepth 100000 in
theorem desc_lo (e : Int) (v : V5) (w : World) (h8 : ¬ e = 8) (hc : e < 0) : Calls Tryd.prog 23 #[.int .i64 e, .agg #[.int .i64 v.k, .int .i64 v.p, .int .i64 v.q, .string v.s, .int .i64 v.r]] w fun e' w' => e' = .returned (.string ⟨#[117, 110, 107, 110, 111, 119, 110, 32, 101, 114, 114, 111, 114]⟩) ∧ Ch [] w w' := by
  obtain ⟨M, Z, hM, zz, hi, h1, hzs, hat⟩ := mz_facts
  have QM : Hid (∀ W, Calls Tryd.prog 42 #[] W fun e w' => e = .returned (.agg M) ∧ Ch [] W w') := Lib.hid (fun W => messages_any M hM W)
  clear hM
  have b8 : (e == 8) = false := by rw [beq_eq_false_iff_ne]; exact h8

  have HC0 : Hid (Ch [] w (w.alloc (.cells #[.int .i64 v.k, .int .i64 v.p, .int .i64 v.q, .string v.s, .int .i64 v.r] 25))) := Lib.hid ((Ch.refl [] w).alloc _)
  go_enter Tryd.func23, Tryd.ntmps23
  go_upto_region 4 with (first | (go_at_call 42; (with_reducible refine (QM.out _).mono ?_); rintro e w1 ⟨rfl, hc⟩; have HC1 : Hid (Ch [] w (w1.alloc (.cells M 58))) := Lib.hid ((HC0.out.trans hc).alloc _); have HL1 : Hid (Blk 58 w1.heap.size M (w1.alloc (.cells M 58))) := Lib.hid (Blk.new w1 58 M w1.heap.size rfl); clear hc) | (refine wpList_store_row rfl _ _ _ rfl w1.heap.size M rfl rfl 58 Z (heap_alloc_last w1 _) hi hzs h1 ?_))
  rw [World.setRow_alloc_new]
  generalize hR : w1.heap.size = R at *
  generalize (w1.alloc (.cells M 58)) = W1 at *
  go_wp2
  go_ret
  exact ⟨rfl, HC1.out⟩
set_option maxHeartbeats 4000000 in
set_option maxRecDepth 100000 in
theorem desc_hi (e : Int) (v : V5) (w : World) (h8 : ¬ e = 8) (hc : ¬ e < 0) (h27 : 27 ≤ e) : Calls Tryd.prog 23 #[.int .i64 e, .agg #[.int .i64 v.k, .int .i64 v.p, .int .i64 v.q, .string v.s, .int .i64 v.r]] w fun e' w' => e' = .returned (.string ⟨#[117, 110, 107, 110, 111, 119, 110, 32, 101, 114, 114, 111, 114]⟩) ∧ Ch [] w w' := by
  obtain ⟨M, Z, hM, zz, hi, h1, hzs, hat⟩ := mz_facts
  have QM : Hid (∀ W, Calls Tryd.prog 42 #[] W fun e w' => e = .returned (.agg M) ∧ Ch [] W w') := Lib.hid (fun W => messages_any M hM W)
  clear hM
  have b8 : (e == 8) = false := by rw [beq_eq_false_iff_ne]; exact h8

  have HC0 : Hid (Ch [] w (w.alloc (.cells #[.int .i64 v.k, .int .i64 v.p, .int .i64 v.q, .string v.s, .int .i64 v.r] 25))) := Lib.hid ((Ch.refl [] w).alloc _)
  go_enter Tryd.func23, Tryd.ntmps23
  go_upto_region 4 with (first | (go_at_call 42; (with_reducible refine (QM.out _).mono ?_); rintro e w1 ⟨rfl, hc⟩; have HC1 : Hid (Ch [] w (w1.alloc (.cells M 58))) := Lib.hid ((HC0.out.trans hc).alloc _); have HL1 : Hid (Blk 58 w1.heap.size M (w1.alloc (.cells M 58))) := Lib.hid (Blk.new w1 58 M w1.heap.size rfl); clear hc) | (refine wpList_store_row rfl _ _ _ rfl w1.heap.size M rfl rfl 58 Z (heap_alloc_last w1 _) hi hzs h1 ?_))
  rw [World.setRow_alloc_new]
  generalize hR : w1.heap.size = R at *
  generalize (w1.alloc (.cells M 58)) = W1 at *
  go_wp2
  go_ret
  exact ⟨rfl, HC1.out⟩
def descB (e k : Int) : ByteArray := if e = 8 then callE k else if e < 0 then ⟨#[117, 110, 107, 110, 111, 119, 110, 32, 101, 114, 114, 111, 114]⟩ else if 27 ≤ e then ⟨#[117, 110, 107, 110, 111, 119, 110, 32, 101, 114, 114, 111, 114]⟩ else msgB e.toNat
theorem describe_any (e : Int) (v : V5) (w : World) (hk : (Lit.int .i64 v.k).wf = true) : Calls Tryd.prog 23 #[.int .i64 e, .agg #[.int .i64 v.k, .int .i64 v.p, .int .i64 v.q, .string v.s, .int .i64 v.r]] w fun e' w' => e' = .returned (.string (descB e v.k)) ∧ Ch [] w w' := by
  unfold descB
  by_cases h8 : e = 8
  · subst h8
    rw [if_pos rfl]
    exact describe_call v w hk
  rw [if_neg h8]
  by_cases hc : e < 0
  · rw [if_pos hc]; exact desc_lo e v w h8 hc
  rw [if_neg hc]
  by_cases h27 : 27 ≤ e
  · rw [if_pos h27]; exact desc_hi e v w h8 hc h27
  rw [if_neg h27]
  obtain ⟨k, rfl⟩ : ∃ k : Nat, e = (k : Int) := ⟨e.toNat, by omega⟩
  rw [Int.toNat_natCast]
  exact desc_in k v w (by omega) (by omega)
end Go.Proofs.YtimblnhigoggpaaDoor
