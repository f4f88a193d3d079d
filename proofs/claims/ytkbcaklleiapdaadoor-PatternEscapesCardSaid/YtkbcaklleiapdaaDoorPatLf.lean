/- Contracts of layer 4: an item. -/
import Derived.Test.YtkbcaklleiapdaaDoorPatLe
namespace Go.Proofs.YtkbcaklleiapdaaDoor
open Go.RowKit M4
set_option linter.unusedVariables false
theorem item_any (b : Nat) (p : ByteArray) (k : Nat) (st op : Value) (sts opn : List Nat) (its : List Itm) (w : World) (hp : p.size ≤ 1000000) (hk : k < p.size) (hR : Rok sts opn its) (h : RdS b p k sts opn st op w) :
    Calls Tryd.prog 44 #[.pointer (some ⟨b, 0, none⟩)] w fun e w' => ItSaid b p (itemF p.data.toList k sts opn) st op w e w' := by
  have h16 := hR.le
  have ho16 := hR.ol
  have hop : ∀ n ∈ opn, n < sts.length := fun n hn => st_lt ((hR.op n).1 hn)
  have hbd := hR.bd
  by_cases h40 : p.data.toList[k]? = some 40
  · exact item_40 b p k st op sts opn w hp hk h16 ho16 hop hbd h h40
  by_cases h41 : p.data.toList[k]? = some 41
  · exact item_41 b p k st op sts opn w hp hk h16 ho16 hop hbd h h41
  by_cases h37 : p.data.toList[k]? = some 37
  · by_cases hl : k + 1 < p.size
    · obtain ⟨c, hc⟩ : ∃ c, p.data.toList[k + 1]? = some c := ⟨_, get_some p (k + 1) hl⟩
      by_cases h98 : c = 98
      · exact item_b b p k st op sts opn w hp hk h16 ho16 hop hbd h h37 c h98 hc
      by_cases h102 : c = 102
      · cases hi : itemF p.data.toList k sts opn with
        | ok r => rw [← hi]; exact item_f b p k st op sts opn w hp hk h16 ho16 hop hbd h h37 c h102 hc r hi
        | error e => rw [← hi]; exact item_fe b p k st op sts opn w hp hk h16 ho16 hop hbd h h37 c h102 hc e hi
      by_cases hd : 49 ≤ c.toNat ∧ c.toNat ≤ 57
      · exact item_d b p k st op sts opn w hp hk h16 ho16 hop hbd h h37 c hd.1 hd.2 hc
      by_cases hlo : c.toNat < 49
      · cases hi : itemF p.data.toList k sts opn with
        | ok r => rw [← hi]; exact item_s3l_ok b p k st op sts opn w hp hk h16 ho16 hop hbd h h40 h41 h37 c h98 h102 hd hc hlo r hi
        | error e => rw [← hi]; exact item_s3l_er b p k st op sts opn w hp hk h16 ho16 hop hbd h h40 h41 h37 c h98 h102 hd hc hlo e hi
      · cases hi : itemF p.data.toList k sts opn with
        | ok r => rw [← hi]; exact item_s3h_ok b p k st op sts opn w hp hk h16 ho16 hop hbd h h40 h41 h37 c h98 h102 hd hc (by omega) r hi
        | error e => rw [← hi]; exact item_s3h_er b p k st op sts opn w hp hk h16 ho16 hop hbd h h40 h41 h37 c h98 h102 hd hc (by omega) e hi
    · cases hi : itemF p.data.toList k sts opn with
      | ok r => rw [← hi]; exact item_s2_ok b p k st op sts opn w hp hk h16 ho16 hop hbd h h40 h41 h37 hl r hi
      | error e => rw [← hi]; exact item_s2_er b p k st op sts opn w hp hk h16 ho16 hop hbd h h40 h41 h37 hl e hi
  · cases hi : itemF p.data.toList k sts opn with
    | ok r => rw [← hi]; exact item_s1_ok b p k st op sts opn w hp hk h16 ho16 hop hbd h h40 h41 h37 r hi
    | error e => rw [← hi]; exact item_s1_er b p k st op sts opn w hp hk h16 ho16 hop hbd h h40 h41 h37 e hi
end Go.Proofs.YtkbcaklleiapdaaDoor
