import Derived.Test.YtcpicefhhnbgkaaDoorE7
namespace Go.Proofs.YtcpicefhhnbgkaaDoor
open Go.RowKit Cf

theorem name_yes {s : ByteArray} {k : Nat} (hk : k < s.size) {a : Nat} (ha : (s[k]'hk).toNat = a) (h : 97 ≤ a ∧ a ≤ 122 ∨ 65 ≤ a ∧ a ≤ 90 ∨ 48 ≤ a ∧ a ≤ 57) : nameByte s.data[k] = true := by
  rw [nameByte_eq, decide_eq_true_eq]
  have e : s.data[k].toNat = a := ha
  rw [e]
  exact h
theorem name_no {s : ByteArray} {k : Nat} (hk : k < s.size) {a : Nat} (ha : (s[k]'hk).toNat = a) (h : ¬ (97 ≤ a ∧ a ≤ 122 ∨ 65 ≤ a ∧ a ≤ 90 ∨ 48 ≤ a ∧ a ≤ 57)) : nameByte s.data[k] = false := by
  rw [nameByte_eq, decide_eq_false_iff_not]
  have e : s.data[k].toNat = a := ha
  rw [e]
  exact h

set_option maxHeartbeats 400000 in
theorem eisName_any (s : ByteArray) (w : World) (hs : s.size ≤ 2048) :
    Calls Tryd.prog 28 #[.string s] w fun e w' => e = .returned (.bool (isName s)) ∧ w = w' := by
  go_enter Tryd.func28, Tryd.ntmps28
  go_wp2_with fail
  go_loop [3] (fun i => ∃ k : Nat, k ≤ s.size ∧ i = .int .i64 k ∧ Hid (∀ j (hj : j < s.size), j < k → nameByte s.data[j] = true)) (fun i => s.size - (intOf i).toNat)
  case atStart => exact ⟨0, by omega, rfl, fun j hj h => by omega⟩
  case round =>
    obtain ⟨k, hk, rfl, hall⟩ := hrel
    by_cases hlt : k < s.size
    · obtain ⟨a, ha⟩ : ∃ a, (s[k]'hlt).toNat = a := ⟨_, rfl⟩
      have HA : Hid ((s[k]'hlt).toNat = a) := ha
      have hkey : Hid ((97 ≤ a ∧ a ≤ 122 ∨ 65 ≤ a ∧ a ≤ 90 ∨ 48 ≤ a ∧ a ≤ 57) → ∀ j (hj : j < s.size), j < k + 1 → nameByte s.data[j] = true) := by
        intro h j hj hk
        by_cases e : j = k
        · subst e; exact name_yes _ HA.out h
        · exact hall.out j hj (by omega)
      have hend : Hid (s.size - (intOf (Value.int IntKind.i64 ((k : Int) + 1))).toNat < s.size - (intOf (Value.int IntKind.i64 (k : Int))).toNat) := by unfold Hid; simp [intOf]; omega
      by_cases hyes : 97 ≤ a ∧ a ≤ 122 ∨ 65 ≤ a ∧ a ≤ 90 ∨ 48 ≤ a ∧ a ≤ 57
      · have HY : Hid (97 ≤ a ∧ a ≤ 122 ∨ 65 ≤ a ∧ a ≤ 90 ∨ 48 ≤ a ∧ a ≤ 57) := hyes
        clear hyes
        go_wp2_with fail
        all_goals first
          | exact ⟨⟨k + 1, hlt, by go_num, hkey.out HY.out⟩, hend.out⟩
          | (exfalso; have := HY.out; try simp only [Bool.not_eq_true', decide_eq_false_iff_not] at *
             omega)
      · have HN : Hid (¬ (97 ≤ a ∧ a ≤ 122 ∨ 65 ≤ a ∧ a ≤ 90 ∨ 48 ≤ a ∧ a ≤ 57)) := hyes
        clear hyes
        go_wp2_with fail
        all_goals first
          | (go_ret; exact ⟨by rw [isName_not k hlt (name_no _ HA.out HN.out)]; rfl, rfl⟩)
          | (exfalso; have := HN.out; try simp only [Bool.not_eq_false', decide_eq_true_eq] at *
             omega)
    · go_wp2_with fail
      all_goals
        go_ret
        refine ⟨congrArg (fun x => Ending.returned (.bool x)) ?_, rfl⟩
        have hA : s.data.toList.all nameByte = true := by
          simp only [List.all_eq_true]
          intro c hc
          obtain ⟨j, hj, rfl⟩ := List.getElem_of_mem hc
          exact hall.out j (by simpa using hj) (by simp at hj; have : s.data.size = s.size := rfl; omega)
        simp only [isName, hA, Bool.and_true]
        by_cases q1 : 1 ≤ s.size <;> by_cases q2 : s.size ≤ 12 <;> simp [q1, q2] <;> omega
end Go.Proofs.YtcpicefhhnbgkaaDoor
