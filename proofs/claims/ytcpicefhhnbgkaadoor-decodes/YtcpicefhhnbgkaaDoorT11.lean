import Derived.Test.YtcpicefhhnbgkaaDoorT10
namespace Go.Proofs.YtcpicefhhnbgkaaDoor
open Go.RowKit Cf

theorem nameByte_eq (c : UInt8) : nameByte c = decide (97 ≤ c.toNat ∧ c.toNat ≤ 122 ∨ 65 ≤ c.toNat ∧ c.toNat ≤ 90 ∨ 48 ≤ c.toNat ∧ c.toNat ≤ 57) := by
  rw [Bool.eq_iff_iff]
  simp [nameByte, UInt8.le_iff_toNat_le]
  omega

set_option maxHeartbeats 400000 in
theorem nameByte_any (c : UInt8) (w : World) :
    Calls Tryd.prog 67 #[.int .u8 (c.toNat : Int)] w fun e w' => e = .returned (.bool (nameByte c)) ∧ w = w' := by
  rw [nameByte_eq]
  have hc := c.toNat_lt
  generalize c.toNat = a at hc
  go_enter Tryd.func67, Tryd.ntmps67
  go_wp2
  all_goals
    go_ret
    refine ⟨congrArg (fun x => Ending.returned (.bool x)) ?_, rfl⟩
    rw [Bool.eq_iff_iff]
    simp
    omega

theorem isName_all {s : ByteArray} (h1 : 1 ≤ s.size) (h2 : s.size ≤ 12) (h : ∀ j (hj : j < s.size), nameByte s.data[j] = true) : isName s = true := by
  simp only [isName, Bool.and_eq_true, decide_eq_true_eq, List.all_eq_true]
  refine ⟨⟨h1, h2⟩, fun c hc => ?_⟩
  obtain ⟨j, hj, rfl⟩ := List.getElem_of_mem hc
  exact h j (by simpa using hj)
theorem isName_not {s : ByteArray} (j : Nat) (hj : j < s.size) (h : nameByte s.data[j] = false) : isName s = false := by
  rw [Bool.eq_false_iff]
  intro he
  simp only [isName, Bool.and_eq_true, decide_eq_true_eq, List.all_eq_true] at he
  have := he.2 s.data[j] (by simp)
  rw [h] at this
  cases this

set_option maxHeartbeats 400000 in
theorem isName_any (s : ByteArray) (w : World) (hs : s.size ≤ 2048) :
    Calls Tryd.prog 49 #[.string s] w fun e w' => e = .returned (.bool (isName s)) ∧ w = w' := by
  by_cases h1 : 1 ≤ s.size
  · by_cases h2 : s.size ≤ 12
    · go_enter Tryd.func49, Tryd.ntmps49
      go_wp2
      go_loop [14] (fun i => ∃ k : Nat, k ≤ s.size ∧ i = .int .i64 k ∧ Hid (∀ j (hj : j < s.size), j < k → nameByte s.data[j] = true)) (fun i => s.size - (intOf i).toNat)
      case atStart => exact ⟨0, by omega, rfl, fun j hj h => by omega⟩
      case round =>
        obtain ⟨k, hk, rfl, hall⟩ := hrel
        by_cases hlt : k < s.size
        · cases hb : nameByte s.data[k]
          · have HB : Hid (nameByte s.data[k] = false) := hb
            go_wp2_with (go_at_call 67; refine (nameByte_any s.data[k] _).mono ?_; rintro e w' ⟨rfl, rfl⟩; rw [hb])
            go_ret
            exact ⟨by rw [isName_not k hlt HB.out]; rfl, rfl⟩
          · have HB : Hid (nameByte s.data[k] = true) := hb
            go_wp2_with (go_at_call 67; refine (nameByte_any s.data[k] _).mono ?_; rintro e w' ⟨rfl, rfl⟩; rw [hb])
            go_round
            case rel => exact ⟨k + 1, hlt, by go_num, fun j hj h => by by_cases e : j = k; (subst e; exact HB.out); exact hall.out j hj (by omega)⟩
            case measure => simp [intOf]; omega
        · go_wp2
          go_ret
          exact ⟨by rw [isName_all h1 h2 (fun j hj => hall.out j hj (by omega))]; rfl, rfl⟩
    · go_enter Tryd.func49, Tryd.ntmps49
      go_wp2
      go_ret
      exact ⟨by simp [isName, h2], rfl⟩
  · go_enter Tryd.func49, Tryd.ntmps49
    go_wp2
    go_ret
    exact ⟨by simp [isName, h1], rfl⟩

theorem bytes_eq {s t : ByteArray} (h : (s.toList == t.toList) = true) : s = t := by
  have h := eq_of_beq h
  rw [ByteArray.toList_eq, ByteArray.toList_eq] at h
  cases s; cases t
  simpa using h
theorem lawfulBytes : LawfulBEq ByteArray where
  eq_of_beq h := by rw [beq_toListBytes] at h; exact bytes_eq h
  rfl {a} := by rw [beq_toListBytes]; simp

set_option maxHeartbeats 400000 in
theorem index_any (w : World) (base : Nat) (pv : Value) (l : List ByteArray) (s : ByteArray) (h : Hid (w.ownsRow base 9 1 pv l.length (l.map Value.string))) (hl : l.length ≤ 255) :
    Calls Tryd.prog 71 #[pv, .string s] w fun e w' => (∃ n : Int, e = .returned (.int .i64 n) ∧ (decide (0 ≤ n) = l.contains s)) ∧ w = w' := by
  rcases own_strs h.out with ⟨rfl, rfl⟩ | ⟨g, cap, rfl, hbg, hcell⟩
  · go_enter Tryd.func71, Tryd.ntmps71
    go_wp2
    go_loop [8] (fun i => i = .int .i64 0) (fun i => 0)
    case atStart => rfl
    case round =>
      subst hrel
      go_wp2
      go_ret
      exact ⟨⟨-1, rfl, by simp⟩, rfl⟩
  · have HC : Hid (∀ j, j < l.length → w.cell? ⟨g, j, none⟩ = some (.string (l.getD j ByteArray.empty))) := hcell
    clear hcell
    go_enter Tryd.func71, Tryd.ntmps71
    go_wp2
    go_loop [8] (fun i => ∃ k : Nat, k ≤ l.length ∧ i = .int .i64 k ∧ Hid (∀ j, j < k → l.getD j ByteArray.empty ≠ s)) (fun i => l.length - (intOf i).toNat)
    case atStart => exact ⟨0, by omega, rfl, fun j h => by omega⟩
    case round =>
      obtain ⟨k, hk, rfl, hall⟩ := hrel
      by_cases hlt : k < l.length
      · have hc := HC.out k hlt
        go_wp2
        · rename_i he _
          have he' := bytes_eq he
          go_ret
          refine ⟨⟨k, rfl, ?_⟩, rfl⟩
          haveI := lawfulBytes
          have : s ∈ l := by rw [he']; exact List.getElem_mem _
          simp [this]
        · rename_i he
          refine ⟨⟨k + 1, hlt, by go_num, fun j hj => ?_⟩, by simp [intOf]; omega⟩
          by_cases e : j = k
          · subst e
            intro e
            simp [List.getD, hlt] at e
            rw [e] at he
            simp at he
          · exact hall.out j (by omega)
      · go_wp2
        go_ret
        refine ⟨⟨-1, rfl, ?_⟩, rfl⟩
        have hk' : k = l.length := by omega
        subst hk'
        haveI := lawfulBytes
        have : s ∉ l := by
          intro hc
          obtain ⟨j, hj, e⟩ := List.getElem_of_mem hc
          exact hall.out j hj (by simp [List.getD, hj, e])
        simp [this]

set_option maxHeartbeats 400000 in
theorem contains_any (w : World) (base : Nat) (pv : Value) (l : List ByteArray) (s : ByteArray) (h : Hid (w.ownsRow base 9 1 pv l.length (l.map Value.string))) (hl : l.length ≤ 255) :
    Calls Tryd.prog 59 #[pv, .string s] w fun e w' => e = .returned (.bool (l.contains s)) ∧ w = w' := by
  obtain ⟨a, k, rfl⟩ := own_slice h.out
  go_enter Tryd.func59, Tryd.ntmps59
  go_wp2_with (go_at_call 71; refine (index_any w base _ l s h hl).mono ?_; rintro e w' ⟨⟨n, rfl, hn⟩, rfl⟩)
  go_ret
  refine ⟨congrArg (fun x => Ending.returned (.bool x)) ?_, rfl⟩
  rw [Bool.eq_iff_iff] at hn ⊢
end Go.Proofs.YtcpicefhhnbgkaaDoor
