import Derived.Test.YtcpicefhhnbgkaaDoorT1
import Derived.Test.YtcpicefhhnbgkaaDoorNums
namespace Go.Proofs.YtcpicefhhnbgkaaDoor
open Go.RowKit Cf

set_option maxHeartbeats 400000 in
theorem number_any (w : World) (b : Nat) (f : ByteArray) (pv : Value) (st : St) (n : Nat) (h : Hid (Rd w b f pv st)) (hn : n ≤ 4) :
    Calls Tryd.prog 42 #[.pointer (some ⟨b, 0, none⟩), .int .i64 n] w (Ends w b f pv (num f n st) isInt) := by
  go_enter Tryd.func42, Tryd.ntmps42
  go_wp2_with (go_at_call 58; refine (take_any w b f pv st n h (by omega)).mono ?_)
  intro e w1 he
  rcases he.cases with ⟨s, st1, v, hr, rfl, rfl, hR, hg⟩ | ⟨er, hr, rfl, hg⟩
  · clear he
    have HH : Hid (takeM f n st = .ok (s, st1)) := hr
    clear hr
    have hss : s.size ≤ 4 := by
      have hr := HH.out
      rw [takeM] at hr
      split at hr
      · cases hr
        simp; omega
      · cases hr
    have hcv := fun wx => run_bytes_of_string (P := Tryd.prog) wx 9 61 5 s Tryd.underlying9 Tryd.underlying61 Tryd.underlying5
    go_wp2
    obtain ⟨W, hW⟩ : ∃ W, W = (w1.alloc (Obj.cells (bytesRow s (grownCap w1 s.size 0 5)) 5 ((bytesRow s (grownCap w1 s.size 0 5)).size, (bytesRow s (grownCap w1 s.size 0 5)).size + 1))).drew := ⟨_, rfl⟩
    rw [← hW]
    have hcell : ∀ j (hj : j < s.size), W.cell? ⟨w1.heap.size, j, none⟩ = some (.int .u8 (s.data[j].toNat : Int)) := by
      intro j hj; rw [hW, World.cell?_drew, World.cell?_alloc_mark, bytesRow_at s _ j hj]
    have hgW : w1.grownBy W none := by rw [hW]; exact gb_trans (gb_alloc _ _ _) (gb_drew _ none) (by simp)
    clear hW hcv
    go_loop [5, 13] (fun a i => ∃ k : Nat, k ≤ s.size ∧ i = .int .i64 k ∧ a = .int .i64 (beL (s.data.toList.take k))) (fun _ i => s.size - (intOf i).toNat)
    case atStart => exact ⟨0, Nat.zero_le _, rfl, rfl⟩
    case round =>
      obtain ⟨k, hk, rfl, rfl⟩ := hrel
      by_cases hlt : k < s.size
      · have hck := hcell k hlt
        clear hcell
        go_wp2
        have hb := beL_lt (s.data.toList.take k)
        have hl : (s.data.toList.take k).length = k := by simp; omega
        have hcc := s.data[k].toNat_lt
        rw [hl] at hb
        have hp : 256 ^ k ≤ 256 ^ 4 := Nat.pow_le_pow_right (by omega) (by omega)
        refine ⟨⟨k + 1, hlt, by go_num, ?_⟩, by simp [intOf]; omega⟩
        rw [take_succ_at s k hlt, beL_snoc, or_bytes _ _ (by omega) hcc]
      · go_wp2
        go_ret
        have hk' : k = s.size := by omega
        subst hk'
        have hr := HH.out
        rw [takeM] at hr
        split at hr
        · rename_i hc
          cases hr
          refine .ok (a := beL (f.data.toList.drop st.at_ |>.take n)) ?_ (gb_tn hg hgW) ?_ (hR.out.keep hgW)
          · rw [num, if_pos hc]
          · show Value.int .i64 (beL (List.take _ (f.extract st.at_ (st.at_ + n)).data.toList) : Nat) = Value.int .i64 _
            rw [ext_list, Nat.add_sub_cancel_left, List.take_take]
            have : (f.extract st.at_ (st.at_ + n)).size = n := by simp; omega
            rw [this, Nat.min_self]
        · cases hr
  · go_wp2
    refine ⟨rfl, .err (er := er) ?_ rfl rfl hg⟩
    rw [takeM] at hr
    split at hr <;> rename_i hc
    · cases hr
    · rw [num, if_neg hc]; cases hr; rfl
end Go.Proofs.YtcpicefhhnbgkaaDoor
