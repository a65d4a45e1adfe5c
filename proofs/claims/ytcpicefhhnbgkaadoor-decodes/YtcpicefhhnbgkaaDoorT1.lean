import Derived.Test.YtcpicefhhnbgkaaDoorRep
namespace Go.Proofs.YtcpicefhhnbgkaaDoor
open Go.RowKit Cf

def takeM (f : ByteArray) (k : Nat) (st : St) : R ByteArray :=
  if st.at_ + k ≤ f.size then .ok (f.extract st.at_ (st.at_ + k), { st with at_ := st.at_ + k }) else .error (2, f.size)

set_option maxHeartbeats 400000 in
theorem take_any (w : World) (b : Nat) (f : ByteArray) (pv : Value) (st : St) (n : Nat) (h : Rd w b f pv st) (hn : n ≤ 255) :
    Calls Tryd.prog 58 #[.pointer (some ⟨b, 0, none⟩), .int .i64 n] w (Ends w b f pv (takeM f n st) isStr) := by
  have HR : Hid (Rd w b f pv st) := h
  have c0 : w.cell? ⟨b, 0, none⟩ = some (.string f) := h.blk.cell 0 _ rfl
  have c1 : w.cell? ⟨b, 1, none⟩ = some (.int .i64 st.at_) := h.blk.cell 1 _ rfl
  have f1 : w.frozen? ⟨b, 1, none⟩ = false := h.blk.frozen 1
  obtain ⟨hfits, hat, hused, hpool⟩ := h.inv
  clear h
  by_cases hc : st.at_ + n ≤ f.size
  · go_enter Tryd.func58, Tryd.ntmps58
    go_wp2
    go_quiet (fail)
    go_wp2
    go_quiet (fail)
    go_wp2
    go_ret
    refine ⟨gb_tr (gb_drewN _ _ _) (gb_set _ ⟨b, 1, none⟩ _), ?_⟩
    rw [takeM, if_pos hc]
    exact ⟨_, rfl, rfl, (HR.out.keep (gb_drewN _ _ _)).setAt (st.at_ + n) hc⟩
  · go_enter Tryd.func58, Tryd.ntmps58
    go_wp2
    go_quiet (fail)
    go_wp2
    refine ⟨rfl, gb_drewN _ _ _, ?_⟩
    rw [takeM, if_neg hc]; rfl
end Go.Proofs.YtcpicefhhnbgkaaDoor
