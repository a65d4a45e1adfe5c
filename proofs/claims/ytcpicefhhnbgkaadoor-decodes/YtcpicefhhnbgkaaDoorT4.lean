import Derived.Test.YtcpicefhhnbgkaaDoorT3
namespace Go.Proofs.YtcpicefhhnbgkaaDoor
open Go.RowKit Cf

def isTy (_ : World) (v : Value) (t : Ty) : Prop := v = .agg #[.int .i64 t.kind, .string t.name]
def isFld (_ : World) (v : Value) (t : Fld) : Prop := v = .agg #[.string t.name, .int .i64 t.ty.kind, .string t.ty.name]
def isIn (_ : World) (v : Value) (t : In) : Prop := v = .agg #[.int .i64 t.op, .int .i64 t.a, .string t.cls, .string t.mem]
def isHd (_ : World) (v : Value) (t : Hd) : Prop := v = .agg #[.int .i64 t.from_, .int .i64 t.to, .int .i64 t.at_, .string t.cls]

set_option maxHeartbeats 400000 in
theorem hasName_any (k : Nat) (w : World) :
    Calls Tryd.prog 70 #[.int .i64 k] w fun e w' => e = .returned (.bool (hasName k)) ∧ w' = w := by
  go_enter Tryd.func70, Tryd.ntmps70
  go_wp2
  all_goals
    go_ret
    refine ⟨?_, rfl⟩
    refine congrArg (fun x => Ending.returned (.bool x)) ?_
    simp only [hasName]
    rw [Bool.eq_iff_iff]
    simp
    omega

set_option maxHeartbeats 400000 in
theorem nameIf_any (w : World) (b : Nat) (f : ByteArray) (pv : Value) (st : St) (c : Bool) (h : Hid (Rd w b f pv st)) :
    Calls Tryd.prog 73 #[.pointer (some ⟨b, 0, none⟩), .bool c] w (Ends w b f pv (nameIf f c st) isStr) := by
  cases c
  · go_enter Tryd.func73, Tryd.ntmps73
    go_wp2
    go_ret
    exact .ok (a := ByteArray.empty) (by rw [nameIf]; rfl) (gb_refl _ _) rfl h.out
  · go_enter Tryd.func73, Tryd.ntmps73
    go_wp2_with (go_at_call 44; refine (name_any w b f pv st h).mono ?_)
    intro e w1 he
    rcases he.cases with ⟨n, st1, v, hr, rfl, rfl, hR, hg⟩ | ⟨er, hr, rfl, hg⟩
    · go_wp2
      go_ret
      exact .ok (by rw [nameIf]; exact hr) hg rfl hR.out
    · go_wp2
      exact ⟨rfl, .err (er := er) (by rw [nameIf]; exact hr) rfl rfl hg⟩

theorem num_lt {f : ByteArray} {k : Nat} {st st1 : St} {n : Nat} (h : num f k st = .ok (n, st1)) : st1 = { st with at_ := st.at_ + k } ∧ n < 256 ^ k := by
  rw [num] at h
  split at h
  · cases h
    refine ⟨rfl, ?_⟩
    have := beL_lt ((f.data.toList.drop st.at_).take k)
    have h2 : ((f.data.toList.drop st.at_).take k).length ≤ k := by simp; omega
    have : 256 ^ ((f.data.toList.drop st.at_).take k).length ≤ 256 ^ k := Nat.pow_le_pow_right (by omega) h2
    omega
  · cases h

set_option maxHeartbeats 400000 in
theorem kind_any (w : World) (b : Nat) (f : ByteArray) (pv : Value) (st : St) (h : Hid (Rd w b f pv st)) :
    Calls Tryd.prog 61 #[.pointer (some ⟨b, 0, none⟩)] w (Ends w b f pv (kind f st) isTy) := by
  obtain ⟨-, -, -, c1, -, -, -, -, -⟩ := h.out.cells
  have hbl : b < w.heap.size := h.out.lt
  go_enter Tryd.func61, Tryd.ntmps61
  go_wp2_with (go_at_call 42; refine (number_any _ b f pv st 1 (h.out.keep (gb_alloc _ _ _)) (by omega)).mono ?_)
  intro e w1 he
  rcases he.cases with ⟨n, st1, v, hr, rfl, rfl, hR, hg⟩ | ⟨er, hr, rfl, hg⟩
  · have hq := num_lt hr
    have HH : Hid (num f 1 st = .ok (n, st1)) := hr
    clear hr he c1
    obtain ⟨rfl, hn⟩ := hq
    by_cases h4 : 4 < n
    · go_wp2
      refine ⟨rfl, .err (er := (3, st.at_)) ?_ rfl rfl (gb_tr (gb_alloc _ _ _) hg)⟩
      rw [kind, HH.out]
      simp [h4]
    · go_wp2_with (first | (go_at_call 70; refine (hasName_any n _).mono ?_; rintro e w' ⟨rfl, rfl⟩) | (go_at_call 73; refine (nameIf_any _ b f pv _ _ hR).mono ?_))
      intro e w2 he
      rcases he.cases with ⟨s, st2, v, hr, rfl, rfl, hR2, hg2⟩ | ⟨er, hr, rfl, hg2⟩
      · have HH2 : Hid (nameIf f (hasName n) { at_ := st.at_ + 1, used := st.used, pool := st.pool } = .ok (s, st2)) := hr
        clear hr he
        have hB : Blk w2 w.heap.size _ _ := ((Blk.new w _ _).keep hg (by simp; omega)).keep hg2 (by simp; omega)
        have d0 := hB.cell 0 _ rfl
        have d1 := hB.cell 1 _ rfl
        have e0 := hB.frozen 0
        have e1 := hB.frozen 1
        clear hB
        go_wp2
        refine bodyPost_ret (v := .agg #[.int .i64 n, .string s]) (by simp [results, Tryd.results61, go_sem, d0, d1]) rfl ?_
        refine .ok (a := ⟨n, s⟩) (st := st2) ?_ ?_ rfl ?_
        · rw [kind, HH.out]
          simp only [h4, if_false, HH2.out]
        · exact gb_new2 (gb_tr (gb_tr (gb_alloc _ _ _) hg) hg2) (Nat.le_refl _)
        · exact hR2.out.new2 (by omega) (h.out.poolLt (Nat.le_refl _))
      · go_wp2
        refine ⟨rfl, .err (er := er) ?_ rfl rfl (gb_tr (gb_tr (gb_alloc _ _ _) hg) hg2)⟩
        rw [kind, HH.out]
        simp only [h4, if_false, hr]
  · go_wp2
    refine ⟨rfl, .err (er := er) ?_ rfl rfl (gb_tr (gb_alloc _ _ _) hg)⟩
    rw [kind, hr]
end Go.Proofs.YtcpicefhhnbgkaaDoor
