import Derived.Test.YtcpicefhhnbgkaaDoorT2
namespace Go.Proofs.YtcpicefhhnbgkaaDoor
open Go.RowKit Cf

theorem Rd.cells {w : World} {b : Nat} {f : ByteArray} {pv : Value} {st : St} (h : Rd w b f pv st) : Inv f st ∧ w.ownsRow (b + 1) 9 1 pv st.pool.length (st.pool.map Value.string) ∧
    w.cell? ⟨b, 0, none⟩ = some (.string f) ∧ w.cell? ⟨b, 1, none⟩ = some (.int .i64 st.at_) ∧ w.cell? ⟨b, 2, none⟩ = some pv ∧ w.cell? ⟨b, 3, none⟩ = some (.int .i64 st.used) ∧
    w.frozen? ⟨b, 1, none⟩ = false ∧ w.frozen? ⟨b, 2, none⟩ = false ∧ w.frozen? ⟨b, 3, none⟩ = false :=
  ⟨h.inv, h.own, h.blk.cell 0 _ rfl, h.blk.cell 1 _ rfl, h.blk.cell 2 _ rfl, h.blk.cell 3 _ rfl, h.blk.frozen 1, h.blk.frozen 2, h.blk.frozen 3⟩

/-- a slice of strings of one's own: nothing, or a row -/
theorem own_strs {w : World} {base : Nat} {v : Value} {l : List ByteArray} (h : w.ownsRow base 9 1 v l.length (l.map Value.string)) :
    (v = .slice none 0 0 ∧ l = []) ∨ ∃ g cap, v = .slice (some ⟨g, 0, none⟩) l.length cap ∧ base ≤ g ∧ ∀ j, j < l.length → w.cell? ⟨g, j, none⟩ = some (.string (l.getD j ByteArray.empty)) := by
  rcases h.2 with ⟨rfl, hn⟩ | ⟨g, cap, cur, rfl, hg, hh, _, _, _, ht⟩
  · exact .inl ⟨rfl, List.eq_nil_of_length_eq_zero hn⟩
  · refine .inr ⟨g, cap, rfl, hg, fun j hj => ?_⟩
    have := h.cells (g := g) rfl j (.string (l.getD j ByteArray.empty)) (by simp [List.getD, hj])
    unfold Addr.add at this
    split at this
    · rename_i h0; subst h0; exact this
    · simpa using this

theorem name_end {w w1 : World} {b : Nat} {f : ByteArray} {pv : Value} {st : St} {n : Nat} (hg : w.grownBy w1 (some b)) (hR : Rd w1 b f pv { st with at_ := st.at_ + 1 })
    (hn : num f 1 st = .ok (n, { st with at_ := st.at_ + 1 })) (hu : n ≤ st.used) (hp : n < st.pool.length) {m : Int} (hm : m = (max st.used (n + 1) : Nat)) {v : Value} (hv : v = .string (st.pool[n])) :
    Ends w b f pv (name f st) isStr (.returned v) (w1.setCell ⟨b, 3, none⟩ (.int .i64 m)) := by
  subst hm
  have := hR.cells.1.used
  refine .ok (a := st.pool[n]) (st := { st with at_ := st.at_ + 1, used := max st.used (n + 1) }) ?_ (gb_tr hg (gb_set _ ⟨b, 3, none⟩ _)) hv (hR.setUsed _ ?_)
  · rw [name, hn]; simp [hu, hp]
  · simp at this ⊢; omega

set_option maxHeartbeats 400000 in
theorem name_any (w : World) (b : Nat) (f : ByteArray) (pv : Value) (st : St) (h : Hid (Rd w b f pv st)) :
    Calls Tryd.prog 44 #[.pointer (some ⟨b, 0, none⟩)] w (Ends w b f pv (name f st) isStr) := by
  obtain ⟨-, -, -, c1, -, -, -, -, -⟩ := h.out.cells
  go_enter Tryd.func44, Tryd.ntmps44
  go_wp2_with (go_at_call 42; refine (number_any w b f pv st 1 h (by omega)).mono ?_)
  intro e w1 he
  rcases he.cases with ⟨n, st1, v, hr, rfl, rfl, hR, hg⟩ | ⟨er, hr, rfl, hg⟩
  · clear he c1
    have HH : Hid (num f 1 st = .ok (n, st1)) := hr
    have hst : st1 = { st with at_ := st.at_ + 1 } ∧ n < 256 := by
      rw [num] at hr
      split at hr
      · cases hr
        refine ⟨rfl, ?_⟩
        have := beL_lt ((f.data.toList.drop st.at_).take 1)
        have h2 : ((f.data.toList.drop st.at_).take 1).length ≤ 1 := by simp; omega
        have : 256 ^ ((f.data.toList.drop st.at_).take 1).length ≤ 256 ^ 1 := Nat.pow_le_pow_right (by omega) h2
        omega
      · cases hr
    clear hr
    obtain ⟨rfl, hn⟩ := hst
    obtain ⟨⟨h1, h2, h3, h4⟩, ho, c0, c1, c2, c3, f1, f2, f3⟩ := hR.out.cells
    simp only at c1 c2 c3 h2 h3 h4 ho
    have hRp := hR
    rcases own_strs ho with ⟨rfl, hnil⟩ | ⟨g, cap, rfl, hbg, hcell⟩
    · clear ho
      have HN : Hid (st.pool = []) := hnil
      clear hnil
      by_cases hu : n ≤ st.used
      all_goals
        go_wp2
        refine ⟨rfl, .err (er := (5, st.at_)) ?_ rfl rfl hg⟩
        rw [name, HH.out]
        simp [HN.out]
    · clear ho
      by_cases hu : n ≤ st.used
      · by_cases hp : n < st.pool.length
        · have hc := hcell n hp
          clear hcell
          go_wp2
          all_goals
            go_ret
            exact name_end hg hR.out HH.out hu hp (by omega) rfl
        · go_wp2
          refine ⟨rfl, .err (er := (5, st.at_)) ?_ rfl rfl hg⟩
          rw [name, HH.out]
          simp [hp]
      · go_wp2
        refine ⟨rfl, .err (er := (5, st.at_)) ?_ rfl rfl hg⟩
        rw [name, HH.out]
        simp [hu]
  · go_wp2
    refine ⟨rfl, .err (er := er) ?_ rfl rfl hg⟩
    rw [name, hr]
end Go.Proofs.YtcpicefhhnbgkaaDoor
