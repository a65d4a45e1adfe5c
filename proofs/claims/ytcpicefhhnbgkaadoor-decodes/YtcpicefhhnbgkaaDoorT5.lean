import Derived.Test.YtcpicefhhnbgkaaDoorT4
namespace Go.Proofs.YtcpicefhhnbgkaaDoor
open Go.RowKit Cf

set_option maxHeartbeats 400000 in
theorem field_any (w : World) (b : Nat) (f : ByteArray) (pv : Value) (st : St) (h : Hid (Rd w b f pv st)) :
    Calls Tryd.prog 46 #[.pointer (some ⟨b, 0, none⟩)] w (Ends w b f pv (field f st) isFld) := by
  have hbl : b < w.heap.size := h.out.lt
  go_enter Tryd.func46, Tryd.ntmps46
  go_wp2_with (go_at_call 44; refine (name_any _ b f pv st (h.out.keep (gb_alloc _ _ _))).mono ?_)
  intro e w1 he
  rcases he.cases with ⟨n, st1, v, hr, rfl, rfl, hR, hg⟩ | ⟨er, hr, rfl, hg⟩
  · have HH : Hid (name f st = .ok (n, st1)) := hr
    clear hr he
    go_wp2_with (go_at_call 61; refine (kind_any _ b f pv st1 hR).mono ?_)
    intro e w2 he
    rcases he.cases with ⟨t, st2, v, hr, rfl, rfl, hR2, hg2⟩ | ⟨er, hr, rfl, hg2⟩
    · have HH2 : Hid (kind f st1 = .ok (t, st2)) := hr
      clear hr he
      have hB : Blk w2 w.heap.size _ _ := ((Blk.new w _ _).keep hg (by simp; omega)).keep hg2 (by simp; omega)
      have d0 := hB.cell 0 _ rfl
      have d1 := hB.cell 1 _ rfl
      have d2 := hB.cell 2 _ rfl
      have e0 := hB.frozen 0
      have e1 := hB.frozen 1
      have e2 := hB.frozen 2
      clear hB
      go_wp2
      refine bodyPost_ret (v := .agg #[.string n, .int .i64 t.kind, .string t.name]) (by simp [results, Tryd.results46, go_sem, d0, d1, d2]) rfl ?_
      refine .ok (a := ⟨n, t⟩) (st := st2) ?_ ?_ rfl ?_
      · rw [field, HH.out]
        simp only [HH2.out]
      · exact gb_new3 (gb_tr (gb_tr (gb_alloc _ _ _) hg) hg2) (Nat.le_refl _)
      · exact hR2.out.new3 (by omega) (h.out.poolLt (Nat.le_refl _))
    · go_wp2
      refine ⟨rfl, .err (er := er) ?_ rfl rfl (gb_tr (gb_tr (gb_alloc _ _ _) hg) hg2)⟩
      rw [field, HH.out]
      simp only [hr]
  · go_wp2
    refine ⟨rfl, .err (er := er) ?_ rfl rfl (gb_tr (gb_alloc _ _ _) hg)⟩
    rw [field, hr]

set_option maxHeartbeats 400000 in
theorem handler_any (w : World) (b : Nat) (f : ByteArray) (pv : Value) (st : St) (h : Hid (Rd w b f pv st)) :
    Calls Tryd.prog 66 #[.pointer (some ⟨b, 0, none⟩)] w (Ends w b f pv (handler f st) isHd) := by
  have hbl : b < w.heap.size := h.out.lt
  go_enter Tryd.func66, Tryd.ntmps66
  go_wp2_with (go_at_call 42; refine (number_any _ b f pv st 2 (h.out.keep (gb_alloc _ _ _)) (by omega)).mono ?_)
  intro e w1 he
  rcases he.cases with ⟨n1, st1, v, hr, rfl, rfl, hR, hg⟩ | ⟨er, hr, rfl, hg⟩
  · have HH : Hid (num f 2 st = .ok (n1, st1)) := hr
    clear hr he
    go_wp2_with (go_at_call 42; refine (number_any w1 b f pv st1 2 hR (by omega)).mono ?_)
    intro e w2 he
    rcases he.cases with ⟨n2, st2, v, hr, rfl, rfl, hR2, hg2⟩ | ⟨er, hr, rfl, hg2⟩
    · have HH2 : Hid (num f 2 st1 = .ok (n2, st2)) := hr
      clear hr he
      go_wp2_with (go_at_call 42; refine (number_any w2 b f pv st2 2 hR2 (by omega)).mono ?_)
      intro e w3 he
      rcases he.cases with ⟨n3, st3, v, hr, rfl, rfl, hR3, hg3⟩ | ⟨er, hr, rfl, hg3⟩
      · have HH3 : Hid (num f 2 st2 = .ok (n3, st3)) := hr
        clear hr he
        go_wp2_with (go_at_call 44; refine (name_any w3 b f pv st3 hR3).mono ?_)
        intro e w4 he
        rcases he.cases with ⟨n4, st4, v, hr, rfl, rfl, hR4, hg4⟩ | ⟨er, hr, rfl, hg4⟩
        · have HH4 : Hid (name f st3 = .ok (n4, st4)) := hr
          clear hr he
          have hB : Blk w4 w.heap.size _ _ := ((((Blk.new w _ _).keep hg (by simp; omega)).keep hg2 (by simp; omega)).keep hg3 (by simp; omega)).keep hg4 (by simp; omega)
          have d0 := hB.cell 0 _ rfl
          have d1 := hB.cell 1 _ rfl
          have d2 := hB.cell 2 _ rfl
          have d3 := hB.cell 3 _ rfl
          have e0 := hB.frozen 0
          have e1 := hB.frozen 1
          have e2 := hB.frozen 2
          have e3 := hB.frozen 3
          clear hB
          go_wp2
          refine bodyPost_ret (v := .agg #[.int .i64 n1, .int .i64 n2, .int .i64 n3, .string n4]) (by simp [results, Tryd.results66, go_sem, d0, d1, d2, d3]) rfl ?_
          refine .ok (a := ⟨n1, n2, n3, n4⟩) (st := st4) ?_ ?_ rfl ?_
          · rw [handler, HH.out]
            simp only [HH2.out, HH3.out, HH4.out]
          · exact gb_new4 (gb_tr (gb_tr (gb_tr (gb_tr (gb_alloc _ _ _) hg) hg2) hg3) hg4) (Nat.le_refl _)
          · exact hR4.out.new4 (by omega) (h.out.poolLt (Nat.le_refl _))
        · go_wp2
          refine ⟨rfl, .err (er := er) ?_ rfl rfl (gb_tr (gb_tr (gb_tr (gb_tr (gb_alloc _ _ _) hg) hg2) hg3) hg4)⟩
          rw [handler, HH.out]
          simp only [HH2.out, HH3.out, hr]
      · go_wp2
        refine ⟨rfl, .err (er := er) ?_ rfl rfl (gb_tr (gb_tr (gb_tr (gb_alloc _ _ _) hg) hg2) hg3)⟩
        rw [handler, HH.out]
        simp only [HH2.out, hr]
    · go_wp2
      refine ⟨rfl, .err (er := er) ?_ rfl rfl (gb_tr (gb_tr (gb_alloc _ _ _) hg) hg2)⟩
      rw [handler, HH.out]
      simp only [hr]
  · go_wp2
    refine ⟨rfl, .err (er := er) ?_ rfl rfl (gb_tr (gb_alloc _ _ _) hg)⟩
    rw [handler, hr]
end Go.Proofs.YtcpicefhhnbgkaaDoor
