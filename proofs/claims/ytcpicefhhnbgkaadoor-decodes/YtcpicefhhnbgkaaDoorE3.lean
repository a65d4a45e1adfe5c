import Derived.Test.YtcpicefhhnbgkaaDoorE2
namespace Go.Proofs.YtcpicefhhnbgkaaDoor
open Go.RowKit Cf

theorem kind_then (f : ByteArray) : kind f = fun st => then_ (num f 1 st) (fun k st1 => if 4 < k then .error (3, st1.at_ - 1) else then_ (nameIf f (hasName k) st1) (fun n st2 => .ok (⟨k, n⟩, st2))) := by
  funext st
  unfold kind then_
  cases h : num f 1 st with
  | error er => rfl
  | ok p =>
    obtain ⟨n, st1⟩ := p
    obtain ⟨rfl, -⟩ := num_lt h
    simp only [Nat.add_sub_cancel]
    split
    · rfl
    · cases nameIf f (hasName n) { st with at_ := st.at_ + 1 } <;> rfl

theorem kind_ret (W : World) (t : Array Value) (G : Nat) (x y : Value) (T : TypeId) (ht : t.getD 2 undef = .pointer (some ⟨G, 0, none⟩)) (h : Blk W G #[x, y] T) : (results Tryd.f24 t).run Tryd.prog W = .ok (.agg #[x, y]) W := by
  have h0 := h.cell 0 x rfl
  have h1 := h.cell 1 y rfl
  rw [Array.getD_eq_getD_getElem?] at ht
  simp [results, Tryd.results24, go_sem, ht, h0, h1]

set_option maxHeartbeats 1000000 in
theorem ekind_any (w : World) (b : Nat) (f : ByteArray) (pv : Value) (s : Except Er St) (h : Hid (EyS w b f pv s)) :
    Calls Tryd.prog 24 #[.pointer (some ⟨b, 0, none⟩)] w (EyEnds w b f pv (bnd s (kind f)) isTy) := by
  rw [kind_then, bnd_then]
  have hbl : b < w.heap.size := h.out.lt
  have hpl : pv.ownBlock ≠ some w.heap.size := h.out.poolLt (Nat.le_refl _)
  go_enter Tryd.func24, Tryd.ntmps24
  go_wp2_with (go_at_call 20; refine EyEnds.bind (enumber_any _ b f pv s 1 (h.out.keep0 (gb_alloc _ _ _)) (by omega)) ?_)
  rintro n v w1 H1 rfl hs1 hg1
  try dsimp only
  have hG1 := (Blk.new w _ _).keep hg1 (by simp; omega)
  have hlt1 : w.heap.size < w1.heap.size := hG1.lt
  obtain ⟨w2, hw2⟩ : ∃ w2, w2 = w1.alloc (.cells #[.int .i64 n, .string ⟨#[]⟩] 41) := ⟨_, rfl⟩
  have hg2 : w1.grownBy w2 none := by rw [hw2]; exact gb_alloc _ _ _
  have hT2 : Hid (Blk w2 w1.heap.size #[.int .i64 n, .string ⟨#[]⟩] 41) := by rw [hw2]; exact Blk.new _ _ _
  have hG2 := hG1.keep hg2 (by simp)
  have hs2 : Hid (EyS w2 b f pv (stateOf (bnd s (num f 1)))) := hs1.out.keep0 hg2
  have hga : Hid (w.grownBy w2 (some b)) := gb_tn (gb_tr (gb_alloc _ _ _) hg1) hg2
  have hg01 : Hid (w.grownBy w1 (some b)) := gb_tr (gb_alloc _ _ _) hg1
  have hb1 : b < w1.heap.size := by omega
  have hq1 : ¬ w1.heap.size = w.heap.size := by omega
  have hq2 : ¬ w.heap.size = w1.heap.size := by omega
  have hpl1 : pv.ownBlock ≠ some w1.heap.size := hs1.out.poolLt (Nat.le_refl _)
  have g0 := hG1.cell 0 (.int .i64 0) rfl
  have g1 := hG1.cell 1 (.string ⟨#[]⟩) rfl
  have z0 := hG1.frozen 0
  have z1 := hG1.frozen 1
  have hGH : Hid (Blk w2 w.heap.size _ _) := hG2
  have HG1 : Hid (Blk w1 w.heap.size #[.int .i64 0, .string ⟨#[]⟩] 41) := hG1
  rcases hr : bnd s (num f 1) with er | ⟨n', st1⟩
  all_goals
    rw [hr] at H1 hs2 hs1
    have HR : Hid (bnd s (num f 1) = _) := hr
    clear hr hG1 hG2 hg2
  · obtain ⟨c4, ne4⟩ := hs1.out.err
    obtain ⟨a, c1, ha⟩ := hs1.out.errAt
    subst hw2
    go_wp2_with (go_at_call 21; refine (failErr_any _ b f pv er _ _ hs2).mono ?_; rintro e w4 ⟨rfl, rfl⟩)
    all_goals
      refine bodyPost_ret (v := .agg #[.int .i64 n, .string ⟨#[]⟩]) (kind_ret _ _ w.heap.size (.int .i64 n) (.string ⟨#[]⟩) _ rfl (((HG1.out.set 0 _).set 1 _).keep (gb_alloc _ _ none) (by simp))) rfl ?_
      exact .err (er := er) ⟨n, ⟨#[]⟩⟩ (by rw [HR.out]; rfl) (gb_tr (gb_new2 hg01.out (Nat.le_refl _)) (gb_alloc _ _ _)) rfl (((hs1.out.keep (gb_set _ ⟨w.heap.size, 0, none⟩ _) (by simp; omega) (.inr hpl)).keep (gb_set _ ⟨w.heap.size, 1, none⟩ _) (by simp; omega) (.inr hpl)).keep0 (gb_alloc _ _ _))
  · have hn : n' = n := H1.out n' st1 rfl
    subst hn
    have HC := bnd_num_ok HR.out
    have hn256 := HC.1
    obtain ⟨hI, hE⟩ := hs1.out
    have HI : Hid (Cf.Inv f st1) := hI
    obtain ⟨-, c1, -, -, c4, -, -, -, -, -, -⟩ := hE.cells0
    clear hE hI H1
    have HW : Hid (wrap64 ((st1.at_ : Int) - 1) = ((st1.at_ - 1 : Nat) : Int)) := by
      have := HC.2
      have := HI.out.at_
      have := HI.out.fits
      unfold Hid wrap64
      omega
    subst hw2
    by_cases h4 : 4 < n'
    · go_wp2_with fail
      rw [HW.out]
      refine (fail_any _ b f _ _ 3 (st1.at_ - 1) hs2 (by omega)).mono ?_
      rintro e w4 ⟨rfl, hg4, hs4⟩
      obtain ⟨c4', ne4'⟩ := (show EyS w4 b f pv (.error (3, st1.at_ - 1)) from hs4).err
      have hG4 := hGH.out.keep hg4 (by simp; omega)
      have hT4 := hT2.out.keep hg4 (by simp; omega)
      have g0 := hG4.cell 0 (.int .i64 0) rfl
      have g1 := hG4.cell 1 (.string ⟨#[]⟩) rfl
      have z0 := hG4.frozen 0
      have z1 := hG4.frozen 1
      have t0 := hT4.cell 0 (.int .i64 n') rfl
      have t1 := hT4.cell 1 (.string ⟨#[]⟩) rfl
      have hg5 := gb_tr hga.out hg4
      clear hG4 hT4 hg4
      go_wp2_with fail
      refine bodyPost_ret (v := .agg #[.int .i64 n', .string ⟨#[]⟩]) (by simp [results, Tryd.results24, go_sem, g0, g1]) rfl ?_
      exact .err (er := (3, st1.at_ - 1)) ⟨n', ⟨#[]⟩⟩ (by rw [HR.out]; simp [then_, h4]) (gb_new2 hg5 (Nat.le_refl _)) rfl ((hs4.keep (gb_set _ ⟨w.heap.size, 0, none⟩ _) (by simp; omega) (.inr hpl)).keep (gb_set _ ⟨w.heap.size, 1, none⟩ _) (by simp; omega) (.inr hpl))
    · by_cases hh : n' = 2 ∨ n' = 4
      · have HN : Hid (hasName n' = true) := by unfold Hid hasName; simp; omega
        rcases hh with rfl | rfl
        all_goals
          go_wp2_with (go_at_call 23; refine EyEnds.bind (ename_any _ b f pv _ hs2) ?_)
          rintro nm v w4 H4 rfl hs4 hg4
          try dsimp only
          have hG4 := hGH.out.keep hg4 (by simp; omega)
          have hT4 := hT2.out.keep hg4 (by simp; omega)
          have g0 := hG4.cell 0 (.int .i64 0) rfl
          have g1 := hG4.cell 1 (.string ⟨#[]⟩) rfl
          have z0 := hG4.frozen 0
          have z1 := hG4.frozen 1
          have t0 := hT4.cell 0 _ rfl
          have t1 := hT4.cell 1 (.string ⟨#[]⟩) rfl
          have y1 := hT4.frozen 1
          have hg5 : Hid (w.grownBy w4 (some b)) := gb_tr hga.out hg4
          have hne : ¬ w1.heap.size = w.heap.size := by omega
          have hne' : ¬ w.heap.size = w1.heap.size := by omega
          clear hG4 hT4 hg4
          go_wp2_with fail
          refine bodyPost_ret (v := .agg #[.int .i64 _, .string nm]) (by simp [results, Tryd.results24, go_sem, g0, g1]; rfl) rfl ?_
          have hb4 : b ≠ w1.heap.size := by omega
          have hfr : ∀ x y z, Hid (EyS ((((w4.setCell ⟨w1.heap.size, 1, none⟩ z).setCell ⟨w.heap.size, 0, none⟩ x).setCell ⟨w.heap.size, 1, none⟩ y)) b f pv (stateOf (name f st1))) := fun x y z =>
            ((hs4.out.keep (gb_set _ ⟨w1.heap.size, 1, none⟩ _) (by simp; omega) (.inr hpl1)).keep (gb_set _ ⟨w.heap.size, 0, none⟩ _) (by simp; omega) (.inr hpl)).keep (gb_set _ ⟨w.heap.size, 1, none⟩ _) (by simp; omega) (.inr hpl)
          have hgf : ∀ x y z, w.grownBy (((w4.setCell ⟨w1.heap.size, 1, none⟩ z).setCell ⟨w.heap.size, 0, none⟩ x).setCell ⟨w.heap.size, 1, none⟩ y) (some b) := fun x y z => gb_new2 (gb_newSet hg5.out (by omega) 1 z) (Nat.le_refl _)
          rcases hr2 : name f st1 with er | ⟨nm', st2⟩
          · have hfr2 := fun x y z => (hfr x y z).out
            rw [hr2] at hfr2
            exact .err (er := er) ⟨_, nm⟩ (by rw [HR.out]; simp [then_, nameIf, HN.out, hr2]) (hgf _ _ _) rfl (hfr2 _ _ _)
          · have hfr2 := fun x y z => (hfr x y z).out
            rw [hr2] at hfr2
            have hnm : nm' = nm := H4.out nm' st2 hr2
            subst hnm
            exact .ok ⟨_, nm'⟩ (st := st2) (by rw [HR.out]; simp [then_, nameIf, HN.out, hr2]) (hgf _ _ _) rfl (hfr2 _ _ _)
      · have HN : Hid (hasName n' = false) := by unfold Hid hasName; simp; omega
        have k2 : ((n' : Int) == 2) = false := by simp; omega
        have k4 : ((n' : Int) == 4) = false := by simp; omega
        go_wp2_with fail
        refine bodyPost_ret (v := .agg #[.int .i64 n', .string ⟨#[]⟩]) (kind_ret _ _ w.heap.size (.int .i64 n') (.string ⟨#[]⟩) _ rfl (((HG1.out.set 0 _).set 1 _).keep (gb_alloc _ _ none) (by simp))) rfl ?_
        exact .ok ⟨n', ⟨#[]⟩⟩ (st := st1) (by rw [HR.out]; simp [then_, h4, nameIf, HN.out]; rfl) (gb_tr (gb_new2 hg01.out (Nat.le_refl _)) (gb_alloc _ _ _)) rfl (((hs1.out.keep (gb_set _ ⟨w.heap.size, 0, none⟩ _) (by simp; omega) (.inr hpl)).keep (gb_set _ ⟨w.heap.size, 1, none⟩ _) (by simp; omega) (.inr hpl)).keep0 (gb_alloc _ _ _))
end Go.Proofs.YtcpicefhhnbgkaaDoor
