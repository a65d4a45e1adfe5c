import Derived.Test.YtcpicefhhnbgkaaDoorE8
namespace Go.Proofs.YtcpicefhhnbgkaaDoor
open Go.RowKit Cf

/-- how the call ends that fills the eye's pool -/
def EPool (w : World) (b : Nat) (f : ByteArray) (r : R (List Unit)) (e : Ending) (w' : World) : Prop :=
  e = .returned (.tuple #[]) ∧ w.grownBy w' (some b) ∧ ∃ pv, EyS w' b f pv (stateOf r)
/-- the names so far -/
def NamesAt (w wr : World) (pv : Value) (k : Nat) (s : Except Er St) : Prop := ∀ st, s = .ok st → st.pool.length = k ∧ wr.ownsRow w.heap.size 9 1 pv st.pool.length (st.pool.map Value.string)

theorem take_step {l : List ByteArray} {j : Nat} (hj : j < l.length) {o0 : Bool} {nm : ByteArray} : (o0 && !(l.take (j + 1)).contains nm) = ((o0 && !(l.take j).contains nm) && !(l[j].toList == nm.toList)) := by
  haveI := lawfulBytes
  rw [List.take_succ_eq_append_getElem hj, Bool.eq_iff_iff]
  have : (l[j].toList == nm.toList) = true ↔ l[j] = nm := ⟨bytes_eq, fun e => by rw [e]; simp⟩
  simp only [Bool.and_eq_true, Bool.not_eq_true', ← Bool.not_eq_true, List.contains_iff_mem, List.mem_append, List.mem_singleton, this, eq_comm (a := nm)]
  rw [not_or, and_assoc]

/-- the names' slice turns -/
theorem Ey.setNames {w w1 w2 : World} {b base : Nat} {f : ByteArray} {pv pv' : Value} {a e p : Nat} {names l : List ByteArray} {t : Int} {row : Option Nat} (h : Ey w b f pv a names t e p) (h1 : w.grownBy w1 none) (h2 : w1.grownBy w2 row) (hr : row ≠ some b)
    (ho : w2.ownsRow base 9 1 pv' l.length (l.map Value.string)) (hb : b < base) (hl : l.length ≤ 255) : Ey (w2.setCell ⟨b, 2, none⟩ pv') b f pv' a l t e p :=
  ⟨((h.blk.keep h1 (by simp)).keep h2 (fun e => hr e.symm)).set 2 _, (own_base ho (by omega)).kept (gb_set w2 ⟨b, 2, none⟩ pv') (.inr (own_ne ho hb)), h.fits, h.at_, hl, h.lo, h.hi⟩

set_option maxRecDepth 100000 in
set_option maxHeartbeats 1000000 in
theorem epool_any (w : World) (b : Nat) (f : ByteArray) (st : St) (h : Hid (EyS w b f (.slice none 0 0) (.ok st))) (h0 : st.pool = []) :
    Calls Tryd.prog 22 #[.pointer (some ⟨b, 0, none⟩)] w (EPool w b f (list f 1 (pushName f) st)) := by
  have hbl : b < w.heap.size := h.out.lt
  have H0 : Hid (st.pool = []) := h0
  clear h0
  go_enter Tryd.func22, Tryd.ntmps22
  go_wp2_with (go_at_call 20; refine EyEnds.bind (enumber_any w b f _ (.ok st) 1 h (by omega)) ?_)
  rintro n v w1 H1 rfl hs1 hg1
  have M1 : Hid (MidE f 1 (pushName f) (.ok st) n 0 [] (stateOf (bnd (.ok st) (num f 1)))) := MidE.start H1.out
  have HG1 : Hid (w.grownBy w1 (some b)) := hg1
  have HN : Hid (NamesAt w w1 (.slice none 0 0) 0 (stateOf (bnd (.ok st) (num f 1)))) := by
    intro st1 e
    have hp : st1.pool = [] := by
      cases hr : num f 1 st with
      | error er => rw [show bnd (Except.ok st) (num f 1) = .error er from hr] at e; cases e
      | ok q =>
        obtain ⟨a, st2⟩ := q
        rw [show bnd (Except.ok st) (num f 1) = .ok (a, st2) from hr] at e
        cases e
        rw [(num_lt hr).1]
        exact H0.out
    rw [hp]
    exact ⟨rfl, World.ownsRow_nil _ _ _ _⟩
  obtain ⟨s1, hs1e⟩ : ∃ s1, s1 = stateOf (bnd (.ok st) (num f 1)) := ⟨_, rfl⟩
  rw [← hs1e] at hs1 M1 HN
  clear hs1e hg1 H1
  go_wp2_with fail
  go_loopw [3] (fun i wr => ∃ (k : Nat) (xs : List Unit) (s2 : Except Er St) (pv : Value), i = .int .i64 k ∧ k ≤ n ∧ MidE f 1 (pushName f) (.ok st) n k xs s2 ∧ EyS wr b f pv s2 ∧ NamesAt w wr pv k s2 ∧ w.grownBy wr (some b)) (fun i _ => n - (intOf i).toNat)
  case atStart => exact ⟨0, [], s1, _, rfl, Nat.zero_le _, M1.out, hs1.out, HN.out, HG1.out⟩
  case round =>
    clear hs1 M1 HN HG1
    obtain ⟨k, xs, s2, pv, rfl, hk, hmid, hey, hna, hgr⟩ := hrel
    have HM : Hid (MidE f 1 (pushName f) (.ok st) n k xs s2) := hmid
    have HE : Hid (EyS wr b f pv s2) := hey
    have HN : Hid (NamesAt w wr pv k s2) := hna
    have HG : Hid (w.grownBy wr (some b)) := hgr
    clear hmid hey hna hgr
    cases s2 with
    | error er =>
      obtain ⟨c4, ne4⟩ := HE.out.err
      go_wp2_with fail
      all_goals
        go_end0
        exact ⟨rfl, HG.out, pv, by rw [show list f 1 (pushName f) st = .error er from HM.out]; exact HE.out⟩
    | ok st2 =>
      obtain ⟨-, c1, -, -, c4, -, -, -, -, -, -⟩ := HE.out.2.cells0
      by_cases hlt : k < n
      · have hn : n < 256 := by obtain ⟨st1, h1, -⟩ := HM.out; exact (bnd_num_ok h1).1
        go_wp2_with (go_at_call 20; refine EyEnds.bind (enumber_any wr b f pv (.ok st2) 1 HE (by omega)) ?_)
        rintro m v w3 H3 rfl hs3 hg3
        try dsimp only
        have HG3 : Hid (w.grownBy w3 (some b)) := gb_tr HG.out hg3
        have HN3 : Hid (NamesAt w w3 pv k (.ok st2)) := by
          intro st' e
          obtain ⟨h1, h2⟩ := HN.out st' e
          exact ⟨h1, World.ownsRow.kept h2 hg3 (.inr (own_ne h2 hbl))⟩
        clear hg3 c1 c4 HG HN HE
        cases hr : num f 1 st2 with
        | error er =>
          have HS3 : Hid (EyS w3 b f pv (.error er)) := by
            have := hs3.out
            rw [show bnd (Except.ok st2) (num f 1) = .error er from hr] at this
            exact this
          have HME : Hid (MidE f 1 (pushName f) (.ok st) n (k + 1) (xs ++ [()]) (.error er)) := HM.out.step hlt (by
            have e : bnd (Except.ok st2) (pushName f) = .error er := push_e (by simp only [newName, hr])
            unfold Seen
            rw [e]
            exact ⟨(fun _ _ e => by cases e), rfl⟩)
          clear hr hs3 H3
          obtain ⟨c4, ne4⟩ := HS3.out.err
          obtain ⟨c1, c0⟩ : (∃ a : Nat, w3.cell? ⟨b, 1, none⟩ = some (.int .i64 a)) ∧ w3.cell? ⟨b, 0, none⟩ = some (.string f) := by
            obtain ⟨h1, a, names, t, h2⟩ := HS3.out
            exact ⟨⟨a, h2.cells.2.1⟩, h2.cells.1⟩
          obtain ⟨a1, c1⟩ := c1
          have ne5 : ((er.1 : Int) == 0) = false := by simpa using ne4
          go_wp2_with fail
          go_quiet (fail)
          have HS3' : Hid (EyS (w3.drewN nq) b f pv (.error er)) := HS3.out.keep0 (gb_drewN _ _ _)
          go_wp2_with fail
          all_goals
            go_end0
            exact ⟨rfl, gb_tr HG3.out (gb_drewN _ _ _), pv, by rw [show list f 1 (pushName f) st = .error er from HME.out]; exact HS3'.out⟩
        | ok q =>
          obtain ⟨m', st3⟩ := q
          have hm : m' = m := H3.out m' st3 hr
          subst hm
          have HR : Hid (num f 1 st2 = .ok (m', st3)) := hr
          have HS3 : Hid (EyS w3 b f pv (.ok st3)) := by
            have := hs3.out
            rw [show bnd (Except.ok st2) (num f 1) = .ok (m', st3) from hr] at this
            exact this
          have hm256 : m' < 256 := (num_lt hr).2
          have hp23 : Hid (st3.pool = st2.pool) := by unfold Hid; rw [(num_lt hr).1]
          have hat : st3.at_ ≤ f.size := HS3.out.1.at_
          have hfz : f.size ≤ 2048 := HS3.out.1.fits
          clear hr hs3 H3
          obtain ⟨c0, c1, c2, -, c4, -, f1, f2, -, -, -⟩ := HS3.out.2.cells0
          by_cases hfit : st3.at_ + m' ≤ f.size
          · go_wp2_with fail
            go_quiet (fail)
            have HS4 : Hid (EyS (w3.drewN nq) b f pv (.ok st3)) := HS3.out.keep0 (gb_drewN _ _ _)
            have HG4 : Hid (w.grownBy (w3.drewN nq) (some b)) := gb_tr HG3.out (gb_drewN _ _ _)
            have HN4 : Hid (NamesAt w (w3.drewN nq) pv k (.ok st2)) := fun st' e => ⟨(HN3.out st' e).1, World.ownsRow.kept (HN3.out st' e).2 (gb_drewN _ _ none) (by cases pv.ownBlock <;> simp)⟩
            generalize w3.drewN nq = w4 at HS4 HG4 HN4 ⊢
            clear HS3 HG3 HN3 c0 c1 c2 c4 f1 f2
            obtain ⟨c0, c1, c2, -, c4, -, f1, f2, -, -, -⟩ := HS4.out.2.cells0
            go_wp2_with fail
            go_quiet (fail)
            have HS5 : Hid (EyS (w4.drewN nq) b f pv (.ok st3)) := HS4.out.keep0 (gb_drewN _ _ _)
            have HG5 : Hid (w.grownBy (w4.drewN nq) (some b)) := gb_tr HG4.out (gb_drewN _ _ _)
            have HN5 : Hid (NamesAt w (w4.drewN nq) pv k (.ok st2)) := fun st' e => ⟨(HN4.out st' e).1, World.ownsRow.kept (HN4.out st' e).2 (gb_drewN _ _ none) (by cases pv.ownBlock <;> simp)⟩
            generalize w4.drewN nq = w5 at HS5 HG5 HN5 ⊢
            clear HS4 HG4 HN4 c0 c1 c2 c4 f1 f2
            obtain ⟨c0, c1, c2, -, c4, -, f1, f2, -, -, -⟩ := HS5.out.2.cells0
            obtain ⟨nm, hnm⟩ : ∃ nm, nm = f.extract st3.at_ (st3.at_ + m') := ⟨_, rfl⟩
            rw [← hnm]
            have HNM : Hid (nm = f.extract st3.at_ (st3.at_ + m')) := hnm
            have hnl : nm.size ≤ 2048 := by rw [hnm]; simp; omega
            clear hnm
            go_wp2_with (go_at_call 28; refine (eisName_any nm _ hnl).mono ?_)
            rintro e w6 ⟨rfl, hw6⟩
            try dsimp only
            rw [show ((st3.at_ : Int) + (m' : Int)) = ((st3.at_ + m' : Nat) : Int) by omega] at hw6
            have HS6 : Hid (EyS w6 b f pv (.ok { st3 with at_ := st3.at_ + m' })) := by
              rw [← hw6]
              exact ⟨⟨HS5.out.1.fits, hfit, HS5.out.1.used, HS5.out.1.pool⟩, HS5.out.2.setAt _ hfit⟩
            have HG6 : Hid (w.grownBy w6 (some b)) := by rw [← hw6]; exact gb_tr HG5.out (gb_set _ ⟨b, 1, none⟩ _)
            have HL : Hid (st2.pool.length = k) := (HN5.out st2 rfl).1
            have HO6 : Hid (w6.ownsRow w.heap.size 9 1 pv st2.pool.length (st2.pool.map Value.string)) := by
              rw [← hw6]
              have := (HN5.out st2 rfl).2
              exact this.kept (gb_set _ ⟨b, 1, none⟩ _) (.inr (own_ne this hbl))
            clear HS5 HG5 HN5 hw6 c0 c1 c2 c4 f1 f2
            obtain ⟨-, -, c2, -, -, -, -, f2, -, -, -⟩ := HS6.out.2.cells0
            obtain ⟨a0, k0, rfl⟩ := own_slice HO6.out
            have HC : Hid (∀ j, j < st2.pool.length → ∃ g, a0 = some ⟨g, 0, none⟩ ∧ w6.cell? ⟨g, j, none⟩ = some (.string (st2.pool.getD j ByteArray.empty))) := by
              intro j hj
              rcases own_strs HO6.out with ⟨-, h2⟩ | ⟨g, cap, h1, -, hc⟩
              · rw [h2] at hj; cases hj
              · exact ⟨g, by injection h1, hc j hj⟩
            have hlb : st2.pool.length < 256 := by have := HL.out; omega
            obtain ⟨o0, ho0⟩ : ∃ o0, o0 = isName nm := ⟨_, rfl⟩
            rw [← ho0]
            have HO0 : Hid (o0 = isName nm) := ho0
            clear ho0
            go_wp2_with fail
            go_loopw [7, 8] (fun o i wr => ∃ j : Nat, j ≤ st2.pool.length ∧ i = .int .i64 j ∧ o = .bool (o0 && !(st2.pool.take j).contains nm) ∧ w6.grownBy wr none) (fun _ i _ => st2.pool.length - (intOf i).toNat)
            case atStart => exact ⟨0, Nat.zero_le _, rfl, by simp, gb_refl _ _⟩
            case round =>
              obtain ⟨j, hj, rfl, rfl, hgw⟩ := hrel
              have HW : Hid (w6.grownBy wr none) := hgw
              have HS7 : Hid (EyS wr b f (.slice a0 st2.pool.length k0) (.ok { st3 with at_ := st3.at_ + m' })) := HS6.out.keep0 hgw
              have HO7 : Hid (wr.ownsRow w.heap.size 9 1 (.slice a0 st2.pool.length k0) st2.pool.length (st2.pool.map Value.string)) := World.ownsRow.kept HO6.out hgw (by cases (Value.slice a0 st2.pool.length k0).ownBlock <;> simp)
              clear hgw c2 f2
              obtain ⟨-, -, c2, -, -, -, -, f2, -, -, -⟩ := HS7.out.2.cells0
              by_cases hjl : j < st2.pool.length
              · obtain ⟨g, rfl, -⟩ := HC.out j hjl
                have hcj : wr.cell? ⟨g, j, none⟩ = some (.string (st2.pool.getD j ByteArray.empty)) := by
                  rcases own_strs HO7.out with ⟨h2, -⟩ | ⟨g', cap, h1, -, hc⟩
                  · cases h2
                  · cases h1; exact hc j hjl
                obtain ⟨o1, ho1⟩ : ∃ o1, o1 = (o0 && !(st2.pool.take j).contains nm) := ⟨_, rfl⟩
                rw [← ho1]
                have HO1 : Hid (o1 = (o0 && !(st2.pool.take j).contains nm)) := ho1
                clear ho1
                cases o1
                · go_wp2_with fail
                  exact ⟨⟨j + 1, hjl, by go_num, by rw [take_step hjl, ← HO1.out]; rfl, HW.out⟩, by simp [intOf]; omega⟩
                · go_wp2_with fail
                  exact ⟨⟨j + 1, hjl, by go_num, by rw [take_step hjl, ← HO1.out]; rfl, HW.out⟩, by simp [intOf]; omega⟩
              · have hje : j = st2.pool.length := by omega
                obtain ⟨o1, ho1⟩ : ∃ o1, o1 = (o0 && !(st2.pool.take j).contains nm) := ⟨_, rfl⟩
                rw [← ho1]
                have HO1 : Hid (o1 = (isName nm && !st2.pool.contains nm)) := by
                  unfold Hid
                  rw [ho1, hje, List.take_length, HO0.out]
                clear ho1 hje
                obtain ⟨i, hi, hz0, hz1, hz2⟩ := info_parts info_Str
                have hne : (Value.slice a0 st2.pool.length k0).ownBlock ≠ some b := own_ne HO7.out hbl
                have hbr : b < wr.heap.size := HS7.out.lt
                have hwr : Hid (w.grownBy wr (some b)) := gb_tn HG6.out HW.out
                have hsw : w.heap.size ≤ wr.heap.size := hwr.out.size
                cases o1
                · go_wp2_with (first
                    | (go_at_call 21
                       refine (fail_any _ b f _ _ 4 st2.at_ HS7 (by omega)).mono ?_
                       rintro e w7 ⟨rfl, hg7, hs7⟩
                       have HO8 : Hid (w7.ownsRow w.heap.size 9 1 (.slice a0 st2.pool.length k0) st2.pool.length (st2.pool.map Value.string)) := World.ownsRow.kept HO7.out hg7 (.inr hne)
                       have HG7 : Hid (w.grownBy w7 (some b)) := gb_tr hwr.out hg7
                       have HE7 : Hid (∃ a names t, Ey w7 b f (.slice a0 st2.pool.length k0) a names t (4 : Nat) st2.at_) := hs7.2
                       have hb7 : b < w7.heap.size := EyS.lt hs7
                       have hs7w : w.heap.size ≤ w7.heap.size := HG7.out.size
                       have d2 : w7.cell? ⟨b, 2, none⟩ = some (.slice a0 st2.pool.length k0) := by obtain ⟨a, names, t, hE⟩ := hs7.2; exact hE.cells.2.2.1
                       have e2 : w7.frozen? ⟨b, 2, none⟩ = false := by obtain ⟨a, names, t, hE⟩ := hs7.2; exact hE.blk.frozen 2
                       clear hs7 hg7
                       try dsimp only)
                    | (at_builtin
                       go_loud (refine wpList_append_own _ rfl _ _ 54 rfl w.heap.size 9 i _ 1 16 Tryd.underlying54 hi hz0 hz1 hz2 rfl (by decide) _ st2.pool.length (st2.pool.map Value.string) rfl (World.ownsRow.alloc HO8.out _) ⟨w7.heap.size, 0, none⟩ 1 1 [.string nm] rfl rfl (new_cells w7 [.string nm] 9) (by simp [Value.oneCell']) (len_small rfl (by omega)) (by omega) (by simp; omega) ?_)))
                  intro v' w8 hown hgrow _
                  obtain ⟨a5, k5, rfl⟩ := own_slice hown
                  have hgA := gb_tr (gb_alloc w7 (.cells #[.string nm] 9) _) hgrow
                  have hown' : w8.ownsRow w.heap.size 9 1 (.slice a5 (st2.pool.length + 1) k5) (st2.pool ++ [nm]).length ((st2.pool ++ [nm]).map Value.string) := by
                    simpa using hown
                  have hl255 : (st2.pool ++ [nm]).length ≤ 255 := by have := HL.out; simp; omega
                  have HS8 : Hid (EyS (w8.setCell ⟨b, 2, none⟩ (.slice a5 (st2.pool.length + 1) k5)) b f (.slice a5 (st2.pool.length + 1) k5) (.error (4, st2.at_))) := by
                    obtain ⟨a, names, t, hE⟩ := HE7.out
                    exact ⟨by simp, a, _, t, hE.setNames (gb_alloc _ _ _) hgrow hne hown' hbl hl255⟩
                  have HG8 : Hid (w.grownBy w8 (some b)) := gb_trans HG7.out hgA (fun g hg => .inl (own_some HO8.out hg).1)
                  have HN8 : Hid (NamesAt w (w8.setCell ⟨b, 2, none⟩ (.slice a5 (st2.pool.length + 1) k5)) (.slice a5 (st2.pool.length + 1) k5) (k + 1) (.error (4, st2.at_))) := fun st' e => by cases e
                  have HM8 : Hid (MidE f 1 (pushName f) (.ok st) n (k + 1) (xs ++ [()]) (.error (4, st2.at_))) := HM.out.step hlt (by
                    have e : bnd (Except.ok st2) (pushName f) = .error (4, st2.at_) := push_e (by simp only [newName, HR.out, hfit, if_true, ← HNM.out, ← HO1.out, Bool.false_eq_true, if_false])
                    unfold Seen
                    rw [e]
                    exact ⟨(fun _ _ e => by cases e), rfl⟩)
                  have c2' : w8.cell? ⟨b, 2, none⟩ = some (.slice a0 st2.pool.length k0) := (hgA.cell_far ⟨b, 2, none⟩ (by simp; omega) (fun e => hne e.symm)).trans d2
                  have f2' : w8.frozen? ⟨b, 2, none⟩ = false := (hgA.frozen_far ⟨b, 2, none⟩ (by simp; omega) (fun e => hne e.symm)).trans e2
                  clear hown hown' hgrow hgA c2 f2 hl255 d2 e2
                  go_wp2_with fail
                  go_roundw
                  case rel => exact ⟨k + 1, xs ++ [()], _, _, by go_num, hlt, HM8.out, HS8.out, HN8.out, gb_tr HG8.out (gb_set _ ⟨b, 2, none⟩ _)⟩
                  case measure => simp [intOf]; omega
                · go_wp2_with (at_builtin; go_loud (refine wpList_append_own _ rfl _ _ 54 rfl w.heap.size 9 i _ 1 16 Tryd.underlying54 hi hz0 hz1 hz2 rfl (by decide) _ st2.pool.length (st2.pool.map Value.string) rfl (World.ownsRow.alloc HO7.out _) ⟨wr.heap.size, 0, none⟩ 1 1 [.string nm] rfl rfl (new_cells wr [.string nm] 9) (by simp [Value.oneCell']) (len_small rfl (by omega)) (by omega) (by simp; omega) ?_))
                  intro v' w8 hown hgrow _
                  obtain ⟨a5, k5, rfl⟩ := own_slice hown
                  have hgA := gb_tr (gb_alloc wr (.cells #[.string nm] 9) _) hgrow
                  have hown' : w8.ownsRow w.heap.size 9 1 (.slice a5 (st2.pool.length + 1) k5) (st3.pool ++ [nm]).length ((st3.pool ++ [nm]).map Value.string) := by
                    rw [hp23.out]
                    simpa using hown
                  have hpl : st3.pool.length = k := by rw [hp23.out]; exact HL.out
                  have hl255 : (st3.pool ++ [nm]).length ≤ 255 := by rw [hp23.out]; have := HL.out; simp; omega
                  have HS8 : Hid (EyS (w8.setCell ⟨b, 2, none⟩ (.slice a5 (st2.pool.length + 1) k5)) b f (.slice a5 (st2.pool.length + 1) k5) (.ok { st3 with at_ := st3.at_ + m', pool := st3.pool ++ [nm] })) :=
                    ⟨⟨HS7.out.1.fits, hfit, by have : st3.used ≤ st3.pool.length := HS7.out.1.used; simp; omega, by simp; omega⟩, HS7.out.2.setNames (gb_alloc _ _ _) hgrow hne hown' hbl hl255⟩
                  have HG8 : Hid (w.grownBy w8 (some b)) := gb_trans hwr.out hgA (fun g hg => .inl (own_some HO7.out hg).1)
                  have HN8 : Hid (NamesAt w (w8.setCell ⟨b, 2, none⟩ (.slice a5 (st2.pool.length + 1) k5)) (.slice a5 (st2.pool.length + 1) k5) (k + 1) (.ok { st3 with at_ := st3.at_ + m', pool := st3.pool ++ [nm] })) := by
                    intro st' e
                    cases e
                    exact ⟨by simp; omega, hown'.kept (gb_set w8 ⟨b, 2, none⟩ _) (.inr (own_ne hown' hbl))⟩
                  have HM8 : Hid (MidE f 1 (pushName f) (.ok st) n (k + 1) (xs ++ [()]) (.ok { st3 with at_ := st3.at_ + m', pool := st3.pool ++ [nm] })) := HM.out.step hlt (by
                    have e : bnd (Except.ok st2) (pushName f) = .ok ((), { st3 with at_ := st3.at_ + m', pool := st3.pool ++ [nm] }) := push_ok (st1 := { st3 with at_ := st3.at_ + m' }) (by simp only [newName, HR.out, hfit, if_true, ← HNM.out, ← HO1.out])
                    unfold Seen
                    rw [e]
                    exact ⟨(fun _ _ e => by cases e; rfl), rfl⟩)
                  have c2' : w8.cell? ⟨b, 2, none⟩ = some (.slice a0 st2.pool.length k0) := (hgA.cell_far ⟨b, 2, none⟩ (by simp; omega) (fun e => hne e.symm)).trans c2
                  have f2' : w8.frozen? ⟨b, 2, none⟩ = false := (hgA.frozen_far ⟨b, 2, none⟩ (by simp; omega) (fun e => hne e.symm)).trans f2
                  clear hown hown' hgrow hgA c2 f2 hl255 hpl
                  go_wp2_with fail
                  go_roundw
                  case rel => exact ⟨k + 1, xs ++ [()], _, _, by go_num, hlt, HM8.out, HS8.out, HN8.out, gb_tr HG8.out (gb_set _ ⟨b, 2, none⟩ _)⟩
                  case measure => simp [intOf]; omega
          · go_wp2_with fail
            go_quiet (fail)
            have HS4 : Hid (EyS (w3.drewN nq) b f pv (.ok st3)) := HS3.out.keep0 (gb_drewN _ _ _)
            go_wp2_with (go_at_call 21; refine (fail_any _ b f pv _ 2 f.size HS4 (by omega)).mono ?_)
            rintro e w4 ⟨rfl, hg4, hs4⟩
            try dsimp only
            have HS5 : Hid (EyS w4 b f pv (.error (2, f.size))) := hs4
            have HG5 : Hid (w.grownBy w4 (some b)) := gb_tr (gb_tr HG3.out (gb_drewN _ _ _)) hg4
            have HME : Hid (MidE f 1 (pushName f) (.ok st) n (k + 1) (xs ++ [()]) (.error (2, f.size))) := HM.out.step hlt (by
              have e : bnd (Except.ok st2) (pushName f) = .error (2, f.size) := push_e (by simp only [newName, HR.out, hfit, if_false])
              unfold Seen
              rw [e]
              exact ⟨(fun _ _ e => by cases e), rfl⟩)
            obtain ⟨c4', -⟩ := hs4.err
            clear hg4 hs4 c0 c1 c2 c4 f1 f2
            go_wp2_with fail
            go_end0
            exact ⟨rfl, HG5.out, pv, by rw [show list f 1 (pushName f) st = .error (2, f.size) from HME.out]; exact HS5.out⟩
      · go_wp2_with fail
        go_end0
        have hk' : k = n := by omega
        subst hk'
        have := (MidE.done HM.out).2
        exact ⟨rfl, HG.out, pv, by rw [show stateOf (list f 1 (pushName f) st) = .ok st2 from this]; exact HE.out⟩
end Go.Proofs.YtcpicefhhnbgkaaDoor
