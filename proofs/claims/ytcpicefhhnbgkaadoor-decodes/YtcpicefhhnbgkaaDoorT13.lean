import Derived.Test.YtcpicefhhnbgkaaDoorT12
import Derived.Deep.AppendLies
import Derived.Deep.RegionLaw
namespace Go.Proofs.YtcpicefhhnbgkaaDoor
open Go.RowKit Cf

/-- how the call ends that fills the pool: the pool's slice turns -/
def PoolEnds (w : World) (b : Nat) (f : ByteArray) (r : R (List Unit)) (e : Ending) (w' : World) : Prop :=
  w.grownBy w' (some b) ∧ match r with
    | .ok (_, st) => e = .returned (.tuple #[]) ∧ ∃ pv, Rd w' b f pv st
    | .error er => e = thrown er
theorem PoolEnds.err {w : World} {b : Nat} {f : ByteArray} {r : R (List Unit)} {w' : World} {x y : Int} {er : Er}
    (hr : r = .error er) (hx : x = er.1) (hy : y = er.2) (hg : w.grownBy w' (some b)) : PoolEnds w b f r (.panicked [{ v := .iface 63 (.agg #[.int .i64 x, .int .i64 y]), recovered := false }]) w' := by
  subst hr hx hy; exact ⟨hg, rfl⟩

theorem push_e {f : ByteArray} {st : St} {er : Er} (h : newName f st = .error er) : pushName f st = .error er := by simp only [pushName, h]
theorem push_ok {f : ByteArray} {st st1 : St} {s : ByteArray} (h : newName f st = .ok (s, st1)) : pushName f st = .ok ((), { st1 with pool := st1.pool ++ [s] }) := by simp only [pushName, h]
theorem newName_pool' {f : ByteArray} {st st1 : St} {s : ByteArray} (h : newName f st = .ok (s, st1)) : st1.pool = st.pool ∧ st1.used = st.used := by
  unfold newName at h
  split at h
  · cases h
  · rename_i k st2 h2
    split at h
    · dsimp only at h
      split at h
      · cases h
        rw [(num_lt h2).1]
        exact ⟨rfl, rfl⟩
      · cases h
    · cases h

theorem Rd.setPool {w w1 w2 : World} {b : Nat} {f : ByteArray} {pv : Value} {st : St} {s : ByteArray} {g cap base : Nat} {row : Option Nat} (h : Rd w b f pv st) (h1 : w.grownBy w1 none) (h2 : w1.grownBy w2 row) (hr : row ≠ some b)
    (hb : b < base) (ho : w2.ownsRow base 9 1 (.slice (some ⟨g, 0, none⟩) (st.pool.length + 1) cap) (st.pool.length + 1) (st.pool.map Value.string ++ [.string s])) (hl : st.pool.length < 255) :
    Rd (w2.setCell ⟨b, 2, none⟩ (.slice (some ⟨g, 0, none⟩) (st.pool.length + 1) cap)) b f (.slice (some ⟨g, 0, none⟩) (st.pool.length + 1) cap) { st with pool := st.pool ++ [s] } := by
  refine ⟨⟨h.inv.fits, h.inv.at_, by have := h.inv.used; simp; omega, by simp; omega⟩, ?_, ?_⟩
  · exact ((h.blk.keep h1 (by simp)).keep h2 (fun e => hr e.symm)).set 2 _
  · have h5 : w2.ownsRow (b + 1) 9 1 (.slice (some ⟨g, 0, none⟩) (st.pool.length + 1) cap) (st.pool.length + 1) (st.pool.map Value.string ++ [.string s]) := own_base ho (by omega)
    have h6 := h5.kept (gb_set w2 ⟨b, 2, none⟩ (.slice (some ⟨g, 0, none⟩) (st.pool.length + 1) cap)) (.inr (own_ne h5 (show b < b + 1 by omega)))
    simpa using h6

set_option maxHeartbeats 1000000 in
theorem readPool_any (w : World) (b : Nat) (f : ByteArray) (st : St) (h : Hid (Rd w b f (.slice none 0 0) st)) (h0 : st.pool = []) :
    Calls Tryd.prog 31 #[.pointer (some ⟨b, 0, none⟩)] w (PoolEnds w b f (list f 1 (pushName f) st)) := by
  have hbl : b < w.heap.size := h.out.lt
  have H0 : Hid (st.pool = []) := h0
  clear h0
  go_enter Tryd.func31, Tryd.ntmps31
  go_wp2_with (go_at_call 42; refine Ends.bind (number_any w b f _ st 1 h (by omega)) (fun er w' hr hg => ⟨rfl, .err (er := er) (by rw [list, hr]) rfl rfl hg⟩) ?_; rintro n st1 v w1 HH rfl hR hg; dsimp only)
  have hn := (num_lt HH.out).2
  go_loopw [4] (fun i wr => ∃ (k : Nat) (xs : List Unit) (st2 : St) (l : Value), i = .int .i64 k ∧ Mid (pushName f) n st1 k xs st2 ∧ st2.pool.length = k ∧ Rd wr b f l st2 ∧ wr.ownsRow w.heap.size 9 1 l st2.pool.length (st2.pool.map Value.string) ∧ w.grownBy wr (some b)) (fun i _ => n - (intOf i).toNat)
  case atStart =>
    have hp : st1.pool = [] := by rw [(num_lt HH.out).1]; exact H0.out
    exact ⟨0, [], st1, _, rfl, .start _ _ _, by rw [hp]; rfl, hR.out, by rw [hp]; exact World.ownsRow_nil _ _ _ _, hg⟩
  case round =>
    obtain ⟨k, xs, st2, l, rfl, hmid, hlen, hR2, hown, hg2⟩ := hrel
    have HM : Hid (Mid (pushName f) n st1 k xs st2) := hmid
    have HR2 : Hid (Rd wr b f l st2) := hR2
    have HO : Hid (wr.ownsRow w.heap.size 9 1 l st2.pool.length (st2.pool.map Value.string)) := hown
    have HL : Hid (st2.pool.length = k) := hlen
    have hne := own_ne hown hbl
    obtain ⟨-, -, -, -, c2, -, -, f2, -⟩ := hR2.cells
    obtain ⟨a0, k0, rfl⟩ := own_slice hown
    clear hmid hR2 hown hlen
    by_cases hk : k < n
    · obtain ⟨i, hi, hz0, hz1, hz2⟩ := info_parts info_Str
      go_wp2_with fail
      have hRd : Hid (Rd wr.drew b f _ st2) := HR2.out.keep (gb_drew _ _)
      go_region_law (first
        | (go_simp
           go_at_call 43
           (refine Ends.bind (newName_any wr.drew b f _ st2 hRd) (fun er w' hr hg3 => ⟨rfl, .err (er := er) (by rw [list, HH.out]; exact HM.out.fail hk (push_e hr)) rfl rfl (gb_tr (gb_tr hg2 (gb_drew _ _)) hg3)⟩) ?_)
           (rintro s st3 v w3 H3 rfl hR3 hg3)
           have s3 : w.heap.size ≤ w3.heap.size := Nat.le_trans hg2.size hg3.size
           (obtain ⟨-, -, -, -, c2', -, -, f2', -⟩ := hR3.out.cells)
           have hb3 : b < w3.heap.size := hR3.out.lt
           have c2a : ∀ o, (w3.alloc o).cell? ⟨b, 2, none⟩ = some (.slice a0 st2.pool.length k0) := fun o => by rw [World.cell?_alloc_past _ _ _ hb3]; exact c2'
           have f2a : ∀ o, (w3.alloc o).frozen? ⟨b, 2, none⟩ = false := fun o => ((gb_alloc w3 o none).frozen_far ⟨b, 2, none⟩ hb3 (by simp)).trans f2'
           dsimp only)
        | (refine step_append_lies _ rfl _ _ 54 rfl w.heap.size 9 i _ 1 16 Tryd.underlying54 hi hz0 hz1 hz2 rfl (by decide) _ st2.pool.length (st2.pool.map Value.string) rfl ((World.ownsRow.kept (World.ownsRow.drew HO.out) hg3 (.inr hne)).alloc _) ⟨w3.heap.size, 0, none⟩ 1 1 [Value.string s] rfl rfl (new_cells w3 _ _) (by simp [Value.oneCell']) (by omega) (by have := HL.out; unfold maxLen; omega) (by have := HL.out; omega) (by simp; omega) _ rfl ?_
           intro g cap w4 hown4 hgrow4 hat hlt
           have c4 : w4.cell? ⟨b, 2, none⟩ = some (.slice a0 st2.pool.length k0) := (hgrow4.cell_far ⟨b, 2, none⟩ (by simp; omega) (fun e => hne e.symm)).trans (c2a _)
           have f4 : w4.frozen? ⟨b, 2, none⟩ = false := (hgrow4.frozen_far ⟨b, 2, none⟩ (by simp; omega) (fun e => hne e.symm)).trans (f2a _)))
      all_goals
        have hp3 := (newName_pool' H3.out).1
        have hpl : st2.pool.length < 255 := by have := HL.out; omega
        have hgg : w.grownBy w4 (some b) := gb_trans (gb_tr (gb_tr (gb_tr hg2 (gb_drew _ _)) hg3) (gb_alloc _ _ _)) hgrow4 (fun g hg => .inl (own_some HO.out hg).1)
        have hfin : Hid (Rd (w4.setCell ⟨b, 2, none⟩ (.slice (some ⟨g, 0, none⟩) (st2.pool.length + 1) cap)) b f (.slice (some ⟨g, 0, none⟩) (st2.pool.length + 1) cap) { st3 with pool := st3.pool ++ [s] }) := by
          have := Rd.setPool (s := s) (g := g) (cap := cap) hR3.out (gb_alloc w3 _ none) hgrow4 hne hbl (by rw [hp3]; exact hown4) (by rw [hp3]; exact hpl)
          rw [hp3] at this ⊢
          exact this
        have hown5 : Hid ((w4.setCell ⟨b, 2, none⟩ (.slice (some ⟨g, 0, none⟩) (st2.pool.length + 1) cap)).ownsRow w.heap.size 9 1 (.slice (some ⟨g, 0, none⟩) (st2.pool.length + 1) cap) (st3.pool ++ [s]).length ((st3.pool ++ [s]).map Value.string)) := by
          have := hown4.kept (gb_set w4 ⟨b, 2, none⟩ (.slice (some ⟨g, 0, none⟩) (st2.pool.length + 1) cap)) (.inr (own_ne hown4 hbl))
          rw [hp3]
          unfold Hid
          simpa using this
        have HM4 : Hid (Mid (pushName f) n st1 (k + 1) (xs ++ [()]) { st3 with pool := st3.pool ++ [s] }) := HM.out.step hk (push_ok H3.out)
        have hg5 : w.grownBy (w4.setCell ⟨b, 2, none⟩ (.slice (some ⟨g, 0, none⟩) (st2.pool.length + 1) cap)) (some b) := gb_tr hgg (gb_set w4 ⟨b, 2, none⟩ _)
        clear hown4 hgrow4 hat
        go_wp2_with fail
        go_roundw
        case rel => exact ⟨k + 1, xs ++ [()], { st3 with pool := st3.pool ++ [s] }, _, by go_num, HM4.out, by rw [hp3]; have := HL.out; simp; omega, hfin.out, hown5.out, hg5⟩
        case measure => simp [intOf]; omega
    · go_wp2
      go_end0
      have hk' : k = n := by have := HM.out.1; omega
      subst hk'
      refine ⟨hg2, ?_⟩
      rw [list, HH.out]
      simp only [HM.out.done]
      exact ⟨trivial, _, HR2.out⟩
end Go.Proofs.YtcpicefhhnbgkaaDoor
