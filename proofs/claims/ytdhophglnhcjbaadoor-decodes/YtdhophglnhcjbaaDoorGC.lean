/- Contracts of the functions that the law goes through: a part of the proof that the last text tells. -/
import Derived.Test.YtdhophglnhcjbaaDoorGB
import Derived.Deep.AppendLies
import Derived.Deep.RegionLaw
set_option linter.unusedVariables false
set_option linter.unusedSimpArgs false
namespace Go.Proofs.YtdhophglnhcjbaaDoor
open Go.RowKit Cf

/-- how the call ends that fills the pool: the pool's slice turns -/
def PoolEnds (w : World) (b : Nat) (f : ByteArray) (r : R (List Unit)) (e : Ending) (w' : World) : Prop :=
  w.grownBy w' (some b) ∧ match r with
    | .ok (_, st) => e = .returned (.tuple #[]) ∧ ∃ pv, Rd w' b f pv st
    | .error er => e = thrown er
theorem PoolEnds.err {w : World} {b : Nat} {f : ByteArray} {r : R (List Unit)} {w' : World} {x y : Int} {er : Er}
    (hr : r = .error er) (hx : x = er.1) (hy : y = er.2) (hg : w.grownBy w' (some b)) : PoolEnds w b f r (.panicked [{ v := .iface 63 (.agg #[.int .i64 x, .int .i64 y]), recovered := false }]) w' := by
  subst hr hx hy; exact ⟨hg, rfl⟩

theorem push_e {f : ByteArray} {st : St} {er : Er} (h : newName f st = .error er) : pushName f st = .error er := by simp only [pushName, h]
theorem push_ok {f : ByteArray} {st st1 : St} {s : ByteArray} (h : newName f st = .ok (s, st1)) : pushName f st = .ok ((), { st1 with pool := st1.pool ++ [s] }) := by simp only [pushName, h]
theorem newName_pool' {f : ByteArray} {st st1 : St} {s : ByteArray} (h : newName f st = .ok (s, st1)) : st1.pool = st.pool ∧ st1.used = st.used := by
  unfold newName at h
  split at h
  · cases h
  · rename_i k st2 h2
    split at h
    · dsimp only at h
      split at h
      · cases h
        rw [(num_lt h2).1]
        exact ⟨rfl, rfl⟩
      · cases h
    · cases h

theorem Rd.setPool {w w1 w2 : World} {b : Nat} {f : ByteArray} {pv : Value} {st : St} {s : ByteArray} {g cap base : Nat} {row : Option Nat} (h : Rd w b f pv st) (h1 : w.grownBy w1 none) (h2 : w1.grownBy w2 row) (hr : row ≠ some b)
    (hb : b < base) (ho : w2.ownsRow base 9 1 (.slice (some ⟨g, 0, none⟩) (st.pool.length + 1) cap) (st.pool.length + 1) (st.pool.map Value.string ++ [.string s])) (hl : st.pool.length < 255) :
    Rd (w2.setCell ⟨b, 2, none⟩ (.slice (some ⟨g, 0, none⟩) (st.pool.length + 1) cap)) b f (.slice (some ⟨g, 0, none⟩) (st.pool.length + 1) cap) { st with pool := st.pool ++ [s] } := by
  refine ⟨⟨h.inv.fits, h.inv.at_, by have := h.inv.used; simp; omega, by simp; omega⟩, ?_, ?_⟩
  · exact ((h.blk.keep h1 (by simp)).keep h2 (fun e => hr e.symm)).set 2 _
  · have h5 : w2.ownsRow (b + 1) 9 1 (.slice (some ⟨g, 0, none⟩) (st.pool.length + 1) cap) (st.pool.length + 1) (st.pool.map Value.string ++ [.string s]) := own_base ho (by omega)
    have h6 := h5.kept (gb_set w2 ⟨b, 2, none⟩ (.slice (some ⟨g, 0, none⟩) (st.pool.length + 1) cap)) (.inr (own_ne h5 (show b < b + 1 by omega)))
    simpa using h6

set_option maxHeartbeats 1000000 in
theorem readPool_any (w : World) (b : Nat) (f : ByteArray) (st : St) (h : Hid (Rd w b f (.slice none 0 0) st)) (h0 : st.pool = []) :
    Calls Tryd.prog 31 #[.pointer (some ⟨b, 0, none⟩)] w (PoolEnds w b f (list f 1 (pushName f) st)) := by
  have hbl : b < w.heap.size := h.out.lt
  have H0 : Hid (st.pool = []) := h0
  clear h0
  go_enter Tryd.func31, Tryd.ntmps31
  go_wp2_with (go_at_call 42; refine Ends.bind (number_any w b f _ st 1 h (by omega)) (fun er w' hr hg => ⟨rfl, .err (er := er) (by rw [list, hr]) rfl rfl hg⟩) ?_; rintro n st1 v w1 HH rfl hR hg; dsimp only)
  have hn := (num_lt HH.out).2
  go_loopw [4] (fun i wr => ∃ (k : Nat) (xs : List Unit) (st2 : St) (l : Value), i = .int .i64 k ∧ Mid (pushName f) n st1 k xs st2 ∧ st2.pool.length = k ∧ Rd wr b f l st2 ∧ wr.ownsRow w.heap.size 9 1 l st2.pool.length (st2.pool.map Value.string) ∧ w.grownBy wr (some b)) (fun i _ => n - (intOf i).toNat)
  case atStart =>
    have hp : st1.pool = [] := by rw [(num_lt HH.out).1]; exact H0.out
    exact ⟨0, [], st1, _, rfl, .start _ _ _, by rw [hp]; rfl, hR.out, by rw [hp]; exact World.ownsRow_nil _ _ _ _, hg⟩
  case round =>
    obtain ⟨k, xs, st2, l, rfl, hmid, hlen, hR2, hown, hg2⟩ := hrel
    have HM : Hid (Mid (pushName f) n st1 k xs st2) := hmid
    have HR2 : Hid (Rd wr b f l st2) := hR2
    have HO : Hid (wr.ownsRow w.heap.size 9 1 l st2.pool.length (st2.pool.map Value.string)) := hown
    have HL : Hid (st2.pool.length = k) := hlen
    have hne := own_ne hown hbl
    obtain ⟨-, -, -, -, c2, -, -, f2, -⟩ := hR2.cells
    obtain ⟨a0, k0, rfl⟩ := own_slice hown
    clear hmid hR2 hown hlen
    by_cases hk : k < n
    · obtain ⟨i, hi, hz0, hz1, hz2⟩ := info_parts info_Str
      go_wp2_with fail
      have hRd : Hid (Rd wr.drew b f _ st2) := HR2.out.keep (gb_drew _ _)
      go_region_law (first
        | (go_simp
           go_at_call 43
           (refine Ends.bind (newName_any wr.drew b f _ st2 hRd) (fun er w' hr hg3 => ⟨rfl, .err (er := er) (by rw [list, HH.out]; exact HM.out.fail hk (push_e hr)) rfl rfl (gb_tr (gb_tr hg2 (gb_drew _ _)) hg3)⟩) ?_)
           (rintro s st3 v w3 H3 rfl hR3 hg3)
           have s3 : w.heap.size ≤ w3.heap.size := Nat.le_trans hg2.size hg3.size
           (obtain ⟨-, -, -, -, c2', -, -, f2', -⟩ := hR3.out.cells)
           have hb3 : b < w3.heap.size := hR3.out.lt
           have c2a : ∀ o, (w3.alloc o).cell? ⟨b, 2, none⟩ = some (.slice a0 st2.pool.length k0) := fun o => by rw [World.cell?_alloc_past _ _ _ hb3]; exact c2'
           have f2a : ∀ o, (w3.alloc o).frozen? ⟨b, 2, none⟩ = false := fun o => ((gb_alloc w3 o none).frozen_far ⟨b, 2, none⟩ hb3 (by simp)).trans f2'
           dsimp only)
        | (refine step_append_lies _ rfl _ _ 54 rfl w.heap.size 9 i _ 1 16 Tryd.underlying54 hi hz0 hz1 hz2 rfl (by decide) _ st2.pool.length (st2.pool.map Value.string) rfl ((World.ownsRow.kept (World.ownsRow.drew HO.out) hg3 (.inr hne)).alloc _) ⟨w3.heap.size, 0, none⟩ 1 1 [Value.string s] rfl rfl (new_cells w3 _ _) (by simp [Value.oneCell']) (by omega) (by have := HL.out; unfold maxLen; omega) (by have := HL.out; omega) (by simp; omega) _ rfl ?_
           intro g cap w4 hown4 hgrow4 hat hlt
           have c4 : w4.cell? ⟨b, 2, none⟩ = some (.slice a0 st2.pool.length k0) := (hgrow4.cell_far ⟨b, 2, none⟩ (by simp; omega) (fun e => hne e.symm)).trans (c2a _)
           have f4 : w4.frozen? ⟨b, 2, none⟩ = false := (hgrow4.frozen_far ⟨b, 2, none⟩ (by simp; omega) (fun e => hne e.symm)).trans (f2a _)))
      all_goals
        have hp3 := (newName_pool' H3.out).1
        have hpl : st2.pool.length < 255 := by have := HL.out; omega
        have hgg : w.grownBy w4 (some b) := gb_trans (gb_tr (gb_tr (gb_tr hg2 (gb_drew _ _)) hg3) (gb_alloc _ _ _)) hgrow4 (fun g hg => .inl (own_some HO.out hg).1)
        have hfin : Hid (Rd (w4.setCell ⟨b, 2, none⟩ (.slice (some ⟨g, 0, none⟩) (st2.pool.length + 1) cap)) b f (.slice (some ⟨g, 0, none⟩) (st2.pool.length + 1) cap) { st3 with pool := st3.pool ++ [s] }) := by
          have := Rd.setPool (s := s) (g := g) (cap := cap) hR3.out (gb_alloc w3 _ none) hgrow4 hne hbl (by rw [hp3]; exact hown4) (by rw [hp3]; exact hpl)
          rw [hp3] at this ⊢
          exact this
        have hown5 : Hid ((w4.setCell ⟨b, 2, none⟩ (.slice (some ⟨g, 0, none⟩) (st2.pool.length + 1) cap)).ownsRow w.heap.size 9 1 (.slice (some ⟨g, 0, none⟩) (st2.pool.length + 1) cap) (st3.pool ++ [s]).length ((st3.pool ++ [s]).map Value.string)) := by
          have := hown4.kept (gb_set w4 ⟨b, 2, none⟩ (.slice (some ⟨g, 0, none⟩) (st2.pool.length + 1) cap)) (.inr (own_ne hown4 hbl))
          rw [hp3]
          unfold Hid
          simpa using this
        have HM4 : Hid (Mid (pushName f) n st1 (k + 1) (xs ++ [()]) { st3 with pool := st3.pool ++ [s] }) := HM.out.step hk (push_ok H3.out)
        have hg5 : w.grownBy (w4.setCell ⟨b, 2, none⟩ (.slice (some ⟨g, 0, none⟩) (st2.pool.length + 1) cap)) (some b) := gb_tr hgg (gb_set w4 ⟨b, 2, none⟩ _)
        clear hown4 hgrow4 hat
        go_wp2_with fail
        go_roundw
        case rel => exact ⟨k + 1, xs ++ [()], { st3 with pool := st3.pool ++ [s] }, _, by go_num, HM4.out, by rw [hp3]; have := HL.out; simp; omega, hfin.out, hown5.out, hg5⟩
        case measure => simp [intOf]; omega
    · go_wp2
      go_end0
      have hk' : k = n := by have := HM.out.1; omega
      subst hk'
      refine ⟨hg2, ?_⟩
      rw [list, HH.out]
      simp only [HM.out.done]
      exact ⟨trivial, _, HR2.out⟩
end Go.Proofs.YtdhophglnhcjbaaDoor

namespace Go.Proofs.YtdhophglnhcjbaaDoor
open Go.RowKit Cf

def marks (f : ByteArray) (st : St) : R Unit := match magic f 87 0 st with | .ok (_, st1) => magic f 49 1 st1 | .error er => .error er
def isUnit (_ : World) (v : Value) (_ : Unit) : Prop := v = .tuple #[]
theorem magic_e {f : ByteArray} {c i : Nat} {st : St} {er : Er} (h : num f 1 st = .error er) : magic f c i st = .error er := by simp only [magic, h]
theorem magic_no {f : ByteArray} {c i n : Nat} {st st1 : St} (h : num f 1 st = .ok (n, st1)) (hn : n ≠ c) : magic f c i st = .error (3, i) := by simp only [magic, h, hn, if_false]
theorem magic_ok {f : ByteArray} {c i n : Nat} {st st1 : St} (h : num f 1 st = .ok (n, st1)) (hn : n = c) : magic f c i st = .ok ((), st1) := by simp only [magic, h, hn, if_true]
theorem ne87 {n : Nat} (h : ¬ (n : Int) = IntKind.i64.wrap ((ByteArray.mk #[87, 49])[0].toNat : Int)) : n ≠ 87 := fun e => h (by subst e; decide)
theorem eq87 {n : Nat} (h : (n : Int) = IntKind.i64.wrap ((ByteArray.mk #[87, 49])[0].toNat : Int)) : n = 87 := by
  have e : IntKind.i64.wrap ((ByteArray.mk #[87, 49])[0].toNat : Int) = 87 := by decide
  omega
theorem ne49 {n : Nat} (h : ¬ (n : Int) = IntKind.i64.wrap ((ByteArray.mk #[87, 49])[1].toNat : Int)) : n ≠ 49 := fun e => h (by subst e; decide)
theorem eq49 {n : Nat} (h : (n : Int) = IntKind.i64.wrap ((ByteArray.mk #[87, 49])[1].toNat : Int)) : n = 49 := by
  have e : IntKind.i64.wrap ((ByteArray.mk #[87, 49])[1].toNat : Int) = 49 := by decide
  omega
theorem marks_e {f : ByteArray} {st : St} {er : Er} (h : magic f 87 0 st = .error er) : marks f st = .error er := by simp only [marks, h]
theorem marks_2 {f : ByteArray} {st st1 : St} {r : R Unit} (h : magic f 87 0 st = .ok ((), st1)) (h2 : magic f 49 1 st1 = r) : marks f st = r := by simp only [marks, h, h2]

set_option maxHeartbeats 1000000 in
theorem readMark_any (w : World) (b : Nat) (f : ByteArray) (pv : Value) (st : St) (h : Hid (Rd w b f pv st)) :
    Calls Tryd.prog 30 #[.pointer (some ⟨b, 0, none⟩)] w (Ends w b f pv (marks f st) isUnit) := by
  go_enter Tryd.func30, Tryd.ntmps30
  go_wp2_with fail
  go_loopw [3] (fun i wr => w.grownBy wr (some b) ∧ ((i = .int .i64 0 ∧ Rd wr b f pv st) ∨ (∃ st1, i = .int .i64 1 ∧ magic f 87 0 st = .ok ((), st1) ∧ Rd wr b f pv st1) ∨ (∃ st2, i = .int .i64 2 ∧ marks f st = .ok ((), st2) ∧ Rd wr b f pv st2))) (fun i _ => 2 - (intOf i).toNat)
  case atStart => exact ⟨gb_refl _ _, .inl ⟨rfl, h.out⟩⟩
  case round =>
    obtain ⟨hg, ⟨rfl, hR⟩ | ⟨st1, rfl, hm, hR⟩ | ⟨st2, rfl, hm, hR⟩⟩ := hrel
    · have HR : Hid (Rd wr.drew b f pv st) := hR.keep (gb_drew _ _)
      clear hR
      go_wp2_with fail
      go_region_law (first
        | (go_simp
           go_at_call 42
           refine Ends.bind (number_any wr.drew b f pv st 1 HR (by omega)) (fun er w' hr hg3 => ⟨rfl, .err (er := er) (marks_e (magic_e hr)) rfl rfl (gb_tr (gb_tr hg (gb_drew _ _)) hg3)⟩) ?_
           rintro n st3 v w3 H3 rfl hR3 hg3
           dsimp only))
      all_goals
        go_wp2_with fail
        · rename_i hq _ _
          have h5 := ne87 (by simpa using hq)
          exact ⟨rfl, .err (er := (3, 0)) (marks_e (magic_no H3.out h5)) rfl rfl (gb_tr (gb_tr hg (gb_drew _ _)) hg3)⟩
        · rename_i hq
          have h5 := eq87 (by simpa using hq)
          exact ⟨⟨gb_tr (gb_tr hg (gb_drew _ _)) hg3, .inr (.inl ⟨st3, rfl, magic_ok H3.out h5, hR3.out⟩)⟩, by simp [intOf]⟩
    · have HR : Hid (Rd wr.drew b f pv st1) := hR.keep (gb_drew _ _)
      have HM : Hid (magic f 87 0 st = .ok ((), st1)) := hm
      clear hR hm
      go_wp2_with fail
      go_region_law (first
        | (go_simp
           go_at_call 42
           refine Ends.bind (number_any wr.drew b f pv st1 1 HR (by omega)) (fun er w' hr hg3 => ⟨rfl, .err (er := er) (marks_2 HM.out (magic_e hr)) rfl rfl (gb_tr (gb_tr hg (gb_drew _ _)) hg3)⟩) ?_
           rintro n st3 v w3 H3 rfl hR3 hg3
           dsimp only))
      all_goals
        go_wp2_with fail
        · rename_i hq _ _
          have h5 := ne49 (by simpa using hq)
          exact ⟨rfl, .err (er := (3, 1)) (marks_2 HM.out (magic_no H3.out h5)) rfl rfl (gb_tr (gb_tr hg (gb_drew _ _)) hg3)⟩
        · rename_i hq
          have h5 := eq49 (by simpa using hq)
          exact ⟨⟨gb_tr (gb_tr hg (gb_drew _ _)) hg3, .inr (.inr ⟨st3, rfl, marks_2 HM.out (magic_ok H3.out h5), hR3.out⟩)⟩, by simp [intOf]⟩
    · have HM : Hid (marks f st = .ok ((), st2)) := hm
      have HR : Hid (Rd wr b f pv st2) := hR
      clear hR hm
      go_wp2_with fail
      go_end0
      exact .ok HM.out hg rfl HR.out
end Go.Proofs.YtdhophglnhcjbaaDoor

namespace Go.Proofs.YtdhophglnhcjbaaDoor
open Go.RowKit Cf

theorem PoolEnds.bind {P : Program} {fn : FuncId} {args : Array Value} {w : World} {b : Nat} {f : ByteArray} {r : R (List Unit)} {K : Ending → World → Prop}
    (hc : Calls P fn args w (PoolEnds w b f r))
    (herr : ∀ er w', r = .error er → w.grownBy w' (some b) → K (.panicked [{ v := .iface 63 (.agg #[.int .i64 er.1, .int .i64 er.2]), recovered := false }]) w')
    (hok : ∀ xs st w' pv, Hid (r = .ok (xs, st)) → Hid (Rd w' b f pv st) → w.grownBy w' (some b) → K (.returned (.tuple #[])) w') : Calls P fn args w K :=
  hc.mono fun e w' he => by
    obtain ⟨hg, he⟩ := he
    cases r with
    | ok p => obtain ⟨rfl, pv, hR⟩ := he; exact hok p.1 p.2 w' pv rfl hR hg
    | error er => subst he; exact herr er w' rfl hg
theorem marks_pool {f : ByteArray} {st st1 : St} {u : Unit} (h : marks f st = .ok (u, st1)) (h0 : st.pool = [] := by rfl) : st1.pool = [] := by
  unfold marks magic at h
  split at h
  · rename_i st2 h2
    split at h2
    · cases h2
    · rename_i h3
      split at h2
      · cases h2
        split at h
        · cases h
        · rename_i h5
          split at h
          · cases h
            rw [(num_lt h5).1, (num_lt h3).1]
            exact h0
          · cases h
      · cases h2
  · cases h

/-- how the whole reader ends -/
def ReadEnds (w : World) (r : Except Er Cl) (e : Ending) (w' : World) : Prop :=
  w.grownBy w' none ∧ match r with
    | .ok c => ∃ v, e = .returned v ∧ isCl w.heap.size w' v c
    | .error er => e = thrown er
theorem ReadEnds.err {w : World} {r : Except Er Cl} {w' : World} {x y : Int} {er : Er}
    (hr : r = .error er) (hx : x = er.1) (hy : y = er.2) (hg : w.grownBy w' none) : ReadEnds w r (.panicked [{ v := .iface 63 (.agg #[.int .i64 x, .int .i64 y]), recovered := false }]) w' := by
  subst hr hx hy; exact ⟨hg, rfl⟩
theorem gb_new {w w1 w2 : World} {b : Nat} (h : w.grownBy w1 none) (h1 : w1.grownBy w2 (some b)) (hb : w.heap.size ≤ b) : w.grownBy w2 none :=
  gb_trans h h1 (fun k e => .inl (by cases e; exact hb))

def endR (f : ByteArray) (st : St) : R Unit := if st.used < st.pool.length then .error (5, f.size) else if st.at_ < f.size then .error (6, st.at_) else .ok ((), st)
section
variable {f : ByteArray} {er : Er} {st2 st3 st4 : St} {xs : List Unit} {c : Cl} {u : Unit}
theorem dec_long (h : 2048 < f.size) : dec f = .error (1, 0) := by simp only [dec, h, if_true]
theorem dec_marks (h0 : ¬ 2048 < f.size) (h : marks f ⟨0, 0, []⟩ = .error er) : dec f = .error er := by
  unfold marks at h
  simp only [dec, h0, if_false]
  split at h
  · rename_i h1; simp only [h1, h]
  · rename_i h1; simp only [h1]; cases h; rfl
theorem dec_split (h0 : ¬ 2048 < f.size) (h : marks f ⟨0, 0, []⟩ = .ok (u, st2)) : dec f =
      match list f 1 (pushName f) st2 with
      | .error e => .error e
      | .ok (_, st3) =>
        match cls f st3 with
        | .error e => .error e
        | .ok (c, st4) =>
          if st4.used < st4.pool.length then .error (5, f.size) else
          if st4.at_ < f.size then .error (6, st4.at_) else .ok c := by
  unfold marks at h
  simp only [dec, h0, if_false]
  split at h
  · rename_i h1; simp only [h1, h]; rfl
  · cases h
theorem dec_pool (h0 : ¬ 2048 < f.size) (h1 : marks f ⟨0, 0, []⟩ = .ok (u, st2)) (h : list f 1 (pushName f) st2 = .error er) : dec f = .error er := by rw [dec_split h0 h1, h]
theorem dec_cls (h0 : ¬ 2048 < f.size) (h1 : marks f ⟨0, 0, []⟩ = .ok (u, st2)) (h2 : list f 1 (pushName f) st2 = .ok (xs, st3)) (h : cls f st3 = .error er) : dec f = .error er := by rw [dec_split h0 h1, h2]; simp only [h]
theorem dec_end (h0 : ¬ 2048 < f.size) (h1 : marks f ⟨0, 0, []⟩ = .ok (u, st2)) (h2 : list f 1 (pushName f) st2 = .ok (xs, st3)) (h3 : cls f st3 = .ok (c, st4)) (h : endR f st4 = .error er) : dec f = .error er := by
  rw [dec_split h0 h1, h2]
  simp only [h3]
  unfold endR at h
  split at h
  · rename_i h5; rw [if_pos h5]; cases h; rfl
  · rename_i h5
    rw [if_neg h5]
    split at h
    · rename_i h6; rw [if_pos h6]; cases h; rfl
    · cases h
theorem dec_ok (h0 : ¬ 2048 < f.size) (h1 : marks f ⟨0, 0, []⟩ = .ok (u, st2)) (h2 : list f 1 (pushName f) st2 = .ok (xs, st3)) (h3 : cls f st3 = .ok (c, st4)) {st5 : St} (h : endR f st4 = .ok (u, st5)) : dec f = .ok c := by
  rw [dec_split h0 h1, h2]
  simp only [h3]
  unfold endR at h
  split at h
  · cases h
  · rename_i h5
    rw [if_neg h5]
    split at h
    · cases h
    · rename_i h6; rw [if_neg h6]
end

set_option maxHeartbeats 1000000 in
theorem read_any (w : World) (f : ByteArray) (hf : f.size ≤ maxLen) (hS : Hid (Shp w)) :
    Calls Tryd.prog 19 #[.string f] w (ReadEnds w (dec f)) := by
  have HF : f.size ≤ 9223372036854775807 := hf
  clear hf
  by_cases h0 : 2048 < f.size
  · go_enter Tryd.func19, Tryd.ntmps19
    go_wp2
    exact ⟨rfl, .err (er := (1, 0)) (dec_long h0) rfl rfl (gb_alloc _ _ _)⟩
  · have hpos := hS.out.1
    go_enter Tryd.func19, Tryd.ntmps19
    have hR0 : Rd ((w.alloc (.cells #[.string ⟨#[]⟩, .string ⟨#[]⟩, .slice none 0 0, .slice none 0 0] 25)).alloc (.cells #[.string f, .int .i64 0, .slice none 0 0, .int .i64 0] 83)) (w.heap.size + 1) f (.slice none 0 0) ⟨0, 0, []⟩ := by
      refine ⟨⟨by omega, Nat.zero_le _, Nat.zero_le _, Nat.zero_le _⟩, ?_, World.ownsRow_nil _ _ _ _⟩
      have := Blk.new (w.alloc (.cells #[.string ⟨#[]⟩, .string ⟨#[]⟩, .slice none 0 0, .slice none 0 0] 25)) #[.string f, .int .i64 0, .slice none 0 0, .int .i64 0] 83
      simpa using this
    have hA0 := (Blk.new w #[.string ⟨#[]⟩, .string ⟨#[]⟩, .slice none 0 0, .slice none 0 0] 25).keep (gb_alloc _ (.cells #[.string f, .int .i64 0, .slice none 0 0, .int .i64 0] 83) none) (by simp)
    have hg0 : w.grownBy ((w.alloc (.cells #[.string ⟨#[]⟩, .string ⟨#[]⟩, .slice none 0 0, .slice none 0 0] 25)).alloc (.cells #[.string f, .int .i64 0, .slice none 0 0, .int .i64 0] 83)) none := gb_tr (gb_alloc _ _ _) (gb_alloc _ _ _)
    have HR0 := (show Hid _ from hR0)
    clear hR0
    go_wp2_with (first
      | (go_at_call 30
         refine Ends.bind (readMark_any _ (w.heap.size + 1) f _ _ HR0) (fun er w' hr hg => ⟨rfl, .err (er := er) (dec_marks h0 hr) rfl rfl (gb_new hg0 hg (by omega))⟩) ?_
         rintro u1 st1 v w1 H1 rfl hR1 hg1'
         have hg1 := gb_new hg0 hg1' (by omega)
         have hA1 := hA0.keep hg1' (by simp)
         clear hg1' hA0 HR0
         dsimp only)
      | (go_at_call 31
         refine PoolEnds.bind (readPool_any w1 (w.heap.size + 1) f st1 hR1 (marks_pool H1.out)) (fun er w' hr hg => ⟨rfl, .err (er := er) (dec_pool h0 H1.out hr) rfl rfl (gb_new hg1 hg (by omega))⟩) ?_
         rintro xs st2 w2 pv H2 hR2 hg2'
         have hg2 := gb_new hg1 hg2' (by omega)
         have hA2 := hA1.keep hg2' (by simp)
         have s2 : w.heap.size + 1 < w2.heap.size := hR2.out.lt
         clear hg2' hA1 hR1
         dsimp only)
      | (go_at_call 32
         refine Ends.bind (class_any w2 (w.heap.size + 1) f pv st2 hR2 (hS.out.keep hg2 (by simp)) (by omega)) (fun er w' hr hg => ⟨rfl, .err (er := er) (dec_cls h0 H1.out H2.out hr) rfl rfl (gb_new hg2 hg (by omega))⟩) ?_
         rintro c st3 v w3 H3 hc hR3 hg3'
         have hg3 := gb_new hg2 hg3' (by omega)
         have hA3 := hA2.keep hg3' (by simp)
         have hC3 : Hid (isCl w2.heap.size w3 v c) := hc
         obtain ⟨a1, k1, a2, k2, rfl, -, -⟩ := hc
         have s3 := hg3'.size
         have hb3 := hR3.out.lt
         have hT3 := Blk.new w3 #[.string c.name, .string c.super, .slice a1 c.fields.length k1, .slice a2 c.methods.length k2] 25
         clear hg3' hA2 hR2
         dsimp only)
      | (go_at_call 33
         refine Ends.bind (end_any _ (w.heap.size + 1) f pv st3 (hR3.out.keep (gb_alloc _ _ _))) (fun er w' hr hg => ⟨rfl, .err (er := er) (dec_end h0 H1.out H2.out H3.out hr) rfl rfl (gb_new (gb_tr hg3 (gb_alloc _ _ _)) hg (by omega))⟩) ?_
         rintro u4 st4 v w4 H4 rfl hR4 hg4'
         have hg4 := gb_new (gb_tr hg3 (gb_alloc _ _ _)) hg4' (by omega)
         have hA4 := (hA3.keep (gb_alloc _ _ none) (by simp)).keep hg4' (by simp)
         have hT4 := hT3.keep hg4' (by simp; omega)
         have hC4 := (hC3.out.keep (gb_alloc _ _ none) (fun k e => by cases e)).keep hg4' (fun k e => by cases e; omega)
         have c0 := hA4.cell 0 _ rfl
         have c1 := hA4.cell 1 _ rfl
         have c2 := hA4.cell 2 _ rfl
         have c3 := hA4.cell 3 _ rfl
         have z0 := hA4.frozen 0
         have z1 := hA4.frozen 1
         have z2 := hA4.frozen 2
         have z3 := hA4.frozen 3
         have d0 := hT4.cell 0 _ rfl
         have d1 := hT4.cell 1 _ rfl
         have d2 := hT4.cell 2 _ rfl
         have d3 := hT4.cell 3 _ rfl
         have HC4 : Hid (isCl w2.heap.size w4 (.agg #[.string c.name, .string c.super, .slice a1 c.fields.length k1, .slice a2 c.methods.length k2]) c) := hC4
         clear hg4' hA3 hT3 hA4 hT4 hC4
         dsimp only))
    refine bodyPost_ret (v := .agg #[.string c.name, .string c.super, .slice a1 c.fields.length k1, .slice a2 c.methods.length k2]) (by simp [results, Tryd.results19, go_sem, c0, c1, c2, c3]) rfl ?_
    refine ⟨gb_trans hg4 (gb_sets4 (g := w.heap.size)) (fun k e => .inl (by cases e; exact Nat.le_refl _)), ?_⟩
    rw [dec_ok h0 H1.out H2.out H3.out H4.out]
    exact ⟨_, rfl, (HC4.out.keep (gb_sets4 (g := w.heap.size)) (fun k e => by cases e; omega)).base (by omega)⟩
end Go.Proofs.YtdhophglnhcjbaaDoor

namespace Go.Proofs.YtdhophglnhcjbaaDoor
open Go.RowKit Cf

/-- behind the recover: the rest of a deferred body as any body, the caller's mode as it is left -/
theorem wpS_body {P : Program} {c : Code} {fn : Func} {c₀ : Frame} {cs : List Frame} {R : Ending → FrameMode → World → Prop} {a : Act} {w : World} (u : FrameMode)
    (h : c.wp P (bodyPost P fn (fun e w' => R e u w')) a w) : c.wpS P (bodyPostS P fn c₀ cs R) a ({ c₀ with mode := u } :: cs) w := by
  refine wpS_of_wp (Code.wp_mono (fun e a' w' hq => ?_) h)
  cases e with
  | normal => obtain ⟨hd, v, hr, hR⟩ := hq; exact ⟨hd, u, rfl, v, hr, hR⟩
  | ret => obtain ⟨hd, v, hr, hR⟩ := hq; exact ⟨hd, u, rfl, v, hr, hR⟩
  | panic chain => obtain ⟨hd, hR⟩ := hq; exact ⟨hd, u, rfl, hR⟩
  | outgrown => exact ⟨u, hq⟩
  | exit id => exact hq
  | goto l => exact hq

set_option maxHeartbeats 300000 in
theorem catch_fault (b1 b2 : Nat) (x y ex ey : Int) (w : World) (h1 : Hid (Blk w b1 #[.int .i64 x] 27)) (h2 : Hid (Blk w b2 #[.int .i64 y] 3)) (hne : b1 ≠ b2) :
    CallsD Tryd.prog 18 #[.pointer (some ⟨b1, 0, none⟩), .pointer (some ⟨b2, 0, none⟩)] (.panicking [{ v := .iface 63 (.agg #[.int .i64 ex, .int .i64 ey]), recovered := false }]) w fun e u' w' =>
      e = .returned (.tuple #[]) ∧ u' = .panicking [{ v := .iface 63 (.agg #[.int .i64 ex, .int .i64 ey]), recovered := true }] ∧
        Blk w' b1 #[.int .i64 ex] 27 ∧ Blk w' b2 #[.int .i64 ey] 3 ∧ ∃ w1, w.grownBy w1 (some b1) ∧ w1.grownBy w' (some b2) := by
  have c1 := h1.out.cell 0 (.int .i64 x) rfl
  have c2 := h2.out.cell 0 (.int .i64 y) rfl
  have f1 := h1.out.frozen 0
  have f2 := h2.out.frozen 0
  have l1 := h1.out.lt
  have l2 := h2.out.lt
  refine callsD_of_wpS Tryd.func18 rfl fun c₀ cs hu => ?_
  simp only [Tryd.ntmps18, List.size_toArray, List.length_cons, List.length_nil, Nat.reduceAdd, Nat.reduceSub, Array.replicate_succ, Array.replicate_zero, List.push_toArray, List.append_toArray, List.nil_append, List.cons_append]
  apply wpS_seq
  apply wpS_region
  simp [wpOpsS, go_sem, recoverD, hu, Exit.thenS]
  refine wpS_body _ ?_
  have hta : ∀ w, (Instr.typeAssert (.iface 63 (.agg #[.int .i64 ex, .int .i64 ey])) 20 63 true).run Tryd.prog w = .ok (.tuple #[.agg #[.int .i64 ex, .int .i64 ey], .bool true]) w := by intro w; kernel_rfl
  have heq : ∀ w, (binOp .eql 20 (.iface 63 (.agg #[.int .i64 ex, .int .i64 ey])) .nilIface).run Tryd.prog w = .ok (.bool false) w := by intro w; kernel_rfl
  go_wp2_with fail
  obtain ⟨W, hW⟩ : ∃ W, W = w.alloc (Obj.cells #[Value.int IntKind.i64 ex, Value.int IntKind.i64 ey] 63) := ⟨_, rfl⟩
  rw [← hW]
  have hgW : w.grownBy W none := by rw [hW]; exact gb_alloc _ _ _
  have hF : Blk W w.heap.size #[.int .i64 ex, .int .i64 ey] 63 := by rw [hW]; exact Blk.new _ _ _
  have HB1 : Hid (Blk W b1 #[.int .i64 x] 27) := h1.out.keep hgW (by simp)
  have HB2 : Hid (Blk W b2 #[.int .i64 y] 3) := h2.out.keep hgW (by simp)
  have d0 := hF.cell 0 (.int .i64 ex) rfl
  have d1 := hF.cell 1 (.int .i64 ey) rfl
  clear c1 c2 f1 f2 hF
  have c1 := HB1.out.cell 0 (.int .i64 x) rfl
  have c2 := HB2.out.cell 0 (.int .i64 y) rfl
  have f1 := HB1.out.frozen 0
  have f2 := HB2.out.frozen 0
  have n1 : ¬ b1 = w.heap.size := by omega
  have n2 : ¬ b2 = w.heap.size := by omega
  have n3 : ¬ b2 = b1 := fun e => hne e.symm
  clear hW hta heq hu h1 h2
  go_region
  go_end0
  have hgd : W.grownBy W.drew none := gb_drew _ _
  have k1 := ((HB1.out.keep hgd (by simp)).set 0 (.int .i64 ex)).keep (gb_set _ ⟨b2, 0, none⟩ (.int .i64 ey)) (by simp; exact hne)
  have k2 := ((HB2.out.keep hgd (by simp)).keep (gb_set _ ⟨b1, 0, none⟩ (.int .i64 ex)) (by simp; exact n3)).set 0 (.int .i64 ey)
  exact ⟨rfl, rfl, k1, k2, _, gb_tr (gb_none (gb_tr hgW hgd)) (gb_set _ ⟨b1, 0, none⟩ _), gb_set _ ⟨b2, 0, none⟩ _⟩

set_option maxHeartbeats 300000 in
theorem catch_idle (b1 b2 : Nat) (w : World) :
    CallsD Tryd.prog 18 #[.pointer (some ⟨b1, 0, none⟩), .pointer (some ⟨b2, 0, none⟩)] .returning w fun e u' w' => e = .returned (.tuple #[]) ∧ u' = .returning ∧ w' = w := by
  refine callsD_of_wpS Tryd.func18 rfl fun c₀ cs hu => ?_
  simp only [Tryd.ntmps18, List.size_toArray, List.length_cons, List.length_nil, Nat.reduceAdd, Nat.reduceSub, Array.replicate_succ, Array.replicate_zero, List.push_toArray, List.append_toArray, List.nil_append, List.cons_append]
  apply wpS_seq
  apply wpS_region
  simp [wpOpsS, go_sem, recoverD, hu, Exit.thenS]
  have hc : c₀ = { c₀ with mode := .returning } := by cases c₀; simp_all
  rw [hc]
  refine wpS_body _ ?_
  go_wp2_with fail
  refine bodyPost_ret (results_none rfl _ _ _) rfl ?_
  exact ⟨rfl, rfl⟩

theorem hid {p : Prop} (h : p) : Hid p := h
theorem size_alloc (w : World) (o : Obj) : (w.alloc o).heap.size = w.heap.size + 1 := by simp
/-- how Decode ends: the class, OK and 0; or nothing, the error and its place -/
def DecEnds (w : World) (r : Except Er Cl) (e : Ending) (w' : World) : Prop :=
  w.grownBy w' none ∧ ∃ v c, e = .returned (.tuple #[v, .int .i64 c.1, .int .i64 c.2]) ∧ match r with
    | .ok k => isCl w.heap.size w' v k ∧ c = (0, 0)
    | .error er => c = er ∧ v = .agg #[.string ⟨#[]⟩, .string ⟨#[]⟩, .slice none 0 0, .slice none 0 0]

set_option maxHeartbeats 1000000 in
theorem decode_any (w : World) (f : ByteArray) (hf : f.size ≤ maxLen) (hS : Hid (Shp w)) :
    Calls Tryd.prog 10 #[.string f] w (DecEnds w (dec f)) := by
  have hmf : ∀ (fn : Fn) (first cap : Array Value) (w : World), (Instr.makeFunc fn first cap).run Tryd.prog w = .ok (.func fn first cap) w := fun _ _ _ _ => rfl
  go_enter_defers Tryd.func10, Tryd.ntmps10
  have hA := (((Blk.new w #[.string ⟨#[]⟩, .string ⟨#[]⟩, .slice none 0 0, .slice none 0 0] 25).keep (gb_alloc _ (.cells #[.int .i64 0] 27) none) (by simp)).keep (gb_alloc _ (.cells #[.int .i64 0] 3) none) (by simp))
  have hE := ((Blk.new (w.alloc (.cells #[.string ⟨#[]⟩, .string ⟨#[]⟩, .slice none 0 0, .slice none 0 0] 25)) #[.int .i64 0] 27).keep (gb_alloc _ (.cells #[.int .i64 0] 3) none) (by simp))
  have hP := Blk.new ((w.alloc (.cells #[.string ⟨#[]⟩, .string ⟨#[]⟩, .slice none 0 0, .slice none 0 0] 25)).alloc (.cells #[.int .i64 0] 27)) #[.int .i64 0] 3
  have hg0 : w.grownBy (((w.alloc (.cells #[.string ⟨#[]⟩, .string ⟨#[]⟩, .slice none 0 0, .slice none 0 0] 25)).alloc (.cells #[.int .i64 0] 27)).alloc (.cells #[.int .i64 0] 3)) none := gb_tr (gb_tr (gb_alloc _ _ _) (gb_alloc _ _ _)) (gb_alloc _ _ _)
  have hS0 : Shp (((w.alloc (.cells #[.string ⟨#[]⟩, .string ⟨#[]⟩, .slice none 0 0, .slice none 0 0] 25)).alloc (.cells #[.int .i64 0] 27)).alloc (.cells #[.int .i64 0] 3)) := hS.out.keep hg0 (by simp)
  simp only [size_alloc] at hA hE hP
  have HA := hid hA
  have HE := hid hE
  have HP := hid hP
  clear hA hE hP
  go_wp2_with (go_at_call 19; refine (read_any _ f hf hS0).mono ?_)
  intro e w1 he
  obtain ⟨hg1, he⟩ := he
  have hA1 := HA.out.keep hg1 (by simp)
  have hE1 := HE.out.keep hg1 (by simp)
  have hP1 := HP.out.keep hg1 (by simp)
  have HGG : Hid (w.grownBy w1 none) := gb_tr hg0 hg1
  cases hd : dec f with
  | error er =>
    rw [hd] at he
    simp only at he
    subst he
    unfold thrown
    dsimp only
    have hl := hP1.lt
    go_wp2_with fail
    refine leaves_cons (f := 18) (args := #[.pointer (some ⟨w.heap.size + 1, 0, none⟩), .pointer (some ⟨w.heap.size + 1 + 1, 0, none⟩)]) (by simp) (by simp [go_sem]) ?_
    refine (catch_fault (w.heap.size + 1) (w.heap.size + 1 + 1) 0 0 er.1 er.2 w1 hE1 hP1 (by omega)).mono ?_
    rintro e u' w2 ⟨rfl, rfl, k1, k2, w3, g1, g2⟩
    have hA2 := (hA1.keep g1 (by simp)).keep g2 (by simp; omega)
    have c0 := hA2.cell 0 (.string ⟨#[]⟩) rfl
    have c1 := hA2.cell 1 (.string ⟨#[]⟩) rfl
    have c2 := hA2.cell 2 (.slice none 0 0) rfl
    have c3 := hA2.cell 3 (.slice none 0 0) rfl
    have d0 := k1.cell 0 (.int .i64 er.1) rfl
    have d1 := k2.cell 0 (.int .i64 er.2) rfl
    simp [Leaves, settle, results, Tryd.results10, go_sem, c0, c1, c2, c3, d0, d1]
    refine ⟨?_, _, er, rfl, rfl, rfl⟩
    exact gb_trans (gb_trans HGG.out g1 (fun k e => by cases e; exact .inl (by omega))) g2 (fun k e => by cases e; exact .inl (by omega))
  | ok c =>
    rw [hd] at he
    obtain ⟨v, rfl, hc⟩ := he
    dsimp only
    have hc' := hc
    obtain ⟨a1, q1, a2, q2, rfl, -, -⟩ := hc
    have HC : Hid (isCl _ w1 _ c) := hc'
    clear hc'
    have c0 := hA1.cell 0 (.string ⟨#[]⟩) rfl
    have c1 := hA1.cell 1 (.string ⟨#[]⟩) rfl
    have c2 := hA1.cell 2 (.slice none 0 0) rfl
    have c3 := hA1.cell 3 (.slice none 0 0) rfl
    have z0 := hA1.frozen 0
    have z1 := hA1.frozen 1
    have z2 := hA1.frozen 2
    have z3 := hA1.frozen 3
    have d0 := hE1.cell 0 (.int .i64 0) rfl
    have d1 := hP1.cell 0 (.int .i64 0) rfl
    have y0 := hE1.frozen 0
    have y1 := hP1.frozen 0
    have hl := hP1.lt
    go_wp2_with fail
    refine leaves_cons (f := 18) (args := #[.pointer (some ⟨w.heap.size + 1, 0, none⟩), .pointer (some ⟨w.heap.size + 1 + 1, 0, none⟩)]) (by simp) (by simp [go_sem]) ?_
    refine (catch_idle (w.heap.size + 1) (w.heap.size + 1 + 1) _).mono ?_
    rintro e u' w2 ⟨rfl, rfl, rfl⟩
    simp [Leaves, settle, results, Tryd.results10, go_sem, c0, c1, c2, c3, d0, d1]
    have hbase : isCl (w.heap.size + 1 + 1 + 1) w1 (.agg #[.string c.name, .string c.super, .slice a1 c.fields.length q1, .slice a2 c.methods.length q2]) c := by
      have := HC.out
      simp only [size_alloc] at this
      exact this
    refine ⟨?_, _, (0, 0), rfl, ?_⟩
    · exact gb_trans (gb_trans (gb_trans HGG.out (gb_sets4 (g := w.heap.size)) (fun k e => .inl (by cases e; omega))) (gb_set _ ⟨w.heap.size + 1, 0, none⟩ _) (fun k e => .inl (by cases e; simp))) (gb_set _ ⟨w.heap.size + 1 + 1, 0, none⟩ _) (fun k e => .inl (by cases e; simp; omega))
    · rw [hd]
      refine ⟨isCl.base (b1 := w.heap.size + 1 + 1 + 1) ?_ (by omega), rfl⟩
      exact ((hbase.keep (gb_sets4 (g := w.heap.size)) (fun k e => by cases e; omega)).keep (gb_set _ ⟨w.heap.size + 1, 0, none⟩ _) (fun k e => by cases e; simp)).keep (gb_set _ ⟨w.heap.size + 1 + 1, 0, none⟩ _) (fun k e => by cases e; simp)
end Go.Proofs.YtdhophglnhcjbaaDoor
