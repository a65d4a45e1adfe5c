import Derived.Test.YtcpicefhhnbgkaaDoorT9
namespace Go.Proofs.YtcpicefhhnbgkaaDoor
open Go.RowKit Cf

def isCl (base : Nat) (w : World) (v : Value) (c : Cl) : Prop :=
  ∃ a1 k1 a2 k2, v = .agg #[.string c.name, .string c.super, .slice a1 c.fields.length k1, .slice a2 c.methods.length k2] ∧
    IsRow base 43 3 encFld w (.slice a1 c.fields.length k1) c.fields ∧ IsMes base w (.slice a2 c.methods.length k2) c.methods

theorem IsRow.keep {α : Type} {base e size : Nat} {enc : α → List Value} {w w' : World} {v : Value} {xs : List α} {row : Option Nat} (h : IsRow base e size enc w v xs) (hg : w.grownBy w' row) (hr : ∀ k, row = some k → k < base) : IsRow base e size enc w' v xs := by
  refine World.ownsRow.kept h hg ?_
  cases row with
  | none => cases hv : v.ownBlock <;> simp
  | some k => exact .inr (own_ne h (hr k rfl))
theorem IsRow.base {α : Type} {base base' e size : Nat} {enc : α → List Value} {w : World} {v : Value} {xs : List α} (h : IsRow base e size enc w v xs) (hb : base' ≤ base) : IsRow base' e size enc w v xs := own_base h hb
theorem IsMes.base {base base' : Nat} {w : World} {v : Value} {ms : List Me} (h : IsMes base w v ms) (hb : base' ≤ base) : IsMes base' w v ms := by
  obtain ⟨css, h1, h2, h3⟩ := h
  exact ⟨css, h1, own_base h2 hb, fun i c m hc hm => (h3 i c m hc hm).base hb⟩
theorem IsMes.slice {base : Nat} {w : World} {v : Value} {ms : List Me} (h : IsMes base w v ms) : ∃ a c, v = .slice a ms.length c := by
  obtain ⟨css, h1, h2, h3⟩ := h
  exact own_slice h2
theorem isCl.keep {base : Nat} {w w' : World} {v : Value} {c : Cl} {row : Option Nat} (h : isCl base w v c) (hg : w.grownBy w' row) (hr : ∀ k, row = some k → k < base) : isCl base w' v c := by
  obtain ⟨a1, k1, a2, k2, hv, h1, h2⟩ := h
  exact ⟨a1, k1, a2, k2, hv, h1.keep hg hr, h2.keep hg hr⟩
theorem isCl.base {b1 b2 : Nat} {w : World} {v : Value} {c : Cl} (h : isCl b1 w v c) (hb : b2 ≤ b1) : isCl b2 w v c := by
  obtain ⟨a1, k1, a2, k2, hv, h1, h2⟩ := h
  exact ⟨a1, k1, a2, k2, hv, h1.base hb, h2.base hb⟩

theorem gb_sets4 {w : World} {g : Nat} {i0 i1 i2 i3 : Nat} {x0 x1 x2 x3 : Value} :
    w.grownBy ((((w.setCell ⟨g, i0, none⟩ x0).setCell ⟨g, i1, none⟩ x1).setCell ⟨g, i2, none⟩ x2).setCell ⟨g, i3, none⟩ x3) (some g) :=
  gb_tr (gb_tr (gb_tr (gb_set _ ⟨g, i0, none⟩ _) (gb_set _ ⟨g, i1, none⟩ _)) (gb_set _ ⟨g, i2, none⟩ _)) (gb_set _ ⟨g, i3, none⟩ _)

set_option maxHeartbeats 1000000 in
theorem class_any (w : World) (b : Nat) (f : ByteArray) (pv : Value) (st : St) (h : Hid (Rd w b f pv st)) (hS : Hid (Shp w)) (hb0 : 0 < b) :
    Calls Tryd.prog 32 #[.pointer (some ⟨b, 0, none⟩)] w (Ends w b f pv (cls f st) (isCl w.heap.size)) := by
  have hbl : b < w.heap.size := h.out.lt
  have hmf : ∀ (fn : Fn) (first cap : Array Value) (w : World), (Instr.makeFunc fn first cap).run Tryd.prog w = .ok (.func fn first cap) w := fun _ _ _ _ => rfl
  go_enter Tryd.func32, Tryd.ntmps32
  go_wp2_with (first
    | (go_at_call 44
       refine Ends.bind (name_any w1 b f pv st1 hR1) (fun er w' hr hg => ⟨rfl, .err (er := er) (by simp only [cls, H1.out, hr]) rfl rfl (gb_tr hg1 hg)⟩) ?_
       rintro su st2 v w2 H2 rfl hR2 hg2'
       have hg2 := gb_tr hg1 hg2'
       have hB2 := hB1.keep hg2' (by simp; omega)
       have s2 : w1.heap.size ≤ w2.heap.size := hg2'.size
       clear hg2' hB1
       dsimp only)
    | (go_at_call 44
       refine Ends.bind (name_any _ b f pv st (h.out.keep (gb_alloc _ _ _))) (fun er w' hr hg => ⟨rfl, .err (er := er) (by simp only [cls, hr]) rfl rfl (gb_tr (gb_alloc _ _ _) hg)⟩) ?_
       rintro n st1 v w1 H1 rfl hR1 hg1'
       have hg1 := gb_tr (gb_alloc w _ (some b)) hg1'
       have hB1 := (Blk.new w _ _).keep hg1' (by simp; omega)
       have s1 : w.heap.size < w1.heap.size := by have := hB1.lt; omega
       clear hg1'
       dsimp only)
    | (go_at_call 45
       refine Ends.bind (list_fld_any w2 b f pv st2 1 hR2 (by omega) (fun wx sx hgx hx => field_any wx b f pv sx hx)) (fun er w' hr hg => ⟨rfl, .err (er := er) (by simp only [cls, H1.out, H2.out, hr]) rfl rfl (gb_tr hg2 hg)⟩) ?_
       rintro fs st3 v3 w3 H3 hv3 hR3 hg3'
       have hg3 := gb_tr hg2 hg3'
       have hB3 := hB2.keep hg3' (by simp; omega)
       have s3 : w2.heap.size ≤ w3.heap.size := hg3'.size
       obtain ⟨a3, k3, rfl⟩ := own_slice hv3
       have hL3 : Hid (IsRow w2.heap.size 43 3 encFld w3 (.slice a3 fs.length k3) fs) := hv3
       clear hv3 hg3' hB2
       dsimp only)
    | (go_at_call 47
       refine Ends.bind (list_me_any w3 b f pv st3 1 hR3 (by omega) (hS.out.keep hg3 (by simp; omega)) hb0) (fun er w' hr hg => ⟨rfl, .err (er := er) (by simp only [cls, H1.out, H2.out, H3.out, hr]) rfl rfl (gb_tr hg3 hg)⟩) ?_
       rintro ms st4 v4 w4 H4 hv4 hR4 hg4'
       have hg4 := gb_tr hg3 hg4'
       have hB4 := hB3.keep hg4' (by simp; omega)
       have s4 : w3.heap.size ≤ w4.heap.size := hg4'.size
       obtain ⟨a4, k4, rfl⟩ := hv4.slice
       have hM4 : Hid (IsMes w3.heap.size w4 (.slice a4 ms.length k4) ms) := hv4
       have hL4 : Hid (IsRow w2.heap.size 43 3 encFld w4 (.slice a3 fs.length k3) fs) := hL3.out.keep hg4' (fun k e => by cases e; omega)
       have c0 := hB4.cell 0 _ rfl
       have c1 := hB4.cell 1 _ rfl
       have c2 := hB4.cell 2 _ rfl
       have c3 := hB4.cell 3 _ rfl
       have z0 := hB4.frozen 0
       have z1 := hB4.frozen 1
       have z2 := hB4.frozen 2
       have z3 := hB4.frozen 3
       clear hv4 hg4' hB3 hL3 hB4
       dsimp only))
  refine bodyPost_ret (v := .agg #[.string n, .string su, .slice a3 fs.length k3, .slice a4 ms.length k4]) (by simp [results, Tryd.results32, go_sem, c0, c1, c2, c3]) rfl ?_
  refine .ok (a := ⟨n, su, fs, ms⟩) (st := st4) ?_ ?_ ?_ ?_
  · simp only [cls, H1.out, H2.out, H3.out, H4.out]
  · exact gb_trans hg4 (gb_sets4 (g := w.heap.size)) (fun k e => .inl (by cases e; exact Nat.le_refl _))
  · exact ⟨_, _, _, _, rfl, (hL4.out.keep (gb_sets4 (g := w.heap.size)) (fun k e => by cases e; omega)).base (by omega), (hM4.out.keep (gb_sets4 (g := w.heap.size)) (fun k e => by cases e; omega)).base (by omega)⟩
  · exact hR4.out.keepAt (gb_sets4 (g := w.heap.size)) (by omega) (h.out.poolLt (Nat.le_refl _))

set_option maxHeartbeats 400000 in
theorem end_any (w : World) (b : Nat) (f : ByteArray) (pv : Value) (st : St) (h : Hid (Rd w b f pv st)) :
    Calls Tryd.prog 33 #[.pointer (some ⟨b, 0, none⟩)] w
      (Ends w b f pv (if st.used < st.pool.length then .error (5, f.size) else if st.at_ < f.size then .error (6, st.at_) else .ok ((), st)) (fun _ v _ => v = .tuple #[])) := by
  obtain ⟨-, ho, c0, c1, c2, c3, -, -, -⟩ := h.out.cells
  obtain ⟨a, k, rfl⟩ := own_slice ho
  clear ho
  by_cases h1 : st.used < st.pool.length
  · rw [if_pos h1]
    go_enter Tryd.func33, Tryd.ntmps33
    go_wp2
    go_quiet (fail)
    go_wp2
    exact ⟨rfl, .err (er := (5, f.size)) rfl rfl rfl (gb_drewN _ _ _)⟩
  · rw [if_neg h1]
    by_cases h2 : st.at_ < f.size
    · rw [if_pos h2]
      go_enter Tryd.func33, Tryd.ntmps33
      go_wp2
      go_quiet (fail)
      go_wp2
      go_quiet (fail)
      go_wp2
      exact ⟨rfl, .err (er := (6, st.at_)) rfl rfl rfl (gb_drewN _ _ _)⟩
    · rw [if_neg h2]
      go_enter Tryd.func33, Tryd.ntmps33
      go_wp2
      go_quiet (fail)
      go_wp2
      go_quiet (fail)
      go_wp2
      go_end0
      exact .ok rfl (gb_tr (gb_drewN _ _ _) (gb_drewN _ _ _)) rfl (h.out.keep (gb_tr (gb_drewN _ _ _) (gb_drewN _ _ _)))
end Go.Proofs.YtcpicefhhnbgkaaDoor
