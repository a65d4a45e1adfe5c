import Derived.Test.YtcpicefhhnbgkaaDoorT7
namespace Go.Proofs.YtcpicefhhnbgkaaDoor
open Go.RowKit Cf

theorem own_base {w : World} {base base' e size n : Nat} {v : Value} {cs : List Value} (h : w.ownsRow base e size v n cs) (hb : base' ≤ base) : w.ownsRow base' e size v n cs :=
  ⟨h.1, h.2.imp id (fun ⟨g, cap, cur, h1, h2, h3⟩ => ⟨g, cap, cur, h1, Nat.le_trans hb h2, h3⟩)⟩

theorem own_slice {w : World} {base e size n : Nat} {v : Value} {cs : List Value} (h : w.ownsRow base e size v n cs) : ∃ a c, v = .slice a n c := by
  rcases h.2 with ⟨rfl, rfl⟩ | ⟨g, cap, cur, rfl, _⟩
  · exact ⟨_, _, rfl⟩
  · exact ⟨_, _, rfl⟩

theorem gb_sets8 {w : World} {g : Nat} {i0 i1 i2 i3 i4 i5 i6 i7 : Nat} {x0 x1 x2 x3 x4 x5 x6 x7 : Value} :
    w.grownBy ((((((((w.setCell ⟨g, i0, none⟩ x0).setCell ⟨g, i1, none⟩ x1).setCell ⟨g, i2, none⟩ x2).setCell ⟨g, i3, none⟩ x3).setCell ⟨g, i4, none⟩ x4).setCell ⟨g, i5, none⟩ x5).setCell ⟨g, i6, none⟩ x6).setCell ⟨g, i7, none⟩ x7) (some g) :=
  gb_tr (gb_tr (gb_tr (gb_tr (gb_tr (gb_tr (gb_tr (gb_set _ ⟨g, i0, none⟩ _) (gb_set _ ⟨g, i1, none⟩ _)) (gb_set _ ⟨g, i2, none⟩ _)) (gb_set _ ⟨g, i3, none⟩ _)) (gb_set _ ⟨g, i4, none⟩ _)) (gb_set _ ⟨g, i5, none⟩ _)) (gb_set _ ⟨g, i6, none⟩ _)) (gb_set _ ⟨g, i7, none⟩ _)

/-- a method as it lies in eight cells; its lists in blocks of which P holds -/
def MeCells (P : Nat → Prop) (base : Nat) (w : World) (c : List Value) (m : Me) : Prop :=
  ∃ pv cv hv, c = [.string m.name, pv, .int .i64 m.ret.kind, .string m.ret.name, .int .i64 m.stack, .int .i64 m.locals, cv, hv] ∧
    IsRow base 41 2 encTy w pv m.params ∧ IsRow base 50 4 encIn w cv m.code ∧ IsRow base 52 4 encHd w hv m.handlers ∧
    (∀ g, pv.ownBlock = some g ∨ cv.ownBlock = some g ∨ hv.ownBlock = some g → P g)
def isMe (base : Nat) (w : World) (v : Value) (m : Me) : Prop := ∃ c, v = .agg (List.toArray c) ∧ MeCells (fun _ => True) base w c m

set_option maxHeartbeats 1000000 in
theorem method_any (w : World) (b : Nat) (f : ByteArray) (pv : Value) (st : St) (h : Hid (Rd w b f pv st)) (hS : Hid (Shp w)) (hb0 : 0 < b) :
    Calls Tryd.prog 48 #[.pointer (some ⟨b, 0, none⟩)] w (Ends w b f pv (meth f st) (isMe w.heap.size)) := by
  have hbl : b < w.heap.size := h.out.lt
  have hmf : ∀ (fn : Fn) (first cap : Array Value) (w : World), (Instr.makeFunc fn first cap).run Tryd.prog w = .ok (.func fn first cap) w := fun _ _ _ _ => rfl
  go_enter Tryd.func48, Tryd.ntmps48
  go_wp2_with (first
    | (go_at_call 44
       refine Ends.bind (name_any _ b f pv st (h.out.keep (gb_alloc _ _ _))) (fun er w' hr hg => ⟨rfl, .err (er := er) (by simp only [meth, hr]) rfl rfl (gb_tr (gb_alloc _ _ _) hg)⟩) ?_
       rintro n st1 v w1 H1 rfl hR1 hg1'
       have hg1 := gb_tr (gb_alloc w _ (some b)) hg1'
       have hB1 := (Blk.new w _ _).keep hg1' (by simp; omega)
       have s1 : w.heap.size < w1.heap.size := by have := hB1.lt; omega
       clear hg1'
       dsimp only)
    | (go_at_call 62
       refine Ends.bind (list_ty_any w1 b f pv st1 1 hR1 (by omega) (fun wx sx hgx hx => kind_any wx b f pv sx hx)) (fun er w' hr hg => ⟨rfl, .err (er := er) (by simp only [meth, H1.out, hr]) rfl rfl (gb_tr hg1 hg)⟩) ?_
       rintro ps st2 v2 w2 H2 hv2 hR2 hg2'
       have hg2 := gb_tr hg1 hg2'
       have hB2 := hB1.keep hg2' (by simp; omega)
       have s2 : w1.heap.size ≤ w2.heap.size := hg2'.size
       obtain ⟨a2, k2, rfl⟩ := own_slice hv2
       have hL2 : Hid (IsRow w1.heap.size 41 2 encTy w2 (.slice a2 ps.length k2) ps) := hv2
       clear hv2 hg2' hB1
       dsimp only)
    | (go_at_call 61
       refine Ends.bind (kind_any w2 b f pv st2 hR2) (fun er w' hr hg => ⟨rfl, .err (er := er) (by simp only [meth, H1.out, H2.out, hr]) rfl rfl (gb_tr hg2 hg)⟩) ?_
       rintro rt st3 v w3 H3 rfl hR3 hg3'
       have hg3 := gb_tr hg2 hg3'
       have hB3 := hB2.keep hg3' (by simp; omega)
       have s3 : w2.heap.size ≤ w3.heap.size := hg3'.size
       have hL3 : Hid (IsRow w1.heap.size 41 2 encTy w3 (.slice a2 ps.length k2) ps) := World.ownsRow.kept hL2.out hg3' (.inr (own_ne hL2.out hR1.out.lt))
       clear hg3' hB2 hL2
       dsimp only)
    | (go_at_call 42
       refine Ends.bind (number_any w4 b f pv st4 1 hR4 (by omega)) (fun er w' hr hg => ⟨rfl, .err (er := er) (by simp only [meth, H1.out, H2.out, H3.out, H4.out, hr]) rfl rfl (gb_tr hg4 hg)⟩) ?_
       rintro lo st5 v w5 H5 rfl hR5 hg5'
       have hg5 := gb_tr hg4 hg5'
       have hB5 := hB4.keep hg5' (by simp; omega)
       have s5 : w4.heap.size ≤ w5.heap.size := hg5'.size
       have hL5 : Hid (IsRow w1.heap.size 41 2 encTy w5 (.slice a2 ps.length k2) ps) := World.ownsRow.kept hL4.out hg5' (.inr (own_ne hL4.out hR1.out.lt))
       clear hg5' hB4 hL4
       dsimp only)
    | (go_at_call 42
       refine Ends.bind (number_any w3 b f pv st3 1 hR3 (by omega)) (fun er w' hr hg => ⟨rfl, .err (er := er) (by simp only [meth, H1.out, H2.out, H3.out, hr]) rfl rfl (gb_tr hg3 hg)⟩) ?_
       rintro so st4 v w4 H4 rfl hR4 hg4'
       have hg4 := gb_tr hg3 hg4'
       have hB4 := hB3.keep hg4' (by simp; omega)
       have s4 : w3.heap.size ≤ w4.heap.size := hg4'.size
       have hL4 : Hid (IsRow w1.heap.size 41 2 encTy w4 (.slice a2 ps.length k2) ps) := World.ownsRow.kept hL3.out hg4' (.inr (own_ne hL3.out hR1.out.lt))
       clear hg4' hB3 hL3
       dsimp only)
    | (go_at_call 63
       refine Ends.bind (list_in_any w5 b f pv st5 2 hR5 (by omega) (fun wx sx hgx hx => instruction_any wx b f pv sx hx (hS.out.keep (gb_tr hg5 hgx) (by simp; omega)) hb0)) (fun er w' hr hg => ⟨rfl, .err (er := er) (by simp only [meth, H1.out, H2.out, H3.out, H4.out, H5.out, hr]) rfl rfl (gb_tr hg5 hg)⟩) ?_
       rintro is st6 v6 w6 H6 hv6 hR6 hg6'
       have hg6 := gb_tr hg5 hg6'
       have hB6 := hB5.keep hg6' (by simp; omega)
       have s6 : w5.heap.size ≤ w6.heap.size := hg6'.size
       obtain ⟨a6, k6, rfl⟩ := own_slice hv6
       have hL6 : Hid (IsRow w1.heap.size 41 2 encTy w6 (.slice a2 ps.length k2) ps) := World.ownsRow.kept hL5.out hg6' (.inr (own_ne hL5.out hR1.out.lt))
       have hI6 : Hid (IsRow w5.heap.size 50 4 encIn w6 (.slice a6 is.length k6) is) := hv6
       clear hv6 hg6' hB5 hL5
       dsimp only)
    | (go_at_call 65
       refine Ends.bind (list_hd_any w6 b f pv st6 1 hR6 (by omega) (fun wx sx hgx hx => handler_any wx b f pv sx hx)) (fun er w' hr hg => ⟨rfl, .err (er := er) (by simp only [meth, H1.out, H2.out, H3.out, H4.out, H5.out, H6.out, hr]) rfl rfl (gb_tr hg6 hg)⟩) ?_
       rintro hs st7 v7 w7 H7 hv7 hR7 hg7'
       have hg7 := gb_tr hg6 hg7'
       have hB7 := hB6.keep hg7' (by simp; omega)
       have s7 : w6.heap.size ≤ w7.heap.size := hg7'.size
       obtain ⟨a7, k7, rfl⟩ := own_slice hv7
       have hL7 : Hid (IsRow w1.heap.size 41 2 encTy w7 (.slice a2 ps.length k2) ps) := World.ownsRow.kept hL6.out hg7' (.inr (own_ne hL6.out hR1.out.lt))
       have hI7 : Hid (IsRow w5.heap.size 50 4 encIn w7 (.slice a6 is.length k6) is) := World.ownsRow.kept hI6.out hg7' (.inr (own_ne hI6.out hR5.out.lt))
       have hH7 : Hid (IsRow w6.heap.size 52 4 encHd w7 (.slice a7 hs.length k7) hs) := hv7
       have c0 := hB7.cell 0 _ rfl
       have c1 := hB7.cell 1 _ rfl
       have c2 := hB7.cell 2 _ rfl
       have c3 := hB7.cell 3 _ rfl
       have c4 := hB7.cell 4 _ rfl
       have c5 := hB7.cell 5 _ rfl
       have c6 := hB7.cell 6 _ rfl
       have c7 := hB7.cell 7 _ rfl
       have z0 := hB7.frozen 0
       have z1 := hB7.frozen 1
       have z2 := hB7.frozen 2
       have z3 := hB7.frozen 3
       have z4 := hB7.frozen 4
       have z5 := hB7.frozen 5
       have z6 := hB7.frozen 6
       have z7 := hB7.frozen 7
       clear hv7 hg7' hB6 hL6 hI6 hB7
       dsimp only))
  refine bodyPost_ret (v := .agg #[.string n, .slice a2 ps.length k2, .int .i64 rt.kind, .string rt.name, .int .i64 so, .int .i64 lo, .slice a6 is.length k6, .slice a7 hs.length k7]) (by simp [results, Tryd.results48, go_sem, c0, c1, c2, c3, c4, c5, c6, c7]) rfl ?_
  refine .ok (a := ⟨n, ps, rt, so, lo, is, hs⟩) (st := st7) ?_ ?_ ?_ ?_
  · simp only [meth, H1.out, H2.out, H3.out, H4.out, H5.out, H6.out, H7.out]
  · exact gb_trans hg7 (gb_sets8 (g := w.heap.size)) (fun k e => .inl (by cases e; exact Nat.le_refl _))
  · refine ⟨_, rfl, _, _, _, rfl, ?_, ?_, ?_, fun _ _ => trivial⟩
    · exact own_base (World.ownsRow.kept hL7.out (gb_sets8 (g := w.heap.size)) (.inr (own_ne hL7.out (by omega)))) (by omega)
    · exact own_base (World.ownsRow.kept hI7.out (gb_sets8 (g := w.heap.size)) (.inr (own_ne hI7.out (by omega)))) (by omega)
    · exact own_base (World.ownsRow.kept hH7.out (gb_sets8 (g := w.heap.size)) (.inr (own_ne hH7.out (by omega)))) (by omega)
  · exact hR7.out.keepAt (gb_sets8 (g := w.heap.size)) (by omega) (h.out.poolLt (Nat.le_refl _))
end Go.Proofs.YtcpicefhhnbgkaaDoor
