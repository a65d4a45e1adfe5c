import Derived.Test.YtcpicefhhnbgkaaDoorE12
namespace Go.Proofs.YtcpicefhhnbgkaaDoor
open Go.RowKit Cf

theorem flatten_get (css : List (List Value)) (sz : Nat) (hs : ∀ c ∈ css, c.length = sz) (j : Nat) (c : List Value) (hj : css[j]? = some c) (r : Nat) (hr : r < sz) : css.flatten[j * sz + r]? = c[r]? := by
  induction css generalizing j with
  | nil => simp at hj
  | cons x l ih =>
    rw [List.flatten_cons]
    cases j with
    | zero =>
      simp at hj
      subst hj
      rw [Nat.zero_mul, Nat.zero_add, List.getElem?_append_left (by rw [hs x (by simp)]; exact hr)]
    | succ j =>
      rw [List.getElem?_append_right (by rw [hs x (by simp), Nat.succ_mul]; omega), hs x (by simp), show (j + 1) * sz + r - sz = j * sz + r by rw [Nat.succ_mul]; omega]
      exact ih (fun c hc => hs c (by simp [hc])) j (by simpa using hj)
/-- where a class's methods lie, place by place -/
theorem mes_at {base : Nat} {w : World} {a : Option Addr} {n k : Nat} {ms : List Me} (h : IsMes base w (.slice a n k) ms) (j : Nat) (hj : j < ms.length) :
    ∃ g p1 q1 p2 q2 p3 q3, a = some ⟨g, 0, none⟩ ∧
      IsRow base 41 2 encTy w (.slice p1 ms[j].params.length q1) ms[j].params ∧ IsRow base 50 4 encIn w (.slice p2 ms[j].code.length q2) ms[j].code ∧ IsRow base 52 4 encHd w (.slice p3 ms[j].handlers.length q3) ms[j].handlers ∧
      ∀ r u, [Value.string ms[j].name, .slice p1 ms[j].params.length q1, .int .i64 ms[j].ret.kind, .string ms[j].ret.name, .int .i64 ms[j].stack, .int .i64 ms[j].locals, .slice p2 ms[j].code.length q2, .slice p3 ms[j].handlers.length q3][r]? = some u → w.cell? ⟨g, j * 8 + r, none⟩ = some u := by
  obtain ⟨css, hl, ho, hc⟩ := h
  have h8 : ∀ c ∈ css, c.length = 8 := by
    intro c hcm
    obtain ⟨i, hi, rfl⟩ := List.getElem_of_mem hcm
    obtain ⟨pv, cv, hv, e, -⟩ := hc i css[i] (ms[i]'(by omega)) (List.getElem?_eq_getElem hi) (List.getElem?_eq_getElem (by omega))
    rw [e]; rfl
  obtain ⟨pv, cv, hv, e, h1, h2, h3, -⟩ := hc j (css[j]'(by omega)) ms[j] (List.getElem?_eq_getElem (by omega)) (List.getElem?_eq_getElem hj)
  obtain ⟨p1, q1, rfl⟩ := own_slice h1
  obtain ⟨p2, q2, rfl⟩ := own_slice h2
  obtain ⟨p3, q3, rfl⟩ := own_slice h3
  rcases ho.2 with ⟨-, hn⟩ | ⟨g, cap, cur, hv', _⟩
  · omega
  · injection hv' with e1 e2 e3
    subst e1
    refine ⟨g, p1, q1, p2, q2, p3, q3, rfl, h1, h2, h3, fun r u hu => ?_⟩
    have hr : r < 8 := by
      have := (List.getElem?_eq_some_iff.1 hu).1
      simpa using this
    have := ho.cells (g := g) rfl (j * 8 + r) u (by rw [flatten_get css 8 h8 j (css[j]'(by omega)) (List.getElem?_eq_getElem (by omega)) r hr, e]; exact hu)
    unfold Addr.add at this
    split at this
    · rename_i h0; rw [h0]; exact this
    · simpa using this
/-- no list is longer than a file can make it -/
def Small (c : Cl) : Prop := c.fields.length ≤ 65536 ∧ c.methods.length ≤ 65536 ∧ ∀ j (hj : j < c.methods.length), c.methods[j].params.length ≤ 65536 ∧ c.methods[j].code.length ≤ 65536 ∧ c.methods[j].handlers.length ≤ 65536

set_option maxRecDepth 100000 in
set_option maxHeartbeats 1000000 in
theorem same_any (w : World) (b1 b2 : Nat) (v1 v2 : Value) (c : Cl) (h1 : Hid (isCl b1 w v1 c)) (h2 : Hid (isCl b2 w v2 c)) (hs : Hid (Small c)) :
    Calls Tryd.prog 12 #[v1, v2] w fun e w' => e = .returned (.bool true) ∧ w.grownBy w' none := by
  obtain ⟨f1a, f1k, m1a, m1k, rfl, hf1, hm1⟩ := h1.out
  obtain ⟨f2a, f2k, m2a, m2k, rfl, hf2, hm2⟩ := h2.out
  have HF1 : Hid (IsRow b1 43 3 encFld w (.slice f1a c.fields.length f1k) c.fields) := hf1
  have HF2 : Hid (IsRow b2 43 3 encFld w (.slice f2a c.fields.length f2k) c.fields) := hf2
  have HM1 : Hid (IsMes b1 w (.slice m1a c.methods.length m1k) c.methods) := hm1
  have HM2 : Hid (IsMes b2 w (.slice m2a c.methods.length m2k) c.methods) := hm2
  have hlf : c.fields.length ≤ 65536 := hs.out.1
  have hlm : c.methods.length ≤ 65536 := hs.out.2.1
  clear hf1 hf2 hm1 hm2 h1 h2
  go_enter Tryd.func12, Tryd.ntmps12
  have hgA : Hid (w.grownBy ((w.alloc (.cells #[.string c.name, .string c.super, .slice f1a c.fields.length f1k, .slice m1a c.methods.length m1k] 25)).alloc (.cells #[.string c.name, .string c.super, .slice f2a c.fields.length f2k, .slice m2a c.methods.length m2k] 25)) none) := gb_tr (gb_alloc _ _ _) (gb_alloc _ _ _)
  have hA1 : Hid (Blk ((w.alloc (.cells #[.string c.name, .string c.super, .slice f1a c.fields.length f1k, .slice m1a c.methods.length m1k] 25)).alloc (.cells #[.string c.name, .string c.super, .slice f2a c.fields.length f2k, .slice m2a c.methods.length m2k] 25)) w.heap.size #[.string c.name, .string c.super, .slice f1a c.fields.length f1k, .slice m1a c.methods.length m1k] 25) := (Blk.new w _ _).keep (gb_alloc _ _ none) (by simp)
  have hA2 : Hid (Blk ((w.alloc (.cells #[.string c.name, .string c.super, .slice f1a c.fields.length f1k, .slice m1a c.methods.length m1k] 25)).alloc (.cells #[.string c.name, .string c.super, .slice f2a c.fields.length f2k, .slice m2a c.methods.length m2k] 25)) (w.heap.size + 1) #[.string c.name, .string c.super, .slice f2a c.fields.length f2k, .slice m2a c.methods.length m2k] 25) := by
    have := Blk.new (w.alloc (.cells #[.string c.name, .string c.super, .slice f1a c.fields.length f1k, .slice m1a c.methods.length m1k] 25)) #[.string c.name, .string c.super, .slice f2a c.fields.length f2k, .slice m2a c.methods.length m2k] 25
    unfold Hid
    simpa using this
  go_wp2_with fail
  go_loopw [5] (fun i wr => ∃ j : Nat, j ≤ c.fields.length ∧ i = .int .i64 j ∧ Hid (w.grownBy wr none) ∧ Hid (Blk wr w.heap.size #[.string c.name, .string c.super, .slice f1a c.fields.length f1k, .slice m1a c.methods.length m1k] 25) ∧ Hid (Blk wr (w.heap.size + 1) #[.string c.name, .string c.super, .slice f2a c.fields.length f2k, .slice m2a c.methods.length m2k] 25)) (fun i _ => c.fields.length - (intOf i).toNat)
  case atStart => exact ⟨0, Nat.zero_le _, rfl, hgA, hA1, hA2⟩
  case round =>
    clear hgA hA1 hA2
    obtain ⟨j, hj, rfl, HG, HB1, HB2⟩ := hrel
    have e1 := HB1.out.cell 2 _ rfl
    have e2 := HB2.out.cell 2 _ rfl
    have e3 := HB1.out.cell 3 _ rfl
    by_cases hlt : j < c.fields.length
    · obtain ⟨g1, rfl, hc1⟩ := row_at (enc := encFld) (fun _ => rfl) (HF1.out.keep HG.out (by simp)) j hlt
      obtain ⟨g2, rfl, hc2⟩ := row_at (enc := encFld) (fun _ => rfl) (HF2.out.keep HG.out (by simp)) j hlt
      have f0 : wr.cell? ⟨g1, j * 3, none⟩ = some (.string c.fields[j].name) := hc1 0 _ rfl
      have k0 : wr.cell? ⟨g2, j * 3, none⟩ = some (.string c.fields[j].name) := hc2 0 _ rfl
      have f1 : wr.cell? ⟨g1, j * 3 + 1, none⟩ = some (.int .i64 c.fields[j].ty.kind) := hc1 1 _ rfl
      have k1 : wr.cell? ⟨g2, j * 3 + 1, none⟩ = some (.int .i64 c.fields[j].ty.kind) := hc2 1 _ rfl
      have f2 : wr.cell? ⟨g1, j * 3 + 2, none⟩ = some (.string c.fields[j].ty.name) := hc1 2 _ rfl
      have k2 : wr.cell? ⟨g2, j * 3 + 2, none⟩ = some (.string c.fields[j].ty.name) := hc2 2 _ rfl
      clear hc1 hc2
      go_wp2_with fail
      go_quiet (fail)
      go_wp2_with fail
      go_roundw
      case rel => exact ⟨j + 1, hlt, by go_num, gb_tn HG.out (gb_drewN _ _ _), HB1.out.keep (gb_drewN _ _ none) (by simp), HB2.out.keep (gb_drewN _ _ none) (by simp)⟩
      case measure => simp [intOf]; omega
    · go_wp2_with fail
      go_loopw [6] (fun i wr => ∃ j : Nat, j ≤ c.methods.length ∧ i = .int .i64 j ∧ Hid (w.grownBy wr none) ∧ Hid (Blk wr w.heap.size #[.string c.name, .string c.super, .slice f1a c.fields.length f1k, .slice m1a c.methods.length m1k] 25) ∧ Hid (Blk wr (w.heap.size + 1) #[.string c.name, .string c.super, .slice f2a c.fields.length f2k, .slice m2a c.methods.length m2k] 25)) (fun i _ => c.methods.length - (intOf i).toNat)
      case atStart => exact ⟨0, Nat.zero_le _, rfl, HG, HB1, HB2⟩
      case round =>
        clear HG HB1 HB2 e1 e2 e3
        obtain ⟨j, hj, rfl, HG, HB1, HB2⟩ := hrel
        have e1 := HB1.out.cell 3 _ rfl
        have e2 := HB2.out.cell 3 _ rfl
        by_cases hlt : j < c.methods.length
        · obtain ⟨g1, p1, q1, p2, q2, p3, q3, rfl, ha1, ha2, ha3, hc1⟩ := mes_at (HM1.out.keep HG.out (by simp)) j hlt
          obtain ⟨g2, r1, s1, r2, s2, r3, s3, rfl, hb1, hb2, hb3, hc2⟩ := mes_at (HM2.out.keep HG.out (by simp)) j hlt
          obtain ⟨m, hm⟩ : ∃ m, m = c.methods[j] := ⟨_, rfl⟩
          have hsm := hs.out.2.2 j hlt
          rw [← hm] at ha1 ha2 ha3 hb1 hb2 hb3 hc1 hc2 hsm
          have HL1 : Hid (m.params.length ≤ 65536) := hsm.1
          have HL2 : Hid (m.code.length ≤ 65536) := hsm.2.1
          have HL3 : Hid (m.handlers.length ≤ 65536) := hsm.2.2
          have f0 : wr.cell? ⟨g1, j * 8, none⟩ = some (.string m.name) := hc1 0 _ rfl
          have k0 : wr.cell? ⟨g2, j * 8, none⟩ = some (.string m.name) := hc2 0 _ rfl
          have f1 : wr.cell? ⟨g1, j * 8 + 1, none⟩ = some (.slice p1 m.params.length q1) := hc1 1 _ rfl
          have k1 : wr.cell? ⟨g2, j * 8 + 1, none⟩ = some (.slice r1 m.params.length s1) := hc2 1 _ rfl
          have f2 : wr.cell? ⟨g1, j * 8 + 2, none⟩ = some (.int .i64 m.ret.kind) := hc1 2 _ rfl
          have k2 : wr.cell? ⟨g2, j * 8 + 2, none⟩ = some (.int .i64 m.ret.kind) := hc2 2 _ rfl
          have f3 : wr.cell? ⟨g1, j * 8 + 3, none⟩ = some (.string m.ret.name) := hc1 3 _ rfl
          have k3 : wr.cell? ⟨g2, j * 8 + 3, none⟩ = some (.string m.ret.name) := hc2 3 _ rfl
          have f4 : wr.cell? ⟨g1, j * 8 + 4, none⟩ = some (.int .i64 m.stack) := hc1 4 _ rfl
          have k4 : wr.cell? ⟨g2, j * 8 + 4, none⟩ = some (.int .i64 m.stack) := hc2 4 _ rfl
          have f5 : wr.cell? ⟨g1, j * 8 + 5, none⟩ = some (.int .i64 m.locals) := hc1 5 _ rfl
          have k5 : wr.cell? ⟨g2, j * 8 + 5, none⟩ = some (.int .i64 m.locals) := hc2 5 _ rfl
          have f6 : wr.cell? ⟨g1, j * 8 + 6, none⟩ = some (.slice p2 m.code.length q2) := hc1 6 _ rfl
          have k6 : wr.cell? ⟨g2, j * 8 + 6, none⟩ = some (.slice r2 m.code.length s2) := hc2 6 _ rfl
          have f7 : wr.cell? ⟨g1, j * 8 + 7, none⟩ = some (.slice p3 m.handlers.length q3) := hc1 7 _ rfl
          have k7 : wr.cell? ⟨g2, j * 8 + 7, none⟩ = some (.slice r3 m.handlers.length s3) := hc2 7 _ rfl
          have HI1 : Hid (isMe b1 wr.drew (.agg #[.string m.name, .slice p1 m.params.length q1, .int .i64 m.ret.kind, .string m.ret.name, .int .i64 m.stack, .int .i64 m.locals, .slice p2 m.code.length q2, .slice p3 m.handlers.length q3]) m) := ⟨_, rfl, _, _, _, rfl, ha1.keep (gb_drew _ none) (by simp), ha2.keep (gb_drew _ none) (by simp), ha3.keep (gb_drew _ none) (by simp), fun _ _ => trivial⟩
          have HI2 : Hid (isMe b2 wr.drew (.agg #[.string m.name, .slice r1 m.params.length s1, .int .i64 m.ret.kind, .string m.ret.name, .int .i64 m.stack, .int .i64 m.locals, .slice r2 m.code.length s2, .slice r3 m.handlers.length s3]) m) := ⟨_, rfl, _, _, _, rfl, hb1.keep (gb_drew _ none) (by simp), hb2.keep (gb_drew _ none) (by simp), hb3.keep (gb_drew _ none) (by simp), fun _ _ => trivial⟩
          clear hc1 hc2 ha1 ha2 ha3 hb1 hb2 hb3 hm hsm
          go_wp2_with fail
          go_region_held2 (fun w' => w'.cell? ⟨w.heap.size, 3, none⟩ = some (.slice (some ⟨g1, 0, none⟩) c.methods.length m1k) ∧ w'.cell? ⟨w.heap.size + 1, 3, none⟩ = some (.slice (some ⟨g2, 0, none⟩) c.methods.length m2k) ∧ w'.cell? ⟨g1, j * 8, none⟩ = some (.string m.name) ∧ w'.cell? ⟨g2, j * 8, none⟩ = some (.string m.name) ∧ w'.cell? ⟨g1, j * 8 + 1, none⟩ = some (.slice p1 m.params.length q1) ∧ w'.cell? ⟨g2, j * 8 + 1, none⟩ = some (.slice r1 m.params.length s1) ∧ w'.cell? ⟨g1, j * 8 + 2, none⟩ = some (.int .i64 m.ret.kind) ∧ w'.cell? ⟨g2, j * 8 + 2, none⟩ = some (.int .i64 m.ret.kind) ∧ w'.cell? ⟨g1, j * 8 + 3, none⟩ = some (.string m.ret.name) ∧ w'.cell? ⟨g2, j * 8 + 3, none⟩ = some (.string m.ret.name) ∧ w'.cell? ⟨g1, j * 8 + 4, none⟩ = some (.int .i64 m.stack) ∧ w'.cell? ⟨g2, j * 8 + 4, none⟩ = some (.int .i64 m.stack) ∧ w'.cell? ⟨g1, j * 8 + 5, none⟩ = some (.int .i64 m.locals) ∧ w'.cell? ⟨g2, j * 8 + 5, none⟩ = some (.int .i64 m.locals) ∧ w'.cell? ⟨g1, j * 8 + 6, none⟩ = some (.slice p2 m.code.length q2) ∧ w'.cell? ⟨g2, j * 8 + 6, none⟩ = some (.slice r2 m.code.length s2) ∧ w'.cell? ⟨g1, j * 8 + 7, none⟩ = some (.slice p3 m.handlers.length q3) ∧ w'.cell? ⟨g2, j * 8 + 7, none⟩ = some (.slice r3 m.handlers.length s3)) (go_keep)
            (first | (go_at_call 26
                      refine (sameMethods_any _ b1 b2 _ _ m HI1 HI2 HL1.out HL2.out HL3.out).mono ?_
                      rintro e w2 ⟨rfl, hg2⟩
                      have HG2 : Hid (w.grownBy w2 none) := gb_tr (gb_tr HG.out (gb_drew _ none)) hg2
                      have HC1 : Hid (Blk w2 w.heap.size _ _) := (HB1.out.keep (gb_drew _ none) (by simp)).keep hg2 (by simp)
                      have HC2 : Hid (Blk w2 (w.heap.size + 1) _ _) := (HB2.out.keep (gb_drew _ none) (by simp)).keep hg2 (by simp)
                      have hgd := gb_tr (gb_drew wr none) hg2
                      have n0 := hgd.cell f0 (by simp)
                      have l0 := hgd.cell k0 (by simp)
                      have n1 := hgd.cell f1 (by simp)
                      have l1 := hgd.cell k1 (by simp)
                      have n2 := hgd.cell f2 (by simp)
                      have l2 := hgd.cell k2 (by simp)
                      have n3 := hgd.cell f3 (by simp)
                      have l3 := hgd.cell k3 (by simp)
                      have n4 := hgd.cell f4 (by simp)
                      have l4 := hgd.cell k4 (by simp)
                      have n5 := hgd.cell f5 (by simp)
                      have l5 := hgd.cell k5 (by simp)
                      have n6 := hgd.cell f6 (by simp)
                      have l6 := hgd.cell k6 (by simp)
                      have n7 := hgd.cell f7 (by simp)
                      have l7 := hgd.cell k7 (by simp)
                      have x1 := hgd.cell e1 (by simp)
                      have x2 := hgd.cell e2 (by simp)))
          go_wp2_with fail
          go_roundw
          case rel => exact ⟨j + 1, hlt, by go_num, HG2, HC1, HC2⟩
          case measure => simp [intOf]; omega
        · go_wp2_with fail
          go_ret
          exact ⟨rfl, HG.out⟩
end Go.Proofs.YtcpicefhhnbgkaaDoor
