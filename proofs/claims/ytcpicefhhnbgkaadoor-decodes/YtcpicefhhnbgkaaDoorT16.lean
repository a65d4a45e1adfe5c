import Derived.Test.YtcpicefhhnbgkaaDoorT15
namespace Go.Proofs.YtcpicefhhnbgkaaDoor
open Go.RowKit Cf

/-- behind the recover: the rest of a deferred body as any body, the caller's mode as it is left -/
theorem wpS_body {P : Program} {c : Code} {fn : Func} {c₀ : Frame} {cs : List Frame} {R : Ending → FrameMode → World → Prop} {a : Act} {w : World} (u : FrameMode)
    (h : c.wp P (bodyPost P fn (fun e w' => R e u w')) a w) : c.wpS P (bodyPostS P fn c₀ cs R) a ({ c₀ with mode := u } :: cs) w := by
  refine wpS_of_wp (Code.wp_mono (fun e a' w' hq => ?_) h)
  cases e with
  | normal => obtain ⟨hd, v, hr, hR⟩ := hq; exact ⟨hd, u, rfl, v, hr, hR⟩
  | ret => obtain ⟨hd, v, hr, hR⟩ := hq; exact ⟨hd, u, rfl, v, hr, hR⟩
  | panic chain => obtain ⟨hd, hR⟩ := hq; exact ⟨hd, u, rfl, hR⟩
  | outgrown => exact ⟨u, hq⟩
  | exit id => exact hq
  | goto l => exact hq

set_option maxHeartbeats 300000 in
theorem catch_fault (b1 b2 : Nat) (x y ex ey : Int) (w : World) (h1 : Hid (Blk w b1 #[.int .i64 x] 27)) (h2 : Hid (Blk w b2 #[.int .i64 y] 3)) (hne : b1 ≠ b2) :
    CallsD Tryd.prog 18 #[.pointer (some ⟨b1, 0, none⟩), .pointer (some ⟨b2, 0, none⟩)] (.panicking [{ v := .iface 63 (.agg #[.int .i64 ex, .int .i64 ey]), recovered := false }]) w fun e u' w' =>
      e = .returned (.tuple #[]) ∧ u' = .panicking [{ v := .iface 63 (.agg #[.int .i64 ex, .int .i64 ey]), recovered := true }] ∧
        Blk w' b1 #[.int .i64 ex] 27 ∧ Blk w' b2 #[.int .i64 ey] 3 ∧ ∃ w1, w.grownBy w1 (some b1) ∧ w1.grownBy w' (some b2) := by
  have c1 := h1.out.cell 0 (.int .i64 x) rfl
  have c2 := h2.out.cell 0 (.int .i64 y) rfl
  have f1 := h1.out.frozen 0
  have f2 := h2.out.frozen 0
  have l1 := h1.out.lt
  have l2 := h2.out.lt
  refine callsD_of_wpS Tryd.func18 rfl fun c₀ cs hu => ?_
  simp only [Tryd.ntmps18, List.size_toArray, List.length_cons, List.length_nil, Nat.reduceAdd, Nat.reduceSub, Array.replicate_succ, Array.replicate_zero, List.push_toArray, List.append_toArray, List.nil_append, List.cons_append]
  apply wpS_seq
  apply wpS_region
  simp [wpOpsS, go_sem, recoverD, hu, Exit.thenS]
  refine wpS_body _ ?_
  have hta : ∀ w, (Instr.typeAssert (.iface 63 (.agg #[.int .i64 ex, .int .i64 ey])) 20 63 true).run Tryd.prog w = .ok (.tuple #[.agg #[.int .i64 ex, .int .i64 ey], .bool true]) w := by intro w; kernel_rfl
  have heq : ∀ w, (binOp .eql 20 (.iface 63 (.agg #[.int .i64 ex, .int .i64 ey])) .nilIface).run Tryd.prog w = .ok (.bool false) w := by intro w; kernel_rfl
  go_wp2_with fail
  obtain ⟨W, hW⟩ : ∃ W, W = w.alloc (Obj.cells #[Value.int IntKind.i64 ex, Value.int IntKind.i64 ey] 63) := ⟨_, rfl⟩
  rw [← hW]
  have hgW : w.grownBy W none := by rw [hW]; exact gb_alloc _ _ _
  have hF : Blk W w.heap.size #[.int .i64 ex, .int .i64 ey] 63 := by rw [hW]; exact Blk.new _ _ _
  have HB1 : Hid (Blk W b1 #[.int .i64 x] 27) := h1.out.keep hgW (by simp)
  have HB2 : Hid (Blk W b2 #[.int .i64 y] 3) := h2.out.keep hgW (by simp)
  have d0 := hF.cell 0 (.int .i64 ex) rfl
  have d1 := hF.cell 1 (.int .i64 ey) rfl
  clear c1 c2 f1 f2 hF
  have c1 := HB1.out.cell 0 (.int .i64 x) rfl
  have c2 := HB2.out.cell 0 (.int .i64 y) rfl
  have f1 := HB1.out.frozen 0
  have f2 := HB2.out.frozen 0
  have n1 : ¬ b1 = w.heap.size := by omega
  have n2 : ¬ b2 = w.heap.size := by omega
  have n3 : ¬ b2 = b1 := fun e => hne e.symm
  clear hW hta heq hu h1 h2
  go_region
  go_end0
  have hgd : W.grownBy W.drew none := gb_drew _ _
  have k1 := ((HB1.out.keep hgd (by simp)).set 0 (.int .i64 ex)).keep (gb_set _ ⟨b2, 0, none⟩ (.int .i64 ey)) (by simp; exact hne)
  have k2 := ((HB2.out.keep hgd (by simp)).keep (gb_set _ ⟨b1, 0, none⟩ (.int .i64 ex)) (by simp; exact n3)).set 0 (.int .i64 ey)
  exact ⟨rfl, rfl, k1, k2, _, gb_tr (gb_none (gb_tr hgW hgd)) (gb_set _ ⟨b1, 0, none⟩ _), gb_set _ ⟨b2, 0, none⟩ _⟩

set_option maxHeartbeats 300000 in
theorem catch_idle (b1 b2 : Nat) (w : World) :
    CallsD Tryd.prog 18 #[.pointer (some ⟨b1, 0, none⟩), .pointer (some ⟨b2, 0, none⟩)] .returning w fun e u' w' => e = .returned (.tuple #[]) ∧ u' = .returning ∧ w' = w := by
  refine callsD_of_wpS Tryd.func18 rfl fun c₀ cs hu => ?_
  simp only [Tryd.ntmps18, List.size_toArray, List.length_cons, List.length_nil, Nat.reduceAdd, Nat.reduceSub, Array.replicate_succ, Array.replicate_zero, List.push_toArray, List.append_toArray, List.nil_append, List.cons_append]
  apply wpS_seq
  apply wpS_region
  simp [wpOpsS, go_sem, recoverD, hu, Exit.thenS]
  have hc : c₀ = { c₀ with mode := .returning } := by cases c₀; simp_all
  rw [hc]
  refine wpS_body _ ?_
  go_wp2_with fail
  refine bodyPost_ret (results_none rfl _ _ _) rfl ?_
  exact ⟨rfl, rfl⟩

theorem hid {p : Prop} (h : p) : Hid p := h
theorem size_alloc (w : World) (o : Obj) : (w.alloc o).heap.size = w.heap.size + 1 := by simp
/-- how Decode ends: the class, OK and 0; or nothing, the error and its place -/
def DecEnds (w : World) (r : Except Er Cl) (e : Ending) (w' : World) : Prop :=
  w.grownBy w' none ∧ ∃ v c, e = .returned (.tuple #[v, .int .i64 c.1, .int .i64 c.2]) ∧ match r with
    | .ok k => isCl w.heap.size w' v k ∧ c = (0, 0)
    | .error er => c = er ∧ v = .agg #[.string ⟨#[]⟩, .string ⟨#[]⟩, .slice none 0 0, .slice none 0 0]

set_option maxHeartbeats 1000000 in
theorem decode_any (w : World) (f : ByteArray) (hf : f.size ≤ maxLen) (hS : Hid (Shp w)) :
    Calls Tryd.prog 10 #[.string f] w (DecEnds w (dec f)) := by
  have hmf : ∀ (fn : Fn) (first cap : Array Value) (w : World), (Instr.makeFunc fn first cap).run Tryd.prog w = .ok (.func fn first cap) w := fun _ _ _ _ => rfl
  go_enter_defers Tryd.func10, Tryd.ntmps10
  have hA := (((Blk.new w #[.string ⟨#[]⟩, .string ⟨#[]⟩, .slice none 0 0, .slice none 0 0] 25).keep (gb_alloc _ (.cells #[.int .i64 0] 27) none) (by simp)).keep (gb_alloc _ (.cells #[.int .i64 0] 3) none) (by simp))
  have hE := ((Blk.new (w.alloc (.cells #[.string ⟨#[]⟩, .string ⟨#[]⟩, .slice none 0 0, .slice none 0 0] 25)) #[.int .i64 0] 27).keep (gb_alloc _ (.cells #[.int .i64 0] 3) none) (by simp))
  have hP := Blk.new ((w.alloc (.cells #[.string ⟨#[]⟩, .string ⟨#[]⟩, .slice none 0 0, .slice none 0 0] 25)).alloc (.cells #[.int .i64 0] 27)) #[.int .i64 0] 3
  have hg0 : w.grownBy (((w.alloc (.cells #[.string ⟨#[]⟩, .string ⟨#[]⟩, .slice none 0 0, .slice none 0 0] 25)).alloc (.cells #[.int .i64 0] 27)).alloc (.cells #[.int .i64 0] 3)) none := gb_tr (gb_tr (gb_alloc _ _ _) (gb_alloc _ _ _)) (gb_alloc _ _ _)
  have hS0 : Shp (((w.alloc (.cells #[.string ⟨#[]⟩, .string ⟨#[]⟩, .slice none 0 0, .slice none 0 0] 25)).alloc (.cells #[.int .i64 0] 27)).alloc (.cells #[.int .i64 0] 3)) := hS.out.keep hg0 (by simp)
  simp only [size_alloc] at hA hE hP
  have HA := hid hA
  have HE := hid hE
  have HP := hid hP
  clear hA hE hP
  go_wp2_with (go_at_call 19; refine (read_any _ f hf hS0).mono ?_)
  intro e w1 he
  obtain ⟨hg1, he⟩ := he
  have hA1 := HA.out.keep hg1 (by simp)
  have hE1 := HE.out.keep hg1 (by simp)
  have hP1 := HP.out.keep hg1 (by simp)
  have HGG : Hid (w.grownBy w1 none) := gb_tr hg0 hg1
  cases hd : dec f with
  | error er =>
    rw [hd] at he
    simp only at he
    subst he
    unfold thrown
    dsimp only
    have hl := hP1.lt
    go_wp2_with fail
    refine leaves_cons (f := 18) (args := #[.pointer (some ⟨w.heap.size + 1, 0, none⟩), .pointer (some ⟨w.heap.size + 1 + 1, 0, none⟩)]) (by simp) (by simp [go_sem]) ?_
    refine (catch_fault (w.heap.size + 1) (w.heap.size + 1 + 1) 0 0 er.1 er.2 w1 hE1 hP1 (by omega)).mono ?_
    rintro e u' w2 ⟨rfl, rfl, k1, k2, w3, g1, g2⟩
    have hA2 := (hA1.keep g1 (by simp)).keep g2 (by simp; omega)
    have c0 := hA2.cell 0 (.string ⟨#[]⟩) rfl
    have c1 := hA2.cell 1 (.string ⟨#[]⟩) rfl
    have c2 := hA2.cell 2 (.slice none 0 0) rfl
    have c3 := hA2.cell 3 (.slice none 0 0) rfl
    have d0 := k1.cell 0 (.int .i64 er.1) rfl
    have d1 := k2.cell 0 (.int .i64 er.2) rfl
    simp [Leaves, settle, results, Tryd.results10, go_sem, c0, c1, c2, c3, d0, d1]
    refine ⟨?_, _, er, rfl, rfl, rfl⟩
    exact gb_trans (gb_trans HGG.out g1 (fun k e => by cases e; exact .inl (by omega))) g2 (fun k e => by cases e; exact .inl (by omega))
  | ok c =>
    rw [hd] at he
    obtain ⟨v, rfl, hc⟩ := he
    dsimp only
    have hc' := hc
    obtain ⟨a1, q1, a2, q2, rfl, -, -⟩ := hc
    have HC : Hid (isCl _ w1 _ c) := hc'
    clear hc'
    have c0 := hA1.cell 0 (.string ⟨#[]⟩) rfl
    have c1 := hA1.cell 1 (.string ⟨#[]⟩) rfl
    have c2 := hA1.cell 2 (.slice none 0 0) rfl
    have c3 := hA1.cell 3 (.slice none 0 0) rfl
    have z0 := hA1.frozen 0
    have z1 := hA1.frozen 1
    have z2 := hA1.frozen 2
    have z3 := hA1.frozen 3
    have d0 := hE1.cell 0 (.int .i64 0) rfl
    have d1 := hP1.cell 0 (.int .i64 0) rfl
    have y0 := hE1.frozen 0
    have y1 := hP1.frozen 0
    have hl := hP1.lt
    go_wp2_with fail
    refine leaves_cons (f := 18) (args := #[.pointer (some ⟨w.heap.size + 1, 0, none⟩), .pointer (some ⟨w.heap.size + 1 + 1, 0, none⟩)]) (by simp) (by simp [go_sem]) ?_
    refine (catch_idle (w.heap.size + 1) (w.heap.size + 1 + 1) _).mono ?_
    rintro e u' w2 ⟨rfl, rfl, rfl⟩
    simp [Leaves, settle, results, Tryd.results10, go_sem, c0, c1, c2, c3, d0, d1]
    have hbase : isCl (w.heap.size + 1 + 1 + 1) w1 (.agg #[.string c.name, .string c.super, .slice a1 c.fields.length q1, .slice a2 c.methods.length q2]) c := by
      have := HC.out
      simp only [size_alloc] at this
      exact this
    refine ⟨?_, _, (0, 0), rfl, ?_⟩
    · exact gb_trans (gb_trans (gb_trans HGG.out (gb_sets4 (g := w.heap.size)) (fun k e => .inl (by cases e; omega))) (gb_set _ ⟨w.heap.size + 1, 0, none⟩ _) (fun k e => .inl (by cases e; simp))) (gb_set _ ⟨w.heap.size + 1 + 1, 0, none⟩ _) (fun k e => .inl (by cases e; simp; omega))
    · rw [hd]
      refine ⟨isCl.base (b1 := w.heap.size + 1 + 1 + 1) ?_ (by omega), rfl⟩
      exact ((hbase.keep (gb_sets4 (g := w.heap.size)) (fun k e => by cases e; omega)).keep (gb_set _ ⟨w.heap.size + 1, 0, none⟩ _) (fun k e => by cases e; simp)).keep (gb_set _ ⟨w.heap.size + 1 + 1, 0, none⟩ _) (fun k e => by cases e; simp)
end Go.Proofs.YtcpicefhhnbgkaaDoor
