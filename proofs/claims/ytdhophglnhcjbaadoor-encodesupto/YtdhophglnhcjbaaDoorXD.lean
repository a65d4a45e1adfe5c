/- Contracts of the functions that the law goes through: a part of the proof that the last text tells. -/
import Derived.Test.YtdhophglnhcjbaaDoorXC
import Derived.Lib.AppendStr
set_option linter.unusedVariables false
set_option linter.unusedSimpArgs false
namespace Go.Proofs.YtdhophglnhcjbaaDoor
open Go.RowKit Cf

theorem keyed : Maps.Keyed Tryd.prog 9 := Maps.Keyed.of_law (WideMaps.string_law Tryd.underlying9)
theorem zeroInt (w : World) : (zeroValue 3).run Tryd.prog w = .ok (.int .i64 0) w := by kernel_rfl

set_option maxRecDepth 100000 in
set_option maxHeartbeats 1000000 in
theorem wname_known0 (w : World) (b mb : Nat) (mo : Obj) (pv bv : Value) (pool body : List UInt8) (wrong : Bool) (D : DU) (n : Nat) (s : ByteArray) (p : Nat) (hp : p < 256) (hs : Hid (s.size ≤ maxLen)) (h : Hid (Wr w b mb mo pv bv pool body wrong)) (hM : Hid (w.ownsMap (H := Unit) Tryd.prog 9 (plainElem Tryd.prog 3) mb n D)) (hl : body.length ≤ 2049)
    (HHh : Hid (Maps.has D (keyL s) = true)) (HA : Hid (D.atKey (keyL s) (.lit (.int .i64 0)) = .lit (.int .i64 p))) :
    Calls Tryd.prog 36 #[.pointer (some ⟨b, 0, none⟩), .string s] w fun e w' => e = .returned (.tuple #[]) ∧ KeptW w w' b mb ∧ ∃ bv', Wr w' b mb mo pv bv' pool (putB body (UInt8.ofNat p)) wrong := by
  have he : ((p : Nat) : Int) = ((UInt8.ofNat p).toNat : Int) := by
    have : (UInt8.ofNat p).toNat = p := by rw [UInt8.toNat_ofNat']; omega
    rw [this]
  have c0 := h.out.blk.cell 0 _ rfl
  have HE : Hid (((p : Nat) : Int) = ((UInt8.ofNat p).toNat : Int)) := he
  clear he
  go_enter Tryd.func36, Tryd.ntmps36
  go_wp2_with (at_lookup; go_loud (refine wpList_lookup_own_ok_int _ rfl _ _ 76 rfl 9 3 .i64 keyed Tryd.underlying76 Tryd.underlying3 (zeroInt _) mb n D rfl hM.out _ (keyL s) rfl (WideMaps.keyOf_string_mk Tryd.underlying9 hs.out) ?_); intro c hc hwf; rw [HA.out] at hc; injection hc with hc; injection hc with _ hc; subst hc; clear hwf; rw [HHh.out])
  all_goals (try go_wp2_with (go_at_call 50; refine (wput_z _ b mb mo pv bv pool body wrong _ _ HE.out h hl).mono ?_; rintro e w4 ⟨rfl, hk4, bv4, hw4⟩; try dsimp only))
  go_end0
  exact ⟨rfl, hk4, bv4, hw4⟩
/-- a known name: its number is put -/
theorem wname_known (w : World) (b mb : Nat) (mo : Obj) (pv bv : Value) (body : List UInt8) (wrong : Bool) (names : List ByteArray) (s : ByteArray) (hs : Hid (s.size ≤ maxLen)) (h : Hid (Wr w b mb mo pv bv (poolBytes names) body wrong)) (hM : Hid (MapIs w mb names)) (hnd : names.Nodup) (hl : body.length ≤ 2049) (hn : names.length ≤ 255) (hk : posOf names s < names.length) :
    Calls Tryd.prog 36 #[.pointer (some ⟨b, 0, none⟩), .string s] w fun e w' => e = .returned (.tuple #[]) ∧ KeptW w w' b mb ∧ ∃ bv', Wr w' b mb mo pv bv' (poolBytes names) (putB body (UInt8.ofNat (posOf names s))) wrong := by
  have F := mapFacts names hnd names.length (Nat.le_refl _)
  have hh : Maps.has (mapD names) (keyL s) = true := by
    have := F.has s
    rw [decide_eq_true hk] at this
    exact this
  have ha : (mapD names).atKey (keyL s) (.lit (.int .i64 0)) = .lit (.int .i64 (posOf names s)) := by
    have := F.at_ s (.lit (.int .i64 0))
    rw [if_pos hk] at this
    exact this
  exact wname_known0 w b mb mo pv bv (poolBytes names) body wrong (mapD names) names.length s (posOf names s) (by omega) hs h hM hl hh ha
end Go.Proofs.YtdhophglnhcjbaaDoor

namespace Go.Proofs.YtdhophglnhcjbaaDoor
open Go.RowKit Cf

set_option maxHeartbeats 400000 in
/-- the program's word on a name of any length -/
theorem isName_big (s : ByteArray) (w : World) (hs : s.size ≤ 1099511627776) :
    Calls Tryd.prog 49 #[.string s] w fun e w' => e = .returned (.bool (isName s)) ∧ w = w' := by
  by_cases h2 : s.size ≤ 2048
  · exact isName_any s w h2
  · go_enter Tryd.func49, Tryd.ntmps49
    go_wp2
    go_ret
    exact ⟨by simp [isName]; intro _ h; omega, rfl⟩

open Go.Lib in
/-- a string's bytes behind a row that is there: where the new row lies -/
theorem run_strLies {P : Program} (w : World) (base : Nat) (t u ty e : TypeId) (i : TypeInfo) (ht : P.underlying t = some (.slice e)) (hu : P.underlying u = some .string) (hi : P.info? e = some i) (hz : i.zero = some (.int .u8 0))
    (hsize : i.size = 1) (hby : i.bytes = 1) (g n cap : Nat) (xs : List Value) (hown : w.ownsRow base e 1 (.slice (some ⟨g, 0, none⟩) n cap) n xs) (s : ByteArray)
    (h63 : n + s.size ≤ maxLen) (hbytes : n + s.size ≤ 140737488355328) (hbase : base ≤ w.heap.size) :
    ∃ v' w', (Builtin.append_ #[t, u] ty #[.slice (some ⟨g, 0, none⟩) n cap, .string s]).run P w = .ok v' w' ∧ w'.ownsRow base e 1 v' (n + s.size) (xs ++ strCells s) ∧ w.grownBy w' (some g) ∧
      (v'.ownBlock = some g ∨ v'.ownBlock = some w.heap.size) := by
  obtain ⟨v', w', hr, h2, h3, h4⟩ := run_append_own_string (P := P) w base t u ty e i ht hu hi hz hsize hby _ n xs hown s h63 hbytes hbase
  refine ⟨v', w', hr, h2, h3, ?_⟩
  have hxl : xs.length = n := by simpa using hown.1
  rcases hown.2 with ⟨hv, _⟩ | ⟨g', cap', cur, hv, hb, hg, hroom, hcm, hcs, htake⟩
  · cases hv
  · injection hv with hv1 hv2 hv3
    injection hv1 with hv1
    injection hv1 with hv1
    subst hv1 hv3
    by_cases hc : n + s.size ≤ cap
    · have hr2 := run_append_room_string (P := P) w t u ty e i ht hu hi hsize g n cap cur hg s hc (by simp at hcs; omega)
      rw [hr] at hr2
      injection hr2 with e1 e2
      exact .inl (by rw [e1]; rfl)
    · have holds : ∀ j u, xs[j]? = some u → w.cell? ((⟨g, 0, none⟩ : Addr).add j) = some u := hown.cells (g := g) rfl
      have hr2 := run_append_grow_string (P := P) w t u ty e i (.int .u8 0) ht hu hi hz ⟨g, 0, none⟩ n cap xs (by rw [hsize]; simpa using hxl) holds s (by omega) (by simp only [maxLen] at h63; omega) (by rw [hby]; exact growslice_fits (by omega) (by omega))
      rw [hr] at hr2
      injection hr2 with e1 e2
      exact .inr (by rw [e1]; rfl)
open Go.Lib in
theorem wpList_strLies {P : Program} {w : World} {ops : Array Oper} {rest : List Oper} {o : Oper} {a : Act} {Q : Exit → Act → World → Prop} (hgd : o.guard = none) (sl x : Operand) (t u : TypeId)
    (ho : o.op = .call { callee := .builtin .append, args := #[sl, x], argTypes := #[t, u] })
    (base : Nat) (e : TypeId) (i : TypeInfo) (ht : P.underlying t = some (.slice e)) (hu : P.underlying u = some .string) (hi : P.info? e = some i) (hz : i.zero = some (.int .u8 0))
    (hsize : i.size = 1) (hby : i.bytes = 1)
    (g n cap : Nat) (xs : List Value) (hs : a.eval sl = .slice (some ⟨g, 0, none⟩) n cap) (hown : w.ownsRow base e 1 (.slice (some ⟨g, 0, none⟩) n cap) n xs) (s : ByteArray) (hx : a.eval x = .string s)
    (h63 : n + s.size ≤ maxLen) (hbytes : n + s.size ≤ 140737488355328) (hbase : base ≤ w.heap.size)
    (h : ∀ v' w', w'.ownsRow base e 1 v' (n + s.size) (xs ++ strCells s) → w.grownBy w' (some g) → (v'.ownBlock = some g ∨ v'.ownBlock = some w.heap.size) → wpList P ops Q rest (a.put o.dst v') w') : wpList P ops Q (o :: rest) a w := by
  refine wpList_plain hgd fun K hK => ?_
  obtain ⟨v', w', hr, h2, h3, h4⟩ := run_strLies (P := P) w base t u o.type e i ht hu hi hz hsize hby g n cap xs hown s h63 hbytes hbase
  unfold Oper.wp execOp
  simp only [ho, resolve, invoke, builtin, Sem.run_bind, Sem.run_pure, Result.andThen_ok, List.map_toArray, List.map_cons, List.map_nil, hs, hx, hr]
  exact hK _ _ (h v' w' h2 h3 h4)
end Go.Proofs.YtdhophglnhcjbaaDoor

namespace Go.Proofs.YtdhophglnhcjbaaDoor
open Go.RowKit Cf
section
variable {w w' : World} {b mb : Nat} {mo : Obj} {pv bv : Value} {pool body : List UInt8} {wrong : Bool}
open Go.ChangeMaps in
/-- the map turns -/
theorem gb_turn (h : w.mapTurned w' mb) : w.grownBy w' (some mb) ∧ ∃ mo', w'.heap[mb]? = some mo' ∧ ∀ cs t fr, mo' ≠ .cells cs t fr := by
  obtain ⟨es, clock, es', clock', hb, rfl⟩ := h
  refine ⟨⟨rfl, rfl, rfl, by simp [setBlock], fun k _ hk => heap_setBlock_other hb _ (fun e => hk (by rw [e]))⟩, _, heap_setBlock_same hb _, fun cs t fr e => by cases e⟩
theorem Wr.turn (h : Wr w b mb mo pv bv pool body wrong) (ht : w.mapTurned w' mb) : ∃ mo', Wr w' b mb mo' pv bv pool body wrong := by
  obtain ⟨hg, mo', h1, h2⟩ := gb_turn ht
  exact ⟨mo', h.blk.keep hg (by intro e; exact h.mbne (Option.some.inj e).symm), h1, h2, h.poolR.kept hg (.inr (own_notMap h.poolR h.map h.notCells)), h.bodyR.kept hg (.inr (own_notMap h.bodyR h.map h.notCells)), h.apart⟩
/-- the pool's slice turns -/
theorem Wr.setPool {w1 : World} {pv' : Value} {pool' : List UInt8} (h : Wr w b mb mo pv bv pool body wrong) (h1 : w.grownBy w1 pv.ownBlock) (ho : w1.ownsRow (b + 1) 5 1 pv' pool'.length (pool'.map byteV)) (ha : pv'.ownBlock = pv.ownBlock ∨ ∀ k, pv'.ownBlock = some k → w.heap.size ≤ k) :
    Wr (w1.setCell ⟨b, 1, none⟩ pv') b mb mo pv' bv pool' body wrong := by
  have hnb : pv.ownBlock ≠ some b := own_ne h.poolR (Nat.lt_succ_self _)
  have hnm : pv.ownBlock ≠ some mb := own_notMap h.poolR h.map h.notCells
  have hap : bv.ownBlock = none ∨ bv.ownBlock ≠ pv.ownBlock := by
    rcases h.apart with e | e
    · cases hb : bv.ownBlock with
      | none => exact .inl rfl
      | some g => exact .inr (by rw [e]; exact fun c => by cases c)
    · exact .inr (fun c => e c.symm)
  refine ⟨(h.blk.keep h1 (fun e => hnb e.symm)).set 1 _, ?_, h.notCells, ho.kept (gb_set w1 ⟨b, 1, none⟩ _) (.inr (own_ne ho (Nat.lt_succ_self _))), ?_, ?_⟩
  · exact ((gb_set w1 ⟨b, 1, none⟩ pv').block mb (Nat.lt_of_lt_of_le h.mblt h1.size) (by simpa using h.mbne)).trans ((h1.block mb h.mblt (fun e => hnm e.symm)).trans h.map)
  · exact (World.ownsRow.kept h.bodyR h1 hap).kept (gb_set w1 ⟨b, 1, none⟩ _) (.inr (own_ne h.bodyR (Nat.lt_succ_self _)))
  · rcases ha with ha | ha
    · rw [ha]; exact h.apart
    · cases hb : bv.ownBlock with
      | none =>
        cases hp : pv'.ownBlock with
        | none => exact .inl rfl
        | some g => exact .inr (fun c => by cases c)
      | some g =>
        refine .inr (fun e => ?_)
        have h2 := ha g e
        have h3 := (own_some h.bodyR hb).2
        omega
end
end Go.Proofs.YtdhophglnhcjbaaDoor

namespace Go.Proofs.YtdhophglnhcjbaaDoor
open Go.RowKit Cf

theorem strCells_byteV (s : ByteArray) : Go.Lib.strCells s = s.data.toList.map byteV := rfl
theorem ownsMap_same {w w' : World} {mb n : Nat} {D : DU} (h : w.ownsMap (H := Unit) Tryd.prog 9 (plainElem Tryd.prog 3) mb n D) (e : w'.heap[mb]? = w.heap[mb]?) : w'.ownsMap (H := Unit) Tryd.prog 9 (plainElem Tryd.prog 3) mb n D := by
  obtain ⟨es, clock, h1, h2⟩ := h
  exact ⟨es, clock, e.trans h1, h2⟩
set_option maxRecDepth 100000 in
set_option maxHeartbeats 1000000 in
theorem wname_new0 (w : World) (b mb : Nat) (mo : Obj) (pv bv : Value) (pool body : List UInt8) (wrong : Bool) (D : DU) (n : Nat) (s : ByteArray) (hn : n < 255) (hs : s.size ≤ 12) (h : Hid (Wr w b mb mo pv bv pool body wrong)) (hM : Hid (w.ownsMap (H := Unit) Tryd.prog 9 (plainElem Tryd.prog 3) mb n D)) (hl : body.length ≤ 2049) (hpl : pool.length ≤ 4096)
    (HHh : Hid (Maps.has D (keyL s) = false)) (HA : Hid (D.atKey (keyL s) (.lit (.int .i64 0)) = .lit (.int .i64 0))) (HS : Hid (Maps.size D = n)) (HN : Hid (isName s = true)) :
    Calls Tryd.prog 36 #[.pointer (some ⟨b, 0, none⟩), .string s] w fun e w' => e = .returned (.tuple #[]) ∧ KeptW w w' b mb ∧ ∃ mo' pv' bv', Wr w' b mb mo' pv' bv' (pool ++ (UInt8.ofNat s.size :: s.data.toList)) (putB body (UInt8.ofNat n)) wrong ∧ w'.ownsMap (H := Unit) Tryd.prog 9 (plainElem Tryd.prog 3) mb (n + 1) (D.put (keyL s) (.lit (.int .i64 n))) := by
  obtain ⟨pa, pk, rfl⟩ := own_slice h.out.poolR
  obtain ⟨i, hi, hz0, hz1, hz2⟩ := info_parts info_U8
  have hb : ((s.size : Nat) : Int) = ((UInt8.ofNat s.size).toNat : Int) := by
    have : (UInt8.ofNat s.size).toNat = s.size := by rw [UInt8.toNat_ofNat']; omega
    rw [this]
  have HB : Hid (((UInt8.ofNat s.size).toNat : Int) = (s.size : Int)) := hb.symm
  clear hb
  have hs12 : Hid (s.size ≤ maxLen) := by unfold Hid maxLen; omega
  have he : ((n : Nat) : Int) = ((UInt8.ofNat n).toNat : Int) := by
    have : (UInt8.ofNat n).toNat = n := by rw [UInt8.toNat_ofNat']; omega
    rw [this]
  have HE : Hid (((n : Nat) : Int) = ((UInt8.ofNat n).toNat : Int)) := he
  clear he
  have c0 := h.out.blk.cell 0 _ rfl
  go_enter Tryd.func36, Tryd.ntmps36
  go_wp2_with (at_lookup; go_loud (refine wpList_lookup_own_ok_int _ rfl _ _ 76 rfl 9 3 .i64 keyed Tryd.underlying76 Tryd.underlying3 (zeroInt _) mb n D rfl hM.out _ (keyL s) rfl (WideMaps.keyOf_string_mk Tryd.underlying9 hs12.out) ?_); intro c hc hwf; rw [HA.out] at hc; injection hc with hc; injection hc with _ hc; subst hc; clear hwf; rw [HHh.out])
  go_wp2_with (go_at_call 49; refine (isName_big s _ (by omega)).mono ?_; rintro e w' ⟨rfl, rfl⟩; rw [HN.out])
  rw [hM.out.len Tryd.underlying76, HS.out]
  simp only [Result.andThen_ok]
  have hval : plainElem (H := Unit) Tryd.prog 3 (.int .i64 (n : Int)) = some (.lit (.int .i64 n), []) := plainElem_int Tryd.underlying3 (by simp [Lit.wf, IntKind.min, IntKind.max, IntKind.signed, IntKind.bits]; omega)
  have HV : Hid (plainElem (H := Unit) Tryd.prog 3 (.int .i64 (n : Int)) = some (.lit (.int .i64 n), [])) := hval
  clear hval
  go_wp2_with (first
    | (at_len; refine wpList_len_own _ rfl _ 76 rfl 9 3 Tryd.underlying76 _ mb n D rfl hM.out ?_; rw [HS.out])
    | (at_mapUpdate; go_loud (refine wpList_mapUpdate_in _ rfl _ _ _ 76 rfl 9 3 keyed Tryd.underlying76 _ mb n D rfl hM.out (by unfold maxLen; omega) _ _ (keyL s) rfl rfl (WideMaps.keyOf_string_mk Tryd.underlying9 hs12.out) _ [] HV.out ?_); intro w1 hown1 hturn1; obtain ⟨mo1, hw1⟩ := h.out.turn hturn1; have HW1 : Hid (Wr w1 b mb mo1 (.slice pa pool.length pk) bv pool body wrong) := hw1; have HM1 : Hid (w1.ownsMap (H := Unit) Tryd.prog 9 (plainElem Tryd.prog 3) mb (n + 1) (D.put (keyL s) (.lit (.int .i64 n)))) := hown1; have HK1 : Hid (KeptW w w1 b mb) := .of (gb_turn hturn1).1 (fun k hk _ => .inr (.inl (Option.some.inj hk).symm)); clear hown1 hturn1 hw1; have d1 := HW1.out.blk.cell 1 _ rfl; have y1 := HW1.out.blk.frozen 1; have hbl1 : b < w1.heap.size := HW1.out.blk.lt)
    | (at_builtin; first
        | (go_loud (refine wpList_strLies rfl _ _ 61 9 rfl (b + 1) 5 i Tryd.underlying61 Tryd.underlying9 hi hz0 hz1 hz2 g1 (pool.length + 1) k1 _ rfl HO2.out s rfl (by unfold maxLen; omega) (by omega) hb2.out ?_)
           intro v3 w3 hown3 hgrow3 hlie3
           obtain ⟨va, vk, rfl⟩ := own_slice hown3
           go_loud (
             have hlen3 : pool.length + 1 + s.size = (pool ++ UInt8.ofNat s.size :: s.data.toList).length := by simp only [List.length_append, List.length_cons, Array.length_toList]; have : s.data.size = s.size := rfl; omega
             have hO3 : w3.ownsRow (b + 1) 5 1 (.slice va (pool.length + 1 + s.size) vk) (pool ++ UInt8.ofNat s.size :: s.data.toList).length ((pool ++ UInt8.ofNat s.size :: s.data.toList).map byteV) := by
               rw [← hlen3]
               have e3 : (pool ++ UInt8.ofNat s.size :: s.data.toList).map byteV = (pool ++ [UInt8.ofNat s.size]).map byteV ++ Go.Lib.strCells s := by simp [strCells_byteV]
               rw [e3]
               exact hown3
             have HW3 : Hid (Wr (w3.setCell ⟨b, 1, none⟩ (.slice va (pool.length + 1 + s.size) vk)) b mb mo1 (.slice va (pool.length + 1 + s.size) vk) bv (pool ++ UInt8.ofNat s.size :: s.data.toList) body wrong) := HW2.out.setPool hgrow3 hO3 (by
               rcases hlie3 with e | e
               · exact .inl e
               · exact .inr (fun k hk => by rw [e] at hk; injection hk with hk; omega))
             have HK3 : Hid (KeptW w (w3.setCell ⟨b, 1, none⟩ (.slice va (pool.length + 1 + s.size) vk)) b mb) := HK2.out.trans ((KeptW.of hgrow3 (fun k hk _ => own_may8 HO2.out k hk)).trans (.ofB (gb_set _ ⟨b, 1, none⟩ _)))
             have HM3 : Hid (((w3.setCell ⟨b, 1, none⟩ (.slice va (pool.length + 1 + s.size) vk))).ownsMap (H := Unit) Tryd.prog 9 (plainElem Tryd.prog 3) mb (n + 1) (D.put (keyL s) (.lit (.int .i64 n)))) := ownsMap_same HM2.out (HW2.out.sameMap HW3.out)
             have d3 : w3.cell? ⟨b, 1, none⟩ = some (.slice (some ⟨g1, 0, none⟩) (pool.length + 1) k1) := (hgrow3.cell_far ⟨b, 1, none⟩ hb2.out (fun e => by simp only [Option.some.injEq] at e; omega)).trans e2
             have y3 : w3.frozen? ⟨b, 1, none⟩ = false := (hgrow3.frozen_far ⟨b, 1, none⟩ hb2.out (fun e => by simp only [Option.some.injEq] at e; omega)).trans f2
             clear hown3 hgrow3 hlie3 e2 f2 hO3 hlen3))
        | (go_loud (refine wpList_append_lies _ rfl _ _ 61 rfl (b + 1) 5 i _ 1 1 Tryd.underlying61 hi hz0 hz1 hz2 rfl (by decide) _ pool.length (pool.map byteV) rfl (World.ownsRow.alloc HW1.out.poolR _) ⟨w1.heap.size, 0, none⟩ 1 1 [.int .u8 s.size] rfl rfl (new_cells w1 [.int .u8 s.size] 5) (by simp [Value.oneCell']) (by omega) (by unfold maxLen; omega) (by omega) (by simp; omega) (w1.heap.size + 1) (by simp) ?_)
           intro g1 k1 w2 hown2 hgrow2 hlie2 hlt2
           go_loud (
             have hgA := gb_tr (gb_alloc w1 (.cells #[.int .u8 s.size] 5) _) hgrow2
             have hO2 : w2.ownsRow (b + 1) 5 1 (.slice (some ⟨g1, 0, none⟩) (pool.length + 1) k1) (pool ++ [UInt8.ofNat s.size]).length ((pool ++ [UInt8.ofNat s.size]).map byteV) := by rw [List.map_append, List.map_singleton, show byteV (UInt8.ofNat s.size) = .int .u8 (s.size : Int) from by unfold byteV; rw [HB.out], List.length_append]; exact hown2
             have HW2 : Hid (Wr (w2.setCell ⟨b, 1, none⟩ (.slice (some ⟨g1, 0, none⟩) (pool.length + 1) k1)) b mb mo1 (.slice (some ⟨g1, 0, none⟩) (pool.length + 1) k1) bv (pool ++ [UInt8.ofNat s.size]) body wrong) :=
               HW1.out.setPool hgA hO2 (by
                 rcases hlie2 with e | e
                 · exact .inl e.symm
                 · refine .inr (fun q hq => ?_)
                   simp only [Value.ownBlock, Option.some.injEq] at hq
                   omega)
             have HK2 : Hid (KeptW w (w2.setCell ⟨b, 1, none⟩ (.slice (some ⟨g1, 0, none⟩) (pool.length + 1) k1)) b mb) := HK1.out.trans ((KeptW.of hgA (fun k hk _ => own_may8 HW1.out.poolR k hk)).trans (.ofB (gb_set _ ⟨b, 1, none⟩ _)))
             have HM2 : Hid ((w2.setCell ⟨b, 1, none⟩ (.slice (some ⟨g1, 0, none⟩) (pool.length + 1) k1)).ownsMap (H := Unit) Tryd.prog 9 (plainElem Tryd.prog 3) mb (n + 1) (D.put (keyL s) (.lit (.int .i64 n)))) := ownsMap_same HM1.out (HW1.out.sameMap HW2.out)
             have HO2 : Hid ((w2.setCell ⟨b, 1, none⟩ (.slice (some ⟨g1, 0, none⟩) (pool.length + 1) k1)).ownsRow (b + 1) 5 1 (.slice (some ⟨g1, 0, none⟩) (pool.length + 1) k1) (pool.length + 1) ((pool ++ [UInt8.ofNat s.size]).map byteV)) := by simpa [Hid] using HW2.out.poolR
             have hne1 : (Value.slice pa pool.length pk).ownBlock ≠ some b := own_ne HW1.out.poolR (Nat.lt_succ_self _)
             have d2 : w2.cell? ⟨b, 1, none⟩ = some (.slice pa pool.length pk) := (hgA.cell_far ⟨b, 1, none⟩ hbl1 (fun e => hne1 e.symm)).trans d1
             have y2 : w2.frozen? ⟨b, 1, none⟩ = false := (hgA.frozen_far ⟨b, 1, none⟩ hbl1 (fun e => hne1 e.symm)).trans y1
             have e2 := HW2.out.blk.cell 1 _ rfl
             have f2 := HW2.out.blk.frozen 1
             have hb2 : Hid (b + 1 ≤ (w2.setCell ⟨b, 1, none⟩ (.slice (some ⟨g1, 0, none⟩) (pool.length + 1) k1)).heap.size) := HW2.out.blk.lt
             have hg1 : b < g1 := by
               obtain ⟨_, _, q1, q2, _⟩ := HO2.out.form (by omega)
               injection q1 with q1; injection q1 with q1; injection q1 with q1; omega
             clear hown2 hgrow2 hlie2 hlt2 hgA hO2 d1 y1 hne1))))
  go_wp2_with (go_at_call 50; refine (wput_z _ b mb mo1 _ bv (pool ++ UInt8.ofNat s.size :: s.data.toList) body wrong _ _ HE.out HW3 hl).mono ?_; rintro e w4 ⟨rfl, hk4, bv4, hw4⟩; try dsimp only)
  go_end0
  exact ⟨rfl, HK3.out.trans hk4, mo1, _, bv4, hw4, ownsMap_same HM3.out (HW3.out.sameMap hw4)⟩
end Go.Proofs.YtdhophglnhcjbaaDoor

namespace Go.Proofs.YtdhophglnhcjbaaDoor
open Go.RowKit Cf

set_option maxRecDepth 100000 in
set_option maxHeartbeats 1000000 in
/-- a name that is none -/
theorem wname_bad1 (w : World) (b mb : Nat) (mo : Obj) (pv bv : Value) (pool body : List UInt8) (wrong : Bool) (D : DU) (n : Nat) (s : ByteArray) (hs : Hid (s.size ≤ 1099511627776)) (h : Hid (Wr w b mb mo pv bv pool body wrong)) (hM : Hid (w.ownsMap (H := Unit) Tryd.prog 9 (plainElem Tryd.prog 3) mb n D))
    (HHh : Hid (Maps.has D (keyL s) = false)) (HA : Hid (D.atKey (keyL s) (.lit (.int .i64 0)) = .lit (.int .i64 0))) (HN : Hid (isName s = false)) :
    Calls Tryd.prog 36 #[.pointer (some ⟨b, 0, none⟩), .string s] w fun e w' => e = .returned (.tuple #[]) ∧ KeptW w w' b mb ∧ Wr w' b mb mo pv bv pool body true := by
  have hs12 : Hid (s.size ≤ maxLen) := by unfold Hid maxLen; have := hs.out; omega
  have c0 := h.out.blk.cell 0 _ rfl
  have c3 := h.out.blk.cell 3 _ rfl
  have z3 := h.out.blk.frozen 3
  have HW1 : Hid (Wr (w.setCell ⟨b, 3, none⟩ (.bool true)) b mb mo pv bv pool body true) := h.out.spoil
  have HK1 : Hid (KeptW w (w.setCell ⟨b, 3, none⟩ (.bool true)) b mb) := .ofB (gb_set w ⟨b, 3, none⟩ _)
  go_enter Tryd.func36, Tryd.ntmps36
  go_wp2_with (at_lookup; go_loud (refine wpList_lookup_own_ok_int _ rfl _ _ 76 rfl 9 3 .i64 keyed Tryd.underlying76 Tryd.underlying3 (zeroInt _) mb n D rfl hM.out _ (keyL s) rfl (WideMaps.keyOf_string_mk Tryd.underlying9 hs12.out) ?_); intro c hc hwf; rw [HA.out] at hc; injection hc with hc; injection hc with _ hc; subst hc; clear hwf; rw [HHh.out])
  go_wp2_with (go_at_call 49; refine (isName_big s _ hs.out).mono ?_; rintro e w' ⟨rfl, rfl⟩; rw [HN.out])
  all_goals
    (try simp only [Exit.inBlock, Exit.then]); refine bodyPost_ret (results_none rfl _ _ _) rfl ?_
    exact ⟨rfl, HK1.out, HW1.out⟩

set_option maxRecDepth 100000 in
set_option maxHeartbeats 1000000 in
/-- a name too many -/
theorem wname_bad2 (w : World) (b mb : Nat) (mo : Obj) (pv bv : Value) (pool body : List UInt8) (wrong : Bool) (D : DU) (n : Nat) (s : ByteArray) (hs : Hid (s.size ≤ 1099511627776)) (h : Hid (Wr w b mb mo pv bv pool body wrong)) (hM : Hid (w.ownsMap (H := Unit) Tryd.prog 9 (plainElem Tryd.prog 3) mb n D))
    (HHh : Hid (Maps.has D (keyL s) = false)) (HA : Hid (D.atKey (keyL s) (.lit (.int .i64 0)) = .lit (.int .i64 0))) (HN : Hid (isName s = true)) (HS : Hid (Maps.size D = 255)) :
    Calls Tryd.prog 36 #[.pointer (some ⟨b, 0, none⟩), .string s] w fun e w' => e = .returned (.tuple #[]) ∧ KeptW w w' b mb ∧ Wr w' b mb mo pv bv pool body true := by
  have hs12 : Hid (s.size ≤ maxLen) := by unfold Hid maxLen; have := hs.out; omega
  have c0 := h.out.blk.cell 0 _ rfl
  have c3 := h.out.blk.cell 3 _ rfl
  have z3 := h.out.blk.frozen 3
  have HW1 : Hid (Wr (w.setCell ⟨b, 3, none⟩ (.bool true)) b mb mo pv bv pool body true) := h.out.spoil
  have HK1 : Hid (KeptW w (w.setCell ⟨b, 3, none⟩ (.bool true)) b mb) := .ofB (gb_set w ⟨b, 3, none⟩ _)
  go_enter Tryd.func36, Tryd.ntmps36
  go_wp2_with (at_lookup; go_loud (refine wpList_lookup_own_ok_int _ rfl _ _ 76 rfl 9 3 .i64 keyed Tryd.underlying76 Tryd.underlying3 (zeroInt _) mb n D rfl hM.out _ (keyL s) rfl (WideMaps.keyOf_string_mk Tryd.underlying9 hs12.out) ?_); intro c hc hwf; rw [HA.out] at hc; injection hc with hc; injection hc with _ hc; subst hc; clear hwf; rw [HHh.out])
  go_wp2_with (go_at_call 49; refine (isName_big s _ hs.out).mono ?_; rintro e w' ⟨rfl, rfl⟩; rw [HN.out])
  rw [hM.out.len Tryd.underlying76, HS.out]
  simp only [Result.andThen_ok]
  go_wp2_with fail
  all_goals
    (try simp only [Exit.inBlock, Exit.then]); refine bodyPost_ret (results_none rfl _ _ _) rfl ?_
    exact ⟨rfl, HK1.out, HW1.out⟩

theorem WName (names : List ByteArray) (t : ByteArray) (s : WS) (s' : WS) (h : wstep (.nm t) s = some s') : isName t = true ∧ s' = ⟨withName s.names t, s.out ++ [UInt8.ofNat (posOf s.names t)]⟩ := by
  simp only [wstep] at h
  split at h
  · rename_i hc
    exact ⟨hc.1, (Option.some.inj h).symm⟩
  · cases h
theorem withName_le (l : List ByteArray) (t : ByteArray) : l.length ≤ (withName l t).length := by
  unfold withName
  split <;> simp
theorem poolBytes_snoc (l : List ByteArray) (t : ByteArray) : poolBytes (l ++ [t]) = poolBytes l ++ (UInt8.ofNat t.size :: t.data.toList) := by
  simp [poolBytes, List.flatMap_append]
theorem posOf_mem {l : List ByteArray} {t : ByteArray} (h : posOf l t < l.length) : t ∈ l := by
  have := posOf_lt (l := l) (s := t) rfl h
  rw [← this]
  simp only [List.getD, List.getElem?_eq_getElem h, Option.getD_some]
  exact List.getElem_mem h
theorem posOf_notMem {l : List ByteArray} {t : ByteArray} (h : ¬ posOf l t < l.length) : t ∉ l := by
  intro hm
  apply h
  unfold posOf
  exact List.findIdx_lt_length_of_exists ⟨t, hm, by simp⟩
end Go.Proofs.YtdhophglnhcjbaaDoor

namespace Go.Proofs.YtdhophglnhcjbaaDoor
open Go.RowKit Cf

theorem poolBytes_cap0 : ∀ {names : List ByteArray}, (∀ x ∈ names, isName x = true) → (poolBytes names).length ≤ 13 * names.length
  | [], _ => Nat.le_refl _
  | x :: l, h => by
    have h1 := poolBytes_cap0 (names := l) (fun y hy => h y (List.mem_cons_of_mem _ hy))
    have h2 := h x (List.mem_cons_self)
    simp only [isName, Bool.and_eq_true, decide_eq_true_eq] at h2
    have h3 : x.data.size = x.size := rfl
    have e : poolBytes (x :: l) = (UInt8.ofNat x.size :: x.data.toList) ++ poolBytes l := rfl
    rw [e]
    simp only [List.length_append, List.length_cons, Array.length_toList]
    omega
theorem poolBytes_cap {names : List ByteArray} (h2 : names.length ≤ 255) (h3 : ∀ x ∈ names, isName x = true) : (poolBytes names).length ≤ 4096 := by
  have := poolBytes_cap0 h3
  omega
/-- THE NAME: whatever it is -/
theorem wname_any (w : World) (b mb : Nat) (r : Option WS) (t : ByteArray) (ht : t.size ≤ 1099511627776) (h : Hid (WrS w b mb r)) :
    Calls Tryd.prog 36 #[.pointer (some ⟨b, 0, none⟩), .string t] w fun e w' => e = .returned (.tuple #[]) ∧ KeptW w w' b mb ∧ WrS w' b mb (wrun [.nm t] r) := by
  obtain ⟨mo, pv, bv, body, wrong, names, hW, hM, h1, h2, h3, h4, h5, h6⟩ := h.out
  show Calls _ _ _ _ (fun e w' => e = .returned (.tuple #[]) ∧ KeptW w w' b mb ∧ WrS w' b mb (r.bind (wstep (.nm t))))
  have F := mapFacts names h1 names.length (Nat.le_refl _)
  have hs' : t.size ≤ maxLen := by unfold maxLen; omega
  -- what is there when the writer is not wrong
  have hnot : wrong = false → ∃ s, r = some s ∧ s.names.length ≤ 255 ∧ names = s.names ∧ body = s.out.take 2049 := by
    intro hw
    cases r with
    | none => have := h6 (fun s e => by cases e); rw [hw] at this; cases this
    | some s =>
      by_cases hl : s.names.length ≤ 255
      · exact ⟨s, rfl, hl, (h5 s rfl hl).2⟩
      · have := h6 (fun s' e => by injection e with e; subst e; omega)
        rw [hw] at this; cases this
  by_cases hk : posOf names t < names.length
  · refine (wname_known w b mb mo pv bv body wrong names t hs' hW hM h1 h4 h2 hk).mono ?_
    rintro e w' ⟨rfl, hkp, bv', hw⟩
    refine ⟨rfl, hkp, mo, pv, bv', _, wrong, names, hw, hM.same (hW.sameMap hw), h1, h2, h3, putB_len h4, ?_, ?_⟩
    · intro s' hs hl
      obtain ⟨s, rfl, hst⟩ := Option.bind_eq_some_iff.1 hs
      obtain ⟨_, rfl⟩ := WName names t s s' hst
      have hle := withName_le s.names t
      obtain ⟨g1, g2, g3⟩ := h5 s rfl (by simp only at hl; omega)
      refine ⟨g1, ?_, ?_⟩
      · simp only [withName]
        rw [← g2, if_pos hk]
      · simp only
        rw [g3, g2, putB_take]
    · intro hs
      cases hw2 : wrong with
      | true => rfl
      | false =>
        obtain ⟨s, rfl, hl, g2, g3⟩ := hnot hw2
        subst g2
        have := hs ⟨withName s.names t, s.out ++ [UInt8.ofNat (posOf s.names t)]⟩ (by
          simp only [Option.bind_some, wstep]
          rw [if_pos ⟨h3 t (posOf_mem hk), by omega⟩])
        simp only [withName, if_pos hk] at this
        omega
  · have hhas : Maps.has (mapD names) (keyL t) = false := by
      have := F.has t
      rw [decide_eq_false hk] at this
      exact this
    have hat : (mapD names).atKey (keyL t) (.lit (.int .i64 0)) = .lit (.int .i64 0) := by
      have := F.at_ t (.lit (.int .i64 0))
      rw [if_neg hk] at this
      exact this
    have hpos : posOf names t = names.length := by have := posOf_le names t; omega
    by_cases hn : isName t = true
    · by_cases hc : names.length < 255
      · have ht12 : t.size ≤ 12 := by
          simp only [isName, Bool.and_eq_true, decide_eq_true_eq] at hn
          exact hn.1.2
        refine (wname_new0 w b mb mo pv bv (poolBytes names) body wrong (mapD names) names.length t hc ht12 hW hM h4 (poolBytes_cap h2 h3) hhas hat F.size hn).mono ?_
        rintro e w' ⟨rfl, hkp, mo', pv', bv', hw, hm⟩
        refine ⟨rfl, hkp, mo', pv', bv', putB body (UInt8.ofNat names.length), wrong, names ++ [t], by rw [poolBytes_snoc]; exact hw, ?_, ?_, by simp; omega, ?_, putB_len h4, ?_, ?_⟩
        · unfold MapIs
          rw [mapD_snoc, List.length_append, List.length_singleton]
          exact hm
        · exact List.nodup_append.2 ⟨h1, by simp, fun a ha c hc' => by simp only [List.mem_singleton] at hc'; subst hc'; exact fun e => posOf_notMem hk (e ▸ ha)⟩
        · intro x hx
          rcases List.mem_append.1 hx with hx | hx
          · exact h3 x hx
          · simp only [List.mem_singleton] at hx; subst hx; exact hn
        · intro s' hs hl
          obtain ⟨s, rfl, hst⟩ := Option.bind_eq_some_iff.1 hs
          obtain ⟨_, rfl⟩ := WName names t s s' hst
          have hle := withName_le s.names t
          obtain ⟨g1, g2, g3⟩ := h5 s rfl (by simp only at hl; omega)
          refine ⟨g1, ?_, ?_⟩
          · simp only [withName]
            rw [← g2, if_neg hk]
          · simp only
            rw [g3, ← g2, hpos, putB_take]
        · intro hs
          cases hw2 : wrong with
          | true => rfl
          | false =>
            obtain ⟨s, rfl, hl, g2, g3⟩ := hnot hw2
            subst g2
            have := hs ⟨withName s.names t, s.out ++ [UInt8.ofNat (posOf s.names t)]⟩ (by
              simp only [Option.bind_some, wstep]
              rw [if_pos ⟨hn, by omega⟩])
            simp only [withName, if_neg hk, List.length_append, List.length_singleton] at this
            omega
      · have hc' : names.length = 255 := by omega
        refine (wname_bad2 w b mb mo pv bv (poolBytes names) body wrong (mapD names) names.length t ht hW hM hhas hat hn (by rw [← hc']; exact F.size)).mono ?_
        rintro e w' ⟨rfl, hkp, hw⟩
        refine ⟨rfl, hkp, mo, pv, bv, body, true, names, hw, hM.same (hW.sameMap hw), h1, h2, h3, h4, ?_, fun _ => rfl⟩
        intro s' hs hl
        exfalso
        obtain ⟨s, rfl, hst⟩ := Option.bind_eq_some_iff.1 hs
        obtain ⟨_, rfl⟩ := WName names t s s' hst
        have hle := withName_le s.names t
        obtain ⟨g1, g2, g3⟩ := h5 s rfl (by simp only at hl; omega)
        simp only [withName] at hl
        rw [← g2, if_neg hk] at hl
        simp at hl
        omega
    · have hn' : isName t = false := by simpa using hn
      refine (wname_bad1 w b mb mo pv bv (poolBytes names) body wrong (mapD names) names.length t ht hW hM hhas hat hn').mono ?_
      rintro e w' ⟨rfl, hkp, hw⟩
      refine ⟨rfl, hkp, mo, pv, bv, body, true, names, hw, hM.same (hW.sameMap hw), h1, h2, h3, h4, ?_, fun _ => rfl⟩
      intro s' hs hl
      exfalso
      obtain ⟨s, rfl, hst⟩ := Option.bind_eq_some_iff.1 hs
      exact hn (WName names t s s' hst).1
end Go.Proofs.YtdhophglnhcjbaaDoor
