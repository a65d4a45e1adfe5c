/- Contracts of the functions that the law goes through: a part of the proof that the last text tells. -/
import Derived.Test.YtdhophglnhcjbaaDoorXD
import Derived.Deep.RegionHeld2
set_option linter.unusedVariables false
set_option linter.unusedSimpArgs false
namespace Go.Proofs.YtdhophglnhcjbaaDoor
open Go.RowKit Cf

/-- nothing but the world's newness has turned -/
theorem WrS.wrong {w : World} {b mb : Nat} {mo : Obj} {pv bv : Value} {body : List UInt8} {wrong : Bool} {names : List ByteArray} (hW : Wr w b mb mo pv bv (poolBytes names) body wrong) (hM : MapIs w mb names) (h1 : names.Nodup) (h2 : names.length ≤ 255) (h3 : ∀ x ∈ names, isName x = true) (h4 : body.length ≤ 2049) :
    WrS (w.setCell ⟨b, 3, none⟩ (.bool true)) b mb none := .bad hW hM h1 h2 h3 h4 hW.spoil

set_option maxRecDepth 100000 in
set_option maxHeartbeats 1000000 in
theorem wnameIf_no (w : World) (b mb : Nat) (mo : Obj) (pv bv : Value) (pool body : List UInt8) (wrong : Bool) (s : ByteArray) (hs : s.size ≠ 0) (h : Hid (Wr w b mb mo pv bv pool body wrong)) :
    Calls Tryd.prog 69 #[.pointer (some ⟨b, 0, none⟩), .bool false, .string s] w fun e w' => e = .returned (.tuple #[]) ∧ w' = w.setCell ⟨b, 3, none⟩ (.bool true) := by
  have c3 := h.out.blk.cell 3 _ rfl
  have z3 := h.out.blk.frozen 3
  have hem : Hid (s.toList.isEmpty = false) := by
    unfold Hid
    rw [ByteArray.toList_eq]
    cases hd : s.data.toList with
    | nil =>
      exfalso; apply hs
      have : s.data.toList.length = 0 := by rw [hd]; rfl
      simpa using this
    | cons x l => rfl
  go_enter Tryd.func69, Tryd.ntmps69
  go_wp2_with fail
  all_goals first
    | (go_end0; exact ⟨rfl, rfl⟩)
    | (exfalso; have := hem.out; simp_all)

set_option maxRecDepth 100000 in
theorem wnameIf_empty (w : World) (b : Nat) :
    Calls Tryd.prog 69 #[.pointer (some ⟨b, 0, none⟩), .bool false, .string ByteArray.empty] w fun e w' => e = .returned (.tuple #[]) ∧ w' = w := by
  have hem : Hid (ByteArray.empty.toList.isEmpty = true) := by unfold Hid; rw [ByteArray.toList_eq]; rfl
  go_enter Tryd.func69, Tryd.ntmps69
  go_wp2_with fail
  all_goals first
    | (go_end0; exact ⟨rfl, rfl⟩)
    | (exfalso; have := hem.out; simp_all)

set_option maxRecDepth 100000 in
theorem wnameIf_any (w : World) (b mb : Nat) (r : Option WS) (c : Bool) (t : ByteArray) (ht : t.size ≤ 1099511627776) (h : Hid (WrS w b mb r)) :
    Calls Tryd.prog 69 #[.pointer (some ⟨b, 0, none⟩), .bool c, .string t] w fun e w' => e = .returned (.tuple #[]) ∧ KeptW w w' b mb ∧ WrS w' b mb (wrun (nameTok c t) r) := by
  cases c with
  | true =>
    show Calls _ _ _ _ (fun e w' => e = .returned (.tuple #[]) ∧ KeptW w w' b mb ∧ WrS w' b mb (wrun [.nm t] r))
    go_enter Tryd.func69, Tryd.ntmps69
    go_wp2_with (go_at_call 36; refine (wname_any w b mb r t ht h).mono ?_; rintro e w4 ⟨rfl, hk4, hw4⟩; try dsimp only)
    go_end0
    exact ⟨rfl, hk4, hw4⟩
  | false =>
    by_cases hs : t.size = 0
    · have e : t = ByteArray.empty := by
        apply ByteArray.ext
        apply Array.eq_empty_of_size_eq_zero hs
      subst e
      refine (wnameIf_empty w b).mono ?_
      rintro e w' ⟨rfl, rfl⟩
      exact ⟨rfl, KeptW.refl _ _ _, h.out⟩
    · obtain ⟨mo, pv, bv, body, wrong, names, hW, hM, h1, h2, h3, h4, h5, h6⟩ := h.out
      refine (wnameIf_no w b mb mo pv bv _ body wrong t hs hW).mono ?_
      rintro e w' ⟨rfl, rfl⟩
      refine ⟨rfl, .ofB (gb_set w ⟨b, 3, none⟩ _), ?_⟩
      have e : wrun (nameTok false t) r = none := by
        simp only [nameTok, hs]
        exact wrun_bad r
      rw [e]
      exact WrS.wrong hW hM h1 h2 h3 h4
end Go.Proofs.YtdhophglnhcjbaaDoor

namespace Go.Proofs.YtdhophglnhcjbaaDoor
open Go.RowKit Cf

theorem WrS.mblt {w : World} {b mb : Nat} {r : Option WS} (h : WrS w b mb r) : mb < w.heap.size := by
  obtain ⟨mo, pv, bv, body, wrong, names, hW, -⟩ := h
  exact hW.mblt

set_option maxRecDepth 100000 in
set_option maxHeartbeats 1000000 in
theorem wkind_no (w : World) (b mb : Nat) (mo : Obj) (pv bv : Value) (pool body : List UInt8) (wrong : Bool) (k : Int) (s : ByteArray) (hk : ¬ (0 ≤ k ∧ k ≤ 4)) (h : Hid (Wr w b mb mo pv bv pool body wrong)) :
    Calls Tryd.prog 52 #[.pointer (some ⟨b, 0, none⟩), .agg #[.int .i64 k, .string s]] w fun e w' => e = .returned (.tuple #[]) ∧ w' = (w.alloc (.cells #[.int .i64 k, .string s] 41)).setCell ⟨b, 3, none⟩ (.bool true) := by
  have HWa : Hid (Wr (w.alloc (.cells #[.int .i64 k, .string s] 41)) b mb mo pv bv pool body wrong) := h.out.keep (gb_alloc w _ _)
  have c3 := HWa.out.blk.cell 3 _ rfl
  have z3 := HWa.out.blk.frozen 3
  go_enter Tryd.func52, Tryd.ntmps52
  by_cases h0 : k < 0
  · go_wp2_with fail
    all_goals first
      | ((try simp only [Exit.inBlock, Exit.then]); refine bodyPost_ret (results_none rfl _ _ _) rfl ?_; exact ⟨rfl, rfl⟩)
  · have h4 : 4 < k := by omega
    go_wp2_with fail
    all_goals first
      | ((try simp only [Exit.inBlock, Exit.then]); refine bodyPost_ret (results_none rfl _ _ _) rfl ?_; exact ⟨rfl, rfl⟩)

set_option maxRecDepth 100000 in
set_option maxHeartbeats 1000000 in
theorem wkind_yes (w : World) (b mb : Nat) (r : Option WS) (k : Nat) (s : ByteArray) (hk : k ≤ 4) (ht : s.size ≤ 1099511627776) (h : Hid (WrS w b mb r)) :
    Calls Tryd.prog 52 #[.pointer (some ⟨b, 0, none⟩), .agg #[.int .i64 k, .string s]] w fun e w' => e = .returned (.tuple #[]) ∧ KeptW w w' b mb ∧ WrS w' b mb (wrun (nameTok (hasName k) s) (wrun (aTok 1 k) r)) := by
  have HWa : Hid (WrS (w.alloc (.cells #[.int .i64 k, .string s] 41)) b mb r) := h.out.keep (gb_alloc w _ _)
  have HKa : Hid (KeptW w (w.alloc (.cells #[.int .i64 k, .string s] 41)) b mb) := .ofNone (gb_alloc w _ _)
  have HBa : Hid (Blk (w.alloc (.cells #[.int .i64 k, .string s] 41)) w.heap.size #[.int .i64 k, .string s] 41) := Blk.new w _ _
  have hnb : w.heap.size ≠ b := by have := h.out.lt; omega
  have hnm : w.heap.size ≠ mb := by have := h.out.mblt; omega
  go_enter Tryd.func52, Tryd.ntmps52
  go_wp2_with (first
    | (go_at_call 51; refine (wnumber_any _ b mb r k 1 (by simp) HWa).mono ?_
       rintro e w1 ⟨rfl, hk1, hw1⟩
       go_loud (
         have HK1 : Hid (KeptW w w1 b mb) := HKa.out.trans hk1
         have HW1 : Hid (WrS w1 b mb (wrun (aTok 1 k) r)) := hw1
         have hb1 := hk1.blk HBa.out hnb hnm (by decide)
         have HB1 : Hid (Blk w1 w.heap.size #[.int .i64 (k : Int), .string s] 41) := hb1
         clear hk1 hw1 hb1
         try dsimp only)))
  have HWd : Hid (WrS w1.drew b mb (wrun (aTok 1 k) r)) := HW1.out.keep (gb_drew w1 none)
  have HKd : Hid (KeptW w w1.drew b mb) := HK1.out.trans (.ofNone (gb_drew w1 none))
  have d0 : w1.drew.cell? ⟨w.heap.size, 0, none⟩ = some (.int .i64 (k : Int)) := HB1.out.cell 0 _ rfl
  have d1 : w1.drew.cell? ⟨w.heap.size, 1, none⟩ = some (.string s) := HB1.out.cell 1 _ rfl
  have HBd : Hid (Blk w1.drew w.heap.size #[.int .i64 (k : Int), .string s] 41) := HB1.out
  go_region_held2 (fun w' => w'.cell? ⟨w.heap.size, 0, none⟩ = some (.int .i64 (k : Int)) ∧ w'.cell? ⟨w.heap.size, 1, none⟩ = some (.string s)) (go_keep)
    (first
      | (go_at_call 70
         refine (hasName_any k _).mono ?_
         rintro e w' ⟨rfl, rfl⟩
         try dsimp only)
      | (go_at_call 69
         refine (wnameIf_any _ b mb (wrun (aTok 1 k) r) (hasName k) s ht HWd).mono ?_
         rintro e w2 ⟨rfl, hk2, hw2⟩
         have hb2 := hk2.blk HBd.out hnb hnm (by decide)
         have n0 : w2.cell? ⟨w.heap.size, 0, none⟩ = some (.int .i64 (k : Int)) := hb2.cell 0 _ rfl
         have n1 : w2.cell? ⟨w.heap.size, 1, none⟩ = some (.string s) := hb2.cell 1 _ rfl
         clear hb2
         try dsimp only))
  all_goals
    go_end0
    exact ⟨rfl, HKd.out.trans hk2, hw2⟩

/-- THE KIND AND ITS NAME -/
theorem wkind_any (w : World) (b mb : Nat) (r : Option WS) (t : XTy) (ht : t.name.size ≤ 1099511627776) (h : Hid (WrS w b mb r)) :
    Calls Tryd.prog 52 #[.pointer (some ⟨b, 0, none⟩), .agg #[.int .i64 t.kind, .string t.name]] w fun e w' => e = .returned (.tuple #[]) ∧ KeptW w w' b mb ∧ WrS w' b mb (wrun (kindTok t) r) := by
  by_cases hk : 0 ≤ t.kind ∧ t.kind ≤ 4
  · obtain ⟨k, hk'⟩ : ∃ k : Nat, t.kind = k := ⟨t.kind.toNat, by omega⟩
    have e : wrun (kindTok t) r = wrun (nameTok (hasName k) t.name) (wrun (aTok 1 k) r) := by
      unfold kindTok
      rw [if_pos hk, hk', aTok_num (.inl rfl)]
      rfl
    rw [e, hk']
    exact wkind_yes w b mb r k t.name (by omega) ht h
  · obtain ⟨mo, pv, bv, body, wrong, names, hW, hM, h1, h2, h3, h4, h5, h6⟩ := h.out
    have e : wrun (kindTok t) r = none := by
      unfold kindTok
      rw [if_neg hk]
      exact wrun_bad r
    rw [e]
    refine (wkind_no w b mb mo pv bv _ body wrong t.kind t.name hk hW).mono ?_
    rintro e w' ⟨rfl, rfl⟩
    have hg := gb_alloc w (.cells #[.int .i64 t.kind, .string t.name] 41) none
    exact ⟨rfl, (KeptW.ofNone hg).trans (.ofB (gb_set _ ⟨b, 3, none⟩ _)), WrS.wrong (hW.keep hg) (hM.same (hg.block mb hW.mblt (by simp))) h1 h2 h3 h4⟩
end Go.Proofs.YtdhophglnhcjbaaDoor

namespace Go.Proofs.YtdhophglnhcjbaaDoor
open Go.RowKit Cf

set_option maxRecDepth 100000 in
set_option maxHeartbeats 1000000 in
/-- A HANDLER -/
theorem whandler_any (w : World) (b mb : Nat) (r : Option WS) (x : XHd) (ht : x.cls.size ≤ 1099511627776) (h : Hid (WrS w b mb r)) :
    Calls Tryd.prog 57 #[.pointer (some ⟨b, 0, none⟩), .agg #[.int .i64 x.from_, .int .i64 x.to, .int .i64 x.at_, .string x.cls]] w fun e w' => e = .returned (.tuple #[]) ∧ KeptW w w' b mb ∧ WrS w' b mb (wrun (hdTok x) r) := by
  obtain ⟨f, t, a, s⟩ := x
  simp only at ht ⊢
  have e : wrun (hdTok ⟨f, t, a, s⟩) r = wrun [.nm s] (wrun (aTok 2 a) (wrun (aTok 2 t) (wrun (aTok 2 f) r))) := by
    rw [aTok_num (.inr rfl), aTok_num (.inr rfl), aTok_num (.inr rfl)]; rfl
  rw [e]; clear e
  have HWa : Hid (WrS (w.alloc (.cells #[.int .i64 f, .int .i64 t, .int .i64 a, .string s] 52)) b mb r) := h.out.keep (gb_alloc w _ _)
  have HKa : Hid (KeptW w (w.alloc (.cells #[.int .i64 f, .int .i64 t, .int .i64 a, .string s] 52)) b mb) := .ofNone (gb_alloc w _ _)
  have HBa : Hid (Blk (w.alloc (.cells #[.int .i64 f, .int .i64 t, .int .i64 a, .string s] 52)) w.heap.size #[.int .i64 f, .int .i64 t, .int .i64 a, .string s] 52) := Blk.new w _ _
  have hnb : w.heap.size ≠ b := by have := h.out.lt; omega
  have hnm : w.heap.size ≠ mb := by have := h.out.mblt; omega
  go_enter Tryd.func57, Tryd.ntmps57
  go_wp2_with fail
  refine (wnumber_any _ b mb r f 2 (by simp) HWa).mono ?_
  rintro e w1 ⟨rfl, hk1, hw1⟩
  have HK1 : Hid (KeptW w w1 b mb) := HKa.out.trans hk1
  have HW1 : Hid (WrS w1 b mb (wrun (aTok 2 f) r)) := hw1
  have HB1 : Hid (Blk w1 w.heap.size #[.int .i64 f, .int .i64 t, .int .i64 a, .string s] 52) := hk1.blk HBa.out hnb hnm (by decide)
  have c1 := HB1.out.cell 1 _ rfl
  clear hk1 hw1 HKa HWa HBa
  dsimp only
  go_wp2_with fail
  refine (wnumber_any _ b mb (wrun (aTok 2 f) r) t 2 (by simp) HW1).mono ?_
  rintro e w2 ⟨rfl, hk2, hw2⟩
  have HK2 : Hid (KeptW w w2 b mb) := HK1.out.trans hk2
  have HW2 : Hid (WrS w2 b mb (wrun (aTok 2 t) (wrun (aTok 2 f) r))) := hw2
  have HB2 : Hid (Blk w2 w.heap.size #[.int .i64 f, .int .i64 t, .int .i64 a, .string s] 52) := hk2.blk HB1.out hnb hnm (by decide)
  clear c1
  have c2 := HB2.out.cell 2 _ rfl
  clear hk2 hw2 HK1 HW1 HB1
  dsimp only
  go_wp2_with fail
  refine (wnumber_any _ b mb (wrun (aTok 2 t) (wrun (aTok 2 f) r)) a 2 (by simp) HW2).mono ?_
  rintro e w3 ⟨rfl, hk3, hw3⟩
  have HK3 : Hid (KeptW w w3 b mb) := HK2.out.trans hk3
  have HW3 : Hid (WrS w3 b mb (wrun (aTok 2 a) (wrun (aTok 2 t) (wrun (aTok 2 f) r)))) := hw3
  have HB3 : Hid (Blk w3 w.heap.size #[.int .i64 f, .int .i64 t, .int .i64 a, .string s] 52) := hk3.blk HB2.out hnb hnm (by decide)
  clear c2
  have c3 := HB3.out.cell 3 _ rfl
  clear hk3 hw3 HK2 HW2 HB2
  dsimp only
  go_wp2_with fail
  refine (wname_any _ b mb (wrun (aTok 2 a) (wrun (aTok 2 t) (wrun (aTok 2 f) r))) s ht HW3).mono ?_
  rintro e w4 ⟨rfl, hk4, hw4⟩
  dsimp only
  go_wp2_with fail
  go_end0
  exact ⟨rfl, HK3.out.trans hk4, hw4⟩
end Go.Proofs.YtdhophglnhcjbaaDoor

namespace Go.Proofs.YtdhophglnhcjbaaDoor
open Go.RowKit Cf

set_option maxRecDepth 100000 in
set_option maxHeartbeats 1000000 in
/-- A FIELD -/
theorem wfield_any (w : World) (b mb : Nat) (r : Option WS) (x : XFld) (hn : x.name.size ≤ 1099511627776) (ht : x.ty.name.size ≤ 1099511627776) (h : Hid (WrS w b mb r)) :
    Calls Tryd.prog 38 #[.pointer (some ⟨b, 0, none⟩), .agg #[.string x.name, .int .i64 x.ty.kind, .string x.ty.name]] w fun e w' => e = .returned (.tuple #[]) ∧ KeptW w w' b mb ∧ WrS w' b mb (wrun (fldTok x) r) := by
  obtain ⟨n, t⟩ := x
  simp only at hn ht ⊢
  have e : wrun (fldTok ⟨n, t⟩) r = wrun (kindTok t) (wrun [.nm n] r) := rfl
  rw [e]; clear e
  have HWa : Hid (WrS (w.alloc (.cells #[.string n, .int .i64 t.kind, .string t.name] 43)) b mb r) := h.out.keep (gb_alloc w _ _)
  have HKa : Hid (KeptW w (w.alloc (.cells #[.string n, .int .i64 t.kind, .string t.name] 43)) b mb) := .ofNone (gb_alloc w _ _)
  have HBa : Hid (Blk (w.alloc (.cells #[.string n, .int .i64 t.kind, .string t.name] 43)) w.heap.size #[.string n, .int .i64 t.kind, .string t.name] 43) := Blk.new w _ _
  have hnb : w.heap.size ≠ b := by have := h.out.lt; omega
  have hnm : w.heap.size ≠ mb := by have := h.out.mblt; omega
  go_enter Tryd.func38, Tryd.ntmps38
  go_wp2_with fail
  refine (wname_any _ b mb r n hn HWa).mono ?_
  rintro e w1 ⟨rfl, hk1, hw1⟩
  have HK1 : Hid (KeptW w w1 b mb) := HKa.out.trans hk1
  have HW1 : Hid (WrS w1 b mb (wrun [.nm n] r)) := hw1
  have HB1 : Hid (Blk w1 w.heap.size #[.string n, .int .i64 t.kind, .string t.name] 43) := hk1.blk HBa.out hnb hnm (by decide)
  have c1 := HB1.out.cell 1 _ rfl
  have c2 := HB1.out.cell 2 _ rfl
  clear hk1 hw1 HKa HWa HBa
  dsimp only
  go_wp2_with fail
  refine (wkind_any _ b mb (wrun [.nm n] r) t ht HW1).mono ?_
  rintro e w4 ⟨rfl, hk4, hw4⟩
  dsimp only
  go_wp2_with fail
  go_end0
  exact ⟨rfl, HK1.out.trans hk4, hw4⟩
end Go.Proofs.YtdhophglnhcjbaaDoor

namespace Go.Proofs.YtdhophglnhcjbaaDoor
open Go.RowKit Cf

theorem Shp.keepW {w w' : World} {b mb : Nat} (h : Shp w) (hk : KeptW w w' b mb) (hb : 0 < b) (hm : 0 < mb) : Shp w' := by
  have h0 : w'.heap[0]? = w.heap[0]? := hk.block 0 h.1 (fun hm' => by rcases hm' with h2 | h2 | ⟨h2, _⟩ <;> omega)
  refine ⟨Nat.lt_of_lt_of_le h.1 hk.size, fun op ho => ?_⟩
  have := h.2 op ho
  simp only [World.cell?, h0] at this ⊢
  exact this

set_option maxRecDepth 100000 in
set_option maxHeartbeats 1000000 in
theorem wins_no (w : World) (b mb : Nat) (mo : Obj) (pv bv : Value) (pool body : List UInt8) (wrong : Bool) (k a : Int) (s t : ByteArray) (hk : ¬ (0 ≤ k ∧ k < 32)) (h : Hid (Wr w b mb mo pv bv pool body wrong)) :
    Calls Tryd.prog 55 #[.pointer (some ⟨b, 0, none⟩), .agg #[.int .i64 k, .int .i64 a, .string s, .string t]] w fun e w' => e = .returned (.tuple #[]) ∧ w' = (w.alloc (.cells #[.int .i64 k, .int .i64 a, .string s, .string t] 50)).setCell ⟨b, 3, none⟩ (.bool true) := by
  have HWa : Hid (Wr (w.alloc (.cells #[.int .i64 k, .int .i64 a, .string s, .string t] 50)) b mb mo pv bv pool body wrong) := h.out.keep (gb_alloc w _ _)
  have c3 := HWa.out.blk.cell 3 _ rfl
  have z3 := HWa.out.blk.frozen 3
  go_enter Tryd.func55, Tryd.ntmps55
  by_cases h0 : k < 0
  · go_wp2_with fail
    all_goals first
      | ((try simp only [Exit.inBlock, Exit.then]); refine bodyPost_ret (results_none rfl _ _ _) rfl ?_; exact ⟨rfl, rfl⟩)
  · have h4 : 32 ≤ k := by omega
    go_wp2_with fail
    all_goals first
      | ((try simp only [Exit.inBlock, Exit.then]); refine bodyPost_ret (results_none rfl _ _ _) rfl ?_; exact ⟨rfl, rfl⟩)

set_option maxRecDepth 100000 in
set_option maxHeartbeats 1000000 in
theorem wins_yes (w : World) (b mb : Nat) (r : Option WS) (k : Nat) (a : Int) (s t : ByteArray) (hk : k < 32) (hs : s.size ≤ 1099511627776) (ht : t.size ≤ 1099511627776) (h : Hid (WrS w b mb r)) (hS : Hid (Shp w)) (hb0 : 0 < b) (hm0 : 0 < mb) :
    Calls Tryd.prog 55 #[.pointer (some ⟨b, 0, none⟩), .agg #[.int .i64 k, .int .i64 a, .string s, .string t]] w fun e w' => e = .returned (.tuple #[]) ∧ KeptW w w' b mb ∧ WrS w' b mb (wrun (nameTok (wantsM k) t) (wrun (nameTok (wantsC k) s) (wrun (aTok (width k) a) (wrun (aTok 1 k) r)))) := by
  have hSa : Shp (w.alloc (.cells #[.int .i64 k, .int .i64 a, .string s, .string t] 50)) := hS.out.keep (gb_alloc w _ none) (by simp)
  obtain ⟨s0, s1, s2⟩ := hSa.2 k hk
  have hwd : width k = 0 ∨ width k = 1 ∨ width k = 2 ∨ width k = 4 := by unfold width; split; omega; split; omega; split <;> omega
  clear hSa hS
  generalize width k = wd at *
  generalize wantsC k = cC at *
  generalize wantsM k = cM at *
  have HK0 : Hid (KeptW w ((w.alloc (.cells #[.int .i64 k, .int .i64 a, .string s, .string t] 50)).alloc (.cells #[.int .i64 wd, .bool cC, .bool cM] 113)) b mb) := .ofNone (gb_tr (gb_alloc w _ none) (gb_alloc _ _ none))
  have HW0 : Hid (WrS ((w.alloc (.cells #[.int .i64 k, .int .i64 a, .string s, .string t] 50)).alloc (.cells #[.int .i64 wd, .bool cC, .bool cM] 113)) b mb r) := h.out.keep (gb_tr (gb_alloc w _ none) (gb_alloc _ _ none))
  have HB0 : Hid (Blk ((w.alloc (.cells #[.int .i64 k, .int .i64 a, .string s, .string t] 50)).alloc (.cells #[.int .i64 wd, .bool cC, .bool cM] 113)) w.heap.size #[.int .i64 k, .int .i64 a, .string s, .string t] 50) := (Blk.new w _ _).keep (gb_alloc _ _ none) (by simp)
  have HC0 : Hid (Blk ((w.alloc (.cells #[.int .i64 k, .int .i64 a, .string s, .string t] 50)).alloc (.cells #[.int .i64 wd, .bool cC, .bool cM] 113)) (w.heap.size + 1) #[.int .i64 wd, .bool cC, .bool cM] 113) := by
    have := Blk.new (w.alloc (.cells #[.int .i64 k, .int .i64 a, .string s, .string t] 50)) (#[.int .i64 wd, .bool cC, .bool cM] : Array Value) 113
    have e : (w.alloc (.cells #[.int .i64 k, .int .i64 a, .string s, .string t] 50)).heap.size = w.heap.size + 1 := by simp
    rw [e] at this
    exact this
  have hnb : w.heap.size ≠ b := by have := h.out.lt; omega
  have hnm : w.heap.size ≠ mb := by have := h.out.mblt; omega
  have hnb2 : w.heap.size + 1 ≠ b := by have := h.out.lt; omega
  have hnm2 : w.heap.size + 1 ≠ mb := by have := h.out.mblt; omega
  go_enter Tryd.func55, Tryd.ntmps55
  go_wp2_with fail
  refine (wnumber_any _ b mb r k 1 (by simp) HW0).mono ?_
  rintro e w1 ⟨rfl, hk1, hw1⟩
  have HK1 : Hid (KeptW w w1 b mb) := HK0.out.trans hk1
  have HW1 : Hid (WrS w1 b mb (wrun (aTok 1 k) r)) := hw1
  have HB1 : Hid (Blk w1 w.heap.size #[.int .i64 k, .int .i64 a, .string s, .string t] 50) := hk1.blk HB0.out hnb hnm (by decide)
  have HC1 : Hid (Blk w1 (w.heap.size + 1) #[.int .i64 wd, .bool cC, .bool cM] 113) := hk1.blk HC0.out hnb2 hnm2 (by decide)
  clear hk1 hw1 HK0 HW0 HB0 HC0
  have c1 := HB1.out.cell 1 _ rfl
  have d0 := HC1.out.cell 0 _ rfl
  dsimp only
  go_wp2_with fail
  refine (wnumber_any _ b mb (wrun (aTok 1 k) r) a wd hwd HW1).mono ?_
  rintro e w2 ⟨rfl, hk2, hw2⟩
  have HK2 : Hid (KeptW w w2 b mb) := HK1.out.trans hk2
  have HW2 : Hid (WrS w2 b mb (wrun (aTok wd a) (wrun (aTok 1 k) r))) := hw2
  have HB2 : Hid (Blk w2 w.heap.size #[.int .i64 k, .int .i64 a, .string s, .string t] 50) := hk2.blk HB1.out hnb hnm (by decide)
  have HC2 : Hid (Blk w2 (w.heap.size + 1) #[.int .i64 wd, .bool cC, .bool cM] 113) := hk2.blk HC1.out hnb2 hnm2 (by decide)
  clear hk2 hw2 HK1 HW1 HB1 HC1
  have c2 := HB2.out.cell 2 _ rfl
  have d1 := HC2.out.cell 1 _ rfl
  dsimp only
  go_wp2_with fail
  refine (wnameIf_any _ b mb (wrun (aTok wd a) (wrun (aTok 1 k) r)) cC s hs HW2).mono ?_
  rintro e w3 ⟨rfl, hk3, hw3⟩
  have HK3 : Hid (KeptW w w3 b mb) := HK2.out.trans hk3
  have HW3 : Hid (WrS w3 b mb (wrun (nameTok cC s) (wrun (aTok wd a) (wrun (aTok 1 k) r)))) := hw3
  have HB3 : Hid (Blk w3 w.heap.size #[.int .i64 k, .int .i64 a, .string s, .string t] 50) := hk3.blk HB2.out hnb hnm (by decide)
  have HC3 : Hid (Blk w3 (w.heap.size + 1) #[.int .i64 wd, .bool cC, .bool cM] 113) := hk3.blk HC2.out hnb2 hnm2 (by decide)
  clear hk3 hw3 HK2 HW2 HB2 HC2
  have c3 := HB3.out.cell 3 _ rfl
  have d2 := HC3.out.cell 2 _ rfl
  dsimp only
  go_wp2_with fail
  refine (wnameIf_any _ b mb (wrun (nameTok cC s) (wrun (aTok wd a) (wrun (aTok 1 k) r))) cM t ht HW3).mono ?_
  rintro e w4 ⟨rfl, hk4, hw4⟩
  dsimp only
  go_wp2_with fail
  go_end0
  exact ⟨rfl, HK3.out.trans hk4, hw4⟩

/-- AN INSTRUCTION -/
theorem wins_any (w : World) (b mb : Nat) (r : Option WS) (i : XIn) (hs : i.cls.size ≤ 1099511627776) (ht : i.mem.size ≤ 1099511627776) (h : Hid (WrS w b mb r)) (hS : Hid (Shp w)) (hb0 : 0 < b) (hm0 : 0 < mb) :
    Calls Tryd.prog 55 #[.pointer (some ⟨b, 0, none⟩), .agg #[.int .i64 i.op, .int .i64 i.a, .string i.cls, .string i.mem]] w fun e w' => e = .returned (.tuple #[]) ∧ KeptW w w' b mb ∧ WrS w' b mb (wrun (insTok i) r) := by
  by_cases hk : 0 ≤ i.op ∧ i.op < 32
  · obtain ⟨k, hk'⟩ : ∃ k : Nat, i.op = k := ⟨i.op.toNat, by omega⟩
    have e : wrun (insTok i) r = wrun (nameTok (wantsM k) i.mem) (wrun (nameTok (wantsC k) i.cls) (wrun (aTok (width k) i.a) (wrun (aTok 1 k) r))) := by
      unfold insTok
      rw [if_pos hk, hk', aTok_num (.inl rfl), Int.toNat_natCast]
      simp only [← wrun_append]
      simp
    rw [e, hk']
    exact wins_yes w b mb r k i.a i.cls i.mem (by omega) hs ht h hS hb0 hm0
  · obtain ⟨mo, pv, bv, body, wrong, names, hW, hM, h1, h2, h3, h4, h5, h6⟩ := h.out
    have e : wrun (insTok i) r = none := by
      unfold insTok
      rw [if_neg hk]
      exact wrun_bad r
    rw [e]
    refine (wins_no w b mb mo pv bv _ body wrong i.op i.a i.cls i.mem hk hW).mono ?_
    rintro e w' ⟨rfl, rfl⟩
    have hg := gb_alloc w (.cells #[.int .i64 i.op, .int .i64 i.a, .string i.cls, .string i.mem] 50) none
    exact ⟨rfl, (KeptW.ofNone hg).trans (.ofB (gb_set _ ⟨b, 3, none⟩ _)), WrS.wrong (hW.keep hg) (hM.same (hg.block mb hW.mblt (by simp))) h1 h2 h3 h4⟩
end Go.Proofs.YtdhophglnhcjbaaDoor

namespace Go.Proofs.YtdhophglnhcjbaaDoor
open Go.RowKit Cf

theorem wstep_over {t : WTok} {s s' : WS} (h : wstep t s = some s') (h0 : 255 < s.names.length) : 255 < s'.names.length := by
  match t, h with
  | some (.inl (n, m)), h =>
    simp only [wstep] at h
    split at h
    · injection h with h; subst h; exact h0
    · cases h
  | some (.inr x), h =>
    obtain ⟨_, rfl⟩ := WName s.names x s s' h
    have := withName_le s.names x
    simp only
    omega
  | none, h => cases h
theorem wrun_over : ∀ (l : List WTok) {r : Option WS}, (∀ s, r = some s → 255 < s.names.length) → ∀ s, wrun l r = some s → 255 < s.names.length
  | [], _, h => h
  | t :: l, r, h => by
    refine wrun_over l (r := r.bind (wstep t)) (fun s hs => ?_)
    obtain ⟨s0, rfl, h1⟩ := Option.bind_eq_some_iff.1 hs
    exact wstep_over h1 (h s0 rfl)
/-- a writer that is wrong stays so -/
theorem WrS.skip {w : World} {b mb : Nat} {mo : Obj} {pv bv : Value} {body : List UInt8} {names : List ByteArray} {r : Option WS} (l : List WTok) (hW : Wr w b mb mo pv bv (poolBytes names) body true) (hM : MapIs w mb names) (h1 : names.Nodup) (h2 : names.length ≤ 255) (h3 : ∀ x ∈ names, isName x = true) (h4 : body.length ≤ 2049)
    (h5 : ∀ s, r = some s → s.names.length ≤ 255 → true = false ∧ names = s.names ∧ body = s.out.take 2049) : WrS w b mb (wrun l r) := by
  refine ⟨mo, pv, bv, body, true, names, hW, hM, h1, h2, h3, h4, ?_, fun _ => rfl⟩
  intro s hs hl
  exfalso
  have := wrun_over l (r := r) (fun s0 e => by
    by_cases hc : s0.names.length ≤ 255
    · have := (h5 s0 e hc).1; cases this
    · omega) s hs
  omega
theorem RdRow.keepW {α : Type} {w w' : World} {lim sz b mb : Nat} {enc : α → List Value} {a : Option Addr} {xs : List α} (h : RdRow w lim sz enc a xs) (hk : KeptW w w' b mb) (hl : lim ≤ b) (hm : lim ≤ mb) (hb : b < w.heap.size) : RdRow w' lim sz enc a xs := by
  intro j hj
  obtain ⟨p, h1, h2, h3⟩ := h j hj
  exact ⟨p, h1, h2, fun r u hu => hk.cell (h3 r u hu) (by rw [add_block]; omega) (by rw [add_block]; omega) hb⟩

set_option maxRecDepth 100000 in
set_option maxHeartbeats 1000000 in
theorem wlist_ty (w : World) (b mb lim : Nat) (r : Option WS) (m : Nat) (xs : List XTy) (a : Option Addr) (cap : Nat) (hm : m = 1 ∨ m = 2) (hlim : lim ≤ b) (hlm : lim ≤ mb) (hxl : xs.length ≤ 1099511627776) (h : Hid (WrS w b mb r)) (hrow : Hid (RdRow w lim 2 xTy a xs))
    (HEL : ∀ (w1 : World) (r1 : Option WS) (x : XTy), x ∈ xs → Hid (KeptW w w1 b mb) → Hid (WrS w1 b mb r1) → Calls Tryd.prog 52 #[.pointer (some ⟨b, 0, none⟩), .agg #[.int .i64 x.kind, .string x.name]] w1 fun e w' => e = .returned (.tuple #[]) ∧ KeptW w1 w' b mb ∧ WrS w' b mb (wrun (kindTok x) r1)) :
    Calls Tryd.prog 53 #[.pointer (some ⟨b, 0, none⟩), .int .i64 m, .slice a xs.length cap, .func (.func 52) #[.pointer (some ⟨b, 0, none⟩)] #[]] w
      fun e w' => e = .returned (.tuple #[]) ∧ KeptW w w' b mb ∧ WrS w' b mb (wrun (listTok m kindTok xs) r) := by
  have hbl : b < w.heap.size := h.out.lt
  have e0 : ∀ j, j ≤ xs.length → wrun (listTok m kindTok xs) r = wrun ((xs.drop j).flatMap kindTok) (wrun ((xs.take j).flatMap kindTok) (wrun (aTok m xs.length) r)) := by
    intro j _
    rw [aTok_num hm, ← wrun_append, ← wrun_append, ← List.flatMap_append, List.take_append_drop]
    rfl
  have HE : Hid (∀ j, j ≤ xs.length → wrun (listTok m kindTok xs) r = wrun ((xs.drop j).flatMap kindTok) (wrun ((xs.take j).flatMap kindTok) (wrun (aTok m xs.length) r))) := e0
  clear e0
  go_enter Tryd.func53, Tryd.ntmps53
  go_wp2_with (go_at_call 51; refine (wnumber_any _ b mb r (xs.length : Int) m (by omega) h).mono ?_; rintro e w1 ⟨rfl, hk1, hw1⟩; have HK1 : Hid (KeptW w w1 b mb) := hk1; have HW1 : Hid (WrS w1 b mb (wrun (aTok m xs.length) r)) := hw1; clear hk1 hw1; try dsimp only)
  obtain ⟨r2, hr2⟩ : ∃ r2, r2 = wrun (aTok m xs.length) r := ⟨_, rfl⟩
  rw [← hr2] at HW1 HE
  clear hr2
  go_loopw [17] (fun i wr => ∃ j : Nat, j ≤ xs.length ∧ i = .int .i64 j ∧ WrS wr b mb (wrun ((xs.take j).flatMap kindTok) r2) ∧ KeptW w wr b mb) (fun i _ => xs.length - (intOf i).toNat)
  case atStart => exact ⟨0, Nat.zero_le _, rfl, HW1.out, HK1.out⟩
  case round =>
    clear HW1 HK1
    obtain ⟨j, hj, rfl, hps, hkp⟩ := hrel
    have HW : Hid (WrS wr b mb (wrun ((xs.take j).flatMap kindTok) r2)) := hps
    have HK : Hid (KeptW w wr b mb) := hkp
    clear hps hkp
    by_cases hlt : j < xs.length
    · obtain ⟨p, rfl, hp1, hpc⟩ := hrow.out.keepW HK.out hlim hlm hbl j hlt
      have f0 : wr.cell? (p.add (j * 2)) = some (.int .i64 xs[j].kind) := hpc 0 _ rfl
      have f1 : wr.cell? ⟨(p.add (j * 2)).block, (p.add (j * 2)).off + 1, none⟩ = some (.string xs[j].name) := by rw [add_at p (j * 2) 0]; exact hpc 1 _ rfl
      clear hpc
      have HWa : Hid (WrS (wr.alloc (.cells #[.int .i64 xs[j].kind, .string xs[j].name] 41)) b mb (wrun ((xs.take j).flatMap kindTok) r2)) := HW.out.keep (gb_alloc wr _ _)
      have HKa : Hid (KeptW w (wr.alloc (.cells #[.int .i64 xs[j].kind, .string xs[j].name] 41)) b mb) := HK.out.trans (.ofNone (gb_alloc wr _ _))
      obtain ⟨mo, pv, bv, body, wrong, names, hW, hM, h1, h2, h3, h4, h5, h6⟩ := HWa.out
      have c3 := hW.blk.cell 3 _ rfl
      cases wrong with
      | true =>
        have HD : Hid (WrS (wr.alloc (.cells #[.int .i64 xs[j].kind, .string xs[j].name] 41)) b mb (wrun (listTok m kindTok xs) r)) := by
          unfold Hid
          rw [HE.out j hj]
          exact .skip _ hW hM h1 h2 h3 h4 h5
        clear hW hM h1 h2 h3 h4 h5 h6
        go_wp2_with fail
        (try simp only [Exit.inBlock, Exit.then]); refine bodyPost_ret (results_none rfl _ _ _) rfl ?_
        exact ⟨rfl, HKa.out, HD.out⟩
      | false =>
        clear hW hM h1 h2 h3 h4 h5 h6
        go_wp2_with (go_at_call 52; refine (HEL _ _ xs[j] (List.getElem_mem hlt) HKa HWa).mono ?_; rintro e w4 ⟨rfl, hk4, hw4⟩; try dsimp only)
        go_roundw
        case rel => exact ⟨j + 1, hlt, by go_num, by rw [flat_take kindTok xs j hlt]; exact hw4, HKa.out.trans hk4⟩
        case measure => simp [intOf]; omega
    · have hje : j = xs.length := by omega
      subst hje
      go_wp2_with fail
      go_end0
      refine ⟨rfl, HK.out, ?_⟩
      rw [HE.out xs.length (Nat.le_refl _), List.drop_length]
      exact HW.out

set_option maxRecDepth 100000 in
set_option maxHeartbeats 1000000 in
theorem wlist_fld (w : World) (b mb lim : Nat) (r : Option WS) (m : Nat) (xs : List XFld) (a : Option Addr) (cap : Nat) (hm : m = 1 ∨ m = 2) (hlim : lim ≤ b) (hlm : lim ≤ mb) (hxl : xs.length ≤ 1099511627776) (h : Hid (WrS w b mb r)) (hrow : Hid (RdRow w lim 3 xFld a xs))
    (HEL : ∀ (w1 : World) (r1 : Option WS) (x : XFld), x ∈ xs → Hid (KeptW w w1 b mb) → Hid (WrS w1 b mb r1) → Calls Tryd.prog 38 #[.pointer (some ⟨b, 0, none⟩), .agg #[.string x.name, .int .i64 x.ty.kind, .string x.ty.name]] w1 fun e w' => e = .returned (.tuple #[]) ∧ KeptW w1 w' b mb ∧ WrS w' b mb (wrun (fldTok x) r1)) :
    Calls Tryd.prog 37 #[.pointer (some ⟨b, 0, none⟩), .int .i64 m, .slice a xs.length cap, .func (.func 38) #[.pointer (some ⟨b, 0, none⟩)] #[]] w
      fun e w' => e = .returned (.tuple #[]) ∧ KeptW w w' b mb ∧ WrS w' b mb (wrun (listTok m fldTok xs) r) := by
  have hbl : b < w.heap.size := h.out.lt
  have e0 : ∀ j, j ≤ xs.length → wrun (listTok m fldTok xs) r = wrun ((xs.drop j).flatMap fldTok) (wrun ((xs.take j).flatMap fldTok) (wrun (aTok m xs.length) r)) := by
    intro j _
    rw [aTok_num hm, ← wrun_append, ← wrun_append, ← List.flatMap_append, List.take_append_drop]
    rfl
  have HE : Hid (∀ j, j ≤ xs.length → wrun (listTok m fldTok xs) r = wrun ((xs.drop j).flatMap fldTok) (wrun ((xs.take j).flatMap fldTok) (wrun (aTok m xs.length) r))) := e0
  clear e0
  go_enter Tryd.func37, Tryd.ntmps37
  go_wp2_with (go_at_call 51; refine (wnumber_any _ b mb r (xs.length : Int) m (by omega) h).mono ?_; rintro e w1 ⟨rfl, hk1, hw1⟩; have HK1 : Hid (KeptW w w1 b mb) := hk1; have HW1 : Hid (WrS w1 b mb (wrun (aTok m xs.length) r)) := hw1; clear hk1 hw1; try dsimp only)
  obtain ⟨r2, hr2⟩ : ∃ r2, r2 = wrun (aTok m xs.length) r := ⟨_, rfl⟩
  rw [← hr2] at HW1 HE
  clear hr2
  go_loopw [17] (fun i wr => ∃ j : Nat, j ≤ xs.length ∧ i = .int .i64 j ∧ WrS wr b mb (wrun ((xs.take j).flatMap fldTok) r2) ∧ KeptW w wr b mb) (fun i _ => xs.length - (intOf i).toNat)
  case atStart => exact ⟨0, Nat.zero_le _, rfl, HW1.out, HK1.out⟩
  case round =>
    clear HW1 HK1
    obtain ⟨j, hj, rfl, hps, hkp⟩ := hrel
    have HW : Hid (WrS wr b mb (wrun ((xs.take j).flatMap fldTok) r2)) := hps
    have HK : Hid (KeptW w wr b mb) := hkp
    clear hps hkp
    by_cases hlt : j < xs.length
    · obtain ⟨p, rfl, hp1, hpc⟩ := hrow.out.keepW HK.out hlim hlm hbl j hlt
      have f0 : wr.cell? (p.add (j * 3)) = some (.string xs[j].name) := hpc 0 _ rfl
      have f1 : wr.cell? ⟨(p.add (j * 3)).block, (p.add (j * 3)).off + 1, none⟩ = some (.int .i64 xs[j].ty.kind) := by rw [add_at p (j * 3) 0]; exact hpc 1 _ rfl
      have f2 : wr.cell? ⟨(p.add (j * 3)).block, (p.add (j * 3)).off + 2, none⟩ = some (.string xs[j].ty.name) := by rw [add_at p (j * 3) 1]; exact hpc 2 _ rfl
      clear hpc
      have HWa : Hid (WrS (wr.alloc (.cells #[.string xs[j].name, .int .i64 xs[j].ty.kind, .string xs[j].ty.name] 43)) b mb (wrun ((xs.take j).flatMap fldTok) r2)) := HW.out.keep (gb_alloc wr _ _)
      have HKa : Hid (KeptW w (wr.alloc (.cells #[.string xs[j].name, .int .i64 xs[j].ty.kind, .string xs[j].ty.name] 43)) b mb) := HK.out.trans (.ofNone (gb_alloc wr _ _))
      obtain ⟨mo, pv, bv, body, wrong, names, hW, hM, h1, h2, h3, h4, h5, h6⟩ := HWa.out
      have c3 := hW.blk.cell 3 _ rfl
      cases wrong with
      | true =>
        have HD : Hid (WrS (wr.alloc (.cells #[.string xs[j].name, .int .i64 xs[j].ty.kind, .string xs[j].ty.name] 43)) b mb (wrun (listTok m fldTok xs) r)) := by
          unfold Hid
          rw [HE.out j hj]
          exact .skip _ hW hM h1 h2 h3 h4 h5
        clear hW hM h1 h2 h3 h4 h5 h6
        go_wp2_with fail
        (try simp only [Exit.inBlock, Exit.then]); refine bodyPost_ret (results_none rfl _ _ _) rfl ?_
        exact ⟨rfl, HKa.out, HD.out⟩
      | false =>
        clear hW hM h1 h2 h3 h4 h5 h6
        go_wp2_with (go_at_call 38; refine (HEL _ _ xs[j] (List.getElem_mem hlt) HKa HWa).mono ?_; rintro e w4 ⟨rfl, hk4, hw4⟩; try dsimp only)
        go_roundw
        case rel => exact ⟨j + 1, hlt, by go_num, by rw [flat_take fldTok xs j hlt]; exact hw4, HKa.out.trans hk4⟩
        case measure => simp [intOf]; omega
    · have hje : j = xs.length := by omega
      subst hje
      go_wp2_with fail
      go_end0
      refine ⟨rfl, HK.out, ?_⟩
      rw [HE.out xs.length (Nat.le_refl _), List.drop_length]
      exact HW.out

set_option maxRecDepth 100000 in
set_option maxHeartbeats 1000000 in
theorem wlist_in (w : World) (b mb lim : Nat) (r : Option WS) (m : Nat) (xs : List XIn) (a : Option Addr) (cap : Nat) (hm : m = 1 ∨ m = 2) (hlim : lim ≤ b) (hlm : lim ≤ mb) (hxl : xs.length ≤ 1099511627776) (h : Hid (WrS w b mb r)) (hrow : Hid (RdRow w lim 4 xIn a xs))
    (HEL : ∀ (w1 : World) (r1 : Option WS) (x : XIn), x ∈ xs → Hid (KeptW w w1 b mb) → Hid (WrS w1 b mb r1) → Calls Tryd.prog 55 #[.pointer (some ⟨b, 0, none⟩), .agg #[.int .i64 x.op, .int .i64 x.a, .string x.cls, .string x.mem]] w1 fun e w' => e = .returned (.tuple #[]) ∧ KeptW w1 w' b mb ∧ WrS w' b mb (wrun (insTok x) r1)) :
    Calls Tryd.prog 54 #[.pointer (some ⟨b, 0, none⟩), .int .i64 m, .slice a xs.length cap, .func (.func 55) #[.pointer (some ⟨b, 0, none⟩)] #[]] w
      fun e w' => e = .returned (.tuple #[]) ∧ KeptW w w' b mb ∧ WrS w' b mb (wrun (listTok m insTok xs) r) := by
  have hbl : b < w.heap.size := h.out.lt
  have e0 : ∀ j, j ≤ xs.length → wrun (listTok m insTok xs) r = wrun ((xs.drop j).flatMap insTok) (wrun ((xs.take j).flatMap insTok) (wrun (aTok m xs.length) r)) := by
    intro j _
    rw [aTok_num hm, ← wrun_append, ← wrun_append, ← List.flatMap_append, List.take_append_drop]
    rfl
  have HE : Hid (∀ j, j ≤ xs.length → wrun (listTok m insTok xs) r = wrun ((xs.drop j).flatMap insTok) (wrun ((xs.take j).flatMap insTok) (wrun (aTok m xs.length) r))) := e0
  clear e0
  go_enter Tryd.func54, Tryd.ntmps54
  go_wp2_with (go_at_call 51; refine (wnumber_any _ b mb r (xs.length : Int) m (by omega) h).mono ?_; rintro e w1 ⟨rfl, hk1, hw1⟩; have HK1 : Hid (KeptW w w1 b mb) := hk1; have HW1 : Hid (WrS w1 b mb (wrun (aTok m xs.length) r)) := hw1; clear hk1 hw1; try dsimp only)
  obtain ⟨r2, hr2⟩ : ∃ r2, r2 = wrun (aTok m xs.length) r := ⟨_, rfl⟩
  rw [← hr2] at HW1 HE
  clear hr2
  go_loopw [17] (fun i wr => ∃ j : Nat, j ≤ xs.length ∧ i = .int .i64 j ∧ WrS wr b mb (wrun ((xs.take j).flatMap insTok) r2) ∧ KeptW w wr b mb) (fun i _ => xs.length - (intOf i).toNat)
  case atStart => exact ⟨0, Nat.zero_le _, rfl, HW1.out, HK1.out⟩
  case round =>
    clear HW1 HK1
    obtain ⟨j, hj, rfl, hps, hkp⟩ := hrel
    have HW : Hid (WrS wr b mb (wrun ((xs.take j).flatMap insTok) r2)) := hps
    have HK : Hid (KeptW w wr b mb) := hkp
    clear hps hkp
    by_cases hlt : j < xs.length
    · obtain ⟨p, rfl, hp1, hpc⟩ := hrow.out.keepW HK.out hlim hlm hbl j hlt
      have f0 : wr.cell? (p.add (j * 4)) = some (.int .i64 xs[j].op) := hpc 0 _ rfl
      have f1 : wr.cell? ⟨(p.add (j * 4)).block, (p.add (j * 4)).off + 1, none⟩ = some (.int .i64 xs[j].a) := by rw [add_at p (j * 4) 0]; exact hpc 1 _ rfl
      have f2 : wr.cell? ⟨(p.add (j * 4)).block, (p.add (j * 4)).off + 2, none⟩ = some (.string xs[j].cls) := by rw [add_at p (j * 4) 1]; exact hpc 2 _ rfl
      have f3 : wr.cell? ⟨(p.add (j * 4)).block, (p.add (j * 4)).off + 3, none⟩ = some (.string xs[j].mem) := by rw [add_at p (j * 4) 2]; exact hpc 3 _ rfl
      clear hpc
      have HWa : Hid (WrS (wr.alloc (.cells #[.int .i64 xs[j].op, .int .i64 xs[j].a, .string xs[j].cls, .string xs[j].mem] 50)) b mb (wrun ((xs.take j).flatMap insTok) r2)) := HW.out.keep (gb_alloc wr _ _)
      have HKa : Hid (KeptW w (wr.alloc (.cells #[.int .i64 xs[j].op, .int .i64 xs[j].a, .string xs[j].cls, .string xs[j].mem] 50)) b mb) := HK.out.trans (.ofNone (gb_alloc wr _ _))
      obtain ⟨mo, pv, bv, body, wrong, names, hW, hM, h1, h2, h3, h4, h5, h6⟩ := HWa.out
      have c3 := hW.blk.cell 3 _ rfl
      cases wrong with
      | true =>
        have HD : Hid (WrS (wr.alloc (.cells #[.int .i64 xs[j].op, .int .i64 xs[j].a, .string xs[j].cls, .string xs[j].mem] 50)) b mb (wrun (listTok m insTok xs) r)) := by
          unfold Hid
          rw [HE.out j hj]
          exact .skip _ hW hM h1 h2 h3 h4 h5
        clear hW hM h1 h2 h3 h4 h5 h6
        go_wp2_with fail
        (try simp only [Exit.inBlock, Exit.then]); refine bodyPost_ret (results_none rfl _ _ _) rfl ?_
        exact ⟨rfl, HKa.out, HD.out⟩
      | false =>
        clear hW hM h1 h2 h3 h4 h5 h6
        go_wp2_with (go_at_call 55; refine (HEL _ _ xs[j] (List.getElem_mem hlt) HKa HWa).mono ?_; rintro e w4 ⟨rfl, hk4, hw4⟩; try dsimp only)
        go_roundw
        case rel => exact ⟨j + 1, hlt, by go_num, by rw [flat_take insTok xs j hlt]; exact hw4, HKa.out.trans hk4⟩
        case measure => simp [intOf]; omega
    · have hje : j = xs.length := by omega
      subst hje
      go_wp2_with fail
      go_end0
      refine ⟨rfl, HK.out, ?_⟩
      rw [HE.out xs.length (Nat.le_refl _), List.drop_length]
      exact HW.out

set_option maxRecDepth 100000 in
set_option maxHeartbeats 1000000 in
theorem wlist_hd (w : World) (b mb lim : Nat) (r : Option WS) (m : Nat) (xs : List XHd) (a : Option Addr) (cap : Nat) (hm : m = 1 ∨ m = 2) (hlim : lim ≤ b) (hlm : lim ≤ mb) (hxl : xs.length ≤ 1099511627776) (h : Hid (WrS w b mb r)) (hrow : Hid (RdRow w lim 4 xHd a xs))
    (HEL : ∀ (w1 : World) (r1 : Option WS) (x : XHd), x ∈ xs → Hid (KeptW w w1 b mb) → Hid (WrS w1 b mb r1) → Calls Tryd.prog 57 #[.pointer (some ⟨b, 0, none⟩), .agg #[.int .i64 x.from_, .int .i64 x.to, .int .i64 x.at_, .string x.cls]] w1 fun e w' => e = .returned (.tuple #[]) ∧ KeptW w1 w' b mb ∧ WrS w' b mb (wrun (hdTok x) r1)) :
    Calls Tryd.prog 56 #[.pointer (some ⟨b, 0, none⟩), .int .i64 m, .slice a xs.length cap, .func (.func 57) #[.pointer (some ⟨b, 0, none⟩)] #[]] w
      fun e w' => e = .returned (.tuple #[]) ∧ KeptW w w' b mb ∧ WrS w' b mb (wrun (listTok m hdTok xs) r) := by
  have hbl : b < w.heap.size := h.out.lt
  have e0 : ∀ j, j ≤ xs.length → wrun (listTok m hdTok xs) r = wrun ((xs.drop j).flatMap hdTok) (wrun ((xs.take j).flatMap hdTok) (wrun (aTok m xs.length) r)) := by
    intro j _
    rw [aTok_num hm, ← wrun_append, ← wrun_append, ← List.flatMap_append, List.take_append_drop]
    rfl
  have HE : Hid (∀ j, j ≤ xs.length → wrun (listTok m hdTok xs) r = wrun ((xs.drop j).flatMap hdTok) (wrun ((xs.take j).flatMap hdTok) (wrun (aTok m xs.length) r))) := e0
  clear e0
  go_enter Tryd.func56, Tryd.ntmps56
  go_wp2_with (go_at_call 51; refine (wnumber_any _ b mb r (xs.length : Int) m (by omega) h).mono ?_; rintro e w1 ⟨rfl, hk1, hw1⟩; have HK1 : Hid (KeptW w w1 b mb) := hk1; have HW1 : Hid (WrS w1 b mb (wrun (aTok m xs.length) r)) := hw1; clear hk1 hw1; try dsimp only)
  obtain ⟨r2, hr2⟩ : ∃ r2, r2 = wrun (aTok m xs.length) r := ⟨_, rfl⟩
  rw [← hr2] at HW1 HE
  clear hr2
  go_loopw [17] (fun i wr => ∃ j : Nat, j ≤ xs.length ∧ i = .int .i64 j ∧ WrS wr b mb (wrun ((xs.take j).flatMap hdTok) r2) ∧ KeptW w wr b mb) (fun i _ => xs.length - (intOf i).toNat)
  case atStart => exact ⟨0, Nat.zero_le _, rfl, HW1.out, HK1.out⟩
  case round =>
    clear HW1 HK1
    obtain ⟨j, hj, rfl, hps, hkp⟩ := hrel
    have HW : Hid (WrS wr b mb (wrun ((xs.take j).flatMap hdTok) r2)) := hps
    have HK : Hid (KeptW w wr b mb) := hkp
    clear hps hkp
    by_cases hlt : j < xs.length
    · obtain ⟨p, rfl, hp1, hpc⟩ := hrow.out.keepW HK.out hlim hlm hbl j hlt
      have f0 : wr.cell? (p.add (j * 4)) = some (.int .i64 xs[j].from_) := hpc 0 _ rfl
      have f1 : wr.cell? ⟨(p.add (j * 4)).block, (p.add (j * 4)).off + 1, none⟩ = some (.int .i64 xs[j].to) := by rw [add_at p (j * 4) 0]; exact hpc 1 _ rfl
      have f2 : wr.cell? ⟨(p.add (j * 4)).block, (p.add (j * 4)).off + 2, none⟩ = some (.int .i64 xs[j].at_) := by rw [add_at p (j * 4) 1]; exact hpc 2 _ rfl
      have f3 : wr.cell? ⟨(p.add (j * 4)).block, (p.add (j * 4)).off + 3, none⟩ = some (.string xs[j].cls) := by rw [add_at p (j * 4) 2]; exact hpc 3 _ rfl
      clear hpc
      have HWa : Hid (WrS (wr.alloc (.cells #[.int .i64 xs[j].from_, .int .i64 xs[j].to, .int .i64 xs[j].at_, .string xs[j].cls] 52)) b mb (wrun ((xs.take j).flatMap hdTok) r2)) := HW.out.keep (gb_alloc wr _ _)
      have HKa : Hid (KeptW w (wr.alloc (.cells #[.int .i64 xs[j].from_, .int .i64 xs[j].to, .int .i64 xs[j].at_, .string xs[j].cls] 52)) b mb) := HK.out.trans (.ofNone (gb_alloc wr _ _))
      obtain ⟨mo, pv, bv, body, wrong, names, hW, hM, h1, h2, h3, h4, h5, h6⟩ := HWa.out
      have c3 := hW.blk.cell 3 _ rfl
      cases wrong with
      | true =>
        have HD : Hid (WrS (wr.alloc (.cells #[.int .i64 xs[j].from_, .int .i64 xs[j].to, .int .i64 xs[j].at_, .string xs[j].cls] 52)) b mb (wrun (listTok m hdTok xs) r)) := by
          unfold Hid
          rw [HE.out j hj]
          exact .skip _ hW hM h1 h2 h3 h4 h5
        clear hW hM h1 h2 h3 h4 h5 h6
        go_wp2_with fail
        (try simp only [Exit.inBlock, Exit.then]); refine bodyPost_ret (results_none rfl _ _ _) rfl ?_
        exact ⟨rfl, HKa.out, HD.out⟩
      | false =>
        clear hW hM h1 h2 h3 h4 h5 h6
        go_wp2_with (go_at_call 57; refine (HEL _ _ xs[j] (List.getElem_mem hlt) HKa HWa).mono ?_; rintro e w4 ⟨rfl, hk4, hw4⟩; try dsimp only)
        go_roundw
        case rel => exact ⟨j + 1, hlt, by go_num, by rw [flat_take hdTok xs j hlt]; exact hw4, HKa.out.trans hk4⟩
        case measure => simp [intOf]; omega
    · have hje : j = xs.length := by omega
      subst hje
      go_wp2_with fail
      go_end0
      refine ⟨rfl, HK.out, ?_⟩
      rw [HE.out xs.length (Nat.le_refl _), List.drop_length]
      exact HW.out

end Go.Proofs.YtdhophglnhcjbaaDoor
