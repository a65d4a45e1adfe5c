/- Contracts of the functions that the law goes through: a part of the proof that the last text tells. -/
import Derived.Test.YtdhophglnhcjbaaDoorXA
set_option linter.unusedVariables false
set_option linter.unusedSimpArgs false
namespace Go.Proofs.YtdhophglnhcjbaaDoor
open Go.RowKit Cf

/-- the three operands that are left, and what was written -/
structure LS where
  a : Int
  c : ByteArray
  m : ByteArray
  r : Option WS
def stepL (x : UInt8) (s : LS) : LS :=
  if x = 98 then ⟨0, s.c, s.m, s.r.bind (wstep (.num s.a 1))⟩
  else if x = 115 then ⟨0, s.c, s.m, s.r.bind (wstep (.num s.a 2))⟩
  else if x = 108 then ⟨0, s.c, s.m, (if -2147483648 ≤ s.a ∧ s.a ≤ 2147483647 then s.r else none).bind (wstep (.num (if s.a < 0 then s.a + 4294967296 else s.a) 4))⟩
  else if x = 99 then ⟨s.a, ⟨#[]⟩, s.m, s.r.bind (wstep (.nm s.c))⟩
  else ⟨s.a, s.c, ⟨#[]⟩, s.r.bind (wstep (.nm s.m))⟩
def finL (s : LS) : Option WS := if s.a = 0 ∧ s.c.size = 0 ∧ s.m.size = 0 then s.r else none
def runL (l : List UInt8) (s : LS) : LS := l.foldl (fun s x => stepL x s) s

theorem groups : ∀ n, n < 32 → (lets n, width n, wantsC n, wantsM n) ∈ [([], 0, false, false), ([98], 1, false, false), ([115], 2, false, false), ([108], 4, false, false), ([99], 0, true, false), ([99, 109], 0, true, true)] := by decide
theorem wrun_cons (t : WTok) (l : List WTok) (r : Option WS) : wrun (t :: l) r = wrun l (r.bind (wstep t)) := rfl
theorem wrun_nil (r : Option WS) : wrun [] r = r := rfl
theorem wrun_bads (l : List WTok) (r : Option WS) : wrun (.bad :: l) r = none := by rw [wrun_cons, bind_bad, wrun_none]
theorem wrun_end (l : List WTok) (r : Option WS) : wrun (l ++ [.bad]) r = none := by rw [wrun_append, wrun_bad]

theorem runL_snoc (l : List UInt8) (x : UInt8) (s : LS) : runL (l ++ [x]) s = stepL x (runL l s) := by simp [runL, List.foldl_append]
theorem z64 : isI64 0 := by constructor <;> omega
theorem zlen : isLen ⟨#[]⟩ := by unfold isLen; decide
/-- the letters write what the tokens say -/
theorem ins_letters (n : Nat) (h : n < 32) (a : Int) (c m : ByteArray) (r : Option WS) : finL (runL (lets n) ⟨a, c, m, r.bind (wstep (.num (n : Int) 1))⟩) = wrun (insTok ⟨(n : Int), a, c, m⟩) r := by
  have hg := groups n h
  unfold insTok
  rw [if_pos (by dsimp only; omega), wrun_cons, wrun_append, wrun_append]
  simp only [Int.toNat_natCast]
  generalize r.bind (wstep (.num (n : Int) 1)) = q
  simp only [List.mem_cons, Prod.mk.injEq, List.not_mem_nil, or_false] at hg
  rcases hg with ⟨h1, h2, h3, h4⟩ | ⟨h1, h2, h3, h4⟩ | ⟨h1, h2, h3, h4⟩ | ⟨h1, h2, h3, h4⟩ | ⟨h1, h2, h3, h4⟩ | ⟨h1, h2, h3, h4⟩
  all_goals
    rw [h1, h2, h3, h4]
    by_cases ha : a = 0
    all_goals by_cases hc : c.size = 0
    all_goals by_cases hm : m.size = 0
    all_goals simp [runL, stepL, finL, aTok, nameTok, ha, hc, hm, wrun_cons, wrun_nil, wrun_bads, wrun_none, bind_bad]
  all_goals try (by_cases hr : -2147483648 ≤ a ∧ a ≤ 2147483647 <;> simp [hr, wrun_cons, wrun_nil, bind_bad])
  all_goals try (intro hh; exact absurd rfl hh)

set_option maxRecDepth 100000 in
set_option maxHeartbeats 2000000 in
theorem pins_any (w : World) (b : Nat) (k0 : Nat) (r : Option WS) (i : XIn) (ho : isI64 i.op) (hi : isI64 i.a) (hs : isLen i.cls) (hs2 : isLen i.mem) (h : Hid (PnS w b k0 r)) (hk0 : k0 + 5 ≤ 2 ^ 40) :
    Calls Tryd.prog 29 #[.pointer (some ⟨b, 0, none⟩), .agg #[.int .i64 i.op, .int .i64 i.a, .string i.cls, .string i.mem]] w fun e w' => e = .returned (.tuple #[]) ∧ KeptP w w' b ∧ PnS w' b (k0 + 5) (wrun (insTok i) r) := by
  obtain ⟨op, a, c, m⟩ := i
  have hbl : b < w.heap.size := h.out.lt
  have hne : w.heap.size ≠ b := by omega
  dsimp only at ho hi hs hs2
  by_cases hop : 0 ≤ op ∧ op < 32
  · obtain ⟨n, rfl⟩ : ∃ n : Nat, op = n := ⟨op.toNat, by omega⟩
    have hn32 : n < 32 := by omega
    have HS1 : Hid (PnS (w.alloc (.cells #[.int .i64 n, .int .i64 a, .string c, .string m] 50)) b k0 r) := h.out.keep (gb_alloc _ _ _)
    have HB1 : Hid (Blk (w.alloc (.cells #[.int .i64 n, .int .i64 a, .string c, .string m] 50)) w.heap.size #[.int .i64 n, .int .i64 a, .string c, .string m] 50) := Blk.new _ _ _
    have HK1 : Hid (KeptP w (w.alloc (.cells #[.int .i64 n, .int .i64 a, .string c, .string m] 50)) b) := .ofNone (gb_alloc _ _ _)
    obtain ⟨L, hL⟩ : ∃ L, L = letStr n := ⟨_, rfl⟩
    have HL : Hid (L = letStr n) := hL
    have HLL : Hid (L.data.toList = lets n) := by unfold Hid; rw [hL]; rfl
    have hLsz : L.size ≤ 2 := by rw [hL]; exact lets_len n
    clear hL
    have HLS : Hid (∀ x ∈ lets n, x = 98 ∨ x = 115 ∨ x = 108 ∨ x = 99 ∨ x = 109) := lets_in n
    go_enter Tryd.func29, Tryd.ntmps29
    go_wp2_with (first
      | (go_at_call 41
         refine (operands_any n _).mono ?_
         rintro e w4 ⟨rfl, rfl⟩
         rw [← HL.out]
         try dsimp only)
      | (go_at_call 15
         refine (pnumber_any _ b k0 r (n : Int) 1 (by omega) (by omega) HS1 (by omega)).mono ?_
         rintro e w2 ⟨rfl, hk2, hp2⟩
         have HS2 : Hid (PnS w2 b (k0 + 1) (r.bind (wstep (.num (n : Int) 1)))) := hp2
         have HB2 : Hid (Blk w2 w.heap.size #[.int .i64 n, .int .i64 a, .string c, .string m] 50) := hk2.blk HB1.out (by omega) (by decide)
         have HK2 : Hid (KeptP w w2 b) := HK1.out.trans hk2
         have d0 := HB2.out.cell 0 _ rfl
         have d1 := HB2.out.cell 1 _ rfl
         have d2 := HB2.out.cell 2 _ rfl
         have d3 := HB2.out.cell 3 _ rfl
         clear hk2 hp2 HS1 HB1 HK1
         try dsimp only))
    go_quiet (fail)
    have HS3 : Hid (PnS (w2.drewN nq) b (k0 + 1) (r.bind (wstep (.num (n : Int) 1)))) := HS2.out.keep (gb_drewN _ _ _)
    have HK3 : Hid (KeptP w (w2.drewN nq) b) := HK2.out.trans (.ofNone (gb_drewN _ _ _))
    generalize w2.drewN nq = w3 at HS3 HK3 ⊢
    clear HS2 HK2 HB2 d0 d1 d2 d3
    go_wp2_with fail
    go_loopw [5, 6, 7, 8] (fun va vc vm i wr => ∃ (k : Nat) (st : LS), k ≤ L.size ∧ i = .int .i64 k ∧ va = .int .i64 st.a ∧ vc = .string st.c ∧ vm = .string st.m ∧ isI64 st.a ∧ isLen st.c ∧ isLen st.m ∧
      PnS wr b (k0 + 1 + 2 * k) st.r ∧ KeptP w wr b ∧ st = runL ((lets n).take k) ⟨a, c, m, r.bind (wstep (.num (n : Int) 1))⟩) (fun _ _ _ i _ => L.size - (intOf i).toNat)
    case atStart => exact ⟨0, ⟨a, c, m, r.bind (wstep (.num (n : Int) 1))⟩, Nat.zero_le _, rfl, rfl, rfl, rfl, hi, hs, hs2, HS3.out, HK3.out, rfl⟩
    case round =>
      clear HS3 HK3
      obtain ⟨k, st, hk, rfl, rfl, rfl, rfl, hia, hlc, hlm, hps, hkp, hst⟩ := hrel
      have HS : Hid (PnS wr b (k0 + 1 + 2 * k) st.r) := hps
      have HK : Hid (KeptP w wr b) := hkp
      have HST : Hid (st = runL ((lets n).take k) ⟨a, c, m, r.bind (wstep (.num (n : Int) 1))⟩) := hst
      have hlc1 : st.c.size ≤ 1099511627776 := hlc
      have hlm1 : st.m.size ≤ 1099511627776 := hlm
      have hia1 : -9223372036854775808 ≤ st.a ∧ st.a ≤ 9223372036854775807 := hia
      clear hps hkp hst
      by_cases hlt : k < L.size
      · have HCL := HLS.out (L.data[k]) (by rw [← HLL.out]; simp)
        have hcs : (L[k]'hlt).toNat = (L.data[k]).toNat := rfl
        have HNX : Hid (runL ((lets n).take (k + 1)) ⟨a, c, m, r.bind (wstep (.num (n : Int) 1))⟩ = stepL L.data[k] st) := by
          unfold Hid
          have hl : k < (lets n).length := by rw [← HLL.out]; simpa using hlt
          have he : (lets n)[k] = L.data[k] := by simp [← HLL.out]
          rw [List.take_succ_eq_append_getElem hl, he, runL_snoc, ← HST.out]
        have hend : Hid (L.size - (intOf (Value.int IntKind.i64 ((k : Int) + 1))).toNat < L.size - (intOf (Value.int IntKind.i64 (k : Int))).toNat) := by unfold Hid; simp [intOf]; omega
        rcases HCL with hc | hc | hc | hc | hc
        all_goals
          rw [hc] at hcs HNX
          simp only [UInt8.reduceToNat] at hcs
          clear hc
        · have HN1 : Hid (stepL 98 st = ⟨0, st.c, st.m, st.r.bind (wstep (.num st.a 1))⟩) := rfl
          go_wp2_with (go_at_call 15; refine (pnumber_any wr b _ st.r st.a 1 (by omega) hia1 HS (by omega)).mono ?_; rintro e w4 ⟨rfl, hk4, hp4⟩; try dsimp only)
          exact ⟨⟨k + 1, ⟨0, st.c, st.m, st.r.bind (wstep (.num st.a 1))⟩, hlt, by go_num, rfl, rfl, rfl, z64, hlc, hlm, hp4.mono (by omega) (by omega), HK.out.trans hk4, by rw [HNX.out, HN1.out]⟩, hend.out⟩
        · have HN1 : Hid (stepL 115 st = ⟨0, st.c, st.m, st.r.bind (wstep (.num st.a 2))⟩) := rfl
          go_wp2_with (go_at_call 15; refine (pnumber_any wr b _ st.r st.a 2 (by omega) hia1 HS (by omega)).mono ?_; rintro e w4 ⟨rfl, hk4, hp4⟩; try dsimp only)
          exact ⟨⟨k + 1, ⟨0, st.c, st.m, st.r.bind (wstep (.num st.a 2))⟩, hlt, by go_num, rfl, rfl, rfl, z64, hlc, hlm, hp4.mono (by omega) (by omega), HK.out.trans hk4, by rw [HNX.out, HN1.out]⟩, hend.out⟩
        · have HN1 : Hid (stepL 108 st = ⟨0, st.c, st.m, (if -2147483648 ≤ st.a ∧ st.a ≤ 2147483647 then st.r else none).bind (wstep (.num (if st.a < 0 then st.a + 4294967296 else st.a) 4))⟩) := rfl
          by_cases hr : -2147483648 ≤ st.a ∧ st.a ≤ 2147483647
          · by_cases hneg : st.a < 0
            · have HN2 : Hid (stepL 108 st = ⟨0, st.c, st.m, st.r.bind (wstep (.num (st.a + 4294967296) 4))⟩) := by unfold Hid; rw [HN1.out, if_pos hr, if_pos hneg]
              go_wp2_with (go_at_call 15; refine (pnumber_any wr b _ st.r (st.a + 4294967296) 4 (by omega) (by omega) HS (by omega)).mono ?_; rintro e w4 ⟨rfl, hk4, hp4⟩; try dsimp only)
              exact ⟨⟨k + 1, ⟨0, st.c, st.m, st.r.bind (wstep (.num (st.a + 4294967296) 4))⟩, hlt, by go_num, rfl, rfl, rfl, z64, hlc, hlm, hp4.mono (by omega) (by omega), HK.out.trans hk4, by rw [HNX.out, HN2.out]⟩, hend.out⟩
            · have HN2 : Hid (stepL 108 st = ⟨0, st.c, st.m, st.r.bind (wstep (.num st.a 4))⟩) := by unfold Hid; rw [HN1.out, if_pos hr, if_neg hneg]
              go_wp2_with (go_at_call 15; refine (pnumber_any wr b _ st.r st.a 4 (by omega) hia1 HS (by omega)).mono ?_; rintro e w4 ⟨rfl, hk4, hp4⟩; try dsimp only)
              exact ⟨⟨k + 1, ⟨0, st.c, st.m, st.r.bind (wstep (.num st.a 4))⟩, hlt, by go_num, rfl, rfl, rfl, z64, hlc, hlm, hp4.mono (by omega) (by omega), HK.out.trans hk4, by rw [HNX.out, HN2.out]⟩, hend.out⟩
          · have HN2 : Hid (stepL 108 st = ⟨0, st.c, st.m, none⟩) := by unfold Hid; rw [HN1.out, if_neg hr]; rfl
            obtain ⟨⟨x2, e2⟩, y2, hsp2⟩ := HS.out.spoil
            have HSP2 : Hid (PnS (wr.setCell ⟨b, 2, none⟩ (.bool true)) b (k0 + 1 + 2 * k) none) := hsp2
            clear hsp2
            have hr2 : st.a < -2147483648 ∨ 2147483648 ≤ st.a := by omega
            by_cases hneg : st.a < 0
            · go_wp2_with (go_at_call 15; refine (pnumber_any _ b _ none (st.a + 4294967296) 4 (by omega) (by omega) HSP2 (by omega)).mono ?_; rintro e w4 ⟨rfl, hk4, hp4⟩; try dsimp only)
              all_goals exact ⟨⟨k + 1, ⟨0, st.c, st.m, none⟩, hlt, by go_num, rfl, rfl, rfl, z64, hlc, hlm, PnS.mono hp4 (by omega) (by omega), (HK.out.trans (.ofB (gb_set _ ⟨b, 2, none⟩ _))).trans hk4, by rw [HNX.out, HN2.out]⟩, hend.out⟩
            · go_wp2_with (go_at_call 15; refine (pnumber_any _ b _ none st.a 4 (by omega) hia1 HSP2 (by omega)).mono ?_; rintro e w4 ⟨rfl, hk4, hp4⟩; try dsimp only)
              all_goals exact ⟨⟨k + 1, ⟨0, st.c, st.m, none⟩, hlt, by go_num, rfl, rfl, rfl, z64, hlc, hlm, PnS.mono hp4 (by omega) (by omega), (HK.out.trans (.ofB (gb_set _ ⟨b, 2, none⟩ _))).trans hk4, by rw [HNX.out, HN2.out]⟩, hend.out⟩
        · have HN1 : Hid (stepL 99 st = ⟨st.a, ⟨#[]⟩, st.m, st.r.bind (wstep (.nm st.c))⟩) := rfl
          go_wp2_with (go_at_call 14; refine (pname_any wr b _ st.r st.c hlc HS (by omega)).mono ?_; rintro e w4 ⟨rfl, hk4, hp4⟩; try dsimp only)
          exact ⟨⟨k + 1, ⟨st.a, ⟨#[]⟩, st.m, st.r.bind (wstep (.nm st.c))⟩, hlt, by go_num, rfl, rfl, rfl, hia, zlen, hlm, hp4.mono (by omega) (by omega), HK.out.trans hk4, by rw [HNX.out, HN1.out]⟩, hend.out⟩
        · have HN1 : Hid (stepL 109 st = ⟨st.a, st.c, ⟨#[]⟩, st.r.bind (wstep (.nm st.m))⟩) := rfl
          go_wp2_with (go_at_call 14; refine (pname_any wr b _ st.r st.m hlm HS (by omega)).mono ?_; rintro e w4 ⟨rfl, hk4, hp4⟩; try dsimp only)
          exact ⟨⟨k + 1, ⟨st.a, st.c, ⟨#[]⟩, st.r.bind (wstep (.nm st.m))⟩, hlt, by go_num, rfl, rfl, rfl, hia, hlc, zlen, hp4.mono (by omega) (by omega), HK.out.trans hk4, by rw [HNX.out, HN1.out]⟩, hend.out⟩
      · have HFI : Hid (finL st = wrun (insTok ⟨(n : Int), a, c, m⟩) r) := by
          unfold Hid
          rw [HST.out, List.take_of_length_le, ins_letters n hn32]
          rw [← HLL.out]; simp; omega
        obtain ⟨sa, sc, sm, sr⟩ := st
        dsimp only at HS hlc hlm hia
        by_cases e1 : sa = 0
        · subst e1
          by_cases e2 : sc.size = 0
          · cases empty_of_size e2
            by_cases e3 : sm.size = 0
            · cases empty_of_size e3
              have HFN : Hid (finL ⟨0, ⟨#[]⟩, ⟨#[]⟩, sr⟩ = sr) := by unfold finL Hid; rw [if_pos ⟨rfl, rfl, rfl⟩]
              go_wp2_with fail
              go_end0
              refine ⟨rfl, HK.out, ?_⟩
              rw [← HFI.out, HFN.out]
              exact HS.out.mono (by omega) hk0
            · have hx := ne_empty e3
              have HFN : Hid (finL ⟨0, ⟨#[]⟩, sm, sr⟩ = none) := by unfold finL Hid; rw [if_neg (by rintro ⟨-, -, h3⟩; exact e3 h3)]
              obtain ⟨⟨x2, e2'⟩, y2, hsp2⟩ := HS.out.spoil
              have HSP2 : Hid (PnS (wr.setCell ⟨b, 2, none⟩ (.bool true)) b (k0 + 1 + 2 * k) none) := hsp2
              clear hsp2
              go_wp2_with fail
              go_end0
              refine ⟨rfl, HK.out.trans (.ofB (gb_set _ ⟨b, 2, none⟩ _)), ?_⟩
              rw [← HFI.out, HFN.out]
              exact HSP2.out.mono (by omega) hk0
          · have hx := ne_empty e2
            have HFN : Hid (finL ⟨0, sc, sm, sr⟩ = none) := by unfold finL Hid; rw [if_neg (by rintro ⟨-, h3, -⟩; exact e2 h3)]
            obtain ⟨⟨x2, e2'⟩, y2, hsp2⟩ := HS.out.spoil
            have HSP2 : Hid (PnS (wr.setCell ⟨b, 2, none⟩ (.bool true)) b (k0 + 1 + 2 * k) none) := hsp2
            clear hsp2
            go_wp2_with fail
            go_end0
            refine ⟨rfl, HK.out.trans (.ofB (gb_set _ ⟨b, 2, none⟩ _)), ?_⟩
            rw [← HFI.out, HFN.out]
            exact HSP2.out.mono (by omega) hk0
        · have hx : (sa == 0) = false := by simpa using e1
          have HFN : Hid (finL ⟨sa, sc, sm, sr⟩ = none) := by unfold finL Hid; rw [if_neg (by rintro ⟨h3, -, -⟩; exact e1 h3)]
          obtain ⟨⟨x2, e2'⟩, y2, hsp2⟩ := HS.out.spoil
          have HSP2 : Hid (PnS (wr.setCell ⟨b, 2, none⟩ (.bool true)) b (k0 + 1 + 2 * k) none) := hsp2
          clear hsp2
          go_wp2_with fail
          go_end0
          refine ⟨rfl, HK.out.trans (.ofB (gb_set _ ⟨b, 2, none⟩ _)), ?_⟩
          rw [← HFI.out, HFN.out]
          exact HSP2.out.mono (by omega) hk0
  · have HT : Hid (insTok ⟨op, a, c, m⟩ = [.bad]) := by unfold insTok Hid; rw [if_neg (by dsimp only; omega)]
    have hop2 : op < 0 ∨ 32 ≤ op := by omega
    obtain ⟨⟨x, c2⟩, z2, hsp⟩ := h.out.spoil
    have HSP : Hid (PnS ((w.setCell ⟨b, 2, none⟩ (.bool true)).alloc (.cells #[.int .i64 op, .int .i64 a, .string c, .string m] 50)) b k0 none) := hsp.keep (gb_alloc _ _ _)
    have HK : Hid (KeptP w ((w.setCell ⟨b, 2, none⟩ (.bool true)).alloc (.cells #[.int .i64 op, .int .i64 a, .string c, .string m] 50)) b) := (KeptP.ofB (gb_set w ⟨b, 2, none⟩ _)).trans (.ofNone (gb_alloc _ _ _))
    clear hsp
    go_enter Tryd.func29, Tryd.ntmps29
    rcases hop2 with hop2 | hop2
    all_goals
      go_wp2_with fail
      all_goals
        refine bodyPost_ret (results_none rfl _ _ _) rfl ?_
        refine ⟨rfl, HK.out, ?_⟩
        rw [HT.out, wrun_bad]
        exact HSP.out.mono (by omega) hk0
end Go.Proofs.YtdhophglnhcjbaaDoor

namespace Go.Proofs.YtdhophglnhcjbaaDoor
open Go.RowKit Cf

def xTy (t : XTy) : List Value := [.int .i64 t.kind, .string t.name]
def xFld (t : XFld) : List Value := [.string t.name, .int .i64 t.ty.kind, .string t.ty.name]
def xIn (t : XIn) : List Value := [.int .i64 t.op, .int .i64 t.a, .string t.cls, .string t.mem]
def xHd (t : XHd) : List Value := [.int .i64 t.from_, .int .i64 t.to, .int .i64 t.at_, .string t.cls]
/-- a row that is read, in blocks ahead of a limit -/
def RdRow {α : Type} (w : World) (lim sz : Nat) (enc : α → List Value) (a : Option Addr) (xs : List α) : Prop :=
  ∀ j (hj : j < xs.length), ∃ p : Addr, a = some p ∧ p.block < lim ∧ ∀ r u, (enc xs[j])[r]? = some u → w.cell? (p.add (j * sz + r)) = some u
theorem add_block (p : Addr) (k : Nat) : (p.add k).block = p.block := by
  unfold Addr.add
  split <;> rfl
theorem add_at (p : Addr) (a b : Nat) : (⟨(p.add a).block, (p.add a).off + (b + 1), none⟩ : Addr) = p.add (a + (b + 1)) := by
  unfold Addr.add
  by_cases h : a = 0
  · subst h; simp
  · simp [h]; omega
theorem RdRow.keepP {α : Type} {w w' : World} {lim sz b : Nat} {enc : α → List Value} {a : Option Addr} {xs : List α} (h : RdRow w lim sz enc a xs) (hk : KeptP w w' b) (hl : lim ≤ b) (hb : b < w.heap.size) : RdRow w' lim sz enc a xs := by
  intro j hj
  obtain ⟨p, h1, h2, h3⟩ := h j hj
  exact ⟨p, h1, h2, fun r u hu => hk.cell (h3 r u hu) (by rw [add_block]; omega) hb⟩
theorem RdRow.keep {α : Type} {w w' : World} {lim sz : Nat} {enc : α → List Value} {a : Option Addr} {xs : List α} (h : RdRow w lim sz enc a xs) (hg : w.grownBy w' none) : RdRow w' lim sz enc a xs := by
  intro j hj
  obtain ⟨p, h1, h2, h3⟩ := h j hj
  exact ⟨p, h1, h2, fun r u hu => hg.cell (h3 r u hu) (by simp)⟩
/-- numbers that ints can hold, strings that are no longer than the bound -/
def okTy (t : XTy) : Prop := isI64 t.kind ∧ isLen t.name
def okFld (t : XFld) : Prop := isLen t.name ∧ okTy t.ty
def okIn (t : XIn) : Prop := isI64 t.op ∧ isI64 t.a ∧ isLen t.cls ∧ isLen t.mem
def okHd (t : XHd) : Prop := isI64 t.from_ ∧ isI64 t.to ∧ isI64 t.at_ ∧ isLen t.cls
structure okMe (m : XMe) : Prop where
  name : isLen m.name
  ret : okTy m.ret
  stack : isI64 m.stack
  locals : isI64 m.locals
  params : ∀ j (hj : j < m.params.length), okTy m.params[j]
  code : ∀ j (hj : j < m.code.length), okIn m.code[j]
  handlers : ∀ j (hj : j < m.handlers.length), okHd m.handlers[j]
/-- how many steps a method takes at most -/
def costMe (m : XMe) : Nat := 12 + 3 * m.params.length + 5 * m.code.length + 5 * m.handlers.length

theorem flat_take {α : Type} (f : α → List WTok) (xs : List α) (j : Nat) (hj : j < xs.length) (r : Option WS) : wrun ((xs.take (j + 1)).flatMap f) r = wrun (f xs[j]) (wrun ((xs.take j).flatMap f) r) := by
  rw [List.take_succ_eq_append_getElem hj, List.flatMap_append, wrun_append]
  simp

set_option maxRecDepth 100000 in
set_option maxHeartbeats 2000000 in
theorem pmethod_any (w : World) (b lim : Nat) (k : Nat) (r : Option WS) (m : XMe) (pa ca ha : Option Addr) (pk ck hk0 : Nat) (hl : lim ≤ b) (hm : Hid (okMe m)) (h : Hid (PnS w b k r)) (hc : k + costMe m ≤ 2 ^ 40)
    (hrp : Hid (RdRow w lim 2 xTy pa m.params)) (hrc : Hid (RdRow w lim 4 xIn ca m.code)) (hrh : Hid (RdRow w lim 4 xHd ha m.handlers)) :
    Calls Tryd.prog 17 #[.pointer (some ⟨b, 0, none⟩), .agg #[.string m.name, .slice pa m.params.length pk, .int .i64 m.ret.kind, .string m.ret.name, .int .i64 m.stack, .int .i64 m.locals, .slice ca m.code.length ck, .slice ha m.handlers.length hk0]] w
      fun e w' => e = .returned (.tuple #[]) ∧ KeptP w w' b ∧ PnS w' b (k + costMe m) (wrun (meTok m) r) := by
  have hbl : b < w.heap.size := h.out.lt
  have hne : w.heap.size ≠ b := by omega
  have hlp : m.params.length ≤ 1099511627776 := by unfold costMe at hc; omega
  have hlc : m.code.length ≤ 1099511627776 := by unfold costMe at hc; omega
  have hlh : m.handlers.length ≤ 1099511627776 := by unfold costMe at hc; omega
  have hcc : k + (12 + 3 * m.params.length + 5 * m.code.length + 5 * m.handlers.length) ≤ 1099511627776 := by unfold costMe at hc; omega
  have HS0 : Hid (PnS (w.alloc (.cells #[.string m.name, .slice pa m.params.length pk, .int .i64 m.ret.kind, .string m.ret.name, .int .i64 m.stack, .int .i64 m.locals, .slice ca m.code.length ck, .slice ha m.handlers.length hk0] 48)) b k r) := h.out.keep (gb_alloc _ _ _)
  have HB0 : Hid (Blk (w.alloc (.cells #[.string m.name, .slice pa m.params.length pk, .int .i64 m.ret.kind, .string m.ret.name, .int .i64 m.stack, .int .i64 m.locals, .slice ca m.code.length ck, .slice ha m.handlers.length hk0] 48)) w.heap.size #[.string m.name, .slice pa m.params.length pk, .int .i64 m.ret.kind, .string m.ret.name, .int .i64 m.stack, .int .i64 m.locals, .slice ca m.code.length ck, .slice ha m.handlers.length hk0] 48) := Blk.new _ _ _
  have HK0 : Hid (KeptP w (w.alloc (.cells #[.string m.name, .slice pa m.params.length pk, .int .i64 m.ret.kind, .string m.ret.name, .int .i64 m.stack, .int .i64 m.locals, .slice ca m.code.length ck, .slice ha m.handlers.length hk0] 48)) b) := .ofNone (gb_alloc _ _ _)
  have hnm : isLen m.name := hm.out.name
  go_enter Tryd.func17, Tryd.ntmps17
  go_wp2_with (first
    | (go_at_call 15
       refine (pnumber_any _ b (k + 2) _ (m.params.length : Int) 1 (by omega) (by omega) HS1 (by omega)).mono ?_
       rintro e w2 ⟨rfl, hk2, hp2⟩
       have HS2 : Hid (PnS w2 b (k + 3) ((r.bind (wstep (.nm m.name))).bind (wstep (.num (m.params.length : Int) 1)))) := hp2
       have HB2 : Hid (Blk w2 w.heap.size #[.string m.name, .slice pa m.params.length pk, .int .i64 m.ret.kind, .string m.ret.name, .int .i64 m.stack, .int .i64 m.locals, .slice ca m.code.length ck, .slice ha m.handlers.length hk0] 48) := hk2.blk HB1.out (by omega) (by decide)
       have HK2 : Hid (KeptP w w2 b) := HK1.out.trans hk2
       clear hk2 hp2 HS1 HB1 HK1 d0 d1
       try dsimp only)
    | (go_at_call 14
       refine (pname_any _ b k r m.name hnm HS0 (by omega)).mono ?_
       rintro e w1 ⟨rfl, hk1, hp1⟩
       have HS1 : Hid (PnS w1 b (k + 2) (r.bind (wstep (.nm m.name)))) := hp1
       have HB1 : Hid (Blk w1 w.heap.size #[.string m.name, .slice pa m.params.length pk, .int .i64 m.ret.kind, .string m.ret.name, .int .i64 m.stack, .int .i64 m.locals, .slice ca m.code.length ck, .slice ha m.handlers.length hk0] 48) := hk1.blk HB0.out (by omega) (by decide)
       have HK1 : Hid (KeptP w w1 b) := HK0.out.trans hk1
       have d0 := HB1.out.cell 0 _ rfl
       have d1 := HB1.out.cell 1 _ rfl
       clear hk1 hp1 HS0 HB0 HK0
       try dsimp only))
  obtain ⟨r2, hr2⟩ : ∃ r2, r2 = (r.bind (wstep (.nm m.name))).bind (wstep (.num (m.params.length : Int) 1)) := ⟨_, rfl⟩
  rw [← hr2] at HS2
  have HR2 : Hid (r2 = (r.bind (wstep (.nm m.name))).bind (wstep (.num (m.params.length : Int) 1))) := hr2
  clear hr2
  go_loopw [4] (fun i wr => ∃ j : Nat, j ≤ m.params.length ∧ i = .int .i64 j ∧ PnS wr b (k + 3 + 3 * j) (wrun ((m.params.take j).flatMap kindTok) r2) ∧ KeptP w wr b ∧ Blk wr w.heap.size #[.string m.name, .slice pa m.params.length pk, .int .i64 m.ret.kind, .string m.ret.name, .int .i64 m.stack, .int .i64 m.locals, .slice ca m.code.length ck, .slice ha m.handlers.length hk0] 48) (fun i _ => m.params.length - (intOf i).toNat)
  case atStart => exact ⟨0, Nat.zero_le _, rfl, HS2.out, HK2.out, HB2.out⟩
  case round =>
    clear HS2 HK2 HB2
    obtain ⟨j, hj, rfl, hps, hkp, hbk⟩ := hrel
    have HS : Hid (PnS wr b (k + 3 + 3 * j) (wrun ((m.params.take j).flatMap kindTok) r2)) := hps
    have HK : Hid (KeptP w wr b) := hkp
    have HB : Hid (Blk wr w.heap.size #[.string m.name, .slice pa m.params.length pk, .int .i64 m.ret.kind, .string m.ret.name, .int .i64 m.stack, .int .i64 m.locals, .slice ca m.code.length ck, .slice ha m.handlers.length hk0] 48) := hbk
    clear hps hkp hbk
    have e1 := HB.out.cell 1 _ rfl
    by_cases hlt : j < m.params.length
    · obtain ⟨p, rfl, hp1, hpc⟩ := hrp.out.keepP HK.out hl hbl j hlt
      have f0 : wr.cell? (p.add (j * 2)) = some (.int .i64 m.params[j].kind) := hpc 0 _ rfl
      have f1 : wr.cell? ⟨(p.add (j * 2)).block, (p.add (j * 2)).off + 1, none⟩ = some (.string m.params[j].name) := by rw [add_at p (j * 2) 0]; exact hpc 1 _ rfl
      clear hpc
      have hok := hm.out.params j hlt
      go_wp2_with (go_at_call 16; refine (pkind_any wr b _ _ m.params[j] hok.1 hok.2 HS (by omega)).mono ?_; rintro e w4 ⟨rfl, hk4, hp4⟩; try dsimp only)
      exact ⟨⟨j + 1, hlt, by go_num, by rw [flat_take kindTok m.params j hlt]; exact hp4.mono (by omega) (by omega), HK.out.trans hk4, hk4.blk HB.out (by omega) (by decide)⟩, by simp [intOf]; omega⟩
    · have hje : j = m.params.length := by omega
      subst hje
      obtain ⟨r3, hr3⟩ : ∃ r3, r3 = wrun (m.params.flatMap kindTok) r2 := ⟨_, rfl⟩
      have HR3 : Hid (r3 = wrun (m.params.flatMap kindTok) r2) := hr3
      have HS3 : Hid (PnS wr b (k + 3 + 3 * m.params.length) r3) := by
        have := HS.out
        rw [List.take_length, ← hr3] at this
        exact this
      clear hr3 HS
      have e2 := HB.out.cell 2 _ rfl
      have e3 := HB.out.cell 3 _ rfl
      have hrt := hm.out.ret
      have hst := hm.out.stack
      have hlo := hm.out.locals
      have hst1 : -9223372036854775808 ≤ m.stack ∧ m.stack ≤ 9223372036854775807 := hst
      have hlo1 : -9223372036854775808 ≤ m.locals ∧ m.locals ≤ 9223372036854775807 := hlo
      go_wp2_with (first
        | (go_at_call 15
           refine (pnumber_any _ b _ _ (m.code.length : Int) 2 (by omega) (by omega) HS6 (by omega)).mono ?_
           rintro e w7 ⟨rfl, hk7, hp7⟩
           have HS7 : Hid (PnS w7 b (k + 9 + 3 * m.params.length) ((((wrun (kindTok m.ret) r3).bind (wstep (.num m.stack 1))).bind (wstep (.num m.locals 1))).bind (wstep (.num (m.code.length : Int) 2)))) := hp7.mono (by omega) (by omega)
           have HB7 : Hid (Blk w7 w.heap.size #[.string m.name, .slice pa m.params.length pk, .int .i64 m.ret.kind, .string m.ret.name, .int .i64 m.stack, .int .i64 m.locals, .slice ca m.code.length ck, .slice ha m.handlers.length hk0] 48) := hk7.blk HB6.out (by omega) (by decide)
           have HK7 : Hid (KeptP w w7 b) := HK6.out.trans hk7
           clear hk7 hp7 HS6 HB6 HK6 d5
           try dsimp only)
        | (go_at_call 15
           refine (pnumber_any _ b _ _ m.locals 1 (by omega) hlo1 HS5 (by omega)).mono ?_
           rintro e w6 ⟨rfl, hk6, hp6⟩
           have HS6 : Hid (PnS w6 b (k + 8 + 3 * m.params.length) (((wrun (kindTok m.ret) r3).bind (wstep (.num m.stack 1))).bind (wstep (.num m.locals 1)))) := hp6.mono (by omega) (by omega)
           have HB6 : Hid (Blk w6 w.heap.size #[.string m.name, .slice pa m.params.length pk, .int .i64 m.ret.kind, .string m.ret.name, .int .i64 m.stack, .int .i64 m.locals, .slice ca m.code.length ck, .slice ha m.handlers.length hk0] 48) := hk6.blk HB5.out (by omega) (by decide)
           have HK6 : Hid (KeptP w w6 b) := HK5.out.trans hk6
           have d5 := HB6.out.cell 6 _ rfl
           clear hk6 hp6 HS5 HB5 HK5 d4
           try dsimp only)
        | (go_at_call 15
           refine (pnumber_any _ b _ _ m.stack 1 (by omega) hst1 HS4 (by omega)).mono ?_
           rintro e w5 ⟨rfl, hk5, hp5⟩
           have HS5 : Hid (PnS w5 b (k + 7 + 3 * m.params.length) ((wrun (kindTok m.ret) r3).bind (wstep (.num m.stack 1)))) := hp5.mono (by omega) (by omega)
           have HB5 : Hid (Blk w5 w.heap.size #[.string m.name, .slice pa m.params.length pk, .int .i64 m.ret.kind, .string m.ret.name, .int .i64 m.stack, .int .i64 m.locals, .slice ca m.code.length ck, .slice ha m.handlers.length hk0] 48) := hk5.blk HB4.out (by omega) (by decide)
           have HK5 : Hid (KeptP w w5 b) := HK4.out.trans hk5
           have d4 := HB5.out.cell 5 _ rfl
           clear hk5 hp5 HS4 HB4 HK4 d3
           try dsimp only)
        | (go_at_call 16
           refine (pkind_any wr b _ _ m.ret hrt.1 hrt.2 HS3 (by omega)).mono ?_
           rintro e w4 ⟨rfl, hk4, hp4⟩
           have HS4 : Hid (PnS w4 b (k + 6 + 3 * m.params.length) (wrun (kindTok m.ret) r3)) := hp4.mono (by omega) (by omega)
           have HB4 : Hid (Blk w4 w.heap.size #[.string m.name, .slice pa m.params.length pk, .int .i64 m.ret.kind, .string m.ret.name, .int .i64 m.stack, .int .i64 m.locals, .slice ca m.code.length ck, .slice ha m.handlers.length hk0] 48) := hk4.blk HB.out (by omega) (by decide)
           have HK4 : Hid (KeptP w w4 b) := HK.out.trans hk4
           have d3 := HB4.out.cell 4 _ rfl
           clear hk4 hp4 HS3 e1 e2 e3
           try dsimp only))
      obtain ⟨r7, hr7⟩ : ∃ r7, r7 = (((wrun (kindTok m.ret) r3).bind (wstep (.num m.stack 1))).bind (wstep (.num m.locals 1))).bind (wstep (.num (m.code.length : Int) 2)) := ⟨_, rfl⟩
      rw [← hr7] at HS7
      have HR7 : Hid (r7 = (((wrun (kindTok m.ret) r3).bind (wstep (.num m.stack 1))).bind (wstep (.num m.locals 1))).bind (wstep (.num (m.code.length : Int) 2))) := hr7
      clear hr7 HK HB hj hlt
      go_loopw [5] (fun i wr => ∃ j : Nat, j ≤ m.code.length ∧ i = .int .i64 j ∧ PnS wr b (k + 9 + 3 * m.params.length + 5 * j) (wrun ((m.code.take j).flatMap insTok) r7) ∧ KeptP w wr b ∧ Blk wr w.heap.size #[.string m.name, .slice pa m.params.length pk, .int .i64 m.ret.kind, .string m.ret.name, .int .i64 m.stack, .int .i64 m.locals, .slice ca m.code.length ck, .slice ha m.handlers.length hk0] 48) (fun i _ => m.code.length - (intOf i).toNat)
      case atStart => exact ⟨0, Nat.zero_le _, rfl, HS7.out, HK7.out, HB7.out⟩
      case round =>
        clear HS7 HK7 HB7
        obtain ⟨j, hj, rfl, hps, hkp, hbk⟩ := hrel
        have HS : Hid (PnS wr b (k + 9 + 3 * m.params.length + 5 * j) (wrun ((m.code.take j).flatMap insTok) r7)) := hps
        have HK : Hid (KeptP w wr b) := hkp
        have HB : Hid (Blk wr w.heap.size #[.string m.name, .slice pa m.params.length pk, .int .i64 m.ret.kind, .string m.ret.name, .int .i64 m.stack, .int .i64 m.locals, .slice ca m.code.length ck, .slice ha m.handlers.length hk0] 48) := hbk
        clear hps hkp hbk
        have e1 := HB.out.cell 6 _ rfl
        by_cases hlt : j < m.code.length
        · obtain ⟨p, rfl, hp1, hpc⟩ := hrc.out.keepP HK.out hl hbl j hlt
          have f0 : wr.cell? (p.add (j * 4)) = some (.int .i64 m.code[j].op) := hpc 0 _ rfl
          have f1 : wr.cell? ⟨(p.add (j * 4)).block, (p.add (j * 4)).off + 1, none⟩ = some (.int .i64 m.code[j].a) := by rw [add_at p (j * 4) 0]; exact hpc 1 _ rfl
          have f2 : wr.cell? ⟨(p.add (j * 4)).block, (p.add (j * 4)).off + 2, none⟩ = some (.string m.code[j].cls) := by rw [add_at p (j * 4) 1]; exact hpc 2 _ rfl
          have f3 : wr.cell? ⟨(p.add (j * 4)).block, (p.add (j * 4)).off + 3, none⟩ = some (.string m.code[j].mem) := by rw [add_at p (j * 4) 2]; exact hpc 3 _ rfl
          clear hpc
          have hok := hm.out.code j hlt
          go_wp2_with (go_at_call 29; refine (pins_any wr b _ _ m.code[j] hok.1 hok.2.1 hok.2.2.1 hok.2.2.2 HS (by omega)).mono ?_; rintro e w4 ⟨rfl, hk4, hp4⟩; try dsimp only)
          exact ⟨⟨j + 1, hlt, by go_num, by rw [flat_take insTok m.code j hlt]; exact hp4.mono (by omega) (by omega), HK.out.trans hk4, hk4.blk HB.out (by omega) (by decide)⟩, by simp [intOf]; omega⟩
        · have hje : j = m.code.length := by omega
          subst hje
          obtain ⟨r8, hr8⟩ : ∃ r8, r8 = wrun (m.code.flatMap insTok) r7 := ⟨_, rfl⟩
          have HR8 : Hid (r8 = wrun (m.code.flatMap insTok) r7) := hr8
          have HS8 : Hid (PnS wr b (k + 9 + 3 * m.params.length + 5 * m.code.length) r8) := by
            have := HS.out
            rw [List.take_length, ← hr8] at this
            exact this
          clear hr8 HS
          have e2 := HB.out.cell 7 _ rfl
          go_wp2_with (go_at_call 15; refine (pnumber_any wr b _ _ (m.handlers.length : Int) 1 (by omega) (by omega) HS8 (by omega)).mono ?_; rintro e w9 ⟨rfl, hk9, hp9⟩; try dsimp only)
          obtain ⟨r9, hr9⟩ : ∃ r9, r9 = r8.bind (wstep (.num (m.handlers.length : Int) 1)) := ⟨_, rfl⟩
          rw [← hr9] at hp9
          have HR9 : Hid (r9 = r8.bind (wstep (.num (m.handlers.length : Int) 1))) := hr9
          have HS9 : Hid (PnS w9 b (k + 10 + 3 * m.params.length + 5 * m.code.length) r9) := hp9.mono (by omega) (by omega)
          have HB9 : Hid (Blk w9 w.heap.size #[.string m.name, .slice pa m.params.length pk, .int .i64 m.ret.kind, .string m.ret.name, .int .i64 m.stack, .int .i64 m.locals, .slice ca m.code.length ck, .slice ha m.handlers.length hk0] 48) := hk9.blk HB.out (by omega) (by decide)
          have HK9 : Hid (KeptP w w9 b) := HK.out.trans hk9
          clear hr9 hp9 hk9 HS8 HK HB e1 e2 hj hlt
          go_loopw [6] (fun i wr => ∃ j : Nat, j ≤ m.handlers.length ∧ i = .int .i64 j ∧ PnS wr b (k + 10 + 3 * m.params.length + 5 * m.code.length + 5 * j) (wrun ((m.handlers.take j).flatMap hdTok) r9) ∧ KeptP w wr b ∧ Blk wr w.heap.size #[.string m.name, .slice pa m.params.length pk, .int .i64 m.ret.kind, .string m.ret.name, .int .i64 m.stack, .int .i64 m.locals, .slice ca m.code.length ck, .slice ha m.handlers.length hk0] 48) (fun i _ => m.handlers.length - (intOf i).toNat)
          case atStart => exact ⟨0, Nat.zero_le _, rfl, HS9.out, HK9.out, HB9.out⟩
          case round =>
            clear HS9 HK9 HB9
            obtain ⟨j, hj, rfl, hps, hkp, hbk⟩ := hrel
            have HS : Hid (PnS wr b (k + 10 + 3 * m.params.length + 5 * m.code.length + 5 * j) (wrun ((m.handlers.take j).flatMap hdTok) r9)) := hps
            have HK : Hid (KeptP w wr b) := hkp
            have HB : Hid (Blk wr w.heap.size #[.string m.name, .slice pa m.params.length pk, .int .i64 m.ret.kind, .string m.ret.name, .int .i64 m.stack, .int .i64 m.locals, .slice ca m.code.length ck, .slice ha m.handlers.length hk0] 48) := hbk
            clear hps hkp hbk
            have e1 := HB.out.cell 7 _ rfl
            by_cases hlt : j < m.handlers.length
            · obtain ⟨p, rfl, hp1, hpc⟩ := hrh.out.keepP HK.out hl hbl j hlt
              have f0 : wr.cell? (p.add (j * 4)) = some (.int .i64 m.handlers[j].from_) := hpc 0 _ rfl
              have f1 : wr.cell? ⟨(p.add (j * 4)).block, (p.add (j * 4)).off + 1, none⟩ = some (.int .i64 m.handlers[j].to) := by rw [add_at p (j * 4) 0]; exact hpc 1 _ rfl
              have f2 : wr.cell? ⟨(p.add (j * 4)).block, (p.add (j * 4)).off + 2, none⟩ = some (.int .i64 m.handlers[j].at_) := by rw [add_at p (j * 4) 1]; exact hpc 2 _ rfl
              have f3 : wr.cell? ⟨(p.add (j * 4)).block, (p.add (j * 4)).off + 3, none⟩ = some (.string m.handlers[j].cls) := by rw [add_at p (j * 4) 2]; exact hpc 3 _ rfl
              clear hpc
              have hok := hm.out.handlers j hlt
              have h64a : -9223372036854775808 ≤ m.handlers[j].from_ ∧ m.handlers[j].from_ ≤ 9223372036854775807 := hok.1
              have h64b : -9223372036854775808 ≤ m.handlers[j].to ∧ m.handlers[j].to ≤ 9223372036854775807 := hok.2.1
              have h64c : -9223372036854775808 ≤ m.handlers[j].at_ ∧ m.handlers[j].at_ ≤ 9223372036854775807 := hok.2.2.1
              have hbw : b < wr.heap.size := HS.out.lt
              have HSA : Hid (PnS (wr.alloc (.cells #[.int .i64 m.handlers[j].from_, .int .i64 m.handlers[j].to, .int .i64 m.handlers[j].at_, .string m.handlers[j].cls] 52)) b (k + 10 + 3 * m.params.length + 5 * m.code.length + 5 * j) (wrun ((m.handlers.take j).flatMap hdTok) r9)) := HS.out.keep (gb_alloc _ _ _)
              have HHA : Hid (Blk (wr.alloc (.cells #[.int .i64 m.handlers[j].from_, .int .i64 m.handlers[j].to, .int .i64 m.handlers[j].at_, .string m.handlers[j].cls] 52)) wr.heap.size #[.int .i64 m.handlers[j].from_, .int .i64 m.handlers[j].to, .int .i64 m.handlers[j].at_, .string m.handlers[j].cls] 52) := Blk.new _ _ _
              have HBA : Hid (Blk (wr.alloc (.cells #[.int .i64 m.handlers[j].from_, .int .i64 m.handlers[j].to, .int .i64 m.handlers[j].at_, .string m.handlers[j].cls] 52)) w.heap.size #[.string m.name, .slice pa m.params.length pk, .int .i64 m.ret.kind, .string m.ret.name, .int .i64 m.stack, .int .i64 m.locals, .slice ca m.code.length ck, .slice (some p) m.handlers.length hk0] 48) := HB.out.keep (gb_alloc _ _ none) (by simp)
              have HKA : Hid (KeptP w (wr.alloc (.cells #[.int .i64 m.handlers[j].from_, .int .i64 m.handlers[j].to, .int .i64 m.handlers[j].at_, .string m.handlers[j].cls] 52)) b) := HK.out.trans (.ofNone (gb_alloc _ _ _))
              go_wp2_with (first
            | (go_at_call 14
               refine (pname_any _ b _ _ m.handlers[j].cls hok.2.2.2 HS13 (by omega)).mono ?_
               rintro e w14 ⟨rfl, hk14, hp14⟩
               try dsimp only)
            | (go_at_call 15
               refine (pnumber_any _ b _ _ m.handlers[j].at_ 2 (by omega) h64c HS12 (by omega)).mono ?_
               rintro e w13 ⟨rfl, hk13, hp13⟩
               have HS13 : Hid (PnS w13 b (k + 10 + 3 * m.params.length + 5 * m.code.length + 5 * j + 3) ((((wrun ((m.handlers.take j).flatMap hdTok) r9).bind (wstep (.num m.handlers[j].from_ 2))).bind (wstep (.num m.handlers[j].to 2))).bind (wstep (.num m.handlers[j].at_ 2)))) := hp13.mono (by omega) (by omega)
               have HH13 : Hid (Blk w13 wr.heap.size #[.int .i64 m.handlers[j].from_, .int .i64 m.handlers[j].to, .int .i64 m.handlers[j].at_, .string m.handlers[j].cls] 52) := hk13.blk HH12.out (by omega) (by decide)
               have HB13 : Hid (Blk w13 w.heap.size #[.string m.name, .slice pa m.params.length pk, .int .i64 m.ret.kind, .string m.ret.name, .int .i64 m.stack, .int .i64 m.locals, .slice ca m.code.length ck, .slice (some p) m.handlers.length hk0] 48) := hk13.blk HB12.out (by omega) (by decide)
               have HK13 : Hid (KeptP w w13 b) := HK12.out.trans hk13
               have g3 := HH13.out.cell 3 _ rfl
               clear hk13 hp13 HS12 HH12 HB12 HK12
               try dsimp only)
            | (go_at_call 15
               refine (pnumber_any _ b _ _ m.handlers[j].to 2 (by omega) h64b HS11 (by omega)).mono ?_
               rintro e w12 ⟨rfl, hk12, hp12⟩
               have HS12 : Hid (PnS w12 b (k + 10 + 3 * m.params.length + 5 * m.code.length + 5 * j + 2) (((wrun ((m.handlers.take j).flatMap hdTok) r9).bind (wstep (.num m.handlers[j].from_ 2))).bind (wstep (.num m.handlers[j].to 2)))) := hp12.mono (by omega) (by omega)
               have HH12 : Hid (Blk w12 wr.heap.size #[.int .i64 m.handlers[j].from_, .int .i64 m.handlers[j].to, .int .i64 m.handlers[j].at_, .string m.handlers[j].cls] 52) := hk12.blk HH11.out (by omega) (by decide)
               have HB12 : Hid (Blk w12 w.heap.size #[.string m.name, .slice pa m.params.length pk, .int .i64 m.ret.kind, .string m.ret.name, .int .i64 m.stack, .int .i64 m.locals, .slice ca m.code.length ck, .slice (some p) m.handlers.length hk0] 48) := hk12.blk HB11.out (by omega) (by decide)
               have HK12 : Hid (KeptP w w12 b) := HK11.out.trans hk12
               have g2 := HH12.out.cell 2 _ rfl
               clear hk12 hp12 HS11 HH11 HB11 HK11
               try dsimp only)
            | (go_at_call 15
               refine (pnumber_any _ b _ _ m.handlers[j].from_ 2 (by omega) h64a HSA (by omega)).mono ?_
               rintro e w11 ⟨rfl, hk11, hp11⟩
               have HS11 : Hid (PnS w11 b (k + 10 + 3 * m.params.length + 5 * m.code.length + 5 * j + 1) ((wrun ((m.handlers.take j).flatMap hdTok) r9).bind (wstep (.num m.handlers[j].from_ 2)))) := hp11.mono (by omega) (by omega)
               have HH11 : Hid (Blk w11 wr.heap.size #[.int .i64 m.handlers[j].from_, .int .i64 m.handlers[j].to, .int .i64 m.handlers[j].at_, .string m.handlers[j].cls] 52) := hk11.blk HHA.out (by omega) (by decide)
               have HB11 : Hid (Blk w11 w.heap.size #[.string m.name, .slice pa m.params.length pk, .int .i64 m.ret.kind, .string m.ret.name, .int .i64 m.stack, .int .i64 m.locals, .slice ca m.code.length ck, .slice (some p) m.handlers.length hk0] 48) := hk11.blk HBA.out (by omega) (by decide)
               have HK11 : Hid (KeptP w w11 b) := HKA.out.trans hk11
               have g1 := HH11.out.cell 1 _ rfl
               clear hk11 hp11 HSA HHA HBA HKA
               try dsimp only))
              have hfin : PnS w14 b (k + 10 + 3 * m.params.length + 5 * m.code.length + 5 * (j + 1)) (wrun ((m.handlers.take (j + 1)).flatMap hdTok) r9) := by
                rw [flat_take hdTok m.handlers j hlt]
                exact hp14.mono (by omega) (by omega)
              exact ⟨⟨j + 1, hlt, by go_num, hfin, HK13.out.trans hk14, hk14.blk HB13.out (by omega) (by decide)⟩, by simp [intOf]; omega⟩
            · have hje : j = m.handlers.length := by omega
              subst hje
              go_wp2_with fail
              go_end0
              have hS := HS.out
              rw [List.take_length] at hS
              refine ⟨rfl, HK.out, ?_⟩
              have hfin : wrun (m.handlers.flatMap hdTok) r9 = wrun (meTok m) r := by
                rw [HR9.out, HR8.out, HR7.out, HR3.out, HR2.out]
                simp only [meTok, listTok, wrun_cons, wrun_append, List.cons_append, List.append_assoc, List.nil_append]
              rw [← hfin]
              exact hS.mono (by unfold costMe; omega) hc
end Go.Proofs.YtdhophglnhcjbaaDoor

namespace Go.Proofs.YtdhophglnhcjbaaDoor
open Go.RowKit Cf

/-- methods that are read, in blocks ahead of a limit -/
def RdMes (w : World) (lim : Nat) (a : Option Addr) (ms : List XMe) : Prop :=
  ∀ j (hj : j < ms.length), ∃ (p : Addr) (pa ca ha : Option Addr) (pk ck hk : Nat), a = some p ∧ p.block < lim ∧ RdRow w lim 2 xTy pa ms[j].params ∧ RdRow w lim 4 xIn ca ms[j].code ∧ RdRow w lim 4 xHd ha ms[j].handlers ∧
    ∀ r u, ([Value.string ms[j].name, .slice pa ms[j].params.length pk, .int .i64 ms[j].ret.kind, .string ms[j].ret.name, .int .i64 ms[j].stack, .int .i64 ms[j].locals, .slice ca ms[j].code.length ck, .slice ha ms[j].handlers.length hk] : List Value)[r]? = some u → w.cell? (p.add (j * 8 + r)) = some u
theorem RdMes.keepP {w w' : World} {lim b : Nat} {a : Option Addr} {ms : List XMe} (h : RdMes w lim a ms) (hk : KeptP w w' b) (hl : lim ≤ b) (hb : b < w.heap.size) : RdMes w' lim a ms := by
  intro j hj
  obtain ⟨p, pa, ca, ha, pk, ck, hhk, h1, h2, h3, h4, h5, h6⟩ := h j hj
  exact ⟨p, pa, ca, ha, pk, ck, hhk, h1, h2, h3.keepP hk hl hb, h4.keepP hk hl hb, h5.keepP hk hl hb, fun r u hu => hk.cell (h6 r u hu) (by rw [add_block]; omega) hb⟩
theorem RdMes.keep {w w' : World} {lim : Nat} {a : Option Addr} {ms : List XMe} (h : RdMes w lim a ms) (hg : w.grownBy w' none) : RdMes w' lim a ms := by
  intro j hj
  obtain ⟨p, pa, ca, ha, pk, ck, hhk, h1, h2, h3, h4, h5, h6⟩ := h j hj
  exact ⟨p, pa, ca, ha, pk, ck, hhk, h1, h2, h3.keep hg, h4.keep hg, h5.keep hg, fun r u hu => hg.cell (h6 r u hu) (by simp)⟩
structure okCl (c : XCl) : Prop where
  name : isLen c.name
  super : isLen c.super
  fields : ∀ j (hj : j < c.fields.length), okFld c.fields[j]
  methods : ∀ j (hj : j < c.methods.length), okMe c.methods[j]
def costMes (ms : List XMe) : Nat := (ms.map costMe).sum
def costCl (c : XCl) : Nat := 10 + 5 * c.fields.length + costMes c.methods
theorem costMes_take {ms : List XMe} {j : Nat} (hj : j < ms.length) : costMes (ms.take (j + 1)) = costMes (ms.take j) + costMe ms[j] := by
  unfold costMes
  rw [List.take_succ_eq_append_getElem hj, List.map_append, List.sum_append]
  simp
theorem costMes_le (ms : List XMe) (j : Nat) : costMes (ms.take j) ≤ costMes ms := by
  have h : costMes ms = costMes (ms.take j) + costMes (ms.drop j) := by
    unfold costMes
    rw [← List.sum_append, ← List.map_append, List.take_append_drop]
  omega
theorem costMes_len (ms : List XMe) : ms.length ≤ costMes ms := by
  unfold costMes
  induction ms with
  | nil => simp
  | cons m l ih => simp only [List.map_cons, List.sum_cons, List.length_cons]; unfold costMe at *; omega

/-- only names are among the names -/
theorem wstep_names {t : WTok} {s s' : WS} (h : wstep t s = some s') (hs : ∀ x ∈ s.names, isName x = true) : ∀ x ∈ s'.names, isName x = true := by
  match t, h with
  | some (.inl (n, w)), h =>
    simp only [wstep] at h
    split at h
    · cases h; exact hs
    · cases h
  | none, h => cases h
  | some (.inr y), h =>
    simp only [wstep] at h
    split at h
    · rename_i hy
      cases h
      intro x hx
      simp only [withName] at hx
      split at hx
      · exact hs x hx
      · rcases List.mem_append.1 hx with hx | hx
        · exact hs x hx
        · rw [List.mem_singleton.1 hx]; exact hy.1
    · cases h
theorem wrun_names : ∀ (l : List WTok) {s s' : WS}, wrun l (some s) = some s' → (∀ x ∈ s.names, isName x = true) → ∀ x ∈ s'.names, isName x = true
  | [], s, s', h, hs => by cases h; exact hs
  | t :: l, s, s', h, hs => by
    rw [wrun_cons] at h
    cases ht : wstep t s with
    | none => rw [Option.bind_some, ht, wrun_none] at h; cases h
    | some s1 => rw [Option.bind_some, ht] at h; exact wrun_names l h (wstep_names ht hs)

/-- what Encode answers -/
def strOf (r : Except Nat (List UInt8)) : ByteArray := match r with | .ok l => ⟨l.toArray⟩ | .error _ => ⟨#[]⟩
def codeOf (r : Except Nat (List UInt8)) : Nat := match r with | .ok _ => 0 | .error n => n

theorem gb_of_kept {w wa wr : World} {b : Nat} (h0 : w.grownBy wa none) (hb : w.heap.size < b) (hk : KeptP wa wr b) : w.grownBy wr none :=
  ⟨hk.os.trans h0.os, hk.tape.trans h0.tape, hk.output.trans h0.output, Nat.le_trans h0.size hk.size, fun k hk1 _ =>
    (hk.block k (Nat.lt_of_lt_of_le hk1 h0.size) (fun hm => by rcases hm with h2 | ⟨h2, _⟩ <;> omega)).trans (h0.block k hk1 (by simp))⟩
theorem name_size {x : ByteArray} (h : isName x = true) : x.size ≤ 12 := by
  simp only [isName, Bool.and_eq_true, decide_eq_true_eq] at h
  exact h.1.2
theorem poolBytes_len {l : List ByteArray} (h : ∀ x ∈ l, isName x = true) : (poolBytes l).length ≤ 13 * l.length := by
  unfold poolBytes
  induction l with
  | nil => simp
  | cons x l ih =>
    have h1 := name_size (h x (by simp))
    have h2 := ih (fun y hy => h y (by simp [hy]))
    have h3 : x.data.toList.length = x.size := by simp
    simp only [List.flatMap_cons, List.length_append, List.length_cons, h3]
    omega
theorem apB_pair (out : ByteArray) (l : List UInt8) (x : UInt8) (nm : ByteArray) : (apB out l ++ ⟨#[x]⟩) ++ nm = apB out (l ++ (x :: nm.data.toList)) := by
  unfold apB
  apply ByteArray.ext
  simp
theorem apB_first (x : UInt8) : (⟨#[87, 49]⟩ : ByteArray) ++ ⟨#[x]⟩ = apB ⟨#[87, 49]⟩ [x] := by
  unfold apB
  apply ByteArray.ext
  simp
theorem pool_snoc (l : List ByteArray) (x : ByteArray) : poolBytes (l ++ [x]) = poolBytes l ++ (UInt8.ofNat x.size :: x.data.toList) := by
  unfold poolBytes
  simp
/-- one byte as a string, in a world as it is -/
theorem conv_one0 (W : World) (z : Int) (T : TypeId) : (convert 61 9 (.slice (some ⟨W.heap.size, 0, none⟩) 1 1)).run Tryd.prog (W.alloc (.cells #[.int .u8 z] T)) = .ok (.string ⟨#[UInt8.ofNat z.toNat]⟩) (W.alloc (.cells #[.int .u8 z] T)) := by
  rw [run_convert_bytes_string _ 61 9 5 _ 1 1 Tryd.underlying61 Tryd.underlying5 Tryd.underlying9]
  have hl := run_loadCells_list (P := Tryd.prog) (W.alloc (.cells #[.int .u8 z] T)) ⟨W.heap.size, 0, none⟩ [.int .u8 z] (fun j v hj => by
    have hj0 : j = 0 := by
      have := (List.getElem?_eq_some_iff.1 hj).1
      simp at this; omega
    subst hj0
    have := (Blk.new W #[.int .u8 z] T).cell 0 _ rfl
    simp at hj
    subst hj
    exact this)
  exact run_bytesToString _ _ 1 1 [z] hl

set_option maxRecDepth 100000 in
set_option maxHeartbeats 2000000 in
theorem pencode_any (w : World) (lim : Nat) (c : XCl) (fa ma : Option Addr) (fk mk : Nat) (hl : lim ≤ w.heap.size) (hm : Hid (okCl c)) (hc : costCl c ≤ 2 ^ 40)
    (hrf : Hid (RdRow w lim 3 xFld fa c.fields)) (hrm : Hid (RdMes w lim ma c.methods)) :
    Calls Tryd.prog 7 #[.agg #[.string c.name, .string c.super, .slice fa c.fields.length fk, .slice ma c.methods.length mk]] w fun e w' => e = .returned (.tuple #[.string (strOf (enc c)), .int .i64 (codeOf (enc c))]) ∧ w.grownBy w' none := by
  have hcl : 10 + 5 * c.fields.length + costMes c.methods ≤ 1099511627776 := by unfold costCl at hc; omega
  have hml := costMes_len c.methods
  have hn1 : isLen c.name := hm.out.name
  have hn2 : isLen c.super := hm.out.super
  obtain ⟨b, hb⟩ : ∃ b, b = w.heap.size + 1 := ⟨_, rfl⟩
  obtain ⟨wa, hwa⟩ : ∃ wa, wa = (w.alloc (.cells #[.string c.name, .string c.super, .slice fa c.fields.length fk, .slice ma c.methods.length mk] 25)).alloc (.cells #[.string ⟨#[]⟩, .slice none 0 0, .bool false] 56) := ⟨_, rfl⟩
  have HB0 : Hid (Blk wa w.heap.size #[.string c.name, .string c.super, .slice fa c.fields.length fk, .slice ma c.methods.length mk] 25) := by unfold Hid; rw [hwa]; exact (Blk.new w _ _).keep (gb_alloc _ _ none) (by simp)
  have HG0 : Hid (w.grownBy wa none) := by unfold Hid; rw [hwa]; exact gb_tr (gb_alloc _ _ _) (gb_alloc _ _ _)
  have HP0 : Hid (PnS wa b 0 (some ⟨[], []⟩)) := by
    have hB := Blk.new (w.alloc (.cells #[.string c.name, .string c.super, .slice fa c.fields.length fk, .slice ma c.methods.length mk] 25)) #[.string ⟨#[]⟩, .slice none 0 0, .bool false] 56
    simp only [size_alloc] at hB
    rw [← hwa, ← hb] at hB
    exact ⟨_, ⟨#[]⟩, [], false, ⟨hB, World.ownsRow_nil _ _ _ _⟩, Nat.le_refl 0, by simp, by omega, (fun s e => by cases e; exact ⟨rfl, rfl, rfl⟩), (fun e => by cases e)⟩
  have hPb : w.heap.size < b := by omega
  have hlb : lim ≤ b := by omega
  have hbw : b < wa.heap.size := HP0.out.lt
  go_enter Tryd.func7, Tryd.ntmps7
  go_wp2_with (first
    | (go_at_call 15
       refine (pnumber_any _ b _ _ (c.fields.length : Int) 1 (by omega) (by omega) HP2 (by omega)).mono ?_
       rintro e w3 ⟨rfl, hk3, hp3⟩
       have HP3 : Hid (PnS w3 b 5 (((((some ⟨[], []⟩ : Option WS).bind (wstep (.nm c.name))).bind (wstep (.nm c.super)))).bind (wstep (.num (c.fields.length : Int) 1)))) := hp3.mono (by omega) (by omega)
       have HB3 : Hid (Blk w3 w.heap.size #[.string c.name, .string c.super, .slice fa c.fields.length fk, .slice ma c.methods.length mk] 25) := hk3.blk HB2.out (by omega) (by decide)
       have HK3 : Hid (KeptP wa w3 b) := HK2.out.trans hk3
       clear hk3 hp3 HP2 HB2 HK2 d2
       try dsimp only)
    | (go_at_call 14
       refine (pname_any w1 b _ _ c.super hn2 HP1 (by omega)).mono ?_
       rintro e w2 ⟨rfl, hk2, hp2⟩
       have HP2 : Hid (PnS w2 b 4 (((some ⟨[], []⟩ : Option WS).bind (wstep (.nm c.name))).bind (wstep (.nm c.super)))) := hp2.mono (by omega) (by omega)
       have HB2 : Hid (Blk w2 w.heap.size #[.string c.name, .string c.super, .slice fa c.fields.length fk, .slice ma c.methods.length mk] 25) := hk2.blk HB1.out (by omega) (by decide)
       have HK2 : Hid (KeptP wa w2 b) := HK1.out.trans hk2
       have d2 := HB2.out.cell 2 _ rfl
       clear hk2 hp2 HP1 HB1 HK1 d1
       try dsimp only)
    | (go_at_call 14
       rw [← hb, ← hwa]
       refine (pname_any wa b 0 _ c.name hn1 HP0 (by omega)).mono ?_
       rintro e w1 ⟨rfl, hk1, hp1⟩
       have HP1 : Hid (PnS w1 b 2 ((some ⟨[], []⟩ : Option WS).bind (wstep (.nm c.name)))) := hp1
       have HB1 : Hid (Blk w1 w.heap.size #[.string c.name, .string c.super, .slice fa c.fields.length fk, .slice ma c.methods.length mk] 25) := hk1.blk HB0.out (by omega) (by decide)
       have HK1 : Hid (KeptP wa w1 b) := hk1
       have d1 := HB1.out.cell 1 _ rfl
       have hKb : Hid (b = w.heap.size + 1) := hb
       clear hk1 hp1 HP0 HB0 hb hwa
       try dsimp only))
  obtain ⟨r3, hr3⟩ : ∃ r3, r3 = ((((some ⟨[], []⟩ : Option WS).bind (wstep (.nm c.name))).bind (wstep (.nm c.super)))).bind (wstep (.num (c.fields.length : Int) 1)) := ⟨_, rfl⟩
  rw [← hr3] at HP3
  have HR3 : Hid (r3 = ((((some ⟨[], []⟩ : Option WS).bind (wstep (.nm c.name))).bind (wstep (.nm c.super)))).bind (wstep (.num (c.fields.length : Int) 1))) := hr3
  clear hr3
  have HRF : Hid (RdRow wa lim 3 xFld fa c.fields) := hrf.out.keep HG0.out
  have HRM : Hid (RdMes wa lim ma c.methods) := hrm.out.keep HG0.out
  go_loopw [5] (fun i wr => ∃ j : Nat, j ≤ c.fields.length ∧ i = .int .i64 j ∧ PnS wr b (5 + 5 * j) (wrun ((c.fields.take j).flatMap fldTok) r3) ∧ KeptP wa wr b ∧ Blk wr w.heap.size #[.string c.name, .string c.super, .slice fa c.fields.length fk, .slice ma c.methods.length mk] 25) (fun i _ => c.fields.length - (intOf i).toNat)
  case atStart => exact ⟨0, Nat.zero_le _, rfl, HP3.out, HK3.out, HB3.out⟩
  case round =>
    clear HP3 HK3 HB3
    obtain ⟨j, hj, rfl, hps, hkp, hbk⟩ := hrel
    have HS : Hid (PnS wr b (5 + 5 * j) (wrun ((c.fields.take j).flatMap fldTok) r3)) := hps
    have HK : Hid (KeptP wa wr b) := hkp
    have HB : Hid (Blk wr w.heap.size #[.string c.name, .string c.super, .slice fa c.fields.length fk, .slice ma c.methods.length mk] 25) := hbk
    clear hps hkp hbk
    have e1 := HB.out.cell 2 _ rfl
    by_cases hlt : j < c.fields.length
    · obtain ⟨p, rfl, hp1, hpc⟩ := HRF.out.keepP HK.out hlb hbw j hlt
      have hbr : b < wr.heap.size := HS.out.lt
      have hpb : p.block < b := by omega
      have f0 : wr.cell? (p.add (j * 3)) = some (.string c.fields[j].name) := hpc 0 _ rfl
      have f1 : wr.cell? ⟨(p.add (j * 3)).block, (p.add (j * 3)).off + 1, none⟩ = some (.int .i64 c.fields[j].ty.kind) := by rw [add_at p (j * 3) 0]; exact hpc 1 _ rfl
      have f2 : wr.cell? ⟨(p.add (j * 3)).block, (p.add (j * 3)).off + 2, none⟩ = some (.string c.fields[j].ty.name) := by rw [add_at p (j * 3) 1]; exact hpc 2 _ rfl
      have hqb : (p.add (j * 3)).block < b := by rw [add_block]; exact hpb
      clear hpc
      have hok := hm.out.fields j hlt
      go_wp2_with (first
        | (go_at_call 16
           refine (pkind_any w4 b _ _ c.fields[j].ty hok.2.1 hok.2.2 HS4 (by omega)).mono ?_
           rintro e w5 ⟨rfl, hk5, hp5⟩
           try dsimp only)
        | (go_at_call 14
           refine (pname_any wr b _ _ c.fields[j].name hok.1 HS (by omega)).mono ?_
           rintro e w4 ⟨rfl, hk4, hp4⟩
           have HS4 : Hid (PnS w4 b (5 + 5 * j + 2) ((wrun ((c.fields.take j).flatMap fldTok) r3).bind (wstep (.nm c.fields[j].name)))) := hp4
           have HB4 : Hid (Blk w4 w.heap.size #[.string c.name, .string c.super, .slice (some p) c.fields.length fk, .slice ma c.methods.length mk] 25) := hk4.blk HB.out (by omega) (by decide)
           have HK4 : Hid (KeptP wa w4 b) := HK.out.trans hk4
           have g1 := hk4.cell f1 hqb hbr
           have g2 := hk4.cell f2 hqb hbr
           have e2 := HB4.out.cell 2 _ rfl
           clear hk4 hp4 f0 f1 f2 e1
           try dsimp only))
      have hfin : PnS w5 b (5 + 5 * (j + 1)) (wrun ((c.fields.take (j + 1)).flatMap fldTok) r3) := by
        rw [flat_take fldTok c.fields j hlt]
        exact hp5.mono (by omega) (by omega)
      exact ⟨⟨j + 1, hlt, by go_num, hfin, HK4.out.trans hk5, hk5.blk HB4.out (by omega) (by decide)⟩, by simp [intOf]; omega⟩
    · have hje : j = c.fields.length := by omega
      subst hje
      obtain ⟨r4, hr4⟩ : ∃ r4, r4 = wrun (c.fields.flatMap fldTok) r3 := ⟨_, rfl⟩
      have HR4 : Hid (r4 = wrun (c.fields.flatMap fldTok) r3) := hr4
      have HS4 : Hid (PnS wr b (5 + 5 * c.fields.length) r4) := by
        have := HS.out
        rw [List.take_length, ← hr4] at this
        exact this
      clear hr4 HS
      have e3 := HB.out.cell 3 _ rfl
      go_wp2_with (go_at_call 15; refine (pnumber_any wr b _ _ (c.methods.length : Int) 1 (by omega) (by omega) HS4 (by omega)).mono ?_; rintro e w5 ⟨rfl, hk5, hp5⟩; try dsimp only)
      obtain ⟨r5, hr5⟩ : ∃ r5, r5 = r4.bind (wstep (.num (c.methods.length : Int) 1)) := ⟨_, rfl⟩
      rw [← hr5] at hp5
      have HR5 : Hid (r5 = r4.bind (wstep (.num (c.methods.length : Int) 1))) := hr5
      have HS5 : Hid (PnS w5 b (6 + 5 * c.fields.length) r5) := hp5.mono (by omega) (by omega)
      have HB5 : Hid (Blk w5 w.heap.size #[.string c.name, .string c.super, .slice fa c.fields.length fk, .slice ma c.methods.length mk] 25) := hk5.blk HB.out (by omega) (by decide)
      have HK5 : Hid (KeptP wa w5 b) := HK.out.trans hk5
      clear hr5 hp5 hk5 HS4 HK HB e1 e3 hj hlt
      go_loopw [6] (fun i wr => ∃ j : Nat, j ≤ c.methods.length ∧ i = .int .i64 j ∧ PnS wr b (6 + 5 * c.fields.length + costMes (c.methods.take j)) (wrun ((c.methods.take j).flatMap meTok) r5) ∧ KeptP wa wr b ∧ Blk wr w.heap.size #[.string c.name, .string c.super, .slice fa c.fields.length fk, .slice ma c.methods.length mk] 25) (fun i _ => c.methods.length - (intOf i).toNat)
      case atStart => exact ⟨0, Nat.zero_le _, rfl, HS5.out, HK5.out, HB5.out⟩
      case round =>
        clear HS5 HK5 HB5
        obtain ⟨j, hj, rfl, hps, hkp, hbk⟩ := hrel
        have HS : Hid (PnS wr b (6 + 5 * c.fields.length + costMes (c.methods.take j)) (wrun ((c.methods.take j).flatMap meTok) r5)) := hps
        have HK : Hid (KeptP wa wr b) := hkp
        have HB : Hid (Blk wr w.heap.size #[.string c.name, .string c.super, .slice fa c.fields.length fk, .slice ma c.methods.length mk] 25) := hbk
        clear hps hkp hbk
        have e1 := HB.out.cell 3 _ rfl
        by_cases hlt : j < c.methods.length
        · obtain ⟨p, pa, ca, ha, pk, ck, hhk, rfl, hp1, hq1, hq2, hq3, hpc⟩ := HRM.out.keepP HK.out hlb hbw j hlt
          have f0 : wr.cell? (p.add (j * 8)) = some (.string c.methods[j].name) := hpc 0 _ rfl
          have f1 : wr.cell? ⟨(p.add (j * 8)).block, (p.add (j * 8)).off + 1, none⟩ = some (.slice pa c.methods[j].params.length pk) := by rw [add_at p (j * 8) 0]; exact hpc 1 _ rfl
          have f2 : wr.cell? ⟨(p.add (j * 8)).block, (p.add (j * 8)).off + 2, none⟩ = some (.int .i64 c.methods[j].ret.kind) := by rw [add_at p (j * 8) 1]; exact hpc 2 _ rfl
          have f3 : wr.cell? ⟨(p.add (j * 8)).block, (p.add (j * 8)).off + 3, none⟩ = some (.string c.methods[j].ret.name) := by rw [add_at p (j * 8) 2]; exact hpc 3 _ rfl
          have f4 : wr.cell? ⟨(p.add (j * 8)).block, (p.add (j * 8)).off + 4, none⟩ = some (.int .i64 c.methods[j].stack) := by rw [add_at p (j * 8) 3]; exact hpc 4 _ rfl
          have f5 : wr.cell? ⟨(p.add (j * 8)).block, (p.add (j * 8)).off + 5, none⟩ = some (.int .i64 c.methods[j].locals) := by rw [add_at p (j * 8) 4]; exact hpc 5 _ rfl
          have f6 : wr.cell? ⟨(p.add (j * 8)).block, (p.add (j * 8)).off + 6, none⟩ = some (.slice ca c.methods[j].code.length ck) := by rw [add_at p (j * 8) 5]; exact hpc 6 _ rfl
          have f7 : wr.cell? ⟨(p.add (j * 8)).block, (p.add (j * 8)).off + 7, none⟩ = some (.slice ha c.methods[j].handlers.length hhk) := by rw [add_at p (j * 8) 6]; exact hpc 7 _ rfl
          clear hpc
          have hct := costMes_take hlt
          have hcl2 := costMes_le c.methods (j + 1)
          have hk2 : 6 + 5 * c.fields.length + costMes (c.methods.take j) + costMe c.methods[j] ≤ 2 ^ 40 := by omega
          have HQ1 : Hid (RdRow wr lim 2 xTy pa c.methods[j].params) := hq1
          have HQ2 : Hid (RdRow wr lim 4 xIn ca c.methods[j].code) := hq2
          have HQ3 : Hid (RdRow wr lim 4 xHd ha c.methods[j].handlers) := hq3
          have HOK : Hid (okMe c.methods[j]) := hm.out.methods j hlt
          clear hq1 hq2 hq3
          go_wp2_with (go_at_call 17; refine (pmethod_any wr b lim _ _ c.methods[j] pa ca ha pk ck hhk hlb HOK HS hk2 HQ1 HQ2 HQ3).mono ?_; rintro e w6 ⟨rfl, hk6, hp6⟩; try dsimp only)
          have hfin : PnS w6 b (6 + 5 * c.fields.length + costMes (c.methods.take (j + 1))) (wrun ((c.methods.take (j + 1)).flatMap meTok) r5) := by
            rw [flat_take meTok c.methods j hlt, hct, ← Nat.add_assoc]
            exact hp6
          exact ⟨⟨j + 1, hlt, by go_num, hfin, HK.out.trans hk6, hk6.blk HB.out (by omega) (by decide)⟩, by simp [intOf]; omega⟩
        · have hje : j = c.methods.length := by omega
          subst hje
          obtain ⟨r6, hr6⟩ : ∃ r6, r6 = wrun (clTok c) (some ⟨[], []⟩) := ⟨_, rfl⟩
          have HR6 : Hid (r6 = wrun (clTok c) (some ⟨[], []⟩)) := hr6
          have HS6 : Hid (PnS wr b (6 + 5 * c.fields.length + costMes c.methods) r6) := by
            have := HS.out
            rw [List.take_length] at this
            have e : wrun (c.methods.flatMap meTok) r5 = r6 := by
              rw [HR5.out, HR4.out, HR3.out, hr6]
              simp only [clTok, listTok, wrun_cons, wrun_append, List.cons_append]
            rw [← e]
            exact this
          clear hr6 HS
          have HG : Hid (w.grownBy wr none) := gb_of_kept HG0.out hPb HK.out
          obtain ⟨nv, out, names, bad, hP, h1, h2, h3, h4, h5⟩ := HS6.out
          obtain ⟨a, kk, rfl⟩ := own_slice hP.own
          have HP : Hid (Pn wr b (.slice a names.length kk) out names bad) := hP
          have g0 := hP.blk.cell 0 _ rfl
          have g1 := hP.blk.cell 1 _ rfl
          have g2 := hP.blk.cell 2 _ rfl
          have hos : out.size ≤ 4398046511104 := by omega
          have hnl : names.length ≤ 1099511627776 := by omega
          clear h1 h2 h3 hP HS6 HK HB
          cases r6 with
          | none =>
            have hbt := h5 rfl
            subst hbt
            have HE : Hid (enc c = .error 19) := by unfold enc Hid; rw [← HR6.out]
            clear h4 h5
            go_wp2_with fail
            go_ret2
            rw [HE.out]
            exact ⟨rfl, HG.out⟩
          | some s =>
            obtain ⟨q1, rfl, rfl⟩ := h4 s rfl
            have HQ1 : Hid (out.data.toList = s.out) := q1
            have HNM : Hid (∀ x ∈ s.names, isName x = true) := wrun_names _ HR6.out.symm (by simp)
            clear h4 h5 q1
            by_cases h255 : 255 < s.names.length
            · have HE : Hid (enc c = .error 19) := by unfold enc Hid; rw [← HR6.out]; simp only [h255, if_true]
              go_wp2_with fail
              go_ret2
              rw [HE.out]
              exact ⟨rfl, HG.out⟩
            · have hbr : b < wr.heap.size := HP.out.blk.lt
              have hne : wr.heap.size ≠ b := by omega
              have kc := conv_one
              have kc0 := conv_one0
              go_wp2_with fail
              have HPa : Hid (Pn (wr.alloc (.cells #[.int .u8 s.names.length] 5)) b (.slice a s.names.length kk) out s.names false) := HP.out.keep (gb_alloc _ _ _)
              have HGa : Hid (w.grownBy (wr.alloc (.cells #[.int .u8 s.names.length] 5)) none) := gb_tr HG.out (gb_alloc _ _ _)
              clear HP HG g0 g1 g2 hbr hne kc0
              rw [apB_first]
              go_loopw [7, 8] (fun sv i wx => ∃ j : Nat, j ≤ s.names.length ∧ i = .int .i64 j ∧ sv = .string (apB ⟨#[87, 49]⟩ (UInt8.ofNat s.names.length :: poolBytes (s.names.take j))) ∧ Pn wx b (.slice a s.names.length kk) out s.names false ∧ w.grownBy wx none) (fun _ i _ => s.names.length - (intOf i).toNat)
              case atStart => exact ⟨0, Nat.zero_le _, rfl, rfl, HPa.out, HGa.out⟩
              case round =>
                clear HPa HGa
                obtain ⟨j, hj, rfl, rfl, hP, hg⟩ := hrel
                have HP : Hid (Pn wr b (.slice a s.names.length kk) out s.names false) := hP
                have HG : Hid (w.grownBy wr none) := hg
                have g0 := hP.blk.cell 0 _ rfl
                have g1 := hP.blk.cell 1 _ rfl
                have hbr : b < wr.heap.size := hP.blk.lt
                have hne : wr.heap.size ≠ b := by omega
                obtain ⟨cur, hcur⟩ : ∃ cur, cur = apB ⟨#[87, 49]⟩ (UInt8.ofNat s.names.length :: poolBytes (s.names.take j)) := ⟨_, rfl⟩
                have hcs : cur.size ≤ 4000 := by
                  have := poolBytes_len (l := s.names.take j) (fun x hx => HNM.out x (List.mem_of_mem_take hx))
                  have h2 : (s.names.take j).length ≤ 255 := by rw [List.length_take]; omega
                  have h3 : (ByteArray.mk #[87, 49]).size = 2 := rfl
                  rw [hcur, apB_size, List.length_cons, h3]
                  omega
                rw [← hcur]
                have HCU : Hid (cur = apB ⟨#[87, 49]⟩ (UInt8.ofNat s.names.length :: poolBytes (s.names.take j))) := hcur
                clear hP hg hcur
                by_cases hlt : j < s.names.length
                · have hrow : ∃ g, a = some ⟨g, 0, none⟩ ∧ wr.cell? ⟨g, j, none⟩ = some (.string s.names[j]) := by
                    rcases own_strs HP.out.own with ⟨-, h2⟩ | ⟨g, cap, h1, -, hc⟩
                    · rw [h2] at hlt; cases hlt
                    · have := hc j hlt
                      simp only [List.getD, List.getElem?_eq_getElem hlt, Option.getD_some] at this
                      exact ⟨g, by injection h1, this⟩
                  obtain ⟨g, rfl, hc⟩ := hrow
                  have hgl : g < wr.heap.size := World.block_lt_of_cell? _ _ hc
                  have hgn : wr.heap.size ≠ g := by omega
                  obtain ⟨nm, hnm⟩ : ∃ nm, nm = s.names[j] := ⟨_, rfl⟩
                  rw [← hnm] at hc
                  have hns : nm.size ≤ 12 := by rw [hnm]; exact name_size (HNM.out _ (List.getElem_mem hlt))
                  have HNX : Hid ((cur ++ ⟨#[UInt8.ofNat nm.size]⟩) ++ nm = apB ⟨#[87, 49]⟩ (UInt8.ofNat s.names.length :: poolBytes (s.names.take (j + 1)))) := by
                    unfold Hid
                    rw [HCU.out, apB_pair, List.take_succ_eq_append_getElem hlt, pool_snoc, ← hnm]
                    rfl
                  clear hnm
                  go_wp2_with fail
                  go_region
                  go_wp2_with fail
                  exact ⟨⟨j + 1, hlt, by go_num, by rw [HNX.out], HP.out.keep (gb_tr (gb_alloc _ _ _) (gb_drew _ _)), gb_tr HG.out (gb_tr (gb_alloc _ _ _) (gb_drew _ _))⟩, by simp [intOf]; omega⟩
                · have hje : j = s.names.length := by omega
                  subst hje
                  obtain ⟨file, hfile⟩ : ∃ file, file = [87, 49, UInt8.ofNat s.names.length] ++ poolBytes s.names ++ s.out := ⟨_, rfl⟩
                  have HCO : Hid (cur ++ out = ⟨file.toArray⟩) := by
                    unfold Hid
                    rw [HCU.out, List.take_length, hfile, ← HQ1.out]
                    unfold apB
                    apply ByteArray.ext
                    simp
                  have HE0 : Hid (enc c = if 2048 < file.length then .error 1 else .ok file) := by
                    unfold enc Hid
                    rw [← HR6.out]
                    dsimp only
                    rw [if_neg h255, hfile]
                  clear hfile
                  have HSZ : Hid (cur.size + out.size = file.length) := by
                    have := congrArg ByteArray.size HCO.out
                    rw [ByteArray.size_append] at this
                    unfold Hid
                    rw [this]
                    unfold ByteArray.size
                    simp
                  by_cases hbig : 2048 < file.length
                  · have HE : Hid (enc c = .error 1) := by unfold Hid; rw [HE0.out, if_pos hbig]
                    have hb2 : 2048 < cur.size + out.size := by rw [HSZ.out]; exact hbig
                    clear hbig
                    go_wp2_with fail
                    go_ret2
                    rw [HE.out]
                    exact ⟨rfl, HG.out⟩
                  · have HE : Hid (enc c = .ok file) := by unfold Hid; rw [HE0.out, if_neg hbig]
                    have hb2 : ¬ 2048 < cur.size + out.size := by rw [HSZ.out]; exact hbig
                    clear hbig
                    go_wp2_with fail
                    go_ret2
                    rw [HE.out]
                    exact ⟨by rw [HCO.out]; rfl, HG.out⟩
end Go.Proofs.YtdhophglnhcjbaaDoor
