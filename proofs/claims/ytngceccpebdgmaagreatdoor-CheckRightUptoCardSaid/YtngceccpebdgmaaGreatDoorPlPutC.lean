/- payload: Put: the walk. -/
import Derived.Test.YtngceccpebdgmaaGreatDoorPlPartsOf
import Derived.BigQuiet
namespace Go.Proofs.YtngceccpebdgmaaGreatDoor
open Go.RowKit Go.Shelf

abbrev plV (p : Pl) (a3 : Option Addr) (c3 : Nat) (a6 : Option Addr) (c6 : Nat) : Value := .agg #[.string p.name, .int .u64 (p.port : Int), .string p.route, .slice a3 p.rules.length c3, .int .u64 (p.policy : Int), .string p.secret, .slice a6 p.addrs.length c6, .string p.key]
abbrev plCells (p : Pl) (a3 : Option Addr) (c3 : Nat) (a6 : Option Addr) (c6 : Nat) : Array Value := #[.string p.name, .int .u64 (p.port : Int), .string p.route, .slice a3 p.rules.length c3, .int .u64 (p.policy : Int), .string p.secret, .slice a6 p.addrs.length c6, .string p.key]
theorem vpay_new {w : World} {p : Pl} {a3 a6 : Option Addr} {c3 c6 : Nat} (h3 : RulesAt w a3 p.rules) (h6 : AddrsAt w a6 p.addrs) (T : TypeId) : VPay (w.alloc (.cells (plCells p a3 c3 a6 c6) T)) w.heap.size p :=
  ⟨by rw [World.size_alloc]; omega, (new_cell w _ _ 0).trans rfl, (new_cell w _ _ 1).trans rfl, (new_cell w _ _ 2).trans rfl, ⟨a3, c3, (new_cell w _ _ 3).trans rfl, h3.below (below_alloc w _)⟩, (new_cell w _ _ 4).trans rfl, (new_cell w _ _ 5).trans rfl, ⟨a6, c6, (new_cell w _ _ 6).trans rfl, h6.below (below_alloc w _)⟩, (new_cell w _ _ 7).trans rfl⟩
theorem puts_len_le {p : Pl} : ∀ {is : List Nat} {j i : Nat}, is[j]? = some i → (p.put i).length ≤ (p.puts is).length
  | [], j, i, h => by simp at h
  | k :: ks, 0, i, h => by simp at h; subst h; rw [puts_cons]; simp
  | k :: ks, j + 1, i, h => by have := puts_len_le (p := p) (is := ks) (j := j) (i := i) (by simpa using h); rw [puts_cons]; simp; omega

theorem putAll_is (is : List Nat) (xs : List PartV) (g cap n : Nat) (p : Pl) (a3 a6 : Option Addr) (c3 c6 : Nat) (b : Addr) (w : World) (hg : Gv b w) (hn : xs.length = n) (hn64 : n ≤ 64) (hp : PartsAt w g xs) (hi : PartsIdx w is xs) (h3 : RulesAt w a3 p.rules) (h6 : AddrsAt w a6 p.addrs) (ho : PlOk p) (hs : (p.puts is).length ≤ 140737488355328) :
    Calls Tryz.prog 42 #[.slice (some ⟨g, 0, none⟩) n cap, plV p a3 c3 a6 c6] w fun e w' => e = .returned (.string ⟨(p.puts is).toArray⟩) ∧ Below w.heap.size w w' := by
  subst hn
  have up := below_alloc w (.cells (plCells p a3 c3 a6 c6) 36)
  have h := putAllPayload_any g cap xs (is.map (p.put ·)) p.name p.route p.secret p.key p.port p.policy a3 a6 p.rules.length p.addrs.length c3 c6 w (by simp [hi.1]) hn64 hp (fun i x t hx ht => by
    rw [List.getElem?_map] at ht
    obtain ⟨i', hi', rfl⟩ := Option.map_eq_some_iff.1 ht
    have := payPart_puts (hg.below up) ((hi.2 i i' x hi' hx).below up) (vpay_new h3 h6 36) ho (Nat.le_trans (puts_len_le hi') hs)
    rw [World.size_alloc] at this
    exact this) (by rw [← List.flatMap_def]; exact hs)
  rw [← List.flatMap_def] at h
  exact h

/-- What a test against the empty text says. -/
theorem toList_nil {l : List UInt8} (h : l = []) : (⟨l.toArray⟩ : ByteArray).toList.isEmpty = true := by subst h; rw [Lib.toList_data]; rfl
theorem toList_ne {l : List UInt8} (h : l ≠ []) : (⟨l.toArray⟩ : ByteArray).toList.isEmpty = false := by
  rw [Lib.toList_data]
  cases l with
  | nil => exact absurd rfl h
  | cons a l => rfl

theorem TwoRows.first {base : Nat} {w : World} {v1 v2 : Value} {xs1 xs2 : List PartV} (h : TwoRows base w v1 v2 xs1 xs2) (hx : 0 < xs1.length) : ∃ g cap, v1 = .slice (some ⟨g, 0, none⟩) xs1.length cap ∧ PartsAt w g xs1 := by
  have h1 := h.1
  rcases h1.2 with ⟨rfl, hx2⟩ | ⟨g, cap, cur, rfl, r⟩
  · have := partCells_len xs1; rw [hx2] at this; simp at this; omega
  · exact ⟨g, cap, rfl, PartsAt.of_row h1 hx⟩
theorem plPut_nohas {k : Int} {p : Pl} (h : (hasOf k).2 = false) : p.putOf k = (⟨#[]⟩, false) := by simp [Pl.putOf, h]
theorem plPut_long3 {k : Int} {p : Pl} (h : 64 < p.rules.length) : p.putOf k = (⟨#[]⟩, false) := by unfold Pl.putOf; rw [if_neg (by omega)]
theorem plPut_long6 {k : Int} {p : Pl} (h : 64 < p.addrs.length) : p.putOf k = (⟨#[]⟩, false) := by unfold Pl.putOf; rw [if_neg (by omega)]
theorem plPut_wrong {k : Int} {p : Pl} (h : p.puts (hasNotI k) ≠ []) : p.putOf k = (⟨#[]⟩, false) := by unfold Pl.putOf; rw [if_neg (fun x => h x.2.2.2)]
theorem plPut_right {k : Int} {p : Pl} (h : (hasOf k).2 = true) (h3 : p.rules.length ≤ 64) (h6 : p.addrs.length ≤ 64) (h7 : p.puts (hasNotI k) = []) : p.putOf k = (⟨(p.puts (hasI k)).toArray⟩, true) := by
  unfold Pl.putOf; rw [if_pos ⟨h, h3, h6, h7⟩]
theorem hasI_len {k : Int} (h : (hasOf k).2 = true) : 0 < (hasI k).length ∧ (hasI k).length ≤ 64 ∧ 0 < (hasNotI k).length ∧ (hasNotI k).length ≤ 64 := by
  rcases hasOf_cases h with rfl | rfl | rfl | rfl | rfl <;> decide

set_option maxRecDepth 100000 in
set_option maxHeartbeats 2000000 in
theorem put_any' (k : Int) (p : Pl) (a3 a6 : Option Addr) (c3 c6 : Nat) (b : Addr) (w : World) (hg : Gv b w) (h3 : RulesAt w a3 p.rules) (h6 : AddrsAt w a6 p.addrs) (ho : PlOk p) (hs1 : (p.puts (hasI k)).length ≤ 140737488355328) (hs2 : p.rules.length ≤ 64 → p.addrs.length ≤ 64 → (p.puts (hasNotI k)).length ≤ 140737488355328) :
    Calls Tryz.prog 24 #[.int .i64 k, plV p a3 c3 a6 c6] w fun e w' => e = .returned (.tuple #[.string (p.putOf k).1, .bool (p.putOf k).2]) ∧ Below w.heap.size w w' := by
  have HS1 := Lib.hid hs1
  have HS2 := Lib.hid hs2
  have HG := Lib.hid hg
  have H3 := Lib.hid h3
  have H6 := Lib.hid h6
  have HO := Lib.hid ho
  have rs := ho.rs
  have as_ := ho.as_
  clear hs1 hs2 hg h3 h6 ho
  cases hk : (hasOf k).2 with
  | false =>
    rw [plPut_nohas hk]
    have HK := Lib.hid hk
    clear hk
    go_enter Tryz.func24, Tryz.ntmps24
    go_wp2_with fail
    refine (partsOf_no k _ HK.out).mono ?_
    rintro e w2 ⟨rfl, rfl⟩
    go_wp2_with fail
    go_ret2
    exact ⟨rfl, below_alloc _ _⟩
  | true =>
    have HK := Lib.hid hk
    obtain ⟨l1, l2, l3, l4⟩ := hasI_len hk
    clear hk
    by_cases h3 : 64 < p.rules.length
    · rw [plPut_long3 h3]
      have hd : decide ((64 : Int) < (p.rules.length : Int)) = true := by simp; omega
      clear l1 l2 l3 l4
      go_enter Tryz.func24, Tryz.ntmps24
      go_wp2_with fail
      refine (partsOf_yes k _ HK.out).mono ?_
      rintro e w2 ⟨⟨v1, v2, xs1, xs2, rfl, htwo, hi1, hi2⟩, hb2⟩
      have c3 := (hb2.cell (p := ⟨w.heap.size, 3, none⟩) (by simp)).trans ((new_cell w _ _ 3).trans rfl)
      have HB2 := Lib.hid hb2
      clear htwo hi1 hi2 hb2
      go_wp2_with fail
      go_ret2
      exact ⟨rfl, (below_alloc w _).trans (HB2.out.mono (by simp))⟩
    · by_cases h6 : 64 < p.addrs.length
      · rw [plPut_long6 h6]
        have hd3 : decide ((64 : Int) < (p.rules.length : Int)) = false := by simp; omega
        have hd6 : decide ((64 : Int) < (p.addrs.length : Int)) = true := by simp; omega
        clear l1 l2 l3 l4
        go_enter Tryz.func24, Tryz.ntmps24
        go_wp2_with fail
        refine (partsOf_yes k _ HK.out).mono ?_
        rintro e w2 ⟨⟨v1, v2, xs1, xs2, rfl, htwo, hi1, hi2⟩, hb2⟩
        have c3 := (hb2.cell (p := ⟨w.heap.size, 3, none⟩) (by simp)).trans ((new_cell w _ _ 3).trans rfl)
        have c6 := (hb2.cell (p := ⟨w.heap.size, 6, none⟩) (by simp)).trans ((new_cell w _ _ 6).trans rfl)
        have HB2 := Lib.hid hb2
        clear htwo hi1 hi2 hb2
        go_wp2_with fail
        go_ret2
        exact ⟨rfl, (below_alloc w _).trans (HB2.out.mono (by simp))⟩
      · have hd3 : decide ((64 : Int) < (p.rules.length : Int)) = false := by simp; omega
        have hd6 : decide ((64 : Int) < (p.addrs.length : Int)) = false := by simp; omega
        have HL := Lib.hid (show 0 < (hasI k).length ∧ (hasI k).length ≤ 64 ∧ 0 < (hasNotI k).length ∧ (hasNotI k).length ≤ 64 from ⟨l1, l2, l3, l4⟩)
        have HS3 := Lib.hid (HS2.out (by omega) (by omega))
        have HN3 := Lib.hid (show p.rules.length ≤ 64 by omega)
        have HN6 := Lib.hid (show p.addrs.length ≤ 64 by omega)
        clear l1 l2 l3 l4 h3 h6
        go_enter Tryz.func24, Tryz.ntmps24
        go_wp2_with fail
        refine (partsOf_yes k _ HK.out).mono ?_
        rintro e w2 ⟨⟨v1, v2, xs1, xs2, rfl, htwo, hi1, hi2⟩, hb2⟩
        obtain ⟨g1, cap1, rfl, hp1⟩ := htwo.first (by have := HL.out; have := hi1.1; omega)
        obtain ⟨g2, cap2, rfl, hp2⟩ := htwo.swap.first (by have := HL.out; have := hi2.1; omega)
        obtain ⟨n1, hn1⟩ : ∃ n1, xs1.length = n1 := ⟨_, rfl⟩
        obtain ⟨n2, hn2⟩ : ∃ n2, xs2.length = n2 := ⟨_, rfl⟩
        rw [hn1, hn2]
        have HN1 := Lib.hid (show xs1.length = n1 ∧ n1 ≤ 64 by have := HL.out; have := hi1.1; omega)
        have HN2 := Lib.hid (show xs2.length = n2 ∧ n2 ≤ 64 by have := HL.out; have := hi2.1; omega)
        have up := (below_alloc w (.cells (plCells p a3 c3 a6 c6) 36)).trans (hb2.mono (by simp))
        have q0 := (hb2.cell (p := ⟨w.heap.size, 0, none⟩) (by simp)).trans ((new_cell w _ _ 0).trans rfl)
        have q1 := (hb2.cell (p := ⟨w.heap.size, 1, none⟩) (by simp)).trans ((new_cell w _ _ 1).trans rfl)
        have q2 := (hb2.cell (p := ⟨w.heap.size, 2, none⟩) (by simp)).trans ((new_cell w _ _ 2).trans rfl)
        have q3 := (hb2.cell (p := ⟨w.heap.size, 3, none⟩) (by simp)).trans ((new_cell w _ _ 3).trans rfl)
        have q4 := (hb2.cell (p := ⟨w.heap.size, 4, none⟩) (by simp)).trans ((new_cell w _ _ 4).trans rfl)
        have q5 := (hb2.cell (p := ⟨w.heap.size, 5, none⟩) (by simp)).trans ((new_cell w _ _ 5).trans rfl)
        have q6 := (hb2.cell (p := ⟨w.heap.size, 6, none⟩) (by simp)).trans ((new_cell w _ _ 6).trans rfl)
        have q7 := (hb2.cell (p := ⟨w.heap.size, 7, none⟩) (by simp)).trans ((new_cell w _ _ 7).trans rfl)
        have hsz : w.heap.size < w2.heap.size := by have := hb2.size; simp at this; omega
        have HU := Lib.hid up
        have HP1 := Lib.hid hp1
        have HP2 := Lib.hid hp2
        have HI1 := Lib.hid hi1
        have HI2 := Lib.hid hi2
        clear up hp1 hp2 hi1 hi2 htwo hb2 hn1 hn2
        go_wp2_with fail
        refine (putAll_is (hasNotI k) xs2 g2 cap2 n2 p a3 a6 c3 c6 b _ (HG.out.below HU.out) HN2.out.1 HN2.out.2 HP2.out HI2.out (H3.out.below HU.out) (H6.out.below HU.out) HO.out HS3.out).mono ?_
        rintro e w3 ⟨rfl, hb3⟩
        have HU3 := Lib.hid (HU.out.trans (hb3.mono HU.out.size))
        have r0 := (hb3.cell (p := ⟨w.heap.size, 0, none⟩) hsz).trans q0
        have r1 := (hb3.cell (p := ⟨w.heap.size, 1, none⟩) hsz).trans q1
        have r2 := (hb3.cell (p := ⟨w.heap.size, 2, none⟩) hsz).trans q2
        have r3 := (hb3.cell (p := ⟨w.heap.size, 3, none⟩) hsz).trans q3
        have r4 := (hb3.cell (p := ⟨w.heap.size, 4, none⟩) hsz).trans q4
        have r5 := (hb3.cell (p := ⟨w.heap.size, 5, none⟩) hsz).trans q5
        have r6 := (hb3.cell (p := ⟨w.heap.size, 6, none⟩) hsz).trans q6
        have r7 := (hb3.cell (p := ⟨w.heap.size, 7, none⟩) hsz).trans q7
        have HB3 := Lib.hid hb3
        clear q0 q1 q2 q3 q4 q5 q6 q7 hb3
        by_cases hne : p.puts (hasNotI k) = []
        · have hem : (p.puts (hasNotI k)).isEmpty = true := by rw [hne]; rfl
          have HR := Lib.hid (plPut_right HK.out HN3.out HN6.out hne)
          clear hne
          go_wp2_with fail
          refine (putAll_is (hasI k) xs1 g1 cap1 n1 p a3 a6 c3 c6 b _ (HG.out.below HU3.out) HN1.out.1 HN1.out.2 (HP1.out.below HB3.out HP1.out.1) (HI1.out.below HB3.out) (H3.out.below HU3.out) (H6.out.below HU3.out) HO.out HS1.out).mono ?_
          rintro e w4 ⟨rfl, hb4⟩
          have HU4 := Lib.hid (HU3.out.trans (hb4.mono HU3.out.size))
          clear hb4
          go_wp2_with fail
          go_ret2
          exact ⟨by rw [HR.out]; rfl, HU4.out⟩
        · have hem : (p.puts (hasNotI k)).isEmpty = false := by cases hq : p.puts (hasNotI k) with
            | nil => exact absurd hq hne
            | cons a l => rfl
          have HR := Lib.hid (plPut_wrong hne)
          clear hne
          go_wp2_with fail
          go_ret2
          exact ⟨by rw [HR.out]; rfl, HU3.out⟩
end Go.Proofs.YtngceccpebdgmaaGreatDoor
