/- FrameFeeds: the walk. -/
import Derived.Test.YtmgmjndghhgkcaaDoorFrRefF
import Derived.Test.YtmgmjndghhgkcaaDoorFrOpen
import Derived.Test.YtmgmjndghhgkcaaDoorFrCuts
namespace Go.Proofs.YtmgmjndghhgkcaaDoor
open Go.RowKit Go.Lib

/-- A text no longer than so. -/
def TxtPost (n : Nat) (w : World) (e : Ending) (w' : World) : Prop := ∃ T : ByteArray, e = .returned (.string T) ∧ T.size ≤ n ∧ Below w.heap.size w w'
theorem ext_size (P : ByteArray) (k : Nat) : (P.extract 0 k).size ≤ P.size := by
  show (P.extract 0 k).data.toList.length ≤ _
  rw [ext_take, List.length_take]; show min k P.size ≤ _; omega
set_option maxRecDepth 100000 in
set_option maxHeartbeats 1000000 in
theorem bytes_any (s : ByteArray) (pk : Bool) (cut : Nat) (w : World) (hs : s.size ≤ 1048576) (hc : cut < 256) :
    Calls Tryd.prog 10 #[.agg #[.string s, .bool pk, .int .u8 (cut : Int)]] w (TxtPost 1048580 w) := by
  cases pk
  · go_enter Tryd.func10, Tryd.ntmps10
    go_wp2_with fail
    go_ret
    exact ⟨s, rfl, by omega, (Below.refl _ _).alloc (Nat.le_refl _) _⟩
  · have hb0 : Below w.heap.size w (w.alloc (.cells #[.string s, .bool true, .int .u8 (cut : Int)] 30)) := (Below.refl _ _).alloc (Nat.le_refl _) _
    have hk0 := Blk.new w #[.string s, .bool true, .int .u8 (cut : Int)] 30
    obtain ⟨w0, hw0⟩ : ∃ w0, w.alloc (.cells #[.string s, .bool true, .int .u8 (cut : Int)] 30) = w0 := ⟨_, rfl⟩
    rw [hw0] at hb0 hk0
    have HW0 := Lib.hid hw0; clear hw0
    have hpk : Calls Tryd.prog 16 #[.string s] w0 fun e w' => (∃ (P : ByteArray) (o : Bool), e = .returned (.tuple #[.string P, .bool o]) ∧ P.size ≤ 1048580) ∧ Below w0.heap.size w0 w' := by
      by_cases hok : okM s.data.toList
      · refine (refPack_ok s w0 hok).mono ?_
        rintro e w' ⟨rfl, hb⟩
        refine ⟨⟨_, true, rfl, ?_⟩, hb⟩
        show (packL s.data.toList).toArray.size ≤ _
        rw [List.size_toArray, packL_len]; show 4 + s.size ≤ _; omega
      · refine (refPack_no s w0 (by unfold maxLen; omega) hok).mono ?_
        rintro e w' ⟨rfl, rfl⟩
        exact ⟨⟨_, false, rfl, by decide⟩, Below.refl _ _⟩
    go_enter Tryd.func10, Tryd.ntmps10
    go_wp2_with fail
    rw [HW0.out]
    refine hpk.mono ?_
    rintro e w1 ⟨⟨P, o, rfl, hP⟩, hb1⟩
    have hk1 := hk0.below hb1 hk0.lt
    have c2 : w1.cell? ⟨w.heap.size, 2, none⟩ = some (.int .u8 (cut : Int)) := hk1.cell 2
    have hbw : Below w.heap.size w w1 := hb0.trans (hb1.mono hb0.size)
    clear hpk hk0 hb0 hk1
    by_cases h200 : (200 : Int) < (cut : Int)
    · obtain ⟨q, hq⟩ : ∃ q, cut % (P.size + 1) = q := ⟨_, rfl⟩
      have hql : q < P.size + 1 := by rw [← hq]; exact Nat.mod_lt _ (by omega)
      have hqi : ((cut : Int) % ((P.size : Int) + 1)) = (q : Int) := by rw [← hq, Int.natCast_emod]; rfl
      have hql' : (q : Int) ≤ (P.size : Int) := by omega
      have HQ := Lib.hid hq; clear hq
      go_wp2_with fail
      go_ret
      exact ⟨_, rfl, Nat.le_trans (ext_size P q) hP, hbw⟩
    · go_wp2_with fail
      go_ret
      exact ⟨P, rfl, hP, hbw⟩

theorem feedR_len {S c : List UInt8} {E : Nat} (hS : S.length < 65540) : (feedR ⟨S, E⟩ c).2.S.length < 65540 := by
  unfold feedR
  by_cases hE : E = 0
  · subst hE
    simp only [ne_eq, not_true_eq_false, if_false]
    cases hb : (feedL (S ++ c)).bad with
    | none => exact feedL_rest_le _ hb
    | some n => show ([] : List UInt8).length < 65540; decide
  · simp only [ne_eq, hE, not_false_eq_true, if_true]; exact hS
theorem ref_any (r : Nat) (S : List UInt8) (E : Nat) (s : ByteArray) (w : World) (hR : XAt r S E w) (hsz : S.length + s.size ≤ 1000000000) :
    Calls Tryd.prog 12 #[.pointer (some ⟨r, 0, none⟩), .string s] w (RefPost r S E s.data.toList w) := by
  by_cases hE : E = 0
  · subst hE; exact ref_feed r S s w hR hsz
  · exact ref_was r S E s w hR hE
theorem bad_any (r : Nat) (v : Value) (S : List UInt8) (E base : Nat) (w : World) (h : RdAt base r v S E w) :
    Calls Tryd.prog 14 #[.pointer (some ⟨r, 0, none⟩)] w fun e w' => e = .returned (.bool ((E : Int) != 0)) ∧ w = w' := by
  by_cases hE : E = 0
  · subst hE; exact bad_no r v S base w h
  · have := bad_yes r v S E base w h hE
    rw [show ((E : Int) != 0) = true by simp; omega]; exact this
theorem XAt.but {r x : Nat} {S : List UInt8} {E : Nat} {v : Value} {w w' : World} (h : XAt x S E w) (hb : But r v w w') (hx : x ≠ r) (hv : v.ownBlock ≠ some x) : XAt x S E w' := by
  obtain ⟨T, hT, hk⟩ := h
  exact ⟨T, hT, (hb.block x hk.lt hx hv).trans hk⟩
theorem XAt.below {x : Nat} {S : List UInt8} {E : Nat} {w w' : World} (h : XAt x S E w) (hb : Below w.heap.size w w') : XAt x S E w' := by
  obtain ⟨T, hT, hk⟩ := h
  exact ⟨T, hT, hk.below hb hk.lt⟩
theorem RdAt.but {base r x : Nat} {v : Value} {S : List UInt8} {E : Nat} {w w' : World} (h : RdAt base r v S E w) (hb : But x (.slice none 0 0) w w') (hx : x ≠ r) (hxv : v.ownBlock ≠ some x) : RdAt base r v S E w' :=
  ⟨(hb.block r h.blk.lt (fun e => hx e.symm) (by simp [Value.ownBlock])).trans h.blk, hb.own h.own hxv (fun g _ e => by cases e), h.br⟩

set_option maxRecDepth 100000 in
set_option maxHeartbeats 4000000 in
theorem feeds_walk (a0 : Option Addr) (l0 c0 : Nat) (ps : List Pc) (b : Addr) (w : World) (hg : Gs b w) (hge : Ge w) (hl : ps.length = l0) (hst : PcsIn w a0 ps) (hsm : ∀ p ∈ ps, p.s.size ≤ 1048576 ∧ p.cut < 256) :
    Calls Tryd.prog 3 #[.slice a0 l0 c0] w fun e w' => e = .returned (.bool true) ∧ Below w.heap.size w w' := by
  have HL := Lib.hid (And.intro hl hsm); clear hl hsm
  go_enter Tryd.func3, Tryd.ntmps3
  go_wp2_with fail
  refine (examples_any b w hg hge).mono ?_
  rintro e w1 ⟨rfl, hb1⟩
  go_wp2_with fail
  refine (new_any w1).mono ?_
  rintro e w2 ⟨rfl, hw2⟩
  have hR2 := RdAt.new w1 w.heap.size hb1.size
  rw [← hw2] at hR2
  have hB2 : Below w.heap.size w w2 := by rw [hw2]; exact hb1.alloc hb1.size _
  have hsz2 : w2.heap.size = w1.heap.size + 1 := by rw [hw2]; simp
  clear hw2
  obtain ⟨r, hr⟩ : ∃ r, w1.heap.size = r := ⟨_, rfl⟩
  rw [hr] at hR2 ⊢
  obtain ⟨w3, hw3⟩ : ∃ w3, w2.alloc (.cells #[.string ⟨#[]⟩, .int .i64 0] 28) = w3 := ⟨_, rfl⟩
  obtain ⟨x, hx⟩ : ∃ x, w2.heap.size = x := ⟨_, rfl⟩
  have hX3 : XAt x [] 0 w3 := ⟨⟨#[]⟩, rfl, by rw [← hw3, ← hx]; exact Blk.new _ _ _⟩
  have hR3 : RdAt w.heap.size r (.slice none 0 0) [] 0 w3 := by rw [← hw3]; exact hR2.below ((Below.refl _ _).alloc (Nat.le_refl _) _)
  have hB3 : Below w.heap.size w w3 := by rw [← hw3]; exact hB2.alloc hB2.size _
  have hxr : x ≠ r := by omega
  have hxb : w.heap.size ≤ x := by have := hb1.size; omega
  have HW := Lib.hid (And.intro hw3 (And.intro hx (And.intro hr hsz2))); clear hw3 hx hr hsz2 hR2
  go_wp2_with fail
  rw [HW.out.1, HW.out.2.1]
  go_loopw [6] (fun i wx => ∃ (k : Nat) (S : List UInt8) (E : Nat) (v : Value), k ≤ 30 ∧ k ≤ l0 ∧ i = .int .i64 (k : Int) ∧ RdAt w.heap.size r v S E wx ∧ XAt x S E wx ∧ S.length < 65540 ∧ Below w.heap.size w wx) (fun i _ => 30 - (intOf i).toNat)
  case atStart => exact ⟨0, [], 0, _, by omega, Nat.zero_le _, rfl, hR3, hX3, by decide, hB3⟩
  case round =>
    obtain ⟨k, S, E, v, hk30, hkl, rfl, hR, hX, hS, hb⟩ := hrel
    clear hR3 hX3 hB3
    by_cases hlt : k < l0 ∧ k < 30
    · obtain ⟨h1, h2⟩ := hlt
      have hkm : k < ps.length := by have := HL.out.1; omega
      obtain ⟨hp1, hp2⟩ := HL.out.2 ps[k] (List.getElem_mem hkm)
      obtain ⟨g, o, rfl, hgl, q0, q1, q2⟩ := (hst.below hb) k ps[k] (List.getElem?_eq_getElem hkm)
      generalize ps[k] = p at hp1 hp2 q0 q1 q2
      clear hkm
      have h2i : (k : Int) < 30 := by omega
      go_wp2_with fail
      refine (bytes_any p.s p.pk p.cut _ hp1 hp2).mono ?_
      rintro e w4 ⟨T, rfl, hT, hb4⟩
      have hR4 := hR.below hb4
      have hX4 := hX.below hb4
      have hB4 : Below w.heap.size w w4 := hb.trans (hb4.mono hb.size)
      have hs4 := hB4.size
      clear hR hX hb4 q0 q1 q2
      go_wp2_with fail
      have hlen := feedR_len (S := S) (c := T.data.toList) (E := E) hS
      obtain ⟨Q, hQ⟩ : ∃ Q, feedR ⟨S, E⟩ T.data.toList = Q := ⟨_, rfl⟩
      have hh := feed_any w.heap.size r v S E T b w4 hR4 (hg.low hB4 hg.2) (hge.low hB4 hge.2) hge.2 hg.2 hs4 (by omega) (many_le (n := 2000000) (by rw [List.length_append]; show S.length + T.size ≤ _; omega) (by omega))
      unfold FeedPost at hh
      have hh2 : Calls Tryd.prog 11 #[.pointer (some ⟨r, 0, none⟩), .string T] w4 fun e w' => ∃ a c v', e = .returned (.tuple #[.slice a Q.1.length c, .int .i64 ((Q.2.E : Nat) : Int)]) ∧ RdAt w.heap.size r v' Q.2.S Q.2.E w' ∧ w'.ownsRow w4.heap.size 9 1 (.slice a Q.1.length c) Q.1.length (strV Q.1) ∧ But r v w4 w' := by
        refine hh.mono ?_
        rintro e w' ⟨lv, v', he, hr, ho, hbt⟩
        rw [hQ] at he hr ho
        obtain ⟨a, c, rfl⟩ := owns_slice ho
        exact ⟨a, c, v', he, hr, ho, hbt⟩
      clear hh
      rw [hQ] at hlen
      have HQ := Lib.hid hQ; clear hQ
      refine hh2.mono ?_
      clear hh2
      rintro e w5 ⟨a5, c5, v5, rfl, hR5, ho5, hbt5⟩
      have hxv : v.ownBlock ≠ some x := by
        obtain ⟨_, _, hkx⟩ := hX4
        exact row_block hR4.own hkx (by decide)
      have hX5 := hX4.but hbt5 hxr hxv
      have hB5 : Below w.heap.size w w5 := hB4.trans (hR4.low hbt5 hs4)
      have hs5 := hB5.size
      clear hR4 hX4 hbt5 hxv
      go_wp2_with fail
      have hh := ref_any x S E T w5 hX5 (by omega)
      unfold RefPost at hh
      rw [HQ.out] at hh
      refine hh.mono ?_
      clear hh
      rintro e w6 ⟨a6, c6, rfl, hX6, ho6, hbt6⟩
      have hxv5 : v5.ownBlock ≠ some x := by
        obtain ⟨_, _, hkx⟩ := hX5
        exact row_block hR5.own hkx (by decide)
      have hxo5 : (Value.slice a5 Q.1.length c5).ownBlock ≠ some x := by
        obtain ⟨_, _, hkx⟩ := hX5
        exact row_block ho5 hkx (by decide)
      have hR6 := hR5.but hbt6 hxr hxv5
      have ho56 := hbt6.own ho5 hxo5 (fun g _ e => by cases e)
      have hB6 : Below w.heap.size w w6 := hB5.trans (hbt6.below hxb (fun k e => by cases e) hs5)
      clear hR5 hX5 hbt6 hxv5 hxo5 ho5 HQ
      obtain ⟨Ms, S6, E6⟩ := Q
      simp only at hR6 hX6 ho6 ho56 hlen ⊢
      have hX6' := hX6
      obtain ⟨T6, hT6, hk6⟩ := hX6'
      have d0 : w6.cell? ⟨x, 0, none⟩ = some (.string T6) := hk6.cell 0
      have d1 : w6.cell? ⟨x, 1, none⟩ = some (.int .i64 (E6 : Int)) := hk6.cell 1
      have hleft : ∀ n, Calls Tryd.prog 13 #[.pointer (some ⟨r, 0, none⟩)] (w6.drewN n) fun e w' => e = .returned (.int .i64 (T6.size : Int)) ∧ w' = w6.drewN n := by
        intro n
        have := left_any r v5 S6 E6 w.heap.size (w6.drewN n) (hR6.below (below_drewN' n))
        rw [show S6.length = T6.size by rw [← hT6]; rfl] at this
        exact this.mono fun _ _ h => ⟨h.1, h.2.symm⟩
      obtain ⟨Bq, hBq⟩ : ∃ Bq, ((E6 : Int) != 0) = Bq := ⟨_, rfl⟩
      have hbad : ∀ n, Calls Tryd.prog 14 #[.pointer (some ⟨r, 0, none⟩)] (w6.drewN n) fun e w' => e = .returned (.bool Bq) ∧ w' = w6.drewN n := by
        intro n
        have := bad_any r v5 S6 E6 w.heap.size (w6.drewN n) (hR6.below (below_drewN' n))
        rw [hBq] at this
        exact this.mono fun _ _ h => ⟨h.1, h.2.symm⟩
      have HT6 := Lib.hid (And.intro hT6 hk6); clear hT6 hk6
      obtain ⟨M, hM⟩ : ∃ M, Ms.length = M := ⟨_, rfl⟩
      rw [hM] at ho6 ho56 ⊢
      have HM := Lib.hid hM; clear hM
      have HLB := Lib.hid (And.intro hleft hbad); clear hleft hbad
      go_wp2_with fail
      go_quiet ((first | (go_at_call 13; exact Calls.quiet_of_same (HLB.out.1 _)) | (go_at_call 14; exact Calls.quiet_of_same (HLB.out.2 _))))
      have hMb : M ≤ 9223372036854775807 := by
        rcases ho56.2 with ⟨_, h⟩ | ⟨_, cap, _, _, _, _, h1, h2, _⟩
        · omega
        · unfold maxLen at h2; omega
      clear HLB HT6 hBq d0 d1
      go_wp2_with fail
      go_loopw [12] (fun j wx => ∃ m : Nat, m ≤ M ∧ j = .int .i64 (m : Int) ∧ Below w6.heap.size w6 wx) (fun j _ => M - (intOf j).toNat)
      case atStart => exact ⟨0, Nat.zero_le _, rfl, below_drewN' _⟩
      case round =>
        obtain ⟨m, hmM, rfl, hbx⟩ := hrel
        by_cases hmlt : m < M
        · have hml : m < Ms.length := by have := HM.out; omega
          obtain ⟨g1, e1, p1⟩ := strAt_own (own_below ho56 hbx) m Ms[m] (List.getElem?_eq_getElem hml)
          obtain ⟨g2, e2, p2⟩ := strAt_own (own_below ho6 hbx) m Ms[m] (List.getElem?_eq_getElem hml)
          subst e1
          subst e2
          generalize Ms[m] = z at p1 p2
          go_wp2_with fail
          go_quiet (fail)
          go_wp2_with fail
          go_roundw
          case rel => exact ⟨m + 1, by omega, by go_num, hbx.trans (below_drewN' _)⟩
          case measure => simp [intOf]; omega
        · obtain rfl : m = M := by omega
          go_wp2_with fail
          go_roundw
          case rel => exact ⟨k + 1, S6, E6, v5, by omega, by omega, by go_num, hR6.below hbx, hX6.below hbx, hlen, hB6.trans (hbx.mono hB6.size)⟩
          case measure => simp [intOf]; omega
    · have hend : (¬ k < l0) ∨ (k < l0 ∧ ¬ ((k : Int) < 30)) := by omega
      rcases hend with h1 | ⟨h1, h2⟩
      all_goals
        go_wp2_with fail
        go_ret
        exact ⟨rfl, hb⟩
end Go.Proofs.YtmgmjndghhgkcaaDoor
