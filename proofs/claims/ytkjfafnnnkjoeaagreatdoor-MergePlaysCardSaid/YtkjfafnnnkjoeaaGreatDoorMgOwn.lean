/- merge: own. -/
import Derived.Test.YtkjfafnnnkjoeaaGreatDoorNmLater
import Derived.Test.YtkjfafnnnkjoeaaGreatDoorShelf
import Derived.Test.YtkjfafnnnkjoeaaGreatDoorMgPlain
import Derived.Deep.RegionHeld3
namespace Go.Proofs.YtkjfafnnnkjoeaaGreatDoor
open Go.RowKit Go.Lib

theorem own_tail {w : World} {base n k : Nat} {v : Value} {l : List (List UInt8)} (h : w.ownsRow base 9 1 v n (tsV l)) (hk : k < l.length) :
    ∃ g c, v = .slice (some ⟨g, 0, none⟩) n c ∧ base ≤ g ∧ n = l.length ∧ w.cell? ⟨g, k, none⟩ = some (encStr l[k]) ∧ w.frozen? ⟨g, k, none⟩ = false ∧ (w.setCell ⟨g, k, none⟩ (encStr l[k])).ownsRow base 9 1 v n (tsV l) := by
  have hn : n = l.length := by have := h.1; rw [tsV_len] at this; omega
  rcases h.2 with ⟨rfl, h0⟩ | ⟨g, cap, cur, rfl, hb, hg, hnc, hm, hs, ht⟩
  · omega
  · have hc : w.cell? ⟨g, k, none⟩ = some (encStr l[k]) := (h.cellAt k (by omega)).trans (tsV_get l k hk)
    obtain ⟨h4, _⟩ := h.stored k (encStr l[k])
    refine ⟨g, cap, rfl, hb, hn, hc, by simp [World.frozen?, hg], ?_⟩
    have e : (tsV l).set k (encStr l[k]) = tsV l := by
      have hg := tsV_get l k hk
      obtain ⟨hj, he⟩ := List.getElem?_eq_some_iff.1 hg
      rw [← he]; exact List.set_getElem_self hj
    rw [e] at h4
    exact h4
structure OwS (R : Nat) (w0 w : World) : Prop where
  lt : R < w.heap.size
abbrev OwT (R : Nat) (v : Value) (w0 w : World) : Prop := w.cell? ⟨R, 1, none⟩ = some v ∧ OwS R w0 w
theorem OwT.next {R : Nat} {v : Value} {w0 w w' : World} (h : OwT R v w0 w) (hb : Below w.heap.size w w') : OwT R v w0 w' := ⟨(hb.cell (p := ⟨R, 1, none⟩) h.2.lt).trans h.1, ⟨Nat.lt_of_lt_of_le h.2.lt hb.size⟩⟩
theorem OwT.set {R g k : Nat} {v u : Value} {w0 w : World} (h : OwT R v w0 w) (hne : R ≠ g) : OwT R v w0 (w.setCell ⟨g, k, none⟩ u) := by
  have hg := grown_set w g k u
  exact ⟨(World.cell?_of_block (a := ⟨R, 1, none⟩) (hg.block R h.2.lt (fun e => hne (Option.some.inj e)))).trans h.1, ⟨Nat.lt_of_lt_of_le h.2.lt hg.size⟩⟩
set_option maxRecDepth 100000 in
set_option maxHeartbeats 4000000 in
theorem own_any {sa : Bool} {sl : List (List UInt8)} {a : Option Addr} {c : Nat} {w : World} (h : TsAt w (.slice a sl.length c) sl) (hf : NmFit sl) (hlen : ∀ x ∈ sl, x.length ≤ 1000) :
    Calls Tryz.prog 32 #[.agg #[.bool sa, .slice a sl.length c]] w (SetPost sa sl w) := by
  obtain ⟨n, hn⟩ : ∃ n, sl.length = n := ⟨_, rfl⟩
  have hnb : n * 16 ≤ 140737488355328 := by rw [← hn]; exact hf.2
  rw [hn] at h ⊢
  obtain ⟨w1, hw1, hb1, q1⟩ := alloc_new w #[.bool sa, .slice a n c] 41
  obtain ⟨w2, hw2, hb2, q2⟩ := alloc_new w1 #[.bool false, .slice none 0 0] 41
  have HC := Lib.hid (clone_ts (w := w2) (by rw [← hn] at h; exact (h.later hb1).later hb2) hf.2)
  rw [hn] at HC
  have y0 : w1.cell? ⟨w.heap.size, 0, none⟩ = some (.bool sa) := q1.cell 0
  have y1 : w1.cell? ⟨w.heap.size, 1, none⟩ = some (.slice a n c) := q1.cell 1
  have HLT := Lib.hid (And.intro q1.lt q2.lt)
  have hlt := q1.lt
  have HB2 := Lib.hid (hb1.trans (hb2.mono hb1.size))
  have HQ1 := Lib.hid (q1.later hb2)
  have HQ2 := Lib.hid q2
  have HN := Lib.hid hn
  have HW1 := Lib.hid hw1
  have HW2 := Lib.hid hw2
  have HL := Lib.hid hlen
  clear hw1 hw2 hb1 hb2 q1 q2 hn h hf hlen
  go_enter Tryz.func32, Tryz.ntmps32
  go_wp2_with (rw [HW1.out])
  rw [HW2.out]
  refine HC.out.mono ?_
  rintro e w3 ⟨v, rfl, hrow, hb3⟩
  have HQ1 := Lib.hid (HQ1.out.later hb3)
  have HQ2 := Lib.hid (HQ2.out.later hb3)
  have HB3 := Lib.hid (HB2.out.trans (hb3.mono HB2.out.size))
  have z1 : w3.cell? ⟨w.heap.size, 1, none⟩ = some (.slice a n c) := HQ1.out.cell 1
  have f1 : w3.frozen? ⟨w.heap.size, 1, none⟩ = false := HQ1.out.frozen 1
  have hnr : ∀ g, v.ownBlock = some g → w2.heap.size ≤ g := fun g hg => (hrow.lt g hg).1
  have q1 := HQ1.out.set 1 v
  have hgs := grown_set w3 w.heap.size 1 v
  have hrow2 := own_other hrow hgs (fun g hg e => by have := hnr g hg; have h1 := HLT.out.1; have h2 := HLT.out.2; have h3 := Option.some.inj e; omega)
  have q2 := HQ2.out.kept hgs (fun e => by have h1 := HLT.out.1; have h3 := Option.some.inj e; omega)
  have HB4 := Lib.hid (show Below w.heap.size w (w3.setCell ⟨w.heap.size, 1, none⟩ v) from HB3.out.setCell (p := ⟨w.heap.size, 1, none⟩) (Nat.le_refl _) v)
  have HR := Lib.hid hrow2
  have HQ1 := Lib.hid (show Blk (w3.setCell ⟨w.heap.size, 1, none⟩ v) w.heap.size #[.bool sa, v] 41 from q1)
  have HQ2 := Lib.hid q2
  have HNR := Lib.hid hnr
  obtain ⟨w4, hw4⟩ : ∃ w4, w3.setCell ⟨w.heap.size, 1, none⟩ v = w4 := ⟨_, rfl⟩
  rw [hw4] at HB4 HR HQ1 HQ2
  have HW4 := Lib.hid hw4
  obtain ⟨a3, c3, rfl⟩ := owns_slice hrow
  clear hrow hb3 q1 q2 hgs hrow2 hnr HC hw4 y0 y1
  have x1 : w4.cell? ⟨w.heap.size, 1, none⟩ = some (.slice a3 n c3) := HQ1.out.cell 1
  go_wp2_with (rw [HW4.out])
  go_loopw [3, 4, 12] (fun _ _ vi wr => ∃ k : Nat, vi = .int .i64 (k : Int) ∧ k ≤ n ∧ wr.ownsRow w2.heap.size 9 1 (.slice a3 n c3) n (tsV sl) ∧ Blk wr w.heap.size #[.bool sa, .slice a3 n c3] 41 ∧ Blk wr w1.heap.size #[.bool false, .slice none 0 0] 41 ∧ Below w.heap.size w wr) (fun _ _ vi _ => n - (intOf vi).toNat)
  case atStart => exact ⟨0, rfl, Nat.zero_le _, HR.out, HQ1.out, HQ2.out, HB4.out⟩
  case round =>
    clear HR HQ1 HQ2 HB4 HB3 HW4 HNR HW2 hlt z1 f1 x1
    obtain ⟨k, rfl, hk, hrow, q1, q2, hbw⟩ := hrel
    by_cases hkn : k < n
    · obtain ⟨g, c4, hv, hbg, -, hc, hfz, hset⟩ := own_tail hrow (k := k) (by rw [HN.out]; exact hkn)
      cases hv
      have hx := HL.out (sl[k]'(by rw [HN.out]; exact hkn)) (List.getElem_mem _)
      obtain ⟨x, hxk⟩ : ∃ x, sl[k]'(by rw [HN.out]; exact hkn) = x := ⟨_, rfl⟩
      rw [hxk] at hc hset hx
      have hc' : wr.cell? ⟨g, k, none⟩ = some (.string ⟨x.toArray⟩) := hc
      have b0 : (0 : Int) ≤ (k : Int) := by omega
      have b1 : (k : Int) < (n : Int) := by omega
      have b2 : IntKind.i64.wrap ((k : Int) + 1) = (k : Int) + 1 := by rw [IntKind.wrap_i64]; unfold maxLen at *; omega
      have hng : w.heap.size ≠ g := by have h1 := HLT.out.1; have h2 := HLT.out.2; omega
      have hng1 : w1.heap.size ≠ g := by have h2 := HLT.out.2; omega
      have ST : OwT w.heap.size (.slice (some ⟨g, 0, none⟩) n c3) w wr.drew := ⟨q1.cell 1, ⟨q1.lt⟩⟩
      have HR := Lib.hid hrow
      have HQ1 := Lib.hid q1
      have HQ2 := Lib.hid q2
      have HBW := Lib.hid hbw
      have HXS := Lib.hid (show (⟨x.toArray⟩ : ByteArray).size ≤ 140737488355328 by show x.toArray.size ≤ _; rw [List.size_toArray]; omega)
      have HKN := Lib.hid hkn
      have HXK := Lib.hid hxk
      have HGL := Lib.hid (World.block_lt_of_cell? wr _ hc)
      clear hc hset hx hxk hrow q1 q2 hbw hk
      go_wp2_with fail
      go_region_held3 (fun w' => w'.cell? ⟨w.heap.size, 1, none⟩ = some (.slice (some ⟨g, 0, none⟩) n c3) ∧ OwS w.heap.size w w') (with_reducible first | exact ST | exact OwT.next (by assumption) (by assumption) | exact OwT.set (by assumption) hng | go_keep) ((go_at_call 51; refine (clone_any _ _ HXS.out).mono ?_; rintro e w5 ⟨rfl, hbC⟩; have z3 : w5.cell? ⟨g, k, none⟩ = some (.string ⟨x.toArray⟩) := (hbC.cell (p := ⟨g, k, none⟩) HGL.out).trans hc'; have f3 : w5.frozen? ⟨g, k, none⟩ = false := (hbC.frozen (p := ⟨g, k, none⟩) HGL.out).trans hfz))
      rename_i hH
      clear hH ST
      have hbd : Below wr.heap.size wr w5 := ((Below.refl wr.heap.size wr).drew).trans hbC
      have hwg : w.heap.size ≤ g := by have h1 := HLT.out.1; have h2 := HLT.out.2; omega
      have hset := own_tail (own_below HR.out hbd) (k := k) (by rw [HN.out]; exact HKN.out)
      obtain ⟨g', c', hv', -, -, -, -, hset⟩ := hset
      cases hv'
      have hset' : (w5.setCell ⟨g, k, none⟩ (.string ⟨x.toArray⟩)).ownsRow w2.heap.size 9 1 (.slice (some ⟨g, 0, none⟩) n c3) n (tsV sl) := by rw [← HXK.out]; exact hset
      have hgs := grown_set w5 g k (.string ⟨x.toArray⟩)
      have HE := Lib.hid (And.intro hset' (And.intro ((HQ1.out.later hbd).kept hgs (fun e => hng (Option.some.inj e))) (And.intro ((HQ2.out.later hbd).kept hgs (fun e => hng1 (Option.some.inj e))) ((HBW.out.trans (hbd.mono HBW.out.size)).setCell (p := ⟨g, k, none⟩) hwg (.string ⟨x.toArray⟩)))))
      clear hset hset' hgs hbd hbC z3 f3 hc' hfz
      go_wp2_with fail
      go_roundw
      case rel => exact ⟨k + 1, by go_num, HKN.out, HE.out.1, HE.out.2.1, HE.out.2.2.1, HE.out.2.2.2⟩
      case measure => have := HKN.out; simp [intOf]; omega
    · obtain rfl : k = n := by omega
      have b1 : ¬ (k : Int) < (k : Int) := by omega
      obtain ⟨y0, y1⟩ := And.intro (q1.cell 0) (q1.cell 1)
      simp only [List.getElem?_toArray, List.getElem?_cons_succ, List.getElem?_cons_zero] at y0 y1
      have hts : TsAt wr (.slice a3 sl.length c3) sl := by rw [HN.out]; exact RowV.own hrow
      have r0 : wr.cell? ⟨w1.heap.size, 0, none⟩ = some (.bool false) := q2.cell 0
      have r1 : wr.cell? ⟨w1.heap.size, 1, none⟩ = some (.slice none 0 0) := q2.cell 1
      have f0 := q2.frozen 0
      have f1 := q2.frozen 1
      have HC := Lib.hid (And.intro (two_cells (.bool sa) (.slice a3 sl.length c3) r0 r1) (And.intro (hts.set2 (.bool sa) (.slice a3 sl.length c3) r0 r1) (below_set2 (R := w1.heap.size) hbw (by have := HLT.out.1; omega) (.bool sa) (.slice a3 sl.length c3))))
      rw [HN.out] at HC
      clear hts hrow q1 q2 hbw
      go_wp2_with fail
      obtain ⟨w9, hw9⟩ : ∃ w9, (wr.setCell ⟨w1.heap.size, 0, none⟩ (.bool sa)).setCell ⟨w1.heap.size, 1, none⟩ (.slice a3 k c3) = w9 := ⟨_, rfl⟩
      rw [hw9] at HC ⊢
      obtain ⟨⟨t0, t1⟩, hts, hbb⟩ := HC.out
      refine bodyPost_ret (v := .agg #[.bool sa, .slice a3 k c3]) (by simp [results, Tryz.results32, go_sem, t0, t1]) rfl ⟨a3, c3, by rw [HN.out], by rw [HN.out]; exact hts, hbb⟩
end Go.Proofs.YtkjfafnnnkjoeaaGreatDoor
