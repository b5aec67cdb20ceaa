/- timer: the document's own timers: Set, Next, Due. -/
import Derived.Test.YtjcocgadhdgbjaaTmRefS
namespace Go.Proofs.Ytjcocgadhdgbjaa
open Go.RowKit

theorem rset_end {base r a : Nat} {v : Value} {A1 A2 : Option Addr} {c1 c2 : Nat} {L1 : List Tm} {id : ByteArray} {w w1 w2 : World} (hsd : (⟨id.data.toList.toArray⟩ : ByteArray) = id) (q1 : RfAt base r (.slice A1 L1.length c1) L1 w1) (k1 : Kept (fun k => k = r ∨ v.ownBlock = some k) w w1) (f1 : ∀ k, (Value.slice A1 L1.length c1).ownBlock = some k → v.ownBlock = some k ∨ w.heap.size ≤ k)
    (own2 : w2.ownsRow base 68 2 (.slice A2 (L1.length + 1) c2) (L1.length + 1) (tmV L1 ++ [.string id, .int .u64 (a : Int)])) (grow2 : (w1.alloc (.cells #[.string id, .int .u64 (a : Int)] 68)).grownBy w2 (Value.slice A1 L1.length c1).ownBlock) (hb2 : Blk w2 r #[.slice A1 L1.length c1] 29)
    (hA : Below w1.heap.size w1 (w1.alloc (.cells #[.string id, .int .u64 (a : Int)] 68))) (hor : (Value.slice A2 (L1.length + 1) c2).ownBlock = (Value.slice A1 L1.length c1).ownBlock ∨ (Value.slice A2 (L1.length + 1) c2).ownBlock = some (w1.alloc (.cells #[.string id, .int .u64 (a : Int)] 68)).heap.size) :
    RfPost base r v (L1 ++ [(id.data.toList, a)]) (.int .i64 0) w (.returned (.int .i64 0)) (w2.setCell ⟨r, 0, none⟩ (.slice A2 (L1.length + 1) c2)) := by
  have hgs := grown_set w2 r 0 (.slice A2 (L1.length + 1) c2)
  have hn2 : (Value.slice A2 (L1.length + 1) c2).ownBlock ≠ some r := row_block own2 hb2 (by decide)
  have e1 : L1.length + 1 = (L1 ++ [(id.data.toList, a)]).length := by simp
  have e2 : tmV L1 ++ [.string id, .int .u64 (a : Int)] = tmV (L1 ++ [(id.data.toList, a)]) := by rw [tmV_app]; simp [tmV, tmCells, hsd]
  rw [e2] at own2
  refine ⟨.slice A2 (L1.length + 1) c2, rfl, ⟨hb2.set 0 _, ?_, q1.br⟩, ?_, ?_⟩
  · rw [← e1]; exact own_other own2 hgs (fun x hx e => hn2 (hx.trans e.symm))
  · refine ((k1.below' hA).trans (Kept.grown (S := fun k => (Value.slice A1 L1.length c1).ownBlock = some k) grow2 (fun k e _ => e)) (fun k e hk => ?_)).trans (Kept.grown (S := fun k => k = r) hgs (fun k e _ => (Option.some.inj e).symm)) (fun k e _ => .inl e)
    rcases f1 k e with h | h
    · exact .inr h
    · omega
  · intro k hk
    rcases hor with h | h
    · rw [h] at hk; exact f1 k hk
    · rw [h] at hk
      have h2 := Option.some.inj hk
      have := k1.size
      simp at h2
      exact .inr (by omega)
set_option maxRecDepth 100000 in
set_option maxHeartbeats 4000000 in
theorem rset_ok (base r : Nat) (v : Value) (L : List Tm) (id : ByteArray) (x : Int) (a : Nat) (w : World) (h : RfAt base r v L w) (h0 : 0 < id.size) (hs : id.size ≤ 64) (hx : x = (a : Int)) (hL : L.length ≤ 1024) (hn : (L.map (·.1)).Nodup) (hroom : L.length = 1024 → fiL L id.data.toList ≠ none) (hbase : base ≤ w.heap.size) :
    Calls Try.prog 18 #[.pointer (some ⟨r, 0, none⟩), .string id, .int .u64 x] w (RfPost base r v (dropL L id.data.toList ++ [(id.data.toList, a)]) (.int .i64 0) w) := by
  subst hx
  have k0 : w.cell? ⟨r, 0, none⟩ = some v := h.blk.cell 0
  have he : id.toList.isEmpty = false := tm_full h0
  have hlt : ¬ (64 : Int) < (id.size : Int) := by omega
  obtain ⟨av, cv, rfl⟩ := owns_slice h.own
  have hstop := rstop_any base r _ L id w h hL hn hbase
  obtain ⟨i0, hii, hz0, hz1, hz2⟩ := info_parts Try.infoTm
  have hdl : (dropL L id.data.toList).length ≤ 1024 := by unfold dropL; exact Nat.le_trans (List.length_filter_le _ _) hL
  obtain ⟨L1, hL1⟩ : ∃ L1, dropL L id.data.toList = L1 := ⟨_, rfl⟩
  rw [hL1] at hstop hdl ⊢
  have HQ := Lib.hid (And.intro h (And.intro hstop hroom))
  clear h hstop hroom hL1 hn
  by_cases hfull : L.length = 1024
  · have hl : (L.length : Int) = 1024 := by omega
    obtain ⟨i, hi⟩ : ∃ i, fiL L id.data.toList = some i := by
      cases hf : fiL L id.data.toList with
      | none => exact absurd hf (HQ.out.2.2 hfull)
      | some i => exact ⟨i, rfl⟩
    have ci : (0 : Int) ≤ (i : Int) := by omega
    have HI := Lib.hid hi
    clear hi hfull
    go_enter Try.func18, Try.ntmps18
    go_wp2_with fail
    refine (rfind_any base r _ L id w HQ.out.1 hL).mono ?_
    rw [HI.out]
    rintro e w' ⟨rfl, rfl⟩
    rw [show fiV (some i) = (i : Int) from rfl]
    go_wp2_with fail
    refine HQ.out.2.1.mono ?_
    rintro e w1 ⟨v1, rfl, q1, k1, f1⟩
    obtain ⟨a1, c1, rfl⟩ := owns_slice q1.own
    have p1 : w1.cell? ⟨r, 0, none⟩ = some (.slice a1 L1.length c1) := q1.blk.cell 0
    have hz : base ≤ w1.heap.size := Nat.le_trans hbase k1.size
    have HR := Lib.hid (And.intro q1 (And.intro k1 f1))
    clear q1 k1 f1
    go_wp2_with (at_builtin; refine wpList_append_own_at _ rfl _ _ 27 rfl base 68 i0 (.agg #[.string ⟨#[]⟩, .int .u64 0]) 2 24 Try.underlying27 hii hz0 hz1 hz2 rfl (by decide) (.slice a1 L1.length c1) L1.length (tmV L1) rfl (HR.out.1.own.alloc _) ⟨w1.heap.size, 0, none⟩ 1 1 [.string id, .int .u64 (a : Int)] rfl rfl (cell_two_new _ _ _ _) (by simp [Value.oneCell']) (by unfold maxLen; omega) (by omega) (by simp; omega) ?_; intro v2 w2 own2 grow2 _ hor2; have hA : Below w1.heap.size w1 (w1.alloc (.cells #[.string id, .int .u64 (a : Int)] 68)) := (Below.refl _ _).alloc (Nat.le_refl _) _; have hb2 : Blk w2 r #[.slice a1 L1.length c1] 29 := (HR.out.1.blk.below hA HR.out.1.blk.lt).kept grow2 (fun e => row_block HR.out.1.own HR.out.1.blk (by decide) e.symm); have k2 : w2.cell? ⟨r, 0, none⟩ = some (.slice a1 L1.length c1) := hb2.cell 0; have f2 := hb2.frozen 0; obtain ⟨a2, c2, rfl⟩ := owns_slice own2; have HV := Lib.hid (And.intro own2 (And.intro grow2 (And.intro (And.intro hb2 hA) hor2))); clear own2 grow2 hb2 hA hor2)
    go_ret
    exact rset_end (by simp) HR.out.1 HR.out.2.1 HR.out.2.2 HV.out.1 HV.out.2.1 HV.out.2.2.1.1 HV.out.2.2.1.2 HV.out.2.2.2
  · have hl : ¬ (L.length : Int) = 1024 := by omega
    have hl' : ((L.length : Int) == 1024) = false := by simp; omega
    clear hfull hl
    go_enter Try.func18, Try.ntmps18
    go_wp2_with fail
    refine HQ.out.2.1.mono ?_
    rintro e w1 ⟨v1, rfl, q1, k1, f1⟩
    obtain ⟨a1, c1, rfl⟩ := owns_slice q1.own
    have p1 : w1.cell? ⟨r, 0, none⟩ = some (.slice a1 L1.length c1) := q1.blk.cell 0
    have hz : base ≤ w1.heap.size := Nat.le_trans hbase k1.size
    have HR := Lib.hid (And.intro q1 (And.intro k1 f1))
    clear q1 k1 f1
    go_wp2_with (at_builtin; refine wpList_append_own_at _ rfl _ _ 27 rfl base 68 i0 (.agg #[.string ⟨#[]⟩, .int .u64 0]) 2 24 Try.underlying27 hii hz0 hz1 hz2 rfl (by decide) (.slice a1 L1.length c1) L1.length (tmV L1) rfl (HR.out.1.own.alloc _) ⟨w1.heap.size, 0, none⟩ 1 1 [.string id, .int .u64 (a : Int)] rfl rfl (cell_two_new _ _ _ _) (by simp [Value.oneCell']) (by unfold maxLen; omega) (by omega) (by simp; omega) ?_; intro v2 w2 own2 grow2 _ hor2; have hA : Below w1.heap.size w1 (w1.alloc (.cells #[.string id, .int .u64 (a : Int)] 68)) := (Below.refl _ _).alloc (Nat.le_refl _) _; have hb2 : Blk w2 r #[.slice a1 L1.length c1] 29 := (HR.out.1.blk.below hA HR.out.1.blk.lt).kept grow2 (fun e => row_block HR.out.1.own HR.out.1.blk (by decide) e.symm); have k2 : w2.cell? ⟨r, 0, none⟩ = some (.slice a1 L1.length c1) := hb2.cell 0; have f2 := hb2.frozen 0; obtain ⟨a2, c2, rfl⟩ := owns_slice own2; have HV := Lib.hid (And.intro own2 (And.intro grow2 (And.intro (And.intro hb2 hA) hor2))); clear own2 grow2 hb2 hA hor2)
    go_ret
    exact rset_end (by simp) HR.out.1 HR.out.2.1 HR.out.2.2 HV.out.1 HV.out.2.1 HV.out.2.2.1.1 HV.out.2.2.1.2 HV.out.2.2.2
end Go.Proofs.Ytjcocgadhdgbjaa
