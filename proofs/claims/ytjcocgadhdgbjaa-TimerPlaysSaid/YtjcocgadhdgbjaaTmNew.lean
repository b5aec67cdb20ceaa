/- timer: Set, where all is right. -/
import Derived.Test.YtjcocgadhdgbjaaTmStop
namespace Go.Proofs.Ytjcocgadhdgbjaa
open Go.RowKit

theorem below_drew_trans {w w2 : World} (h : Below w.drew.heap.size w.drew w2) : Below w.heap.size w w2 := ((Below.refl w.heap.size w).drew).trans h
theorem dropL_not {L : List Tm} {id : List UInt8} {x : Tm} (h : x ∈ dropL L id) : x.1 ≠ id := by
  unfold dropL at h
  have := (List.mem_filter.1 h).2
  simpa using this
set_option maxHeartbeats 4000000 in
set_option maxRecDepth 100000 in
theorem set_ok (base t N : Nat) (F : Nat → Prop) (L : List Tm) (id : ByteArray) (a : Nat) (w : World) (hq : TmAt base t F N L w) (h0 : 0 < id.size) (hs : id.size ≤ 64) (hroom : (dropL L id.data.toList).length < 1024) (hN : N ≤ 1099511627776) (hbase : base ≤ w.heap.size) :
    Calls Try.prog 17 #[.pointer (some ⟨t, 0, none⟩), .string id, .int .u64 (a : Int)] w (TmPost base t F (N + 1) (dropL L id.data.toList ++ [(id.data.toList, a)]) (.int .i64 0) w) := by
  have he : id.toList.isEmpty = false := tm_full h0
  have hlt : ¬ (64 : Int) < (id.size : Int) := by omega
  have mp := Try.mPut
  have hfc := find_cases hq id.data.toList
  have HQ := Lib.hid (And.intro hq hroom)
  clear hq hroom
  /- what stands behind Stop -/
  have hafter : ∀ w1, TmAt base t F N (dropL L id.data.toList) w1 → Kept F w w1 → ∃ (p m : Nat) (v : Value) (h : List En) (T : Nat), Blk w1 t #[.iface 52 (.pointer (some ⟨p, 0, none⟩)), .int .u64 (T : Int)] 60 ∧ (HeapAt base p m v h w1 ∧ idsOk (h ++ [⟨id.data.toList, a, T⟩]) ∧ h.length ≤ 1024 ∧ base ≤ w1.heap.size ∧
      ∀ (w2 : World) (v' : Value) (h' : List En) (w3 : World), Below w1.heap.size w1 w2 → h'.Perm (h ++ [⟨id.data.toList, a, T⟩]) → HeapAt base p m v' h' w3 → Kept (Foot p m v) w2 w3 → (v'.ownBlock = v.ownBlock ∨ ∃ k, v'.ownBlock = some k ∧ w2.heap.size ≤ k) →
        Blk w3 t #[.iface 52 (.pointer (some ⟨p, 0, none⟩)), .int .u64 (T : Int)] 60 ∧ TmPost base t F (N + 1) (dropL L id.data.toList ++ [(id.data.toList, a)]) (.int .i64 0) w (.returned (.int .i64 0)) (w3.setCell ⟨t, 1, none⟩ (.int .u64 ((T : Int) + 1)))) ∧ T ≤ N := by
    intro w1 q1 k1
    obtain ⟨p, m, v, h, T, LE, hb, hq, hperm, hmap, hpw, hk, hT, hF, hbt, hl⟩ := q1
    have hnot : ∀ e ∈ LE, e.id ≠ id.data.toList := fun e he => by
      have : e.tm ∈ dropL L id.data.toList := by rw [← hmap]; exact List.mem_map.2 ⟨e, he, rfl⟩
      exact dropL_not this
    have hlen : h.length ≤ 1024 := by rw [hperm.length_eq]; rw [← hmap, List.length_map] at hl; exact hl
    refine ⟨p, m, v, h, T, hb, ⟨hq, ⟨?_, ?_⟩, hlen, Nat.le_trans hbase k1.size, ?_⟩, hT⟩
    · rw [List.map_append, List.nodup_append]
      refine ⟨hq.ids.1, by simp, fun x hx y hy => ?_⟩
      simp at hy; subst hy
      obtain ⟨e, he, rfl⟩ := List.mem_map.1 hx
      exact hnot e (hperm.mem_iff.1 he)
    · intro x hx
      rcases List.mem_append.1 hx with hx | hx
      · exact hq.ids.2 x hx
      · simp at hx; subst hx; show id.data.toList.length ≤ 64; rw [Array.length_toList]; exact hs
    · intro w2 v' h' w3 hb2 h2p hq2 hkept hv
      have hb2' := hb.below hb2 hb.lt
      obtain ⟨F', r1, r2, r3, r4⟩ := tm_put (a := a) (id := id.data.toList) hb2' ⟨hq.at_.below hb2, hq.ids, hq.hp⟩ hperm hpw hk hT hF hbt (by rw [hmap]; exact HQ.out.2) h2p hq2 hkept hv
      rw [hmap] at r1
      refine ⟨r4, F', rfl, r1, (k1.below' hb2).trans r2 (fun k e _ => e), fun k e => ?_⟩
      rcases r3 k e with r | r
      · exact .inl r
      · exact .inr (Nat.le_trans k1.size (Nat.le_trans hb2.size r))
  have HA := Lib.hid hafter
  clear hafter
  rcases hfc with ⟨hn1, hn2⟩ | ⟨x, hx⟩
  · have hL : ¬ (1024 : Int) ≤ (L.length : Int) := by have := HQ.out.2; rw [hn2] at this; omega
    have HN := Lib.hid (And.intro hn1 hn2)
    clear hn1 hn2
    go_enter Try.func17, Try.ntmps17
    go_wp2_with fail
    refine (stop_any base t N F L id w HQ.out.1 (by omega)).mono ?_
    rintro e w1 ⟨rfl, q1, k1⟩
    rw [HN.out.1]
    have q1' := q1
    rw [HN.out.2] at q1'
    obtain ⟨p, m, v, h, T, hB1, hB2', hT⟩ := HA.out w1 q1 k1
    have HB := Lib.hid (And.intro hB1 hB2')
    have hTb : (T : Int) ≤ 1099511627776 := by omega
    clear hB1 hB2' q1 k1 hT
    go_wp2_with fail
    refine (len_any base t N F L w1 q1').mono ?_
    rintro e w2 ⟨rfl, rfl⟩

    go_wp2_with fail
    have t0 : w1.cell? ⟨t, 0, none⟩ = some (.iface 52 (.pointer (some ⟨p, 0, none⟩))) := HB.out.1.cell 0
    have t1 : w1.cell? ⟨t, 1, none⟩ = some (.int .u64 (T : Int)) := HB.out.1.cell 1
    have htl := HB.out.1.lt
    go_region_with (first
      | (go_at_call 23; refine (clone_any id _ (by omega)).mono ?_; rintro e2 w2 ⟨rfl, hb2⟩; have hB2 : Below w1.heap.size w1 w2 := below_drew_trans hb2; have t20 : w2.cell? ⟨t, 0, none⟩ = some (.iface 52 (.pointer (some ⟨p, 0, none⟩))) := (hB2.cell (p := ⟨t, 0, none⟩) htl).trans t0; have t21 : w2.cell? ⟨t, 1, none⟩ = some (.int .u64 (T : Int)) := (hB2.cell (p := ⟨t, 1, none⟩) htl).trans t1)
      | (go_at_call 44; refine (put_str base p m v h id a T w2 ⟨HB.out.2.1.at_.below hB2, HB.out.2.1.ids, HB.out.2.1.hp⟩ HB.out.2.2.1 HB.out.2.2.2.1 (Nat.le_trans HB.out.2.2.2.2.1 hB2.size)).mono ?_; rintro e3 w3 ⟨v', h', rfl, h2p, hq2, hkept, hv⟩; have hfin := HB.out.2.2.2.2.2 w2 v' h' w3 hB2 h2p hq2 hkept hv; have hblk3 := hfin.1; have t30 : w3.cell? ⟨t, 0, none⟩ = some (.iface 52 (.pointer (some ⟨p, 0, none⟩))) := hblk3.cell 0; have t31 : w3.cell? ⟨t, 1, none⟩ = some (.int .u64 (T : Int)) := hblk3.cell 1; have f31 := hblk3.frozen 1; have HFIN := Lib.hid hfin; clear hfin))
    all_goals
      go_wp2
      go_ret
      exact HFIN.out.2
  · have HN := Lib.hid hx
    clear hx
    go_enter Try.func17, Try.ntmps17
    go_wp2_with fail
    refine (stop_any base t N F L id w HQ.out.1 (by omega)).mono ?_
    rintro e w1 ⟨rfl, q1, k1⟩
    rw [HN.out]
    obtain ⟨p, m, v, h, T, hB1, hB2', hT⟩ := HA.out w1 q1 k1
    have HB := Lib.hid (And.intro hB1 hB2')
    have hTb : (T : Int) ≤ 1099511627776 := by omega
    clear hB1 hB2' q1 k1 hT

    go_wp2_with fail
    have t0 : w1.cell? ⟨t, 0, none⟩ = some (.iface 52 (.pointer (some ⟨p, 0, none⟩))) := HB.out.1.cell 0
    have t1 : w1.cell? ⟨t, 1, none⟩ = some (.int .u64 (T : Int)) := HB.out.1.cell 1
    have htl := HB.out.1.lt
    go_region_with (first
      | (go_at_call 23; refine (clone_any id _ (by omega)).mono ?_; rintro e2 w2 ⟨rfl, hb2⟩; have hB2 : Below w1.heap.size w1 w2 := below_drew_trans hb2; have t20 : w2.cell? ⟨t, 0, none⟩ = some (.iface 52 (.pointer (some ⟨p, 0, none⟩))) := (hB2.cell (p := ⟨t, 0, none⟩) htl).trans t0; have t21 : w2.cell? ⟨t, 1, none⟩ = some (.int .u64 (T : Int)) := (hB2.cell (p := ⟨t, 1, none⟩) htl).trans t1)
      | (go_at_call 44; refine (put_str base p m v h id a T w2 ⟨HB.out.2.1.at_.below hB2, HB.out.2.1.ids, HB.out.2.1.hp⟩ HB.out.2.2.1 HB.out.2.2.2.1 (Nat.le_trans HB.out.2.2.2.2.1 hB2.size)).mono ?_; rintro e3 w3 ⟨v', h', rfl, h2p, hq2, hkept, hv⟩; have hfin := HB.out.2.2.2.2.2 w2 v' h' w3 hB2 h2p hq2 hkept hv; have hblk3 := hfin.1; have t30 : w3.cell? ⟨t, 0, none⟩ = some (.iface 52 (.pointer (some ⟨p, 0, none⟩))) := hblk3.cell 0; have t31 : w3.cell? ⟨t, 1, none⟩ = some (.int .u64 (T : Int)) := hblk3.cell 1; have f31 := hblk3.frozen 1; have HFIN := Lib.hid hfin; clear hfin))
    all_goals
      go_wp2
      go_ret
      exact HFIN.out.2
end Go.Proofs.Ytjcocgadhdgbjaa
