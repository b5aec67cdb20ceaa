/- timer: take of the pile. -/
import Derived.Test.YtjcocgadhdgbjaaTmTake
namespace Go.Proofs.Ytjcocgadhdgbjaa
open Go.RowKit

def TkPost (base p m : Nat) (v : Value) (h : List En) (i : Nat) (w : World) (e : Ending) (w' : World) : Prop := ∃ v' h2, e = .returned (enAgg (gt h i)) ∧ (h2 ++ [gt h i]).Perm h ∧ HeapAt base p m v' h2 w' ∧ Kept (Foot p m v) w w' ∧ v'.ownBlock = v.ownBlock
theorem take_last {h : List En} {n : Nat} (hn : h.length = n + 1) : h.take n ++ [gt h n] = h := by
  have := List.take_append_drop n h
  conv => rhs; rw [← this]
  congr 1
  have hd : h.drop n = [gt h n] := by
    rw [List.drop_eq_getElem_cons (by omega), List.drop_eq_nil_of_le (by omega)]
    have := gt_some (h := h) (i := n) (by omega)
    rw [List.getElem?_eq_getElem (by omega)] at this
    rw [Option.some.inj this]
  exact hd.symm
theorem hp_take {h : List En} {n : Nat} (hn : n ≤ h.length) (hp : Hp n h) : Hp (h.take n).length (h.take n) := by
  have hl : (h.take n).length = n := by simp; omega
  rw [hl]
  intro i hi hin
  have e : ∀ k, k < n → gt (h.take n) k = gt h k := fun k hk => by
    unfold gt
    simp only [List.getD_eq_getElem?_getD, List.getElem?_take, if_pos hk]
  rw [e i hin, e _ (by omega)]
  exact hp i hi hin
set_option maxHeartbeats 1000000 in
set_option maxRecDepth 100000 in
theorem take_any (base p m : Nat) (v : Value) (h : List En) (i n : Nat) (w : World) (q : HeapAt base p m v h w) (hn : h.length = n + 1) (hi : i < h.length) (hs : h.length ≤ 1025) :
    Calls Try.prog 45 #[.pointer (some ⟨p, 0, none⟩), .int .i64 (i : Int)] w (TkPost base p m v h i w) := by
  have has := Try.assertEn
  have HQ := Lib.hid (And.intro q hn)
  clear q hn
  go_enter Try.func45, Try.ntmps45
  go_wp2_with fail
  have hB : ∀ (c : Array Value), Below w.heap.size w (w.alloc (.cells c 64)) := fun c => (Below.refl _ _).alloc (Nat.le_refl _) _
  refine (remove_any base p m v h i n _ ⟨HQ.out.1.at_.below (hB _), HQ.out.1.ids, HQ.out.1.hp⟩ HQ.out.2 hi hs).mono ?_
  rintro e1 w1 ⟨v', h', rfl, r1, r2, r3, r4, q1, k1, ho⟩
  go_wp2_with fail
  have hr0 : Blk (w.alloc (.cells #[.string ⟨#[]⟩, .int .u64 0, .int .u64 0] 64)) w.heap.size #[.string ⟨#[]⟩, .int .u64 0, .int .u64 0] 64 := Blk.new w _ _
  have hnf : ¬ Foot p m v w.heap.size := by
    have q := HQ.out.1.at_
    rintro (e | e | e)
    · have := q.blk.lt; omega
    · have := q.map.lt; omega
    · have := (q.own.lt _ e).2; omega
  have hr1 := k1.blk hr0 hnf
  have q2 := q1.below (w' := (w1.alloc (.cells #[.string ⟨(gt h i).id.toArray⟩, .int .u64 ((gt h i).t : Int), .int .u64 ((gt h i).k : Int)] 64)).drew) ((Below.refl _ _).alloc (Nat.le_refl _) _).drew
  have hidl := HQ.out.1.ids.at hi
  obtain ⟨w2, hd, hm2, hg2⟩ := q2.map.drop (P := Try.prog) Try.underlying9 Try.underlying53 (s := (gt h i).id) (by unfold maxLen; omega) 0
  have hlt1 := hr1.lt
  have hmq := q2.map.lt
  have c1p : w1.cell? ⟨p, 1, none⟩ = some (.map (some m)) := q1.blk.cell 1
  have hp1 := q1.blk.lt
  have hr2 : Blk w2 w.heap.size #[.string ⟨#[]⟩, .int .u64 0, .int .u64 0] 64 := (hr1.below (n := w1.heap.size) ((Below.refl _ _).alloc (Nat.le_refl _) _).drew hlt1).kept hg2 (fun e => hnf (.inr (.inl (Option.some.inj e))))
  have hm1lt := q1.map.lt
  have hs2 : Blk w2 w1.heap.size #[.string ⟨(gt h i).id.toArray⟩, .int .u64 ((gt h i).t : Int), .int .u64 ((gt h i).k : Int)] 64 := Blk.kept (W := w1.alloc (.cells #[.string ⟨(gt h i).id.toArray⟩, .int .u64 ((gt h i).t : Int), .int .u64 ((gt h i).k : Int)] 64)) (Blk.new w1 _ _) ⟨hg2.os, hg2.tape, hg2.output, hg2.size, hg2.block⟩ (fun e => by have := Option.some.inj e; omega)
  have a0 := hr2.cell 0
  have a1 := hr2.cell 1
  have a2 := hr2.cell 2
  have b0 := hs2.cell 0
  have b1 := hs2.cell 1
  have b2 := hs2.cell 2
  have f0 := hr2.frozen 0
  have f1 := hr2.frozen 1
  have f2 := hr2.frozen 2
  have HX := Lib.hid (And.intro (And.intro hm2 hg2) (And.intro q2 (And.intro (And.intro r1 (And.intro r2 (And.intro r3 r4))) (And.intro (And.intro k1 ho) (And.intro hr2 hnf)))))
  clear hm2 hg2 q2 q1 r1 r2 r3 r4 k1 ho hr2 hs2 hr0 hr1 hnf
  generalize hE : gt h i = e at *
  have HE := Lib.hid hE
  clear hE
  go_wp2
  go_region
  go_wp2
  obtain ⟨⟨hm2, hg2⟩, q2, ⟨r1, r2, r3, r4⟩, ⟨k1, ho⟩, hr2, hnf⟩ := HX.out
  have hr3 := ((hr2.set 0 (.string ⟨e.id.toArray⟩)).set 1 (.int .u64 (e.t : Int))).set 2 (.int .u64 (e.k : Int))
  have g1 := grown_set w2 w.heap.size 0 (.string ⟨e.id.toArray⟩)
  have g2 := grown_set (w2.setCell ⟨w.heap.size, 0, none⟩ (.string ⟨e.id.toArray⟩)) w.heap.size 1 (.int .u64 (e.t : Int))
  have g3 := grown_set ((w2.setCell ⟨w.heap.size, 0, none⟩ (.string ⟨e.id.toArray⟩)).setCell ⟨w.heap.size, 1, none⟩ (.int .u64 (e.t : Int))) w.heap.size 2 (.int .u64 (e.k : Int))
  have kg : Kept (fun k => k = w.heap.size) w2 (((w2.setCell ⟨w.heap.size, 0, none⟩ (.string ⟨e.id.toArray⟩)).setCell ⟨w.heap.size, 1, none⟩ (.int .u64 (e.t : Int))).setCell ⟨w.heap.size, 2, none⟩ (.int .u64 (e.k : Int))) :=
    ((Kept.grown g1 (fun k e _ => (Option.some.inj e).symm)).then (Kept.grown g2 (fun k e _ => (Option.some.inj e).symm))).then (Kept.grown g3 (fun k e _ => (Option.some.inj e).symm))
  obtain ⟨w5, hw5⟩ : ∃ w5 : World, (((w2.setCell ⟨w.heap.size, 0, none⟩ (.string ⟨e.id.toArray⟩)).setCell ⟨w.heap.size, 1, none⟩ (.int .u64 (e.t : Int))).setCell ⟨w.heap.size, 2, none⟩ (.int .u64 (e.k : Int))) = w5 := ⟨_, rfl⟩
  rw [hw5] at hr3 kg ⊢
  have d0 : w5.cell? ⟨w.heap.size, 0, none⟩ = some (.string ⟨e.id.toArray⟩) := hr3.cell 0
  have d1 : w5.cell? ⟨w.heap.size, 1, none⟩ = some (.int .u64 (e.t : Int)) := hr3.cell 1
  have d2 : w5.cell? ⟨w.heap.size, 2, none⟩ = some (.int .u64 (e.k : Int)) := hr3.cell 2
  have hn := HQ.out.2
  have hl1 : h.length - 1 = n := by omega
  rw [hl1] at r3 r4 q2
  have hlast := take_last (h := h') (n := n) (by omega)
  rw [r3] at hlast
  have hid' := HQ.out.1.ids.perm r1
  have hid2 : idsOk (h'.take n) := ⟨by have := hid'.1; rw [← hlast, List.map_append] at this; exact (List.nodup_append.1 this).1, fun x hx => hid'.2 x ((List.take_sublist n h').subset hx)⟩
  have hm2' : StrMap w2 m (plC (h'.take n)) := hm2.ext (fun s => by
    have := plC_last (h := h'.take n) (e := e) (by rw [hlast]; exact hid') s
    rw [hlast] at this; exact this)
  have hmv : v'.ownBlock ≠ some m := q2.map.ne_row q2.own
  have q3 : PileAt base p m v' (h'.take n) (h'.take n) w2 := ⟨q2.blk.kept hg2 (fun e => q2.map.ne_blk q2.blk (Option.some.inj e).symm), own_other q2.own hg2 (fun g hg e => hmv (hg.trans e.symm)), hm2', q2.bp, q2.bm⟩
  have hnf' : ¬ Foot p m v' w.heap.size := by
    rintro (e | e | e)
    · exact hnf (.inl e)
    · exact hnf (.inr (.inl e))
    · exact hnf (.inr (.inr (ho ▸ e)))
  have hwz : ∀ k, Foot p m v' k → k ≠ w.heap.size := fun k hk e => hnf' (e ▸ hk)
  have q5 : PileAt base p m v' (h'.take n) (h'.take n) w5 := ⟨kg.blk q3.blk (hwz p (.inl rfl)), kg.own q3.own (fun k hk => hwz k (.inr (.inr hk))), kg.map q3.map (hwz m (.inr (.inl rfl))), q3.bp, q3.bm⟩
  have hkept : Kept (Foot p m v) w w5 := by
    have t1 := (Kept.of (S := Foot p m v) (hB #[.string ⟨#[]⟩, .int .u64 0, .int .u64 0]) (Nat.le_refl _)).then k1
    have t2 : Kept (Foot p m v) w w2 := (t1.below' (w2 := (w1.alloc (.cells #[.string ⟨e.id.toArray⟩, .int .u64 (e.t : Int), .int .u64 (e.k : Int)] 64)).drew) (((Below.refl _ _).alloc (Nat.le_refl _) _).drew)).trans (Kept.grown (S := fun k => k = m) hg2 (fun k e _ => (Option.some.inj e).symm)) (fun k e _ => .inr (.inl e))
    exact t2.trans kg (fun k e hlt => by omega)
  refine bodyPost_ret (v := enAgg e) (by simp [results, Try.results45, go_sem, d0, d1, d2]) rfl ⟨v', h'.take n, by rw [HE.out], ?_, ⟨q5, hid2, hp_take (by omega) r4⟩, hkept, ho⟩
  rw [HE.out, hlast]; exact r1
end Go.Proofs.Ytjcocgadhdgbjaa
