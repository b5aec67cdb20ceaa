/- timer: the document's own timers: Stop, Set, At. -/
import Derived.Test.YtjcocgadhdgbjaaTmRef
namespace Go.Proofs.Ytjcocgadhdgbjaa
open Go.RowKit

theorem tmV_take (L : List Tm) : ∀ (k : Nat), (tmV L).take (k * 2) = tmV (L.take k) := by
  induction L with
  | nil => intro k; simp [tmV]
  | cons a r ih =>
    intro k
    cases k with
    | zero => simp [tmV]
    | succ k =>
      have e1 : tmV (a :: r) = tmCells a ++ tmV r := rfl
      have e2 : tmV ((a :: r).take (k + 1)) = tmCells a ++ tmV (r.take k) := rfl
      rw [e1, e2, ← ih k, show (k + 1) * 2 = k * 2 + 2 from by omega]
      rfl
theorem tmV_drop (L : List Tm) : ∀ (k : Nat), (tmV L).drop (k * 2) = tmV (L.drop k) := by
  induction L with
  | nil => intro k; simp [tmV]
  | cons a r ih =>
    intro k
    cases k with
    | zero => simp [tmV]
    | succ k =>
      have e1 : tmV (a :: r) = tmCells a ++ tmV r := rfl
      rw [e1, List.drop_succ_cons, ← ih k, show (k + 1) * 2 = k * 2 + 2 from by omega]
      rfl
theorem drop_at {L : List Tm} {id : List UInt8} {i : Nat} (hn : (L.map (·.1)).Nodup) (h : fiL L id = some i) : i < L.length ∧ dropL L id = L.take i ++ L.drop (i + 1) ∧ atL L id = (L[i]?).map (·.2) := by
  have hf := List.findIdx?_eq_some_iff_getElem.1 h
  obtain ⟨hi, he, hb⟩ := hf
  have he' : L[i].1 = id := by simpa using he
  refine ⟨hi, ?_, ?_⟩
  · have hs : L = L.take i ++ L[i] :: L.drop (i + 1) := by
      conv => lhs; rw [← List.take_append_drop i L]
      rw [List.drop_eq_getElem_cons hi]
    have h1 : ∀ y ∈ L.take i, y.1 ≠ id := by
      intro y hy
      obtain ⟨j, hj⟩ := List.getElem?_of_mem hy
      rw [List.getElem?_take] at hj
      split at hj
      · rename_i hji
        have := hb j hji
        rw [List.getElem?_eq_getElem (by omega)] at hj
        cases hj
        simpa using this
      · cases hj
    have h2 : ∀ y ∈ L.drop (i + 1), y.1 ≠ id := by
      intro y hy e
      rw [hs, List.map_append, List.map_cons, List.nodup_append] at hn
      exact (List.nodup_cons.1 hn.2.1).1 (List.mem_map.2 ⟨y, hy, e.trans he'.symm⟩)
    have e1 := dropL_id h1
    have e2 := dropL_id h2
    conv => lhs; rw [hs]
    unfold dropL at e1 e2 ⊢
    rw [List.filter_append, List.filter_cons, if_neg (by simp [he']), e1, e2]
  · have := atL_in hn (List.getElem_mem hi)
    rw [he'] at this
    rw [this, List.getElem?_eq_getElem hi]; rfl
theorem fi_no {L : List Tm} {id : List UInt8} (h : fiL L id = none) : (∀ x ∈ L, x.1 ≠ id) := by
  have := List.findIdx?_eq_none_iff.1 h
  intro x hx
  simpa using this x hx
/-- The first i of a row. -/
theorem rf_news {w : World} {base c g i : Nat} {L : List Tm} (h : w.ownsRow base 68 2 (.slice (some ⟨g, 0, none⟩) L.length c) L.length (tmV L)) (hi : i ≤ L.length) : (tmV (L.take i)).length = i * 2 ∧ ∀ W, Below w.heap.size w W → ∀ j u, (tmV (L.take i))[j]? = some u → ∃ b, some (⟨g, 0, none⟩ : Addr) = some b ∧ W.cell? (b.add j) = some u := by
  refine ⟨by rw [tmV_len, List.length_take]; omega, fun W hb j u hu => ⟨_, rfl, ?_⟩⟩
  have hlt := (h.lt g rfl).2
  rw [← tmV_take, List.getElem?_take] at hu
  split at hu
  · rename_i hj
    have hjl := (List.getElem?_eq_some_iff.1 hu).1
    rw [tmV_len] at hjl
    rw [addr_plain, Nat.zero_add, hb.cell (p := ⟨g, j, none⟩) hlt, h.cellAt j hjl]
    exact hu
  · cases hu
/-- What stands from so on. -/
theorem rf_news_at {w : World} {base c g so : Nat} {A : Option Addr} {L : List Tm} (h : w.ownsRow base 68 2 (.slice (some ⟨g, 0, none⟩) L.length c) L.length (tmV L)) (hc : L.length ≤ c) (hso : so ≤ L.length) (hA : (if c = so then some (⟨g, 0, none⟩ : Addr) else some ⟨g, so * 2, none⟩) = A) : ((tmV (L.drop so)).length = (L.length - so) * 2 ∧ (A = none → L.length - so = 0)) ∧ ∀ W, Below w.heap.size w W → ∀ j u, (tmV (L.drop so))[j]? = some u → ∃ b, A = some b ∧ W.cell? (b.add j) = some u := by
  refine ⟨⟨by rw [tmV_len, List.length_drop], fun e => by rw [e] at hA; split at hA <;> cases hA⟩, fun W hb j u hu => ?_⟩
  have hlt := (h.lt g rfl).2
  rw [← tmV_drop, List.getElem?_drop] at hu
  have hjl := (List.getElem?_eq_some_iff.1 hu).1
  rw [tmV_len] at hjl
  rw [if_neg (by omega)] at hA
  refine ⟨⟨g, so * 2, none⟩, hA.symm, ?_⟩
  rw [addr_plain, hb.cell (p := ⟨g, so * 2 + j, none⟩) hlt, h.cellAt (so * 2 + j) hjl]
  exact hu
/-- What a call of the document's leaves. -/
def RfPost (base r : Nat) (v : Value) (L' : List Tm) (x : Value) (w : World) (e : Ending) (w' : World) : Prop := ∃ v', e = .returned x ∧ RfAt base r v' L' w' ∧ Kept (fun k => k = r ∨ v.ownBlock = some k) w w' ∧ ∀ k, v'.ownBlock = some k → v.ownBlock = some k ∨ w.heap.size ≤ k
theorem Try.infoTm : (Try.prog.info? 68).map (fun i => (i.zero, i.size, i.bytes)) = some (some (.agg #[.string ⟨#[]⟩, .int .u64 0]), 2, 24) := by kernel_rfl
set_option maxRecDepth 100000 in
set_option maxHeartbeats 4000000 in
theorem rstop_any (base r : Nat) (v : Value) (L : List Tm) (id : ByteArray) (w : World) (h : RfAt base r v L w) (hL : L.length ≤ 1024) (hn : (L.map (·.1)).Nodup) (hbase : base ≤ w.heap.size) :
    Calls Try.prog 12 #[.pointer (some ⟨r, 0, none⟩), .string id] w (RfPost base r v (dropL L id.data.toList) (.bool (atL L id.data.toList).isSome) w) := by
  have k0 : w.cell? ⟨r, 0, none⟩ = some v := h.blk.cell 0
  have f0 := h.blk.frozen 0
  have hrl := h.blk.lt
  cases hf : fiL L id.data.toList with
  | none =>
    have hno := fi_no hf
    rw [atL_id hno, dropL_id hno]
    have HQ := Lib.hid (And.intro h hf)
    clear h hf hno
    go_enter Try.func12, Try.ntmps12
    go_wp2_with fail
    refine (rfind_any base r v L id w HQ.out.1 hL).mono ?_
    rw [HQ.out.2]
    rintro e w' ⟨rfl, rfl⟩
    go_wp2
    go_ret
    exact ⟨v, rfl, HQ.out.1, Kept.refl _ _, fun k hk => .inl hk⟩
  | some i =>
    obtain ⟨hi, hd, ha⟩ := drop_at hn hf
    rw [ha, hd, List.getElem?_eq_getElem hi]
    obtain ⟨g, cap, rfl, hbg, hcc, hcm, hgl, _⟩ := rf_cells h.own (by omega)
    obtain ⟨so, hso⟩ : ∃ so, i + 1 = so := ⟨_, rfl⟩
    have hso1 : (i : Int) + 1 = (so : Int) := by omega
    have c1 : (so : Int) ≤ (L.length : Int) := by omega
    have c2 : (i : Int) ≤ (cap : Int) := by omega
    have c3 : (0 : Int) ≤ (i : Int) := by omega
    have c4 : (0 : Int) ≤ (so : Int) := by omega
    have c5 : (L.length : Int) ≤ (cap : Int) := by omega
    have c6 : (i : Int) ≤ (L.length : Int) := by omega
    have c7 : L.length - so ≤ 1024 := by omega
    have c8 : i ≤ 1024 := by omega
    obtain ⟨A, hA'⟩ : ∃ A : Option Addr, (if cap = so then some (⟨g, 0, none⟩ : Addr) else some ⟨g, so * 2, none⟩) = A := ⟨_, rfl⟩
    have N1 := rf_news (i := i) h.own (by omega)
    have N2 := rf_news_at (so := so) h.own hcc (by omega) hA'
    have hvr : (Value.slice (some ⟨g, 0, none⟩) L.length cap).ownBlock ≠ some r := row_block h.own h.blk (by decide)
    obtain ⟨i0, hii, hz0, hz1, hz2⟩ := info_parts Try.infoTm
    have HQ := Lib.hid (And.intro (And.intro h hf) (And.intro (And.intro N1 N2) (And.intro hso hvr)))
    clear h hf hd ha N1 N2 hso hvr
    go_enter Try.func12, Try.ntmps12
    go_wp2_with fail
    refine (rfind_any base r _ L id w HQ.out.1.1 hL).mono ?_
    rw [HQ.out.1.2]
    rintro e w' ⟨rfl, rfl⟩
    rw [show fiV (some i) = (i : Int) from rfl]
    go_wp2_with (first
      | (at_builtin; refine wpList_append_row w rfl _ _ 27 rfl w.heap.size 68 i0 (.agg #[.string ⟨#[]⟩, .int .u64 0]) 2 24 Try.underlying27 hii hz0 hz1 hz2 rfl (by decide) (.slice none 0 0) 0 [] rfl (World.ownsRow_nil _ _ _ _) (some ⟨g, 0, none⟩) i cap (tmV (L.take i)) rfl HQ.out.2.1.1.1 (fun e => by cases e) (HQ.out.2.1.1.2 _ (Below.refl _ _)) (tmV_one _) (by unfold maxLen; omega) (by omega) (Nat.le_refl _) ?_; intro v1 w1 own1 grow1; rw [Nat.zero_add, List.nil_append] at own1; have hb1 : Below w.heap.size w w1 := (Below.refl _ _).grown grow1 (Nat.le_refl _) (fun k e => by simp [Value.ownBlock] at e); have k1 : w1.cell? ⟨r, 0, none⟩ = some (.slice (some ⟨g, 0, none⟩) L.length cap) := (hb1.cell (p := ⟨r, 0, none⟩) hrl).trans k0; have HU := Lib.hid (And.intro own1 hb1); clear own1 hb1 grow1)
      | (at_builtin; refine wpList_append_row w1 rfl _ _ 27 rfl w.heap.size 68 i0 (.agg #[.string ⟨#[]⟩, .int .u64 0]) 2 24 Try.underlying27 hii hz0 hz1 hz2 rfl (by decide) v1 i _ rfl HU.out.1 A (L.length - so) (cap - so) (tmV (L.drop so)) rfl HQ.out.2.1.2.1.1 HQ.out.2.1.2.1.2 (HQ.out.2.1.2.2 _ HU.out.2) (tmV_one _) (by unfold maxLen; omega) (by omega) HU.out.2.size ?_; intro v2 w2 own2 grow2; have hb2 : Below w.heap.size w w2 := HU.out.2.grown grow2 HU.out.2.size (fun k e => owns_block HU.out.1 k e); have k2 : w2.cell? ⟨r, 0, none⟩ = some (.slice (some ⟨g, 0, none⟩) L.length cap) := (hb2.cell (p := ⟨r, 0, none⟩) hrl).trans k0; have f2 : w2.frozen? ⟨r, 0, none⟩ = false := (hb2.frozen (p := ⟨r, 0, none⟩) hrl).trans f0; obtain ⟨a2, cc2, rfl⟩ := owns_slice own2; have HV := Lib.hid (And.intro own2 hb2); clear own2 hb2 grow2))
    go_ret
    obtain ⟨own2, hb2⟩ := HV.out
    have hso := HQ.out.2.2.1
    have q2 := HQ.out.1.1.below hb2
    have hgs := grown_set w2 r 0 (.slice a2 (i + (L.length - so)) cc2)
    have hn2 : (Value.slice a2 (i + (L.length - so)) cc2).ownBlock ≠ some r := row_block own2 q2.blk (by decide)
    have e1 : i + (L.length - so) = (L.take i ++ L.drop (i + 1)).length := by rw [List.length_append, List.length_take, List.length_drop]; omega
    have e2 : tmV (L.take i) ++ tmV (L.drop so) = tmV (L.take i ++ L.drop (i + 1)) := by rw [tmV_app, hso]
    rw [e2] at own2
    refine ⟨.slice a2 (i + (L.length - so)) cc2, rfl, ⟨q2.blk.set 0 _, ?_, HQ.out.1.1.br⟩, (Kept.of (S := fun k => k = r ∨ (Value.slice (some ⟨g, 0, none⟩) L.length cap).ownBlock = some k) hb2 (Nat.le_refl _)).trans (Kept.grown (S := fun k => k = r) hgs (fun k e _ => (Option.some.inj e).symm)) (fun k e _ => .inl e), fun k hk => .inr (owns_block own2 k hk)⟩
    rw [← e1]
    exact own_less (own_other own2 hgs (fun x hx e => hn2 (hx.trans e.symm))) hbase

set_option maxRecDepth 100000 in
theorem rat_any (base r : Nat) (v : Value) (L : List Tm) (id : ByteArray) (w : World) (h : RfAt base r v L w) (hL : L.length ≤ 1024) (hn : (L.map (·.1)).Nodup) :
    Calls Try.prog 16 #[.pointer (some ⟨r, 0, none⟩), .string id] w fun e w' => e = .returned (.tuple #[.int .u64 (((atL L id.data.toList).getD 0 : Nat) : Int), .bool (atL L id.data.toList).isSome]) ∧ w = w' := by
  have k0 : w.cell? ⟨r, 0, none⟩ = some v := h.blk.cell 0
  cases hf : fiL L id.data.toList with
  | none =>
    have hno := fi_no hf
    rw [atL_id hno]
    have HQ := Lib.hid (And.intro h hf)
    clear h hf hno
    go_enter Try.func16, Try.ntmps16
    go_wp2_with fail
    refine (rfind_any base r v L id w HQ.out.1 hL).mono ?_
    rw [HQ.out.2]
    rintro e w' ⟨rfl, rfl⟩
    go_wp2
    go_ret2
    exact ⟨rfl, rfl⟩
  | some i =>
    obtain ⟨hi, _, ha⟩ := drop_at hn hf
    rw [ha, List.getElem?_eq_getElem hi]
    obtain ⟨g, cap, rfl, hbg, hcc, hcm, hgl, hcell⟩ := rf_cells h.own (by omega)
    obtain ⟨_, d1⟩ := hcell i _ (List.getElem?_eq_getElem hi)
    generalize L[i] = x at *
    have c3 : (0 : Int) ≤ (i : Int) := by omega
    have c6 : (i : Int) < (L.length : Int) := by omega
    have HQ := Lib.hid (And.intro h hf)
    clear h hf ha hcell hn
    go_enter Try.func16, Try.ntmps16
    go_wp2_with fail
    refine (rfind_any base r _ L id w HQ.out.1 hL).mono ?_
    rw [HQ.out.2]
    rintro e w' ⟨rfl, rfl⟩
    rw [show fiV (some i) = (i : Int) from rfl]
    go_wp2
    go_ret2
    exact ⟨rfl, rfl⟩

theorem rset_none (r : Nat) (x : Int) (w : World) :
    Calls Try.prog 18 #[.pointer (some ⟨r, 0, none⟩), .string ⟨#[]⟩, .int .u64 x] w fun e w' => e = .returned (.int .i64 1) ∧ w = w' := by
  go_enter Try.func18, Try.ntmps18
  go_wp2
  go_ret
  exact ⟨rfl, rfl⟩
theorem rset_long (r : Nat) (id : ByteArray) (x : Int) (w : World) (hs : 64 < id.size) (_hs2 : id.size ≤ 140737488355328) :
    Calls Try.prog 18 #[.pointer (some ⟨r, 0, none⟩), .string id, .int .u64 x] w fun e w' => e = .returned (.int .i64 1) ∧ w = w' := by
  have he : id.toList.isEmpty = false := tm_full (by omega)
  have hlt : (64 : Int) < (id.size : Int) := by omega
  go_enter Try.func18, Try.ntmps18
  go_wp2
  go_ret
  exact ⟨rfl, rfl⟩
set_option maxRecDepth 100000 in
theorem rset_full (base r : Nat) (v : Value) (L : List Tm) (id : ByteArray) (x : Int) (w : World) (h : RfAt base r v L w) (h0 : 0 < id.size) (hs : id.size ≤ 64) (hL : L.length = 1024) (hno : fiL L id.data.toList = none) :
    Calls Try.prog 18 #[.pointer (some ⟨r, 0, none⟩), .string id, .int .u64 x] w fun e w' => e = .returned (.int .i64 4) ∧ w = w' := by
  have k0 : w.cell? ⟨r, 0, none⟩ = some v := h.blk.cell 0
  have he : id.toList.isEmpty = false := tm_full h0
  have hlt : ¬ (64 : Int) < (id.size : Int) := by omega
  obtain ⟨a, c, rfl⟩ := owns_slice h.own
  have hl : (L.length : Int) = 1024 := by omega
  have HQ := Lib.hid (And.intro h (And.intro hno hL))
  clear h hno hL
  go_enter Try.func18, Try.ntmps18
  go_wp2_with fail
  refine (rfind_any base r _ L id w HQ.out.1 (by have := HQ.out.2.2; omega)).mono ?_
  rw [HQ.out.2.1]
  rintro e w' ⟨rfl, rfl⟩
  rw [show fiV none = -1 from rfl]
  go_wp2
  go_ret
  exact ⟨rfl, rfl⟩
end Go.Proofs.Ytjcocgadhdgbjaa
