/- timer: Stop, Set. -/
import Derived.Test.YtjcocgadhdgbjaaTmSet
import Derived.Deep.RegionWith
namespace Go.Proofs.Ytjcocgadhdgbjaa
open Go.RowKit

theorem foot_eq {p m : Nat} {v v' : Value} (h : v'.ownBlock = v.ownBlock) (k : Nat) : Foot p m v' k ↔ Foot p m v k := by unfold Foot; rw [h]
theorem Kept.mono {S T : Nat → Prop} {w w' : World} (h : Kept S w w') (hs : ∀ k, S k → T k) : Kept T w w' := ⟨h.os, h.tape, h.output, h.size, fun k hk hn => h.block k hk (fun e => hn (hs k e))⟩
/-- One is taken out. -/
theorem tm_drop {base t N p m T : Nat} {v v' : Value} {F : Nat → Prop} {h h2 LE : List En} {e : En} {w w' : World} (hb : Blk w t #[.iface 52 (.pointer (some ⟨p, 0, none⟩)), .int .u64 (T : Int)] 60) (hq : HeapAt base p m v h w) (hperm : h.Perm LE)
    (hpw : LE.Pairwise (fun a b => a.k < b.k)) (hk : ∀ e ∈ LE, e.k < T) (hT : T ≤ N) (hF : ∀ k, F k ↔ (k = t ∨ Foot p m v k)) (hbt : base ≤ t) (hl : (LE.map En.tm).length ≤ 1024)
    (h2p : (h2 ++ [e]).Perm h) (hq2 : HeapAt base p m v' h2 w') (hkept : Kept (Foot p m v) w w') (hv : v'.ownBlock = v.ownBlock) : TmAt base t F N (dropL (LE.map En.tm) e.id) w' ∧ Kept F w w' := by
  have hnt : ¬ Foot p m v t := by
    rintro (e | e | e)
    · subst e; have := hb.symm.trans hq.at_.blk; simp at this
    · subst e; exact hq.at_.map.ne_blk hb rfl
    · exact row_block hq.at_.own hb (by decide) e
  have hp := perm_drop (h2p.trans hperm) ((hperm.map En.id).nodup_iff.1 hq.ids.1)
  have hsub : List.Sublist (LE.filter (fun x => x.id != e.id)) LE := List.filter_sublist
  refine ⟨⟨p, m, v', h2, T, LE.filter (fun x => x.id != e.id), hkept.blk hb hnt, hq2, hp, map_drop LE e.id, hpw.sublist hsub, fun x hx => hk x (hsub.subset hx), hT, fun k => by rw [hF, foot_eq hv], hbt, ?_⟩, hkept.mono (fun k e => (hF k).2 (.inr e))⟩
  unfold dropL; exact Nat.le_trans (List.length_filter_le _ _) hl

set_option maxRecDepth 100000 in
theorem stop_any (base t N : Nat) (F : Nat → Prop) (L : List Tm) (id : ByteArray) (w : World) (h : TmAt base t F N L w) (hs : id.size ≤ 140737488355328) :
    Calls Try.prog 10 #[.pointer (some ⟨t, 0, none⟩), .string id] w fun e w' => e = .returned (.bool (atL L id.data.toList).isSome) ∧ TmAt base t F N (dropL L id.data.toList) w' ∧ Kept F w w' := by
  have hcopy := h
  obtain ⟨p, m, v, hh, T, LE, hb, hq, hperm, rfl, hpw, hk, hT, hF, hbt, hlen⟩ := h
  have k0 : w.cell? ⟨t, 0, none⟩ = some (.iface 52 (.pointer (some ⟨p, 0, none⟩))) := hb.cell 0
  have m1 := Try.mFind
  have m2 := Try.mTake
  have hnd := (hperm.map En.id).nodup_iff.1 hq.ids.1
  have hl : hh.length ≤ 1025 := by rw [List.length_map] at hlen; rw [hperm.length_eq]; omega
  have hid : (⟨id.data.toList.toArray⟩ : ByteArray) = id := by simp
  have hs' : id.data.toList.length ≤ 140737488355328 := by rw [Array.length_toList]; exact hs
  have hfind := fun W (q : PileAt base p m v hh hh W) => find_pl base p m v hh hh id.data.toList W q hs'
  rw [hid] at hfind
  rcases plC_cases hh id.data.toList with ⟨i, hi, hie⟩ | hno
  · have e1 := plC_at hq.ids hi
    rw [hie] at e1
    have e2 := atL_some hnd (hperm.mem_iff.1 (List.mem_of_getElem? (gt_some hi)))
    rw [hie] at e2
    rw [e1] at hfind
    rw [e2]
    obtain ⟨n, hn⟩ : ∃ n, hh.length = n + 1 := ⟨hh.length - 1, by omega⟩
    have hfin := fun (v' : Value) (h2 : List En) (w' : World) (h2p : (h2 ++ [gt hh i]).Perm hh) (hq2 : HeapAt base p m v' h2 w') (hkept : Kept (Foot p m v) w w') (hv : v'.ownBlock = v.ownBlock) => tm_drop hb hq hperm hpw hk hT hF hbt hlen h2p hq2 hkept hv
    rw [hie] at hfin
    have HQ := Lib.hid (And.intro (And.intro hq hfind) (And.intro hn hfin))
    clear hq hperm hb hfind e1 e2 hie hs' hs hid hnd hlen hn hfin hpw hk hT hF hbt hcopy
    go_enter Try.func10, Try.ntmps10
    go_wp2_with fail
    refine (HQ.out.1.2 w HQ.out.1.1.at_).mono ?_
    rintro e w' ⟨rfl, rfl⟩
    go_wp2_with fail
    refine (take_any base p m v hh i n w HQ.out.1.1 HQ.out.2.1 hi hl).mono ?_
    rintro e w1 ⟨v', h2, rfl, h2p, hq2, hkept, hv⟩
    go_wp2
    go_ret
    exact ⟨rfl, HQ.out.2.2 v' h2 w1 h2p hq2 hkept hv⟩
  · have e1 := plC_no hno
    have hall : ∀ e ∈ LE, e.id ≠ id.data.toList := fun e he => by
      obtain ⟨i, hi, rfl⟩ := mem_gt (hperm.mem_iff.2 he)
      exact hno i hi
    have e2 := atL_none hall
    have e3 := drop_none hall
    rw [e1] at hfind
    rw [e2, e3]
    have HQ := Lib.hid (And.intro (And.intro hq hfind) hcopy)
    clear hq hl hperm hb hfind e1 e2 hs' hs hid hnd hno hlen e3 hall hpw hk hT hF hbt hcopy
    go_enter Try.func10, Try.ntmps10
    go_wp2_with fail
    refine (HQ.out.1.2 w HQ.out.1.1.at_).mono ?_
    rintro e w' ⟨rfl, rfl⟩
    go_wp2
    go_ret
    exact ⟨rfl, HQ.out.2, Kept.refl _ _⟩

theorem tm_full {s : ByteArray} (h : 0 < s.size) : s.toList.isEmpty = false := by
  rw [ByteArray.toList_eq]
  have hl : s.data.toList.length = s.size := by simp
  cases he : s.data.toList with
  | nil => rw [he] at hl; simp at hl; omega
  | cons a l => rfl
theorem set_empty (t : Nat) (a : Nat) (w : World) :
    Calls Try.prog 17 #[.pointer (some ⟨t, 0, none⟩), .string ⟨#[]⟩, .int .u64 (a : Int)] w fun e w' => e = .returned (.int .i64 1) ∧ w = w' := by
  go_enter Try.func17, Try.ntmps17
  go_wp2
  go_ret
  exact ⟨rfl, rfl⟩
theorem set_long (t : Nat) (id : ByteArray) (a : Nat) (w : World) (hs : 64 < id.size) (hs2 : id.size ≤ 140737488355328) :
    Calls Try.prog 17 #[.pointer (some ⟨t, 0, none⟩), .string id, .int .u64 (a : Int)] w fun e w' => e = .returned (.int .i64 1) ∧ w = w' := by
  have he : id.toList.isEmpty = false := tm_full (by omega)
  have hlt : (64 : Int) < (id.size : Int) := by omega
  go_enter Try.func17, Try.ntmps17
  go_wp2
  go_ret
  exact ⟨rfl, rfl⟩

theorem set_full (base t N : Nat) (F : Nat → Prop) (L : List Tm) (id : ByteArray) (a : Nat) (w : World) (h : TmAt base t F N L w) (h0 : 0 < id.size) (hs : id.size ≤ 64) (hL : L.length = 1024) (hno : atL L id.data.toList = none) :
    Calls Try.prog 17 #[.pointer (some ⟨t, 0, none⟩), .string id, .int .u64 (a : Int)] w (TmPost base t F N L (.int .i64 4) w) := by
  have he : id.toList.isEmpty = false := tm_full h0
  have hlt : ¬ (64 : Int) < (id.size : Int) := by omega
  have hd : dropL L id.data.toList = L := by
    rcases find_cases h id.data.toList with e | ⟨x, e⟩
    · exact e.2
    · rw [hno] at e; cases e
  have HQ := Lib.hid (And.intro h (And.intro hL (And.intro hno hd)))
  clear h hL hno hd
  go_enter Try.func17, Try.ntmps17
  go_wp2_with fail
  refine (stop_any base t N F L id w HQ.out.1 (by omega)).mono ?_
  rintro e w1 ⟨rfl, q1, k1⟩
  rw [HQ.out.2.2.1]
  rw [HQ.out.2.2.2] at q1
  go_wp2_with fail
  refine (len_any base t N F L w1 q1).mono ?_
  rintro e w2 ⟨rfl, rfl⟩
  rw [HQ.out.2.1]
  go_wp2
  go_ret
  exact ⟨F, rfl, q1, k1, fun k hk => .inl hk⟩

theorem put_str (base p m : Nat) (v : Value) (h : List En) (s : ByteArray) (a T : Nat) (w : World) (q : HeapAt base p m v h w) (hk : idsOk (h ++ [⟨s.data.toList, a, T⟩])) (hs : h.length ≤ 1024) (hbase : base ≤ w.heap.size) :
    Calls Try.prog 44 #[.pointer (some ⟨p, 0, none⟩), .agg #[.string s, .int .u64 (a : Int), .int .u64 (T : Int)]] w (PtPost base p m v (h ++ [⟨s.data.toList, a, T⟩]) w) := by
  have := box_put base p m v h ⟨s.data.toList, a, T⟩ w q hk hs hbase
  have e : (⟨s.data.toList.toArray⟩ : ByteArray) = s := by simp
  unfold enAgg at this
  simp only [e] at this
  exact this
/-- What Set leaves, behind put. -/
theorem tm_put {base t N p m T a : Nat} {v v' : Value} {F : Nat → Prop} {h h' LE : List En} {id : List UInt8} {w w' : World} (hb : Blk w t #[.iface 52 (.pointer (some ⟨p, 0, none⟩)), .int .u64 (T : Int)] 60) (hq : HeapAt base p m v h w) (hperm : h.Perm LE)
    (hpw : LE.Pairwise (fun a b => a.k < b.k)) (hk : ∀ e ∈ LE, e.k < T) (hT : T ≤ N) (hF : ∀ k, F k ↔ (k = t ∨ Foot p m v k)) (hbt : base ≤ t) (hl : (LE.map En.tm).length < 1024)
    (h2p : h'.Perm (h ++ [⟨id, a, T⟩])) (hq2 : HeapAt base p m v' h' w') (hkept : Kept (Foot p m v) w w') (hv : v'.ownBlock = v.ownBlock ∨ ∃ k, v'.ownBlock = some k ∧ w.heap.size ≤ k) :
    ∃ F', TmAt base t F' (N + 1) (LE.map En.tm ++ [(id, a)]) (w'.setCell ⟨t, 1, none⟩ (.int .u64 ((T + 1 : Nat) : Int))) ∧ Kept F w (w'.setCell ⟨t, 1, none⟩ (.int .u64 ((T + 1 : Nat) : Int))) ∧ (∀ k, F' k → F k ∨ w.heap.size ≤ k) ∧ Blk w' t #[.iface 52 (.pointer (some ⟨p, 0, none⟩)), .int .u64 (T : Int)] 60 := by
  have hnt : ¬ Foot p m v t := by
    rintro (e | e | e)
    · subst e; have := hb.symm.trans hq.at_.blk; simp at this
    · subst e; exact hq.at_.map.ne_blk hb rfl
    · exact row_block hq.at_.own hb (by decide) e
  have hb' := hkept.blk hb hnt
  have hnt' : ¬ Foot p m v' t := fun hf => hnt (Foot.turn hv hf hb.lt)
  have hg := grown_set w' t 1 (.int .u64 ((T + 1 : Nat) : Int))
  have kg : Kept (fun k => k = t) w' (w'.setCell ⟨t, 1, none⟩ (.int .u64 ((T + 1 : Nat) : Int))) := Kept.grown hg (fun k e _ => (Option.some.inj e).symm)
  have hbs := hb'.set 1 (.int .u64 ((T + 1 : Nat) : Int))
  generalize w'.setCell ⟨t, 1, none⟩ (.int .u64 ((T + 1 : Nat) : Int)) = w5 at *
  have hn : ∀ k, Foot p m v' k → ¬ k = t := fun k hk e => hnt' (e ▸ hk)
  refine ⟨fun k => k = t ∨ Foot p m v' k, ⟨p, m, v', h', T + 1, LE ++ [⟨id, a, T⟩], hbs, ⟨⟨kg.blk hq2.at_.blk (hn p (.inl rfl)), kg.own hq2.at_.own (fun k e => hn k (.inr (.inr e))), kg.map hq2.at_.map (hn m (.inr (.inl rfl))), hq2.at_.bp, hq2.at_.bm⟩, hq2.ids, hq2.hp⟩, h2p.trans (hperm.append_right _), by simp [En.tm], ?_, ?_, by omega, fun k => Iff.rfl, hbt, ?_⟩, ?_, ?_, hb'⟩
  · rw [List.pairwise_append]
    exact ⟨hpw, by simp, fun x hx y hy => by simp at hy; subst hy; exact hk x hx⟩
  · intro x hx
    rcases List.mem_append.1 hx with hx | hx
    · have := hk x hx; omega
    · simp at hx; subst hx; exact Nat.lt_succ_self _
  · rw [List.length_append]; simp at hl ⊢; omega
  · exact (hkept.mono (fun k e => (hF k).2 (.inr e))).trans kg (fun k e _ => (hF k).2 (.inl e))
  · rintro k (e | e)
    · exact .inl ((hF k).2 (.inl e))
    · by_cases hlt : k < w.heap.size
      · exact .inl ((hF k).2 (.inr (Foot.turn hv e hlt)))
      · exact .inr (by omega)
end Go.Proofs.Ytjcocgadhdgbjaa
