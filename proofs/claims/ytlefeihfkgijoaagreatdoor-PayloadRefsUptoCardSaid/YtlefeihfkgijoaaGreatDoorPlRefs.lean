/- payload: Refs: the walks. -/
import Derived.Test.YtlefeihfkgijoaaGreatDoorPlGet
import Derived.Maps.Own
import Derived.Maps.OwnOps
import Derived.Maps.Views
import Derived.Maps.Keyed
namespace Go.Proofs.YtlefeihfkgijoaaGreatDoor
open Go.RowKit Go.Shelf Go.Maps Go.WideMaps

abbrev Ky := Int × ByteArray
def nm (t : Int) (s : ByteArray) : List Ky := if s.size = 0 then [] else [(t, s)]
def Rl.cl (r : Rl) : List UInt8 := r.clu.data.toList
/-- The keys of the clusters of the first rules, each once. -/
def cluTo (rs : List Rl) : Nat → List Ky
  | 0 => []
  | k + 1 => match rs[k]? with
    | none => cluTo rs k
    | some r => if r.cl ∈ (rs.take k).map Rl.cl then cluTo rs k else cluTo rs k ++ nm 3 r.clu
def refsOf (k : Int) (p : Pl) : List Ky := if k = 1 then nm 2 p.route else if k = 2 then cluTo p.rules p.rules.length else if k = 3 then (4, p.name) :: nm 5 p.secret else []
theorem cluTo_seen {rs : List Rl} {k : Nat} {r : Rl} (h : rs[k]? = some r) (hs : r.cl ∈ (rs.take k).map Rl.cl) : cluTo rs (k + 1) = cluTo rs k := by
  simp only [cluTo, h]; rw [if_pos hs]
theorem cluTo_new {rs : List Rl} {k : Nat} {r : Rl} (h : rs[k]? = some r) (hs : ¬ r.cl ∈ (rs.take k).map Rl.cl) : cluTo rs (k + 1) = cluTo rs k ++ nm 3 r.clu := by
  simp only [cluTo, h]; rw [if_neg hs]
theorem nm_len (t : Int) (s : ByteArray) : (nm t s).length ≤ 1 := by unfold nm; split <;> simp
theorem cluTo_len (rs : List Rl) : ∀ k, (cluTo rs k).length ≤ k
  | 0 => by simp [cluTo]
  | k + 1 => by
    have ih := cluTo_len rs k
    simp only [cluTo]
    split
    · omega
    · split
      · omega
      · rename_i r _ _; have := nm_len 3 r.clu; simp; omega

def kyCells (ks : List Ky) : List Value := ks.flatMap fun x => [.int .i64 x.1, .string x.2]
theorem kyCells_append (a b : List Ky) : kyCells (a ++ b) = kyCells a ++ kyCells b := by simp [kyCells]
theorem kyCells_len (ks : List Ky) : (kyCells ks).length = ks.length * 2 := by
  induction ks with
  | nil => rfl
  | cons x xs ih => simp [kyCells] at ih ⊢; omega
def KeysAt (w : World) (a : Option Addr) (ks : List Ky) : Prop := ∀ (i : Nat) (x : Ky), ks[i]? = some x → ∃ g off, a = some ⟨g, off, none⟩ ∧ g < w.heap.size ∧ w.cell? ⟨g, off + i * 2, none⟩ = some (.int .i64 x.1) ∧ w.cell? ⟨g, off + i * 2 + 1, none⟩ = some (.string x.2)
theorem KeysAt.below {w w' : World} {a : Option Addr} {ks : List Ky} (h : KeysAt w a ks) (hb : Below w.heap.size w w') : KeysAt w' a ks := by
  intro i r hi
  obtain ⟨g, off, ha, hg, h1, h2⟩ := h i r hi
  exact ⟨g, off, ha, Nat.lt_of_lt_of_le hg hb.size, (hb.cell (p := ⟨g, _, none⟩) hg).trans h1, (hb.cell (p := ⟨g, _, none⟩) hg).trans h2⟩
theorem kyCells_get : ∀ (rs : List Ky) (i : Nat) (r : Ky), rs[i]? = some r → (kyCells rs)[i * 2]? = some (.int .i64 r.1) ∧ (kyCells rs)[i * 2 + 1]? = some (.string r.2)
  | [], i, x, h => by simp at h
  | y :: ys, 0, x, h => by simp at h; subst h; simp [kyCells]
  | y :: ys, i + 1, x, h => by
    have := kyCells_get ys i x (by simpa using h)
    have e : ∀ j, (kyCells (y :: ys))[(i + 1) * 2 + j]? = (kyCells ys)[i * 2 + j]? := fun j => by
      have : (i + 1) * 2 + j = (i * 2 + j) + 1 + 1 := by omega
      rw [this]; rfl
    have e0 := e 0
    simp only [Nat.add_zero] at e0
    rw [e0, e 1]; exact this
theorem keysAt_row {w : World} {base c : Nat} {a : Option Addr} {ks : List Ky} (h : w.ownsRow base 60 2 (.slice a ks.length c) ks.length (kyCells ks)) : KeysAt w a ks := by
  intro i r hi
  have hlt := (List.getElem?_eq_some_iff.1 hi).1
  obtain ⟨e0, e1⟩ := kyCells_get ks i r hi
  have h0 := h
  rcases h0.2 with ⟨hv, hx⟩ | ⟨g, cap, cur, hv, _⟩
  · omega
  · simp at hv
    obtain ⟨rfl, rfl⟩ := hv
    have d0 := (h.cellAt (i * 2) (by omega)).trans e0
    have d1 := (h.cellAt (i * 2 + 1) (by omega)).trans e1
    exact ⟨g, 0, rfl, World.block_lt_of_cell? w _ d0, by rw [Nat.zero_add]; exact d0, by rw [Nat.zero_add]; exact d1⟩
/-- A list of keys comes out. -/
def RefsPost (ks : List Ky) (w : World) (e : Ending) (w' : World) : Prop := ∃ a c, e = .returned (.slice a ks.length c) ∧ KeysAt w' a ks ∧ Below w.heap.size w w'
theorem RefsPost.of_row {ks : List Ky} {w w' : World} {base : Nat} {v : Value} (h : w'.ownsRow base 60 2 v ks.length (kyCells ks)) (hb : Below w.heap.size w w') : RefsPost ks w (.returned v) w' := by
  obtain ⟨a, c, rfl⟩ := owns_slice h
  exact ⟨a, c, rfl, keysAt_row h, hb⟩
theorem own_nothing {w : World} {base e size : Nat} : w.ownsRow base e size (.slice none 0 0) 0 [] := World.ownsRow_nil _ _ _ _
theorem own_block {w : World} {base e size g n cap : Nat} {cur : Array Value} {xs : List Value} (hb : base ≤ g) (hg : w.heap[g]? = some (.cells cur e (0, 0))) (h1 : cur.toList = xs) (h2 : xs.length = n * size) (h3 : cap = n) (h4 : n ≤ maxLen) : w.ownsRow base e size (.slice (some ⟨g, 0, none⟩) n cap) n xs := by
  subst h3
  have hs : cur.size = xs.length := by rw [← h1]; simp
  exact ⟨h2, Or.inr ⟨g, cap, cur, rfl, hb, hg, Nat.le_refl _, h4, by omega, by rw [h1]; exact List.take_of_length_le (by omega)⟩⟩
/-- An append of nothing. -/
theorem append_nil_any {P : Program} {w : World} {base e size n c : Nat} {t ty : TypeId} {i : TypeInfo} {v : Value} {xs : List Value} (ht : P.underlying t = some (.slice e)) (hi : P.info? e = some i) (hown : w.ownsRow base e size v n xs) : (Builtin.append_ #[t, t] ty #[v, .slice none 0 c]).run P w = .ok v w := by
  rcases hown.2 with ⟨rfl, _⟩ | ⟨g, cap, cur, rfl, _, _, hnc, _⟩
  · simp [Builtin.append_, run_underlying ht, sizeOf, typeInfo, hi, Builtin.lenOf, Builtin.firstCells]
  · simp [Builtin.append_, run_underlying ht, sizeOf, typeInfo, hi, Builtin.lenOf, Builtin.firstCells, hnc, storeCells]
theorem wpList_append_none {P : Program} {w : World} {ops : Array Oper} {rest : List Oper} {o : Oper} {a : Act} {Q : Exit → Act → World → Prop} (hgd : o.guard = none) (s x : Operand) (t : TypeId)
    (ho : o.op = .call { callee := .builtin .append, args := #[s, x], argTypes := #[t, t] }) (base e size n c : Nat) (i : TypeInfo) (v : Value) (xs : List Value) (ht : P.underlying t = some (.slice e)) (hi : P.info? e = some i)
    (hs : a.eval s = v) (hx : a.eval x = .slice none 0 c) (hown : w.ownsRow base e size v n xs) (h : wpList P ops Q rest (a.put o.dst v) w) : wpList P ops Q (o :: rest) a w := by
  refine wpList_plain hgd fun K hK => ?_
  have hr := append_nil_any (ty := o.type) (c := c) ht hi hown
  unfold Oper.wp execOp
  simp only [ho, resolve, invoke, builtin, Sem.run_bind, Sem.run_pure, Result.andThen_ok, List.map_toArray, List.map_cons, List.map_nil, hs, hx, hr]
  exact hK _ _ h
theorem wf_small {x : Int} (h1 : 0 ≤ x) (h2 : x ≤ 9223372036854775807) : (Lit.int .i64 x).wf = true := by
  have e1 : IntKind.i64.min = -9223372036854775808 := by kernel_rfl
  have e2 : IntKind.i64.max = 9223372036854775807 := by kernel_rfl
  simp only [Lit.wf, e1, e2, Bool.and_eq_true, decide_eq_true_eq]; omega
theorem Tryz.infoKy : (Tryz.prog.info? 60).map (fun i => (i.zero, i.size, i.bytes)) = some (some (.agg #[.int .i64 0, .string ⟨#[]⟩]), 2, 24) := by kernel_rfl
theorem Tryz.lawStr : Keyed Tryz.prog 9 := string_keyed Tryz.underlying9
theorem Tryz.zeroInt (w : World) : (zeroValue 3).run Tryz.prog w = .ok (.int .i64 0) w := by kernel_rfl

/-- How often a text stands among the first rules' clusters. -/
def cnt (rs : List Rl) (k : Nat) (l : List UInt8) : Nat := ((rs.take k).map Rl.cl).count l
theorem cnt_succ {rs : List Rl} {k : Nat} {r : Rl} (h : rs[k]? = some r) (l : List UInt8) : cnt rs (k + 1) l = cnt rs k l + if r.cl = l then 1 else 0 := by
  obtain ⟨hk, rfl⟩ := List.getElem?_eq_some_iff.1 h
  unfold cnt
  rw [List.take_succ_eq_append_getElem hk, List.map_append, List.count_append]
  simp [List.count_cons]
theorem cnt_le (rs : List Rl) (k : Nat) (l : List UInt8) : cnt rs k l ≤ k := by
  have := List.count_le_length (a := l) (l := (rs.take k).map Rl.cl)
  unfold cnt; simp at this ⊢; omega
theorem cnt_mem {rs : List Rl} {k : Nat} {l : List UInt8} : 0 < cnt rs k l ↔ l ∈ (rs.take k).map Rl.cl := List.count_pos_iff
/-- The map counts. -/
def Counts (D : DataW Unit) (rs : List Rl) (k : Nat) : Prop := IsMap D ∧ ∀ l : List UInt8, D.atKey (.string l) (.lit (.int .i64 0)) = .lit (.int .i64 (cnt rs k l : Int))
theorem Counts.start (rs : List Rl) : Counts (.map []) rs 0 := ⟨isMap_empty, fun l => by simp [cnt]; rfl⟩
theorem Counts.step {D : DataW Unit} {rs : List Rl} {k : Nat} {r : Rl} {x : Int} (h : Counts D rs k) (hr : rs[k]? = some r) (hx : x = (cnt rs k r.cl : Int) + 1) : Counts (D.put (.string r.cl) (.lit (.int .i64 x))) rs (k + 1) := by
  refine ⟨h.1.put _ _, fun l => ?_⟩
  rw [cnt_succ hr l]
  by_cases he : r.cl = l
  · subst he
    rw [atKey_put_same h.1 (by simp [WideAt.IsKeyLit]), hx]; simp
  · rw [atKey_put_other (by simpa using fun e => he e.symm), h.2 l, if_neg he]; simp

theorem map_apart {H : Type} {w : World} {P : Program} {K : TypeId} {R : Value → Option (DataW H × List MemPlace)} {b n base e size m : Nat} {D : DataW H} {v : Value} {xs : List Value} (hm : w.ownsMap P K R b n D) (h : w.ownsRow base e size v m xs) : v.ownBlock ≠ some b := by
  rcases h.2 with ⟨rfl, _⟩ | ⟨g, cap, cur, rfl, _, hg, _⟩
  · simp [Value.ownBlock]
  · intro he
    simp [Value.ownBlock] at he
    subst he
    obtain ⟨es, i, hh, _⟩ := hm
    rw [hg] at hh
    simp at hh
set_option maxRecDepth 100000 in
set_option maxHeartbeats 4000000 in
theorem clusters_any (a : Option Addr) (c : Nat) (rs : List Rl) (w : World) (h : RulesAt w a rs) (hlen : rs.length ≤ 1099511627776) (hsz : ∀ r ∈ rs, r.clu.size ≤ maxLen) :
    Calls Tryz.prog 35 #[.slice a rs.length c] w (RefsPost (cluTo rs rs.length) w) := by
  obtain ⟨n, hn⟩ : ∃ n, rs.length = n := ⟨_, rfl⟩
  have HN := Lib.hid hn
  rw [hn] at hlen ⊢
  have HR := Lib.hid h
  have HS := Lib.hid hsz
  clear hn h hsz
  obtain ⟨i0, hi, hz0, hz1, hz2⟩ := info_parts Tryz.infoKy
  have hmm := @run_makeMap Tryz.prog
  go_enter Tryz.func35, Tryz.ntmps35
  go_wp2_with fail
  go_loopw [3, 10] (fun v i wr => ∃ (k : Nat) (D : DataW Unit), k ≤ n ∧ i = .int .i64 k ∧ wr.ownsMap Tryz.prog 9 (plainElem Tryz.prog 3) w.heap.size k D ∧ Counts D rs k ∧ wr.ownsRow w.heap.size 60 2 v (cluTo rs k).length (kyCells (cluTo rs k)) ∧ Below w.heap.size w wr) (fun _ i _ => n - (intOf i).toNat)
  case atStart => exact ⟨0, .map [], Nat.zero_le _, rfl, World.ownsMap_made _ _ _ _, Counts.start rs, own_nothing, (Below.refl _ _).alloc (Nat.le_refl _) _⟩
  case round =>
    obtain ⟨k, D, hk, rfl, hmap, hcnt, hrow, hb⟩ := hrel
    by_cases hlt : k < n
    · obtain ⟨r, hx⟩ : ∃ r, rs[k]? = some r := ⟨_, List.getElem?_eq_getElem (by have := HN.out; omega)⟩
      obtain ⟨g, off, rfl, hgl, q0, q1⟩ := HR.out k r hx
      have p0 := (hb.cell (p := ⟨g, _, none⟩) hgl).trans q0
      have p1 := (hb.cell (p := ⟨g, _, none⟩) hgl).trans q1
      clear q0 q1
      have hkey : keyOf Tryz.prog 9 (.string r.clu) = some (.string r.cl) := keyOf_string_mk Tryz.underlying9 (HS.out r (List.mem_of_getElem? hx))
      have hltm := hmap.lt
      have hm2 := hmap.alloc (.cells #[.string r.pre, .string r.clu] 62)
      obtain ⟨c1, hrun, hat, _⟩ := hm2.lookup_int Tryz.lawStr Tryz.underlying109 Tryz.underlying3 (Tryz.zeroInt _) hkey
      rw [hcnt.2] at hat
      have hc1 : c1 = (cnt rs k r.cl : Int) := by simpa using hat.symm
      have hle := cnt_le rs k r.cl
      obtain ⟨m, hm⟩ : ∃ m, cnt rs k r.cl = m := ⟨_, rfl⟩
      rw [hm] at hc1 hle
      subst hc1
      have HM := Lib.hid hm
      have HX := Lib.hid hx
      have HC := Lib.hid hcnt
      have HB := Lib.hid hb
      have HRow := Lib.hid hrow
      have HMap := Lib.hid hm2
      have b0 : (0 : Int) ≤ (k : Int) := by omega
      have b1 : (k : Int) < (n : Int) := by omega
      clear hm hx hcnt hb hrow hm2 hat hmap
      have hs := HB.out.size
      have hwf : (Lit.int .i64 ((m : Int) + 1)).wf = true := wf_small (by omega) (by omega)
      go_wp2_with (at_mapUpdate; refine wpList_mapUpdate_own _ rfl _ _ _ 109 rfl 9 3 Tryz.lawStr Tryz.underlying109 _ w.heap.size k _ rfl HMap.out (by unfold maxLen; omega) _ _ _ rfl rfl hkey _ [] (plainElem_int Tryz.underlying3 hwf) ?_)
      intro w1 hown1 hgrow1
      have hs1 := hgrow1.size
      rw [World.size_alloc] at hs1
      have HC1 := Lib.hid (HC.out.step (x := (m : Int) + 1) HX.out (by rw [HM.out]))
      obtain ⟨c2, hrun2, hat2, _⟩ := hown1.lookup_int Tryz.lawStr Tryz.underlying109 Tryz.underlying3 (Tryz.zeroInt _) hkey
      rw [HC1.out.2, cnt_succ HX.out, if_pos rfl, HM.out] at hat2
      have hc2 : c2 = (m : Int) + 1 := by simp at hat2; omega
      subst hc2
      have HB1 := Lib.hid (((HB.out.alloc (by omega) _).grown hgrow1 (by rw [World.size_alloc]; omega) (fun j hj => by cases hj; exact Nat.le_refl _)))
      have hblk : w1.heap[wr.heap.size]? = some (.cells #[.string r.pre, .string r.clu] 62 (0, 0)) := (hgrow1.block wr.heap.size (by rw [World.size_alloc]; omega) (by simp; omega)).trans (World.alloc_heap_new wr _)
      have d0 := (Lib.cell_of_heap hblk 0).trans rfl
      have d1 := (Lib.cell_of_heap hblk 1).trans rfl
      have HRow1 := Lib.hid (own_other (HRow.out.alloc (.cells #[.string r.pre, .string r.clu] 62)) hgrow1 (fun g hg e => by
        have := (HRow.out.lt g hg); cases e; exact map_apart HMap.out (HRow.out.alloc (.cells #[.string r.pre, .string r.clu] 62)) hg))
      have HMap1 := Lib.hid hown1
      clear hown1 hgrow1 hat2 hblk hrun hkey
      by_cases hm0 : m = 0
      · have hq : ((m : Int) + 1 == 1) = true := by simp; omega
        have HNew := Lib.hid (cluTo_new HX.out (fun h => by have := cnt_mem.2 h; have := HM.out; omega))
        clear hm0
        by_cases h0 : r.clu.size = 0
        · have HN0 := Lib.hid (show cluTo rs (k + 1) = cluTo rs k by rw [HNew.out]; simp [nm, h0])
          have H0 := Lib.hid h0
          clear h0
          go_wp2_with fail
          refine (named_none 3 r.clu _ H0.out).mono ?_
          rintro e w2 ⟨rfl, rfl⟩
          go_wp2_with (at_builtin; go_must (refine wpList_append_none rfl _ _ 42 rfl w.heap.size 60 2 _ 0 i0 _ _ Tryz.underlying42 hi rfl rfl HRow1.out ?_))
          go_roundw
          case rel => exact ⟨k + 1, _, by omega, by go_num, HMap1.out, HC1.out, by rw [HN0.out]; exact HRow1.out, HB1.out⟩
          case measure => simp [intOf]; omega
        · have HN0 := Lib.hid (show cluTo rs (k + 1) = cluTo rs k ++ [(3, r.clu)] by rw [HNew.out]; simp [nm, h0])
          have H0 := Lib.hid (show 0 < r.clu.size by omega)
          have hcl := cluTo_len rs k
          clear h0
          go_wp2_with fail
          refine (named_some 3 r.clu _ H0.out).mono ?_
          rintro e w2 ⟨rfl, rfl⟩
          go_wp2_with (at_builtin; go_must (refine wpList_append_own _ rfl _ _ 42 rfl w.heap.size 60 i0 _ 2 24 Tryz.underlying42 hi hz0 hz1 hz2 rfl (by omega) _ _ _ rfl (HRow1.out.alloc _) ⟨w1.heap.size, 0, none⟩ 1 1 [.int .i64 3, .string r.clu] rfl rfl (World.news_of_block (cs := #[.int .i64 3, .string r.clu]) (t := 60) (fr := (0, 0)) (heap_alloc_new w1 _)) (by simp [Value.oneCell']) (by unfold maxLen; omega) (by omega) (by simp; omega) ?_; intro v' w3 hown3 hgrow3 _))
          have HRow3 := Lib.hid (show w3.ownsRow w.heap.size 60 2 v' (cluTo rs k ++ [(3, r.clu)]).length (kyCells (cluTo rs k ++ [(3, r.clu)])) by rw [kyCells_append, List.length_append]; exact hown3)
          have HMap3 := Lib.hid ((HMap1.out.alloc (.cells #[.int .i64 3, .string r.clu] 60)).kept hgrow3 (fun e => map_apart HMap1.out HRow1.out e.symm))
          have HB3 := Lib.hid ((HB1.out.alloc (by omega) _).grown hgrow3 (by simp; omega) (fun j hj => (HRow1.out.lt j hj).1))
          clear hown3 hgrow3
          go_wp2_with fail
          go_roundw
          case rel => exact ⟨k + 1, _, by omega, by go_num, HMap3.out, HC1.out, by rw [HN0.out]; exact HRow3.out, HB3.out⟩
          case measure => simp [intOf]; omega
      · have hq : ((m : Int) + 1 == 1) = false := by simp; omega
        have HOld := Lib.hid (cluTo_seen HX.out (cnt_mem.1 (by have := HM.out; omega)))
        clear hm0
        go_wp2_with fail
        go_roundw
        case rel => exact ⟨k + 1, _, by omega, by go_num, HMap1.out, HC1.out, by rw [HOld.out]; exact HRow1.out, HB1.out⟩
        case measure => simp [intOf]; omega
    · obtain rfl : k = n := by omega
      have HRow := Lib.hid hrow
      have HB := Lib.hid hb
      clear hmap hcnt hrow hb
      go_wp2_with fail
      go_ret
      exact RefsPost.of_row HRow.out HB.out

theorem refs_named (t : Int) (s : ByteArray) (w : World) : Calls Tryz.prog 34 #[.int .i64 t, .string s] w (RefsPost (nm t s) w) := by
  by_cases h0 : s.size = 0
  · refine (named_none t s w h0).mono ?_
    rintro e w' ⟨rfl, rfl⟩
    simp only [nm, h0, if_true]
    exact ⟨none, 0, rfl, fun i x hi => by simp at hi, Below.refl _ _⟩
  · refine (named_some t s w (by omega)).mono ?_
    rintro e w' ⟨rfl, rfl⟩
    simp only [nm, h0, if_false]
    refine ⟨some ⟨w.heap.size, 0, none⟩, 1, rfl, fun i x hi => ?_, below_alloc w _⟩
    match i with
    | 0 =>
      simp at hi
      subst hi
      exact ⟨w.heap.size, 0, rfl, by rw [World.size_alloc]; omega, (new_cell w _ _ 0).trans rfl, (new_cell w _ _ 1).trans rfl⟩
    | i + 1 => simp at hi
theorem step_append_none {P : Program} {w : World} {ops : Array Oper} {o : Oper} {a : Act} {K : Act → World → Prop} {Q : Exit → Act → World → Prop} {E : Prop} (hgd : o.guard = none) (s x : Operand) (t : TypeId)
    (ho : o.op = .call { callee := .builtin .append, args := #[s, x], argTypes := #[t, t] }) (base e size n c : Nat) (i : TypeInfo) (v : Value) (xs : List Value) (ht : P.underlying t = some (.slice e)) (hi : P.info? e = some i)
    (hs : a.eval s = v) (hx : a.eval x = .slice none 0 c) (hown : w.ownsRow base e size v n xs) (h : K (a.put o.dst v) w) : if Region.wanted o (yielded ops a.tmps) = true then Oper.wp P o a w K Q else E := by
  have hw : Region.wanted o (yielded ops a.tmps) = true := by simp [Region.wanted, hgd]
  rw [if_pos hw]
  have hr := append_nil_any (ty := o.type) (c := c) ht hi hown
  unfold Oper.wp execOp
  simp only [ho, resolve, invoke, builtin, Sem.run_bind, Sem.run_pure, Result.andThen_ok, List.map_toArray, List.map_cons, List.map_nil, hs, hx, hr]
  exact h
theorem keys_two (X : World) (x y : Ky) (Z : Array Value) (n : Nat) (hn : X.heap.size = n) : KeysAt ((X.alloc (.cells (#[.int .i64 x.1, .string x.2] ++ (#[.int .i64 y.1, .string y.2] ++ Z)) 60)).drew.drew) (some ⟨n, 0, none⟩) [x, y] := by
  subst hn
  have h : ∀ j, ((X.alloc (.cells (#[.int .i64 x.1, .string x.2] ++ (#[.int .i64 y.1, .string y.2] ++ Z)) 60)).drew.drew).cell? ⟨X.heap.size, j, none⟩ = (#[.int .i64 x.1, .string x.2] ++ (#[.int .i64 y.1, .string y.2] ++ Z))[j]? := fun j => new_cell X _ _ j
  have hl : X.heap.size < ((X.alloc (.cells (#[.int .i64 x.1, .string x.2] ++ (#[.int .i64 y.1, .string y.2] ++ Z)) 60)).drew.drew).heap.size := by
    rw [World.size_drew, World.size_drew, World.size_alloc]; omega
  intro i z hz
  match i with
  | 0 => simp at hz; subst hz; exact ⟨_, 0, rfl, hl, by rw [h]; simp [Array.getElem?_append], by rw [h]; simp [Array.getElem?_append]⟩
  | 1 => simp at hz; subst hz; exact ⟨_, 0, rfl, hl, by rw [h]; simp [Array.getElem?_append], by rw [h]; simp [Array.getElem?_append]⟩
  | i + 2 => simp at hz
theorem RefsPost.shape {ks : List Ky} {w : World} {e : Ending} {w' : World} (h : RefsPost ks w e w') : ∃ a c, e = .returned (.slice a ks.length c) ∧ KeysAt w' a ks ∧ Below w.heap.size w w' := h
set_option maxRecDepth 100000 in
set_option maxHeartbeats 4000000 in
theorem refs_any (k : Int) (p : Pl) (a3 a6 : Option Addr) (c3 c6 : Nat) (w : World) (h3 : RulesAt w a3 p.rules) (hl : p.rules.length ≤ 1099511627776) (hsz : ∀ r ∈ p.rules, r.clu.size ≤ maxLen) :
    Calls Tryz.prog 18 #[.int .i64 k, plV p a3 c3 a6 c6] w (RefsPost (refsOf k p) w) := by
  have up := below_alloc w (.cells (plCells p a3 c3 a6 c6) 26)
  have HUP := Lib.hid up
  have H3 := Lib.hid (h3.below up)
  have HS := Lib.hid hsz
  clear h3 hsz up
  by_cases h1 : k = 1
  · subst h1
    rw [show refsOf 1 p = nm 2 p.route from rfl]
    go_enter Tryz.func18, Tryz.ntmps18
    go_wp2_with fail
    refine (refs_named 2 p.route _).mono ?_
    rintro e w2 ⟨a, c, rfl, hk, hb⟩
    have HK := Lib.hid hk
    have HB := Lib.hid (HUP.out.trans (hb.mono HUP.out.size))
    clear hk hb
    go_wp2_with fail
    go_ret
    exact ⟨a, c, rfl, HK.out, HB.out⟩
  · have q1 : (k == 1) = false := by simp; omega
    by_cases h2 : k = 2
    · subst h2
      rw [show refsOf 2 p = cluTo p.rules p.rules.length from rfl]
      clear h1 q1
      go_enter Tryz.func18, Tryz.ntmps18
      go_wp2_with fail
      refine (clusters_any a3 c3 p.rules _ H3.out hl HS.out).mono ?_
      rintro e w2 ⟨a, c, rfl, hk, hb⟩
      have HK := Lib.hid hk
      have HB := Lib.hid (HUP.out.trans (hb.mono HUP.out.size))
      clear hk hb
      go_wp2_with fail
      go_ret
      exact ⟨a, c, rfl, HK.out, HB.out⟩
    · have q2 : (k == 2) = false := by simp; omega
      by_cases h4 : k = 3
      · subst h4
        clear h1 h2 q1 q2
        obtain ⟨i0, hi, hz0, hz1, hz2⟩ := info_parts Tryz.infoKy
        by_cases h0 : p.secret.size = 0
        · have H0 := Lib.hid h0
          rw [show refsOf 3 p = [(4, p.name)] by simp [refsOf, nm, h0]]
          clear h0
          have n0 : (w.alloc (.cells (plCells p a3 c3 a6 c6) 26)).cell? ⟨w.heap.size, 0, none⟩ = some (.string p.name) := (new_cell w _ _ 0).trans rfl
          have n5 : (w.alloc (.cells (plCells p a3 c3 a6 c6) 26)).cell? ⟨w.heap.size, 5, none⟩ = some (.string p.secret) := (new_cell w _ _ 5).trans rfl
          have HN := Lib.hid (show _ ∧ _ from ⟨n0, n5⟩)
          have hX := World.alloc_heap_new (w.alloc (.cells (plCells p a3 c3 a6 c6) 26)).drew (.cells #[.int .i64 4, .string p.name] 60)
          rw [World.size_drew, World.size_alloc] at hX
          have HX := Lib.hid (own_block (base := w.heap.size) (size := 2) (n := 1) (cap := 1) (xs := [.int .i64 4, .string p.name]) (by omega) hX rfl rfl rfl (by decide))
          have HBe := Lib.hid (HUP.out.drew.alloc (by rw [World.size_drew, World.size_alloc]; omega) (.cells #[.int .i64 4, .string p.name] 60))
          clear n0 n5 hX
          go_enter Tryz.func18, Tryz.ntmps18
          go_wp2_with fail
          go_region_held3 (fun w' => w'.cell? ⟨w.heap.size, 0, none⟩ = some (.string p.name) ∧ w'.cell? ⟨w.heap.size, 5, none⟩ = some (.string p.secret))
            (first | exact HN.out | go_keep)
            (first
              | (go_at_call 34; (with_reducible refine (named_none 5 p.secret _ H0.out).mono ?_); rintro e w2 ⟨rfl, rfl⟩)
              | (refine step_append_none (by rfl) _ _ 42 (by rfl) w.heap.size 60 2 _ 0 i0 _ _ Tryz.underlying42 hi (by rfl) (by rfl) HX.out ?_))
          all_goals
            go_wp2
            go_ret
            exact RefsPost.of_row (ks := [(4, p.name)]) HX.out HBe.out
        · have H0 := Lib.hid (show 0 < p.secret.size by omega)
          rw [show refsOf 3 p = [(4, p.name), (5, p.secret)] by simp [refsOf, nm, h0]]
          clear h0
          have n0 : (w.alloc (.cells (plCells p a3 c3 a6 c6) 26)).cell? ⟨w.heap.size, 0, none⟩ = some (.string p.name) := (new_cell w _ _ 0).trans rfl
          have n5 : (w.alloc (.cells (plCells p a3 c3 a6 c6) 26)).cell? ⟨w.heap.size, 5, none⟩ = some (.string p.secret) := (new_cell w _ _ 5).trans rfl
          have HN := Lib.hid (show _ ∧ _ from ⟨n0, n5⟩)
          clear n0 n5
          go_enter Tryz.func18, Tryz.ntmps18
          go_wp2_with fail
          go_region_held3 (fun w' => w'.cell? ⟨w.heap.size, 0, none⟩ = some (.string p.name) ∧ w'.cell? ⟨w.heap.size, 5, none⟩ = some (.string p.secret))
            (first | exact HN.out | go_keep)
            (first
              | (go_at_call 34; (with_reducible refine (named_some 5 p.secret _ H0.out).mono ?_); rintro e w2 ⟨rfl, rfl⟩))
          all_goals
            go_wp2
            go_ret
            refine ⟨some ⟨w.heap.size + 1 + 1 + 1, 0, none⟩, _, rfl, keys_two _ (4, p.name) (5, p.secret) _ _ (by simp only [World.size_alloc]), ?_⟩
            exact (below_more (below_more (below_more (below_alloc w _) _) _) _).drew.drew
      · have q3 : (k == 3) = false := by simp; omega
        rw [show refsOf k p = [] by simp [refsOf, h1, h2, h4]]
        clear h1 h2 h4
        go_enter Tryz.func18, Tryz.ntmps18
        go_wp2_with fail
        go_ret
        exact ⟨none, 0, rfl, fun i x hi => by simp at hi, HUP.out⟩
end Go.Proofs.YtlefeihfkgijoaaGreatDoor
