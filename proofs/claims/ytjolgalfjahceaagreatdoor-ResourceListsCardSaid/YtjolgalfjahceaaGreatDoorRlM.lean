/- resource: what the reference's Sort is, and that the program's is the same list: plain. resource: the reference's Find, Cut, Newer of any list. resource: the reference's Set and Sort of any list. resource: the reference's Sort of any list. ResourceLists: the walk (tools/rlwalk_gen.py). -/
import Derived.Test.YtjolgalfjahceaaGreatDoorRsM
import Derived.Test.YtjolgalfjahceaaGreatDoorVrSetM
import Derived.Laws.StructEq
import Derived.Laws.Slices
import Derived.BigQuiet
namespace Go.Proofs.YtjolgalfjahceaaGreatDoor
open Go.RowKit Go.Lib Go.Sort

/-- The reference's Sort takes one more. -/
def refStep (out : List Vr) (r : Vr) : List Vr :=
  match out.find? (keyB r.t r.x) with
  | none => setL r out
  | some s => if s.q < r.q then setL r out else out
def refS (l : List Vr) : List Vr := l.foldl refStep []
theorem refS_snoc (l : List Vr) (r : Vr) : refS (l ++ [r]) = refStep (refS l) r := by simp [refS]
theorem refS_next {l : List Vr} {k : Nat} {r : Vr} (h : l[k]? = some r) : refS (l.take (k + 1)) = refStep (refS (l.take k)) r := by
  rw [List.take_add_one, h]; exact refS_snoc _ _
abbrev Strict (l : List Vr) : Prop := l.Pairwise (fun a b => vrCmp a b < 0)
theorem vrCmp_neg (a b : Vr) : vrCmp b a = - vrCmp a b := ord_neg _ _ _ _
theorem vrCmp_trans {a b c : Vr} (h1 : vrCmp a b < 0) (h2 : vrCmp b c < 0) : vrCmp a c < 0 := by
  have := vrCmp_swo.trans a b c (by simpa [ltOf] using h1) (by simpa [ltOf] using h2)
  simpa [ltOf] using this
theorem strict_once : ∀ {l : List Vr}, Strict l → Once l
  | [], _ => by simp [Once]
  | y :: ys, h => by
    have hp := List.pairwise_cons.1 h
    have ih := strict_once hp.2
    unfold Once at ih ⊢
    rw [List.map_cons, List.nodup_cons]
    refine ⟨fun hm => ?_, ih⟩
    obtain ⟨z, hz, he⟩ := List.mem_map.1 hm
    have h1 := hp.1 z hz
    have h2 : vrCmp y z = 0 := by
      unfold kOf at he
      injection he with e1 e2
      exact (ord_zero _ _ _ _).2 ⟨e1.symm, by rw [e2]⟩
    omega
/-- Something is set in a list in order that has nothing of its key. -/
theorem put_strict (r : Vr) (l : List Vr) (h : Strict l) (hn : ∀ y ∈ l, keyB r.t r.x y = false) : Strict (l.take (posL r l) ++ r :: l.drop (posL r l)) := by
  have hne : ∀ y ∈ l, vrCmp y r ≠ 0 := by
    intro y hy e
    obtain ⟨e1, e2⟩ := (ord_zero _ _ _ _).1 e
    have := hn y hy
    unfold keyB at this
    rw [e1, e2] at this
    simp at this
  have hbeh : ∀ y, behB r.t r.x y = decide (0 < vrCmp y r) := fun y => rfl
  have hlow : ∀ y ∈ l.take (posL r l), vrCmp y r < 0 := by
    intro y hy
    obtain ⟨i, hi, rfl⟩ := List.mem_iff_getElem.1 hy
    rw [List.getElem_take]
    rw [List.length_take] at hi
    have hil : i < l.length := by omega
    have h0 : behB r.t r.x l[i] = false := by
      unfold posL at hi
      split at hi
      · have := List.not_of_lt_findIdx (p := behB r.t r.x) (xs := l) (i := i) (by omega)
        simpa using this
      · rename_i ha
        have ha' : l.any (behB r.t r.x) = false := by simpa using ha
        rw [List.any_eq_false] at ha'
        simpa using ha' l[i] (List.getElem_mem hil)
    rw [hbeh] at h0
    have h1 := of_decide_eq_false h0
    have h2 := hne l[i] (List.getElem_mem hil)
    omega
  have hhigh : ∀ y ∈ l.drop (posL r l), vrCmp r y < 0 := by
    intro y hy
    obtain ⟨i, hi, rfl⟩ := List.mem_iff_getElem.1 hy
    rw [List.getElem_drop]
    rw [List.length_drop] at hi
    have hp : posL r l < l.length := by omega
    have hf : 0 < vrCmp l[posL r l] r := by
      have hany : l.any (behB r.t r.x) = true := by
        unfold posL at hp
        split at hp
        · assumption
        · omega
      have he : posL r l = l.findIdx (behB r.t r.x) := by unfold posL; rw [if_pos hany]
      have hlt : l.findIdx (behB r.t r.x) < l.length := by rw [← he]; exact hp
      have := List.findIdx_getElem (w := hlt)
      rw [hbeh] at this
      have h2 := of_decide_eq_true this
      simp only [he]; exact h2
    have hr : vrCmp r l[posL r l] < 0 := by rw [vrCmp_neg]; omega
    by_cases h0 : i = 0
    · subst h0; exact hr
    · exact vrCmp_trans hr (List.pairwise_iff_getElem.1 h (posL r l) (posL r l + i) hp (by omega) (by omega))
  rw [show Strict (l.take (posL r l) ++ r :: l.drop (posL r l)) ↔ _ from List.pairwise_append]
  refine ⟨h.sublist (List.take_sublist _ _), List.pairwise_cons.2 ⟨hhigh, h.sublist (List.drop_sublist _ _)⟩, ?_⟩
  intro a ha b hb
  rcases List.mem_cons.1 hb with rfl | hb
  · exact hlow a ha
  · exact vrCmp_trans (hlow a ha) (hhigh b hb)
theorem setL_strict (r : Vr) (l : List Vr) (h : Strict l) : Strict (setL r l) := by
  unfold setL
  exact put_strict r _ (h.sublist List.filter_sublist) (cutL_none r.t r.x l)
theorem refStep_strict {out : List Vr} (r : Vr) (h : Strict out) : Strict (refStep out r) := by
  unfold refStep
  split
  · exact setL_strict r out h
  · split
    · exact setL_strict r out h
    · exact h
theorem setL_perm (r : Vr) (l : List Vr) : (setL r l).Perm (r :: cutL r.t r.x l) := by
  unfold setL
  generalize cutL r.t r.x l = c
  have := (List.perm_middle (a := r) (l₁ := c.take (posL r c)) (l₂ := c.drop (posL r c)))
  rw [List.take_append_drop] at this
  exact this
theorem find_perm {a b : List Vr} (hp : a.Perm b) (ho : Once b) (k : Rk) : a.find? (keyB k.1 k.2) = b.find? (keyB k.1 k.2) := by
  cases hb : b.find? (keyB k.1 k.2) with
  | none =>
    rw [List.find?_eq_none] at hb ⊢
    intro y hy
    exact hb y (hp.mem_iff.1 hy)
  | some s =>
    have hm := List.mem_of_find?_eq_some hb
    have hk : kOf s = k := (keyB_iff k s).1 (List.find?_some hb)
    exact find_once (once_perm hp ho) (hp.mem_iff.2 hm) k hk
theorem set_perm {l : List Vr} {i : Nat} {r : Vr} (ho : Once l) (h : l.findIdx? (keyB r.t r.x) = some i) : (l.set i r).Perm (r :: cutL r.t r.x l) := by
  obtain ⟨hi, hy, _⟩ := List.findIdx?_eq_some_iff_getElem.1 h
  have hsplit : l = l.take i ++ l[i] :: l.drop (i + 1) := by
    rw [← List.drop_eq_getElem_cons hi, List.take_append_drop]
  have hset : l.set i r = l.take i ++ r :: l.drop (i + 1) := by
    rw [List.set_eq_take_append_cons_drop, if_pos hi]
  have hcut : cutL r.t r.x l = l.take i ++ l.drop (i + 1) := by
    have hn : ∀ y ∈ l.take i ++ l.drop (i + 1), keyB r.t r.x y = false := by
      intro y hym
      cases hb : keyB r.t r.x y with
      | false => rfl
      | true =>
        exfalso
        have e1 : kOf y = kOf r := (keyB_iff (kOf r) y).1 hb
        have e2 : kOf l[i] = kOf r := (keyB_iff (kOf r) _).1 hy
        have hod : (kOf l[i] :: (l.take i ++ l.drop (i + 1)).map kOf).Nodup := by
          have h2 : (l.map kOf).Perm (kOf l[i] :: (l.take i ++ l.drop (i + 1)).map kOf) := by
            have := (List.perm_middle (a := l[i]) (l₁ := l.take i) (l₂ := l.drop (i + 1))).map kOf
            rw [← hsplit] at this
            exact this
          exact h2.nodup_iff.1 ho
        exact (List.nodup_cons.1 hod).1 (List.mem_map.2 ⟨y, hym, e1.trans e2.symm⟩)
    have h3 : cutL r.t r.x l = cutL r.t r.x (l.take i ++ l[i] :: l.drop (i + 1)) := by rw [← hsplit]
    rw [h3]
    have h4 := cutL_again r.t r.x _ hn
    unfold cutL at h4 ⊢
    rw [List.filter_append, List.filter_cons, hy]
    rw [List.filter_append] at h4
    simpa using h4
  rw [hset, hcut]
  exact List.perm_middle
theorem refS_all : ∀ (n : Nat) (l : List Vr), l.length = n → Strict (refS l) ∧ (refS l).Perm (newL l)
  | 0, l, h => by rw [List.eq_nil_of_length_eq_zero h]; exact ⟨List.Pairwise.nil, List.Perm.refl _⟩
  | n + 1, l, h => by
    obtain ⟨l', r, rfl⟩ : ∃ l' r, l = l' ++ [r] := snoc_of l (by intro e; rw [e] at h; simp at h)
    obtain ⟨hs, hp⟩ := refS_all n l' (by simp at h; omega)
    rw [refS_snoc, newL_snoc]
    refine ⟨refStep_strict r hs, ?_⟩
    have ho := newL_once l'
    have hf := find_perm hp ho (kOf r)
    have hcp : (cutL r.t r.x (refS l')).Perm (cutL r.t r.x (newL l')) := hp.filter _
    generalize refS l' = R at *
    generalize newL l' = N at *
    unfold refStep newStep
    have hf' : R.find? (keyB r.t r.x) = N.find? (keyB r.t r.x) := hf
    rw [hf']
    cases hi : N.findIdx? (keyB r.t r.x) with
    | none =>
      have hnone : N.find? (keyB r.t r.x) = none := by
        rw [List.find?_eq_none]
        intro y hy
        rw [List.findIdx?_eq_none_iff.1 hi y hy]; simp
      rw [hnone]
      have hc : cutL r.t r.x N = N := cutL_again _ _ _ (fun y hy => List.findIdx?_eq_none_iff.1 hi y hy)
      rw [hc] at hcp
      exact (setL_perm r R).trans ((hcp.cons r).trans (by rw [← List.append_nil (r :: N), List.cons_append, List.append_nil]; exact (List.perm_append_singleton r N).symm))
    | some i =>
      obtain ⟨hl, hy, _⟩ := List.findIdx?_eq_some_iff_getElem.1 hi
      have hsome : N.find? (keyB r.t r.x) = some N[i] := find_once ho (List.getElem_mem hl) (kOf r) ((keyB_iff (kOf r) _).1 hy)
      rw [hsome]
      simp only [List.getElem?_eq_getElem hl, Option.map_some, Option.getD_some]
      split
      · exact (setL_perm r R).trans ((hcp.cons r).trans (set_perm ho hi).symm)
      · exact hp
/-- A permutation in order of the newest is what the reference's Sort tells. -/
theorem refS_is {l ys : List Vr} (hp : ys.Perm (newL l)) (hs : ∀ i j, i < j → j < ys.length → ltOf vrCmp ys[j]! ys[i]! = false) : ys = refS l := by
  have h := refS_all _ l rfl
  have ho : Once ys := once_perm hp (newL_once l)
  exact sorted_same (refS l) ys (hp.trans h.2.symm) (strict_once h.1) h.1 (strict_of ho hs)
theorem refS_len (l : List Vr) : (refS l).length ≤ l.length := by
  rw [(refS_all _ l rfl).2.length_eq]; exact newL_len _ _ rfl
theorem setL_len (r : Vr) (l : List Vr) : (setL r l).length ≤ l.length + 1 := by
  rw [(setL_perm r l).length_eq, List.length_cons]
  have : (cutL r.t r.x l).length ≤ l.length := List.length_filter_le _ _
  omega
end Go.Proofs.YtjolgalfjahceaaGreatDoor
namespace Go.Proofs.YtjolgalfjahceaaGreatDoor
open Go.RowKit Go.Lib

theorem find_next {p : Vr → Bool} {rs : List Vr} {k : Nat} {r : Vr} (hx : rs[k]? = some r) (h0 : (rs.take k).find? p = none) (h1 : p r = false) : (rs.take (k + 1)).find? p = none := by
  rw [List.take_add_one, hx, List.find?_append, h0]
  simp [h1]
theorem find_here {p : Vr → Bool} {rs : List Vr} {k : Nat} {r : Vr} (hx : rs[k]? = some r) (h0 : (rs.take k).find? p = none) (h1 : p r = true) : rs.find? p = some r := by
  have hlt := (List.getElem?_eq_some_iff.1 hx).1
  have e : rs = rs.take k ++ r :: rs.drop (k + 1) := by
    obtain ⟨_, rfl⟩ := List.getElem?_eq_some_iff.1 hx
    rw [← List.drop_eq_getElem_cons hlt, List.take_append_drop]
  rw [e, List.find?_append, h0, List.find?_cons, h1]
  rfl
theorem keyB_ways (t : Int) (x : ByteArray) (y : Vr) : (y.t = t ∧ y.x.toList = x.toList ∧ keyB t x y = true) ∨ (y.t = t ∧ ¬ y.x.toList = x.toList ∧ keyB t x y = false) ∨ (¬ y.t = t ∧ keyB t x y = false) := by
  by_cases h1 : y.t = t
  · by_cases h2 : y.x.toList = x.toList
    · exact .inl ⟨h1, h2, by simp [keyB, h1, h2]⟩
    · exact .inr (.inl ⟨h1, h2, by simp [keyB, h2]⟩)
  · exact .inr (.inr ⟨h1, by simp [keyB, h1]⟩)

set_option maxRecDepth 100000 in
set_option maxHeartbeats 2000000 in
theorem rfind4_any (t : Int) (x : ByteArray) (a : Option Addr) (c : Nat) (rs : List Vr) (w : World) (hr : VrsAt w a rs) (hLb : rs.length ≤ 1099511627776) :
    Calls Tryz.prog 8 #[.slice a rs.length c, .agg #[.int .i64 t, .string x]] w fun e w' => e = .returned (.tuple #[getVal (rs.find? (keyB t x)), .bool (rs.find? (keyB t x)).isSome]) ∧ Below w.heap.size w w' := by
  obtain ⟨L, hL⟩ : ∃ L, rs.length = L := ⟨_, rfl⟩
  rw [hL] at hLb ⊢
  have HL := Lib.hid hL
  have HR := Lib.hid hr
  have hb0 : Below w.heap.size w ((w.alloc (.cells #[.int .i64 t, .string x] 24)).alloc (.cells #[.int .i64 0, .string ⟨#[]⟩, .int .u64 0, .bool false, .string ⟨#[]⟩] 27)) := ((Below.refl _ _).alloc (Nat.le_refl _) _).alloc (by simp) _
  obtain ⟨w0, hw0⟩ : ∃ w0, (w.alloc (.cells #[.int .i64 t, .string x] 24)).alloc (.cells #[.int .i64 0, .string ⟨#[]⟩, .int .u64 0, .bool false, .string ⟨#[]⟩] 27) = w0 := ⟨_, rfl⟩
  have r0 : Blk w0 (w.heap.size + 1) #[.int .i64 0, .string ⟨#[]⟩, .int .u64 0, .bool false, .string ⟨#[]⟩] 27 := by
    rw [← hw0]
    have := Blk.new (w.alloc (.cells #[.int .i64 t, .string x] 24)) #[.int .i64 0, .string ⟨#[]⟩, .int .u64 0, .bool false, .string ⟨#[]⟩] 27
    simpa using this
  have k0 : Blk w0 w.heap.size #[.int .i64 t, .string x] 24 := by rw [← hw0]; exact (Blk.new _ _ _).alloc _
  rw [hw0] at hb0
  have HW0 := Lib.hid hw0
  have HK := Lib.hid (And.intro k0 (And.intro r0 hb0))
  clear hL hr hw0 k0 r0 hb0
  go_enter Tryz.func8, Tryz.ntmps8
  go_wp2_with fail
  rw [HW0.out]
  go_loopw [6] (fun i wr => ∃ k : Nat, k ≤ L ∧ i = .int .i64 (k : Int) ∧ (rs.take k).find? (keyB t x) = none ∧ Below w0.heap.size w0 wr) (fun i _ => L - (intOf i).toNat)
  case atStart => exact ⟨0, Nat.zero_le _, rfl, rfl, Below.refl _ _⟩
  case round =>
    obtain ⟨k, hk, rfl, hf, hb⟩ := hrel
    have HF := Lib.hid hf
    by_cases hlt : k < L
    · have b1 : (k : Int) < (L : Int) := by omega
      have b0 : (0 : Int) ≤ (k : Int) := by omega
      obtain ⟨y, hx⟩ : ∃ y, rs[k]? = some y := ⟨_, List.getElem?_eq_getElem (by have := HL.out; omega)⟩
      have hbw := HK.out.2.2.trans (hb.mono HK.out.2.2.size)
      obtain ⟨g, off, rfl, hgl, p0, p1, p2, p3, p4⟩ := (HR.out.below hbw) k y hx
      have kk := HK.out.1.below hb HK.out.1.lt
      have rr := HK.out.2.1.below hb HK.out.2.1.lt
      have c0 : wr.cell? ⟨w.heap.size, 0, none⟩ = some (.int .i64 t) := kk.cell 0
      have c1 : wr.cell? ⟨w.heap.size, 1, none⟩ = some (.string x) := kk.cell 1
      have HX := Lib.hid hx
      have HB := Lib.hid hb
      have HBW := Lib.hid hbw
      have HRR := Lib.hid rr
      clear hx hb hbw hf rr kk
      rcases keyB_ways t x y with ⟨e1, e2, e3⟩ | ⟨e1, e2, e3⟩ | ⟨e1, e3⟩
      · have HE := Lib.hid (find_here HX.out HF.out e3)
        clear e3
        obtain ⟨yt, yx, yq, yg, ys⟩ := y
        dsimp only at e1 e2 p0 p1 p2 p3 p4
        obtain rfl := e1
        go_wp2_with fail
        go_region
        all_goals
          obtain ⟨wd, hwd, hbd⟩ := drew_new wr
          rw [hwd]
          have rd := HRR.out.below hbd HRR.out.lt
          have z0 : wd.cell? ⟨w.heap.size + 1, 0, none⟩ = some (.int .i64 0) := rd.cell 0
          have z1 : wd.cell? ⟨w.heap.size + 1, 1, none⟩ = some (.string ⟨#[]⟩) := rd.cell 1
          have z2 : wd.cell? ⟨w.heap.size + 1, 2, none⟩ = some (.int .u64 0) := rd.cell 2
          have z3 : wd.cell? ⟨w.heap.size + 1, 3, none⟩ = some (.bool false) := rd.cell 3
          have z4 : wd.cell? ⟨w.heap.size + 1, 4, none⟩ = some (.string ⟨#[]⟩) := rd.cell 4
          have zf : ∀ j, wd.frozen? ⟨w.heap.size + 1, j, none⟩ = false := rd.frozen
          have d0 : wd.cell? ⟨g, off + k * 5, none⟩ = some (.int .i64 yt) := (hbd.cell (p := ⟨g, _, none⟩) hgl).trans p0
          have d1 : wd.cell? ⟨g, off + k * 5 + 1, none⟩ = some (.string yx) := (hbd.cell (p := ⟨g, _, none⟩) hgl).trans p1
          have d2 : wd.cell? ⟨g, off + k * 5 + 2, none⟩ = some (.int .u64 (yq : Int)) := (hbd.cell (p := ⟨g, _, none⟩) hgl).trans p2
          have d3 : wd.cell? ⟨g, off + k * 5 + 3, none⟩ = some (.bool yg) := (hbd.cell (p := ⟨g, _, none⟩) hgl).trans p3
          have d4 : wd.cell? ⟨g, off + k * 5 + 4, none⟩ = some (.string ys) := (hbd.cell (p := ⟨g, _, none⟩) hgl).trans p4
          have HBD := Lib.hid (HBW.out.trans (hbd.mono HBW.out.size))
          go_wp2_with fail
          have RR : Blk (((((wd.setCell ⟨w.heap.size + 1, 0, none⟩ (.int .i64 yt)).setCell ⟨w.heap.size + 1, 1, none⟩ (.string yx)).setCell ⟨w.heap.size + 1, 2, none⟩ (.int .u64 (yq : Int))).setCell ⟨w.heap.size + 1, 3, none⟩ (.bool yg)).setCell ⟨w.heap.size + 1, 4, none⟩ (.string ys)) (w.heap.size + 1) #[.int .i64 yt, .string yx, .int .u64 (yq : Int), .bool yg, .string ys] 27 := ((((rd.set 0 _).set 1 _).set 2 _).set 3 _).set 4 _
          have g0 := RR.cell 0
          have g1 := RR.cell 1
          have g2 := RR.cell 2
          have g3 := RR.cell 3
          have g4 := RR.cell 4
          simp only [List.getElem?_toArray, List.getElem?_cons_zero, List.getElem?_cons_succ] at g0 g1 g2 g3 g4
          refine bodyPost_ret (v := .tuple #[.agg #[.int .i64 yt, .string yx, .int .u64 (yq : Int), .bool yg, .string ys], .bool true]) ?_ rfl ⟨by rw [HE.out]; rfl, (((((HBD.out.setCell (by show w.heap.size ≤ w.heap.size + 1; omega) _).setCell (by show w.heap.size ≤ w.heap.size + 1; omega) _).setCell (by show w.heap.size ≤ w.heap.size + 1; omega) _).setCell (by show w.heap.size ≤ w.heap.size + 1; omega) _).setCell (by show w.heap.size ≤ w.heap.size + 1; omega) _)⟩
          generalize (((((wd.setCell ⟨w.heap.size + 1, 0, none⟩ (.int .i64 yt)).setCell ⟨w.heap.size + 1, 1, none⟩ (.string yx)).setCell ⟨w.heap.size + 1, 2, none⟩ (.int .u64 (yq : Int))).setCell ⟨w.heap.size + 1, 3, none⟩ (.bool yg)).setCell ⟨w.heap.size + 1, 4, none⟩ (.string ys)) = Z2 at g0 g1 g2 g3 g4 ⊢
          simp [results, Tryz.results8, go_sem, g0, g1, g2, g3, g4]
      · have HE := Lib.hid (find_next HX.out HF.out e3)
        clear e3
        go_wp2_with fail
        go_region
        all_goals
          go_wp2_with fail
          go_roundw
          case rel => exact ⟨k + 1, by omega, by go_num, HE.out, HB.out.drew⟩
          case measure => simp [intOf]; omega
      · have HE := Lib.hid (find_next HX.out HF.out e3)
        clear e3
        go_wp2_with fail
        go_region
        all_goals
          go_wp2_with fail
          go_roundw
          case rel => exact ⟨k + 1, by omega, by go_num, HE.out, HB.out.drew⟩
          case measure => simp [intOf]; omega
    · obtain rfl : k = L := by omega
      have hbw := HK.out.2.2.trans (hb.mono HK.out.2.2.size)
      have rd := HK.out.2.1.below hb HK.out.2.1.lt
      have HE := Lib.hid (show rs.find? (keyB t x) = none by have := HF.out; rw [List.take_of_length_le (by have := HL.out; omega)] at this; exact this)
      have z0 : wr.cell? ⟨w.heap.size + 1, 0, none⟩ = some (.int .i64 0) := rd.cell 0
      have z1 : wr.cell? ⟨w.heap.size + 1, 1, none⟩ = some (.string ⟨#[]⟩) := rd.cell 1
      have z2 : wr.cell? ⟨w.heap.size + 1, 2, none⟩ = some (.int .u64 0) := rd.cell 2
      have z3 : wr.cell? ⟨w.heap.size + 1, 3, none⟩ = some (.bool false) := rd.cell 3
      have z4 : wr.cell? ⟨w.heap.size + 1, 4, none⟩ = some (.string ⟨#[]⟩) := rd.cell 4
      have zf : ∀ j, wr.frozen? ⟨w.heap.size + 1, j, none⟩ = false := rd.frozen
      have HBD := Lib.hid hbw
      have HRD := Lib.hid rd
      clear hb hbw hf rd
      go_wp2_with fail
      have RR : Blk (((((wr.setCell ⟨w.heap.size + 1, 0, none⟩ (.int .i64 0)).setCell ⟨w.heap.size + 1, 1, none⟩ (.string ⟨#[]⟩)).setCell ⟨w.heap.size + 1, 2, none⟩ (.int .u64 0)).setCell ⟨w.heap.size + 1, 3, none⟩ (.bool false)).setCell ⟨w.heap.size + 1, 4, none⟩ (.string ⟨#[]⟩)) (w.heap.size + 1) #[.int .i64 0, .string ⟨#[]⟩, .int .u64 0, .bool false, .string ⟨#[]⟩] 27 := ((((HRD.out.set 0 _).set 1 _).set 2 _).set 3 _).set 4 _
      have g0 := RR.cell 0
      have g1 := RR.cell 1
      have g2 := RR.cell 2
      have g3 := RR.cell 3
      have g4 := RR.cell 4
      simp only [List.getElem?_toArray, List.getElem?_cons_zero, List.getElem?_cons_succ] at g0 g1 g2 g3 g4
      refine bodyPost_ret (v := .tuple #[.agg #[.int .i64 0, .string ⟨#[]⟩, .int .u64 0, .bool false, .string ⟨#[]⟩], .bool false]) ?_ rfl ⟨by rw [HE.out]; rfl, (((((HBD.out.setCell (by show w.heap.size ≤ w.heap.size + 1; omega) _).setCell (by show w.heap.size ≤ w.heap.size + 1; omega) _).setCell (by show w.heap.size ≤ w.heap.size + 1; omega) _).setCell (by show w.heap.size ≤ w.heap.size + 1; omega) _).setCell (by show w.heap.size ≤ w.heap.size + 1; omega) _)⟩
      generalize (((((wr.setCell ⟨w.heap.size + 1, 0, none⟩ (.int .i64 0)).setCell ⟨w.heap.size + 1, 1, none⟩ (.string ⟨#[]⟩)).setCell ⟨w.heap.size + 1, 2, none⟩ (.int .u64 0)).setCell ⟨w.heap.size + 1, 3, none⟩ (.bool false)).setCell ⟨w.heap.size + 1, 4, none⟩ (.string ⟨#[]⟩)) = Z2 at g0 g1 g2 g3 g4 ⊢
      simp [results, Tryz.results8, go_sem, g0, g1, g2, g3, g4]

set_option maxRecDepth 100000 in
set_option maxHeartbeats 2000000 in
theorem rcut4_any (t : Int) (x : ByteArray) (a : Option Addr) (c : Nat) (rs : List Vr) (w : World) (hr : VrsAt w a rs) (hLb : rs.length ≤ 1099511627776) :
    Calls Tryz.prog 15 #[.slice a rs.length c, .agg #[.int .i64 t, .string x]] w (VrsPost (cutL t x rs) w) := by
  obtain ⟨L, hL⟩ : ∃ L, rs.length = L := ⟨_, rfl⟩
  rw [hL] at hLb ⊢
  have HL := Lib.hid hL
  have HR := Lib.hid hr
  obtain ⟨i0, hi, hz0, hz1, hz2⟩ := info_parts Tryz.infoRs
  have HI := Lib.hid (And.intro hi (And.intro hz0 (And.intro hz1 hz2)))
  obtain ⟨w0, hw0, hb0, k0⟩ := alloc_new w #[.int .i64 t, .string x] 24
  have HW0 := Lib.hid hw0
  have HK := Lib.hid (And.intro k0 hb0)
  clear hL hr hw0 k0 hb0 hi hz0 hz1 hz2
  go_enter Tryz.func15, Tryz.ntmps15
  go_wp2_with fail
  rw [HW0.out]
  go_loopw [5, 6] (fun v i wr => ∃ k : Nat, k ≤ L ∧ i = .int .i64 (k : Int) ∧ wr.ownsRow w0.heap.size 27 5 v (cutL t x (rs.take k)).length (vrCells (cutL t x (rs.take k))) ∧ Below w0.heap.size w0 wr) (fun _ i _ => L - (intOf i).toNat)
  case atStart => exact ⟨0, Nat.zero_le _, rfl, World.ownsRow_nil _ _ _ _, Below.refl _ _⟩
  case round =>
    obtain ⟨k, hk, rfl, hrow, hb⟩ := hrel
    by_cases hlt : k < L
    · have b1 : (k : Int) < (L : Int) := by omega
      have b0 : (0 : Int) ≤ (k : Int) := by omega
      obtain ⟨y, hx⟩ : ∃ y, rs[k]? = some y := ⟨_, List.getElem?_eq_getElem (by have := HL.out; omega)⟩
      have hbw := HK.out.2.trans (hb.mono HK.out.2.size)
      obtain ⟨g, off, rfl, hgl, p0, p1, p2, p3, p4⟩ := (HR.out.below hbw) k y hx
      have hm := cutL_len t x rs k
      have kk := HK.out.1.below hb HK.out.1.lt
      have c0 : wr.cell? ⟨w.heap.size, 0, none⟩ = some (.int .i64 t) := kk.cell 0
      have c1 : wr.cell? ⟨w.heap.size, 1, none⟩ = some (.string x) := kk.cell 1
      have HX := Lib.hid hx
      have HB := Lib.hid hb.drew
      have HROW := Lib.hid (ownsRow_later hrow ((Below.refl wr.heap.size wr).drew))
      clear hx hbw kk
      have hw := keyB_ways t x y
      obtain ⟨yt, yx, yq, yg, ys⟩ := y
      have ya : Below wr.heap.size wr (wr.alloc (.cells #[.int .i64 yt, .string yx, .int .u64 (yq : Int), .bool yg, .string ys] 27)).drew := ((Below.refl _ _).alloc (Nat.le_refl _) _).drew
      have HRA := Lib.hid (ownsRow_later hrow ya)
      have HBA := Lib.hid (hb.trans (ya.mono hb.size))
      clear ya hrow hb
      dsimp only at hw p0 p1 p2 p3 p4
      rcases hw with ⟨e1, e2, e3⟩ | ⟨e1, e2, e3⟩ | ⟨e1, e3⟩
      · have HE := Lib.hid (cutL_yes HX.out e3)
        clear e3
        go_wp2_with fail
        go_region
        all_goals
          go_wp2_with fail
          go_roundw
          case rel => exact ⟨k + 1, by omega, by go_num, by rw [HE.out]; exact HROW.out, HB.out⟩
          case measure => simp [intOf]; omega
      all_goals
        have HE := Lib.hid (cutL_no HX.out e3)
        clear e3
        first | (have e1' := e2; clear e1 e1') | skip
        go_wp2_with fail
        go_region
        all_goals
          have d0 : wr.drew.cell? ⟨g, off + k * 5, none⟩ = some (.int .i64 yt) := p0
          have d1 : wr.drew.cell? ⟨g, off + k * 5 + 1, none⟩ = some (.string yx) := p1
          have d2 : wr.drew.cell? ⟨g, off + k * 5 + 2, none⟩ = some (.int .u64 (yq : Int)) := p2
          have d3 : wr.drew.cell? ⟨g, off + k * 5 + 3, none⟩ = some (.bool yg) := p3
          have d4 : wr.drew.cell? ⟨g, off + k * 5 + 4, none⟩ = some (.string ys) := p4
          go_wp2_with (at_builtin; go_must (refine wpList_append_own _ rfl _ _ 31 rfl w0.heap.size 27 i0 _ 5 56 Tryz.underlying31 HI.out.1 HI.out.2.1 HI.out.2.2.1 HI.out.2.2.2 rfl (by omega) _ _ _ rfl HRA.out ⟨wr.heap.size, 0, none⟩ 1 1 (vrCells [⟨yt, yx, yq, yg, ys⟩]) rfl rfl (World.news_of_block (cs := #[.int .i64 yt, .string yx, .int .u64 (yq : Int), .bool yg, .string ys]) (t := 27) (fr := (0, 0)) (heap_alloc_new wr _)) (by simp [Value.oneCell', vrCells]) (by unfold maxLen; omega) (by omega) HBA.out.size ?_; intro v' w3 hown3 hgrow3 _))
          have HRow3 := Lib.hid (show w3.ownsRow w0.heap.size 27 5 v' (cutL t x (rs.take (k + 1))).length (vrCells (cutL t x (rs.take (k + 1)))) by rw [HE.out, vrCells_append, List.length_append]; exact hown3)
          have HB3 := Lib.hid (HBA.out.grown hgrow3 HBA.out.size (fun j hj => (HRA.out.lt j hj).1))
          clear hown3 hgrow3
          go_wp2_with fail
          go_roundw
          case rel => exact ⟨k + 1, by omega, by go_num, HRow3.out, HB3.out⟩
          case measure => simp [intOf]; omega
    · obtain rfl : k = L := by omega
      have HE := Lib.hid (show rs.take k = rs from List.take_of_length_le (by have := HL.out; omega))
      have HRow := Lib.hid (own_low hrow HK.out.2.size)
      have HB := Lib.hid (HK.out.2.trans (hb.mono HK.out.2.size))
      clear hrow hb
      go_wp2_with fail
      go_ret
      refine ⟨_, rfl, ?_, HB.out⟩
      have := HRow.out
      rw [HE.out] at this; exact this
theorem rnewer4_any (a b : Vr) (w : World) :
    Calls Tryz.prog 26 #[a.v, b.v] w fun e w' => e = .returned (.bool (decide (b.q < a.q))) ∧ Below w.heap.size w w' := by
  obtain ⟨at', ax, aq, ag, az⟩ := a
  obtain ⟨bt, bx, bq, bg, bs⟩ := b
  have hb0 := Lib.hid (((Below.refl w.heap.size w).alloc (Nat.le_refl _) (.cells #[.int .i64 at', .string ax, .int .u64 (aq : Int), .bool ag, .string az] 27)).alloc (by simp) (.cells #[.int .i64 bt, .string bx, .int .u64 (bq : Int), .bool bg, .string bs] 27))
  obtain ⟨A, hA⟩ : ∃ A, decide (bq < aq) = A := ⟨_, rfl⟩
  have hq : decide ((bq : Int) < (aq : Int)) = A := by rw [← hA, decide_eq_decide]; omega
  rw [hA]
  go_enter Tryz.func26, Tryz.ntmps26
  go_wp2
  all_goals
    go_ret
    first | exact ⟨by simp [hq], hb0.out⟩ | exact ⟨by simp [← hA, *], hb0.out⟩ | (refine ⟨?_, hb0.out⟩; simp_all)
end Go.Proofs.YtjolgalfjahceaaGreatDoor
namespace Go.Proofs.YtjolgalfjahceaaGreatDoor
open Go.RowKit Go.Lib

theorem add_none (a : Option Addr) : a.map (fun b => b.add 0) = a := by
  cases a with
  | none => rfl
  | some b => simp [Addr.add]
theorem slice_to (a : Option Addr) (len cap k : Nat) (hk : k ≤ cap) : ∀ w : World, (Instr.slice 31 (.slice a len cap) none (some (.int .i64 (k : Int))) none).run Tryz.prog w = .ok (.slice a k cap) w := by
  intro w
  rw [run_slice_h w 31 a len cap (by kernel_rfl) .i64 (k : Int) (by omega) (by omega)]
  rw [show Tryz.prog.elem 31 = 27 by kernel_rfl, Tryz.sizeRs]
  show Result.ok (sliced a 0 ((k : Int).toNat) cap 5) w = _
  unfold sliced
  rw [show (k : Int).toNat = k by omega]
  have := add_none a
  split
  · rfl
  · rw [Nat.zero_mul, this]; rfl
theorem slice_from (a : Option Addr) (len cap k : Nat) (hk : k ≤ len) : ∃ A, (∀ w : World, (Instr.slice 31 (.slice a len cap) (some (.int .i64 (k : Int))) none none).run Tryz.prog w = .ok (.slice A (len - k) (cap - k)) w) ∧ ((A = a ∧ cap = k) ∨ A = a.map (fun b => b.add (k * 5))) := by
  refine ⟨if cap = k then a else a.map (fun b => b.add (k * 5)), fun w => ?_, ?_⟩
  · rw [run_slice_l w 31 a len cap (by kernel_rfl) .i64 (k : Int) (by omega) (by omega)]
    rw [show Tryz.prog.elem 31 = 27 by kernel_rfl, Tryz.sizeRs]
    show Result.ok (sliced a ((k : Int).toNat) len cap 5) w = _
    unfold sliced
    rw [show (k : Int).toNat = k by omega]
  · split
    · exact .inl ⟨rfl, by assumption⟩
    · exact .inr rfl
theorem vrs_news {w : World} {a : Option Addr} {rs : List Vr} (h : VrsAt w a rs) : ∀ j u, (vrCells rs)[j]? = some u → ∃ b, a = some b ∧ w.cell? (b.add j) = some u := by
  intro j u hj
  have hlen := vrCells_len rs
  have hlt := (List.getElem?_eq_some_iff.1 hj).1
  obtain ⟨i, hi⟩ : ∃ i, i = j / 5 := ⟨_, rfl⟩
  have hil : i < rs.length := by omega
  have hr : rs[i]? = some rs[i] := List.getElem?_eq_getElem hil
  have hg := vrCells_get rs i _ hr (j - i * 5) (by omega)
  rw [show i * 5 + (j - i * 5) = j by omega, hj] at hg
  obtain ⟨g, off, ha, _, c0, c1, c2, c3, c4⟩ := h i _ hr
  refine ⟨_, ha, ?_⟩
  rw [add_plain]
  have hj7 : j - i * 5 = 0 ∨ j - i * 5 = 1 ∨ j - i * 5 = 2 ∨ j - i * 5 = 3 ∨ j - i * 5 = 4 := by omega
  have e0 : off + j = off + i * 5 + (j - i * 5) := by omega
  rw [e0]
  rcases hj7 with e | e | e | e | e <;> rw [e] at hg ⊢ <;> simp at hg <;> subst hg <;> assumption
theorem vrsAt_take {w : World} {a : Option Addr} {rs : List Vr} (h : VrsAt w a rs) (k : Nat) : VrsAt w a (rs.take k) := by
  intro i r hi
  rw [List.getElem?_take] at hi
  split at hi
  · exact h i r hi
  · cases hi
theorem vrsAt_drop {w : World} {a A : Option Addr} {rs : List Vr} {k cap : Nat} (h : VrsAt w a rs) (hlc : rs.length ≤ cap) (hA : (A = a ∧ cap = k) ∨ A = a.map (fun b => b.add (k * 5))) : VrsAt w A (rs.drop k) := by
  intro i r hi
  rw [List.getElem?_drop] at hi
  have hlt := (List.getElem?_eq_some_iff.1 hi).1
  obtain ⟨g, off, rfl, hg, c0, c1, c2, c3, c4⟩ := h (k + i) r hi
  rcases hA with ⟨_, rfl⟩ | rfl
  · omega
  · refine ⟨g, off + k * 5, by simp [add_plain], hg, ?_, ?_, ?_, ?_, ?_⟩
    · rw [show off + k * 5 + i * 5 = off + (k + i) * 5 by omega]; exact c0
    · rw [show off + k * 5 + i * 5 + 1 = off + (k + i) * 5 + 1 by omega]; exact c1
    · rw [show off + k * 5 + i * 5 + 2 = off + (k + i) * 5 + 2 by omega]; exact c2
    · rw [show off + k * 5 + i * 5 + 3 = off + (k + i) * 5 + 3 by omega]; exact c3
    · rw [show off + k * 5 + i * 5 + 4 = off + (k + i) * 5 + 4 by omega]; exact c4
theorem row_cap {w : World} {base e size n c : Nat} {a : Option Addr} {xs : List Value} (h : w.ownsRow base e size (.slice a n c) n xs) : n ≤ c := by
  rcases h.2 with ⟨hv, hx⟩ | ⟨g, cap, cur, hv, _, _, hn, _⟩
  · omega
  · simp at hv; obtain ⟨_, rfl⟩ := hv; exact hn
theorem posL_end {r : Vr} {cs : List Vr} (h : cs.any (behB r.t r.x) = false) : posL r cs = cs.length := by
  unfold posL; rw [h]; rfl
theorem posL_here {r : Vr} {cs : List Vr} {k : Nat} {y : Vr} (hx : cs[k]? = some y) (h0 : (cs.take k).any (behB r.t r.x) = false) (h1 : behB r.t r.x y = true) : posL r cs = k := by
  have hlt := (List.getElem?_eq_some_iff.1 hx).1
  have hany : cs.any (behB r.t r.x) = true := List.any_eq_true.2 ⟨y, List.mem_of_getElem? hx, h1⟩
  have := idx_yes hx h0 h1
  unfold idxV at this
  rw [if_pos hany] at this
  unfold posL
  rw [if_pos hany]
  omega
/-- Two keys in two blocks and how far the call got. -/
def KbS (w : World) (g o u : Nat) (y r : Vr) (w' : World) : Prop := w'.cell? ⟨g, o, none⟩ = some (.int .i64 y.t) ∧ w'.cell? ⟨g, o + 1, none⟩ = some (.string y.x) ∧ w'.cell? ⟨u, 0, none⟩ = some (.int .i64 r.t) ∧ w'.cell? ⟨u, 1, none⟩ = some (.string r.x) ∧ g < w.heap.size ∧ u < w.heap.size ∧ Below w.heap.size w w'
theorem KbS.next {w w' w'' : World} {g o u : Nat} {y r : Vr} (h : KbS w g o u y r w') (hb : Below w'.heap.size w' w'') : KbS w g o u y r w'' := by
  obtain ⟨h1, h2, h3, h4, hg, hu, h5⟩ := h
  have hl : g < w'.heap.size := Nat.lt_of_lt_of_le hg h5.size
  have hm : u < w'.heap.size := Nat.lt_of_lt_of_le hu h5.size
  exact ⟨(hb.cell (p := ⟨g, _, none⟩) hl).trans h1, (hb.cell (p := ⟨g, _, none⟩) hl).trans h2, (hb.cell (p := ⟨u, _, none⟩) hm).trans h3, (hb.cell (p := ⟨u, _, none⟩) hm).trans h4, hg, hu, h5.trans (hb.mono h5.size)⟩

set_option maxRecDepth 100000 in
set_option maxHeartbeats 4000000 in
theorem rset4_any (r : Vr) (a : Option Addr) (c : Nat) (rs : List Vr) (w : World) (hr : VrsAt w a rs) (hLb : rs.length ≤ 1000000) :
    Calls Tryz.prog 13 #[.slice a rs.length c, r.v] w (VrsPost (setL r rs) w) := by
  obtain ⟨t, x, q, g, s⟩ := r
  have hcut := Lib.hid (fun W h => rcut4_any t x a c rs W h (by omega))
  have hR := Lib.hid hr
  have hcl : (cutL t x rs).length ≤ rs.length := List.length_filter_le _ _
  have HS := Lib.hid (show setL ⟨t, x, q, g, s⟩ rs = (cutL t x rs).take (posL ⟨t, x, q, g, s⟩ (cutL t x rs)) ++ ⟨t, x, q, g, s⟩ :: (cutL t x rs).drop (posL ⟨t, x, q, g, s⟩ (cutL t x rs)) from rfl)
  generalize setL ⟨t, x, q, g, s⟩ rs = SL at HS ⊢
  obtain ⟨cs, hcs⟩ : ∃ cs, cutL t x rs = cs := ⟨_, rfl⟩
  rw [hcs] at hcut hcl HS
  obtain ⟨L, hL⟩ : ∃ L, rs.length = L := ⟨_, rfl⟩
  rw [hL] at hcut hLb hcl ⊢
  obtain ⟨M, hM⟩ : ∃ M, cs.length = M := ⟨_, rfl⟩
  rw [hM] at hcl
  obtain ⟨w0, hw0, hb0, q0⟩ := alloc_new w #[.int .i64 t, .string x, .int .u64 (q : Int), .bool g, .string s] 27
  obtain ⟨i0, hi, hz0, hz1, hz2⟩ := info_parts Tryz.infoRs
  have HI := Lib.hid (And.intro hi (And.intro hz0 (And.intro hz1 hz2)))
  have HW0 := Lib.hid hw0
  have HM := Lib.hid hM
  have k0 := q0.cell 0
  have k1 := q0.cell 1
  simp only [List.getElem?_toArray, List.getElem?_cons_zero, List.getElem?_cons_succ] at k0 k1
  clear hw0 hcs hL hr hM hi hz0 hz1 hz2
  go_enter Tryz.func13, Tryz.ntmps13
  go_wp2_with fail
  rw [HW0.out]
  refine (hcut.out w0 (hR.out.below hb0)).mono ?_
  rintro e w1 ⟨v1, rfl, hrow1, hb1⟩
  rw [HM.out] at hrow1
  obtain ⟨a1, c1, rfl⟩ := owns_slice hrow1
  have hMc := row_cap hrow1
  have q1 := q0.below hb1 q0.lt
  have HBW1 := Lib.hid (hb0.trans (hb1.mono hb0.size))
  have HV1 := Lib.hid (show VrsAt w1 a1 cs from vrsAt_row (c := c1) (by rw [HM.out]; exact hrow1))
  have HQ1 := Lib.hid q1
  clear hb1 hrow1 hb0 HW0 q0 q1 k0 k1 hcut
  go_wp2_with fail
  go_loopw [6] (fun i wr => ∃ k : Nat, k ≤ M ∧ i = .int .i64 (k : Int) ∧ (cs.take k).any (behB t x) = false ∧ Below w1.heap.size w1 wr) (fun i _ => M - (RowKit.intOf i).toNat)
  case atStart => exact ⟨0, Nat.zero_le _, rfl, rfl, Below.refl _ _⟩
  case round =>
    obtain ⟨k, hk, rfl, hany, hb⟩ := hrel
    have HANY := Lib.hid hany
    have HB := Lib.hid hb
    have HFIN := Lib.hid (fun (W : World) (hbW : Below w1.heap.size w1 W) => And.intro (HV1.out.below hbW) (And.intro (HQ1.out.below hbW HQ1.out.lt) (HBW1.out.trans (hbW.mono HBW1.out.size))))
    have hb0 : (0 : Int) ≤ (k : Int) := by omega
    have hkM : (k : Int) ≤ (M : Int) := by omega
    by_cases hlt : k < M
    · have b1 : (k : Int) < (M : Int) := by omega
      obtain ⟨y, hx⟩ : ∃ y, cs[k]? = some y := ⟨_, List.getElem?_eq_getElem (by have := HM.out; omega)⟩
      obtain ⟨g', off, rfl, hgl, p0, p1, -⟩ := (HV1.out.below hb) k y hx
      have hq := HQ1.out.below hb HQ1.out.lt
      have HX := Lib.hid hx
      have HO := Lib.hid (fun W => rorder_any y.t t y.x x W)
      have hbh : behB t x y = decide (0 < ordK y.t y.x t x) := rfl
      have ST : KbS wr g' (off + k * 5) w.heap.size y ⟨t, x, q, g, s⟩ wr.drew := by
        have hbd : Below wr.heap.size wr wr.drew := (Below.refl _ _).drew
        have hul : w.heap.size < wr.heap.size := hq.lt
        exact ⟨(hbd.cell (p := ⟨g', _, none⟩) hgl).trans p0, (hbd.cell (p := ⟨g', _, none⟩) hgl).trans p1, (hbd.cell (p := ⟨w.heap.size, _, none⟩) hul).trans (hq.cell 0), (hbd.cell (p := ⟨w.heap.size, _, none⟩) hul).trans (hq.cell 1), hgl, hul, hbd⟩
      generalize ordK y.t y.x t x = od at HO hbh
      obtain ⟨J, hJ⟩ : ∃ J : Int, (k : Int) = J := ⟨_, rfl⟩
      have c0 : (0 : Int) ≤ J := by omega
      have c1' : J < (M : Int) := by omega
      have cd : decide (J < (M : Int)) = true := decide_eq_true (by omega)
      have ct : J.toNat = k := by omega
      have HJ := Lib.hid hJ
      by_cases hod : od ≤ 0
      · have hb2 : behB t x y = false := by rw [hbh]; exact decide_eq_false (by omega)
        have HN := Lib.hid (any_take_vr HX.out HANY.out hb2)
        have cod : decide (od ≤ 0) = true := decide_eq_true hod
        rw [hJ]
        clear hJ b1 hbh hb2 hx hq hb hany hb0 hkM p0 p1
        go_wp2_with fail
        go_region_held3 (fun w' => w'.cell? ⟨g', off + k * 5, none⟩ = some (.int .i64 y.t) ∧ w'.cell? ⟨g', off + k * 5 + 1, none⟩ = some (.string y.x) ∧ w'.cell? ⟨w.heap.size, 0, none⟩ = some (.int .i64 t) ∧ w'.cell? ⟨w.heap.size, 1, none⟩ = some (.string x) ∧ g' < wr.heap.size ∧ w.heap.size < wr.heap.size ∧ Below wr.heap.size wr w') (first | exact ST | exact KbS.next (r := ⟨t, x, q, g, s⟩) (by assumption) (by assumption) | go_keep) ((go_at_call 29; refine (HO.out _).mono ?_; rintro e w' ⟨rfl, hb'⟩))
        rename_i hH
        have HH := Lib.hid (HB.out.trans (hH.2.2.2.2.2.2.mono HB.out.size))
        clear hH
        go_wp2_with fail
        go_roundw
        case rel => exact ⟨k + 1, by omega, by rw [← HJ.out]; go_num, HN.out, HH.out⟩
        case measure => have := HJ.out; simp [RowKit.intOf]; omega
      · have hb2 : behB t x y = true := by rw [hbh]; exact decide_eq_true (by omega)
        have HP := Lib.hid (posL_here (r := ⟨t, x, q, g, s⟩) HX.out HANY.out hb2)
        have cod : decide (od ≤ 0) = false := decide_eq_false hod
        rw [hJ]
        clear hJ b1 hbh hb2 hx hq hb hany hb0 hkM p0 p1
        go_wp2_with fail
        go_region_held3 (fun w' => w'.cell? ⟨g', off + k * 5, none⟩ = some (.int .i64 y.t) ∧ w'.cell? ⟨g', off + k * 5 + 1, none⟩ = some (.string y.x) ∧ w'.cell? ⟨w.heap.size, 0, none⟩ = some (.int .i64 t) ∧ w'.cell? ⟨w.heap.size, 1, none⟩ = some (.string x) ∧ g' < wr.heap.size ∧ w.heap.size < wr.heap.size ∧ Below wr.heap.size wr w') (first | exact ST | exact KbS.next (r := ⟨t, x, q, g, s⟩) (by assumption) (by assumption) | go_keep) ((go_at_call 29; refine (HO.out _).mono ?_; rintro e w' ⟨rfl, hb'⟩))
        rename_i hH
        have hbz := hH.2.2.2.2.2.2
        clear hH hb'
        obtain rfl := HJ.out
        have hz := HFIN.out w' (HB.out.trans (hbz.mono HB.out.size))
        have HQ := Lib.hid hz.2.1
        have HV := Lib.hid hz.1
        have HZ := Lib.hid hz.2.2
        have hs1 := slice_to (some ⟨g', off, none⟩) M c1 k (by omega)
        obtain ⟨A2, hs2, hA2⟩ := slice_from (some ⟨g', off, none⟩) M c1 k hk
        have HD := Lib.hid (vrsAt_drop (k := k) HV.out (by rw [HM.out]; exact hMc) hA2)
        have HT := Lib.hid (vrsAt_take HV.out k)
        clear hz hA2 hbz
        go_wp2_with (first | (at_builtin; refine wpList_append_in _ rfl _ _ 31 rfl w'.heap.size 27 i0 _ 5 56 Tryz.underlying31 HI.out.1 HI.out.2.1 HI.out.2.2.1 HI.out.2.2.2 rfl (by omega) _ _ _ rfl (World.ownsRow_nil _ _ _ _) (some ⟨g', off, none⟩) k c1 (vrCells (cs.take k)) rfl (by rw [vrCells_len, List.length_take]; have := HM.out; omega) (vrs_news HT.out) vr_one (by unfold maxLen; omega) (by omega) (Nat.le_refl _) ?_; intro v4 w4 hown4 hgr4; have hb4 : Below w'.heap.size w' w4 := ((Below.refl _ _).grown hgr4 (Nat.le_refl _) (fun j hj => by cases hj)); have q4 := HQ.out.below hb4 HQ.out.lt; have d0 : w4.cell? ⟨w.heap.size, 0, none⟩ = some (.int .i64 t) := q4.cell 0; have d1 : w4.cell? ⟨w.heap.size, 1, none⟩ = some (.string x) := q4.cell 1; have d2 : w4.cell? ⟨w.heap.size, 2, none⟩ = some (.int .u64 (q : Int)) := q4.cell 2; have d3 : w4.cell? ⟨w.heap.size, 3, none⟩ = some (.bool g) := q4.cell 3; have d4 : w4.cell? ⟨w.heap.size, 4, none⟩ = some (.string s) := q4.cell 4; have HO4 := Lib.hid hown4; have HB4 := Lib.hid hb4; clear hown4 hgr4 hb4 q4) | (at_builtin; refine wpList_append_own _ rfl _ _ 31 rfl w'.heap.size 27 i0 _ 5 56 Tryz.underlying31 HI.out.1 HI.out.2.1 HI.out.2.2.1 HI.out.2.2.2 rfl (by omega) _ _ _ rfl (HO4.out.alloc _) ⟨w4.heap.size, 0, none⟩ 1 1 (vrCells [⟨t, x, q, g, s⟩]) rfl rfl (World.news_of_block (cs := #[.int .i64 t, .string x, .int .u64 (q : Int), .bool g, .string s]) (t := 27) (fr := (0, 0)) (heap_alloc_new w4 _)) (by simp [Value.oneCell', vrCells]) (by unfold maxLen; omega) (by omega) (by have := HB4.out.size; simp; omega) ?_; intro v5 w5 hown5 hgr5 _; have HO5 := Lib.hid hown5; have HB5 := Lib.hid ((HB4.out.alloc HB4.out.size _).grown hgr5 (by have := HB4.out.size; simp; omega) (fun j hj => (HO4.out.lt j hj).1)); have HD5 := Lib.hid (HD.out.below HB5.out); clear hown5 hgr5) | (at_builtin; refine wpList_append_in _ rfl _ _ 31 rfl w'.heap.size 27 i0 _ 5 56 Tryz.underlying31 HI.out.1 HI.out.2.1 HI.out.2.2.1 HI.out.2.2.2 rfl (by omega) _ _ _ rfl HO5.out A2 (M - k) (c1 - k) (vrCells (cs.drop k)) rfl (by rw [vrCells_len, List.length_drop]; have := HM.out; omega) (vrs_news HD5.out) vr_one (by unfold maxLen; omega) (by omega) HB5.out.size ?_; intro v6 w6 hown6 hgr6; have HO6 := Lib.hid hown6; have HB6 := Lib.hid (HB5.out.grown hgr6 HB5.out.size (fun j hj => (HO5.out.lt j hj).1)); clear hown6 hgr6))
        go_ret
        refine ⟨_, rfl, ?_, HZ.out.trans (HB6.out.mono HZ.out.size)⟩
        have hrow := own_low HO6.out HZ.out.size
        rw [List.nil_append, ← vrCells_append, ← vrCells_append, List.append_assoc, List.singleton_append] at hrow
        rw [HS.out, HP.out]
        have hln : (cs.take k ++ (⟨t, x, q, g, s⟩ : Vr) :: cs.drop k).length = 0 + k + 1 + (M - k) := by rw [List.length_append, List.length_cons, List.length_take, List.length_drop]; have := HM.out; omega
        rw [hln]; exact hrow
    · obtain rfl : k = M := by omega
      have HP := Lib.hid (show posL ⟨t, x, q, g, s⟩ cs = k from (posL_end (by have := HANY.out; rw [List.take_of_length_le (by have := HM.out; omega)] at this; exact this)).trans HM.out)
      clear hb hany
      go_wp2_with fail
      go_quiet (fail)
      have hbz : Below wr.heap.size wr (wr.drewN nq) := below_drewN' _
      generalize wr.drewN nq = wz at hbz ⊢
      have hz := HFIN.out wz (HB.out.trans (hbz.mono HB.out.size))
      have HQ := Lib.hid hz.2.1
      have HV := Lib.hid hz.1
      have HZ := Lib.hid hz.2.2
      have hs1 := slice_to a1 k c1 k (by omega)
      obtain ⟨A2, hs2, hA2⟩ := slice_from a1 k c1 k hk
      have HD := Lib.hid (vrsAt_drop (k := k) HV.out (by rw [HM.out]; exact hMc) hA2)
      have HT := Lib.hid (vrsAt_take HV.out k)
      clear hz hA2 hbz
      go_wp2_with (first | (at_builtin; refine wpList_append_in _ rfl _ _ 31 rfl wz.heap.size 27 i0 _ 5 56 Tryz.underlying31 HI.out.1 HI.out.2.1 HI.out.2.2.1 HI.out.2.2.2 rfl (by omega) _ _ _ rfl (World.ownsRow_nil _ _ _ _) a1 k c1 (vrCells (cs.take k)) rfl (by rw [vrCells_len, List.length_take]; have := HM.out; omega) (vrs_news HT.out) vr_one (by unfold maxLen; omega) (by omega) (Nat.le_refl _) ?_; intro v4 w4 hown4 hgr4; have hb4 : Below wz.heap.size wz w4 := ((Below.refl _ _).grown hgr4 (Nat.le_refl _) (fun j hj => by cases hj)); have q4 := HQ.out.below hb4 HQ.out.lt; have d0 : w4.cell? ⟨w.heap.size, 0, none⟩ = some (.int .i64 t) := q4.cell 0; have d1 : w4.cell? ⟨w.heap.size, 1, none⟩ = some (.string x) := q4.cell 1; have d2 : w4.cell? ⟨w.heap.size, 2, none⟩ = some (.int .u64 (q : Int)) := q4.cell 2; have d3 : w4.cell? ⟨w.heap.size, 3, none⟩ = some (.bool g) := q4.cell 3; have d4 : w4.cell? ⟨w.heap.size, 4, none⟩ = some (.string s) := q4.cell 4; have HO4 := Lib.hid hown4; have HB4 := Lib.hid hb4; clear hown4 hgr4 hb4 q4) | (at_builtin; refine wpList_append_own _ rfl _ _ 31 rfl wz.heap.size 27 i0 _ 5 56 Tryz.underlying31 HI.out.1 HI.out.2.1 HI.out.2.2.1 HI.out.2.2.2 rfl (by omega) _ _ _ rfl (HO4.out.alloc _) ⟨w4.heap.size, 0, none⟩ 1 1 (vrCells [⟨t, x, q, g, s⟩]) rfl rfl (World.news_of_block (cs := #[.int .i64 t, .string x, .int .u64 (q : Int), .bool g, .string s]) (t := 27) (fr := (0, 0)) (heap_alloc_new w4 _)) (by simp [Value.oneCell', vrCells]) (by unfold maxLen; omega) (by omega) (by have := HB4.out.size; simp; omega) ?_; intro v5 w5 hown5 hgr5 _; have HO5 := Lib.hid hown5; have HB5 := Lib.hid ((HB4.out.alloc HB4.out.size _).grown hgr5 (by have := HB4.out.size; simp; omega) (fun j hj => (HO4.out.lt j hj).1)); have HD5 := Lib.hid (HD.out.below HB5.out); clear hown5 hgr5) | (at_builtin; refine wpList_append_in _ rfl _ _ 31 rfl wz.heap.size 27 i0 _ 5 56 Tryz.underlying31 HI.out.1 HI.out.2.1 HI.out.2.2.1 HI.out.2.2.2 rfl (by omega) _ _ _ rfl HO5.out A2 0 (c1 - k) (vrCells (cs.drop k)) rfl (by rw [vrCells_len, List.length_drop]; have := HM.out; omega) (vrs_news HD5.out) vr_one (by unfold maxLen; omega) (by omega) HB5.out.size ?_; intro v6 w6 hown6 hgr6; have HO6 := Lib.hid hown6; have HB6 := Lib.hid (HB5.out.grown hgr6 HB5.out.size (fun j hj => (HO5.out.lt j hj).1)); clear hown6 hgr6))
      go_ret
      refine ⟨_, rfl, ?_, HZ.out.trans (HB6.out.mono HZ.out.size)⟩
      have hrow := own_low HO6.out HZ.out.size
      rw [List.nil_append, ← vrCells_append, ← vrCells_append, List.append_assoc, List.singleton_append] at hrow
      rw [HS.out, HP.out]
      have hln : (cs.take k ++ (⟨t, x, q, g, s⟩ : Vr) :: cs.drop k).length = 0 + k + 1 + 0 := by rw [List.length_append, List.length_cons, List.length_take, List.length_drop]; have := HM.out; omega
      rw [hln]; exact hrow
end Go.Proofs.YtjolgalfjahceaaGreatDoor
namespace Go.Proofs.YtjolgalfjahceaaGreatDoor
open Go.RowKit Go.Lib

theorem step_none {out : List Vr} {r : Vr} (h : out.find? (keyB r.t r.x) = none) : refStep out r = setL r out := by unfold refStep; rw [h]
theorem step_newer {out : List Vr} {r s : Vr} (h : out.find? (keyB r.t r.x) = some s) (hq : decide (s.q < r.q) = true) : refStep out r = setL r out := by
  unfold refStep; rw [h]; exact if_pos (of_decide_eq_true hq)
theorem step_older {out : List Vr} {r s : Vr} (h : out.find? (keyB r.t r.x) = some s) (hq : decide (s.q < r.q) = false) : refStep out r = out := by
  unfold refStep; rw [h]; exact if_neg (of_decide_eq_false hq)
set_option maxRecDepth 100000 in
set_option maxHeartbeats 4000000 in
theorem rsort4_any (a : Option Addr) (c : Nat) (rs : List Vr) (w : World) (hr : VrsAt w a rs) (hLb : rs.length ≤ 100000) :
    Calls Tryz.prog 11 #[.slice a rs.length c] w (VrsPost (refS rs) w) := by
  obtain ⟨L, hL⟩ : ∃ L, rs.length = L := ⟨_, rfl⟩
  rw [hL] at hLb ⊢
  have HL := Lib.hid hL
  have HR := Lib.hid hr
  clear hL hr
  go_enter Tryz.func11, Tryz.ntmps11
  go_wp2_with fail
  go_loopw [3, 4] (fun v i wr => ∃ k : Nat, k ≤ L ∧ i = .int .i64 (k : Int) ∧ wr.ownsRow w.heap.size 27 5 v (refS (rs.take k)).length (vrCells (refS (rs.take k))) ∧ Below w.heap.size w wr) (fun _ i _ => L - (RowKit.intOf i).toNat)
  case atStart => exact ⟨0, Nat.zero_le _, rfl, World.ownsRow_nil _ _ _ _, Below.refl _ _⟩
  case round =>
    obtain ⟨k, hk, rfl, hrow, hb⟩ := hrel
    by_cases hlt : k < L
    · have b1 : (k : Int) < (L : Int) := by omega
      have b0 : (0 : Int) ≤ (k : Int) := by omega
      obtain ⟨⟨t, x, q, g, s⟩, hx⟩ : ∃ r, rs[k]? = some r := ⟨_, List.getElem?_eq_getElem (by have := HL.out; omega)⟩
      obtain ⟨g0, off, rfl, hgl, p0, p1, p2, p3, p4⟩ := (HR.out.below hb) k _ hx
      obtain ⟨a2, c2, rfl⟩ := owns_slice hrow
      have hnx := refS_next hx
      have hol : (refS (rs.take k)).length ≤ k := Nat.le_trans (refS_len _) (by rw [List.length_take]; omega)
      obtain ⟨O, hO⟩ : ∃ O, refS (rs.take k) = O := ⟨_, rfl⟩
      rw [hO] at hrow hnx hol ⊢
      have hV : VrsAt wr a2 O := vrsAt_row hrow
      obtain ⟨M, hM⟩ : ∃ M, O.length = M := ⟨_, rfl⟩
      have HFA := rfind4_any t x a2 c2 O wr hV (by omega)
      have HSET := Lib.hid (fun W h => rset4_any ⟨t, x, q, g, s⟩ a2 c2 O W h (by omega))
      rw [hM] at hrow hol HFA HSET ⊢
      have HX := Lib.hid hnx
      have HROW := Lib.hid hrow
      have HB := Lib.hid hb
      have HV := Lib.hid hV
      have HM := Lib.hid hM
      clear hx hb hrow hnx hO hV hM
      dsimp only at p0 p1 p2 p3 p4
      cases hf : O.find? (keyB t x) with
      | none =>
        rw [hf] at HFA
        have HF := Lib.hid (show Calls Tryz.prog 8 #[.slice a2 M c2, .agg #[.int .i64 t, .string x]] wr fun e w' => e = .returned (.tuple #[.agg #[.int .i64 0, .string ⟨#[]⟩, .int .u64 0, .bool false, .string ⟨#[]⟩], .bool false]) ∧ Below wr.heap.size wr w' from HFA)
        have HN := Lib.hid (step_none (r := ⟨t, x, q, g, s⟩) hf)
        clear HFA hf
        go_wp2_with fail
        refine HF.out.mono ?_
        rintro e w6 ⟨rfl, hb6⟩
        obtain ⟨w7, hw7, hb7, -⟩ := alloc_new w6 #[.int .i64 0, .string ⟨#[]⟩, .int .u64 0, .bool false, .string ⟨#[]⟩] 27
        have hb67 := hb6.trans (hb7.mono hb6.size)
        have HW7 := Lib.hid hw7
        have HB7 := Lib.hid hb67
        clear hw7 hb6 hb7 hb67
        go_wp2_with fail
        rw [HW7.out]
        go_quiet (fail)
        obtain ⟨w8, hw8, hb8⟩ : ∃ w8, w7.drewN nq = w8 ∧ Below w7.heap.size w7 w8 := ⟨_, rfl, below_drewN' _⟩
        rw [hw8]
        have hb78 := HB7.out.trans (hb8.mono HB7.out.size)
        have HS := Lib.hid (HSET.out w8 (HV.out.below hb78))
        have d0 : w8.cell? ⟨g0, off + k * 5, none⟩ = some (.int .i64 t) := (hb78.cell (p := ⟨g0, _, none⟩) hgl).trans p0
        have d1 : w8.cell? ⟨g0, off + k * 5 + 1, none⟩ = some (.string x) := (hb78.cell (p := ⟨g0, _, none⟩) hgl).trans p1
        have d2 : w8.cell? ⟨g0, off + k * 5 + 2, none⟩ = some (.int .u64 (q : Int)) := (hb78.cell (p := ⟨g0, _, none⟩) hgl).trans p2
        have d3 : w8.cell? ⟨g0, off + k * 5 + 3, none⟩ = some (.bool g) := (hb78.cell (p := ⟨g0, _, none⟩) hgl).trans p3
        have d4 : w8.cell? ⟨g0, off + k * 5 + 4, none⟩ = some (.string s) := (hb78.cell (p := ⟨g0, _, none⟩) hgl).trans p4
        have HB8 := Lib.hid (HB.out.trans (hb78.mono HB.out.size))
        clear hw8 hb8 hb78 HW7 HB7 HF p0 p1 p2 p3 p4
        go_wp2_with fail
        refine HS.out.mono ?_
        rintro e w9 ⟨v9, rfl, hrow9, hb9⟩
        have HR9 := Lib.hid (own_low hrow9 HB8.out.size)
        have HB9 := Lib.hid (HB8.out.trans (hb9.mono HB8.out.size))
        clear hrow9 hb9
        go_wp2_with fail
        go_roundw
        case rel => exact ⟨k + 1, by omega, by go_num, by rw [HX.out, HN.out]; exact HR9.out, HB9.out⟩
        case measure => simp [RowKit.intOf]; omega
      | some y =>
        rw [hf] at HFA
        obtain ⟨B, hB⟩ : ∃ B, decide (y.q < q) = B := ⟨_, rfl⟩
        have HNW := Lib.hid (fun W => rnewer4_any ⟨t, x, q, g, s⟩ y W)
        dsimp only at HNW
        rw [hB] at HNW
        have HY := Lib.hid (And.intro hf hB)
        obtain ⟨yt, yx, yq, yg, ys⟩ := y
        have HF := Lib.hid (show Calls Tryz.prog 8 #[.slice a2 M c2, .agg #[.int .i64 t, .string x]] wr fun e w' => e = .returned (.tuple #[.agg #[.int .i64 yt, .string yx, .int .u64 (yq : Int), .bool yg, .string ys], .bool true]) ∧ Below wr.heap.size wr w' from HFA)
        clear HFA hf hB
        go_wp2_with fail
        refine HF.out.mono ?_
        rintro e w6 ⟨rfl, hb6⟩
        obtain ⟨w7, hw7, hb7, pF⟩ := alloc_new w6 #[.int .i64 yt, .string yx, .int .u64 (yq : Int), .bool yg, .string ys] 27
        have hb67 := hb6.trans (hb7.mono hb6.size)
        have HW7 := Lib.hid hw7
        have HB7 := Lib.hid hb67
        have ST : TvS w7 g0 (off + k * 5) w6.heap.size ⟨t, x, q, g, s⟩ ⟨yt, yx, yq, yg, ys⟩ w7.drew := by
          have hbd : Below w7.heap.size w7 w7.drew := (Below.refl _ _).drew
          have hgl7 : g0 < w7.heap.size := Nat.lt_of_lt_of_le hgl hb67.size
          have hbz : Below wr.heap.size wr w7.drew := hb67.trans (hbd.mono hb67.size)
          have pF' := pF.below hbd pF.lt
          exact ⟨(hbz.cell (p := ⟨g0, _, none⟩) hgl).trans p0, (hbz.cell (p := ⟨g0, _, none⟩) hgl).trans p1, (hbz.cell (p := ⟨g0, _, none⟩) hgl).trans p2, (hbz.cell (p := ⟨g0, _, none⟩) hgl).trans p3, (hbz.cell (p := ⟨g0, _, none⟩) hgl).trans p4, pF'.cell 0, pF'.cell 1, pF'.cell 2, pF'.cell 3, pF'.cell 4, hgl7, pF.lt, hbd⟩
        generalize hu : w6.heap.size = u at ST
        clear hw7 hb6 hb7 hb67 pF p0 p1 p2 p3 p4
        have hw7s : Below wr.heap.size wr w7 := HB7.out
        have HGL := Lib.hid (Nat.lt_of_lt_of_le hgl hw7s.size)
        clear hw7s
        go_wp2_with fail
        rw [HW7.out]
        clear HW7 hu
        go_region_held3 (fun w' => w'.cell? ⟨g0, off + k * 5, none⟩ = some (.int .i64 t) ∧ w'.cell? ⟨g0, off + k * 5 + 1, none⟩ = some (.string x) ∧ w'.cell? ⟨g0, off + k * 5 + 2, none⟩ = some (.int .u64 (q : Int)) ∧ w'.cell? ⟨g0, off + k * 5 + 3, none⟩ = some (.bool g) ∧ w'.cell? ⟨g0, off + k * 5 + 4, none⟩ = some (.string s) ∧ w'.cell? ⟨u, 0, none⟩ = some (.int .i64 yt) ∧ w'.cell? ⟨u, 1, none⟩ = some (.string yx) ∧ w'.cell? ⟨u, 2, none⟩ = some (.int .u64 (yq : Int)) ∧ w'.cell? ⟨u, 3, none⟩ = some (.bool yg) ∧ w'.cell? ⟨u, 4, none⟩ = some (.string ys) ∧ g0 < w7.heap.size ∧ u < w7.heap.size ∧ Below w7.heap.size w7 w') (first | exact ST | exact TvS.next (x := ⟨t, x, q, g, s⟩) (y := ⟨yt, yx, yq, yg, ys⟩) (by assumption) (by assumption) | go_keep) ((go_at_call 26; refine (HNW.out _).mono ?_; rintro e w' ⟨rfl, hb'⟩))
        rename_i hH
        have d0 := hH.1
        have d1 := hH.2.1
        have d2 := hH.2.2.1
        have d3 := hH.2.2.2.1
        have d4 := hH.2.2.2.2.1
        have hb78 := HB7.out.trans (hH.2.2.2.2.2.2.2.2.2.2.2.2.mono HB7.out.size)
        have HS := Lib.hid (HSET.out w' (HV.out.below hb78))
        have HB8 := Lib.hid (HB.out.trans (hb78.mono HB.out.size))
        have HROW8 := Lib.hid (ownsRow_later HROW.out hb78)
        clear hH hb78 hb' ST HNW
        cases B with
        | true =>
          have HN := Lib.hid (step_newer (r := ⟨t, x, q, g, s⟩) HY.out.1 HY.out.2)
          go_wp2_with fail
          refine HS.out.mono ?_
          rintro e w9 ⟨v9, rfl, hrow9, hb9⟩
          have HR9 := Lib.hid (own_low hrow9 HB8.out.size)
          have HB9 := Lib.hid (HB8.out.trans (hb9.mono HB8.out.size))
          clear hrow9 hb9
          go_wp2_with fail
          go_roundw
          case rel => exact ⟨k + 1, by omega, by go_num, by rw [HX.out, HN.out]; exact HR9.out, HB9.out⟩
          case measure => simp [RowKit.intOf]; omega
        | false =>
          have HN := Lib.hid (step_older (r := ⟨t, x, q, g, s⟩) HY.out.1 HY.out.2)
          go_wp2_with fail
          go_roundw
          case rel => exact ⟨k + 1, by omega, by go_num, by rw [HX.out, HN.out, HM.out]; exact HROW8.out, HB8.out⟩
          case measure => simp [RowKit.intOf]; omega
    · obtain rfl : k = L := by omega
      have HE := Lib.hid (show rs.take k = rs from List.take_of_length_le (by have := HL.out; omega))
      have HRow := Lib.hid hrow
      have HB := Lib.hid hb
      clear hrow hb
      go_wp2_with fail
      go_ret
      refine ⟨_, rfl, ?_, HB.out⟩
      have := HRow.out
      rw [HE.out] at this; exact this
end Go.Proofs.YtjolgalfjahceaaGreatDoor
namespace Go.Proofs.YtjolgalfjahceaaGreatDoor
open Go.RowKit Go.Lib

theorem getVal_vr (o : Option Vr) : ∃ v : Vr, getVal o = v.v := by
  cases o with
  | none => exact ⟨⟨0, ⟨#[]⟩, 0, false, ⟨#[]⟩⟩, rfl⟩
  | some r => exact ⟨r, rfl⟩
theorem VrsAt.other {w w' : World} {K : Nat} {a : Option Addr} {rs : List Vr} (h : VrsAt w a rs) (hj : ∀ k, k ≠ K → w'.heap[k]? = w.heap[k]?) (hs : w'.heap.size = w.heap.size) (hne : ∀ g o, a = some ⟨g, o, none⟩ → g ≠ K) : VrsAt w' a rs := by
  intro i r hi
  obtain ⟨g, off, ha, hg, h0, h1, h2, h3, h4⟩ := h i r hi
  have hc : ∀ o, w'.cell? ⟨g, o, none⟩ = w.cell? ⟨g, o, none⟩ := fun o => by
    unfold World.cell?
    rw [hj g (hne g off ha)]
  exact ⟨g, off, ha, by rw [hs]; exact hg, (hc _).trans h0, (hc _).trans h1, (hc _).trans h2, (hc _).trans h3, (hc _).trans h4⟩
theorem row_high {w : World} {base e size n c : Nat} {a : Option Addr} {xs : List Value} (h : w.ownsRow base e size (.slice a n c) n xs) : ∀ g o, a = some ⟨g, o, none⟩ → base ≤ g := by
  intro g o e'
  rcases h.2 with ⟨hv, _⟩ | ⟨g', cap, cur, hv, hb, _⟩
  · injection hv with h1; rw [h1] at e'; cases e'
  · injection hv with h1; rw [h1] at e'; injection e' with e'; injection e' with e1; omega
/-- A version in a block and how far the call got. -/
def OneS (w : World) (u : Nat) (y : Vr) (w' : World) : Prop := w'.cell? ⟨u, 0, none⟩ = some (.int .i64 y.t) ∧ w'.cell? ⟨u, 1, none⟩ = some (.string y.x) ∧ w'.cell? ⟨u, 2, none⟩ = some (.int .u64 (y.q : Int)) ∧ w'.cell? ⟨u, 3, none⟩ = some (.bool y.g) ∧ w'.cell? ⟨u, 4, none⟩ = some (.string y.s) ∧ u < w.heap.size ∧ Below w.heap.size w w'
theorem OneS.next {w w' w'' : World} {u : Nat} {y : Vr} (h : OneS w u y w') (hb : Below w'.heap.size w' w'') : OneS w u y w'' := by
  obtain ⟨k0, k1, k2, k3, k4, hu, h5⟩ := h
  have hm : u < w'.heap.size := Nat.lt_of_lt_of_le hu h5.size
  exact ⟨(hb.cell (p := ⟨u, _, none⟩) hm).trans k0, (hb.cell (p := ⟨u, _, none⟩) hm).trans k1, (hb.cell (p := ⟨u, _, none⟩) hm).trans k2, (hb.cell (p := ⟨u, _, none⟩) hm).trans k3, (hb.cell (p := ⟨u, _, none⟩) hm).trans k4, hu, h5.trans (hb.mono h5.size)⟩
theorem OneS.far {w w' : World} {u : Nat} {y : Vr} (h : OneS w u y w') : Below w.heap.size w w' := h.2.2.2.2.2.2
/-- A key in a block and how far the call got. -/
def KeyS (w : World) (u : Nat) (t : Int) (x : ByteArray) (w' : World) : Prop := w'.cell? ⟨u, 0, none⟩ = some (.int .i64 t) ∧ w'.cell? ⟨u, 1, none⟩ = some (.string x) ∧ u < w.heap.size ∧ Below w.heap.size w w'
theorem KeyS.next {w w' w'' : World} {u : Nat} {t : Int} {x : ByteArray} (h : KeyS w u t x w') (hb : Below w'.heap.size w' w'') : KeyS w u t x w'' := by
  obtain ⟨k0, k1, hu, h5⟩ := h
  have hm : u < w'.heap.size := Nat.lt_of_lt_of_le hu h5.size
  exact ⟨(hb.cell (p := ⟨u, _, none⟩) hm).trans k0, (hb.cell (p := ⟨u, _, none⟩) hm).trans k1, hu, h5.trans (hb.mono h5.size)⟩
theorem KeyS.far {w w' : World} {u : Nat} {t : Int} {x : ByteArray} (h : KeyS w u t x w') : Below w.heap.size w w' := h.2.2.2
/-- What the last condition reads. -/
def FinS (w : World) (uF uG uR g o : Nat) (f r y : Vr) (w' : World) : Prop := w'.cell? ⟨uF, 0, none⟩ = some (.int .i64 f.t) ∧ w'.cell? ⟨uF, 1, none⟩ = some (.string f.x) ∧ w'.cell? ⟨uF, 2, none⟩ = some (.int .u64 (f.q : Int)) ∧ w'.cell? ⟨uF, 3, none⟩ = some (.bool f.g) ∧ w'.cell? ⟨uF, 4, none⟩ = some (.string f.s) ∧ w'.cell? ⟨uG, 0, none⟩ = some (.int .i64 f.t) ∧ w'.cell? ⟨uG, 1, none⟩ = some (.string f.x) ∧ w'.cell? ⟨uG, 2, none⟩ = some (.int .u64 (f.q : Int)) ∧ w'.cell? ⟨uG, 3, none⟩ = some (.bool f.g) ∧ w'.cell? ⟨uG, 4, none⟩ = some (.string f.s) ∧ w'.cell? ⟨uR, 0, none⟩ = some (.int .i64 r.t) ∧ w'.cell? ⟨uR, 1, none⟩ = some (.string r.x) ∧ w'.cell? ⟨uR, 2, none⟩ = some (.int .u64 (r.q : Int)) ∧ w'.cell? ⟨uR, 3, none⟩ = some (.bool r.g) ∧ w'.cell? ⟨uR, 4, none⟩ = some (.string r.s) ∧ w'.cell? ⟨g, o, none⟩ = some (.int .i64 y.t) ∧ w'.cell? ⟨g, o + 1, none⟩ = some (.string y.x) ∧ w'.cell? ⟨g, o + 2, none⟩ = some (.int .u64 (y.q : Int)) ∧ w'.cell? ⟨g, o + 3, none⟩ = some (.bool y.g) ∧ w'.cell? ⟨g, o + 4, none⟩ = some (.string y.s) ∧ uF < w.heap.size ∧ uG < w.heap.size ∧ uR < w.heap.size ∧ g < w.heap.size ∧ Below w.heap.size w w'
theorem FinS.next {w w' w'' : World} {uF uG uR g o : Nat} {f r y : Vr} (h : FinS w uF uG uR g o f r y w') (hb : Below w'.heap.size w' w'') : FinS w uF uG uR g o f r y w'' := by
  obtain ⟨F0, F1, F2, F3, F4, G0, G1, G2, G3, G4, R0, R1, R2, R3, R4, Y0, Y1, Y2, Y3, Y4, hF, hG, hR, hg, h5⟩ := h
  have mF : uF < w'.heap.size := Nat.lt_of_lt_of_le hF h5.size
  have mG : uG < w'.heap.size := Nat.lt_of_lt_of_le hG h5.size
  have mR : uR < w'.heap.size := Nat.lt_of_lt_of_le hR h5.size
  have mg : g < w'.heap.size := Nat.lt_of_lt_of_le hg h5.size
  exact ⟨(hb.cell (p := ⟨uF, _, none⟩) mF).trans F0, (hb.cell (p := ⟨uF, _, none⟩) mF).trans F1, (hb.cell (p := ⟨uF, _, none⟩) mF).trans F2, (hb.cell (p := ⟨uF, _, none⟩) mF).trans F3, (hb.cell (p := ⟨uF, _, none⟩) mF).trans F4, (hb.cell (p := ⟨uG, _, none⟩) mG).trans G0, (hb.cell (p := ⟨uG, _, none⟩) mG).trans G1, (hb.cell (p := ⟨uG, _, none⟩) mG).trans G2, (hb.cell (p := ⟨uG, _, none⟩) mG).trans G3, (hb.cell (p := ⟨uG, _, none⟩) mG).trans G4, (hb.cell (p := ⟨uR, _, none⟩) mR).trans R0, (hb.cell (p := ⟨uR, _, none⟩) mR).trans R1, (hb.cell (p := ⟨uR, _, none⟩) mR).trans R2, (hb.cell (p := ⟨uR, _, none⟩) mR).trans R3, (hb.cell (p := ⟨uR, _, none⟩) mR).trans R4, (hb.cell (p := ⟨g, _, none⟩) mg).trans Y0, (hb.cell (p := ⟨g, _, none⟩) mg).trans Y1, (hb.cell (p := ⟨g, _, none⟩) mg).trans Y2, (hb.cell (p := ⟨g, _, none⟩) mg).trans Y3, (hb.cell (p := ⟨g, _, none⟩) mg).trans Y4, hF, hG, hR, hg, h5.trans (hb.mono h5.size)⟩

set_option maxRecDepth 100000 in
set_option maxHeartbeats 8000000 in
theorem lists_walk (a : Option Addr) (c : Nat) (ms : List Tg) (k : Tg) (t : Int) (x : ByteArray) (own : Bool) (b : Addr) (w : World) (hg : Gv b w) (h : TgsIn w a ms) (hlen : ms.length ≤ 9223372036854775807) (hsz : ∀ k ∈ ms, k.s.size ≤ 9223372036854775807) (hs : k.s.size ≤ 9223372036854775807)
    (hok : ∀ r ∈ (ms.take 20).map tgV, rkOk (kOf r)) :
    Calls Tryz.prog 3 #[.slice a ms.length c, k.v, .agg #[.int .i64 t, .string x], .bool own] w fun e w' => e = .returned (.bool true) ∧ Below w.heap.size w w' := by
  obtain ⟨kt, kx, kq, kg, ks, ko, kn⟩ := k
  have HT := Lib.hid (fun W => thing_tg ⟨kt, kx, kq, kg, ks, ko, kn⟩ W hs)
  generalize tgV ⟨kt, kx, kq, kg, ks, ko, kn⟩ = r at HT
  have hrl : ((ms.take 20).map tgV).length ≤ 20 := by rw [List.length_map, List.length_take]; omega
  have HTS := Lib.hid (fun W h => things20 a c ms W h hlen hsz)
  generalize (ms.take 20).map tgV = rs at HTS hrl hok
  have HOK := Lib.hid hok
  have HIN := Lib.hid h
  have HGV := Lib.hid hg
  generalize ms.length = ML at HTS hlen ⊢
  have hcl : (cutL t x rs).length ≤ rs.length := List.length_filter_le _ _
  clear h hlen hsz hs hok hcl hg
  obtain ⟨rt, rx, rq, rg, rb⟩ := r
  obtain ⟨N, hN⟩ : ∃ N, rs.length = N := ⟨_, rfl⟩
  have HN := Lib.hid hN
  rw [hN] at hrl
  clear hN
  obtain ⟨i0, hi, hz0, hz1, hz2⟩ := info_parts Tryz.infoRs
  have HI := Lib.hid (And.intro hi (And.intro hz0 (And.intro hz1 hz2)))
  clear hi hz0 hz1 hz2
  obtain ⟨wA, hwA, hbA, pT⟩ := alloc_new w #[.int .i64 kt, .string kx, .int .u64 (kq : Int), .bool kg, .string ks, .bool ko, .int .u8 (kn : Int)] 29
  obtain ⟨w0, hw0, hbB, pK⟩ := alloc_new wA #[.int .i64 t, .string x] 24
  have hsA : wA.heap.size = w.heap.size + 1 := by rw [← hwA]; simp
  rw [hsA] at pK
  replace pT := pT.below hbB pT.lt
  have HW0 := Lib.hid (show (w.alloc (.cells #[.int .i64 kt, .string kx, .int .u64 (kq : Int), .bool kg, .string ks, .bool ko, .int .u8 (kn : Int)] 29)).alloc (.cells #[.int .i64 t, .string x] 24) = w0 by rw [hwA]; exact hw0)
  have hbw : Below w.heap.size w w0 := hbA.trans (hbB.mono hbA.size)
  clear hwA hw0 hbA hbB hsA
  go_enter Tryz.func3, Tryz.ntmps3
  go_wp2_with fail
  rw [HW0.out]
  refine (rs_examples b w0 (HGV.out.below hbw)).mono ?_
  rintro e w1 ⟨rfl, hb⟩
  replace pT := pT.below hb pT.lt
  replace pK := pK.below hb pK.lt
  replace hbw := hbw.trans (hb.mono hbw.size)
  clear hb HW0
  go_wp2_with fail
  refine (HTS.out w1 (HIN.out.below hbw)).mono ?_
  rintro e w2 ⟨v2, rfl, hrow, hb⟩
  rw [HN.out] at hrow
  obtain ⟨a2, c2, rfl⟩ := owns_slice hrow
  have hhi := row_high hrow
  have lA : VrsAt w2 a2 rs := vrsAt_row (c := c2) (by rw [HN.out]; exact hrow)
  have HHI := Lib.hid (fun g o (e : a2 = some ⟨g, o, none⟩) => show g ≠ w.heap.size + 1 by have := hhi g o e; have := pK.lt; omega)
  replace pT := pT.below hb pT.lt
  replace pK := pK.below hb pK.lt
  replace hbw := hbw.trans (hb.mono hbw.size)
  clear hb hrow hhi
  have c0 : w2.cell? ⟨w.heap.size, 0, none⟩ = some (.int .i64 kt) := pT.cell 0
  have c1 : w2.cell? ⟨w.heap.size, 1, none⟩ = some (.string kx) := pT.cell 1
  have c2 : w2.cell? ⟨w.heap.size, 2, none⟩ = some (.int .u64 (kq : Int)) := pT.cell 2
  have c3 : w2.cell? ⟨w.heap.size, 3, none⟩ = some (.bool kg) := pT.cell 3
  have c4 : w2.cell? ⟨w.heap.size, 4, none⟩ = some (.string ks) := pT.cell 4
  have c5 : w2.cell? ⟨w.heap.size, 5, none⟩ = some (.bool ko) := pT.cell 5
  have c6 : w2.cell? ⟨w.heap.size, 6, none⟩ = some (.int .u8 (kn : Int)) := pT.cell 6
  go_wp2_with fail
  refine (HT.out w2).mono ?_
  rintro e w3 ⟨rfl, hb⟩
  replace pK := pK.below hb pK.lt
  replace lA := lA.below hb
  replace hbw := hbw.trans (hb.mono hbw.size)
  have pK3 := pK
  have lA3 := lA
  have hbw3 := hbw
  obtain ⟨w4, hw4, hb4, pR⟩ := alloc_new w3 #[.int .i64 rt, .string rx, .int .u64 (rq : Int), .bool rg, .string rb] 27
  replace pK := pK.below hb4 pK.lt
  replace lA := lA.below hb4
  replace hbw := hbw.trans (hb4.mono hbw.size)
  have HW4 := Lib.hid hw4
  skip
  clear hw4 hb hb4 pT c0 c1 c2 c3 c4 c5 c6
  cases own with
  | true =>
    clear pK lA hbw pR HW4 w4
    have k0 : w3.cell? ⟨w.heap.size + 1, 0, none⟩ = some (.int .i64 t) := pK3.cell 0
    have k1 : w3.cell? ⟨w.heap.size + 1, 1, none⟩ = some (.string x) := pK3.cell 1
    have kf : ∀ j, w3.frozen? ⟨w.heap.size + 1, j, none⟩ = false := pK3.frozen
    have hkl := pK3.lt
    obtain ⟨wS, hwS⟩ : ∃ wS, (w3.setCell ⟨w.heap.size + 1, 0, none⟩ (.int .i64 rt)).setCell ⟨w.heap.size + 1, 1, none⟩ (.string rx) = wS := ⟨_, rfl⟩
    have pK : Blk wS (w.heap.size + 1) #[.int .i64 rt, .string rx] 24 := by rw [← hwS]; exact (pK3.set 0 _).set 1 _
    have hsz : wS.heap.size = w3.heap.size := by rw [← hwS]; simp
    have lA : VrsAt wS a2 rs := lA3.other (K := w.heap.size + 1) (fun k hk => by rw [← hwS, Below.heap_setCell _ _ _ _ hk, Below.heap_setCell _ _ _ _ hk]) hsz (fun g o e => HHI.out g o e)
    have hbw : Below w.heap.size w wS := by rw [← hwS]; exact (hbw3.setCell (by show w.heap.size ≤ w.heap.size + 1; omega) _).setCell (by show w.heap.size ≤ w.heap.size + 1; omega) _
    obtain ⟨w4, hw4, hb4, pR⟩ := alloc_new wS #[.int .i64 rt, .string rx, .int .u64 (rq : Int), .bool rg, .string rb] 27
    rw [hsz] at pR
    replace pK := pK.below hb4 pK.lt
    replace lA := lA.below hb4
    replace hbw := hbw.trans (hb4.mono hbw.size)
    rw [← hwS] at hw4
    have HW4 := Lib.hid hw4
    clear hw4 hb4 hsz hwS pK3 lA3 hbw3
    go_wp2_with (at_builtin; go_must (rw [HW4.out]; refine wpList_append_in _ rfl _ _ 31 rfl w4.heap.size 27 i0 _ 5 56 Tryz.underlying31 HI.out.1 HI.out.2.1 HI.out.2.2.1 HI.out.2.2.2 rfl (by omega) _ _ _ rfl (World.ownsRow_nil _ _ _ _) a2 N c2 (vrCells rs) rfl (by rw [vrCells_len, HN.out]) (vrs_news lA) vr_one (by unfold maxLen; omega) (by omega) (Nat.le_refl _) ?_; intro v5 w5 hrow hgr; have hb5 : Below w4.heap.size w4 w5 := ((Below.refl _ _).grown hgr (Nat.le_refl _) (fun j hj => by cases hj)); replace pK := pK.below hb5 pK.lt; replace pR := pR.below hb5 pR.lt; replace lA := lA.below hb5; replace hbw := hbw.trans (hb5.mono hbw.size); have k0 : w5.cell? ⟨w.heap.size + 1, 0, none⟩ = some (.int .i64 rt) := pK.cell 0; have k1 : w5.cell? ⟨w.heap.size + 1, 1, none⟩ = some (.string rx) := pK.cell 1; have HR5 := Lib.hid (show w5.ownsRow w4.heap.size 27 5 v5 N (vrCells rs) from (by simpa using hrow)); clear hb5 hrow hgr))
    obtain ⟨a5, c5, rfl⟩ := owns_slice HR5.out
    have lO : VrsAt w5 a5 rs := vrsAt_row (c := c5) (by rw [HN.out]; exact HR5.out)
    obtain ⟨⟨ft, fx, fq, fg, fs⟩, hf⟩ := getVal_vr (rs.find? (keyB rt rx))
    obtain ⟨ok, hok⟩ : ∃ o, (rs.find? (keyB rt rx)).isSome = o := ⟨_, rfl⟩
    have hfa := find_any rt rx a2 c2 rs w5 lA (by rw [HN.out]; omega)
    rw [hf, hok, HN.out] at hfa
    have HF1 := Lib.hid (show Calls Tryz.prog 7 #[.slice a2 N c2, .agg #[.int .i64 rt, .string rx]] w5 fun e w' => e = .returned (.tuple #[.agg #[.int .i64 ft, .string fx, .int .u64 (fq : Int), .bool fg, .string fs], .bool ok]) ∧ Below w5.heap.size w5 w' from hfa)
    clear hfa
    go_wp2_with fail
    refine HF1.out.mono ?_
    rintro e w6 ⟨rfl, hb⟩
    clear k0 k1 HF1
    replace pK := pK.below hb pK.lt
    replace pR := pR.below hb pR.lt
    replace lA := lA.below hb
    replace hbw := hbw.trans (hb.mono hbw.size)
    replace lO := lO.below hb
    clear hb
    have k0 : w6.cell? ⟨w.heap.size + 1, 0, none⟩ = some (.int .i64 rt) := pK.cell 0
    have k1 : w6.cell? ⟨w.heap.size + 1, 1, none⟩ = some (.string rx) := pK.cell 1
    have hkl := pK.lt
    obtain ⟨w7, hw, hb, pF⟩ := alloc_new w6 #[.int .i64 ft, .string fx, .int .u64 (fq : Int), .bool fg, .string fs] 27
    replace pK := pK.below hb pK.lt
    replace pR := pR.below hb pR.lt
    replace lA := lA.below hb
    replace hbw := hbw.trans (hb.mono hbw.size)
    replace lO := lO.below hb
    have HW7 := Lib.hid hw
    clear hw hb
    have hfa := rfind4_any rt rx a2 c2 rs w7 lA (by rw [HN.out]; omega)
    rw [hf, hok, HN.out] at hfa
    have HF2 := Lib.hid (show Calls Tryz.prog 8 #[.slice a2 N c2, .agg #[.int .i64 rt, .string rx]] w7 fun e w' => e = .returned (.tuple #[.agg #[.int .i64 ft, .string fx, .int .u64 (fq : Int), .bool fg, .string fs], .bool ok]) ∧ Below w7.heap.size w7 w' from hfa)
    clear hfa
    go_wp2_with fail
    rw [HW7.out]
    refine HF2.out.mono ?_
    rintro e w8 ⟨rfl, hb⟩
    clear k0 k1 hkl HW7 HF2
    replace pK := pK.below hb pK.lt
    replace pR := pR.below hb pR.lt
    replace lA := lA.below hb
    replace hbw := hbw.trans (hb.mono hbw.size)
    replace lO := lO.below hb
    replace pF := pF.below hb pF.lt
    clear hb
    obtain ⟨w9, hw, hb, pG⟩ := alloc_new w8 #[.int .i64 ft, .string fx, .int .u64 (fq : Int), .bool fg, .string fs] 27
    replace pK := pK.below hb pK.lt
    replace pR := pR.below hb pR.lt
    replace lA := lA.below hb
    replace hbw := hbw.trans (hb.mono hbw.size)
    replace lO := lO.below hb
    replace pF := pF.below hb pF.lt
    have HW9 := Lib.hid hw
    clear hw hb hf hok
    have hso := rsort_any a2 c2 rs w9 lA HOK.out (by rw [HN.out]; omega)
    rw [HN.out] at hso
    have HSO := Lib.hid hso
    clear hso
    go_wp2_with fail
    rw [HW9.out]
    refine HSO.out.mono ?_
    rintro e w10 ⟨v10, ys, rfl, hp, hs, hrow, hb⟩
    have hys : ys = refS rs := refS_is hp hs
    rw [hys] at hrow
    obtain ⟨a10, c10, rfl⟩ := owns_slice hrow
    have lS : VrsAt w10 a10 (refS rs) := vrsAt_row hrow
    clear HW9 HSO hp hs hrow hys
    replace pK := pK.below hb pK.lt
    replace pR := pR.below hb pR.lt
    replace lA := lA.below hb
    replace hbw := hbw.trans (hb.mono hbw.size)
    replace lO := lO.below hb
    replace pF := pF.below hb pF.lt
    replace pG := pG.below hb pG.lt
    clear hb
    have hsl : (refS rs).length ≤ N := by rw [← HN.out]; exact refS_len rs
    generalize hSS : refS rs = SS at lS hsl ⊢
    obtain ⟨SL, hSL⟩ : ∃ SL, SS.length = SL := ⟨_, rfl⟩
    rw [hSL] at hsl ⊢
    have hso := rsort4_any a2 c2 rs w10 lA (by rw [HN.out]; omega)
    rw [HN.out, hSS] at hso
    have HSO := Lib.hid hso
    have HSL := Lib.hid hSL
    clear hso hSS hSL
    go_wp2_with fail
    refine HSO.out.mono ?_
    rintro e w11 ⟨v11, rfl, hrow, hb⟩
    rw [HSL.out] at hrow
    obtain ⟨a11, c11, rfl⟩ := owns_slice hrow
    have lT : VrsAt w11 a11 SS := vrsAt_row (c := c11) (by rw [HSL.out]; exact hrow)
    clear HSO hrow
    replace pK := pK.below hb pK.lt
    replace pR := pR.below hb pR.lt
    replace lA := lA.below hb
    replace hbw := hbw.trans (hb.mono hbw.size)
    replace lO := lO.below hb
    replace pF := pF.below hb pF.lt
    replace pG := pG.below hb pG.lt
    replace lS := lS.below hb
    clear hb
    have hal := alike_same a10 a11 c10 c11 SS w11 lS lT (by rw [HSL.out]; omega)
    rw [HSL.out] at hal
    have HAL := Lib.hid hal
    clear hal lT lS
    go_wp2_with fail
    refine HAL.out.mono ?_
    rintro e w12 ⟨rfl, hb⟩
    clear HAL
    replace pK := pK.below hb pK.lt
    replace pR := pR.below hb pR.lt
    replace lA := lA.below hb
    replace hbw := hbw.trans (hb.mono hbw.size)
    replace lO := lO.below hb
    replace pF := pF.below hb pF.lt
    replace pG := pG.below hb pG.lt
    clear hb
    skip
    have HST := Lib.hid (fun W h => set_any ⟨rt, rx, rq, rg, rb⟩ a2 c2 rs W h (by rw [HN.out]; omega))
    have HSR := Lib.hid (fun W h => rset4_any ⟨rt, rx, rq, rg, rb⟩ a2 c2 rs W h (by rw [HN.out]; omega))
    have hsl2 : (setL ⟨rt, rx, rq, rg, rb⟩ rs).length ≤ N + 1 := by rw [← HN.out]; exact setL_len _ rs
    generalize setL ⟨rt, rx, rq, rg, rb⟩ rs = E at HST HSR hsl2
    obtain ⟨EL, hEL⟩ : ∃ EL, E.length = EL := ⟨_, rfl⟩
    rw [hEL] at hsl2
    have HEL := Lib.hid hEL
    rw [HN.out] at HST HSR
    clear hEL
    have hbd : Below w12.heap.size w12 w12.drew := (Below.refl _ _).drew
    have ST : OneS w12 w3.heap.size ⟨rt, rx, rq, rg, rb⟩ w12.drew := by
      have p := pR.below hbd pR.lt
      exact ⟨p.cell 0, p.cell 1, p.cell 2, p.cell 3, p.cell 4, pR.lt, hbd⟩
    have HLA := Lib.hid lA
    clear hbd
    go_wp2_with fail
    go_region_held3 (fun w' => w'.cell? ⟨w3.heap.size, 0, none⟩ = some (.int .i64 rt) ∧ w'.cell? ⟨w3.heap.size, 1, none⟩ = some (.string rx) ∧ w'.cell? ⟨w3.heap.size, 2, none⟩ = some (.int .u64 (rq : Int)) ∧ w'.cell? ⟨w3.heap.size, 3, none⟩ = some (.bool rg) ∧ w'.cell? ⟨w3.heap.size, 4, none⟩ = some (.string rb) ∧ w3.heap.size < w12.heap.size ∧ Below w12.heap.size w12 w') (first | exact ST | exact OneS.next (y := ⟨rt, rx, rq, rg, rb⟩) (by assumption) (by assumption) | go_keep) ((first | (go_at_call 12; refine (HST.out _ (HLA.out.below (OneS.far (y := ⟨rt, rx, rq, rg, rb⟩) (by assumption)))).mono ?_; rintro e wP ⟨vP, rfl, hrowP, hbP⟩; rw [HEL.out] at hrowP; obtain ⟨aP, cP, rfl⟩ := owns_slice hrowP) | (go_at_call 13; refine (HSR.out _ (HLA.out.below (OneS.far (y := ⟨rt, rx, rq, rg, rb⟩) (by assumption)))).mono ?_; rintro e wQ ⟨vQ, rfl, hrowQ, hbQ⟩; rw [HEL.out] at hrowQ; obtain ⟨aQ, cQ, rfl⟩ := owns_slice hrowQ) | (go_at_call 9; have hal := alike_same aP aQ cP cQ E wQ ((vrsAt_row (c := cP) (by rw [HEL.out]; exact hrowP)).below hbQ) (vrsAt_row (c := cQ) (by rw [HEL.out]; exact hrowQ)) (by rw [HEL.out]; omega); rw [HEL.out] at hal; refine hal.mono ?_; clear hal; rintro e wX ⟨rfl, hbX⟩)))
    rename_i hH
    have hb := hH.2.2.2.2.2.2
    clear hH ST
    replace pK := pK.below hb pK.lt
    replace pR := pR.below hb pR.lt
    replace lA := lA.below hb
    replace hbw := hbw.trans (hb.mono hbw.size)
    replace lO := lO.below hb
    replace pF := pF.below hb pF.lt
    replace pG := pG.below hb pG.lt
    clear hb
    have HCU := Lib.hid (fun W h => cut_any rt rx a2 c2 rs W h (by rw [HN.out]; omega))
    have HCR := Lib.hid (fun W h => rcut4_any rt rx a2 c2 rs W h (by rw [HN.out]; omega))
    have hcl2 : (cutL rt rx rs).length ≤ N := by rw [← HN.out]; exact List.length_filter_le _ _
    generalize cutL rt rx rs = D at HCU HCR hcl2
    obtain ⟨DL, hDL⟩ : ∃ DL, D.length = DL := ⟨_, rfl⟩
    rw [hDL] at hcl2
    have HDL := Lib.hid hDL
    rw [HN.out] at HCU HCR
    clear hDL
    have hbd : Below wX.heap.size wX wX.drew := (Below.refl _ _).drew
    have ST : KeyS wX (w.heap.size + 1) rt rx wX.drew := by
      have p := pK.below hbd pK.lt
      exact ⟨p.cell 0, p.cell 1, pK.lt, hbd⟩
    have HLB := Lib.hid lA
    clear hbd
    go_wp2_with fail
    go_region_held3 (fun w' => w'.cell? ⟨w.heap.size + 1, 0, none⟩ = some (.int .i64 rt) ∧ w'.cell? ⟨w.heap.size + 1, 1, none⟩ = some (.string rx) ∧ w.heap.size + 1 < wX.heap.size ∧ Below wX.heap.size wX w') (first | exact ST | exact KeyS.next (t := rt) (x := rx) (by assumption) (by assumption) | go_keep) ((first | (go_at_call 14; refine (HCU.out _ (HLB.out.below (KeyS.far (t := rt) (x := rx) (by assumption)))).mono ?_; rintro e wP ⟨vP, rfl, hrowP, hbP⟩; rw [HDL.out] at hrowP; obtain ⟨aP, cP, rfl⟩ := owns_slice hrowP) | (go_at_call 15; refine (HCR.out _ (HLB.out.below (KeyS.far (t := rt) (x := rx) (by assumption)))).mono ?_; rintro e wQ ⟨vQ, rfl, hrowQ, hbQ⟩; rw [HDL.out] at hrowQ; obtain ⟨aQ, cQ, rfl⟩ := owns_slice hrowQ) | (go_at_call 9; have hal := alike_same aP aQ cP cQ D wQ ((vrsAt_row (c := cP) (by rw [HDL.out]; exact hrowP)).below hbQ) (vrsAt_row (c := cQ) (by rw [HDL.out]; exact hrowQ)) (by rw [HDL.out]; omega); rw [HDL.out] at hal; refine hal.mono ?_; clear hal; rintro e wY ⟨rfl, hbX⟩)))
    rename_i hH
    have hb := hH.2.2.2
    clear hH ST
    replace pK := pK.below hb pK.lt
    replace pR := pR.below hb pR.lt
    replace lA := lA.below hb
    replace hbw := hbw.trans (hb.mono hbw.size)
    replace lO := lO.below hb
    replace pF := pF.below hb pF.lt
    replace pG := pG.below hb pG.lt
    clear hb
    have hal := alike_same a2 a5 c2 c5 rs wY lA lO (by rw [HN.out]; omega)
    rw [HN.out] at hal
    have HAL := Lib.hid hal
    clear hal
    go_wp2_with fail
    refine HAL.out.mono ?_
    rintro e wZ ⟨rfl, hb⟩
    clear HAL
    replace pK := pK.below hb pK.lt
    replace pR := pR.below hb pR.lt
    replace lA := lA.below hb
    replace hbw := hbw.trans (hb.mono hbw.size)
    replace lO := lO.below hb
    replace pF := pF.below hb pF.lt
    replace pG := pG.below hb pG.lt
    clear hb
    generalize huF : w6.heap.size = uF at pF
    generalize huG : w8.heap.size = uG at pG
    generalize huR : w3.heap.size = uR at pR
    have HBZ := Lib.hid hbw
    by_cases hN0 : N = 0
    · subst hN0
      have pFc0 : wZ.cell? ⟨uF, 0, none⟩ = some (.int .i64 ft) := pF.cell 0
      have pFc1 : wZ.cell? ⟨uF, 1, none⟩ = some (.string fx) := pF.cell 1
      have pFc2 : wZ.cell? ⟨uF, 2, none⟩ = some (.int .u64 (fq : Int)) := pF.cell 2
      have pFc3 : wZ.cell? ⟨uF, 3, none⟩ = some (.bool fg) := pF.cell 3
      have pFc4 : wZ.cell? ⟨uF, 4, none⟩ = some (.string fs) := pF.cell 4
      have pGc0 : wZ.cell? ⟨uG, 0, none⟩ = some (.int .i64 ft) := pG.cell 0
      have pGc1 : wZ.cell? ⟨uG, 1, none⟩ = some (.string fx) := pG.cell 1
      have pGc2 : wZ.cell? ⟨uG, 2, none⟩ = some (.int .u64 (fq : Int)) := pG.cell 2
      have pGc3 : wZ.cell? ⟨uG, 3, none⟩ = some (.bool fg) := pG.cell 3
      have pGc4 : wZ.cell? ⟨uG, 4, none⟩ = some (.string fs) := pG.cell 4
      clear pF pG pR pK lA lO hbw
      go_wp2_with fail
      go_quiet (fail)
      go_wp2_with fail
      go_ret
      exact ⟨by simp, HBZ.out.trans ((below_drewN' _).mono HBZ.out.size)⟩
    · obtain ⟨⟨yt, yx, yq, yg, ys⟩, hy⟩ : ∃ y, rs[0]? = some y := ⟨_, List.getElem?_eq_getElem (by have := HN.out; omega)⟩
      obtain ⟨g, o, rfl, hgl, p0, p1, p2, p3, p4⟩ := lA 0 _ hy
      rw [Nat.zero_mul, Nat.add_zero] at p0 p1 p2 p3 p4
      dsimp only at p0 p1 p2 p3 p4
      obtain ⟨B, hB⟩ : ∃ B, decide (yq < rq) = B := ⟨_, rfl⟩
      have HNW := Lib.hid (fun W => newer_any ⟨rt, rx, rq, rg, rb⟩ ⟨yt, yx, yq, yg, ys⟩ W)
      dsimp only at HNW
      rw [hB] at HNW
      have hNp : (0 : Int) < (N : Int) := by omega
      have hNn : 0 < N := by omega
      have hN1 : decide ((N : Int) = 0) = false := decide_eq_false (by omega)
      have hN3 : ((N : Int) == 0) = false := (by simpa using hN0)
      have hN4 : (N == 0) = false := (by simpa using hN0)
      have hN5 : decide (N = 0) = false := decide_eq_false hN0
      have hbd : Below wZ.heap.size wZ wZ.drew := (Below.refl _ _).drew
      have ST : FinS wZ uF uG uR g o ⟨ft, fx, fq, fg, fs⟩ ⟨rt, rx, rq, rg, rb⟩ ⟨yt, yx, yq, yg, ys⟩ wZ.drew := by
        have qF := pF.below hbd pF.lt
        have qG := pG.below hbd pG.lt
        have qR := pR.below hbd pR.lt
        exact ⟨qF.cell 0, qF.cell 1, qF.cell 2, qF.cell 3, qF.cell 4, qG.cell 0, qG.cell 1, qG.cell 2, qG.cell 3, qG.cell 4, qR.cell 0, qR.cell 1, qR.cell 2, qR.cell 3, qR.cell 4, (hbd.cell (p := ⟨g, _, none⟩) hgl).trans p0, (hbd.cell (p := ⟨g, _, none⟩) hgl).trans p1, (hbd.cell (p := ⟨g, _, none⟩) hgl).trans p2, (hbd.cell (p := ⟨g, _, none⟩) hgl).trans p3, (hbd.cell (p := ⟨g, _, none⟩) hgl).trans p4, pF.lt, pG.lt, pR.lt, hgl, hbd⟩
      clear hbd p0 p1 p2 p3 p4 pF pG pR pK lA lO hy hbw
      go_wp2_with fail
      go_region_held3 (fun w' => w'.cell? ⟨uF, 0, none⟩ = some (.int .i64 ft) ∧ w'.cell? ⟨uF, 1, none⟩ = some (.string fx) ∧ w'.cell? ⟨uF, 2, none⟩ = some (.int .u64 (fq : Int)) ∧ w'.cell? ⟨uF, 3, none⟩ = some (.bool fg) ∧ w'.cell? ⟨uF, 4, none⟩ = some (.string fs) ∧ w'.cell? ⟨uG, 0, none⟩ = some (.int .i64 ft) ∧ w'.cell? ⟨uG, 1, none⟩ = some (.string fx) ∧ w'.cell? ⟨uG, 2, none⟩ = some (.int .u64 (fq : Int)) ∧ w'.cell? ⟨uG, 3, none⟩ = some (.bool fg) ∧ w'.cell? ⟨uG, 4, none⟩ = some (.string fs) ∧ w'.cell? ⟨uR, 0, none⟩ = some (.int .i64 rt) ∧ w'.cell? ⟨uR, 1, none⟩ = some (.string rx) ∧ w'.cell? ⟨uR, 2, none⟩ = some (.int .u64 (rq : Int)) ∧ w'.cell? ⟨uR, 3, none⟩ = some (.bool rg) ∧ w'.cell? ⟨uR, 4, none⟩ = some (.string rb) ∧ w'.cell? ⟨g, o, none⟩ = some (.int .i64 yt) ∧ w'.cell? ⟨g, o + 1, none⟩ = some (.string yx) ∧ w'.cell? ⟨g, o + 2, none⟩ = some (.int .u64 (yq : Int)) ∧ w'.cell? ⟨g, o + 3, none⟩ = some (.bool yg) ∧ w'.cell? ⟨g, o + 4, none⟩ = some (.string ys) ∧ uF < wZ.heap.size ∧ uG < wZ.heap.size ∧ uR < wZ.heap.size ∧ g < wZ.heap.size ∧ Below wZ.heap.size wZ w') (first | exact ST | exact FinS.next (f := ⟨ft, fx, fq, fg, fs⟩) (r := ⟨rt, rx, rq, rg, rb⟩) (y := ⟨yt, yx, yq, yg, ys⟩) (by assumption) (by assumption) | go_keep) ((go_at_call 16; refine (HNW.out _).mono ?_; rintro e w' ⟨rfl, hb'⟩))
      rename_i hH
      have HH := Lib.hid (HBZ.out.trans (hH.2.2.2.2.2.2.2.2.2.2.2.2.2.2.2.2.2.2.2.2.2.2.2.2.mono HBZ.out.size))
      clear hH
      go_wp2_with fail
      go_ret
      refine ⟨?_, HH.out⟩
      rw [← hB]
      simp
  | false =>
    clear pK3 lA3 hbw3
    go_wp2_with (at_builtin; go_must (rw [HW4.out]; refine wpList_append_in _ rfl _ _ 31 rfl w4.heap.size 27 i0 _ 5 56 Tryz.underlying31 HI.out.1 HI.out.2.1 HI.out.2.2.1 HI.out.2.2.2 rfl (by omega) _ _ _ rfl (World.ownsRow_nil _ _ _ _) a2 N c2 (vrCells rs) rfl (by rw [vrCells_len, HN.out]) (vrs_news lA) vr_one (by unfold maxLen; omega) (by omega) (Nat.le_refl _) ?_; intro v5 w5 hrow hgr; have hb5 : Below w4.heap.size w4 w5 := ((Below.refl _ _).grown hgr (Nat.le_refl _) (fun j hj => by cases hj)); replace pK := pK.below hb5 pK.lt; replace pR := pR.below hb5 pR.lt; replace lA := lA.below hb5; replace hbw := hbw.trans (hb5.mono hbw.size); have k0 : w5.cell? ⟨w.heap.size + 1, 0, none⟩ = some (.int .i64 t) := pK.cell 0; have k1 : w5.cell? ⟨w.heap.size + 1, 1, none⟩ = some (.string x) := pK.cell 1; have HR5 := Lib.hid (show w5.ownsRow w4.heap.size 27 5 v5 N (vrCells rs) from (by simpa using hrow)); clear hb5 hrow hgr))
    obtain ⟨a5, c5, rfl⟩ := owns_slice HR5.out
    have lO : VrsAt w5 a5 rs := vrsAt_row (c := c5) (by rw [HN.out]; exact HR5.out)
    obtain ⟨⟨ft, fx, fq, fg, fs⟩, hf⟩ := getVal_vr (rs.find? (keyB t x))
    obtain ⟨ok, hok⟩ : ∃ o, (rs.find? (keyB t x)).isSome = o := ⟨_, rfl⟩
    have hfa := find_any t x a2 c2 rs w5 lA (by rw [HN.out]; omega)
    rw [hf, hok, HN.out] at hfa
    have HF1 := Lib.hid (show Calls Tryz.prog 7 #[.slice a2 N c2, .agg #[.int .i64 t, .string x]] w5 fun e w' => e = .returned (.tuple #[.agg #[.int .i64 ft, .string fx, .int .u64 (fq : Int), .bool fg, .string fs], .bool ok]) ∧ Below w5.heap.size w5 w' from hfa)
    clear hfa
    go_wp2_with fail
    refine HF1.out.mono ?_
    rintro e w6 ⟨rfl, hb⟩
    clear k0 k1 HF1
    replace pK := pK.below hb pK.lt
    replace pR := pR.below hb pR.lt
    replace lA := lA.below hb
    replace hbw := hbw.trans (hb.mono hbw.size)
    replace lO := lO.below hb
    clear hb
    have k0 : w6.cell? ⟨w.heap.size + 1, 0, none⟩ = some (.int .i64 t) := pK.cell 0
    have k1 : w6.cell? ⟨w.heap.size + 1, 1, none⟩ = some (.string x) := pK.cell 1
    have hkl := pK.lt
    obtain ⟨w7, hw, hb, pF⟩ := alloc_new w6 #[.int .i64 ft, .string fx, .int .u64 (fq : Int), .bool fg, .string fs] 27
    replace pK := pK.below hb pK.lt
    replace pR := pR.below hb pR.lt
    replace lA := lA.below hb
    replace hbw := hbw.trans (hb.mono hbw.size)
    replace lO := lO.below hb
    have HW7 := Lib.hid hw
    clear hw hb
    have hfa := rfind4_any t x a2 c2 rs w7 lA (by rw [HN.out]; omega)
    rw [hf, hok, HN.out] at hfa
    have HF2 := Lib.hid (show Calls Tryz.prog 8 #[.slice a2 N c2, .agg #[.int .i64 t, .string x]] w7 fun e w' => e = .returned (.tuple #[.agg #[.int .i64 ft, .string fx, .int .u64 (fq : Int), .bool fg, .string fs], .bool ok]) ∧ Below w7.heap.size w7 w' from hfa)
    clear hfa
    go_wp2_with fail
    rw [HW7.out]
    refine HF2.out.mono ?_
    rintro e w8 ⟨rfl, hb⟩
    clear k0 k1 hkl HW7 HF2
    replace pK := pK.below hb pK.lt
    replace pR := pR.below hb pR.lt
    replace lA := lA.below hb
    replace hbw := hbw.trans (hb.mono hbw.size)
    replace lO := lO.below hb
    replace pF := pF.below hb pF.lt
    clear hb
    obtain ⟨w9, hw, hb, pG⟩ := alloc_new w8 #[.int .i64 ft, .string fx, .int .u64 (fq : Int), .bool fg, .string fs] 27
    replace pK := pK.below hb pK.lt
    replace pR := pR.below hb pR.lt
    replace lA := lA.below hb
    replace hbw := hbw.trans (hb.mono hbw.size)
    replace lO := lO.below hb
    replace pF := pF.below hb pF.lt
    have HW9 := Lib.hid hw
    clear hw hb hf hok
    have hso := rsort_any a2 c2 rs w9 lA HOK.out (by rw [HN.out]; omega)
    rw [HN.out] at hso
    have HSO := Lib.hid hso
    clear hso
    go_wp2_with fail
    rw [HW9.out]
    refine HSO.out.mono ?_
    rintro e w10 ⟨v10, ys, rfl, hp, hs, hrow, hb⟩
    have hys : ys = refS rs := refS_is hp hs
    rw [hys] at hrow
    obtain ⟨a10, c10, rfl⟩ := owns_slice hrow
    have lS : VrsAt w10 a10 (refS rs) := vrsAt_row hrow
    clear HW9 HSO hp hs hrow hys
    replace pK := pK.below hb pK.lt
    replace pR := pR.below hb pR.lt
    replace lA := lA.below hb
    replace hbw := hbw.trans (hb.mono hbw.size)
    replace lO := lO.below hb
    replace pF := pF.below hb pF.lt
    replace pG := pG.below hb pG.lt
    clear hb
    have hsl : (refS rs).length ≤ N := by rw [← HN.out]; exact refS_len rs
    generalize hSS : refS rs = SS at lS hsl ⊢
    obtain ⟨SL, hSL⟩ : ∃ SL, SS.length = SL := ⟨_, rfl⟩
    rw [hSL] at hsl ⊢
    have hso := rsort4_any a2 c2 rs w10 lA (by rw [HN.out]; omega)
    rw [HN.out, hSS] at hso
    have HSO := Lib.hid hso
    have HSL := Lib.hid hSL
    clear hso hSS hSL
    go_wp2_with fail
    refine HSO.out.mono ?_
    rintro e w11 ⟨v11, rfl, hrow, hb⟩
    rw [HSL.out] at hrow
    obtain ⟨a11, c11, rfl⟩ := owns_slice hrow
    have lT : VrsAt w11 a11 SS := vrsAt_row (c := c11) (by rw [HSL.out]; exact hrow)
    clear HSO hrow
    replace pK := pK.below hb pK.lt
    replace pR := pR.below hb pR.lt
    replace lA := lA.below hb
    replace hbw := hbw.trans (hb.mono hbw.size)
    replace lO := lO.below hb
    replace pF := pF.below hb pF.lt
    replace pG := pG.below hb pG.lt
    replace lS := lS.below hb
    clear hb
    have hal := alike_same a10 a11 c10 c11 SS w11 lS lT (by rw [HSL.out]; omega)
    rw [HSL.out] at hal
    have HAL := Lib.hid hal
    clear hal lT lS
    go_wp2_with fail
    refine HAL.out.mono ?_
    rintro e w12 ⟨rfl, hb⟩
    clear HAL
    replace pK := pK.below hb pK.lt
    replace pR := pR.below hb pR.lt
    replace lA := lA.below hb
    replace hbw := hbw.trans (hb.mono hbw.size)
    replace lO := lO.below hb
    replace pF := pF.below hb pF.lt
    replace pG := pG.below hb pG.lt
    clear hb
    skip
    have HST := Lib.hid (fun W h => set_any ⟨rt, rx, rq, rg, rb⟩ a2 c2 rs W h (by rw [HN.out]; omega))
    have HSR := Lib.hid (fun W h => rset4_any ⟨rt, rx, rq, rg, rb⟩ a2 c2 rs W h (by rw [HN.out]; omega))
    have hsl2 : (setL ⟨rt, rx, rq, rg, rb⟩ rs).length ≤ N + 1 := by rw [← HN.out]; exact setL_len _ rs
    generalize setL ⟨rt, rx, rq, rg, rb⟩ rs = E at HST HSR hsl2
    obtain ⟨EL, hEL⟩ : ∃ EL, E.length = EL := ⟨_, rfl⟩
    rw [hEL] at hsl2
    have HEL := Lib.hid hEL
    rw [HN.out] at HST HSR
    clear hEL
    have hbd : Below w12.heap.size w12 w12.drew := (Below.refl _ _).drew
    have ST : OneS w12 w3.heap.size ⟨rt, rx, rq, rg, rb⟩ w12.drew := by
      have p := pR.below hbd pR.lt
      exact ⟨p.cell 0, p.cell 1, p.cell 2, p.cell 3, p.cell 4, pR.lt, hbd⟩
    have HLA := Lib.hid lA
    clear hbd
    go_wp2_with fail
    go_region_held3 (fun w' => w'.cell? ⟨w3.heap.size, 0, none⟩ = some (.int .i64 rt) ∧ w'.cell? ⟨w3.heap.size, 1, none⟩ = some (.string rx) ∧ w'.cell? ⟨w3.heap.size, 2, none⟩ = some (.int .u64 (rq : Int)) ∧ w'.cell? ⟨w3.heap.size, 3, none⟩ = some (.bool rg) ∧ w'.cell? ⟨w3.heap.size, 4, none⟩ = some (.string rb) ∧ w3.heap.size < w12.heap.size ∧ Below w12.heap.size w12 w') (first | exact ST | exact OneS.next (y := ⟨rt, rx, rq, rg, rb⟩) (by assumption) (by assumption) | go_keep) ((first | (go_at_call 12; refine (HST.out _ (HLA.out.below (OneS.far (y := ⟨rt, rx, rq, rg, rb⟩) (by assumption)))).mono ?_; rintro e wP ⟨vP, rfl, hrowP, hbP⟩; rw [HEL.out] at hrowP; obtain ⟨aP, cP, rfl⟩ := owns_slice hrowP) | (go_at_call 13; refine (HSR.out _ (HLA.out.below (OneS.far (y := ⟨rt, rx, rq, rg, rb⟩) (by assumption)))).mono ?_; rintro e wQ ⟨vQ, rfl, hrowQ, hbQ⟩; rw [HEL.out] at hrowQ; obtain ⟨aQ, cQ, rfl⟩ := owns_slice hrowQ) | (go_at_call 9; have hal := alike_same aP aQ cP cQ E wQ ((vrsAt_row (c := cP) (by rw [HEL.out]; exact hrowP)).below hbQ) (vrsAt_row (c := cQ) (by rw [HEL.out]; exact hrowQ)) (by rw [HEL.out]; omega); rw [HEL.out] at hal; refine hal.mono ?_; clear hal; rintro e wX ⟨rfl, hbX⟩)))
    rename_i hH
    have hb := hH.2.2.2.2.2.2
    clear hH ST
    replace pK := pK.below hb pK.lt
    replace pR := pR.below hb pR.lt
    replace lA := lA.below hb
    replace hbw := hbw.trans (hb.mono hbw.size)
    replace lO := lO.below hb
    replace pF := pF.below hb pF.lt
    replace pG := pG.below hb pG.lt
    clear hb
    have HCU := Lib.hid (fun W h => cut_any t x a2 c2 rs W h (by rw [HN.out]; omega))
    have HCR := Lib.hid (fun W h => rcut4_any t x a2 c2 rs W h (by rw [HN.out]; omega))
    have hcl2 : (cutL t x rs).length ≤ N := by rw [← HN.out]; exact List.length_filter_le _ _
    generalize cutL t x rs = D at HCU HCR hcl2
    obtain ⟨DL, hDL⟩ : ∃ DL, D.length = DL := ⟨_, rfl⟩
    rw [hDL] at hcl2
    have HDL := Lib.hid hDL
    rw [HN.out] at HCU HCR
    clear hDL
    have hbd : Below wX.heap.size wX wX.drew := (Below.refl _ _).drew
    have ST : KeyS wX (w.heap.size + 1) t x wX.drew := by
      have p := pK.below hbd pK.lt
      exact ⟨p.cell 0, p.cell 1, pK.lt, hbd⟩
    have HLB := Lib.hid lA
    clear hbd
    go_wp2_with fail
    go_region_held3 (fun w' => w'.cell? ⟨w.heap.size + 1, 0, none⟩ = some (.int .i64 t) ∧ w'.cell? ⟨w.heap.size + 1, 1, none⟩ = some (.string x) ∧ w.heap.size + 1 < wX.heap.size ∧ Below wX.heap.size wX w') (first | exact ST | exact KeyS.next (t := t) (x := x) (by assumption) (by assumption) | go_keep) ((first | (go_at_call 14; refine (HCU.out _ (HLB.out.below (KeyS.far (t := t) (x := x) (by assumption)))).mono ?_; rintro e wP ⟨vP, rfl, hrowP, hbP⟩; rw [HDL.out] at hrowP; obtain ⟨aP, cP, rfl⟩ := owns_slice hrowP) | (go_at_call 15; refine (HCR.out _ (HLB.out.below (KeyS.far (t := t) (x := x) (by assumption)))).mono ?_; rintro e wQ ⟨vQ, rfl, hrowQ, hbQ⟩; rw [HDL.out] at hrowQ; obtain ⟨aQ, cQ, rfl⟩ := owns_slice hrowQ) | (go_at_call 9; have hal := alike_same aP aQ cP cQ D wQ ((vrsAt_row (c := cP) (by rw [HDL.out]; exact hrowP)).below hbQ) (vrsAt_row (c := cQ) (by rw [HDL.out]; exact hrowQ)) (by rw [HDL.out]; omega); rw [HDL.out] at hal; refine hal.mono ?_; clear hal; rintro e wY ⟨rfl, hbX⟩)))
    rename_i hH
    have hb := hH.2.2.2
    clear hH ST
    replace pK := pK.below hb pK.lt
    replace pR := pR.below hb pR.lt
    replace lA := lA.below hb
    replace hbw := hbw.trans (hb.mono hbw.size)
    replace lO := lO.below hb
    replace pF := pF.below hb pF.lt
    replace pG := pG.below hb pG.lt
    clear hb
    have hal := alike_same a2 a5 c2 c5 rs wY lA lO (by rw [HN.out]; omega)
    rw [HN.out] at hal
    have HAL := Lib.hid hal
    clear hal
    go_wp2_with fail
    refine HAL.out.mono ?_
    rintro e wZ ⟨rfl, hb⟩
    clear HAL
    replace pK := pK.below hb pK.lt
    replace pR := pR.below hb pR.lt
    replace lA := lA.below hb
    replace hbw := hbw.trans (hb.mono hbw.size)
    replace lO := lO.below hb
    replace pF := pF.below hb pF.lt
    replace pG := pG.below hb pG.lt
    clear hb
    generalize huF : w6.heap.size = uF at pF
    generalize huG : w8.heap.size = uG at pG
    generalize huR : w3.heap.size = uR at pR
    have HBZ := Lib.hid hbw
    by_cases hN0 : N = 0
    · subst hN0
      have pFc0 : wZ.cell? ⟨uF, 0, none⟩ = some (.int .i64 ft) := pF.cell 0
      have pFc1 : wZ.cell? ⟨uF, 1, none⟩ = some (.string fx) := pF.cell 1
      have pFc2 : wZ.cell? ⟨uF, 2, none⟩ = some (.int .u64 (fq : Int)) := pF.cell 2
      have pFc3 : wZ.cell? ⟨uF, 3, none⟩ = some (.bool fg) := pF.cell 3
      have pFc4 : wZ.cell? ⟨uF, 4, none⟩ = some (.string fs) := pF.cell 4
      have pGc0 : wZ.cell? ⟨uG, 0, none⟩ = some (.int .i64 ft) := pG.cell 0
      have pGc1 : wZ.cell? ⟨uG, 1, none⟩ = some (.string fx) := pG.cell 1
      have pGc2 : wZ.cell? ⟨uG, 2, none⟩ = some (.int .u64 (fq : Int)) := pG.cell 2
      have pGc3 : wZ.cell? ⟨uG, 3, none⟩ = some (.bool fg) := pG.cell 3
      have pGc4 : wZ.cell? ⟨uG, 4, none⟩ = some (.string fs) := pG.cell 4
      clear pF pG pR pK lA lO hbw
      go_wp2_with fail
      go_quiet (fail)
      go_wp2_with fail
      go_ret
      exact ⟨by simp, HBZ.out.trans ((below_drewN' _).mono HBZ.out.size)⟩
    · obtain ⟨⟨yt, yx, yq, yg, ys⟩, hy⟩ : ∃ y, rs[0]? = some y := ⟨_, List.getElem?_eq_getElem (by have := HN.out; omega)⟩
      obtain ⟨g, o, rfl, hgl, p0, p1, p2, p3, p4⟩ := lA 0 _ hy
      rw [Nat.zero_mul, Nat.add_zero] at p0 p1 p2 p3 p4
      dsimp only at p0 p1 p2 p3 p4
      obtain ⟨B, hB⟩ : ∃ B, decide (yq < rq) = B := ⟨_, rfl⟩
      have HNW := Lib.hid (fun W => newer_any ⟨rt, rx, rq, rg, rb⟩ ⟨yt, yx, yq, yg, ys⟩ W)
      dsimp only at HNW
      rw [hB] at HNW
      have hNp : (0 : Int) < (N : Int) := by omega
      have hNn : 0 < N := by omega
      have hN1 : decide ((N : Int) = 0) = false := decide_eq_false (by omega)
      have hN3 : ((N : Int) == 0) = false := (by simpa using hN0)
      have hN4 : (N == 0) = false := (by simpa using hN0)
      have hN5 : decide (N = 0) = false := decide_eq_false hN0
      have hbd : Below wZ.heap.size wZ wZ.drew := (Below.refl _ _).drew
      have ST : FinS wZ uF uG uR g o ⟨ft, fx, fq, fg, fs⟩ ⟨rt, rx, rq, rg, rb⟩ ⟨yt, yx, yq, yg, ys⟩ wZ.drew := by
        have qF := pF.below hbd pF.lt
        have qG := pG.below hbd pG.lt
        have qR := pR.below hbd pR.lt
        exact ⟨qF.cell 0, qF.cell 1, qF.cell 2, qF.cell 3, qF.cell 4, qG.cell 0, qG.cell 1, qG.cell 2, qG.cell 3, qG.cell 4, qR.cell 0, qR.cell 1, qR.cell 2, qR.cell 3, qR.cell 4, (hbd.cell (p := ⟨g, _, none⟩) hgl).trans p0, (hbd.cell (p := ⟨g, _, none⟩) hgl).trans p1, (hbd.cell (p := ⟨g, _, none⟩) hgl).trans p2, (hbd.cell (p := ⟨g, _, none⟩) hgl).trans p3, (hbd.cell (p := ⟨g, _, none⟩) hgl).trans p4, pF.lt, pG.lt, pR.lt, hgl, hbd⟩
      clear hbd p0 p1 p2 p3 p4 pF pG pR pK lA lO hy hbw
      go_wp2_with fail
      go_region_held3 (fun w' => w'.cell? ⟨uF, 0, none⟩ = some (.int .i64 ft) ∧ w'.cell? ⟨uF, 1, none⟩ = some (.string fx) ∧ w'.cell? ⟨uF, 2, none⟩ = some (.int .u64 (fq : Int)) ∧ w'.cell? ⟨uF, 3, none⟩ = some (.bool fg) ∧ w'.cell? ⟨uF, 4, none⟩ = some (.string fs) ∧ w'.cell? ⟨uG, 0, none⟩ = some (.int .i64 ft) ∧ w'.cell? ⟨uG, 1, none⟩ = some (.string fx) ∧ w'.cell? ⟨uG, 2, none⟩ = some (.int .u64 (fq : Int)) ∧ w'.cell? ⟨uG, 3, none⟩ = some (.bool fg) ∧ w'.cell? ⟨uG, 4, none⟩ = some (.string fs) ∧ w'.cell? ⟨uR, 0, none⟩ = some (.int .i64 rt) ∧ w'.cell? ⟨uR, 1, none⟩ = some (.string rx) ∧ w'.cell? ⟨uR, 2, none⟩ = some (.int .u64 (rq : Int)) ∧ w'.cell? ⟨uR, 3, none⟩ = some (.bool rg) ∧ w'.cell? ⟨uR, 4, none⟩ = some (.string rb) ∧ w'.cell? ⟨g, o, none⟩ = some (.int .i64 yt) ∧ w'.cell? ⟨g, o + 1, none⟩ = some (.string yx) ∧ w'.cell? ⟨g, o + 2, none⟩ = some (.int .u64 (yq : Int)) ∧ w'.cell? ⟨g, o + 3, none⟩ = some (.bool yg) ∧ w'.cell? ⟨g, o + 4, none⟩ = some (.string ys) ∧ uF < wZ.heap.size ∧ uG < wZ.heap.size ∧ uR < wZ.heap.size ∧ g < wZ.heap.size ∧ Below wZ.heap.size wZ w') (first | exact ST | exact FinS.next (f := ⟨ft, fx, fq, fg, fs⟩) (r := ⟨rt, rx, rq, rg, rb⟩) (y := ⟨yt, yx, yq, yg, ys⟩) (by assumption) (by assumption) | go_keep) ((go_at_call 16; refine (HNW.out _).mono ?_; rintro e w' ⟨rfl, hb'⟩))
      rename_i hH
      have HH := Lib.hid (HBZ.out.trans (hH.2.2.2.2.2.2.2.2.2.2.2.2.2.2.2.2.2.2.2.2.2.2.2.2.mono HBZ.out.size))
      clear hH
      go_wp2_with fail
      go_ret
      refine ⟨?_, HH.out⟩
      rw [← hB]
      simp
/-- The key that a Thing makes may stand in a map. -/
theorem tg_key (k : Tg) (h1 : k.x.size ≤ maxLen) (h2 : -9223372036854775808 ≤ k.t) (h3 : k.t ≤ 9223372036854775807) : rkOk (kOf (tgV k)) := by
  by_cases ho : k.own = true
  · have e : k = ow k := by
      obtain ⟨a, b, c, d, e, f, g⟩ := k
      simp only at ho
      subst ho; rfl
    rw [e]; exact ow_key k
  · have e : tgV k = ⟨k.t, k.x, k.q, k.g, k.s⟩ := by unfold tgV; rw [if_neg ho]
    rw [e]; exact ⟨h1, h2, h3⟩
theorem lists_walk' (a : Option Addr) (l c : Nat) (ms : List Tg) (k : Tg) (t : Int) (x : ByteArray) (own : Bool) (b : Addr) (w : World) (hg : Gv b w) (h : TgsIn w a ms) (hl : ms.length = l) (hlm : l ≤ maxLen)
    (hsm : ∀ p ∈ ms, p.s.size ≤ maxLen ∧ p.n < 256 ∧ p.q < 2 ^ 64 ∧ p.x.size ≤ maxLen ∧ -9223372036854775808 ≤ p.t ∧ p.t ≤ 9223372036854775807) (hs : k.s.size ≤ maxLen) :
    Calls Tryz.prog 3 #[.slice a l c, k.v, .agg #[.int .i64 t, .string x], .bool own] w fun e w' => e = .returned (.bool true) ∧ Below w.heap.size w w' := by
  subst hl
  refine lists_walk a c ms k t x own b w hg h hlm (fun p hp => (hsm p hp).1) hs (fun r hr => ?_)
  obtain ⟨q, hq, rfl⟩ := List.mem_map.1 hr
  have := hsm q (List.mem_of_mem_take hq)
  exact tg_key q this.2.2.2.1 this.2.2.2.2.1 this.2.2.2.2.2
end Go.Proofs.YtjolgalfjahceaaGreatDoor
