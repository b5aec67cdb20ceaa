/- names: Union, of a list of sets. -/
import Derived.Test.YtkdpoiapoaoigaaDoorNmSet
namespace Go.Proofs.YtkdpoiapoaoigaaDoor
open Go.RowKit Go.Lib

/-- Sets at a. -/
def SetsAt (w : World) (a : Option Addr) (ss : List Ns) : Prop := ∀ (i : Nat) (s : Ns), ss[i]? = some s → ∃ b off a' c', a = some ⟨b, off, none⟩ ∧ b < w.heap.size ∧ w.cell? ⟨b, off + i * 2, none⟩ = some (.bool s.all) ∧ w.cell? ⟨b, off + i * 2 + 1, none⟩ = some (.slice a' s.ns.length c') ∧ TsAt w (.slice a' s.ns.length c') s.ns
theorem SetsAt.below {w w' : World} {a : Option Addr} {ss : List Ns} (h : SetsAt w a ss) (hb : Below w.heap.size w w') : SetsAt w' a ss := by
  intro i s hi
  obtain ⟨b, off, a', c', e, hl, h1, h2, h3⟩ := h i s hi
  exact ⟨b, off, a', c', e, Nat.lt_of_lt_of_le hl hb.size, (hb.cell (p := ⟨b, _, none⟩) hl).trans h1, (hb.cell (p := ⟨b, _, none⟩) hl).trans h2, h3.below hb⟩
def NssFit (ss : List Ns) : Prop := (∀ s ∈ ss, ∀ x ∈ s.ns, x.length ≤ maxLen) ∧ (ss.flatMap (·.ns)).length * 16 ≤ 140737488355328 ∧ ss.length ≤ 1000000
theorem Tryd.infoSl : (Tryd.prog.info? 26).map (fun i => (i.zero, i.size, i.bytes)) = some (some (.slice none 0 0), 1, 24) := by kernel_rfl
theorem any_take (ss : List Ns) {k : Nat} {s : Ns} (h : ss[k]? = some s) : (ss.take (k + 1)).any (·.all) = ((ss.take k).any (·.all) || s.all) := by
  rw [List.take_add_one, h, List.any_append]; simp

set_option maxRecDepth 100000 in
set_option maxHeartbeats 2000000 in
theorem union_any {a : Option Addr} {n c : Nat} {ss : List Ns} {w : World} {sa : Bool} {sl : List (List UInt8)} (h : SetsAt w a ss) (hl : ss.length = n) (hf : NssFit ss) (he : nUnion ss = ⟨sa, sl⟩) :
    Calls Tryd.prog 14 #[.slice a n c] w (SetPost sa sl w) := by
  have H := Lib.hid h
  have HF := Lib.hid hf
  have HL := Lib.hid hl
  have hn : n ≤ 1000000 := by rw [← hl]; exact hf.2.2
  have HA := Lib.hid (show ss.any (·.all) = sa from congrArg Ns.all he)
  have HE := Lib.hid (show srt (ss.flatMap (·.ns)) = sl from congrArg Ns.ns he)
  obtain ⟨i0, hi, hz0, hz1, hz2⟩ := info_parts Tryd.infoSl
  clear he h hl hf
  go_enter Tryd.func14, Tryd.ntmps14
  go_wp2_with fail
  go_loopw [9, 3, 4] (fun i b v wr => ∃ (k : Nat) (vs : List Value), k ≤ n ∧ i = .int .i64 k ∧ b = .bool ((ss.take k).any (·.all)) ∧ vs.length = k ∧ wr.ownsRow (w.heap.size + 1) 26 1 v k vs ∧ (∀ (i : Nat) u s, vs[i]? = some u → ss[i]? = some s → TsAt w u s.ns) ∧ Below (w.heap.size + 1) (w.alloc (.cells #[.bool false, .slice none 0 0] 28)) wr) (fun i _ _ _ => n - (RowKit.intOf i).toNat)
  case atStart => exact ⟨0, [], Nat.zero_le _, rfl, rfl, rfl, World.ownsRow_nil _ _ _ _, fun i u s h => by simp at h, Below.refl _ _⟩
  case round =>
    obtain ⟨k, vs, hk, rfl, rfl, hvl, hown, hts, hb⟩ := hrel
    by_cases hlt : k < n
    · obtain ⟨s, hs⟩ : ∃ s, ss[k]? = some s := ⟨_, List.getElem?_eq_getElem (by have := HL.out; omega)⟩
      obtain ⟨b, off, a', c', rfl, hbl, h1, h2, h3⟩ := H.out k s hs
      have hb0 : Below w.heap.size w wr := ((Below.refl _ _).alloc (Nat.le_refl _) _).trans (hb.mono (by omega))
      have d1 : wr.cell? ⟨b, off + k * 2, none⟩ = some (.bool s.all) := (hb0.cell (p := ⟨b, _, none⟩) hbl).trans h1
      have d2 : wr.cell? ⟨b, off + k * 2 + 1, none⟩ = some (.slice a' s.ns.length c') := (hb0.cell (p := ⟨b, _, none⟩) hbl).trans h2
      have b0 : (0 : Int) ≤ (k : Int) := by omega
      have b1 : (k : Int) < (n : Int) := by omega
      have hat := any_take ss hs
      obtain ⟨B, hB⟩ : ∃ B, (ss.take k).any (·.all) = B := ⟨_, rfl⟩
      rw [hB] at hat ⊢
      have hbw : b < wr.heap.size := Nat.lt_of_lt_of_le hbl hb0.size
      have HT := Lib.hid (show ∀ (i : Nat) u s', (vs ++ [Value.slice a' s.ns.length c'])[i]? = some u → ss[i]? = some s' → TsAt w u s'.ns by
        intro i u s' hu hs'
        rw [List.getElem?_append] at hu
        split at hu
        · exact hts i u s' hu hs'
        · have hik : i = k := by
            have := (List.getElem?_eq_some_iff.1 hu).1
            simp at this; omega
          subst hik
          rw [hs] at hs'
          obtain rfl := Option.some.inj hs'
          rw [hvl, Nat.sub_self] at hu
          obtain rfl := Option.some.inj hu
          exact h3)
      have HV := Lib.hid (show (vs ++ [Value.slice a' s.ns.length c']).length = k + 1 by simp [hvl])
      have HOW := Lib.hid hown
      have HB := Lib.hid hb
      have HAT := Lib.hid hat
      have hnew : ((wr.alloc (.cells #[.bool s.all, .slice a' s.ns.length c'] 28)).alloc (.cells #[.slice a' s.ns.length c'] 26)).heap[wr.heap.size + 1]? = some (.cells #[.slice a' s.ns.length c'] 26 (0, 0)) := by
        have := heap_alloc_new (wr.alloc (.cells #[.bool s.all, .slice a' s.ns.length c'] 28)) (.cells #[.slice a' s.ns.length c'] 26); simpa using this
      have hbs := hb.size
      simp only [World.size_alloc] at hbs
      clear hown hb hat hts hvl hs h1 h2 h3 hB
      cases B
      all_goals
        go_wp2_with (at_builtin; go_must (refine wpList_append_own _ rfl _ _ 72 rfl (w.heap.size + 1) 26 i0 _ 1 24 Tryd.underlying72 hi hz0 hz1 hz2 rfl (by omega) _ _ _ rfl ((HOW.out.alloc _).alloc _) ⟨wr.heap.size + 1, 0, none⟩ 1 1 [.slice a' s.ns.length c'] rfl rfl (World.news_of_block (cs := #[.slice a' s.ns.length c']) (t := 26) (fr := (0, 0)) hnew) (by simp [Value.oneCell']) (by unfold maxLen; omega) (by omega) (by simp; omega) ?_; intro v3 w3 hown3 hgrow3 _))
        have HB3 := Lib.hid (((HB.out.alloc (by omega) _).alloc (by simp; omega) _).grown hgrow3 (by simp; omega) (fun j hj => (HOW.out.lt j hj).1))
        have HO3 := Lib.hid hown3
        clear hown3 hgrow3
        go_wp2_with fail
        go_roundw
        case rel => exact ⟨k + 1, _, by omega, by go_num, by rw [HAT.out]; rfl, HV.out, HO3.out, HT.out, HB3.out⟩
        case measure => simp [RowKit.intOf]; omega
    · obtain rfl : k = n := by omega
      have hE : ss.take k = ss := List.take_of_length_le (by have := HL.out; omega)
      rw [hE, HA.out]
      have hb0 : Below w.heap.size w wr := ((Below.refl _ _).alloc (Nat.le_refl _) _).trans (hb.mono (by omega))
      have HLS := Lib.hid (show LsAt wr u4 (ss.map (·.ns)) from ⟨vs, RowV.own hown, by rw [hvl, List.length_map, HL.out], fun i u l hu hl => by
        rw [List.getElem?_map] at hl
        cases hs : ss[i]? with
        | none => rw [hs] at hl; cases hl
        | some s =>
          rw [hs] at hl
          obtain rfl := Option.some.inj hl
          exact (hts i u s hu hs).below hb0⟩)
      have HB := Lib.hid hb
      obtain ⟨a4, c4, rfl⟩ := owns_slice hown
      clear hown hts hb hb0 hvl
      go_wp2_with fail
      refine (made_set (sl := sl) (every_takes wr) HLS.out (fun l hl x hx => by
        obtain ⟨s, hs, rfl⟩ := List.mem_map.1 hl
        exact HF.out.1 s hs x hx) (by rw [← List.flatMap_def]; exact HF.out.2.1) (by rw [← List.flatMap_def, ← HE.out, List.filter_eq_self.2 (fun _ _ => rfl)])).mono ?_
      rintro e w2 ⟨a2, c2, rfl, hs2, hb2⟩
      have hbs := HB.out.size
      simp only [World.size_alloc] at hbs
      have p2 : Blk w2 w.heap.size #[.bool false, .slice none 0 0] 28 := Blk.below (n := w.heap.size + 1) (Blk.new w _ _) (HB.out.trans (hb2.mono (by omega))) (by omega)
      have r0 : w2.cell? ⟨w.heap.size, 0, none⟩ = some (.bool false) := p2.cell 0
      have r1 : w2.cell? ⟨w.heap.size, 1, none⟩ = some (.slice none 0 0) := p2.cell 1
      have f0 := p2.frozen 0
      have f1 := p2.frozen 1
      have HC := Lib.hid (set_cells (sa := sa) p2 hs2 (((Below.refl _ _).alloc (Nat.le_refl _) _).trans ((HB.out.trans (hb2.mono (by omega))).mono (by omega))))
      clear hs2 p2 hb2
      go_wp2_with fail
      obtain ⟨w3, e3, t0, t1, hts, hbb⟩ := HC.out
      rw [e3]
      refine bodyPost_ret (v := .agg #[.bool sa, .slice a2 sl.length c2]) ?_ rfl ⟨_, _, rfl, hts, hbb⟩
      simp [results, Tryd.results14, go_sem, t0, t1]
end Go.Proofs.YtkdpoiapoaoigaaDoor
