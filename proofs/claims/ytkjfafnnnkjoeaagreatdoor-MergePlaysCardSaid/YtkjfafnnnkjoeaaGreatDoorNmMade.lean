/- names: made, whatever function tells which names are taken. -/
import Derived.Test.YtkjfafnnnkjoeaaGreatDoorNmMem
import Derived.Test.YtkjfafnnnkjoeaaGreatDoorAid
import Derived.Test.YtkjfafnnnkjoeaaGreatDoorCkName
import Derived.Laws.EntriesVeiled
import Derived.Outline
import Derived.Lib.Hide
import Derived.BigQuiet
import Derived.Deep.AppendLies
namespace Go.Proofs.YtkjfafnnnkjoeaaGreatDoor
open Go.RowKit Go.Lib

/-- Lists of texts at v. -/
def LsAt (w : World) (v : Value) (ls : List (List (List UInt8))) : Prop := ∃ vs, RowV w v vs ∧ vs.length = ls.length ∧ ∀ (i : Nat) (u : Value) (l : List (List UInt8)), vs[i]? = some u → ls[i]? = some l → TsAt w u l
theorem LsAt.below {w w' : World} {v : Value} {ls : List (List (List UInt8))} (h : LsAt w v ls) (hb : Below w.heap.size w w') : LsAt w' v ls := by
  obtain ⟨vs, h1, h2, h3⟩ := h
  exact ⟨vs, h1.below hb, h2, fun i u l a b => (h3 i u l a b).below hb⟩
/-- A function value that tells of a text whether it is taken, in whatever world behind w. -/
def Takes (w : World) (g : Nat) (cp : Array Value) (p : List UInt8 → Bool) : Prop :=
  (∀ (args : Array Value) (w : World), (callFunc g args).run Tryz.prog w = .ok (.enter g args) w) ∧ ∀ w', Below w.heap.size w w' → ∀ s : List UInt8, s.length ≤ maxLen → Calls Tryz.prog g (#[.string ⟨s.toArray⟩] ++ cp) w' fun e w'' => e = .returned (.bool (p s)) ∧ Below w'.heap.size w' w''
theorem Takes.below {w w' : World} {g : Nat} {cp : Array Value} {p : List UInt8 → Bool} (h : Takes w g cp p) (hb : Below w.heap.size w w') : Takes w' g cp p :=
  ⟨h.1, fun w2 h2 => h.2 w2 (hb.trans (h2.mono hb.size))⟩
theorem flat_take {α : Type} {ls : List (List α)} {k : Nat} {l : List α} (h : ls[k]? = some l) : (ls.take (k + 1)).flatten = (ls.take k).flatten ++ l := by
  rw [List.take_add_one, h]; simp
theorem flat_le {α : Type} (ls : List (List α)) (k : Nat) : (ls.take k).flatten.length ≤ ls.flatten.length := by
  have h := congrArg List.flatten (List.take_append_drop k ls)
  rw [List.flatten_append] at h
  rw [← h, List.length_append]; omega
theorem filt_take {α : Type} (p : α → Bool) {l : List α} {j : Nat} {x : α} (h : l[j]? = some x) : (l.take (j + 1)).filter p = (l.take j).filter p ++ (if p x = true then [x] else []) := by
  rw [List.take_add_one, h, List.filter_append]
  by_cases hp : p x = true <;> simp [hp]
theorem acc_step (p : List UInt8 → Bool) (A : List (List UInt8)) {l : List (List UInt8)} {j : Nat} {x : List UInt8} (h : l[j]? = some x) :
    (A ++ l.take (j + 1)).filter p = (A ++ l.take j).filter p ++ (if p x = true then [x] else []) := by
  rw [List.filter_append, List.filter_append, filt_take p h, List.append_assoc]
theorem Tryz.infoStr : (Tryz.prog.info? 9).map (fun i => (i.zero, i.size, i.bytes)) = some (some (.string ⟨#[]⟩), 1, 16) := by kernel_rfl
theorem tsV_append (a b : List (List UInt8)) : tsV (a ++ b) = tsV a ++ tsV b := by simp [tsV]
theorem own_set {w : World} {B n size : Nat} {e : TypeId} {v : Value} {xs : List Value} (h : w.ownsRow B e size v n xs) {R : Nat} (j : Nat) (u : Value) (hR : R < B) : (w.setCell ⟨R, j, none⟩ u).ownsRow B e size v n xs :=
  ⟨h.1, h.2.imp id fun ⟨g, cap, cur, e, hb, hg, r⟩ => ⟨g, cap, cur, e, hb, (heap_setCell_other _ _ _ _ (by simp; omega)).trans hg, r⟩⟩
theorem two_cells {w : World} {R : Nat} {a0 a1 : Value} (b0 b1 : Value) (h0 : w.cell? ⟨R, 0, none⟩ = some a0) (h1 : w.cell? ⟨R, 1, none⟩ = some a1) :
    ((w.setCell ⟨R, 0, none⟩ b0).setCell ⟨R, 1, none⟩ b1).cell? ⟨R, 0, none⟩ = some b0 ∧ ((w.setCell ⟨R, 0, none⟩ b0).setCell ⟨R, 1, none⟩ b1).cell? ⟨R, 1, none⟩ = some b1 :=
  ⟨(World.cell?_setCell_other _ _ _ _ (by simp)).trans (World.cell?_setCell_same _ _ _ h0), World.cell?_setCell_same _ _ _ ((World.cell?_setCell_other _ _ _ _ (by simp)).trans h1)⟩

set_option maxRecDepth 100000 in
set_option maxHeartbeats 1000000 in
theorem made_any (all : Bool) (g : Nat) (cp : Array Value) (p : List UInt8 → Bool) (lv : Value) (ls : List (List (List UInt8))) (w : World) (ht : Takes w g cp p) (hl : LsAt w lv ls) (hs : ∀ l ∈ ls, ∀ s ∈ l, s.length ≤ maxLen)
    (hz : ls.flatten.length * 16 ≤ 140737488355328) :
    Calls Tryz.prog 44 #[.bool all, .func (.func g) #[] cp, lv] w fun e w' => ∃ v, e = .returned v ∧ SetAt w' v ⟨all, srt (ls.flatten.filter p)⟩ ∧ Below w.heap.size w w' := by
  have HT := Lib.hid ht
  obtain ⟨i0, hi, hz0, hz1, hz2⟩ := info_parts Tryz.infoStr
  have hent := ht.1
  obtain ⟨vs, ⟨a, c, rfl, hc1, hc2, hc3⟩, hvl, hts⟩ := hl
  obtain ⟨n, hn⟩ : ∃ n, vs.length = n := ⟨_, rfl⟩
  rw [hn] at hc1 hvl ⊢
  have HN := Lib.hid hn
  have HV := Lib.hid hvl
  have HC := Lib.hid hc3
  have HTS := Lib.hid hts
  have HS := Lib.hid hs
  have HZ := Lib.hid hz
  have hn63 : n ≤ 9223372036854775807 := by unfold maxLen at hc2; omega
  clear ht hn hvl hc3 hts hs hz
  go_enter Tryz.func44, Tryz.ntmps44
  go_wp2_with fail
  go_loopw [14, 7] (fun i v wr => ∃ k : Nat, k ≤ n ∧ i = .int .i64 k ∧ wr.ownsRow (w.heap.size + 1) 9 1 v ((ls.take k).flatten.filter p).length (tsV ((ls.take k).flatten.filter p)) ∧ Below (w.heap.size + 1) (w.alloc (.cells #[.bool false, .slice none 0 0] 41)) wr) (fun i _ _ => n - (RowKit.intOf i).toNat)
  case atStart => exact ⟨0, Nat.zero_le _, rfl, ⟨by simp [tsV], .inl ⟨rfl, by simp⟩⟩, Below.refl _ _⟩
  case round =>
    obtain ⟨k, hk, rfl, hown, hb⟩ := hrel
    by_cases hlt : k < n
    · obtain ⟨u, hu⟩ : ∃ u, vs[k]? = some u := ⟨_, List.getElem?_eq_getElem (by have := HN.out; omega)⟩
      obtain ⟨l, hl⟩ : ∃ l, ls[k]? = some l := ⟨_, List.getElem?_eq_getElem (by have := HV.out; omega)⟩
      have hb0 : Below w.heap.size w wr := ((Below.refl _ _).alloc (Nat.le_refl _) _).trans (hb.mono (by omega))
      obtain ⟨b, off, rfl, hbl, hcell⟩ := HC.out k u hu
      have c1 : wr.cell? ⟨b, off + k, none⟩ = some u := (hb0.cell (p := ⟨b, _, none⟩) hbl).trans hcell
      obtain ⟨a2, c2, rfl, h1, h2, h3⟩ := (HTS.out k u l hu hl).out
      obtain ⟨m, hm⟩ : ∃ m, l.length = m := ⟨_, rfl⟩
      rw [hm] at h1 c1
      have b0 : (0 : Int) ≤ (k : Int) := by omega
      have b1 : (k : Int) < (n : Int) := by omega
      have HM := Lib.hid hm
      have H3 := Lib.hid h3
      have HL := Lib.hid hl
      have HOWN := Lib.hid hown
      have HB := Lib.hid hb
      have hm63 : m ≤ 9223372036854775807 := by unfold maxLen at h2; omega
      clear hm h3 hl hown hb hcell hu hb0
      go_wp2_with fail
      go_loopw [20, 7] (fun i v wr => ∃ j : Nat, j ≤ m ∧ i = .int .i64 j ∧ wr.ownsRow (w.heap.size + 1) 9 1 v (((ls.take k).flatten ++ l.take j).filter p).length (tsV (((ls.take k).flatten ++ l.take j).filter p)) ∧ Below (w.heap.size + 1) (w.alloc (.cells #[.bool false, .slice none 0 0] 41)) wr) (fun i _ _ => m - (RowKit.intOf i).toNat)
      case atStart => exact ⟨0, Nat.zero_le _, rfl, by rw [List.take_zero, List.append_nil]; exact HOWN.out, HB.out⟩
      case round =>
        obtain ⟨j, hj, rfl, hown, hb⟩ := hrel
        by_cases hjm : j < m
        · obtain ⟨x, hx⟩ : ∃ x, l[j]? = some x := ⟨_, List.getElem?_eq_getElem (by have := HM.out; omega)⟩
          have hxl : x.length ≤ maxLen := HS.out l (List.mem_of_getElem? HL.out) x (List.mem_of_getElem? hx)
          have hb0 : Below w.heap.size w wr := ((Below.refl _ _).alloc (Nat.le_refl _) _).trans (hb.mono (by omega))
          obtain ⟨b2, off2, rfl, hbl2, hcell2⟩ := H3.out j (by have := HM.out; omega)
          have hxe : l[j]'(by have := HM.out; omega) = x := by
            have := (List.getElem?_eq_some_iff.1 hx).2; exact this
          rw [hxe] at hcell2
          have d1 : wr.cell? ⟨b2, off2 + j, none⟩ = some (.string ⟨x.toArray⟩) := (hb0.cell (p := ⟨b2, _, none⟩) hbl2).trans hcell2
          have HC2 := Lib.hid (HT.out.2 wr hb0 x hxl)
          have e0 : (0 : Int) ≤ (j : Int) := by omega
          have e1 : (j : Int) < (m : Int) := by omega
          have HX := Lib.hid (acc_step p (ls.take k).flatten hx)
          have hle : ((ls.take k).flatten ++ l.take j).length + 1 ≤ ls.flatten.length := by
            have q1 := flat_le ls (k + 1)
            rw [flat_take HL.out, List.length_append] at q1
            have q2 : j + 1 ≤ l.length := (List.getElem?_eq_some_iff.1 hx).1
            rw [List.length_append, List.length_take]; omega
          have hsz : (((ls.take k).flatten ++ l.take j).filter p).length + 1 ≤ ls.flatten.length := by
            have := List.length_filter_le p ((ls.take k).flatten ++ l.take j); omega
          have hsz2 := HZ.out
          have HOW := Lib.hid hown
          have HBB := Lib.hid hb
          clear hown hb hxe hcell2 hb0 hx hle
          go_wp2_with fail
          refine HC2.out.mono ?_
          rintro e w2 ⟨rfl, hb2⟩
          have HOW2 := Lib.hid (ownsRow_later HOW.out hb2)
          have HB2 := Lib.hid (HBB.out.trans (hb2.mono (by have := HBB.out.size; simp at this; omega)))
          clear hb2
          cases hp : p x with
          | false =>
            have HX2 := Lib.hid (show ((ls.take k).flatten ++ l.take (j + 1)).filter p = ((ls.take k).flatten ++ l.take j).filter p by rw [HX.out, hp]; simp)
            clear hp
            go_wp2_with fail
            go_roundw
            case rel => exact ⟨j + 1, by omega, by go_num, by rw [HX2.out]; exact HOW2.out, HB2.out⟩
            case measure => simp [RowKit.intOf]; omega
          | true =>
            have HX2 := Lib.hid (show ((ls.take k).flatten ++ l.take (j + 1)).filter p = ((ls.take k).flatten ++ l.take j).filter p ++ [x] by rw [HX.out, hp]; simp)
            clear hp
            go_wp2_with (at_builtin; go_must (refine wpList_append_own _ rfl _ _ 27 rfl (w.heap.size + 1) 9 i0 _ 1 16 Tryz.underlying27 hi hz0 hz1 hz2 rfl (by omega) _ _ _ rfl (HOW2.out.alloc _) ⟨w2.heap.size, 0, none⟩ 1 1 (tsV [x]) rfl rfl (World.news_of_block (cs := #[.string ⟨x.toArray⟩]) (t := 9) (fr := (0, 0)) (heap_alloc_new w2 _)) (tsV_one _) (by unfold maxLen; omega) (by omega) (by have := HB2.out.size; simp at this ⊢; omega) ?_; intro v' w3 hown3 hgrow3 _))
            have HRow3 := Lib.hid (show w3.ownsRow (w.heap.size + 1) 9 1 v' (((ls.take k).flatten ++ l.take (j + 1)).filter p).length (tsV (((ls.take k).flatten ++ l.take (j + 1)).filter p)) by rw [HX2.out, tsV_append, List.length_append]; exact hown3)
            have HB3 := Lib.hid ((HB2.out.alloc (by have := HB2.out.size; simp at this; omega) _).grown hgrow3 (by have := HB2.out.size; simp at this ⊢; omega) (fun j hj => (HOW2.out.lt j hj).1))
            clear hown3 hgrow3
            go_wp2_with fail
            go_roundw
            case rel => exact ⟨j + 1, by omega, by go_num, HRow3.out, HB3.out⟩
            case measure => simp [RowKit.intOf]; omega
        · obtain rfl : j = m := by omega
          have HK := Lib.hid (show (ls.take (k + 1)).flatten = (ls.take k).flatten ++ l.take j by rw [flat_take HL.out, List.take_of_length_le (l := l) (i := j) (by have := HM.out; omega)])
          have HOW := Lib.hid hown
          have HBB := Lib.hid hb
          clear hown hb
          go_wp2_with fail
          go_roundw
          case rel => exact ⟨k + 1, by omega, by go_num, by rw [HK.out]; exact HOW.out, HBB.out⟩
          case measure => simp [RowKit.intOf]; omega
    · obtain rfl : k = n := by omega
      have hE : ls.take k = ls := List.take_of_length_le (by have := HV.out; omega)
      rw [hE] at hown
      have HB := Lib.hid hb
      obtain ⟨F, hF⟩ : ∃ F, ls.flatten.filter p = F := ⟨_, rfl⟩
      have hFl : F.length ≤ ls.flatten.length := by rw [← hF]; exact List.length_filter_le _ _
      have hFz := HZ.out
      rw [hF] at hown
      have HF := Lib.hid hF
      have HOW := Lib.hid hown
      clear hown hb hE hF
      go_wp2_with fail
      refine (sort_own HOW.out (by omega)).mono ?_
      rintro e w2 ⟨rfl, ho2, hb2⟩
      have hsl : (F.mergeSort fun x y => decide (x ≤ y)).length = F.length := List.length_mergeSort _
      rw [← hsl] at ho2
      have HOW2 := Lib.hid ho2
      have HB2 := Lib.hid (HB.out.trans hb2)
      clear ho2 hb2
      go_wp2_with fail
      refine (compact_own HOW2.out (by unfold maxLen; omega)).mono ?_
      rintro e w3 ⟨v3, rfl, ho3, hb3⟩
      have HOW3 := Lib.hid (show TsAt w3 v3 (srt F) from RowV.own ho3)
      have HB3 := Lib.hid (HB2.out.trans hb3)
      clear ho3 hb3
      have hsr := srt_len F
      go_wp2_with fail
      refine (clone_ts HOW3.out (by omega)).mono ?_
      rintro e w4 ⟨v4, rfl, ho4, hb4⟩
      obtain ⟨a4, c4, rfl⟩ := owns_slice ho4
      have HOW4 := Lib.hid ho4
      have hw3 : w.heap.size < w3.heap.size := by have := HB3.out.size; simp at this; omega
      have HB4 := Lib.hid (HB3.out.trans (hb4.mono (by have := HB3.out.size; simp at this; omega)))
      clear ho4 hb4
      have hblk := HB4.out.block w.heap.size (by omega)
      rw [heap_alloc_new] at hblk
      have r0 : w4.cell? ⟨w.heap.size, 0, none⟩ = some (.bool false) := (Lib.cell_of_heap hblk 0).trans rfl
      have r1 : w4.cell? ⟨w.heap.size, 1, none⟩ = some (.slice none 0 0) := (Lib.cell_of_heap hblk 1).trans rfl
      have f0 := Lib.frozen_of_heap hblk 0
      have f1 := Lib.frozen_of_heap hblk 1
      clear hblk
      go_wp2_with fail
      obtain ⟨t0, t1⟩ := two_cells (.bool all) (.slice a4 (srt F).length c4) r0 r1
      refine bodyPost_ret (v := .agg #[.bool all, .slice a4 (srt F).length c4]) ?_ rfl ⟨_, rfl, ⟨_, rfl, ?_⟩, ?_⟩
      · simp [results, Tryz.results44, go_sem, t0, t1]
      · show TsAt _ _ (srt (ls.flatten.filter p))
        rw [HF.out]
        exact RowV.own (own_set (own_set HOW4.out 0 _ hw3) 1 _ hw3)
      · exact ((((Below.refl _ _).alloc (Nat.le_refl _) _).trans (HB4.out.mono (by omega))).setCell (p := ⟨w.heap.size, 0, none⟩) (Nat.le_refl _) _).setCell (p := ⟨w.heap.size, 1, none⟩) (Nat.le_refl _) _

def okN (s : List UInt8) : Bool := nmOk ⟨s.toArray⟩
theorem name_takes (w : World) : Takes w 46 #[] okN :=
  ⟨enters_of Tryz.func46 (by kernel_rfl) rfl, fun w' _ s _ => (name_any _ w').mono (by rintro e w2 ⟨rfl, rfl⟩; exact ⟨rfl, Below.refl _ _⟩)⟩
end Go.Proofs.YtkjfafnnnkjoeaaGreatDoor
