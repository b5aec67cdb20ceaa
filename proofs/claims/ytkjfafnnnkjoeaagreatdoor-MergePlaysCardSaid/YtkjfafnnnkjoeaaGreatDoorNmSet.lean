/- names: Of, Has, Empty, List: any set, in whatever world. -/
import Derived.Test.YtkjfafnnnkjoeaaGreatDoorNmMade
import Derived.Test.YtkjfafnnnkjoeaaGreatDoorBlk
import Derived.Test.YtkjfafnnnkjoeaaGreatDoorNmApp
namespace Go.Proofs.YtkjfafnnnkjoeaaGreatDoor
open Go.RowKit Go.Lib

/-- What a list of names may be: each a text, not too many. -/
def NmFit (l : List (List UInt8)) : Prop := (∀ s ∈ l, s.length ≤ maxLen) ∧ l.length * 16 ≤ 140737488355328
theorem SetAt.out {w : World} {v : Value} {s : Ns} (h : SetAt w v s) : ∃ a c, v = .agg #[.bool s.all, .slice a s.ns.length c] ∧ TsAt w (.slice a s.ns.length c) s.ns := by
  obtain ⟨u, rfl, h⟩ := h
  obtain ⟨a, c, rfl, _⟩ := h.out
  exact ⟨a, c, rfl, h⟩
theorem TsAt.set {w : World} {v : Value} {l : List (List UInt8)} (h : TsAt w v l) {R j : Nat} {u0 : Value} (u : Value) (hc : w.cell? ⟨R, j, none⟩ = some u0) (hn : ∀ s, u0 ≠ .string s) : TsAt (w.setCell ⟨R, j, none⟩ u) v l := by
  obtain ⟨a, c, e, h1, h2, h3⟩ := h
  refine ⟨a, c, e, h1, h2, fun i x hi => ?_⟩
  obtain ⟨b, off, e', hl, hcl⟩ := h3 i x hi
  refine ⟨b, off, e', by rw [World.size_setCell]; exact hl, ?_⟩
  have hx : ∃ s, x = .string s := by
    unfold tsV at hi
    rw [List.getElem?_map] at hi
    cases hl : l[i]? with
    | none => rw [hl] at hi; cases hi
    | some y => rw [hl] at hi; exact ⟨_, (Option.some.inj hi).symm⟩
  obtain ⟨s, rfl⟩ := hx
  rw [World.cell?_setCell_other _ _ _ _ (fun e => by
    rw [← e] at hcl
    rw [hc] at hcl
    exact hn s (Option.some.inj hcl))]
  exact hcl
theorem TsAt.set2 {w : World} {v : Value} {l : List (List UInt8)} (h : TsAt w v l) {R : Nat} {b0 : Bool} {a1 : Option Addr} {n1 c1 : Nat} (u0 u1 : Value) (h0 : w.cell? ⟨R, 0, none⟩ = some (.bool b0)) (h1 : w.cell? ⟨R, 1, none⟩ = some (.slice a1 n1 c1)) :
    TsAt ((w.setCell ⟨R, 0, none⟩ u0).setCell ⟨R, 1, none⟩ u1) v l :=
  (h.set u0 h0 (fun s e => by cases e)).set u1 ((World.cell?_setCell_other _ _ _ _ (by simp)).trans h1) (fun s e => by cases e)
theorem SetAt.set2 {w : World} {v : Value} {s : Ns} (h : SetAt w v s) {R : Nat} {b0 : Bool} {a1 : Option Addr} {n1 c1 : Nat} (u0 u1 : Value) (h0 : w.cell? ⟨R, 0, none⟩ = some (.bool b0)) (h1 : w.cell? ⟨R, 1, none⟩ = some (.slice a1 n1 c1)) :
    SetAt ((w.setCell ⟨R, 0, none⟩ u0).setCell ⟨R, 1, none⟩ u1) v s := by
  obtain ⟨u, e, h⟩ := h
  exact ⟨u, e, h.set2 u0 u1 h0 h1⟩
theorem below_set2 {B : Nat} {W w : World} (h : Below B W w) {R : Nat} (hR : B ≤ R) (u0 u1 : Value) : Below B W ((w.setCell ⟨R, 0, none⟩ u0).setCell ⟨R, 1, none⟩ u1) :=
  (h.setCell (p := ⟨R, 0, none⟩) hR _).setCell (p := ⟨R, 1, none⟩) hR _

theorem contains_any {v : Value} {l : List (List UInt8)} {x : List UInt8} {w : World} {B : Bool} (h : TsAt w v l) (hB : l.contains x = B) : Calls Tryz.prog 45 #[v, .string ⟨x.toArray⟩] w fun e w' => e = .returned (.bool B) ∧ w' = w := by
  subst hB
  obtain ⟨a, c, rfl, h1, h2, h3⟩ := h.out
  by_cases h0 : l = []
  · subst h0
    exact (Any.slices_Contains_string_empty Tryz.lays110 a c _ w).mono (by rintro e w' ⟨rfl, rfl⟩; exact ⟨rfl, rfl⟩)
  · have hp : 0 < l.length := List.length_pos_iff.2 h0
    obtain ⟨b, off, rfl, hlt, _⟩ := h3 0 hp
    have hcells : ∀ j, j < (l.map fun s => (⟨s.toArray⟩ : ByteArray)).length → w.cell? ⟨b, off + j, none⟩ = some (.string ((l.map fun s => (⟨s.toArray⟩ : ByteArray)).getD j ByteArray.empty)) := by
      intro j hj
      obtain ⟨b', off', e', _, hc⟩ := h3 j (by simpa using hj)
      obtain ⟨rfl, rfl⟩ : b = b' ∧ off = off' := by
        injection (Option.some.inj e') with q1 q2 _; exact ⟨q1, q2⟩
      rw [hc, List.getD_eq_getElem?_getD, List.getElem?_map, List.getElem?_eq_getElem (by simpa using hj)]
      rfl
    have hb : l.length ≤ 9223372036854775807 := by unfold maxLen at h2; omega
    refine (Any.slices_Contains_string Tryz.lays110 b off l.length c _ ⟨x.toArray⟩ w (by simp) hb hcells).mono ?_
    rintro e w' ⟨rfl, rfl⟩
    refine ⟨?_, rfl⟩
    congr 2
    rw [List.take_of_length_le (by simp), Bool.eq_iff_iff, Lib.containsS_iff, List.contains_iff_mem]
    constructor
    · intro hm
      obtain ⟨s, hs, e⟩ := List.mem_map.1 hm
      have : s = x := by injection e with e; injection e
      exact this ▸ hs
    · intro hm
      exact List.mem_map.2 ⟨x, hm, rfl⟩

theorem lsAt_block {w : World} {B : Nat} {cs : Array Value} {t : TypeId} {ls : List (List (List UInt8))} (hb : Blk w B cs t) (hn : cs.size ≤ maxLen) (hl : cs.size = ls.length) (h : ∀ (i : Nat) u l, cs[i]? = some u → ls[i]? = some l → TsAt w u l) :
    LsAt w (.slice (some ⟨B, 0, none⟩) cs.size cs.size) ls := by
  refine ⟨cs.toList, ⟨_, cs.size, by simp, by simp, hn, fun j u hj => ⟨B, 0, rfl, hb.lt, ?_⟩⟩, by simpa using hl, fun i u l hi => h i u l (by simpa using hi)⟩
  rw [Nat.zero_add, hb.cell j]
  simpa using hj

/-- A set comes out. -/
def SetPost (sa : Bool) (sl : List (List UInt8)) (w : World) (e : Ending) (w' : World) : Prop := ∃ a c, e = .returned (.agg #[.bool sa, .slice a sl.length c]) ∧ TsAt w' (.slice a sl.length c) sl ∧ Below w.heap.size w w'
theorem made_set {sa : Bool} {sl : List (List UInt8)} {g : Nat} {cp : Array Value} {p : List UInt8 → Bool} {lv : Value} {ls : List (List (List UInt8))} {w : World} (ht : Takes w g cp p) (hl : LsAt w lv ls) (hs : ∀ l ∈ ls, ∀ s ∈ l, s.length ≤ maxLen)
    (hz : ls.flatten.length * 16 ≤ 140737488355328) (he : srt (ls.flatten.filter p) = sl) :
    Calls Tryz.prog 44 #[.bool sa, .func (.func g) #[] cp, lv] w (SetPost sa sl w) := by
  subst he
  refine (made_any sa g cp p lv ls w ht hl hs hz).mono ?_
  rintro e w' ⟨v, rfl, hv, hb⟩
  obtain ⟨a, c, rfl, h⟩ := hv.out
  exact ⟨a, c, rfl, h, hb⟩
/-- A set is laid into a result's cell. -/
theorem set_cells {W w : World} {R : Nat} {sa : Bool} {sl : List (List UInt8)} {a : Option Addr} {c : Nat} (hp : Blk w R #[.bool false, .slice none 0 0] 41) (h : TsAt w (.slice a sl.length c) sl) (hb : Below R W w) :
    ∃ w1, (w.setCell ⟨R, 0, none⟩ (.bool sa)).setCell ⟨R, 1, none⟩ (.slice a sl.length c) = w1 ∧ w1.cell? ⟨R, 0, none⟩ = some (.bool sa) ∧ w1.cell? ⟨R, 1, none⟩ = some (.slice a sl.length c) ∧ TsAt w1 (.slice a sl.length c) sl ∧ Below R W w1 := by
  have r0 : w.cell? ⟨R, 0, none⟩ = some (.bool false) := hp.cell 0
  have r1 : w.cell? ⟨R, 1, none⟩ = some (.slice none 0 0) := hp.cell 1
  obtain ⟨t0, t1⟩ := two_cells (.bool sa) (.slice a sl.length c) r0 r1
  exact ⟨_, rfl, t0, t1, h.set2 _ _ r0 r1, below_set2 hb (Nat.le_refl _) _ _⟩

set_option maxRecDepth 100000 in
theorem of_any {v : Value} {l : List (List UInt8)} {w : World} {sa : Bool} {sl : List (List UInt8)} (h : TsAt w v l) (hf : NmFit l) (he : nOf okN l = ⟨sa, sl⟩) :
    Calls Tryz.prog 25 #[v] w (SetPost sa sl w) := by
  obtain ⟨a, c, rfl, _⟩ := h.out
  have HF := Lib.hid hf
  have HA := Lib.hid (show l.contains [42] = sa from congrArg Ns.all he)
  have HE := Lib.hid (show srt ([l].flatten.filter okN) = sl by have := congrArg Ns.ns he; simpa [nOf] using this)
  clear he
  obtain ⟨w0, hw0⟩ : ∃ w0, w.alloc (.cells #[.bool false, .slice none 0 0] 41) = w0 := ⟨_, rfl⟩
  have hb0 : Below w.heap.size w w0 := by rw [← hw0]; exact (Below.refl _ _).alloc (Nat.le_refl _) _
  have p0 : Blk w0 w.heap.size #[.bool false, .slice none 0 0] 41 := by rw [← hw0]; exact Blk.new _ _ _
  have h0 := h.below hb0
  obtain ⟨w1, hw1⟩ : ∃ w1, w0.alloc (.cells #[.slice a l.length c] 27) = w1 := ⟨_, rfl⟩
  have hb1 : Below w0.heap.size w0 w1 := by rw [← hw1]; exact (Below.refl _ _).alloc (Nat.le_refl _) _
  have p1 := p0.below hb1 p0.lt
  have q1 : Blk w1 w0.heap.size #[.slice a l.length c] 27 := by rw [← hw1]; exact Blk.new _ _ _
  have hL := Lib.hid (show LsAt w1 (.slice (some ⟨w0.heap.size, 0, none⟩) 1 1) [l] from lsAt_block (ls := [l]) q1 (by show (1 : Nat) ≤ maxLen; unfold maxLen; omega) rfl (fun i u l' hu hl => by
    match i with
    | 0 => simp at hu hl; subst hu hl; exact h0.below hb1
    | i + 1 => simp at hu))
  have hB := Lib.hid (hb0.trans (hb1.mono hb0.size))
  have P1 := Lib.hid p1
  have HW := Lib.hid (And.intro hw0 hw1)
  have H0 := Lib.hid h0
  clear h hf hw0 hw1 hb0 hb1 p0 p1 q1 h0
  go_enter Tryz.func25, Tryz.ntmps25
  go_wp2_with fail
  rw [HW.out.1]
  refine (contains_any (x := [42]) H0.out HA.out).mono ?_
  rintro e w' ⟨rfl, rfl⟩
  go_wp2_with fail
  rw [HW.out.2]
  refine (made_set (name_takes w1) hL.out (fun l' hl' s hs => by obtain rfl := List.mem_singleton.1 hl'; exact HF.out.1 s hs) (by simpa using HF.out.2) HE.out).mono ?_
  rintro e w2 ⟨a2, c2, rfl, hs2, hb2⟩
  have p2 := P1.out.below hb2 P1.out.lt
  have r0 : w2.cell? ⟨w.heap.size, 0, none⟩ = some (.bool false) := p2.cell 0
  have r1 : w2.cell? ⟨w.heap.size, 1, none⟩ = some (.slice none 0 0) := p2.cell 1
  have f0 := p2.frozen 0
  have f1 := p2.frozen 1
  have HC := Lib.hid (set_cells (sa := sa) p2 hs2 (hB.out.trans (hb2.mono hB.out.size)))
  clear hs2 p2 hb2
  go_wp2_with fail
  obtain ⟨w3, e3, t0, t1, hts, hbb⟩ := HC.out
  rw [e3]
  refine bodyPost_ret (v := .agg #[.bool sa, .slice a2 sl.length c2]) ?_ rfl ⟨_, _, rfl, hts, hbb⟩
  simp [results, Tryz.results25, go_sem, t0, t1]
end Go.Proofs.YtkjfafnnnkjoeaaGreatDoor
