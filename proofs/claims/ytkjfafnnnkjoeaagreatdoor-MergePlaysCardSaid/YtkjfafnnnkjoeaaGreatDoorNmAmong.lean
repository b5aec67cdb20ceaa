/- names: among, except: closures over a map. -/
import Derived.Test.YtkjfafnnnkjoeaaGreatDoorNmSet
import Derived.Test.YtkjfafnnnkjoeaaGreatDoorStrMap
namespace Go.Proofs.YtkjfafnnnkjoeaaGreatDoor
open Go.RowKit Go.Lib

/-- At M lies a map with just these names. -/
def AmAt (w : World) (M : Nat) (l : List (List UInt8)) : Prop := ∃ m C, M < w.heap.size ∧ w.cell? ⟨M, 0, none⟩ = some (.map (some m)) ∧ StrMap w m C ∧ (∀ s v, C s = some v → v = .agg #[]) ∧ ∀ s : List UInt8, (C s).isSome = l.contains s
theorem AmAt.below {w w' : World} {M : Nat} {l : List (List UInt8)} (h : AmAt w M l) (hb : Below w.heap.size w w') : AmAt w' M l := by
  obtain ⟨m, C, h1, h2, h3, h4, h5⟩ := h
  exact ⟨m, C, Nat.lt_of_lt_of_le h1 hb.size, (hb.cell (p := ⟨M, 0, none⟩) h1).trans h2, h3.below hb h3.lt, h4, h5⟩
theorem zeroE (w : World) : (zeroValue 140).run Tryz.prog w = .ok (.agg #[]) w := by kernel_rfl

set_option maxRecDepth 100000 in
theorem among1_any {M : Nat} {l : List (List UInt8)} {x : List UInt8} {w : World} {B : Bool} (h : AmAt w M l) (hx : x.length ≤ maxLen) (hB : l.contains x = B) :
    Calls Tryz.prog 86 #[.string ⟨x.toArray⟩, .pointer (some ⟨M, 0, none⟩)] w fun e w' => e = .returned (.bool B) ∧ Below w.heap.size w w' := by
  obtain ⟨m, C, h1, h2, h3, h4, h5⟩ := h
  have hl := h3.lookup Tryz.underlying9 Tryz.underlying139 (zeroE w) (s := x) hx true
  simp only [if_true] at hl
  have hv : (C x).getD (.agg #[]) = .agg #[] := by
    cases hC : C x with
    | none => rfl
    | some v => exact h4 x v hC
  rw [hv, h5 x, hB] at hl
  have he : ∀ a b (w : World), (Instr.extract (.tuple #[a, b]) 0).run Tryz.prog w = .ok a w := fun _ _ _ => rfl
  have he1 : ∀ a b (w : World), (Instr.extract (.tuple #[a, b]) 1).run Tryz.prog w = .ok b w := fun _ _ _ => rfl
  have hb : Below w.heap.size w (w.alloc (.cells #[] 140)) := (Below.refl _ _).alloc (Nat.le_refl _) _
  clear hB h3 h4 h5 hv
  go_enter Tryz.func86, Tryz.ntmps86
  go_wp2
  go_ret
  exact ⟨rfl, hb⟩

set_option maxRecDepth 100000 in
set_option maxHeartbeats 1000000 in
theorem among_any {v : Value} {l : List (List UInt8)} {w : World} (h : TsAt w v l) (hs : ∀ s ∈ l, s.length ≤ maxLen) :
    Calls Tryz.prog 69 #[v] w fun e w' => ∃ M, e = .returned (.func (.func 86) #[] #[.pointer (some ⟨M, 0, none⟩)]) ∧ AmAt w' M l ∧ Below w.heap.size w w' := by
  obtain ⟨a, c, rfl, h1, h2, h3⟩ := h.out
  have H3 := Lib.hid h3
  have HS := Lib.hid hs
  obtain ⟨n, hn⟩ : ∃ n, l.length = n := ⟨_, rfl⟩
  have HN := Lib.hid hn
  have hn63 : l.length ≤ 9223372036854775807 := by unfold maxLen at h2; omega
  rw [hn] at hn63 h1 ⊢
  clear h h3 hs hn
  have hmm := @run_makeMap Tryz.prog
  have hb0 : Below w.heap.size w ((w.alloc (.map #[] 0)).alloc (.cells #[.map (some w.heap.size)] 139)) := ((Below.refl _ _).alloc (Nat.le_refl _) _).alloc (by simp) _
  have p0 : Blk ((w.alloc (.map #[] 0)).alloc (.cells #[.map (some w.heap.size)] 139)) (w.heap.size + 1) #[.map (some w.heap.size)] 139 := by
    have := Blk.new (w.alloc (.map #[] 0)) #[.map (some w.heap.size)] 139; simpa using this
  have m0 : StrMap ((w.alloc (.map #[] 0)).alloc (.cells #[.map (some w.heap.size)] 139)) w.heap.size (fun _ => none) := (strMap_new w).below (n := w.heap.size + 1) ((Below.refl _ _).alloc (by simp) _) (by omega)
  have HB0 := Lib.hid (And.intro hb0 (And.intro p0 m0))
  clear hb0 p0 m0
  go_enter Tryz.func69, Tryz.ntmps69
  go_wp2_with fail
  go_loopw [9] (fun i wr => ∃ k : Nat, k ≤ n ∧ i = .int .i64 k ∧ Blk wr (w.heap.size + 1) #[.map (some w.heap.size)] 139 ∧ Below w.heap.size w wr ∧ ∃ C, StrMap wr w.heap.size C ∧ (∀ s v, C s = some v → v = .agg #[]) ∧ ∀ s : List UInt8, (C s).isSome = (l.take k).contains s) (fun i _ => n - (RowKit.intOf i).toNat)
  case atStart => exact ⟨0, Nat.zero_le _, rfl, HB0.out.2.1, HB0.out.1, _, HB0.out.2.2, fun s v h => (by cases h), fun s => by simp⟩
  case round =>
    obtain ⟨k, hk, rfl, hp, hb, C, hm, hv, hc⟩ := hrel
    by_cases hlt : k < n
    · obtain ⟨x, hx⟩ : ∃ x, l[k]? = some x := ⟨_, List.getElem?_eq_getElem (by have := HN.out; omega)⟩
      have hxl := HS.out x (List.mem_of_getElem? hx)
      obtain ⟨b, off, rfl, hbl, hcell⟩ := H3.out k (by have := HN.out; omega)
      rw [(List.getElem?_eq_some_iff.1 hx).2] at hcell
      have d1 : wr.cell? ⟨b, off + k, none⟩ = some (.string ⟨x.toArray⟩) := (hb.cell (p := ⟨b, _, none⟩) hbl).trans hcell
      have d2 : wr.cell? ⟨w.heap.size + 1, 0, none⟩ = some (.map (some w.heap.size)) := hp.cell 0
      have b0 : (0 : Int) ≤ (k : Int) := by omega
      have b1 : (k : Int) < (n : Int) := by omega
      obtain ⟨w1, hu, hm1, hg1⟩ := hm.update Tryz.underlying9 Tryz.underlying139 (s := x) hxl (.agg #[])
      have HU := Lib.hid (And.intro hm1 (And.intro hg1 (And.intro hp (And.intro hb (And.intro hv hc)))))
      have HX := Lib.hid hx
      clear hm1 hg1 hp hb hv hc hm hcell hx
      go_wp2_with fail
      go_roundw
      case rel =>
        obtain ⟨hm1, hg1, hp, hb, hv, hc⟩ := HU.out
        refine ⟨k + 1, by omega, by go_num, hp.kept hg1 (by simp), hb.grown hg1 hb.size (fun j hj => by cases hj; exact Nat.le_refl _), _, hm1, fun s v h => ?_, fun s => ?_⟩
        · unfold setKey at h
          split at h
          · exact (Option.some.inj h).symm
          · exact hv s v h
        · rw [List.take_add_one, HX.out]
          unfold setKey
          by_cases e : s = x
          · subst e; simp
          · rw [if_neg e, hc s]; simp [e]
      case measure => simp [RowKit.intOf]; omega
    · obtain rfl : k = n := by omega
      have hE : l.take k = l := List.take_of_length_le (by have := HN.out; omega)
      rw [hE] at hc
      have HU := Lib.hid (And.intro hm (And.intro hp (And.intro hb (And.intro hv hc))))
      clear hm hp hb hv hc
      go_wp2_with fail
      go_ret
      obtain ⟨hm, hp, hb, hv, hc⟩ := HU.out
      exact ⟨_, rfl, ⟨_, C, hp.lt, hp.cell 0, hm, hv, hc⟩, hb⟩
theorem among1_takes {w : World} {M : Nat} {l : List (List UInt8)} (h : AmAt w M l) : Takes w 86 #[.pointer (some ⟨M, 0, none⟩)] (fun s => l.contains s) :=
  ⟨enters_of Tryz.func86 (by kernel_rfl) rfl, fun _ hb _ hs => among1_any (h.below hb) hs rfl⟩

/-- At E lies a closure of among's. -/
def ExAt (w : World) (E : Nat) (l : List (List UInt8)) : Prop := ∃ M, E < w.heap.size ∧ w.cell? ⟨E, 0, none⟩ = some (.func (.func 86) #[] #[.pointer (some ⟨M, 0, none⟩)]) ∧ AmAt w M l
theorem ExAt.below {w w' : World} {M : Nat} {l : List (List UInt8)} (h : ExAt w M l) (hb : Below w.heap.size w w') : ExAt w' M l := by
  obtain ⟨m, h1, h2, h3⟩ := h
  exact ⟨m, Nat.lt_of_lt_of_le h1 hb.size, (hb.cell (p := ⟨M, 0, none⟩) h1).trans h2, h3.below hb⟩
set_option maxRecDepth 100000 in
theorem except1_any {E : Nat} {l : List (List UInt8)} {x : List UInt8} {w : World} {B : Bool} (h : ExAt w E l) (hx : x.length ≤ maxLen) (hB : (!l.contains x) = B) :
    Calls Tryz.prog 70 #[.string ⟨x.toArray⟩, .pointer (some ⟨E, 0, none⟩)] w fun e w' => e = .returned (.bool B) ∧ Below w.heap.size w w' := by
  obtain ⟨M, h1, h2, h3⟩ := h
  obtain ⟨A, hA⟩ : ∃ A, l.contains x = A := ⟨_, rfl⟩
  obtain rfl : B = !A := by rw [← hB, hA]
  have H3 := Lib.hid (among1_any h3 hx hA)
  clear h3 hA hB
  go_enter Tryz.func70, Tryz.ntmps70
  go_wp2_with fail
  refine H3.out.mono ?_
  rintro e w' ⟨rfl, hb⟩
  go_wp2_with fail
  go_ret
  exact ⟨rfl, hb⟩
set_option maxRecDepth 100000 in
theorem except_any {v : Value} {l : List (List UInt8)} {w : World} (h : TsAt w v l) (hs : ∀ s ∈ l, s.length ≤ maxLen) :
    Calls Tryz.prog 64 #[v] w fun e w' => ∃ E, e = .returned (.func (.func 70) #[] #[.pointer (some ⟨E, 0, none⟩)]) ∧ ExAt w' E l ∧ Below w.heap.size w w' := by
  have H := Lib.hid (among_any h hs)
  clear h
  go_enter Tryz.func64, Tryz.ntmps64
  go_wp2_with fail
  refine H.out.mono ?_
  rintro e w1 ⟨M, rfl, hm, hb⟩
  have HM := Lib.hid hm
  have HB := Lib.hid hb
  clear hm hb
  go_wp2_with fail
  go_ret
  have hb1 : Below w1.heap.size w1 (w1.alloc (.cells #[.func (.func 86) #[] #[.pointer (some ⟨M, 0, none⟩)]] 84)) := (Below.refl _ _).alloc (Nat.le_refl _) _
  have hblk := Blk.new w1 #[.func (.func 86) #[] #[.pointer (some ⟨M, 0, none⟩)]] 84
  exact ⟨_, rfl, ⟨M, hblk.lt, hblk.cell 0, HM.out.below hb1⟩, HB.out.trans (hb1.mono HB.out.size)⟩
theorem except1_takes {w : World} {M : Nat} {l : List (List UInt8)} (h : ExAt w M l) : Takes w 70 #[.pointer (some ⟨M, 0, none⟩)] (fun s => !l.contains s) :=
  ⟨enters_of Tryz.func70 (by kernel_rfl) rfl, fun _ hb _ hs => except1_any (h.below hb) hs rfl⟩
end Go.Proofs.YtkjfafnnnkjoeaaGreatDoor
