/- payload: the parts that a type has, and those that it has not: the walk. -/
import Derived.Test.YtngceccpebdgmaaGreatDoorPlMake
import Derived.Deep.AppendLies
namespace Go.Proofs.YtngceccpebdgmaaGreatDoor
open Go.RowKit Go.Shelf

def letterB : List UInt8 := [110, 112, 111, 114, 108, 115, 97, 107]
def selF (f : Nat → Bool) (xs : List PartV) (k : Nat) : List PartV := (List.range k).filterMap fun i => if f i then xs[i]? else none
theorem selF_yes {f : Nat → Bool} {xs : List PartV} {k : Nat} {x : PartV} (hx : xs[k]? = some x) (h : f k = true) : selF f xs (k + 1) = selF f xs k ++ [x] := by
  simp [selF, List.range_succ, List.filterMap_append, h, hx]
theorem selF_no {f : Nat → Bool} {xs : List PartV} {k : Nat} (h : f k = false) : selF f xs (k + 1) = selF f xs k := by
  simp [selF, List.range_succ, List.filterMap_append, h]
theorem selF_len (f : Nat → Bool) (xs : List PartV) (k : Nat) : (selF f xs k).length ≤ k := by
  have := List.length_filterMap_le (fun i => if f i then xs[i]? else none) (List.range k)
  simpa [selF] using this
/-- Two rows that the call owns, apart. -/
def TwoRows (base : Nat) (w : World) (v1 v2 : Value) (xs1 xs2 : List PartV) : Prop :=
  w.ownsRow base 117 4 v1 xs1.length (partCells xs1) ∧ w.ownsRow base 117 4 v2 xs2.length (partCells xs2) ∧ ∀ g, v1.ownBlock = some g → v2.ownBlock ≠ some g
theorem TwoRows.swap {base : Nat} {w : World} {v1 v2 : Value} {xs1 xs2 : List PartV} (h : TwoRows base w v1 v2 xs1 xs2) : TwoRows base w v2 v1 xs2 xs1 := ⟨h.2.1, h.1, fun g h2 h1 => h.2.2 g h1 h2⟩
theorem TwoRows.below {base : Nat} {w w' : World} {v1 v2 : Value} {xs1 xs2 : List PartV} (h : TwoRows base w v1 v2 xs1 xs2) (hb : Below w.heap.size w w') : TwoRows base w' v1 v2 xs1 xs2 := by
  refine ⟨h.1.kept (grown_of_below hb) ?_, h.2.1.kept (grown_of_below hb) ?_, h.2.2⟩
  · cases hv : v1.ownBlock with
    | none => exact Or.inl rfl
    | some k => exact Or.inr (by simp)
  · cases hv : v2.ownBlock with
    | none => exact Or.inl rfl
    | some k => exact Or.inr (by simp)
theorem TwoRows.lt {base : Nat} {w : World} {v1 v2 : Value} {xs1 xs2 : List PartV} (h : TwoRows base w v1 v2 xs1 xs2) : ∀ g, v2.ownBlock = some g → base ≤ g ∧ g < w.heap.size := fun g hg => ⟨(h.2.1.lt g hg).1, (h.2.1.lt g hg).2⟩
/-- One more in the first row. -/
theorem TwoRows.more {base g cap H : Nat} {w w' : World} {v1 v2 : Value} {xs1 xs2 : List PartV} {x : PartV} (h : TwoRows base w v1 v2 xs1 xs2) (hH : w.heap.size = H)
    (h1 : w'.ownsRow base 117 4 (.slice (some ⟨g, 0, none⟩) (xs1.length + 1) cap) (xs1.length + 1) (partCells xs1 ++ [.int .i64 (x.num : Int), .int .i64 (x.kind : Int), .func (.func x.pg) #[] x.plb, .func (.func x.tg) #[] x.tlb])) (hg : w.grownBy w' v1.ownBlock) (ha : v1.ownBlock = some g ∨ g = H) :
    TwoRows base w' (.slice (some ⟨g, 0, none⟩) (xs1.length + 1) cap) v2 (xs1 ++ [x]) xs2 := by
  have hne : ∀ g', v2.ownBlock = some g' → v1.ownBlock ≠ some g' := fun g' h2 h1 => h.2.2 g' h1 h2
  refine ⟨?_, h.2.1.kept hg ?_, ?_⟩
  · rw [partCells_snoc, List.length_append, List.length_singleton]; exact h1
  · cases hv : v2.ownBlock with
    | none => exact Or.inl rfl
    | some k => exact Or.inr (fun e => hne k hv e.symm)
  · intro k hk hk2
    simp [Value.ownBlock] at hk
    subst hk
    rcases ha with ha | ha
    · exact h.2.2 _ ha hk2
    · have := (h.lt _ hk2).2; omega
def PartsIdx (w : World) (is : List Nat) (xs : List PartV) : Prop := is.length = xs.length ∧ ∀ (j i : Nat) (x : PartV), is[j]? = some i → xs[j]? = some x → PayPart w i x
theorem PartsIdx.below {w w' : World} {is : List Nat} {xs : List PartV} (h : PartsIdx w is xs) (hb : Below w.heap.size w w') : PartsIdx w' is xs := ⟨h.1, fun j i x hi hx => (h.2 j i x hi hx).below hb⟩
theorem AllParts.list {w : World} {g : Nat} (h : AllParts w g) : ∃ xs : List PartV, xs.length = 8 ∧ PartsAt w g xs ∧ ∀ (i : Nat) (x : PartV), xs[i]? = some x → PayPart w i x := by
  obtain ⟨x0, x1, x2, x3, x4, x5, x6, x7, hp, h0, h1, h2, h3, h4, h5, h6, h7⟩ := h
  refine ⟨_, rfl, hp, fun i x hi => ?_⟩
  match i with
  | 0 => simp at hi; subst hi; exact h0
  | 1 => simp at hi; subst hi; exact h1
  | 2 => simp at hi; subst hi; exact h2
  | 3 => simp at hi; subst hi; exact h3
  | 4 => simp at hi; subst hi; exact h4
  | 5 => simp at hi; subst hi; exact h5
  | 6 => simp at hi; subst hi; exact h6
  | 7 => simp at hi; subst hi; exact h7
  | i + 8 => simp at hi
/-- Is a part among those that a type has? -/
def inHas (k : Int) (i : Nat) : Bool := (hasI k).contains i
theorem idx_any (s : ByteArray) (c : Int) (w : World) (y : Bool) (h : decide (0 ≤ Lib.indexByte s.data.toList c.toNat.toUInt8) = y) :
    Calls Tryz.prog 58 #[.string s, .int .u8 c] w fun e w' => ∃ z : Int, e = .returned (.int .i64 z) ∧ decide (0 ≤ z) = y ∧ w = w' :=
  (Tryz.strings_IndexByte s c w).mono fun _ _ ⟨he, hw⟩ => ⟨_, he, h, hw.symm⟩
theorem hasOf_cases {k : Int} (hk : (hasOf k).2 = true) : k = 1 ∨ k = 2 ∨ k = 3 ∨ k = 4 ∨ k = 5 := by
  unfold hasOf at hk
  split at hk; · omega
  split at hk; · omega
  split at hk; · omega
  split at hk; · omega
  split at hk; · omega
  simp at hk
theorem ownsRow_base {w : World} {base B : Nat} {e : TypeId} {size : Nat} {v : Value} {n : Nat} {xs : List Value} (h : w.ownsRow B e size v n xs) (hb : base ≤ B) : w.ownsRow base e size v n xs := by
  obtain ⟨h1, h2⟩ := h
  refine ⟨h1, ?_⟩
  rcases h2 with h2 | ⟨g, cap, cur, hv, hg, r⟩
  · exact Or.inl h2
  · exact Or.inr ⟨g, cap, cur, hv, Nat.le_trans hb hg, r⟩
theorem has_letter (k : Int) (hk : (hasOf k).2 = true) (i : Nat) (hi : i < 8) : decide (0 ≤ Lib.indexByte ((hasOf k).1 ++ ⟨#[110]⟩).data.toList (((((⟨#[110, 112, 111, 114, 108, 115, 97, 107]⟩ : ByteArray)[i]'hi).toNat : Nat) : Int)).toNat.toUInt8) = inHas k i := by
  have hk : k = 1 ∨ k = 2 ∨ k = 3 ∨ k = 4 ∨ k = 5 := by
    unfold hasOf at hk
    split at hk; · omega
    split at hk; · omega
    split at hk; · omega
    split at hk; · omega
    split at hk; · omega
    simp at hk
  have all : ∀ i : Fin 8, decide (0 ≤ Lib.indexByte ((hasOf k).1 ++ ⟨#[110]⟩).data.toList (((((⟨#[110, 112, 111, 114, 108, 115, 97, 107]⟩ : ByteArray)[i.val]'i.2).toNat : Nat) : Int)).toNat.toUInt8) = inHas k i.val := by
    rcases hk with rfl | rfl | rfl | rfl | rfl <;> decide +kernel
  exact all ⟨i, hi⟩
theorem TwoRows.base {base B : Nat} {w : World} {v1 v2 : Value} {xs1 xs2 : List PartV} (h : TwoRows B w v1 v2 xs1 xs2) (hb : base ≤ B) : TwoRows base w v1 v2 xs1 xs2 :=
  ⟨ownsRow_base h.1 hb, ownsRow_base h.2.1 hb, h.2.2⟩
def AllPair (w : World) : List Nat → List PartV → Prop
  | [], [] => True
  | i :: is, x :: xs => PayPart w i x ∧ AllPair w is xs
  | _, _ => False
theorem allPair {w : World} : ∀ (is : List Nat) (xs : List PartV), AllPair w is xs → PartsIdx w is xs
  | [], [], _ => ⟨rfl, fun j i x hi => by simp at hi⟩
  | i :: is, x :: xs, h => by
    have ih := allPair is xs h.2
    refine ⟨by simp [ih.1], fun j i' x' hi hx => ?_⟩
    match j with
    | 0 => simp at hi hx; subst hi; subst hx; exact h.1
    | j + 1 => exact ih.2 j i' x' (by simpa using hi) (by simpa using hx)
  | [], _ :: _, h => h.elim
  | _ :: _, [], h => h.elim
theorem parts_idx {w : World} {xs : List PartV} {k : Int} (hl : xs.length = 8) (hp : ∀ (i : Nat) (x : PartV), xs[i]? = some x → PayPart w i x) (hk : (hasOf k).2 = true) :
    PartsIdx w (hasI k) (selF (inHas k) xs 8) ∧ PartsIdx w (hasNotI k) (selF (fun i => !inHas k i) xs 8) := by
  obtain ⟨x0, x1, x2, x3, x4, x5, x6, x7, rfl⟩ : ∃ x0 x1 x2 x3 x4 x5 x6 x7, xs = [x0, x1, x2, x3, x4, x5, x6, x7] := by
    match xs, hl with
    | [x0, x1, x2, x3, x4, x5, x6, x7], _ => exact ⟨x0, x1, x2, x3, x4, x5, x6, x7, rfl⟩
  have h0 := hp 0 x0 rfl
  have h1 := hp 1 x1 rfl
  have h2 := hp 2 x2 rfl
  have h3 := hp 3 x3 rfl
  have h4 := hp 4 x4 rfl
  have h5 := hp 5 x5 rfl
  have h6 := hp 6 x6 rfl
  have h7 := hp 7 x7 rfl
  rcases hasOf_cases hk with rfl | rfl | rfl | rfl | rfl
  · exact ⟨allPair [0, 1, 2] [x0, x1, x2] ⟨h0, h1, h2, trivial⟩, allPair [3, 4, 5, 6, 7] [x3, x4, x5, x6, x7] ⟨h3, h4, h5, h6, h7, trivial⟩⟩
  · exact ⟨allPair [0, 3] [x0, x3] ⟨h0, h3, trivial⟩, allPair [1, 2, 4, 5, 6, 7] [x1, x2, x4, x5, x6, x7] ⟨h1, h2, h4, h5, h6, h7, trivial⟩⟩
  · exact ⟨allPair [0, 4, 5] [x0, x4, x5] ⟨h0, h4, h5, trivial⟩, allPair [1, 2, 3, 6, 7] [x1, x2, x3, x6, x7] ⟨h1, h2, h3, h6, h7, trivial⟩⟩
  · exact ⟨allPair [0, 6] [x0, x6] ⟨h0, h6, trivial⟩, allPair [1, 2, 3, 4, 5, 7] [x1, x2, x3, x4, x5, x7] ⟨h1, h2, h3, h4, h5, h7, trivial⟩⟩
  · exact ⟨allPair [0, 7] [x0, x7] ⟨h0, h7, trivial⟩, allPair [1, 2, 3, 4, 5, 6] [x1, x2, x3, x4, x5, x6] ⟨h1, h2, h3, h4, h5, h6, trivial⟩⟩
theorem hasOf_size (k : Int) : (hasOf k).1.size ≤ 2 := by
  unfold hasOf
  split; · decide
  split; · decide
  split; · decide
  split; · decide
  split; · decide
  decide
theorem Tryz.infoPart : (Tryz.prog.info? 117).map (fun i => (i.zero, i.size, i.bytes)) = some (some (.agg #[.int .i64 0, .int .i64 0, .nilFunc, .nilFunc]), 4, 32) := by kernel_rfl

set_option maxRecDepth 100000 in
theorem partsOf_no (k : Int) (w : World) (hk : (hasOf k).2 = false) :
    Calls Tryz.prog 41 #[.int .i64 k] w fun e w' => e = .returned (.tuple #[.slice none 0 0, .slice none 0 0, .bool false]) ∧ w = w' := by
  obtain ⟨h1, h2⟩ : ∃ h1, hasOf k = (h1, false) := ⟨_, Prod.ext rfl hk⟩
  have hc := has_any k w
  rw [h2] at hc
  have HC := Lib.hid hc
  clear hc h2 hk
  go_enter Tryz.func41, Tryz.ntmps41
  go_wp2_with fail
  refine HC.out.mono ?_
  rintro e w2 ⟨rfl, rfl⟩
  go_wp2_with fail
  go_ret3
  exact ⟨rfl, rfl⟩

set_option maxRecDepth 100000 in
set_option maxHeartbeats 4000000 in
theorem partsOf_yes (k : Int) (w : World) (hk : (hasOf k).2 = true) :
    Calls Tryz.prog 41 #[.int .i64 k] w fun e w' => (∃ v1 v2 xs1 xs2, e = .returned (.tuple #[v1, v2, .bool true]) ∧ TwoRows w.heap.size w' v1 v2 xs1 xs2 ∧ PartsIdx w' (hasI k) xs1 ∧ PartsIdx w' (hasNotI k) xs2) ∧ Below w.heap.size w w' := by
  have HL := Lib.hid (has_letter k hk)
  obtain ⟨O, h2⟩ : ∃ O, hasOf k = (O, true) := ⟨_, Prod.ext rfl hk⟩
  have HO := Lib.hid (show (hasOf k).1 = O by rw [h2])
  have hc := has_any k w
  rw [h2] at hc
  have HC := Lib.hid hc
  have HK := Lib.hid hk
  have hOs : O.size ≤ 2 := by
    have := hasOf_size k
    rw [h2] at this; exact this
  have hex : (⟨#[110, 112, 111, 114, 108, 115, 97, 107]⟩ : ByteArray).extract 0 1 = ⟨#[110]⟩ := by decide +kernel
  clear hc h2 hk
  obtain ⟨i0, hi, hz0, hz1, hz2⟩ := info_parts Tryz.infoPart
  go_enter Tryz.func41, Tryz.ntmps41
  go_wp2_with fail
  refine HC.out.mono ?_
  rintro e w2 ⟨rfl, rfl⟩
  go_wp2_with fail
  refine (payloadParts_any _).mono ?_
  rintro e w1 ⟨⟨gp, cp, rfl, hall⟩, hb1⟩
  have HAL := Lib.hid hall
  have HB1 := Lib.hid hb1
  clear hall hb1
  go_wp2_with fail
  obtain ⟨xs, hxl, hpa, hpp⟩ := HAL.out.list
  have HP := Lib.hid hpa
  have HPP := Lib.hid hpp
  have HXL := Lib.hid hxl
  have h0 : gp < w1.heap.size := hpa.1
  clear hpa hpp hxl HAL
  go_loopw [2, 3, 20] (fun v1 v2 i wr => ∃ j : Nat, j ≤ 8 ∧ i = .int .i64 j ∧ TwoRows w1.heap.size wr v1 v2 (selF (inHas k) xs j) (selF (fun i => !inHas k i) xs j) ∧ Below w1.heap.size w1 wr) (fun _ _ i _ => 8 - (intOf i).toNat)
  case atStart => exact ⟨0, Nat.zero_le _, rfl, ⟨World.ownsRow_nil _ _ _ _, World.ownsRow_nil _ _ _ _, by simp [Value.ownBlock]⟩, Below.refl _ _⟩
  case round =>
    obtain ⟨j, hj, rfl, htwo, hb⟩ := hrel
    by_cases hlt : j < 8
    · obtain ⟨x, hx⟩ : ∃ x, xs[j]? = some x := ⟨_, List.getElem?_eq_getElem (by have := HXL.out; omega)⟩
      obtain ⟨c0, c1, c2, c3⟩ := (HP.out.below hb h0).2 j x hx
      have hn := (HPP.out j x hx).num.1
      rw [show (x.num : Int) = (j : Int) + 1 by omega] at c0
      have HN := Lib.hid hn; clear hn
      have HT := Lib.hid htwo; clear htwo
      have HB := Lib.hid hb; clear hb
      have HX := Lib.hid hx; clear hx
      have b0 : (0 : Int) ≤ (j : Int) := by omega
      have b1 : (j : Int) < 8 := by omega
      have HI := Lib.hid (HL.out j hlt)
      go_wp2_with fail
      refine (idx_any _ _ _ (inHas k j) (by have := HI.out; rw [HO.out] at this; exact this)).mono ?_
      rintro e w3 ⟨z, rfl, hz, rfl⟩
      cases hy : inHas k j with
      | true =>
        have hd : decide (0 ≤ z) = true := hz.trans hy
        have hy2 : (!inHas k j) = false := by rw [hy]; rfl
        have HY := Lib.hid hy
        have HY2 := Lib.hid hy2
        clear hy hy2 hz
        have HT2 := Lib.hid ((HT.out.below (below_alloc _ (.cells #[.int .i64 ((j : Int) + 1), .int .i64 (x.kind : Int), .func (.func x.pg) #[] x.plb, .func (.func x.tg) #[] x.tlb] 117))).below (below_alloc _ (.cells #[.int .i64 ((j : Int) + 1), .int .i64 (x.kind : Int), .func (.func x.pg) #[] x.plb, .func (.func x.tg) #[] x.tlb] 117)))
        have hsl := selF_len (inHas k) xs j
        obtain ⟨HW1, _, _⟩ := id HT2.out
        go_wp2_with (at_builtin; go_must (refine wpList_append_lies _ rfl _ _ 83 rfl w1.heap.size 117 i0 _ 4 32 Tryz.underlying83 hi hz0 hz1 hz2 rfl (by omega) _ _ _ rfl HW1 ⟨wr.heap.size + 1, 0, none⟩ 1 1 [.int .i64 ((j : Int) + 1), .int .i64 (x.kind : Int), .func (.func x.pg) #[] x.plb, .func (.func x.tg) #[] x.tlb] rfl rfl (World.news_of_block (cs := #[.int .i64 ((j : Int) + 1), .int .i64 (x.kind : Int), .func (.func x.pg) #[] x.plb, .func (.func x.tg) #[] x.tlb]) (t := 117) (fr := (0, 0)) (by have := heap_alloc_new (wr.alloc (.cells #[.int .i64 ((j : Int) + 1), .int .i64 (x.kind : Int), .func (.func x.pg) #[] x.plb, .func (.func x.tg) #[] x.tlb] 117)) (.cells #[.int .i64 ((j : Int) + 1), .int .i64 (x.kind : Int), .func (.func x.pg) #[] x.plb, .func (.func x.tg) #[] x.tlb] 117); rw [World.size_alloc] at this; exact this)) (by simp [Value.oneCell']) (by omega) (by unfold maxLen; omega) (by omega) (by simp; have := HB.out.size; omega) (wr.heap.size + 2) (by simp) ?_; intro gg cc w5 hown5 hgrow hat hltg))
        have HTW := Lib.hid (HT2.out.more (x := x) (by simp) (by rw [show (x.num : Int) = (j : Int) + 1 by have := HN.out; omega]; exact hown5) hgrow hat)
        have HB5 := Lib.hid ((below_more (below_more HB.out _) _).grown hgrow (by have := HB.out.size; simp; omega) (fun r e => (HW1.lt r e).1))
        clear hown5 hgrow hat HW1
        go_wp2
        go_roundw
        case rel => exact ⟨j + 1, by omega, by go_num, by rw [selF_yes HX.out HY.out, selF_no HY2.out]; exact HTW.out, HB5.out⟩
        case measure => simp [intOf]; omega
      | false =>
        have hd : decide (0 ≤ z) = false := hz.trans hy
        have hy2 : (!inHas k j) = true := by rw [hy]; rfl
        have HY := Lib.hid hy
        have HY2 := Lib.hid hy2
        clear hy hy2 hz
        have HT2 := Lib.hid ((HT.out.swap.below (below_alloc _ (.cells #[.int .i64 ((j : Int) + 1), .int .i64 (x.kind : Int), .func (.func x.pg) #[] x.plb, .func (.func x.tg) #[] x.tlb] 117))).below (below_alloc _ (.cells #[.int .i64 ((j : Int) + 1), .int .i64 (x.kind : Int), .func (.func x.pg) #[] x.plb, .func (.func x.tg) #[] x.tlb] 117)))
        have hsl := selF_len (fun i => !inHas k i) xs j
        obtain ⟨HW1, _, _⟩ := id HT2.out
        go_wp2_with (at_builtin; go_must (refine wpList_append_lies _ rfl _ _ 83 rfl w1.heap.size 117 i0 _ 4 32 Tryz.underlying83 hi hz0 hz1 hz2 rfl (by omega) _ _ _ rfl HW1 ⟨wr.heap.size + 1, 0, none⟩ 1 1 [.int .i64 ((j : Int) + 1), .int .i64 (x.kind : Int), .func (.func x.pg) #[] x.plb, .func (.func x.tg) #[] x.tlb] rfl rfl (World.news_of_block (cs := #[.int .i64 ((j : Int) + 1), .int .i64 (x.kind : Int), .func (.func x.pg) #[] x.plb, .func (.func x.tg) #[] x.tlb]) (t := 117) (fr := (0, 0)) (by have := heap_alloc_new (wr.alloc (.cells #[.int .i64 ((j : Int) + 1), .int .i64 (x.kind : Int), .func (.func x.pg) #[] x.plb, .func (.func x.tg) #[] x.tlb] 117)) (.cells #[.int .i64 ((j : Int) + 1), .int .i64 (x.kind : Int), .func (.func x.pg) #[] x.plb, .func (.func x.tg) #[] x.tlb] 117); rw [World.size_alloc] at this; exact this)) (by simp [Value.oneCell']) (by omega) (by unfold maxLen; omega) (by omega) (by simp; have := HB.out.size; omega) (wr.heap.size + 2) (by simp) ?_; intro gg cc w5 hown5 hgrow hat hltg))
        have HTW := Lib.hid (HT2.out.more (x := x) (by simp) (by rw [show (x.num : Int) = (j : Int) + 1 by have := HN.out; omega]; exact hown5) hgrow hat)
        have HB5 := Lib.hid ((below_more (below_more HB.out _) _).grown hgrow (by have := HB.out.size; simp; omega) (fun r e => (HW1.lt r e).1))
        clear hown5 hgrow hat HW1
        go_wp2
        go_roundw
        case rel => exact ⟨j + 1, by omega, by go_num, by rw [selF_no HY.out, selF_yes HX.out HY2.out]; exact HTW.out.swap, HB5.out⟩
        case measure => simp [intOf]; omega
    · obtain rfl : j = 8 := by omega
      have HT := Lib.hid htwo
      have HB := Lib.hid hb
      have HPI := Lib.hid (fun i x hx => (HPP.out i x hx).below hb)
      clear htwo hb
      go_wp2_with fail
      go_ret3
      have hs := HB1.out.size
      refine ⟨⟨_, _, _, _, rfl, HT.out.base hs, ?_, ?_⟩, HB1.out.trans (HB.out.mono hs)⟩
      · exact (parts_idx HXL.out HPI.out HK.out).1
      · exact (parts_idx HXL.out HPI.out HK.out).2
end Go.Proofs.YtngceccpebdgmaaGreatDoor
