/- acks: Least, with its two closures, and slices.MinFunc of ints. -/
import Derived.Test.YtogkdekjcbljnaaDoorAkOwn
namespace Go.Proofs.YtogkdekjcbljnaaDoor
open Go.RowKit

set_option maxRecDepth 100000 in
theorem nan_u64 (x : Int) (w : World) : Calls Tryd.prog 34 #[.int .u64 x] w fun e w' => e = .returned (.bool false) ∧ w = w' := by
  go_enter Tryd.func34, Tryd.ntmps34
  go_wp2
  go_ret
  exact ⟨by simp, rfl⟩
set_option maxRecDepth 100000 in
theorem cmp_u64 (a b : Int) (w : World) : Calls Tryd.prog 23 #[.int .u64 a, .int .u64 b] w fun e w' => e = .returned (.int .i64 (cmpI a b)) ∧ Below w.heap.size w w' := by
  obtain ⟨A, qa⟩ : ∃ A, decide (a < b) = A := ⟨_, rfl⟩
  obtain ⟨B, qb⟩ : ∃ B, decide (b < a) = B := ⟨_, rfl⟩
  have e : cmpI a b = if A then -1 else if B then 1 else 0 := by subst qa; subst qb; simp [cmpI]
  rw [e]
  clear e
  cases A <;> cases B
  all_goals
    go_enter Tryd.func23, Tryd.ntmps23
    go_wp2_with (go_at_call 34; refine (nan_u64 _ _).mono ?_; rintro e w' ⟨rfl, rfl⟩)
    go_ret
    exact ⟨rfl, Below.refl _ _⟩

/-- What the closures of Least have. -/
structure LsBx (bA bK bF : Nat) (b : AkB) (k : Ky) (w : World) : Prop where
  a : Blk w bA #[.pointer (some ⟨b.m, 0, none⟩)] 24
  k : Blk w bK #[.int .i64 k.1, .string k.2] 27
  f : Blk w bF #[.func (.func 20) #[] #[.pointer (some ⟨bA, 0, none⟩), .pointer (some ⟨bK, 0, none⟩)]] 66
theorem LsBx.later {bA bK bF : Nat} {b : AkB} {k : Ky} {w w' : World} (h : LsBx bA bK bF b k w) (hb : Below w.heap.size w w') : LsBx bA bK bF b k w' := ⟨h.a.later hb, h.k.later hb, h.f.later hb⟩
set_option maxRecDepth 100000 in
set_option maxHeartbeats 2000000 in
theorem has_any {base bA bK bF : Nat} {b : AkB} {A : Ak} {CT : Tk → Option Value} {CR CN : Ky → Option Value} {w : World} (h : AkIn base b A CT CR CN w) {k : Ky} {i : Int} (hk : kyK k) (hi : i64B i) (hx : LsBx bA bK bF b k w) :
    Calls Tryd.prog 20 #[.int .i64 i, .pointer (some ⟨bA, 0, none⟩), .pointer (some ⟨bK, 0, none⟩)] w fun e w' => e = .returned (.int .u64 (A.T k i : Int)) ∧ Below w.heap.size w w' := by
  have hd : Below w.heap.size w w.drew := (Below.refl _ _).drew
  have hl := (h.later hd).lookT hk hi
  have c0 : w.cell? ⟨b.m, 0, none⟩ = some (.map (some b.mt)) := h.blk.cell 0
  have c1 : w.cell? ⟨bA, 0, none⟩ = some (.pointer (some ⟨b.m, 0, none⟩)) := hx.a.cell 0
  obtain ⟨t, x⟩ := k
  have y0 : w.cell? ⟨bK, 0, none⟩ = some (.int .i64 t) := hx.k.cell 0
  have y1 : w.cell? ⟨bK, 1, none⟩ = some (.string x) := hx.k.cell 1
  obtain ⟨M, hM⟩ : ∃ M, A.T (t, x) i = M := ⟨_, rfl⟩
  rw [hM] at hl ⊢
  have HD := Lib.hid hd
  clear hM hd hx h
  go_enter Tryd.func20, Tryd.ntmps20
  go_wp2_with fail
  go_region
  all_goals
    go_wp2_with fail
    go_ret
    exact ⟨rfl, HD.out⟩
abbrev LsS (base bA bK bF : Nat) (b : AkB) (A : Ak) (CT : Tk → Option Value) (CR CN : Ky → Option Value) (k : Ky) (w0 w : World) : Prop :=
  w.cell? ⟨bF, 0, none⟩ = some (.func (.func 20) #[] #[.pointer (some ⟨bA, 0, none⟩), .pointer (some ⟨bK, 0, none⟩)]) ∧ AkIn base b A CT CR CN w ∧ LsBx bA bK bF b k w ∧ Below w0.heap.size w0 w
theorem LsS.next {base bA bK bF : Nat} {b : AkB} {A : Ak} {CT : Tk → Option Value} {CR CN : Ky → Option Value} {k : Ky} {w0 w w' : World} (h : LsS base bA bK bF b A CT CR CN k w0 w) (hb : Below w.heap.size w w') : LsS base bA bK bF b A CT CR CN k w0 w' :=
  ⟨(h.2.2.1.f.later hb).cell 0, h.2.1.later hb, h.2.2.1.later hb, h.2.2.2.trans (hb.mono h.2.2.2.size)⟩
theorem LsS.has {base bA bK bF : Nat} {b : AkB} {A : Ak} {CT : Tk → Option Value} {CR CN : Ky → Option Value} {k : Ky} {w0 w : World} (h : LsS base bA bK bF b A CT CR CN k w0 w) {i : Int} (hk : kyK k) (hi : i64B i) :
    Calls Tryd.prog 20 #[.int .i64 i, .pointer (some ⟨bA, 0, none⟩), .pointer (some ⟨bK, 0, none⟩)] w fun e w' => e = .returned (.int .u64 (A.T k i : Int)) ∧ Below w.heap.size w w' := has_any h.2.1 hk hi h.2.2.1
set_option maxRecDepth 100000 in
set_option maxHeartbeats 2000000 in
theorem cmpHas_any {base bA bK bF : Nat} {b : AkB} {A : Ak} {CT : Tk → Option Value} {CR CN : Ky → Option Value} {w : World} (h : AkIn base b A CT CR CN w) {k : Ky} {i j : Int} (hk : kyK k) (hi : i64B i) (hj : i64B j) (hx : LsBx bA bK bF b k w) :
    Calls Tryd.prog 22 #[.int .i64 i, .int .i64 j, .pointer (some ⟨bF, 0, none⟩)] w fun e w' => e = .returned (.int .i64 (cmpI (A.T k i : Int) (A.T k j : Int))) ∧ Below w.heap.size w w' := by
  have ST : LsS base bA bK bF b A CT CR CN k w w.drew := LsS.next (w := w) ⟨hx.f.cell 0, h, hx, Below.refl _ _⟩ (Below.refl _ _).drew
  have HI := Lib.hid (And.intro hk (And.intro hi hj))
  clear h hx hk hi hj
  go_enter Tryd.func22, Tryd.ntmps22
  go_wp2_with fail
  go_region_held3 (fun w' => w'.cell? ⟨bF, 0, none⟩ = some (.func (.func 20) #[] #[.pointer (some ⟨bA, 0, none⟩), .pointer (some ⟨bK, 0, none⟩)]) ∧ AkIn base b A CT CR CN w' ∧ LsBx bA bK bF b k w' ∧ Below w.heap.size w w') (with_reducible first | exact ST | exact LsS.next (by assumption) (by assumption) | go_keep) ((first | (go_at_call 20; refine (LsS.has (base := base) (bF := bF) (b := b) (A := A) (CT := CT) (CR := CR) (CN := CN) (k := k) (w0 := w) (by assumption) HI.out.1 (by first | exact HI.out.2.1 | exact HI.out.2.2)).mono ?_; rintro e wC ⟨rfl, hbC⟩) | (go_at_call 23; refine (cmp_u64 _ _ _).mono ?_; rintro e wC ⟨rfl, hbC⟩)))
  rename_i hH
  have HB := Lib.hid hH.2.2.2
  clear hH ST
  go_wp2_with fail
  go_ret
  exact ⟨rfl, HB.out⟩

/-- A slice of ints. -/
def IntsAt (w : World) (a : Option Addr) (l : List Int) : Prop := ∀ (i : Nat) (x : Int), l[i]? = some x → ∃ g off, a = some ⟨g, off, none⟩ ∧ g < w.heap.size ∧ w.cell? ⟨g, off + i, none⟩ = some (.int .i64 x)
theorem IntsAt.later {w w' : World} {a : Option Addr} {l : List Int} (h : IntsAt w a l) (hb : Below w.heap.size w w') : IntsAt w' a l := by
  intro i x hi
  obtain ⟨g, off, ha, hg, h0⟩ := h i x hi
  exact ⟨g, off, ha, Nat.lt_of_lt_of_le hg hb.size, (hb.cell (p := ⟨g, _, none⟩) hg).trans h0⟩
def minI (f : Int → Nat) : List Int → Int
  | [] => 0
  | i :: r => r.foldl (fun m x => if f x < f m then x else m) i
theorem minI_fold (f : Int → Nat) : ∀ (r : List Int) (i : Int), f (r.foldl (fun m x => if f x < f m then x else m) i) = r.foldl (fun m j => min m (f j)) (f i)
  | [], _ => rfl
  | x :: r, i => by
    rw [List.foldl_cons, List.foldl_cons, minI_fold f r]
    congr 1
    split <;> omega
theorem minI_least (f : Int → Nat) {l : List Int} (h : l ≠ []) : f (minI f l) = leastL f l := by
  cases l with
  | nil => exact absurd rfl h
  | cons i r => exact minI_fold f r i
theorem minI_one {f : Int → Nat} {l : List Int} {m : Int} (h : l[0]? = some m) : minI f (l.take 1) = m := by
  cases l with
  | nil => simp at h
  | cons a r => simp at h; subst h; rfl
theorem minI_next {f : Int → Nat} {l : List Int} {k : Nat} {m : Int} (h : l[k]? = some m) (hk : 1 ≤ k) : minI f (l.take (k + 1)) = if f m < f (minI f (l.take k)) then m else minI f (l.take k) := by
  have e : l.take (k + 1) = l.take k ++ [m] := by rw [List.take_add_one, h]; rfl
  rw [e]
  cases l with
  | nil => simp at h
  | cons a r =>
    obtain ⟨k', rfl⟩ : ∃ k', k = k' + 1 := ⟨k - 1, by omega⟩
    rw [List.take_succ_cons, List.cons_append]
    show (r.take k' ++ [m]).foldl _ a = _
    rw [List.foldl_append]
    rfl
theorem minI_mem {f : Int → Nat} {l : List Int} (h : l ≠ []) : minI f l ∈ l := by
  cases l with
  | nil => exact absurd rfl h
  | cons a r =>
    have H : ∀ (r : List Int) (i : Int), r.foldl (fun m x => if f x < f m then x else m) i ∈ i :: r := by
      intro r
      induction r with
      | nil => intro i; simp
      | cons x r ih =>
        intro i
        rw [List.foldl_cons]
        have := ih (if f x < f i then x else i)
        rcases List.mem_cons.1 this with e | e
        · rw [e]
          split <;> simp
        · exact List.mem_cons_of_mem _ (List.mem_cons_of_mem _ e)
    exact H r a
set_option maxRecDepth 100000 in
set_option maxHeartbeats 4000000 in
theorem minFunc_any {f : Int → Nat} {bF : Nat} {a : Option Addr} {c : Nat} {l : List Int} {w : World} (hr : IntsAt w a l) (hn : l.length ≤ maxLen) (h1 : 1 ≤ l.length)
    (hc : ∀ W, Below w.heap.size w W → ∀ x y, x ∈ l → y ∈ l → Calls Tryd.prog 22 #[.int .i64 x, .int .i64 y, .pointer (some ⟨bF, 0, none⟩)] W fun e w' => e = .returned (.int .i64 (cmpI (f x : Int) (f y : Int))) ∧ Below W.heap.size W w') :
    Calls Tryd.prog 21 #[.slice a l.length c, .func (.func 22) #[] #[.pointer (some ⟨bF, 0, none⟩)]] w fun e w' => e = .returned (.int .i64 (minI f l)) ∧ Below w.heap.size w w' := by
  unfold maxLen at hn
  obtain ⟨L, hL⟩ : ∃ L, l.length = L := ⟨_, rfl⟩
  rw [hL] at hn h1 ⊢
  obtain ⟨m0, hm0⟩ : ∃ m0, l[0]? = some m0 := ⟨_, List.getElem?_eq_getElem (by omega)⟩
  have HMIN1 := Lib.hid (minI_one (f := f) hm0)
  have hmin : minI f l = minI f (l.take L) := by rw [List.take_of_length_le (by omega)]
  rw [hmin]
  obtain ⟨g0, off0, rfl, hg0, e0⟩ := hr 0 m0 hm0
  rw [Nat.add_zero] at e0
  have hlt1 : (0 : Int) < (L : Int) := by omega
  have hlt2 : ¬ (L : Int) < 1 := by omega
  have HL := Lib.hid hL
  have HR := Lib.hid hr
  have HC := Lib.hid hc
  clear hL hr hc hmin hm0 hg0
  go_enter Tryd.func21, Tryd.ntmps21
  go_wp2_with fail
  go_loopw [5, 6] (fun vm vi wr => ∃ k : Nat, 1 ≤ k ∧ k ≤ L ∧ vi = .int .i64 (k : Int) ∧ vm = .int .i64 (minI f (l.take k)) ∧ Below w.heap.size w wr) (fun _ vi _ => L - (intOf vi).toNat)
  case atStart => exact ⟨1, Nat.le_refl _, h1, rfl, by rw [HMIN1.out], Below.refl _ _⟩
  case round =>
    obtain ⟨k, hk1, hk, rfl, rfl, hb⟩ := hrel
    clear e0
    by_cases hlt : k < L
    · have b1 : (k : Int) < (L : Int) := by omega
      have b0 : (0 : Int) ≤ (k : Int) := by omega
      have b2 : IntKind.i64.wrap ((k : Int) + 1) = (k : Int) + 1 := by rw [IntKind.wrap_i64]; omega
      obtain ⟨m, hx⟩ : ∃ m, l[k]? = some m := ⟨_, List.getElem?_eq_getElem (by have := HL.out; omega)⟩
      have hnx := minI_next (f := f) hx hk1
      have hom : minI f (l.take k) ∈ l := List.mem_of_mem_take (minI_mem (f := f) (l := l.take k) (by intro e; have e2 : (l.take k).length = 0 := (by rw [e]; rfl); rw [List.length_take] at e2; have := HL.out; omega))
      obtain ⟨o, ho⟩ : ∃ o, minI f (l.take k) = o := ⟨_, rfl⟩
      rw [ho] at hnx hom ⊢
      obtain ⟨g, off, ha, hgl, p0⟩ := (HR.out.later hb) k m hx
      cases ha
      have HCC := Lib.hid (HC.out wr hb m o (List.mem_of_getElem? hx) hom)
      have HNX := Lib.hid hnx
      have HB := Lib.hid hb
      clear hx hnx hom ho hb hgl
      obtain ⟨cv, hcv⟩ : ∃ cv, cmpI (f m : Int) (f o : Int) = cv := ⟨_, rfl⟩
      rw [hcv] at HCC
      have hcl : cv < 0 ↔ f m < f o := by rw [← hcv, cmpI_le]; omega
      clear hcv
      by_cases hlt2 : cv < 0
      · have HNX2 := Lib.hid (show minI f (l.take (k + 1)) = m by rw [HNX.out, if_pos (hcl.1 hlt2)])
        clear hcl
        go_wp2_with fail
        refine HCC.out.mono ?_
        rintro e w2 ⟨rfl, hb2⟩
        have HB := Lib.hid (HB.out.trans (hb2.mono HB.out.size))
        have p0 : w2.cell? ⟨g0, off0 + k, none⟩ = some (.int .i64 m) := (hb2.cell (p := ⟨g0, off0 + k, none⟩) (World.block_lt_of_cell? wr _ p0)).trans p0
        clear hb2
        go_wp2_with fail
        go_roundw
        case rel => exact ⟨k + 1, by omega, by omega, by go_num, by rw [HNX2.out], HB.out⟩
        case measure => simp [intOf]; omega
      · have HNX2 := Lib.hid (show minI f (l.take (k + 1)) = o by rw [HNX.out, if_neg (fun h => hlt2 (hcl.2 h))])
        clear hcl
        go_wp2_with fail
        refine HCC.out.mono ?_
        rintro e w2 ⟨rfl, hb2⟩
        have HB := Lib.hid (HB.out.trans (hb2.mono HB.out.size))
        clear hb2 p0
        go_wp2_with fail
        go_roundw
        case rel => exact ⟨k + 1, by omega, by omega, by go_num, by rw [HNX2.out], HB.out⟩
        case measure => simp [intOf]; omega
    · obtain rfl : k = L := by omega
      have b1 : ¬ (k : Int) < (k : Int) := by omega
      have HB := Lib.hid hb
      clear hb
      go_wp2_with fail
      go_ret
      exact ⟨rfl, HB.out⟩
set_option maxRecDepth 100000 in
set_option maxHeartbeats 4000000 in
theorem least_any {base : Nat} {b : AkB} {A : Ak} {w : World} (h : AkIs base b A w) {k : Ky} (hk : kyK k) {a : Option Addr} {c : Nat} {l : List Int} (hr : IntsAt w a l) (hn : l.length ≤ maxLen) (hi : ∀ x ∈ l, i64B x) :
    Calls Tryd.prog 11 #[.pointer (some ⟨b.m, 0, none⟩), kyE k, .slice a l.length c] w fun e w' => e = .returned (.int .u64 (leastL (A.T k) l : Int)) ∧ Below w.heap.size w w' := by
  obtain ⟨_, CT, CR, CN, hin⟩ := h
  obtain ⟨t, x⟩ := k
  obtain ⟨w1, hw1, hb1, q1⟩ := ak_new w #[.pointer (some ⟨b.m, 0, none⟩)] 24
  obtain ⟨w2, hw2, hb2, q2⟩ := ak_new w1 #[.int .i64 t, .string x] 27
  obtain ⟨f, hf⟩ : ∃ f, A.T (t, x) = f := ⟨_, rfl⟩
  have HW1 := Lib.hid hw1
  have HW2 := Lib.hid hw2
  have HB2 := Lib.hid (hb1.trans (hb2.mono hb1.size))
  clear hw1 hw2
  by_cases h0 : l.length = 0
  · obtain rfl : l = [] := List.eq_nil_of_length_eq_zero h0
    clear q1 q2 hb1 hb2 hin hi hr hn hk hf
    go_enter Tryd.func11, Tryd.ntmps11
    go_wp2_with (first | rw [HW1.out] | rw [HW2.out])
    go_ret
    exact ⟨rfl, HB2.out⟩
  · obtain ⟨w3, hw3, hb3, q3⟩ := ak_new w2 #[.func (.func 20) #[] #[.pointer (some ⟨w.heap.size, 0, none⟩), .pointer (some ⟨w1.heap.size, 0, none⟩)]] 66
    have hb03 := HB2.out.trans (hb3.mono HB2.out.size)
    have hbx : LsBx w.heap.size w1.heap.size w2.heap.size b (t, x) w3 := ⟨(q1.later hb2).later hb3, q2.later hb3, q3⟩
    have h3 := hin.later hb03
    have hmf := minFunc_any (f := f) (bF := w2.heap.size) (c := c) (hr.later hb03) hn (by omega) (fun W hW x1 y1 hx1 hy1 => by
      have := cmpHas_any (h3.later hW) hk (hi x1 hx1) (hi y1 hy1) (hbx.later hW)
      rw [hf] at this; exact this)
    have hne : l ≠ [] := fun e => h0 (by rw [e]; rfl)
    have hml := minI_least f hne
    have hmi := hi _ (minI_mem (f := f) hne)
    obtain ⟨mn, hmn⟩ : ∃ mn, minI f l = mn := ⟨_, rfl⟩
    rw [hmn] at hmf hml hmi
    have HMF := Lib.hid hmf
    have HHAS := Lib.hid (fun W (hW : Below w3.heap.size w3 W) => by
      have := has_any (h3.later hW) hk hmi (hbx.later hW)
      rw [hf, hml] at this; exact this)
    have HW3 := Lib.hid hw3
    have HBX := Lib.hid hbx
    have HB3 := Lib.hid hb03
    obtain ⟨L, hL⟩ : ∃ L, l.length = L := ⟨_, rfl⟩
    rw [hL] at HMF h0 ⊢
    have hz : ¬ ((L : Int) = 0) := by omega
    rw [hf]
    generalize leastL f l = R at HHAS hml ⊢
    clear hmf hml hmi hne hbx h3 hb03 hb3 q3 q1 q2 hb1 hb2 hin hi hr hn hw3 hL hmn
    go_enter Tryd.func11, Tryd.ntmps11
    go_wp2_with (first | rw [HW1.out] | rw [HW2.out] | rw [HW3.out])
    refine HMF.out.mono ?_
    rintro e w4 ⟨rfl, hb4⟩
    have hF : w4.cell? ⟨w2.heap.size, 0, none⟩ = some (.func (.func 20) #[] #[.pointer (some ⟨w.heap.size, 0, none⟩), .pointer (some ⟨w1.heap.size, 0, none⟩)]) := (HBX.out.f.later hb4).cell 0
    have HB4 := Lib.hid (HB3.out.trans (hb4.mono HB3.out.size))
    have HH4 := Lib.hid (HHAS.out w4 hb4)
    clear hb4
    go_wp2_with fail
    refine HH4.out.mono ?_
    rintro e w5 ⟨rfl, hb5⟩
    have HB5 := Lib.hid (HB4.out.trans (hb5.mono HB4.out.size))
    clear hb5 hF
    go_wp2_with fail
    go_ret
    exact ⟨rfl, HB5.out⟩
end Go.Proofs.YtogkdekjcbljnaaDoor
