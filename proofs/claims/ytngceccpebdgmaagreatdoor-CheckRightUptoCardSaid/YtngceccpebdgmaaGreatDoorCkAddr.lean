/- check: the addresses of an endpoint, their places, their weights: the walks. -/
import Derived.Test.YtngceccpebdgmaaGreatDoorCkList
import Derived.Maps.Own
import Derived.Maps.OwnOps
import Derived.Maps.Views
import Derived.Maps.Keyed
import Derived.DeepKeys4
import Derived.BigQuiet
import Derived.Deep.RegionHeld3
namespace Go.Proofs.YtngceccpebdgmaaGreatDoor
open Go.RowKit Go.Shelf Go.Maps Go.WideMaps

abbrev spV (h : ByteArray) (p : Int) : Value := .agg #[.string h, .int .u64 p]
theorem Tryz.laidOut : laidOutB Tryz.prog = true := by kernel_rfl
theorem Tryz.spLaw : KeyLaw Tryz.prog 230 := deep_law_laid Tryz.laidOut (m := 2) (by omega) (of_decide_eq_true (by kernel_rfl)) (by kernel_rfl) (by kernel_rfl)
theorem Tryz.spKeyed : Keyed Tryz.prog 230 := Keyed.of_law Tryz.spLaw
/-- The key of a spot. -/
def spK (h : ByteArray) (p : Int) : Lit := .string (keyBytes [.string h.data.toList, .int .u64 p])
theorem spKey {h : ByteArray} {p : Nat} (hs : h.size ≤ maxLen) (hp : p < 2 ^ 64) : keyOf Tryz.prog 230 (spV h (p : Int)) = some (spK h (p : Int)) := by
  have hk : Tryz.prog.keyType 230 = true := by kernel_rfl
  have hc : Tryz.prog.cellsOf 230 = 2 := by kernel_rfl
  have cS : Tryz.prog.cellsOf 9 = 1 := by kernel_rfl
  have cU : Tryz.prog.cellsOf 24 = 1 := by kernel_rfl
  have hw : (Lit.int .u64 (p : Int)).wf = true := by
    have e1 : IntKind.u64.min = 0 := by kernel_rfl
    have e2 : IntKind.u64.max = 18446744073709551615 := by kernel_rfl
    simp only [Lit.wf, e1, e2, Bool.and_eq_true, decide_eq_true_eq]; omega
  have h0 : 1 < Tryz.prog.types.size := of_decide_eq_true (by kernel_rfl)
  obtain ⟨m, hm⟩ : ∃ m, Tryz.prog.types.size = m + 1 := ⟨Tryz.prog.types.size - 1, by omega⟩
  obtain ⟨m', hm'⟩ : ∃ m', m = m' + 1 := ⟨m - 1, by omega⟩
  subst hm'
  clear h0
  unfold keyOf spK
  simp only [Tryz.underlying230]
  rw [if_pos (by simp [hk, Value.formed, Tryz.underlying230, hc]), hm]
  unfold Program.keyLits
  simp only [Tryz.underlying230, Value.cells]
  rw [if_pos (by rw [hc]; exact ⟨rfl, by kernel_rfl⟩)]
  simp [Program.keyLits, Tryz.underlying9, Tryz.underlying24, cS, cU, hs, hw]
theorem ba_ext {x y : ByteArray} (h : x.data.toList = y.data.toList) : x = y := by
  obtain ⟨x⟩ := x
  obtain ⟨y⟩ := y
  exact congrArg ByteArray.mk (Array.ext' h)
theorem spK_inj {h h' : ByteArray} {p p' : Nat} (hs : h.size ≤ maxLen) (hp : p < 2 ^ 64) (hs' : h'.size ≤ maxLen) (hp' : p' < 2 ^ 64) (he : spK h (p : Int) = spK h' (p' : Int)) : h = h' ∧ p = p' := by
  have k1 := spKey hs hp
  rw [he] at k1
  have := Tryz.spKeyed.inj k1 (spKey hs' hp')
  simp at this
  exact ⟨this.1, by omega⟩

/-- Are an address and a spot at the same place? -/
def sameSp (a : Ad) (h : ByteArray) (p : Nat) : Bool := a.host.data.toList == h.data.toList && a.port == p
theorem sameSp_iff {a : Ad} {h : ByteArray} {p : Nat} : sameSp a h p = true ↔ a.host = h ∧ a.port = p := by
  unfold sameSp
  simp only [Bool.and_eq_true, beq_iff_eq]
  exact ⟨fun h => ⟨ba_ext h.1, h.2⟩, fun h => ⟨by rw [h.1], h.2⟩⟩
def sameAtI (ads : List Ad) (h : ByteArray) (p : Nat) (j : Nat) : Bool := match ads[j]? with
  | some a => sameSp a h p
  | none => false
def fIdx (ads : List Ad) (h : ByteArray) (p : Nat) (n : Nat) : Option Nat := firstI (sameAtI ads h p) n
theorem firstI_lt {f : Nat → Bool} : ∀ {n i : Nat}, firstI f n = some i → i < n ∧ f i = true
  | 0, i, h => by simp [firstI] at h
  | n + 1, i, h => by
    unfold firstI at h
    cases hf : firstI f n with
    | some k =>
      rw [hf] at h
      obtain rfl := Option.some.inj h
      have := firstI_lt hf
      exact ⟨by omega, this.2⟩
    | none =>
      rw [hf] at h
      simp only at h
      by_cases hn : f n = true
      · rw [if_pos hn] at h
        obtain rfl := Option.some.inj h
        exact ⟨by omega, hn⟩
      · rw [if_neg hn] at h; cases h
theorem firstI_none_iff {f : Nat → Bool} : ∀ {n : Nat}, firstI f n = none → ∀ k, k < n → f k = false
  | 0, _, k, hk => absurd hk (Nat.not_lt_zero _)
  | n + 1, h, k, hk => by
    unfold firstI at h
    cases hf : firstI f n with
    | some i => rw [hf] at h; cases h
    | none =>
      rw [hf] at h
      simp only at h
      by_cases hn : f n = true
      · rw [if_pos hn] at h; cases h
      · by_cases he : k = n
        · subst he; simpa using hn
        · exact firstI_none_iff hf k (by omega)
theorem fIdx_succ {ads : List Ad} {a : Ad} {n : Nat} (ha : ads[n]? = some a) (h : ByteArray) (p : Nat) : fIdx ads h p (n + 1) = match fIdx ads h p n with
    | some i => some i
    | none => if sameSp a h p = true then some n else none := by
  show firstI (sameAtI ads h p) (n + 1) = _
  unfold firstI
  rw [show sameAtI ads h p n = sameSp a h p by unfold sameAtI; rw [ha]]
  rfl
/-- The map of the first places. -/
def PlacesIn (D : DataW Unit) (ads : List Ad) (n : Nat) : Prop := IsMap D ∧ ∀ (h : ByteArray) (p : Nat), h.size ≤ maxLen → p < 2 ^ 64 → ∀ z, D.atKey (spK h (p : Int)) z = match fIdx ads h p n with
  | some j => .lit (.int .i64 (j : Int))
  | none => z
theorem placesIn_start (ads : List Ad) : PlacesIn (.map []) ads 0 := ⟨isMap_empty, fun _ _ _ _ _ => rfl⟩
theorem placesIn_there {D : DataW Unit} {ads : List Ad} {n j : Nat} {a : Ad} (h : PlacesIn D ads n) (ha : ads[n]? = some a) (hj : fIdx ads a.host a.port n = some j) : PlacesIn D ads (n + 1) := by
  refine ⟨h.1, fun x p hx hp z => ?_⟩
  rw [h.2 x p hx hp z, fIdx_succ ha]
  cases hf : fIdx ads x p n with
  | some i => rfl
  | none =>
    have : ¬ sameSp a x p = true := fun hs => by
      obtain ⟨rfl, rfl⟩ := sameSp_iff.1 hs
      rw [hf] at hj; cases hj
    simp only [if_neg this]
theorem placesIn_new {D : DataW Unit} {ads : List Ad} {n : Nat} {a : Ad} (h : PlacesIn D ads n) (ha : ads[n]? = some a) (hj : fIdx ads a.host a.port n = none) (hs : a.host.size ≤ maxLen) (hp : a.port < 2 ^ 64) : PlacesIn (D.put (spK a.host (a.port : Int)) (.lit (.int .i64 (n : Int)))) ads (n + 1) := by
  refine ⟨h.1.put _ _, fun x p hx hpx z => ?_⟩
  rw [fIdx_succ ha]
  by_cases he : sameSp a x p = true
  · obtain ⟨rfl, rfl⟩ := sameSp_iff.1 he
    rw [atKey_put_same h.1 (by simp [spK, WideAt.IsKeyLit]), hj]
    simp only [if_pos he]
  · rw [atKey_put_other (fun e => he (by
      obtain ⟨h1, h2⟩ := spK_inj hx hpx hs hp e
      exact sameSp_iff.2 ⟨h1.symm, h2.symm⟩)), h.2 x p hx hpx z]
    cases fIdx ads x p n with
    | some i => rfl
    | none => simp only [if_neg he]

theorem Tryz.zeroI (w : World) : (zeroValue 3).run Tryz.prog w = .ok (.int .i64 0) w := by kernel_rfl
/-- 'v, ok := first[spot]' -/
theorem look_there {W : World} {b N : Nat} {D : DataW Unit} {ads : List Ad} {n : Nat} {h : ByteArray} {p : Nat} (hm : W.ownsMap Tryz.prog 230 (plainElem Tryz.prog 3) b N D) (hD : PlacesIn D ads n) (hs : h.size ≤ maxLen) (hp : p < 2 ^ 64) :
    (fIdx ads h p n = none ∧ (Instr.lookup 184 (.map (some b)) (spV h (p : Int)) true).run Tryz.prog W = .ok (.tuple #[.int .i64 0, .bool false]) W) ∨
    ∃ j, fIdx ads h p n = some j ∧ (Instr.lookup 184 (.map (some b)) (spV h (p : Int)) true).run Tryz.prog W = .ok (.tuple #[.int .i64 (j : Int), .bool true]) W := by
  obtain ⟨es, clock, hb, F, _, rfl⟩ := hm
  have hD2 := hD.2 h p hs hp
  rcases Maps.fit_look true Tryz.spKeyed Tryz.underlying184 (Tryz.zeroI W) hb F (spKey hs hp) with ⟨hrun, _, hat⟩ | ⟨e0, y, _, _, hrun, hRv, hat, _⟩
  · refine Or.inl ⟨?_, by simpa using hrun⟩
    cases hf : fIdx ads h p n with
    | none => rfl
    | some j =>
      exfalso
      have h1 := hD2 (.lit (.bool true))
      rw [hf, hat] at h1
      simp at h1
  · obtain ⟨c, hc, hy, _⟩ := plainElem_int_inv Tryz.underlying3 hRv
    subst hy
    cases hf : fIdx ads h p n with
    | none =>
      exfalso
      have h1 := hD2 (.lit (.bool true))
      rw [hf, hat] at h1
      simp at h1
    | some j =>
      have h1 := hD2 (.lit (.bool true))
      rw [hf, hat] at h1
      simp at h1
      subst h1
      rw [hc] at hrun
      exact Or.inr ⟨j, rfl, by simpa using hrun⟩
/-- 'first[spot]' of a spot that is there. -/
theorem look_at {W : World} {b N : Nat} {D : DataW Unit} {ads : List Ad} {n j : Nat} {h : ByteArray} {p : Nat} (hm : W.ownsMap Tryz.prog 230 (plainElem Tryz.prog 3) b N D) (hD : PlacesIn D ads n) (hs : h.size ≤ maxLen) (hp : p < 2 ^ 64) (hj : fIdx ads h p n = some j) :
    (Instr.lookup 184 (.map (some b)) (spV h (p : Int)) false).run Tryz.prog W = .ok (.int .i64 (j : Int)) W := by
  obtain ⟨c, hrun, hat, _⟩ := hm.lookup_int Tryz.spKeyed Tryz.underlying184 Tryz.underlying3 (Tryz.zeroI W) (spKey hs hp)
  have h1 := hD.2 h p hs hp (.lit (.int .i64 0))
  rw [hj, hat] at h1
  simp at h1
  subst h1
  exact hrun

set_option maxRecDepth 100000 in
theorem spotOf_exact (h : ByteArray) (p t : Int) (w : World) : Calls Tryz.prog 136 #[.agg #[.string h, .int .u64 p, .int .u64 t]] w fun e w' => e = .returned (spV h p) ∧ (w.alloc (.cells #[.string h, .int .u64 p, .int .u64 t] 44)).alloc (.cells #[.string h, .int .u64 p] 230) = w' := by
  go_enter Tryz.func136, Tryz.ntmps136
  go_wp2_with fail
  first
    | (go_ret; exact ⟨rfl, rfl⟩)
    | exact bodyPost_ret (v := spV h p) (by simp [results, Tryz.results136, go_sem]) rfl ⟨rfl, rfl⟩

theorem ck_wf {j : Nat} (h : j < 1000000) : (Lit.int .i64 (j : Int)).wf = true := by
  have e1 : IntKind.i64.min = -9223372036854775808 := by kernel_rfl
  have e2 : IntKind.i64.max = 9223372036854775807 := by kernel_rfl
  simp only [Lit.wf, e1, e2, Bool.and_eq_true, decide_eq_true_eq]; omega
set_option maxRecDepth 100000 in
set_option maxHeartbeats 4000000 in
theorem addrsOf_any (a : Option Addr) (c : Nat) (ads : List Ad) (w : World) (h : AddrsAt w a ads) (hl : ads.length ≤ 64) (hs : ∀ x ∈ ads, x.host.size ≤ maxLen ∧ x.port < 2 ^ 64 ∧ x.wt < 2 ^ 64) :
    Calls Tryz.prog 104 #[.slice a ads.length c] w fun e w' => (∃ b D, e = .returned (.agg #[.slice a ads.length c, .map (some b)]) ∧ w'.ownsMap Tryz.prog 230 (plainElem Tryz.prog 3) b ads.length D ∧ PlacesIn D ads ads.length) ∧ Below w.heap.size w w' := by
  obtain ⟨n, hn⟩ : ∃ n, ads.length = n := ⟨_, rfl⟩
  have HN := Lib.hid hn
  have HR := Lib.hid h
  have HS := Lib.hid hs
  rw [hn] at hl ⊢
  clear h hs hn
  have hmm := @run_makeMap Tryz.prog
  go_enter Tryz.func104, Tryz.ntmps104
  go_wp2_with fail
  have HB0 := Lib.hid (((Below.refl w.heap.size w).alloc (Nat.le_refl _) (.cells #[.slice none 0 0, .map none] 186)).alloc (by simp) (.map #[] 0))
  have HM0 := Lib.hid (World.ownsMap_made (w.alloc (.cells #[.slice none 0 0, .map none] 186)) Tryz.prog 230 (plainElem (H := Unit) Tryz.prog 3))
  have HG0 := Lib.hid (heap_alloc_old (w.alloc (.cells #[.slice none 0 0, .map none] 186)) (.map #[] 0) (by simp) |>.trans (World.alloc_heap_new w (.cells #[.slice none 0 0, .map none] 186)))
  rw [World.size_alloc] at HM0
  obtain ⟨G, hG⟩ : ∃ G, w.heap.size = G := ⟨_, rfl⟩
  obtain ⟨W0, hW0⟩ : ∃ W0, (w.alloc (.cells #[.slice none 0 0, .map none] 186)).alloc (.map #[] 0) = W0 := ⟨_, rfl⟩
  rw [hW0] at HB0 HM0 HG0 ⊢
  rw [hG] at HB0 HM0 HG0 ⊢
  have HGG := Lib.hid hG
  clear hW0 hG hmm
  go_loopw [11] (fun v wr => ∃ (j : Nat) (D : DataW Unit), v = .int .i64 j ∧ j ≤ n ∧ wr.ownsMap Tryz.prog 230 (plainElem Tryz.prog 3) (G + 1) j D ∧ PlacesIn D ads j ∧ wr.heap[G]? = some (.cells #[.slice none 0 0, .map none] 186 (0, 0)) ∧ Below G w wr) (fun v _ => n - (intOf v).toNat)
  case atStart => exact ⟨0, .map [], rfl, Nat.zero_le _, HM0.out, placesIn_start ads, HG0.out, HB0.out⟩
  case round =>
    obtain ⟨j, D, rfl, hjn, hmap, hpl, hgb, hbw⟩ := hrel
    have HM := Lib.hid hmap
    have HP := Lib.hid hpl
    have HGB := Lib.hid hgb
    have HBW := Lib.hid hbw
    have hlm := hmap.lt
    clear hmap hpl hgb hbw
    by_cases hj : j < n
    · obtain ⟨x, hx⟩ : ∃ x, ads[j]? = some x := ⟨_, List.getElem?_eq_getElem (by have := HN.out; omega)⟩
      obtain ⟨x1, x2, x3⟩ := HS.out x (List.mem_of_getElem? hx)
      obtain ⟨g, off, rfl, hgl, q0, q1, q2⟩ := HR.out j x hx
      have hgG : g < w.heap.size := hgl
      have hbw' : Below w.heap.size w wr := by rw [HGG.out]; exact HBW.out
      have p0 := (hbw'.cell (p := ⟨g, _, none⟩) hgl).trans q0
      have p1 := (hbw'.cell (p := ⟨g, _, none⟩) hgl).trans q1
      have p2 := (hbw'.cell (p := ⟨g, _, none⟩) hgl).trans q2
      have j1 : (j : Int) < (n : Int) := by omega
      have j2 : (0 : Int) ≤ (j : Int) := by omega
      have HX := Lib.hid hx
      have hm1 := ((HM.out.alloc (.cells #[.string x.host, .int .u64 (x.port : Int), .int .u64 (x.wt : Int)] 44)).alloc (.cells #[.string x.host, .int .u64 (x.port : Int), .int .u64 (x.wt : Int)] 44)).alloc (.cells #[.string x.host, .int .u64 (x.port : Int)] 230)
      have HM1 := Lib.hid hm1
      have hw1 := HBW.out.size
      clear q0 q1 q2 hgG hbw' hgl
      rcases look_there hm1 HP.out x1 x2 with ⟨hno, hrun⟩ | ⟨j', hyes, hrun⟩
      · have HNO := Lib.hid hno
        clear hno hm1 hx
        have HM2 := Lib.hid ((HM1.out.alloc (.cells #[.string x.host, .int .u64 (x.port : Int), .int .u64 (x.wt : Int)] 44)).alloc (.cells #[.string x.host, .int .u64 (x.port : Int)] 230))
        have hwf : (Lit.int .i64 (j : Int)).wf = true := ck_wf (by omega)
        go_wp2_with (first | (go_at_call 136; refine (spotOf_exact _ _ _ _).mono ?_; rintro e w' ⟨rfl, rfl⟩) | (at_mapUpdate; refine wpList_mapUpdate_own _ rfl _ _ _ 184 rfl 230 3 Tryz.spKeyed Tryz.underlying184 _ (G + 1) j _ rfl HM2.out (by unfold maxLen; omega) _ _ _ rfl rfl (spKey x1 x2) _ [] (plainElem_int Tryz.underlying3 hwf) ?_))
        intro w1 hown1 hgrow1
        have HB5 := Lib.hid ((((((HBW.out.alloc (by omega) (.cells #[.string x.host, .int .u64 (x.port : Int), .int .u64 (x.wt : Int)] 44)).alloc (by simp; omega) (.cells #[.string x.host, .int .u64 (x.port : Int), .int .u64 (x.wt : Int)] 44)).alloc (by simp; omega) (.cells #[.string x.host, .int .u64 (x.port : Int)] 230)).alloc (by simp; omega) (.cells #[.string x.host, .int .u64 (x.port : Int), .int .u64 (x.wt : Int)] 44)).alloc (by simp; omega) (.cells #[.string x.host, .int .u64 (x.port : Int)] 230)).grown hgrow1 (by simp; omega) (fun k hk => by cases hk; omega))
        have HG5 := Lib.hid ((hgrow1.block G (by simp; omega) (by simp)).trans (show _ = some (.cells #[.slice none 0 0, .map none] 186 (0, 0)) by
          rw [heap_alloc_old _ _ (by simp; omega), heap_alloc_old _ _ (by simp; omega), heap_alloc_old _ _ (by simp; omega), heap_alloc_old _ _ (by simp; omega), heap_alloc_old _ _ (by omega)]; exact HGB.out))
        have HOWN := Lib.hid hown1
        clear hown1 hgrow1 hrun
        go_wp2_with fail
        go_roundw
        case rel => exact ⟨j + 1, _, by go_num, by omega, HOWN.out, placesIn_new HP.out HX.out HNO.out x1 x2, HG5.out, HB5.out⟩
        case measure => simp [intOf]; omega
      · have HYES := Lib.hid hyes
        clear hyes hm1 hx
        go_wp2_with (go_at_call 136; refine (spotOf_exact _ _ _ _).mono ?_; rintro e w' ⟨rfl, rfl⟩)
        go_roundw
        case rel => exact ⟨j + 1, D, by go_num, by omega, HM1.out.mono (by omega), placesIn_there HP.out HX.out HYES.out, by
          rw [heap_alloc_old _ _ (by simp; omega), heap_alloc_old _ _ (by simp; omega), heap_alloc_old _ _ (by omega)]; exact HGB.out, ((HBW.out.alloc (by omega) _).alloc (by simp; omega) _).alloc (by simp; omega) _⟩
        case measure => simp [intOf]; omega
    · obtain rfl : j = n := by omega
      have hg0 := (Lib.cell_of_heap HGB.out 0).trans rfl
      have hg1 := (Lib.cell_of_heap HGB.out 1).trans rfl
      have hf0 : wr.frozen? ⟨G, 0, none⟩ = false := by rw [frozen_at HGB.out]; rfl
      have hf1 : wr.frozen? ⟨G, 1, none⟩ = false := by rw [frozen_at HGB.out]; rfl
      go_wp2_with fail
      have hB2 := (HBW.out.setCell (p := ⟨G, 0, none⟩) (Nat.le_refl _) (.slice a j c)).setCell (p := ⟨G, 1, none⟩) (Nat.le_refl _) (.map (some (G + 1)))
      have c1 : ((wr.setCell ⟨G, 0, none⟩ (.slice a j c)).setCell ⟨G, 1, none⟩ (.map (some (G + 1)))).cell? ⟨G, 1, none⟩ = some (.map (some (G + 1))) := World.cell?_setCell_same _ _ _ ((World.cell?_setCell_other _ _ _ _ (by simp)).trans hg1)
      have c0 : ((wr.setCell ⟨G, 0, none⟩ (.slice a j c)).setCell ⟨G, 1, none⟩ (.map (some (G + 1)))).cell? ⟨G, 0, none⟩ = some (.slice a j c) := (World.cell?_setCell_other _ _ _ _ (by simp)).trans (World.cell?_setCell_same _ _ _ hg0)
      have hown : ((wr.setCell ⟨G, 0, none⟩ (.slice a j c)).setCell ⟨G, 1, none⟩ (.map (some (G + 1)))).ownsMap Tryz.prog 230 (plainElem Tryz.prog 3) (G + 1) j D := by
        obtain ⟨es, clock, hb, F, hs, hD⟩ := HM.out
        exact ⟨es, clock, (heap_setCell_other _ _ _ _ (by simp)).trans ((heap_setCell_other _ _ _ _ (by simp)).trans hb), F, hs, hD⟩
      refine bodyPost_ret (v := .agg #[.slice a j c, .map (some (G + 1))]) ?_ rfl ⟨⟨G + 1, D, rfl, hown, HP.out⟩, by rw [HGG.out]; exact hB2⟩
      simp [results, Tryz.results104, go_sem, c0, c1]
end Go.Proofs.YtngceccpebdgmaaGreatDoor
namespace Go.Proofs.YtngceccpebdgmaaGreatDoor
open Go.RowKit Go.Shelf Go.Maps Go.WideMaps

def adBad (ads : List Ad) (i : Nat) (x : Ad) : Bool := !(nmOk x.host) || (!(portB (x.port : Int)) || decide ((fIdx ads x.host x.port ads.length).getD i < i))
/-- What the test of an address reads. -/
def AdS (B b N j : Nat) (x : Ad) (D : DataW Unit) (w0 w' : World) : Prop :=
  w'.cell? ⟨B, 1, none⟩ = some (.map (some b)) ∧ w'.cell? ⟨B + 1, 0, none⟩ = some (.string x.host) ∧ w'.cell? ⟨B + 1, 1, none⟩ = some (.int .u64 (x.port : Int)) ∧ w'.cell? ⟨B + 1, 2, none⟩ = some (.int .u64 (x.wt : Int)) ∧ (Instr.lookup 184 (.map (some b)) (spV x.host (x.port : Int)) false).run Tryz.prog w' = .ok (.int .i64 (j : Int)) w' ∧ w'.ownsMap Tryz.prog 230 (plainElem (H := Unit) Tryz.prog 3) b N D ∧ B + 1 < w'.heap.size ∧ Below B w0 w'
theorem AdS.next {B b N j n : Nat} {x : Ad} {D : DataW Unit} {ads : List Ad} {w0 wc w' : World} (h : AdS B b N j x D w0 wc) (hb : Below wc.heap.size wc w') (hD : PlacesIn D ads n) (h1 : x.host.size ≤ maxLen) (h2 : x.port < 2 ^ 64) (hj : fIdx ads x.host x.port n = some j) : AdS B b N j x D w0 w' := by
  obtain ⟨a, c0, c1, c2, _, hm, l, hB⟩ := h
  have hm' : w'.ownsMap Tryz.prog 230 (plainElem (H := Unit) Tryz.prog 3) b N D := hm.kept (grown_of_below hb) (by simp)
  exact ⟨(hb.cell (p := ⟨B, 1, none⟩) (show B < _ by omega)).trans a, (hb.cell (p := ⟨B + 1, 0, none⟩) l).trans c0, (hb.cell (p := ⟨B + 1, 1, none⟩) l).trans c1, (hb.cell (p := ⟨B + 1, 2, none⟩) l).trans c2, look_at hm' hD h1 h2 hj, hm', Nat.lt_of_lt_of_le l hb.size, hB.trans (hb.mono (by omega))⟩
theorem spotOf_below (h : ByteArray) (p t : Int) (w : World) : Calls Tryz.prog 136 #[.agg #[.string h, .int .u64 p, .int .u64 t]] w fun e w' => e = .returned (spV h p) ∧ Below w.heap.size w w' :=
  (spotOf_exact h p t w).mono fun _ _ h => ⟨h.1, by rw [← h.2]; exact (below_alloc w _).alloc (by simp) _⟩
set_option maxRecDepth 100000 in
set_option maxHeartbeats 4000000 in
theorem addr_wrong (a : Option Addr) (c i b N : Nat) (D : DataW Unit) (ads : List Ad) (x : Ad) (w : World) (h : AddrsAt w a ads) (hx : ads[i]? = some x) (_hl : ads.length ≤ 64) (hs : ∀ x ∈ ads, x.host.size ≤ maxLen ∧ x.port < 2 ^ 64 ∧ x.wt < 2 ^ 64)
    (hm : w.ownsMap Tryz.prog 230 (plainElem Tryz.prog 3) b N D) (hD : PlacesIn D ads ads.length) :
    Calls Tryz.prog 215 #[.agg #[.slice a ads.length c, .map (some b)], .int .i64 (i : Int)] w fun e w' => e = .returned (.bool (adBad ads i x)) ∧ Below w.heap.size w w' := by
  have hi : i < ads.length := (List.getElem?_eq_some_iff.1 hx).1
  obtain ⟨x1, x2, x3⟩ := hs x (List.mem_of_getElem? hx)
  obtain ⟨g, off, ha, hgl, k0, k1, k2⟩ := h i x hx
  obtain ⟨j, hj⟩ : ∃ j, fIdx ads x.host x.port ads.length = some j := by
    cases hf : fIdx ads x.host x.port ads.length with
    | some j => exact ⟨j, rfl⟩
    | none =>
      have := firstI_none_iff hf i hi
      rw [show sameAtI ads x.host x.port i = sameSp x x.host x.port by unfold sameAtI; rw [hx]] at this
      rw [sameSp_iff.2 ⟨rfl, rfl⟩] at this
      cases this
  subst ha
  have HBAD := Lib.hid (show adBad ads i x = (!(nmOk x.host) || (!(portB (x.port : Int)) || decide (j < i))) by unfold adBad; rw [hj]; rfl)
  have hm1 := ((hm.alloc (.cells #[.slice (some ⟨g, off, none⟩) ads.length c, .map (some b)] 186)).alloc (.cells #[.string x.host, .int .u64 (x.port : Int), .int .u64 (x.wt : Int)] 44))
  have HM1 := Lib.hid hm1
  have HD := Lib.hid hD
  have HJ := Lib.hid hj
  obtain ⟨n, hn⟩ : ∃ n, ads.length = n := ⟨_, rfl⟩
  rw [hn] at hi HM1 hD HJ HD ⊢
  have HN := Lib.hid hn
  have i1 : (i : Int) < (n : Int) := by omega
  have i2 : (0 : Int) ≤ (i : Int) := by omega
  clear h hx hs hm hD hj hn hm1
  go_enter Tryz.func215, Tryz.ntmps215
  go_wp2_with fail
  have HB := Lib.hid ((below_alloc w (.cells #[.slice (some ⟨g, off, none⟩) n c, .map (some b)] 186)).alloc (by simp) (.cells #[.string x.host, .int .u64 (x.port : Int), .int .u64 (x.wt : Int)] 44))
  have hb2 := below_alloc (w.alloc (.cells #[.slice (some ⟨g, off, none⟩) n c, .map (some b)] 186)) (.cells #[.string x.host, .int .u64 (x.port : Int), .int .u64 (x.wt : Int)] 44)
  have a1 := (hb2.cell (p := ⟨w.heap.size, 1, none⟩) (by simp)).trans (new_cell w _ _ 1)
  have e0 := new_cell (w.alloc (.cells #[.slice (some ⟨g, off, none⟩) n c, .map (some b)] 186)) #[.string x.host, .int .u64 (x.port : Int), .int .u64 (x.wt : Int)] 44 0
  have e1 := new_cell (w.alloc (.cells #[.slice (some ⟨g, off, none⟩) n c, .map (some b)] 186)) #[.string x.host, .int .u64 (x.port : Int), .int .u64 (x.wt : Int)] 44 1
  have e2 := new_cell (w.alloc (.cells #[.slice (some ⟨g, off, none⟩) n c, .map (some b)] 186)) #[.string x.host, .int .u64 (x.port : Int), .int .u64 (x.wt : Int)] 44 2
  rw [World.size_alloc] at e0 e1 e2
  revert HB HM1 a1 e0 e1 e2
  generalize (w.alloc (.cells #[.slice (some ⟨g, off, none⟩) n c, .map (some b)] 186)).alloc (.cells #[.string x.host, .int .u64 (x.port : Int), .int .u64 (x.wt : Int)] 44) = W
  intro HM1 HB a1 e0 e1 e2
  have A1 : W.cell? ⟨w.heap.size, 1, none⟩ = some (.map (some b)) := a1
  have E0 : W.cell? ⟨w.heap.size + 1, 0, none⟩ = some (.string x.host) := e0
  have E1 : W.cell? ⟨w.heap.size + 1, 1, none⟩ = some (.int .u64 (x.port : Int)) := e1
  have E2 : W.cell? ⟨w.heap.size + 1, 2, none⟩ = some (.int .u64 (x.wt : Int)) := e2
  have hlt := World.block_lt_of_cell? W _ E0
  clear hb2 a1 e0 e1 e2 k0 k1 k2
  cases hA : nmOk x.host with
  | false =>
    have HA := Lib.hid hA
    have HW := Lib.hid (show adBad ads i x = true by rw [HBAD.out, hA]; rfl)
    clear hA
    have HNC := Lib.hid (fun W => (name_any x.host W).mono fun _ _ h => (⟨h.1.trans (by rw [HA.out]), h.2.symm⟩ : _ = Ending.returned (.bool false) ∧ _ = W))
    go_quiet (first | (go_at_call 11; exact Calls.quiet_of_same (HNC.out _)))
    go_wp2_with fail
    go_ret
    exact ⟨by rw [HW.out]; rfl, below_drewN HB.out _⟩
  | true =>
    have HA := Lib.hid hA
    clear hA
    cases hP : portB (x.port : Int) with
    | false =>
      have HP := Lib.hid hP
      have HW := Lib.hid (show adBad ads i x = true by rw [HBAD.out, HA.out, hP]; rfl)
      clear hP
      have HNC := Lib.hid (fun W => (name_any x.host W).mono fun _ _ h => (⟨h.1.trans (by rw [HA.out]), h.2.symm⟩ : _ = Ending.returned (.bool true) ∧ _ = W))
      have HPC := Lib.hid (fun W => (isPort_any (x.port : Int) W).mono fun _ _ h => (⟨h.1.trans (by rw [HP.out]), h.2.symm⟩ : _ = Ending.returned (.bool false) ∧ _ = W))
      go_quiet (first | (go_at_call 11; exact Calls.quiet_of_same (HNC.out _)) | (go_at_call 102; exact Calls.quiet_of_same (HPC.out _)))
      go_wp2_with fail
      go_ret
      exact ⟨by rw [HW.out]; rfl, below_drewN HB.out _⟩
    | true =>
      have HP := Lib.hid hP
      have HW := Lib.hid (show adBad ads i x = decide (j < i) by rw [HBAD.out, HA.out, hP]; rfl)
      clear hP
      obtain ⟨B, hBw⟩ : ∃ B, w.heap.size = B := ⟨_, rfl⟩
      have HBW := Lib.hid hBw
      rw [hBw] at A1 E0 E1 E2 HB hlt ⊢
      clear hBw
      have START : AdS B b N j x D w W.drew := ⟨A1, E0, E1, E2, look_at HM1.out.drew HD.out x1 x2 HJ.out, HM1.out.drew, hlt, HB.out.drew⟩
      have HST := Lib.hid START
      clear START
      go_region_held3 (fun w' => w'.cell? ⟨B, 1, none⟩ = some (.map (some b)) ∧ w'.cell? ⟨B + 1, 0, none⟩ = some (.string x.host) ∧ w'.cell? ⟨B + 1, 1, none⟩ = some (.int .u64 (x.port : Int)) ∧ w'.cell? ⟨B + 1, 2, none⟩ = some (.int .u64 (x.wt : Int)) ∧ (Instr.lookup 184 (.map (some b)) (spV x.host (x.port : Int)) false).run Tryz.prog w' = .ok (.int .i64 (j : Int)) w' ∧ w'.ownsMap Tryz.prog 230 (plainElem (H := Unit) Tryz.prog 3) b N D ∧ B + 1 < w'.heap.size ∧ Below B w w')
        (first | exact HST.out | (refine AdS.next (B := B) (b := b) (N := N) (j := j) (x := x) (D := D) (w0 := w) ?_ hb HD.out x1 x2 HJ.out; first | exact HST.out | assumption) | go_keep)
        (first | (go_at_call 11; refine (name_any _ _).mono ?_; rintro e w' ⟨rfl, rfl⟩; rw [HA.out]) | (go_at_call 102; refine (isPort_any _ _).mono ?_; rintro e w' ⟨rfl, rfl⟩; rw [HP.out]) | (go_at_call 136; refine (spotOf_below _ _ _ _).mono ?_; rintro e w' ⟨rfl, hb⟩))
      rename_i hH
      have HF := Lib.hid hH.2.2.2.2.2.2.2
      go_wp2_with fail
      go_ret
      exact ⟨by rw [HW.out]; rfl, by rw [HBW.out]; exact HF.out⟩

def adBadAt (ads : List Ad) (i : Nat) : Bool := match ads[i]? with
  | some x => adBad ads i x
  | none => false
def wEachAddr (p : Pl) : Wr := wrAt (firstI (adBadAt p.addrs) p.addrs.length) ⟨#[97, 100, 100, 114]⟩
theorem Tryz.mSizeA (n : Nat) (v : Value) (w : World) : (Go.method (n + 1) 186 v "noria/check.size").run Tryz.prog w = .ok (214, v) w := by kernel_rfl
theorem Tryz.mWrongA (n : Nat) (v : Value) (w : World) : (Go.method (n + 1) 186 v "noria/check.wrongAt").run Tryz.prog w = .ok (215, v) w := by kernel_rfl
set_option maxRecDepth 100000 in
theorem size_addrs (a : Option Addr) (n c : Nat) (v : Value) (w : World) : Calls Tryz.prog 214 #[.agg #[.slice a n c, v]] w fun e w' => e = .returned (.int .i64 (n : Int)) ∧ Below w.heap.size w w' := by
  go_enter Tryz.func214, Tryz.ntmps214
  go_wp2_with fail
  go_ret
  exact ⟨rfl, below_alloc _ _⟩
set_option maxRecDepth 100000 in
set_option maxHeartbeats 2000000 in
theorem faultIn_addrs (a : Option Addr) (c b N : Nat) (D : DataW Unit) (ads : List Ad) (s : ByteArray) (w : World) (h : AddrsAt w a ads) (hl : ads.length ≤ 64) (hs : ∀ x ∈ ads, x.host.size ≤ maxLen ∧ x.port < 2 ^ 64 ∧ x.wt < 2 ^ 64)
    (hm : w.ownsMap Tryz.prog 230 (plainElem Tryz.prog 3) b N D) (hD : PlacesIn D ads ads.length) :
    Calls Tryz.prog 103 #[.iface 186 (.agg #[.slice a ads.length c, .map (some b)]), .string s] w fun e w' => e = .returned (wrAt (firstI (adBadAt ads) ads.length) s).v ∧ Below w.heap.size w w' := by
  have HR := Lib.hid h
  have HL := Lib.hid hl
  have HS := Lib.hid hs
  have HM := Lib.hid hm
  have HD := Lib.hid hD
  obtain ⟨n, hn⟩ : ∃ n, ads.length = n := ⟨_, rfl⟩
  have HN := Lib.hid hn
  have m1 := Tryz.mSizeA
  have m2 := Tryz.mWrongA
  rw [hn] at hl ⊢
  clear h hn hs hm hD
  go_enter Tryz.func103, Tryz.ntmps103
  go_wp2_with fail
  refine (size_addrs _ _ _ _ _).mono ?_
  rintro e w1 ⟨rfl, hb1⟩
  have HB1 := Lib.hid hb1
  clear hb1
  go_wp2_with fail
  go_loopw [8] (fun v wr => ∃ j : Nat, v = .int .i64 j ∧ j ≤ n ∧ (∀ k, k < j → adBadAt ads k = false) ∧ Below w.heap.size w wr) (fun v _ => n - (intOf v).toNat)
  case atStart => exact ⟨0, rfl, Nat.zero_le _, fun _ h => absurd h (Nat.not_lt_zero _), HB1.out⟩
  case round =>
    obtain ⟨j, rfl, hjn, hno, hbw⟩ := hrel
    have HNO := Lib.hid hno
    have HBW := Lib.hid hbw
    clear hno hbw
    by_cases hj : j < n
    · obtain ⟨r, hr⟩ : ∃ r, ads[j]? = some r := ⟨_, List.getElem?_eq_getElem (by have := HN.out; omega)⟩
      have HRR := Lib.hid hr
      have HBA := Lib.hid (show adBadAt ads j = adBad ads j r by unfold adBadAt; rw [hr])
      have j1 : (j : Int) < (n : Int) := by omega
      clear hr
      go_wp2_with fail
      have hcall := addr_wrong a c j b N D ads r wr (HR.out.below HBW.out) HRR.out HL.out HS.out (HM.out.kept (grown_of_below HBW.out) (by simp)) HD.out
      rw [HN.out] at hcall
      refine hcall.mono ?_
      clear hcall
      rintro e w2 ⟨rfl, hb2⟩
      have HB2 := Lib.hid (HBW.out.trans (hb2.mono HBW.out.size))
      clear hb2
      cases hP : adBad ads j r with
      | true =>
        have HW := Lib.hid (show firstI (adBadAt ads) ads.length = some j from firstI_some (by rw [HBA.out]; exact hP) HNO.out (by have := HN.out; omega))
        clear hP
        go_wp2_with fail
        go_ret
        exact ⟨by rw [show firstI (adBadAt ads) n = some j from (congrArg _ HN.out.symm).trans HW.out]; rfl, HB2.out⟩
      | false =>
        have HP := Lib.hid hP
        clear hP
        go_wp2_with fail
        go_roundw
        case rel => exact ⟨j + 1, by go_num, by omega, fun k hk => by
          by_cases hkj : k = j
          · subst hkj; rw [HBA.out]; exact HP.out
          · exact HNO.out k (by omega), HB2.out⟩
        case measure => simp [intOf]; omega
    · have HW := Lib.hid (show firstI (adBadAt ads) n = none from firstI_none fun k hk => HNO.out k (by omega))
      go_wp2_with fail
      go_ret
      exact ⟨by rw [HW.out]; rfl, HBW.out⟩
def AdsOk (p : Pl) : Prop := ∀ x ∈ p.addrs, x.host.size ≤ maxLen ∧ x.port < 2 ^ 64 ∧ x.wt < 2 ^ 64
set_option maxRecDepth 100000 in
theorem eachAddr_any (p : Pl) (a3 a6 : Option Addr) (c3 c6 : Nat) (w : World) (h : AddrsAt w a6 p.addrs) (hl : p.addrs.length ≤ 64) (hs : AdsOk p) : Calls Tryz.prog 74 #[plV p a3 c3 a6 c6] w fun e w' => e = .returned (wEachAddr p).v ∧ Below w.heap.size w w' := by
  have HR := Lib.hid h
  have HL := Lib.hid hl
  have HS := Lib.hid hs
  clear h hl hs
  go_enter Tryz.func74, Tryz.ntmps74
  go_wp2_with fail
  refine (addrsOf_any a6 c6 p.addrs _ (HR.out.below (below_alloc _ _)) HL.out HS.out).mono ?_
  rintro e w1 ⟨⟨b, D, rfl, hm, hD⟩, hb⟩
  have HM := Lib.hid hm
  have HD := Lib.hid hD
  have HB := Lib.hid ((below_alloc w _).trans (hb.mono (by simp)))
  clear hb hm hD
  go_wp2_with fail
  refine (faultIn_addrs a6 c6 b _ D p.addrs _ _ (HR.out.below HB.out) HL.out HS.out HM.out HD.out).mono ?_
  rintro e w2 ⟨rfl, hb⟩
  have HB2 := Lib.hid (HB.out.trans (hb.mono HB.out.size))
  clear hb
  go_wp2_with fail
  go_ret
  exact ⟨rfl, HB2.out⟩

theorem sum_cast (m a c : Nat) : (m : Int) + min (a : Int) (c : Int) = ((m + min a c : Nat) : Int) := by omega
/-- The weights together, each counting at most 2^32. -/
def wsum : List Ad → Nat
  | [] => 0
  | x :: xs => min x.wt 4294967296 + wsum xs
theorem wsum_le : ∀ l : List Ad, wsum l ≤ l.length * 4294967296
  | [] => Nat.zero_le _
  | x :: xs => by have := wsum_le xs; simp only [wsum, List.length_cons]; omega
theorem wsum_append : ∀ (l : List Ad) (x : Ad), wsum (l ++ [x]) = wsum l + min x.wt 4294967296
  | [], x => by simp [wsum]
  | y :: ys, x => by simp only [List.cons_append, wsum, wsum_append ys x]; omega
def wWeight (p : Pl) : Wr := wrIf (decide (4294967295 < wsum p.addrs)) ⟨#[119, 101, 105, 103, 104, 116]⟩
set_option maxRecDepth 100000 in
set_option maxHeartbeats 2000000 in
theorem weightOf_any (a : Option Addr) (c : Nat) (ads : List Ad) (w : World) (h : AddrsAt w a ads) (hl : ads.length ≤ 64) (hs : ∀ x ∈ ads, x.host.size ≤ maxLen ∧ x.port < 2 ^ 64 ∧ x.wt < 2 ^ 64) :
    Calls Tryz.prog 105 #[.slice a ads.length c] w fun e w' => e = .returned (.int .u64 (wsum ads : Int)) ∧ Below w.heap.size w w' := by
  have HR := Lib.hid h
  have HS := Lib.hid hs
  obtain ⟨n, hn⟩ : ∃ n, ads.length = n := ⟨_, rfl⟩
  have HN := Lib.hid hn
  rw [hn] at hl ⊢
  clear h hn hs
  go_enter Tryz.func105, Tryz.ntmps105
  go_wp2_with fail
  go_loopw [3, 8] (fun u v wr => ∃ j : Nat, u = .int .u64 (wsum (ads.take j) : Int) ∧ v = .int .i64 j ∧ j ≤ n ∧ Below w.heap.size w wr) (fun _ v _ => n - (intOf v).toNat)
  case atStart => exact ⟨0, rfl, rfl, Nat.zero_le _, Below.refl _ _⟩
  case round =>
    obtain ⟨j, rfl, rfl, hjn, hbw⟩ := hrel
    have HBW := Lib.hid hbw
    clear hbw
    by_cases hj : j < n
    · obtain ⟨x, hx⟩ : ∃ x, ads[j]? = some x := ⟨_, List.getElem?_eq_getElem (by have := HN.out; omega)⟩
      obtain ⟨x1, x2, x3⟩ := HS.out x (List.mem_of_getElem? hx)
      obtain ⟨g, off, rfl, hgl, q0, q1, q2⟩ := (HR.out.below HBW.out) j x hx
      have j1 : (j : Int) < (n : Int) := by omega
      have j2 : (0 : Int) ≤ (j : Int) := by omega
      have HNX := Lib.hid (show wsum (ads.take (j + 1)) = wsum (ads.take j) + min x.wt 4294967296 by
        rw [List.take_add_one, hx]; exact wsum_append _ _)
      obtain ⟨M, hM⟩ : ∃ M, wsum (ads.take j) = M := ⟨_, rfl⟩
      have hMl : M ≤ 64 * 4294967296 := by
        have := wsum_le (ads.take j)
        rw [hM, List.length_take] at this
        have h2 : min j ads.length ≤ 64 := by omega
        exact Nat.le_trans this (Nat.mul_le_mul_right _ h2)
      rw [hM] at HNX ⊢
      have HMM := Lib.hid hM
      clear hx hM
      have w0 : (x.wt : Int) < 18446744073709551616 := by omega
      go_wp2_with fail
      refine ⟨⟨j + 1, congrArg (Value.int .u64) ?_, by go_num, by omega, HBW.out.alloc HBW.out.size _⟩, by simp [intOf]; omega⟩
      rw [HNX.out]
      exact sum_cast M x.wt 4294967296
    · obtain rfl : j = n := by omega
      have HW := Lib.hid (show ads.take j = ads from List.take_of_length_le (by have := HN.out; omega))
      rw [HW.out]
      go_wp2_with fail
      go_ret
      exact ⟨rfl, HBW.out⟩
set_option maxRecDepth 100000 in
theorem weight_any (p : Pl) (a3 a6 : Option Addr) (c3 c6 : Nat) (w : World) (h : AddrsAt w a6 p.addrs) (hl : p.addrs.length ≤ 64) (hs : AdsOk p) : Calls Tryz.prog 75 #[plV p a3 c3 a6 c6] w fun e w' => e = .returned (wWeight p).v ∧ Below w.heap.size w w' := by
  have HR := Lib.hid h
  have HL := Lib.hid hl
  have HS := Lib.hid hs
  clear h hl hs
  obtain ⟨A, qa⟩ : ∃ A, decide (4294967295 < wsum p.addrs) = A := ⟨_, rfl⟩
  have HW := Lib.hid (show wWeight p = wrIf A ⟨#[119, 101, 105, 103, 104, 116]⟩ by unfold wWeight; rw [qa])
  have q2 : decide ((4294967295 : Int) < (wsum p.addrs : Int)) = A := by rw [← qa]; by_cases h : 4294967295 < wsum p.addrs <;> simp [h] <;> omega
  go_enter Tryz.func75, Tryz.ntmps75
  go_wp2_with fail
  refine (weightOf_any a6 c6 p.addrs _ (HR.out.below (below_alloc _ _)) HL.out HS.out).mono ?_
  rintro e w1 ⟨rfl, hb⟩
  have HB := Lib.hid ((below_alloc w _).trans (hb.mono (by simp)))
  clear hb
  go_wp2_with fail
  refine (faultIf_any _ _ _).mono ?_
  rintro e w' ⟨rfl, rfl⟩
  go_wp2_with fail
  go_ret
  exact ⟨by rw [HW.out]; rfl, HB.out⟩
end Go.Proofs.YtngceccpebdgmaaGreatDoor
