/- LinkOrders: the walk. -/
import Derived.Test.YtkfbhiggnnjoiaaDoorLkOrdP
import Derived.Test.YtkfbhiggnnjoiaaDoorFrOpen
namespace Go.Proofs.YtkfbhiggnnjoiaaDoor
open Go.RowKit Go.Lib

/-- Where the sending has come. -/
def Or1 (b : Addr) (B l : Nat) (ms0 ms1 : List ByteArray) (i0 i1 gS : Nat) (w0 wr : World) : Prop :=
  ∃ V, TwoAt gS B V (fun k => if k = 0 then cutL 117 ms0 i0 else cutL 100 ms1 i1) wr ∧ LkIs b B l (lkW (cutL 117 ms0 i0) (cutL 100 ms1 i1)) wr ∧ Below B w0 wr

theorem ord_f0 (U D X : List (List UInt8)) : updF (fun i => if i = 0 then U else D) 0 X = fun i => if i = 0 then X else D := by
  funext i; unfold updF; by_cases h : i = 0 <;> simp [h]
theorem ord_f1 (U D X : List (List UInt8)) : (∀ V B base w, TwoAt B base V (updF (fun i => if i = 0 then U else D) 1 X) w → TwoAt B base V (fun i => if i = 0 then U else X) w) := by
  intro V B base w h
  refine ⟨h.blk, fun k hk => ?_, h.ap, h.hB⟩
  match k, hk with
  | 0, _ => exact h.row 0 (by omega)
  | 1, _ => exact h.row 1 (by omega)
theorem got_add {b : Addr} {B l gS gG gB k N M : Nat} {V VS : Nat → Value} {F WL : Nat → List (List UInt8)} {x : Lk} {w0 w we : World} {va v' : Value} {m1 : List (List UInt8)} (hV : TwoAt gG gB V F w) (hk : k < 2) (hv : V k = va) (hN : (F k).length = N) (hM : m1.length = M)
    (hown : we.ownsRow gB 9 1 v' (N + M) (strV (F k) ++ strV m1)) (hg : w.grownBy we va.ownBlock) (hfrom : ∀ g, v'.ownBlock = some g → va.ownBlock = some g ∨ w.heap.size ≤ g)
    (hl : LkIs b B l x w) (hb : Below B w0 w) (hS : TwoAt gS B VS WL w) (hlow : TwoAt.Low gB gS VS) (hBB : B ≤ gB) (hB0 : B ≤ w0.heap.size) :
    we.cell? ⟨gG, k, none⟩ = some va ∧ we.frozen? ⟨gG, k, none⟩ = false ∧ (∃ V', TwoAt gG gB V' (updF F k (F k ++ m1)) (we.setCell ⟨gG, k, none⟩ v')) ∧ TwoAt gS B VS WL (we.setCell ⟨gG, k, none⟩ v') ∧ LkIs b B l x (we.setCell ⟨gG, k, none⟩ v') ∧ Below B w0 (we.setCell ⟨gG, k, none⟩ v') := by
  subst hv; subst hN; subst hM
  obtain ⟨r1, r2⟩ := hV.add hk hown hg hfrom
  have hsz : gB ≤ w.heap.size := Nat.le_trans hV.hB (Nat.le_of_lt hV.blk.lt)
  refine ⟨?_, r2.frozen k, ⟨_, r1⟩, hS.low hlow (hV.below hk hg (Nat.le_refl _) hsz), hl.away (hV.away hk hg r2 hBB), hb.trans (hV.below hk hg hBB (Nat.le_trans hB0 hb.size))⟩
  rw [r2.cell]
  match k, hk with
  | 0, _ => rfl
  | 1, _ => rfl
theorem ord_pair {B gS gB : Nat} {VS VG : Nat → Value} {WL G : Nat → List (List UInt8)} {w : World} (hS : TwoAt gS B VS WL w) (hG : TwoAt gB gB VG G w) (h0 : G 0 = WL 0) (h1 : G 1 = WL 1) (hn : ∀ i, i < 2 → (WL i).length ≤ 10) :
    ∀ k, k < 2 → ∃ sa sc ga gc N, N ≤ 10 ∧ ∀ w', Below w.heap.size w w' → w'.cell? ⟨gS, k, none⟩ = some (.slice sa N sc) ∧ w'.cell? ⟨gB, k, none⟩ = some (.slice ga N gc) ∧
      ∀ m, m < N → ∃ (g1 g2 : Nat) (T : ByteArray), sa = some ⟨g1, 0, none⟩ ∧ ga = some ⟨g2, 0, none⟩ ∧ w'.cell? ⟨g1, m, none⟩ = some (.string T) ∧ w'.cell? ⟨g2, m, none⟩ = some (.string T) := by
  intro k hk
  have hGk : G k = WL k := by
    match k, hk with
    | 0, _ => exact h0
    | 1, _ => exact h1
  obtain ⟨sa, sc, hs⟩ := owns_slice (hS.row k hk)
  obtain ⟨ga, gc, hg⟩ := owns_slice (hG.row k hk)
  rw [hGk] at hg
  refine ⟨sa, sc, ga, gc, (WL k).length, hn k hk, fun w' hb => ?_⟩
  have hS' := hS.low hS.isLow hb
  have hG' := hG.low hG.isLow hb
  refine ⟨by rw [hS'.cell hk, hs], by rw [hG'.cell hk, hg], fun m hm => ?_⟩
  have r1 := hS'.row k hk
  have r2 := hG'.row k hk
  rw [hGk] at r2
  rw [hs] at r1
  rw [hg] at r2
  obtain ⟨g1, e1, p1⟩ := strAt_own r1 m (WL k)[m] (List.getElem?_eq_getElem hm)
  obtain ⟨g2, e2, p2⟩ := strAt_own r2 m (WL k)[m] (List.getElem?_eq_getElem hm)
  exact ⟨g1, g2, _, e1, e2, p1, p2⟩
theorem one_str (w : World) (T : ByteArray) (t : TypeId) : ∀ j u, ([.string T] : List Value)[j]? = some u → ∃ b, some (⟨w.heap.size, 0, none⟩ : Addr) = some b ∧ (w.alloc (.cells #[.string T] t)).cell? (b.add j) = some u := by
  intro j u hu
  match j, hu with
  | 0, hu => exact ⟨_, rfl, by rw [addr_plus, Nat.zero_add, (Blk.new w _ t).cell 0]; exact hu⟩
theorem one_cell (T : ByteArray) : ∀ u ∈ ([.string T] : List Value), u.oneCell' = true := by intro u hu; obtain rfl := List.mem_singleton.1 hu; rfl
theorem ord_add {b : Addr} {B l gS k N : Nat} {V : Nat → Value} {F : Nat → List (List UInt8)} {x : Lk} {w0 w we : World} {va v' : Value} {T : ByteArray} {X : List (List UInt8)} {t : TypeId} (hV : TwoAt gS B V F w) (hk : k < 2) (hv : V k = va) (hN : (F k).length = N)
    (hown : we.ownsRow B 9 1 v' (N + 1) (strV (F k) ++ [.string T])) (hg : (w.alloc (.cells #[.string T] t)).grownBy we va.ownBlock) (hfrom : ∀ g, v'.ownBlock = some g → va.ownBlock = some g ∨ (w.alloc (.cells #[.string T] t)).heap.size ≤ g)
    (hl : LkIs b B l x w) (hb : Below B w0 w) (hX : X = F k ++ [T.data.toList]) (hB0 : B ≤ w0.heap.size) :
    we.cell? ⟨gS, k, none⟩ = some va ∧ we.frozen? ⟨gS, k, none⟩ = false ∧ (∃ V', TwoAt gS B V' (updF F k X) (we.setCell ⟨gS, k, none⟩ v')) ∧ LkIs b B l x (we.setCell ⟨gS, k, none⟩ v') ∧ Below B w0 (we.setCell ⟨gS, k, none⟩ v') := by
  subst hv; subst hN; subst hX
  have hba : Below w.heap.size w (w.alloc (.cells #[.string T] t)) := (Below.refl _ _).alloc (Nat.le_refl _) _
  have hV1 := hV.low hV.isLow hba
  have hT : (Value.string T : Value) = .string ⟨T.data.toList.toArray⟩ := by rw [bytes_eta]
  obtain ⟨r1, r2⟩ := hV1.add (ms := [T.data.toList]) hk (by rw [hT] at hown; exact hown) hg hfrom
  refine ⟨?_, r2.frozen k, ⟨_, r1⟩, (hl.below hba).away (hV1.away hk hg r2 (Nat.le_refl _)), (hb.trans (hba.mono (Nat.le_trans hB0 hb.size))).trans (hV1.below hk hg (Nat.le_refl _) (Nat.le_trans hB0 (Nat.le_trans hb.size hba.size)))⟩
  rw [r2.cell]
  match k, hk with
  | 0, _ => rfl
  | 1, _ => rfl

set_option maxRecDepth 100000 in
set_option maxHeartbeats 4000000 in
theorem orders_walk (a0 : Option Addr) (l0 c0 : Nat) (ms0 : List ByteArray) (a1 : Option Addr) (l1 c1 : Nat) (ms1 : List ByteArray) (a2 : Option Addr) (l2 c2 : Nat) (bs : List Nat) (b : Addr) (w : World) (hg : Gs b w) (hge : Ge w)
    (hl0 : ms0.length = l0) (_hc0 : l0 ≤ maxLen) (hst0 : StrsIn w a0 ms0) (hl1 : ms1.length = l1) (_hc1 : l1 ≤ maxLen) (hst1 : StrsIn w a1 ms1) (hl2 : bs.length = l2) (_hc2 : l2 ≤ maxLen) (hst2 : NatsIn w a2 bs) (hb256 : ∀ n ∈ bs, n < 256) :
    Calls Tryd.prog 4 #[.slice a0 l0 c0, .slice a1 l1 c1, .slice a2 l2 c2] w fun e w' => e = .returned (.bool true) ∧ Below w.heap.size w w' := by
  have HL := Lib.hid (And.intro hl0 (And.intro hl1 (And.intro hl2 hb256))); clear hl0 hl1 hl2 hb256
  have HG := Lib.hid (And.intro hg hge); clear hg hge
  obtain ⟨i0, hi, hz0, hz1, hz2⟩ := info_parts Tryd.infoStr
  go_enter Tryd.func4, Tryd.ntmps4
  go_wp2_with fail
  refine (examples_any b w HG.out.1 HG.out.2).mono ?_
  rintro e w1 ⟨rfl, hb1⟩
  have HB1 := Lib.hid hb1; clear hb1
  go_wp2_with fail
  refine (newLink_any b w.heap.size w1 HB1.out.size (HG.out.1.below HB1.out) (HG.out.2.below HB1.out) HG.out.2.2 HG.out.1.2).mono ?_
  rintro e w2 ⟨rfl, hl2, hk2⟩
  have hb2 : Below w.heap.size w w2 := HB1.out.trans (hk2.below HB1.out.size)
  obtain ⟨gS, hgS⟩ : ∃ g, w2.heap.size = g := ⟨_, rfl⟩
  have hsz2 := hb2.size
  have HQ := Lib.hid (show Or1 b w.heap.size w1.heap.size ms0 ms1 0 0 gS w (w2.alloc (.cells #[.slice none 0 0, .slice none 0 0] 40)) from by
    have hbn : Below w2.heap.size w2 (w2.alloc (.cells #[.slice none 0 0, .slice none 0 0] 40)) := (Below.refl _ _).alloc (Nat.le_refl _) _
    refine ⟨fun _ => .slice none 0 0, ?_, hl2.below hbn, hb2.trans (hbn.mono hsz2)⟩
    rw [← hgS]
    have := TwoAt.new w2 w.heap.size hsz2
    have e : (fun k => if k = 0 then cutL 117 ms0 0 else cutL 100 ms1 0) = (fun _ : Nat => ([] : List (List UInt8))) := by funext k; split <;> rfl
    rw [e]; exact this)
  clear hl2 hk2 hb2 hsz2
  go_wp2_with fail
  clear hgS
  go_loopw [10] (fun i wr => ∃ k : Nat, k ≤ 10 ∧ i = .int .i64 (k : Int) ∧ Or1 b w.heap.size w1.heap.size ms0 ms1 k k gS w wr) (fun i _ => 20 - (intOf i).toNat)
  case atStart => exact ⟨0, by omega, rfl, HQ.out⟩
  case round =>
  obtain ⟨k, hk10, rfl, V0, hV, hlk, hb⟩ := hrel
  have HR0 := Lib.hid (And.intro hV (And.intro hlk hb)); clear hV hlk hb
  by_cases hlt : k < 10
  · have hlt' : (k : Int) < 10 := by omega
    by_cases h0 : k < l0
    · have h0i : (k : Int) < (l0 : Int) := by omega
      have hkm0 : k < ms0.length := by have := HL.out.1; omega
      obtain ⟨g0, o0, e0, hgl0, hc0⟩ := (hst0.below HR0.out.2.2) k ms0[k] (List.getElem?_eq_getElem hkm0)
      have HS0 := Lib.hid (cutL_more 117 ms0 hkm0)
      have HA0 := Lib.hid e0; clear e0
      generalize ms0[k] = s0 at hc0 HS0
      obtain ⟨K0, hK0⟩ : ∃ K, min s0.size 60 = K := ⟨_, rfl⟩
      have hKs0 : K0 ≤ s0.size := by omega
      have hk600 : K0 ≤ 60 := by omega
      have hmk0 : (if (60 : Int) < (s0.size : Int) then (60 : Int) else (s0.size : Int)) = (K0 : Int) := by split <;> omega
      have hmin0 : min (s0.size : Int) 60 = (K0 : Int) := by omega
      obtain ⟨T0, hT0⟩ : ∃ T : ByteArray, (⟨#[117]⟩ : ByteArray) ++ s0.extract 0 K0 = T := ⟨_, rfl⟩
      have hTc0 : cutT 117 s0 = T0 := by rw [← hT0, ← hK0]; rfl
      have hTs0 := cutT_size 117 s0
      rw [hTc0] at hTs0 HS0
      have HT0 := Lib.hid (And.intro hTs0 hK0); clear hTs0 hTc0 hK0
      have eA0 := HA0.out
      subst eA0
      go_wp2_with fail
      go_quiet (fail)
      clear hmk0 hmin0 hT0 hc0 hk600 hKs0
      obtain ⟨wd0, hwd0⟩ : ∃ Wx : World, wr.drewN nq = Wx := ⟨_, rfl⟩
      have hbd0 : Below wr.heap.size wr wd0 := by rw [← hwd0]; exact below_drewN' _
      rw [hwd0]
      clear hwd0
      have hV0 := HR0.out.1.low HR0.out.1.isLow hbd0
      have HW0 := Lib.hid (And.intro hV0 (And.intro (HR0.out.2.1.below hbd0) (HR0.out.2.2.trans (hbd0.mono HR0.out.2.2.size)))); clear hV0 hbd0
      obtain ⟨va0, vc0, hv0⟩ := owns_slice (HW0.out.1.row 0 (by omega))
      have HVe0 := Lib.hid hv0
      have hcS0 : wd0.cell? ⟨gS, 0, none⟩ = some (V0 0) := HW0.out.1.cell (by omega)
      obtain ⟨N0, hN0⟩ : ∃ N, (cutL 117 ms0 k).length = N := ⟨_, rfl⟩
      have hown0 : wd0.ownsRow w.heap.size 9 1 (V0 0) (cutL 117 ms0 k).length (strV (cutL 117 ms0 k)) := HW0.out.1.row 0 (by omega)
      have hNk0 : N0 ≤ 10 := by have := cutL_len 117 ms0 k; omega
      rw [hv0] at hcS0 hown0
      have hln0 : ((fun i => if i = 0 then cutL 117 ms0 k else cutL 100 ms1 k) 0 : List (List UInt8)).length = N0 := hN0
      rw [hln0] at hcS0 hown0 HVe0
      rw [hN0] at hown0
      have HN0 := Lib.hid hN0; clear hN0 hv0 hln0
      have hbz0 := HW0.out.2.2.size
      go_wp2_with (at_builtin; go_must (refine wpList_append_rowb _ rfl _ _ 33 rfl w.heap.size 9 i0 (.string ⟨#[]⟩) 1 16 Tryd.underlying33 hi hz0 hz1 hz2 rfl (by decide) _ N0 _ rfl (hown0.alloc _) (some ⟨wd0.heap.size, 0, none⟩) 1 1 [.string T0] rfl rfl (fun e => by cases e) (one_str _ _ _) (one_cell _) (by unfold maxLen; omega) (by omega) (by simp; omega) ?_; intro v0 we0 hown10 hgrow0 hfrom0; have hq0 := ord_add (k := 0) HW0.out.1 (by omega) HVe0.out HN0.out hown10 hgrow0 hfrom0 HW0.out.2.1 HW0.out.2.2 HS0.out (Nat.le_refl _); obtain ⟨aa0, cc0, rfl⟩ := owns_slice hown10; have x10 := hq0.1; have x20 := hq0.2.1; have HQ0 := Lib.hid hq0.2.2; clear hq0 hown10 hgrow0 hfrom0))
      refine (send_to HQ0.out.2.1 0 (by omega) T0 (by have := HT0.out.1; unfold maxLen; omega) (send_w0 (cutL_ok 117 ms0 k) (by rw [HN0.out]; omega) HT0.out.1.1 HT0.out.1.2)).mono ?_
      rintro e wf0 ⟨rfl, hl0, hk0⟩
      have HR1 : Hid (∃ V, TwoAt gS w.heap.size V (fun i => if i = 0 then cutL 117 ms0 (k + 1) else cutL 100 ms1 k) wf0 ∧ LkIs b w.heap.size w1.heap.size (lkW (cutL 117 ms0 (k + 1)) (cutL 100 ms1 k)) wf0 ∧ Below w.heap.size w wf0) := Lib.hid (by
        obtain ⟨⟨V', hV'⟩, _, hb'⟩ := HQ0.out
        rw [ord_f0] at hV'
        rw [HS0.out]
        rw [HS0.out] at hV'
        exact ⟨V', hV'.kept hk0, hl0, hb'.trans (hk0.below hb'.size)⟩)
      clear hl0 hk0 HQ0 HW0 HVe0 HN0 hcS0 hown0 hNk0 hbz0 x10 x20
      obtain ⟨V1, hV1⟩ := HR1.out
      have HR1 := Lib.hid hV1; clear hV1
      by_cases h1 : k < l1
      · have h1i : (k : Int) < (l1 : Int) := by omega
        have hkm1 : k < ms1.length := by have := HL.out.2.1; omega
        obtain ⟨g1, o1, e1, hgl1, hc1⟩ := (hst1.below HR1.out.2.2) k ms1[k] (List.getElem?_eq_getElem hkm1)
        have HS1 := Lib.hid (cutL_more 100 ms1 hkm1)
        have HA1 := Lib.hid e1; clear e1
        generalize ms1[k] = s1 at hc1 HS1
        obtain ⟨K1, hK1⟩ : ∃ K, min s1.size 60 = K := ⟨_, rfl⟩
        have hKs1 : K1 ≤ s1.size := by omega
        have hk601 : K1 ≤ 60 := by omega
        have hmk1 : (if (60 : Int) < (s1.size : Int) then (60 : Int) else (s1.size : Int)) = (K1 : Int) := by split <;> omega
        have hmin1 : min (s1.size : Int) 60 = (K1 : Int) := by omega
        obtain ⟨T1, hT1⟩ : ∃ T : ByteArray, (⟨#[100]⟩ : ByteArray) ++ s1.extract 0 K1 = T := ⟨_, rfl⟩
        have hTc1 : cutT 100 s1 = T1 := by rw [← hT1, ← hK1]; rfl
        have hTs1 := cutT_size 100 s1
        rw [hTc1] at hTs1 HS1
        have HT1 := Lib.hid (And.intro hTs1 hK1); clear hTs1 hTc1 hK1
        have eA1 := HA1.out
        subst eA1
        go_wp2_with fail
        go_quiet (fail)
        clear hmk1 hmin1 hT1 hc1 hk601 hKs1
        obtain ⟨wd1, hwd1⟩ : ∃ Wx : World, wf0.drewN nq = Wx := ⟨_, rfl⟩
        have hbd1 : Below wf0.heap.size wf0 wd1 := by rw [← hwd1]; exact below_drewN' _
        rw [hwd1]
        clear hwd1
        have hV1 := HR1.out.1.low HR1.out.1.isLow hbd1
        have HW1 := Lib.hid (And.intro hV1 (And.intro (HR1.out.2.1.below hbd1) (HR1.out.2.2.trans (hbd1.mono HR1.out.2.2.size)))); clear hV1 hbd1
        obtain ⟨va1, vc1, hv1⟩ := owns_slice (HW1.out.1.row 1 (by omega))
        have HVe1 := Lib.hid hv1
        have hcS1 : wd1.cell? ⟨gS, 1, none⟩ = some (V1 1) := HW1.out.1.cell (by omega)
        obtain ⟨N1, hN1⟩ : ∃ N, (cutL 100 ms1 k).length = N := ⟨_, rfl⟩
        have hown1 : wd1.ownsRow w.heap.size 9 1 (V1 1) (cutL 100 ms1 k).length (strV (cutL 100 ms1 k)) := HW1.out.1.row 1 (by omega)
        have hNk1 : N1 ≤ 10 := by have := cutL_len 100 ms1 k; omega
        rw [hv1] at hcS1 hown1
        have hln1 : ((fun i => if i = 0 then cutL 117 ms0 (k + 1) else cutL 100 ms1 k) 1 : List (List UInt8)).length = N1 := hN1
        rw [hln1] at hcS1 hown1 HVe1
        rw [hN1] at hown1
        have HN1 := Lib.hid hN1; clear hN1 hv1 hln1
        have hbz1 := HW1.out.2.2.size
        go_wp2_with (at_builtin; go_must (refine wpList_append_rowb _ rfl _ _ 33 rfl w.heap.size 9 i0 (.string ⟨#[]⟩) 1 16 Tryd.underlying33 hi hz0 hz1 hz2 rfl (by decide) _ N1 _ rfl (hown1.alloc _) (some ⟨wd1.heap.size, 0, none⟩) 1 1 [.string T1] rfl rfl (fun e => by cases e) (one_str _ _ _) (one_cell _) (by unfold maxLen; omega) (by omega) (by simp; omega) ?_; intro v1 we1 hown11 hgrow1 hfrom1; have hq1 := ord_add (k := 1) HW1.out.1 (by omega) HVe1.out HN1.out hown11 hgrow1 hfrom1 HW1.out.2.1 HW1.out.2.2 HS1.out (Nat.le_refl _); obtain ⟨aa1, cc1, rfl⟩ := owns_slice hown11; have x11 := hq1.1; have x21 := hq1.2.1; have HQ1 := Lib.hid hq1.2.2; clear hq1 hown11 hgrow1 hfrom1))
        refine (send_to HQ1.out.2.1 1 (by omega) T1 (by have := HT1.out.1; unfold maxLen; omega) (send_w1 (cutL_ok 100 ms1 k) (by rw [HN1.out]; omega) HT1.out.1.1 HT1.out.1.2)).mono ?_
        rintro e wf1 ⟨rfl, hl1, hk1⟩
        have HR2 : Hid (∃ V, TwoAt gS w.heap.size V (fun i => if i = 0 then cutL 117 ms0 (k + 1) else cutL 100 ms1 (k + 1)) wf1 ∧ LkIs b w.heap.size w1.heap.size (lkW (cutL 117 ms0 (k + 1)) (cutL 100 ms1 (k + 1))) wf1 ∧ Below w.heap.size w wf1) := Lib.hid (by
          obtain ⟨⟨V', hV'⟩, _, hb'⟩ := HQ1.out
          have hV' := ord_f1 _ _ _ _ _ _ _ hV'
          rw [HS1.out]
          rw [HS1.out] at hV'
          exact ⟨V', hV'.kept hk1, hl1, hb'.trans (hk1.below hb'.size)⟩)
        clear hl1 hk1 HQ1 HW1 HVe1 HN1 hcS1 hown1 hNk1 hbz1 x11 x21
        obtain ⟨V2, hV2⟩ := HR2.out
        have HR2 := Lib.hid hV2; clear hV2
        go_wp2_with fail
        go_roundw
        case rel => exact ⟨k + 1, by omega, by go_num, V2, HR2.out.1, HR2.out.2.1, HR2.out.2.2⟩
        case measure => simp [intOf]; omega
      · have h1i : ¬ (k : Int) < (l1 : Int) := by omega
        have HR2 := HR1
        rw [← cutL_end 100 ms1 (show ms1.length ≤ k by have := HL.out.2.1; omega)] at HR2
        obtain ⟨V2, hVe2⟩ : ∃ V, V1 = V := ⟨_, rfl⟩
        rw [hVe2] at HR2
        clear hVe2
        go_wp2_with fail
        go_roundw
        case rel => exact ⟨k + 1, by omega, by go_num, V2, HR2.out.1, HR2.out.2.1, HR2.out.2.2⟩
        case measure => simp [intOf]; omega
    · have h0i : ¬ (k : Int) < (l0 : Int) := by omega
      have HR1 := HR0
      rw [← cutL_end 117 ms0 (show ms0.length ≤ k by have := HL.out.1; omega)] at HR1
      obtain ⟨V1, hVe1⟩ : ∃ V, V0 = V := ⟨_, rfl⟩
      rw [hVe1] at HR1
      clear hVe1
      by_cases h1 : k < l1
      · have h1i : (k : Int) < (l1 : Int) := by omega
        have hkm1 : k < ms1.length := by have := HL.out.2.1; omega
        obtain ⟨g1, o1, e1, hgl1, hc1⟩ := (hst1.below HR1.out.2.2) k ms1[k] (List.getElem?_eq_getElem hkm1)
        have HS1 := Lib.hid (cutL_more 100 ms1 hkm1)
        have HA1 := Lib.hid e1; clear e1
        generalize ms1[k] = s1 at hc1 HS1
        obtain ⟨K1, hK1⟩ : ∃ K, min s1.size 60 = K := ⟨_, rfl⟩
        have hKs1 : K1 ≤ s1.size := by omega
        have hk601 : K1 ≤ 60 := by omega
        have hmk1 : (if (60 : Int) < (s1.size : Int) then (60 : Int) else (s1.size : Int)) = (K1 : Int) := by split <;> omega
        have hmin1 : min (s1.size : Int) 60 = (K1 : Int) := by omega
        obtain ⟨T1, hT1⟩ : ∃ T : ByteArray, (⟨#[100]⟩ : ByteArray) ++ s1.extract 0 K1 = T := ⟨_, rfl⟩
        have hTc1 : cutT 100 s1 = T1 := by rw [← hT1, ← hK1]; rfl
        have hTs1 := cutT_size 100 s1
        rw [hTc1] at hTs1 HS1
        have HT1 := Lib.hid (And.intro hTs1 hK1); clear hTs1 hTc1 hK1
        have eA1 := HA1.out
        subst eA1
        go_wp2_with fail
        go_quiet (fail)
        clear hmk1 hmin1 hT1 hc1 hk601 hKs1
        obtain ⟨wd1, hwd1⟩ : ∃ Wx : World, wr.drewN nq = Wx := ⟨_, rfl⟩
        have hbd1 : Below wr.heap.size wr wd1 := by rw [← hwd1]; exact below_drewN' _
        rw [hwd1]
        clear hwd1
        have hV1 := HR1.out.1.low HR1.out.1.isLow hbd1
        have HW1 := Lib.hid (And.intro hV1 (And.intro (HR1.out.2.1.below hbd1) (HR1.out.2.2.trans (hbd1.mono HR1.out.2.2.size)))); clear hV1 hbd1
        obtain ⟨va1, vc1, hv1⟩ := owns_slice (HW1.out.1.row 1 (by omega))
        have HVe1 := Lib.hid hv1
        have hcS1 : wd1.cell? ⟨gS, 1, none⟩ = some (V1 1) := HW1.out.1.cell (by omega)
        obtain ⟨N1, hN1⟩ : ∃ N, (cutL 100 ms1 k).length = N := ⟨_, rfl⟩
        have hown1 : wd1.ownsRow w.heap.size 9 1 (V1 1) (cutL 100 ms1 k).length (strV (cutL 100 ms1 k)) := HW1.out.1.row 1 (by omega)
        have hNk1 : N1 ≤ 10 := by have := cutL_len 100 ms1 k; omega
        rw [hv1] at hcS1 hown1
        have hln1 : ((fun i => if i = 0 then cutL 117 ms0 (k + 1) else cutL 100 ms1 k) 1 : List (List UInt8)).length = N1 := hN1
        rw [hln1] at hcS1 hown1 HVe1
        rw [hN1] at hown1
        have HN1 := Lib.hid hN1; clear hN1 hv1 hln1
        have hbz1 := HW1.out.2.2.size
        go_wp2_with (at_builtin; go_must (refine wpList_append_rowb _ rfl _ _ 33 rfl w.heap.size 9 i0 (.string ⟨#[]⟩) 1 16 Tryd.underlying33 hi hz0 hz1 hz2 rfl (by decide) _ N1 _ rfl (hown1.alloc _) (some ⟨wd1.heap.size, 0, none⟩) 1 1 [.string T1] rfl rfl (fun e => by cases e) (one_str _ _ _) (one_cell _) (by unfold maxLen; omega) (by omega) (by simp; omega) ?_; intro v1 we1 hown11 hgrow1 hfrom1; have hq1 := ord_add (k := 1) HW1.out.1 (by omega) HVe1.out HN1.out hown11 hgrow1 hfrom1 HW1.out.2.1 HW1.out.2.2 HS1.out (Nat.le_refl _); obtain ⟨aa1, cc1, rfl⟩ := owns_slice hown11; have x11 := hq1.1; have x21 := hq1.2.1; have HQ1 := Lib.hid hq1.2.2; clear hq1 hown11 hgrow1 hfrom1))
        refine (send_to HQ1.out.2.1 1 (by omega) T1 (by have := HT1.out.1; unfold maxLen; omega) (send_w1 (cutL_ok 100 ms1 k) (by rw [HN1.out]; omega) HT1.out.1.1 HT1.out.1.2)).mono ?_
        rintro e wf1 ⟨rfl, hl1, hk1⟩
        have HR2 : Hid (∃ V, TwoAt gS w.heap.size V (fun i => if i = 0 then cutL 117 ms0 (k + 1) else cutL 100 ms1 (k + 1)) wf1 ∧ LkIs b w.heap.size w1.heap.size (lkW (cutL 117 ms0 (k + 1)) (cutL 100 ms1 (k + 1))) wf1 ∧ Below w.heap.size w wf1) := Lib.hid (by
          obtain ⟨⟨V', hV'⟩, _, hb'⟩ := HQ1.out
          have hV' := ord_f1 _ _ _ _ _ _ _ hV'
          rw [HS1.out]
          rw [HS1.out] at hV'
          exact ⟨V', hV'.kept hk1, hl1, hb'.trans (hk1.below hb'.size)⟩)
        clear hl1 hk1 HQ1 HW1 HVe1 HN1 hcS1 hown1 hNk1 hbz1 x11 x21
        obtain ⟨V2, hV2⟩ := HR2.out
        have HR2 := Lib.hid hV2; clear hV2
        go_wp2_with fail
        go_roundw
        case rel => exact ⟨k + 1, by omega, by go_num, V2, HR2.out.1, HR2.out.2.1, HR2.out.2.2⟩
        case measure => simp [intOf]; omega
      · have h1i : ¬ (k : Int) < (l1 : Int) := by omega
        have HR2 := HR1
        rw [← cutL_end 100 ms1 (show ms1.length ≤ k by have := HL.out.2.1; omega)] at HR2
        obtain ⟨V2, hVe2⟩ : ∃ V, V1 = V := ⟨_, rfl⟩
        rw [hVe2] at HR2
        clear hVe2
        go_wp2_with fail
        go_roundw
        case rel => exact ⟨k + 1, by omega, by go_num, V2, HR2.out.1, HR2.out.2.1, HR2.out.2.2⟩
        case measure => simp [intOf]; omega
  · have hk : k = 10 := by omega
    have hlt' : ¬ (k : Int) < 10 := by omega
    obtain ⟨U, hU⟩ : ∃ U, cutL 117 ms0 k = U := ⟨_, rfl⟩
    obtain ⟨D, hD⟩ : ∃ D, cutL 100 ms1 k = D := ⟨_, rfl⟩
    have hUok : (∀ s ∈ U, okM s ∧ s.length ≤ 61) ∧ U.length ≤ 10 := by rw [← hU]; exact ⟨cutL_ok _ _ _, Nat.le_trans (cutL_len _ _ _) hk10⟩
    have hDok : (∀ s ∈ D, okM s ∧ s.length ≤ 61) ∧ D.length ≤ 10 := by rw [← hD]; exact ⟨cutL_ok _ _ _, Nat.le_trans (cutL_len _ _ _) hk10⟩
    have hR := HR0.out
    rw [hU, hD] at hR
    obtain ⟨WL, hWL⟩ : ∃ WL : Nat → List (List UInt8), WL = fun i => if i = 0 then U else D := ⟨_, rfl⟩
    rw [← hWL] at hR
    have hWLn : ∀ i, i < 2 → (WL i).length ≤ 10 := by
      intro i _
      rw [hWL]; show (if i = 0 then U else D).length ≤ 10
      split
      · exact hUok.2
      · exact hDok.2
    have hst := Or2.start U D hUok.1 hDok.1 hUok.2 hDok.2
    rw [← hWL] at hst
    obtain ⟨gB, hgB⟩ : ∃ g, wr.heap.size = g := ⟨_, rfl⟩
    have hbn : Below wr.heap.size wr (wr.alloc (.cells #[.slice none 0 0, .slice none 0 0] 40)) := (Below.refl _ _).alloc (Nat.le_refl _) _
    have hlow := hR.1.isLow
    have hstart : ∃ (x : Lk) (G : Nat → List (List UInt8)) (VG : Nat → Value), Or2 WL G x 0 ∧ LkIs b w.heap.size w1.heap.size x (wr.alloc (.cells #[.slice none 0 0, .slice none 0 0] 40)) ∧ TwoAt gS w.heap.size V0 WL (wr.alloc (.cells #[.slice none 0 0, .slice none 0 0] 40)) ∧ TwoAt gB gB VG G (wr.alloc (.cells #[.slice none 0 0, .slice none 0 0] 40)) ∧ Below w.heap.size w (wr.alloc (.cells #[.slice none 0 0, .slice none 0 0] 40)) := by
      refine ⟨_, _, fun _ => .slice none 0 0, hst, hR.2.1.below hbn, hR.1.low hlow hbn, ?_, hR.2.2.trans (hbn.mono hR.2.2.size)⟩
      rw [← hgB]; exact TwoAt.new wr wr.heap.size (Nat.le_refl _)
    have hgb2 : w.heap.size ≤ gB := by rw [← hgB]; exact hR.2.2.size
    rw [hgB] at hlow
    have HLow := Lib.hid hlow
    have HWL := Lib.hid hWLn
    have HST := Lib.hid hstart
    have HGB := Lib.hid hgb2
    clear hlow hWLn hstart hst hbn hWL hR hUok hDok hU hD HR0 hk hgb2
    go_wp2_with fail
    clear hgB
    go_loopw [14] (fun i wx => ∃ j : Nat, j ≤ 62 ∧ i = .int .i64 (j : Int) ∧ ∃ (x : Lk) (G : Nat → List (List UInt8)) (VG : Nat → Value), Or2 WL G x j ∧ LkIs b w.heap.size w1.heap.size x wx ∧ TwoAt gS w.heap.size V0 WL wx ∧ TwoAt gB gB VG G wx ∧ Below w.heap.size w wx) (fun i _ => 70 - (intOf i).toNat)
    case atStart => exact ⟨0, by omega, rfl, HST.out⟩
    case round =>
    obtain ⟨j, hj62, rfl, x, G, VG, ho, hlx, hsx, hgx, hbx⟩ := hrel
    obtain ⟨A0, hA0⟩ : ∃ A, (x.at 0).W.length = A := ⟨_, rfl⟩
    obtain ⟨A1, hA1⟩ : ∃ A, (x.at 1).W.length = A := ⟨_, rfl⟩
    have hA0n : A0 ≤ 650 := by rw [← hA0]; exact ho.len 0 (by omega)
    have hA1n : A1 ≤ 650 := by rw [← hA1]; exact ho.len 1 (by omega)
    have hz61 : 61 ≤ j → A0 = 0 := fun h => by rw [← hA0, ho.e0 h]; rfl
    have hz62 : 62 ≤ j → A1 = 0 := fun h => by rw [← hA1, ho.e1 h]; rfl
    have HA := Lib.hid (And.intro hA0 hA1); clear hA0 hA1
    have HO := Lib.hid (And.intro ho (And.intro hsx (And.intro hgx hbx))); clear ho hsx hgx hbx
    have HZ := Lib.hid (And.intro hz61 hz62); clear hz61 hz62
    go_wp2_with fail
    refine (waiting_is (N := A0) hlx 0 (by omega) HA.out.1).mono ?_
    rintro e w4 ⟨rfl, hl4, hk4⟩
    go_wp2_with fail
    refine (waiting_is (N := A1) hl4 1 (by omega) HA.out.2).mono ?_
    rintro e w5 ⟨rfl, hl5, hk5⟩
    have HO2 := Lib.hid (And.intro hl5 (And.intro ((HO.out.2.1.kept hk4).kept hk5) (And.intro ((HO.out.2.2.1.kept hk4).kept hk5) (HO.out.2.2.2.trans ((hk4.trans hk5).below HO.out.2.2.2.size))))); clear hl5 hk4 hk5 hl4 hlx
    by_cases hpos : 0 < A0 + A1
    · have hpos' : (0 : Int) < (A0 : Int) + (A1 : Int) := by omega
      have hj61 : j ≤ 61 := by
        rcases Nat.lt_or_ge j 62 with h | h
        · omega
        · have h1 := HZ.out.1 (by omega); have h2 := HZ.out.2 h; omega
      obtain ⟨K, hK⟩ : ∃ K, K = j % 2 := ⟨_, rfl⟩
      have hK2 : K < 2 := by omega
      have HKm := Lib.hid (show (j : Int) % 2 = (K : Int) by omega)
      have HKj := Lib.hid hK; clear hK
      by_cases hc : j < l2 ∧ j < 60
      · obtain ⟨hc1, hc2⟩ := hc
        have hc1' : (j : Int) < (l2 : Int) := by omega
        have hc2' : (j : Int) < 60 := by omega
        have hjm : j < bs.length := by have := HL.out.2.2.1; omega
        obtain ⟨gc, oc, ec, hglc, hcc⟩ := (hst2.below HO2.out.2.2.2) j bs[j] (List.getElem?_eq_getElem hjm)
        have hb256 := HL.out.2.2.2 bs[j] (List.getElem_mem hjm)
        generalize bs[j] = y at hcc hb256
        subst ec
        obtain ⟨NN, hNN⟩ : ∃ N, y % 50 = N := ⟨_, rfl⟩
        have hNN50 : NN < 50 := by omega
        have hyi : (y : Int) % 50 = (NN : Int) := by omega
        have HBIG : 60 ≤ j → 650 ≤ NN := fun h => by omega
        have HNN := Lib.hid hNN; clear hNN
        have hmod : (j : Int) % 2 = (K : Int) := HKm.out
        go_wp2_with fail
        clear hmod
        clear hyi
        obtain ⟨m1, x', ht, ho', hle'⟩ := HO.out.1.step (N := NN) HKj.out (by omega) HBIG
        obtain ⟨M1, hM1⟩ : ∃ M, m1.length = M := ⟨_, rfl⟩
        refine (take_to (N := M1) HO2.out.1 (by rw [HO.out.1.ep]; omega) K (by omega) NN (by omega) ht hM1).mono ?_
        rintro e w6 ⟨at6, ct6, rfl, hown6, hl6, hk6⟩
        have hS6 := HO2.out.2.1.kept hk6
        have hG6 := HO2.out.2.2.1.kept hk6
        have hb6 : Below w.heap.size w w6 := HO2.out.2.2.2.trans (hk6.below HO2.out.2.2.2.size)
        obtain ⟨vaG, vcG, hvG⟩ := owns_slice (hG6.row K (by omega))
        have hcG : w6.cell? ⟨gB, K, none⟩ = some (VG K) := hG6.cell (by omega)
        have hownG := hG6.row K (by omega)
        obtain ⟨NG, hNG⟩ : ∃ N, (G K).length = N := ⟨_, rfl⟩
        have hWLn := HWL.out K (by omega)
        have hNM : NG + M1 ≤ 10 := by omega
        rw [hvG] at hcG hownG
        rw [hNG] at hcG hownG hvG
        have hGb : gB ≤ w6.heap.size := Nat.le_trans hG6.hB (Nat.le_of_lt hG6.blk.lt)
        have HX6 := Lib.hid (And.intro hS6 (And.intro hG6 (And.intro hb6 (And.intro hl6 (And.intro hvG (And.intro hNG (And.intro hM1 (And.intro ho' (strV_news hown6))))))))); clear hS6 hG6 hb6 hl6 hvG hNG hM1 ho' hk6 hle' hWLn ht hown6
        have hmod : (j : Int) % 2 = (K : Int) := HKm.out
        go_wp2_with (at_builtin; go_must (refine wpList_append_rowb _ rfl _ _ 33 rfl gB 9 i0 (.string ⟨#[]⟩) 1 16 Tryd.underlying33 hi hz0 hz1 hz2 rfl (by decide) _ NG _ rfl hownG at6 M1 ct6 (strV m1) rfl (by rw [List.length_map, HX6.out.2.2.2.2.2.2.1, Nat.mul_one]) HX6.out.2.2.2.2.2.2.2.2.2.1 HX6.out.2.2.2.2.2.2.2.2.1 HX6.out.2.2.2.2.2.2.2.2.2.2 (by unfold maxLen; omega) (by omega) hGb ?_; intro v7 w7 hown7 hgrow7 hfrom7; have hq7 := got_add HX6.out.2.1 (by omega) HX6.out.2.2.2.2.1 HX6.out.2.2.2.2.2.1 HX6.out.2.2.2.2.2.2.1 hown7 hgrow7 hfrom7 HX6.out.2.2.2.1 HX6.out.2.2.1 HX6.out.1 HLow.out HGB.out (Nat.le_refl _); obtain ⟨aa7, cc7, rfl⟩ := owns_slice hown7; have y1 := hq7.1; have y2 := hq7.2.1; have HQ7 := Lib.hid hq7.2.2; clear hq7 hown7 hgrow7 hfrom7))
        clear hmod
        go_roundw
        case rel =>
          obtain ⟨⟨V', r1⟩, r2, r3, r4⟩ := HQ7.out
          exact ⟨j + 1, by omega, by go_num, x', _, V', HX6.out.2.2.2.2.2.2.2.1, r3, r2, r1, r4⟩
        case measure => simp [intOf]; omega
      · obtain ⟨NN, hNN⟩ : ∃ N : Nat, N = 2000 := ⟨_, rfl⟩
        have HBIG : 60 ≤ j → 650 ≤ NN := fun _ => by omega
        have HNN := Lib.hid (show (2000 : Int) = (NN : Int) by omega)
        have hNN1 : NN ≤ 2000 := by omega
        clear hNN
        have hend : (¬ (j : Int) < (l2 : Int)) ∨ ((j : Int) < (l2 : Int) ∧ ¬ (j : Int) < 60) := by omega
        clear hc
        rcases hend with h1 | ⟨h1, h2⟩
        all_goals
          have hmod : (j : Int) % 2 = (K : Int) := HKm.out
          go_wp2_with fail
          clear hmod
          rw [HNN.out]
          obtain ⟨m1, x', ht, ho', hle'⟩ := HO.out.1.step (N := NN) HKj.out (by omega) HBIG
          obtain ⟨M1, hM1⟩ : ∃ M, m1.length = M := ⟨_, rfl⟩
          refine (take_to (N := M1) HO2.out.1 (by rw [HO.out.1.ep]; omega) K (by omega) NN (by omega) ht hM1).mono ?_
          rintro e w6 ⟨at6, ct6, rfl, hown6, hl6, hk6⟩
          have hS6 := HO2.out.2.1.kept hk6
          have hG6 := HO2.out.2.2.1.kept hk6
          have hb6 : Below w.heap.size w w6 := HO2.out.2.2.2.trans (hk6.below HO2.out.2.2.2.size)
          obtain ⟨vaG, vcG, hvG⟩ := owns_slice (hG6.row K (by omega))
          have hcG : w6.cell? ⟨gB, K, none⟩ = some (VG K) := hG6.cell (by omega)
          have hownG := hG6.row K (by omega)
          obtain ⟨NG, hNG⟩ : ∃ N, (G K).length = N := ⟨_, rfl⟩
          have hWLn := HWL.out K (by omega)
          have hNM : NG + M1 ≤ 10 := by omega
          rw [hvG] at hcG hownG
          rw [hNG] at hcG hownG hvG
          have hGb : gB ≤ w6.heap.size := Nat.le_trans hG6.hB (Nat.le_of_lt hG6.blk.lt)
          have HX6 := Lib.hid (And.intro hS6 (And.intro hG6 (And.intro hb6 (And.intro hl6 (And.intro hvG (And.intro hNG (And.intro hM1 (And.intro ho' (strV_news hown6))))))))); clear hS6 hG6 hb6 hl6 hvG hNG hM1 ho' hk6 hle' hWLn ht hown6
          have hmod : (j : Int) % 2 = (K : Int) := HKm.out
          go_wp2_with (at_builtin; go_must (refine wpList_append_rowb _ rfl _ _ 33 rfl gB 9 i0 (.string ⟨#[]⟩) 1 16 Tryd.underlying33 hi hz0 hz1 hz2 rfl (by decide) _ NG _ rfl hownG at6 M1 ct6 (strV m1) rfl (by rw [List.length_map, HX6.out.2.2.2.2.2.2.1, Nat.mul_one]) HX6.out.2.2.2.2.2.2.2.2.2.1 HX6.out.2.2.2.2.2.2.2.2.1 HX6.out.2.2.2.2.2.2.2.2.2.2 (by unfold maxLen; omega) (by omega) hGb ?_; intro v7 w7 hown7 hgrow7 hfrom7; have hq7 := got_add HX6.out.2.1 (by omega) HX6.out.2.2.2.2.1 HX6.out.2.2.2.2.2.1 HX6.out.2.2.2.2.2.2.1 hown7 hgrow7 hfrom7 HX6.out.2.2.2.1 HX6.out.2.2.1 HX6.out.1 HLow.out HGB.out (Nat.le_refl _); obtain ⟨aa7, cc7, rfl⟩ := owns_slice hown7; have y1 := hq7.1; have y2 := hq7.2.1; have HQ7 := Lib.hid hq7.2.2; clear hq7 hown7 hgrow7 hfrom7))
          clear hmod
          go_roundw
          case rel =>
            obtain ⟨⟨V', r1⟩, r2, r3, r4⟩ := HQ7.out
            exact ⟨j + 1, by omega, by go_num, x', _, V', HX6.out.2.2.2.2.2.2.2.1, r3, r2, r1, r4⟩
          case measure => simp [intOf]; omega
    · have hpos' : ¬ (0 : Int) < (A0 : Int) + (A1 : Int) := by omega
      have e0 : (x.at 0).W = [] := List.eq_nil_of_length_eq_zero (by rw [HA.out.1]; omega)
      have e1 : (x.at 1).W = [] := List.eq_nil_of_length_eq_zero (by rw [HA.out.2]; omega)
      have hxo : x.Ok := by obtain ⟨_, _, h, _⟩ := HO2.out.1; exact h
      have hd0 := HO.out.1.done hxo (by omega) e0
      have hd1 := HO.out.1.done hxo (by omega) e1
      have HP := Lib.hid (ord_pair HO2.out.2.1 HO2.out.2.2.1 hd0 hd1 HWL.out)
      have HEp := Lib.hid HO.out.1.ep
      have HBw := Lib.hid (Below.refl w5.heap.size w5)
      clear e0 e1 hxo hd0 hd1 hpos
      have hA : A0 = 0 ∧ A1 = 0 := by omega
      have HA2 := Lib.hid hA; clear hA
      go_wp2_with fail
      refine wp_loop_rounds 3 ?_

      rw [rounds_succ]
      obtain ⟨sa0, sc0, ga0, gc0, N0, hN0, hall0⟩ := HP.out 0 (by omega)
      obtain ⟨x1, x2, _⟩ := hall0 _ HBw.out
      have HAll0 := Lib.hid hall0; clear hall0
      go_wp2_with fail
      go_quiet (fail)
      clear x1 x2
      obtain ⟨wm0, hwm0⟩ : ∃ W, w5.drewN nq = W := ⟨_, rfl⟩
      have HB0' : Hid (Below w5.heap.size w5 wm0) := Lib.hid (by rw [← hwm0]; exact HBw.out.trans (below_drewN' _))
      rw [hwm0]
      clear hwm0
      go_wp2_with fail
      go_loopw [19] (fun i wx => ∃ m : Nat, m ≤ N0 ∧ i = .int .i64 (m : Int) ∧ Below w5.heap.size w5 wx) (fun i _ => N0 - (intOf i).toNat)
      case atStart => exact ⟨0, Nat.zero_le _, rfl, HB0'.out⟩
      case round =>
      clear HBw
      obtain ⟨m, hmN, rfl, hbm⟩ := hrel
      obtain ⟨x1, x2, x3⟩ := HAll0.out _ hbm
      have HBm := Lib.hid hbm; clear hbm
      by_cases hml : m < N0
      · have hml' : (m : Int) < (N0 : Int) := by omega
        obtain ⟨g1, g2, T, e1, e2, p1, p2⟩ := x3 m hml
        clear x3
        subst e1
        subst e2
        go_wp2_with fail
        go_quiet (fail)
        go_wp2_with fail
        go_roundw
        case rel => exact ⟨m + 1, by omega, by go_num, HBm.out.trans (below_drewN' _)⟩
        case measure => simp [intOf]; omega
      have hml' : ¬ (m : Int) < (N0 : Int) := by omega
      clear x3
      go_wp2_with fail
      clear x1 x2
      have HBw := HBm
      clear HBm hml' hml

      rw [rounds_succ]
      obtain ⟨sa1, sc1, ga1, gc1, N1, hN1, hall1⟩ := HP.out 1 (by omega)
      obtain ⟨x1, x2, _⟩ := hall1 _ HBw.out
      have HAll1 := Lib.hid hall1; clear hall1
      go_wp2_with fail
      go_quiet (fail)
      clear x1 x2
      obtain ⟨wm1, hwm1⟩ : ∃ W, wr.drewN nq = W := ⟨_, rfl⟩
      have HB1' : Hid (Below w5.heap.size w5 wm1) := Lib.hid (by rw [← hwm1]; exact HBw.out.trans (below_drewN' _))
      rw [hwm1]
      clear hwm1
      go_wp2_with fail
      go_loopw [19] (fun i wx => ∃ m : Nat, m ≤ N1 ∧ i = .int .i64 (m : Int) ∧ Below w5.heap.size w5 wx) (fun i _ => N1 - (intOf i).toNat)
      case atStart => exact ⟨0, Nat.zero_le _, rfl, HB1'.out⟩
      case round =>
      clear HBw
      obtain ⟨m, hmN, rfl, hbm⟩ := hrel
      obtain ⟨x1, x2, x3⟩ := HAll1.out _ hbm
      have HBm := Lib.hid hbm; clear hbm
      by_cases hml : m < N1
      · have hml' : (m : Int) < (N1 : Int) := by omega
        obtain ⟨g1, g2, T, e1, e2, p1, p2⟩ := x3 m hml
        clear x3
        subst e1
        subst e2
        go_wp2_with fail
        go_quiet (fail)
        go_wp2_with fail
        go_roundw
        case rel => exact ⟨m + 1, by omega, by go_num, HBm.out.trans (below_drewN' _)⟩
        case measure => simp [intOf]; omega
      have hml' : ¬ (m : Int) < (N1 : Int) := by omega
      clear x3
      go_wp2_with fail
      clear x1 x2
      have HBw := HBm
      clear HBm hml' hml

      rw [rounds_succ]
      go_wp2_with fail
      refine (epoch_to (z := 1) (HO2.out.1.below HBw.out) (by rw [HEp.out]; rfl)).mono ?_
      rintro e w' ⟨rfl, rfl⟩
      go_wp2
      go_ret
      exact ⟨rfl, HO2.out.2.2.2.trans (HBw.out.mono HO2.out.2.2.2.size)⟩
end Go.Proofs.YtkfbhiggnnjoiaaDoor
