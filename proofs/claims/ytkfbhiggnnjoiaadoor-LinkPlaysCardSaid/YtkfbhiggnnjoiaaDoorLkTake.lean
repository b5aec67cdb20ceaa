/- link: bytes are taken off a way. -/
import Derived.Test.YtkfbhiggnnjoiaaDoorLkMove
import Derived.Deep.RegionHeld3
import Derived.Deep.AppendLies
import Derived.Deep.RegionLaw
import Derived.StillTailTactics
import Derived.Laws.BytesArg
import Derived.Deep.DeepCutAuto
import Derived.Deep.CutRange
import Derived.Deep.CutBlock
namespace Go.Proofs.YtkfbhiggnnjoiaaDoor
open Go.RowKit Go.Lib

/-- What a way's bytes and its count are. -/
def Cs (l o : Nat) (b : Value) (g : Int) (w w' : World) : Prop := w'.cell? ⟨l, o + 1, none⟩ = some b ∧ w'.cell? ⟨l, o + 2, none⟩ = some (.int .i64 g) ∧ w'.frozen? ⟨l, o + 1, none⟩ = false ∧ w'.frozen? ⟨l, o + 2, none⟩ = false ∧ Below w.heap.size w w'
theorem Cs.drewN {l o : Nat} {b : Value} {g : Int} {w w' : World} (h : Cs l o b g w w') (n : Nat) : Cs l o b g w (w'.drewN n) := by
  obtain ⟨h1, h2, h3, h4, h5⟩ := h
  exact ⟨by simpa using h1, by simpa using h2, by simpa using h3, by simpa using h4, h5.trans (below_drewN' n)⟩
theorem Cs.drew {l o : Nat} {b : Value} {g : Int} {w w' : World} (h : Cs l o b g w w') : Cs l o b g w w'.drew := h.drewN 1
theorem waiting_cs (l o m c g : Nat) (a : Option Addr) (w w' : World) (h : Cs l o (.slice a m c) (g : Int) w w') (hgm : g ≤ m) (hm : m ≤ 1048576) :
    Calls Tryd.prog 32 #[.pointer (some ⟨l, o, none⟩)] w' fun e w2 => e = .returned (.int .i64 ((m - g : Nat) : Int)) ∧ Cs l o (.slice a m c) (g : Int) w w2 := by
  refine (waiting_raw l o m c g a w' h.1 h.2.1 hgm hm).mono ?_
  rintro e w2 ⟨rfl, n, rfl⟩
  exact ⟨rfl, h.drewN n⟩

theorem Cs.three {l o : Nat} {b : Value} {g : Int} {w w' : World} (h : Cs l o b g w w') : w'.cell? ⟨l, o + 2, none⟩ = some (.int .i64 g) ∧ w'.frozen? ⟨l, o + 2, none⟩ = false ∧ Cs l o b g w w' := ⟨h.2.1, h.2.2.2.1, h⟩
theorem LkAt.shift {b : Addr} {base l ep tk k : Nat} {P : Nat → Wa} {w : World} (h : LkAt b base l P ep tk w) (hk : k < 2) (n g : Nat) (hg : ((P k).D ++ (P k).y.W.take n).length = g) :
    LkAt b base l (upd P k ⟨(P k).r, (P k).v, (P k).b, (P k).D ++ (P k).y.W.take n, ⟨(P k).y.W.drop n, (P k).y.S⟩⟩) ep tk (w.setCell ⟨l, 3 * k + 2, none⟩ (.int .i64 (g : Int))) ∧ Kept base w (w.setCell ⟨l, 3 * k + 2, none⟩ (.int .i64 (g : Int))) := by
  refine h.move_row hk _ (grown_refl w none) (.inr rfl) (Kept.refl _ _) rfl rfl rfl ?_ (fun g e => .inl e) (grown_set _ l _ _) (Kept.set h.blk h.bl (.inl rfl) _ _) ?_
  · have := (h.wa k hk).row
    simpa using this
  · rw [← lk_set2 P ep tk hk g ⟨(P k).r, (P k).v, (P k).b, (P k).D ++ (P k).y.W.take n, ⟨(P k).y.W.drop n, (P k).y.S⟩⟩ rfl rfl hg]
    exact h.blk.set _ _

theorem run_append_row {P : Program} (w : World) (t ty : TypeId) (base : Nat) (e : TypeId) (i : TypeInfo) (z : Value) (size bytes : Nat) (ht : P.underlying t = some (.slice e)) (hi : P.info? e = some i) (hz : i.zero = some z)
    (hsize : i.size = size) (hby : i.bytes = bytes) (hzs : z.cells.size = size) (hsz : 0 < size) (v : Value) (n : Nat) (xs : List Value) (hown : w.ownsRow base e size v n xs)
    (ad : Option Addr) (m c : Nat) (news : List Value) (hl : news.length = m * size) (h0 : ad = none → m = 0) (hnews : ∀ j u, news[j]? = some u → ∃ b, ad = some b ∧ w.cell? (b.add j) = some u) (h1 : ∀ u ∈ news, u.oneCell' = true)
    (h63 : n + m ≤ maxLen) (hbytes : (n + m) * bytes ≤ 140737488355328) (hbase : base ≤ w.heap.size) :
    ∃ v' w', (Builtin.append_ #[t, t] ty #[v, .slice ad m c]).run P w = .ok v' w' ∧ w'.ownsRow base e size v' (n + m) (xs ++ news) ∧ w.grownBy w' v.ownBlock := by
  cases ad with
  | none =>
    obtain rfl := h0 rfl
    have hn : news = [] := List.eq_nil_of_length_eq_zero (by simpa using hl)
    subst hn
    exact ⟨v, w, append_nil_any ht hi hown, by simpa using hown, grown_refl _ _⟩
  | some b =>
    obtain ⟨v', w', hr, h2, h3, _, _⟩ := run_append_own_at (P := P) w base t ty e i z size bytes ht hi hz hsize hby hzs hsz v n xs hown b m c news hl (fun j u hj => by
      obtain ⟨b', e, h⟩ := hnews j u hj
      cases e
      exact h) h1 h63 hbytes hbase
    exact ⟨v', w', hr, h2, h3⟩
theorem step_append_row {P : Program} (w : World) {ops : Array Oper} {o : Oper} {a : Act} {K : Act → World → Prop} {Q : Exit → Act → World → Prop} {E : Prop} (hgd : o.guard = none) (s x : Operand) (t : TypeId)
    (ho : o.op = .call { callee := .builtin .append, args := #[s, x], argTypes := #[t, t] })
    (base : Nat) (e : TypeId) (i : TypeInfo) (z : Value) (size bytes : Nat) (ht : P.underlying t = some (.slice e)) (hi : P.info? e = some i) (hz : i.zero = some z)
    (hsize : i.size = size) (hby : i.bytes = bytes) (hzs : z.cells.size = size) (hsz : 0 < size)
    (v : Value) (n : Nat) (xs : List Value) (hs : a.eval s = v) (hown : w.ownsRow base e size v n xs)
    (ad : Option Addr) (m c : Nat) (news : List Value) (hx : a.eval x = .slice ad m c) (hl : news.length = m * size) (h0 : ad = none → m = 0) (hnews : ∀ j u, news[j]? = some u → ∃ b, ad = some b ∧ w.cell? (b.add j) = some u) (h1 : ∀ u ∈ news, u.oneCell' = true)
    (h63 : n + m ≤ maxLen) (hbytes : (n + m) * bytes ≤ 140737488355328) (hbase : base ≤ w.heap.size)
    (h : ∀ v' w', w'.ownsRow base e size v' (n + m) (xs ++ news) → w.grownBy w' v.ownBlock → K (a.put o.dst v') w') :
    if Region.wanted o (yielded ops a.tmps) = true then Oper.wp P o a w K Q else E := by
  have hw : Region.wanted o (yielded ops a.tmps) = true := by simp [Region.wanted, hgd]
  rw [if_pos hw]
  obtain ⟨v', w', hr, r1, r2⟩ := run_append_row w t o.type base e i z size bytes ht hi hz hsize hby hzs hsz v n xs hown ad m c news hl h0 hnews h1 h63 hbytes hbase
  unfold Oper.wp execOp
  simp only [ho, resolve, invoke, builtin, Sem.run_bind, Sem.run_pure, Result.andThen_ok, List.map_toArray, List.map_cons, List.map_nil, hs, hx, hr]
  exact h _ _ r1 r2

theorem upd_upd (P : Nat → Wa) (k : Nat) (x y : Wa) : upd (upd P k x) k y = upd P k y := by
  funext i
  by_cases h : i = k
  · subst h; rw [upd_same, upd_same]
  · rw [upd_other _ _ h, upd_other _ _ h, upd_other _ _ h]
theorem LkAt.fresh {b : Addr} {base l ep tk k : Nat} {P : Nat → Wa} {w w5 : World} (h : LkAt b base l P ep tk w) (hk : k < 2) (v5 : Value) (hown : w5.ownsRow w.heap.size 5 1 v5 (P k).y.W.length (bytesV (P k).y.W)) (hg : w.grownBy w5 none) :
    LkAt b base l (upd P k ⟨(P k).r, (P k).v, v5, [], (P k).y⟩) ep tk ((w5.setCell ⟨l, 3 * k + 1, none⟩ v5).setCell ⟨l, 3 * k + 2, none⟩ (.int .i64 0)) ∧ Kept base w ((w5.setCell ⟨l, 3 * k + 1, none⟩ v5).setCell ⟨l, 3 * k + 2, none⟩ (.int .i64 0)) := by
  have hl5 := h.grow hk hg (.inr rfl)
  have hb5 : Below w.heap.size w w5 := (Below.refl _ _).grown hg (Nat.le_refl _) (fun r e => by cases e)
  have hs1 := hl5.set (3 * k + 1) v5
  refine h.move_row hk ⟨(P k).r, (P k).v, v5, [], (P k).y⟩ hg (.inr rfl) (Kept.of hb5) rfl rfl rfl ?_ ?_ (grown_two (grown_set w5 l _ _) (grown_set _ l _ _)) ((Kept.set hl5 h.bl (.inl rfl) _ _).trans (Kept.set hs1 h.bl (.inl rfl) _ _)) ?_
  · exact own_less hown h.hB
  · exact fun g e => .inr (own_heap hown e).1
  · rw [show lkCells (upd P k ⟨(P k).r, (P k).v, v5, [], (P k).y⟩) ep tk = ((lkCells P ep tk).setIfInBounds (3 * k + 1) v5).setIfInBounds (3 * k + 2) (.int .i64 0) by
      rw [lk_set1 P ep tk hk v5 ⟨(P k).r, (P k).v, v5, (P k).D, (P k).y⟩ rfl rfl rfl, show (Value.int .i64 0) = .int .i64 ((0 : Nat) : Int) from rfl, lk_set2 (upd P k ⟨(P k).r, (P k).v, v5, (P k).D, (P k).y⟩) ep tk hk 0 ⟨(P k).r, (P k).v, v5, [], (P k).y⟩ (by rw [upd_same]) (by rw [upd_same]) rfl, upd_upd]]
    exact hs1.set _ _
theorem conv_none (w : World) : (convert 39 9 (.slice none 0 0)).run Tryd.prog w = .ok (.string ⟨#[]⟩) w :=
  run_convert_bytes_nil w _ _ Tryd.underlying39 Tryd.underlying5 0 0 _ Tryd.underlying9
theorem conv_zero (w : World) (g c : Nat) : (convert 39 9 (.slice (some ⟨g, 0, none⟩) 0 c)).run Tryd.prog w = .ok (.string ⟨#[]⟩) w := by
  have := conv_bytes (c := c) (BytesAt.nil w (some ⟨g, 0, none⟩))
  exact this

theorem bytesV_one (l : List UInt8) : ∀ u ∈ bytesV l, u.oneCell' = true := by
  intro u hu
  obtain ⟨x, _, rfl⟩ := List.mem_map.1 hu
  rfl
theorem news_nil {w : World} {a : Option Addr} {l : List UInt8} (h : l = []) : ∀ j u, (bytesV l)[j]? = some u → ∃ b, a = some b ∧ w.cell? (b.add j) = some u := by
  subst h; intro j u hu; cases hu
theorem news_at {w : World} {g o : Nat} {l : List UInt8} (h : BytesAt w (some ⟨g, o, none⟩) l) : ∀ j u, (bytesV l)[j]? = some u → ∃ b, some (⟨g, o, none⟩ : Addr) = some b ∧ w.cell? (b.add j) = some u := by
  intro j u hu
  rw [List.getElem?_map] at hu
  cases hx : l[j]? with
  | none => rw [hx] at hu; cases hu
  | some x =>
    rw [hx] at hu
    cases hu
    obtain ⟨g', o', e, hc⟩ := h j x hx
    cases e
    exact ⟨_, rfl, by rw [addr_plus]; exact hc⟩
theorem grown_drew {w w5 : World} (h : w.drew.grownBy w5 (Value.ownBlock (.slice none 0 0))) : w.grownBy w5 none := by
  refine grown_two (w1 := w.drew) ?_ h
  have hb : Below w.heap.size w w.drew := (Below.refl _ _).drew
  exact grown_of_below hb
theorem fresh_cells {b : Addr} {base l ep tk k : Nat} {P : Nat → Wa} {w w5 : World} (h : LkAt b base l P ep tk w) (hk : k < 2) (hg : w.grownBy w5 none) :
    w5.cell? ⟨l, 3 * k + 1, none⟩ = some (P k).b ∧ w5.cell? ⟨l, 3 * k + 2, none⟩ = some (.int .i64 ((P k).D.length : Int)) ∧ w5.frozen? ⟨l, 3 * k + 1, none⟩ = false ∧ w5.frozen? ⟨l, 3 * k + 2, none⟩ = false := by
  have hl5 := h.grow hk hg (.inr rfl)
  exact ⟨(hl5.cell _).trans (lk_get P ep tk hk).2.1, (hl5.cell _).trans (lk_get P ep tk hk).2.2, hl5.frozen _, hl5.frozen _⟩

/-- Behind the copy. -/
theorem take_end {b : Addr} {base l ep tk k n o m : Nat} {P P1 : Nat → Wa} {w w2 w5 : World} {v5 : Value} (hP : P1 = upd P k ⟨(P k).r, (P k).v, (P k).b, (P k).D ++ (P k).y.W.take n, ⟨(P k).y.W.drop n, (P k).y.S⟩⟩) (h : LkAt b base l P1 ep tk w2) (hk : k < 2) (ho : o = 3 * k)
    (hown : w5.ownsRow w2.heap.size 5 1 v5 m (bytesV (P1 k).y.W)) (hm : (P1 k).y.W.length = m) (hg : w2.drew.grownBy w5 (Value.ownBlock (.slice none 0 0))) (hw : Kept base w w2) :
    ∃ b' D', D'.length ≤ 262144 ∧ LkAt b base l (upd P k ⟨(P k).r, (P k).v, b', D', ⟨(P k).y.W.drop n, (P k).y.S⟩⟩) ep tk ((w5.setCell ⟨l, o + 1, none⟩ v5).setCell ⟨l, o + 2, none⟩ (.int .i64 0)) ∧ Kept base w ((w5.setCell ⟨l, o + 1, none⟩ v5).setCell ⟨l, o + 2, none⟩ (.int .i64 0)) := by
  subst ho
  rw [← hm] at hown
  obtain ⟨r1, r2⟩ := h.fresh hk v5 hown (grown_drew hg)
  rw [hP, upd_same, upd_upd] at r1
  exact ⟨v5, [], by simp, r1, hw.trans r2⟩
theorem a_b {b : Addr} {base l ep tk k n GN : Nat} {P P1 : Nat → Wa} {w w2 : World} (hP : P1 = upd P k ⟨(P k).r, (P k).v, (P k).b, (P k).D ++ (P k).y.W.take n, ⟨(P k).y.W.drop n, (P k).y.S⟩⟩) (hl : ((P k).D ++ (P k).y.W.take n).length = GN) (hG : GN ≤ 262144) (h : LkAt b base l P1 ep tk w2) (hw : Kept base w w2) :
    ∃ b' D', D'.length ≤ 262144 ∧ LkAt b base l (upd P k ⟨(P k).r, (P k).v, b', D', ⟨(P k).y.W.drop n, (P k).y.S⟩⟩) ep tk w2 ∧ Kept base w w2 := by
  subst hP
  exact ⟨_, _, by rw [hl]; exact hG, h, hw⟩

set_option maxRecDepth 100000 in
set_option maxHeartbeats 1000000 in
theorem take_way {b : Addr} {base l ep tk k : Nat} {P : Nat → Wa} {w : World} (h : LkAt b base l P ep tk w) (hk : k < 2) (hD : (P k).D.length ≤ 262144) (hW : (P k).y.W.length ≤ 262144) (n : Nat) (hn : (n : Int) ≤ 9223372036854775807) :
    Calls Tryd.prog 37 #[.pointer (some ⟨l, 3 * k, none⟩), .int .i64 (n : Int)] w fun e w' => e = .returned (.string ⟨((P k).y.W.take n).toArray⟩) ∧ ∃ b' D', D'.length ≤ 262144 ∧ LkAt b base l (upd P k ⟨(P k).r, (P k).v, b', D', ⟨(P k).y.W.drop n, (P k).y.S⟩⟩) ep tk w' ∧ Kept base w w' := by
  obtain ⟨c0, c1, c2⟩ := h.cells hk
  obtain ⟨a, c, hb⟩ := owns_slice (h.wa k hk).row
  rw [hb] at c1
  obtain ⟨M, hM⟩ : ∃ M, ((P k).D ++ (P k).y.W).length = M := ⟨_, rfl⟩
  obtain ⟨G, hG⟩ : ∃ G, (P k).D.length = G := ⟨_, rfl⟩
  obtain ⟨L, hL⟩ : ∃ L, (P k).y.W.length = L := ⟨_, rfl⟩
  obtain ⟨N, hN⟩ : ∃ N, min n L = N := ⟨_, rfl⟩
  have hMG : M = G + L := by rw [← hM, ← hG, ← hL, List.length_append]
  rw [hM] at c1; rw [hG] at c2
  have hM2 : M ≤ 524288 := by omega
  have hGM : G ≤ M := by omega
  have hNL : N ≤ L := by omega
  have hmin : (if ((M - G : Nat) : Int) < (n : Int) then ((M - G : Nat) : Int) else (n : Int)) = (N : Int) := by split <;> omega
  obtain ⟨Z, hZ⟩ : ∃ Z : Int, ((M - G : Nat) : Int) = Z := ⟨_, rfl⟩
  rw [hZ] at hmin
  have hZ0 : 0 ≤ Z ∧ Z ≤ 262144 := by omega
  have hadd : IntKind.i64.wrap ((G : Int) + (N : Int)) = ((G + N : Nat) : Int) := by rw [show (G : Int) + (N : Int) = ((G + N : Nat) : Int) by omega]; exact IntWalk.i64_in _ (by omega)
  obtain ⟨GN, hGN⟩ : ∃ GN, G + N = GN := ⟨_, rfl⟩
  rw [hGN] at hadd
  have HMin := Lib.hid hmin; clear hmin
  have HAdd := Lib.hid hadd; clear hadd
  have HSL := Lib.hid (show ((P k).D ++ (P k).y.W.take n).length = GN by rw [List.length_append, List.length_take, hG, hL, hN, hGN])
  have HH := Lib.hid (And.intro hM (And.intro hG (And.intro hL (And.intro hN (And.intro hMG (And.intro hD (And.intro hW (And.intro hZ hGN)))))))); clear hM hG hL hN hMG hD hW hZ hGN
  have HBv := Lib.hid (show (P k).b = .slice a M c by rw [hb, HH.out.1]); clear hb
  have H := Lib.hid h; clear h
  obtain ⟨o, ho⟩ : ∃ o, o = 3 * k := ⟨_, rfl⟩
  rw [← ho] at c0 c1 c2 ⊢
  have hcs : Cs l o (.slice a M c) (G : Int) w w := ⟨c1, c2, H.out.blk.frozen _, H.out.blk.frozen _, Below.refl _ _⟩
  have HO := Lib.hid ho; clear ho
  obtain ⟨T, hT⟩ : ∃ T : ByteArray, (⟨((P k).y.W.take n).toArray⟩ : ByteArray) = T := ⟨_, rfl⟩
  rw [hT]
  have HT := Lib.hid hT; clear hT
  go_enter Tryd.func37, Tryd.ntmps37
  go_wp2_with fail
  have HP : ∃ P1 : Nat → Wa, P1 = upd P k ⟨(P k).r, (P k).v, (P k).b, (P k).D ++ (P k).y.W.take n, ⟨(P k).y.W.drop n, (P k).y.S⟩⟩ := ⟨_, rfl⟩
  obtain ⟨P1, hP1⟩ := HP
  have HP1 := Lib.hid hP1; clear hP1
  have hcsd := hcs.drew
  go_upto_region 2 with (fail)
  go_cut [19] (fun s19 wx => s19 = .int .i64 (GN : Int) ∧ LkAt b base l P1 ep tk wx ∧ Kept base w wx)
  case first =>
    go_region_law (first | (go_simp; go_at_call 32; refine (waiting_cs l o M c G a w _ (by assumption) hGM (by omega)).mono ?_; rintro e w' ⟨rfl, hc2⟩; rw [HH.out.2.2.2.2.2.2.2.1]; have hx1 := hc2.2.1; have hx2 := hc2.2.2.2.1))
    all_goals
      rw [HMin.out, HAdd.out]
      have hcsw := (by assumption : Cs l o (.slice a M c) (G : Int) w _)
      have hb2 := hcsw.2.2.2.2
      obtain ⟨q1, q2⟩ := (H.out.below hb2).shift hk n GN HSL.out
      rw [← HP1.out, ← HO.out] at q1
      rw [← HO.out] at q2
      go_wp2_with fail
      go_meet
      exact ⟨rfl, q1, (Kept.of hb2).trans q2⟩
  case rest =>
  obtain ⟨rfl, hl1, hk1⟩ := hcut
  have hB1 : (P1 k).b = .slice a M c ∧ (P1 k).D.length = GN ∧ (P1 k).D ++ (P1 k).y.W = (P k).D ++ (P k).y.W := by
    rw [HP1.out, upd_same]
    refine ⟨HBv.out, HSL.out, by simp⟩
  obtain ⟨e0, e1, e2⟩ := hl1.cells hk
  rw [hB1.1, ← HO.out] at e1
  rw [hB1.2.1, ← HO.out] at e2
  have hown1 := (hl1.wa k hk).row
  rw [hB1.1, hB1.2.2, HH.out.1] at hown1
  obtain ⟨a', c', hv', hlen', hc', hcm', hbytes', ha'⟩ := own_bytes hown1
  cases hv'
  have HB1 := Lib.hid hB1; clear hB1
  have HL1 := Lib.hid (And.intro hl1 (And.intro hk1 (And.intro hown1 (And.intro hlen' hbytes')))); clear hl1 hk1 hown1 hlen' hbytes'
  have hG1 := HH.out.2.2.2.2.2.2.2.2
  have hML := HH.out.2.2.2.2.1
  have hGN1 : GN ≤ M := by omega
  have hGG : G ≤ GN := by omega
  have HNil := Lib.hid (show G = GN → (P k).y.W.take n = [] from fun e => List.eq_nil_of_length_eq_zero (by rw [List.length_take]; have := HH.out.2.2.1; have := HH.out.2.2.2.1; omega))
  have HLn := Lib.hid (show ((P k).y.W.take n).length = GN - G by rw [List.length_take]; have := HH.out.2.2.1; have := HH.out.2.2.2.1; omega)
  clear hG1 hML
  go_upto_region 3 with (fail)
  go_cut [6] (fun s6 wx => s6 = .string T ∧ LkAt b base l P1 ep tk wx ∧ Kept base w wx)
  case first =>
    have hfin : ∀ q, LkAt b base l P1 ep tk (wc.drewN q) ∧ Kept base w (wc.drewN q) := fun q => ⟨HL1.out.1.below (below_drewN' q), HL1.out.2.1.trans (Kept.of (below_drewN' q))⟩
    have HFin := Lib.hid hfin; clear hfin
    rcases ha' with ⟨rfl, rfl⟩ | ⟨g, rfl⟩
    · obtain rfl : M = 0 := by omega
      obtain rfl : GN = 0 := by omega
      obtain rfl : G = 0 := by omega
      have hconv : ∀ q, (convert 39 9 (.slice none 0 0)).run Tryd.prog (wc.drewN q) = .ok (.string T) (wc.drewN q) := fun q => by rw [← HT.out, HNil.out (by omega)]; exact conv_none _
      go_quiet (fail)
      go_wp2_with fail
      go_meet
      exact ⟨rfl, HFin.out _⟩
    · by_cases hGc : G = c
      · obtain rfl : GN = G := by omega
        obtain rfl : c = GN := hGc.symm
        have hconv : ∀ q, (convert 39 9 (.slice (some ⟨g, 0, none⟩) 0 0)).run Tryd.prog (wc.drewN q) = .ok (.string T) (wc.drewN q) := fun q => by rw [← HT.out, HNil.out (by omega)]; exact conv_zero _ _ _
        go_quiet (fail)
        go_wp2_with fail
        go_meet
        exact ⟨rfl, HFin.out _⟩
      · have hGc' : G < c := by omega
        have hconv : ∀ q, (convert 39 9 (.slice (some ⟨g, G, none⟩) (GN - G) (c - G))).run Tryd.prog (wc.drewN q) = .ok (.string T) (wc.drewN q) := fun q => by
          have hbt := (((HL1.out.2.2.2.2.below (below_drewN' (B := wc.heap.size) q)).drop G).take n)
          rw [List.drop_left' HH.out.2.1, Nat.zero_add] at hbt
          have hcv := conv_bytes (c := c - G) hbt
          rw [HT.out, HLn.out] at hcv
          exact hcv
        go_quiet (fail)
        go_wp2_with fail
        go_meet
        exact ⟨rfl, HFin.out _⟩
  case rest =>
  obtain ⟨rfl, hl2, hk2⟩ := hcut
  have hB2 := HB1.out
  obtain ⟨d0, d1, d2⟩ := hl2.cells hk
  rw [hB2.1, ← HO.out] at d1
  rw [hB2.2.1, ← HO.out] at d2
  clear e0 e1 e2
  obtain ⟨wx, hwx⟩ : ∃ wx : World, wx = wc := ⟨_, rfl⟩
  have HW2 : ∀ q, Calls Tryd.prog 32 #[.pointer (some ⟨l, o, none⟩)] (wc.drewN q) fun e w' => e = .returned (.int .i64 ((M - GN : Nat) : Int)) ∧ ∃ m, w' = (wc.drewN q).drewN m := fun q => waiting_raw l o M c GN a _ (by simpa using d1) (by simpa using d2) hGN1 (by omega)
  have HWt := Lib.hid HW2; clear HW2 hB2
  have HL2 := Lib.hid (And.intro hl2 hk2); clear hl2 hk2
  by_cases hge : M - GN ≤ GN
  · have hge' : ((M - GN : Nat) : Int) ≤ (GN : Int) := by omega
    go_wp2_with fail
    go_quiet (first | (go_at_call 32; exact Calls.quiet_of (HWt.out _)))
    obtain ⟨w2, hw2⟩ : ∃ w2 : World, wc.drewN nq = w2 := ⟨_, rfl⟩
    have hb2 : Below wc.heap.size wc w2 := by rw [← hw2]; exact below_drewN' _
    have hl3 := HL2.out.1.below hb2
    obtain ⟨p0, p1, p2⟩ := hl3.cells hk
    rw [HB1.out.1, ← HO.out] at p1
    rw [HB1.out.2.1, ← HO.out] at p2
    have HL3 := Lib.hid (And.intro hl3 (HL2.out.2.trans (Kept.of hb2))); clear hl3 hb2
    rw [hw2]
    clear hw2 d0 d1 d2 c0 c1 c2
    obtain ⟨i0, hi, hz0, hz1, hz2⟩ := info_parts Tryd.infoU8
    have HN5 := Lib.hid (show (P1 k).y.W.length = M - GN from by
      have h1 := congrArg List.length HB1.out.2.2
      rw [List.length_append, HB1.out.2.1, HH.out.1] at h1
      omega)
    have hby := (HL3.out.1.wa k hk).row
    rw [HB1.out.1, HB1.out.2.2, HH.out.1] at hby
    have HBy := Lib.hid hby; clear hby
    go_wp2_with fail
    rcases ha' with ⟨rfl, rfl⟩ | ⟨g, rfl⟩
    · obtain rfl : M = 0 := by omega
      obtain rfl : GN = 0 := by omega
      obtain rfl : G = 0 := by omega
      have HNews := Lib.hid (news_nil (w := w2.drew) (a := none) (List.eq_nil_of_length_eq_zero HN5.out))
      go_region_law ((refine step_append_row _ (by rfl) (.const (.slice none 0 0)) (.tmp 50) 39 (by rfl) w2.heap.size 5 i0 (.int .u8 0) 1 1 Tryd.underlying39 hi hz0 hz1 hz2 rfl (by decide) (.slice none 0 0) 0 [] (by rfl) (World.ownsRow_nil _ _ _ _) none (0) (0) (bytesV (P1 k).y.W) (by rfl) (by rw [List.length_map, HN5.out, Nat.mul_one]) (fun _ => rfl) (HNews.out) (bytesV_one _) (by unfold maxLen; omega) (by omega) (by simp) ?_; intro v5 w5 hown5 hgrow5; rw [Nat.zero_add, List.nil_append] at hown5; have hq5 := fresh_cells HL3.out.1 hk (grown_drew hgrow5); obtain ⟨a5, c5, rfl⟩ := owns_slice hown5; have x1 := hq5.1; have x2 := hq5.2.1; have x3 := hq5.2.2.1; have x4 := hq5.2.2.2; rw [← HO.out, HB1.out.1] at x1; rw [← HO.out, HB1.out.2.1] at x2; rw [← HO.out] at x3 x4; have HE := Lib.hid (take_end HP1.out HL3.out.1 hk HO.out hown5 HN5.out hgrow5 HL3.out.2); clear hown5 hgrow5 hq5))
      all_goals
        go_wp2
        go_ret
        exact ⟨rfl, HE.out⟩
    · by_cases hGc : GN = c
      · obtain rfl : M = GN := by omega
        obtain rfl : c = M := hGc.symm
        have hw0 : (P1 k).y.W = [] := List.eq_nil_of_length_eq_zero (by rw [HN5.out]; omega)
        have HNews := Lib.hid (news_nil (w := w2.drew) (a := some ⟨g, 0, none⟩) hw0)
        have HN6 := HN5
        rw [Nat.sub_self] at HN6
        clear HN5
        have HN5 := HN6
        go_region_law ((refine step_append_row _ (by rfl) (.const (.slice none 0 0)) (.tmp 50) 39 (by rfl) w2.heap.size 5 i0 (.int .u8 0) 1 1 Tryd.underlying39 hi hz0 hz1 hz2 rfl (by decide) (.slice none 0 0) 0 [] (by rfl) (World.ownsRow_nil _ _ _ _) (some ⟨g, 0, none⟩) (0) (0) (bytesV (P1 k).y.W) (by rfl) (by rw [List.length_map, HN5.out, Nat.mul_one]) (fun e => by cases e) (HNews.out) (bytesV_one _) (by unfold maxLen; omega) (by omega) (by simp) ?_; intro v5 w5 hown5 hgrow5; rw [Nat.zero_add, List.nil_append] at hown5; have hq5 := fresh_cells HL3.out.1 hk (grown_drew hgrow5); obtain ⟨a5, c5, rfl⟩ := owns_slice hown5; have x1 := hq5.1; have x2 := hq5.2.1; have x3 := hq5.2.2.1; have x4 := hq5.2.2.2; rw [← HO.out, HB1.out.1] at x1; rw [← HO.out, HB1.out.2.1] at x2; rw [← HO.out] at x3 x4; have HE := Lib.hid (take_end HP1.out HL3.out.1 hk HO.out hown5 HN5.out hgrow5 HL3.out.2); clear hown5 hgrow5 hq5))
        all_goals
          go_wp2
          go_ret
          exact ⟨rfl, HE.out⟩
      · have hGc' : GN < c := by omega
        have hcG : ¬ c = GN := by omega
        have HNews := Lib.hid (news_at (w := w2.drew) (g := g) (o := GN) (l := (P1 k).y.W) (by
          have hbt := (own_bytes HBy.out)
          obtain ⟨a', c', hv', hlen', hc', hcm', hbytes', ha'⟩ := hbt
          cases hv'
          have hbt := (hbytes'.below (w' := w2.drew) ((Below.refl _ _).drew)).drop GN
          rw [← HB1.out.2.2, List.drop_left' HB1.out.2.1, Nat.zero_add] at hbt
          exact hbt))
        go_region_law ((refine step_append_row _ (by rfl) (.const (.slice none 0 0)) (.tmp 50) 39 (by rfl) w2.heap.size 5 i0 (.int .u8 0) 1 1 Tryd.underlying39 hi hz0 hz1 hz2 rfl (by decide) (.slice none 0 0) 0 [] (by rfl) (World.ownsRow_nil _ _ _ _) (some ⟨g, GN, none⟩) (M - GN) (c - GN) (bytesV (P1 k).y.W) (by rfl) (by rw [List.length_map, HN5.out, Nat.mul_one]) (fun e => by cases e) (HNews.out) (bytesV_one _) (by unfold maxLen; omega) (by omega) (by simp) ?_; intro v5 w5 hown5 hgrow5; rw [Nat.zero_add, List.nil_append] at hown5; have hq5 := fresh_cells HL3.out.1 hk (grown_drew hgrow5); obtain ⟨a5, c5, rfl⟩ := owns_slice hown5; have x1 := hq5.1; have x2 := hq5.2.1; have x3 := hq5.2.2.1; have x4 := hq5.2.2.2; rw [← HO.out, HB1.out.1] at x1; rw [← HO.out, HB1.out.2.1] at x2; rw [← HO.out] at x3 x4; have HE := Lib.hid (take_end HP1.out HL3.out.1 hk HO.out hown5 HN5.out hgrow5 HL3.out.2); clear hown5 hgrow5 hq5))
        all_goals
          go_wp2
          go_ret
          exact ⟨rfl, HE.out⟩
  · have hge' : ¬ ((M - GN : Nat) : Int) ≤ (GN : Int) := by omega
    go_wp2_with fail
    go_quiet (first | (go_at_call 32; exact Calls.quiet_of (HWt.out _)))
    go_wp2
    go_ret
    refine ⟨rfl, a_b HP1.out HSL.out (by omega) (HL2.out.1.below (below_drewN' _)) (HL2.out.2.trans (Kept.of (below_drewN' _)))⟩
end Go.Proofs.YtkfbhiggnnjoiaaDoor
