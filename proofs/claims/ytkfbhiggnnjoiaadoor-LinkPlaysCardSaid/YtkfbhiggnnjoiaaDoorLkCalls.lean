/- link: the calls of a stream but for Take. -/
import Derived.Test.YtkfbhiggnnjoiaaDoorLkReset
namespace Go.Proofs.YtkfbhiggnnjoiaaDoor
open Go.RowKit Go.Lib

theorem LkIs.put {b : Addr} {base l ep tk k : Nat} {P : Nat → Wa} {x : Lk} {w' : World} (hx : x.Ok) (hP : ∀ k, k < 2 → (P k).y = x.at k ∧ (P k).D.length ≤ 262144) (hk : k < 2) (X : Wa) (hX : X.y.Ok) (hD : X.D.length ≤ 262144) (he : x.ep = ep) (ht : x.tk = tk) (h : LkAt b base l (upd P k X) ep tk w') : LkIs b base l (x.put k X.y) w' := by
  subst he; subst ht
  refine ⟨upd P k X, by rw [Lk.put_ep, Lk.put_tk]; exact h, hx.put k hX, ?_⟩
  intro j hj
  by_cases e : j = k
  · subst e; rw [upd_same, Lk.put_same]; exact ⟨rfl, hD⟩
  · rw [upd_other _ _ e, Lk.put_other x _ hk hj e]; exact hP j hj

/-- A call's answer and what the stream is behind it. -/
def LkPost (b : Addr) (base l : Nat) (v : Value) (x : Lk) (w : World) (e : Ending) (w' : World) : Prop := e = .returned v ∧ LkIs b base l x w' ∧ Kept base w w'
set_option maxRecDepth 100000 in
theorem epoch_any {b : Addr} {base l : Nat} {x : Lk} {w : World} (h : LkIs b base l x w) :
    Calls Tryd.prog 14 #[.pointer (some ⟨l, 0, none⟩)] w fun e w' => e = .returned (.int .u64 (x.ep : Int)) ∧ w = w' := by
  obtain ⟨P, h1, _⟩ := h
  have c6 := h1.tail.1
  go_enter Tryd.func14, Tryd.ntmps14
  go_wp2
  go_ret
  exact ⟨rfl, rfl⟩
theorem LkIs.way {b : Addr} {base l : Nat} {x : Lk} {w : World} (h : LkIs b base l x w) {k : Nat} (hk : k < 2) : ∃ (a : Option Addr) (m c g : Nat), w.cell? ⟨l, 3 * k + 1, none⟩ = some (.slice a m c) ∧ w.cell? ⟨l, 3 * k + 2, none⟩ = some (.int .i64 (g : Int)) ∧ g ≤ m ∧ m ≤ 524288 ∧ m - g = (x.at k).W.length := by
  obtain ⟨P, h1, h2, h3⟩ := h
  obtain ⟨c0, c1, c2⟩ := h1.cells hk
  obtain ⟨a, c, hb⟩ := owns_slice (h1.wa k hk).row
  obtain ⟨hy, hD⟩ := h3 k hk
  have hr := (h2.at k).room
  rw [hb] at c1
  refine ⟨a, _, c, _, c1, c2, ?_, ?_, ?_⟩
  · rw [List.length_append]; omega
  · rw [List.length_append, hy]; omega
  · rw [List.length_append, hy]; omega
set_option maxRecDepth 100000 in
theorem waitingL_way {b : Addr} {base l : Nat} {x : Lk} {w : World} (h : LkIs b base l x w) (k : Nat) (hk : k < 2) :
    Calls Tryd.prog 15 #[.pointer (some ⟨l, 0, none⟩), .int .i64 (k : Int)] w fun e w' => e = .returned (.int .i64 ((x.at k).W.length : Int)) ∧ ∃ n, w' = w.drewN n := by
  obtain ⟨a, m, c, g, c1, c2, hgm, hm, hL⟩ := h.way hk
  have HL := Lib.hid hL; clear hL
  go_enter Tryd.func15, Tryd.ntmps15
  go_wp2_with fail
  refine (find_way l k hk w).mono ?_
  rintro e w' ⟨rfl, rfl⟩
  go_wp2_with fail
  refine (waiting_raw l (3 * k) m c g a w c1 c2 hgm (by omega)).mono ?_
  rintro e w' ⟨rfl, n, rfl⟩
  rw [HL.out]
  go_wp2
  go_ret
  exact ⟨rfl, _, rfl⟩
set_option maxRecDepth 100000 in
theorem spaceL_way {b : Addr} {base l : Nat} {x : Lk} {w : World} (h : LkIs b base l x w) (k : Nat) (hk : k < 2) :
    Calls Tryd.prog 17 #[.pointer (some ⟨l, 0, none⟩), .int .i64 (k : Int)] w fun e w' => e = .returned (.int .i64 (262144 - ((x.at k).W.length : Int))) ∧ ∃ n, w' = w.drewN n := by
  obtain ⟨a, m, c, g, c1, c2, hgm, hm, hL⟩ := h.way hk
  have HL := Lib.hid hL; clear hL
  go_enter Tryd.func17, Tryd.ntmps17
  go_wp2_with fail
  refine (find_way l k hk w).mono ?_
  rintro e w' ⟨rfl, rfl⟩
  go_wp2_with fail
  refine (space_raw l (3 * k) m c g a w c1 c2 hgm (by omega)).mono ?_
  rintro e w' ⟨rfl, n, rfl⟩
  rw [HL.out]
  go_wp2
  go_ret
  exact ⟨rfl, _, rfl⟩
set_option maxRecDepth 100000 in
theorem waitingL_no (l : Nat) (i : Int) (hi : i < 0 ∨ 2 ≤ i) (w : World) :
    Calls Tryd.prog 15 #[.pointer (some ⟨l, 0, none⟩), .int .i64 i] w fun e w' => e = .returned (.int .i64 0) ∧ ∃ n, w' = w.drewN n := by
  go_enter Tryd.func15, Tryd.ntmps15
  go_wp2_with fail
  refine (find_no l i hi w).mono ?_
  rintro e w' ⟨rfl, rfl⟩
  go_wp2
  go_ret
  exact ⟨rfl, 0, rfl⟩
set_option maxRecDepth 100000 in
theorem spaceL_no (l : Nat) (i : Int) (hi : i < 0 ∨ 2 ≤ i) (w : World) :
    Calls Tryd.prog 17 #[.pointer (some ⟨l, 0, none⟩), .int .i64 i] w fun e w' => e = .returned (.int .i64 0) ∧ ∃ n, w' = w.drewN n := by
  go_enter Tryd.func17, Tryd.ntmps17
  go_wp2_with fail
  refine (find_no l i hi w).mono ?_
  rintro e w' ⟨rfl, rfl⟩
  go_wp2
  go_ret
  exact ⟨rfl, 0, rfl⟩
set_option maxRecDepth 100000 in
theorem inject_way {b : Addr} {base l : Nat} {x : Lk} {w : World} (h : LkIs b base l x w) (k : Nat) (hk : k < 2) (s : ByteArray) :
    Calls Tryd.prog 21 #[.pointer (some ⟨l, 0, none⟩), .int .i64 (k : Int), .string s] w (LkPost b base l (.int .i64 ((injL x k s.data.toList).1 : Int)) (injL x k s.data.toList).2 w) := by
  obtain ⟨P, h1, h2, h3⟩ := h
  obtain ⟨hy, hD⟩ := h3 k hk
  have hr := (h2.at k).room
  have hsl : s.data.toList.length = s.size := rfl
  by_cases hf : 262144 < (x.at k).W.length + s.size
  · have hi : injL x k s.data.toList = (4, x) := by unfold injL; rw [hsl, if_pos hf]
    rw [hi]
    go_enter Tryd.func21, Tryd.ntmps21
    go_wp2_with fail
    refine (find_way l k hk w).mono ?_
    rintro e w' ⟨rfl, rfl⟩
    go_wp2_with fail
    refine (put_full h1 hk hD (by rw [hy]; exact hr) s (by rw [hy]; exact hf)).mono ?_
    rintro e w' ⟨rfl, n, rfl⟩
    go_wp2
    go_ret
    exact ⟨rfl, ⟨P, h1.below (below_drewN' _), h2, h3⟩, Kept.of (below_drewN' _)⟩
  · have hi : injL x k s.data.toList = (0, x.put k ⟨(x.at k).W ++ s.data.toList, (x.at k).S⟩) := by unfold injL; rw [hsl, if_neg hf]
    rw [hi]
    have HF := Lib.hid (And.intro h3 (And.intro hy (And.intro hD (And.intro hf hi)))); clear h3 hy hD hf hi hsl
    go_enter Tryd.func21, Tryd.ntmps21
    go_wp2_with fail
    refine (find_way l k hk w).mono ?_
    rintro e w' ⟨rfl, rfl⟩
    go_wp2_with fail
    refine (put_ok h1 hk HF.out.2.2.1 s (by have := HF.out.2.2.2.1; rw [HF.out.2.1]; omega)).mono ?_
    rintro e w' ⟨rfl, b', hl', hk'⟩
    go_wp2
    go_ret
    refine ⟨rfl, ?_, hk'⟩
    have hs : s.data.toList.length = s.size := rfl
    have := LkIs.put h2 HF.out.1 hk ⟨(P k).r, (P k).v, b', (P k).D, ⟨(P k).y.W ++ s.data.toList, (P k).y.S⟩⟩ (by have h4 := HF.out.2.2.2.1; exact ⟨by rw [List.length_append, hs, HF.out.2.1]; omega, by show takeOf (P k).y.S = .short; rw [HF.out.2.1]; exact (h2.at k).short⟩) HF.out.2.2.1 rfl rfl hl'
    rw [HF.out.2.1] at this
    exact this
set_option maxRecDepth 100000 in
theorem send_way {b : Addr} {base l : Nat} {x : Lk} {w : World} (h : LkIs b base l x w) (k : Nat) (hk : k < 2) (s : ByteArray) (hs : s.size ≤ maxLen) :
    Calls Tryd.prog 19 #[.pointer (some ⟨l, 0, none⟩), .int .i64 (k : Int), .string s] w (LkPost b base l (.int .i64 ((sendL x k s.data.toList).1 : Int)) (sendL x k s.data.toList).2 w) := by
  have hsl : s.data.toList.length = s.size := rfl
  by_cases hok : 1 ≤ s.size ∧ s.size ≤ 65536
  · have hse : sendL x k s.data.toList = injL x k (packL s.data.toList) := by unfold sendL; rw [hsl, if_pos hok]
    rw [hse]
    obtain ⟨T, hT⟩ : ∃ T : ByteArray, (⟨(packL s.data.toList).toArray⟩ : ByteArray) = T := ⟨_, rfl⟩
    have hTl : packL s.data.toList = T.data.toList := by rw [← hT]
    rw [hTl]
    have hTs : T.data.toList.length = T.size := rfl
    have HT := Lib.hid (And.intro hT (And.intro hTl hse)); clear hT hTl hse
    have HK := Lib.hid (show okM s.data.toList from hok); clear hok hsl
    by_cases hf : 262144 < (x.at k).W.length + T.size
    · have hi : injL x k T.data.toList = (4, x) := by unfold injL; rw [hTs, if_pos hf]
      rw [hi]
      clear hi hTs
      go_enter Tryd.func19, Tryd.ntmps19
      go_wp2_with fail
      refine (find_way l k hk w).mono ?_
      rintro e w' ⟨rfl, rfl⟩
      go_wp2_with fail
      refine (pack_ok s w HK.out).mono ?_
      rw [HT.out.1]
      rintro e w1 ⟨rfl, hb1⟩
      obtain ⟨P, h1, h2, h3⟩ := h.below hb1
      obtain ⟨hy, hD⟩ := h3 k hk
      have hr := (h2.at k).room
      have HP := Lib.hid (And.intro h3 (And.intro hy hD)); clear h3 hy hD
      go_wp2_with fail
      refine (put_full h1 hk HP.out.2.2 (by rw [HP.out.2.1]; exact hr) T (by rw [HP.out.2.1]; exact hf)).mono ?_
      rintro e w' ⟨rfl, n, rfl⟩
      go_wp2
      go_ret
      exact ⟨rfl, ⟨P, h1.below (below_drewN' _), h2, HP.out.1⟩, (Kept.of hb1).trans (Kept.of (below_drewN' _))⟩
    · have hi : injL x k T.data.toList = (0, x.put k ⟨(x.at k).W ++ T.data.toList, (x.at k).S⟩) := by unfold injL; rw [hTs, if_neg hf]
      rw [hi]
      have hf' : (x.at k).W.length + T.size ≤ 262144 := by omega
      clear hi hf hTs
      go_enter Tryd.func19, Tryd.ntmps19
      go_wp2_with fail
      refine (find_way l k hk w).mono ?_
      rintro e w' ⟨rfl, rfl⟩
      go_wp2_with fail
      refine (pack_ok s w HK.out).mono ?_
      rw [HT.out.1]
      rintro e w1 ⟨rfl, hb1⟩
      obtain ⟨P, h1, h2, h3⟩ := h.below hb1
      obtain ⟨hy, hD⟩ := h3 k hk
      have HP := Lib.hid (And.intro h3 (And.intro hy hD)); clear h3 hy hD
      go_wp2_with fail
      refine (put_ok h1 hk HP.out.2.2 T (by rw [HP.out.2.1]; exact hf')).mono ?_
      rintro e w' ⟨rfl, b', hl', hk'⟩
      go_wp2
      go_ret
      refine ⟨rfl, ?_, (Kept.of hb1).trans hk'⟩
      have hTs : T.data.toList.length = T.size := rfl
      have := LkIs.put h2 HP.out.1 hk ⟨(P k).r, (P k).v, b', (P k).D, ⟨(P k).y.W ++ T.data.toList, (P k).y.S⟩⟩ (by exact ⟨by rw [List.length_append, hTs, HP.out.2.1]; exact hf', by show takeOf (P k).y.S = .short; rw [HP.out.2.1]; exact (h2.at k).short⟩) HP.out.2.2 rfl rfl hl'
      rw [HP.out.2.1] at this
      exact this
  · have hse : sendL x k s.data.toList = (3, x) := by unfold sendL; rw [hsl, if_neg hok]
    rw [hse]
    have HK := Lib.hid (show ¬ okM s.data.toList from hok); clear hok hsl hse
    go_enter Tryd.func19, Tryd.ntmps19
    go_wp2_with fail
    refine (find_way l k hk w).mono ?_
    rintro e w' ⟨rfl, rfl⟩
    go_wp2_with fail
    refine (pack_no s w hs HK.out).mono ?_
    rintro e w' ⟨rfl, rfl⟩
    go_wp2
    go_ret
    exact ⟨rfl, h, Kept.refl _ _⟩
set_option maxRecDepth 100000 in
theorem inject_no (l : Nat) (i : Int) (hi : i < 0 ∨ 2 ≤ i) (s : ByteArray) (w : World) :
    Calls Tryd.prog 21 #[.pointer (some ⟨l, 0, none⟩), .int .i64 i, .string s] w fun e w' => e = .returned (.int .i64 1) ∧ w = w' := by
  go_enter Tryd.func21, Tryd.ntmps21
  go_wp2_with fail
  refine (find_no l i hi w).mono ?_
  rintro e w' ⟨rfl, rfl⟩
  go_wp2
  go_ret
  exact ⟨rfl, rfl⟩
set_option maxRecDepth 100000 in
theorem send_no (l : Nat) (i : Int) (hi : i < 0 ∨ 2 ≤ i) (s : ByteArray) (w : World) :
    Calls Tryd.prog 19 #[.pointer (some ⟨l, 0, none⟩), .int .i64 i, .string s] w fun e w' => e = .returned (.int .i64 1) ∧ w = w' := by
  go_enter Tryd.func19, Tryd.ntmps19
  go_wp2_with fail
  refine (find_no l i hi w).mono ?_
  rintro e w' ⟨rfl, rfl⟩
  go_wp2
  go_ret
  exact ⟨rfl, rfl⟩
theorem heard_is {b : Addr} {base l : Nat} {x : Lk} {w : World} (h : LkIs b base l x w) :
    Calls Tryd.prog 24 #[.pointer (some ⟨l, 0, none⟩)] w (LkPost b base l (.tuple #[]) { x with tk := 0 } w) := by
  obtain ⟨P, h1, h2, h3⟩ := h
  refine (heard_raw l _ _ w h1.blk rfl).mono ?_
  rintro e w' ⟨rfl, rfl⟩
  obtain ⟨r1, r2⟩ := h1.set (ep' := x.ep) (tk' := 0) 7 (.int .i64 0) rfl
  exact ⟨rfl, ⟨P, r1, h2, h3⟩, r2⟩
theorem reset_is {b : Addr} {base l : Nat} {x : Lk} {w : World} (h : LkIs b base l x w) (hep : x.ep ≤ 1000000) :
    Calls Tryd.prog 22 #[.pointer (some ⟨l, 0, none⟩)] w (LkPost b base l (.tuple #[]) (lk0 (x.ep + 1)) w) := by
  obtain ⟨P, h1, h2, h3⟩ := h
  exact reset_any b base l x.ep _ _ _ _ _ _ _ w h1.blk h1.bl h1.gs h1.ge h1.h0 h1.h1 hep
def tickN (tk : Nat) : Nat := min (tk + 1) 20
def tickA (tk : Nat) : Bool := decide (tickN tk < 20) && (decide (8 ≤ tickN tk) && decide ((tickN tk - 8) % 4 = 0))
def tickD (tk : Nat) : Bool := decide (tickN tk = 20)
theorem tick_post {b : Addr} {base l t t' : Nat} {P : Nat → Wa} {x : Lk} {w w' : World} {v0 v1 : Bool} (hh : tickN t = t') (_hx : x.tk = t) (_h20 : t' ≤ 20) (h2 : x.Ok) (h3 : ∀ k, k < 2 → (P k).y = x.at k ∧ (P k).D.length ≤ 262144) (hs : LkAt b base l P x.ep t' w' ∧ Kept base w w')
    (hv0 : v0 = (decide (t' < 20) && (decide (8 ≤ t') && decide ((t' - 8) % 4 = 0)))) (hv1 : v1 = decide (t' = 20)) :
    LkPost b base l (.tuple #[.bool (tickA t), .bool (tickD t)]) { x with tk := tickN t } w (.returned (.tuple #[.bool v0, .bool v1])) w' := by
  refine ⟨?_, ⟨P, by rw [hh]; exact hs.1, h2, h3⟩, hs.2⟩
  unfold tickA tickD
  rw [hh, hv0, hv1]
set_option maxRecDepth 100000 in
theorem tick_is {b : Addr} {base l : Nat} {x : Lk} {w : World} (h : LkIs b base l x w) (ht : x.tk ≤ 20) :
    Calls Tryd.prog 23 #[.pointer (some ⟨l, 0, none⟩)] w (LkPost b base l (.tuple #[.bool (tickA x.tk), .bool (tickD x.tk)]) { x with tk := tickN x.tk } w) := by
  obtain ⟨P, h1, h2, h3⟩ := h
  have c7 := h1.tail.2
  have f7 := h1.blk.frozen 7
  obtain ⟨t, hxt⟩ : ∃ t, x.tk = t := ⟨_, rfl⟩
  obtain ⟨t', hx'⟩ : ∃ t', tickN t = t' := ⟨_, rfl⟩
  rw [hxt] at c7 ht h1 ⊢
  have hn : (if (20 : Int) < (t : Int) + 1 then (20 : Int) else (t : Int) + 1) = (t' : Int) := by rw [← hx']; unfold tickN; split <;> omega
  have hset := h1.set (ep' := x.ep) (tk' := t') 7 (.int .i64 (t' : Int)) rfl
  have HS := Lib.hid (And.intro h2 (And.intro h3 (And.intro hset (And.intro hx' hxt)))); clear h2 h3 hset hx' hxt
  have ht2 : t' ≤ 20 := by rw [← HS.out.2.2.2.1]; unfold tickN; omega
  by_cases hA : t' = 20
  · have e0 : ((t' : Int) == 20) = true := by simp; omega
    have HA := Lib.hid hA; clear hA
    go_enter Tryd.func23, Tryd.ntmps23
    go_wp2_with fail
    go_wp2
    go_ret2
    have hA := HA.out
    refine tick_post HS.out.2.2.2.1 HS.out.2.2.2.2 ht2 HS.out.1 HS.out.2.1 HS.out.2.2.1 ?_ ?_
    · rw [Bool.eq_iff_iff]; simp; omega
    · rw [Bool.eq_iff_iff]; simp; omega
  · have e0 : ((t' : Int) == 20) = false := by simp; omega
    have HA := Lib.hid hA; clear hA
    by_cases hB : 8 ≤ t'
    · have e1 : (8 : Int) ≤ (t' : Int) := by omega
      go_enter Tryd.func23, Tryd.ntmps23
      go_wp2_with fail
      go_wp2
      go_ret2
      have hA := HA.out
      refine tick_post HS.out.2.2.2.1 HS.out.2.2.2.2 ht2 HS.out.1 HS.out.2.1 HS.out.2.2.1 ?_ ?_
      · rw [Bool.eq_iff_iff]; simp; omega
      · rw [Bool.eq_iff_iff]; simp; omega
    · have e1 : ¬ (8 : Int) ≤ (t' : Int) := by omega
      go_enter Tryd.func23, Tryd.ntmps23
      go_wp2_with fail
      go_wp2
      go_ret2
      have hA := HA.out
      refine tick_post HS.out.2.2.2.1 HS.out.2.2.2.2 ht2 HS.out.1 HS.out.2.1 HS.out.2.2.1 ?_ ?_
      · rw [Bool.eq_iff_iff]; simp; omega
      · rw [Bool.eq_iff_iff]; simp; omega
end Go.Proofs.YtkfbhiggnnjoiaaDoor
