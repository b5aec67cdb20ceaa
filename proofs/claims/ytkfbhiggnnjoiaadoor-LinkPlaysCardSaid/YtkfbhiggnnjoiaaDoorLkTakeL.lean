/- link: Take. -/
import Derived.Test.YtkfbhiggnnjoiaaDoorLkCalls
import Derived.Test.YtkfbhiggnnjoiaaDoorLkTake
namespace Go.Proofs.YtkfbhiggnnjoiaaDoor
open Go.RowKit Go.Lib

set_option maxRecDepth 100000 in
theorem takeL_no (l : Nat) (i n : Int) (hi : i < 0 ∨ 2 ≤ i) (w : World) :
    Calls Tryd.prog 20 #[.pointer (some ⟨l, 0, none⟩), .int .i64 i, .int .i64 n] w fun e w' => e = .returned (.tuple #[.slice none 0 0, .int .i64 1]) ∧ w = w' := by
  go_enter Tryd.func20, Tryd.ntmps20
  go_wp2_with fail
  refine (find_no l i hi w).mono ?_
  rintro e w' ⟨rfl, rfl⟩
  go_wp2
  go_ret2
  exact ⟨rfl, rfl⟩
set_option maxRecDepth 100000 in
theorem takeL_neg (l k : Nat) (hk : k < 2) (n : Int) (hn : n < 0) (w : World) :
    Calls Tryd.prog 20 #[.pointer (some ⟨l, 0, none⟩), .int .i64 (k : Int), .int .i64 n] w fun e w' => e = .returned (.tuple #[.slice none 0 0, .int .i64 1]) ∧ w = w' := by
  go_enter Tryd.func20, Tryd.ntmps20
  go_wp2_with fail
  refine (find_way l k hk w).mono ?_
  rintro e w' ⟨rfl, rfl⟩
  go_wp2
  go_ret2
  exact ⟨rfl, rfl⟩

/-- A Feed on a stream's way. -/
def FdPost (b : Addr) (base l ep tk k : Nat) (P : Nat → Wa) (c : List UInt8) (w : World) (e : Ending) (w' : World) : Prop :=
  ∃ a c', e = .returned (.tuple #[.slice a (feedL ((P k).y.S ++ c)).ms.length c', .int .i64 (((match (feedL ((P k).y.S ++ c)).bad with | some m => errN m | none => 0) : Nat) : Int)]) ∧
    w'.ownsRow w.heap.size 9 1 (.slice a (feedL ((P k).y.S ++ c)).ms.length c') (feedL ((P k).y.S ++ c)).ms.length (strV (feedL ((P k).y.S ++ c)).ms) ∧ Kept base w w' ∧
    (match (feedL ((P k).y.S ++ c)).bad with
      | some _ => Blk w' l (lkCells P ep tk) 59 ∧ Gs b w' ∧ Ge w'
      | none => ∃ v', LkAt b base l (upd P k ⟨(P k).r, v', (P k).b, (P k).D, ⟨(P k).y.W, (feedL ((P k).y.S ++ c)).rest⟩⟩) ep tk w')
theorem feed_way {b : Addr} {base l ep tk k : Nat} {P : Nat → Wa} {w : World} (h : LkAt b base l P ep tk w) (hk : k < 2) (hS : (P k).y.S.length < 65540) (s : ByteArray) (hs : s.size ≤ 262144) :
    Calls Tryd.prog 36 #[.pointer (some ⟨(P k).r, 0, none⟩), .string s] w (FdPost b base l ep tk k P s.data.toList w) := by
  have hw := h.wa k hk
  have hm := feed_small (c := s.data.toList) hS hs
  refine (feed_any base (P k).r (P k).v (P k).y.S 0 s b w hw.rd h.gs h.ge h.h0 h.h1 h.hB (by omega) (by omega)).mono ?_
  rintro e w' ⟨lv, v', rfl, hrd, hown, hbut, hfrom⟩
  have hkept : Kept base w w' := Kept.but hbut hw.rd (Nat.le_refl _)
  have hbel := hkept.below h.hB
  obtain ⟨a, c', rfl⟩ := owns_slice hown
  have hl1 : Blk w' l (lkCells P ep tk) 59 := by
    refine (hbut.block l h.blk.lt ?_ ?_).trans h.blk
    · exact fun e => Blk.ne hw.rd.blk h.blk (by decide) e.symm
    · exact row_block hw.rd.own h.blk (by decide)
  cases hb : (feedL ((P k).y.S ++ s.data.toList)).bad with
  | some m =>
    have hf : feedR ⟨(P k).y.S, 0⟩ s.data.toList = ((feedL ((P k).y.S ++ s.data.toList)).ms, ⟨[], errN m⟩) := by unfold feedR; rw [if_neg (by simp)]; simp only [hb]
    rw [hf] at hrd hown ⊢
    refine ⟨a, c', by rw [hb], hown, hkept, ?_⟩
    rw [hb]
    exact ⟨hl1, h.gs.low hbel h.h1, h.ge.low hbel h.h0⟩
  | none =>
    have hf : feedR ⟨(P k).y.S, 0⟩ s.data.toList = ((feedL ((P k).y.S ++ s.data.toList)).ms, ⟨(feedL ((P k).y.S ++ s.data.toList)).rest, 0⟩) := by unfold feedR; rw [if_neg (by simp)]; simp only [hb]
    rw [hf] at hrd hown ⊢
    refine ⟨a, c', by rw [hb], hown, hkept, ?_⟩
    rw [hb]
    refine ⟨v', h.move k hk _ ?_ ?_ ?_ rfl hfrom (fun g e => .inl e) hkept⟩
    · rw [← lk_same P ep tk ⟨(P k).r, v', (P k).b, (P k).D, ⟨(P k).y.W, (feedL ((P k).y.S ++ s.data.toList)).rest⟩⟩ rfl rfl rfl]
      exact hl1
    · refine ⟨hrd, hbut.own hw.row (row_block hw.row hw.rd.blk (by decide)) (fun g e e' => hw.ap g e' e), ?_⟩
      intro g hg hgb
      rcases hfrom g hg with e | e
      · exact hw.ap g e hgb
      · have := (own_heap hw.row hgb).2.1; omega
    · exact fun g hlt _ hr hv _ => hbut.block g hlt hr hv

def erB (r : Option Nat) : Nat := match r with | some m => errN m | none => 0
/-- The same, with the answer's numbers by name. -/
def FdAt (b : Addr) (base l ep tk k : Nat) (P : Nat → Wa) (F : Fed) (N E : Nat) (w : World) (e : Ending) (w' : World) : Prop :=
  ∃ a c', e = .returned (.tuple #[.slice a N c', .int .i64 (E : Int)]) ∧ w'.ownsRow w.heap.size 9 1 (.slice a N c') N (strV F.ms) ∧ Kept base w w' ∧
    (∀ m, F.bad = some m → Blk w' l (lkCells P ep tk) 59 ∧ Gs b w' ∧ Ge w') ∧
    (F.bad = none → ∃ v', LkAt b base l (upd P k ⟨(P k).r, v', (P k).b, (P k).D, ⟨(P k).y.W, F.rest⟩⟩) ep tk w')
theorem feed_way' {b : Addr} {base l ep tk k r N E : Nat} {P : Nat → Wa} {w : World} {F : Fed} {S : List UInt8} (h : LkAt b base l P ep tk w) (hk : k < 2) (hr : (P k).r = r) (hSe : (P k).y.S = S) (hS : S.length < 65540) (s : ByteArray) (hs : s.size ≤ 262144) (hF : feedL (S ++ s.data.toList) = F) (hN : F.ms.length = N) (hE : erB F.bad = E) :
    Calls Tryd.prog 36 #[.pointer (some ⟨r, 0, none⟩), .string s] w (FdAt b base l ep tk k P F N E w) := by
  subst hr; subst hSe; subst hF; subst hN; subst hE
  refine (feed_way h hk hS s hs).mono ?_
  rintro e w' ⟨a, c', he, ho, hk', hm⟩
  refine ⟨a, c', he, ho, hk', ?_, ?_⟩
  · intro m hb; rw [hb] at hm; exact hm
  · intro hb; rw [hb] at hm; exact hm
/-- A way with what Take leaves of its bytes. -/
def Tkn (P : Nat → Wa) (k n : Nat) (b' : Value) (D' : List UInt8) : Nat → Wa := upd P k ⟨(P k).r, (P k).v, b', D', ⟨(P k).y.W.drop n, (P k).y.S⟩⟩
theorem tkn_r (P : Nat → Wa) (k n : Nat) (b' : Value) (D' : List UInt8) : (Tkn P k n b' D' k).r = (P k).r ∧ (Tkn P k n b' D' k).y.S = (P k).y.S := by unfold Tkn; rw [upd_same]; exact ⟨rfl, rfl⟩
def TkPost (b : Addr) (base l : Nat) (x : Lk) (k n : Nat) (w : World) (e : Ending) (w' : World) : Prop :=
  ∃ a c, e = .returned (.tuple #[.slice a (takeL x k n).1.length c, .int .i64 ((takeL x k n).2.1 : Int)]) ∧ w'.ownsRow w.heap.size 9 1 (.slice a (takeL x k n).1.length c) (takeL x k n).1.length (strV (takeL x k n).1) ∧
    LkIs b base l (takeL x k n).2.2 w' ∧ Kept base w w'
theorem take_none {b : Addr} {base l k n N : Nat} {x : Lk} {P : Nat → Wa} {w w1 w2 : World} {F : Fed} {C : ByteArray} {b' : Value} {D' : List UInt8} {a : Option Addr} {c : Nat} (hF : feedL ((x.at k).S ++ C.data.toList) = F) (hN : F.ms.length = N)
    (hA : LkAt b base l P x.ep x.tk w ∧ x.Ok ∧ (∀ k, k < 2 → (P k).y = x.at k ∧ (P k).D.length ≤ 262144) ∧ (P k).y = x.at k ∧ (P k).D.length ≤ 262144 ∧ (⟨((P k).y.W.take n).toArray⟩ : ByteArray) = C ∧ C.data.toList = (x.at k).W.take n) (hB : F.bad = none)
    (h1 : D'.length ≤ 262144 ∧ LkAt b base l (Tkn P k n b' D') x.ep x.tk w1 ∧ Kept base w.drew w1)
    (h2 : w2.ownsRow w1.heap.size 9 1 (.slice a N c) N (strV F.ms) ∧ Kept base w1 w2 ∧ (∀ m, F.bad = some m → Blk w2 l (lkCells (Tkn P k n b' D') x.ep x.tk) 59 ∧ Gs b w2 ∧ Ge w2) ∧
      (F.bad = none → ∃ v', LkAt b base l (upd (Tkn P k n b' D') k ⟨(Tkn P k n b' D' k).r, v', (Tkn P k n b' D' k).b, (Tkn P k n b' D' k).D, ⟨(Tkn P k n b' D' k).y.W, F.rest⟩⟩) x.ep x.tk w2)) (hk : k < 2) :
    TkPost b base l x k n w (.returned (.tuple #[.slice a N c, .int .i64 0])) w2 := by
  obtain ⟨v', hl2⟩ := h2.2.2.2 hB
  have hk0 : Kept base w w2 := (Kept.of ((Below.refl _ _).drew)).trans (h1.2.2.trans h2.2.1)
  have hsz : w.heap.size ≤ w1.heap.size := by have := h1.2.2.size; rw [World.size_drew] at this; exact this
  have ht : takeL x k n = (F.ms, 0, x.put k ⟨(x.at k).W.drop n, F.rest⟩) := by
    unfold takeL
    rw [← hA.2.2.2.2.2.2, hF]
    simp only [hB]
  unfold TkPost
  rw [ht]
  subst hN
  refine ⟨a, c, rfl, own_less h2.1 hsz, ?_, hk0⟩
  unfold Tkn at hl2
  rw [upd_upd, upd_same] at hl2
  have hok := take_ok (hA.2.1.at k) n (by rw [← hA.2.2.2.2.2.2, hF]; exact hB)
  rw [← hA.2.2.2.2.2.2, hF] at hok
  have := LkIs.put hA.2.1 hA.2.2.1 hk ⟨(P k).r, v', b', D', ⟨(P k).y.W.drop n, F.rest⟩⟩ (by rw [hA.2.2.2.1]; exact hok) h1.1 rfl rfl hl2
  rw [hA.2.2.2.1] at this
  exact this
theorem take_some {b : Addr} {base l k n N m E : Nat} {x : Lk} {P : Nat → Wa} {w w1 w2 w3 : World} {F : Fed} {C : ByteArray} {a : Option Addr} {c : Nat} (hF : feedL ((x.at k).S ++ C.data.toList) = F) (hN : F.ms.length = N)
    (hA : LkAt b base l P x.ep x.tk w ∧ x.Ok ∧ (∀ k, k < 2 → (P k).y = x.at k ∧ (P k).D.length ≤ 262144) ∧ (P k).y = x.at k ∧ (P k).D.length ≤ 262144 ∧ (⟨((P k).y.W.take n).toArray⟩ : ByteArray) = C ∧ C.data.toList = (x.at k).W.take n) (hB : F.bad = some m) (hE : errN m = E)
    (h1 : Kept base w.drew w1) (h2 : w2.ownsRow w1.heap.size 9 1 (.slice a N c) N (strV F.ms)) (hk2 : Kept base w1 w2) (hl3 : LkIs b base l (lk0 (x.ep + 1)) w3) (hk3 : Kept base w2 w3) :
    TkPost b base l x k n w (.returned (.tuple #[.slice a N c, .int .i64 (E : Int)])) w3 := by
  have hk0 : Kept base w w3 := (Kept.of ((Below.refl _ _).drew)).trans (h1.trans (hk2.trans hk3))
  have hsz : w.heap.size ≤ w1.heap.size := by have := h1.size; rw [World.size_drew] at this; exact this
  have ht : takeL x k n = (F.ms, errN m, lk0 (x.ep + 1)) := by
    unfold takeL
    rw [← hA.2.2.2.2.2.2, hF]
    simp only [hB]
  unfold TkPost
  rw [ht]
  subst hN; subst hE
  exact ⟨a, c, rfl, own_less (hk3.own h2 (by decide) (by decide) (by decide)) hsz, hl3, hk0⟩
set_option maxRecDepth 100000 in
set_option maxHeartbeats 1000000 in
theorem takeL_way {b : Addr} {base l : Nat} {x : Lk} {w : World} (h : LkIs b base l x w) (hep : x.ep ≤ 1000000) (k : Nat) (hk : k < 2) (n : Nat) (hn : (n : Int) ≤ 9223372036854775807) :
    Calls Tryd.prog 20 #[.pointer (some ⟨l, 0, none⟩), .int .i64 (k : Int), .int .i64 (n : Int)] w (TkPost b base l x k n w) := by
  obtain ⟨P, h1, h2, h3⟩ := h
  obtain ⟨hy, hD⟩ := h3 k hk
  have hr := (h2.at k).room
  have hS := (h2.at k).len
  have c0 := ((h1.below ((Below.refl _ _).drew)).cells hk).1
  obtain ⟨C, hC⟩ : ∃ C : ByteArray, (⟨((P k).y.W.take n).toArray⟩ : ByteArray) = C := ⟨_, rfl⟩
  have hCl : C.data.toList = (x.at k).W.take n := by rw [← hC, hy]
  have hCs : C.size ≤ 262144 := by
    have : C.size = C.data.toList.length := rfl
    rw [this, hCl, List.length_take]; omega
  obtain ⟨F, hF⟩ : ∃ F, feedL ((x.at k).S ++ C.data.toList) = F := ⟨_, rfl⟩
  obtain ⟨N, hN⟩ : ∃ N, F.ms.length = N := ⟨_, rfl⟩
  obtain ⟨E, hE⟩ : ∃ E, erB F.bad = E := ⟨_, rfl⟩
  have HF := Lib.hid (And.intro hF (And.intro hN hE)); clear hF hN hE
  have HA := Lib.hid (And.intro h1 (And.intro h2 (And.intro h3 (And.intro hy (And.intro hD (And.intro hC hCl)))))); clear h1 h2 h3 hy hD hC hCl
  cases hb : F.bad with
  | none =>
    obtain rfl : E = 0 := by have := HF.out.2.2; rw [hb] at this; exact this.symm
    have HB := Lib.hid hb; clear hb
    go_enter Tryd.func20, Tryd.ntmps20
    go_wp2_with fail
    refine (find_way l k hk w).mono ?_
    rintro e w' ⟨rfl, rfl⟩
    go_wp2_with fail
    go_region_law (first
      | (go_simp; go_at_call 37; refine (take_way (HA.out.1.below ((Below.refl _ _).drew)) hk HA.out.2.2.2.2.1 (by rw [HA.out.2.2.2.1]; exact hr) n hn).mono ?_; rintro e w1 ⟨rfl, b', D', hD', hl1, hk1⟩; rw [HA.out.2.2.2.2.2.1]; have hl1 : LkAt b base l (Tkn P k n b' D') x.ep x.tk w1 := hl1; have d0 := (hl1.cells hk).1; rw [(tkn_r P k n b' D').1] at d0; have H1 := Lib.hid (And.intro hD' (And.intro hl1 hk1)); clear hD' hl1 hk1)
      | (go_simp; go_at_call 36; refine (feed_way' (P := Tkn P k n _ _) H1.out.2.1 hk (tkn_r P k n _ _).1 ((tkn_r P k n _ _).2.trans (congrArg Wy.S HA.out.2.2.2.1)) hS C hCs HF.out.1 HF.out.2.1 HF.out.2.2).mono ?_; rintro e w2 ⟨a, c, rfl, hown, hkp, hmt⟩; have H2 := Lib.hid (And.intro hown (And.intro hkp hmt)); clear hown hkp hmt))
    all_goals
      go_wp2
      go_ret2
      exact take_none HF.out.1 HF.out.2.1 HA.out HB.out H1.out H2.out hk
  | some m =>
    have he0 : errN m ≠ 0 := feedL_bad_ne _ m (by rw [HF.out.1]; exact hb)
    obtain rfl : E = errN m := by have := HF.out.2.2; rw [hb] at this; exact this.symm
    obtain ⟨E, hE⟩ : ∃ E, errN m = E := ⟨_, rfl⟩
    have HF2 := HF.out
    rw [hE] at HF2 he0
    clear HF
    have HF := Lib.hid HF2; clear HF2
    have HB := Lib.hid (And.intro hb hE); clear hb hE
    have hne : ((E : Int) != 0) = true := by simp; omega
    go_enter Tryd.func20, Tryd.ntmps20
    go_wp2_with fail
    refine (find_way l k hk w).mono ?_
    rintro e w' ⟨rfl, rfl⟩
    go_wp2_with fail
    go_region_law (first
      | (go_simp; go_at_call 37; refine (take_way (HA.out.1.below ((Below.refl _ _).drew)) hk HA.out.2.2.2.2.1 (by rw [HA.out.2.2.2.1]; exact hr) n hn).mono ?_; rintro e w1 ⟨rfl, b', D', hD', hl1, hk1⟩; rw [HA.out.2.2.2.2.2.1]; have hl1 : LkAt b base l (Tkn P k n b' D') x.ep x.tk w1 := hl1; have d0 := (hl1.cells hk).1; rw [(tkn_r P k n b' D').1] at d0; have H1 := Lib.hid (And.intro hD' (And.intro hl1 hk1)); clear hD' hl1 hk1)
      | (go_simp; go_at_call 36; refine (feed_way' (P := Tkn P k n _ _) H1.out.2.1 hk (tkn_r P k n _ _).1 ((tkn_r P k n _ _).2.trans (congrArg Wy.S HA.out.2.2.2.1)) hS C hCs HF.out.1 HF.out.2.1 HF.out.2.2).mono ?_; rintro e w2 ⟨a, c, rfl, hown, hkp, hmt⟩; have H2 := Lib.hid (And.intro hown (And.intro hkp hmt)); clear hown hkp hmt))
    all_goals
      go_wp2_with fail
      refine (reset_any b base l x.ep _ _ _ _ _ _ _ w2 (H2.out.2.2.1 m HB.out.1).1 HA.out.1.bl (H2.out.2.2.1 m HB.out.1).2.1 (H2.out.2.2.1 m HB.out.1).2.2 HA.out.1.h0 HA.out.1.h1 hep).mono ?_
      rintro e w3 ⟨rfl, hl3, hk3⟩
      go_wp2
      go_ret2
      exact take_some HF.out.1 HF.out.2.1 HA.out HB.out.1 HB.out.2 H1.out.2.2 H2.out.1 H2.out.2.1 hl3 hk3
end Go.Proofs.YtkfbhiggnnjoiaaDoor
