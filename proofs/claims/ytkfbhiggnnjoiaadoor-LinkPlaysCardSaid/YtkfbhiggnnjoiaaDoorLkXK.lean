/- link: the reference's Take. -/
import Derived.Test.YtkfbhiggnnjoiaaDoorLkXT
namespace Go.Proofs.YtkfbhiggnnjoiaaDoor
open Go.RowKit Go.Lib

def goneL (x : Lk) (k n gone : Nat) : Nat := match (feedL ((x.at k).S ++ (x.at k).W.take n)).bad with | some _ => 0 | none => gone
def XtPost (base : Nat) (f : Xm) (x : Lk) (k n gone : Nat) (w : World) (e : Ending) (w' : World) : Prop :=
  ∃ a c, e = .returned (.tuple #[.slice a (takeL x k n).1.length c, .int .i64 ((takeL x k n).2.1 : Int)]) ∧ w'.ownsRow w.heap.size 9 1 (.slice a (takeL x k n).1.length c) (takeL x k n).1.length (strV (takeL x k n).1) ∧
    ∃ f' : Xm, f'.m = f.m ∧ XkAt base f' (takeL x k n).2.2 (goneL x k n gone) w' ∧ FKept (Ft f) w w' ∧ (∀ k, Ft f' k → Ft f k ∨ w.heap.size ≤ k)
theorem But.fkept {r : Nat} {w w' : World} {f : Xm} (h : But r (.slice none 0 0) w w') (hr : Ft f r) : FKept (Ft f) w w' :=
  ⟨h.os, h.tape, h.output, h.size, fun k hk hn => h.block k hk (fun e => hn (by rw [e]; exact hr)) (by simp [Value.ownBlock])⟩
theorem But.blk {r q : Nat} {w w' : World} {c : Array Value} {t : TypeId} (h : But r (.slice none 0 0) w w') (hq : Blk w q c t) (hn : q ≠ r) : Blk w' q c t :=
  (h.block q hq.lt hn (by simp [Value.ownBlock])).trans hq

theorem XkAt.fed0 {base gone : Nat} {f : Xm} {y : Lk} {w w' : World} {S : List UInt8} (h : XkAt base f y gone w) (hb : But f.r0 (.slice none 0 0) w w') (hx : XAt f.r0 S 0 w') : XkAt base f (y.put 0 ⟨y.a.W, S⟩) gone w' := by
  obtain ⟨T0, T1, h0, h1, hw⟩ := h.ws
  obtain ⟨U, _, hu⟩ := h.x0
  refine ⟨hb.blk h.blk (Blk.ne h.blk hu (by decide)), ⟨T0, T1, h0, h1, hb.blk hw (Blk.ne hw hu (by decide))⟩, hb.blk h.rs (Blk.ne h.rs hu (by decide)), ?_, ?_, h.ne, h.low⟩
  · exact hx
  · exact h.x1.keep (fun c hc => hb.blk hc (fun e => h.ne e.symm))
set_option maxRecDepth 100000 in
set_option maxHeartbeats 1000000 in
theorem xtake_0A {base gone : Nat} {f : Xm} {x : Lk} {w : World} (h : XkAt base f x gone w) (hok : x.Ok) (hep : x.ep ≤ 1000000) (n : Nat) (_hn : (n : Int) ≤ 9223372036854775807) (hcase : x.a.W.length < n) :
    Calls Tryd.prog 27 #[.pointer (some ⟨f.m, 0, none⟩), .int .i64 0, .int .i64 (n : Int)] w (XtPost base f x 0 n gone w) := by
  obtain ⟨T, hT, c1, f1⟩ := h.way0
  have c0 : w.cell? ⟨f.m, 0, none⟩ = some (.slice (some ⟨f.gw, 0, none⟩) 2 2) := h.blk.cell 0
  have hTl : T.size = x.a.W.length := by rw [← hT]; rfl
  have hTs : T.size ≤ 262144 := by have := hok.1.room; omega
  have hSs := hok.1.len
  obtain ⟨N, hN⟩ : ∃ N, min n T.size = N := ⟨_, rfl⟩
  have hNT : N ≤ T.size := by omega
  have hNi : (N : Int) ≤ (T.size : Int) := by omega
  have hmin : (T.size : Int) < (n : Int) := by omega
  have hwl : x.a.W.length = T.data.toList.length := by rw [hT]
  have htk : x.a.W.take n = x.a.W.take N := by
    rw [← hN]
    rcases Nat.le_total n T.size with h1 | h1
    · rw [Nat.min_eq_left h1]
    · rw [Nat.min_eq_right h1, List.take_of_length_le (by omega), List.take_of_length_le (by omega)]
  have hdr : x.a.W.drop n = x.a.W.drop N := by
    rw [← hN]
    rcases Nat.le_total n T.size with h1 | h1
    · rw [Nat.min_eq_left h1]
    · rw [Nat.min_eq_right h1, List.drop_eq_nil_of_le (by omega), List.drop_eq_nil_of_le (by omega)]
  have hC : T.data.toList = x.a.W.take n := by rw [hT, List.take_of_length_le (by omega)]
  have hR : ByteArray.empty.data.toList = x.a.W.drop n := by rw [List.drop_eq_nil_of_le (by omega)]; rfl
  have hCl := hC
  have hRl := hR
  have hCs : T.size ≤ 262144 := hTs
  obtain ⟨F, hF⟩ : ∃ F, feedL (x.a.S ++ x.a.W.take n) = F := ⟨_, rfl⟩
  have hput := (h.below ((Below.refl _ _).drew)).put0 ByteArray.empty
  rw [hRl] at hput
  have HLow := Lib.hid (h.low f.m (.inl rfl))
  have HP := Lib.hid (And.intro hput (And.intro hT (And.intro hCl (And.intro hRl hF)))); clear hput hT hCl hRl hF htk hdr hTl hN hwl
  cases hb : F.bad with
  | none =>
    have hf : feedR ⟨x.a.S, 0⟩ T.data.toList = (F.ms, ⟨F.rest, 0⟩) := feedR_none (by rw [HP.out.2.2.1, HP.out.2.2.2.2, ← hb])
    have hte : takeL x 0 n = (F.ms, 0, x.put 0 ⟨x.a.W.drop n, F.rest⟩) := by
      unfold takeL
      have : ((x.at 0).S ++ (x.at 0).W.take n) = x.a.S ++ x.a.W.take n := rfl
      simp only [this, HP.out.2.2.2.2, hb]; rfl
    have hge : goneL x 0 n gone = gone := by
      unfold goneL
      have : ((x.at 0).S ++ (x.at 0).W.take n) = x.a.S ++ x.a.W.take n := rfl
      simp only [this, HP.out.2.2.2.2, hb]
    have HF := Lib.hid (And.intro hf (And.intro hte hge)); clear hf hte hge hb
    go_enter Tryd.func27, Tryd.ntmps27
    go_wp2_with fail
    go_region
    obtain ⟨w1, hw1⟩ : ∃ w1, (w.setCell ⟨f.gw, 0, none⟩ (.string ByteArray.empty)).drew = w1 := ⟨_, rfl⟩
    rw [hw1]
    clear hC hR hmin
    have hx1 : XkAt base f (x.put 0 ⟨x.a.W.drop n, x.a.S⟩) gone w1 := by rw [← hw1]; exact HP.out.1
    have hk1 : FKept (Ft f) w w1 := by rw [← hw1]; exact (FKept.of ((Below.refl _ _).drew)).trans (FKept.set (F := Ft f) (.inr (.inl rfl))) (fun _ h => .inl h)
    clear hw1 c0 c1 f1
    have d0 : w1.cell? ⟨f.m, 1, none⟩ = some (.slice (some ⟨f.gr, 0, none⟩) 2 2) := hx1.blk.cell 1
    have d1 : w1.cell? ⟨f.gr, 0, none⟩ = some (.pointer (some ⟨f.r0, 0, none⟩)) := hx1.rs.cell 0
    have HX1 := Lib.hid (And.intro hx1 hk1); clear hx1 hk1
    go_wp2_with fail
    refine (ref_feed f.r0 x.a.S T w1 HX1.out.1.x0 (by omega)).mono ?_
    rintro e w2 ⟨a, c, rfl, hxa, hown, hbut⟩
    rw [HF.out.1] at hxa hown ⊢
    have HX2 := Lib.hid (And.intro hxa (And.intro hown hbut)); clear hxa hown hbut
    go_wp2
    go_ret2
    have hsz := HX1.out.2.size
    refine ⟨a, c, by rw [HF.out.2.1]; rfl, by rw [HF.out.2.1]; exact own_less HX2.out.2.1 hsz, f, rfl, ?_, HX1.out.2.trans (HX2.out.2.2.fkept (.inr (.inr (.inr (.inl rfl))))) (fun _ h => .inl h), fun _ h => .inl h⟩
    rw [HF.out.2.1, HF.out.2.2]
    have := HX1.out.1.fed0 HX2.out.2.2 HX2.out.1
    rw [put_put] at this
    exact this
  | some m =>
    have hf : feedR ⟨x.a.S, 0⟩ T.data.toList = (F.ms, ⟨[], errN m⟩) := feedR_some (by rw [HP.out.2.2.1, HP.out.2.2.2.2, ← hb])
    have hte : takeL x 0 n = (F.ms, errN m, lk0 (x.ep + 1)) := by
      unfold takeL
      have : ((x.at 0).S ++ (x.at 0).W.take n) = x.a.S ++ x.a.W.take n := rfl
      simp only [this, HP.out.2.2.2.2, hb]
    have hge : goneL x 0 n gone = 0 := by
      unfold goneL
      have : ((x.at 0).S ++ (x.at 0).W.take n) = x.a.S ++ x.a.W.take n := rfl
      simp only [this, HP.out.2.2.2.2, hb]
    have he0 : errN m ≠ 0 := feedL_bad_ne _ m (by rw [HP.out.2.2.2.2]; exact hb)
    obtain ⟨E, hE⟩ : ∃ E, errN m = E := ⟨_, rfl⟩
    rw [hE] at hf hte he0
    have hne : ((E : Int) != 0) = true := by simp; omega
    have HF := Lib.hid (And.intro hf (And.intro hte hge)); clear hf hte hge hb hE he0
    go_enter Tryd.func27, Tryd.ntmps27
    go_wp2_with fail
    go_region
    obtain ⟨w1, hw1⟩ : ∃ w1, (w.setCell ⟨f.gw, 0, none⟩ (.string ByteArray.empty)).drew = w1 := ⟨_, rfl⟩
    rw [hw1]
    clear hC hR hmin
    have hx1 : XkAt base f (x.put 0 ⟨x.a.W.drop n, x.a.S⟩) gone w1 := by rw [← hw1]; exact HP.out.1
    have hk1 : FKept (Ft f) w w1 := by rw [← hw1]; exact (FKept.of ((Below.refl _ _).drew)).trans (FKept.set (F := Ft f) (.inr (.inl rfl))) (fun _ h => .inl h)
    clear hw1 c0 c1 f1
    have d0 : w1.cell? ⟨f.m, 1, none⟩ = some (.slice (some ⟨f.gr, 0, none⟩) 2 2) := hx1.blk.cell 1
    have d1 : w1.cell? ⟨f.gr, 0, none⟩ = some (.pointer (some ⟨f.r0, 0, none⟩)) := hx1.rs.cell 0
    have HX1 := Lib.hid (And.intro hx1 hk1); clear hx1 hk1
    go_wp2_with fail
    refine (ref_feed f.r0 x.a.S T w1 HX1.out.1.x0 (by omega)).mono ?_
    rintro e w2 ⟨a, c, rfl, hxa, hown, hbut⟩
    rw [HF.out.1] at hxa hown ⊢
    have HX2 := Lib.hid (And.intro hxa (And.intro hown hbut)); clear hxa hown hbut
    have hm2 : ∃ U, Blk w1 f.r0 #[.string U, .int .i64 0] 74 := by obtain ⟨U, _, hu⟩ := HX1.out.1.x0; exact ⟨U, hu⟩
    have HM2 := Lib.hid hm2; clear hm2
    have hblk2 : Blk w2 f.m #[.slice (some ⟨f.gw, 0, none⟩) 2 2, .slice (some ⟨f.gr, 0, none⟩) 2 2, .int .u64 (x.ep : Int), .int .i64 (gone : Int)] 36 := by
      obtain ⟨U, hu⟩ := HM2.out
      have := HX1.out.1.blk
      rw [Lk.put_ep] at this
      exact HX2.out.2.2.blk this (Blk.ne this hu (by decide))
    have HB2 := Lib.hid hblk2; clear hblk2
    go_wp2_with fail
    refine (xreset_any HB2.out HLow.out hep).mono ?_
    rintro e w3 ⟨rfl, f', hm', hx3, hk3, hf3⟩
    have HX3 := Lib.hid (And.intro hm' (And.intro hx3 (And.intro hk3 hf3))); clear hm' hx3 hk3 hf3
    go_wp2
    go_ret2
    have hsz := HX1.out.2.size
    have hk2 : FKept (Ft f) w1 w2 := HX2.out.2.2.fkept (.inr (.inr (.inr (.inl rfl))))
    have hsz2 := hk2.size
    refine ⟨a, c, by rw [HF.out.2.1]; rfl, ?_, f', HX3.out.1, ?_, (HX1.out.2.trans hk2 (fun _ h => .inl h)).trans HX3.out.2.2.1 (fun k e => .inl (by rw [e]; exact .inl rfl)), fun k hk => (HX3.out.2.2.2 k hk).imp (fun e => by rw [e]; exact .inl rfl) (fun h => by omega)⟩
    · rw [HF.out.2.1]
      exact HX3.out.2.2.1.own (own_less HX2.out.2.1 hsz) (fun g hg e => row_block HX2.out.2.1 HB2.out (by decide) (by rw [hg, e]))
    · rw [HF.out.2.1, HF.out.2.2]; exact HX3.out.2.1
set_option maxRecDepth 100000 in
set_option maxHeartbeats 1000000 in
theorem xtake_0B {base gone : Nat} {f : Xm} {x : Lk} {w : World} (h : XkAt base f x gone w) (hok : x.Ok) (hep : x.ep ≤ 1000000) (n : Nat) (hn : (n : Int) ≤ 9223372036854775807) (hcase : n ≤ x.a.W.length) :
    Calls Tryd.prog 27 #[.pointer (some ⟨f.m, 0, none⟩), .int .i64 0, .int .i64 (n : Int)] w (XtPost base f x 0 n gone w) := by
  obtain ⟨T, hT, c1, f1⟩ := h.way0
  have c0 : w.cell? ⟨f.m, 0, none⟩ = some (.slice (some ⟨f.gw, 0, none⟩) 2 2) := h.blk.cell 0
  have hTl : T.size = x.a.W.length := by rw [← hT]; rfl
  have hTs : T.size ≤ 262144 := by have := hok.1.room; omega
  have hSs := hok.1.len
  obtain ⟨N, hN⟩ : ∃ N, min n T.size = N := ⟨_, rfl⟩
  have hNT : N ≤ T.size := by omega
  have hNi : (N : Int) ≤ (T.size : Int) := by omega
  have hmin : ¬ (T.size : Int) < (n : Int) := by omega
  have hwl : x.a.W.length = T.data.toList.length := by rw [hT]
  have htk : x.a.W.take n = x.a.W.take N := by
    rw [← hN]
    rcases Nat.le_total n T.size with h1 | h1
    · rw [Nat.min_eq_left h1]
    · rw [Nat.min_eq_right h1, List.take_of_length_le (by omega), List.take_of_length_le (by omega)]
  have hdr : x.a.W.drop n = x.a.W.drop N := by
    rw [← hN]
    rcases Nat.le_total n T.size with h1 | h1
    · rw [Nat.min_eq_left h1]
    · rw [Nat.min_eq_right h1, List.drop_eq_nil_of_le (by omega), List.drop_eq_nil_of_le (by omega)]
  obtain rfl : n = N := by omega
  obtain ⟨C, hC⟩ : ∃ C, T.extract 0 n = C := ⟨_, rfl⟩
  obtain ⟨R, hR⟩ : ∃ R, T.extract n T.size = R := ⟨_, rfl⟩
  have hCl : C.data.toList = x.a.W.take n := by rw [← hC, ← hT]; simp
  have hRl : R.data.toList = x.a.W.drop n := by rw [← hR, ext_drop, ← hT]
  have hCs : C.size ≤ 262144 := by
    have : C.size = C.data.toList.length := rfl
    rw [this, hCl, List.length_take]; omega
  obtain ⟨F, hF⟩ : ∃ F, feedL (x.a.S ++ x.a.W.take n) = F := ⟨_, rfl⟩
  have hput := (h.below ((Below.refl _ _).drew)).put0 R
  rw [hRl] at hput
  have HLow := Lib.hid (h.low f.m (.inl rfl))
  have HP := Lib.hid (And.intro hput (And.intro hT (And.intro hCl (And.intro hRl hF)))); clear hput hT hCl hRl hF htk hdr hTl hN hwl
  cases hb : F.bad with
  | none =>
    have hf : feedR ⟨x.a.S, 0⟩ C.data.toList = (F.ms, ⟨F.rest, 0⟩) := feedR_none (by rw [HP.out.2.2.1, HP.out.2.2.2.2, ← hb])
    have hte : takeL x 0 n = (F.ms, 0, x.put 0 ⟨x.a.W.drop n, F.rest⟩) := by
      unfold takeL
      have : ((x.at 0).S ++ (x.at 0).W.take n) = x.a.S ++ x.a.W.take n := rfl
      simp only [this, HP.out.2.2.2.2, hb]; rfl
    have hge : goneL x 0 n gone = gone := by
      unfold goneL
      have : ((x.at 0).S ++ (x.at 0).W.take n) = x.a.S ++ x.a.W.take n := rfl
      simp only [this, HP.out.2.2.2.2, hb]
    have HF := Lib.hid (And.intro hf (And.intro hte hge)); clear hf hte hge hb
    go_enter Tryd.func27, Tryd.ntmps27
    go_wp2_with fail
    go_region
    obtain ⟨w1, hw1⟩ : ∃ w1, (w.setCell ⟨f.gw, 0, none⟩ (.string R)).drew = w1 := ⟨_, rfl⟩
    rw [hw1]
    clear hC hR hmin
    have hx1 : XkAt base f (x.put 0 ⟨x.a.W.drop n, x.a.S⟩) gone w1 := by rw [← hw1]; exact HP.out.1
    have hk1 : FKept (Ft f) w w1 := by rw [← hw1]; exact (FKept.of ((Below.refl _ _).drew)).trans (FKept.set (F := Ft f) (.inr (.inl rfl))) (fun _ h => .inl h)
    clear hw1 c0 c1 f1
    have d0 : w1.cell? ⟨f.m, 1, none⟩ = some (.slice (some ⟨f.gr, 0, none⟩) 2 2) := hx1.blk.cell 1
    have d1 : w1.cell? ⟨f.gr, 0, none⟩ = some (.pointer (some ⟨f.r0, 0, none⟩)) := hx1.rs.cell 0
    have HX1 := Lib.hid (And.intro hx1 hk1); clear hx1 hk1
    go_wp2_with fail
    refine (ref_feed f.r0 x.a.S C w1 HX1.out.1.x0 (by omega)).mono ?_
    rintro e w2 ⟨a, c, rfl, hxa, hown, hbut⟩
    rw [HF.out.1] at hxa hown ⊢
    have HX2 := Lib.hid (And.intro hxa (And.intro hown hbut)); clear hxa hown hbut
    go_wp2
    go_ret2
    have hsz := HX1.out.2.size
    refine ⟨a, c, by rw [HF.out.2.1]; rfl, by rw [HF.out.2.1]; exact own_less HX2.out.2.1 hsz, f, rfl, ?_, HX1.out.2.trans (HX2.out.2.2.fkept (.inr (.inr (.inr (.inl rfl))))) (fun _ h => .inl h), fun _ h => .inl h⟩
    rw [HF.out.2.1, HF.out.2.2]
    have := HX1.out.1.fed0 HX2.out.2.2 HX2.out.1
    rw [put_put] at this
    exact this
  | some m =>
    have hf : feedR ⟨x.a.S, 0⟩ C.data.toList = (F.ms, ⟨[], errN m⟩) := feedR_some (by rw [HP.out.2.2.1, HP.out.2.2.2.2, ← hb])
    have hte : takeL x 0 n = (F.ms, errN m, lk0 (x.ep + 1)) := by
      unfold takeL
      have : ((x.at 0).S ++ (x.at 0).W.take n) = x.a.S ++ x.a.W.take n := rfl
      simp only [this, HP.out.2.2.2.2, hb]
    have hge : goneL x 0 n gone = 0 := by
      unfold goneL
      have : ((x.at 0).S ++ (x.at 0).W.take n) = x.a.S ++ x.a.W.take n := rfl
      simp only [this, HP.out.2.2.2.2, hb]
    have he0 : errN m ≠ 0 := feedL_bad_ne _ m (by rw [HP.out.2.2.2.2]; exact hb)
    obtain ⟨E, hE⟩ : ∃ E, errN m = E := ⟨_, rfl⟩
    rw [hE] at hf hte he0
    have hne : ((E : Int) != 0) = true := by simp; omega
    have HF := Lib.hid (And.intro hf (And.intro hte hge)); clear hf hte hge hb hE he0
    go_enter Tryd.func27, Tryd.ntmps27
    go_wp2_with fail
    go_region
    obtain ⟨w1, hw1⟩ : ∃ w1, (w.setCell ⟨f.gw, 0, none⟩ (.string R)).drew = w1 := ⟨_, rfl⟩
    rw [hw1]
    clear hC hR hmin
    have hx1 : XkAt base f (x.put 0 ⟨x.a.W.drop n, x.a.S⟩) gone w1 := by rw [← hw1]; exact HP.out.1
    have hk1 : FKept (Ft f) w w1 := by rw [← hw1]; exact (FKept.of ((Below.refl _ _).drew)).trans (FKept.set (F := Ft f) (.inr (.inl rfl))) (fun _ h => .inl h)
    clear hw1 c0 c1 f1
    have d0 : w1.cell? ⟨f.m, 1, none⟩ = some (.slice (some ⟨f.gr, 0, none⟩) 2 2) := hx1.blk.cell 1
    have d1 : w1.cell? ⟨f.gr, 0, none⟩ = some (.pointer (some ⟨f.r0, 0, none⟩)) := hx1.rs.cell 0
    have HX1 := Lib.hid (And.intro hx1 hk1); clear hx1 hk1
    go_wp2_with fail
    refine (ref_feed f.r0 x.a.S C w1 HX1.out.1.x0 (by omega)).mono ?_
    rintro e w2 ⟨a, c, rfl, hxa, hown, hbut⟩
    rw [HF.out.1] at hxa hown ⊢
    have HX2 := Lib.hid (And.intro hxa (And.intro hown hbut)); clear hxa hown hbut
    have hm2 : ∃ U, Blk w1 f.r0 #[.string U, .int .i64 0] 74 := by obtain ⟨U, _, hu⟩ := HX1.out.1.x0; exact ⟨U, hu⟩
    have HM2 := Lib.hid hm2; clear hm2
    have hblk2 : Blk w2 f.m #[.slice (some ⟨f.gw, 0, none⟩) 2 2, .slice (some ⟨f.gr, 0, none⟩) 2 2, .int .u64 (x.ep : Int), .int .i64 (gone : Int)] 36 := by
      obtain ⟨U, hu⟩ := HM2.out
      have := HX1.out.1.blk
      rw [Lk.put_ep] at this
      exact HX2.out.2.2.blk this (Blk.ne this hu (by decide))
    have HB2 := Lib.hid hblk2; clear hblk2
    go_wp2_with fail
    refine (xreset_any HB2.out HLow.out hep).mono ?_
    rintro e w3 ⟨rfl, f', hm', hx3, hk3, hf3⟩
    have HX3 := Lib.hid (And.intro hm' (And.intro hx3 (And.intro hk3 hf3))); clear hm' hx3 hk3 hf3
    go_wp2
    go_ret2
    have hsz := HX1.out.2.size
    have hk2 : FKept (Ft f) w1 w2 := HX2.out.2.2.fkept (.inr (.inr (.inr (.inl rfl))))
    have hsz2 := hk2.size
    refine ⟨a, c, by rw [HF.out.2.1]; rfl, ?_, f', HX3.out.1, ?_, (HX1.out.2.trans hk2 (fun _ h => .inl h)).trans HX3.out.2.2.1 (fun k e => .inl (by rw [e]; exact .inl rfl)), fun k hk => (HX3.out.2.2.2 k hk).imp (fun e => by rw [e]; exact .inl rfl) (fun h => by omega)⟩
    · rw [HF.out.2.1]
      exact HX3.out.2.2.1.own (own_less HX2.out.2.1 hsz) (fun g hg e => row_block HX2.out.2.1 HB2.out (by decide) (by rw [hg, e]))
    · rw [HF.out.2.1, HF.out.2.2]; exact HX3.out.2.1
theorem xtake_0 {base gone : Nat} {f : Xm} {x : Lk} {w : World} (h : XkAt base f x gone w) (hok : x.Ok) (hep : x.ep ≤ 1000000) (n : Nat) (hn : (n : Int) ≤ 9223372036854775807) :
    Calls Tryd.prog 27 #[.pointer (some ⟨f.m, 0, none⟩), .int .i64 0, .int .i64 (n : Int)] w (XtPost base f x 0 n gone w) :=
  (Nat.lt_or_ge x.a.W.length n).elim (xtake_0A h hok hep n hn) (xtake_0B h hok hep n hn)

theorem XkAt.fed1 {base gone : Nat} {f : Xm} {y : Lk} {w w' : World} {S : List UInt8} (h : XkAt base f y gone w) (hb : But f.r1 (.slice none 0 0) w w') (hx : XAt f.r1 S 0 w') : XkAt base f (y.put 1 ⟨y.b.W, S⟩) gone w' := by
  obtain ⟨T0, T1, h0, h1, hw⟩ := h.ws
  obtain ⟨U, _, hu⟩ := h.x1
  refine ⟨hb.blk h.blk (Blk.ne h.blk hu (by decide)), ⟨T0, T1, h0, h1, hb.blk hw (Blk.ne hw hu (by decide))⟩, hb.blk h.rs (Blk.ne h.rs hu (by decide)), ?_, ?_, h.ne, h.low⟩
  · exact h.x0.keep (fun c hc => hb.blk hc h.ne)
  · exact hx
set_option maxRecDepth 100000 in
set_option maxHeartbeats 1000000 in
theorem xtake_1A {base gone : Nat} {f : Xm} {x : Lk} {w : World} (h : XkAt base f x gone w) (hok : x.Ok) (hep : x.ep ≤ 1000000) (n : Nat) (_hn : (n : Int) ≤ 9223372036854775807) (hcase : x.b.W.length < n) :
    Calls Tryd.prog 27 #[.pointer (some ⟨f.m, 0, none⟩), .int .i64 1, .int .i64 (n : Int)] w (XtPost base f x 1 n gone w) := by
  obtain ⟨T, hT, c1, f1⟩ := h.way1
  have c0 : w.cell? ⟨f.m, 0, none⟩ = some (.slice (some ⟨f.gw, 0, none⟩) 2 2) := h.blk.cell 0
  have hTl : T.size = x.b.W.length := by rw [← hT]; rfl
  have hTs : T.size ≤ 262144 := by have := hok.2.room; omega
  have hSs := hok.2.len
  obtain ⟨N, hN⟩ : ∃ N, min n T.size = N := ⟨_, rfl⟩
  have hNT : N ≤ T.size := by omega
  have hNi : (N : Int) ≤ (T.size : Int) := by omega
  have hmin : (T.size : Int) < (n : Int) := by omega
  have hwl : x.b.W.length = T.data.toList.length := by rw [hT]
  have htk : x.b.W.take n = x.b.W.take N := by
    rw [← hN]
    rcases Nat.le_total n T.size with h1 | h1
    · rw [Nat.min_eq_left h1]
    · rw [Nat.min_eq_right h1, List.take_of_length_le (by omega), List.take_of_length_le (by omega)]
  have hdr : x.b.W.drop n = x.b.W.drop N := by
    rw [← hN]
    rcases Nat.le_total n T.size with h1 | h1
    · rw [Nat.min_eq_left h1]
    · rw [Nat.min_eq_right h1, List.drop_eq_nil_of_le (by omega), List.drop_eq_nil_of_le (by omega)]
  have hC : T.data.toList = x.b.W.take n := by rw [hT, List.take_of_length_le (by omega)]
  have hR : ByteArray.empty.data.toList = x.b.W.drop n := by rw [List.drop_eq_nil_of_le (by omega)]; rfl
  have hCl := hC
  have hRl := hR
  have hCs : T.size ≤ 262144 := hTs
  obtain ⟨F, hF⟩ : ∃ F, feedL (x.b.S ++ x.b.W.take n) = F := ⟨_, rfl⟩
  have hput := (h.below ((Below.refl _ _).drew)).put1 ByteArray.empty
  rw [hRl] at hput
  have HLow := Lib.hid (h.low f.m (.inl rfl))
  have HP := Lib.hid (And.intro hput (And.intro hT (And.intro hCl (And.intro hRl hF)))); clear hput hT hCl hRl hF htk hdr hTl hN hwl
  cases hb : F.bad with
  | none =>
    have hf : feedR ⟨x.b.S, 0⟩ T.data.toList = (F.ms, ⟨F.rest, 0⟩) := feedR_none (by rw [HP.out.2.2.1, HP.out.2.2.2.2, ← hb])
    have hte : takeL x 1 n = (F.ms, 0, x.put 1 ⟨x.b.W.drop n, F.rest⟩) := by
      unfold takeL
      have : ((x.at 1).S ++ (x.at 1).W.take n) = x.b.S ++ x.b.W.take n := rfl
      simp only [this, HP.out.2.2.2.2, hb]; rfl
    have hge : goneL x 1 n gone = gone := by
      unfold goneL
      have : ((x.at 1).S ++ (x.at 1).W.take n) = x.b.S ++ x.b.W.take n := rfl
      simp only [this, HP.out.2.2.2.2, hb]
    have HF := Lib.hid (And.intro hf (And.intro hte hge)); clear hf hte hge hb
    go_enter Tryd.func27, Tryd.ntmps27
    go_wp2_with fail
    go_region
    obtain ⟨w1, hw1⟩ : ∃ w1, (w.setCell ⟨f.gw, 1, none⟩ (.string ByteArray.empty)).drew = w1 := ⟨_, rfl⟩
    rw [hw1]
    clear hC hR hmin
    have hx1 : XkAt base f (x.put 1 ⟨x.b.W.drop n, x.b.S⟩) gone w1 := by rw [← hw1]; exact HP.out.1
    have hk1 : FKept (Ft f) w w1 := by rw [← hw1]; exact (FKept.of ((Below.refl _ _).drew)).trans (FKept.set (F := Ft f) (.inr (.inl rfl))) (fun _ h => .inl h)
    clear hw1 c0 c1 f1
    have d0 : w1.cell? ⟨f.m, 1, none⟩ = some (.slice (some ⟨f.gr, 0, none⟩) 2 2) := hx1.blk.cell 1
    have d1 : w1.cell? ⟨f.gr, 1, none⟩ = some (.pointer (some ⟨f.r1, 0, none⟩)) := hx1.rs.cell 1
    have HX1 := Lib.hid (And.intro hx1 hk1); clear hx1 hk1
    go_wp2_with fail
    refine (ref_feed f.r1 x.b.S T w1 HX1.out.1.x1 (by omega)).mono ?_
    rintro e w2 ⟨a, c, rfl, hxa, hown, hbut⟩
    rw [HF.out.1] at hxa hown ⊢
    have HX2 := Lib.hid (And.intro hxa (And.intro hown hbut)); clear hxa hown hbut
    go_wp2
    go_ret2
    have hsz := HX1.out.2.size
    refine ⟨a, c, by rw [HF.out.2.1]; rfl, by rw [HF.out.2.1]; exact own_less HX2.out.2.1 hsz, f, rfl, ?_, HX1.out.2.trans (HX2.out.2.2.fkept (.inr (.inr (.inr (.inr rfl))))) (fun _ h => .inl h), fun _ h => .inl h⟩
    rw [HF.out.2.1, HF.out.2.2]
    have := HX1.out.1.fed1 HX2.out.2.2 HX2.out.1
    rw [put_put] at this
    exact this
  | some m =>
    have hf : feedR ⟨x.b.S, 0⟩ T.data.toList = (F.ms, ⟨[], errN m⟩) := feedR_some (by rw [HP.out.2.2.1, HP.out.2.2.2.2, ← hb])
    have hte : takeL x 1 n = (F.ms, errN m, lk0 (x.ep + 1)) := by
      unfold takeL
      have : ((x.at 1).S ++ (x.at 1).W.take n) = x.b.S ++ x.b.W.take n := rfl
      simp only [this, HP.out.2.2.2.2, hb]
    have hge : goneL x 1 n gone = 0 := by
      unfold goneL
      have : ((x.at 1).S ++ (x.at 1).W.take n) = x.b.S ++ x.b.W.take n := rfl
      simp only [this, HP.out.2.2.2.2, hb]
    have he0 : errN m ≠ 0 := feedL_bad_ne _ m (by rw [HP.out.2.2.2.2]; exact hb)
    obtain ⟨E, hE⟩ : ∃ E, errN m = E := ⟨_, rfl⟩
    rw [hE] at hf hte he0
    have hne : ((E : Int) != 0) = true := by simp; omega
    have HF := Lib.hid (And.intro hf (And.intro hte hge)); clear hf hte hge hb hE he0
    go_enter Tryd.func27, Tryd.ntmps27
    go_wp2_with fail
    go_region
    obtain ⟨w1, hw1⟩ : ∃ w1, (w.setCell ⟨f.gw, 1, none⟩ (.string ByteArray.empty)).drew = w1 := ⟨_, rfl⟩
    rw [hw1]
    clear hC hR hmin
    have hx1 : XkAt base f (x.put 1 ⟨x.b.W.drop n, x.b.S⟩) gone w1 := by rw [← hw1]; exact HP.out.1
    have hk1 : FKept (Ft f) w w1 := by rw [← hw1]; exact (FKept.of ((Below.refl _ _).drew)).trans (FKept.set (F := Ft f) (.inr (.inl rfl))) (fun _ h => .inl h)
    clear hw1 c0 c1 f1
    have d0 : w1.cell? ⟨f.m, 1, none⟩ = some (.slice (some ⟨f.gr, 0, none⟩) 2 2) := hx1.blk.cell 1
    have d1 : w1.cell? ⟨f.gr, 1, none⟩ = some (.pointer (some ⟨f.r1, 0, none⟩)) := hx1.rs.cell 1
    have HX1 := Lib.hid (And.intro hx1 hk1); clear hx1 hk1
    go_wp2_with fail
    refine (ref_feed f.r1 x.b.S T w1 HX1.out.1.x1 (by omega)).mono ?_
    rintro e w2 ⟨a, c, rfl, hxa, hown, hbut⟩
    rw [HF.out.1] at hxa hown ⊢
    have HX2 := Lib.hid (And.intro hxa (And.intro hown hbut)); clear hxa hown hbut
    have hm2 : ∃ U, Blk w1 f.r1 #[.string U, .int .i64 0] 74 := by obtain ⟨U, _, hu⟩ := HX1.out.1.x1; exact ⟨U, hu⟩
    have HM2 := Lib.hid hm2; clear hm2
    have hblk2 : Blk w2 f.m #[.slice (some ⟨f.gw, 0, none⟩) 2 2, .slice (some ⟨f.gr, 0, none⟩) 2 2, .int .u64 (x.ep : Int), .int .i64 (gone : Int)] 36 := by
      obtain ⟨U, hu⟩ := HM2.out
      have := HX1.out.1.blk
      rw [Lk.put_ep] at this
      exact HX2.out.2.2.blk this (Blk.ne this hu (by decide))
    have HB2 := Lib.hid hblk2; clear hblk2
    go_wp2_with fail
    refine (xreset_any HB2.out HLow.out hep).mono ?_
    rintro e w3 ⟨rfl, f', hm', hx3, hk3, hf3⟩
    have HX3 := Lib.hid (And.intro hm' (And.intro hx3 (And.intro hk3 hf3))); clear hm' hx3 hk3 hf3
    go_wp2
    go_ret2
    have hsz := HX1.out.2.size
    have hk2 : FKept (Ft f) w1 w2 := HX2.out.2.2.fkept (.inr (.inr (.inr (.inr rfl))))
    have hsz2 := hk2.size
    refine ⟨a, c, by rw [HF.out.2.1]; rfl, ?_, f', HX3.out.1, ?_, (HX1.out.2.trans hk2 (fun _ h => .inl h)).trans HX3.out.2.2.1 (fun k e => .inl (by rw [e]; exact .inl rfl)), fun k hk => (HX3.out.2.2.2 k hk).imp (fun e => by rw [e]; exact .inl rfl) (fun h => by omega)⟩
    · rw [HF.out.2.1]
      exact HX3.out.2.2.1.own (own_less HX2.out.2.1 hsz) (fun g hg e => row_block HX2.out.2.1 HB2.out (by decide) (by rw [hg, e]))
    · rw [HF.out.2.1, HF.out.2.2]; exact HX3.out.2.1
set_option maxRecDepth 100000 in
set_option maxHeartbeats 1000000 in
theorem xtake_1B {base gone : Nat} {f : Xm} {x : Lk} {w : World} (h : XkAt base f x gone w) (hok : x.Ok) (hep : x.ep ≤ 1000000) (n : Nat) (hn : (n : Int) ≤ 9223372036854775807) (hcase : n ≤ x.b.W.length) :
    Calls Tryd.prog 27 #[.pointer (some ⟨f.m, 0, none⟩), .int .i64 1, .int .i64 (n : Int)] w (XtPost base f x 1 n gone w) := by
  obtain ⟨T, hT, c1, f1⟩ := h.way1
  have c0 : w.cell? ⟨f.m, 0, none⟩ = some (.slice (some ⟨f.gw, 0, none⟩) 2 2) := h.blk.cell 0
  have hTl : T.size = x.b.W.length := by rw [← hT]; rfl
  have hTs : T.size ≤ 262144 := by have := hok.2.room; omega
  have hSs := hok.2.len
  obtain ⟨N, hN⟩ : ∃ N, min n T.size = N := ⟨_, rfl⟩
  have hNT : N ≤ T.size := by omega
  have hNi : (N : Int) ≤ (T.size : Int) := by omega
  have hmin : ¬ (T.size : Int) < (n : Int) := by omega
  have hwl : x.b.W.length = T.data.toList.length := by rw [hT]
  have htk : x.b.W.take n = x.b.W.take N := by
    rw [← hN]
    rcases Nat.le_total n T.size with h1 | h1
    · rw [Nat.min_eq_left h1]
    · rw [Nat.min_eq_right h1, List.take_of_length_le (by omega), List.take_of_length_le (by omega)]
  have hdr : x.b.W.drop n = x.b.W.drop N := by
    rw [← hN]
    rcases Nat.le_total n T.size with h1 | h1
    · rw [Nat.min_eq_left h1]
    · rw [Nat.min_eq_right h1, List.drop_eq_nil_of_le (by omega), List.drop_eq_nil_of_le (by omega)]
  obtain rfl : n = N := by omega
  obtain ⟨C, hC⟩ : ∃ C, T.extract 0 n = C := ⟨_, rfl⟩
  obtain ⟨R, hR⟩ : ∃ R, T.extract n T.size = R := ⟨_, rfl⟩
  have hCl : C.data.toList = x.b.W.take n := by rw [← hC, ← hT]; simp
  have hRl : R.data.toList = x.b.W.drop n := by rw [← hR, ext_drop, ← hT]
  have hCs : C.size ≤ 262144 := by
    have : C.size = C.data.toList.length := rfl
    rw [this, hCl, List.length_take]; omega
  obtain ⟨F, hF⟩ : ∃ F, feedL (x.b.S ++ x.b.W.take n) = F := ⟨_, rfl⟩
  have hput := (h.below ((Below.refl _ _).drew)).put1 R
  rw [hRl] at hput
  have HLow := Lib.hid (h.low f.m (.inl rfl))
  have HP := Lib.hid (And.intro hput (And.intro hT (And.intro hCl (And.intro hRl hF)))); clear hput hT hCl hRl hF htk hdr hTl hN hwl
  cases hb : F.bad with
  | none =>
    have hf : feedR ⟨x.b.S, 0⟩ C.data.toList = (F.ms, ⟨F.rest, 0⟩) := feedR_none (by rw [HP.out.2.2.1, HP.out.2.2.2.2, ← hb])
    have hte : takeL x 1 n = (F.ms, 0, x.put 1 ⟨x.b.W.drop n, F.rest⟩) := by
      unfold takeL
      have : ((x.at 1).S ++ (x.at 1).W.take n) = x.b.S ++ x.b.W.take n := rfl
      simp only [this, HP.out.2.2.2.2, hb]; rfl
    have hge : goneL x 1 n gone = gone := by
      unfold goneL
      have : ((x.at 1).S ++ (x.at 1).W.take n) = x.b.S ++ x.b.W.take n := rfl
      simp only [this, HP.out.2.2.2.2, hb]
    have HF := Lib.hid (And.intro hf (And.intro hte hge)); clear hf hte hge hb
    go_enter Tryd.func27, Tryd.ntmps27
    go_wp2_with fail
    go_region
    obtain ⟨w1, hw1⟩ : ∃ w1, (w.setCell ⟨f.gw, 1, none⟩ (.string R)).drew = w1 := ⟨_, rfl⟩
    rw [hw1]
    clear hC hR hmin
    have hx1 : XkAt base f (x.put 1 ⟨x.b.W.drop n, x.b.S⟩) gone w1 := by rw [← hw1]; exact HP.out.1
    have hk1 : FKept (Ft f) w w1 := by rw [← hw1]; exact (FKept.of ((Below.refl _ _).drew)).trans (FKept.set (F := Ft f) (.inr (.inl rfl))) (fun _ h => .inl h)
    clear hw1 c0 c1 f1
    have d0 : w1.cell? ⟨f.m, 1, none⟩ = some (.slice (some ⟨f.gr, 0, none⟩) 2 2) := hx1.blk.cell 1
    have d1 : w1.cell? ⟨f.gr, 1, none⟩ = some (.pointer (some ⟨f.r1, 0, none⟩)) := hx1.rs.cell 1
    have HX1 := Lib.hid (And.intro hx1 hk1); clear hx1 hk1
    go_wp2_with fail
    refine (ref_feed f.r1 x.b.S C w1 HX1.out.1.x1 (by omega)).mono ?_
    rintro e w2 ⟨a, c, rfl, hxa, hown, hbut⟩
    rw [HF.out.1] at hxa hown ⊢
    have HX2 := Lib.hid (And.intro hxa (And.intro hown hbut)); clear hxa hown hbut
    go_wp2
    go_ret2
    have hsz := HX1.out.2.size
    refine ⟨a, c, by rw [HF.out.2.1]; rfl, by rw [HF.out.2.1]; exact own_less HX2.out.2.1 hsz, f, rfl, ?_, HX1.out.2.trans (HX2.out.2.2.fkept (.inr (.inr (.inr (.inr rfl))))) (fun _ h => .inl h), fun _ h => .inl h⟩
    rw [HF.out.2.1, HF.out.2.2]
    have := HX1.out.1.fed1 HX2.out.2.2 HX2.out.1
    rw [put_put] at this
    exact this
  | some m =>
    have hf : feedR ⟨x.b.S, 0⟩ C.data.toList = (F.ms, ⟨[], errN m⟩) := feedR_some (by rw [HP.out.2.2.1, HP.out.2.2.2.2, ← hb])
    have hte : takeL x 1 n = (F.ms, errN m, lk0 (x.ep + 1)) := by
      unfold takeL
      have : ((x.at 1).S ++ (x.at 1).W.take n) = x.b.S ++ x.b.W.take n := rfl
      simp only [this, HP.out.2.2.2.2, hb]
    have hge : goneL x 1 n gone = 0 := by
      unfold goneL
      have : ((x.at 1).S ++ (x.at 1).W.take n) = x.b.S ++ x.b.W.take n := rfl
      simp only [this, HP.out.2.2.2.2, hb]
    have he0 : errN m ≠ 0 := feedL_bad_ne _ m (by rw [HP.out.2.2.2.2]; exact hb)
    obtain ⟨E, hE⟩ : ∃ E, errN m = E := ⟨_, rfl⟩
    rw [hE] at hf hte he0
    have hne : ((E : Int) != 0) = true := by simp; omega
    have HF := Lib.hid (And.intro hf (And.intro hte hge)); clear hf hte hge hb hE he0
    go_enter Tryd.func27, Tryd.ntmps27
    go_wp2_with fail
    go_region
    obtain ⟨w1, hw1⟩ : ∃ w1, (w.setCell ⟨f.gw, 1, none⟩ (.string R)).drew = w1 := ⟨_, rfl⟩
    rw [hw1]
    clear hC hR hmin
    have hx1 : XkAt base f (x.put 1 ⟨x.b.W.drop n, x.b.S⟩) gone w1 := by rw [← hw1]; exact HP.out.1
    have hk1 : FKept (Ft f) w w1 := by rw [← hw1]; exact (FKept.of ((Below.refl _ _).drew)).trans (FKept.set (F := Ft f) (.inr (.inl rfl))) (fun _ h => .inl h)
    clear hw1 c0 c1 f1
    have d0 : w1.cell? ⟨f.m, 1, none⟩ = some (.slice (some ⟨f.gr, 0, none⟩) 2 2) := hx1.blk.cell 1
    have d1 : w1.cell? ⟨f.gr, 1, none⟩ = some (.pointer (some ⟨f.r1, 0, none⟩)) := hx1.rs.cell 1
    have HX1 := Lib.hid (And.intro hx1 hk1); clear hx1 hk1
    go_wp2_with fail
    refine (ref_feed f.r1 x.b.S C w1 HX1.out.1.x1 (by omega)).mono ?_
    rintro e w2 ⟨a, c, rfl, hxa, hown, hbut⟩
    rw [HF.out.1] at hxa hown ⊢
    have HX2 := Lib.hid (And.intro hxa (And.intro hown hbut)); clear hxa hown hbut
    have hm2 : ∃ U, Blk w1 f.r1 #[.string U, .int .i64 0] 74 := by obtain ⟨U, _, hu⟩ := HX1.out.1.x1; exact ⟨U, hu⟩
    have HM2 := Lib.hid hm2; clear hm2
    have hblk2 : Blk w2 f.m #[.slice (some ⟨f.gw, 0, none⟩) 2 2, .slice (some ⟨f.gr, 0, none⟩) 2 2, .int .u64 (x.ep : Int), .int .i64 (gone : Int)] 36 := by
      obtain ⟨U, hu⟩ := HM2.out
      have := HX1.out.1.blk
      rw [Lk.put_ep] at this
      exact HX2.out.2.2.blk this (Blk.ne this hu (by decide))
    have HB2 := Lib.hid hblk2; clear hblk2
    go_wp2_with fail
    refine (xreset_any HB2.out HLow.out hep).mono ?_
    rintro e w3 ⟨rfl, f', hm', hx3, hk3, hf3⟩
    have HX3 := Lib.hid (And.intro hm' (And.intro hx3 (And.intro hk3 hf3))); clear hm' hx3 hk3 hf3
    go_wp2
    go_ret2
    have hsz := HX1.out.2.size
    have hk2 : FKept (Ft f) w1 w2 := HX2.out.2.2.fkept (.inr (.inr (.inr (.inr rfl))))
    have hsz2 := hk2.size
    refine ⟨a, c, by rw [HF.out.2.1]; rfl, ?_, f', HX3.out.1, ?_, (HX1.out.2.trans hk2 (fun _ h => .inl h)).trans HX3.out.2.2.1 (fun k e => .inl (by rw [e]; exact .inl rfl)), fun k hk => (HX3.out.2.2.2 k hk).imp (fun e => by rw [e]; exact .inl rfl) (fun h => by omega)⟩
    · rw [HF.out.2.1]
      exact HX3.out.2.2.1.own (own_less HX2.out.2.1 hsz) (fun g hg e => row_block HX2.out.2.1 HB2.out (by decide) (by rw [hg, e]))
    · rw [HF.out.2.1, HF.out.2.2]; exact HX3.out.2.1
theorem xtake_1 {base gone : Nat} {f : Xm} {x : Lk} {w : World} (h : XkAt base f x gone w) (hok : x.Ok) (hep : x.ep ≤ 1000000) (n : Nat) (hn : (n : Int) ≤ 9223372036854775807) :
    Calls Tryd.prog 27 #[.pointer (some ⟨f.m, 0, none⟩), .int .i64 1, .int .i64 (n : Int)] w (XtPost base f x 1 n gone w) :=
  (Nat.lt_or_ge x.b.W.length n).elim (xtake_1A h hok hep n hn) (xtake_1B h hok hep n hn)
end Go.Proofs.YtkfbhiggnnjoiaaDoor
