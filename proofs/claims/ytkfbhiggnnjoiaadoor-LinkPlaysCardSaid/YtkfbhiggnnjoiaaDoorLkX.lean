/- link: the reference's stream. -/
import Derived.Test.YtkfbhiggnnjoiaaDoorLkRefF
import Derived.Test.YtkfbhiggnnjoiaaDoorLkTwo
import Derived.RegionTactic
import Derived.BigRegion
namespace Go.Proofs.YtkfbhiggnnjoiaaDoor
open Go.RowKit Go.Lib

/-- Where the reference's stream lies. -/
structure Xm where
  m : Nat
  gw : Nat
  gr : Nat
  r0 : Nat
  r1 : Nat
def Xm.r (f : Xm) (k : Nat) : Nat := if k = 0 then f.r0 else f.r1
def Ft (f : Xm) (k : Nat) : Prop := k = f.m ∨ k = f.gw ∨ k = f.gr ∨ k = f.r0 ∨ k = f.r1
structure XkAt (base : Nat) (f : Xm) (x : Lk) (gone : Nat) (w : World) : Prop where
  blk : Blk w f.m #[.slice (some ⟨f.gw, 0, none⟩) 2 2, .slice (some ⟨f.gr, 0, none⟩) 2 2, .int .u64 (x.ep : Int), .int .i64 (gone : Int)] 36
  ws : ∃ T0 T1 : ByteArray, T0.data.toList = x.a.W ∧ T1.data.toList = x.b.W ∧ Blk w f.gw #[.string T0, .string T1] 9
  rs : Blk w f.gr #[.pointer (some ⟨f.r0, 0, none⟩), .pointer (some ⟨f.r1, 0, none⟩)] 72
  x0 : XAt f.r0 x.a.S 0 w
  x1 : XAt f.r1 x.b.S 0 w
  ne : f.r0 ≠ f.r1
  low : ∀ k, Ft f k → base ≤ k
structure FKept (F : Nat → Prop) (w w' : World) : Prop where
  os : w'.os = w.os
  tape : w'.tape = w.tape
  output : w'.output = w.output
  size : w.heap.size ≤ w'.heap.size
  block : ∀ k, k < w.heap.size → ¬ F k → w'.heap[k]? = w.heap[k]?
theorem FKept.of {F : Nat → Prop} {w w' : World} (h : Below w.heap.size w w') : FKept F w w' := ⟨h.os, h.tape, h.output, h.size, fun k hk _ => h.block k hk⟩
theorem FKept.refl (F : Nat → Prop) (w : World) : FKept F w w := FKept.of (Below.refl _ _)
theorem FKept.trans {F G : Nat → Prop} {w w1 w2 : World} (h : FKept F w w1) (h' : FKept G w1 w2) (ht : ∀ k, G k → F k ∨ w.heap.size ≤ k) : FKept F w w2 :=
  ⟨h'.os.trans h.os, h'.tape.trans h.tape, h'.output.trans h.output, Nat.le_trans h.size h'.size, fun k hk hn => (h'.block k (Nat.lt_of_lt_of_le hk h.size) (fun hg => (ht k hg).elim hn (fun h => by omega))).trans (h.block k hk hn)⟩
theorem FKept.set {F : Nat → Prop} {w : World} {l j : Nat} {v : Value} (hF : F l) : FKept F w (w.setCell ⟨l, j, none⟩ v) := by
  have hg := grown_set w l j v
  exact ⟨hg.os, hg.tape, hg.output, hg.size, fun k hk hn => hg.block k hk (fun e => hn (by cases e; exact hF))⟩
theorem FKept.below {F : Nat → Prop} {B : Nat} {w w' : World} (h : FKept F w w') (hB : B ≤ w.heap.size) (hF : ∀ k, F k → B ≤ k) : Below B w w' :=
  ⟨h.os, h.tape, h.output, h.size, fun k hk => h.block k (by omega) (fun hf => by have := hF k hf; omega)⟩
theorem FKept.own {F : Nat → Prop} {w w' : World} {base size n : Nat} {e : TypeId} {v : Value} {xs : List Value} (h : FKept F w w') (ho : w.ownsRow base e size v n xs) (hF : ∀ g, v.ownBlock = some g → ¬ F g) : w'.ownsRow base e size v n xs :=
  own_at ho fun g hg => h.block g (own_heap ho hg).2.1 (hF g hg)
theorem XkAt.types {base gone : Nat} {f : Xm} {x : Lk} {w : World} (h : XkAt base f x gone w) {k : Nat} (hk : Ft f k) : k < w.heap.size ∧ ∀ c T fz, w.heap[k]? = some (.cells c T fz) → T ≠ 59 ∧ T ≠ 80 ∧ T ≠ 5 := by
  obtain ⟨T0, T1, _, _, hw⟩ := h.ws
  obtain ⟨U0, _, hx0⟩ := h.x0
  obtain ⟨U1, _, hx1⟩ := h.x1
  have go : ∀ {q : Nat} {c : Array Value} {t : TypeId}, Blk w q c t → (t ≠ 59 ∧ t ≠ 80 ∧ t ≠ 5) → q < w.heap.size ∧ ∀ c T fz, w.heap[q]? = some (.cells c T fz) → T ≠ 59 ∧ T ≠ 80 ∧ T ≠ 5 := by
    intro q c t hq ht
    refine ⟨hq.lt, fun c' T fz hc => ?_⟩
    unfold Blk at hq
    rw [hq] at hc; injection hc with hc; injection hc with _ e _
    subst e; exact ht
  rcases hk with rfl | rfl | rfl | rfl | rfl
  · exact go h.blk ⟨by decide, by decide, by decide⟩
  · exact go hw ⟨by decide, by decide, by decide⟩
  · exact go h.rs ⟨by decide, by decide, by decide⟩
  · exact go hx0 ⟨by decide, by decide, by decide⟩
  · exact go hx1 ⟨by decide, by decide, by decide⟩
theorem XkAt.away {base gone : Nat} {f : Xm} {x : Lk} {w w' : World} (h : XkAt base f x gone w) (hk : FKept (Ft f) w w') : Away base w w' := by
  refine ⟨hk.size, fun k hlt hc => hk.block k hlt fun hf => ?_⟩
  obtain ⟨_, ht⟩ := h.types hf
  rcases hc with h1 | ⟨c, T, fz, hb, hT⟩
  · have := h.low k hf; omega
  · obtain ⟨a1, a2, a3⟩ := ht c T fz hb
    rcases hT with e | e | e
    · exact a1 e
    · exact a2 e
    · exact a3 e
theorem XAt.keep {w w' : World} {r : Nat} {S : List UInt8} {E : Nat} (h : XAt r S E w) (hb : ∀ c, Blk w r c 74 → Blk w' r c 74) : XAt r S E w' := by
  obtain ⟨T, hT, hx⟩ := h
  exact ⟨T, hT, hb _ hx⟩
theorem XkAt.kept {base b0 gone : Nat} {f : Xm} {x : Lk} {w w' : World} (h : XkAt base f x gone w) (hk : Kept b0 w w') : XkAt base f x gone w' := by
  obtain ⟨T0, T1, h0, h1, hw⟩ := h.ws
  exact ⟨hk.blk h.blk (by decide) (by decide) (by decide), ⟨T0, T1, h0, h1, hk.blk hw (by decide) (by decide) (by decide)⟩, hk.blk h.rs (by decide) (by decide) (by decide), h.x0.keep (fun c hc => hk.blk hc (by decide) (by decide) (by decide)), h.x1.keep (fun c hc => hk.blk hc (by decide) (by decide) (by decide)), h.ne, h.low⟩
theorem XkAt.below {base gone : Nat} {f : Xm} {x : Lk} {w w' : World} (h : XkAt base f x gone w) (hb : Below w.heap.size w w') : XkAt base f x gone w' := h.kept (b0 := 0) (Kept.of hb)
theorem XkAt.lt {base gone : Nat} {f : Xm} {x : Lk} {w : World} (h : XkAt base f x gone w) {k : Nat} (hk : Ft f k) : k < w.heap.size := (h.types hk).1

/-- A call's answer, and what the reference's stream is behind it. -/
def XkPost (base : Nat) (f : Xm) (v : Value) (x : Lk) (gone : Nat) (w : World) (e : Ending) (w' : World) : Prop :=
  e = .returned v ∧ ∃ f' : Xm, f'.m = f.m ∧ XkAt base f' x gone w' ∧ FKept (Ft f) w w' ∧ (∀ k, Ft f' k → Ft f k ∨ w.heap.size ≤ k)
theorem XkPost.same {base gone : Nat} {f : Xm} {v : Value} {x : Lk} {w w' : World} (h : XkAt base f x gone w') (hk : FKept (Ft f) w w') : XkPost base f v x gone w (.returned v) w' :=
  ⟨rfl, f, rfl, h, hk, fun _ h => .inl h⟩

theorem XkAt.way0 {base gone : Nat} {f : Xm} {x : Lk} {w : World} (h : XkAt base f x gone w) : ∃ T : ByteArray, T.data.toList = x.a.W ∧ w.cell? ⟨f.gw, 0, none⟩ = some (.string T) ∧ w.frozen? ⟨f.gw, 0, none⟩ = false := by
  obtain ⟨T0, T1, h0, h1, hw⟩ := h.ws
  exact ⟨T0, h0, hw.cell 0, hw.frozen 0⟩
theorem XkAt.put0 {base gone : Nat} {f : Xm} {x : Lk} {w : World} (h : XkAt base f x gone w) (T : ByteArray) : XkAt base f (x.put 0 ⟨T.data.toList, x.a.S⟩) gone (w.setCell ⟨f.gw, 0, none⟩ (.string T)) := by
  obtain ⟨T0, T1, h0, h1, hw⟩ := h.ws
  have n1 := Blk.ne h.blk hw (by decide)
  have n2 := Blk.ne h.rs hw (by decide)
  refine ⟨h.blk.other n1, ?_, h.rs.other n2, h.x0.keep (fun c hc => hc.other (Blk.ne hc hw (by decide))), h.x1.keep (fun c hc => hc.other (Blk.ne hc hw (by decide))), h.ne, h.low⟩
  have := hw.set 0 (.string T)
  exact ⟨T, T1, rfl, h1, this⟩
set_option maxRecDepth 100000 in
theorem xwait_0 {base gone N : Nat} {f : Xm} {x : Lk} {w : World} (h : XkAt base f x gone w) (hN : x.a.W.length = N) :
    Calls Tryd.prog 16 #[.pointer (some ⟨f.m, 0, none⟩), .int .i64 0] w fun e w' => e = .returned (.int .i64 (N : Int)) ∧ w = w' := by
  obtain ⟨T, hT, c1, _⟩ := h.way0
  have c0 : w.cell? ⟨f.m, 0, none⟩ = some (.slice (some ⟨f.gw, 0, none⟩) 2 2) := h.blk.cell 0
  have hTs : T.size = N := by rw [← hN, ← hT]; rfl
  have HT := Lib.hid (And.intro hT hN); clear hT hN
  go_enter Tryd.func16, Tryd.ntmps16
  go_wp2
  go_ret
  exact ⟨rfl, rfl⟩
set_option maxRecDepth 100000 in
theorem xspace_0 {base gone : Nat} {z : Int} {f : Xm} {x : Lk} {w : World} (h : XkAt base f x gone w) (hx : x.a.W.length ≤ 262144) (hz : 262144 - (x.a.W.length : Int) = z) :
    Calls Tryd.prog 18 #[.pointer (some ⟨f.m, 0, none⟩), .int .i64 0] w fun e w' => e = .returned (.int .i64 z) ∧ w = w' := by
  obtain ⟨T, hT, c1, _⟩ := h.way0
  have c0 : w.cell? ⟨f.m, 0, none⟩ = some (.slice (some ⟨f.gw, 0, none⟩) 2 2) := h.blk.cell 0
  have hTs : T.size ≤ 262144 := by have : T.size = T.data.toList.length := rfl; rw [this, hT]; exact hx
  have hTz : 262144 - (T.size : Int) = z := by rw [← hz, ← hT]; rfl
  have HT := Lib.hid (And.intro hT (And.intro hz hx)); clear hT hz hx
  go_enter Tryd.func18, Tryd.ntmps18
  go_wp2
  go_ret
  exact ⟨rfl, rfl⟩
set_option maxRecDepth 100000 in
set_option maxHeartbeats 1000000 in
theorem xinject_0 {base gone : Nat} {f : Xm} {x : Lk} {w : World} (h : XkAt base f x gone w) (hx : x.a.W.length ≤ 262144) (s : ByteArray) (hs : s.size ≤ 1000000000000000000) :
    Calls Tryd.prog 26 #[.pointer (some ⟨f.m, 0, none⟩), .int .i64 0, .string s] w (XkPost base f (.int .i64 ((injL x 0 s.data.toList).1 : Int)) (injL x 0 s.data.toList).2 gone w) := by
  obtain ⟨T, hT, c1, f1⟩ := h.way0
  have c0 : w.cell? ⟨f.m, 0, none⟩ = some (.slice (some ⟨f.gw, 0, none⟩) 2 2) := h.blk.cell 0
  have hTl : T.size = x.a.W.length := by rw [← hT]; rfl
  have hTs : T.size ≤ 262144 := by omega
  have hsl : s.data.toList.length = s.size := rfl
  by_cases hf : 262144 < T.size + s.size
  · have hi : injL x 0 s.data.toList = (4, x) := by unfold injL; rw [if_pos (by show 262144 < x.a.W.length + _; omega)]
    rw [hi]
    have hf' : (262144 : Int) < (T.size : Int) + (s.size : Int) := by omega
    clear hi hTl hsl hx
    have HT := Lib.hid hT; clear hT
    go_enter Tryd.func26, Tryd.ntmps26
    go_wp2
    go_ret
    exact XkPost.same h (FKept.refl _ _)
  · have hi : injL x 0 s.data.toList = (0, x.put 0 ⟨x.a.W ++ s.data.toList, x.a.S⟩) := by unfold injL; rw [if_neg (by show ¬ 262144 < x.a.W.length + _; omega)]; rfl
    rw [hi]
    have hf' : ¬ (262144 : Int) < (T.size : Int) + (s.size : Int) := by omega
    have hTS : (T ++ s).data.toList = x.a.W ++ s.data.toList := by rw [← hT]; simp
    have hput := (h.below ((Below.refl _ _).drew)).put0 (T ++ s)
    rw [hTS] at hput
    have HP := Lib.hid (And.intro hput (And.intro hT hi)); clear hput hT hi hTS hTl hsl hx
    go_enter Tryd.func26, Tryd.ntmps26
    go_wp2_with fail
    go_region
    go_wp2
    go_ret
    exact XkPost.same HP.out.1 ((FKept.of ((Below.refl _ _).drew)).trans (FKept.set (F := Ft f) (.inr (.inl rfl))) (fun _ h => .inl h))
set_option maxRecDepth 100000 in
theorem xsend_0 {base gone : Nat} {f : Xm} {x : Lk} {w : World} (h : XkAt base f x gone w) (hx : x.a.W.length ≤ 262144) (s : ByteArray) (hs : s.size ≤ maxLen) :
    Calls Tryd.prog 30 #[.pointer (some ⟨f.m, 0, none⟩), .int .i64 0, .string s] w (XkPost base f (.int .i64 ((sendL x 0 s.data.toList).1 : Int)) (sendL x 0 s.data.toList).2 gone w) := by
  by_cases hok : okM s.data.toList
  · have hse : sendL x 0 s.data.toList = injL x 0 (packL s.data.toList) := by unfold sendL; exact if_pos hok
    rw [hse]
    obtain ⟨T, hT⟩ : ∃ T : ByteArray, (⟨(packL s.data.toList).toArray⟩ : ByteArray) = T := ⟨_, rfl⟩
    have hTl : packL s.data.toList = T.data.toList := by rw [← hT]
    rw [hTl]
    have hTs : T.size ≤ 1000000000000000000 := by
      have h1 := hok.2
      have h2 : T.data.toList.length = 4 + s.data.toList.length := by rw [← hTl, packL_len]
      show T.data.toList.length ≤ _; omega
    have HT := Lib.hid (And.intro hT (And.intro hok (And.intro hTl hse))); clear hT hTl hok hse
    go_enter Tryd.func30, Tryd.ntmps30
    go_wp2_with fail
    refine (refPack_ok s w HT.out.2.1).mono ?_
    rw [HT.out.1]
    rintro e w1 ⟨rfl, hb1⟩
    go_wp2_with fail
    refine (xinject_0 (h.below hb1) hx T hTs).mono ?_
    rintro e w2 ⟨rfl, f', hm, hx', hk', hf'⟩
    obtain ⟨Z, hZ⟩ : ∃ Z : Nat, (injL x 0 T.data.toList).1 = Z := ⟨_, rfl⟩
    rw [hZ]
    have HZ := Lib.hid hZ; clear hZ
    go_wp2
    go_ret
    exact ⟨by rw [HZ.out]; rfl, f', hm, hx', (FKept.of hb1).trans hk' (fun _ h => .inl h), fun k hk => (hf' k hk).imp id (fun h => Nat.le_trans hb1.size h)⟩
  · have hse : sendL x 0 s.data.toList = (3, x) := by unfold sendL; exact if_neg hok
    rw [hse]
    have HK := Lib.hid hok; clear hok hse
    go_enter Tryd.func30, Tryd.ntmps30
    go_wp2_with fail
    refine (refPack_no s w hs HK.out).mono ?_
    rintro e w' ⟨rfl, rfl⟩
    go_wp2
    go_ret
    exact XkPost.same h (FKept.refl _ _)

theorem XkAt.way1 {base gone : Nat} {f : Xm} {x : Lk} {w : World} (h : XkAt base f x gone w) : ∃ T : ByteArray, T.data.toList = x.b.W ∧ w.cell? ⟨f.gw, 1, none⟩ = some (.string T) ∧ w.frozen? ⟨f.gw, 1, none⟩ = false := by
  obtain ⟨T0, T1, h0, h1, hw⟩ := h.ws
  exact ⟨T1, h1, hw.cell 1, hw.frozen 1⟩
theorem XkAt.put1 {base gone : Nat} {f : Xm} {x : Lk} {w : World} (h : XkAt base f x gone w) (T : ByteArray) : XkAt base f (x.put 1 ⟨T.data.toList, x.b.S⟩) gone (w.setCell ⟨f.gw, 1, none⟩ (.string T)) := by
  obtain ⟨T0, T1, h0, h1, hw⟩ := h.ws
  have n1 := Blk.ne h.blk hw (by decide)
  have n2 := Blk.ne h.rs hw (by decide)
  refine ⟨h.blk.other n1, ?_, h.rs.other n2, h.x0.keep (fun c hc => hc.other (Blk.ne hc hw (by decide))), h.x1.keep (fun c hc => hc.other (Blk.ne hc hw (by decide))), h.ne, h.low⟩
  have := hw.set 1 (.string T)
  exact ⟨T0, T, h0, rfl, this⟩
set_option maxRecDepth 100000 in
theorem xwait_1 {base gone N : Nat} {f : Xm} {x : Lk} {w : World} (h : XkAt base f x gone w) (hN : x.b.W.length = N) :
    Calls Tryd.prog 16 #[.pointer (some ⟨f.m, 0, none⟩), .int .i64 1] w fun e w' => e = .returned (.int .i64 (N : Int)) ∧ w = w' := by
  obtain ⟨T, hT, c1, _⟩ := h.way1
  have c0 : w.cell? ⟨f.m, 0, none⟩ = some (.slice (some ⟨f.gw, 0, none⟩) 2 2) := h.blk.cell 0
  have hTs : T.size = N := by rw [← hN, ← hT]; rfl
  have HT := Lib.hid (And.intro hT hN); clear hT hN
  go_enter Tryd.func16, Tryd.ntmps16
  go_wp2
  go_ret
  exact ⟨rfl, rfl⟩
set_option maxRecDepth 100000 in
theorem xspace_1 {base gone : Nat} {z : Int} {f : Xm} {x : Lk} {w : World} (h : XkAt base f x gone w) (hx : x.b.W.length ≤ 262144) (hz : 262144 - (x.b.W.length : Int) = z) :
    Calls Tryd.prog 18 #[.pointer (some ⟨f.m, 0, none⟩), .int .i64 1] w fun e w' => e = .returned (.int .i64 z) ∧ w = w' := by
  obtain ⟨T, hT, c1, _⟩ := h.way1
  have c0 : w.cell? ⟨f.m, 0, none⟩ = some (.slice (some ⟨f.gw, 0, none⟩) 2 2) := h.blk.cell 0
  have hTs : T.size ≤ 262144 := by have : T.size = T.data.toList.length := rfl; rw [this, hT]; exact hx
  have hTz : 262144 - (T.size : Int) = z := by rw [← hz, ← hT]; rfl
  have HT := Lib.hid (And.intro hT (And.intro hz hx)); clear hT hz hx
  go_enter Tryd.func18, Tryd.ntmps18
  go_wp2
  go_ret
  exact ⟨rfl, rfl⟩
set_option maxRecDepth 100000 in
set_option maxHeartbeats 1000000 in
theorem xinject_1 {base gone : Nat} {f : Xm} {x : Lk} {w : World} (h : XkAt base f x gone w) (hx : x.b.W.length ≤ 262144) (s : ByteArray) (hs : s.size ≤ 1000000000000000000) :
    Calls Tryd.prog 26 #[.pointer (some ⟨f.m, 0, none⟩), .int .i64 1, .string s] w (XkPost base f (.int .i64 ((injL x 1 s.data.toList).1 : Int)) (injL x 1 s.data.toList).2 gone w) := by
  obtain ⟨T, hT, c1, f1⟩ := h.way1
  have c0 : w.cell? ⟨f.m, 0, none⟩ = some (.slice (some ⟨f.gw, 0, none⟩) 2 2) := h.blk.cell 0
  have hTl : T.size = x.b.W.length := by rw [← hT]; rfl
  have hTs : T.size ≤ 262144 := by omega
  have hsl : s.data.toList.length = s.size := rfl
  by_cases hf : 262144 < T.size + s.size
  · have hi : injL x 1 s.data.toList = (4, x) := by unfold injL; rw [if_pos (by show 262144 < x.b.W.length + _; omega)]
    rw [hi]
    have hf' : (262144 : Int) < (T.size : Int) + (s.size : Int) := by omega
    clear hi hTl hsl hx
    have HT := Lib.hid hT; clear hT
    go_enter Tryd.func26, Tryd.ntmps26
    go_wp2
    go_ret
    exact XkPost.same h (FKept.refl _ _)
  · have hi : injL x 1 s.data.toList = (0, x.put 1 ⟨x.b.W ++ s.data.toList, x.b.S⟩) := by unfold injL; rw [if_neg (by show ¬ 262144 < x.b.W.length + _; omega)]; rfl
    rw [hi]
    have hf' : ¬ (262144 : Int) < (T.size : Int) + (s.size : Int) := by omega
    have hTS : (T ++ s).data.toList = x.b.W ++ s.data.toList := by rw [← hT]; simp
    have hput := (h.below ((Below.refl _ _).drew)).put1 (T ++ s)
    rw [hTS] at hput
    have HP := Lib.hid (And.intro hput (And.intro hT hi)); clear hput hT hi hTS hTl hsl hx
    go_enter Tryd.func26, Tryd.ntmps26
    go_wp2_with fail
    go_region
    go_wp2
    go_ret
    exact XkPost.same HP.out.1 ((FKept.of ((Below.refl _ _).drew)).trans (FKept.set (F := Ft f) (.inr (.inl rfl))) (fun _ h => .inl h))
set_option maxRecDepth 100000 in
theorem xsend_1 {base gone : Nat} {f : Xm} {x : Lk} {w : World} (h : XkAt base f x gone w) (hx : x.b.W.length ≤ 262144) (s : ByteArray) (hs : s.size ≤ maxLen) :
    Calls Tryd.prog 30 #[.pointer (some ⟨f.m, 0, none⟩), .int .i64 1, .string s] w (XkPost base f (.int .i64 ((sendL x 1 s.data.toList).1 : Int)) (sendL x 1 s.data.toList).2 gone w) := by
  by_cases hok : okM s.data.toList
  · have hse : sendL x 1 s.data.toList = injL x 1 (packL s.data.toList) := by unfold sendL; exact if_pos hok
    rw [hse]
    obtain ⟨T, hT⟩ : ∃ T : ByteArray, (⟨(packL s.data.toList).toArray⟩ : ByteArray) = T := ⟨_, rfl⟩
    have hTl : packL s.data.toList = T.data.toList := by rw [← hT]
    rw [hTl]
    have hTs : T.size ≤ 1000000000000000000 := by
      have h1 := hok.2
      have h2 : T.data.toList.length = 4 + s.data.toList.length := by rw [← hTl, packL_len]
      show T.data.toList.length ≤ _; omega
    have HT := Lib.hid (And.intro hT (And.intro hok (And.intro hTl hse))); clear hT hTl hok hse
    go_enter Tryd.func30, Tryd.ntmps30
    go_wp2_with fail
    refine (refPack_ok s w HT.out.2.1).mono ?_
    rw [HT.out.1]
    rintro e w1 ⟨rfl, hb1⟩
    go_wp2_with fail
    refine (xinject_1 (h.below hb1) hx T hTs).mono ?_
    rintro e w2 ⟨rfl, f', hm, hx', hk', hf'⟩
    obtain ⟨Z, hZ⟩ : ∃ Z : Nat, (injL x 1 T.data.toList).1 = Z := ⟨_, rfl⟩
    rw [hZ]
    have HZ := Lib.hid hZ; clear hZ
    go_wp2
    go_ret
    exact ⟨by rw [HZ.out]; rfl, f', hm, hx', (FKept.of hb1).trans hk' (fun _ h => .inl h), fun k hk => (hf' k hk).imp id (fun h => Nat.le_trans hb1.size h)⟩
  · have hse : sendL x 1 s.data.toList = (3, x) := by unfold sendL; exact if_neg hok
    rw [hse]
    have HK := Lib.hid hok; clear hok hse
    go_enter Tryd.func30, Tryd.ntmps30
    go_wp2_with fail
    refine (refPack_no s w hs HK.out).mono ?_
    rintro e w' ⟨rfl, rfl⟩
    go_wp2
    go_ret
    exact XkPost.same h (FKept.refl _ _)

set_option maxRecDepth 100000 in
theorem xwait_no (m : Nat) (i : Int) (hi : i < 0 ∨ 2 ≤ i) (w : World) :
    Calls Tryd.prog 16 #[.pointer (some ⟨m, 0, none⟩), .int .i64 i] w fun e w' => e = .returned (.int .i64 0) ∧ w = w' := by
  have e0 : (i != 0) = true := by simp; omega
  have e1 : (i != 1) = true := by simp; omega
  clear hi
  go_enter Tryd.func16, Tryd.ntmps16
  go_wp2
  go_ret
  exact ⟨rfl, rfl⟩

set_option maxRecDepth 100000 in
theorem xspace_no (m : Nat) (i : Int) (hi : i < 0 ∨ 2 ≤ i) (w : World) :
    Calls Tryd.prog 18 #[.pointer (some ⟨m, 0, none⟩), .int .i64 i] w fun e w' => e = .returned (.int .i64 0) ∧ w = w' := by
  have e0 : (i != 0) = true := by simp; omega
  have e1 : (i != 1) = true := by simp; omega
  clear hi
  go_enter Tryd.func18, Tryd.ntmps18
  go_wp2
  go_ret
  exact ⟨rfl, rfl⟩

set_option maxRecDepth 100000 in
theorem xinject_no (m : Nat) (i : Int) (hi : i < 0 ∨ 2 ≤ i) (s : ByteArray) (w : World) :
    Calls Tryd.prog 26 #[.pointer (some ⟨m, 0, none⟩), .int .i64 i, .string s] w fun e w' => e = .returned (.int .i64 1) ∧ w = w' := by
  have e0 : (i != 0) = true := by simp; omega
  have e1 : (i != 1) = true := by simp; omega
  clear hi
  go_enter Tryd.func26, Tryd.ntmps26
  go_wp2
  go_ret
  exact ⟨rfl, rfl⟩

set_option maxRecDepth 100000 in
theorem xsend_no (m : Nat) (i : Int) (hi : i < 0 ∨ 2 ≤ i) (s : ByteArray) (w : World) :
    Calls Tryd.prog 30 #[.pointer (some ⟨m, 0, none⟩), .int .i64 i, .string s] w fun e w' => e = .returned (.int .i64 1) ∧ w = w' := by
  have e0 : (i != 0) = true := by simp; omega
  have e1 : (i != 1) = true := by simp; omega
  clear hi
  go_enter Tryd.func30, Tryd.ntmps30
  go_wp2
  go_ret
  exact ⟨rfl, rfl⟩

set_option maxRecDepth 100000 in
theorem xtake_no (m : Nat) (i : Int) (hi : i < 0 ∨ 2 ≤ i) (n : Int) (w : World) :
    Calls Tryd.prog 27 #[.pointer (some ⟨m, 0, none⟩), .int .i64 i, .int .i64 n] w fun e w' => e = .returned (.tuple #[.slice none 0 0, .int .i64 1]) ∧ w = w' := by
  have e0 : (i != 0) = true := by simp; omega
  have e1 : (i != 1) = true := by simp; omega
  clear hi
  go_enter Tryd.func27, Tryd.ntmps27
  go_wp2
  go_ret2
  exact ⟨rfl, rfl⟩

theorem xk_tail {base gone gone' : Nat} {f : Xm} {x x' : Lk} {w w' : World} (h : XkAt base f x gone w) (ha : x'.a = x.a) (hb : x'.b = x.b) (hblk : Blk w' f.m #[.slice (some ⟨f.gw, 0, none⟩) 2 2, .slice (some ⟨f.gr, 0, none⟩) 2 2, .int .u64 (x'.ep : Int), .int .i64 (gone' : Int)] 36)
    (hk : ∀ {q : Nat} {c : Array Value} {t : TypeId}, Blk w q c t → t ≠ 36 → Blk w' q c t) : XkAt base f x' gone' w' := by
  obtain ⟨T0, T1, h0, h1, hw⟩ := h.ws
  refine ⟨hblk, ⟨T0, T1, by rw [ha]; exact h0, by rw [hb]; exact h1, hk hw (by decide)⟩, hk h.rs (by decide), ?_, ?_, h.ne, h.low⟩
  · rw [ha]; exact h.x0.keep (fun c hc => hk hc (by decide))
  · rw [hb]; exact h.x1.keep (fun c hc => hk hc (by decide))
theorem xheard_any {base gone : Nat} {f : Xm} {x : Lk} {w : World} (h : XkAt base f x gone w) :
    Calls Tryd.prog 29 #[.pointer (some ⟨f.m, 0, none⟩)] w (XkPost base f (.tuple #[]) { x with tk := 0 } 0 w) := by
  have c3 : w.cell? ⟨f.m, 3, none⟩ = some (.int .i64 (gone : Int)) := h.blk.cell 3
  have f3 := h.blk.frozen 3
  have hset : XkAt base f { x with tk := 0 } 0 (w.setCell ⟨f.m, 3, none⟩ (.int .i64 0)) := xk_tail h rfl rfl (h.blk.set 3 (.int .i64 0)) (fun {q c t} hq ht => hq.other (Blk.ne hq h.blk ht))
  go_enter Tryd.func29, Tryd.ntmps29
  go_wp2
  go_end0
  exact XkPost.same hset (FKept.set (.inl rfl))
def xtickA (g : Nat) : Bool := decide (g + 1 < 20) && (decide (8 ≤ g + 1) && decide ((g + 1) % 4 = 0))
def xtickD (g : Nat) : Bool := decide (20 ≤ g + 1)
theorem xtick_eq {g t : Nat} (h : t = min g 20) : xtickA g = tickA t ∧ xtickD g = tickD t := by
  subst h
  unfold xtickA xtickD tickA tickD tickN
  constructor
  · rw [Bool.eq_iff_iff]; simp; omega
  · rw [Bool.eq_iff_iff]; simp; omega
theorem xtick_post {base gone t : Nat} {f : Xm} {x : Lk} {w w' : World} {v0 v1 : Bool} (hs : XkAt base f { x with tk := t } (gone + 1) w' ∧ FKept (Ft f) w w') (h0 : v0 = xtickA gone) (h1 : v1 = xtickD gone) : XkPost base f (.tuple #[.bool (xtickA gone), .bool (xtickD gone)]) { x with tk := t } (gone + 1) w (.returned (.tuple #[.bool v0, .bool v1])) w' := by
  subst h0; subst h1; exact XkPost.same hs.1 hs.2
set_option maxRecDepth 100000 in
theorem xtick_any {base gone : Nat} {f : Xm} {x : Lk} {w : World} (h : XkAt base f x gone w) (hg : gone ≤ 1000) (t : Nat) :
    Calls Tryd.prog 28 #[.pointer (some ⟨f.m, 0, none⟩)] w (XkPost base f (.tuple #[.bool (xtickA gone), .bool (xtickD gone)]) { x with tk := t } (gone + 1) w) := by
  have c3 : w.cell? ⟨f.m, 3, none⟩ = some (.int .i64 (gone : Int)) := h.blk.cell 3
  have f3 := h.blk.frozen 3
  have hset : XkAt base f { x with tk := t } (gone + 1) (w.setCell ⟨f.m, 3, none⟩ (.int .i64 ((gone : Int) + 1))) := xk_tail h rfl rfl (h.blk.set 3 (.int .i64 ((gone : Int) + 1))) (fun {q c t} hq ht => hq.other (Blk.ne hq h.blk ht))
  have HS := Lib.hid (And.intro hset (FKept.set (F := Ft f) (w := w) (l := f.m) (j := 3) (v := .int .i64 ((gone : Int) + 1)) (.inl rfl))); clear hset
  by_cases hD : 20 ≤ gone + 1
  · have e0 : (20 : Int) ≤ (gone : Int) + 1 := by omega
    go_enter Tryd.func28, Tryd.ntmps28
    go_wp2
    go_ret2
    refine xtick_post HS.out ?_ ?_
    · unfold xtickA; rw [Bool.eq_iff_iff]; simp; omega
    · unfold xtickD; rw [Bool.eq_iff_iff]; simp; omega
  · have e0 : ¬ (20 : Int) ≤ (gone : Int) + 1 := by omega
    by_cases h8 : 8 ≤ gone + 1
    · have e1 : (8 : Int) ≤ (gone : Int) + 1 := by omega
      go_enter Tryd.func28, Tryd.ntmps28
      go_wp2
      go_ret2
      refine xtick_post HS.out ?_ ?_
      · unfold xtickA; rw [Bool.eq_iff_iff]; simp; omega
      · unfold xtickD; rw [Bool.eq_iff_iff]; simp; omega
    · have e1 : ¬ (8 : Int) ≤ (gone : Int) + 1 := by omega
      go_enter Tryd.func28, Tryd.ntmps28
      go_wp2
      go_ret2
      refine xtick_post HS.out ?_ ?_
      · unfold xtickA; rw [Bool.eq_iff_iff]; simp; omega
      · unfold xtickD; rw [Bool.eq_iff_iff]; simp; omega
end Go.Proofs.YtkfbhiggnnjoiaaDoor
