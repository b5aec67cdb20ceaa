/- link: each call, whatever the way, on both streams. -/
import Derived.Test.YtkfbhiggnnjoiaaDoorLkXK
import Derived.Test.YtkfbhiggnnjoiaaDoorLkQuiet
import Derived.Test.YtkfbhiggnnjoiaaDoorLkMake
namespace Go.Proofs.YtkfbhiggnnjoiaaDoor
open Go.RowKit Go.Lib

/-- Laid or sent, whatever the way. -/
def opL (inj : Bool) (x : Lk) (i : Int) (s : List UInt8) : Nat × Lk :=
  if i = 0 then (if inj then injL x 0 s else sendL x 0 s) else if i = 1 then (if inj then injL x 1 s else sendL x 1 s) else (1, x)
def tkL (x : Lk) (i n : Int) : List (List UInt8) × Nat × Lk :=
  if n < 0 then ([], 1, x) else if i = 0 then takeL x 0 n.toNat else if i = 1 then takeL x 1 n.toNat else ([], 1, x)
def gnL (x : Lk) (i n : Int) (gone : Nat) : Nat :=
  if n < 0 then gone else if i = 0 then goneL x 0 n.toNat gone else if i = 1 then goneL x 1 n.toNat gone else gone
def wtL (x : Lk) (i : Int) : Nat := if i = 0 then x.a.W.length else if i = 1 then x.b.W.length else 0
def spL (x : Lk) (i : Int) : Int := if i = 0 then 262144 - (x.a.W.length : Int) else if i = 1 then 262144 - (x.b.W.length : Int) else 0
theorem out_of {i : Int} (h0 : ¬ i = 0) (h1 : ¬ i = 1) : i < 0 ∨ 2 ≤ i := by omega
theorem LkPost.refl {b : Addr} {base l : Nat} {v : Value} {x : Lk} {w : World} (h : LkIs b base l x w) : LkPost b base l v x w (.returned v) w := ⟨rfl, h, Kept.refl _ _⟩
theorem tinject {b : Addr} {base l : Nat} {x : Lk} {w : World} (h : LkIs b base l x w) (i : Int) (s : ByteArray) :
    Calls Tryd.prog 21 #[.pointer (some ⟨l, 0, none⟩), .int .i64 i, .string s] w (LkPost b base l (.int .i64 ((opL true x i s.data.toList).1 : Int)) (opL true x i s.data.toList).2 w) := by
  unfold opL
  by_cases h0 : i = 0
  · subst h0; exact inject_way h 0 (by omega) s
  · rw [if_neg h0]
    by_cases h1 : i = 1
    · subst h1; exact inject_way h 1 (by omega) s
    · rw [if_neg h1]
      refine (inject_no l i (out_of h0 h1) s w).mono ?_
      rintro e w' ⟨rfl, rfl⟩
      exact LkPost.refl h
theorem xinject {base gone : Nat} {f : Xm} {x : Lk} {w : World} (h : XkAt base f x gone w) (hok : x.Ok) (i : Int) (s : ByteArray) (hs : s.size ≤ 1000000000000000000) :
    Calls Tryd.prog 26 #[.pointer (some ⟨f.m, 0, none⟩), .int .i64 i, .string s] w (XkPost base f (.int .i64 ((opL true x i s.data.toList).1 : Int)) (opL true x i s.data.toList).2 gone w) := by
  unfold opL
  by_cases h0 : i = 0
  · subst h0; exact xinject_0 h hok.1.room s hs
  · rw [if_neg h0]
    by_cases h1 : i = 1
    · subst h1; exact xinject_1 h hok.2.room s hs
    · rw [if_neg h1]
      refine (xinject_no f.m i (out_of h0 h1) s w).mono ?_
      rintro e w' ⟨rfl, rfl⟩
      exact XkPost.same h (FKept.refl _ _)
theorem tsend {b : Addr} {base l : Nat} {x : Lk} {w : World} (h : LkIs b base l x w) (i : Int) (s : ByteArray) (hs : s.size ≤ maxLen) :
    Calls Tryd.prog 19 #[.pointer (some ⟨l, 0, none⟩), .int .i64 i, .string s] w (LkPost b base l (.int .i64 ((opL false x i s.data.toList).1 : Int)) (opL false x i s.data.toList).2 w) := by
  unfold opL
  by_cases h0 : i = 0
  · subst h0; exact send_way h 0 (by omega) s hs
  · rw [if_neg h0]
    by_cases h1 : i = 1
    · subst h1; exact send_way h 1 (by omega) s hs
    · rw [if_neg h1]
      refine (send_no l i (out_of h0 h1) s w).mono ?_
      rintro e w' ⟨rfl, rfl⟩
      exact LkPost.refl h
theorem xsend {base gone : Nat} {f : Xm} {x : Lk} {w : World} (h : XkAt base f x gone w) (hok : x.Ok) (i : Int) (s : ByteArray) (hs : s.size ≤ maxLen) :
    Calls Tryd.prog 30 #[.pointer (some ⟨f.m, 0, none⟩), .int .i64 i, .string s] w (XkPost base f (.int .i64 ((opL false x i s.data.toList).1 : Int)) (opL false x i s.data.toList).2 gone w) := by
  unfold opL
  by_cases h0 : i = 0
  · subst h0; exact xsend_0 h hok.1.room s hs
  · rw [if_neg h0]
    by_cases h1 : i = 1
    · subst h1; exact xsend_1 h hok.2.room s hs
    · rw [if_neg h1]
      refine (xsend_no f.m i (out_of h0 h1) s w).mono ?_
      rintro e w' ⟨rfl, rfl⟩
      exact XkPost.same h (FKept.refl _ _)

def TtPost (b : Addr) (base l : Nat) (r : List (List UInt8) × Nat × Lk) (w : World) (e : Ending) (w' : World) : Prop :=
  ∃ a c, e = .returned (.tuple #[.slice a r.1.length c, .int .i64 (r.2.1 : Int)]) ∧ w'.ownsRow w.heap.size 9 1 (.slice a r.1.length c) r.1.length (strV r.1) ∧ LkIs b base l r.2.2 w' ∧ Kept base w w'
theorem ttake {b : Addr} {base l : Nat} {x : Lk} {w : World} (h : LkIs b base l x w) (hep : x.ep ≤ 1000000) (i n : Int) (hn : n ≤ 9223372036854775807) :
    Calls Tryd.prog 20 #[.pointer (some ⟨l, 0, none⟩), .int .i64 i, .int .i64 n] w (TtPost b base l (tkL x i n) w) := by
  have hno : ∀ e w', e = .returned (.tuple #[.slice none 0 0, .int .i64 1]) ∧ w = w' → TtPost b base l ([], 1, x) w e w' := by
    rintro e w' ⟨rfl, rfl⟩
    exact ⟨none, 0, rfl, World.ownsRow_nil _ _ _ _, h, Kept.refl _ _⟩
  unfold tkL
  by_cases h0 : i = 0
  · subst h0
    by_cases hn0 : n < 0
    · rw [if_pos hn0]
      exact (takeL_neg l 0 (by omega) n hn0 w).mono hno
    · rw [if_neg hn0]
      obtain ⟨k, rfl⟩ := Int.eq_ofNat_of_zero_le (Int.not_lt.1 hn0)
      exact takeL_way h hep 0 (by omega) k hn
  · by_cases h1 : i = 1
    · subst h1
      by_cases hn0 : n < 0
      · rw [if_pos hn0]
        exact (takeL_neg l 1 (by omega) n hn0 w).mono hno
      · rw [if_neg hn0, if_neg h0]
        obtain ⟨k, rfl⟩ := Int.eq_ofNat_of_zero_le (Int.not_lt.1 hn0)
        exact takeL_way h hep 1 (by omega) k hn
    · have e : (if n < 0 then ([], 1, x) else if i = 0 then takeL x 0 n.toNat else if i = 1 then takeL x 1 n.toNat else ([], 1, x)) = ([], 1, x) := by rw [if_neg h0, if_neg h1]; split <;> rfl
      rw [e]
      exact (takeL_no l i n (out_of h0 h1) w).mono hno
set_option maxRecDepth 100000 in
theorem xtneg_0 (m : Nat) (n : Int) (hn : n < 0) (w : World) :
    Calls Tryd.prog 27 #[.pointer (some ⟨m, 0, none⟩), .int .i64 0, .int .i64 n] w fun e w' => e = .returned (.tuple #[.slice none 0 0, .int .i64 1]) ∧ w = w' := by
  go_enter Tryd.func27, Tryd.ntmps27
  go_wp2
  go_ret2
  exact ⟨rfl, rfl⟩
set_option maxRecDepth 100000 in
theorem xtneg_1 (m : Nat) (n : Int) (hn : n < 0) (w : World) :
    Calls Tryd.prog 27 #[.pointer (some ⟨m, 0, none⟩), .int .i64 1, .int .i64 n] w fun e w' => e = .returned (.tuple #[.slice none 0 0, .int .i64 1]) ∧ w = w' := by
  go_enter Tryd.func27, Tryd.ntmps27
  go_wp2
  go_ret2
  exact ⟨rfl, rfl⟩
def XtaPost (base : Nat) (f : Xm) (r : List (List UInt8) × Nat × Lk) (g : Nat) (w : World) (e : Ending) (w' : World) : Prop :=
  ∃ a c, e = .returned (.tuple #[.slice a r.1.length c, .int .i64 (r.2.1 : Int)]) ∧ w'.ownsRow w.heap.size 9 1 (.slice a r.1.length c) r.1.length (strV r.1) ∧
    ∃ f' : Xm, f'.m = f.m ∧ XkAt base f' r.2.2 g w' ∧ FKept (Ft f) w w' ∧ (∀ k, Ft f' k → Ft f k ∨ w.heap.size ≤ k)
theorem xtake {base gone : Nat} {f : Xm} {x : Lk} {w : World} (h : XkAt base f x gone w) (hok : x.Ok) (hep : x.ep ≤ 1000000) (i n : Int) (hn : n ≤ 9223372036854775807) :
    Calls Tryd.prog 27 #[.pointer (some ⟨f.m, 0, none⟩), .int .i64 i, .int .i64 n] w (XtaPost base f (tkL x i n) (gnL x i n gone) w) := by
  have hno : ∀ e w', e = .returned (.tuple #[.slice none 0 0, .int .i64 1]) ∧ w = w' → XtaPost base f ([], 1, x) gone w e w' := by
    rintro e w' ⟨rfl, rfl⟩
    exact ⟨none, 0, rfl, World.ownsRow_nil _ _ _ _, f, rfl, h, FKept.refl _ _, fun _ h => .inl h⟩
  unfold tkL gnL
  by_cases h0 : i = 0
  · subst h0
    by_cases hn0 : n < 0
    · rw [if_pos hn0, if_pos hn0]
      exact (xtneg_0 f.m n hn0 w).mono hno
    · rw [if_neg hn0, if_neg hn0]
      obtain ⟨k, rfl⟩ := Int.eq_ofNat_of_zero_le (Int.not_lt.1 hn0)
      exact xtake_0 h hok hep k hn
  · by_cases h1 : i = 1
    · subst h1
      by_cases hn0 : n < 0
      · rw [if_pos hn0, if_pos hn0]
        exact (xtneg_1 f.m n hn0 w).mono hno
      · rw [if_neg hn0, if_neg hn0, if_neg h0, if_neg h0]
        obtain ⟨k, rfl⟩ := Int.eq_ofNat_of_zero_le (Int.not_lt.1 hn0)
        exact xtake_1 h hok hep k hn
    · have e : (if n < 0 then ([], 1, x) else if i = 0 then takeL x 0 n.toNat else if i = 1 then takeL x 1 n.toNat else ([], 1, x)) = ([], 1, x) := by rw [if_neg h0, if_neg h1]; split <;> rfl
      have e' : (if n < 0 then gone else if i = 0 then goneL x 0 n.toNat gone else if i = 1 then goneL x 1 n.toNat gone else gone) = gone := by rw [if_neg h0, if_neg h1]; split <;> rfl
      rw [e, e']
      exact (xtake_no f.m i (out_of h0 h1) n w).mono hno
theorem twait {b : Addr} {base l : Nat} {x : Lk} {w : World} (h : LkIs b base l x w) (i : Int) (q : Nat) :
    Calls Tryd.prog 15 #[.pointer (some ⟨l, 0, none⟩), .int .i64 i] (w.drewN q) fun e w' => e = .returned (.int .i64 (wtL x i : Int)) ∧ ∃ m, w' = (w.drewN q).drewN m := by
  have h := h.below (below_drewN' q)
  unfold wtL
  by_cases h0 : i = 0
  · subst h0; exact waitingL_way h 0 (by omega)
  · rw [if_neg h0]
    by_cases h1 : i = 1
    · subst h1; exact waitingL_way h 1 (by omega)
    · rw [if_neg h1]; exact waitingL_no l i (out_of h0 h1) _
theorem tspace {b : Addr} {base l : Nat} {x : Lk} {w : World} (h : LkIs b base l x w) (i : Int) (q : Nat) :
    Calls Tryd.prog 17 #[.pointer (some ⟨l, 0, none⟩), .int .i64 i] (w.drewN q) fun e w' => e = .returned (.int .i64 (spL x i)) ∧ ∃ m, w' = (w.drewN q).drewN m := by
  have h := h.below (below_drewN' q)
  unfold spL
  by_cases h0 : i = 0
  · subst h0; exact spaceL_way h 0 (by omega)
  · rw [if_neg h0]
    by_cases h1 : i = 1
    · subst h1; exact spaceL_way h 1 (by omega)
    · rw [if_neg h1]; exact spaceL_no l i (out_of h0 h1) _
theorem back {w w' : World} {v : Value} {e : Ending} (h : e = .returned v ∧ w = w') : e = .returned v ∧ w' = w := ⟨h.1, h.2.symm⟩
theorem xwait {base gone : Nat} {f : Xm} {x : Lk} {w : World} (h : XkAt base f x gone w) (i : Int) (q : Nat) :
    Calls Tryd.prog 16 #[.pointer (some ⟨f.m, 0, none⟩), .int .i64 i] (w.drewN q) fun e w' => e = .returned (.int .i64 (wtL x i : Int)) ∧ w' = w.drewN q := by
  have h := h.below (below_drewN' q)
  unfold wtL
  by_cases h0 : i = 0
  · subst h0; exact (xwait_0 h rfl).mono (fun _ _ => back)
  · rw [if_neg h0]
    by_cases h1 : i = 1
    · subst h1; exact (xwait_1 h rfl).mono (fun _ _ => back)
    · rw [if_neg h1]; exact (xwait_no f.m i (out_of h0 h1) _).mono (fun _ _ => back)
theorem xspace {base gone : Nat} {f : Xm} {x : Lk} {w : World} (h : XkAt base f x gone w) (hok : x.Ok) (i : Int) (q : Nat) :
    Calls Tryd.prog 18 #[.pointer (some ⟨f.m, 0, none⟩), .int .i64 i] (w.drewN q) fun e w' => e = .returned (.int .i64 (spL x i)) ∧ w' = w.drewN q := by
  have h := h.below (below_drewN' q)
  unfold spL
  by_cases h0 : i = 0
  · subst h0; exact (xspace_0 h hok.1.room rfl).mono (fun _ _ => back)
  · rw [if_neg h0]
    by_cases h1 : i = 1
    · subst h1; exact (xspace_1 h hok.2.room rfl).mono (fun _ _ => back)
    · rw [if_neg h1]; exact (xspace_no f.m i (out_of h0 h1) _).mono (fun _ _ => back)

theorem LkIs.ok {b : Addr} {base l : Nat} {x : Lk} {w : World} (h : LkIs b base l x w) : x.Ok := by obtain ⟨_, _, h, _⟩ := h; exact h
/-- What a call leaves of the epoch, and of the ticks. -/
theorem opL_ep (inj : Bool) (x : Lk) (i : Int) (s : List UInt8) : (opL inj x i s).2.ep = x.ep ∧ (opL inj x i s).2.tk = x.tk := by
  have h1 : ∀ k s, (injL x k s).2.ep = x.ep ∧ (injL x k s).2.tk = x.tk := by
    intro k s; unfold injL; split
    · exact ⟨rfl, rfl⟩
    · exact ⟨Lk.put_ep _ _ _, Lk.put_tk _ _ _⟩
  have h2 : ∀ k s, (sendL x k s).2.ep = x.ep ∧ (sendL x k s).2.tk = x.tk := by
    intro k s; unfold sendL; split
    · exact h1 _ _
    · exact ⟨rfl, rfl⟩
  unfold opL
  split
  · split
    · exact h1 _ _
    · exact h2 _ _
  · split
    · split
      · exact h1 _ _
      · exact h2 _ _
    · exact ⟨rfl, rfl⟩
theorem tkL_ep (x : Lk) (i n : Int) (gone : Nat) (h : x.tk = min gone 20) : (tkL x i n).2.2.ep ≤ x.ep + 1 ∧ (tkL x i n).2.2.tk = min (gnL x i n gone) 20 ∧ gnL x i n gone ≤ gone := by
  have h1 : ∀ k n, (takeL x k n).2.2.ep ≤ x.ep + 1 ∧ (takeL x k n).2.2.tk = min (goneL x k n gone) 20 ∧ goneL x k n gone ≤ gone := by
    intro k n
    unfold takeL goneL
    cases hb : (feedL ((x.at k).S ++ (x.at k).W.take n)).bad with
    | none => simp only [hb]; exact ⟨by rw [Lk.put_ep]; omega, by rw [Lk.put_tk]; exact h, Nat.le_refl _⟩
    | some m => simp only [hb]; exact ⟨Nat.le_refl _, rfl, Nat.zero_le _⟩
  unfold tkL gnL
  split
  · exact ⟨Nat.le_succ _, h, Nat.le_refl _⟩
  · split
    · exact h1 _ _
    · split
      · exact h1 _ _
      · exact ⟨Nat.le_succ _, h, Nat.le_refl _⟩
/-- Both streams, in one world. -/
structure Bh (b : Addr) (base l m E : Nat) (x : Lk) (gone : Nat) (w0 w : World) : Prop where
  lk : LkIs b base l x w
  xk : ∃ f : Xm, f.m = m ∧ XkAt base f x gone w
  tk : x.tk = min gone 20
  ep : x.ep ≤ E
  gn : gone ≤ E
  low : Below base w0 w
theorem Bh.below {b : Addr} {base l m E gone : Nat} {x : Lk} {w0 w w' : World} (h : Bh b base l m E x gone w0 w) (hb : Below w.heap.size w w') : Bh b base l m E x gone w0 w' := by
  obtain ⟨f, hm, hx⟩ := h.xk
  exact ⟨h.lk.below hb, ⟨f, hm, hx.below hb⟩, h.tk, h.ep, h.gn, h.low.trans (hb.mono h.lk.hB)⟩
/-- The box with the deed. -/
structure Dd where
  kd : Nat
  way : Int
  s : ByteArray
  n : Int
  lg : Bool
abbrev ddCells (d : Dd) : Array Value := #[.int .u8 (d.kd : Int), .int .i64 d.way, .string d.s, .int .i64 d.n, .bool d.lg]
def Bx (B : Nat) (d : Dd) (w : World) : Prop := Blk w B (ddCells d) 29
theorem Bx.kept {B b0 : Nat} {d : Dd} {w w' : World} (h : Bx B d w) (hk : Kept b0 w w') : Bx B d w' := Kept.blk hk h (by decide) (by decide) (by decide)
theorem Bx.below {B : Nat} {d : Dd} {w w' : World} (h : Bx B d w) (hb : Below w.heap.size w w') : Bx B d w' := Blk.below h hb (Blk.lt h)
theorem XkAt.notBox {base gone B : Nat} {f : Xm} {x : Lk} {w : World} {d : Dd} (h : XkAt base f x gone w) (hb : Bx B d w) : ¬ Ft f B := by
  obtain ⟨T0, T1, _, _, hw⟩ := h.ws
  obtain ⟨U0, _, hx0⟩ := h.x0
  obtain ⟨U1, _, hx1⟩ := h.x1
  rintro (e | e | e | e | e)
  · exact Blk.ne hb h.blk (by decide) e
  · exact Blk.ne hb hw (by decide) e
  · exact Blk.ne hb h.rs (by decide) e
  · exact Blk.ne hb hx0 (by decide) e
  · exact Blk.ne hb hx1 (by decide) e
theorem Bx.fkept {B base gone : Nat} {f : Xm} {x : Lk} {d : Dd} {w w' : World} (h : Bx B d w) (hx : XkAt base f x gone w) (hk : FKept (Ft f) w w') : Bx B d w' := (hk.block B (Blk.lt h) (hx.notBox h)).trans h

/-- Two boxes. -/
def Bx2 (B : Nat) (d : Dd) (B1 : Nat) (d1 : Dd) (w : World) : Prop := Bx B d w ∧ Bx B1 d1 w
theorem Bx2.kept {B B1 b0 : Nat} {d d1 : Dd} {w w' : World} (h : Bx2 B d B1 d1 w) (hk : Kept b0 w w') : Bx2 B d B1 d1 w' := ⟨h.1.kept hk, h.2.kept hk⟩
theorem Bx2.below {B B1 : Nat} {d d1 : Dd} {w w' : World} (h : Bx2 B d B1 d1 w) (hb : Below w.heap.size w w') : Bx2 B d B1 d1 w' := ⟨h.1.below hb, h.2.below hb⟩
theorem Bx2.fkept {B B1 base gone : Nat} {f : Xm} {x : Lk} {d d1 : Dd} {w w' : World} (h : Bx2 B d B1 d1 w) (hx : XkAt base f x gone w) (hk : FKept (Ft f) w w') : Bx2 B d B1 d1 w' := ⟨h.1.fkept hx hk, h.2.fkept hx hk⟩
/-- The program's stream is ahead by a call. -/
structure Mid (b : Addr) (base l m E : Nat) (x x' : Lk) (gone B : Nat) (d : Dd) (B1 : Nat) (d1 : Dd) (w0 w : World) : Prop where
  lk : LkIs b base l x' w
  ok : x.Ok
  xk : ∃ f : Xm, f.m = m ∧ XkAt base f x gone w
  tk : x.tk = min gone 20
  ep : x.ep ≤ E
  gn : gone ≤ E
  low : Below base w0 w
  box : Bx2 B d B1 d1 w
theorem Mid.of {b : Addr} {base l m E gone B B1 : Nat} {x x' : Lk} {d d1 : Dd} {w0 w w' : World} (h : Bh b base l m E x gone w0 w) (hb : Bx2 B d B1 d1 w) (hl : LkIs b base l x' w') (hk : Kept base w w') : Mid b base l m E x x' gone B d B1 d1 w0 w' := by
  obtain ⟨f, hm, hx⟩ := h.xk
  exact ⟨hl, h.lk.ok, ⟨f, hm, hx.kept hk⟩, h.tk, h.ep, h.gn, h.low.trans (hk.below h.lk.hB), hb.kept hk⟩
theorem Mid.done {b : Addr} {base l m E gone gone' B B1 : Nat} {x x' : Lk} {d d1 : Dd} {f f' : Xm} {w0 w w' : World} (h : Mid b base l m E x x' gone B d B1 d1 w0 w) (hf : f.m = m) (hx : XkAt base f x gone w) (hf' : f'.m = f.m) (hx' : XkAt base f' x' gone' w') (hk : FKept (Ft f) w w') (ht : x'.tk = min gone' 20) (he : x'.ep ≤ E + 1) (hg : gone' ≤ E + 1) :
    Bh b base l m (E + 1) x' gone' w0 w' ∧ Bx2 B d B1 d1 w' :=
  ⟨⟨h.lk.away (hx.away hk), ⟨f', hf'.trans hf, hx'⟩, ht, he, hg, h.low.trans (hk.below h.lk.hB hx.low)⟩, h.box.fkept hx hk⟩
end Go.Proofs.YtkfbhiggnnjoiaaDoor
