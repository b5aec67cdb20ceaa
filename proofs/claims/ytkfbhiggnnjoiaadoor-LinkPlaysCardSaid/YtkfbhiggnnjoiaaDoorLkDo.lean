/- link: each call, both streams and the deed's box beside. -/
import Derived.Test.YtkfbhiggnnjoiaaDoorLkBoth
namespace Go.Proofs.YtkfbhiggnnjoiaaDoor
open Go.RowKit Go.Lib

def BB (b : Addr) (base l m E : Nat) (x : Lk) (gone B : Nat) (d : Dd) (B1 : Nat) (d1 : Dd) (w0 w : World) : Prop := Bh b base l m E x gone w0 w ∧ Bx2 B d B1 d1 w
theorem BB.below {b : Addr} {base l m E gone B B1 : Nat} {x : Lk} {d d1 : Dd} {w0 w w' : World} (h : BB b base l m E x gone B d B1 d1 w0 w) (hb : Below w.heap.size w w') : BB b base l m E x gone B d B1 d1 w0 w' := ⟨h.1.below hb, h.2.below hb⟩
theorem BB.cell1 {b : Addr} {base l m E gone B B1 : Nat} {x : Lk} {d d1 : Dd} {w0 w : World} (h : BB b base l m E x gone B d B1 d1 w0 w) : w.cell? ⟨B, 1, none⟩ = some (.int .i64 d.way) := Blk.cell h.2.1 1
theorem Mid.cell1 {b : Addr} {base l m E gone B B1 : Nat} {x x' : Lk} {d d1 : Dd} {w0 w : World} (h : Mid b base l m E x x' gone B d B1 d1 w0 w) : w.cell? ⟨B, 1, none⟩ = some (.int .i64 d.way) := Blk.cell h.box.1 1
theorem tinject_m {b : Addr} {base l m E gone B B1 e' : Nat} {x x' : Lk} {d d1 : Dd} {w0 w : World} (h : BB b base l m E x gone B d B1 d1 w0 w) (i : Int) (s : ByteArray) (_hs : s.size ≤ 1000000000000000000) (ho : opL true x i s.data.toList = (e', x')) :
    Calls Tryd.prog 21 #[.pointer (some ⟨l, 0, none⟩), .int .i64 i, .string s] w fun e w' => e = .returned (.int .i64 (e' : Int)) ∧ Mid b base l m E x x' gone B d B1 d1 w0 w' := by
  have := tinject h.1.lk i s
  rw [ho] at this
  refine this.mono ?_
  rintro e w' ⟨rfl, hl, hk⟩
  exact ⟨rfl, Mid.of h.1 h.2 hl hk⟩
theorem xinject_m {b : Addr} {base l m E gone B B1 e' : Nat} {x x' : Lk} {d d1 : Dd} {w0 w : World} (h : Mid b base l m E x x' gone B d B1 d1 w0 w) (i : Int) (s : ByteArray) (hs : s.size ≤ 1000000000000000000) (ho : opL true x i s.data.toList = (e', x')) :
    Calls Tryd.prog 26 #[.pointer (some ⟨m, 0, none⟩), .int .i64 i, .string s] w fun e w' => e = .returned (.int .i64 (e' : Int)) ∧ BB b base l m (E + 1) x' gone B d B1 d1 w0 w' := by
  obtain ⟨f, hf, hx⟩ := h.xk
  have := xinject hx h.ok i s hs
  rw [ho, hf] at this
  refine this.mono ?_
  rintro e w' ⟨rfl, f', hf', hx', hk, _⟩
  have he := opL_ep true x i s.data.toList
  rw [ho] at he
  exact ⟨rfl, h.done hf hx hf' hx' hk (by rw [he.2]; exact h.tk) (by rw [he.1]; have := h.ep; omega) (by have := h.gn; omega)⟩
theorem tsend_m {b : Addr} {base l m E gone B B1 e' : Nat} {x x' : Lk} {d d1 : Dd} {w0 w : World} (h : BB b base l m E x gone B d B1 d1 w0 w) (i : Int) (s : ByteArray) (hs : s.size ≤ maxLen) (ho : opL false x i s.data.toList = (e', x')) :
    Calls Tryd.prog 19 #[.pointer (some ⟨l, 0, none⟩), .int .i64 i, .string s] w fun e w' => e = .returned (.int .i64 (e' : Int)) ∧ Mid b base l m E x x' gone B d B1 d1 w0 w' := by
  have := tsend h.1.lk i s hs
  rw [ho] at this
  refine this.mono ?_
  rintro e w' ⟨rfl, hl, hk⟩
  exact ⟨rfl, Mid.of h.1 h.2 hl hk⟩
theorem xsend_m {b : Addr} {base l m E gone B B1 e' : Nat} {x x' : Lk} {d d1 : Dd} {w0 w : World} (h : Mid b base l m E x x' gone B d B1 d1 w0 w) (i : Int) (s : ByteArray) (hs : s.size ≤ maxLen) (ho : opL false x i s.data.toList = (e', x')) :
    Calls Tryd.prog 30 #[.pointer (some ⟨m, 0, none⟩), .int .i64 i, .string s] w fun e w' => e = .returned (.int .i64 (e' : Int)) ∧ BB b base l m (E + 1) x' gone B d B1 d1 w0 w' := by
  obtain ⟨f, hf, hx⟩ := h.xk
  have := xsend hx h.ok i s hs
  rw [ho, hf] at this
  refine this.mono ?_
  rintro e w' ⟨rfl, f', hf', hx', hk, _⟩
  have he := opL_ep false x i s.data.toList
  rw [ho] at he
  exact ⟨rfl, h.done hf hx hf' hx' hk (by rw [he.2]; exact h.tk) (by rw [he.1]; have := h.ep; omega) (by have := h.gn; omega)⟩

theorem tkL_len {x : Lk} (h : x.Ok) (i n : Int) : (tkL x i n).1.length ≤ 65537 := by
  have h1 : ∀ k n, (takeL x k n).1.length ≤ 65537 := by
    intro k n
    have := feed_small (c := (x.at k).W.take n) (h.at k).len (by have := (h.at k).room; rw [List.length_take]; omega)
    unfold takeL
    cases hb : (feedL ((x.at k).S ++ (x.at k).W.take n)).bad with
    | none => simp only [hb]; exact this
    | some m => simp only [hb]; exact this
  unfold tkL
  split
  · exact Nat.zero_le _
  · split
    · exact h1 _ _
    · split
      · exact h1 _ _
      · exact Nat.zero_le _
theorem ttake_m {b : Addr} {base l m E gone B B1 e' N : Nat} {x x' : Lk} {d d1 : Dd} {w0 w : World} {ms : List (List UInt8)} (h : BB b base l m E x gone B d B1 d1 w0 w) (hE : E ≤ 1000) (i n : Int) (hn : n ≤ 9223372036854775807) (ho : tkL x i n = (ms, e', x')) (hN : ms.length = N) :
    Calls Tryd.prog 20 #[.pointer (some ⟨l, 0, none⟩), .int .i64 i, .int .i64 n] w fun e w' => ∃ a c, e = .returned (.tuple #[.slice a N c, .int .i64 (e' : Int)]) ∧ w'.ownsRow w.heap.size 9 1 (.slice a N c) N (strV ms) ∧ (∃ f : Xm, f.m = m ∧ XkAt base f x gone w' ∧ ∀ k, Ft f k → k < w.heap.size) ∧ Mid b base l m E x x' gone B d B1 d1 w0 w' := by
  subst hN
  have := ttake h.1.lk (by have := h.1.ep; omega) i n hn
  rw [ho] at this
  refine this.mono ?_
  rintro e w' ⟨a, c, rfl, hown, hl, hk⟩
  obtain ⟨f, hf, hx⟩ := h.1.xk
  exact ⟨a, c, rfl, hown, ⟨f, hf, hx.kept hk, fun k hk => hx.lt hk⟩, Mid.of h.1 h.2 hl hk⟩
theorem xtake_m {b : Addr} {base l m E gone gone' B B1 e' N z c1 : Nat} {x x' : Lk} {d d1 : Dd} {w0 w : World} {ms : List (List UInt8)} {a1 : Option Addr} (h : Mid b base l m E x x' gone B d B1 d1 w0 w) (hf : ∃ f : Xm, f.m = m ∧ XkAt base f x gone w ∧ ∀ k, Ft f k → k < z) (h1 : w.ownsRow z 9 1 (.slice a1 N c1) N (strV ms)) (hE : E ≤ 1000) (i n : Int) (hn : n ≤ 9223372036854775807) (ho : tkL x i n = (ms, e', x')) (hN : ms.length = N) (hg : gnL x i n gone = gone') :
    Calls Tryd.prog 27 #[.pointer (some ⟨m, 0, none⟩), .int .i64 i, .int .i64 n] w fun e w' => ∃ a c, e = .returned (.tuple #[.slice a N c, .int .i64 (e' : Int)]) ∧ w'.ownsRow z 9 1 (.slice a1 N c1) N (strV ms) ∧ w'.ownsRow w.heap.size 9 1 (.slice a N c) N (strV ms) ∧ BB b base l m (E + 1) x' gone' B d B1 d1 w0 w' := by
  obtain ⟨f, hfm, hx, hz⟩ := hf
  subst hN
  have := xtake hx h.ok (by have := h.ep; omega) i n hn
  rw [ho, hg, hfm] at this
  refine this.mono ?_
  rintro e w' ⟨a, c, rfl, hown, f', hf', hx', hk, _⟩
  have he := tkL_ep x i n gone h.tk
  rw [ho, hg] at he
  have he : x'.ep ≤ x.ep + 1 ∧ x'.tk = min gone' 20 ∧ gone' ≤ gone := he
  exact ⟨a, c, rfl, hk.own h1 (fun g hg' hft => by have := (own_heap h1 hg').1; have := hz g hft; omega), hown, h.done hfm hx hf' hx' hk he.2.1 (by have := h.ep; omega) (by have := h.gn; omega)⟩
theorem ttick_m {b : Addr} {base l m E gone B B1 : Nat} {x : Lk} {d d1 : Dd} {w0 w : World} (h : BB b base l m E x gone B d B1 d1 w0 w) :
    Calls Tryd.prog 23 #[.pointer (some ⟨l, 0, none⟩)] w fun e w' => e = .returned (.tuple #[.bool (xtickA gone), .bool (xtickD gone)]) ∧ Mid b base l m E x { x with tk := tickN x.tk } gone B d B1 d1 w0 w' := by
  have ht := xtick_eq h.1.tk
  rw [ht.1, ht.2]
  refine (tick_is h.1.lk (by rw [h.1.tk]; omega)).mono ?_
  rintro e w' ⟨rfl, hl, hk⟩
  exact ⟨rfl, Mid.of h.1 h.2 hl hk⟩
theorem xtick_m {b : Addr} {base l m E gone B B1 : Nat} {x : Lk} {d d1 : Dd} {w0 w : World} (h : Mid b base l m E x { x with tk := tickN x.tk } gone B d B1 d1 w0 w) (hE : E ≤ 1000) :
    Calls Tryd.prog 28 #[.pointer (some ⟨m, 0, none⟩)] w fun e w' => e = .returned (.tuple #[.bool (xtickA gone), .bool (xtickD gone)]) ∧ BB b base l m (E + 1) { x with tk := tickN x.tk } (gone + 1) B d B1 d1 w0 w' := by
  obtain ⟨f, hf, hx⟩ := h.xk
  have := xtick_any hx (by have := h.gn; omega) (tickN x.tk)
  rw [hf] at this
  refine this.mono ?_
  rintro e w' ⟨rfl, f', hf', hx', hk, _⟩
  exact ⟨rfl, h.done hf hx hf' hx' hk (by show tickN x.tk = _; rw [h.tk]; unfold tickN; omega) (by have := h.ep; show x.ep ≤ _; omega) (by have := h.gn; omega)⟩
theorem theard_m {b : Addr} {base l m E gone B B1 : Nat} {x : Lk} {d d1 : Dd} {w0 w : World} (h : BB b base l m E x gone B d B1 d1 w0 w) :
    Calls Tryd.prog 24 #[.pointer (some ⟨l, 0, none⟩)] w fun e w' => e = .returned (.tuple #[]) ∧ Mid b base l m E x { x with tk := 0 } gone B d B1 d1 w0 w' := by
  refine (heard_is h.1.lk).mono ?_
  rintro e w' ⟨rfl, hl, hk⟩
  exact ⟨rfl, Mid.of h.1 h.2 hl hk⟩
theorem xheard_m {b : Addr} {base l m E gone B B1 : Nat} {x : Lk} {d d1 : Dd} {w0 w : World} (h : Mid b base l m E x { x with tk := 0 } gone B d B1 d1 w0 w) :
    Calls Tryd.prog 29 #[.pointer (some ⟨m, 0, none⟩)] w fun e w' => e = .returned (.tuple #[]) ∧ BB b base l m (E + 1) { x with tk := 0 } 0 B d B1 d1 w0 w' := by
  obtain ⟨f, hf, hx⟩ := h.xk
  have := xheard_any hx
  rw [hf] at this
  refine this.mono ?_
  rintro e w' ⟨rfl, f', hf', hx', hk, _⟩
  exact ⟨rfl, h.done hf hx hf' hx' hk rfl (by have := h.ep; show x.ep ≤ _; omega) (Nat.zero_le _)⟩
theorem treset_m {b : Addr} {base l m E gone B B1 : Nat} {x : Lk} {d d1 : Dd} {w0 w : World} (h : BB b base l m E x gone B d B1 d1 w0 w) (hE : E ≤ 1000) :
    Calls Tryd.prog 22 #[.pointer (some ⟨l, 0, none⟩)] w fun e w' => e = .returned (.tuple #[]) ∧ Mid b base l m E x (lk0 (x.ep + 1)) gone B d B1 d1 w0 w' := by
  refine (reset_is h.1.lk (by have := h.1.ep; omega)).mono ?_
  rintro e w' ⟨rfl, hl, hk⟩
  exact ⟨rfl, Mid.of h.1 h.2 hl hk⟩
theorem xreset_m {b : Addr} {base l m E gone B B1 : Nat} {x : Lk} {d d1 : Dd} {w0 w : World} (h : Mid b base l m E x (lk0 (x.ep + 1)) gone B d B1 d1 w0 w) (hE : E ≤ 1000) :
    Calls Tryd.prog 25 #[.pointer (some ⟨m, 0, none⟩)] w fun e w' => e = .returned (.tuple #[]) ∧ BB b base l m (E + 1) (lk0 (x.ep + 1)) 0 B d B1 d1 w0 w' := by
  obtain ⟨f, hf, hx⟩ := h.xk
  have := xreset_is hx (by have := h.ep; omega)
  rw [hf] at this
  refine this.mono ?_
  rintro e w' ⟨rfl, f', hf', hx', hk, _⟩
  exact ⟨rfl, h.done hf hx hf' hx' hk rfl (by have := h.ep; show x.ep + 1 ≤ _; omega) (Nat.zero_le _)⟩
end Go.Proofs.YtkfbhiggnnjoiaaDoor
