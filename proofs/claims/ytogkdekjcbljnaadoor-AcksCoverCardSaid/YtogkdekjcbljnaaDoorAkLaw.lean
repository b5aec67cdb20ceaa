/- acks: what a law's walk carries along; an Acks that knows of one key alone. -/
import Derived.Test.YtogkdekjcbljnaaDoorAkNote
import Derived.Test.YtogkdekjcbljnaaDoorAkReady
import Derived.Test.YtogkdekjcbljnaaDoorAkForget
import Derived.Test.YtogkdekjcbljnaaDoorAkKeys
import Derived.Test.YtogkdekjcbljnaaDoorMsPutS
namespace Go.Proofs.YtogkdekjcbljnaaDoor
open Go.RowKit

structure AkL (base : Nat) (b : AkB) (A : Ak) (g n : Addr) (W w : World) : Prop where
  i : AkIs base b A w
  g : Gv g w
  n : Gn n w
  lg : 1 < base
  ln : 0 < base
  lb : W.heap.size ≤ base
  k : Below W.heap.size W w
section
variable {base : Nat} {b : AkB} {A A' : Ak} {g n : Addr} {W w w' : World}
theorem AkL.later (h : AkL base b A g n W w) (hb : Below w.heap.size w w') : AkL base b A g n W w' :=
  ⟨h.i.later hb, h.g.below hb, h.n.later hb, h.lg, h.ln, h.lb, h.k.trans (hb.mono h.k.size)⟩
theorem AkL.turn (h : AkL base b A g n W w) (hi : AkIs base b A' w') (hk : KeptA b base w w') : AkL base b A' g n W w' := by
  have hb := hk.low h.i
  exact ⟨hi, ⟨(hb.cell (p := ⟨1, 0, none⟩) h.lg).trans h.g.1, Nat.lt_of_lt_of_le h.g.2 hk.size⟩, gn_base h.n h.ln hb, h.lg, h.ln, h.lb, h.k.trans (hb.mono h.lb)⟩
theorem AkL.new (hg : Gv g w) (hn : Gn n w) (hk : Below W.heap.size W w) : Calls Tryd.prog 8 #[] w fun e w' => ∃ b : AkB, e = .returned (.pointer (some ⟨b.m, 0, none⟩)) ∧ AkL w.heap.size b Ak.zero g n W w' ∧ Below w.heap.size w w' :=
  (acNew_any w).mono fun _ _ ⟨b, h1, h2, h3⟩ => ⟨b, h1, ⟨h2, hg.below h3, hn.later h3, hg.2, hn.2, hk.size, hk.trans (h3.mono hk.size)⟩, h3⟩
theorem AkL.note (h : AkL base b A g n W w) {id : Int} (r : St) (hq : r.q < 2 ^ 64) :
    Calls Tryd.prog 9 #[.pointer (some ⟨b.m, 0, none⟩), .int .i64 id, .agg #[.int .i64 r.t, .string r.x, .int .u64 (r.q : Int), .bool r.f, .string r.s]] w fun e w' => e = .returned (.int .i64 (noteE id r)) ∧ AkL base b (noteA A id r) g n W w' ∧ KeptA b base w w' :=
  (note_any h.g h.n hq h.i).mono fun _ _ ⟨h1, h2, h3⟩ => ⟨h1, h.turn h2 h3, h3⟩
/-- A note of what may be noted. -/
theorem AkL.put (h : AkL base b A g n W w) {id : Int} {t : Int} {x : ByteArray} {q : Nat} {f : Bool} {s : ByteArray} (hok : St.ok ⟨t, x, q, f, s⟩ = true) (hi : 1 ≤ id ∧ id ≤ 32) (hq : q < 2 ^ 64) :
    Calls Tryd.prog 9 #[.pointer (some ⟨b.m, 0, none⟩), .int .i64 id, .agg #[.int .i64 t, .string x, .int .u64 (q : Int), .bool f, .string s]] w fun e w' => e = .returned (.int .i64 0) ∧ AkL base b (A.put (t, x) id q f s) g n W w' ∧ KeptA b base w w' := by
  have hno : notOk id ⟨t, x, q, f, s⟩ = false := by
    unfold notOk
    rw [hok, decide_eq_false (by omega), decide_eq_false (by omega)]; rfl
  have := h.note (id := id) ⟨t, x, q, f, s⟩ hq
  unfold noteE noteA at this
  rw [if_neg (by rw [hno]; decide), if_neg (by rw [hno]; decide)] at this
  exact this
theorem ints_blk {B : Nat} {l : List Int} {c : Array Value} (h : Blk w B c 3) (hc : c = (l.map fun x => Value.int .i64 x).toArray) : IntsAt w (some ⟨B, 0, none⟩) l := by
  subst hc
  intro i x hx
  refine ⟨B, 0, rfl, h.lt, ?_⟩
  rw [Nat.zero_add, h.cell i]
  simp [hx]
theorem AkL.ready (h : AkL base b A g n W w) {k : Ky} (hk : kyK k) (hkx : k.2.size ≤ 140737488355328) {a : Option Addr} {c : Nat} {l : List Int} (hr : ∀ w', KeptA b base w w' → IntsAt w' a l) (hn : l.length ≤ maxLen) (hi : ∀ x ∈ l, i64B x) :
    Calls Tryd.prog 10 #[.pointer (some ⟨b.m, 0, none⟩), kyE k, .slice a l.length c] w fun e w' => ∃ a' c', e = .returned (.slice a' (A.out k l).length c') ∧ OutAt w.heap.size (.slice a' (A.out k l).length c') (A.out k l) w' ∧ AkL base b (A.ready k l) g n W w' ∧ KeptA b base w w' :=
  (ready_any h.i hk hkx hr hn hi).mono fun _ _ ⟨_, h1, h2, h3, h4⟩ => by
    obtain ⟨a', c', rfl⟩ := row_shape h2
    exact ⟨a', c', h1, ⟨h2⟩, h.turn h3 h4, h4⟩
theorem AkL.drop (h : AkL base b A g n W w) {i : Int} (hi : i64B i) :
    Calls Tryd.prog 12 #[.pointer (some ⟨b.m, 0, none⟩), .int .i64 i] w fun e w' => e = .returned (.tuple #[]) ∧ AkL base b (A.drop i) g n W w' ∧ KeptA b base w w' :=
  (drop_any h.i hi).mono fun _ _ ⟨h1, h2, h3⟩ => ⟨h1, h.turn h2 h3, h3⟩
theorem AkL.forget (h : AkL base b A g n W w) {k : Ky} (hk : kyK k) :
    Calls Tryd.prog 13 #[.pointer (some ⟨b.m, 0, none⟩), kyE k] w fun e w' => e = .returned (.tuple #[]) ∧ AkL base b (A.forget k) g n W w' ∧ KeptA b base w w' :=
  (forget_any h.i hk).mono fun _ _ ⟨h1, h2, h3⟩ => ⟨h1, h.turn h2 h3, h3⟩
theorem KeptA.out {B' : Nat} {v : Value} {l : List St} (hk : KeptA b base w w') (h : OutAt B' v l w) : OutAt B' v l w' := ⟨hk.own h.own (by decide)⟩
/-- The cells of what came out. -/
theorem OutAt.at' {B' c : Nat} {a : Option Addr} {l : List St} (h : OutAt B' (.slice a l.length c) l w) {i : Nat} {r : St} (hi : l[i]? = some r) : ∃ g, a = some ⟨g, 0, none⟩ ∧ w.cell? ⟨g, i * 5, none⟩ = some (.int .i64 r.t) ∧ w.cell? ⟨g, i * 5 + 1, none⟩ = some (.string r.x) ∧ w.cell? ⟨g, i * 5 + 2, none⟩ = some (.int .u64 (r.q : Int)) ∧ w.cell? ⟨g, i * 5 + 3, none⟩ = some (.bool r.f) ∧ w.cell? ⟨g, i * 5 + 4, none⟩ = some (.string r.s) := by
  have hlt := (List.getElem?_eq_some_iff.1 hi).1
  have hg := stCells_get l i r hi
  obtain ⟨g', cap, hv, _, _⟩ := row_some h.own (by omega)
  cases hv
  have hl : (stCells l).length = l.length * 5 := stCells_len l
  exact ⟨g', rfl, (h.own.cellAt (i * 5) (by omega)).trans (hg 0 (by omega)), (h.own.cellAt (i * 5 + 1) (by omega)).trans (hg 1 (by omega)), (h.own.cellAt (i * 5 + 2) (by omega)).trans (hg 2 (by omega)), (h.own.cellAt (i * 5 + 3) (by omega)).trans (hg 3 (by omega)), (h.own.cellAt (i * 5 + 4) (by omega)).trans (hg 4 (by omega))⟩
end
/-- An Acks that knows of one key. -/
structure One (A : Ak) (K : Ky) (F : Int → Nat) (l : List Bd) (v : Nat) : Prop where
  t : A.T K = F
  r : A.R K = l
  n : A.N K = some v
  o : ∀ x, x ≠ K → A.N x = none
theorem one_first (K : Ky) (i : Int) (q : Nat) (f : Bool) (s : ByteArray) : One (Ak.zero.put K i q f s) K (if f then upd (fun _ => 0) i q else fun _ => 0) (if f then [] else [⟨q, false, s⟩]) 0 := by
  unfold Ak.put
  cases f with
  | true => exact ⟨by show upd _ K _ K = _; rw [upd_same]; show upd (fun _ => 0) i (max 0 q) = _; rw [Nat.zero_max]; rfl, rfl, by show upd _ K _ K = _; rw [upd_same]; rfl, fun x hx => by show upd _ K _ x = _; rw [upd_other hx]; rfl⟩
  | false => exact ⟨rfl, by show upd _ K _ K = _; rw [upd_same]; rfl, by show upd _ K _ K = _; rw [upd_same]; rfl, fun x hx => by show upd _ K _ x = _; rw [upd_other hx]; rfl⟩
section
variable {A : Ak} {K : Ky} {F : Int → Nat} {l : List Bd} {v : Nat}
theorem One.touch (h : One A K F l v) : A.touch K = A := by
  unfold Ak.touch
  rw [h.n]
  show ({ A with N := upd A.N K (some v) } : Ak) = A
  rw [← h.n, upd_self]
theorem One.take (h : One A K F l v) (i : Int) (q : Nat) (s : ByteArray) : One (A.put K i q true s) K (upd F i (max (F i) q)) l v := by
  unfold Ak.put
  rw [if_pos rfl, h.touch]
  exact ⟨by show upd _ K _ K = _; rw [upd_same, h.t], h.r, h.n, h.o⟩
theorem One.refuse (h : One A K F l v) (i : Int) (q : Nat) (s : ByteArray) : One (A.put K i q false s) K F (bdIns q s l) v := by
  unfold Ak.put
  rw [if_neg (by decide), h.touch]
  exact ⟨h.t, by show upd _ K _ K = _; rw [upd_same, h.r], h.n, h.o⟩
theorem One.drop (h : One A K F l v) (i : Int) : One (A.drop i) K (fun j => if j = i then 0 else F j) l v :=
  ⟨by funext j; show (if j = i then 0 else A.T K j) = _; rw [h.t], h.r, h.n, h.o⟩
theorem One.least (h : One A K F l v) (who : List Int) : leastL (A.T K) who = leastL F who := by rw [h.t]
theorem One.out (h : One A K F l v) (who : List Int) : A.out K who = bdOut K l ++ if v < leastL F who then [⟨K.1, K.2, leastL F who, true, ⟨#[]⟩⟩] else [] := by
  unfold Ak.out Ak.more
  rw [h.r, h.n, h.t]
  by_cases e : v < leastL F who
  · rw [if_pos e, if_pos (show decide ((some v).getD 0 < leastL F who) = true from decide_eq_true e)]
  · rw [if_neg e, if_neg (by rw [show decide ((some v).getD 0 < leastL F who) = false from decide_eq_false e]; decide)]
theorem One.ready (h : One A K F l v) (who : List Int) : One (A.ready K who) K F (bdTell l) (if v < leastL F who then leastL F who else v) := by
  unfold Ak.ready Ak.more
  rw [h.n, h.t]
  by_cases e : v < leastL F who
  · rw [if_pos e, if_pos (show decide ((some v).getD 0 < leastL F who) = true from decide_eq_true e)]
    exact ⟨h.t, by show upd _ K _ K = _; rw [upd_same, h.r], by show upd _ K _ K = _; rw [upd_same], fun x hx => by show upd _ K _ x = _; rw [upd_other hx]; exact h.o x hx⟩
  · rw [if_neg e, if_neg (by rw [show decide ((some v).getD 0 < leastL F who) = false from decide_eq_false e]; decide)]
    exact ⟨h.t, by show upd _ K _ K = _; rw [upd_same, h.r], h.n, h.o⟩
theorem One.keys (h : One A K F l v) {ks : List Ky} (hs : KySrt ks) (hm : ∀ k, k ∈ ks ↔ (A.N k).isSome) : ks = [K] :=
  kySrt_ext hs (List.pairwise_singleton _ _) fun k => by
    rw [hm, List.mem_singleton]
    by_cases e : k = K
    · subst e; rw [h.n]; exact ⟨fun _ => rfl, fun _ => rfl⟩
    · rw [h.o k e]; exact ⟨fun h => by (cases h), fun h => absurd h e⟩
theorem One.some (h : One A K F l v) (k : Ky) (hk : (A.N k).isSome) : k ∈ [K] := by
  rw [List.mem_singleton]
  exact Classical.byContradiction fun e => by rw [h.o k e] at hk; cases hk
end
theorem sm_all {l : List Int} (h : (l.all fun x => decide (-1000 ≤ x) && decide (x ≤ 1000)) = true) : ∀ x ∈ l, i64B x := by
  intro x hx
  have h1 := List.all_eq_true.1 h x hx
  simp only [Bool.and_eq_true, decide_eq_true_eq] at h1
  unfold i64B
  omega
theorem noneN_keys {A : Ak} (h : ∀ k, A.N k = none) {ks : List Ky} (hm : ∀ k, k ∈ ks ↔ (A.N k).isSome) : ks = [] :=
  List.eq_nil_iff_forall_not_mem.2 fun k hk => by
    have := (hm k).1 hk
    rw [h k] at this; cases this
theorem One.forget {A : Ak} {K : Ky} {F : Int → Nat} {l : List Bd} {v : Nat} (h : One A K F l v) : (∀ k, (A.forget K).N k = none) ∧ (A.forget K).T K = fun _ => 0 := by
  refine ⟨fun k => ?_, by show upd _ K _ K = _; rw [upd_same]⟩
  show upd A.N K none k = none
  by_cases e : k = K
  · subst e; rw [upd_same]
  · rw [upd_other e]; exact h.o k e
/-- A name of one byte. -/
abbrev nm1 (c : UInt8) : ByteArray := ⟨#[c]⟩
theorem stOk_one (t : Int) (c : UInt8) (q : Nat) (f : Bool) (d : ByteArray) (ht : 1 ≤ t) (ht' : t ≤ 5) (hb : nmB (c.toNat : Int) = true) (hq : 0 < q) (hd : d.size ≤ 256) (hf : f = true → d.size = 0) : St.ok ⟨t, nm1 c, q, f, d⟩ = true := by
  have h1 : nmOk (nm1 c) = true := by
    unfold nmOk
    have h3 : ((nm1 c).data.toList.all fun x => nmB (x.toNat : Int)) = true := by
      show (nmB (c.toNat : Int) && true) = true
      rw [hb]; rfl
    rw [h3]; rfl
  unfold St.ok
  dsimp only
  have h2 : ((q : Int) != 0) = true := by rw [bne_iff_ne]; omega
  rw [h1, h2, decide_eq_true ht, decide_eq_true ht', decide_eq_true (show (d.size : Int) ≤ 256 by omega)]
  cases f with
  | false => rfl
  | true => rw [decide_eq_true (hf rfl)]; rfl
theorem kyK_one (t : Int) (c : UInt8) (ht : 1 ≤ t) (ht' : t ≤ 5) : kyK (t, nm1 c) := ⟨by unfold i64B; dsimp only; omega, by show 1 ≤ maxLen; unfold maxLen; omega⟩
end Go.Proofs.YtogkdekjcbljnaaDoor
