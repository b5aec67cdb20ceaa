/- link: Feed, with where the rest lies: in the old row or in a new one. -/
import Derived.Test.YtkfbhiggnnjoiaaDoorFrRd
namespace Go.Proofs.YtkfbhiggnnjoiaaDoor
open Go.RowKit Go.Lib

/-- An append of a string's bytes: where the row lies behind it. -/
theorem run_append_str {P : Program} (w : World) (base : Nat) (t u ty e : TypeId) (i : TypeInfo) (ht : P.underlying t = some (.slice e)) (hu : P.underlying u = some .string) (hi : P.info? e = some i) (hz : i.zero = some (.int .u8 0))
    (hsize : i.size = 1) (hby : i.bytes = 1) (v : Value) (n : Nat) (xs : List Value) (hown : w.ownsRow base e 1 v n xs) (s : ByteArray) (h63 : n + s.size ≤ maxLen) (hbytes : n + s.size ≤ 140737488355328) (hbase : base ≤ w.heap.size) :
    ∃ v' w', (Builtin.append_ #[t, u] ty #[v, .string s]).run P w = .ok v' w' ∧ w'.ownsRow base e 1 v' (n + s.size) (xs ++ strCells s) ∧ w.grownBy w' v.ownBlock ∧ (∀ g, v'.ownBlock = some g → v.ownBlock = some g ∨ w.heap.size ≤ g) := by
  obtain ⟨v', w', hr, h2, h3, h4⟩ := run_append_own_string (P := P) w base t u ty e i ht hu hi hz hsize hby v n xs hown s h63 hbytes hbase
  refine ⟨v', w', hr, h2, h3, ?_⟩
  have hsmall : n + s.size ≤ 9223372036854775807 := by simp only [maxLen] at h63; omega
  have hxl : xs.length = n := by simpa using hown.1
  rcases hown.2 with ⟨rfl, rfl⟩ | ⟨g, cap, cur, rfl, hbg, hg, hnc, hcm, hcs, htake⟩
  · by_cases hm : s.size = 0
    · have : v' = .slice none 0 0 := h4.2 ⟨rfl, hm⟩
      subst this
      intro g hg; cases hg
    · have hr2 := run_append_nil_string (P := P) w t u ty e i (.int .u8 0) ht hu hi hz s (by omega) (by omega) (by rw [hby]; omega)
      rw [hr] at hr2
      injection hr2 with e1 e2
      subst e1
      intro g hg; cases hg; exact .inr (Nat.le_refl _)
  · by_cases hroom : n + s.size ≤ cap
    · have hcs' : cur.size = cap := by simpa using hcs
      have hr2 := run_append_room_string (P := P) w t u ty e i ht hu hi hsize g n cap cur hg s hroom (by omega)
      rw [hr] at hr2
      injection hr2 with e1 e2
      subst e1
      intro g' hg'; cases hg'; exact .inl rfl
    · have holds : ∀ j u, xs[j]? = some u → w.cell? ((⟨g, 0, none⟩ : Addr).add j) = some u := World.ownsRow.cells (g := g) ⟨hown.1, .inr ⟨g, cap, cur, rfl, hbg, hg, hnc, hcm, hcs, htake⟩⟩ rfl
      have hr2 := run_append_grow_string (P := P) w t u ty e i (.int .u8 0) ht hu hi hz ⟨g, 0, none⟩ n cap xs (by rw [hsize]; simpa using hxl) holds s (by omega) (by omega) (by rw [hby]; exact growslice_fits (by omega) (by omega))
      rw [hr] at hr2
      injection hr2 with e1 e2
      subst e1
      intro g' hg'; cases hg'; exact .inr (Nat.le_refl _)
theorem wpList_append_str {P : Program} (w : World) {ops : Array Oper} {rest : List Oper} {o : Oper} {a : Act} {Q : Exit → Act → World → Prop} (hgd : o.guard = none) (sl x : Operand) (t u : TypeId)
    (ho : o.op = .call { callee := .builtin .append, args := #[sl, x], argTypes := #[t, u] })
    (base : Nat) (e : TypeId) (i : TypeInfo) (ht : P.underlying t = some (.slice e)) (hu : P.underlying u = some .string) (hi : P.info? e = some i) (hz : i.zero = some (.int .u8 0))
    (hsize : i.size = 1) (hby : i.bytes = 1)
    (v : Value) (n : Nat) (xs : List Value) (hs : a.eval sl = v) (hown : w.ownsRow base e 1 v n xs) (s : ByteArray) (hx : a.eval x = .string s)
    (h63 : n + s.size ≤ maxLen) (hbytes : n + s.size ≤ 140737488355328) (hbase : base ≤ w.heap.size)
    (h : ∀ v' w', w'.ownsRow base e 1 v' (n + s.size) (xs ++ strCells s) → w.grownBy w' v.ownBlock → (∀ g, v'.ownBlock = some g → v.ownBlock = some g ∨ w.heap.size ≤ g) → wpList P ops Q rest (a.put o.dst v') w') : wpList P ops Q (o :: rest) a w := by
  refine wpList_plain hgd fun K hK => ?_
  obtain ⟨v', w', hr, h2, h3, h4⟩ := run_append_str (P := P) w base t u o.type e i ht hu hi hz hsize hby v n xs hown s h63 hbytes hbase
  unfold Oper.wp execOp
  simp only [ho, resolve, invoke, builtin, Sem.run_bind, Sem.run_pure, Result.andThen_ok, List.map_toArray, List.map_cons, List.map_nil, hs, hx, hr]
  exact hK _ _ (h v' w' h2 h3 h4)
def FeedPost (base r : Nat) (v : Value) (S : List UInt8) (E : Nat) (chunk : List UInt8) (w : World) (e : Ending) (w' : World) : Prop :=
  ∃ lv v', e = .returned (.tuple #[lv, .int .i64 (((feedR ⟨S, E⟩ chunk).2.E : Nat) : Int)]) ∧ RdAt base r v' (feedR ⟨S, E⟩ chunk).2.S (feedR ⟨S, E⟩ chunk).2.E w' ∧
    w'.ownsRow w.heap.size 9 1 lv (feedR ⟨S, E⟩ chunk).1.length (strV (feedR ⟨S, E⟩ chunk).1) ∧ But r v w w' ∧ (∀ g, v'.ownBlock = some g → v.ownBlock = some g ∨ w.heap.size ≤ g)

set_option maxRecDepth 100000 in
theorem feed_was (base r : Nat) (v : Value) (S : List UInt8) (E : Nat) (s : ByteArray) (w : World) (hR : RdAt base r v S E w) (hE : E ≠ 0) :
    Calls Tryd.prog 36 #[.pointer (some ⟨r, 0, none⟩), .string s] w (FeedPost base r v S E s.data.toList w) := by
  have hf : feedR ⟨S, E⟩ s.data.toList = ([], ⟨S, E⟩) := by unfold feedR; rw [if_pos hE]
  have k1 : w.cell? ⟨r, 1, none⟩ = some (.int .i64 (E : Int)) := hR.blk.cell 1
  have HE := Lib.hid (And.intro hE hf); clear hE hf
  go_enter Tryd.func36, Tryd.ntmps36
  go_wp2_with fail
  refine (bad_yes r v S E base w hR HE.out.1).mono ?_
  rintro e w' ⟨rfl, rfl⟩
  go_wp2
  go_quiet (fail)
  go_wp2
  go_ret2
  refine ⟨_, v, by rw [HE.out.2]; rfl, by rw [HE.out.2]; exact hR.below (below_drewN' _), by rw [HE.out.2]; exact World.ownsRow_nil _ _ _ _, But.of (below_drewN' _), fun g hg => .inl hg⟩

/-- An append of nothing. -/
theorem append_nil_any {P : Program} {w : World} {base e size n c : Nat} {t ty : TypeId} {i : TypeInfo} {v : Value} {xs : List Value} (ht : P.underlying t = some (.slice e)) (hi : P.info? e = some i) (hown : w.ownsRow base e size v n xs) : (Builtin.append_ #[t, t] ty #[v, .slice none 0 c]).run P w = .ok v w := by
  rcases hown.2 with ⟨rfl, _⟩ | ⟨g, cap, cur, rfl, _, _, hnc, _⟩
  · simp [Builtin.append_, run_underlying ht, sizeOf, typeInfo, hi, Builtin.lenOf, Builtin.firstCells]
  · simp [Builtin.append_, run_underlying ht, sizeOf, typeInfo, hi, Builtin.lenOf, Builtin.firstCells, hnc, storeCells]
theorem wpList_append_none {P : Program} {w : World} {ops : Array Oper} {rest : List Oper} {o : Oper} {a : Act} {Q : Exit → Act → World → Prop} (hgd : o.guard = none) (s x : Operand) (t : TypeId)
    (ho : o.op = .call { callee := .builtin .append, args := #[s, x], argTypes := #[t, t] }) (base e size n c : Nat) (i : TypeInfo) (v : Value) (xs : List Value) (ht : P.underlying t = some (.slice e)) (hi : P.info? e = some i)
    (hs : a.eval s = v) (hx : a.eval x = .slice none 0 c) (hown : w.ownsRow base e size v n xs) (h : wpList P ops Q rest (a.put o.dst v) w) : wpList P ops Q (o :: rest) a w := by
  refine wpList_plain hgd fun K hK => ?_
  have hr := append_nil_any (ty := o.type) (c := c) ht hi hown
  unfold Oper.wp execOp
  simp only [ho, resolve, invoke, builtin, Sem.run_bind, Sem.run_pure, Result.andThen_ok, List.map_toArray, List.map_cons, List.map_nil, hs, hx, hr]
  exact hK _ _ h
theorem grown_refl (w : World) (row : Option Nat) : w.grownBy w row := ⟨rfl, rfl, rfl, Nat.le_refl _, fun _ _ _ => rfl⟩
/-- An append of a slice that may be nil. -/
theorem wpList_append_row {P : Program} (w : World) {ops : Array Oper} {rest : List Oper} {o : Oper} {a : Act} {Q : Exit → Act → World → Prop} (hgd : o.guard = none) (s x : Operand) (t : TypeId)
    (ho : o.op = .call { callee := .builtin .append, args := #[s, x], argTypes := #[t, t] })
    (base : Nat) (e : TypeId) (i : TypeInfo) (z : Value) (size bytes : Nat) (ht : P.underlying t = some (.slice e)) (hi : P.info? e = some i) (hz : i.zero = some z)
    (hsize : i.size = size) (hby : i.bytes = bytes) (hzs : z.cells.size = size) (hsz : 0 < size)
    (v : Value) (n : Nat) (xs : List Value) (hs : a.eval s = v) (hown : w.ownsRow base e size v n xs)
    (ad : Option Addr) (m c : Nat) (news : List Value) (hx : a.eval x = .slice ad m c) (hl : news.length = m * size) (h0 : ad = none → m = 0) (hnews : ∀ j u, news[j]? = some u → ∃ b, ad = some b ∧ w.cell? (b.add j) = some u) (h1 : ∀ u ∈ news, u.oneCell' = true)
    (h63 : n + m ≤ maxLen) (hbytes : (n + m) * bytes ≤ 140737488355328) (hbase : base ≤ w.heap.size)
    (h : ∀ v' w', w'.ownsRow base e size v' (n + m) (xs ++ news) → w.grownBy w' v.ownBlock → wpList P ops Q rest (a.put o.dst v') w') : wpList P ops Q (o :: rest) a w := by
  cases ad with
  | none =>
    obtain rfl := h0 rfl
    have hn : news = [] := List.eq_nil_of_length_eq_zero (by simpa using hl)
    subst hn
    exact wpList_append_none hgd s x t ho base e size n c i v xs ht hi hs hx hown (h v w (by simpa using hown) (grown_refl _ _))
  | some b =>
    exact wpList_append_own w hgd s x t ho base e i z size bytes ht hi hz hsize hby hzs hsz v n xs hs hown b m c news hx hl (fun j u hj => by
      obtain ⟨b', e, h⟩ := hnews j u hj
      cases e
      exact h) h1 h63 hbytes hbase (fun v' w' h1 h2 _ => h v' w' h1 h2)
theorem Tryd.infoU8 : (Tryd.prog.info? 5).map (fun i => (i.zero, i.size, i.bytes)) = some (some (.int .u8 0), 1, 1) := by kernel_rfl
/-- What the owned row holds, as bytes. -/
theorem own_bytes {w : World} {base n : Nat} {e : TypeId} {v : Value} {l : List UInt8} (h : w.ownsRow base e 1 v n (bytesV l)) :
    ∃ a c, v = .slice a n c ∧ l.length = n ∧ n ≤ c ∧ c ≤ maxLen ∧ BytesAt w a l ∧ ((a = none ∧ c = 0) ∨ ∃ g, a = some ⟨g, 0, none⟩) := by
  have hlen : l.length = n := by have := h.1; simpa using this
  rcases h.2 with ⟨rfl, rfl⟩ | ⟨g, cap, cur, rfl, hb, hg, h1, h2, h3, h4⟩
  · refine ⟨none, 0, rfl, hlen, Nat.le_refl _, by decide, ?_, .inl ⟨rfl, rfl⟩⟩
    rw [List.eq_nil_of_length_eq_zero hlen]; exact BytesAt.nil _ _
  · refine ⟨_, cap, rfl, hlen, h1, h2, ?_, .inr ⟨g, rfl⟩⟩
    intro j x hx
    refine ⟨g, 0, rfl, ?_⟩
    have := h.cells (g := g) rfl j (.int .u8 (x.toNat : Int)) (by rw [List.getElem?_map, hx]; rfl)
    rw [addr_plus] at this; exact this
theorem takeAll_any (b : Addr) (w : World) (base n : Nat) (e : TypeId) (v : Value) (L : List UInt8) (h : w.ownsRow base e 1 v n (bytesV L)) (hg : Gs b w) (hmany : (feedL L).ms.length ≤ 1099511627776) :
    Calls Tryd.prog 44 #[v] w (TaPost b L v w) := by
  obtain ⟨a, c, rfl, hl, hc, hc2, hat, ha⟩ := own_bytes h
  rcases ha with ⟨rfl, rfl⟩ | ⟨g, rfl⟩
  · obtain rfl : n = 0 := by omega
    obtain rfl := List.eq_nil_of_length_eq_zero hl
    exact takeAll_nil b w hg
  · exact takeAll_some g 0 n c L b w hl hc hc2 hat hg hmany
theorem bytes_app (S : List UInt8) (s : ByteArray) : bytesV S ++ strCells s = bytesV (S ++ s.data.toList) := by simp [bytesV, strCells]

set_option maxRecDepth 100000 in
set_option maxHeartbeats 2000000 in
theorem feed_bad (base r : Nat) (v : Value) (S : List UInt8) (n : Nat) (s : ByteArray) (b : Addr) (w : World) (hR : RdAt base r v S 0 w) (hg : Gs b w) (hge : Ge w) (h0 : 0 < base) (h1 : 1 < base) (hbase : base ≤ w.heap.size)
    (hsz : S.length + s.size ≤ 140737488355328) (hmany : (feedL (S ++ s.data.toList)).ms.length ≤ 1099511627776) (hbad : (feedL (S ++ s.data.toList)).bad = some n) :
    Calls Tryd.prog 36 #[.pointer (some ⟨r, 0, none⟩), .string s] w (FeedPost base r v S 0 s.data.toList w) := by
  have hf : feedR ⟨S, 0⟩ s.data.toList = ((feedL (S ++ s.data.toList)).ms, ⟨[], errN n⟩) := by unfold feedR; rw [if_neg (by simp)]; simp only [hbad]
  have HF := Lib.hid (And.intro hf hbad); clear hf hbad
  have k0 : w.cell? ⟨r, 0, none⟩ = some v := hR.blk.cell 0
  obtain ⟨i0, hi, hz0, hz1, hz2⟩ := info_parts Tryd.infoU8
  have HR := Lib.hid hR
  go_enter Tryd.func36, Tryd.ntmps36
  go_wp2_with fail
  refine (bad_no r v S base w HR.out).mono ?_
  rintro e w' ⟨rfl, rfl⟩
  go_wp2_with (at_builtin; go_must (refine wpList_append_str _ rfl _ _ 39 9 rfl base 5 i0 Tryd.underlying39 Tryd.underlying9 hi hz0 hz1 hz2 _ S.length _ rfl HR.out.own s rfl (by unfold maxLen; omega) hsz hbase ?_; intro v1 w1 hown1 hgrow1 hfrom1))
  rw [bytes_app] at hown1
  have hb1 : But r v w w1 := But.row hgrow1
  have hlo : ∀ k, v.ownBlock = some k → base ≤ k := fun k hk => (hR.own.lt k hk).1
  have hB1 : Below base w w1 := hb1.below hR.br hlo hbase
  have hbk1 : Blk w1 r #[v, .int .i64 0] 80 := hR.blk.kept hgrow1 (fun e => hR.ne e.symm)
  have hg1 : Gs b w1 := ⟨(hB1.cell (p := ⟨1, 0, none⟩) h1).trans hg.1, Nat.lt_of_lt_of_le hg.2 hB1.size⟩
  have hge1 : Ge w1 := ⟨(hB1.cell (p := ⟨0, 0, none⟩) h0).trans hge.1, Nat.lt_of_lt_of_le hge.2 hB1.size⟩
  have hsz1 := hB1.size
  refine (takeAll_any b w1 base _ _ v1 _ hown1 hg1 hmany).mono ?_
  rintro e w2 ⟨lv, rv, k, rfl, hlv, _, _, hb2⟩
  rw [HF.out.2]
  have hbk2 := hbk1.below hb2 hbk1.lt
  have hge2 := hge1.below hb2
  unfold ErV
  go_wp2_with fail
  have hT := Blk.new w2 #[.int .u64 0, .int .i64 0] 84
  have hb3 : Below w2.heap.size w2 (w2.alloc (.cells #[.int .u64 0, .int .i64 0] 84)) := (Below.refl _ _).alloc (Nat.le_refl _) _
  refine (as_UD' k n w2.heap.size _ _ _ (hge2.below hb3) hT).mono ?_
  rintro e w4 ⟨rfl, hc4, hb4⟩
  have hB4 := hb3.trans hb4
  have hbk4 := hbk2.below hB4 hbk2.lt
  have c40 : w4.cell? ⟨r, 0, none⟩ = some v := hbk4.cell 0
  have c41 : w4.cell? ⟨r, 1, none⟩ = some (.int .i64 0) := hbk4.cell 1
  have f40 := hbk4.frozen 0
  have f41 := hbk4.frozen 1
  have hne : w2.heap.size ≠ r := by have := hbk2.lt; omega
  obtain ⟨al, cl, rfl⟩ := owns_slice hlv
  obtain ⟨N, hN⟩ : ∃ N : Int, ((errN n : Nat) : Int) = N := ⟨_, rfl⟩
  rw [hN] at hc4
  have HN := Lib.hid hN; clear hN
  go_wp2_with fail
  go_quiet (fail)
  go_wp2
  go_ret2
  have hbk5 : Blk ((w4.setCell ⟨r, 0, none⟩ (.slice none 0 0)).setCell ⟨r, 1, none⟩ (.int .i64 N)) r #[.slice none 0 0, .int .i64 N] 80 := (hbk4.set 0 (.slice none 0 0)).set 1 (.int .i64 N)
  have hbut : But r v w ((w4.setCell ⟨r, 0, none⟩ (.slice none 0 0)).setCell ⟨r, 1, none⟩ (.int .i64 N)) := (((hb1.grown hb2).past hB4 (Nat.le_trans hsz1 hb2.size)).set 0 _).set 1 _
  have hl5 : ((w4.setCell ⟨r, 0, none⟩ (.slice none 0 0)).setCell ⟨r, 1, none⟩ (.int .i64 N)).ownsRow w.heap.size 9 1 (.slice al (feedL (S ++ s.data.toList)).ms.length cl) (feedL (S ++ s.data.toList)).ms.length (strV (feedL (S ++ s.data.toList)).ms) := by
    have q4 := own_below (own_less hlv hsz1) hB4
    have hn4 := fun (x : World) (hx : Blk x r #[v, .int .i64 0] 80) (h : x.ownsRow w.heap.size 9 1 (.slice al (feedL (S ++ s.data.toList)).ms.length cl) (feedL (S ++ s.data.toList)).ms.length (strV (feedL (S ++ s.data.toList)).ms)) => row_block h hx (by decide)
    have hn := hn4 w4 hbk4 q4
    exact own_other (own_other q4 (grown_set w4 r 0 _) (fun g hg e => hn (hg.trans e.symm))) (grown_set _ r 1 _) (fun g hg e => hn (hg.trans e.symm))
  refine ⟨_, .slice none 0 0, by rw [HF.out.1, HN.out]; rfl, ?_, ?_, hbut.past (n := w.heap.size) (below_drewN' _) (Nat.le_refl _), fun g hg => by cases hg⟩
  · rw [HF.out.1]
    refine RdAt.below ⟨by rw [HN.out]; exact hbk5, World.ownsRow_nil _ _ _ _, hR.br⟩ (below_drewN' _)
  · rw [HF.out.1]
    exact own_below hl5 (below_drewN' _)
set_option maxRecDepth 100000 in
set_option maxHeartbeats 2000000 in
theorem feed_ok (base r : Nat) (v : Value) (S : List UInt8) (s : ByteArray) (b : Addr) (w : World) (hR : RdAt base r v S 0 w) (hg : Gs b w) (hge : Ge w) (h0 : 0 < base) (h1 : 1 < base) (hbase : base ≤ w.heap.size)
    (hsz : S.length + s.size ≤ 140737488355328) (hmany : (feedL (S ++ s.data.toList)).ms.length ≤ 1099511627776) (hbad : (feedL (S ++ s.data.toList)).bad = none) :
    Calls Tryd.prog 36 #[.pointer (some ⟨r, 0, none⟩), .string s] w (FeedPost base r v S 0 s.data.toList w) := by
  have hf : feedR ⟨S, 0⟩ s.data.toList = ((feedL (S ++ s.data.toList)).ms, ⟨(feedL (S ++ s.data.toList)).rest, 0⟩) := by unfold feedR; rw [if_neg (by simp)]; simp only [hbad]
  have HF := Lib.hid (And.intro hf hbad); clear hf hbad
  have k0 : w.cell? ⟨r, 0, none⟩ = some v := hR.blk.cell 0
  obtain ⟨i0, hi, hz0, hz1, hz2⟩ := info_parts Tryd.infoU8
  have HR := Lib.hid hR
  go_enter Tryd.func36, Tryd.ntmps36
  go_wp2_with fail
  refine (bad_no r v S base w HR.out).mono ?_
  rintro e w' ⟨rfl, rfl⟩
  go_wp2_with (at_builtin; go_must (refine wpList_append_str _ rfl _ _ 39 9 rfl base 5 i0 Tryd.underlying39 Tryd.underlying9 hi hz0 hz1 hz2 _ S.length _ rfl HR.out.own s rfl (by unfold maxLen; omega) hsz hbase ?_; intro v1 w1 hown1 hgrow1 hfrom1))
  rw [bytes_app] at hown1
  have hb1 : But r v w w1 := But.row hgrow1
  have hlo : ∀ k, v.ownBlock = some k → base ≤ k := fun k hk => (hR.own.lt k hk).1
  have hB1 : Below base w w1 := hb1.below hR.br hlo hbase
  have hbk1 : Blk w1 r #[v, .int .i64 0] 80 := hR.blk.kept hgrow1 (fun e => hR.ne e.symm)
  have hg1 : Gs b w1 := ⟨(hB1.cell (p := ⟨1, 0, none⟩) h1).trans hg.1, Nat.lt_of_lt_of_le hg.2 hB1.size⟩
  have hge1 : Ge w1 := ⟨(hB1.cell (p := ⟨0, 0, none⟩) h0).trans hge.1, Nat.lt_of_lt_of_le hge.2 hB1.size⟩
  have hsz1 := hB1.size
  refine (takeAll_any b w1 base _ _ v1 _ hown1 hg1 hmany).mono ?_
  rintro e w2 ⟨lv, rv, k, rfl, hlv, ⟨ra, rn, rc, hrv, hrn, hrc, hrm, hrb⟩, hr0, hb2⟩
  rw [HF.out.2]
  have hbk2 := hbk1.below hb2 hbk1.lt
  have hge2 := hge1.below hb2
  unfold ErV
  go_wp2_with fail
  have hb3 : Below w2.heap.size w2 (w2.alloc (.cells #[.int .u64 0, .int .i64 0] 84)) := (Below.refl _ _).alloc (Nat.le_refl _) _
  refine (as_US' k b w2.heap.size _ (hge2.below hb3)).mono ?_
  rintro e w4 ⟨rfl, hb4⟩
  have hB4 : Below w2.heap.size w2 w4 := hb3.trans (hb4.mono (by simp))
  have hbk4 := hbk2.below hB4 hbk2.lt
  have c40 : w4.cell? ⟨r, 0, none⟩ = some v := hbk4.cell 0
  have c41 : w4.cell? ⟨r, 1, none⟩ = some (.int .i64 0) := hbk4.cell 1
  have f40 := hbk4.frozen 0
  have f41 := hbk4.frozen 1
  have q4 := own_below (own_less hlv hsz1) hB4
  have hv4 := own_below (own_below hown1 hb2) hB4
  have hbut4 : But r v w w4 := (hb1.grown hb2).past hB4 (Nat.le_trans hsz1 hb2.size)
  have hr4 := hrb.below hB4
  obtain ⟨al, cl, rfl⟩ := owns_slice hlv
  by_cases hms : (feedL (S ++ s.data.toList)).ms = []
  · have hrest := feedL_none _ hms
    have hv1 : v1 = .slice ra rn rc := (hr0 hms).symm.trans hrv
    have hml : (feedL (S ++ s.data.toList)).ms.length = 0 := by rw [hms]; rfl
    subst hv1
    subst hrv
    have hrl : (S.length + s.size) = (S ++ s.data.toList).length := by have := hown1.1; simp
    have H := Lib.hid (And.intro hms (And.intro hrest (And.intro hml hrl))); clear hms hrest hml hrl hr0 hrb hr4 hrn
    rw [H.out.2.2.1] at q4 ⊢
    go_wp2
    go_ret2
    refine ⟨_, .slice ra rn rc, by rw [HF.out.1]; rfl, ?_, ?_, hbut4.set 0 _, hfrom1⟩
    · rw [HF.out.1, H.out.2.1]
      have hn := row_block hv4 hbk4 (by decide)
      have := own_other hv4 (grown_set w4 r 0 (.slice ra rn rc)) (fun g hg e => hn (hg.trans e.symm))
      rw [H.out.2.2.2] at this
      exact ⟨hbk4.set 0 _, this, hR.br⟩
    · rw [HF.out.1, H.out.1]
      have hn := row_block q4 hbk4 (by decide)
      have q4' := own_other q4 (grown_set w4 r 0 (.slice ra rn rc)) (fun g hg e => hn (hg.trans e.symm))
      rw [H.out.1] at q4'
      exact q4'
  · have hpos : 0 < (feedL (S ++ s.data.toList)).ms.length := by
      cases h : (feedL (S ++ s.data.toList)).ms with
      | nil => exact absurd h hms
      | cons x l => simp
    have hln := feedL_len (S ++ s.data.toList)
    have hll : (S ++ s.data.toList).length = S.length + s.size := by simp
    rw [hll] at hln
    subst hrv
    have hrn2 : rn ≤ 140737488355328 := by omega
    have hnews : ∀ j u, (bytesV (feedL (S ++ s.data.toList)).rest)[j]? = some u → ∃ b, ra = some b ∧ w4.cell? (b.add j) = some u := by
      intro j u hu
      rw [List.getElem?_map] at hu
      cases hx : (feedL (S ++ s.data.toList)).rest[j]? with
      | none => rw [hx] at hu; cases hu
      | some x =>
        rw [hx] at hu
        cases hu
        obtain ⟨g, o, e, hc⟩ := hr4 j x hx
        exact ⟨_, e, by rw [addr_plus]; exact hc⟩
    have hnil : ra = none → rn = 0 := by
      intro e
      rcases Nat.eq_zero_or_pos rn with h | h
      · exact h
      · obtain ⟨g, o, h⟩ := hr4.addr (by omega)
        rw [e] at h; cases h
    have hone : ∀ u ∈ bytesV (feedL (S ++ s.data.toList)).rest, u.oneCell' = true := by
      intro u hu
      obtain ⟨x, _, rfl⟩ := List.mem_map.1 hu
      rfl
    have hpos' : (0 : Int) < ((feedL (S ++ s.data.toList)).ms.length : Int) := by omega
    have hbw4 : base ≤ w4.heap.size := by have := hbut4.size; omega
    have H := Lib.hid (And.intro hms (And.intro hrn (And.intro hnews (And.intro hnil hone)))); clear hms hrn hr0 hrb hr4 hll hln hnews hnil hone
    go_wp2_with (at_builtin; go_must (refine wpList_append_row _ rfl _ _ 39 rfl w4.heap.size 5 i0 (.int .u8 0) 1 1 Tryd.underlying39 hi hz0 hz1 hz2 rfl (by decide) _ 0 [] rfl (World.ownsRow_nil _ _ _ _) ra rn rc (bytesV (feedL (S ++ s.data.toList)).rest) rfl (by rw [List.length_map, H.out.2.1, Nat.mul_one]) H.out.2.2.2.1 H.out.2.2.1 H.out.2.2.2.2 (by unfold maxLen; omega) (by omega) (Nat.le_refl _) ?_; intro v5 w5 hown5 hgrow5; obtain ⟨a5, c5, rfl⟩ := owns_slice hown5; have hB5 : Below w4.heap.size w4 w5 := (Below.refl _ _).grown hgrow5 (Nat.le_refl _) (fun k e => by cases e); have hbk5 := hbk4.below hB5 hbk4.lt; have c50 : w5.cell? ⟨r, 0, none⟩ = some v := hbk5.cell 0; have f50 := hbk5.frozen 0))
    have hB5 : Below w4.heap.size w4 w5 := (Below.refl _ _).grown hgrow5 (Nat.le_refl _) (fun k e => by cases e)
    have hbk5 := hbk4.below hB5 hbk4.lt
    go_ret2
    have hrl : 0 + rn = (feedL (S ++ s.data.toList)).rest.length := by rw [H.out.2.1, Nat.zero_add]
    have hown6 : w5.ownsRow w4.heap.size 5 1 (.slice a5 rn c5) (feedL (S ++ s.data.toList)).rest.length (bytesV (feedL (S ++ s.data.toList)).rest) := by rw [← hrl]; rw [Nat.zero_add] at hown5 ⊢; exact hown5
    have q5 := own_below q4 hB5
    refine ⟨_, .slice a5 rn c5, by rw [HF.out.1]; rfl, ?_, ?_, (hbut4.grown hB5).set 0 _, fun g hg => .inr (Nat.le_trans hbut4.size (hown6.lt g hg).1)⟩
    · rw [HF.out.1]
      have hn := row_block hown6 hbk5 (by decide)
      exact ⟨hbk5.set 0 _, own_less (b := w4.heap.size) (own_other hown6 (grown_set w5 r 0 (.slice a5 rn c5)) (fun g hg e => hn (hg.trans e.symm))) hbw4, hR.br⟩
    · rw [HF.out.1]
      have hn := row_block q5 hbk5 (by decide)
      exact own_other q5 (grown_set w5 r 0 (.slice a5 rn c5)) (fun g hg e => hn (hg.trans e.symm))

theorem feed_any (base r : Nat) (v : Value) (S : List UInt8) (E : Nat) (s : ByteArray) (b : Addr) (w : World) (hR : RdAt base r v S E w) (hg : Gs b w) (hge : Ge w) (h0 : 0 < base) (h1 : 1 < base) (hbase : base ≤ w.heap.size)
    (hsz : S.length + s.size ≤ 140737488355328) (hmany : (feedL (S ++ s.data.toList)).ms.length ≤ 1099511627776) :
    Calls Tryd.prog 36 #[.pointer (some ⟨r, 0, none⟩), .string s] w (FeedPost base r v S E s.data.toList w) := by
  by_cases hE : E = 0
  · subst hE
    cases hb : (feedL (S ++ s.data.toList)).bad with
    | none => exact feed_ok base r v S s b w hR hg hge h0 h1 hbase hsz hmany hb
    | some n => exact feed_bad base r v S n s b w hR hg hge h0 h1 hbase hsz hmany hb
  · exact feed_was base r v S E s w hR hE
/-- The texts stand in a row. -/
def StrAt (w : World) (a : Option Addr) (ms : List (List UInt8)) : Prop := ∀ i m, ms[i]? = some m → ∃ g, a = some ⟨g, 0, none⟩ ∧ w.cell? ⟨g, i, none⟩ = some (.string ⟨m.toArray⟩)
theorem strAt_own {w : World} {base n c : Nat} {a : Option Addr} {ms : List (List UInt8)} (h : w.ownsRow base 9 1 (.slice a n c) n (strV ms)) : StrAt w a ms := by
  intro i m hm
  rcases h.2 with ⟨hv, hn⟩ | ⟨g, cap, cur, hv, _⟩
  · have h1 := h.1
    subst hn
    rw [List.length_map] at h1
    have := (List.getElem?_eq_some_iff.1 hm).1
    omega
  · cases hv
    refine ⟨g, rfl, ?_⟩
    have := h.cells (g := g) rfl i (.string ⟨m.toArray⟩) (by rw [List.getElem?_map, hm]; rfl)
    rw [addr_plus, Nat.zero_add] at this; exact this
theorem RdAt.low {base r : Nat} {v : Value} {S : List UInt8} {E : Nat} {w w' : World} (h : RdAt base r v S E w) (hb : But r v w w') (hB : base ≤ w.heap.size) : Below base w w' := hb.below h.br (fun k hk => (h.own.lt k hk).1) hB
theorem Gs.low {b : Addr} {w w' : World} {B : Nat} (h : Gs b w) (hb : Below B w w') (h1 : 1 < B) : Gs b w' := ⟨(hb.cell (p := ⟨1, 0, none⟩) h1).trans h.1, Nat.lt_of_lt_of_le h.2 hb.size⟩
theorem Ge.low {w w' : World} {B : Nat} (h : Ge w) (hb : Below B w w') (h1 : 0 < B) : Ge w' := ⟨(hb.cell (p := ⟨0, 0, none⟩) h1).trans h.1, Nat.lt_of_lt_of_le h.2 hb.size⟩

end Go.Proofs.YtkfbhiggnnjoiaaDoor
