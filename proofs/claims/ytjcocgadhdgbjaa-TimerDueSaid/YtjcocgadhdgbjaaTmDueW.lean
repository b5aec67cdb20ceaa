/- timer: TimerDue walked. -/
import Derived.Test.YtjcocgadhdgbjaaTmApp
namespace Go.Proofs.Ytjcocgadhdgbjaa
open Go.RowKit

/-- What stands beside the timers: a row of bytes, the world of before. -/
def Side (b : Nat) (v : Value) (m : Nat) (xs : List Value) (w wr : World) : Prop := wr.ownsRow b 5 1 v m xs ∧ Below w.heap.size w wr ∧ b ≤ wr.heap.size
theorem two_step {b t u N N' M m : Nat} {F F' G : Nat → Prop} {L L' K : List Tm} {v : Value} {xs : List Value} {w wr wA w2 : World} (hBs : w.heap.size ≤ b) (q : TmAt b t F N L wr) (p : TmAt b u G M K wr) (dis : ∀ x, F x → ¬ G x) (sd : Side b v m xs w wr) (hA : Below wr.heap.size wr wA)
    (_q' : TmAt b t F' N' L' w2) (k2 : Kept F wA w2) (f2 : ∀ x, F' x → F x ∨ wA.heap.size ≤ x) : TmAt b u G M K w2 ∧ (∀ x, F' x → ¬ G x) ∧ Side b v m xs w w2 := by
  have qA := q.below hA
  have pA := p.below hA
  have oA := own_below sd.1 hA
  have zA : b ≤ wA.heap.size := Nat.le_trans sd.2.2 hA.size
  refine ⟨pA.kept k2 (fun k hg hs => dis k hs hg), fun x hx hg => ?_, k2.own oA (qA.apart_row oA (by decide) (by decide) (by decide)), ?_, Nat.le_trans zA k2.size⟩
  · rcases f2 x hx with h | h
    · exact dis x h hg
    · have := (pA.low hg).2; omega
  · exact (sd.2.1.trans (hA.mono (Nat.le_trans hBs sd.2.2))).trans ((qA.under k2 zA).mono hBs)
theorem flip {F G : Nat → Prop} (h : ∀ x, F x → ¬ G x) : ∀ x, G x → ¬ F x := fun x hg hf => h x hf hg
/-- The slice behind its append; which one is chosen of it. -/
theorem due_shape {w : World} {base n : Nat} {e : TypeId} {v : Value} {xs : List Value} (h : w.ownsRow base e 1 v (1 + n) xs) (ns : Nat) (hn : n ≤ 20) :
    ∃ (g cap m s d : Nat) (Z : ByteArray), v = .slice (some ⟨g, 0, none⟩) m cap ∧ Hid (m = n + 1 ∧ s < m ∧ 97 + s = d ∧ Z = idS s) ∧ w.ownsRow base e 1 (.slice (some ⟨g, 0, none⟩) m cap) m xs ∧ (ns : Int) % (m : Int) = (s : Int) ∧ 97 + (s : Int) = (d : Int) ∧ (m : Int) ≤ 21 ∧ 1 ≤ (m : Int) ∧ (d : Int) ≤ 118 ∧
      ∀ W : World, (convert 46 9 (.slice (some ⟨W.heap.size, 0, none⟩) 1 1)).run Try.prog (W.alloc (.cells #[.int .u8 (d : Int)] 5)) = .ok (.string Z) (W.alloc (.cells #[.int .u8 (d : Int)] 5)) := by
  obtain ⟨g, cap, rfl, _⟩ := h.form (by omega)
  have hs : ns % (1 + n) < 1 + n := Nat.mod_lt _ (by omega)
  obtain ⟨Z, hZ, cv, _⟩ := byte_cv (k := ns % (1 + n)) (d := 97 + ns % (1 + n)) rfl (by omega)
  refine ⟨g, cap, 1 + n, ns % (1 + n), 97 + ns % (1 + n), Z, rfl, Lib.hid ⟨by omega, hs, rfl, hZ⟩, h, by omega, by omega, by omega, by omega, by omega, cv⟩
set_option maxRecDepth 100000 in
set_option maxHeartbeats 8000000 in
theorem due_walk (a0 : Option Addr) (l0 c0 : Nat) (bs : List Nat) (na nb ns : Nat) (w : World) (hl : bs.length = l0) (hc : l0 ≤ c0 ∧ c0 ≤ maxLen) (hst : NatsIn w a0 bs) (hsm : ∀ n ∈ bs, n < 256) (ha : na < 256) (hb' : nb < 256) (hs : ns < 256) :
    Calls Try.prog 5 #[.slice a0 l0 c0, .int .u8 (na : Int), .int .u8 (nb : Int), .int .u8 (ns : Int)] w fun e w' => e = .returned (.bool true) ∧ Below w.heap.size w w' := by
  have hc1 : (l0 : Int) ≤ (c0 : Int) := by omega
  have hc2 : c0 ≤ 9223372036854775807 := hc.2
  obtain ⟨n, hn⟩ : ∃ n, min l0 20 = n := ⟨_, rfl⟩
  have hmin : min (l0 : Int) 20 = (n : Int) := by omega
  have n20 : (n : Int) ≤ 20 := by omega
  have nc : (n : Int) ≤ (c0 : Int) := by omega
  obtain ⟨ts, hts⟩ : ∃ ts, 9 :: bs.take n = ts := ⟨_, rfl⟩
  obtain ⟨i0, hi, hz0, hz1, hz2⟩ := info_parts Try.infoU8
  have HL := Lib.hid (And.intro (And.intro hl hn) (And.intro hts (And.intro hst hsm)))
  clear hl hn hc hts hst hsm
  go_enter Try.func5, Try.ntmps5
  go_wp2_with fail
  refine (examples_any w).mono ?_
  rintro e w0 ⟨rfl, hb0⟩
  go_wp2_with fail
  refine (new_any w0).mono ?_
  rintro e w1 ⟨t, F, rfl, q1, _, hb1⟩
  go_wp2_with fail
  refine (new_any w1).mono ?_
  rintro e w2 ⟨u, G, rfl, p2, hG, hb2⟩
  have q2 := q1.below hb2
  have hdis : ∀ k, F k → ¬ G k := fun k hf hg => by have := (q1.low hf).2; have := hG k hg; omega
  have p2' := p2.less hb1.size
  have hBs : w.heap.size ≤ w0.heap.size := hb0.size
  have z1 : w0.heap.size ≤ w1.heap.size := hb1.size
  have z2 : w0.heap.size ≤ w2.heap.size := Nat.le_trans z1 hb2.size
  have HS : Below w.heap.size w w2 := (hb0.trans (hb1.mono hb0.size)).trans (hb2.mono (Nat.le_trans hBs z1))
  have hown0 := own_new w2 w0.heap.size 5 #[.int .u8 9] z2 (by unfold maxLen; decide)
  have hbA : Below w2.heap.size w2 (w2.alloc (.cells #[.int .u8 9] 5)) := (Below.refl _ _).alloc (Nat.le_refl _) _
  have hnst : NatsIn (w2.alloc (.cells #[.int .u8 9] 5)) a0 bs := (HL.out.2.2.1.below HS).below hbA
  obtain ⟨nw1, nw2, nw3⟩ := nats_news (n := n) hnst (by have := HL.out.1; omega)
  have HN := Lib.hid (And.intro (And.intro hown0 nw1) (And.intro nw2 (And.intro nw3 (And.intro q2 (And.intro p2' (And.intro hdis HS))))))
  clear hown0 nw1 nw2 nw3 hnst q1 q2 p2 p2' hdis HS hG hb1 hb2
  go_wp2_with (at_builtin; go_must (refine wpList_append_row _ rfl _ _ 46 rfl w0.heap.size 5 i0 (.int .u8 0) 1 1 Try.underlying46 hi hz0 hz1 hz2 rfl (by decide) _ _ _ rfl HN.out.1.1 a0 n c0 (u8V (bs.take n)) rfl (by rw [HN.out.1.2]; omega) HN.out.2.1 HN.out.2.2.1 (u8V_one _) (by unfold maxLen; simp; omega) (by simp; omega) (by simp; omega) ?_; intro v' w3 hown3 hgrow3; obtain ⟨g, cap, m, s, d, Z, rfl, HM, hown3', hrem, hsum, m21, m1, d118, cv⟩ := due_shape hown3 ns (by omega)))
  have HMM := Lib.hid hown3'
  have hst3 : Side w0.heap.size (.slice (some ⟨g, 0, none⟩) m cap) m (u8V ts) w (w3.alloc (.cells #[.int .u8 (d : Int)] 5)) ∧ TmAt w0.heap.size t F 0 [] (w3.alloc (.cells #[.int .u8 (d : Int)] 5)) ∧ TmAt w0.heap.size u G 0 [] (w3.alloc (.cells #[.int .u8 (d : Int)] 5)) := by
    obtain ⟨_, _, _, q2, p2, _, hS⟩ := HN.out
    have hb23 : Below w2.heap.size w2 w3 := ((Below.refl w2.heap.size w2).alloc (Nat.le_refl _) _).grown hgrow3 (by simp) (fun k e => Nat.le_of_eq (Option.some.inj e))
    have hb34 : Below w3.heap.size w3 (w3.alloc (.cells #[.int .u8 (d : Int)] 5)) := (Below.refl _ _).alloc (Nat.le_refl _) _
    have e1 : (#[Value.int .u8 9] : Array Value).toList ++ u8V (bs.take n) = u8V ts := by rw [← HL.out.2.1]; rfl
    rw [e1] at hown3'
    refine ⟨⟨own_below hown3' hb34, (hS.trans (hb23.mono (Nat.le_trans hBs z2))).trans (hb34.mono (Nat.le_trans hBs (Nat.le_trans z2 hb23.size))), Nat.le_trans z2 (Nat.le_trans hb23.size hb34.size)⟩, (q2.below hb23).below hb34, (p2.below hb23).below hb34⟩
  have HD := Lib.hid HN.out.2.2.2.2.2.1
  clear HMM hown3' hgrow3 hown3
  have HS3 := Lib.hid hst3
  clear hst3
  generalize w3.alloc (.cells #[.int .u8 (d : Int)] 5) = w4 at *
  go_loopw [13] (fun iv wr => ∃ k : Nat, iv = .int .i64 (k : Int) ∧ k ≤ m ∧ ∃ F G, TmAt w0.heap.size t F k (tml ts k) wr ∧ TmAt w0.heap.size u G k (tml ts k) wr ∧ (∀ x, F x → ¬ G x) ∧ Side w0.heap.size (.slice (some ⟨g, 0, none⟩) m cap) m (u8V ts) w wr) (fun iv _ => m - (intOf iv).toNat)
  case atStart => exact ⟨0, rfl, Nat.zero_le _, F, G, HS3.out.2.1, HS3.out.2.2, HD.out, HS3.out.1⟩
  case round =>
    obtain ⟨k, rfl, hk, F', G', q, p, dis, sd⟩ := hrel
    by_cases hlt : k < m
    · have hcell := row_u8 sd.1 k hlt
      have hgl := (sd.1.lt g rfl).2
      have hx9 : ts.getD k 0 < 256 := by
        rw [← HL.out.2.1]
        cases k with
        | zero => show 9 < 256; omega
        | succ k =>
          have hlen := HL.out.1
          have hm := HM.out.1
          have hkl : k < bs.length := by omega
          have h1 : (9 :: bs.take n).getD (k + 1) 0 = bs[k] := by
            simp [List.getD_eq_getElem?_getD, show k < n from by omega, List.getElem?_eq_getElem hkl]
          rw [h1]; exact HL.out.2.2.2 _ (List.getElem_mem hkl)
      obtain ⟨x, hxx⟩ : ∃ x, ts.getD k 0 = x := ⟨_, rfl⟩
      rw [hxx] at hcell hx9
      obtain ⟨dd, hd⟩ : ∃ dd, 97 + k = dd := ⟨_, rfl⟩
      have i0 : (0 : Int) ≤ (k : Int) := by omega
      have i1 : (k : Int) < (m : Int) := by omega
      have k20 : k < 100 := by omega
      have x0 : (x : Int) ≤ 255 := by omega
      have s1 : IntKind.i64.wrap (97 + (k : Int)) = (dd : Int) := by rw [IntWalk.i64_in _ (by omega)]; omega
      have s2 : IntKind.u8.wrap (dd : Int) = (dd : Int) := IntWalk.u8_in _ (by omega)
      have s3 : IntKind.u64.wrap (x : Int) = (x : Int) := IntWalk.u64_in _ (by omega)
      obtain ⟨Y, hY, cw, cwd⟩ := byte_cv hd (by omega)
      have HX := Lib.hid (And.intro (And.intro q (And.intro p dis)) (And.intro (And.intro sd sd.2.2) (And.intro hxx hY)))
      clear q p dis sd hxx hY hd hx9 hrem hsum cv
      go_wp2_with fail
      go_region_with ((go_at_call 17; refine (set_tml _ t k F' ts _ Y HX.out.2.2.2 _ (HX.out.1.1.below (((Below.refl _ _).alloc (Nat.le_refl _) _).drew)) (by rw [HX.out.2.2.1]) (by omega) (Nat.le_trans HX.out.2.1.2 (by simp))).mono ?_; rintro e w5 ⟨F2, rfl, q2, k2, f2⟩))
      all_goals
        have hA : Below wr.heap.size wr (wr.alloc (.cells #[.int .u8 (dd : Int)] 5)).drew := ((Below.refl _ _).alloc (Nat.le_refl _) _).drew
        obtain ⟨p5, d5, s5⟩ := two_step hBs HX.out.1.1 HX.out.1.2.1 HX.out.1.2.2 HX.out.2.1.1 hA q2 k2 f2
        have hc5 : w5.cell? ⟨g, k, none⟩ = some (.int .u8 (x : Int)) := by rw [← HX.out.2.2.1]; exact row_u8 s5.1 k hlt
        have hg5 := (s5.1.lt g rfl).2
        have HY := Lib.hid (And.intro (And.intro q2 p5) (And.intro d5 (And.intro s5 s5.2.2)))
        clear q2 p5 d5 s5 k2 f2 hA hcell
        go_wp2_with fail
        go_region_with ((go_at_call 17; refine (set_tml _ u k G' ts _ Y HX.out.2.2.2 _ (HY.out.1.2.below (((Below.refl _ _).alloc (Nat.le_refl _) _).drew)) (by rw [HX.out.2.2.1]) (by omega) (Nat.le_trans HY.out.2.2.2 (by simp))).mono ?_; rintro e w6 ⟨G2, rfl, p6, k6, f6⟩))
        all_goals
          have hA : Below w5.heap.size w5 (w5.alloc (.cells #[.int .u8 (dd : Int)] 5)).drew := ((Below.refl _ _).alloc (Nat.le_refl _) _).drew
          obtain ⟨q6, d6, s6⟩ := two_step hBs HY.out.1.2 HY.out.1.1 (flip HY.out.2.1) HY.out.2.2.1 hA p6 k6 f6
          clear s1 s2 s3 cw cwd hc5 k6 f6 hA
          go_wp2
          go_roundw
          case rel => exact ⟨k + 1, by go_num, by omega, F2, G2, q6, p6, flip d6, s6⟩
          case measure => simp [intOf]; omega
    · obtain rfl : k = m := by omega
      have hZ : Z = idS s := HM.out.2.2.2
      have hsm' : s < k := HM.out.2.1
      have hk21 : k ≤ 21 := by omega
      obtain ⟨mn, hmn0⟩ : ∃ mn, min na nb = mn := ⟨_, rfl⟩
      obtain ⟨mx, hmx0⟩ : ∃ mx, max na nb = mx := ⟨_, rfl⟩
      have hmn : min (na : Int) (nb : Int) = (mn : Int) := by omega
      have hmx : max (na : Int) (nb : Int) = (mx : Int) := by omega
      have mnb : (mn : Int) ≤ 255 := by omega
      have mxb : (mx : Int) ≤ 255 := by omega
      have hle : mn ≤ mx := by omega
      have hnd0 := q.nodup
      have hat0 : atL (tml ts k) (idB s) = some (ts.getD s 0) := atL_in (x := (idB s, ts.getD s 0)) hnd0 (tml_in hsm')
      have hlen0 : (dropL (tml ts k) (idB s)).length + 1 = k := by
        have := dropL_len (x := (idB s, ts.getD s 0)) hnd0 (tml_in hsm')
        rw [tml_len] at this; exact this
      have hnd1 := nd_drop hnd0 (idB s)
      have hnot := fun x (hx : x ∈ dropL (tml ts k) (idB s)) => dropL_not hx
      generalize hLL : dropL (tml ts k) (idB s) = L at *
      obtain ⟨d1, d2⟩ := dueL_len mn L.length L (Nat.le_refl _) hnd1
      have hsp := dueL_split hle L.length L (Nat.le_refl _)
      have hids := dueL_ids mx L.length L (Nat.le_refl _)
      obtain ⟨d3, d4⟩ := dueL_len mx L.length L (Nat.le_refl _) hnd1
      obtain ⟨X, hX⟩ : ∃ X, (dueL mn L).1 = X := ⟨_, rfl⟩
      obtain ⟨L1, hL1⟩ : ∃ L1, (dueL mn L).2 = L1 := ⟨_, rfl⟩
      obtain ⟨Y, hY⟩ : ∃ Y, (dueL mx L1).1 = Y := ⟨_, rfl⟩
      obtain ⟨L2, hL2⟩ : ∃ L2, (dueL mx L1).2 = L2 := ⟨_, rfl⟩
      have e1 : dueL mn L = (X, L1) := by rw [← hX, ← hL1]
      have e2 : dueL mx L1 = (Y, L2) := by rw [← hY, ← hL2]
      have e3 : dueL mx L = (X ++ Y, L2) := by rw [hsp, e1]; simp only [e2]
      rw [e3] at d3 d4 hids
      have d3' : (X ++ Y).length + L2.length = L.length := d3
      rw [List.length_append] at d3'
      have hat2 : atL L2 (idB s) = none := atL_id fun x hx => hnot x (d4 x hx)
      have hne : ∀ (i : Nat) (z : List UInt8), (X ++ Y)[i]? = some z → z ≠ idB s := by
        intro i z hz
        obtain ⟨x, hx, rfl⟩ := hids z (List.mem_of_getElem? hz)
        exact hnot x hx
      have hZs : Z.size ≤ 140737488355328 := by rw [hZ]; show 1 ≤ _; decide
      have hZd : Z.data.toList = idB s := by rw [hZ]; rfl
      have hXb : (X.length : Int) ≤ 21 := by omega
      have hYb : (Y.length : Int) ≤ 21 := by omega
      have hL2l : (L2.length : Int) = (k : Int) - 1 - ((X.length : Int) + (Y.length : Int)) := by omega
      have HX := Lib.hid (And.intro (And.intro q (And.intro p (And.intro dis sd))) (And.intro (And.intro hZ (And.intro hZd hZs)) (And.intro (And.intro hat0 (And.intro hLL hat2)) (And.intro (And.intro e1 (And.intro e2 e3)) (And.intro hne hL2l)))))
      clear q p dis sd hZ hZs hZd hat0 hLL hat2 e1 e2 e3 hne hsp hids d1 d2 d3 d4 hX hL1 hY hL2 hnd0 hnd1 hnot hlen0 hmn0 hmx0 hle d3' hrem hsum cv hsm' hL2l
      go_wp2_with fail
      have hs1 := stop_any _ t _ F' (tml ts k) Z wr HX.out.1.1 HX.out.2.1.2.2
      rw [HX.out.2.1.2.1, HX.out.2.2.1.1, HX.out.2.2.1.2.1] at hs1
      refine hs1.mono ?_
      clear hs1
      rintro e w5 ⟨rfl, q5, k5⟩
      obtain ⟨p5, dis5, sd5⟩ := two_step hBs HX.out.1.1 HX.out.1.2.1 HX.out.1.2.2.1 HX.out.1.2.2.2 (Below.refl _ _) q5 k5 (fun x hx => .inl hx)
      go_wp2_with fail
      have hs1 := stop_any _ u _ G' (tml ts k) Z w5 p5 HX.out.2.1.2.2
      rw [HX.out.2.1.2.1, HX.out.2.2.1.1, HX.out.2.2.1.2.1] at hs1
      refine hs1.mono ?_
      clear hs1
      rintro e w6 ⟨rfl, p6, k6⟩
      obtain ⟨q6, dis6, sd6⟩ := two_step hBs p5 q5 (flip dis5) sd5 (Below.refl _ _) p6 k6 (fun x hx => .inl hx)
      go_wp2_with fail
      refine (due_in _ t _ F' L L1 X _ mn w6 q6 rfl HX.out.2.2.2.1.1).mono ?_
      rintro e w7 ⟨a7, c7, rfl, q7, k7, o7⟩
      obtain ⟨p7, dis7, sd7⟩ := two_step hBs q6 p6 (flip dis6) sd6 (Below.refl _ _) q7 k7 (fun x hx => .inl hx)
      go_wp2_with fail
      refine (due_in _ t _ F' L1 L2 Y _ mx w7 q7 rfl HX.out.2.2.2.1.2.1).mono ?_
      rintro e w8 ⟨a8, c8, rfl, q8, k8, o8⟩
      obtain ⟨p8, dis8, sd8⟩ := two_step hBs q7 p7 dis7 sd7 (Below.refl _ _) q8 k8 (fun x hx => .inl hx)
      have o78 := k8.own o7 (q7.apart_row o7 (by decide) (by decide) (by decide))
      go_wp2_with fail
      refine (due_in _ u _ G' L L2 (X ++ Y) _ mx w8 p8 rfl HX.out.2.2.2.1.2.2).mono ?_
      rintro e w9 ⟨a9, c9, rfl, p9, k9, o9⟩
      obtain ⟨q9, dis9, sd9⟩ := two_step hBs p8 q8 (flip dis8) sd8 (Below.refl _ _) p9 k9 (fun x hx => .inl hx)
      have o79 := k9.own o78 (p8.apart_row o78 (by decide) (by decide) (by decide))
      have o89 := k9.own o8 (p8.apart_row o8 (by decide) (by decide) (by decide))
      go_wp2_with fail
      have ha := at_any _ t _ F' L2 Z w9 q9 HX.out.2.1.2.2
      rw [HX.out.2.1.2.1, HX.out.2.2.1.2.2] at ha
      refine ha.mono ?_
      clear ha
      rintro e w10 ⟨rfl, hb10⟩
      have q10 := q9.below hb10
      have p10 := p9.below hb10
      have x10 := own_below o79 hb10
      have y10 := own_below o89 hb10
      have z10 := own_below o9 hb10
      have sdB : Below w.heap.size w w10 := sd9.2.1.trans (hb10.mono (Nat.le_trans hBs sd9.2.2))
      have nx := str_news x10
      have ny := str_news y10
      have zlt : ∀ g, (Value.slice a9 (X ++ Y).length c9).ownBlock = some g → g < w10.heap.size := fun g hg => (z10.lt g hg).2
      have ylt : ∀ g, (Value.slice a8 Y.length c8).ownBlock = some g → g < w10.heap.size := fun g hg => (y10.lt g hg).2
      have HT := Lib.hid (And.intro (And.intro q10 p10) (And.intro (And.intro x10 (And.intro y10 z10)) (And.intro (And.intro nx ny) (And.intro sdB (And.intro zlt ylt)))))
      clear q5 k5 p5 dis5 sd5 p6 k6 q6 dis6 sd6 q7 k7 o7 p7 dis7 sd7 q8 k8 o8 p8 dis8 sd8 o78 p9 k9 o9 q9 dis9 sd9 o79 o89 q10 p10 x10 y10 z10 sdB nx ny hb10 zlt ylt
      obtain ⟨j0, hj, hj0, hj1, hj2⟩ := info_parts Try.infoStr
      go_wp2_with (first
        | (at_builtin; refine wpList_append_row w10 rfl _ _ 35 rfl w10.heap.size 9 j0 (.string ⟨#[]⟩) 1 16 Try.underlying35 hj hj0 hj1 hj2 rfl (by decide) (.slice none 0 0) 0 [] rfl (World.ownsRow_nil _ _ _ _) a7 X.length c7 (strV X) rfl HT.out.2.2.1.1.1 HT.out.2.2.1.1.2.1 HT.out.2.2.1.1.2.2 (strV_one _) (by unfold maxLen; omega) (by omega) (Nat.le_refl _) ?_; intro v11 w11 own11 grow11; rw [Nat.zero_add, List.nil_append] at own11; have hb11 : Below w10.heap.size w10 w11 := (Below.refl _ _).grown grow11 (Nat.le_refl _) (fun k e => by simp [Value.ownBlock] at e); have ny11 := str_news (own_below HT.out.2.1.2.1 hb11); have HU := Lib.hid (And.intro own11 (And.intro hb11 ny11)); clear own11 hb11 ny11 grow11)
        | (at_builtin; refine wpList_append_row _ rfl _ _ 35 rfl w10.heap.size 9 j0 (.string ⟨#[]⟩) 1 16 Try.underlying35 hj hj0 hj1 hj2 rfl (by decide) _ _ _ rfl HU.out.1 a8 Y.length c8 (strV Y) rfl HU.out.2.2.1 HU.out.2.2.2.1 HU.out.2.2.2.2 (strV_one _) (by unfold maxLen; omega) (by omega) HU.out.2.1.size ?_; intro v12 w12 own12 grow12; obtain ⟨a12, c12, rfl⟩ := owns_slice own12; have HV := Lib.hid (And.intro own12 grow12); clear own12 grow12))
      obtain ⟨own12, grow12⟩ := HV.out
      have eXY : strV X ++ strV Y = strV (X ++ Y) := by simp
      have eLn : X.length + Y.length = (X ++ Y).length := by simp
      rw [eXY] at own12
      have hb12 : Below w10.heap.size w10 w12 := HU.out.2.1.grown grow12 HU.out.2.1.size (fun k e => owns_block HU.out.1 k e)
      have q12 := HT.out.1.1.below hb12
      have p12 := HT.out.1.2.below hb12
      have z12 := own_below HT.out.2.1.2.2 hb12
      have B12 : Below w.heap.size w w12 := HT.out.2.2.2.1.trans (hb12.mono HT.out.2.2.2.1.size)
      rw [← eLn] at z12
      obtain ⟨n2, hn2⟩ : ∃ n2 : Int, (L2.length : Int) = n2 := ⟨_, rfl⟩
      have hL2l := HX.out.2.2.2.2.2
      rw [hn2] at hL2l
      have hL2s : (k : Int) - 1 - ((X.length : Int) + (Y.length : Int)) = n2 := hL2l.symm
      have HW := Lib.hid (And.intro (And.intro own12 z12) (And.intro (And.intro q12 p12) (And.intro B12 (And.intro hn2 eLn))))
      clear own12 grow12 hb12 q12 p12 z12 B12 hn2 hL2l eXY eLn hj hj0 hj1 hj2
      refine (len_any _ t _ F' L2 w12 HW.out.2.1.1).mono ?_
      rw [HW.out.2.2.2.1]
      rintro e w' ⟨rfl, rfl⟩
      go_wp2_with fail
      refine (len_any _ u _ G' L2 w12 HW.out.2.1.2).mono ?_
      rw [HW.out.2.2.2.1]
      rintro e w' ⟨rfl, rfl⟩
      go_wp2_with fail
      refine (len_any _ t _ F' L2 w12 HW.out.2.1.1).mono ?_
      rw [HW.out.2.2.2.1]
      rintro e w' ⟨rfl, rfl⟩
      go_wp2
      go_loopw [21] (fun iv wx => ∃ j : Nat, iv = .int .i64 (j : Int) ∧ j ≤ X.length + Y.length ∧ wx.ownsRow w10.heap.size 9 1 (.slice a12 (X.length + Y.length) c12) (X.length + Y.length) (strV (X ++ Y)) ∧ wx.ownsRow w8.heap.size 9 1 (.slice a9 (X.length + Y.length) c9) (X.length + Y.length) (strV (X ++ Y)) ∧ Below w.heap.size w wx) (fun iv _ => X.length + Y.length - (intOf iv).toNat)
      case atStart => exact ⟨0, rfl, Nat.zero_le _, HW.out.1.1, HW.out.1.2, HW.out.2.2.1⟩
      case round =>
        obtain ⟨j, rfl, hjl, oa, oz, hb⟩ := hrel
        by_cases hjt : j < X.length + Y.length
        · have hjt' : j < (X ++ Y).length := by rw [List.length_append]; exact hjt
          obtain ⟨ga, rfl, hga, _, ca⟩ := row_str oa j (X ++ Y)[j] (List.getElem?_eq_getElem hjt')
          obtain ⟨gz, rfl, hgz, _, cz⟩ := row_str oz j (X ++ Y)[j] (List.getElem?_eq_getElem hjt')
          have hnz := HX.out.2.2.2.2.1 j _ (List.getElem?_eq_getElem hjt')
          generalize (X ++ Y)[j] = z at ca cz hnz
          have hneq : (⟨z.toArray⟩ : ByteArray) ≠ Z := by
            intro e
            apply hnz
            rw [← HX.out.2.1.2.1, ← e]
          have i0 : (0 : Int) ≤ (j : Int) := by omega
          have i1 : (j : Int) < (X.length : Int) + (Y.length : Int) := by omega
          obtain ⟨A, hA⟩ : ∃ A : ByteArray, (⟨z.toArray⟩ : ByteArray) = A := ⟨_, rfl⟩
          rw [hA] at ca cz hneq
          have g3 : (A.toList == Z.toList) = false := by
            simp only [beq_eq_false_iff_ne, ne_eq]
            intro e
            rw [ByteArray.toList_eq, ByteArray.toList_eq] at e
            apply hneq
            cases A; cases Z
            simp at e ⊢
            exact e
          have HO := Lib.hid (And.intro oa (And.intro oz hb))
          clear oa oz hb hnz hjt' hA
          go_wp2_with fail
          go_quiet (fail)
          go_wp2
          go_roundw
          case rel => exact ⟨j + 1, by go_num, by omega, own_below HO.out.1 (below_drewN' _), own_below HO.out.2.1 (below_drewN' _), HO.out.2.2.trans (below_drewN' _)⟩
          case measure => simp [intOf]; omega
        · have hjj : ¬ (j : Int) < (X.length : Int) + (Y.length : Int) := by omega
          have HO := Lib.hid hb
          clear oa oz hb
          go_wp2
          go_ret
          exact ⟨rfl, HO.out⟩
end Go.Proofs.Ytjcocgadhdgbjaa
