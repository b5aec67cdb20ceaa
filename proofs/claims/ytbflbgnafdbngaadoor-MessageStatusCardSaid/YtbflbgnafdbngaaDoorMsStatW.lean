/- message: MessageStatus, walked. -/
import Derived.Test.YtbflbgnafdbngaaDoorMsEx
import Derived.Test.YtbflbgnafdbngaaDoorMsStatP
import Derived.Test.YtbflbgnafdbngaaDoorMsEq
import Derived.BigGuardPart
namespace Go.Proofs.YtbflbgnafdbngaaDoor
open Go.RowKit Go.Lib

/-- What is got of what was put, or was not. -/
theorem getStat_put (r : St) (k : Nat) (ht : r.t = (k : Int)) (hk : k < 2 ^ 63) (hq : r.q < 2 ^ 64) (hx : r.x.size ≤ 100) (hs : r.s.size ≤ 100) (g b : Addr) (w : World) (hg : Gv g w) (hn : Gn b w) :
    Calls Tryd.prog 8 #[.string ⟨(if r.ok then r.put else []).toArray⟩] w fun e w' => e = .returned (.tuple #[(if r.ok then r else ⟨0, ⟨#[]⟩, 0, false, ⟨#[]⟩⟩ : St).v, .bool r.ok]) ∧ Below w.heap.size w w' := by
  cases hok : r.ok with
  | true =>
    rw [if_pos rfl, if_pos rfl]
    have h := getStatus_any ⟨r.put.toArray⟩ g b w hg hn (by
      show r.put.length ≤ 1099511627776
      unfold St.put
      have h1 := len_nmb 1 (IntKind.u64.wrap r.t).toNat
      have h2 := len_txt 2 r.x
      have h3 := len_nmb 3 r.q
      have h4 : (flg 4 r.f).length ≤ 20 := by unfold flg; split; exact len_n 4 1; exact Nat.zero_le _
      have h5 := len_txt 5 r.s
      simp only [List.length_cons, List.length_append]
      omega)
    rw [show (⟨r.put.toArray⟩ : ByteArray).data.toList = r.put from rfl] at h
    unfold statG at h
    rw [statR_put r k ht hk hq (by omega) (by omega) hok] at h
    exact h
  | false =>
    rw [if_neg (by decide), if_neg (by decide)]
    have h := getStatus_any ⟨#[]⟩ g b w hg hn (Nat.zero_le _)
    have hr : statR (⟨#[]⟩ : ByteArray).data.toList = (⟨0, ⟨#[]⟩, 0, false, ⟨#[]⟩⟩, some []) := by
      have hm : msgP statStep ss0 4 [] = (ss0, some []) := rfl
      show statR [] = _
      unfold statR statE
      rw [hm]
      rfl
    unfold statG at h
    rw [hr] at h
    exact h
theorem toList_nil (s : ByteArray) : (s.toList == []) = decide (s.size = 0) := by
  rw [ByteArray.toList_eq]
  obtain ⟨⟨l⟩⟩ := s
  cases l <;> rfl
theorem st_ok (k κ q : Nat) (f : Bool) (S : ByteArray) (hκ : κ < 5) (hS : S.size ≤ 100) : St.ok ⟨((1 + κ : Nat) : Int), ⟨(nmC k).toArray⟩, q, f, S⟩ = (!decide (k % 16 = 15) && decide (0 < (q : Int)) && (!f || (S.toList == []))) := by
  unfold St.ok
  dsimp only
  rw [nmc_ok, toList_nil]
  have h1 : decide ((1 : Int) ≤ ((1 + κ : Nat) : Int)) = true := decide_eq_true (by omega)
  have h2 : decide (((1 + κ : Nat) : Int) ≤ 5) = true := decide_eq_true (by omega)
  have h3 : decide ((S.size : Int) ≤ 256) = true := decide_eq_true (by omega)
  have h4 : ((q : Int) != 0) = decide (0 < (q : Int)) := by
    by_cases h : q = 0
    · subst h; rfl
    · rw [decide_eq_true (by omega)]; simpa using h
  rw [h1, h2, h3, h4]
  simp
set_option maxRecDepth 100000 in
set_option maxHeartbeats 8000000 in
theorem stat_walk (k q : Nat) (f : Bool) (s : ByteArray) (g b : Addr) (w : World) (hg : Gv g w) (hn : Gn b w) (hk : k < 256) (hq : q < 2 ^ 64) (hs : s.size ≤ 9223372036854775807) :
    Calls Tryd.prog 3 #[.int .u8 (k : Int), .int .u64 (q : Int), .bool f, .string s] w fun e w' => e = .returned (.bool true) ∧ Below w.heap.size w w' := by
  have HG := Lib.hid (fun (W : World) (h : Below w.heap.size w W) => And.intro (hg.below h) (hn.below h))
  have HE := Lib.hid (ms_examples g b w hg hn)
  obtain ⟨M, hM⟩ : ∃ M, min s.size 100 = M := ⟨_, rfl⟩
  have hmin : min (s.size : Int) 100 = (M : Int) := by omega
  have hmin' : min (100 : Int) (s.size : Int) = (M : Int) := by omega
  have hMs : M ≤ s.size := by omega
  have hM100 : M ≤ 100 := by omega
  obtain ⟨S, hS⟩ : ∃ S, s.extract 0 M = S := ⟨_, rfl⟩
  have hSz : S.size ≤ 100 := by rw [← hS, ByteArray.size_extract]; omega
  obtain ⟨κ, hκ⟩ : ∃ κ, k % 5 = κ := ⟨_, rfl⟩
  have hκ5 : κ < 5 := by omega
  have m1 : (k : Int).tmod 5 = (κ : Int) := by rw [Int.tmod_eq_emod_of_nonneg (by omega)]; omega
  have m2 : (k : Int) % 5 = (κ : Int) := by omega
  have g1 : IntKind.u8.wrap (κ : Int) = (κ : Int) := by rw [show IntKind.u8.wrap (κ : Int) = (κ : Int) % 256 from rfl]; omega
  have g2 : IntKind.i64.wrap (κ : Int) = (κ : Int) := by rw [IntKind.wrap_i64]; omega
  obtain ⟨t, ht⟩ : ∃ t, 1 + κ = t := ⟨_, rfl⟩
  have g3 : IntKind.i64.wrap (1 + (κ : Int)) = (t : Int) := by rw [IntKind.wrap_i64]; omega
  have hok := st_ok k κ q f S hκ5 hSz
  rw [ht] at hok
  obtain ⟨X, hX⟩ : ∃ X : ByteArray, (⟨(nmC k).toArray⟩ : ByteArray) = X := ⟨_, rfl⟩
  have hXz : X.size ≤ 100 := by rw [← hX]; exact Nat.le_trans (nmC_len k) (by decide)
  have HN := Lib.hid (fun W => name5_any (w := W) hk)
  rw [hX] at HN
  have HP := Lib.hid (fun W (h : Below w.heap.size w W) => putStatus_any ⟨(t : Int), X, q, f, S⟩ g b W (HG.out _ h).1 (HG.out _ h).2 hq)
  have HT := Lib.hid (fun W (h : Below w.heap.size w W) => getStat_put ⟨(t : Int), X, q, f, S⟩ t rfl (by omega) hq hXz hSz g b W (HG.out _ h).1 (HG.out _ h).2)
  rw [hX] at hok
  have hstar : (X.toList == [42]) = decide (k % 16 = 15) := by
    rw [← hX, ByteArray.toList_eq]
    show (nmC k == [42]) = _
    unfold nmC
    by_cases h : k % 16 = 15
    · rw [if_pos h, decide_eq_true h]; rfl
    · rw [if_neg h, decide_eq_false h]
      have h1 : k % 12 < 12 := Nat.mod_lt _ (by decide)
      have h2 : k / 16 % 3 < 3 := Nat.mod_lt _ (by decide)
      generalize k % 12 = i at h1 ⊢
      generalize k / 16 % 3 = j at h2 ⊢
      have : ∀ i, i < 12 → ∀ j, j < 3 → ((UInt8.ofNat (97 + i) :: sufT.getD j []) == [42]) = false := by decide +kernel
      exact this i h1 j h2
  obtain ⟨A, hA⟩ : ∃ A, decide (k % 16 = 15) = A := ⟨_, rfl⟩
  rw [hA] at hok hstar
  obtain ⟨Z, hZ⟩ : ∃ Z, decide (0 < (q : Int)) = Z := ⟨_, rfl⟩
  rw [hZ] at hok
  obtain ⟨E, hE⟩ : ∃ E, (S.toList == []) = E := ⟨_, rfl⟩
  rw [hE] at hok
  generalize hOK : St.ok ⟨(t : Int), X, q, f, S⟩ = OK at hok HP HT
  obtain ⟨D, hD⟩ : ∃ D : ByteArray, (⟨(if OK then St.put ⟨(t : Int), X, q, f, S⟩ else []).toArray⟩ : ByteArray) = D := ⟨_, rfl⟩
  rw [hD] at HP HT
  obtain ⟨t', X', q', f', S', hV, hV'⟩ : ∃ t' X' q' f' S', (if OK then ⟨(t : Int), X, q, f, S⟩ else ⟨0, ⟨#[]⟩, 0, false, ⟨#[]⟩⟩ : St) = ⟨t', X', q', f', S'⟩ ∧ (OK = true → (t : Int) = t' ∧ X = X' ∧ q = q' ∧ f = f' ∧ S = S') := by
    cases OK with
    | true => exact ⟨_, _, _, _, _, rfl, fun _ => ⟨rfl, rfl, rfl, rfl, rfl⟩⟩
    | false => exact ⟨_, _, _, _, _, rfl, fun h => by cases h⟩
  rw [hV] at HT
  have HP2 := Lib.hid (show ∀ W, Below w.heap.size w W → Calls Tryd.prog 7 #[.agg #[.int .i64 (t : Int), .string X, .int .u64 (q : Int), .bool f, .string S]] W fun e w' => e = .returned (.tuple #[.string D, .bool OK]) ∧ Below W.heap.size W w' from HP.out)
  have HT2 := Lib.hid (show ∀ W, Below w.heap.size w W → Calls Tryd.prog 8 #[.string D] W fun e w' => e = .returned (.tuple #[.agg #[.int .i64 t', .string X', .int .u64 (q' : Int), .bool f', .string S'], .bool OK]) ∧ Below W.heap.size W w' from HT.out)
  have HF := Lib.hid (And.intro hok (And.intro hstar (And.intro hZ (And.intro hE hV'))))
  have HEX := Lib.hid hS
  clear hg hn hM hS hSz hκ hκ5 ht hX hXz HP HT hok hstar hA hZ hE hOK hD hV hV' hk hq
  go_enter Tryd.func3, Tryd.ntmps3
  go_wp2_with fail
  refine HE.out.mono ?_
  rintro e w1 ⟨rfl, hb⟩
  have H1 := Lib.hid hb
  clear hb
  go_wp2_with fail
  rw [HEX.out]
  refine (HN.out w1).mono ?_
  rintro e w2 ⟨rfl, hb⟩
  have H2 := Lib.hid (H1.out.trans (hb.mono H1.out.size))
  clear hb
  obtain ⟨w3, hw3, hb3, p3⟩ := alloc_new w2 #[.int .i64 (t : Int), .string X] 26
  have HW3 := Lib.hid hw3
  have H3 := Lib.hid (H2.out.trans (hb3.mono H2.out.size))
  have P3 := Lib.hid p3
  clear hw3 hb3 p3
  go_wp2_with fail
  rw [HW3.out]
  refine (HP2.out w3 H3.out).mono ?_
  rintro e w4 ⟨rfl, hb⟩
  have H4 := Lib.hid (H3.out.trans (hb.mono H3.out.size))
  have P4 := Lib.hid (P3.out.later hb)
  clear hb
  go_wp2_with fail
  refine (HT2.out w4 H4.out).mono ?_
  rintro e w5 ⟨rfl, hb⟩
  have H5 := Lib.hid (H4.out.trans (hb.mono H4.out.size))
  have p5 := P4.out.later hb
  have y0 : w5.cell? ⟨w2.heap.size, 0, none⟩ = some (.int .i64 (t : Int)) := p5.cell 0
  have y1 : w5.cell? ⟨w2.heap.size, 1, none⟩ = some (.string X) := p5.cell 1
  have yl := p5.lt
  clear hb p5
  obtain ⟨hok, hst, hz, he, hv⟩ := HF.out
  have q1 := guard_stat (w := w5)
  clear HF
  cases A <;> cases Z <;> cases f <;> cases E
  all_goals
    simp only [Bool.not_true, Bool.not_false, Bool.and_true, Bool.true_and, Bool.and_false, Bool.false_and, Bool.or_true, Bool.true_or, Bool.or_false, Bool.false_or] at hok
    subst hok
    have hz' := hz
    simp only [decide_eq_true_eq, decide_eq_false_iff_not] at hz'
  all_goals
    try (obtain ⟨rfl, rfl, rfl, rfl, rfl⟩ := hv rfl)
    try clear hv
    have q2 := fun (W : World) (o : Bool) => eql_stat (t : Int) X S (q : Int) o W
    first | have hzn : 0 < q := (by omega) | have hzn : ¬ 0 < q := (by omega)
    go_wp2_with fail
    go_ret
    exact ⟨rfl, H5.out.alloc H5.out.size _⟩
end Go.Proofs.YtbflbgnafdbngaaDoor
