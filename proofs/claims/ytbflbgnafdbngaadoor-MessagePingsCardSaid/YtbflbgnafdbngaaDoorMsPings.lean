/- message: MessagePings, walked. -/
import Derived.Test.YtbflbgnafdbngaaDoorMsEx
import Derived.Test.YtbflbgnafdbngaaDoorVrPs
namespace Go.Proofs.YtbflbgnafdbngaaDoor
open Go.RowKit Go.Lib

theorem Ps.nmb (num : Int) (n : Nat) (hn : n < 2 ^ 64) (h1 : 1 ≤ num) (h2 : num ≤ 536870911) : Ps (nmb num n) (if n = 0 then [] else [⟨num.toNat, 0, n, []⟩]) := by
  unfold Go.Proofs.YtbflbgnafdbngaaDoor.nmb
  split
  · exact Ps.nil
  · exact Ps.number num n hn h1 h2
theorem kind_ping (n : Nat) (l : List UInt8) : kindL (pingL n ++ l) = 3 := rfl
theorem pingP_pingL (n : Nat) (hn : n < 2 ^ 64) : pingP (pingL n) = (n, none) := by
  have h := (Ps.nmb 1 n hn (by decide) (by decide)).whole
  unfold pingP msgP
  rw [if_pos (by rfl)]
  show takeP pingStep 0 (nmb 1 n) = _
  unfold takeP
  rw [h]
  by_cases h0 : n = 0
  · rw [if_pos h0, h0]; rfl
  · rw [if_neg h0]; rfl
theorem pingP_more (n m : Nat) (hn : n < 2 ^ 64) (hm : m < 2 ^ 64) : pingP (pingL n ++ numberL 1 m) = (m, none) := by
  have h := ((Ps.nmb 1 n hn (by decide) (by decide)).app (Ps.number 1 m hm (by decide) (by decide))).whole
  unfold pingP msgP
  rw [if_pos (by rfl)]
  show takeP pingStep 0 (nmb 1 n ++ numberL 1 m) = _
  unfold takeP
  rw [h]
  by_cases h0 : n = 0
  · rw [if_pos h0]; rfl
  · rw [if_neg h0]; rfl
theorem pingL_inj {n m : Nat} (hn : n < 2 ^ 64) (hm : m < 2 ^ 64) (h : pingL n = pingL m) : n = m := by
  have := congrArg (fun l => (pingP l).1) h
  simpa only [pingP_pingL n hn, pingP_pingL m hm] using this
theorem len_ping (n : Nat) : (pingL n).length ≤ 21 := by
  have := len_nmb 1 n
  unfold pingL
  simp only [List.length_cons]
  omega
theorem getPing_as (l : List UInt8) (n : Nat) (hl : l.length ≤ 1099511627776) (hq : pingP l = (n, none)) (g b : Addr) (w : World) (hg : Gv g w) (hn : Gn b w) :
    Calls Tryd.prog 10 #[.string ⟨l.toArray⟩] w fun e w' => e = .returned (.tuple #[.int .u64 (n : Int), .bool true]) ∧ Below w.heap.size w w' := by
  have h := getPing_any ⟨l.toArray⟩ g b w hg hn hl
  rw [show (⟨l.toArray⟩ : ByteArray).data.toList = l from rfl, hq] at h
  exact h
/-- What is of another Kind is no status. -/
theorem getStat_kind (l : List UInt8) (hl : l.length ≤ 1099511627776) (hk : kindL l ≠ 4) (g b : Addr) (w : World) (hg : Gv g w) (hn : Gn b w) :
    Calls Tryd.prog 8 #[.string ⟨l.toArray⟩] w fun e w' => e = .returned (.tuple #[.agg #[.int .i64 0, .string ⟨#[]⟩, .int .u64 0, .bool false, .string ⟨#[]⟩], .bool false]) ∧ Below w.heap.size w w' := by
  have h := getStatus_any ⟨l.toArray⟩ g b w hg hn hl
  rw [show (⟨l.toArray⟩ : ByteArray).data.toList = l from rfl] at h
  have hm : msgP statStep ss0 4 l = (ss0, some []) := by unfold msgP; rw [if_neg hk]
  have hr : statR l = (⟨0, ⟨#[]⟩, 0, false, ⟨#[]⟩⟩, some []) := by
    unfold statR statE
    rw [hm]
    rfl
  unfold statG at h
  rw [hr] at h
  exact h
set_option maxRecDepth 100000 in
set_option maxHeartbeats 4000000 in
theorem pings_walk (n m : Nat) (g b : Addr) (w : World) (hg : Gv g w) (hn : Gn b w) (hn64 : n < 2 ^ 64) (hm64 : m < 2 ^ 64) : Calls Tryd.prog 4 #[.int .u64 (n : Int), .int .u64 (m : Int)] w fun e w' => e = .returned (.bool true) ∧ Below w.heap.size w w' := by
  have HG := Lib.hid (fun (W : World) (h : Below w.heap.size w W) => And.intro (hg.below h) (hn.below h))
  obtain ⟨s, hs⟩ : ∃ s : ByteArray, (⟨(pingL n).toArray⟩ : ByteArray) = s := ⟨_, rfl⟩
  obtain ⟨s2, hs2⟩ : ∃ s : ByteArray, (⟨(pingL m).toArray⟩ : ByteArray) = s := ⟨_, rfl⟩
  obtain ⟨s3, hs3⟩ : ∃ s : ByteArray, (⟨(numberL 1 m).toArray⟩ : ByteArray) = s := ⟨_, rfl⟩
  have hsz := len_ping n
  have hss : s.size ≤ 21 := by rw [← hs]; exact hsz
  have hs3z : s3.size ≤ 20 := by rw [← hs3]; exact len_n 1 m
  have h4 : s ++ s3 = (⟨(pingL n ++ numberL 1 m).toArray⟩ : ByteArray) := by rw [← hs, ← hs3]; apply ByteArray.ext; simp
  have HE := Lib.hid (ms_examples g b w hg hn)
  have K1 := Lib.hid (fun W (h : Below w.heap.size w W) => ping_any n g W (HG.out _ h).1 hn64)
  have K2 := Lib.hid (fun W (h : Below w.heap.size w W) => ping_any m g W (HG.out _ h).1 hm64)
  have K3 := Lib.hid (fun W (h : Below w.heap.size w W) => getPing_as (pingL n) n (by omega) (pingP_pingL n hn64) g b W (HG.out _ h).1 (HG.out _ h).2)
  have K4 := Lib.hid (fun W (h : Below w.heap.size w W) => number_any 1 m g W (HG.out _ h).1 hm64)
  have K5 := Lib.hid (fun W (h : Below w.heap.size w W) => getPing_as (pingL n ++ numberL 1 m) m (by rw [List.length_append]; have := len_n 1 m; omega) (pingP_more n m hn64 hm64) g b W (HG.out _ h).1 (HG.out _ h).2)
  have K6 := Lib.hid (fun W (h : Below w.heap.size w W) => getReq_kind ⟨(pingL n).toArray⟩ g b W (HG.out _ h).1 (HG.out _ h).2 (by rw [hs]; omega) (by show (3 : Nat) ≠ 1; decide))
  have K7 := Lib.hid (fun W (h : Below w.heap.size w W) => getStat_kind (pingL n) (by omega) (by show (3 : Nat) ≠ 4; decide) g b W (HG.out _ h).1 (HG.out _ h).2)
  have K8 := Lib.hid (fun W => kind_any ⟨(pingL n).toArray⟩ W)
  rw [show kindL (⟨(pingL n).toArray⟩ : ByteArray).data.toList = 3 from rfl] at K8
  rw [hs] at K1 K3 K6 K7 K8
  rw [hs2] at K2
  rw [hs3] at K4
  rw [← h4] at K5
  have heq : (s.toList == s2.toList) = ((n : Int) == (m : Int)) := by
    rw [ByteArray.toList_eq, ByteArray.toList_eq, ← hs, ← hs2]
    show (pingL n == pingL m) = _
    by_cases h : n = m
    · subst h; simp
    · have h1 : ((n : Int) == (m : Int)) = false := by simpa using fun e => h (by omega)
      have h2 : (pingL n == pingL m) = false := by
        simpa using fun e => h (pingL_inj hn64 hm64 e)
      rw [h1, h2]
  obtain ⟨B, hB⟩ : ∃ B, ((n : Int) == (m : Int)) = B := ⟨_, rfl⟩
  rw [hB] at heq
  have HQ := Lib.hid (And.intro heq hB)
  clear hg hn hs hs2 hs3 hsz h4 heq hB
  go_enter Tryd.func4, Tryd.ntmps4
  go_wp2_with fail
  refine HE.out.mono ?_
  rintro e w1 ⟨rfl, hb⟩
  have H1 := Lib.hid hb
  clear hb
  go_wp2_with fail
  refine (K1.out w1 H1.out).mono ?_
  rintro e w2 ⟨rfl, hb⟩
  have H2 := Lib.hid (H1.out.trans (hb.mono H1.out.size))
  clear hb
  go_wp2_with fail
  refine (K2.out w2 H2.out).mono ?_
  rintro e w3 ⟨rfl, hb⟩
  have H3 := Lib.hid (H2.out.trans (hb.mono H2.out.size))
  clear hb
  go_wp2_with fail
  refine (K3.out w3 H3.out).mono ?_
  rintro e w4 ⟨rfl, hb⟩
  have H4 := Lib.hid (H3.out.trans (hb.mono H3.out.size))
  clear hb
  go_wp2_with fail
  refine (K4.out w4 H4.out).mono ?_
  rintro e w5 ⟨rfl, hb⟩
  have H5 := Lib.hid (H4.out.trans (hb.mono H4.out.size))
  clear hb
  go_wp2_with fail
  refine (K5.out w5 H5.out).mono ?_
  rintro e w6 ⟨rfl, hb⟩
  have H6 := Lib.hid (H5.out.trans (hb.mono H5.out.size))
  clear hb
  go_wp2_with fail
  refine (K6.out w6 H6.out).mono ?_
  rintro e w7 ⟨rfl, hb⟩
  have H7 := Lib.hid (H6.out.trans (hb.mono H6.out.size))
  obtain ⟨w8, hw8, hb8, p8⟩ := alloc_new w7 (rq 0 (.slice none 0 0)) 41
  have HW8 := Lib.hid hw8
  have H8 := Lib.hid (H7.out.trans (hb8.mono H7.out.size))
  clear hb hw8 hb8 p8
  go_wp2_with fail
  rw [HW8.out]
  refine (K7.out w8 H8.out).mono ?_
  rintro e w9 ⟨rfl, hb⟩
  have H9 := Lib.hid (H8.out.trans (hb.mono H8.out.size))
  obtain ⟨wa, hwa, hba, pa⟩ := alloc_new w9 st0Cells 30
  have HWA := Lib.hid hwa
  have HA := Lib.hid (H9.out.trans (hba.mono H9.out.size))
  clear hb hwa hba pa
  have q1 := HQ.out.1
  have q2 := HQ.out.2
  clear HQ
  cases B
  all_goals
    go_wp2_with fail
    rw [HWA.out]
    refine (K8.out wa).mono ?_
    rintro e wb ⟨rfl, hb⟩
    have HZ := Lib.hid (HA.out.trans (hb.mono HA.out.size))
    clear hb
    go_wp2_with fail
    go_ret
    exact ⟨rfl, HZ.out⟩
end Go.Proofs.YtbflbgnafdbngaaDoor
