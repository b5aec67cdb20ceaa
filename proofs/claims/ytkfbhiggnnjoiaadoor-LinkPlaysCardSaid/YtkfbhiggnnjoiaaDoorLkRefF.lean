/- link: the reference's Feed. -/
import Derived.Test.YtkfbhiggnnjoiaaDoorLkRef
import Derived.LoopTactic
namespace Go.Proofs.YtkfbhiggnnjoiaaDoor
open Go.RowKit Go.Lib

theorem feedR_none {S c r : List UInt8} {l : List (List UInt8)} (h : feedL (S ++ c) = ⟨l, r, none⟩) : feedR ⟨S, 0⟩ c = (l, ⟨r, 0⟩) := by
  unfold feedR; simp only [h]; simp
theorem feedR_some {S c r : List UInt8} {l : List (List UInt8)} {n : Nat} (h : feedL (S ++ c) = ⟨l, r, some n⟩) : feedR ⟨S, 0⟩ c = (l, ⟨[], errN n⟩) := by
  unfold feedR; simp only [h]; simp
theorem ext_drop (s : ByteArray) (k : Nat) : (s.extract k s.size).data.toList = s.data.toList.drop k := by
  have h : s.data.toList.length = s.size := rfl
  simp only [ByteArray.data_extract, Array.toList_extract, List.extract_eq_take_drop]
  rw [List.take_of_length_le (by rw [List.length_drop]; omega)]

def strSz' : Value → Nat | .string s => s.size | _ => 0
/-- The reference's reader in block r. -/
def XAt (r : Nat) (S : List UInt8) (E : Nat) (w : World) : Prop := ∃ T : ByteArray, T.data.toList = S ∧ Blk w r #[.string T, .int .i64 (E : Int)] 74
def RefPost (r : Nat) (S : List UInt8) (E : Nat) (chunk : List UInt8) (w : World) (e : Ending) (w' : World) : Prop :=
  ∃ a c, e = .returned (.tuple #[.slice a (feedR ⟨S, E⟩ chunk).1.length c, .int .i64 (((feedR ⟨S, E⟩ chunk).2.E : Nat) : Int)]) ∧ XAt r (feedR ⟨S, E⟩ chunk).2.S (feedR ⟨S, E⟩ chunk).2.E w' ∧
    w'.ownsRow w.heap.size 9 1 (.slice a (feedR ⟨S, E⟩ chunk).1.length c) (feedR ⟨S, E⟩ chunk).1.length (strV (feedR ⟨S, E⟩ chunk).1) ∧ But r (.slice none 0 0) w w'

theorem i64_or_nat (a b : Nat) (ha : a < 4294967296) (hb : b < 4294967296) : bits .or .i64 (a : Int) (b : Int) = ((a ||| b : Nat) : Int) := by
  have hx : a ||| b < 2 ^ 32 := Nat.or_lt_two_pow (by omega) (by omega)
  show IntKind.i64.wrap ((BitVec.ofInt 64 (a : Int) ||| BitVec.ofInt 64 (b : Int)).toNat : Int) = _
  rw [BitVec.toNat_or, ofInt_u64 a (by omega), ofInt_u64 b (by omega), IntKind.wrap_i64]
  omega
theorem or_join {a b i : Nat} (hb : b < 2 ^ i) (h1 : a * 2 ^ i < 4294967296) (h2 : b < 4294967296) : bits .or .i64 ((a * 2 ^ i : Nat) : Int) ((b : Nat) : Int) = ((a * 2 ^ i + b : Nat) : Int) := by
  rw [i64_or_nat _ _ h1 h2, Nat.mul_comm, ← Nat.two_pow_add_eq_or_of_lt hb]
/-- Four bytes, the highest first. -/
theorem num_or (a b c d : UInt8) : bits .or .i64 (bits .or .i64 (bits .or .i64 ((a.toNat : Int) * 16777216) ((b.toNat : Int) * 65536)) ((c.toNat : Int) * 256)) (d.toNat : Int) = ((((a.toNat * 256 + b.toNat) * 256 + c.toNat) * 256 + d.toNat : Nat) : Int) := by
  have ha := a.toNat_lt
  have hb := b.toNat_lt
  have hc := c.toNat_lt
  have hd := d.toNat_lt
  generalize a.toNat = a at *
  generalize b.toNat = b at *
  generalize c.toNat = c at *
  generalize d.toNat = d at *
  have e1 : bits .or .i64 ((a : Int) * 16777216) ((b : Int) * 65536) = (((a * 256 + b) * 65536 : Nat) : Int) := by
    have := or_join (a := a) (b := b * 65536) (i := 24) (by omega) (by omega) (by omega)
    rw [show ((a * 2 ^ 24 : Nat) : Int) = (a : Int) * 16777216 by omega, show ((b * 65536 : Nat) : Int) = (b : Int) * 65536 by omega] at this
    rw [this]; omega
  have e2 : bits .or .i64 (((a * 256 + b) * 65536 : Nat) : Int) ((c : Int) * 256) = ((((a * 256 + b) * 256 + c) * 256 : Nat) : Int) := by
    have := or_join (a := a * 256 + b) (b := c * 256) (i := 16) (by omega) (by omega) (by omega)
    rw [show ((c * 256 : Nat) : Int) = (c : Int) * 256 by omega, show (a * 256 + b) * 2 ^ 16 = (a * 256 + b) * 65536 by omega] at this
    rw [this]; omega
  have e3 : bits .or .i64 ((((a * 256 + b) * 256 + c) * 256 : Nat) : Int) (d : Int) = ((((a * 256 + b) * 256 + c) * 256 + d : Nat) : Int) := by
    have := or_join (a := (a * 256 + b) * 256 + c) (b := d) (i := 8) (by omega) (by omega) (by omega)
    rw [show ((a * 256 + b) * 256 + c) * 2 ^ 8 = ((a * 256 + b) * 256 + c) * 256 by omega] at this
    exact this
  rw [e1, e2, e3]

set_option maxRecDepth 100000 in
theorem ref_was (r : Nat) (S : List UInt8) (E : Nat) (s : ByteArray) (w : World) (hR : XAt r S E w) (hE : E ≠ 0) :
    Calls Tryd.prog 39 #[.pointer (some ⟨r, 0, none⟩), .string s] w (RefPost r S E s.data.toList w) := by
  have hf : feedR ⟨S, E⟩ s.data.toList = ([], ⟨S, E⟩) := by unfold feedR; rw [if_pos hE]
  have hR' := hR
  obtain ⟨T, hT, hblk⟩ := hR'
  have k1 : w.cell? ⟨r, 1, none⟩ = some (.int .i64 (E : Int)) := hblk.cell 1
  have e0 : ((E : Int) == 0) = false := by simp; omega
  have e1 : ((E : Int) != 0) = true := by simp; omega
  have HE := Lib.hid (And.intro hE hf); clear hE hf
  go_enter Tryd.func39, Tryd.ntmps39
  go_wp2_with fail
  go_quiet (fail)
  go_wp2
  go_ret2
  refine ⟨none, 0, by rw [HE.out.2]; rfl, ?_, by rw [HE.out.2]; exact World.ownsRow_nil _ _ _ _, But.of (below_drewN' _)⟩
  rw [HE.out.2]; exact ⟨T, hT, hblk.below (below_drewN' _) hblk.lt⟩

theorem w64 (n k : Nat) (h : n < 256) (hk : k ≤ 16777216) : wrap64 (wrap64 (n : Int) * (k : Int)) = (n : Int) * (k : Int) := by
  have h1 : n * k ≤ 256 * 16777216 := Nat.mul_le_mul (by omega) hk
  rw [IntWalk.wrap64_in (n : Int) (by omega), IntWalk.wrap64_in _ (by rw [← Int.natCast_mul]; omega)]
theorem num_orw (a b c d : UInt8) : bits .or .i64 (bits .or .i64 (bits .or .i64 (wrap64 (wrap64 (a.toNat : Int) * 16777216)) (wrap64 (wrap64 (b.toNat : Int) * 65536))) (wrap64 (wrap64 (c.toNat : Int) * 256))) (wrap64 (d.toNat : Int)) = ((((a.toNat * 256 + b.toNat) * 256 + c.toNat) * 256 + d.toNat : Nat) : Int) := by
  have ha := a.toNat_lt
  have hb := b.toNat_lt
  have hc := c.toNat_lt
  have hd := d.toNat_lt
  rw [show wrap64 (wrap64 (a.toNat : Int) * 16777216) = (a.toNat : Int) * 16777216 from w64 _ 16777216 (by omega) (by omega), show wrap64 (wrap64 (b.toNat : Int) * 65536) = (b.toNat : Int) * 65536 from w64 _ 65536 (by omega) (by omega), show wrap64 (wrap64 (c.toNat : Int) * 256) = (c.toNat : Int) * 256 from w64 _ 256 (by omega) (by omega), IntWalk.wrap64_in (d.toNat : Int) (by omega)]
  exact num_or a b c d
theorem num4_bytes {U : ByteArray} (h : 4 ≤ U.size) : num4 U.data.toList = (((U[0]'(by omega)).toNat * 256 + (U[1]'(by omega)).toNat) * 256 + (U[2]'(by omega)).toNat) * 256 + (U[3]'(by omega)).toNat := by
  have h0 : U.data.toList = U[0]'(by omega) :: U[1]'(by omega) :: U[2]'(by omega) :: U[3]'(by omega) :: U.data.toList.drop 4 := by
    have hl : U.data.toList.length = U.size := rfl
    have e : ∀ i (hi : i < U.size), U.data.toList[i]'(by rw [hl]; exact hi) = U[i] := fun i hi => by simp; rfl
    rw [← e 0, ← e 1, ← e 2, ← e 3]
    rw [List.getElem_cons_drop, List.getElem_cons_drop, List.getElem_cons_drop, List.getElem_cons_drop, List.drop_zero]
  rw [h0, num4_of]
def cellSz (r : Nat) (w : World) : Nat := match w.cell? ⟨r, 0, none⟩ with | some v => strSz' v | none => 0
theorem cellSz_of {r : Nat} {w : World} {U : ByteArray} (h : w.cell? ⟨r, 0, none⟩ = some (.string U)) : cellSz r w = U.size := by unfold cellSz; rw [h]; rfl

structure Rl (r : Nat) (L : List UInt8) (k : Nat) (ms : List (List UInt8)) (U : ByteArray) (v : Value) (w0 wx : World) : Prop where
  at_ : At L k ms
  us : U.data.toList = L.drop k
  blk : Blk wx r #[.string U, .int .i64 0] 74
  own : wx.ownsRow w0.heap.size 9 1 v ms.length (strV ms)
  but : But r (.slice none 0 0) w0 wx

theorem Rl.drew {r k : Nat} {L : List UInt8} {ms : List (List UInt8)} {U : ByteArray} {v : Value} {w0 wx : World} (h : Rl r L k ms U v w0 wx) (n : Nat) : Rl r L k ms U v w0 (wx.drewN n) :=
  ⟨h.at_, h.us, h.blk.below (below_drewN' (B := wx.heap.size) n) h.blk.lt, own_below h.own (below_drewN' n), h.but.grown (below_drewN' n)⟩
theorem Rl.ne {r k : Nat} {L : List UInt8} {ms : List (List UInt8)} {U : ByteArray} {v : Value} {w0 wx : World} (h : Rl r L k ms U v w0 wx) : v.ownBlock ≠ some r := row_block h.own h.blk (by decide)
theorem Rl.ends {r k : Nat} {L : List UInt8} {ms : List (List UInt8)} {U : ByteArray} {v : Value} {w0 wx : World} (h : Rl r L k ms U v w0 wx) (E : Nat) (m : Nat) :
    XAt r [] E (((wx.setCell ⟨r, 1, none⟩ (.int .i64 (E : Int))).setCell ⟨r, 0, none⟩ (.string ⟨#[]⟩)).drewN m) ∧ (((wx.setCell ⟨r, 1, none⟩ (.int .i64 (E : Int))).setCell ⟨r, 0, none⟩ (.string ⟨#[]⟩)).drewN m).ownsRow w0.heap.size 9 1 v ms.length (strV ms) ∧ But r (.slice none 0 0) w0 (((wx.setCell ⟨r, 1, none⟩ (.int .i64 (E : Int))).setCell ⟨r, 0, none⟩ (.string ⟨#[]⟩)).drewN m) := by
  have hb : Blk ((wx.setCell ⟨r, 1, none⟩ (.int .i64 (E : Int))).setCell ⟨r, 0, none⟩ (.string ⟨#[]⟩)) r #[.string ⟨#[]⟩, .int .i64 (E : Int)] 74 := (h.blk.set 1 (.int .i64 (E : Int))).set 0 (.string ⟨#[]⟩)
  have hn := h.ne
  refine ⟨⟨⟨#[]⟩, rfl, hb.below (below_drewN' (B := _) m) hb.lt⟩, ?_, ((h.but.set 1 _).set 0 _).grown (below_drewN' m)⟩
  exact own_below (own_other (own_other h.own (grown_set wx r 1 _) (fun g hg e => hn (hg.trans e.symm))) (grown_set _ r 0 _) (fun g hg e => hn (hg.trans e.symm))) (below_drewN' m)

set_option maxRecDepth 100000 in
set_option maxHeartbeats 4000000 in
theorem ref_feed (r : Nat) (S : List UInt8) (s : ByteArray) (w : World) (hR : XAt r S 0 w) (hsz : S.length + s.size ≤ 1000000000) :
    Calls Tryd.prog 39 #[.pointer (some ⟨r, 0, none⟩), .string s] w (RefPost r S 0 s.data.toList w) := by
  obtain ⟨T, hT, hblk⟩ := hR
  obtain ⟨L, hL⟩ : ∃ L, S ++ s.data.toList = L := ⟨_, rfl⟩
  have hTs0 : T.size = S.length := by rw [← hT]; rfl
  have hTs : T.size + s.size ≤ 1000000000 := by omega
  clear hTs0
  have hLl : L.length ≤ 1000000000 := by rw [← hL, List.length_append]; exact hsz
  have k0 : w.cell? ⟨r, 0, none⟩ = some (.string T) := hblk.cell 0
  have k1 : w.cell? ⟨r, 1, none⟩ = some (.int .i64 0) := hblk.cell 1
  have f0 := hblk.frozen 0
  have hrl := hblk.lt
  obtain ⟨i0, hi, hz0, hz1, hz2⟩ := info_parts Tryd.infoStr
  have hrs : (T ++ s).data.toList = L := by rw [← hL, ← hT]; simp
  have hb1 : Blk (w.setCell ⟨r, 0, none⟩ (.string (T ++ s))) r #[.string (T ++ s), .int .i64 0] 74 := hblk.set 0 (.string (T ++ s))
  have HL := Lib.hid (And.intro hL hrs); clear hL hT hrs
  go_enter Tryd.func39, Tryd.ntmps39
  go_wp2_with fail
  go_loopw [6] (fun v wx => ∃ (k : Nat) (ms : List (List UInt8)) (U : ByteArray), Rl r L k ms U v w wx) (fun _ wx => cellSz r wx)
  case atStart => exact ⟨0, [], T ++ s, At.start L, by rw [HL.out.2]; rfl, hb1, World.ownsRow_nil _ _ _ _, (But.of (Below.refl _ _)).set 0 _⟩
  case round =>
    obtain ⟨k, ms, U, hrl2⟩ := hrel
    have HR := Lib.hid hrl2; clear hrl2
    have c0 : wr.cell? ⟨r, 0, none⟩ = some (.string U) := HR.out.blk.cell 0
    have c1 : wr.cell? ⟨r, 1, none⟩ = some (.int .i64 0) := HR.out.blk.cell 1
    have g0 := HR.out.blk.frozen 0
    have g1 := HR.out.blk.frozen 1
    obtain ⟨av, cv, hv⟩ := owns_slice HR.out.own
    subst hv
    by_cases h4 : U.size < 4
    · have hsh : takeOf (L.drop k) = .short := by
        unfold takeOf; rw [if_pos (by rw [← HR.out.us]; exact h4)]
      have hfe := HR.out.at_.short hsh
      have h4i : ¬ (4 : Int) ≤ (U.size : Int) := by omega
      have hfr : feedR ⟨S, 0⟩ s.data.toList = (ms, ⟨L.drop k, 0⟩) := feedR_none (by rw [HL.out.1]; exact hfe)
      have HF := Lib.hid hfr; clear hfr hfe hsh
      go_wp2_with fail
      go_ret2
      refine ⟨av, cv, by rw [HF.out]; rfl, ?_, by rw [HF.out]; exact HR.out.own, HR.out.but⟩
      rw [HF.out]; exact ⟨U, HR.out.us, HR.out.blk⟩
    · have h4' : 4 ≤ U.size := by omega
      have hn0 : 0 < U.size := by omega
      have hn1 : 1 < U.size := by omega
      have hn2 : 2 < U.size := by omega
      have hn3 : 3 < U.size := by omega
      have hi0 : (0 : Int) < (U.size : Int) := by omega
      have hi1 : (1 : Int) < (U.size : Int) := by omega
      have hi2 : (2 : Int) < (U.size : Int) := by omega
      have hi3 : (3 : Int) < (U.size : Int) := by omega
      have hi4 : (4 : Int) ≤ (U.size : Int) := by omega
      go_wp2_with fail
      go_quiet (fail)
      rw [num_orw, ← num4_bytes h4', HR.out.us]
      have hUl : U.size = (L.drop k).length := by rw [← HR.out.us]; rfl
      have h4l : ¬ (L.drop k).length < 4 := by omega
      obtain ⟨N, hN⟩ : ∃ N, num4 (L.drop k) = N := ⟨_, rfl⟩
      have hN32 : N < 4294967296 := by rw [← hN]; exact num4_lt _
      rw [hN]
      by_cases hz : N = 0
      · subst hz
        have hbad : takeOf (L.drop k) = .bad 0 := by unfold takeOf; rw [if_neg h4l, hN, if_neg (by decide)]
        have hfr : feedR ⟨S, 0⟩ s.data.toList = (ms, ⟨[], errN 0⟩) := feedR_some (by rw [HL.out.1]; exact HR.out.at_.bad hbad)
        have HF := Lib.hid hfr; clear hfr hbad hN hUl h4l
        go_wp2_with fail
        go_quiet (fail)
        go_wp2
        go_ret2
        obtain ⟨e1, e2, e3⟩ := (HR.out.drew _).ends 2 _
        exact ⟨av, cv, by rw [HF.out]; rfl, by rw [HF.out]; exact e1, by rw [HF.out]; exact e2, e3⟩
      · by_cases hbig : 65536 < N
        · have hbad : takeOf (L.drop k) = .bad N := by
            have he : errN N ≠ 0 := by unfold errN; rw [if_neg hz, if_pos hbig]; decide
            unfold takeOf; rw [if_neg h4l, hN, if_neg he]
          have he3 : errN N = 3 := by unfold errN; rw [if_neg hz, if_pos hbig]
          have hfr : feedR ⟨S, 0⟩ s.data.toList = (ms, ⟨[], 3⟩) := by rw [← he3]; exact feedR_some (by rw [HL.out.1]; exact HR.out.at_.bad hbad)
          have HF := Lib.hid hfr; clear hfr hbad hN hUl h4l he3
          have hb' : (65536 : Int) < (N : Int) := by omega
          have hz' : ((N : Int) == 0) = false := by simp; omega
          go_wp2_with fail
          go_quiet (fail)
          go_wp2
          go_ret2
          obtain ⟨e1, e2, e3⟩ := (HR.out.drew _).ends 3 _
          exact ⟨av, cv, by rw [HF.out]; rfl, by rw [HF.out]; exact e1, by rw [HF.out]; exact e2, e3⟩
        · have hb' : ¬ (65536 : Int) < (N : Int) := by omega
          have hz' : ((N : Int) == 0) = false := by simp; omega
          have hok : errN N = 0 := errN_zero.2 (by omega)
          by_cases hlen : U.size < 4 + N
          · have hsh : takeOf (L.drop k) = .short := by unfold takeOf; rw [if_neg h4l, hN, if_pos hok, if_pos (by omega)]
            have hfr : feedR ⟨S, 0⟩ s.data.toList = (ms, ⟨L.drop k, 0⟩) := feedR_none (by rw [HL.out.1]; exact HR.out.at_.short hsh)
            have HF := Lib.hid hfr; clear hfr hsh hN hUl h4l hok
            have hlen' : (U.size : Int) < 4 + (N : Int) := by omega
            go_wp2_with fail
            go_ret2
            have hd := HR.out.drew
            refine ⟨av, cv, by rw [HF.out]; rfl, by rw [HF.out]; exact ⟨U, HR.out.us, (hd _).blk⟩, by rw [HF.out]; exact (hd _).own, (hd _).but⟩
          · have hmsg : takeOf (L.drop k) = .msg (((L.drop k).drop 4).take N) := by unfold takeOf; rw [if_neg h4l, hN, if_pos hok, if_neg (by omega)]
            have HF := Lib.hid hmsg; clear hmsg hN hUl h4l hok
            have hlen' : ¬ (U.size : Int) < 4 + (N : Int) := by omega
            have hlen2 : 4 + (N : Int) ≤ (U.size : Int) := by omega
            obtain ⟨M, hM⟩ : ∃ M, ((L.drop k).drop 4).take N = M := ⟨_, rfl⟩
            have hMl : M.length = N := by rw [← hM, List.length_take, List.length_drop, ← HR.out.us]; show min N (U.size - 4) = N; omega
            have hXe : U.extract 4 (4 + N) = ⟨M.toArray⟩ := by
              apply ByteArray.ext; apply Array.toList_inj.1
              rw [← hM, ← HR.out.us]; simp
            have hUs : U.size ≤ L.length := by have := congrArg List.length HR.out.us; rw [List.length_drop] at this; show U.data.toList.length ≤ _; omega
            have hml := HR.out.at_.len1 HF.out
            have hfl := feedL_len L
            have HM := Lib.hid (And.intro hM (And.intro hXe hMl)); clear hM hXe hMl
            have hdr := HR.out.drew
            have hcellD := fun n O => (((hdr n).blk.below (((Below.refl _ (wr.drewN n)).alloc (Nat.le_refl _) O)) (hdr n).blk.lt))
            have hwsz : w.heap.size ≤ wr.heap.size := HR.out.but.size
            go_wp2_with (at_builtin; go_must (refine wpList_append_own _ rfl _ _ 33 rfl w.heap.size 9 i0 (.string ⟨#[]⟩) 1 16 Tryd.underlying33 hi hz0 hz1 hz2 rfl (by decide) _ _ _ rfl ((hdr _).own.alloc _) ⟨wr.heap.size, 0, none⟩ 1 1 [.string (U.extract 4 (4 + N))] rfl rfl (cell_one_new _ _ _) (by simp [Value.oneCell']) (by unfold maxLen; omega) (by omega) (by simp; omega) ?_; intro v' w5 hown5 hgrow5 _; have hblk5 := (hcellD _ _).kept hgrow5 (fun e => HR.out.ne e.symm); have c50 : w5.cell? ⟨r, 0, none⟩ = some (.string U) := hblk5.cell 0; have f50 := hblk5.frozen 0))
            have hblk5 := (hcellD _ _).kept hgrow5 (fun e => HR.out.ne e.symm)
            have hun : ((U.extract (4 + N) U.size).data.toList) = (L.drop k).drop (4 + M.length) := by rw [ext_drop, HR.out.us, HM.out.2.2]
            have hcs := cellSz_of (r := r) (w := wr) c0
            go_roundw
            case rel =>
              have hb6 : Blk (w5.setCell ⟨r, 0, none⟩ (.string (U.extract (4 + N) U.size))) r #[.string (U.extract (4 + N) U.size), .int .i64 0] 74 := hblk5.set 0 (.string (U.extract (4 + N) U.size))
              have hmore := HR.out.at_.more HF.out
              rw [HM.out.1] at hmore
              have hn5 : v'.ownBlock ≠ some r := row_block hown5 hblk5 (by decide)
              refine ⟨k + (4 + M.length), ms ++ [M], U.extract (4 + N) U.size, hmore, by rw [hun, List.drop_drop], hb6, ?_, ?_⟩
              · have := own_other hown5 (grown_set w5 r 0 (.string (U.extract (4 + N) U.size))) (fun g hg e => hn5 (hg.trans e.symm))
                rw [HM.out.2.1] at this
                exact str_more this rfl
              · have hbA : Below w.heap.size wr w5 := ((below_drewN' (B := w.heap.size) _).alloc (by simp; omega) _).grown hgrow5 (by simp; omega) (fun k e => (HR.out.own.lt k e).1)
                exact (HR.out.but.past hbA (Nat.le_refl _)).set 0 _
            case measure =>
              have hb6 : Blk (w5.setCell ⟨r, 0, none⟩ (.string (U.extract (4 + N) U.size))) r #[.string (U.extract (4 + N) U.size), .int .i64 0] 74 := hblk5.set 0 (.string (U.extract (4 + N) U.size))
              rw [hcs, cellSz_of (hb6.cell 0)]
              have hl : (U.extract (4 + N) U.size).size = U.size - (4 + N) := by
                show (U.extract (4 + N) U.size).data.toList.length = _
                rw [ext_drop, List.length_drop]; rfl
              rw [hl]; omega
end Go.Proofs.YtkfbhiggnnjoiaaDoor
