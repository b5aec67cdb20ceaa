/- fieldsOf: the iterator's walk. -/
import Derived.Test.YtbflbgnafdbngaaDoorIter
namespace Go.Proofs.YtbflbgnafdbngaaDoor
open Go.RowKit Go.Shelf
attribute [local go_sem] Oper.semAt_some

theorem readField_at (s : ByteArray) (k : Nat) (b : Addr) (w : World) (r : Option (Fd × Nat)) (hs : s.size ≤ 140737488355328) (hg : Gv b w) (hr : fieldOf (s.data.toList.drop k) = r) :
    Calls Tryd.prog 72 #[.string (s.extract k s.size)] w fun e w' => RfPost b r w e w' := by
  subst hr
  have h := readField_any (s.extract k s.size) b w (by simp; omega) hg
  rwa [extract_tail] at h

theorem readField_got (s : ByteArray) (k : Nat) (b : Addr) (w : World) (f : Fd) (m : Nat) (hs : s.size ≤ 140737488355328) (hg : Gv b w) (hr : fieldOf (s.data.toList.drop k) = some (f, m)) :
    Calls Tryd.prog 72 #[.string (s.extract k s.size)] w fun e w' => e = .returned (.tuple #[.agg #[.int .i64 f.num, .int .i64 f.kind, .int .u64 f.n, .string ⟨f.s.toArray⟩], .int .i64 m, .nilIface]) ∧ Below w.heap.size w w' :=
  readField_at s k b w _ hs hg hr

theorem FltV.iface {b : Addr} {v : Value} (h : FltV b v) : ∃ u, v = .iface 145 u := by
  rcases h with ⟨j, rfl⟩ | ⟨i, j, rfl⟩ <;> exact ⟨_, rfl⟩
theorem FltV.ev {b : Addr} {v : Value} (h : FltV b v) (k : Int) : ∃ q, evArgs b (.inr q) = #[.agg #[.int .i64 0, .int .i64 0, .int .u64 0, .string ⟨#[]⟩], .iface 145 (.agg #[.int .i64 k, v])] := by
  rcases h with ⟨j, rfl⟩ | ⟨i, j, rfl⟩
  · exact ⟨(k, j, none), rfl⟩
  · exact ⟨(k, i, some j), rfl⟩

set_option maxRecDepth 100000 in
set_option maxHeartbeats 2000000 in
theorem fields1_in (n : Nat) (hn : 1 ≤ n) (l Bn : Nat) (b : Addr) (s : ByteArray) (hs : s.size ≤ 140737488355328) (J Jx : List Ev → World → Prop) (W : World) (hJ : AbidesFrom W.heap.size J)
    (hY : ∀ pre x W1, J pre W1 → pre.length < s.size + 1 → YieldAt Fence.wide (n - 1) Tryd.prog l (evArgs b x) W1 fun e W' =>
      (e = .returned (.bool true) ∧ J (pre ++ [x]) W' ∧ KpB Bn W1 W') ∨ (e = .returned (.bool false) ∧ Jx (pre ++ [x]) W'))
    (hBn : W.cell? ⟨Bn, 0, none⟩ = some (.string s)) (hBl : Bn < W.heap.size) (hg : Gv b W) (h0 : J [] W) :
    CallsIn Fence.wide n Tryd.prog 71 #[.func (.yield l) #[] #[], .pointer (some ⟨Bn, 0, none⟩)] W fun e W' => (∃ v, e = .returned v) ∧
      ((∃ xs, SAll s.data.toList xs ∧ J xs W') ∨ (∃ pre, SPart s.data.toList pre ∧ Jx pre W')) := by
  have hif := Tryd.ifaceErr
  refine callsIn_of_wp Tryd.func71 rfl trivial ?_ rfl
  simp only [Tryd.ntmps71, List.size_toArray, List.length_cons, List.length_nil, Nat.reduceAdd, Nat.reduceSub, Array.replicate_succ, Array.replicate_zero, List.push_toArray, List.append_toArray, List.nil_append, List.cons_append]
  gi_wp2
  gi_loopw [3] (fun a wr => ∃ (k : Nat) (fs : List Fd), a = .int .i64 k ∧ k ≤ s.size ∧ PRel s.data.toList k fs ∧ J (fs.map Sum.inl) wr ∧ wr.cell? ⟨Bn, 0, none⟩ = some (.string s) ∧ Gv b wr ∧ Bn < wr.heap.size) (fun a _ => s.size - (intOf a).toNat)
  case atStart =>
    exact ⟨0, [], rfl, by omega, PRel.start _, h0, hBn, hg, hBl⟩
  case round =>
    clear h0 hBn hg hBl
    obtain ⟨k, fs, rfl, hk, hp, hJs, hc, hgr, hlt⟩ := hrel
    have HP := Lib.hid hp; clear hp
    by_cases hks : k < s.size
    · cases hf : fieldOf (s.data.toList.drop k) with
      | none =>
        have HF := Lib.hid hf; clear hf
        gi_wp2_with (refine ⟨trivial, ?_⟩; gi_at_call 72)
        refine (callsIn_wide.2 (readField_at s k b _ none hs hgr HF.out)).mono ?_
        rintro e w1 ⟨⟨v, hv, rfl⟩, hb⟩
        obtain ⟨q, hq⟩ := hv.ev k
        obtain ⟨u, rfl⟩ := hv.iface
        have hJ1 : J (fs.map Sum.inl) (w1.alloc (.cells #[.int .i64 0, .int .i64 0, .int .u64 0, .string ⟨#[]⟩] 59)) := hJ _ _ _ none hJs (grown_of_below (hb.trans ((Below.refl _ _).alloc hb.size _))) (by simp)
        obtain ⟨fn, tmps, assign, body, hy, hR⟩ := hY _ (.inr q) _ hJ1 (by have := HP.out.2; simp; omega)
        rw [hq] at hy
        clear hq hJ1 hv
        gi_wp2
        refine hR.mono ?_
        have hbad := Lib.hid (HP.out.bad (by simpa using hks) HF.out)
        rintro e W3 (⟨rfl, hJ3, hk3⟩ | ⟨rfl, hJx3⟩)
        · gi_wp2
          refine bodyPost_ret (results_none rfl _ _ _) rfl ?_
          exact ⟨⟨_, rfl⟩, .inl ⟨_, .inr ⟨hbad.out, _, _, rfl⟩, hJ3⟩⟩
        · gi_wp2
          refine bodyPost_ret (results_none rfl _ _ _) rfl ?_
          exact ⟨⟨_, rfl⟩, .inr ⟨_, fun _ => hbad.out, hJx3⟩⟩
      | some p =>
        obtain ⟨f, m⟩ := p
        have hm := fieldOf_size hf
        have hml : k + m ≤ s.size := by have h := hm.2; simp only [List.length_drop, Array.length_toList] at h; have h2 : s.data.size = s.size := rfl; omega
        have hm0 := hm.1
        clear hm
        have HF := Lib.hid hf; clear hf
        gi_wp2_with (refine ⟨trivial, ?_⟩; gi_at_call 72)
        refine (callsIn_wide.2 (readField_got s k b _ f m hs hgr HF.out)).mono ?_
        rintro e w1 ⟨rfl, hb⟩
        have hJ1 : J (fs.map Sum.inl) (w1.alloc (.cells #[.int .i64 f.num, .int .i64 f.kind, .int .u64 f.n, .string ⟨f.s.toArray⟩] 59)) := hJ _ _ _ none hJs (grown_of_below (hb.trans ((Below.refl _ _).alloc hb.size _))) (by simp)
        obtain ⟨fn, tmps, assign, body, hy, hR⟩ := hY _ (.inl f) _ hJ1 (by have := HP.out.2; simp; omega)
        simp only [evArgs, Fd.v] at hy
        clear hJ1
        gi_wp2
        refine hR.mono ?_
        have hstep := Lib.hid (HP.out.step HF.out)
        have hkp := (KpB.of_below hlt (hb.trans ((Below.refl _ _).alloc hb.size (.cells #[.int .i64 f.num, .int .i64 f.kind, .int .u64 f.n, .string ⟨f.s.toArray⟩] 59))))
        rintro e W3 (⟨rfl, hJ3, hk3⟩ | ⟨rfl, hJx3⟩)
        · have hk4 := hkp.trans hk3
          gi_wp2
          go_roundw
          case rel => exact ⟨k + m, fs ++ [f], by go_num, by omega, hstep.out, by simpa using hJ3, (hk4.cell 0).trans hc, hk4.gv hgr, Nat.lt_of_lt_of_le hlt hk4.1⟩
          case measure => simp [intOf]; omega
        · gi_wp2
          refine bodyPost_ret (results_none rfl _ _ _) rfl ?_
          exact ⟨⟨_, rfl⟩, .inr ⟨_, fun ⟨ys, e, h⟩ => by have := congrArg List.getLast? h; simp at this, hJx3⟩⟩
    · gi_wp2
      go_end0
      exact ⟨⟨_, rfl⟩, .inl ⟨fs.map Sum.inl, .inl ⟨fs, HP.out.done (by simpa using hks), rfl⟩, hJs⟩⟩
end Go.Proofs.YtbflbgnafdbngaaDoor
