/- readField: the walks of numbers and bytes. -/
import Derived.Test.YtbflbgnafdbngaaDoorRf
namespace Go.Proofs.YtbflbgnafdbngaaDoor
open Go.RowKit

set_option maxRecDepth 100000 in
set_option maxHeartbeats 1000000 in
theorem readField_num0 (s : ByteArray) (b : Addr) (w : World) (hs : s.size ≤ 140737488355328) (hg : Gv b w) (t k : Nat) (ht : tagOf s.data.toList = some (t, k)) (hk8 : t % 8 = 0) (hr : rd (s.data.toList.drop k) = none) :
    Calls Tryd.prog 72 #[.string s] w fun e w' => RfPost b (fieldOf s.data.toList) w e w' := by
  have HF := Lib.hid (show fieldOf s.data.toList = none by simp [fieldOf, ht, hk8, hr])
  have HR := Lib.hid hr; clear hr
  have hk := tagOf_size ht
  have hkl : k ≤ s.size := by simpa using hk.2.1
  have hkt := hk.2.2.2
  clear hk
  obtain ⟨num, hnum⟩ : ∃ num : Int, ((t / 8 : Nat) : Int) = num := ⟨_, rfl⟩
  have HN := Lib.hid hnum; clear hnum
  have HK := Lib.hid (show ((t % 8 : Nat) : Int) = 0 by omega); clear hk8
  have HT := Lib.hid ht; clear ht
  have hif := Tryd.ifaceErr
  go_enter Tryd.func72, Tryd.ntmps72
  go_wp2_with (first | (go_at_call 73; refine (readTag_some s b _ (by unfold maxLen; omega) (hg.alloc _) t k num 0 HT.out HN.out HK.out).mono ?_; rintro e w1 ⟨rfl, hb⟩; have hB : Below w.heap.size w w1 := ((Below.refl _ _).alloc (Nat.le_refl _) _).trans (hb.mono (by simp)); have hg1 := hg.below hB; obtain ⟨q0, q1, q2, q3, r0, r1, r2, r3, hz⟩ := (Four.new w (.int .i64 0) (.int .i64 0) (.int .u64 0) (.string ⟨#[]⟩) 59).below hb; clear hb; have hgc := hg1.1; have hgz := hg1.2; have hne1 : ¬ w.heap.size = 1 := (by have := hg.2; omega); have hne2 : ¬ 1 = w.heap.size := (by have := hg.2; omega)) | (go_at_call 59; refine (fsz_eq 0 0 _ rfl).mono ?_; rintro e w' ⟨rfl, rfl⟩) | (go_at_call 74; refine (readNumber_at s k b _ none hs (hg1.alloc _) HR.out).mono ?_; rintro e w' ⟨⟨j, rfl⟩, n, rfl⟩))
  refine bodyPost_ret (v := .tuple #[fdV 0 0 0 ⟨#[]⟩, .int .i64 0, .iface 145 (.agg #[.int .i64 k, .iface 145 (.agg #[.int .i64 j, Tryd.S b])])]) (by simp [results, Tryd.results72, go_sem, q0, q1, q2, q3, hz]) rfl ?_
  refine RfPost.no HF.out (.inr ⟨k, j, rfl⟩) rfl ?_
  repeat' (first | exact hB | refine Below.alloc ?_ (by first | omega | (simp <;> omega)) _ | refine Below.setCell ?_ (by first | omega | (simp <;> omega)) _ | refine Below.drew ?_ | refine below_drewN ?_ _)

set_option maxRecDepth 100000 in
set_option maxHeartbeats 1000000 in
theorem readField_num2 (s : ByteArray) (b : Addr) (w : World) (hs : s.size ≤ 140737488355328) (hg : Gv b w) (t k : Nat) (ht : tagOf s.data.toList = some (t, k)) (hk8 : t % 8 = 2) (hr : rd (s.data.toList.drop k) = none) :
    Calls Tryd.prog 72 #[.string s] w fun e w' => RfPost b (fieldOf s.data.toList) w e w' := by
  have HF := Lib.hid (show fieldOf s.data.toList = none by simp [fieldOf, ht, hk8, hr])
  have HR := Lib.hid hr; clear hr
  have hk := tagOf_size ht
  have hkl : k ≤ s.size := by simpa using hk.2.1
  have hkt := hk.2.2.2
  clear hk
  obtain ⟨num, hnum⟩ : ∃ num : Int, ((t / 8 : Nat) : Int) = num := ⟨_, rfl⟩
  have HN := Lib.hid hnum; clear hnum
  have HK := Lib.hid (show ((t % 8 : Nat) : Int) = 2 by omega); clear hk8
  have HT := Lib.hid ht; clear ht
  have hif := Tryd.ifaceErr
  go_enter Tryd.func72, Tryd.ntmps72
  go_wp2_with (first | (go_at_call 73; refine (readTag_some s b _ (by unfold maxLen; omega) (hg.alloc _) t k num 2 HT.out HN.out HK.out).mono ?_; rintro e w1 ⟨rfl, hb⟩; have hB : Below w.heap.size w w1 := ((Below.refl _ _).alloc (Nat.le_refl _) _).trans (hb.mono (by simp)); have hg1 := hg.below hB; obtain ⟨q0, q1, q2, q3, r0, r1, r2, r3, hz⟩ := (Four.new w (.int .i64 0) (.int .i64 0) (.int .u64 0) (.string ⟨#[]⟩) 59).below hb; clear hb; have hgc := hg1.1; have hgz := hg1.2; have hne1 : ¬ w.heap.size = 1 := (by have := hg.2; omega); have hne2 : ¬ 1 = w.heap.size := (by have := hg.2; omega)) | (go_at_call 59; refine (fsz_eq 2 0 _ rfl).mono ?_; rintro e w' ⟨rfl, rfl⟩) | (go_at_call 74; refine (readNumber_at s k b _ none hs (hg1.alloc _) HR.out).mono ?_; rintro e w' ⟨⟨j, rfl⟩, n, rfl⟩))
  refine bodyPost_ret (v := .tuple #[fdV 0 0 0 ⟨#[]⟩, .int .i64 0, .iface 145 (.agg #[.int .i64 k, .iface 145 (.agg #[.int .i64 j, Tryd.S b])])]) (by simp [results, Tryd.results72, go_sem, q0, q1, q2, q3, hz]) rfl ?_
  refine RfPost.no HF.out (.inr ⟨k, j, rfl⟩) rfl ?_
  repeat' (first | exact hB | refine Below.alloc ?_ (by first | omega | (simp <;> omega)) _ | refine Below.setCell ?_ (by first | omega | (simp <;> omega)) _ | refine Below.drew ?_ | refine below_drewN ?_ _)

set_option maxRecDepth 100000 in
set_option maxHeartbeats 1000000 in
theorem readField_yes0 (s : ByteArray) (b : Addr) (w : World) (hs : s.size ≤ 140737488355328) (hg : Gv b w) (t k : Nat) (ht : tagOf s.data.toList = some (t, k)) (hk8 : t % 8 = 0) (v m : Nat) (hr : rd (s.data.toList.drop k) = some (v, m)) :
    Calls Tryd.prog 72 #[.string s] w fun e w' => RfPost b (fieldOf s.data.toList) w e w' := by
  have HF := Lib.hid (show fieldOf s.data.toList = some (⟨t / 8, 0, v, []⟩, k + m) by simp [fieldOf, ht, hk8, hr])
  have hk := tagOf_size ht
  have hkl : k ≤ s.size := by simpa using hk.2.1
  have hkt := hk.2.2.2
  clear hk
  obtain ⟨num, hnum⟩ : ∃ num : Int, ((t / 8 : Nat) : Int) = num := ⟨_, rfl⟩
  have HN := Lib.hid hnum; clear hnum
  have HK := Lib.hid (show ((t % 8 : Nat) : Int) = 0 by omega); clear hk8
  have HT := Lib.hid ht; clear ht
  have hif := Tryd.ifaceErr
  have hm := rd_size hr
  simp only [List.length_drop, Array.length_toList] at hm
  have hml : k + m ≤ s.size := by have := hm.2.1; have h : s.data.size = s.size := rfl; omega
  clear hm
  have HR := Lib.hid hr; clear hr
  go_enter Tryd.func72, Tryd.ntmps72
  go_wp2_with (first | (go_at_call 73; refine (readTag_some s b _ (by unfold maxLen; omega) (hg.alloc _) t k num 0 HT.out HN.out HK.out).mono ?_; rintro e w1 ⟨rfl, hb⟩; have hB : Below w.heap.size w w1 := ((Below.refl _ _).alloc (Nat.le_refl _) _).trans (hb.mono (by simp)); have hg1 := hg.below hB; obtain ⟨q0, q1, q2, q3, r0, r1, r2, r3, hz⟩ := (Four.new w (.int .i64 0) (.int .i64 0) (.int .u64 0) (.string ⟨#[]⟩) 59).below hb; clear hb; have hgc := hg1.1; have hgz := hg1.2; have hne1 : ¬ w.heap.size = 1 := (by have := hg.2; omega); have hne2 : ¬ 1 = w.heap.size := (by have := hg.2; omega)) | (go_at_call 59; refine (fsz_eq 0 0 _ rfl).mono ?_; rintro e w' ⟨rfl, rfl⟩) | (go_at_call 74; refine (readNumber_at s k b _ (some (v, m)) hs (hg1.alloc _) HR.out).mono ?_; rintro e w' ⟨rfl, rfl⟩) | (go_at_call 75; refine (clone_any _ _ (by simp <;> omega)).mono ?_; rintro e w2 ⟨rfl, hb2⟩; have F1 := ((Four.mk q0 q1 q2 q3 r0 r1 r2 r3 hz).alloc _).below hb2; have F2 := (Four.new w1 (.int .i64 num) (.int .i64 0) (.int .u64 v) (.string ⟨#[]⟩) 59).below hb2; have hB2 : Below w.heap.size w w2 := hB.trans ((((Below.refl _ _).alloc (Nat.le_refl _) _).trans (hb2.mono (by simp))).mono (Nat.le_of_lt hz)); have hne3 : ¬ w1.heap.size = w.heap.size := (by omega); have hne4 : ¬ w.heap.size = w1.heap.size := (by omega); have hz0 := hz; clear hb2 q0 q1 q2 q3 r0 r1 r2 r3 hz hgc; obtain ⟨q0, q1, q2, q3, r0, r1, r2, r3, hz⟩ := F1; obtain ⟨p0, p1, p2, p3, m0, m1, m2, m3, hm⟩ := F2))
  refine bodyPost_ret (v := .tuple #[.agg #[.int .i64 num, .int .i64 0, .int .u64 v, .string (s.extract (k + m) (k + m))], .int .i64 (k + m), .nilIface]) (by simp [results, Tryd.results72, go_sem, q0, q1, q2, q3]) rfl ?_
  refine RfPost.yes HF.out rfl HN.out rfl rfl (by rw [extract_list]; simp) (by simp) ?_
  repeat' (first | exact hB2 | refine Below.drew ?_ | refine Below.alloc ?_ (by simp <;> omega) _ | refine Below.setCell ?_ (by first | omega | (simp <;> omega)) _)

set_option maxRecDepth 100000 in
set_option maxHeartbeats 1000000 in
theorem readField_short2 (s : ByteArray) (b : Addr) (w : World) (hs : s.size ≤ 140737488355328) (hg : Gv b w) (t k : Nat) (ht : tagOf s.data.toList = some (t, k)) (hk8 : t % 8 = 2) (v m : Nat) (hr : rd (s.data.toList.drop k) = some (v, m)) (hlen : s.size < k + m + v) :
    Calls Tryd.prog 72 #[.string s] w fun e w' => RfPost b (fieldOf s.data.toList) w e w' := by
  have HF := Lib.hid (show fieldOf s.data.toList = none by have hq := rd_size hr; have hq2 := tagOf_size ht; simp only [List.length_drop, Array.length_toList] at hq hq2; have hq3 : s.data.size = s.size := rfl; simp [fieldOf, ht, hk8, hr]; omega)
  have hk := tagOf_size ht
  have hkl : k ≤ s.size := by simpa using hk.2.1
  have hkt := hk.2.2.2
  clear hk
  obtain ⟨num, hnum⟩ : ∃ num : Int, ((t / 8 : Nat) : Int) = num := ⟨_, rfl⟩
  have HN := Lib.hid hnum; clear hnum
  have HK := Lib.hid (show ((t % 8 : Nat) : Int) = 2 by omega); clear hk8
  have HT := Lib.hid ht; clear ht
  have hif := Tryd.ifaceErr
  have hm := rd_size hr
  simp only [List.length_drop, Array.length_toList] at hm
  have hml : k + m ≤ s.size := by have := hm.2.1; have h : s.data.size = s.size := rfl; omega
  clear hm
  have HR := Lib.hid hr; clear hr
  go_enter Tryd.func72, Tryd.ntmps72
  go_wp2_with (first | (go_at_call 73; refine (readTag_some s b _ (by unfold maxLen; omega) (hg.alloc _) t k num 2 HT.out HN.out HK.out).mono ?_; rintro e w1 ⟨rfl, hb⟩; have hB : Below w.heap.size w w1 := ((Below.refl _ _).alloc (Nat.le_refl _) _).trans (hb.mono (by simp)); have hg1 := hg.below hB; obtain ⟨q0, q1, q2, q3, r0, r1, r2, r3, hz⟩ := (Four.new w (.int .i64 0) (.int .i64 0) (.int .u64 0) (.string ⟨#[]⟩) 59).below hb; clear hb; have hgc := hg1.1; have hgz := hg1.2; have hne1 : ¬ w.heap.size = 1 := (by have := hg.2; omega); have hne2 : ¬ 1 = w.heap.size := (by have := hg.2; omega)) | (go_at_call 59; refine (fsz_eq 2 0 _ rfl).mono ?_; rintro e w' ⟨rfl, rfl⟩) | (go_at_call 74; refine (readNumber_at s k b _ (some (v, m)) hs (hg1.alloc _) HR.out).mono ?_; rintro e w' ⟨rfl, rfl⟩))
  go_region
  go_wp2
  refine bodyPost_ret (v := .tuple #[fdV 0 0 0 ⟨#[]⟩, .int .i64 0, .iface 145 (.agg #[.int .i64 (k + m), Tryd.S b])]) (by simp [results, Tryd.results72, go_sem, q0, q1, q2, q3, hz]) rfl ?_
  refine RfPost.no HF.out (.inl ⟨k + m, rfl⟩) rfl ?_
  repeat' (first | exact hB | refine Below.alloc ?_ (by first | omega | (simp <;> omega)) _ | refine Below.setCell ?_ (by first | omega | (simp <;> omega)) _ | refine Below.drew ?_ | refine below_drewN ?_ _)

set_option maxRecDepth 100000 in
set_option maxHeartbeats 1000000 in
theorem readField_yes2 (s : ByteArray) (b : Addr) (w : World) (hs : s.size ≤ 140737488355328) (hg : Gv b w) (t k : Nat) (ht : tagOf s.data.toList = some (t, k)) (hk8 : t % 8 = 2) (v m : Nat) (hr : rd (s.data.toList.drop k) = some (v, m)) (hlen : k + m + v ≤ s.size) :
    Calls Tryd.prog 72 #[.string s] w fun e w' => RfPost b (fieldOf s.data.toList) w e w' := by
  have HF := Lib.hid (show fieldOf s.data.toList = some (⟨t / 8, 2, 0, (s.data.toList.drop (k + m)).take v⟩, k + m + v) by simp [fieldOf, ht, hk8, hr]; have := rd_size hr; simp at this; omega)
  have hk := tagOf_size ht
  have hkl : k ≤ s.size := by simpa using hk.2.1
  have hkt := hk.2.2.2
  clear hk
  obtain ⟨num, hnum⟩ : ∃ num : Int, ((t / 8 : Nat) : Int) = num := ⟨_, rfl⟩
  have HN := Lib.hid hnum; clear hnum
  have HK := Lib.hid (show ((t % 8 : Nat) : Int) = 2 by omega); clear hk8
  have HT := Lib.hid ht; clear ht
  have hif := Tryd.ifaceErr
  have hm := rd_size hr
  simp only [List.length_drop, Array.length_toList] at hm
  have hml : k + m ≤ s.size := by have := hm.2.1; have h : s.data.size = s.size := rfl; omega
  clear hm
  have HR := Lib.hid hr; clear hr
  go_enter Tryd.func72, Tryd.ntmps72
  go_wp2_with (first | (go_at_call 73; refine (readTag_some s b _ (by unfold maxLen; omega) (hg.alloc _) t k num 2 HT.out HN.out HK.out).mono ?_; rintro e w1 ⟨rfl, hb⟩; have hB : Below w.heap.size w w1 := ((Below.refl _ _).alloc (Nat.le_refl _) _).trans (hb.mono (by simp)); have hg1 := hg.below hB; obtain ⟨q0, q1, q2, q3, r0, r1, r2, r3, hz⟩ := (Four.new w (.int .i64 0) (.int .i64 0) (.int .u64 0) (.string ⟨#[]⟩) 59).below hb; clear hb; have hgc := hg1.1; have hgz := hg1.2; have hne1 : ¬ w.heap.size = 1 := (by have := hg.2; omega); have hne2 : ¬ 1 = w.heap.size := (by have := hg.2; omega)) | (go_at_call 59; refine (fsz_eq 2 0 _ rfl).mono ?_; rintro e w' ⟨rfl, rfl⟩) | (go_at_call 74; refine (readNumber_at s k b _ (some (v, m)) hs (hg1.alloc _) HR.out).mono ?_; rintro e w' ⟨rfl, rfl⟩) | (go_at_call 75; refine (clone_any _ _ (by simp <;> omega)).mono ?_; rintro e w2 ⟨rfl, hb2⟩; have F1 := ((Four.mk q0 q1 q2 q3 r0 r1 r2 r3 hz).alloc _).below hb2; have F2 := (Four.new w1 (.int .i64 num) (.int .i64 2) (.int .u64 0) (.string ⟨#[]⟩) 59).below hb2; have hB2 : Below w.heap.size w w2 := hB.trans ((((Below.refl _ _).alloc (Nat.le_refl _) _).trans (hb2.mono (by simp))).mono (Nat.le_of_lt hz)); have hne3 : ¬ w1.heap.size = w.heap.size := (by omega); have hne4 : ¬ w.heap.size = w1.heap.size := (by omega); have hz0 := hz; clear hb2 q0 q1 q2 q3 r0 r1 r2 r3 hz hgc; obtain ⟨q0, q1, q2, q3, r0, r1, r2, r3, hz⟩ := F1; obtain ⟨p0, p1, p2, p3, m0, m1, m2, m3, hm⟩ := F2))
  refine bodyPost_ret (v := .tuple #[.agg #[.int .i64 num, .int .i64 2, .int .u64 0, .string (s.extract (k + m) (k + m + v))], .int .i64 (k + m + v), .nilIface]) (by simp [results, Tryd.results72, go_sem, q0, q1, q2, q3]) rfl ?_
  refine RfPost.yes HF.out rfl HN.out rfl rfl (by rw [extract_list]; simp) (by simp) ?_
  repeat' (first | exact hB2 | refine Below.drew ?_ | refine Below.alloc ?_ (by simp <;> omega) _ | refine Below.setCell ?_ (by first | omega | (simp <;> omega)) _)
end Go.Proofs.YtbflbgnafdbngaaDoor
