/- message: Kind, takeMessage. -/
import Derived.Test.YtbflbgnafdbngaaDoorMsTakeAll
namespace Go.Proofs.YtbflbgnafdbngaaDoor
open Go.RowKit Go.Lib

/-- Of which Kind the bytes are; 0, if of none. -/
def kindL (l : List UInt8) : Nat :=
  match l with
  | [] => 0
  | c :: _ => if c.toNat < 1 ∨ 4 < c.toNat then 0 else c.toNat
set_option maxRecDepth 100000 in
theorem kind_any (s : ByteArray) (w : World) : Calls Tryd.prog 13 #[.string s] w fun e w' => e = .returned (.int .i64 (kindL s.data.toList : Int)) ∧ Below w.heap.size w w' := by
  by_cases h0 : s.size = 0
  · obtain rfl := ba_nil h0
    clear h0
    go_enter Tryd.func13, Tryd.ntmps13
    go_wp2_with fail
    go_ret
    exact ⟨rfl, Below.refl _ _⟩
  · have hne := ba_ne h0
    have hnb : (s.toList == []) = false := by simpa using hne
    have hp : 0 < s.size := Nat.pos_of_ne_zero h0
    have hk : kindL s.data.toList = if (s[0]'hp).toNat < 1 ∨ 4 < (s[0]'hp).toNat then 0 else (s[0]'hp).toNat := by
      obtain ⟨⟨l⟩⟩ := s
      cases l with
      | nil => exact absurd rfl h0
      | cons c r => rfl
    obtain ⟨c, hc⟩ : ∃ c : Nat, (s[0]'hp).toNat = c := ⟨_, rfl⟩
    rw [hc] at hk
    have hc1 : (c : Int) < 256 := by have := UInt8.toNat_lt (s[0]'hp); omega
    by_cases h1 : c < 1
    · rw [hk, if_pos (.inl h1)]
      have q1 : (c : Int) < 1 := by omega
      have q2 : decide ((c : Int) < 1) = true := decide_eq_true q1
      clear hk
      go_enter Tryd.func13, Tryd.ntmps13
      go_wp2_with fail
      all_goals
        go_ret
        exact ⟨rfl, Below.refl _ _⟩
    · by_cases h4 : 4 < c
      · rw [hk, if_pos (.inr h4)]
        have q1 : decide ((c : Int) < 1) = false := decide_eq_false (by omega)
        have q2 : decide ((4 : Int) < (c : Int)) = true := decide_eq_true (by omega)
        clear hk
        go_enter Tryd.func13, Tryd.ntmps13
        go_wp2_with fail
        all_goals
          go_ret
          exact ⟨rfl, Below.refl _ _⟩
      · rw [hk, if_neg (by omega)]
        have q1 : decide ((c : Int) < 1) = false := decide_eq_false (by omega)
        have q2 : decide ((4 : Int) < (c : Int)) = false := decide_eq_false (by omega)
        have q3 : IntKind.i64.wrap (c : Int) = (c : Int) := by rw [IntKind.wrap_i64]; omega
        clear hk
        go_enter Tryd.func13, Tryd.ntmps13
        go_wp2_with fail
        all_goals
          go_ret
          exact ⟨rfl, Below.refl _ _⟩
/-- What comes of a message's bytes. -/
def msgP {σ : Type} (step : σ → Fd → Except (List Int) σ) (st : σ) (kind : Nat) (l : List UInt8) : σ × Option (List Int) :=
  if kindL l = kind then takeP step st (l.drop 1) else (st, some [])
theorem drop1 (s : ByteArray) : (s.extract 1 s.size).data.toList = s.data.toList.drop 1 := by
  simp only [ByteArray.data_extract, Array.toList_extract, List.extract_eq_take_drop]
  exact List.take_of_length_le (by rw [List.length_drop]; exact Nat.le_refl _)
set_option maxRecDepth 100000 in
set_option maxHeartbeats 2000000 in
theorem takeMsg_any {σ : Type} (I : σ → World → Prop) (step : σ → Fd → Except (List Int) σ) (C : Int → Option Value) (M base B0 : Nat) (g b : Addr)
    (hI : ∀ st w w', I st w → Below w.heap.size w w' → I st w') (hIM : ∀ st w, I st w → Tks w M C ∧ Gv g w ∧ Gn b w)
    (hT : ∀ st w f, I st w → (C f.num = none → step st f = .ok st) ∧ ∀ v, C f.num = some v → ∃ b2 b3, v = clo b2 b3 ∧ Calls Tryd.prog 68 #[fV f, .pointer (some ⟨b2, 0, none⟩), .pointer (some ⟨b3, 0, none⟩)] w (TkPost I (step st f) st base B0 b w))
    (hno : ∀ (k : Int), (C k).isSome = true → iOk k) (st0 : σ) (kind : Nat) (hkd : 1 ≤ kind ∧ kind ≤ 4) (s : ByteArray) (w : World) (h0 : I st0 w) (hs : s.size ≤ 1099511627776) (hB : B0 ≤ w.heap.size) (hb0 : base ≤ B0) (hnum : ∀ l fs, parse l = some fs → ∀ f ∈ fs, iOk (f.num : Int)) :
    Calls Tryd.prog 36 #[.int .i64 (kind : Int), .string s, .map (some M)] w fun e w' => ∃ st' o, msgP step st0 kind s.data.toList = (st', o) ∧ e = .returned (oV b o) ∧ I st' w' ∧ Below base w w' := by
  obtain ⟨r, hr⟩ : ∃ r, msgP step st0 kind s.data.toList = r := ⟨_, rfl⟩
  rw [hr]
  have HK := Lib.hid (kind_any s w)
  by_cases hk : kindL s.data.toList = kind
  · have hsz : 0 < s.size := by
      rcases Nat.eq_zero_or_pos s.size with h | h
      · obtain rfl := ba_nil h
        have : kindL (⟨#[]⟩ : ByteArray).data.toList = 0 := rfl
        omega
      · exact h
    rw [hk] at HK
    have HTA := Lib.hid (fun w1 (hb : Below w.heap.size w w1) => takeAll_any I step C M base B0 g b hI hIM hT hno st0 (s.extract 1 s.size) w1 (hI _ _ _ h0 hb) (by rw [ByteArray.size_extract]; omega) (Nat.le_trans hB hb.size) hb0 (fun fs h f hf => hnum _ fs h f hf))
    have HR := Lib.hid (show takeP step st0 (s.extract 1 s.size).data.toList = r by rw [← hr, drop1]; unfold msgP; rw [if_pos hk])
    have HH := Lib.hid (Nat.le_trans hb0 hB)
    have hkk : kind = kind := rfl
    have hs1 : (1 : Int) ≤ (s.size : Int) := by omega
    clear hI hIM hT hno h0 hs hB hb0 hr hk hnum hkk
    go_enter Tryd.func36, Tryd.ntmps36
    go_wp2_with fail
    refine HK.out.mono ?_
    rintro e w1 ⟨rfl, hb⟩
    have HC := Lib.hid (HTA.out w1 hb)
    have HB := Lib.hid (hb.mono HH.out)
    clear hb
    go_wp2_with fail
    refine HC.out.mono ?_
    rintro e w2 ⟨st', o, hro, rfl, hi, hb⟩
    have HZ := Lib.hid (And.intro (HR.out.symm.trans hro) (And.intro hi (HB.out.trans hb)))
    clear hro hi hb
    go_wp2_with fail
    go_ret
    exact ⟨st', o, HZ.out.1, rfl, HZ.out.2.1, HZ.out.2.2⟩
  · have HR := Lib.hid (show r = (st0, some []) by rw [← hr]; unfold msgP; rw [if_neg hk])
    obtain ⟨K, hK⟩ : ∃ K, kindL s.data.toList = K := ⟨_, rfl⟩
    rw [hK] at HK hk
    have hq : ((K : Int) == (kind : Int)) = false := by simpa using fun h => hk (by omega)
    have hq2 : (K == kind) = false := by simpa using hk
    have HN := Lib.hid (fun w1 (hb : Below w.heap.size w w1) => And.intro (hI _ _ _ h0 hb) ((hIM _ _ (hI _ _ _ h0 hb)).2.2.1))
    have HH := Lib.hid (Nat.le_trans hb0 hB)
    clear hI hIM hT hno h0 hs hB hb0 hr hK hnum
    go_enter Tryd.func36, Tryd.ntmps36
    go_wp2_with fail
    refine HK.out.mono ?_
    rintro e w1 ⟨rfl, hb⟩
    have c0 := (HN.out w1 hb).2
    have HZ := Lib.hid (And.intro (HN.out w1 hb).1 (hb.mono HH.out))
    clear hb
    go_wp2_with fail
    go_ret
    exact ⟨st0, some [], HR.out, rfl, HZ.out.1, HZ.out.2⟩
end Go.Proofs.YtbflbgnafdbngaaDoor
