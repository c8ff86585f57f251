/- ledgers: the mathematics of their faults, the place of a message. -/
import Derived.Test.YtecgjdgfjgcmdaaGreatRtLG1
import Derived.Test.YtecgjdgfjgcmdaaGreatRtH4
import Derived.Test.YtecgjdgfjgcmdaaGreatRtG5
namespace Go.Proofs.YtecgjdgfjgcmdaaGreat
open Go.RowKit
namespace Msg
def placeF : List Ms → Ms → Option Nat
 | [], _ => none
 | z :: l, m => if z = m then some 0 else (placeF l m).map (fun k => k + 1)
def place (ms : List Ms) (m : Ms) : Int := match placeF ms m with
 | some k => (k : Int)
 | none => -1
theorem placeF_at {ms : List Ms} {m : Ms} {k : Nat} (h : ms[k]? = some m) (h2 : ∀ j, j < k → ¬ ms[j]? = some m) : placeF ms m = some k := by
 induction ms generalizing k with
 | nil => simp at h
 | cons z l ih =>
  unfold placeF
  cases k with
  | zero => simp at h; rw [if_pos h]
  | succ n =>
   rw [if_neg (fun e => h2 0 (by omega) (by rw [e]; rfl)), ih (by simpa using h) (fun j hj e => h2 (j + 1) (by omega) (by simpa using e))]
   rfl
theorem placeF_none {ms : List Ms} {m : Ms} (h2 : ∀ j, j < ms.length → ¬ ms[j]? = some m) : placeF ms m = none := by
 induction ms with
 | nil => rfl
 | cons z l ih =>
  unfold placeF
  rw [if_neg (fun e => h2 0 (by simp) (by rw [e]; rfl)), ih (fun j hj e => h2 (j + 1) (by simp; omega) (by simpa using e))]
  rfl
theorem place_at {ms : List Ms} {m : Ms} {k : Nat} (h : ms[k]? = some m) (h2 : ∀ j, j < k → ¬ ms[j]? = some m) : place ms m = k := by unfold place; rw [placeF_at h h2]
theorem place_none {ms : List Ms} {m : Ms} (h2 : ∀ j, j < ms.length → ¬ ms[j]? = some m) : place ms m = -1 := by unfold place; rw [placeF_none h2]
/-- The first place of m, if there is one. -/
theorem first_place (ms : List Ms) (m : Ms) (n : Nat) : (∀ j, j < n → ¬ ms[j]? = some m) ∨ ∃ k, k < n ∧ ms[k]? = some m ∧ ∀ j, j < k → ¬ ms[j]? = some m := by
 induction n with
 | zero => left; intro j h; omega
 | succ n ih =>
  rcases ih with h | ⟨k, h1, h2, h3⟩
  ·by_cases hn : ms[n]? = some m
   ·right; exact ⟨n, by omega, hn, h⟩
   ·left
    intro j hj
    by_cases hjn : j = n
    ·subst hjn; exact hn
    ·exact h j (by omega)
  ·right; exact ⟨k, by omega, h2, h3⟩
def refsB (m : Ms) (n : Nat) : Bool := m.refs.all (fun r => decide (r < (n : Int)))
theorem refsB_ne {m : Ms} {n k : Nat} {r : Int} (hk : m.refs[k]? = some r) (h : ¬ r < n) : refsB m n = false := by
 unfold refsB; rw [List.all_eq_false]; exact ⟨r, List.mem_of_getElem? hk, by simpa using h⟩
theorem refsB_all {m : Ms} {n : Nat} (h : ∀ (i : Nat) r, i < m.refs.length → m.refs[i]? = some r → r < n) : refsB m n = true := by
 unfold refsB; rw [List.all_eq_true]; intro r hr
 obtain ⟨i, hi⟩ := List.getElem?_of_mem hr
 simpa using h i r (List.getElem?_eq_some_iff.1 hi).1 hi
theorem rises_le {l : List Int} (h : rises l = true) {k : Nat} {y : Int} (hk : l[k]? = some y) : ∀ (d i : Nat) x, i + d = k → l[i]? = some x → x ≤ y := by
 intro d
 induction d with
 | zero => intro i x hi hx; rw [Nat.add_zero] at hi; subst hi; rw [hk] at hx; cases hx; omega
 | succ d ih =>
  intro i x hi hx
  have hk2 := (List.getElem?_eq_some_iff.1 hk).1
  obtain ⟨z, hz⟩ : ∃ z, l[i + 1]? = some z := ⟨_, List.getElem?_eq_getElem (by omega)⟩
  have h1 := rises_at h i x z hx hz
  have h2 := ih (i + 1) z (by omega) hz
  omega
theorem refsB_last {m : Ms} {n k : Nat} {y : Int} (h : rises m.refs = true) (hk : m.refs[k]? = some y) (hl : k + 1 = m.refs.length) : refsB m n = decide (y < (n : Int)) := by
 by_cases hy : y < (n : Int)
 ·rw [decide_eq_true hy]
  exact refsB_all (fun i r hi hr => by have := rises_le h hk (k - i) i r (by omega) hr; omega)
 ·rw [decide_eq_false hy]
  exact refsB_ne hk hy
theorem refsB_nil {m : Ms} {n : Nat} (h : m.refs.length = 0) : refsB m n = true := refsB_all (fun i r hi _ => by omega)
theorem faultM_rises {f : Int} {m : Ms} (h : faultM f m = 0) : rises m.refs = true := by
 unfold faultM at h
 split at h
 ·omega
 ·split at h
  ·omega
  ·split at h
   ·omega
   ·unfold lists at h
    split at h
    ·omega
    ·split at h
     ·omega
     ·rename_i h1; simpa using h1
def firstNZ (g : Nat → Int) : Nat → Int
 | 0 => 0
 | n + 1 => if firstNZ g n = 0 then g n else firstNZ g n
theorem firstNZ_zero {g : Nat → Int} {n : Nat} (h : ∀ j, j < n → g j = 0) : firstNZ g n = 0 := by
 induction n with
 | zero => rfl
 | succ n ih => unfold firstNZ; rw [if_pos (ih (fun j hj => h j (by omega)))]; exact h n (by omega)
theorem firstNZ_at {g : Nat → Int} {n k : Nat} (hk : k < n) (h0 : ¬ g k = 0) (h : ∀ j, j < k → g j = 0) : firstNZ g n = g k := by
 induction n with
 | zero => omega
 | succ n ih =>
  unfold firstNZ
  by_cases hkn : k = n
  ·subst hkn; rw [if_pos (firstNZ_zero h)]
  ·rw [ih (by omega), if_neg h0]
theorem firstNZ_all {g : Nat → Int} {n : Nat} (h : firstNZ g n = 0) : ∀ j, j < n → g j = 0 := by
 induction n with
 | zero => intro j hj; omega
 | succ n ih =>
  unfold firstNZ at h
  by_cases h1 : firstNZ g n = 0
  ·rw [if_pos h1] at h
   intro j hj
   by_cases hjn : j = n
   ·subst hjn; exact h
   ·exact ih h1 j (by omega)
  ·rw [if_neg h1] at h; exact absurd h h1
/-- What is wrong with the message m at place k of the ledger ms, those ahead of it being right. -/
def stepF (f : Int) (ms : List Ms) (k : Nat) (m : Ms) : Int := if ¬ faultM f m = 0 then faultM f m else if refsB m k = false then 4 else if m ∈ ms.take k then 6 else 0
def stepG (f : Int) (ms : List Ms) (k : Nat) : Int := match ms[k]? with
 | some m => stepF f ms k m
 | none => 0
theorem stepG_at {f : Int} {ms : List Ms} {k : Nat} {m : Ms} (h : ms[k]? = some m) : stepG f ms k = stepF f ms k m := by unfold stepG; rw [h]
theorem stepF_1 {f : Int} {ms : List Ms} {k : Nat} {m : Ms} (h : ¬ faultM f m = 0) : stepF f ms k m = faultM f m := by unfold stepF; rw [if_pos h]
theorem stepF_2 {f : Int} {ms : List Ms} {k : Nat} {m : Ms} (h : faultM f m = 0) (h2 : refsB m k = false) : stepF f ms k m = 4 := by unfold stepF; rw [if_neg (by omega), if_pos h2]
theorem stepF_3 {f : Int} {ms : List Ms} {k : Nat} {m : Ms} (h : faultM f m = 0) (h2 : refsB m k = true) (h3 : m ∈ ms.take k) : stepF f ms k m = 6 := by unfold stepF; rw [if_neg (by omega), if_neg (by simp [h2]), if_pos h3]
theorem stepF_4 {f : Int} {ms : List Ms} {k : Nat} {m : Ms} (h : faultM f m = 0) (h2 : refsB m k = true) (h3 : ¬ m ∈ ms.take k) : stepF f ms k m = 0 := by unfold stepF; rw [if_neg (by omega), if_neg (by simp [h2]), if_neg h3]
theorem mem_take {ms : List Ms} {m : Ms} {k : Nat} : m ∈ ms.take k ↔ ∃ j, j < k ∧ ms[j]? = some m := by
 constructor
 ·intro h
  obtain ⟨j, hj⟩ := List.getElem?_of_mem h
  rw [List.getElem?_take] at hj
  split at hj
  ·rename_i h1; exact ⟨j, h1, hj⟩
  ·cases hj
 ·rintro ⟨j, hj, h⟩
  exact List.mem_of_getElem? (i := j) (by rw [List.getElem?_take, if_pos hj]; exact h)
theorem place_self {ms : List Ms} {m : Ms} {k : Nat} (h : ms[k]? = some m) : (place ms m = k) ↔ ¬ m ∈ ms.take k := by
 rw [mem_take]
 rcases first_place ms m k with h1 | ⟨j, h1, h2, h3⟩
 ·rw [place_at h h1]
  simp only [true_iff]
  rintro ⟨j, hj, h2⟩
  exact h1 j hj h2
 ·rw [place_at h2 h3]
  constructor
  ·intro e; omega
  ·intro e; exact absurd ⟨j, h1, h2⟩ e
theorem place_take {ms : List Ms} {m : Ms} {k : Nat} : (place (ms.take k) m = -1) ↔ ¬ m ∈ ms.take k := by
 constructor
 ·intro h hm
  obtain ⟨j, hj⟩ := List.getElem?_of_mem hm
  rcases first_place (ms.take k) m (j + 1) with h1 | ⟨i, h1, h2, h3⟩
  ·exact h1 j (by omega) hj
  ·rw [place_at h2 h3] at h; omega
 ·intro h
  exact place_none (fun j hj e => h (List.mem_of_getElem? e))
def ledgerM (f : Int) (ms : List Ms) : Int := if 240 < ms.length then 2 else firstNZ (stepG f ms) ms.length
def ledger (f : Int) (ms : List Ms) : Int := if fOk f = false then 3 else ledgerM f ms
theorem ledgerM_1 {f : Int} {ms : List Ms} (h : 240 < ms.length) : ledgerM f ms = 2 := by unfold ledgerM; rw [if_pos h]
theorem ledgerM_2 {f : Int} {ms : List Ms} {k : Nat} {m : Ms} (h : ¬ 240 < ms.length) (hm : ms[k]? = some m) (h0 : ¬ stepF f ms k m = 0) (hall : ∀ j, j < k → stepG f ms j = 0) : ledgerM f ms = stepF f ms k m := by
 unfold ledgerM; rw [if_neg h, firstNZ_at (List.getElem?_eq_some_iff.1 hm).1 (by rw [stepG_at hm]; exact h0) hall, stepG_at hm]
theorem ledgerM_3 {f : Int} {ms : List Ms} (h : ¬ 240 < ms.length) (hall : ∀ j, j < ms.length → stepG f ms j = 0) : ledgerM f ms = 0 := by unfold ledgerM; rw [if_neg h, firstNZ_zero hall]
theorem ledger_1 {f : Int} {ms : List Ms} (h : fOk f = false) : ledger f ms = 3 := by unfold ledger; rw [if_pos h]
theorem ledger_2 {f : Int} {ms : List Ms} (h : fOk f = true) : ledger f ms = ledgerM f ms := by unfold ledger; rw [if_neg (by simp [h])]
end Msg
theorem MSlice.take {w : World} {a : Option Addr} {cap k : Nat} {ms : List Ms} (h : MSlice w (.slice a ms.length cap) ms) (hk : k ≤ ms.length) : MSlice w (.slice a k cap) (ms.take k) := by
 obtain ⟨a0, cap0, h1, h2, h3, h4⟩ := h
 injection h1 with e1 e2 e3
 subst e1 e3
 have hl : (ms.take k).length = k := by rw [List.length_take]; omega
 refine ⟨a, cap, by rw [hl], by omega, h3, fun h0 => ?_⟩
 obtain ⟨b, off, e, hb, hN⟩ := h4 (by omega)
 refine ⟨b, off, e, hb, fun i m hm => hN i m ?_⟩
 rw [List.getElem?_take] at hm
 split at hm
 ·exact hm
 ·cases hm

set_option maxHeartbeats 4000000 in
set_option maxRecDepth 100000 in
theorem l8At_any (v : Value) (ms : List Ms) (m : Ms) (b o : Nat) (w : World) (hS : MSlice w v ms) (hb0 : b < w.heap.size) (hm : MAt w b o m) :
  Calls Tryz.prog 170 #[v, .pointer (some ⟨b, o, none⟩)] w fun e w' => e = .returned (.int .i64 (Msg.place ms m)) ∧ Ext w w' := by
 obtain ⟨a, cap, rfl, hlc, hcm, hx⟩ := hS
 have HX : Hid (0 < ms.length → ∃ b off, a = some ⟨b, off, none⟩ ∧ b < w.heap.size ∧ MsAt w b off ms) := hx
 have HM : Hid (MAt w b o m) := hm
 clear hx hm
 unfold maxLen at hcm
 go_enter Tryz.func170, Tryz.ntmps170
 go_wp2
 go_loopw [5] (fun i wr => ∃ (k : Nat), k ≤ ms.length ∧ i = .int .i64 k ∧ Hid (∀ j, j < k → ¬ ms[j]? = some m) ∧ Hid (Ext w wr)) (fun i _ => ms.length - (intOf i).toNat)
 case atStart => exact ⟨0, Nat.zero_le _, rfl, fun j h => by omega, Ext.refl _⟩
 case round =>
  obtain ⟨k, hk, rfl, HA, HE⟩ := hrel
  by_cases hlt : k < ms.length
  ·obtain ⟨z, hzk⟩ : ∃ z, ms[k]? = some z := ⟨_, List.getElem?_eq_getElem hlt⟩
   obtain ⟨b1, off, rfl, hb, hN⟩ := HX.out (by omega)
   have HQ : Hid (∀ wx : World, Ext w wx → Calls Tryz.prog 185 #[.pointer (some ⟨b1, off + k * 7, none⟩), .pointer (some ⟨b, o, none⟩)] wx fun e w' => e = .returned (.bool (Msg.sameM z m)) ∧ Ext wx w') := fun wx he => by
    obtain ⟨vz, uz, hc, hl⟩ := hN.ext hb he k z hzk
    obtain ⟨vm, um, hc2, hl2⟩ := HM.out.ext hb0 he
    exact l8Same_any z m vz uz vm um b1 (off + k * 7) b o wx (Nat.lt_of_lt_of_le hb he.size) (Nat.lt_of_lt_of_le hb0 he.size) hc hc2 hl hl2
   have HZ : Hid (ms[k]? = some z) := hzk
   clear hzk hN
   by_cases hq : z = m
   ·have hq2 : Msg.sameM z m = true := decide_eq_true hq
    have HF : Hid (Msg.place ms m = k) := Msg.place_at (by rw [HZ.out, hq]) HA.out
    rw [hq2] at HQ
    clear hq hq2
    go_wp2_with fail
    refine (HQ.out _ HE.out).mono ?_
    rintro e w2 ⟨rfl, hb2⟩
    have HE2 : Hid (Ext w w2) := HE.out.trans hb2
    clear hb2
    go_wp2
    go_ret
    exact ⟨ret_int HF.out.symm, HE2.out⟩
   ·have hq2 : Msg.sameM z m = false := decide_eq_false hq
    have HA2 : Hid (∀ j, j < k + 1 → ¬ ms[j]? = some m) := by
     intro j hj e
     by_cases hjk : j = k
     ·subst hjk; rw [HZ.out] at e; cases e; exact hq rfl
     ·exact HA.out j (by omega) e
    rw [hq2] at HQ
    clear hq hq2
    go_wp2_with fail
    refine (HQ.out _ HE.out).mono ?_
    rintro e w2 ⟨rfl, hb2⟩
    have HE2 : Hid (Ext w w2) := HE.out.trans hb2
    clear hb2
    go_wp2
    exact ⟨⟨k + 1, by omega, by go_num, HA2, HE2⟩, by simp [intOf]; omega⟩
  ·have HF : Hid (Msg.place ms m = -1) := Msg.place_none (fun j hj => HA.out j (by omega))
   go_wp2
   go_ret
   exact ⟨ret_int HF.out.symm, HE.out⟩

set_option maxHeartbeats 4000000 in
set_option maxRecDepth 100000 in
theorem placeOfMsg_any (v : Value) (ms : List Ms) (m : Ms) (b o : Nat) (w : World) (hS : MSlice w v ms) (hb0 : b < w.heap.size) (hm : MAt w b o m) :
  Calls Tryz.prog 128 #[v, .pointer (some ⟨b, o, none⟩)] w fun e w' => e = .returned (.int .i64 (Msg.place ms m)) ∧ Ext w w' := by
 obtain ⟨a, cap, rfl, hlc, hcm, hx⟩ := hS
 have HX : Hid (0 < ms.length → ∃ b off, a = some ⟨b, off, none⟩ ∧ b < w.heap.size ∧ MsAt w b off ms) := hx
 have HM : Hid (MAt w b o m) := hm
 clear hx hm
 unfold maxLen at hcm
 go_enter Tryz.func128, Tryz.ntmps128
 go_wp2
 go_loopw [8] (fun i wr => ∃ (k : Nat), k ≤ ms.length ∧ i = .int .i64 k ∧ Hid (∀ j, j < k → ¬ ms[j]? = some m) ∧ Hid (Ext w wr)) (fun i _ => ms.length - (intOf i).toNat)
 case atStart => exact ⟨0, Nat.zero_le _, rfl, fun j h => by omega, Ext.refl _⟩
 case round =>
  obtain ⟨k, hk, rfl, HA, HE⟩ := hrel
  by_cases hlt : k < ms.length
  ·obtain ⟨z, hzk⟩ : ∃ z, ms[k]? = some z := ⟨_, List.getElem?_eq_getElem hlt⟩
   obtain ⟨b1, off, rfl, hb, hN⟩ := HX.out (by omega)
   have HQ : Hid (∀ wx : World, Ext w wx → Calls Tryz.prog 162 #[.pointer (some ⟨b1, off + k * 7, none⟩), .pointer (some ⟨b, o, none⟩)] wx fun e w' => e = .returned (.bool (Msg.sameM z m)) ∧ Ext wx w') := fun wx he => by
    obtain ⟨vz, uz, hc, hl⟩ := hN.ext hb he k z hzk
    obtain ⟨vm, um, hc2, hl2⟩ := HM.out.ext hb0 he
    exact isSameMsg_any z m vz uz vm um b1 (off + k * 7) b o wx (Nat.lt_of_lt_of_le hb he.size) (Nat.lt_of_lt_of_le hb0 he.size) hc hc2 hl hl2
   have HZ : Hid (ms[k]? = some z) := hzk
   clear hzk hN
   by_cases hq : z = m
   ·have hq2 : Msg.sameM z m = true := decide_eq_true hq
    have HF : Hid (Msg.place ms m = k) := Msg.place_at (by rw [HZ.out, hq]) HA.out
    rw [hq2] at HQ
    clear hq hq2
    go_wp2_with fail
    refine (HQ.out _ HE.out).mono ?_
    rintro e w2 ⟨rfl, hb2⟩
    have HE2 : Hid (Ext w w2) := HE.out.trans hb2
    clear hb2
    go_wp2
    go_ret
    exact ⟨ret_int HF.out.symm, HE2.out⟩
   ·have hq2 : Msg.sameM z m = false := decide_eq_false hq
    have HA2 : Hid (∀ j, j < k + 1 → ¬ ms[j]? = some m) := by
     intro j hj e
     by_cases hjk : j = k
     ·subst hjk; rw [HZ.out] at e; cases e; exact hq rfl
     ·exact HA.out j (by omega) e
    rw [hq2] at HQ
    clear hq hq2
    go_wp2_with fail
    refine (HQ.out _ HE.out).mono ?_
    rintro e w2 ⟨rfl, hb2⟩
    have HE2 : Hid (Ext w w2) := HE.out.trans hb2
    clear hb2
    go_wp2
    exact ⟨⟨k + 1, by omega, by go_num, HA2, HE2⟩, by simp [intOf]; omega⟩
  ·have HF : Hid (Msg.place ms m = -1) := Msg.place_none (fun j hj => HA.out j (by omega))
   go_wp2
   go_ret
   exact ⟨ret_int HF.out.symm, HE.out⟩

set_option maxHeartbeats 4000000 in
set_option maxRecDepth 100000 in
theorem l8Refs_any (m : Ms) (n : Nat) (b o : Nat) (w : World) (hn : n ≤ 1048576) (hb0 : b < w.heap.size) (hm : MAt w b o m) :
  Calls Tryz.prog 169 #[.pointer (some ⟨b, o, none⟩), .int .i64 (n : Int)] w fun e w' => e = .returned (.bool (Msg.refsB m n)) ∧ Ext w w' := by
 obtain ⟨v, u, hc, hl⟩ := hm
 have HC : Hid (MCs w b o m v u) := hc
 obtain ⟨-, ⟨a', c', rfl, hlc, hcm, hx⟩⟩ := hl
 have HX : Hid (0 < m.refs.length → ∃ b off, a' = some ⟨b, off, none⟩ ∧ b < w.heap.size ∧ NumsAt w b off m.refs) := hx
 clear hx hc
 unfold maxLen at hcm
 have en : IntKind.i64.wrap (n : Int) = (n : Int) := by rw [IntKind.wrap_i64]; omega
 go_enter Tryz.func169, Tryz.ntmps169
 go_wp2
 go_loopw [5] (fun i wr => ∃ (k : Nat), k ≤ m.refs.length ∧ i = .int .i64 k ∧ Hid (∀ j r, j < k → m.refs[j]? = some r → r < (n : Int)) ∧ Hid (Ext w wr)) (fun i _ => m.refs.length - (intOf i).toNat)
 case atStart => exact ⟨0, Nat.zero_le _, rfl, fun j r h => by omega, Ext.refl _⟩
 case round =>
  obtain ⟨k, hk, rfl, HA, HE⟩ := hrel
  obtain ⟨-, -, -, -, -, -, x6⟩ := HC.out.ext hb0 HE.out
  by_cases hlt : k < m.refs.length
  ·obtain ⟨z, hzk⟩ : ∃ z, m.refs[k]? = some z := ⟨_, List.getElem?_eq_getElem hlt⟩
   obtain ⟨b1, off, rfl, hb, hN⟩ := HX.out (by omega)
   have d0 := hN.ext hb HE.out k z hzk
   have HZ : Hid (m.refs[k]? = some z) := hzk
   clear hzk hN
   by_cases hq : z < (n : Int)
   ·have HA2 : Hid (∀ j r, j < k + 1 → m.refs[j]? = some r → r < (n : Int)) := by
     intro j r hj hr
     by_cases hjk : j = k
     ·subst hjk; rw [HZ.out] at hr; cases hr; exact hq
     ·exact HA.out j r (by omega) hr
    go_wp2
    exact ⟨⟨k + 1, by omega, by go_num, HA2, HE⟩, by simp [intOf]; omega⟩
   ·have HF : Hid (Msg.refsB m n = false) := Msg.refsB_ne HZ.out hq
    go_wp2
    go_ret
    exact ⟨ret_bool HF.out.symm, HE.out⟩
  ·have HF : Hid (Msg.refsB m n = true) := Msg.refsB_all (fun i r hi hr => HA.out i r (by omega) hr)
   go_wp2
   go_ret
   exact ⟨ret_bool HF.out.symm, HE.out⟩
set_option maxHeartbeats 4000000 in
set_option maxRecDepth 100000 in
theorem refersAhead_any (m : Ms) (n : Nat) (b o : Nat) (w : World) (hn : n ≤ 1048576) (hm : MAt w b o m) (hr : Msg.rises m.refs = true) :
  Calls Tryz.prog 127 #[.pointer (some ⟨b, o, none⟩), .int .i64 (n : Int)] w fun e w' => e = .returned (.bool (Msg.refsB m n)) ∧ Ext w w' := by
 obtain ⟨v, u, ⟨-, -, -, -, -, -, x6⟩, hl⟩ := hm
 obtain ⟨-, ⟨a', c', rfl, hlc, hcm, hx⟩⟩ := hl
 unfold maxLen at hcm
 have en : IntKind.i64.wrap (n : Int) = (n : Int) := by rw [IntKind.wrap_i64]; omega
 by_cases h0 : m.refs.length = 0
 ·have HF : Msg.refsB m n = true := Msg.refsB_nil h0
  have e0 : ((m.refs.length : Int) == 0) = true := by rw [h0]; rfl
  rw [HF]
  clear hx h0 HF hr
  go_enter Tryz.func127, Tryz.ntmps127
  go_wp2
  go_ret
  exact ⟨rfl, Ext.refl _⟩
 ·obtain ⟨k, hk⟩ : ∃ k, k + 1 = m.refs.length := ⟨m.refs.length - 1, by omega⟩
  have hkl : k < m.refs.length := by omega
  obtain ⟨z, hzk⟩ : ∃ z, m.refs[k]? = some z := ⟨_, List.getElem?_eq_getElem hkl⟩
  obtain ⟨b1, off, rfl, hb, hN⟩ := hx (by omega)
  have d0 := hN k z hzk
  have HF := Msg.refsB_last (n := n) hr hzk hk
  have e0 : ((m.refs.length : Int) == 0) = false := by rw [beq_eq_false_iff_ne]; omega
  have hsub : IntKind.i64.wrap ((m.refs.length : Int) - 1) = (k : Int) := by rw [IntKind.wrap_i64]; omega
  have hsub2 : (m.refs.length : Int) - 1 = (k : Int) := by omega
  rw [HF]
  have hk2 : Hid (k + 1 = m.refs.length) := hk
  clear hN hzk h0 HF hr hk
  go_enter Tryz.func127, Tryz.ntmps127
  go_wp2
  go_ret
  exact ⟨rfl, Ext.refl _⟩
end Go.Proofs.YtecgjdgfjgcmdaaGreat
