/- H5, H6, H7, in one text. -/
import Derived.Test.YtecgjdgfjgcmdaaGreatRtH2
import Derived.Deep.RegionHeld3
import Derived.Test.YtecgjdgfjgcmdaaGreatRtTk
namespace Go.Proofs.YtecgjdgfjgcmdaaGreat
open Go.RowKit
namespace Msg
/-- Do the numbers rise? -/
def rises : List Int → Bool
 | [] => true
 | x :: l => (match l with | [] => true | y :: _ => decide (x < y)) && rises l
theorem rises_all {l : List Int} (h : ∀ (i : Nat) x y, l[i]? = some x → l[i + 1]? = some y → x < y) : rises l = true := by
 induction l with
 | nil => rfl
 | cons a t ih =>
  have h2 := ih (fun i x y hx hy => h (i + 1) x y (by simpa using hx) (by simpa using hy))
  cases t with
  | nil => rfl
  | cons b s => unfold rises; rw [h2]; simpa using h 0 a b rfl rfl
theorem rises_at {l : List Int} (h : rises l = true) : ∀ (i : Nat) x y, l[i]? = some x → l[i + 1]? = some y → x < y := by
 induction l with
 | nil => intro i x y hx; simp at hx
 | cons a t ih =>
  unfold rises at h
  rw [Bool.and_eq_true] at h
  intro i x y hx hy
  cases i with
  | zero =>
   cases t with
   | nil => simp at hy
   | cons b s => simp at hx hy; subst hx hy; simpa using h.1
  | succ n => exact ih h.2 n x y (by simpa using hx) (by simpa using hy)
theorem rises_ne {l : List Int} {i : Nat} {x y : Int} (hx : l[i]? = some x) (hy : l[i + 1]? = some y) (h : ¬ x < y) : rises l = false := by
 cases hr : rises l with
 | false => rfl
 | true => exact absurd (rises_at hr i x y hx hy) h
def bareN (kind slot value : Int) (nc nr : Nat) : Bool := decide (1 ≤ kind ∧ kind ≤ 5 ∧ (kind ≤ 3 ∨ (slot = 0 ∧ value = 0)) ∧ (kind = 4 ∨ nc = 0) ∧ (kind = 5 ∨ nr = 0))
def boundsN (f kind view from_ slot value : Int) : Bool := decide (0 ≤ view ∧ view ≤ 20 ∧ 1 ≤ from_ ∧ from_ ≤ 3 * f + 1 ∧ (kind ≤ 3 → 1 ≤ slot ∧ slot ≤ 30 ∧ 0 ≤ value ∧ value ≤ 12))
def manyN (f : Int) (nc nr : Nat) : Bool := decide (30 < nc ∨ 3 * f + 1 < nr)
def certOk (view : Int) (c : Ct) : Bool := decide (1 ≤ c.slot ∧ c.slot ≤ 30 ∧ 0 ≤ c.view ∧ c.view ≤ view - 1 ∧ 0 ≤ c.value ∧ c.value ≤ 12)
def refOk (r : Int) : Bool := decide (0 ≤ r ∧ r ≤ 239)
def slots (l : List Ct) : List Int := l.map (fun c => c.slot)
theorem slots_at {l : List Ct} {i : Nat} {c : Ct} (h : l[i]? = some c) : (slots l)[i]? = some c.slot := by unfold slots; rw [List.getElem?_map, h]; rfl
theorem slots_back {l : List Ct} {i : Nat} {x : Int} (h : (slots l)[i]? = some x) : ∃ c, l[i]? = some c ∧ c.slot = x := by
 unfold slots at h; rw [List.getElem?_map] at h; obtain ⟨c, h1, h2⟩ := Option.map_eq_some_iff.1 h; exact ⟨c, h1, h2⟩
def parts (m : Ms) : Bool := m.certs.all (certOk m.view) && m.refs.all refOk
def lists (m : Ms) : Int := if rises (slots m.certs) = false then 1 else if rises m.refs = false then 1 else if parts m = false then 3 else 0
/-- The fault of m, f being right. -/
def faultM (f : Int) (m : Ms) : Int := if bareN m.kind m.slot m.value m.certs.length m.refs.length = false then 1 else if boundsN f m.kind m.view m.from_ m.slot m.value = false then 3 else if manyN f m.certs.length m.refs.length = true then 2 else lists m
def fOk (f : Int) : Bool := decide (1 ≤ f) && decide (f ≤ 2)
def fault (f : Int) (m : Ms) : Int := if fOk f = false then 3 else faultM f m
theorem lists_1 {m : Ms} (h : rises (slots m.certs) = false) : lists m = 1 := by unfold lists; rw [if_pos h]
theorem lists_2 {m : Ms} (h : rises (slots m.certs) = true) (h2 : rises m.refs = false) : lists m = 1 := by unfold lists; rw [if_neg (by simp [h]), if_pos h2]
theorem lists_3 {m : Ms} (h : rises (slots m.certs) = true) (h2 : rises m.refs = true) (h3 : parts m = false) : lists m = 3 := by unfold lists; rw [if_neg (by simp [h]), if_neg (by simp [h2]), if_pos h3]
theorem lists_4 {m : Ms} (h : rises (slots m.certs) = true) (h2 : rises m.refs = true) (h3 : parts m = true) : lists m = 0 := by unfold lists; rw [if_neg (by simp [h]), if_neg (by simp [h2]), if_neg (by simp [h3])]
theorem parts_c {m : Ms} {k : Nat} {c : Ct} (hk : m.certs[k]? = some c) (h : certOk m.view c = false) : parts m = false := by
 unfold parts; rw [Bool.and_eq_false_iff]; left; rw [List.all_eq_false]; exact ⟨c, List.mem_of_getElem? hk, by simp [h]⟩
theorem parts_r {m : Ms} {k : Nat} {r : Int} (hk : m.refs[k]? = some r) (h : refOk r = false) : parts m = false := by
 unfold parts; rw [Bool.and_eq_false_iff]; right; rw [List.all_eq_false]; exact ⟨r, List.mem_of_getElem? hk, by simp [h]⟩
theorem parts_all {m : Ms} (h : ∀ (i : Nat) c, i < m.certs.length → m.certs[i]? = some c → certOk m.view c = true) (h2 : ∀ (i : Nat) r, i < m.refs.length → m.refs[i]? = some r → refOk r = true) : parts m = true := by
 unfold parts; rw [Bool.and_eq_true, List.all_eq_true, List.all_eq_true]
 refine ⟨fun c hc => ?_, fun r hr => ?_⟩
 ·obtain ⟨i, hi⟩ := List.getElem?_of_mem hc; exact h i c (List.getElem?_eq_some_iff.1 hi).1 hi
 ·obtain ⟨i, hi⟩ := List.getElem?_of_mem hr; exact h2 i r (List.getElem?_eq_some_iff.1 hi).1 hi
end Msg
theorem l1In_isM (v lo hi : Int) (b : Bool) (w : World) (h : (decide (lo ≤ v) && decide (v ≤ hi)) = b) :
  Calls Tryz.prog 57 #[.int .i64 v, .int .i64 lo, .int .i64 hi] w fun e w' => e = .returned (.bool b) ∧ w' = w := by
 rw [← h]; exact l1In_any v lo hi w

set_option maxHeartbeats 20000000 in
set_option maxRecDepth 100000 in
theorem l8Bare_any (kind slot value : Int) (nc nr c c' : Nat) (a a' : Option Addr) (b o : Nat) (w : World) (hp : w.cell? ⟨b, o, none⟩ = some (.int .i64 kind) ∧ w.cell? ⟨b, o + 3, none⟩ = some (.int .i64 slot) ∧ w.cell? ⟨b, o + 4, none⟩ = some (.int .i64 value) ∧ w.cell? ⟨b, o + 5, none⟩ = some (.slice a nc c) ∧ w.cell? ⟨b, o + 6, none⟩ = some (.slice a' nr c')) :
  Calls Tryz.prog 183 #[.pointer (some ⟨b, o, none⟩)] w fun e w' => e = .returned (.bool (Msg.bareN kind slot value nc nr)) ∧ w' = w := by
 obtain ⟨p0, p3, p4, p5, p6⟩ := hp
 by_cases h5 : 1 ≤ kind ∧ kind ≤ 5
 ·have b15 : (decide (1 ≤ kind) && decide (kind ≤ 5)) = true := by simp; omega
  by_cases h3 : kind ≤ 3
  ·have b13 : (decide (1 ≤ kind) && decide (kind ≤ 3)) = true := by simp; omega
   have k4 : (kind == 4) = false := by simp; omega
   have k5 : (kind == 5) = false := by simp; omega
   by_cases hc : nc = 0
   ·have c0 : ((nc : Int) == 0) = true := by simp; omega
    by_cases hr : nr = 0
    ·have r0 : ((nr : Int) == 0) = true := by simp; omega
     have HR : Msg.bareN kind slot value nc nr = true := decide_eq_true (by omega)
     rw [HR]
     clear HR
     (try clear hs)
     (try clear hv)
     (try clear hc)
     (try clear hr)
     (try clear h4)
     go_enter Tryz.func183, Tryz.ntmps183
     go_wp2_with fail
     refine (l1In_isM _ _ _ true _ b13).mono ?_
     rintro e w9 ⟨rfl, hw⟩
     rw [hw]
     clear hw w9
     go_wp2_with fail
     refine (l1In_isM _ _ _ _ _ b15).mono ?_
     rintro e w9 ⟨rfl, hw⟩
     rw [hw]
     clear hw w9
     go_wp2
     go_ret
     exact ⟨rfl, rfl⟩
    ·have r0 : ((nr : Int) == 0) = false := by simp; omega
     have HR : Msg.bareN kind slot value nc nr = false := decide_eq_false (by omega)
     rw [HR]
     clear HR
     (try clear hs)
     (try clear hv)
     (try clear hc)
     (try clear hr)
     (try clear h4)
     go_enter Tryz.func183, Tryz.ntmps183
     go_wp2_with fail
     refine (l1In_isM _ _ _ true _ b13).mono ?_
     rintro e w9 ⟨rfl, hw⟩
     rw [hw]
     clear hw w9
     go_wp2_with fail
     refine (l1In_isM _ _ _ _ _ b15).mono ?_
     rintro e w9 ⟨rfl, hw⟩
     rw [hw]
     clear hw w9
     go_wp2
     go_ret
     exact ⟨rfl, rfl⟩
   ·have c0 : ((nc : Int) == 0) = false := by simp; omega
    have HR : Msg.bareN kind slot value nc nr = false := decide_eq_false (by omega)
    rw [HR]
    clear HR
    (try clear hs)
    (try clear hv)
    (try clear hc)
    (try clear hr)
    (try clear h4)
    go_enter Tryz.func183, Tryz.ntmps183
    go_wp2_with fail
    refine (l1In_isM _ _ _ true _ b13).mono ?_
    rintro e w9 ⟨rfl, hw⟩
    rw [hw]
    clear hw w9
    go_wp2_with fail
    refine (l1In_isM _ _ _ _ _ b15).mono ?_
    rintro e w9 ⟨rfl, hw⟩
    rw [hw]
    clear hw w9
    go_wp2
    go_ret
    exact ⟨rfl, rfl⟩
  ·have b13 : (decide (1 ≤ kind) && decide (kind ≤ 3)) = false := by rw [Bool.and_eq_false_iff]; simp; omega
   by_cases h4 : kind = 4
   ·have k4 : (kind == 4) = true := by simp; omega
    have k5 : (kind == 5) = false := by simp; omega
    by_cases hs : slot = 0
    ·have s0 : (slot == 0) = true := by simp; omega
     by_cases hv : value = 0
     ·have v0 : (value == 0) = true := by simp; omega
      by_cases hr : nr = 0
      ·have r0 : ((nr : Int) == 0) = true := by simp; omega
       have HR : Msg.bareN kind slot value nc nr = true := decide_eq_true (by omega)
       rw [HR]
       clear HR
       (try clear hs)
       (try clear hv)
       (try clear hc)
       (try clear hr)
       (try clear h4)
       go_enter Tryz.func183, Tryz.ntmps183
       go_wp2_with fail
       refine (l1In_isM _ _ _ false _ b13).mono ?_
       rintro e w9 ⟨rfl, hw⟩
       rw [hw]
       clear hw w9
       go_wp2_with fail
       refine (l1In_isM _ _ _ _ _ b15).mono ?_
       rintro e w9 ⟨rfl, hw⟩
       rw [hw]
       clear hw w9
       go_wp2
       go_ret
       exact ⟨rfl, rfl⟩
      ·have r0 : ((nr : Int) == 0) = false := by simp; omega
       have HR : Msg.bareN kind slot value nc nr = false := decide_eq_false (by omega)
       rw [HR]
       clear HR
       (try clear hs)
       (try clear hv)
       (try clear hc)
       (try clear hr)
       (try clear h4)
       go_enter Tryz.func183, Tryz.ntmps183
       go_wp2_with fail
       refine (l1In_isM _ _ _ false _ b13).mono ?_
       rintro e w9 ⟨rfl, hw⟩
       rw [hw]
       clear hw w9
       go_wp2_with fail
       refine (l1In_isM _ _ _ _ _ b15).mono ?_
       rintro e w9 ⟨rfl, hw⟩
       rw [hw]
       clear hw w9
       go_wp2
       go_ret
       exact ⟨rfl, rfl⟩
     ·have v0 : (value == 0) = false := by simp; omega
      have HR : Msg.bareN kind slot value nc nr = false := decide_eq_false (by omega)
      rw [HR]
      clear HR
      (try clear hs)
      (try clear hv)
      (try clear hc)
      (try clear hr)
      (try clear h4)
      go_enter Tryz.func183, Tryz.ntmps183
      go_wp2_with fail
      refine (l1In_isM _ _ _ false _ b13).mono ?_
      rintro e w9 ⟨rfl, hw⟩
      rw [hw]
      clear hw w9
      go_wp2_with fail
      refine (l1In_isM _ _ _ _ _ b15).mono ?_
      rintro e w9 ⟨rfl, hw⟩
      rw [hw]
      clear hw w9
      go_wp2
      go_ret
      exact ⟨rfl, rfl⟩
    ·have s0 : (slot == 0) = false := by simp; omega
     have HR : Msg.bareN kind slot value nc nr = false := decide_eq_false (by omega)
     rw [HR]
     clear HR
     (try clear hs)
     (try clear hv)
     (try clear hc)
     (try clear hr)
     (try clear h4)
     go_enter Tryz.func183, Tryz.ntmps183
     go_wp2_with fail
     refine (l1In_isM _ _ _ false _ b13).mono ?_
     rintro e w9 ⟨rfl, hw⟩
     rw [hw]
     clear hw w9
     go_wp2_with fail
     refine (l1In_isM _ _ _ _ _ b15).mono ?_
     rintro e w9 ⟨rfl, hw⟩
     rw [hw]
     clear hw w9
     go_wp2
     go_ret
     exact ⟨rfl, rfl⟩
   ·have k4 : (kind == 4) = false := by simp; omega
    have k5 : (kind == 5) = true := by simp; omega
    by_cases hs : slot = 0
    ·have s0 : (slot == 0) = true := by simp; omega
     by_cases hv : value = 0
     ·have v0 : (value == 0) = true := by simp; omega
      by_cases hc : nc = 0
      ·have c0 : ((nc : Int) == 0) = true := by simp; omega
       have HR : Msg.bareN kind slot value nc nr = true := decide_eq_true (by omega)
       rw [HR]
       clear HR
       (try clear hs)
       (try clear hv)
       (try clear hc)
       (try clear hr)
       (try clear h4)
       go_enter Tryz.func183, Tryz.ntmps183
       go_wp2_with fail
       refine (l1In_isM _ _ _ false _ b13).mono ?_
       rintro e w9 ⟨rfl, hw⟩
       rw [hw]
       clear hw w9
       go_wp2_with fail
       refine (l1In_isM _ _ _ _ _ b15).mono ?_
       rintro e w9 ⟨rfl, hw⟩
       rw [hw]
       clear hw w9
       go_wp2
       go_ret
       exact ⟨rfl, rfl⟩
      ·have c0 : ((nc : Int) == 0) = false := by simp; omega
       have HR : Msg.bareN kind slot value nc nr = false := decide_eq_false (by omega)
       rw [HR]
       clear HR
       (try clear hs)
       (try clear hv)
       (try clear hc)
       (try clear hr)
       (try clear h4)
       go_enter Tryz.func183, Tryz.ntmps183
       go_wp2_with fail
       refine (l1In_isM _ _ _ false _ b13).mono ?_
       rintro e w9 ⟨rfl, hw⟩
       rw [hw]
       clear hw w9
       go_wp2_with fail
       refine (l1In_isM _ _ _ _ _ b15).mono ?_
       rintro e w9 ⟨rfl, hw⟩
       rw [hw]
       clear hw w9
       go_wp2
       go_ret
       exact ⟨rfl, rfl⟩
     ·have v0 : (value == 0) = false := by simp; omega
      have HR : Msg.bareN kind slot value nc nr = false := decide_eq_false (by omega)
      rw [HR]
      clear HR
      (try clear hs)
      (try clear hv)
      (try clear hc)
      (try clear hr)
      (try clear h4)
      go_enter Tryz.func183, Tryz.ntmps183
      go_wp2_with fail
      refine (l1In_isM _ _ _ false _ b13).mono ?_
      rintro e w9 ⟨rfl, hw⟩
      rw [hw]
      clear hw w9
      go_wp2_with fail
      refine (l1In_isM _ _ _ _ _ b15).mono ?_
      rintro e w9 ⟨rfl, hw⟩
      rw [hw]
      clear hw w9
      go_wp2
      go_ret
      exact ⟨rfl, rfl⟩
    ·have s0 : (slot == 0) = false := by simp; omega
     have HR : Msg.bareN kind slot value nc nr = false := decide_eq_false (by omega)
     rw [HR]
     clear HR
     (try clear hs)
     (try clear hv)
     (try clear hc)
     (try clear hr)
     (try clear h4)
     go_enter Tryz.func183, Tryz.ntmps183
     go_wp2_with fail
     refine (l1In_isM _ _ _ false _ b13).mono ?_
     rintro e w9 ⟨rfl, hw⟩
     rw [hw]
     clear hw w9
     go_wp2_with fail
     refine (l1In_isM _ _ _ _ _ b15).mono ?_
     rintro e w9 ⟨rfl, hw⟩
     rw [hw]
     clear hw w9
     go_wp2
     go_ret
     exact ⟨rfl, rfl⟩
 ·have b15 : (decide (1 ≤ kind) && decide (kind ≤ 5)) = false := by rw [Bool.and_eq_false_iff]; simp; omega
  have b13 : (decide (1 ≤ kind) && decide (kind ≤ 3)) = false := by rw [Bool.and_eq_false_iff]; simp; omega
  have HR : Msg.bareN kind slot value nc nr = false := decide_eq_false (by omega)
  rw [HR]
  clear HR
  (try clear hs)
  (try clear hv)
  (try clear hc)
  (try clear hr)
  (try clear h4)
  go_enter Tryz.func183, Tryz.ntmps183
  go_wp2_with fail
  refine (l1In_isM _ _ _ false _ b13).mono ?_
  rintro e w9 ⟨rfl, hw⟩
  rw [hw]
  clear hw w9
  go_wp2_with fail
  refine (l1In_isM _ _ _ _ _ b15).mono ?_
  rintro e w9 ⟨rfl, hw⟩
  rw [hw]
  clear hw w9
  go_wp2
  go_ret
  exact ⟨rfl, rfl⟩

set_option maxHeartbeats 1000000 in
theorem l8F_any (f : Int) (w : World) : Calls Tryz.prog 143 #[.int .i64 f] w fun e w' => e = .returned (.bool (Msg.fOk f)) ∧ w' = w := by
 have HB := l1In_isM f 1 2 (Msg.fOk f) w rfl
 generalize Msg.fOk f = bb at *
 go_enter Tryz.func143, Tryz.ntmps143
 go_wp2_with fail
 refine HB.mono ?_
 rintro e w9 ⟨rfl, hw⟩
 rw [hw]
 clear hw w9
 go_wp2
 go_ret
 exact ⟨rfl, rfl⟩

set_option maxHeartbeats 1000000 in
theorem l8Id_any (f id : Int) (bb : Bool) (w : World) (h0 : 1 ≤ f) (h1 : f ≤ 2) (hb : (decide (1 ≤ id) && decide (id ≤ 3 * f + 1)) = bb) : Calls Tryz.prog 145 #[.int .i64 f, .int .i64 id] w fun e w' => e = .returned (.bool bb) ∧ w' = w := by
 have HB := l1In_isM id 1 (3 * f + 1) bb w hb
 have e1 : IntKind.i64.wrap (3 * f) = 3 * f := by rw [IntKind.wrap_i64]; omega
 have e2 : IntKind.i64.wrap (3 * f + 1) = 3 * f + 1 := by rw [IntKind.wrap_i64]; omega
 go_enter Tryz.func145, Tryz.ntmps145
 go_wp2_with fail
 refine HB.mono ?_
 rintro e w9 ⟨rfl, hw⟩
 rw [hw]
 clear hw w9
 go_wp2
 go_ret
 exact ⟨rfl, rfl⟩
end Go.Proofs.YtecgjdgfjgcmdaaGreat
namespace Go.Proofs.YtecgjdgfjgcmdaaGreat
open Go.RowKit
set_option maxHeartbeats 20000000 in
set_option maxRecDepth 100000 in
theorem l8Lists_any (m : Ms) (v u : Value) (b o : Nat) (w : World) (hb1 : b < w.heap.size) (hm : MCs w b o m v u) (hS : MLs w v u m) (hv0 : 0 ≤ m.view) (hv1 : m.view ≤ 20) :
  Calls Tryz.prog 184 #[.pointer (some ⟨b, o, none⟩)] w fun e w' => e = .returned (.int .i64 (Msg.lists m)) ∧ Ext w w' := by
 have HS : Hid (MLs w v u m) := hS
 have HM : Hid (MCs w b o m v u) := hm
 obtain ⟨a, c, a', c', rfl, rfl, hc1, hc2, hc3, hc4⟩ := hS.form
 unfold maxLen at hc2 hc4
 have HX5 : Hid (0 < m.certs.length → ∃ b off, a = some ⟨b, off, none⟩ ∧ b < w.heap.size ∧ CtsAt w b off m.certs) := by
  obtain ⟨⟨a0, c0, h1, -, -, h4⟩, -⟩ := HS.out
  injection h1 with h1 _ _; subst h1; exact h4
 have HX6 : Hid (0 < m.refs.length → ∃ b off, a' = some ⟨b, off, none⟩ ∧ b < w.heap.size ∧ NumsAt w b off m.refs) := by
  obtain ⟨-, ⟨a0, c0, h1, -, -, h4⟩⟩ := HS.out
  injection h1 with h1 _ _; subst h1; exact h4
 have HW : Hid (∀ wr : World, Ext w wr → wr.cell? ⟨b, o + 1, none⟩ = some (.int .i64 m.view) ∧ wr.cell? ⟨b, o + 5, none⟩ = some (.slice a m.certs.length c) ∧ wr.cell? ⟨b, o + 6, none⟩ = some (.slice a' m.refs.length c')) := fun wr he => by
  obtain ⟨-, x1, -, -, -, x5, x6⟩ := HM.out.ext hb1 he
  exact ⟨x1, x5, x6⟩
 clear HS HM hS hm
 go_enter Tryz.func184, Tryz.ntmps184
 go_wp2
 go_loopw [3] (fun i wr => ∃ (k : Nat), 1 ≤ k ∧ (k ≤ m.certs.length ∨ k = 1) ∧ i = .int .i64 k ∧ Hid (∀ j x y, j + 1 < k → (Msg.slots m.certs)[j]? = some x → (Msg.slots m.certs)[j + 1]? = some y → x < y) ∧ Hid (Ext w wr)) (fun i _ => m.certs.length - (intOf i).toNat)
 case atStart => exact ⟨1, by omega, Or.inr rfl, rfl, fun j x y h => by omega, Ext.refl _⟩
 case round =>
  obtain ⟨k, hk1, hk, rfl, HA, HE⟩ := hrel
  obtain ⟨r1, r5, r6⟩ := HW.out _ HE.out
  by_cases hlt : k < m.certs.length
  ·obtain ⟨j, hj⟩ : ∃ j, k = j + 1 := ⟨k - 1, by omega⟩
   have hjl : j < m.certs.length := by omega
   obtain ⟨z, hzk⟩ : ∃ z, m.certs[k]? = some z := ⟨_, List.getElem?_eq_getElem hlt⟩
   obtain ⟨y, hyk⟩ : ∃ y, m.certs[j]? = some y := ⟨_, List.getElem?_eq_getElem hjl⟩
   obtain ⟨b1, off, rfl, hb, hN⟩ := HX5.out (by omega)
   obtain ⟨d0, d1, d2⟩ := hN.ext hb HE.out k z hzk
   obtain ⟨e0, e1, e2⟩ := hN.ext hb HE.out j y hyk
   have hsub : IntKind.i64.wrap ((k : Int) - 1) = (j : Int) := by rw [IntKind.wrap_i64]; omega
   have HZ : Hid (k = j + 1 ∧ m.certs[k]? = some z ∧ m.certs[j]? = some y) := ⟨hj, hzk, hyk⟩
   clear hzk hyk hN hj
   by_cases hg : z.slot ≤ y.slot
   ·have HF : Hid (Msg.rises (Msg.slots m.certs) = false) := by
     obtain ⟨h1, h2, h3⟩ := HZ.out
     subst h1
     exact Msg.rises_ne (i := j) (Msg.slots_at h3) (Msg.slots_at h2) (by omega)
    go_wp2
    go_region
    all_goals
     go_wp2
     go_ret
     exact ⟨ret_int (Msg.lists_1 HF.out).symm, HE.out.drew⟩
   ·have HA2 : Hid (∀ i x y', i + 1 < k + 1 → (Msg.slots m.certs)[i]? = some x → (Msg.slots m.certs)[i + 1]? = some y' → x < y') := by
     intro i x y' hi hx hy
     by_cases hik : i + 1 < k
     ·exact HA.out i x y' hik hx hy
     ·obtain ⟨h1, h2, h3⟩ := HZ.out
      have : i = j := by omega
      subst this
      subst h1
      have q1 := (Msg.slots_at h3)
      have q2 := (Msg.slots_at h2)
      rw [q1] at hx
      rw [q2] at hy
      cases hx
      cases hy
      omega
    go_wp2
    go_region
    all_goals
     go_wp2
     exact ⟨⟨k + 1, by omega, by omega, by go_num, HA2, HE.out.drew⟩, by simp [intOf]; omega⟩
  ·have H1 : Hid (Msg.rises (Msg.slots m.certs) = true) := Msg.rises_all (fun i x y hx hy => HA.out i x y (by have := (List.getElem?_eq_some_iff.1 hy).1; unfold Msg.slots at this; rw [List.length_map] at this; omega) hx hy)
   have HE1 : Hid (Ext w wr) := HE
   clear HA HE r1 r5 r6
   obtain ⟨r1, r5, r6⟩ := HW.out _ HE1.out
   go_wp2
   clear r1 r5 r6 hk hk1
   generalize hwr : wr = w11 at *
   clear hwr
   go_loopw [4] (fun i wr => ∃ (k : Nat), 1 ≤ k ∧ (k ≤ m.refs.length ∨ k = 1) ∧ i = .int .i64 k ∧ Hid (∀ j x y, j + 1 < k → m.refs[j]? = some x → m.refs[j + 1]? = some y → x < y) ∧ Hid (Ext w wr)) (fun i _ => m.refs.length - (intOf i).toNat)
   case atStart => exact ⟨1, by omega, Or.inr rfl, rfl, fun j x y h => by omega, HE1.out⟩
   case round =>
    obtain ⟨k, hk1, hk, rfl, HA, HE⟩ := hrel
    obtain ⟨r1, r5, r6⟩ := HW.out _ HE.out
    by_cases hlt : k < m.refs.length
    ·obtain ⟨j, hj⟩ : ∃ j, k = j + 1 := ⟨k - 1, by omega⟩
     have hjl : j < m.refs.length := by omega
     obtain ⟨z, hzk⟩ : ∃ z, m.refs[k]? = some z := ⟨_, List.getElem?_eq_getElem hlt⟩
     obtain ⟨y, hyk⟩ : ∃ y, m.refs[j]? = some y := ⟨_, List.getElem?_eq_getElem hjl⟩
     obtain ⟨b1, off, rfl, hb, hN⟩ := HX6.out (by omega)
     have d0 := hN.ext hb HE.out k z hzk
     have e0 := hN.ext hb HE.out j y hyk
     have hsub : IntKind.i64.wrap ((k : Int) - 1) = (j : Int) := by rw [IntKind.wrap_i64]; omega
     have HZ : Hid (k = j + 1 ∧ m.refs[k]? = some z ∧ m.refs[j]? = some y) := ⟨hj, hzk, hyk⟩
     clear hzk hyk hN hj
     by_cases hg : z ≤ y
     ·have HF : Hid (Msg.rises m.refs = false) := by
       obtain ⟨h1, h2, h3⟩ := HZ.out
       subst h1
       exact Msg.rises_ne (i := j) h3 h2 (by omega)
      go_wp2
      go_region
      all_goals
       go_wp2
       go_ret
       exact ⟨ret_int (Msg.lists_2 H1.out HF.out).symm, HE.out.drew⟩
     ·have HA2 : Hid (∀ i x y', i + 1 < k + 1 → m.refs[i]? = some x → m.refs[i + 1]? = some y' → x < y') := by
       intro i x y' hi hx hy
       by_cases hik : i + 1 < k
       ·exact HA.out i x y' hik hx hy
       ·obtain ⟨h1, h2, h3⟩ := HZ.out
        have : i = j := by omega
        subst this
        subst h1
        have q1 := h3
        have q2 := h2
        rw [q1] at hx
        rw [q2] at hy
        cases hx
        cases hy
        omega
      go_wp2
      go_region
      all_goals
       go_wp2
       exact ⟨⟨k + 1, by omega, by omega, by go_num, HA2, HE.out.drew⟩, by simp [intOf]; omega⟩
    ·have H2 : Hid (Msg.rises m.refs = true) := Msg.rises_all (fun i x y hx hy => HA.out i x y (by have := (List.getElem?_eq_some_iff.1 hy).1; omega) hx hy)
     have HE2 : Hid (Ext w wr) := HE
     clear HA HE r1 r5 r6
     obtain ⟨r1, r5, r6⟩ := HW.out _ HE2.out
     go_wp2
     clear r1 r5 r6 hk hk1
     generalize hwr : wr = w21 at *
     clear hwr
     go_loopw [5] (fun i wr => ∃ (k : Nat), k ≤ m.certs.length ∧ i = .int .i64 k ∧ Hid (∀ j c, j < k → m.certs[j]? = some c → Msg.certOk m.view c = true) ∧ Hid (Ext w wr)) (fun i _ => m.certs.length - (intOf i).toNat)
     case atStart => exact ⟨0, Nat.zero_le _, rfl, fun j c h => by omega, HE2.out⟩
     case round =>
      obtain ⟨k, hk, rfl, HA, HE⟩ := hrel
      obtain ⟨r1, r5, r6⟩ := HW.out _ HE.out
      by_cases hlt : k < m.certs.length
      ·obtain ⟨z, hzk⟩ : ∃ z, m.certs[k]? = some z := ⟨_, List.getElem?_eq_getElem hlt⟩
       obtain ⟨b1, off, rfl, hb, hN⟩ := HX5.out (by omega)
       obtain ⟨d0, d1, d2⟩ := hN.ext hb HE.out k z hzk
       have HZ : Hid (m.certs[k]? = some z) := hzk
       have hsub : IntKind.i64.wrap (m.view - 1) = m.view - 1 := by rw [IntKind.wrap_i64]; omega
       clear hzk hN
       go_wp2
       have HE0 : Hid (Ext w (wr.alloc (.cells #[.int .i64 z.slot, .int .i64 z.view, .int .i64 z.value] 57))) := HE.out.alloc _
       have HS0 : Hid ((fun W' : World => W'.cell? ⟨wr.heap.size, 0, none⟩ = some (.int .i64 z.slot) ∧ W'.cell? ⟨wr.heap.size, 1, none⟩ = some (.int .i64 z.view) ∧ W'.cell? ⟨wr.heap.size, 2, none⟩ = some (.int .i64 z.value) ∧ W'.cell? ⟨b, o + 1, none⟩ = some (.int .i64 m.view)) (wr.alloc (.cells #[.int .i64 z.slot, .int .i64 z.view, .int .i64 z.value] 57)).drew) := ⟨by simp, by simp, by simp, (HW.out _ (HE0.out.drew)).1⟩
       generalize hbx : wr.heap.size = bx at *
       generalize (wr.alloc (.cells #[.int .i64 z.slot, .int .i64 z.view, .int .i64 z.value] 57)) = W0 at *
       obtain ⟨q1, hq1⟩ : ∃ q, (decide (1 ≤ z.slot) && decide (z.slot ≤ 30)) = q := ⟨_, rfl⟩
       obtain ⟨q2, hq2⟩ : ∃ q, (decide (0 ≤ z.view) && decide (z.view ≤ m.view - 1)) = q := ⟨_, rfl⟩
       obtain ⟨q3, hq3⟩ : ∃ q, (decide (0 ≤ z.value) && decide (z.value ≤ 12)) = q := ⟨_, rfl⟩
       have HC1 : Hid (∀ wx : World, Calls Tryz.prog 57 #[.int .i64 z.slot, .int .i64 1, .int .i64 30] wx fun e w' => e = .returned (.bool q1) ∧ w' = wx) := fun wx => l1In_isM _ _ _ _ _ hq1
       have HC2 : Hid (∀ wx : World, Calls Tryz.prog 57 #[.int .i64 z.view, .int .i64 0, .int .i64 (m.view - 1)] wx fun e w' => e = .returned (.bool q2) ∧ w' = wx) := fun wx => l1In_isM _ _ _ _ _ hq2
       have HC3 : Hid (∀ wx : World, Calls Tryz.prog 57 #[.int .i64 z.value, .int .i64 0, .int .i64 12] wx fun e w' => e = .returned (.bool q3) ∧ w' = wx) := fun wx => l1In_isM _ _ _ _ _ hq3
       have HQ : Hid (Msg.certOk m.view z = (q1 && q2 && q3)) := by
        rw [← hq1, ← hq2, ← hq3]
        unfold Msg.certOk
        rw [Bool.eq_iff_iff]
        simp only [decide_eq_true_iff, Bool.and_eq_true]
        constructor
        ·intro h; exact ⟨⟨⟨h.1, h.2.1⟩, h.2.2.1, h.2.2.2.1⟩, h.2.2.2.2⟩
        ·intro h; exact ⟨h.1.1.1, h.1.1.2, h.1.2.1, h.1.2.2, h.2⟩
       have HF : Hid (Msg.certOk m.view z = false → Msg.lists m = 3) := fun h => Msg.lists_3 H1.out H2.out (Msg.parts_c HZ.out h)
       have HA2 : Hid (Msg.certOk m.view z = true → ∀ j c, j < k + 1 → m.certs[j]? = some c → Msg.certOk m.view c = true) := by
        intro h j c hj hc
        by_cases hjk : j = k
        ·subst hjk; rw [HZ.out] at hc; cases hc; exact h
        ·exact HA.out j c (by omega) hc
       clear hq1 hq2 hq3 r1 r5 r6 d0 d1 d2 HE hb hbx
       refine wp_region_held_drew (S := (fun W' : World => W'.cell? ⟨bx, 0, none⟩ = some (.int .i64 z.slot) ∧ W'.cell? ⟨bx, 1, none⟩ = some (.int .i64 z.view) ∧ W'.cell? ⟨bx, 2, none⟩ = some (.int .i64 z.value) ∧ W'.cell? ⟨b, o + 1, none⟩ = some (.int .i64 m.view))) (by kernel_rfl) HS0.out (fun hHeld => ?_)
       refine tk 0 ⟨some 76, .fieldAddr 57 (.tmp 6) 0, 0, oz0, #[], none⟩ ?_
       refine tk 1 ⟨some 77, .load 2 (.tmp 76), 2, oz0, #[⟨0, .data⟩], none⟩ ?_
       refine wpAnyH_ready (rs := [2]) (by kernel_rfl) (by simp) (AllReadyH.cons rfl (fun K hK => ?_) AllReadyH.nil)
       go_simp
       refine (HC1.out _).mono ?_
       rintro e w9 ⟨rfl, hw⟩
       rw [hw]
       clear hw w9
       refine hK.out _ _ HS0.out (fun hHeld1 => ?_)
       clear hK K
       cases q1
       ·refine tk 3 ⟨some 79, .unOp .not 4 (.tmp 78), 4, oz0, #[⟨2, .data⟩], none⟩ ?_
        refine tk 4 ⟨some 80, .move (.tmp 79), 4, oz0, #[⟨3, .data⟩, ⟨2, .chain⟩], none⟩ ?_
        refine tn 5 ⟨some 81, .fieldAddr 57 (.tmp 6) 1, 0, oz0, #[⟨4, .guard⟩], some (4, false)⟩ ?_
        refine tn 6 ⟨some 82, .load 2 (.tmp 81), 2, oz0, oy1, some (4, false)⟩ ?_
        refine tn 7 ⟨some 83, .move (.tmp 0), 97, oz0, #[⟨4, .guard⟩], some (4, false)⟩ ?_
        refine tn 8 ⟨some 84, .nilCheck (.tmp 83), 0, oz0, #[⟨7, .data⟩, ⟨4, .guard⟩], some (4, false)⟩ ?_
        refine tn 9 ⟨some 85, .fieldAddr 40 (.tmp 84) 1, 0, oz0, #[⟨8, .data⟩, ⟨4, .guard⟩], some (4, false)⟩ ?_
        refine tn 10 ⟨some 86, .load 2 (.tmp 85), 2, oz0, #[⟨9, .data⟩, ⟨4, .guard⟩], some (4, false)⟩ ?_
        refine tn 11 ⟨some 87, .binOp .sub 2 (.tmp 86) (.const (.int .i64 1)) 2, 2, oz0, #[⟨10, .data⟩, ⟨4, .guard⟩], some (4, false)⟩ ?_
        refine tn 12 ⟨some 88, .call ⟨.value (.func 57), #[.tmp 82, .const (.int .i64 0), .tmp 87], #[2, 2, 2]⟩, 4, oz0, #[⟨6, .data⟩, ⟨11, .data⟩, ⟨4, .chain⟩, ⟨4, .guard⟩], some (4, false)⟩ ?_
        refine tn 13 ⟨some 89, .unOp .not 4 (.tmp 88), 4, oz0, oy2, some (4, false)⟩ ?_
        refine tk 14 ⟨some 90, .pick (.tmp 80) (.const (.bool true)) (.tmp 89), 4, oz0, oy3, none⟩ ?_
        refine tk 15 ⟨some 91, .move (.tmp 90), 4, oz0, oy4, none⟩ ?_
        refine tn 16 ⟨some 92, .fieldAddr 57 (.tmp 6) 2, 0, oz0, oy5, some (15, false)⟩ ?_
        refine tn 17 ⟨some 93, .load 2 (.tmp 92), 2, oz0, oy6, some (15, false)⟩ ?_
        refine tn 18 ⟨some 94, .call ⟨.value (.func 57), #[.tmp 93, .const (.int .i64 0), .const (.int .i64 12)], #[2, 2, 2]⟩, 4, oz0, #[⟨17, .data⟩, ⟨15, .chain⟩, ⟨15, .guard⟩], some (15, false)⟩ ?_
        refine tn 19 ⟨some 95, .unOp .not 4 (.tmp 94), 4, oz0, oy7, some (15, false)⟩ ?_
        refine tk 20 ⟨some 96, .pick (.tmp 91) (.const (.bool true)) (.tmp 95), 4, oz0, oy8, none⟩ ?_
        refine wpAnyH_done (by kernel_rfl) ?_ _
        go_wp2
        go_ret
        exact ⟨ret_int (HF.out (by rw [HQ.out]; rfl)).symm, HE0.out.drew⟩
       ·refine tk 3 ⟨some 79, .unOp .not 4 (.tmp 78), 4, oz0, #[⟨2, .data⟩], none⟩ ?_
        refine tk 4 ⟨some 80, .move (.tmp 79), 4, oz0, #[⟨3, .data⟩, ⟨2, .chain⟩], none⟩ ?_
        refine tk 5 ⟨some 81, .fieldAddr 57 (.tmp 6) 1, 0, oz0, #[⟨4, .guard⟩], some (4, false)⟩ ?_
        refine tk 6 ⟨some 82, .load 2 (.tmp 81), 2, oz0, oy1, some (4, false)⟩ ?_
        refine tk 7 ⟨some 83, .move (.tmp 0), 97, oz0, #[⟨4, .guard⟩], some (4, false)⟩ ?_
        refine tk 8 ⟨some 84, .nilCheck (.tmp 83), 0, oz0, #[⟨7, .data⟩, ⟨4, .guard⟩], some (4, false)⟩ ?_
        refine tk 9 ⟨some 85, .fieldAddr 40 (.tmp 84) 1, 0, oz0, #[⟨8, .data⟩, ⟨4, .guard⟩], some (4, false)⟩ ?_
        refine tk 10 ⟨some 86, .load 2 (.tmp 85), 2, oz0, #[⟨9, .data⟩, ⟨4, .guard⟩], some (4, false)⟩ ?_
        refine tk 11 ⟨some 87, .binOp .sub 2 (.tmp 86) (.const (.int .i64 1)) 2, 2, oz0, #[⟨10, .data⟩, ⟨4, .guard⟩], some (4, false)⟩ ?_
        refine wpAnyH_ready (rs := [12]) (by kernel_rfl) (by simp) (AllReadyH.cons rfl (fun K hK => ?_) AllReadyH.nil)
        go_simp
        refine (HC2.out _).mono ?_
        rintro e w9 ⟨rfl, hw⟩
        rw [hw]
        clear hw w9
        refine hK.out _ _ HS0.out (fun hHeld2 => ?_)
        clear hK K
        cases q2
        ·refine tk 13 ⟨some 89, .unOp .not 4 (.tmp 88), 4, oz0, oy2, some (4, false)⟩ ?_
         refine tk 14 ⟨some 90, .pick (.tmp 80) (.const (.bool true)) (.tmp 89), 4, oz0, oy3, none⟩ ?_
         refine tk 15 ⟨some 91, .move (.tmp 90), 4, oz0, oy4, none⟩ ?_
         refine tn 16 ⟨some 92, .fieldAddr 57 (.tmp 6) 2, 0, oz0, oy5, some (15, false)⟩ ?_
         refine tn 17 ⟨some 93, .load 2 (.tmp 92), 2, oz0, oy6, some (15, false)⟩ ?_
         refine tn 18 ⟨some 94, .call ⟨.value (.func 57), #[.tmp 93, .const (.int .i64 0), .const (.int .i64 12)], #[2, 2, 2]⟩, 4, oz0, #[⟨17, .data⟩, ⟨15, .chain⟩, ⟨15, .guard⟩], some (15, false)⟩ ?_
         refine tn 19 ⟨some 95, .unOp .not 4 (.tmp 94), 4, oz0, oy7, some (15, false)⟩ ?_
         refine tk 20 ⟨some 96, .pick (.tmp 91) (.const (.bool true)) (.tmp 95), 4, oz0, oy8, none⟩ ?_
         refine wpAnyH_done (by kernel_rfl) ?_ _
         go_wp2
         go_ret
         exact ⟨ret_int (HF.out (by rw [HQ.out]; rfl)).symm, HE0.out.drew⟩
        ·refine tk 13 ⟨some 89, .unOp .not 4 (.tmp 88), 4, oz0, oy2, some (4, false)⟩ ?_
         refine tk 14 ⟨some 90, .pick (.tmp 80) (.const (.bool true)) (.tmp 89), 4, oz0, oy3, none⟩ ?_
         refine tk 15 ⟨some 91, .move (.tmp 90), 4, oz0, oy4, none⟩ ?_
         refine tk 16 ⟨some 92, .fieldAddr 57 (.tmp 6) 2, 0, oz0, oy5, some (15, false)⟩ ?_
         refine tk 17 ⟨some 93, .load 2 (.tmp 92), 2, oz0, oy6, some (15, false)⟩ ?_
         refine wpAnyH_ready (rs := [18]) (by kernel_rfl) (by simp) (AllReadyH.cons rfl (fun K hK => ?_) AllReadyH.nil)
         go_simp
         refine (HC3.out _).mono ?_
         rintro e w9 ⟨rfl, hw⟩
         rw [hw]
         clear hw w9
         refine hK.out _ _ HS0.out (fun hHeld3 => ?_)
         clear hK K
         cases q3
         ·refine tk 19 ⟨some 95, .unOp .not 4 (.tmp 94), 4, oz0, oy7, some (15, false)⟩ ?_
          refine tk 20 ⟨some 96, .pick (.tmp 91) (.const (.bool true)) (.tmp 95), 4, oz0, oy8, none⟩ ?_
          refine wpAnyH_done (by kernel_rfl) ?_ _
          go_wp2
          go_ret
          exact ⟨ret_int (HF.out (by rw [HQ.out]; rfl)).symm, HE0.out.drew⟩
         ·refine tk 19 ⟨some 95, .unOp .not 4 (.tmp 94), 4, oz0, oy7, some (15, false)⟩ ?_
          refine tk 20 ⟨some 96, .pick (.tmp 91) (.const (.bool true)) (.tmp 95), 4, oz0, oy8, none⟩ ?_
          refine wpAnyH_done (by kernel_rfl) ?_ _
          go_wp2
          exact ⟨⟨k + 1, by omega, by go_num, HA2.out (by rw [HQ.out]; rfl), HE0.out.drew⟩, by simp [intOf]; omega⟩
      ·have H3 : Hid (∀ (i : Nat) c, i < m.certs.length → m.certs[i]? = some c → Msg.certOk m.view c = true) := fun i c hi hc => HA.out i c (by omega) hc
       have HE3 : Hid (Ext w wr) := HE
       clear HA HE r1 r5 r6
       obtain ⟨r1, r5, r6⟩ := HW.out _ HE3.out
       go_wp2
       clear r1 r5 r6
       generalize hwr : wr = w7 at *
       clear hwr
       go_loopw [7] (fun i wr => ∃ (k : Nat), k ≤ m.refs.length ∧ i = .int .i64 k ∧ Hid (∀ j r, j < k → m.refs[j]? = some r → Msg.refOk r = true) ∧ Hid (Ext w wr)) (fun i _ => m.refs.length - (intOf i).toNat)
       case atStart => exact ⟨0, Nat.zero_le _, rfl, fun j r h => by omega, HE3.out⟩
       case round =>
        obtain ⟨k, hk, rfl, HA, HE⟩ := hrel
        obtain ⟨r1, r5, r6⟩ := HW.out _ HE.out
        by_cases hlt : k < m.refs.length
        ·obtain ⟨z, hzk⟩ : ∃ z, m.refs[k]? = some z := ⟨_, List.getElem?_eq_getElem hlt⟩
         obtain ⟨b1, off, rfl, hb, hN⟩ := HX6.out (by omega)
         have d0 := hN.ext hb HE.out k z hzk
         have HZ : Hid (m.refs[k]? = some z) := hzk
         clear hzk hN
         cases hq : Msg.refOk z with
         | false =>
          have HF : Hid (Msg.lists m = 3) := Msg.lists_3 H1.out H2.out (Msg.parts_r HZ.out hq)
          have hq2 : (decide (0 ≤ z) && decide (z ≤ 239)) = false := by unfold Msg.refOk at hq; rw [decide_eq_false_iff_not] at hq; rw [Bool.and_eq_false_iff]; simp; omega
          go_wp2_with fail
          refine (l1In_isM _ _ _ _ _ hq2).mono ?_
          rintro e w9 ⟨rfl, hw⟩
          rw [hw]
          clear hw w9 hq hq2
          go_wp2
          go_ret
          exact ⟨ret_int HF.out.symm, HE.out⟩
         | true =>
          have hq2 : (decide (0 ≤ z) && decide (z ≤ 239)) = true := by unfold Msg.refOk at hq; rw [decide_eq_true_iff] at hq; simp; omega
          have HA2 : Hid (∀ j r, j < k + 1 → m.refs[j]? = some r → Msg.refOk r = true) := by
           intro j r hj hr
           by_cases hjk : j = k
           ·subst hjk; rw [HZ.out] at hr; cases hr; exact hq
           ·exact HA.out j r (by omega) hr
          go_wp2_with fail
          refine (l1In_isM _ _ _ _ _ hq2).mono ?_
          rintro e w9 ⟨rfl, hw⟩
          rw [hw]
          clear hw w9 hq hq2
          go_wp2
          exact ⟨⟨k + 1, by omega, by go_num, HA2, HE.out⟩, by simp [intOf]; omega⟩
        ·have HF : Hid (Msg.lists m = 0) := Msg.lists_4 H1.out H2.out (Msg.parts_all H3.out (fun i r hi hr => HA.out i r (by omega) hr))
         go_wp2
         go_ret
         exact ⟨ret_int HF.out.symm, HE.out⟩
end Go.Proofs.YtecgjdgfjgcmdaaGreat
namespace Go.Proofs.YtecgjdgfjgcmdaaGreat
open Go.RowKit
theorem Msg.faultM_1 {f : Int} {m : Ms} (h : Msg.bareN m.kind m.slot m.value m.certs.length m.refs.length = false) : Msg.faultM f m = 1 := by unfold Msg.faultM; rw [if_pos h]
theorem Msg.faultM_2 {f : Int} {m : Ms} (h : Msg.bareN m.kind m.slot m.value m.certs.length m.refs.length = true) (h2 : Msg.boundsN f m.kind m.view m.from_ m.slot m.value = false) : Msg.faultM f m = 3 := by unfold Msg.faultM; rw [if_neg (by simp [h]), if_pos h2]
theorem Msg.faultM_3 {f : Int} {m : Ms} (h : Msg.bareN m.kind m.slot m.value m.certs.length m.refs.length = true) (h2 : Msg.boundsN f m.kind m.view m.from_ m.slot m.value = true) (h3 : Msg.manyN f m.certs.length m.refs.length = true) : Msg.faultM f m = 2 := by unfold Msg.faultM; rw [if_neg (by simp [h]), if_neg (by simp [h2]), if_pos h3]
theorem Msg.faultM_4 {f : Int} {m : Ms} (h : Msg.bareN m.kind m.slot m.value m.certs.length m.refs.length = true) (h2 : Msg.boundsN f m.kind m.view m.from_ m.slot m.value = true) (h3 : Msg.manyN f m.certs.length m.refs.length = false) : Msg.faultM f m = Msg.lists m := by unfold Msg.faultM; rw [if_neg (by simp [h]), if_neg (by simp [h2]), if_neg (by simp [h3])]
theorem Msg.fault_1 {f : Int} {m : Ms} (h : Msg.fOk f = false) : Msg.fault f m = 3 := by unfold Msg.fault; rw [if_pos h]
theorem Msg.fault_2 {f : Int} {m : Ms} (h : Msg.fOk f = true) : Msg.fault f m = Msg.faultM f m := by unfold Msg.fault; rw [if_neg (by simp [h])]
set_option maxHeartbeats 20000000 in
set_option maxRecDepth 100000 in
theorem l8Msg_any (f : Int) (m : Ms) (v u : Value) (b o : Nat) (w : World) (hf0 : 1 ≤ f) (hf1 : f ≤ 2) (hb1 : b < w.heap.size) (hm : MCs w b o m v u) (hS : MLs w v u m) :
  Calls Tryz.prog 168 #[.int .i64 f, .pointer (some ⟨b, o, none⟩)] w fun e w' => e = .returned (.int .i64 (Msg.faultM f m)) ∧ Ext w w' := by
 have HLi : Hid (0 ≤ m.view → m.view ≤ 20 → Calls Tryz.prog 184 #[.pointer (some ⟨b, o, none⟩)] w fun e w' => e = .returned (.int .i64 (Msg.lists m)) ∧ Ext w w') := fun h0 h1 => l8Lists_any m v u b o w hb1 hm hS h0 h1
 obtain ⟨a, c, a', c', rfl, rfl, hc1, hc2, hc3, hc4⟩ := hS.form
 unfold maxLen at hc2 hc4
 clear hS
 obtain ⟨p0, p1, p2, p3, p4, p5, p6⟩ := hm
 have HBa : Hid (Calls Tryz.prog 183 #[.pointer (some ⟨b, o, none⟩)] w fun e w' => e = .returned (.bool (Msg.bareN m.kind m.slot m.value m.certs.length m.refs.length)) ∧ w' = w) := l8Bare_any m.kind m.slot m.value m.certs.length m.refs.length _ _ _ _ b o w ⟨p0, p3, p4, p5, p6⟩
 have e1 : IntKind.i64.wrap (3 * f) = 3 * f := by rw [IntKind.wrap_i64]; omega
 have e2 : IntKind.i64.wrap (3 * f + 1) = 3 * f + 1 := by rw [IntKind.wrap_i64]; omega
 have e3 : IntKind.i64.wrap (m.refs.length : Int) = (m.refs.length : Int) := by rw [IntKind.wrap_i64]; omega
 cases hb0 : Msg.bareN m.kind m.slot m.value m.certs.length m.refs.length with
 | false =>
  rw [hb0] at HBa
  have HF : Hid (Msg.faultM f m = 1) := Msg.faultM_1 hb0
  clear hb0 HLi
  go_enter Tryz.func168, Tryz.ntmps168
  go_wp2_with fail
  refine (HBa.out).mono ?_
  rintro e w9 ⟨rfl, hw⟩
  rw [hw]
  clear hw w9
  go_wp2
  go_ret
  exact ⟨ret_int HF.out.symm, Ext.refl _⟩
 | true =>
  rw [hb0] at HBa
  by_cases hv : 0 ≤ m.view ∧ m.view ≤ 20
  ·have qv : (decide (0 ≤ m.view) && decide (m.view ≤ 20)) = true := by simp; omega
   by_cases hfr : 1 ≤ m.from_ ∧ m.from_ ≤ 3 * f + 1
   ·have qf : (decide (1 ≤ m.from_) && decide (m.from_ ≤ 3 * f + 1)) = true := by simp; omega
    by_cases hk : m.kind ≤ 3
    ·by_cases hs : 1 ≤ m.slot ∧ m.slot ≤ 30
     ·have qs : (decide (1 ≤ m.slot) && decide (m.slot ≤ 30)) = true := by simp; omega
      by_cases hu : 0 ≤ m.value ∧ m.value ≤ 12
      ·have qu : (decide (0 ≤ m.value) && decide (m.value ≤ 12)) = true := by simp; omega
       have hB : Msg.boundsN f m.kind m.view m.from_ m.slot m.value = true := decide_eq_true (by omega)
       by_cases hc : 30 < m.certs.length
       ·have hM : Msg.manyN f m.certs.length m.refs.length = true := decide_eq_true (by omega)
        have HF : Hid (Msg.faultM f m = 2) := Msg.faultM_3 hb0 hB hM
        go_enter Tryz.func168, Tryz.ntmps168
        go_wp2_with fail
        refine (HBa.out).mono ?_
        rintro e w9 ⟨rfl, hw⟩
        rw [hw]
        clear hw w9
        go_wp2_with fail
        refine (l1In_isM _ _ _ _ _ qv).mono ?_
        rintro e w9 ⟨rfl, hw⟩
        rw [hw]
        clear hw w9
        go_wp2_with fail
        refine (l8Id_any _ _ _ _ hf0 hf1 qf).mono ?_
        rintro e w9 ⟨rfl, hw⟩
        rw [hw]
        clear hw w9
        go_wp2_with fail
        refine (l1In_isM _ _ _ _ _ qs).mono ?_
        rintro e w9 ⟨rfl, hw⟩
        rw [hw]
        clear hw w9
        go_wp2_with fail
        refine (l1In_isM _ _ _ _ _ qu).mono ?_
        rintro e w9 ⟨rfl, hw⟩
        rw [hw]
        clear hw w9
        go_wp2
        go_ret
        exact ⟨ret_int HF.out.symm, Ext.refl _⟩
       ·by_cases hr : 3 * f + 1 < m.refs.length
        ·have hM : Msg.manyN f m.certs.length m.refs.length = true := decide_eq_true (by omega)
         have HF : Hid (Msg.faultM f m = 2) := Msg.faultM_3 hb0 hB hM
         go_enter Tryz.func168, Tryz.ntmps168
         go_wp2_with fail
         refine (HBa.out).mono ?_
         rintro e w9 ⟨rfl, hw⟩
         rw [hw]
         clear hw w9
         go_wp2_with fail
         refine (l1In_isM _ _ _ _ _ qv).mono ?_
         rintro e w9 ⟨rfl, hw⟩
         rw [hw]
         clear hw w9
         go_wp2_with fail
         refine (l8Id_any _ _ _ _ hf0 hf1 qf).mono ?_
         rintro e w9 ⟨rfl, hw⟩
         rw [hw]
         clear hw w9
         go_wp2_with fail
         refine (l1In_isM _ _ _ _ _ qs).mono ?_
         rintro e w9 ⟨rfl, hw⟩
         rw [hw]
         clear hw w9
         go_wp2_with fail
         refine (l1In_isM _ _ _ _ _ qu).mono ?_
         rintro e w9 ⟨rfl, hw⟩
         rw [hw]
         clear hw w9
         go_wp2
         go_ret
         exact ⟨ret_int HF.out.symm, Ext.refl _⟩
        ·have hM : Msg.manyN f m.certs.length m.refs.length = false := decide_eq_false (by omega)
         have HL := HLi.out (by omega) (by omega)
         have HF : Hid (Msg.faultM f m = Msg.lists m) := Msg.faultM_4 hb0 hB hM
         generalize Msg.lists m = R at *
         go_enter Tryz.func168, Tryz.ntmps168
         go_wp2_with fail
         refine (HBa.out).mono ?_
         rintro e w9 ⟨rfl, hw⟩
         rw [hw]
         clear hw w9
         go_wp2_with fail
         refine (l1In_isM _ _ _ _ _ qv).mono ?_
         rintro e w9 ⟨rfl, hw⟩
         rw [hw]
         clear hw w9
         go_wp2_with fail
         refine (l8Id_any _ _ _ _ hf0 hf1 qf).mono ?_
         rintro e w9 ⟨rfl, hw⟩
         rw [hw]
         clear hw w9
         go_wp2_with fail
         refine (l1In_isM _ _ _ _ _ qs).mono ?_
         rintro e w9 ⟨rfl, hw⟩
         rw [hw]
         clear hw w9
         go_wp2_with fail
         refine (l1In_isM _ _ _ _ _ qu).mono ?_
         rintro e w9 ⟨rfl, hw⟩
         rw [hw]
         clear hw w9
         go_wp2_with fail
         refine HL.mono ?_
         rintro e w9 ⟨rfl, hb⟩
         have HB9 : Hid (Ext w w9) := hb
         clear hb
         go_wp2
         go_ret
         exact ⟨ret_int HF.out.symm, HB9.out⟩
      ·have qu : (decide (0 ≤ m.value) && decide (m.value ≤ 12)) = false := by rw [Bool.and_eq_false_iff]; simp; omega
       have hB : Msg.boundsN f m.kind m.view m.from_ m.slot m.value = false := decide_eq_false (by omega)
       have HF : Hid (Msg.faultM f m = 3) := Msg.faultM_2 hb0 hB
       go_enter Tryz.func168, Tryz.ntmps168
       go_wp2_with fail
       refine (HBa.out).mono ?_
       rintro e w9 ⟨rfl, hw⟩
       rw [hw]
       clear hw w9
       go_wp2_with fail
       refine (l1In_isM _ _ _ _ _ qv).mono ?_
       rintro e w9 ⟨rfl, hw⟩
       rw [hw]
       clear hw w9
       go_wp2_with fail
       refine (l8Id_any _ _ _ _ hf0 hf1 qf).mono ?_
       rintro e w9 ⟨rfl, hw⟩
       rw [hw]
       clear hw w9
       go_wp2_with fail
       refine (l1In_isM _ _ _ _ _ qs).mono ?_
       rintro e w9 ⟨rfl, hw⟩
       rw [hw]
       clear hw w9
       go_wp2_with fail
       refine (l1In_isM _ _ _ _ _ qu).mono ?_
       rintro e w9 ⟨rfl, hw⟩
       rw [hw]
       clear hw w9
       go_wp2
       go_ret
       exact ⟨ret_int HF.out.symm, Ext.refl _⟩
     ·have qs : (decide (1 ≤ m.slot) && decide (m.slot ≤ 30)) = false := by rw [Bool.and_eq_false_iff]; simp; omega
      have hB : Msg.boundsN f m.kind m.view m.from_ m.slot m.value = false := decide_eq_false (by omega)
      have HF : Hid (Msg.faultM f m = 3) := Msg.faultM_2 hb0 hB
      go_enter Tryz.func168, Tryz.ntmps168
      go_wp2_with fail
      refine (HBa.out).mono ?_
      rintro e w9 ⟨rfl, hw⟩
      rw [hw]
      clear hw w9
      go_wp2_with fail
      refine (l1In_isM _ _ _ _ _ qv).mono ?_
      rintro e w9 ⟨rfl, hw⟩
      rw [hw]
      clear hw w9
      go_wp2_with fail
      refine (l8Id_any _ _ _ _ hf0 hf1 qf).mono ?_
      rintro e w9 ⟨rfl, hw⟩
      rw [hw]
      clear hw w9
      go_wp2_with fail
      refine (l1In_isM _ _ _ _ _ qs).mono ?_
      rintro e w9 ⟨rfl, hw⟩
      rw [hw]
      clear hw w9
      go_wp2
      go_ret
      exact ⟨ret_int HF.out.symm, Ext.refl _⟩
    ·have hB : Msg.boundsN f m.kind m.view m.from_ m.slot m.value = true := decide_eq_true (by omega)
     by_cases hc : 30 < m.certs.length
     ·have hM : Msg.manyN f m.certs.length m.refs.length = true := decide_eq_true (by omega)
      have HF : Hid (Msg.faultM f m = 2) := Msg.faultM_3 hb0 hB hM
      go_enter Tryz.func168, Tryz.ntmps168
      go_wp2_with fail
      refine (HBa.out).mono ?_
      rintro e w9 ⟨rfl, hw⟩
      rw [hw]
      clear hw w9
      go_wp2_with fail
      refine (l1In_isM _ _ _ _ _ qv).mono ?_
      rintro e w9 ⟨rfl, hw⟩
      rw [hw]
      clear hw w9
      go_wp2_with fail
      refine (l8Id_any _ _ _ _ hf0 hf1 qf).mono ?_
      rintro e w9 ⟨rfl, hw⟩
      rw [hw]
      clear hw w9
      go_wp2
      go_ret
      exact ⟨ret_int HF.out.symm, Ext.refl _⟩
     ·by_cases hr : 3 * f + 1 < m.refs.length
      ·have hM : Msg.manyN f m.certs.length m.refs.length = true := decide_eq_true (by omega)
       have HF : Hid (Msg.faultM f m = 2) := Msg.faultM_3 hb0 hB hM
       go_enter Tryz.func168, Tryz.ntmps168
       go_wp2_with fail
       refine (HBa.out).mono ?_
       rintro e w9 ⟨rfl, hw⟩
       rw [hw]
       clear hw w9
       go_wp2_with fail
       refine (l1In_isM _ _ _ _ _ qv).mono ?_
       rintro e w9 ⟨rfl, hw⟩
       rw [hw]
       clear hw w9
       go_wp2_with fail
       refine (l8Id_any _ _ _ _ hf0 hf1 qf).mono ?_
       rintro e w9 ⟨rfl, hw⟩
       rw [hw]
       clear hw w9
       go_wp2
       go_ret
       exact ⟨ret_int HF.out.symm, Ext.refl _⟩
      ·have hM : Msg.manyN f m.certs.length m.refs.length = false := decide_eq_false (by omega)
       have HL := HLi.out (by omega) (by omega)
       have HF : Hid (Msg.faultM f m = Msg.lists m) := Msg.faultM_4 hb0 hB hM
       generalize Msg.lists m = R at *
       go_enter Tryz.func168, Tryz.ntmps168
       go_wp2_with fail
       refine (HBa.out).mono ?_
       rintro e w9 ⟨rfl, hw⟩
       rw [hw]
       clear hw w9
       go_wp2_with fail
       refine (l1In_isM _ _ _ _ _ qv).mono ?_
       rintro e w9 ⟨rfl, hw⟩
       rw [hw]
       clear hw w9
       go_wp2_with fail
       refine (l8Id_any _ _ _ _ hf0 hf1 qf).mono ?_
       rintro e w9 ⟨rfl, hw⟩
       rw [hw]
       clear hw w9
       go_wp2_with fail
       refine HL.mono ?_
       rintro e w9 ⟨rfl, hb⟩
       have HB9 : Hid (Ext w w9) := hb
       clear hb
       go_wp2
       go_ret
       exact ⟨ret_int HF.out.symm, HB9.out⟩
   ·have qf : (decide (1 ≤ m.from_) && decide (m.from_ ≤ 3 * f + 1)) = false := by rw [Bool.and_eq_false_iff]; simp; omega
    have hB : Msg.boundsN f m.kind m.view m.from_ m.slot m.value = false := decide_eq_false (by omega)
    have HF : Hid (Msg.faultM f m = 3) := Msg.faultM_2 hb0 hB
    go_enter Tryz.func168, Tryz.ntmps168
    go_wp2_with fail
    refine (HBa.out).mono ?_
    rintro e w9 ⟨rfl, hw⟩
    rw [hw]
    clear hw w9
    go_wp2_with fail
    refine (l1In_isM _ _ _ _ _ qv).mono ?_
    rintro e w9 ⟨rfl, hw⟩
    rw [hw]
    clear hw w9
    go_wp2_with fail
    refine (l8Id_any _ _ _ _ hf0 hf1 qf).mono ?_
    rintro e w9 ⟨rfl, hw⟩
    rw [hw]
    clear hw w9
    go_wp2
    go_ret
    exact ⟨ret_int HF.out.symm, Ext.refl _⟩
  ·have qv : (decide (0 ≤ m.view) && decide (m.view ≤ 20)) = false := by rw [Bool.and_eq_false_iff]; simp; omega
   have hB : Msg.boundsN f m.kind m.view m.from_ m.slot m.value = false := decide_eq_false (by omega)
   have HF : Hid (Msg.faultM f m = 3) := Msg.faultM_2 hb0 hB
   go_enter Tryz.func168, Tryz.ntmps168
   go_wp2_with fail
   refine (HBa.out).mono ?_
   rintro e w9 ⟨rfl, hw⟩
   rw [hw]
   clear hw w9
   go_wp2_with fail
   refine (l1In_isM _ _ _ _ _ qv).mono ?_
   rintro e w9 ⟨rfl, hw⟩
   rw [hw]
   clear hw w9
   go_wp2
   go_ret
   exact ⟨ret_int HF.out.symm, Ext.refl _⟩

end Go.Proofs.YtecgjdgfjgcmdaaGreat
