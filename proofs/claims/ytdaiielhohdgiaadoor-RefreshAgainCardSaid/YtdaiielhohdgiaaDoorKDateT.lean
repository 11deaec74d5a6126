/- The date layer's take: one letter of a form. -/
import Derived.Test.YtdaiielhohdgiaaDoorKDateA
import Derived.Test.YtdaiielhohdgiaaDoorKDateL
import Derived.OneCell
namespace Go.Proofs.YtdaiielhohdgiaaDoor
open Go.RowKit

/-- the reading r lies in block b -/
def RdIn (b : Nat) (r : Rd) (w : World) : Prop := w.heap[b]? = some (.cells (rdRow r.wd r.d r.m r.y r.h r.i r.s) 68 (0, 0))
theorem RdIn.lt {b : Nat} {r : Rd} {w : World} (h : RdIn b r w) : b < w.heap.size := lt_of_block h
theorem RdIn.cell {b : Nat} {r : Rd} {w : World} (h : RdIn b r w) {k : Nat} {v : Value} (hv : (rdRow r.wd r.d r.m r.y r.h r.i r.s)[k]? = some v) : w.cell? ⟨b, k, none⟩ = some v := by
  unfold RdIn at h; simp [World.cell?, h, hv]
theorem RdIn.free {b : Nat} {r : Rd} {w : World} (h : RdIn b r w) (k : Nat) : w.frozen? ⟨b, k, none⟩ = false := by
  unfold RdIn at h; simp [World.frozen?, h]
theorem RdIn.below {b : Nat} {r : Rd} {w w' : World} (h : RdIn b r w) (hb : Below w.heap.size w w') : RdIn b r w' := (hb.block b h.lt).trans h
theorem RdIn.set {b : Nat} {r r' : Rd} {w : World} (h : RdIn b r w) (k : Nat) (v : Value) (hv : (rdRow r.wd r.d r.m r.y r.h r.i r.s).setIfInBounds k v = rdRow r'.wd r'.d r'.m r'.y r'.h r'.i r'.s) : RdIn b r' (w.setCell ⟨b, k, none⟩ v) := by
  have hlt := h.lt
  have h' : w.heap[b] = .cells (rdRow r.wd r.d r.m r.y r.h r.i r.s) 68 (0, 0) := by unfold RdIn at h; simpa [Array.getElem?_eq_getElem hlt] using h
  show (w.heap.modify b _)[b]? = _
  rw [Array.getElem?_eq_getElem (by simpa using hlt), Array.getElem_modify_self, h', ← hv]
  rfl
/-- all blocks of w but b stand in w' -/
structure KeptBut (b : Nat) (w w' : World) : Prop where
  os : w'.os = w.os
  tape : w'.tape = w.tape
  output : w'.output = w.output
  size : w.heap.size ≤ w'.heap.size
  block : ∀ k, k < w.heap.size → k ≠ b → w'.heap[k]? = w.heap[k]?
theorem KeptBut.of_below {b : Nat} {w w' : World} (h : Below w.heap.size w w') : KeptBut b w w' := ⟨h.os, h.tape, h.output, h.size, fun k hk _ => h.block k hk⟩
theorem KeptBut.set {b : Nat} {w w' : World} (h : KeptBut b w w') (k : Nat) (v : Value) : KeptBut b w (w'.setCell ⟨b, k, none⟩ v) :=
  ⟨h.os, h.tape, h.output, by simp [World.setCell]; exact h.size, fun i hi hb => (Below.heap_setCell _ _ _ _ hb).trans (h.block i hi hb)⟩
theorem KeptBut.to_below {b B : Nat} {w w' : World} (h : KeptBut b w w') (hB : B ≤ b) (hB2 : B ≤ w.heap.size) : Below B w w' := ⟨h.os, h.tape, h.output, h.size, fun k hk => h.block k (by omega) (by omega)⟩
/-- what a letter leaves -/
def TakeQ (b : Nat) (w : World) (q : Rd × Nat) (e : Ending) (w' : World) : Prop := e = .returned (.int .i64 q.2) ∧ RdIn b q.1 w' ∧ KeptBut b w w'
theorem numV_100 (l : List UInt8) : (numV l 2).1 < 100 := by
  unfold numV
  split
  · rename_i h
    unfold numB at h
    rw [Bool.and_eq_true] at h
    exact Nat.lt_of_lt_of_le (num_lt _ h.2) (by rw [show (100 : Nat) = 10 ^ 2 from rfl]; exact Nat.pow_le_pow_right (by omega) (List.length_take_le _ _))
  · exact (by omega : 0 < 100)
theorem rdIn_cells {b : Nat} {r : Rd} {w : World} (h : RdIn b r w) : w.cell? ⟨b, 0, none⟩ = some (.int .i64 r.wd) ∧ w.cell? ⟨b, 1, none⟩ = some (.int .i64 r.d) ∧ w.cell? ⟨b, 2, none⟩ = some (.int .i64 r.m) ∧ w.cell? ⟨b, 3, none⟩ = some (.int .i64 r.y) ∧
    w.cell? ⟨b, 4, none⟩ = some (.int .i64 r.h) ∧ w.cell? ⟨b, 5, none⟩ = some (.int .i64 r.i) ∧ w.cell? ⟨b, 6, none⟩ = some (.int .i64 r.s) :=
  ⟨h.cell rfl, h.cell rfl, h.cell rfl, h.cell rfl, h.cell rfl, h.cell rfl, h.cell rfl⟩

set_option maxHeartbeats 1000000 in
theorem take_119 (b : Nat) (s : ByteArray) (nw : Int) (r : Rd) (w : World) (hr : RdIn b r w) (ht : Tabs w) :
    Calls Tryd.prog 46 #[.pointer (some ⟨b, 0, none⟩), .int .i32 119, .string s, .int .i64 nw] w (TakeQ b w (takeL 119 s.data.toList nw r)) := by
  have HR := Lib.hid hr
  clear hr
  have HT := Lib.hid ht
  clear ht
  go_enter Tryd.func46, Tryd.ntmps46
  go_wp2_with fail
  refine (leading_any _ _ sDays _ (by decide) (by decide) (by decide) (by decide) (by decide) HT.out).mono ?_
  rintro e w1 ⟨rfl, hb⟩
  have HR1 := Lib.hid (HR.out.below hb)
  have HB := Lib.hid hb
  clear hb
  have hc := HR1.out.cell (k := 0) rfl
  have hf := HR1.out.free 0
  go_wp2_with fail
  go_ret
  exact ⟨rfl, HR1.out.set 0 _ rfl, (KeptBut.of_below HB.out).set 0 _⟩

set_option maxHeartbeats 1000000 in
theorem take_87 (b : Nat) (s : ByteArray) (nw : Int) (r : Rd) (w : World) (hr : RdIn b r w) (ht : Tabs w) :
    Calls Tryd.prog 46 #[.pointer (some ⟨b, 0, none⟩), .int .i32 87, .string s, .int .i64 nw] w (TakeQ b w (takeL 87 s.data.toList nw r)) := by
  have HR := Lib.hid hr
  clear hr
  have HT := Lib.hid ht
  clear ht
  go_enter Tryd.func46, Tryd.ntmps46
  go_wp2_with fail
  refine (leading_any _ _ lDays _ (by decide) (by decide) (by decide) (by decide) (by decide) HT.out).mono ?_
  rintro e w1 ⟨rfl, hb⟩
  have HR1 := Lib.hid (HR.out.below hb)
  have HB := Lib.hid hb
  clear hb
  have hc := HR1.out.cell (k := 0) rfl
  have hf := HR1.out.free 0
  go_wp2_with fail
  go_ret
  exact ⟨rfl, HR1.out.set 0 _ rfl, (KeptBut.of_below HB.out).set 0 _⟩

set_option maxHeartbeats 1000000 in
theorem take_100 (b : Nat) (s : ByteArray) (nw : Int) (r : Rd) (w : World) (hs : s.size ≤ maxLen) (hr : RdIn b r w) :
    Calls Tryd.prog 46 #[.pointer (some ⟨b, 0, none⟩), .int .i32 100, .string s, .int .i64 nw] w (TakeQ b w (takeL 100 s.data.toList nw r)) := by
  have HR := Lib.hid hr
  clear hr
  have hc := HR.out.cell (k := 1) rfl
  have hf := HR.out.free 1
  go_enter Tryd.func46, Tryd.ntmps46
  go_wp2_with fail
  refine (number_any _ 2 _ hs (by omega)).mono ?_
  rintro e w1 ⟨rfl, rfl⟩
  go_wp2_with fail
  go_ret
  exact ⟨rfl, HR.out.set 1 _ rfl, (KeptBut.of_below (Below.refl _ _)).set 1 _⟩

set_option maxHeartbeats 1000000 in
theorem take_101 (b : Nat) (s : ByteArray) (nw : Int) (r : Rd) (w : World) (hs : s.size ≤ maxLen) (hr : RdIn b r w) :
    Calls Tryd.prog 46 #[.pointer (some ⟨b, 0, none⟩), .int .i32 101, .string s, .int .i64 nw] w (TakeQ b w (takeL 101 s.data.toList nw r)) := by
  have HR := Lib.hid hr
  clear hr
  have hc := HR.out.cell (k := 1) rfl
  have hf := HR.out.free 1
  go_enter Tryd.func46, Tryd.ntmps46
  go_wp2_with fail
  refine (spaced_any _ _ hs).mono ?_
  rintro e w1 ⟨rfl, rfl⟩
  go_wp2_with fail
  go_ret
  exact ⟨rfl, HR.out.set 1 _ rfl, (KeptBut.of_below (Below.refl _ _)).set 1 _⟩

set_option maxHeartbeats 1000000 in
theorem take_109 (b : Nat) (s : ByteArray) (nw : Int) (r : Rd) (w : World) (hr : RdIn b r w) (ht : Tabs w) :
    Calls Tryd.prog 46 #[.pointer (some ⟨b, 0, none⟩), .int .i32 109, .string s, .int .i64 nw] w (TakeQ b w (takeL 109 s.data.toList nw r)) := by
  have HR := Lib.hid hr
  clear hr
  have HT := Lib.hid ht
  clear ht
  go_enter Tryd.func46, Tryd.ntmps46
  go_wp2_with fail
  refine (leading_any _ _ sMonths _ (by decide) (by decide) (by decide) (by decide) (by decide) HT.out).mono ?_
  rintro e w1 ⟨rfl, hb⟩
  have HR1 := Lib.hid (HR.out.below hb)
  have HB := Lib.hid hb
  clear hb
  have hc := HR1.out.cell (k := 2) rfl
  have hf := HR1.out.free 2
  go_wp2_with fail
  go_ret
  exact ⟨rfl, HR1.out.set 2 _ rfl, (KeptBut.of_below HB.out).set 2 _⟩

set_option maxHeartbeats 1000000 in
theorem take_89 (b : Nat) (s : ByteArray) (nw : Int) (r : Rd) (w : World) (hs : s.size ≤ maxLen) (hr : RdIn b r w) :
    Calls Tryd.prog 46 #[.pointer (some ⟨b, 0, none⟩), .int .i32 89, .string s, .int .i64 nw] w (TakeQ b w (takeL 89 s.data.toList nw r)) := by
  have HR := Lib.hid hr
  clear hr
  have hc := HR.out.cell (k := 3) rfl
  have hf := HR.out.free 3
  go_enter Tryd.func46, Tryd.ntmps46
  go_wp2_with fail
  refine (number_any _ 4 _ hs (by omega)).mono ?_
  rintro e w1 ⟨rfl, rfl⟩
  go_wp2_with fail
  go_ret
  exact ⟨rfl, HR.out.set 3 _ rfl, (KeptBut.of_below (Below.refl _ _)).set 3 _⟩

set_option maxHeartbeats 1000000 in
theorem take_104 (b : Nat) (s : ByteArray) (nw : Int) (r : Rd) (w : World) (hs : s.size ≤ maxLen) (hr : RdIn b r w) :
    Calls Tryd.prog 46 #[.pointer (some ⟨b, 0, none⟩), .int .i32 104, .string s, .int .i64 nw] w (TakeQ b w (takeL 104 s.data.toList nw r)) := by
  have HR := Lib.hid hr
  clear hr
  have hc := HR.out.cell (k := 4) rfl
  have hf := HR.out.free 4
  go_enter Tryd.func46, Tryd.ntmps46
  go_wp2_with fail
  refine (number_any _ 2 _ hs (by omega)).mono ?_
  rintro e w1 ⟨rfl, rfl⟩
  go_wp2_with fail
  go_ret
  exact ⟨rfl, HR.out.set 4 _ rfl, (KeptBut.of_below (Below.refl _ _)).set 4 _⟩

set_option maxHeartbeats 1000000 in
theorem take_105 (b : Nat) (s : ByteArray) (nw : Int) (r : Rd) (w : World) (hs : s.size ≤ maxLen) (hr : RdIn b r w) :
    Calls Tryd.prog 46 #[.pointer (some ⟨b, 0, none⟩), .int .i32 105, .string s, .int .i64 nw] w (TakeQ b w (takeL 105 s.data.toList nw r)) := by
  have HR := Lib.hid hr
  clear hr
  have hc := HR.out.cell (k := 5) rfl
  have hf := HR.out.free 5
  go_enter Tryd.func46, Tryd.ntmps46
  go_wp2_with fail
  refine (number_any _ 2 _ hs (by omega)).mono ?_
  rintro e w1 ⟨rfl, rfl⟩
  go_wp2_with fail
  go_ret
  exact ⟨rfl, HR.out.set 5 _ rfl, (KeptBut.of_below (Below.refl _ _)).set 5 _⟩

set_option maxHeartbeats 1000000 in
theorem take_115 (b : Nat) (s : ByteArray) (nw : Int) (r : Rd) (w : World) (hs : s.size ≤ maxLen) (hr : RdIn b r w) :
    Calls Tryd.prog 46 #[.pointer (some ⟨b, 0, none⟩), .int .i32 115, .string s, .int .i64 nw] w (TakeQ b w (takeL 115 s.data.toList nw r)) := by
  have HR := Lib.hid hr
  clear hr
  have hc := HR.out.cell (k := 6) rfl
  have hf := HR.out.free 6
  go_enter Tryd.func46, Tryd.ntmps46
  go_wp2_with fail
  refine (number_any _ 2 _ hs (by omega)).mono ?_
  rintro e w1 ⟨rfl, rfl⟩
  go_wp2_with fail
  go_ret
  exact ⟨rfl, HR.out.set 6 _ rfl, (KeptBut.of_below (Below.refl _ _)).set 6 _⟩

set_option maxHeartbeats 1000000 in
theorem take_121 (b : Nat) (s : ByteArray) (nw : Int) (r : Rd) (w : World) (hs : s.size ≤ maxLen) (hr : RdIn b r w) (n0 : 1000 ≤ nw) (n1 : nw ≤ 20000) :
    Calls Tryd.prog 46 #[.pointer (some ⟨b, 0, none⟩), .int .i32 121, .string s, .int .i64 nw] w (TakeQ b w (takeL 121 s.data.toList nw r)) := by
  have HR := Lib.hid hr
  clear hr
  have v1 := numV_100 s.data.toList
  obtain ⟨v, hv⟩ : ∃ v : Nat, (numV s.data.toList 2).1 = v := ⟨_, rfl⟩
  obtain ⟨z, hz⟩ : ∃ z : Nat, (numV s.data.toList 2).2 = z := ⟨_, rfl⟩
  rw [hv] at v1
  have HV := Lib.hid hv
  have HZ := Lib.hid hz
  clear hv hz
  have hc := HR.out.cell (k := 3) rfl
  have hf := HR.out.free 3
  go_enter Tryd.func46, Tryd.ntmps46
  go_wp2_with fail
  refine (number_any _ 2 _ hs (by omega)).mono ?_
  rw [HV.out, HZ.out]
  rintro e w1 ⟨rfl, rfl⟩
  go_wp2_with fail
  go_ret
  have e : (takeL 121 s.data.toList nw r) = ({ r with y := nw - (nw - (v : Int)) % 100 }, z) := by
    show (({ r with y := nw - (nw - ((numV s.data.toList 2).1 : Int)) % 100 } : Rd), (numV s.data.toList 2).2) = _
    rw [HV.out, HZ.out]
  rw [e]
  exact ⟨rfl, (HR.out.set (r' := { r with y := (v : Int) }) 3 _ rfl).set 3 _ rfl, ((KeptBut.of_below (Below.refl _ _)).set 3 _).set 3 _⟩

/-- a letter of a form that stands for itself -/
def litB (c : UInt8) : Bool := ![119, 87, 100, 101, 109, 89, 121, 104, 105, 115].contains c
theorem litB_ne {c : UInt8} (h : litB c = true) : ((c.toNat : Int) == 119) = false ∧ ((c.toNat : Int) == 87) = false ∧ ((c.toNat : Int) == 100) = false ∧ ((c.toNat : Int) == 101) = false ∧ ((c.toNat : Int) == 109) = false ∧ ((c.toNat : Int) == 89) = false ∧ ((c.toNat : Int) == 121) = false ∧ ((c.toNat : Int) == 104) = false ∧ ((c.toNat : Int) == 105) = false ∧ ((c.toNat : Int) == 115) = false := by
  unfold litB at h
  simp at h
  simp only [beq_eq_false_iff_ne]
  have k : ∀ n : Nat, n < 256 → c ≠ UInt8.ofNat n → (c.toNat : Int) ≠ (n : Int) := fun n hn h1 h2 => h1 (UInt8.toNat.inj (by rw [UInt8.toNat_ofNat']; omega))
  obtain ⟨a119, a87, a100, a101, a109, a89, a121, a104, a105, a115⟩ := h
  exact ⟨k 119 (by decide) a119, k 87 (by decide) a87, k 100 (by decide) a100, k 101 (by decide) a101, k 109 (by decide) a109, k 89 (by decide) a89, k 121 (by decide) a121, k 104 (by decide) a104, k 105 (by decide) a105, k 115 (by decide) a115⟩
theorem takeL_lit {c : UInt8} (h : litB c = true) (l : List UInt8) (nw : Int) (r : Rd) : takeL c l nw r = (r, if Lib.hasPrefix l [c] then 1 else 0) := by
  unfold litB at h
  simp at h
  obtain ⟨a119, a87, a100, a101, a109, a89, a121, a104, a105, a115⟩ := h
  unfold takeL
  rw [if_neg a119, if_neg a87, if_neg a100, if_neg a101, if_neg a109, if_neg a89, if_neg a121, if_neg a104, if_neg a105, if_neg a115]
theorem pre_nil {s : ByteArray} (h : s.data.toList = []) (c : UInt8) : Lib.hasPrefix s.data.toList [c] = false := by rw [h]; rfl
theorem pre_cons {s : ByteArray} (h : 0 < s.size) (c : UInt8) : Lib.hasPrefix s.data.toList [c] = (c == s[0]) := by
  rw [cons_of h]
  unfold Lib.hasPrefix
  simp [List.isPrefixOf]
set_option maxHeartbeats 1000000 in
theorem take_lit (b : Nat) (c : UInt8) (hl : litB c = true) (s : ByteArray) (nw : Int) (r : Rd) (w : World) (hr : RdIn b r w) :
    Calls Tryd.prog 46 #[.pointer (some ⟨b, 0, none⟩), .int .i32 c.toNat, .string s, .int .i64 nw] w (TakeQ b w (takeL c s.data.toList nw r)) := by
  have HR := Lib.hid hr
  have HL := Lib.hid (takeL_lit hl s.data.toList nw r)
  obtain ⟨c119, c87, c100, c101, c109, c89, c121, c104, c105, c115⟩ := litB_ne hl
  clear hr hl
  cases he : s.toList.isEmpty
  case true =>
    have hn : s.data.toList = [] := by rw [Lib.toList_data] at he; simpa using he
    have HP := Lib.hid (pre_nil hn c)
    clear hn
    go_enter Tryd.func46, Tryd.ntmps46
    go_wp2_with fail
    go_ret
    rw [HL.out, HP.out]
    exact ⟨rfl, HR.out, KeptBut.of_below (Below.refl _ _)⟩
  case false =>
  have hpos : 0 < s.size := by
    rcases Nat.eq_zero_or_pos s.size with h | h
    · have hn : s.data.toList = [] := List.eq_nil_of_length_eq_zero (by rw [← size_len]; exact h)
      rw [Lib.toList_data, hn] at he; cases he
    · exact h
  have HP := Lib.hid (pre_cons hpos c)
  have hb0 : 0 ≤ (s[0].toNat : Int) := by omega
  have hb1 : (s[0].toNat : Int) ≤ 255 := by have := s[0].toNat_lt; omega
  by_cases hc : c = s[0]
  · have hc2 : ((s[0].toNat : Int) == (c.toNat : Int)) = true := by rw [hc]; simp
    have HC : Hid ((c == s[0]) = true) := by show _ = _; rw [← hc]; simp
    clear hc
    go_enter Tryd.func46, Tryd.ntmps46
    go_wp2_with fail
    go_ret
    rw [HL.out, HP.out, HC.out]
    exact ⟨rfl, HR.out, KeptBut.of_below (Below.refl _ _)⟩
  · have hc2 : ((s[0].toNat : Int) == (c.toNat : Int)) = false := by
      rw [beq_eq_false_iff_ne]; exact fun h => hc (UInt8.toNat.inj (by omega))
    have HC : Hid ((c == s[0]) = false) := by show _ = _; rw [beq_eq_false_iff_ne]; exact hc
    clear hc
    go_enter Tryd.func46, Tryd.ntmps46
    go_wp2_with fail
    go_ret
    rw [HL.out, HP.out, HC.out]
    exact ⟨rfl, HR.out, KeptBut.of_below (Below.refl _ _)⟩

theorem take_any (b : Nat) (c : UInt8) (s : ByteArray) (nw : Int) (r : Rd) (w : World) (hs : s.size ≤ maxLen) (hr : RdIn b r w) (ht : Tabs w) (n0 : 1000 ≤ nw) (n1 : nw ≤ 20000) :
    Calls Tryd.prog 46 #[.pointer (some ⟨b, 0, none⟩), .int .i32 c.toNat, .string s, .int .i64 nw] w (TakeQ b w (takeL c s.data.toList nw r)) := by
  cases hl : litB c
  · unfold litB at hl
    simp at hl
    have hl2 : c = 119 ∨ c = 87 ∨ c = 100 ∨ c = 101 ∨ c = 109 ∨ c = 89 ∨ c = 121 ∨ c = 104 ∨ c = 105 ∨ c = 115 := by
      by_cases a1 : c = 119; · simp [a1]
      by_cases a2 : c = 87; · simp [a2]
      by_cases a3 : c = 100; · simp [a3]
      by_cases a4 : c = 101; · simp [a4]
      by_cases a5 : c = 109; · simp [a5]
      by_cases a6 : c = 89; · simp [a6]
      by_cases a7 : c = 121; · simp [a7]
      by_cases a8 : c = 104; · simp [a8]
      by_cases a9 : c = 105; · simp [a9]
      simp [hl a1 a2 a3 a4 a5 a6 a7 a8 a9]
    rcases hl2 with rfl | rfl | rfl | rfl | rfl | rfl | rfl | rfl | rfl | rfl
    · exact take_119 b s nw r w hr ht
    · exact take_87 b s nw r w hr ht
    · exact take_100 b s nw r w hs hr
    · exact take_101 b s nw r w hs hr
    · exact take_109 b s nw r w hr ht
    · exact take_89 b s nw r w hs hr
    · exact take_121 b s nw r w hs hr n0 n1
    · exact take_104 b s nw r w hs hr
    · exact take_105 b s nw r w hs hr
    · exact take_115 b s nw r w hs hr
  · exact take_lit b c hl s nw r w hr
end Go.Proofs.YtdaiielhohdgiaaDoor
