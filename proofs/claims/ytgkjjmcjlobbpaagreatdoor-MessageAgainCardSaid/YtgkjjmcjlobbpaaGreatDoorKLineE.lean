/- A request's line, read: six variables of the call's own (what is answered, the reader, where it lies), and the deferred call. -/
import Derived.Test.YtgkjjmcjlobbpaaGreatDoorKLineA
import Derived.Defers
import Derived.StillTailTactics
import Derived.RegionTactic
import Derived.ChangeAlike
namespace Go.Proofs.YtgkjjmcjlobbpaaGreatDoor
open Go.RowKit

theorem tail_drew {P : Program} {id : Nat} {Q : Exit → Act → World → Prop} {a : Act} {w : World} {l : List Oper} (n : Nat) (hm : P.follows .mixedOrders = true) (hB : Region.lexTailB .any l.toArray n = true)
    (h : wpStill P l.toArray w.drew (fun a' => wpList P l.toArray Q (l.drop n) a' w.drew) (l.take n) a) : (Code.region id l.toArray true).wp P Q a w :=
  wp_region_still_tail n hm hB h
/-- four variables from block B on, a reader, a variable that holds where it lies -/
structure Six (w : World) (B : Nat) (t0 t1 t2 : TypeId) (v0 v1 v2 : Value) (e : Int) (whole : List UInt8) (r : Rs) : Prop where
  b0 : w.heap[B]? = some (.cells #[v0] t0 (0, 0))
  b1 : w.heap[B + 1]? = some (.cells #[v1] t1 (0, 0))
  b2 : w.heap[B + 1 + 1]? = some (.cells #[v2] t2 (0, 0))
  b3 : w.heap[B + 1 + 1 + 1]? = some (.cells #[.int .i64 e] 26 (0, 0))
  rd : Rd w (B + 1 + 1 + 1 + 1) whole r
  br : w.heap[B + 1 + 1 + 1 + 1 + 1]? = some (.cells #[.pointer (some ⟨B + 1 + 1 + 1 + 1, 0, none⟩)] 160 (0, 0))
section
variable {w w' : World} {B : Nat} {t0 t1 t2 : TypeId} {v0 v1 v2 : Value} {e : Int} {whole : List UInt8} {r r' : Rs}
theorem Six.step (h : Six w B t0 t1 t2 v0 v1 v2 e whole r) (hr : Rd w' (B + 1 + 1 + 1 + 1) whole r') (hg : w.grownBy w' (some (B + 1 + 1 + 1 + 1))) : Six w' B t0 t1 t2 v0 v1 v2 e whole r' := by
  have k : ∀ j, B ≤ j → j ≤ B + 1 + 1 + 1 + 1 + 1 → j ≠ B + 1 + 1 + 1 + 1 → w'.heap[j]? = w.heap[j]? := fun j h1 h2 h3 => hg.block j (by have := lt_of_block h.br; omega) (by simpa using h3)
  exact ⟨(k _ (by omega) (by omega) (by omega)).trans h.b0, (k _ (by omega) (by omega) (by omega)).trans h.b1, (k _ (by omega) (by omega) (by omega)).trans h.b2, (k _ (by omega) (by omega) (by omega)).trans h.b3, hr, (k _ (by omega) (by omega) (by omega)).trans h.br⟩
theorem Six.keep (h : Six w B t0 t1 t2 v0 v1 v2 e whole r) (hg : Below w.heap.size w w') : Six w' B t0 t1 t2 v0 v1 v2 e whole r := by
  have k : ∀ j, j ≤ B + 1 + 1 + 1 + 1 + 1 → w'.heap[j]? = w.heap[j]? := fun j h2 => hg.block j (by have := lt_of_block h.br; omega)
  exact ⟨(k _ (by omega)).trans h.b0, (k _ (by omega)).trans h.b1, (k _ (by omega)).trans h.b2, (k _ (by omega)).trans h.b3, h.rd.keep (k _ (by omega)), (k _ (by omega)).trans h.br⟩
theorem Six.set0 (h : Six w B t0 t1 t2 v0 v1 v2 e whole r) (v : Value) : Six (w.setCell ⟨B, 0, none⟩ v) B t0 t1 t2 v v1 v2 e whole r := by
  have k : ∀ j, j ≠ B → (w.setCell ⟨B, 0, none⟩ v).heap[j]? = w.heap[j]? := fun j hj => Below.heap_setCell _ _ _ _ (by simpa using hj)
  exact ⟨one_setCell h.b0, (k _ (by omega)).trans h.b1, (k _ (by omega)).trans h.b2, (k _ (by omega)).trans h.b3, h.rd.keep (k _ (by omega)), (k _ (by omega)).trans h.br⟩
theorem Six.set1 (h : Six w B t0 t1 t2 v0 v1 v2 e whole r) (v : Value) : Six (w.setCell ⟨B + 1, 0, none⟩ v) B t0 t1 t2 v0 v v2 e whole r := by
  have k : ∀ j, j ≠ B + 1 → (w.setCell ⟨B + 1, 0, none⟩ v).heap[j]? = w.heap[j]? := fun j hj => Below.heap_setCell _ _ _ _ (by simpa using hj)
  exact ⟨(k _ (by omega)).trans h.b0, one_setCell h.b1, (k _ (by omega)).trans h.b2, (k _ (by omega)).trans h.b3, h.rd.keep (k _ (by omega)), (k _ (by omega)).trans h.br⟩
theorem Six.set2 (h : Six w B t0 t1 t2 v0 v1 v2 e whole r) (v : Value) : Six (w.setCell ⟨B + 1 + 1, 0, none⟩ v) B t0 t1 t2 v0 v1 v e whole r := by
  have k : ∀ j, j ≠ B + 1 + 1 → (w.setCell ⟨B + 1 + 1, 0, none⟩ v).heap[j]? = w.heap[j]? := fun j hj => Below.heap_setCell _ _ _ _ (by simpa using hj)
  exact ⟨(k _ (by omega)).trans h.b0, (k _ (by omega)).trans h.b1, one_setCell h.b2, (k _ (by omega)).trans h.b3, h.rd.keep (k _ (by omega)), (k _ (by omega)).trans h.br⟩
theorem Six.set3 (h : Six w B t0 t1 t2 v0 v1 v2 e whole r) (x : Int) : Six (w.setCell ⟨B + 1 + 1 + 1, 0, none⟩ (.int .i64 x)) B t0 t1 t2 v0 v1 v2 x whole r := by
  have k : ∀ j, j ≠ B + 1 + 1 + 1 → (w.setCell ⟨B + 1 + 1 + 1, 0, none⟩ (.int .i64 x)).heap[j]? = w.heap[j]? := fun j hj => Below.heap_setCell _ _ _ _ (by simpa using hj)
  exact ⟨(k _ (by omega)).trans h.b0, (k _ (by omega)).trans h.b1, (k _ (by omega)).trans h.b2, one_setCell h.b3, h.rd.keep (k _ (by omega)), (k _ (by omega)).trans h.br⟩
theorem Six.le (h : Six w B t0 t1 t2 v0 v1 v2 e whole r) : B ≤ w.heap.size := Nat.le_of_lt (lt_of_block h.b0)
theorem Env.one {b : Nat} {v v' : Value} {T : TypeId} (h : Env w) (hb : w.heap[b]? = some (.cells #[v] T (0, 0))) (hn : ∀ tp p, v ≠ .iface tp p) : Env (w.setCell ⟨b, 0, none⟩ v') := by
  obtain ⟨h1, ⟨q2, p2, h2⟩, ⟨q3, p3, h3⟩⟩ := h
  have key : ∀ (n : String) (cs : Array Value), w.var? Tryz.prog n = some cs → cs ≠ #[v] → (w.setCell ⟨b, 0, none⟩ v').var? Tryz.prog n = some cs := fun n cs hv hs => by
    refine var_keep hv fun g hgn hl => Below.heap_setCell _ _ _ _ ?_
    rintro rfl
    unfold World.var? at hv
    rw [hgn] at hv
    simp only [Option.bind_some] at hv
    rw [hb] at hv
    exact hs (Option.some.inj hv).symm
  refine ⟨?_, ⟨q2, p2, key _ _ h2 ?_⟩, ⟨q3, p3, key _ _ h3 ?_⟩⟩
  · unfold Lib.TabIs at *
    refine key _ _ h1 ?_
    intro hh
    have := congrArg Array.size hh
    simp [Lib.pow10Tab] at this
  · intro hh; simp at hh; exact hn _ _ hh.symm
  · intro hh; simp at hh; exact hn _ _ hh.symm
theorem Six.drew (h : Six w B t0 t1 t2 v0 v1 v2 e whole r) : Six w.drew B t0 t1 t2 v0 v1 v2 e whole r := ⟨h.b0, h.b1, h.b2, h.b3, h.rd, h.br⟩
theorem Six.cells (h : Six w B t0 t1 t2 v0 v1 v2 e whole r) :
    w.cell? ⟨B, 0, none⟩ = some v0 ∧ w.cell? ⟨B + 1, 0, none⟩ = some v1 ∧ w.cell? ⟨B + 1 + 1, 0, none⟩ = some v2 ∧ w.cell? ⟨B + 1 + 1 + 1, 0, none⟩ = some (.int .i64 e) ∧ w.cell? ⟨B + 1 + 1 + 1 + 1 + 1, 0, none⟩ = some (.pointer (some ⟨B + 1 + 1 + 1 + 1, 0, none⟩)) ∧
    w.frozen? ⟨B, 0, none⟩ = false ∧ w.frozen? ⟨B + 1, 0, none⟩ = false ∧ w.frozen? ⟨B + 1 + 1, 0, none⟩ = false ∧ w.frozen? ⟨B + 1 + 1 + 1, 0, none⟩ = false ∧ w.frozen? ⟨B + 1 + 1 + 1 + 1 + 1, 0, none⟩ = false :=
  ⟨cell_of_one h.b0, cell_of_one h.b1, cell_of_one h.b2, cell_of_one h.b3, cell_of_one h.br, free_of_one h.b0, free_of_one h.b1, free_of_one h.b2, free_of_one h.b3, free_of_one h.br⟩
end

theorem heap_alloc_old2 (w : World) (o : Obj) (b : Nat) {x : Obj} (h : w.heap[b]? = some x) : (w.alloc o).heap[b]? = some x := (Below.heap_alloc _ _ _ (lt_of_block h)).trans h
theorem heap_alloc_at (w : World) (o : Obj) (b : Nat) (h : b = w.heap.size) : (w.alloc o).heap[b]? = some o := by subst h; exact heap_alloc_new w o
theorem six_new (w : World) (t0 t1 t2 : TypeId) (v0 v1 v2 : Value) (s : ByteArray) : Six ((((((w.alloc (.cells #[v0] t0)).alloc (.cells #[v1] t1)).alloc (.cells #[v2] t2)).alloc (.cells #[.int .i64 0] 26)).alloc (.cells #[.string s, .string s, .bool false, .int .i64 0] 184)).alloc (.cells #[.pointer (some ⟨w.heap.size + 1 + 1 + 1 + 1, 0, none⟩)] 160)) w.heap.size t0 t1 t2 v0 v1 v2 0 s.data.toList (rs0 s.data.toList) :=
  ⟨heap_alloc_old2 _ _ _ (heap_alloc_old2 _ _ _ (heap_alloc_old2 _ _ _ (heap_alloc_old2 _ _ _ (heap_alloc_old2 _ _ _ (heap_alloc_at _ _ _ rfl))))),
   heap_alloc_old2 _ _ _ (heap_alloc_old2 _ _ _ (heap_alloc_old2 _ _ _ (heap_alloc_old2 _ _ _ (heap_alloc_at _ _ _ (by simp))))),
   heap_alloc_old2 _ _ _ (heap_alloc_old2 _ _ _ (heap_alloc_old2 _ _ _ (heap_alloc_at _ _ _ (by simp)))),
   heap_alloc_old2 _ _ _ (heap_alloc_old2 _ _ _ (heap_alloc_at _ _ _ (by simp))),
   heap_alloc_old2 _ _ _ (heap_alloc_at _ _ _ (by simp)),
   heap_alloc_at _ _ _ (by simp)⟩
theorem six_below (w : World) (t0 t1 t2 : TypeId) (v0 v1 v2 : Value) (s : ByteArray) : Below w.heap.size w ((((((w.alloc (.cells #[v0] t0)).alloc (.cells #[v1] t1)).alloc (.cells #[v2] t2)).alloc (.cells #[.int .i64 0] 26)).alloc (.cells #[.string s, .string s, .bool false, .int .i64 0] 184)).alloc (.cells #[.pointer (some ⟨w.heap.size + 1 + 1 + 1 + 1, 0, none⟩)] 160)) :=
  (((((((Below.refl _ _).alloc (Nat.le_refl _) _).alloc (by simp) _).alloc (by simp; omega) _).alloc (by simp; omega) _).alloc (by simp; omega) _).alloc (by simp; omega) _)

/-- what a request's line is, at its end -/
def reqQ (s t : List UInt8) (r : Rs) : Int := if r.fault s = 0 then (if 1024 < t.length then 3 else 0) else r.fault s

section
variable (B : Nat) (s m t : List UInt8) (n : Int) (r : Rs) (w : World)
set_option maxRecDepth 100000 in
set_option maxHeartbeats 400000 in
theorem reqEnd_0 (h : Six w B 9 9 3 (.string (bs m)) (.string (bs t)) (.int .i64 n) 0 s r) (hs : s.length ≤ 281474976710656) (ht : t.length ≤ 281474976710656) (hq : r.fault s = 0) (hl : t.length ≤ 1024) (u : FrameMode) :
    CallsD Tryz.prog 103 #[.pointer (some ⟨B + 1 + 1 + 1 + 1 + 1, 0, none⟩), .pointer (some ⟨B + 1 + 1 + 1, 0, none⟩), .pointer (some ⟨B + 1, 0, none⟩), .pointer (some ⟨B, 0, none⟩), .pointer (some ⟨B + 1 + 1, 0, none⟩)] u w
      fun e u' w' => u' = u ∧ (e = .returned (.tuple #[]) ∧ w' = w.setCell ⟨B + 1 + 1 + 1, 0, none⟩ (.int .i64 0)) := by
  obtain ⟨c0, c1, c2, c3, c5, f0, f1, f2, f3, f5⟩ := h.cells
  have htt : (bs t).size ≤ 281474976710656 := by rw [bs_size]; exact ht
  have hts := Lib.hid (bs_size t)
  have HS := Lib.hid h; clear h
  have HF := Lib.hid hq; clear hq
  go_enter_d Tryz.func103, Tryz.ntmps103
  go_wp2_with fail
  refine (fault_any (B + 1 + 1 + 1 + 1) s r _ HS.out.rd hs).mono ?_
  rw [HF.out]
  rintro e w' ⟨rfl, rfl⟩
  have hl2 : (bs t).size ≤ 1024 := by rw [hts.out]; exact hl
  go_wp2_with fail
  go_end0
  exact ⟨rfl, rfl⟩

set_option maxRecDepth 100000 in
set_option maxHeartbeats 400000 in
theorem reqEnd_3 (h : Six w B 9 9 3 (.string (bs m)) (.string (bs t)) (.int .i64 n) 0 s r) (hs : s.length ≤ 281474976710656) (ht : t.length ≤ 281474976710656) (hq : r.fault s = 0) (hl : 1024 < t.length) (u : FrameMode) :
    CallsD Tryz.prog 103 #[.pointer (some ⟨B + 1 + 1 + 1 + 1 + 1, 0, none⟩), .pointer (some ⟨B + 1 + 1 + 1, 0, none⟩), .pointer (some ⟨B + 1, 0, none⟩), .pointer (some ⟨B, 0, none⟩), .pointer (some ⟨B + 1 + 1, 0, none⟩)] u w
      fun e u' w' => u' = u ∧ (e = .returned (.tuple #[]) ∧ w' = ((((w.setCell ⟨B + 1 + 1 + 1, 0, none⟩ (.int .i64 0)).setCell ⟨B + 1 + 1 + 1, 0, none⟩ (.int .i64 3)).setCell ⟨B, 0, none⟩ (.string ⟨#[]⟩)).setCell ⟨B + 1, 0, none⟩ (.string ⟨#[]⟩)).setCell ⟨B + 1 + 1, 0, none⟩ (.int .i64 0)) := by
  obtain ⟨c0, c1, c2, c3, c5, f0, f1, f2, f3, f5⟩ := h.cells
  have htt : (bs t).size ≤ 281474976710656 := by rw [bs_size]; exact ht
  have hts := Lib.hid (bs_size t)
  have HS := Lib.hid h; clear h
  have HF := Lib.hid hq; clear hq
  go_enter_d Tryz.func103, Tryz.ntmps103
  go_wp2_with fail
  refine (fault_any (B + 1 + 1 + 1 + 1) s r _ HS.out.rd hs).mono ?_
  rw [HF.out]
  rintro e w' ⟨rfl, rfl⟩
  have hl2 : 1024 < (bs t).size := by rw [hts.out]; exact hl
  go_wp2_with fail
  go_end0
  exact ⟨rfl, rfl⟩

set_option maxRecDepth 100000 in
set_option maxHeartbeats 400000 in
theorem reqEnd_x (h : Six w B 9 9 3 (.string (bs m)) (.string (bs t)) (.int .i64 n) 0 s r) (hs : s.length ≤ 281474976710656) (ht : t.length ≤ 281474976710656) (hq : (r.fault s == 0) = false) (hq2 : (r.fault s != 0) = true) (u : FrameMode) :
    CallsD Tryz.prog 103 #[.pointer (some ⟨B + 1 + 1 + 1 + 1 + 1, 0, none⟩), .pointer (some ⟨B + 1 + 1 + 1, 0, none⟩), .pointer (some ⟨B + 1, 0, none⟩), .pointer (some ⟨B, 0, none⟩), .pointer (some ⟨B + 1 + 1, 0, none⟩)] u w
      fun e u' w' => u' = u ∧ (e = .returned (.tuple #[]) ∧ w' = (((w.setCell ⟨B + 1 + 1 + 1, 0, none⟩ (.int .i64 (r.fault s))).setCell ⟨B, 0, none⟩ (.string ⟨#[]⟩)).setCell ⟨B + 1, 0, none⟩ (.string ⟨#[]⟩)).setCell ⟨B + 1 + 1, 0, none⟩ (.int .i64 0)) := by
  obtain ⟨c0, c1, c2, c3, c5, f0, f1, f2, f3, f5⟩ := h.cells
  have htt : (bs t).size ≤ 281474976710656 := by rw [bs_size]; exact ht
  have hts := Lib.hid (bs_size t)
  have HS := Lib.hid h; clear h
  go_enter_d Tryz.func103, Tryz.ntmps103
  go_wp2_with fail
  refine (fault_any (B + 1 + 1 + 1 + 1) s r _ HS.out.rd hs).mono ?_
  rintro e w' ⟨rfl, rfl⟩
  go_wp2_with fail
  go_end0
  exact ⟨rfl, rfl⟩

theorem reqEnd_any (h : Six w B 9 9 3 (.string (bs m)) (.string (bs t)) (.int .i64 n) 0 s r) (hs : s.length ≤ 281474976710656) (ht : t.length ≤ 281474976710656) (u : FrameMode) :
    CallsD Tryz.prog 103 #[.pointer (some ⟨B + 1 + 1 + 1 + 1 + 1, 0, none⟩), .pointer (some ⟨B + 1 + 1 + 1, 0, none⟩), .pointer (some ⟨B + 1, 0, none⟩), .pointer (some ⟨B, 0, none⟩), .pointer (some ⟨B + 1 + 1, 0, none⟩)] u w
      fun e u' w' => u' = u ∧ (e = .returned (.tuple #[]) ∧ Hid (Six w' B 9 9 3 (.string (bs (if reqQ s t r = 0 then m else []))) (.string (bs (if reqQ s t r = 0 then t else []))) (.int .i64 (if reqQ s t r = 0 then n else 0)) (reqQ s t r) s r) ∧ Hid (Below B w w')) := by
  by_cases hq : r.fault s = 0
  · by_cases hl : t.length ≤ 1024
    · have HQ : reqQ s t r = 0 := by unfold reqQ; rw [if_pos hq, if_neg (by omega)]
      rw [HQ]
      refine (reqEnd_0 B s m t n r w h hs ht hq hl u).mono ?_
      rintro e u' w' ⟨rfl, rfl, rfl⟩
      exact ⟨rfl, rfl, h.set3 0, (Below.refl _ _).setCell (by simp <;> omega) _⟩
    · have HQ : reqQ s t r = 3 := by unfold reqQ; rw [if_pos hq, if_pos (by omega)]
      rw [HQ]
      refine (reqEnd_3 B s m t n r w h hs ht hq (by omega) u).mono ?_
      rintro e u' w' ⟨rfl, rfl, rfl⟩
      exact ⟨rfl, rfl, ((((h.set3 0).set3 3).set0 _).set1 _).set2 _, (((((Below.refl _ _).setCell (by simp <;> omega) _).setCell (by simp <;> omega) _).setCell (by simp <;> omega) _).setCell (by simp <;> omega) _).setCell (by simp <;> omega) _⟩
  · have HQ : reqQ s t r = r.fault s := by unfold reqQ; rw [if_neg hq]
    rw [HQ, if_neg hq, if_neg hq, if_neg hq]
    refine (reqEnd_x B s m t n r w h hs ht (by simpa using hq) (by simpa using hq) u).mono ?_
    rintro e u' w' ⟨rfl, rfl, rfl⟩
    exact ⟨rfl, rfl, (((h.set3 _).set0 _).set1 _).set2 _, ((((Below.refl _ _).setCell (by simp <;> omega) _).setCell (by simp <;> omega) _).setCell (by simp <;> omega) _).setCell (by simp <;> omega) _⟩
end

theorem token_still (s : ByteArray) (w : World) (hs : s.size ≤ maxLen) :
    Calls Tryz.prog 73 #[.string s] w fun e w' => e = .returned (.bool (token s.data.toList)) ∧ w' = w :=
  (token_any s w hs).mono fun _ _ h => ⟨h.1, h.2.symm⟩

set_option maxRecDepth 100000 in
set_option maxHeartbeats 1000000 in
theorem request_any (s : ByteArray) (w : World) (he : Env w) (hs : s.size ≤ 1048576) :
    Calls Tryz.prog 60 #[.string s] w fun e w' =>
      e = .returned (.tuple #[.string (bs (reqM s.data.toList)), .string (bs (reqT s.data.toList)), .int .i64 (reqN s.data.toList), .int .i64 (reqE s.data.toList)]) ∧ Below w.heap.size w w' := by
  have hl : s.data.toList.length ≤ 1048576 := by rw [← size_len]; exact hs
  have hgl : ((rs0 s.data.toList).got visB).length ≤ 9223372036854775807 := by
    have : ((rs0 s.data.toList).got visB).length ≤ s.data.toList.length := (List.takeWhile_sublist _).length_le
    omega
  have hl2 : s.data.toList.length ≤ 281474976710656 := by omega
  have lA : (reqA s.data.toList).rest.length ≤ s.data.toList.length := Nat.le_trans (Rs.fixed_le _ _) (Rs.skip_le (rs0 s.data.toList) visB)
  have lB : (reqB s.data.toList).rest.length ≤ s.data.toList.length := Nat.le_trans (Nat.le_trans (Rs.fixed_le _ _) (Rs.skip_le (reqA s.data.toList) visB)) lA
  have hgt : ((reqA s.data.toList).got visB).length ≤ 281474976710656 := by
    have : ((reqA s.data.toList).got visB).length ≤ (reqA s.data.toList).rest.length := (List.takeWhile_sublist _).length_le
    omega
  have HE := Lib.hid he; clear he
  have hmf : ∀ (fn : Fn) (first cap : Array Value) (w : World), (Instr.makeFunc fn first cap).run Tryz.prog w = .ok (.func fn first cap) w := fun _ _ _ _ => rfl
  go_enter_defers Tryz.func60, Tryz.ntmps60
  go_wp2_with fail
  refine (begin_eq _ _).mono ?_
  rintro e w1 ⟨rfl, rfl⟩
  go_wp2_with fail
  have S0 := six_new w 9 9 3 (.string ⟨#[]⟩) (.string ⟨#[]⟩) (.int .i64 0) s
  have HB0 := Lib.hid (six_below w 9 9 3 (.string ⟨#[]⟩) (.string ⟨#[]⟩) (.int .i64 0) s)
  generalize ((((((w.alloc (.cells #[.string ⟨#[]⟩] 9)).alloc (.cells #[.string ⟨#[]⟩] 9)).alloc (.cells #[.int .i64 0] 3)).alloc (.cells #[.int .i64 0] 26)).alloc (.cells #[.string s, .string s, .bool false, .int .i64 0] 184)).alloc (.cells #[.pointer (some ⟨w.heap.size + 1 + 1 + 1 + 1, 0, none⟩)] 160)) = w0 at S0 HB0 ⊢
  have E0 : Hid (Env w0) := HE.out.below HB0.out (Nat.le_refl _)
  clear HE
  generalize hB : w.heap.size = B at S0 HB0 ⊢
  have HBB := Lib.hid hB; clear hB
  obtain ⟨c0, c1, c2, c3, c5, f0, f1, f2, f3, f5⟩ := S0.cells
  have H0 := Lib.hid S0; clear S0
  -- BY gen_line.py
  refine (runVisible (B + 1 + 1 + 1 + 1) s.data.toList (rs0 s.data.toList) _ H0.out.rd hl2).mono ?_
  rintro e w1 ⟨rfl, hr1, hg1⟩
  have S1 : Six w1 B 9 9 3 (.string ⟨#[]⟩) (.string ⟨#[]⟩) (.int .i64 0) 0 s.data.toList ((rs0 s.data.toList).skip visB) := H0.out.step hr1 hg1
  have E1 : Hid (Env w1) := E0.out.rd _ _ _ _ H0.out.rd hg1
  have HB1 : Hid (Below B w w1) := HB0.out.grown hg1 H0.out.le (by simp <;> omega)
  clear c0 c1 c2 c3 c5 f0 f1 f2 f3 f5 H0 E0 HB0 hr1 hg1
  obtain ⟨c0, c1, c2, c3, c5, f0, f1, f2, f3, f5⟩ := S1.cells
  have H1 := Lib.hid S1; clear S1
  go_wp2_with fail
  have S2 := H1.out.set0 (.string (bs ((rs0 s.data.toList).got visB)))
  have E2 : Hid (Env (w1.setCell ⟨B, 0, none⟩ (.string (bs ((rs0 s.data.toList).got visB))))) := E1.out.one H1.out.b0 (by intro tp p h; cases h)
  have HB2 : Hid (Below B w (w1.setCell ⟨B, 0, none⟩ (.string (bs ((rs0 s.data.toList).got visB))))) := HB1.out.setCell (by simp <;> omega) _
  clear c0 c1 c2 c3 c5 f0 f1 f2 f3 f5 H1 E1 HB1
  generalize w1.setCell ⟨B, 0, none⟩ (.string (bs ((rs0 s.data.toList).got visB))) = w2 at S2 E2 HB2 ⊢
  obtain ⟨c0, c1, c2, c3, c5, f0, f1, f2, f3, f5⟩ := S2.cells
  have H2 := Lib.hid S2; clear S2
  refine tail_drew 3 (by kernel_rfl) (by kernel_rfl) ?_
  simp only [List.take_succ_cons, List.take_zero, List.drop_succ_cons, List.drop_zero]
  have S3 := H2.out.drew
  have E3 : Hid (Env w2.drew) := E2.out
  have HB3 : Hid (Below B w w2.drew) := HB2.out.drew
  clear c0 c1 c2 c3 c5 f0 f1 f2 f3 f5 H2 E2 HB2
  generalize w2.drew = w3 at S3 E3 HB3 ⊢
  obtain ⟨c0, c1, c2, c3, c5, f0, f1, f2, f3, f5⟩ := S3.cells
  have H3 := Lib.hid S3; clear S3
  still_step
  still_step
  still_call (token_still _ _ (by unfold maxLen; rw [bs_size]; exact hgl))
  refine wpStill_nil ?_
  go_wp2_with fail
  refine (expect_any (B + 1 + 1 + 1 + 1) s.data.toList ((rs0 s.data.toList).skip visB) _ _ H3.out.rd).mono ?_
  rintro e w4 ⟨rfl, hr4, hg4⟩
  have S4 : Six w4 B 9 9 3 (.string (bs ((rs0 s.data.toList).got visB))) (.string ⟨#[]⟩) (.int .i64 0) 0 s.data.toList (((rs0 s.data.toList).skip visB).expect (token ((rs0 s.data.toList).got visB))) := H3.out.step hr4 hg4
  have E4 : Hid (Env w4) := E3.out.rd _ _ _ _ H3.out.rd hg4
  have HB4 : Hid (Below B w w4) := HB3.out.grown hg4 H3.out.le (by simp <;> omega)
  clear c0 c1 c2 c3 c5 f0 f1 f2 f3 f5 H3 E3 HB3 hr4 hg4
  obtain ⟨c0, c1, c2, c3, c5, f0, f1, f2, f3, f5⟩ := S4.cells
  have H4 := Lib.hid S4; clear S4
  go_wp2_with fail
  refine (fixed_any (B + 1 + 1 + 1 + 1) s.data.toList _ _ ⟨#[32]⟩ H4.out.rd).mono ?_
  rintro e w5 ⟨rfl, hr5, hg5⟩
  have S5 : Six w5 B 9 9 3 (.string (bs ((rs0 s.data.toList).got visB))) (.string ⟨#[]⟩) (.int .i64 0) 0 s.data.toList (reqA s.data.toList) := H4.out.step hr5 hg5
  have E5 : Hid (Env w5) := E4.out.rd _ _ _ _ H4.out.rd hg5
  have HB5 : Hid (Below B w w5) := HB4.out.grown hg5 H4.out.le (by simp <;> omega)
  clear c0 c1 c2 c3 c5 f0 f1 f2 f3 f5 H4 E4 HB4 hr5 hg5
  obtain ⟨c0, c1, c2, c3, c5, f0, f1, f2, f3, f5⟩ := S5.cells
  have H5 := Lib.hid S5; clear S5
  go_wp2_with fail
  refine (runVisible (B + 1 + 1 + 1 + 1) s.data.toList (reqA s.data.toList) _ H5.out.rd (Nat.le_trans lA hl2)).mono ?_
  rintro e w6 ⟨rfl, hr6, hg6⟩
  have S6 : Six w6 B 9 9 3 (.string (bs ((rs0 s.data.toList).got visB))) (.string ⟨#[]⟩) (.int .i64 0) 0 s.data.toList ((reqA s.data.toList).skip visB) := H5.out.step hr6 hg6
  have E6 : Hid (Env w6) := E5.out.rd _ _ _ _ H5.out.rd hg6
  have HB6 : Hid (Below B w w6) := HB5.out.grown hg6 H5.out.le (by simp <;> omega)
  clear c0 c1 c2 c3 c5 f0 f1 f2 f3 f5 H5 E5 HB5 hr6 hg6
  obtain ⟨c0, c1, c2, c3, c5, f0, f1, f2, f3, f5⟩ := S6.cells
  have H6 := Lib.hid S6; clear S6
  go_wp2_with fail
  have S7 := H6.out.set1 (.string (bs ((reqA s.data.toList).got visB)))
  have E7 : Hid (Env (w6.setCell ⟨B + 1, 0, none⟩ (.string (bs ((reqA s.data.toList).got visB))))) := E6.out.one H6.out.b1 (by intro tp p h; cases h)
  have HB7 : Hid (Below B w (w6.setCell ⟨B + 1, 0, none⟩ (.string (bs ((reqA s.data.toList).got visB))))) := HB6.out.setCell (by simp <;> omega) _
  clear c0 c1 c2 c3 c5 f0 f1 f2 f3 f5 H6 E6 HB6
  generalize w6.setCell ⟨B + 1, 0, none⟩ (.string (bs ((reqA s.data.toList).got visB))) = w7 at S7 E7 HB7 ⊢
  obtain ⟨c0, c1, c2, c3, c5, f0, f1, f2, f3, f5⟩ := S7.cells
  have H7 := Lib.hid S7; clear S7
  go_wp2_with fail
  refine (expect_any (B + 1 + 1 + 1 + 1) s.data.toList ((reqA s.data.toList).skip visB) _ _ H7.out.rd).mono ?_
  rintro e w8 ⟨rfl, hr8, hg8⟩
  have S8 : Six w8 B 9 9 3 (.string (bs ((rs0 s.data.toList).got visB))) (.string (bs ((reqA s.data.toList).got visB))) (.int .i64 0) 0 s.data.toList (((reqA s.data.toList).skip visB).expect (!(bs ((reqA s.data.toList).got visB)).toList.isEmpty)) := H7.out.step hr8 hg8
  have E8 : Hid (Env w8) := E7.out.rd _ _ _ _ H7.out.rd hg8
  have HB8 : Hid (Below B w w8) := HB7.out.grown hg8 H7.out.le (by simp <;> omega)
  clear c0 c1 c2 c3 c5 f0 f1 f2 f3 f5 H7 E7 HB7 hr8 hg8
  obtain ⟨c0, c1, c2, c3, c5, f0, f1, f2, f3, f5⟩ := S8.cells
  have H8 := Lib.hid S8; clear S8
  go_wp2_with fail
  refine (fixed_any (B + 1 + 1 + 1 + 1) s.data.toList _ _ ⟨#[32]⟩ H8.out.rd).mono ?_
  rintro e w9 ⟨rfl, hr9, hg9⟩
  have S9 : Six w9 B 9 9 3 (.string (bs ((rs0 s.data.toList).got visB))) (.string (bs ((reqA s.data.toList).got visB))) (.int .i64 0) 0 s.data.toList ((((reqA s.data.toList).skip visB).expect (!(bs ((reqA s.data.toList).got visB)).toList.isEmpty)).fixed [32]) := H8.out.step hr9 hg9
  have E9 : Hid (Env w9) := E8.out.rd _ _ _ _ H8.out.rd hg9
  have HB9 : Hid (Below B w w9) := HB8.out.grown hg9 H8.out.le (by simp <;> omega)
  clear c0 c1 c2 c3 c5 f0 f1 f2 f3 f5 H8 E8 HB8 hr9 hg9
  obtain ⟨c0, c1, c2, c3, c5, f0, f1, f2, f3, f5⟩ := S9.cells
  have H9 := Lib.hid S9; clear S9
  go_wp2_with fail
  rw [show (((reqA s.data.toList).skip visB).expect (!(bs ((reqA s.data.toList).got visB)).toList.isEmpty)).fixed [32] = reqB s.data.toList from by rw [Lib.toList_data, bs_data]; rfl] at H9
  refine (version_any (B + 1 + 1 + 1 + 1) s.data.toList (reqB s.data.toList) _ E9.out H9.out.rd (Nat.le_trans lB hl2)).mono ?_
  rintro e w10 ⟨rfl, hr10, hg10⟩
  have S10 : Six w10 B 9 9 3 (.string (bs ((rs0 s.data.toList).got visB))) (.string (bs ((reqA s.data.toList).got visB))) (.int .i64 0) 0 s.data.toList (reqZ s.data.toList) := H9.out.step hr10 hg10
  have E10 : Hid (Env w10) := E9.out.rd _ _ _ _ H9.out.rd hg10
  have HB10 : Hid (Below B w w10) := HB9.out.grown hg10 H9.out.le (by simp <;> omega)
  clear c0 c1 c2 c3 c5 f0 f1 f2 f3 f5 H9 E9 HB9 hr10 hg10
  obtain ⟨c0, c1, c2, c3, c5, f0, f1, f2, f3, f5⟩ := S10.cells
  have H10 := Lib.hid S10; clear S10
  go_wp2_with fail
  have S11 := H10.out.set2 (.int .i64 (reqB s.data.toList).verV)
  have E11 : Hid (Env (w10.setCell ⟨B + 1 + 1, 0, none⟩ (.int .i64 (reqB s.data.toList).verV))) := E10.out.one H10.out.b2 (by intro tp p h; cases h)
  have HB11 : Hid (Below B w (w10.setCell ⟨B + 1 + 1, 0, none⟩ (.int .i64 (reqB s.data.toList).verV))) := HB10.out.setCell (by simp <;> omega) _
  clear c0 c1 c2 c3 c5 f0 f1 f2 f3 f5 H10 E10 HB10
  generalize w10.setCell ⟨B + 1 + 1, 0, none⟩ (.int .i64 (reqB s.data.toList).verV) = w11 at S11 E11 HB11 ⊢
  obtain ⟨c0, c1, c2, c3, c5, f0, f1, f2, f3, f5⟩ := S11.cells
  have H11 := Lib.hid S11; clear S11
  go_region
  have S12 := ((((H11.out.set0 (.string (bs ((rs0 s.data.toList).got visB)))).set1 (.string (bs ((reqA s.data.toList).got visB)))).set2 (.int .i64 (reqB s.data.toList).verV)).set3 0).drew
  have HB12 : Hid (Below B w (((((w11.setCell ⟨B, 0, none⟩ (.string (bs ((rs0 s.data.toList).got visB)))).setCell ⟨B + 1, 0, none⟩ (.string (bs ((reqA s.data.toList).got visB)))).setCell ⟨B + 1 + 1, 0, none⟩ (.int .i64 (reqB s.data.toList).verV)).setCell ⟨B + 1 + 1 + 1, 0, none⟩ (.int .i64 0)).drew)) := ((((HB11.out.setCell (by simp <;> omega) _).setCell (by simp <;> omega) _).setCell (by simp <;> omega) _).setCell (by simp <;> omega) _).drew
  clear c0 c1 c2 c3 c5 f0 f1 f2 f3 f5 H11 E11 HB11
  generalize ((((w11.setCell ⟨B, 0, none⟩ (.string (bs ((rs0 s.data.toList).got visB)))).setCell ⟨B + 1, 0, none⟩ (.string (bs ((reqA s.data.toList).got visB)))).setCell ⟨B + 1 + 1, 0, none⟩ (.int .i64 (reqB s.data.toList).verV)).setCell ⟨B + 1 + 1 + 1, 0, none⟩ (.int .i64 0)).drew = w12 at S12 HB12 ⊢
  have H12 := Lib.hid S12; clear S12
  go_wp2
  refine leaves_cons (f := 103) (args := #[.pointer (some ⟨B + 1 + 1 + 1 + 1 + 1, 0, none⟩), .pointer (some ⟨B + 1 + 1 + 1, 0, none⟩), .pointer (some ⟨B + 1, 0, none⟩), .pointer (some ⟨B, 0, none⟩), .pointer (some ⟨B + 1 + 1, 0, none⟩)]) (by simp) (by simp [go_sem]) ?_
  refine (reqEnd_any B s.data.toList _ _ _ (reqZ s.data.toList) w12 H12.out hl2 hgt .returning).mono ?_
  rintro e u' wz ⟨rfl, rfl, HS, HBz⟩
  obtain ⟨c0, c1, c2, c3, -⟩ := HS.out.cells
  have HQ : reqQ s.data.toList ((reqA s.data.toList).got visB) (reqZ s.data.toList) = reqE s.data.toList := rfl
  rw [HQ] at c0 c1 c2 c3
  refine ⟨.tuple #[.string (bs (reqM s.data.toList)), .string (bs (reqT s.data.toList)), .int .i64 (reqN s.data.toList), .int .i64 (reqE s.data.toList)], ?_, rfl, ?_⟩
  · simp [results, Tryz.results60, go_sem, c0, c1, c2, c3, reqM, reqT, reqN]
  · rw [HBB.out]; exact HB12.out.trans HBz.out
end Go.Proofs.YtgkjjmcjlobbpaaGreatDoor

/- A reply's line, read. -/
namespace Go.Proofs.YtgkjjmcjlobbpaaGreatDoor
open Go.RowKit
section
variable (B : Nat) (s t : List UInt8) (c n : Int) (r : Rs) (w : World)
set_option maxRecDepth 100000 in
set_option maxHeartbeats 400000 in
theorem staEnd_0 (h : Six w B 3 9 3 (.int .i64 c) (.string (bs t)) (.int .i64 n) 0 s r) (hs : s.length ≤ 281474976710656) (hq : r.fault s = 0) (u : FrameMode) :
    CallsD Tryz.prog 124 #[.pointer (some ⟨B + 1 + 1 + 1 + 1 + 1, 0, none⟩), .pointer (some ⟨B + 1 + 1 + 1, 0, none⟩), .pointer (some ⟨B, 0, none⟩), .pointer (some ⟨B + 1, 0, none⟩), .pointer (some ⟨B + 1 + 1, 0, none⟩)] u w
      fun e u' w' => u' = u ∧ (e = .returned (.tuple #[]) ∧ w' = w.setCell ⟨B + 1 + 1 + 1, 0, none⟩ (.int .i64 0)) := by
  obtain ⟨c0, c1, c2, c3, c5, f0, f1, f2, f3, f5⟩ := h.cells
  have HS := Lib.hid h; clear h
  have HF := Lib.hid hq; clear hq
  go_enter_d Tryz.func124, Tryz.ntmps124
  go_wp2_with fail
  refine (fault_any (B + 1 + 1 + 1 + 1) s r _ HS.out.rd hs).mono ?_
  rw [HF.out]
  rintro e w' ⟨rfl, rfl⟩
  go_wp2_with fail
  go_end0
  exact ⟨rfl, rfl⟩

set_option maxRecDepth 100000 in
set_option maxHeartbeats 400000 in
theorem staEnd_x (h : Six w B 3 9 3 (.int .i64 c) (.string (bs t)) (.int .i64 n) 0 s r) (hs : s.length ≤ 281474976710656) (_hq : (r.fault s == 0) = false) (hq2 : (r.fault s != 0) = true) (u : FrameMode) :
    CallsD Tryz.prog 124 #[.pointer (some ⟨B + 1 + 1 + 1 + 1 + 1, 0, none⟩), .pointer (some ⟨B + 1 + 1 + 1, 0, none⟩), .pointer (some ⟨B, 0, none⟩), .pointer (some ⟨B + 1, 0, none⟩), .pointer (some ⟨B + 1 + 1, 0, none⟩)] u w
      fun e u' w' => u' = u ∧ (e = .returned (.tuple #[]) ∧ w' = (((w.setCell ⟨B + 1 + 1 + 1, 0, none⟩ (.int .i64 (r.fault s))).setCell ⟨B, 0, none⟩ (.int .i64 0)).setCell ⟨B + 1, 0, none⟩ (.string ⟨#[]⟩)).setCell ⟨B + 1 + 1, 0, none⟩ (.int .i64 0)) := by
  obtain ⟨c0, c1, c2, c3, c5, f0, f1, f2, f3, f5⟩ := h.cells
  have HS := Lib.hid h; clear h
  go_enter_d Tryz.func124, Tryz.ntmps124
  go_wp2_with fail
  refine (fault_any (B + 1 + 1 + 1 + 1) s r _ HS.out.rd hs).mono ?_
  rintro e w' ⟨rfl, rfl⟩
  go_wp2_with fail
  go_end0
  exact ⟨rfl, rfl⟩

theorem staEnd_any (h : Six w B 3 9 3 (.int .i64 c) (.string (bs t)) (.int .i64 n) 0 s r) (hs : s.length ≤ 281474976710656) (u : FrameMode) :
    CallsD Tryz.prog 124 #[.pointer (some ⟨B + 1 + 1 + 1 + 1 + 1, 0, none⟩), .pointer (some ⟨B + 1 + 1 + 1, 0, none⟩), .pointer (some ⟨B, 0, none⟩), .pointer (some ⟨B + 1, 0, none⟩), .pointer (some ⟨B + 1 + 1, 0, none⟩)] u w
      fun e u' w' => u' = u ∧ (e = .returned (.tuple #[]) ∧ Hid (Six w' B 3 9 3 (.int .i64 (if r.fault s = 0 then c else 0)) (.string (bs (if r.fault s = 0 then t else []))) (.int .i64 (if r.fault s = 0 then n else 0)) (r.fault s) s r) ∧ Hid (Below B w w')) := by
  by_cases hq : r.fault s = 0
  · rw [hq]
    refine (staEnd_0 B s t c n r w h hs hq u).mono ?_
    rintro e u' w' ⟨rfl, rfl, rfl⟩
    exact ⟨rfl, rfl, h.set3 0, (Below.refl _ _).setCell (by simp <;> omega) _⟩
  · rw [if_neg hq, if_neg hq, if_neg hq]
    refine (staEnd_x B s t c n r w h hs (by simpa using hq) (by simpa using hq) u).mono ?_
    rintro e u' w' ⟨rfl, rfl, rfl⟩
    exact ⟨rfl, rfl, (((h.set3 _).set0 _).set1 _).set2 _, ((((Below.refl _ _).setCell (by simp <;> omega) _).setCell (by simp <;> omega) _).setCell (by simp <;> omega) _).setCell (by simp <;> omega) _⟩
end
theorem valid_still (n : Int) (w : World) : Calls Tryz.prog 86 #[.int .i64 n] w fun e w' => e = .returned (.bool (validS n)) ∧ w' = w :=
  (validStatus_any n w).mono fun _ _ h => ⟨h.1, h.2.symm⟩

set_option maxRecDepth 100000 in
set_option maxHeartbeats 1000000 in
theorem status_any (s : ByteArray) (w : World) (he : Env w) (hs : s.size ≤ 1048576) :
    Calls Tryz.prog 69 #[.string s] w fun e w' =>
      e = .returned (.tuple #[.int .i64 (staC s.data.toList), .string (bs (staR s.data.toList)), .int .i64 (staN s.data.toList), .int .i64 (staE s.data.toList)]) ∧ Below w.heap.size w w' := by
  have hl : s.data.toList.length ≤ 1048576 := by rw [← size_len]; exact hs
  have hl2 : s.data.toList.length ≤ 281474976710656 := by omega
  have lA : (staA s.data.toList).rest.length ≤ s.data.toList.length := Nat.le_trans (Rs.fixed_le _ _) (Rs.ver_le (rs0 s.data.toList))
  have lB : (staB s.data.toList).rest.length ≤ s.data.toList.length := Nat.le_trans (Nat.le_trans (Rs.fixed_le _ _) (Rs.num_le (staA s.data.toList) 3)) lA
  have HE := Lib.hid he; clear he
  have hmf : ∀ (fn : Fn) (first cap : Array Value) (w : World), (Instr.makeFunc fn first cap).run Tryz.prog w = .ok (.func fn first cap) w := fun _ _ _ _ => rfl
  go_enter_defers Tryz.func69, Tryz.ntmps69
  go_wp2_with fail
  refine (begin_eq _ _).mono ?_
  rintro e w1 ⟨rfl, rfl⟩
  go_wp2_with fail
  have S0 := six_new w 3 9 3 (.int .i64 0) (.string ⟨#[]⟩) (.int .i64 0) s
  have HB0 := Lib.hid (six_below w 3 9 3 (.int .i64 0) (.string ⟨#[]⟩) (.int .i64 0) s)
  generalize ((((((w.alloc (.cells #[.int .i64 0] 3)).alloc (.cells #[.string ⟨#[]⟩] 9)).alloc (.cells #[.int .i64 0] 3)).alloc (.cells #[.int .i64 0] 26)).alloc (.cells #[.string s, .string s, .bool false, .int .i64 0] 184)).alloc (.cells #[.pointer (some ⟨w.heap.size + 1 + 1 + 1 + 1, 0, none⟩)] 160)) = w0 at S0 HB0 ⊢
  have E0 : Hid (Env w0) := HE.out.below HB0.out (Nat.le_refl _)
  clear HE
  generalize hB : w.heap.size = B at S0 HB0 ⊢
  have HBB := Lib.hid hB; clear hB
  obtain ⟨c0, c1, c2, c3, c5, f0, f1, f2, f3, f5⟩ := S0.cells
  have H0 := Lib.hid S0; clear S0
  -- BY gen_line.py
  refine (version_any (B + 1 + 1 + 1 + 1) s.data.toList (rs0 s.data.toList) _ E0.out H0.out.rd hl2).mono ?_
  rintro e w1 ⟨rfl, hr1, hg1⟩
  have S1 : Six w1 B 3 9 3 (.int .i64 0) (.string ⟨#[]⟩) (.int .i64 0) 0 s.data.toList (rs0 s.data.toList).ver := H0.out.step hr1 hg1
  have E1 : Hid (Env w1) := E0.out.rd _ _ _ _ H0.out.rd hg1
  have HB1 : Hid (Below B w w1) := HB0.out.grown hg1 H0.out.le (by simp <;> omega)
  clear c0 c1 c2 c3 c5 f0 f1 f2 f3 f5 H0 E0 HB0 hr1 hg1
  obtain ⟨c0, c1, c2, c3, c5, f0, f1, f2, f3, f5⟩ := S1.cells
  have H1 := Lib.hid S1; clear S1
  go_wp2_with fail
  have S2 := H1.out.set2 (.int .i64 (rs0 s.data.toList).verV)
  have E2 : Hid (Env (w1.setCell ⟨B + 1 + 1, 0, none⟩ (.int .i64 (rs0 s.data.toList).verV))) := E1.out.one H1.out.b2 (by intro tp p h; cases h)
  have HB2 : Hid (Below B w (w1.setCell ⟨B + 1 + 1, 0, none⟩ (.int .i64 (rs0 s.data.toList).verV))) := HB1.out.setCell (by simp <;> omega) _
  clear c0 c1 c2 c3 c5 f0 f1 f2 f3 f5 H1 E1 HB1
  generalize w1.setCell ⟨B + 1 + 1, 0, none⟩ (.int .i64 (rs0 s.data.toList).verV) = w2 at S2 E2 HB2 ⊢
  obtain ⟨c0, c1, c2, c3, c5, f0, f1, f2, f3, f5⟩ := S2.cells
  have H2 := Lib.hid S2; clear S2
  go_wp2_with fail
  refine (fixed_any (B + 1 + 1 + 1 + 1) s.data.toList _ _ ⟨#[32]⟩ H2.out.rd).mono ?_
  rintro e w3 ⟨rfl, hr3, hg3⟩
  have S3 : Six w3 B 3 9 3 (.int .i64 0) (.string ⟨#[]⟩) (.int .i64 (rs0 s.data.toList).verV) 0 s.data.toList (staA s.data.toList) := H2.out.step hr3 hg3
  have E3 : Hid (Env w3) := E2.out.rd _ _ _ _ H2.out.rd hg3
  have HB3 : Hid (Below B w w3) := HB2.out.grown hg3 H2.out.le (by simp <;> omega)
  clear c0 c1 c2 c3 c5 f0 f1 f2 f3 f5 H2 E2 HB2 hr3 hg3
  obtain ⟨c0, c1, c2, c3, c5, f0, f1, f2, f3, f5⟩ := S3.cells
  have H3 := Lib.hid S3; clear S3
  go_wp2_with fail
  refine (number_any (B + 1 + 1 + 1 + 1) s.data.toList (staA s.data.toList) _ 3 E3.out H3.out.rd (Nat.le_trans lA hl2)).mono ?_
  rintro e w4 ⟨rfl, hr4, hg4⟩
  have S4 : Six w4 B 3 9 3 (.int .i64 0) (.string ⟨#[]⟩) (.int .i64 (rs0 s.data.toList).verV) 0 s.data.toList ((staA s.data.toList).num 3) := H3.out.step hr4 hg4
  have E4 : Hid (Env w4) := E3.out.rd _ _ _ _ H3.out.rd hg4
  have HB4 : Hid (Below B w w4) := HB3.out.grown hg4 H3.out.le (by simp <;> omega)
  clear c0 c1 c2 c3 c5 f0 f1 f2 f3 f5 H3 E3 HB3 hr4 hg4
  obtain ⟨c0, c1, c2, c3, c5, f0, f1, f2, f3, f5⟩ := S4.cells
  have H4 := Lib.hid S4; clear S4
  go_wp2_with fail
  have S5 := H4.out.set0 (.int .i64 (staA s.data.toList).numV)
  have E5 : Hid (Env (w4.setCell ⟨B, 0, none⟩ (.int .i64 (staA s.data.toList).numV))) := E4.out.one H4.out.b0 (by intro tp p h; cases h)
  have HB5 : Hid (Below B w (w4.setCell ⟨B, 0, none⟩ (.int .i64 (staA s.data.toList).numV))) := HB4.out.setCell (by simp <;> omega) _
  clear c0 c1 c2 c3 c5 f0 f1 f2 f3 f5 H4 E4 HB4
  generalize w4.setCell ⟨B, 0, none⟩ (.int .i64 (staA s.data.toList).numV) = w5 at S5 E5 HB5 ⊢
  obtain ⟨c0, c1, c2, c3, c5, f0, f1, f2, f3, f5⟩ := S5.cells
  have H5 := Lib.hid S5; clear S5
  refine tail_drew 3 (by kernel_rfl) (by kernel_rfl) ?_
  simp only [List.take_succ_cons, List.take_zero, List.drop_succ_cons, List.drop_zero]
  have S6 := H5.out.drew
  have E6 : Hid (Env w5.drew) := E5.out
  have HB6 : Hid (Below B w w5.drew) := HB5.out.drew
  clear c0 c1 c2 c3 c5 f0 f1 f2 f3 f5 H5 E5 HB5
  generalize w5.drew = w6 at S6 E6 HB6 ⊢
  obtain ⟨c0, c1, c2, c3, c5, f0, f1, f2, f3, f5⟩ := S6.cells
  have H6 := Lib.hid S6; clear S6
  still_step
  still_step
  still_call (valid_still _ _)
  refine wpStill_nil ?_
  go_wp2_with fail
  refine (expect_any (B + 1 + 1 + 1 + 1) s.data.toList ((staA s.data.toList).num 3) _ _ H6.out.rd).mono ?_
  rintro e w7 ⟨rfl, hr7, hg7⟩
  have S7 : Six w7 B 3 9 3 (.int .i64 (staA s.data.toList).numV) (.string ⟨#[]⟩) (.int .i64 (rs0 s.data.toList).verV) 0 s.data.toList (((staA s.data.toList).num 3).expect (validS (staA s.data.toList).numV)) := H6.out.step hr7 hg7
  have E7 : Hid (Env w7) := E6.out.rd _ _ _ _ H6.out.rd hg7
  have HB7 : Hid (Below B w w7) := HB6.out.grown hg7 H6.out.le (by simp <;> omega)
  clear c0 c1 c2 c3 c5 f0 f1 f2 f3 f5 H6 E6 HB6 hr7 hg7
  obtain ⟨c0, c1, c2, c3, c5, f0, f1, f2, f3, f5⟩ := S7.cells
  have H7 := Lib.hid S7; clear S7
  go_wp2_with fail
  refine (fixed_any (B + 1 + 1 + 1 + 1) s.data.toList _ _ ⟨#[32]⟩ H7.out.rd).mono ?_
  rintro e w8 ⟨rfl, hr8, hg8⟩
  have S8 : Six w8 B 3 9 3 (.int .i64 (staA s.data.toList).numV) (.string ⟨#[]⟩) (.int .i64 (rs0 s.data.toList).verV) 0 s.data.toList (staB s.data.toList) := H7.out.step hr8 hg8
  have E8 : Hid (Env w8) := E7.out.rd _ _ _ _ H7.out.rd hg8
  have HB8 : Hid (Below B w w8) := HB7.out.grown hg8 H7.out.le (by simp <;> omega)
  clear c0 c1 c2 c3 c5 f0 f1 f2 f3 f5 H7 E7 HB7 hr8 hg8
  obtain ⟨c0, c1, c2, c3, c5, f0, f1, f2, f3, f5⟩ := S8.cells
  have H8 := Lib.hid S8; clear S8
  go_wp2_with fail
  refine (runReason (B + 1 + 1 + 1 + 1) s.data.toList (staB s.data.toList) _ H8.out.rd (Nat.le_trans lB hl2)).mono ?_
  rintro e w9 ⟨rfl, hr9, hg9⟩
  have S9 : Six w9 B 3 9 3 (.int .i64 (staA s.data.toList).numV) (.string ⟨#[]⟩) (.int .i64 (rs0 s.data.toList).verV) 0 s.data.toList (staZ s.data.toList) := H8.out.step hr9 hg9
  have E9 : Hid (Env w9) := E8.out.rd _ _ _ _ H8.out.rd hg9
  have HB9 : Hid (Below B w w9) := HB8.out.grown hg9 H8.out.le (by simp <;> omega)
  clear c0 c1 c2 c3 c5 f0 f1 f2 f3 f5 H8 E8 HB8 hr9 hg9
  obtain ⟨c0, c1, c2, c3, c5, f0, f1, f2, f3, f5⟩ := S9.cells
  have H9 := Lib.hid S9; clear S9
  go_wp2_with fail
  have S10 := H9.out.set1 (.string (bs ((staB s.data.toList).got mayB)))
  have E10 : Hid (Env (w9.setCell ⟨B + 1, 0, none⟩ (.string (bs ((staB s.data.toList).got mayB))))) := E9.out.one H9.out.b1 (by intro tp p h; cases h)
  have HB10 : Hid (Below B w (w9.setCell ⟨B + 1, 0, none⟩ (.string (bs ((staB s.data.toList).got mayB))))) := HB9.out.setCell (by simp <;> omega) _
  clear c0 c1 c2 c3 c5 f0 f1 f2 f3 f5 H9 E9 HB9
  generalize w9.setCell ⟨B + 1, 0, none⟩ (.string (bs ((staB s.data.toList).got mayB))) = w10 at S10 E10 HB10 ⊢
  obtain ⟨c0, c1, c2, c3, c5, f0, f1, f2, f3, f5⟩ := S10.cells
  have H10 := Lib.hid S10; clear S10
  go_region
  have S11 := ((((H10.out.set0 (.int .i64 (staA s.data.toList).numV)).set1 (.string (bs ((staB s.data.toList).got mayB)))).set2 (.int .i64 (rs0 s.data.toList).verV)).set3 0).drew
  have HB11 : Hid (Below B w (((((w10.setCell ⟨B, 0, none⟩ (.int .i64 (staA s.data.toList).numV)).setCell ⟨B + 1, 0, none⟩ (.string (bs ((staB s.data.toList).got mayB)))).setCell ⟨B + 1 + 1, 0, none⟩ (.int .i64 (rs0 s.data.toList).verV)).setCell ⟨B + 1 + 1 + 1, 0, none⟩ (.int .i64 0)).drew)) := ((((HB10.out.setCell (by simp <;> omega) _).setCell (by simp <;> omega) _).setCell (by simp <;> omega) _).setCell (by simp <;> omega) _).drew
  clear c0 c1 c2 c3 c5 f0 f1 f2 f3 f5 H10 E10 HB10
  generalize ((((w10.setCell ⟨B, 0, none⟩ (.int .i64 (staA s.data.toList).numV)).setCell ⟨B + 1, 0, none⟩ (.string (bs ((staB s.data.toList).got mayB)))).setCell ⟨B + 1 + 1, 0, none⟩ (.int .i64 (rs0 s.data.toList).verV)).setCell ⟨B + 1 + 1 + 1, 0, none⟩ (.int .i64 0)).drew = w11 at S11 HB11 ⊢
  have H11 := Lib.hid S11; clear S11
  go_wp2
  refine leaves_cons (f := 124) (args := #[.pointer (some ⟨B + 1 + 1 + 1 + 1 + 1, 0, none⟩), .pointer (some ⟨B + 1 + 1 + 1, 0, none⟩), .pointer (some ⟨B, 0, none⟩), .pointer (some ⟨B + 1, 0, none⟩), .pointer (some ⟨B + 1 + 1, 0, none⟩)]) (by simp) (by simp [go_sem]) ?_
  refine (staEnd_any B s.data.toList _ _ _ (staZ s.data.toList) w11 H11.out hl2 .returning).mono ?_
  rintro e u' wz ⟨rfl, rfl, HS, HBz⟩
  obtain ⟨c0, c1, c2, c3, -⟩ := HS.out.cells
  have HQ : (staZ s.data.toList).fault s.data.toList = staE s.data.toList := rfl
  rw [HQ] at c0 c1 c2 c3
  refine ⟨.tuple #[.int .i64 (staC s.data.toList), .string (bs (staR s.data.toList)), .int .i64 (staN s.data.toList), .int .i64 (staE s.data.toList)], ?_, rfl, ?_⟩
  · simp [results, Tryz.results69, go_sem, c0, c1, c2, c3, staC, staR, staN]
  · rw [HBB.out]; exact HB11.out.trans HBz.out
end Go.Proofs.YtgkjjmcjlobbpaaGreatDoor
