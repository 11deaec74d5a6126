/- Zero bytes that are made, and turned into a text. -/
import Derived.Test.YtekaiafhnnpkgaaGreatDoorBytes
import Derived.Test.YtekaiafhnnpkgaaGreatDoorTextB
import Derived.Laws.OwnMore
import Derived.Laws.MakeOwn
namespace Go.Proofs.YtekaiafhnnpkgaaGreatDoor
open Go.RowKit
theorem make_bytesZ (n : Nat) (w : World) (hn : n ≤ 4294967296) :
    (Instr.makeSlice 38 (.int .i64 (n : Int)) (.int .i64 (n : Int))).run Tryz.prog w = .ok (.slice (some ⟨w.heap.size, 0, none⟩) n n) (w.alloc (.cells (Lib.byteCells (List.replicate n 0)).toArray 5)) := by
  obtain ⟨i0, hi, hz0, hz1, hz2⟩ := info_parts infoB
  have h := run_make (P := Tryz.prog) w 38 5 i0 (.int .u8 0) Tryz.underlying38 hi hz0 .i64 .i64 (n : Int) (n : Int) (by omega) (by omega) (by rw [hz2]; omega) (by omega)
  have e : madeCells (Value.int .u8 0).cells (((n : Nat) : Int).toNat * i0.size) = (Lib.byteCells (List.replicate n 0)).toArray := by
    apply Array.toList_inj.1
    rw [hz1, Nat.mul_one, Int.toNat_natCast]
    have := toList_madeCells_one (Value.int .u8 0) n
    simpa [Value.cells, Lib.byteCells] using this
  rw [e] at h
  simpa using h
theorem rowB_madeZ (w : World) (n : Nat) : rowB (w.alloc (.cells (Lib.byteCells (List.replicate n 0)).toArray 5)) w.heap.size n (List.replicate n 0) :=
  ⟨_, _, _, _, heap_alloc_new w _, .inr rfl, by simp, by simp [Lib.byteCells]⟩
/-- so many zero bytes, a name -/
def zerosZ (n : Nat) : ByteArray := bs (List.replicate n 0)
theorem zerosZ_size (n : Nat) : (zerosZ n).size = n := by unfold zerosZ; rw [bs_size, List.length_replicate]
/-- a new row of zero bytes, behind 'make' -/
def madeZ (w : World) (n : Nat) : World := w.alloc (.cells (Lib.byteCells (List.replicate n 0)).toArray 5)
theorem make_zZ (n : Nat) (w : World) (hn : n ≤ 4294967296) : (Instr.makeSlice 38 (.int .i64 (n : Int)) (.int .i64 (n : Int))).run Tryz.prog w = .ok (.slice (some ⟨w.heap.size, 0, none⟩) n n) (madeZ w n) := make_bytesZ n w hn
theorem conv_zZ (n : Nat) (w : World) : (convert 38 9 (.slice (some ⟨w.heap.size, 0, none⟩) n n)).run Tryz.prog (madeZ w n) = .ok (.string (zerosZ n)) (madeZ w n) := (rowB_madeZ w n).back n
theorem below_zZ (n : Nat) (w : World) : Below w.heap.size w (madeZ w n) := (Below.refl _ _).alloc (Nat.le_refl _) _
end Go.Proofs.YtekaiafhnnpkgaaGreatDoor
