/- The document's digits of a number; the sizes that it keeps. -/
import Derived.Test.YtoengnefdndgfaaDoorChunkK
namespace Go.Proofs.YtoengnefdndgfaaDoor
open Go.RowKit

theorem digLit16 : ∀ m : Fin 16, (⟨#[48, 49, 50, 51, 52, 53, 54, 55, 56, 57, 97, 98, 99, 100, 101, 102]⟩ : ByteArray)[m.val]'(Nat.lt_of_lt_of_le m.isLt (by decide)) = digC m.val := by decide
theorem bs_app (a b : List UInt8) : bs a ++ bs b = bs (a ++ b) := by
  unfold bs
  apply ByteArray.ext
  rw [ByteArray.data_append]; simp
set_option maxHeartbeats 1000000 in
set_option maxRecDepth 100000 in
theorem rhexs_any (n : Nat) (w : World) (hn : n < 4294967296) :
    Calls Tryd.prog 30 #[.int .i64 n] w fun e w' => e = .returned (.string (bs (hexL n))) ∧ Below w.heap.size w w' := by
  have hl8 := hexL_len8 hn
  go_enter Tryd.func30, Tryd.ntmps30
  go_wp2_with fail
  go_loopw [0, 3] (fun m s wr => ∃ (k : Nat) (l : List UInt8), m = .int .i64 k ∧ s = .string (bs l) ∧ Hid (k ≤ n ∧ hexL n = hexL k ++ l) ∧ Below w.heap.size w wr) (fun m _ _ => (intOf m).toNat)
  case atStart => exact ⟨n, [], rfl, rfl, ⟨Nat.le_refl _, by rw [List.append_nil]⟩, Below.refl _ _⟩
  case round =>
    obtain ⟨k, l, rfl, rfl, HR, hb⟩ := hrel
    have hk : k < 4294967296 := by have := HR.out.1; omega
    have hll : l.length ≤ 8 := by have := congrArg List.length HR.out.2; rw [List.length_append] at this; omega
    have hmod : k % 16 < 16 := Nat.mod_lt _ (by decide)
    have hdl := digLit16 ⟨k % 16, hmod⟩
    have hcv := (ownB_lit wr 0 _ (digC (k % 16)) rfl (Nat.zero_le _)).back
    have hap := bs_app [digC (k % 16)] l
    have k3 : ¬ 9223372036854775807 < 1 + l.length := by omega
    have HB := Lib.hid hb; have HK := Lib.hid hk; clear hb
    by_cases h16 : k < 16
    · have hz : ((k / 16 : Nat) : Int) = 0 := by omega
      have hz2 : ((k : Int) / 16 == 0) = true := by rw [beq_iff_eq]; omega
      have HE : Hid (bs (hexL n) = bs ([digC (k % 16)] ++ l)) := by show _ = _; rw [HR.out.2, hexL_small h16, Nat.mod_eq_of_lt h16]
      clear h16
      go_wp2_with fail
      go_ret
      exact ⟨by rw [HE.out]; rfl, HB.out.alloc HB.out.size _⟩
    · have hz : (((k / 16 : Nat) : Int) == 0) = false := by rw [beq_eq_false_iff_ne]; omega
      have hz2 : ((k : Int) / 16 == 0) = false := by rw [beq_eq_false_iff_ne]; omega
      have HE : Hid (hexL n = hexL (k / 16) ++ ([digC (k % 16)] ++ l)) := by show _ = _; rw [HR.out.2, hexL_step h16, List.append_assoc]
      have HQ : Hid ((k : Int) / 16 = ((k / 16 : Nat) : Int) ∧ k / 16 ≤ n ∧ k / 16 < k) := ⟨by omega, by have := HR.out.1; omega, by omega⟩
      clear h16
      go_wp2_with fail
      go_roundw
      case rel => exact ⟨k / 16, _, by rw [HQ.out.1], rfl, ⟨HQ.out.2.1, HE.out⟩, HB.out.alloc HB.out.size _⟩
      case measure => have := HQ.out; simp [intOf]; omega

theorem infoI : (Tryd.prog.info? 3).map (fun i => (i.zero, i.size, i.bytes)) = some (some (.int .i64 0), 1, 8) := by kernel_rfl
/-- a slice of the call's own that holds the numbers l -/
def ownI (w : World) (base : Nat) (v : Value) (l : List Int) : Prop := w.ownsRow base 3 1 v l.length (icells l)
theorem ownI.form {w : World} {base : Nat} {v : Value} {l : List Int} (h : ownI w base v l) : ∃ a c, v = .slice a l.length c := by
  rcases h.2 with ⟨rfl, hn⟩ | ⟨g, cap, cur, rfl, _⟩
  · exact ⟨none, 0, by rw [hn]⟩
  · exact ⟨_, _, rfl⟩
theorem ownI.il {w : World} {base : Nat} {v : Value} {l : List Int} (h : ownI w base v l) : IL w v l := by
  obtain ⟨a, c, rfl⟩ := h.form
  by_cases h0 : l = []
  · subst h0; exact .inl ⟨rfl, _, _, rfl⟩
  · obtain ⟨g, rfl, _, _, hr, _⟩ := rowI_of h h0
    exact .inr ⟨g, 0, c, rfl, hr.lt, fun j hj => by rw [Nat.zero_add]; exact hr.cell j hj⟩
/-- 'append(l, n)': the numbers, and n -/
theorem wpList_appI {w0 w : World} {ops : Array Oper} {rest : List Oper} {o : Oper} {a : Act} {Q : Exit → Act → World → Prop} (hgd : o.guard = none) (s x : Operand)
    (ho : o.op = .call { callee := .builtin .append, args := #[s, x], argTypes := #[31, 31] })
    (base B : Nat) (v : Value) (l : List Int) (n : Int) (hs : a.eval s = v) (hown : ownI w base v l) (hb : Below B w0 w) (hBb : B ≤ base) (hbase : base ≤ w.heap.size)
    {g : Nat} (hx : a.eval x = .slice (some ⟨g, 0, none⟩) 1 1) (hlen : l.length + 1 ≤ 4294967296)
    (h : ∀ v' w', Hid (ownI w' base v' (l ++ [n])) → Hid (Below B w0 w') → Hid (∀ b, b < base → w'.heap[b]? = w.heap[b]?) → wpList Tryd.prog ops Q rest (a.put o.dst v') w') (hg : g = w.heap.size := by simp) :
    wpList Tryd.prog ops Q (o :: rest) a (w.alloc (.cells #[.int .i64 n] 3)) := by
  obtain ⟨i0, hi, hz0, hz1, hz2⟩ := info_parts infoI
  subst hg
  refine wpList_append_own _ hgd s x 31 ho base 3 i0 (.int .i64 0) 1 8 Tryd.underlying31 hi hz0 hz1 hz2 rfl (by decide) v l.length _ hs (World.ownsRow.alloc hown _) ⟨w.heap.size, 0, none⟩ 1 1 [.int .i64 n] hx rfl ?_ ?_ ?_ ?_ ?_ ?_
  · intro j v hj
    match j, hj with
    | 0, hj => simp at hj; subst hj; simp [Addr.add]
  · intro v hv; simp at hv; subst hv; rfl
  · unfold maxLen; omega
  · omega
  · simp; omega
  · intro v' w' h1 h2 _
    have hge : ∀ k, v.ownBlock = some k → base ≤ k := fun k hk => (World.ownsRow.lt hown k hk).1
    refine h v' w' ?_ ?_ ?_
    · have : (l ++ [n]).length = l.length + 1 := by simp
      show ownI _ _ _ _
      unfold ownI
      rw [this]
      simpa [icells] using h1
    · exact (hb.alloc (by omega) _).grown h2 (by simp; omega) (fun k hk => Nat.le_trans hBb (hge k hk))
    · intro b hb
      rw [h2.block b (by simp; omega) (fun e => by have := hge b e.symm; omega)]
      exact Below.heap_alloc _ _ _ (by omega)
end Go.Proofs.YtoengnefdndgfaaDoor
