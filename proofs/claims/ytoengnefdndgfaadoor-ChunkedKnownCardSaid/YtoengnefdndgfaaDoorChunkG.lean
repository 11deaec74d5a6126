/- strconv.AppendInt at base 16: the digits behind what stands. -/
import Derived.Test.YtoengnefdndgfaaDoorChunkF
import Derived.Test.YtoengnefdndgfaaDoorFieldsP
namespace Go.Proofs.YtoengnefdndgfaaDoor
open Go.RowKit

theorem zeroA : Tryd.zeroCells124.toList = List.replicate 65 (.int .u8 0) := by kernel_rfl
theorem arr_new (w : World) : rowB (w.alloc (.cells Tryd.zeroCells124 124)) w.heap.size 65 (List.replicate 65 0) := by
  refine ⟨_, _, _, _, heap_alloc_new w _, .inr rfl, by simp, ?_⟩
  rw [zeroA]
  simp [Lib.byteCells]
theorem set_drop {R : List UInt8} {k : Nat} (c : UInt8) (h0 : 0 < k) (hk : k ≤ R.length) : (R.set (k - 1) c).drop (k - 1) = c :: R.drop k := by
  have h1 : k - 1 < (R.set (k - 1) c).length := by rw [List.length_set]; omega
  rw [List.drop_eq_getElem_cons h1, List.getElem_set_self, List.drop_set, if_pos (by omega), show k - 1 + 1 = k from by omega]
/-- what is left of a number whose digits are put from behind -/
def putA (n m k : Nat) (R : List UInt8) : Prop := R.length = 65 ∧ 41 ≤ k ∧ k ≤ 65 ∧ m < 16 ^ (k - 40) ∧ hexL n = hexL m ++ R.drop k
theorem putA_next {n m k : Nat} {R : List UInt8} (h : putA n m k R) (hm : ¬ m < 16) : putA n (m / 16) (k - 1) (R.set (k - 1) (digC (m % 16))) := by
  obtain ⟨h1, h2, h3, h4, h5⟩ := h
  have h6 : 42 ≤ k := by
    rcases Nat.lt_or_ge 41 k with h | h
    · exact h
    · have : k = 41 := by omega
      subst this
      omega
  refine ⟨by rw [List.length_set]; exact h1, by omega, by omega, ?_, ?_⟩
  · have e : k - 40 = (k - 1 - 40) + 1 := by omega
    rw [e, Nat.pow_succ] at h4
    exact Nat.div_lt_of_lt_mul (by rw [Nat.mul_comm]; exact h4)
  · rw [h5, hexL_step hm, set_drop _ (by omega) (by omega)]
    simp
theorem putA_last {n m k : Nat} {R : List UInt8} (h : putA n m k R) (hm : m < 16) : hexL n = (R.set (k - 1) (digC m)).drop (k - 1) ∧ (R.set (k - 1) (digC m)).length = 65 := by
  obtain ⟨h1, h2, h3, h4, h5⟩ := h
  rw [set_drop _ (by omega) (by omega), h5, hexL_small hm, List.length_set]
  exact ⟨rfl, h1⟩
theorem putA_start {n : Nat} (hn : n < 18446744073709551616) : putA n n 65 (List.replicate 65 0) := by
  refine ⟨by simp, by omega, by omega, Nat.lt_of_lt_of_le hn (by decide), by simp⟩

/-- 'append(b, x...)', x a part of a row of bytes -/
theorem wpList_appRow {w0 w : World} {ops : Array Oper} {rest : List Oper} {o : Oper} {a : Act} {Q : Exit → Act → World → Prop} (hgd : o.guard = none) (s x : Operand)
    (ho : o.op = .call { callee := .builtin .append, args := #[s, x], argTypes := #[36, 36] })
    (base B : Nat) (v : Value) (l t : List UInt8) (hs : a.eval s = v) (hown : ownB w base v l) (hb : Below B w0 w) (hBb : B ≤ base) (hbase : base ≤ w.heap.size)
    (g k c : Nat) (hx : a.eval x = .slice (some ⟨g, k, none⟩) t.length c) (hcells : ∀ j (hj : j < t.length), w.cell? ⟨g, k + j, none⟩ = some (.int .u8 t[j].toNat)) (hlen : l.length + t.length ≤ 140737488355328)
    (h : ∀ v' w', Hid (ownB w' base v' (l ++ t)) → Hid (Below B w0 w') → wpList Tryd.prog ops Q rest (a.put o.dst v') w') :
    wpList Tryd.prog ops Q (o :: rest) a w := by
  obtain ⟨i0, hi, hz0, hz1, hz2⟩ := info_parts infoB
  refine wpList_append_own _ hgd s x 36 ho base 5 i0 (.int .u8 0) 1 1 Tryd.underlying36 hi hz0 hz1 hz2 rfl (by decide) v l.length _ hs hown ⟨g, k, none⟩ t.length c (Lib.byteCells t) hx (by rw [Lib.byteCells_length]; omega) ?_ ?_ ?_ ?_ ?_ ?_
  · intro j u hj
    have hlt : j < t.length := by
      rcases Nat.lt_or_ge j t.length with h | h
      · exact h
      · rw [List.getElem?_eq_none (by rw [Lib.byteCells_length]; exact h)] at hj; cases hj
    have h1 := hcells j hlt
    rw [show (⟨g, k, none⟩ : Addr).add j = ⟨g, k + j, none⟩ from by unfold Addr.add; split <;> simp_all, h1]
    simp [Lib.byteCells, hlt] at hj
    rw [← hj]
  · intro u hu
    simp only [Lib.byteCells, List.mem_map] at hu
    obtain ⟨y, _, rfl⟩ := hu
    rfl
  · unfold maxLen; omega
  · omega
  · exact hbase
  · intro v' w' h1 h2 _
    refine h v' w' ?_ ?_
    · show ownB _ _ _ _
      unfold ownB
      rw [List.length_append, Lib.byteCells_append]
      exact h1
    · exact hb.grown h2 (Nat.le_trans hBb hbase) (fun k hk => Nat.le_trans hBb (hown.ge k hk))
theorem digLit : ∀ m : Fin 16, (⟨#[48, 49, 50, 51, 52, 53, 54, 55, 56, 57, 97, 98, 99, 100, 101, 102, 103, 104, 105, 106, 107, 108, 109, 110, 111, 112, 113, 114, 115, 116, 117, 118, 119, 120, 121, 122]⟩ : ByteArray)[m.val]'(Nat.lt_of_lt_of_le m.isLt (by decide)) = digC m.val := by decide
theorem cells65 : Tryd.prog.cellsOf 5 = 1 := by kernel_rfl
theorem len65 : Tryd.prog.arrayLen 124 = 65 := by kernel_rfl
theorem elem65 : Tryd.prog.elem 124 = 5 := by kernel_rfl
theorem under65 : Tryd.prog.underlying 124 = some (.array (Tryd.prog.arrayLen 124) (Tryd.prog.elem 124)) := by rw [len65, elem65]; exact Tryd.underlying124
theorem slice65 (W : World) (b k : Nat) (hk : k < 65) : (Instr.sliceAt 124 (.pointer (some ⟨b, 0, none⟩)) (some (.int .i64 (k : Int))) none none).run Tryd.prog W = .ok (.slice (some ⟨b, k, none⟩) (65 - k) (65 - k)) W := by
  rw [run_sliceAt_array_l W 124 ⟨b, 0, none⟩ under65 .i64 (k : Int) (by omega) (by rw [len65]; omega), elem65, len65]
  have hsz : (sizeOf 5).run Tryd.prog W = .ok 1 W := by
    simp [sizeOf]; kernel_rfl
  rw [hsz]
  simp only [Result.andThen, slicedAt, Int.toNat_natCast]
  rw [if_neg (by omega), show (⟨b, 0, none⟩ : Addr).add (k * 1) = ⟨b, k, none⟩ from by unfold Addr.add; split <;> simp_all]

set_option maxHeartbeats 4000000 in
set_option maxRecDepth 100000 in
theorem fb_any (base : Nat) (v : Value) (l : List UInt8) (n : Nat) (w : World) (he : EnvC w) (hown : ownB w base v l) (hbase : base ≤ w.heap.size) (hl : l.length ≤ 1099511627776) (hn : n < 18446744073709551616) :
    Calls Tryd.prog 83 #[v, .int .u64 n, .int .i64 16, .bool false, .bool true] w fun e w' => ∃ v', e = .returned (.tuple #[v', .string ⟨#[]⟩]) ∧ ownB w' base v' (l ++ hexL n) ∧ Below base w w' := by
  have htz := fun (w' : World) (hb : Below w.heap.size w w') => tz_16 w' (he.bel hb).2.2
  have HTZ := Lib.hid htz; clear htz
  obtain ⟨ao, no, co, rfl⟩ : ∃ a n c, v = .slice a n c := by
    rcases hown.2 with ⟨hv, _⟩ | ⟨g, cap, cur, hv, _⟩
    · exact ⟨_, _, _, hv⟩
    · exact ⟨_, _, _, hv⟩
  have HO := Lib.hid hown; clear hown he
  go_enter Tryd.func83, Tryd.ntmps83
  go_wp2_with (first | (go_at_call 93; refine (pow2_16 _).mono ?_; rintro e w1 ⟨rfl, rfl⟩) | (go_at_call 94; refine (HTZ.out _ ((Below.refl _ _).alloc (Nat.le_refl _) _)).mono ?_; rintro e w1 ⟨rfl, rfl⟩))
  go_loopw [1, 13] (fun u i wr => ∃ (m k : Nat) (R : List UInt8), u = .int .u64 m ∧ i = .int .i64 k ∧ m < 18446744073709551616 ∧ putA n m k R ∧ rowB wr w.heap.size 65 R ∧ Below w.heap.size w wr) (fun u _ _ => (intOf u).toNat)
  case atStart => exact ⟨n, 65, _, rfl, rfl, hn, putA_start hn, arr_new w, (Below.refl _ _).alloc (Nat.le_refl _) _⟩
  case round =>
    obtain ⟨m, k, R, rfl, rfl, hm, hp, hr, hb⟩ := hrel
    have hk1 : 41 ≤ k := hp.2.1
    have hk2 : k ≤ 65 := hp.2.2.1
    have hc := hr.cell (k - 1) (by omega)
    have hf := hr.free (k - 1) (by omega)
    have HR := Lib.hid hr; have HB := Lib.hid hb; clear hr hb
    have hk3 : (k : Int) - 1 = ((k - 1 : Nat) : Int) := by omega
    have hsl := fun W : World => slice65 W w.heap.size (k - 1) (by omega)
    by_cases h16 : m < 16
    · obtain ⟨hpa, hpl⟩ := putA_last hp h16
      have hr2 := HR.out.set (k - 1) (digC m)
      rw [← digLit ⟨m, h16⟩] at hr2
      have hb2 : Below w.heap.size w (wr.setCell ⟨w.heap.size, k - 1, none⟩ (.int .u8 ((⟨#[48, 49, 50, 51, 52, 53, 54, 55, 56, 57, 97, 98, 99, 100, 101, 102, 103, 104, 105, 106, 107, 108, 109, 110, 111, 112, 113, 114, 115, 116, 117, 118, 119, 120, 121, 122]⟩ : ByteArray)[m]'(Nat.lt_of_lt_of_le h16 (by decide))).toNat)) := HB.out.setCell (p := ⟨w.heap.size, k - 1, none⟩) (Nat.le_refl _) _
      have hcell : ∀ j (hj : j < (hexL n).length), (wr.setCell ⟨w.heap.size, k - 1, none⟩ (.int .u8 ((⟨#[48, 49, 50, 51, 52, 53, 54, 55, 56, 57, 97, 98, 99, 100, 101, 102, 103, 104, 105, 106, 107, 108, 109, 110, 111, 112, 113, 114, 115, 116, 117, 118, 119, 120, 121, 122]⟩ : ByteArray)[m]'(Nat.lt_of_lt_of_le h16 (by decide))).toNat)).cell? ⟨w.heap.size, k - 1 + j, none⟩ = some (.int .u8 (hexL n)[j].toNat) := by
        intro j hj
        have hll : (hexL n).length = 65 - (k - 1) := by rw [hpa, List.length_drop, hpl]
        have h1 := hr2.cell (k - 1 + j) (by omega)
        have h2 : (hexL n)[j] = ((R.set (k - 1) (digC m)).drop (k - 1))[j]'(by rw [← hpa]; exact hj) := by simp only [hpa]
        rw [h2, List.getElem_drop]
        rw [digLit ⟨m, h16⟩] at h1
        rw [digLit ⟨m, h16⟩, h1]
        simp only [List.getD_eq_getElem?_getD]
        rw [List.getElem?_eq_getElem (by omega), Option.getD_some]
      have HCE := Lib.hid hcell; clear hcell
      have HB2 := Lib.hid hb2
      clear hr2 hb2 hp
      have hhl : (hexL n).length = 65 - (k - 1) := by rw [hpa, List.length_drop, hpl]
      clear hpa hpl
      go_wp2_with (at_builtin; refine wpList_appRow rfl (.tmp 95) (.tmp 97) rfl base base _ l (hexL n) rfl (HO.out.bel HB2.out) (HB2.out.mono hbase) (Nat.le_refl _) (Nat.le_trans hbase HB2.out.size) w.heap.size (k - 1) (65 - (k - 1)) ?hx (fun j hj => HCE.out j hj) ?hlen ?_)
      case hx => rw [hhl]; rfl
      case hlen => omega
      intro v' w' HO' HB'
      go_wp2_with fail
      go_ret2
      exact ⟨_, rfl, HO'.out, HB'.out⟩
    · have HP := Lib.hid (putA_next hp h16); clear hp
      have ha := and15 m hm
      have hq : m % 16 < 16 := Nat.mod_lt _ (by decide)
      have hdl := digLit ⟨m % 16, hq⟩
      go_wp2_with fail
      refine ⟨⟨m / 16, k - 1, R.set (k - 1) (digC (m % 16)), by go_num, rfl, by omega, HP.out, HR.out.set _ _, HB.out.setCell (p := ⟨w.heap.size, k - 1, none⟩) (Nat.le_refl _) _⟩, ?_⟩
      simp [intOf]; omega

theorem ownB.shape {w : World} {base : Nat} {v : Value} {l : List UInt8} (h : ownB w base v l) : ∃ a n c, v = .slice a n c := by
  rcases h.2 with ⟨hv, _⟩ | ⟨g, cap, cur, hv, _⟩
  · exact ⟨_, _, _, hv⟩
  · exact ⟨_, _, _, hv⟩
theorem digC_len (n : Nat) : (hexL n).length ≤ n + 1 := by
  induction n using Nat.strongRecOn with
  | _ n ih =>
    by_cases h : n < 16
    · rw [hexL_small h]; simp
    · rw [hexL_step h, List.length_append]
      have := ih (n / 16) (by omega)
      simp only [List.length_cons, List.length_nil]
      omega
set_option maxHeartbeats 1000000 in
set_option maxRecDepth 100000 in
theorem au_any (base : Nat) (v : Value) (l : List UInt8) (n : Nat) (w : World) (he : EnvC w) (hown : ownB w base v l) (hbase : base ≤ w.heap.size) (hl : l.length ≤ 1099511627776) (hn : n < 9223372036854775808) :
    Calls Tryd.prog 62 #[v, .int .u64 n, .int .i64 16] w fun e w' => ∃ v', e = .returned v' ∧ ownB w' base v' (l ++ hexL n) ∧ Below base w w' := by
  have h := fb_any base v l n w he hown hbase hl (by omega)
  obtain ⟨ao, no, co, rfl⟩ := hown.shape
  have HH := Lib.hid h; clear h hown he
  go_enter Tryd.func62, Tryd.ntmps62
  go_wp2_with fail
  refine HH.out.mono ?_; rintro e w1 ⟨v', rfl, ho, hb⟩
  obtain ⟨a2, n2, c2, rfl⟩ := ho.shape
  have HO := Lib.hid ho; have HB := Lib.hid hb; clear ho hb
  go_wp2_with fail
  go_ret
  exact ⟨_, rfl, HO.out, HB.out⟩
set_option maxHeartbeats 1000000 in
set_option maxRecDepth 100000 in
theorem aiI_any (base : Nat) (v : Value) (l : List UInt8) (n : Nat) (w : World) (he : EnvC w) (hown : ownB w base v l) (hbase : base ≤ w.heap.size) (hl : l.length ≤ 1099511627776) (hn : n < 4294967296) :
    Calls Tryd.prog 53 #[v, .int .i64 n, .int .i64 16] w fun e w' => ∃ v', e = .returned v' ∧ ownB w' base v' (l ++ hexL n) ∧ Below base w w' := by
  have h := au_any base v l n w he hown hbase hl (by omega)
  obtain ⟨ao, no, co, rfl⟩ := hown.shape
  have HH := Lib.hid h; clear h hown he
  go_enter Tryd.func53, Tryd.ntmps53
  go_wp2_with fail
  refine HH.out.mono ?_; rintro e w1 ⟨v', rfl, ho, hb⟩
  obtain ⟨a2, n2, c2, rfl⟩ := ho.shape
  have HO := Lib.hid ho; have HB := Lib.hid hb; clear ho hb
  go_wp2_with fail
  go_ret
  exact ⟨_, rfl, HO.out, HB.out⟩
set_option maxHeartbeats 1000000 in
set_option maxRecDepth 100000 in
theorem ai_any (base : Nat) (v : Value) (l : List UInt8) (n : Nat) (w : World) (he : EnvC w) (hown : ownB w base v l) (hbase : base ≤ w.heap.size) (hl : l.length ≤ 1099511627776) (hn : n < 4294967296) :
    Calls Tryd.prog 41 #[v, .int .i64 n, .int .i64 16] w fun e w' => ∃ v', e = .returned v' ∧ ownB w' base v' (l ++ hexL n) ∧ Below base w w' := by
  have h := aiI_any base v l n w he hown hbase hl hn
  obtain ⟨ao, no, co, rfl⟩ := hown.shape
  have HH := Lib.hid h; clear h hown he
  go_enter Tryd.func41, Tryd.ntmps41
  go_wp2_with fail
  refine HH.out.mono ?_; rintro e w1 ⟨v', rfl, ho, hb⟩
  obtain ⟨a2, n2, c2, rfl⟩ := ho.shape
  have HO := Lib.hid ho; have HB := Lib.hid hb; clear ho hb
  go_wp2_with fail
  go_ret
  exact ⟨_, rfl, HO.out, HB.out⟩
end Go.Proofs.YtoengnefdndgfaaDoor
