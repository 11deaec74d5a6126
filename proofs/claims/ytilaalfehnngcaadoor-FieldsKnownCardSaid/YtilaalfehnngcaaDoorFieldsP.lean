/- The text of a list of fields: the fields layer's Put, and the document's own. -/
import Derived.Test.YtilaalfehnngcaaDoorFieldsC
import Derived.Test.YtilaalfehnngcaaDoorBuild
import Derived.Lib.AppendStr
namespace Go.Proofs.YtilaalfehnngcaaDoor
open Go.RowKit

theorem ownsRow_bel {w w' : World} {base : Nat} {e : TypeId} {size : Nat} {v : Value} {n : Nat} {xs : List Value} (h : w.ownsRow base e size v n xs) (hb : Below w.heap.size w w') : w'.ownsRow base e size v n xs := by
  refine ⟨h.1, ?_⟩
  rcases h.2 with hn | ⟨g, cap, cur, hv, hbg, hg, r⟩
  · exact .inl hn
  · exact .inr ⟨g, cap, cur, hv, hbg, (hb.block g (Array.getElem?_eq_some_iff.1 hg).1).trans hg, r⟩
theorem ownB.bel {w w' : World} {base : Nat} {v : Value} {l : List UInt8} (h : ownB w base v l) (hb : Below w.heap.size w w') : ownB w' base v l := ownsRow_bel h hb
theorem bldr.bel {w w' : World} {B b : Nat} {l : List UInt8} (h : bldr w B b l) (hb : Below w.heap.size w w') : bldr w' B b l := by
  rcases h with ⟨h1, v, h2, h3, h4⟩ | ⟨h1, v, h2, h3, h4⟩
  · exact .inl ⟨h1, v, (hb.block b (Array.getElem?_eq_some_iff.1 h2).1).trans h2, ownsRow_bel h3 hb, h4⟩
  · exact .inr ⟨h1, v, (hb.block b (Array.getElem?_eq_some_iff.1 h2).1).trans h2, ownsRow_bel h3 hb, h4⟩
theorem lines_step {l : List Fld} {k : Nat} (h : k < l.length) : linesL (l.take (k + 1)) = linesL (l.take k) ++ (lineL l[k] ++ [13, 10]) := by
  rw [List.take_succ_eq_append_getElem h, lines_snoc]
theorem lines_take_len {l : List Fld} (h : ∀ f ∈ l, chkF f = 0) (hl : l.length ≤ 64) (k : Nat) : (linesL (l.take k)).length ≤ 131200 := by
  have := lines_len (l := l.take k) fun f hf => h f (List.mem_of_mem_take hf)
  have h2 : (l.take k).length ≤ 64 := Nat.le_trans (List.length_take_le' _ _) hl
  omega

set_option maxHeartbeats 2000000 in
theorem put_any (v : Value) (l : List Fld) (w : World) (h : FL w v l) (hs : smallF l) (hl : l.length ≤ 4294967296) :
    Calls Tryd.prog 22 #[v] w fun e w' => e = .returned (.string (bs (putL l))) ∧ Below w.heap.size w w' := by
  obtain ⟨A, c, rfl⟩ := h.form
  have hck := check_any _ l w h hs hl
  have HF := Lib.hid h; clear h
  by_cases hz : checkL l = 0
  · obtain ⟨hl64, hall⟩ := check_zero hz
    have HP : Hid (putL l = linesL l) := by show _ = _; unfold putL; rw [if_pos hz]
    rw [hz] at hck
    have HCK := Lib.hid hck; have HA := Lib.hid hall; clear hck hall hz hs
    go_enter Tryd.func22, Tryd.ntmps22
    go_wp2_with (go_at_call 25; refine HCK.out.mono ?_; rintro e w1 ⟨rfl, hb1⟩; have HB1 := Lib.hid hb1; clear hb1)
    have hal : Below w1.heap.size w1 (w1.alloc (.cells #[.pointer none, .slice none 0 0] 71)) := (Below.refl _ _).alloc (Nat.le_refl _) _
    have HN : Hid (bldr (w1.alloc (.cells #[.pointer none, .slice none 0 0] 71)) w.heap.size w1.heap.size []) := bldr_new w1 _ HB1.out.size
    have HBa := Lib.hid (HB1.out.trans (hal.mono HB1.out.size)); clear hal
    go_loopw [11] (fun i wr => ∃ k : Nat, k ≤ l.length ∧ i = .int .i64 k ∧ bldr wr w.heap.size w1.heap.size (linesL (l.take k)) ∧ Below w.heap.size w wr) (fun i _ => l.length - (intOf i).toNat)
    case atStart => exact ⟨0, Nat.zero_le _, rfl, HN.out, HBa.out⟩
    case round =>
      obtain ⟨k, hk, rfl, ho, hb⟩ := hrel
      have HO := Lib.hid ho; have HB := Lib.hid hb; clear ho hb
      by_cases hlt : k < l.length
      · obtain ⟨b, off, rfl, hbb, hc1, hc2⟩ := (HF.out.bel HB.out).get k hlt
        obtain ⟨_, hlen⟩ := chkF_zero (HA.out l[k] (List.getElem_mem hlt))
        have HT := Lib.hid (lines_step hlt)
        have HLn : Hid ((linesL (l.take k)).length ≤ 131200) := lines_take_len HA.out hl64 k
        have hll := line_len l[k]
        generalize l[k] = f at *
        obtain ⟨n, x⟩ := f
        have hz1 : n.length ≤ 4294967296 := by unfold lenF at hlen; simp only at hlen; omega
        have hz2 : x.length ≤ 4294967296 := by unfold lenF at hlen; simp only at hlen; omega
        have hlo := fun w => lineOf_any (n, x) w hz1 hz2
        unfold fv at hlo; simp only at hlo hc1 hc2
        have HLL : Hid ((lineL (n, x)).length ≤ 2048) := by show _ ≤ _; omega
        generalize lineL (n, x) = L at *
        have s1 := fun w => add_l L [13, 10] w (by have := HLL.out; simp only [List.length_cons, List.length_nil]; omega)
        rw [show bs [13, 10] = ⟨#[13, 10]⟩ from rfl] at s1
        have hwr := fun w1' h1 h2 => write_any w.heap.size w1.heap.size (linesL (l.take k)) (L ++ [13, 10]) w1' h1 (by have := HLL.out; have := HLn.out; simp only [List.length_append, List.length_cons, List.length_nil]; omega) h2
        have HLO := Lib.hid hlo; have HWR := Lib.hid hwr
        clear hlo hwr hll hlen hz1 hz2
        generalize linesL (l.take k) = acc at *
        have hal : Below wr.heap.size wr (wr.alloc (.cells #[.string (bs n), .string (bs x)] 44)) := (Below.refl _ _).alloc (Nat.le_refl _) _
        have HBb := Lib.hid (HB.out.trans (hal.mono HB.out.size))
        have HOb := Lib.hid (HO.out.bel hal); clear hal
        go_wp2_with (first
          | (go_at_call 48; refine (HLO.out _).mono ?_; rintro e w2 ⟨rfl, hb2⟩; have HB2 := Lib.hid (HBb.out.trans (hb2.mono HBb.out.size)); have HO2 := Lib.hid (HOb.out.bel hb2); clear hb2)
          | (go_at_call 43; refine (HWR.out _ HO2.out HB2.out.size).mono ?_; rintro e w3 ⟨rfl, ho3, hb3⟩; have HB3 := Lib.hid (HB2.out.trans hb3); have HO3 := Lib.hid ho3; clear ho3 hb3))
        go_roundw
        case rel => exact ⟨k + 1, by omega, by go_num, by rw [HT.out]; exact HO3.out, HB3.out⟩
        case measure => simp [intOf]; omega
      · have HT : Hid (linesL (l.take k) = linesL l) := by show _ = _; rw [List.take_of_length_le (by omega)]
        go_wp2_with (go_at_call 45; refine (string_any w.heap.size w1.heap.size _ _ HO.out HB.out.size).mono ?_; rintro e w4 ⟨rfl, hb4⟩)
        go_ret
        exact ⟨ret_str (by rw [HT.out, HP.out]), HB.out.trans hb4⟩
  · have HP : Hid (putL l = []) := put_bad hz
    have hz2 : (checkL l != 0) = true := by simp [hz]
    generalize checkL l = E at *
    have HCK := Lib.hid hck; clear hck hz hs
    go_enter Tryd.func22, Tryd.ntmps22
    go_wp2_with (go_at_call 25; refine HCK.out.mono ?_; rintro e w1 ⟨rfl, hb1⟩)
    go_ret
    exact ⟨ret_str (by rw [HP.out]; rfl), hb1⟩

/-- 'append(b, s...)', s a text. -/
theorem wpList_appStr {w0 w : World} {ops : Array Oper} {rest : List Oper} {o : Oper} {a : Act} {Q : Exit → Act → World → Prop} (hgd : o.guard = none) (s x : Operand)
    (ho : o.op = .call { callee := .builtin .append, args := #[s, x], argTypes := #[69, 9] })
    (base B : Nat) (v : Value) (l t : List UInt8) (hs : a.eval s = v) (hown : ownB w base v l) (hb : Below B w0 w) (hBb : B ≤ base) (hbase : base ≤ w.heap.size)
    (hx : a.eval x = .string (bs t)) (hlen : l.length + t.length ≤ 140737488355328)
    (h : ∀ v' w', Hid (ownB w' base v' (l ++ t)) → Hid (Below B w0 w') → wpList Tryd.prog ops Q rest (a.put o.dst v') w') :
    wpList Tryd.prog ops Q (o :: rest) a w := by
  obtain ⟨i0, hi, hz0, hz1, hz2⟩ := info_parts infoB
  have hsz : (bs t).size = t.length := bs_size t
  refine Lib.wpList_append_own_string _ hgd s x 69 9 ho base 5 i0 Tryd.underlying69 Tryd.underlying9 hi hz0 hz1 hz2 v l.length _ hs hown (bs t) hx ?_ ?_ hbase ?_
  · rw [hsz]; unfold maxLen; omega
  · rw [hsz]; omega
  · intro v' w' h1 h2 _
    refine h v' w' ?_ (hb.grown h2 (by omega) (fun k hk => Nat.le_trans hBb (hown.ge k hk)))
    show World.ownsRow _ _ _ _ _ _ _
    rw [List.length_append, Lib.byteCells_append, ← hsz]
    have e : Lib.strCells (bs t) = Lib.byteCells t := by simp [Lib.strCells, Lib.byteCells]
    rw [e] at h1
    exact h1
/-- 'append(b, c, d)'. -/
theorem wpList_appTwo {w0 w : World} {ops : Array Oper} {rest : List Oper} {o : Oper} {a : Act} {Q : Exit → Act → World → Prop} (hgd : o.guard = none) (s x : Operand)
    (ho : o.op = .call { callee := .builtin .append, args := #[s, x], argTypes := #[69, 69] })
    (base B : Nat) (v : Value) (l : List UInt8) (c d : Int) (u1 u2 : UInt8) (hs : a.eval s = v) (hown : ownB w base v l) (hb : Below B w0 w) (hBb : B ≤ base) (hbase : base ≤ w.heap.size) (hu : c = (u1.toNat : Int)) (hd : d = (u2.toNat : Int))
    {g : Nat} (hx : a.eval x = .slice (some ⟨g, 0, none⟩) 2 2) (hlen : l.length + 2 ≤ 140737488355328)
    (h : ∀ v' w', Hid (ownB w' base v' (l ++ [u1, u2])) → Hid (Below B w0 w') → wpList Tryd.prog ops Q rest (a.put o.dst v') w') (hg : g = w.heap.size := by simp) :
    wpList Tryd.prog ops Q (o :: rest) a (w.alloc (.cells #[.int .u8 c, .int .u8 d] 5)) := by
  obtain ⟨i0, hi, hz0, hz1, hz2⟩ := info_parts infoB
  subst hu hd hg
  refine wpList_append_own _ hgd s x 69 ho base 5 i0 (.int .u8 0) 1 1 Tryd.underlying69 hi hz0 hz1 hz2 rfl (by decide) v l.length _ hs (hown.alloc _) ⟨w.heap.size, 0, none⟩ 2 2 [.int .u8 u1.toNat, .int .u8 u2.toNat] hx rfl ?_ ?_ ?_ ?_ ?_ ?_
  · exact World.news_of_block (heap_alloc_new w _)
  · intro v hv; simp at hv; rcases hv with rfl | rfl <;> rfl
  · unfold maxLen; omega
  · omega
  · simp; omega
  · intro v' w' h1 h2 _
    refine h v' w' ?_ ?_
    · have : (l ++ [u1, u2]).length = l.length + 2 := by simp
      show ownB _ _ _ _
      unfold ownB
      rw [this, Lib.byteCells_append]
      exact h1
    · exact (hb.alloc (by omega) _).grown h2 (by simp; omega) (fun k hk => Nat.le_trans hBb (hown.ge k hk))

end Go.Proofs.YtilaalfehnngcaaDoor
