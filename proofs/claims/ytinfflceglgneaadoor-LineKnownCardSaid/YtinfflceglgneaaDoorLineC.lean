/- Lines that are put. -/
import Derived.Test.YtinfflceglgneaaDoorLineB
namespace Go.Proofs.YtinfflceglgneaaDoor
open Go.RowKit

theorem drop_txt {p : UInt8 → Bool} {l : List UInt8} {x : Bool} (h : l.all p = x) : ((bs (l.dropWhile p)).toList.isEmpty) = x := by
  rw [Lib.toList_data, bs_data, drop_all, h]

section
variable (f : FuncId) (p : UInt8 → Bool) (he : ∀ args w, (callFunc f args).run Tryd.prog w = .ok (.enter f args) w) (hf : ∀ (c : UInt8) (w : World), Calls Tryd.prog f #[.int .u8 (c.toNat : Int)] w fun e w' => e = .returned (.bool (p c)) ∧ w = w')
include he hf
set_option maxRecDepth 100000 in
set_option maxHeartbeats 400000 in
theorem consists_any (s : ByteArray) (w : World) (hlen : s.size ≤ 281474976710656) :
    Calls Tryd.prog 40 #[.string s, .func (.func f) #[] #[]] w fun e w' => e = .returned (.bool (s.data.toList.all p)) ∧ Below w.heap.size w w' := by
  have HE := Lib.hid he; clear he
  have HF := Lib.hid hf; clear hf
  go_enter Tryd.func40, Tryd.ntmps40
  go_wp2_with fail
  refine (begin_any _ _).mono ?_
  rintro e w1 ⟨rfl, hr1, hg1⟩
  have HR1 := Lib.hid hr1; clear hr1
  have HG1 := Lib.hid hg1; clear hg1
  go_wp2_with fail
  refine (run_any _ _ _ _ f p HE.out HF.out HR1.out (by rw [size_len] at hlen; exact hlen)).mono ?_
  rintro e w2 ⟨rfl, hr2, hg2⟩
  have h2 := hr2.cell.2.1
  have HR2 := Lib.hid hr2; clear hr2
  have HG2 := Lib.hid hg2; clear hg2
  have HB : Hid (Below w.heap.size w w2) := ((Below.refl _ _).grown HG1.out (Nat.le_refl _) (by simp)).grown HG2.out HG1.out.size (by simp)
  cases hx : s.data.toList.all p
  · have h3 : (bs ((rs0 s.data.toList).skip p).rest).toList.isEmpty = false := drop_txt hx
    have HX := Lib.hid hx; clear hx
    go_wp2_with fail
    go_ret
    exact ⟨ret_bool HX.out.symm, HB.out⟩
  · have h3 : (bs ((rs0 s.data.toList).skip p).rest).toList.isEmpty = true := drop_txt hx
    have HX := Lib.hid hx; clear hx
    go_wp2_with fail
    go_ret
    exact ⟨ret_bool HX.out.symm, HB.out⟩
end

theorem consVisible (s : ByteArray) (w : World) (hlen : s.size ≤ 281474976710656) :
    Calls Tryd.prog 40 #[.string s, .func (.func 25) #[] #[]] w fun e w' => e = .returned (.bool (s.data.toList.all visB)) ∧ Below w.heap.size w w' :=
  consists_any _ visB eVisible (fun _ w => visible_any _ w) s w hlen
theorem consReason (s : ByteArray) (w : World) (hlen : s.size ≤ 281474976710656) :
    Calls Tryd.prog 40 #[.string s, .func (.func 37) #[] #[]] w fun e w' => e = .returned (.bool (s.data.toList.all mayB)) ∧ Below w.heap.size w w' :=
  consists_any _ mayB eReason (fun _ w => reason_any _ w) s w hlen

theorem itoa_bit (n : Int) (w : World) (h : n = 0 ∨ n = 1) :
    Calls Tryd.prog 44 #[.int .i64 n] w fun e w' => e = .returned (.string (bs [bitB n])) ∧ w = w' := by
  have d0 : Lib.decDigits 0 = [48] := by rw [Lib.decDigits]; rfl
  have d1 : Lib.decDigits 1 = [49] := by rw [Lib.decDigits]; rfl
  refine (itoa_small n w (by omega) (by omega)).mono ?_
  rintro e w' ⟨rfl, rfl⟩
  rcases h with rfl | rfl
  · exact ⟨by rw [show (0 : Int).toNat = 0 from rfl, d0]; rfl, rfl⟩
  · exact ⟨by rw [show (1 : Int).toNat = 1 from rfl, d1]; rfl, rfl⟩
set_option maxRecDepth 100000 in
set_option maxHeartbeats 400000 in
theorem versionOf_any (n : Int) (w : World) (h : validM n = true) :
    Calls Tryd.prog 42 #[.int .i64 n] w fun e w' => e = .returned (.string (bs (verN n))) ∧ w = w' := by
  unfold validM at h
  simp at h
  have H := Lib.hid h; clear h
  go_enter Tryd.func42, Tryd.ntmps42
  go_wp2_with fail
  refine (itoa_bit 1 _ (by omega)).mono ?_
  rintro e w' ⟨rfl, rfl⟩
  go_wp2_with fail
  refine (itoa_bit n _ H.out).mono ?_
  rintro e w' ⟨rfl, rfl⟩
  go_wp2_with fail
  go_ret
  exact ⟨rfl, rfl⟩

theorem bs_append (a b : List UInt8) : bs a ++ bs b = bs (a ++ b) := by
  unfold bs
  apply ByteArray.ext
  rw [ByteArray.data_append]; simp

theorem verN_len (n : Int) : (verN n).length = 8 := rfl
theorem ret_put {a b : ByteArray} {x y : Int} (h : a = b) (k : x = y) : Ending.returned (.tuple #[.string a, .int .i64 x]) = .returned (.tuple #[.string b, .int .i64 y]) := by rw [h, k]
section
variable (m t : ByteArray) (n : Int) (w : World) (hm : m.size ≤ 1048576) (ht : t.size ≤ 1048576)
include hm ht
set_option maxRecDepth 100000 in
set_option maxHeartbeats 400000 in
theorem putRequest_bad (h : (token m.data.toList && target t.data.toList && validM n) = false) :
    Calls Tryd.prog 14 #[.string m, .string t, .int .i64 n] w fun e w' => e = .returned (.tuple #[.string ⟨#[]⟩, .int .i64 4]) ∧ Below w.heap.size w w' := by
  cases h1 : token m.data.toList
  · have H1 := Lib.hid h1; clear h1 h
    go_enter Tryd.func14, Tryd.ntmps14
    go_wp2_with fail
    refine (token_any m _ (by unfold maxLen; omega)).mono ?_
    rw [H1.out]
    rintro e w1 ⟨rfl, rfl⟩
    go_wp2_with fail
    go_ret2
    exact ⟨rfl, Below.refl _ _⟩
  · cases h2 : t.data.toList.isEmpty
    · have g2 : t.toList.isEmpty = false := by rw [Lib.toList_data, h2]
      cases h3 : t.data.toList.all visB
      · have H1 := Lib.hid h1
        have H3 := Lib.hid h3
        clear h1 h2 h3 h
        go_enter Tryd.func14, Tryd.ntmps14
        go_wp2_with fail
        refine (token_any m _ (by unfold maxLen; omega)).mono ?_
        rw [H1.out]
        rintro e w1 ⟨rfl, rfl⟩
        go_wp2_with fail
        refine (consVisible t _ (by omega)).mono ?_
        rw [H3.out]
        rintro e w2 ⟨rfl, hb2⟩
        go_wp2_with fail
        go_ret2
        exact ⟨rfl, hb2⟩
      · have h4 : validM n = false := by rw [h1] at h; unfold target at h; rw [h2, h3] at h; simpa using h
        have H1 := Lib.hid h1
        have H3 := Lib.hid h3
        have H4 := Lib.hid h4
        clear h1 h2 h3 h4 h
        go_enter Tryd.func14, Tryd.ntmps14
        go_wp2_with fail
        refine (token_any m _ (by unfold maxLen; omega)).mono ?_
        rw [H1.out]
        rintro e w1 ⟨rfl, rfl⟩
        go_wp2_with fail
        refine (consVisible t _ (by omega)).mono ?_
        rw [H3.out]
        rintro e w2 ⟨rfl, hb2⟩
        go_wp2_with fail
        refine (validMinor_any n _).mono ?_
        rw [H4.out]
        rintro e w3 ⟨rfl, rfl⟩
        go_wp2_with fail
        go_ret2
        exact ⟨rfl, hb2⟩
    · have g2 : t.toList.isEmpty = true := by rw [Lib.toList_data, h2]
      have H1 := Lib.hid h1
      clear h1 h2 h
      go_enter Tryd.func14, Tryd.ntmps14
      go_wp2_with fail
      refine (token_any m _ (by unfold maxLen; omega)).mono ?_
      rw [H1.out]
      rintro e w1 ⟨rfl, rfl⟩
      go_wp2_with fail
      go_ret2
      exact ⟨rfl, Below.refl _ _⟩

omit hm ht in
theorem line_txt : m ++ ⟨#[32]⟩ ++ t ++ ⟨#[32]⟩ ++ bs (verN n) = bs (reqLine m.data.toList t.data.toList n) := by
  unfold reqLine
  rw [← bs_append, ← bs_append, ← bs_append, ← bs_append]
  rfl
omit hm ht in
theorem reqLine_len : (reqLine m.data.toList t.data.toList n).length = m.size + 1 + t.size + 1 + 8 := by
  unfold reqLine; rw [size_len, size_len]; simp [verN_len]; omega
set_option maxRecDepth 100000 in
set_option maxHeartbeats 400000 in
theorem putRequest_good (h : (token m.data.toList && target t.data.toList && validM n) = true) :
    Calls Tryd.prog 14 #[.string m, .string t, .int .i64 n] w fun e w' => e = .returned (.tuple #[.string (bs (putRL m.data.toList t.data.toList n)), .int .i64 (putRQ m.data.toList t.data.toList n)]) ∧ Below w.heap.size w w' := by
  have HQ : Hid (putRQ m.data.toList t.data.toList n = if 1024 < t.data.toList.length ∨ 2048 < (reqLine m.data.toList t.data.toList n).length then 3 else 0) := by
    show putRQ _ _ _ = _
    unfold putRQ; rw [if_pos h]
  rw [Bool.and_eq_true, Bool.and_eq_true] at h
  obtain ⟨⟨h1, h2⟩, h3⟩ := h
  unfold target at h2
  rw [Bool.and_eq_true] at h2
  obtain ⟨h4, h5⟩ := h2
  have g2 : t.toList.isEmpty = false := by rw [Lib.toList_data]; simpa using h5
  have H1 := Lib.hid h1
  have H3 := Lib.hid h3
  have H4 := Lib.hid h4
  clear h1 h3 h4 h5
  go_enter Tryd.func14, Tryd.ntmps14
  go_wp2_with fail
  refine (token_any m _ (by unfold maxLen; omega)).mono ?_
  rw [H1.out]
  rintro e w1 ⟨rfl, rfl⟩
  go_wp2_with fail
  refine (consVisible t _ (by omega)).mono ?_
  rw [H4.out]
  rintro e w2 ⟨rfl, hb2⟩
  have HB := Lib.hid hb2; clear hb2
  go_wp2_with fail
  refine (validMinor_any n _).mono ?_
  rw [H3.out]
  rintro e w3 ⟨rfl, rfl⟩
  go_wp2_with fail
  refine (versionOf_any n _ H3.out).mono ?_
  rintro e w3 ⟨rfl, rfl⟩
  have hv := verN_len n
  have hl := Lib.hid (reqLine_len m t n)
  have hT := Lib.hid (size_len t)
  by_cases c1 : 1024 < t.size
  · have HQ1 : Hid (putRQ m.data.toList t.data.toList n = 3) := by show _ = _; rw [HQ.out, if_pos (.inl (by rw [← hT.out]; exact c1))]
    go_wp2_with fail
    go_ret2
    exact ⟨ret_put (by unfold putRL; rw [HQ1.out]; rfl) HQ1.out.symm, HB.out⟩
  · by_cases c2 : 2048 < m.size + 1 + t.size + 1 + 8
    · have HQ1 : Hid (putRQ m.data.toList t.data.toList n = 3) := by show _ = _; rw [HQ.out, if_pos (.inr (by rw [hl.out]; exact c2))]
      have c3 : (2048 : Int) < (m.size : Int) + 1 + t.size + 1 + 8 := by omega
      go_wp2_with fail
      go_ret2
      exact ⟨ret_put (by unfold putRL; rw [HQ1.out]; rfl) HQ1.out.symm, HB.out⟩
    · have HQ1 : Hid (putRQ m.data.toList t.data.toList n = 0) := by show _ = _; rw [HQ.out, if_neg (by rw [hl.out, ← hT.out]; omega)]
      have c3 : ¬ (2048 : Int) < (m.size : Int) + 1 + t.size + 1 + 8 := by omega
      go_wp2_with fail
      go_ret2
      exact ⟨ret_put (by unfold putRL; rw [HQ1.out]; exact line_txt m t n) HQ1.out.symm, HB.out⟩
end
end Go.Proofs.YtinfflceglgneaaDoor
