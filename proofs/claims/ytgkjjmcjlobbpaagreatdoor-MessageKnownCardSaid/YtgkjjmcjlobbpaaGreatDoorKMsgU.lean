/- The chapter's examples hold. -/
import Derived.Test.YtgkjjmcjlobbpaaGreatDoorKMsgD
import Derived.Test.YtgkjjmcjlobbpaaGreatDoorKMsgK
import Derived.Test.YtgkjjmcjlobbpaaGreatDoorKMsgM
namespace Go.Proofs.YtgkjjmcjlobbpaaGreatDoor
open Go.RowKit

def L8 : List UInt8 := List.replicate 8192 97
set_option maxRecDepth 1000000 in
theorem l8_rep : Lib.repeatL [97] 8192 = L8 := by kernel_rfl
set_option maxRecDepth 1000000 in
theorem l8_slash : slash L8 = L8 := by kernel_rfl
set_option maxRecDepth 1000000 in
theorem l8_head : headF L8 = (0, 3) := by kernel_rfl
theorem l8_small : L8.length ≤ 100000 := by unfold L8; rw [List.length_replicate]; decide
theorem l8_len : L8.length ≤ 1048576 := Nat.le_trans l8_small (by decide)
theorem l8_ask : askM L8 = badM 3 := by
  unfold askM msgL
  rw [l8_head]
  exact if_pos (by decide)
theorem asksK {x : ByteArray} {S m t b : List UInt8} {L : List Fld} {u e : Int} (hs : slash x.data.toList = S) (ha : askM S = (L, b, u, e)) (hm : mM S = m) (ht : tM S = t) (hx : x.size ≤ 100000) (hl : S.length ≤ 1048576) (W : World) (h : EnvM W) :
    Calls Tryz.prog 24 #[.string x, .string (bs m), .string (bs t), .string (bs b), .int .i64 u, .int .i64 e] W fun e w' => e = .returned (.bool true) ∧ Below W.heap.size W w' := by
  have hk := asks_any x W h hx (by rw [hs]; exact hl)
  rw [hs, hm, ht, ha] at hk
  exact hk
theorem linesK {x : ByteArray} {S : List UInt8} (hs : slash x.data.toList = S) (hx : x.size ≤ 100000) (W : World) (h : EnvM W) :
    Calls Tryz.prog 26 #[.string x] W fun e w' => e = .returned (.string (bs S)) ∧ Below W.heap.size W w' := by
  subst hs
  exact lines_any x W h.1.1 hx
theorem replyK {S b : List UInt8} {B : ByteArray} {d : Bool} {L : List Fld} {u : Int} (h : tellM S d = (L, b, u, 0)) (hB : bs b = B) (hl : S.length ≤ 1048576) (W : World) (he : EnvM W) :
    Calls Tryz.prog 13 #[.string (bs S), .bool d] W fun e w' => ∃ c r o A k, e = .returned (.tuple #[.agg #[.int .i64 c, .string r, .int .i64 o, .slice A L.length k, .string B], .int .i64 u, .int .i64 0]) ∧ Below W.heap.size W w' := by
  refine (msgReply_any S d W he hl).mono ?_
  rintro e w' ⟨v, rfl, ho, hb⟩
  rw [h] at ho ⊢
  obtain ⟨A, k, rfl⟩ := ho.form
  subst hB
  exact ⟨_, _, _, A, k, rfl, hb⟩
theorem requestK {S b : List UInt8} {B : ByteArray} {L : List Fld} {u n : Int} (h : askM S = (L, b, u, 0)) (hn : nM S = n) (hB : bs b = B) (hl : S.length ≤ 1048576) (W : World) (he : EnvM W) :
    Calls Tryz.prog 11 #[.string (bs S)] W fun e w' => ∃ m t A k, e = .returned (.tuple #[.agg #[.string m, .string t, .int .i64 n, .slice A L.length k, .string B], .int .i64 u, .int .i64 0]) ∧ Below W.heap.size W w' := by
  refine (msgRequest_any S W he hl).mono ?_
  rintro e w' ⟨v, rfl, ho, hb⟩
  rw [hn, h] at *
  obtain ⟨A, k, rfl⟩ := ho.form
  subst hB
  exact ⟨_, _, A, k, rfl, hb⟩
theorem FL_mono1 (w : World) (f : Fld) : FL (w.alloc (.cells #[.string (bs f.1), .string (bs f.2)] 63)) (.slice (some ⟨w.heap.size, 0, none⟩) 1 1) [f] := by
  refine .inr ⟨w.heap.size, 0, 1, rfl, by simp, fun j hj => ?_⟩
  have : j = 0 := by simp only [List.length_cons, List.length_nil] at hj; omega
  subst this
  have k := blk.new w #[.string (bs f.1), .string (bs f.2)] 63
  exact ⟨k.cell 0 _ rfl, k.cell 1 _ rfl⟩
theorem ask_k0 : askM [80, 79, 83, 84, 32, 47, 98, 32, 72, 84, 84, 80, 47, 49, 46, 49, 13, 10, 67, 111, 110, 116, 101, 110, 116, 45, 76, 101, 110, 103, 116, 104, 58, 32, 50, 13, 10, 13, 10, 97, 98] = ([(lenN, [50])], [97, 98], 41, 0) := by kernel_rfl
theorem m_k0 : mM [80, 79, 83, 84, 32, 47, 98, 32, 72, 84, 84, 80, 47, 49, 46, 49, 13, 10, 67, 111, 110, 116, 101, 110, 116, 45, 76, 101, 110, 103, 116, 104, 58, 32, 50, 13, 10, 13, 10, 97, 98] = [80, 79, 83, 84] ∧ tM [80, 79, 83, 84, 32, 47, 98, 32, 72, 84, 84, 80, 47, 49, 46, 49, 13, 10, 67, 111, 110, 116, 101, 110, 116, 45, 76, 101, 110, 103, 116, 104, 58, 32, 50, 13, 10, 13, 10, 97, 98] = [47, 98] := ⟨by kernel_rfl, by kernel_rfl⟩
theorem sl_k0 : slash [80, 79, 83, 84, 32, 47, 98, 32, 72, 84, 84, 80, 47, 49, 46, 49, 32, 47, 32, 67, 111, 110, 116, 101, 110, 116, 45, 76, 101, 110, 103, 116, 104, 58, 32, 50, 32, 47, 32, 32, 47, 32, 97, 98] = [80, 79, 83, 84, 32, 47, 98, 32, 72, 84, 84, 80, 47, 49, 46, 49, 13, 10, 67, 111, 110, 116, 101, 110, 116, 45, 76, 101, 110, 103, 116, 104, 58, 32, 50, 13, 10, 13, 10, 97, 98] := by kernel_rfl
theorem ask_k1 : askM [] = ([], [], 0, 6) := by kernel_rfl
theorem m_k1 : mM [] = [] ∧ tM [] = [] := ⟨by kernel_rfl, by kernel_rfl⟩
theorem sl_k1 : slash [] = [] := by kernel_rfl
theorem ask_k2 : askM [71, 69, 84, 32, 47, 98, 32, 72, 84, 84, 80, 47, 49, 46, 49, 13, 10] = ([], [], 0, 6) := by kernel_rfl
theorem m_k2 : mM [71, 69, 84, 32, 47, 98, 32, 72, 84, 84, 80, 47, 49, 46, 49, 13, 10] = [] ∧ tM [71, 69, 84, 32, 47, 98, 32, 72, 84, 84, 80, 47, 49, 46, 49, 13, 10] = [] := ⟨by kernel_rfl, by kernel_rfl⟩
theorem sl_k2 : slash [71, 69, 84, 32, 47, 98, 32, 72, 84, 84, 80, 47, 49, 46, 49, 32, 47, 32] = [71, 69, 84, 32, 47, 98, 32, 72, 84, 84, 80, 47, 49, 46, 49, 13, 10] := by kernel_rfl
theorem ask_k4 : askM [13, 10, 13, 10] = ([], [], 0, 4) := by kernel_rfl
theorem m_k4 : mM [13, 10, 13, 10] = [] ∧ tM [13, 10, 13, 10] = [] := ⟨by kernel_rfl, by kernel_rfl⟩
theorem sl_k4 : slash [32, 47, 32, 32, 47, 32] = [13, 10, 13, 10] := by kernel_rfl
theorem m_k3 : mM L8 = [] ∧ tM L8 = [] := by
  unfold mM tM
  rw [l8_ask]
  exact ⟨if_neg (by decide), if_neg (by decide)⟩
theorem sl_r : slash [72, 84, 84, 80, 47, 49, 46, 49, 32, 50, 48, 48, 32, 79, 75, 32, 47, 32, 32, 47, 32, 97, 98, 99] = [72, 84, 84, 80, 47, 49, 46, 49, 32, 50, 48, 48, 32, 79, 75, 13, 10, 13, 10, 97, 98, 99] := by kernel_rfl
theorem sl_c : slash [80, 85, 84, 32, 47, 98, 32, 72, 84, 84, 80, 47, 49, 46, 48, 32, 47, 32, 84, 114, 97, 110, 115, 102, 101, 114, 45, 69, 110, 99, 111, 100, 105, 110, 103, 58, 32, 99, 104, 117, 110, 107, 101, 100, 32, 47, 32, 32, 47, 32, 50, 32, 47, 32, 97, 98, 32, 47, 32, 48, 32, 47, 32, 88, 58, 32, 121, 32, 47, 32, 32, 47, 32, 122] = [80, 85, 84, 32, 47, 98, 32, 72, 84, 84, 80, 47, 49, 46, 48, 13, 10, 84, 114, 97, 110, 115, 102, 101, 114, 45, 69, 110, 99, 111, 100, 105, 110, 103, 58, 32, 99, 104, 117, 110, 107, 101, 100, 13, 10, 13, 10, 50, 13, 10, 97, 98, 13, 10, 48, 13, 10, 88, 58, 32, 121, 13, 10, 13, 10, 122] := by kernel_rfl
theorem tell_r0 : tellM [72, 84, 84, 80, 47, 49, 46, 49, 32, 50, 48, 48, 32, 79, 75, 13, 10, 13, 10, 97, 98, 99] false = ([], [97, 98, 99], 22, 0) := by kernel_rfl
theorem tell_r1 : tellM [72, 84, 84, 80, 47, 49, 46, 49, 32, 50, 48, 48, 32, 79, 75, 13, 10, 13, 10, 97, 98, 99] true = ([], [], 19, 0) := by kernel_rfl
theorem ask_c : askM [80, 85, 84, 32, 47, 98, 32, 72, 84, 84, 80, 47, 49, 46, 48, 13, 10, 84, 114, 97, 110, 115, 102, 101, 114, 45, 69, 110, 99, 111, 100, 105, 110, 103, 58, 32, 99, 104, 117, 110, 107, 101, 100, 13, 10, 13, 10, 50, 13, 10, 97, 98, 13, 10, 48, 13, 10, 88, 58, 32, 121, 13, 10, 13, 10, 122] = ([(codN, [99, 104, 117, 110, 107, 101, 100])], [97, 98], 65, 0) := by kernel_rfl
theorem min_c : nM [80, 85, 84, 32, 47, 98, 32, 72, 84, 84, 80, 47, 49, 46, 48, 13, 10, 84, 114, 97, 110, 115, 102, 101, 114, 45, 69, 110, 99, 111, 100, 105, 110, 103, 58, 32, 99, 104, 117, 110, 107, 101, 100, 13, 10, 13, 10, 50, 13, 10, 97, 98, 13, 10, 48, 13, 10, 88, 58, 32, 121, 13, 10, 13, 10, 122] = 0 := by kernel_rfl
theorem put_1 : putQ [80, 85, 84] [47, 97] 1 [(clN, [57])] [] = ([80, 85, 84, 32, 47, 97, 32, 72, 84, 84, 80, 47, 49, 46, 49, 13, 10, 67, 111, 110, 116, 101, 110, 116, 45, 76, 101, 110, 103, 116, 104, 58, 32, 48, 13, 10, 13, 10], 0) := by kernel_rfl
theorem put_2 : putY 204 [] 1 [] [120] false = ([], 2) := by kernel_rfl
theorem put_3 : putY 200 [78, 111] 1 [([88], [121])] [97, 98] true = ([72, 84, 84, 80, 47, 49, 46, 49, 32, 50, 48, 48, 32, 78, 111, 13, 10, 88, 58, 32, 121, 13, 10, 67, 111, 110, 116, 101, 110, 116, 45, 76, 101, 110, 103, 116, 104, 58, 32, 50, 13, 10, 13, 10], 0) := by kernel_rfl
theorem put_4 : putY 304 [] 1 [] [] false = ([72, 84, 84, 80, 47, 49, 46, 49, 32, 51, 48, 52, 32, 13, 10, 13, 10], 0) := by kernel_rfl
theorem small1 (f : Fld) (h1 : f.1.length ≤ 100) (h2 : f.2.length ≤ 100) : smallF [f] := by
  intro j hj
  have : j = 0 := by simp only [List.length_cons, List.length_nil] at hj; omega
  subst this
  exact ⟨Nat.le_trans h1 (by decide), Nat.le_trans h2 (by decide)⟩
theorem putK1 (v : Value) (W : World) (he : EnvM W) (h : FL W v [(clN, [57])]) :
    Calls Tryz.prog 18 #[.agg #[.string ⟨#[80, 85, 84]⟩, .string ⟨#[47, 97]⟩, .int .i64 1, v, .string ⟨#[]⟩]] W fun e w' => e = .returned (.tuple #[.string ⟨#[80, 85, 84, 32, 47, 97, 32, 72, 84, 84, 80, 47, 49, 46, 49, 13, 10, 67, 111, 110, 116, 101, 110, 116, 45, 76, 101, 110, 103, 116, 104, 58, 32, 48, 13, 10, 13, 10]⟩, .int .i64 0]) ∧ Below W.heap.size W w' := by
  have hk := msgPutQ_any [80, 85, 84] [47, 97] [] 1 v _ W he h (small1 _ (by decide) (by decide)) (by decide) (by decide) (by decide) (by decide)
  rw [put_1] at hk
  exact hk
theorem putK2 (W : World) (he : EnvM W) :
    Calls Tryz.prog 20 #[.agg #[.int .i64 204, .string ⟨#[]⟩, .int .i64 1, .slice none 0 0, .string ⟨#[120]⟩], .bool false] W fun e w' => e = .returned (.tuple #[.string ⟨#[]⟩, .int .i64 2]) ∧ Below W.heap.size W w' := by
  have hk := msgPutY_any 204 1 [] [120] false _ [] W he (FL_nil W) (fun j hj => absurd hj (by simp)) (by decide) (by decide) (by decide)
  rw [put_2] at hk
  exact hk
theorem putK3 (v : Value) (W : World) (he : EnvM W) (h : FL W v [([88], [121])]) :
    Calls Tryz.prog 20 #[.agg #[.int .i64 200, .string ⟨#[78, 111]⟩, .int .i64 1, v, .string ⟨#[97, 98]⟩], .bool true] W fun e w' => e = .returned (.tuple #[.string ⟨#[72, 84, 84, 80, 47, 49, 46, 49, 32, 50, 48, 48, 32, 78, 111, 13, 10, 88, 58, 32, 121, 13, 10, 67, 111, 110, 116, 101, 110, 116, 45, 76, 101, 110, 103, 116, 104, 58, 32, 50, 13, 10, 13, 10]⟩, .int .i64 0]) ∧ Below W.heap.size W w' := by
  have hk := msgPutY_any 200 1 [78, 111] [97, 98] true v _ W he h (small1 _ (by decide) (by decide)) (by decide) (by decide) (by decide)
  rw [put_3] at hk
  exact hk
theorem putK4 (W : World) (he : EnvM W) :
    Calls Tryz.prog 20 #[.agg #[.int .i64 304, .string ⟨#[]⟩, .int .i64 1, .slice none 0 0, .string ⟨#[]⟩], .bool false] W fun e w' => e = .returned (.tuple #[.string ⟨#[72, 84, 84, 80, 47, 49, 46, 49, 32, 51, 48, 52, 32, 13, 10, 13, 10]⟩, .int .i64 0]) ∧ Below W.heap.size W w' := by
  have hk := msgPutY_any 304 1 [] [] false _ [] W he (FL_nil W) (fun j hj => absurd hj (by simp)) (by decide) (by decide) (by decide)
  rw [put_4] at hk
  exact hk

set_option maxHeartbeats 4000000 in
set_option maxRecDepth 100000 in
theorem messageKnown_any (w : World) (he : EnvM w) : Calls Tryz.prog 9 #[] w fun e w' => e = .returned (.bool true) ∧ Below w.heap.size w w' := by
  have HE := Lib.hid he
  have HW := Lib.hid (fun W (h : EnvM W) => works_any W h)
  have HA0 : Hid (∀ W, EnvM W → Calls Tryz.prog 24 #[.string ⟨#[80, 79, 83, 84, 32, 47, 98, 32, 72, 84, 84, 80, 47, 49, 46, 49, 32, 47, 32, 67, 111, 110, 116, 101, 110, 116, 45, 76, 101, 110, 103, 116, 104, 58, 32, 50, 32, 47, 32, 32, 47, 32, 97, 98]⟩, .string ⟨#[80, 79, 83, 84]⟩, .string ⟨#[47, 98]⟩, .string ⟨#[97, 98]⟩, .int .i64 41, .int .i64 0] W fun e w' => e = .returned (.bool true) ∧ Below W.heap.size W w') := fun W h => asksK (x := ⟨#[80, 79, 83, 84, 32, 47, 98, 32, 72, 84, 84, 80, 47, 49, 46, 49, 32, 47, 32, 67, 111, 110, 116, 101, 110, 116, 45, 76, 101, 110, 103, 116, 104, 58, 32, 50, 32, 47, 32, 32, 47, 32, 97, 98]⟩) sl_k0 ask_k0 m_k0.1 m_k0.2 (by decide) (by decide) W h
  have HA1 : Hid (∀ W, EnvM W → Calls Tryz.prog 24 #[.string ⟨#[]⟩, .string ⟨#[]⟩, .string ⟨#[]⟩, .string ⟨#[]⟩, .int .i64 0, .int .i64 6] W fun e w' => e = .returned (.bool true) ∧ Below W.heap.size W w') := fun W h => asksK (x := ⟨#[]⟩) sl_k1 ask_k1 m_k1.1 m_k1.2 (by decide) (by decide) W h
  have HA2 : Hid (∀ W, EnvM W → Calls Tryz.prog 24 #[.string ⟨#[71, 69, 84, 32, 47, 98, 32, 72, 84, 84, 80, 47, 49, 46, 49, 32, 47, 32]⟩, .string ⟨#[]⟩, .string ⟨#[]⟩, .string ⟨#[]⟩, .int .i64 0, .int .i64 6] W fun e w' => e = .returned (.bool true) ∧ Below W.heap.size W w') := fun W h => asksK (x := ⟨#[71, 69, 84, 32, 47, 98, 32, 72, 84, 84, 80, 47, 49, 46, 49, 32, 47, 32]⟩) sl_k2 ask_k2 m_k2.1 m_k2.2 (by decide) (by decide) W h
  have HA3 : Hid (∀ W, EnvM W → Calls Tryz.prog 24 #[.string (bs L8), .string ⟨#[]⟩, .string ⟨#[]⟩, .string ⟨#[]⟩, .int .i64 0, .int .i64 3] W fun e w' => e = .returned (.bool true) ∧ Below W.heap.size W w') := fun W h => asksK (x := bs L8) (by rw [bs_data]; exact l8_slash) l8_ask m_k3.1 m_k3.2 (by rw [bs_size]; exact l8_small) l8_len W h
  have HA4 : Hid (∀ W, EnvM W → Calls Tryz.prog 24 #[.string ⟨#[32, 47, 32, 32, 47, 32]⟩, .string ⟨#[]⟩, .string ⟨#[]⟩, .string ⟨#[]⟩, .int .i64 0, .int .i64 4] W fun e w' => e = .returned (.bool true) ∧ Below W.heap.size W w') := fun W h => asksK (x := ⟨#[32, 47, 32, 32, 47, 32]⟩) sl_k4 ask_k4 m_k4.1 m_k4.2 (by decide) (by decide) W h
  have HRP : Hid (∀ W : World, Calls Tryz.prog 25 #[.string ⟨#[97]⟩, .int .i64 8192] W fun e w' => e = .returned (.string (bs L8)) ∧ Below W.heap.size W w') := fun W => by
    have h := Tryz.strings_Repeat (⟨#[97]⟩ : ByteArray) 8192 W (by decide) (by decide)
    rw [show (⟨#[97]⟩ : ByteArray).data.toList = [97] from rfl, l8_rep] at h
    exact h
  have HLR : Hid (∀ W, EnvM W → Calls Tryz.prog 26 #[.string ⟨#[72, 84, 84, 80, 47, 49, 46, 49, 32, 50, 48, 48, 32, 79, 75, 32, 47, 32, 32, 47, 32, 97, 98, 99]⟩] W fun e w' => e = .returned (.string (bs [72, 84, 84, 80, 47, 49, 46, 49, 32, 50, 48, 48, 32, 79, 75, 13, 10, 13, 10, 97, 98, 99])) ∧ Below W.heap.size W w') := fun W h => linesK (x := ⟨#[72, 84, 84, 80, 47, 49, 46, 49, 32, 50, 48, 48, 32, 79, 75, 32, 47, 32, 32, 47, 32, 97, 98, 99]⟩) sl_r (by decide) W h
  have HLC : Hid (∀ W, EnvM W → Calls Tryz.prog 26 #[.string ⟨#[80, 85, 84, 32, 47, 98, 32, 72, 84, 84, 80, 47, 49, 46, 48, 32, 47, 32, 84, 114, 97, 110, 115, 102, 101, 114, 45, 69, 110, 99, 111, 100, 105, 110, 103, 58, 32, 99, 104, 117, 110, 107, 101, 100, 32, 47, 32, 32, 47, 32, 50, 32, 47, 32, 97, 98, 32, 47, 32, 48, 32, 47, 32, 88, 58, 32, 121, 32, 47, 32, 32, 47, 32, 122]⟩] W fun e w' => e = .returned (.string (bs [80, 85, 84, 32, 47, 98, 32, 72, 84, 84, 80, 47, 49, 46, 48, 13, 10, 84, 114, 97, 110, 115, 102, 101, 114, 45, 69, 110, 99, 111, 100, 105, 110, 103, 58, 32, 99, 104, 117, 110, 107, 101, 100, 13, 10, 13, 10, 50, 13, 10, 97, 98, 13, 10, 48, 13, 10, 88, 58, 32, 121, 13, 10, 13, 10, 122])) ∧ Below W.heap.size W w') := fun W h => linesK (x := ⟨#[80, 85, 84, 32, 47, 98, 32, 72, 84, 84, 80, 47, 49, 46, 48, 32, 47, 32, 84, 114, 97, 110, 115, 102, 101, 114, 45, 69, 110, 99, 111, 100, 105, 110, 103, 58, 32, 99, 104, 117, 110, 107, 101, 100, 32, 47, 32, 32, 47, 32, 50, 32, 47, 32, 97, 98, 32, 47, 32, 48, 32, 47, 32, 88, 58, 32, 121, 32, 47, 32, 32, 47, 32, 122]⟩) sl_c (by decide) W h
  have HR0 := Lib.hid (fun W (h : EnvM W) => replyK tell_r0 (show bs [97, 98, 99] = ⟨#[97, 98, 99]⟩ from rfl) (by decide) W h)
  have HR1 := Lib.hid (fun W (h : EnvM W) => replyK tell_r1 (show bs [] = ⟨#[]⟩ from rfl) (by decide) W h)
  have HRC := Lib.hid (fun W (h : EnvM W) => requestK ask_c min_c (show bs [97, 98] = ⟨#[97, 98]⟩ from rfl) (by decide) W h)
  have HB0 := Lib.hid (Below.refl w.heap.size w)
  clear he
  go_enter Tryz.func9, Tryz.ntmps9
  go_wp2_with fail
  refine (HW.out _ (HE.out.bel HB0.out)).mono ?_
  rintro e w1 ⟨rfl, hb⟩
  have HB1 := Lib.hid (HB0.out.trans (hb.mono HB0.out.size))
  clear hb HB0
  go_wp2_with fail
  refine (HA0.out _ (HE.out.bel HB1.out)).mono ?_
  rintro e w2 ⟨rfl, hb⟩
  have HB2 := Lib.hid (HB1.out.trans (hb.mono HB1.out.size))
  clear hb HB1
  go_wp2_with fail
  refine (HA1.out _ (HE.out.bel HB2.out)).mono ?_
  rintro e w3 ⟨rfl, hb⟩
  have HB3 := Lib.hid (HB2.out.trans (hb.mono HB2.out.size))
  clear hb HB2
  go_wp2_with fail
  refine (HA2.out _ (HE.out.bel HB3.out)).mono ?_
  rintro e w4 ⟨rfl, hb⟩
  have HB4 := Lib.hid (HB3.out.trans (hb.mono HB3.out.size))
  clear hb HB3
  go_wp2_with fail
  refine (HRP.out _).mono ?_
  rintro e w5 ⟨rfl, hb⟩
  have HB5 := Lib.hid (HB4.out.trans (hb.mono HB4.out.size))
  clear hb HB4
  go_wp2_with fail
  refine (HA3.out _ (HE.out.bel HB5.out)).mono ?_
  rintro e w6 ⟨rfl, hb⟩
  have HB6 := Lib.hid (HB5.out.trans (hb.mono HB5.out.size))
  clear hb HB5
  go_wp2_with fail
  refine (HA4.out _ (HE.out.bel HB6.out)).mono ?_
  rintro e w7 ⟨rfl, hb⟩
  have HB7 := Lib.hid (HB6.out.trans (hb.mono HB6.out.size))
  clear hb HB6
  go_wp2_with fail
  refine (HLR.out _ (HE.out.bel HB7.out)).mono ?_
  rintro e w8 ⟨rfl, hb⟩
  have HB8 := Lib.hid (HB7.out.trans (hb.mono HB7.out.size))
  clear hb HB7 
  go_wp2_with fail
  refine (HR0.out _ (HE.out.bel HB8.out)).mono ?_
  rintro e w9 ⟨c1, r1, o1, A1, k1, rfl, hb⟩
  have HB9 := Lib.hid (HB8.out.trans (hb.mono HB8.out.size))
  have hd : Below w9.heap.size w9 (w9.alloc (.cells #[.int .i64 c1, .string r1, .int .i64 o1, .slice A1 0 k1, .string ⟨#[97, 98, 99]⟩] 32)) := (Below.refl _ _).alloc (Nat.le_refl _) _
  have KA := Lib.hid (blk.new w9 #[.int .i64 c1, .string r1, .int .i64 o1, .slice A1 0 k1, .string ⟨#[97, 98, 99]⟩] 32)
  have HB10 := Lib.hid (HB9.out.trans (hd.mono HB9.out.size))
  clear hb hd HB8 HB9 
  go_wp2_with fail
  generalize w9.alloc (.cells #[.int .i64 c1, .string r1, .int .i64 o1, .slice A1 0 k1, .string ⟨#[97, 98, 99]⟩] 32) = z9 at *
  generalize w9.heap.size = g9 at *
  refine (HLR.out _ (HE.out.bel HB10.out)).mono ?_
  rintro e w11 ⟨rfl, hb⟩
  have HB11 := Lib.hid (HB10.out.trans (hb.mono HB10.out.size))
  have KAi := Lib.hid (KA.out.below hb)
  clear hb HB10 KA
  go_wp2_with fail
  refine (HR1.out _ (HE.out.bel HB11.out)).mono ?_
  rintro e w12 ⟨c2, r2, o2, A2, k2, rfl, hb⟩
  have HB12 := Lib.hid (HB11.out.trans (hb.mono HB11.out.size))
  have hd : Below w12.heap.size w12 (w12.alloc (.cells #[.int .i64 c2, .string r2, .int .i64 o2, .slice A2 0 k2, .string ⟨#[]⟩] 32)) := (Below.refl _ _).alloc (Nat.le_refl _) _
  have KAi' := Lib.hid ((KAi.out.below hb).below hd)
  have KB := Lib.hid (blk.new w12 #[.int .i64 c2, .string r2, .int .i64 o2, .slice A2 0 k2, .string ⟨#[]⟩] 32)
  have HB13 := Lib.hid (HB12.out.trans (hd.mono HB12.out.size))
  clear hb hd HB11 HB12 KAi
  go_wp2_with fail
  generalize w12.alloc (.cells #[.int .i64 c2, .string r2, .int .i64 o2, .slice A2 0 k2, .string ⟨#[]⟩] 32) = z12 at *
  generalize w12.heap.size = g12 at *
  have KA := KAi'; clear KAi'
  refine (HLC.out _ (HE.out.bel HB13.out)).mono ?_
  rintro e w14 ⟨rfl, hb⟩
  have HB14 := Lib.hid (HB13.out.trans (hb.mono HB13.out.size))
  have KAi := Lib.hid (KA.out.below hb)
  have KBi := Lib.hid (KB.out.below hb)
  clear hb HB13 KA KB
  go_wp2_with fail
  refine (HRC.out _ (HE.out.bel HB14.out)).mono ?_
  rintro e w15 ⟨m3, t3, A3, k3, rfl, hb⟩
  have HB15 := Lib.hid (HB14.out.trans (hb.mono HB14.out.size))
  have hd : Below w15.heap.size w15 (w15.alloc (.cells #[.string m3, .string t3, .int .i64 0, .slice A3 1 k3, .string ⟨#[97, 98]⟩] 25)) := (Below.refl _ _).alloc (Nat.le_refl _) _
  have KAi' := Lib.hid ((KAi.out.below hb).below hd)
  have KBi' := Lib.hid ((KBi.out.below hb).below hd)
  have KC := Lib.hid (blk.new w15 #[.string m3, .string t3, .int .i64 0, .slice A3 1 k3, .string ⟨#[97, 98]⟩] 25)
  have HB16 := Lib.hid (HB15.out.trans (hd.mono HB15.out.size))
  clear hb hd HB14 HB15 KAi KBi
  have a4 := KAi'.out.cell 4 _ rfl; have b4 := KBi'.out.cell 4 _ rfl
  have d2 := KC.out.cell 2 _ rfl; have d3 := KC.out.cell 3 _ rfl; have d4 := KC.out.cell 4 _ rfl
  have hsz : (w15.alloc (.cells #[.string m3, .string t3, .int .i64 0, .slice A3 1 k3, .string ⟨#[97, 98]⟩] 25)).heap.size = w15.heap.size + 1 := by simp
  go_wp2_with fail
  clear a4 b4 d2 d3 d4 KAi' KBi' KC
  generalize w15.alloc (.cells #[.string m3, .string t3, .int .i64 0, .slice A3 1 k3, .string ⟨#[97, 98]⟩] 25) = z15 at *
  have hfl := FL_mono1 z15 (clN, [57])
  rw [hsz] at hfl
  have hd : Below z15.heap.size z15 (z15.alloc (.cells #[.string (bs clN), .string (bs [57])] 63)) := (Below.refl _ _).alloc (Nat.le_refl _) _
  have HD := Lib.hid (HB16.out.trans (hd.mono HB16.out.size))
  refine (putK1 _ _ (HE.out.bel HD.out) hfl).mono ?_
  rintro e w17 ⟨rfl, hb⟩
  have HB17 := Lib.hid (HD.out.trans (hb.mono HD.out.size))
  clear hfl hd HD hb HB16
  go_wp2_with fail
  refine (putK2 _ (HE.out.bel HB17.out)).mono ?_
  rintro e w18 ⟨rfl, hb⟩
  have HB18 := Lib.hid (HB17.out.trans (hb.mono HB17.out.size))
  clear hb HB17
  go_wp2_with fail
  have hfl := FL_mono1 w18 ([88], [121])
  have hd : Below w18.heap.size w18 (w18.alloc (.cells #[.string (bs [88]), .string (bs [121])] 63)) := (Below.refl _ _).alloc (Nat.le_refl _) _
  have HD := Lib.hid (HB18.out.trans (hd.mono HB18.out.size))
  refine (putK3 _ _ (HE.out.bel HD.out) hfl).mono ?_
  rintro e w19 ⟨rfl, hb⟩
  have HB19 := Lib.hid (HD.out.trans (hb.mono HD.out.size))
  clear hfl hd HD hb HB18
  go_wp2_with fail
  refine (putK4 _ (HE.out.bel HB19.out)).mono ?_
  rintro e w20 ⟨rfl, hb⟩
  have HB20 := Lib.hid (HB19.out.trans (hb.mono HB19.out.size))
  clear hb HB19
  go_wp2_with fail
  refine (HW.out _ (HE.out.bel HB20.out)).mono ?_
  rintro e w21 ⟨rfl, hb⟩
  have HB21 := Lib.hid (HB20.out.trans (hb.mono HB20.out.size))
  clear hb HB20
  go_wp2_with fail
  go_ret
  exact ⟨rfl, HB21.out⟩
theorem messageKnown_law (w : World) (hm : MaxL w) (hl : LibM w) : Calls Tryz.prog 9 #[] w fun e w' => e = .returned (.bool true) ∧ Below w.heap.size w w' := messageKnown_any w (envM hm hl)
end Go.Proofs.YtgkjjmcjlobbpaaGreatDoor
