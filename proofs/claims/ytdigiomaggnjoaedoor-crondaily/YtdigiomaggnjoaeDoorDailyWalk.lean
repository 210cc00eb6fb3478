/- The law CronDaily, walked. -/
import Derived.Test.YtdigiomaggnjoaeDoorCronFaces
import Derived.Test.YtdigiomaggnjoaeDoorCronOrWalks
import Derived.Test.YtdigiomaggnjoaeDoorDailyPlain
import Derived.Test.YtdigiomaggnjoaeDoorRestWalk
namespace Go.Proofs.YtdigiomaggnjoaeDoor
namespace Crn
open Go.RowKit Lai Civ Cal Rst
set_option maxRecDepth 8000

theorem pow_wrap (n : Int) (h : 0 ≤ n ∧ n ≤ 63) : IntKind.u64.wrap ((2 : Int) ^ n.toNat) = ((2 ^ n.toNat : Nat) : Int) := by
  rw [wrap_pow n.toNat (by omega)]; simp
theorem daily_any (h m : Int) (w : World) (h0 : 0 ≤ h) (h1 : h ≤ 23) (m0 : 0 ≤ m) (m1 : m ≤ 59) :
    Calls Tryd.prog 10 #[.int .i64 h, .int .i64 m] w fun e w' => e = .returned (cronV ((2 ^ m.toNat : Nat) : Int) ((2 ^ h.toNat : Nat) : Int) 4294967294 8190 127 true true) ∧ Below w.heap.size w w' := by
  have HM : Hid (_ = _) := pow_wrap m (by omega)
  have HH : Hid (_ = _) := pow_wrap h (by omega)
  go_enter Tryd.func10, Tryd.ntmps10
  go_wp2
  go_region
  all_goals
  go_wp2
  rw [← HM.out, ← HH.out]
  refine bodyPost_ret (v := cronV (IntKind.u64.wrap (2 ^ m.toNat)) (IntKind.u64.wrap (2 ^ h.toNat)) 4294967294 8190 127 true true) (by simp [results, Tryd.results10, go_sem]) rfl ⟨rfl, ?_⟩
  exact (balloc _).drew

theorem daily_pack (h m s t : Int) (hh : 0 ≤ h ∧ h ≤ 23) (hm : 0 ≤ m ∧ m ≤ 59) (hs : 0 ≤ s ∧ s < 1000000000) (ht : -900 ≤ t ∧ t ≤ 900) :
    ∃ X Y A : Int, (∀ w, Calls Tryd.prog 10 #[.int .i64 h, .int .i64 m] w fun e w' => e = .returned (cronV X Y 4294967294 8190 127 true true) ∧ Below w.heap.size w w') ∧ s < A ∧ A ≤ s + 86400 ∧
      (∀ w, BdsAt w → TabIs64 w → Calls Tryd.prog 12 #[cronV X Y 4294967294 8190 127 true true, .int .i64 s, .int .i64 t] w fun e w' => e = .returned (.tuple #[.int .i64 A, .bool true, .int .i64 0]) ∧ Below w.heap.size w w') ∧
      (∀ w, BdsAt w → TabIs64 w → Calls Tryd.prog 12 #[cronV X Y 4294967294 8190 127 true true, .int .i64 A, .int .i64 t] w fun e w' => e = .returned (.tuple #[.int .i64 (A + 86400), .bool true, .int .i64 0]) ∧ Below w.heap.size w w') ∧
      (∀ w, BdsAt w → Calls Tryd.prog 15 #[cronV X Y 4294967294 8190 127 true true, .int .i64 s, .int .i64 t] w fun e w' => e = .returned (.tuple #[.int .i64 (A - 86400), .bool true, .int .i64 0]) ∧ Below w.heap.size w w') := by
  obtain ⟨H, rfl⟩ := Int.eq_ofNat_of_zero_le hh.1
  obtain ⟨M, rfl⟩ := Int.eq_ofNat_of_zero_le hm.1
  have hH : H < 24 := by omega
  have hM : M < 60 := by omega
  have b0 : U ((2 ^ M : Nat) : Int) := pow_u M (by omega)
  have b1 : U ((2 ^ H : Nat) : Int) := pow_u H (by omega)
  have b2 : U 4294967294 := by unfold U; decide
  have b3 : U 8190 := by unfold U; decide
  have b4 : U 127 := by unfold U; decide
  have hc := daily_chk H M hH hM
  have hsh : shB t = true := (sh_iff _).2 ht
  have eU : minOf s t = (s + (188395027200 + t * 60)) / 60 := rfl
  generalize hu : minOf s t + 1 + (H * 60 + M - minOf s t - 1) % 1440 = u
  have u1 : minOf s t < u := by omega
  have u2 : u ≤ minOf s t + 1440 := by omega
  have u3 : u % 1440 = H * 60 + M := by omega
  have hA : s < at60 u t ∧ at60 u t ≤ s + 86400 := by unfold at60; omega
  refine ⟨((2 ^ M : Nat) : Int), ((2 ^ H : Nat) : Int), at60 u t, ?_, hA.1, hA.2, ?_, ?_, ?_⟩
  · intro w
    exact daily_any H M w (by omega) (by omega) (by omega) (by omega)
  · intro w hB hT
    refine (next_yes _ _ _ _ _ _ _ s t w hB hT b0 b1 b2 b3 b4 hc ((tm_iff _).2 (by omega)) hsh).mono fun e w' ⟨n, ok, he, hn, hb⟩ => ?_
    obtain ⟨rfl, rfl⟩ := next_one hn (Or.inl ⟨rfl, u, rfl, (tm_iff _).2 (by omega), daily_first H M hH hM _ u u1 u2 u3⟩)
    exact ⟨he, hb⟩
  · intro w hB hT
    refine (next_yes _ _ _ _ _ _ _ (at60 u t) t w hB hT b0 b1 b2 b3 b4 hc ((tm_iff _).2 (by omega)) hsh).mono fun e w' ⟨n, ok, he, hn, hb⟩ => ?_
    have em : minOf (at60 u t) t = u := by unfold minOf sc at60; omega
    have e2 : at60 (u + 1440) t = at60 u t + 86400 := by unfold at60; omega
    rw [em] at hn
    obtain ⟨rfl, rfl⟩ := next_one hn (Or.inl ⟨rfl, u + 1440, rfl, (tm_iff _).2 (by rw [e2]; omega), daily_first H M hH hM _ (u + 1440) (by omega) (by omega) (by omega)⟩)
    rw [e2] at he
    exact ⟨he, hb⟩
  · intro w hB
    refine (last_yes _ _ _ _ _ _ _ s t w hB b0 b1 b2 b3 b4 hc ((tm_iff _).2 (by omega)) hsh).mono fun e w' ⟨n, ok, he, hn, hb⟩ => ?_
    have e2 : at60 (u - 1440) t = at60 u t - 86400 := by unfold at60; omega
    obtain ⟨rfl, rfl⟩ := lasts_one hn (Or.inl ⟨rfl, u - 1440, rfl, (tm_iff _).2 (by rw [e2]; omega), daily_last H M hH hM _ (u - 1440) (by omega) (by omega) (by omega)⟩)
    rw [e2] at he
    exact ⟨he, hb⟩

theorem last_c (w : World) (hB : BdsAt w) : Calls Tryd.prog 15 #[cronV 1073741824 64 4294967294 8190 127 true true, .int .i64 23399, .int .i64 0] w fun e w' => e = .returned (.tuple #[.int .i64 (-63000), .bool true, .int .i64 0]) ∧ Below w.heap.size w w' := by
  have b0 : U 1073741824 := by unfold U; omega
  have b1 : U 64 := by unfold U; omega
  have b2 : U 4294967294 := by unfold U; omega
  have b3 : U 8190 := by unfold U; omega
  have b4 : U 127 := by unfold U; omega
  have hc : chkB 1073741824 64 4294967294 8190 127 true true = true := by decide
  refine (last_yes 1073741824 64 4294967294 8190 127 true true 23399 0 w hB b0 b1 b2 b3 b4 hc (by decide) (by decide)).mono fun e w' ⟨n, ok, he, hn, hb⟩ => ?_
  have hm : minOf 23399 0 = 3139917509 := by decide
  rw [hm] at hn
  have hF : LastN 1073741824 64 4294967294 8190 127 true true 3139917509 3139916070 := daily_last 6 30 (by omega) (by omega) 3139917509 3139916070 (by omega) (by omega) (by omega)
  obtain ⟨rfl, rfl⟩ := lasts_one hn (Or.inl ⟨rfl, 3139916070, rfl, by decide, hF⟩)
  exact ⟨he, hb⟩

set_option maxHeartbeats 8000000 in
theorem cd_any (a0 a1 a2 a3 : Int) (w : World) (hB : BdsAt w) (hT : TabIs64 w) :
    Calls Tryd.prog 5 #[.int .i64 a0, .int .i64 a1, .int .i64 a2, .int .i64 a3] w fun e w' => e = .returned (.bool true) ∧ Below w.heap.size w w' := by
  obtain ⟨X, Y, A, cd, A1, A2, n1, n2, n3⟩ := daily_pack (a0 % 24) (a1 % 60) (a2 % 1000000000) (a3 % 1801 - 900) (by omega) (by omega) (by omega) (by omega)
  have bs : 0 ≤ a2 % 1000000000 := by omega
  have bs2 : a2 % 1000000000 < 1000000000 := by omega
  have bt : 0 ≤ a3 % 1801 := by omega
  have bt2 : a3 % 1801 < 1801 := by omega
  go_enter Tryd.func5, Tryd.ntmps5
  go_wp2_with (first
    | (go_at_call 10; (with_reducible refine (daily_c _).mono ?_); rintro e w1 ⟨rfl, hb1⟩; have hB1 : BdsAt w1 := hB.below hb1 (Nat.le_refl _); have hT1 : TabIs64 w1 := hT.below hb1 (Nat.le_refl _); have hw1 : Hid (Below w.heap.size w w1) := hb1)
    | (go_at_call 15; (with_reducible refine (last_c _ hB1).mono ?_); rintro e w2 ⟨rfl, hb2⟩; have hB2 : BdsAt w2 := hB1.below hb2 (Nat.le_refl _); have hT2 : TabIs64 w2 := hT1.below hb2 (Nat.le_refl _); have hw2 : Hid (Below w.heap.size w w2) := bstep hw1 hb2)
    | (go_at_call 16; (with_reducible refine (rest_any _ _ _ (by omega) (by omega)).mono ?_); rintro e w' ⟨rfl, rfl⟩)
    | (go_at_call 10; (with_reducible refine (cd _).mono ?_); rintro e w3 ⟨rfl, hb3⟩; have hB3 : BdsAt w3 := hB2.below hb3 (Nat.le_refl _); have hT3 : TabIs64 w3 := hT2.below hb3 (Nat.le_refl _); have hw3 : Hid (Below w.heap.size w w3) := bstep hw2 hb3)
    | (go_at_call 12; (with_reducible refine (n1 _ (bdsA hB3) (tabA hT3)).mono ?_); rintro e w4 ⟨rfl, hb4⟩; have hB4 : BdsAt w4 := (bdsA hB3).below hb4 (Nat.le_refl _); have hT4 : TabIs64 w4 := (tabA hT3).below hb4 (Nat.le_refl _); have hw4 : Hid (Below w.heap.size w w4) := bstep hw3 ((balloc _).trans (hb4.mono (by simp))); obtain ⟨hc4, hf4⟩ := bcell hb4; have hz4 : w3.heap.size < w4.heap.size := (by have := hb4.size; simp at this; omega))
    | (go_at_call 12; (with_reducible refine (n2 _ hB4 hT4).mono ?_); rintro e w5 ⟨rfl, hb5⟩; have hB5 : BdsAt w5 := hB4.below hb5 (Nat.le_refl _); have hw5 : Hid (Below w.heap.size w w5) := bstep hw4 hb5; obtain ⟨hc5, hf5⟩ := bcell hb5)
    | (go_at_call 15; (with_reducible refine (n3 _ hB5).mono ?_); rintro e w6 ⟨rfl, hb6⟩; have hw6 : Hid (Below w.heap.size w w6) := bstep hw5 hb6))
  go_ret
  exact ⟨rfl, hw6⟩
end Crn
end Go.Proofs.YtdigiomaggnjoaeDoor
