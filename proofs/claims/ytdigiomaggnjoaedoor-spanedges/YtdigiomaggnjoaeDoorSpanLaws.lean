/- The laws of spans: what their calls answer. -/
import Derived.Test.YtdigiomaggnjoaeDoorSpanEdge
import Derived.Test.YtdigiomaggnjoaeDoorDailyPlain
namespace Go.Proofs.YtdigiomaggnjoaeDoor
namespace Crn
open Go.RowKit Lai Civ Cal
set_option maxRecDepth 8000

theorem stays {a b : K} {r : Bool} (hW : Win (mt a)) {U V shift : Int} (h : r = true ↔ InP (mt a) (mt b) U shift) (hUV : U ≤ V) (hn : ∀ v, U < v → v ≤ V → mt (if r = true then b else a) v = false) (h2 : at60 V shift ≤ 100000000000) : r = true ↔ InP (mt a) (mt b) V shift := by
  cases r
  · have h0 : ¬ InP (mt a) (mt b) U shift := fun g => by have := h.2 g; cases this
    have := out_stays h0 hUV hn h2
    exact ⟨fun g => (by cases g), fun g => absurd g this⟩
  · exact ⟨fun _ => in_stays (h.1 rfl) hUV hn h2 hW, fun _ => rfl⟩
theorem min_at (x shift : Int) : minOf (at60 x shift) shift = x := by unfold minOf sc at60; omega
theorem edge_law {a b : K} {r : Bool} {shift : Int} (hW : Win (mt a)) : ∀ (k : Nat) (sec n : Int), EdgeR (if r = true then b else a) a b r shift k sec n true → (r = true ↔ InP (mt a) (mt b) (minOf sec shift) shift) →
    sec < n ∧ tmB n = true ∧ ¬ (r = true ↔ InP (mt a) (mt b) (minOf n shift) shift) ∧ ∀ t, sec ≤ t → t < n → (r = true ↔ InP (mt a) (mt b) (minOf t shift) shift)
  | 0, sec, n, h, _ => by cases h.2
  | k + 1, sec, n, h, hr => by
    obtain ⟨m, is, h1, h2⟩ := h
    rcases h2 with ⟨_, _, e⟩ | ⟨rfl, h2⟩
    · cases e
    obtain ⟨x, rfl, hx⟩ : ∃ x, m = at60 x shift ∧ FOk (mt (if r = true then b else a)) (minOf sec shift) shift x := by
      rcases h1 with ⟨_, x, e, hx⟩ | ⟨e, _⟩
      · exact ⟨x, e, hx⟩
      · cases e
    have hlt : sec < at60 x shift := by have := hx.1.1; unfold minOf sc at this; unfold at60; omega
    have hti := (inT_iff _).1 hx.2
    have hst : ∀ t, sec ≤ t → t < at60 x shift → (r = true ↔ InP (mt a) (mt b) (minOf t shift) shift) := by
      intro t g1 g2
      have e1 : minOf t shift < x := by unfold minOf sc; unfold at60 at g2; omega
      refine stays hW hr (by unfold minOf sc; omega) (fun v q1 q2 => hx.1.2.2.2 v q1 (by omega)) ?_
      have : at60 (minOf t shift) shift ≤ t := by unfold at60 minOf sc; omega
      omega
    rcases h2 with ⟨i, rfl, _⟩ | ⟨i, h2⟩
    · exact ⟨hlt, hx.2, i, hst⟩
    · obtain ⟨a1, a2, a3, a4⟩ := edge_law hW k _ n h2 i
      refine ⟨by omega, a2, a3, fun t g1 g2 => ?_⟩
      by_cases g : t < at60 x shift
      · exact hst t g1 g
      · exact a4 t (by omega) g2
theorem edge_f {c a b : K} {r : Bool} {shift : Int} : ∀ (k : Nat) (sec n : Int), EdgeR c a b r shift k sec n false → n = 0
  | 0, sec, n, h => h.1
  | k + 1, sec, n, h => by
    obtain ⟨m, is, h1, h2⟩ := h
    rcases h2 with ⟨_, e, _⟩ | ⟨_, h2⟩
    · exact e
    · rcases h2 with ⟨_, _, e⟩ | ⟨_, h2⟩
      · cases e
      · exact edge_f k _ n h2

/-- daily at 8:00, at 18:00 -/
abbrev k8 : K := ⟨1, 256, 4294967294, 8190, 127, true, true⟩
abbrev k18 : K := ⟨1, 262144, 4294967294, 8190, 127, true, true⟩
theorem us_k8 : Us k8 := ⟨by unfold U; decide, by unfold U; decide, by unfold U; decide, by unfold U; decide, by unfold U; decide⟩
theorem us_k18 : Us k18 := ⟨by unfold U; decide, by unfold U; decide, by unfold U; decide, by unfold U; decide, by unfold U; decide⟩
theorem kc_k8 : kc k8 = true := daily_chk 8 0 (by omega) (by omega)
theorem kc_k18 : kc k18 = true := daily_chk 18 0 (by omega) (by omega)
theorem lok8 (U x : Int) (h1 : x ≤ U) (h2 : U < x + 1440) (h3 : x % 1440 = 480) (hi : inT (at60 x 0) = true) : LOk (mt k8) U 0 x := ⟨daily_last 8 0 (by omega) (by omega) U x h1 h2 h3, hi⟩
theorem lok18 (U x : Int) (h1 : x ≤ U) (h2 : U < x + 1440) (h3 : x % 1440 = 1080) (hi : inT (at60 x 0) = true) : LOk (mt k18) U 0 x := ⟨daily_last 18 0 (by omega) (by omega) U x h1 h2 h3, hi⟩
theorem fok18 (U x : Int) (h1 : U < x) (h2 : x ≤ U + 1440) (h3 : x % 1440 = 1080) (hi : inT (at60 x 0) = true) : FOk (mt k18) U 0 x := ⟨daily_first 18 0 (by omega) (by omega) U x h1 h2 h3, hi⟩
theorem in_night : InP (mt k18) (mt k8) (minOf 0 0) 0 := by
  have e : minOf 0 0 = 3139917120 := by decide
  rw [e]
  refine ⟨3139916760, lok18 _ _ (by omega) (by omega) (by omega) (by decide), fun y hy => ?_⟩
  rw [lok_one hy (lok8 3139917120 3139916160 (by omega) (by omega) (by omega) (by decide))]; omega
theorem in_eight : InP (mt k8) (mt k18) (minOf 28800 0) 0 := by
  have e : minOf 28800 0 = 3139917600 := by decide
  rw [e]
  refine ⟨3139917600, lok8 _ _ (by omega) (by omega) (by omega) (by decide), fun y hy => ?_⟩
  exact hy.1.1
theorem in_nine : InP (mt k8) (mt k18) (minOf 32400 0) 0 := by
  have e : minOf 32400 0 = 3139917660 := by decide
  rw [e]
  refine ⟨3139917600, lok8 _ _ (by omega) (by omega) (by omega) (by decide), fun y hy => ?_⟩
  rw [lok_one hy (lok18 3139917660 3139916760 (by omega) (by omega) (by omega) (by decide))]; omega
theorem out_six : ¬ InP (mt k8) (mt k18) (minOf 64800 0) 0 := by
  have e : minOf 64800 0 = 3139918200 := by decide
  rw [e]
  rintro ⟨x, hx, hy⟩
  have := hy _ (lok18 3139918200 3139918200 (by omega) (by omega) (by omega) (by decide))
  rw [lok_one hx (lok8 3139918200 3139917600 (by omega) (by omega) (by omega) (by decide))] at this
  omega
theorem edge_nine {n : Int} {ok : Bool} (h : EdgeR k18 k8 k18 true 0 200 32400 n ok) : n = 64800 ∧ ok = true := by
  obtain ⟨m, is, h1, h2⟩ := h
  have e : minOf 32400 0 = 3139917660 := by decide
  rw [e] at h1
  obtain ⟨rfl, rfl⟩ := nextR_one h1 (Or.inl ⟨rfl, 3139918200, rfl, fok18 3139917660 3139918200 (by omega) (by omega) (by omega) (by decide)⟩)
  have e2 : at60 3139918200 0 = 64800 := by decide
  rw [e2] at h2
  rcases h2 with ⟨e, _⟩ | ⟨_, h2⟩
  · cases e
  · rcases h2 with ⟨_, h3, h4⟩ | ⟨i, _⟩
    · exact ⟨h3, h4⟩
    · exact absurd (i.1 rfl) out_six

theorem daily8 (w : World) : Calls Tryd.prog 10 #[.int .i64 8, .int .i64 0] w fun e w' => e = .returned (cronV 1 256 4294967294 8190 127 true true) ∧ Below w.heap.size w w' := by
  go_enter Tryd.func10, Tryd.ntmps10
  go_wp2
  go_region
  all_goals
  go_wp2
  refine bodyPost_ret (v := cronV 1 256 4294967294 8190 127 true true) (by simp [results, Tryd.results10, go_sem]) rfl ⟨rfl, ?_⟩
  exact (balloc _).drew
theorem daily18 (w : World) : Calls Tryd.prog 10 #[.int .i64 18, .int .i64 0] w fun e w' => e = .returned (cronV 1 262144 4294967294 8190 127 true true) ∧ Below w.heap.size w w' := by
  go_enter Tryd.func10, Tryd.ntmps10
  go_wp2
  go_region
  all_goals
  go_wp2
  refine bodyPost_ret (v := cronV 1 262144 4294967294 8190 127 true true) (by simp [results, Tryd.results10, go_sem]) rfl ⟨rfl, ?_⟩
  exact (balloc _).drew
abbrev sp818 : Value := .agg #[.int .u64 1, .int .u64 256, .int .u64 4294967294, .int .u64 8190, .int .u64 127, .bool true, .bool true, .int .u64 1, .int .u64 262144, .int .u64 4294967294, .int .u64 8190, .int .u64 127, .bool true, .bool true]
abbrev sp188 : Value := .agg #[.int .u64 1, .int .u64 262144, .int .u64 4294967294, .int .u64 8190, .int .u64 127, .bool true, .bool true, .int .u64 1, .int .u64 256, .int .u64 4294967294, .int .u64 8190, .int .u64 127, .bool true, .bool true]
theorem in_night_c (w : World) (hB : BdsAt w) : Calls Tryd.prog 17 #[sp188, .int .i64 0, .int .i64 0] w fun e w' => e = .returned (.tuple #[.bool true, .int .i64 0]) ∧ Below w.heap.size w w' :=
  sin_true k18 k8 0 0 w hB us_k18 us_k8 kc_k18 kc_k8 (by decide) (by decide) in_night
theorem in_eight_c (w : World) (hB : BdsAt w) : Calls Tryd.prog 17 #[sp818, .int .i64 28800, .int .i64 0] w fun e w' => e = .returned (.tuple #[.bool true, .int .i64 0]) ∧ Below w.heap.size w w' :=
  sin_true k8 k18 28800 0 w hB us_k8 us_k18 kc_k8 kc_k18 (by decide) (by decide) in_eight
theorem edge_nine_c (w : World) (hB : BdsAt w) (hT : TabIs64 w) : Calls Tryd.prog 18 #[sp818, .int .i64 32400, .int .i64 0] w fun e w' => e = .returned (.tuple #[.int .i64 64800, .bool true, .int .i64 0]) ∧ Below w.heap.size w w' :=
  (edge_in k8 k18 32400 0 w hB hT us_k8 us_k18 kc_k8 kc_k18 (by decide) (by decide) in_nine).mono fun e w' ⟨n, ok, he, hr, hb⟩ => by
    obtain ⟨rfl, rfl⟩ := edge_nine hr
    exact ⟨he, hb⟩
end Crn
end Go.Proofs.YtdigiomaggnjoaeDoor
