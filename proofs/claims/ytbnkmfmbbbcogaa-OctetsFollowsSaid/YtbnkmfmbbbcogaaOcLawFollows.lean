/-
  The law OctetsFollows, walked.
-/
import Derived.Test.YtbnkmfmbbbcogaaOcWorks
import Derived.Test.YtbnkmfmbbbcogaaOcSpare
import Derived.Test.YtbnkmfmbbbcogaaOcOpen
import Derived.Test.YtbnkmfmbbbcogaaOcPut
import Derived.Test.YtbnkmfmbbbcogaaOcFol
import Derived.Test.YtbnkmfmbbbcogaaOcOne
import Derived.Deep.RegionHeld3
namespace Go.Proofs.Ytbnkmfmbbbcogaa.oc
open Go.RowKit

set_option maxHeartbeats 1000000 in
theorem walk_octetsFollows (w : World) (A : Option Addr) (n c : Nat) (bs : List Nat) (h : IsNums .u8 256 w A n c bs) (hc : c ≤ 140737488351232) (a : Int) (a0 : -9223372036854775808 ≤ a) (a1 : a ≤ 9223372036854775807) (v : Nat) (hv : v < 65536) :
    Calls Try.prog 9 #[.slice A n c, .int .i64 a, .int .u16 v] w fun e w' => e = .returned (.bool true) ∧ Below w.heap.size w w' := by
  obtain ⟨hn, hnc, hs, hr⟩ := h.bytes
  have n1 : n ≤ 140737488355328 := by omega
  by_cases hn2 : n < 2
  · clear h a0 a1
    go_enter Try.func9, Try.ntmps9
    go_wp2_with (go_at_call 22; refine (works_any _).mono ?_; rintro e w' ⟨rfl, hb⟩)
    go_ret
    exact ⟨rfl, hb⟩
  obtain ⟨m0, e1⟩ : ∃ m0 : Nat, max a 0 = (m0 : Int) := ⟨(max a 0).toNat, by omega⟩
  have m0b : m0 ≤ 9223372036854775807 := by omega
  have f1 : (if a < 0 then (0 : Int) else a) = (m0 : Int) := by rw [← e1]; split <;> omega
  obtain ⟨k, hk⟩ : ∃ k : Nat, n / 2 = k := ⟨_, rfl⟩
  have f2 : (n : Int) / 2 = (k : Int) := by omega
  have k1 : 1 ≤ k := by omega
  have k1' : (1 : Int) ≤ (k : Int) := by omega
  obtain ⟨r, hr0⟩ : ∃ r : Nat, m0 % k = r := ⟨_, rfl⟩
  have r1 : r < k := by rw [← hr0]; exact Nat.mod_lt _ (by omega)
  have f3 : (m0 : Int) % (k : Int) = (r : Int) := by rw [← hr0]; exact (Int.natCast_emod _ _).symm
  obtain ⟨p, hp⟩ : ∃ p : Nat, r * 2 = p := ⟨_, rfl⟩
  have f4 : (r : Int) * 2 = (p : Int) := by omega
  have p2 : p + 2 ≤ n := by omega
  have pe : p % 2 = 0 := by omega
  have r2 : r ≤ 140737488355328 := by omega
  have hx := getq (bs := bs) (k := p) (by omega)
  have hy := getq (bs := bs) (k := p + 1) (by omega)
  have hd : bs.drop p = bs.getD p 0 :: bs.getD (p + 1) 0 :: bs.drop (p + 2) := by
    obtain ⟨q1, q2⟩ := List.getElem?_eq_some_iff.1 hx
    obtain ⟨q3, q4⟩ := List.getElem?_eq_some_iff.1 hy
    rw [List.drop_eq_getElem_cons q1, List.drop_eq_getElem_cons q3, q2, q4]
  have hbs : bs = bs.take p ++ bs.getD p 0 :: bs.getD (p + 1) 0 :: bs.drop (p + 2) := by rw [← hd, List.take_append_drop]
  have hold : num ((bs.drop p).take 2) = bs.getD p 0 * 256 + bs.getD (p + 1) 0 := by rw [hd]; simp [num]
  have x8 := hs.at_ hx
  have y8 := hs.at_ hy
  have hpre : (bs.take p).length = p := by rw [List.length_take]; omega
  have htake := fun W (hb : Below w.heap.size w W) => take16_yes A bs n c w.heap.size p W hn n1 hnc (by omega) hs (hr.below hb) p2
  rw [hold] at htake
  obtain ⟨i0, hi0, hz0, hz1, hz2⟩ := info_parts byte_info
  have HT := Lib.hid htake
  have HN := Lib.hid hn
  have HBS := Lib.hid hbs
  have hlb : (by_ bs).length = n := by rw [by_length]; exact hn
  have HLB := Lib.hid hlb
  clear htake hn hbs hold hx hy hd hlb h a0 a1 e1 hk hr0 hp hn2
  generalize bs.take p = pre at *
  generalize bs.drop (p + 2) = post at *
  generalize bs.getD p 0 = x at *
  generalize bs.getD (p + 1) 0 = y at *
  have HPRE := Lib.hid hpre
  clear hpre
  go_enter Try.func9, Try.ntmps9
  go_wp2_with fail
  refine (works_any _).mono ?_
  rintro e w1 ⟨rfl, b1⟩
  go_wp2_with fail
  refine (HT.out w1 b1).mono ?_
  rintro e w2 ⟨rfl, rfl⟩
  have c1 := hr.below b1
  clear HT f1 f2 f3 f4 m0b k1 k1' r1
  go_wp2_with (at_builtin; refine wpList_app rfl _ _ 22 rfl w1.heap.size 5 i0 _ 1 Try.underlying22 hi0 hz0 hz1 hz2 rfl (.slice none 0 0) 0 [] rfl (World.ownsRow_nil _ _ _ _) w.heap.size A n c (by_ bs) rfl c1 HLB.out (by_one bs) (by omega) (by omega) (Nat.le_refl _) ?_; intro v2 w2 hown2 hg2 hat2)
  have b2 : Below w1.heap.size w1 w2 := app_below (e := 5) (Below.refl _ _) (World.ownsRow_nil _ _ _ _) hg2 (Nat.le_refl _)
  have ho : w2.ownsRow w1.heap.size 5 1 v2 n (by_ bs) := by simpa using hown2
  obtain ⟨g, cap, rfl, hg, hglt⟩ := ho.form (by omega)
  clear hown2 hg2 hat2 c1
  have hp2 := put16_any none [] 0 0 0 v w2 rfl (by omega) (by omega) Rd.nil_ (Nat.zero_le _)
  refine hp2.mono ?_
  rintro e w3 ⟨rfl, hb3, b3⟩
  have ho3 : w3.ownsRow w1.heap.size 5 1 (.slice (some ⟨g, 0, none⟩) n cap) n (by_ bs) := by
    refine ⟨ho.1, .inr ?_⟩
    rcases ho.2 with ⟨h, _⟩ | ⟨g', cap', cur, h, h1, h2, h3⟩
    · cases h
    · exact ⟨g', cap', cur, h, h1, (b3.block g' (Array.getElem?_eq_some_iff.1 h2).1).trans h2, h3⟩
  have b4 : Below w.heap.size w w3 := (b1.trans (b2.mono b1.size)).trans (b3.mono (b1.trans (b2.mono b1.size)).size)
  have hi3 : w3.cell? ⟨w2.heap.size, 0, none⟩ = some (.int .u8 ((v / 256 % 256 : Nat) : Int)) := by rw [hb3.cell]; simp [by_, be]
  have lo3 : w3.cell? ⟨w2.heap.size, 1, none⟩ = some (.int .u8 ((v % 256 : Nat) : Int)) := by rw [hb3.cell]; simp [by_, be]
  have gne : g ≠ w2.heap.size := by omega
  have bp : bs[p]? = some x := by rw [HBS.out, List.getElem?_append_right (by rw [HPRE.out]; exact Nat.le_refl _), HPRE.out]; simp
  have bp1 : bs[p + 1]? = some y := by rw [HBS.out, List.getElem?_append_right (by rw [HPRE.out]; omega), HPRE.out]; simp
  have cp : w3.cell? ⟨g, p, none⟩ = some (.int .u8 (x : Int)) := by rw [ho3.cellAt p (by omega)]; exact by_at bp
  have cp1 : w3.cell? ⟨g, p + 1, none⟩ = some (.int .u8 (y : Int)) := by rw [ho3.cellAt (p + 1) (by omega)]; exact by_at bp1
  have fp := ho3.frozenAt p
  have fp1 := ho3.frozenAt (p + 1)
  have HO := Lib.hid ho3
  have HB3 := Lib.hid hb3
  clear ho ho3 hb3 b2 b3 hp2 bp bp1
  have q0 : (0 : Int) ≤ (p : Int) := by omega
  have q1 : (p : Int) < (n : Int) := by omega
  have q2 : (0 : Int) ≤ (p : Int) + 1 := by omega
  have q3 : (p : Int) + 1 < (n : Int) := by omega
  have q4 : ((p : Int) + 1).toNat = p + 1 := by omega
  go_wp2_with fail
  have q5 : IntKind.i64.wrap ((p : Int) + 1) = (p : Int) + 1 := IntWalk.i64_in _ (by omega)
  have kh : ∀ (W : World) (i : Nat) (u X : Value), W.cell? ⟨w2.heap.size, 0, none⟩ = some X → (W.setCell ⟨g, i, none⟩ u).cell? ⟨w2.heap.size, 0, none⟩ = some X := fun W i u X h => (World.cell?_setCell_other _ _ _ _ (by intro e; injection e with e1; exact gne e1)).trans h
  have kl : ∀ (W : World) (i : Nat) (u X : Value), W.cell? ⟨w2.heap.size, 1, none⟩ = some X → (W.setCell ⟨g, i, none⟩ u).cell? ⟨w2.heap.size, 1, none⟩ = some X := fun W i u X h => (World.cell?_setCell_other _ _ _ _ (by intro e; injection e with e1; exact gne e1)).trans h
  have KH := Lib.hid kh
  have KL := Lib.hid kl
  clear kh kl
  go_region_held3 (fun w' => w'.cell? ⟨w2.heap.size, 0, none⟩ = some (.int .u8 ((v / 256 % 256 : Nat) : Int)) ∧ w'.cell? ⟨w2.heap.size, 1, none⟩ = some (.int .u8 ((v % 256 : Nat) : Int)))
    (first | exact ⟨hi3, lo3⟩ | exact ⟨KH.out _ _ _ _ hi3, KL.out _ _ _ _ lo3⟩ | exact ⟨KH.out _ _ _ _ (KH.out _ _ _ _ hi3), KL.out _ _ _ _ (KL.out _ _ _ _ lo3)⟩) (fail)
  have v1 : (v : Int) / 256 % 256 = ((v / 256 % 256 : Nat) : Int) := by omega
  have v2 : (v : Int) % 256 = ((v % 256 : Nat) : Int) := by omega
  have ho4 := ((HO.out.stored p (.int .u8 ((v / 256 % 256 : Nat) : Int))).1.stored (p + 1) (.int .u8 ((v % 256 : Nat) : Int))).1.drew
  have b5 : Below w.heap.size w (((w3.setCell ⟨g, p, none⟩ (.int .u8 ((v / 256 % 256 : Nat) : Int))).setCell ⟨g, p + 1, none⟩ (.int .u8 ((v % 256 : Nat) : Int))).drew) :=
    ((b4.setCell (p := ⟨g, p, none⟩) (by have := b1.size; show _ ≤ g; omega) _).setCell (p := ⟨g, p + 1, none⟩) (by have := b1.size; show _ ≤ g; omega) _).drew
  rw [v1, v2]
  generalize (((w3.setCell ⟨g, p, none⟩ (.int .u8 ((v / 256 % 256 : Nat) : Int))).setCell ⟨g, p + 1, none⟩ (.int .u8 ((v % 256 : Nat) : Int))).drew) = w4 at *
  have hset : ((by_ bs).set p (.int .u8 ((v / 256 % 256 : Nat) : Int))).set (p + 1) (.int .u8 ((v % 256 : Nat) : Int)) = by_ (pre ++ (v / 256 % 256) :: (v % 256) :: post) := by
    rw [← set_mid pre post x y (v / 256 % 256) (v % 256) p HPRE.out, ← HBS.out]
    simp [by_, List.map_set]
  rw [hset] at ho4
  clear hset KH KL HO HB3 cp cp1 fp fp1 hi3 lo3 b4 q4 q5 v1 v2
  have epre : pre.length % 2 = 0 := by rw [HPRE.out]; exact pe
  have t1 := tot_mid epre x y post
  rw [← HBS.out] at t1
  have t2 := tot_mid epre (v / 256 % 256) (v % 256) post
  have hv2 : v / 256 % 256 * 256 + v % 256 = v := by omega
  rw [hv2] at t2
  have sx : Small (pre ++ x :: y :: post) := by rw [← HBS.out]; exact hs
  have sm : Small (pre ++ (v / 256 % 256) :: (v % 256) :: post) := by
    intro z hz
    simp only [List.mem_append, List.mem_cons] at hz
    rcases hz with hz | rfl | rfl | hz
    · exact sx z (by simp [hz])
    · omega
    · omega
    · exact sx z (by simp [hz])
  have hum := upd_mod (T := tot bs) (o := x * 256 + y) (n := v) (by omega) (by omega)
  rw [show tot bs - (x * 256 + y) + v = tot (pre ++ (v / 256 % 256) :: (v % 256) :: post) from by omega] at hum
  have hum2 : upd (csum bs) (x * 256 + y) v % 65535 = csum (pre ++ (v / 256 % 256) :: (v % 256) :: post) % 65535 := hum
  have hub := upd_back (s := csum bs) (o := x * 256 + y) (n := v) (csum_le bs) (by omega) (by omega)
  have ul := upd_le (csum bs) (x * 256 + y) v
  have ul2 := upd_le (upd (csum bs) (x * 256 + y) v) v (x * 256 + y)
  have cl := csum_le bs
  have cl2 := csum_le (pre ++ (v / 256 % 256) :: (v % 256) :: post)
  have hlen : (pre ++ (v / 256 % 256) :: (v % 256) :: post).length = n := by
    have := HN.out
    rw [HBS.out] at this
    simpa using this
  have h1 := sum_one (w0 := w4) (Below.refl _ _) HN.out n1 hs ((hr.below b5).more b5.size) (c := c)
  have H1 := Lib.hid h1
  have rn : Rd w4 w4.heap.size (some ⟨g, 0, none⟩) (by_ (pre ++ (v / 256 % 256) :: (v % 256) :: post)) := Rd.own ho4
  have h2 := fun W (hb : Below w4.heap.size w4 W) => sum_one (w0 := w4) hb hlen n1 sm ((rn.below hb).more hb.size) (c := cap)
  have H2 := Lib.hid h2
  clear h1 h2 t1 t2 hv2 sx hum rn ho4 hs hr b1 sm epre
  generalize hcs : csum bs = cs at *
  generalize hcn : csum (pre ++ (v / 256 % 256) :: (v % 256) :: post) = cn at *
  obtain ⟨o, ho⟩ : ∃ o : Nat, x * 256 + y = o := ⟨_, rfl⟩
  have ho' : (x : Int) * 256 + (y : Int) = (o : Int) := by omega
  have o16 : o < 65536 := by omega
  rw [ho] at hum2 hub ul ul2
  have hu1 := fun W => update_any cs o v W (by omega) o16 hv
  have hu2 := fun W => update_any (upd cs o v) v o W (by omega) hv o16
  generalize upd cs o v = u1 at *
  generalize upd u1 v o = u2 at *
  have HU1 := Lib.hid hu1
  have HU2 := Lib.hid hu2
  have hn1 := fun W => near_any u1 cn W ul cl2 hum2
  have hn2 := fun W => near_any u2 cs W ul2 cl hub
  have HN1 := Lib.hid hn1
  have HN2 := Lib.hid hn2
  clear hu1 hu2 hn1 hn2 hcs hcn ho hum2 hub hlen HBS HPRE HLB HN
  rw [ho']
  go_wp2_with fail
  refine H1.out.mono ?_
  rintro e w5 ⟨rfl, b7⟩
  go_wp2_with fail
  refine (HU1.out w5).mono ?_
  rintro e w6 ⟨rfl, rfl⟩
  go_wp2_with fail
  refine (H2.out w5 b7).mono ?_
  rintro e w7 ⟨rfl, b8⟩
  go_wp2_with fail
  refine (HN1.out w7).mono ?_
  rintro e w8 ⟨rfl, rfl⟩
  go_wp2_with fail
  refine (HU2.out w7).mono ?_
  rintro e w8 ⟨rfl, rfl⟩
  go_wp2_with fail
  refine (HN2.out w7).mono ?_
  rintro e w8 ⟨rfl, rfl⟩
  go_wp2_with fail
  go_ret
  exact ⟨rfl, b5.trans (b8.mono b5.size)⟩
end Go.Proofs.Ytbnkmfmbbbcogaa.oc
