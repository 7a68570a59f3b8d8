/-
  Div, TyA, SoA.
-/
import Derived.Test.YtjpnnmkefaodoaaGreatyRegy
import Derived.Deep.QuietTactic
import Derived.BigQuiet
import Derived.Deep.RegionWith
import Derived.WalkSmall
import Derived.Test.YtjpnnmkefaodoaaGreatChecked
import Derived.Test.YtjpnnmkefaodoaaGreatyMemy
import Derived.Laws.IdiomStrings
import Derived.Deep.LoopGhost
set_option maxHeartbeats 8000000
set_option maxRecDepth 100000
namespace Go.Proofs.YtjpnnmkefaodoaaGreat
open Go.RowKit
set_option linter.unusedSimpArgs false
set_option linter.unusedVariables false
theorem signed_any (x n:Int)(w:World)(h:IsW n)(hx:U x):Calls Tryz.prog 122 #[.int .u64 x,.int .i64 n] w fun e w'=>e=.returned (.tuple #[.int .i64 (sgn n x),.int .i64 0])∧w'=w:=by
 go_enter Tryz.func122,Tryz.ntmps122
 go_wp2_with (first|(go_at_call 120;refine (qax _ h _).mono ?_;rintro e w' ⟨rfl,rfl⟩)|(go_at_call 151;refine (qbt _ _ _ h hx).mono ?_;rintro e w' ⟨rfl,rfl⟩))
 go_ret2
 exact⟨rfl,rfl⟩
theorem bel5 {w:World}{a b c d e:Obj}{q:Nat}:Below w.heap.size w ((((((w.alloc a).alloc b).alloc c).alloc d).alloc e).drewN q) :=
 below_drewN ((((((Below.refl _ _).alloc (Nat.le_refl _) _).alloc (by simp) _).alloc (by simp;omega) _).alloc (by simp;omega) _).alloc (by simp;omega) _) q
theorem bel2 {w:World}{a b:Obj}:Below w.heap.size w ((w.alloc a).alloc b) :=
 ((Below.refl _ _).alloc (Nat.le_refl _) _).alloc (by simp) _
theorem wrap64_cut {n:Int}(h:IsW n)(z:Int):cut n (IntKind.u64.wrap (wrap64 z))=cut n z:=by
 rw[cut_wrap h]
 obtain⟨d,hd⟩:=md_dvd h
 have e:wrap64 z=z+md n*(d*(- ((z+9223372036854775808) / 18446744073709551616))):=by
  rw[← Int.mul_assoc,← hd];unfold wrap64;omega
 unfold cut;rw[e,Int.add_mul_emod_self_left]
theorem sgn_zero {n:Int}(h:IsW n){x:Int}(hx:¬ cut n x=0):¬ sgn n x=0:=by
 have h0:=cut_lo h x;have h1:=cut_lt h x
 unfold sgn;split <;> omega
theorem quo_le {n:Int}(h:IsW n)(a:Int){b:Int}(hb:1≤b):0≤cut n a / b∧cut n a / b≤cut n a:=by
 have h0:=cut_lo h a
 exact⟨Int.ediv_nonneg h0 (by omega),Int.ediv_le_self _ h0⟩
theorem rem_le {n:Int}(h:IsW n)(a:Int){b:Int}(hb:1≤b):0≤cut n a % b∧cut n a % b≤cut n a:=by
 have h0:=cut_lo h a
 have h2:=Int.mul_ediv_add_emod (cut n a) b
 have h3:0≤b*(cut n a / b):=Int.mul_nonneg (by omega) (Int.ediv_nonneg h0 (by omega))
 exact⟨Int.emod_nonneg _ (by omega),by omega⟩
theorem div1_u (x y:Int)(w:World)(p1:Nat)(v:Value)(hx:0≤x)(hx':x≤18446744073709551615)(hy:1≤y)(c1:w.cell? ⟨p1,0,none⟩=some (.bool false)) :
  Calls Tryz.prog 179 #[.int .u64 x,.int .u64 y,.pointer (some ⟨p1,0,none⟩),v] w fun e w'=>e=.returned (.int .u64 (x / y))∧w'=w:=by
 go_enter Tryz.func179,Tryz.ntmps179
 go_wp2
 go_ret
 exact⟨rfl,rfl⟩
theorem div1_s (x y n:Int)(w:World)(p1 p2:Nat)(h:IsW n)(hx:U x)(hy:U y)(hne:¬ sgn n y=0)(c1:w.cell? ⟨p1,0,none⟩=some (.bool true))(c2:w.cell? ⟨p2,0,none⟩=some (.int .i64 n)) :
  Calls Tryz.prog 179 #[.int .u64 x,.int .u64 y,.pointer (some ⟨p1,0,none⟩),.pointer (some ⟨p2,0,none⟩)] w fun e w'=>e=.returned (.int .u64 (IntKind.u64.wrap (wrap64 ((sgn n x).tdiv (sgn n y)))))∧∃ q,w'=w.drewN q:=by
 go_enter Tryz.func179,Tryz.ntmps179
 go_wp2_with fail
 go_quiet (first|(go_at_call_of 151 (Value.int .u64 x);exact Calls.quiet_of_same (qbt _ _ _ h hx))|(go_at_call_of 151 (Value.int .u64 y);exact Calls.quiet_of_same (qbt _ _ _ h hy)))
 go_wp2
 go_ret
 exact⟨rfl,_,rfl⟩
theorem of2_divu (x b n:Int)(w:World)(p1 p2 p3 ps:Nat)(v:Value)(h:IsW n)(hb:U b)(hx:0≤x)(hx':x≤18446744073709551615)(hne:1≤cut n b)
  (c1:w.cell? ⟨p1,0,none⟩=some (.func (.func 179) #[] #[.pointer (some ⟨ps,0,none⟩),v])) (c2:w.cell? ⟨p2,0,none⟩=some (.int .u64 b)) (c3:w.cell? ⟨p3,0,none⟩=some (.int .i64 n)) (c4:w.cell? ⟨ps,0,none⟩=some (.bool false)) :
  Calls Tryz.prog 185 #[.int .u64 x,.pointer (some ⟨p1,0,none⟩),.pointer (some ⟨p2,0,none⟩),.pointer (some ⟨p3,0,none⟩)] w fun e w'=>e=.returned (.int .u64 (x / cut n b))∧∃ q,w'=w.drewN q:=by
 go_enter Tryz.func185,Tryz.ntmps185
 go_wp2_with fail
 go_quiet (first|(go_at_call 184;exact Calls.quiet_of_same (qag _ _ _ h hb))|(go_at_call 179;exact Calls.quiet_of_same (div1_u _ _ _ _ _ hx hx' hne c4)))
 go_wp2
 go_ret
 exact⟨rfl,_,rfl⟩
theorem of2_divs (x b n:Int)(w:World)(p1 p2 p3 ps pw:Nat)(h:IsW n)(hb:U b)(hx:U x)(hne:¬ sgn n (cut n b)=0)
  (c1:w.cell? ⟨p1,0,none⟩=some (.func (.func 179) #[] #[.pointer (some ⟨ps,0,none⟩),.pointer (some ⟨pw,0,none⟩)])) (c2:w.cell? ⟨p2,0,none⟩=some (.int .u64 b)) (c3:w.cell? ⟨p3,0,none⟩=some (.int .i64 n)) (c4:w.cell? ⟨ps,0,none⟩=some (.bool true)) (c5:w.cell? ⟨pw,0,none⟩=some (.int .i64 n)) :
  Calls Tryz.prog 185 #[.int .u64 x,.pointer (some ⟨p1,0,none⟩),.pointer (some ⟨p2,0,none⟩),.pointer (some ⟨p3,0,none⟩)] w fun e w'=>e=.returned (.int .u64 (IntKind.u64.wrap (wrap64 ((sgn n x).tdiv (sgn n (cut n b))))))∧∃ q,w'=w.drewN q:=by
 go_enter Tryz.func185,Tryz.ntmps185
 go_wp2_with fail
 go_quiet (first|(go_at_call 184;exact Calls.quiet_of_same (qag _ _ _ h hb))|(go_at_call 179;exact Calls.quiet_of (div1_s _ _ _ _ _ _ h hx (u_cut h _) hne c4 c5)))
 go_wp2
 go_ret
 exact⟨rfl,_,rfl⟩
theorem divu_num {n:Int}(h:IsW n)(a b:Int)(hb:1≤cut n b):cut n (cut n a / cut n b)=cut n a / cut n b:=by
 have h1:=quo_le h a hb
 have h2:=cut_lt h a
 exact cut_of h1.1 (by omega)
theorem divs_num {n:Int}(h:IsW n)(a b:Int):cut n (IntKind.u64.wrap (wrap64 ((sgn n (cut n a)).tdiv (sgn n (cut n b)))))=cut n ((sgn n a).tdiv (sgn n b)):=by
 rw[wrap64_cut h,sgn_cut,sgn_cut]
theorem divu_u {n:Int}(h:IsW n)(a b:Int)(hb:1≤cut n b):U (cut n a / cut n b):=by
 have h1:=quo_le h a hb
 have h2:=cut_hi h a
 exact⟨h1.1,by omega⟩
theorem div_u (a b n:Int)(w:World)(h:IsW n)(ha:U a)(hb:U b)(hne:¬ cut n b=0):Calls Tryz.prog 157 #[.int .u64 a,.int .u64 b,.int .i64 n,.bool false] w fun e w'=>e=.returned (.tuple #[.int .u64 (cut n a / cut n b),.int .i64 0])∧Below w.heap.size w w':=by
 have hp:1≤cut n b:=by have:=cut_lo h b;omega
 have hn:=divu_num h a b hp
 have HA:=zX (cut_lo h a)
 have HB:=zX (cut_hi h a)
 have hz:(cut n b==0)=false:=zBq hne
 have HP:=zX hp
 clear hne hp
 go_enter Tryz.func157,Tryz.ntmps157
 go_wp2_with (first|(go_at_call 120;refine (qax _ h _).mono ?_;rintro e w' ⟨rfl,hw⟩;subst w')|(go_at_call_of 184 (Value.int .u64 a);refine (qag _ _ _ h ha).mono ?_;rintro e w' ⟨rfl,hw⟩;subst w')|(go_at_call_of 184 (Value.int .u64 b);refine (qag _ _ _ h hb).mono ?_;rintro e w' ⟨rfl,hw⟩;subst w')|(go_at_call 184;refine (qag _ _ _ h (divu_u h _ _ (uX HP))).mono ?_;rintro e w' ⟨rfl,hw⟩;subst w')|(go_at_call 185;refine (of2_divu _ _ _ _ _ _ _ (w.heap.size+1) (.pointer (some ⟨w.heap.size,0,none⟩)) h hb (uX HA) (uX HB) (uX HP) ?_ ?_ ?_ ?_).mono ?_;(simp[go_sem]);(simp[go_sem]);(simp[go_sem]);(simp[go_sem]);rintro e w' ⟨rfl,q,rfl⟩)|go_in)
 go_ret2
 exact⟨rfl,bel5⟩
theorem div_s (a b n:Int)(w:World)(h:IsW n)(ha:U a)(hb:U b)(hne:¬ cut n b=0):Calls Tryz.prog 157 #[.int .u64 a,.int .u64 b,.int .i64 n,.bool true] w fun e w'=>e=.returned (.tuple #[.int .u64 (cut n ((sgn n a).tdiv (sgn n b))),.int .i64 0])∧Below w.heap.size w w':=by
 have HS:=zX (sgn_zero h (x:=cut n b) (by rw[cut_cut];exact hne))
 have hn:=divs_num h a b
 have hz:(cut n b==0)=false:=zBq hne
 clear hne
 go_enter Tryz.func157,Tryz.ntmps157
 go_wp2_with (first|(go_at_call 120;refine (qax _ h _).mono ?_;rintro e w' ⟨rfl,hw⟩;subst w')|(go_at_call_of 184 (Value.int .u64 a);refine (qag _ _ _ h ha).mono ?_;rintro e w' ⟨rfl,hw⟩;subst w')|(go_at_call_of 184 (Value.int .u64 b);refine (qag _ _ _ h hb).mono ?_;rintro e w' ⟨rfl,hw⟩;subst w')|(go_at_call 184;refine (qag _ _ _ h (u_wrap _)).mono ?_;rintro e w' ⟨rfl,hw⟩;subst w')|(go_at_call 185;refine (of2_divs _ _ _ _ _ _ _ (w.heap.size+1) w.heap.size h hb (u_cut h _) (uX HS) ?_ ?_ ?_ ?_ ?_).mono ?_;(simp[go_sem]);(simp[go_sem]);(simp[go_sem]);(simp[go_sem]);(simp[go_sem]);rintro e w' ⟨rfl,q,rfl⟩)|go_in)
 go_ret2
 exact⟨rfl,bel5⟩
theorem div_zero (a b n:Int)(s:Bool)(w:World)(h:IsW n)(hb:U b)(hz:cut n b=0):Calls Tryz.prog 157 #[.int .u64 a,.int .u64 b,.int .i64 n,.bool s] w fun e w'=>e=.returned (.tuple #[.int .u64 0,.int .i64 10])∧Below w.heap.size w w':=by
 go_enter Tryz.func157,Tryz.ntmps157
 go_wp2_with (first|(go_at_call 120;refine (qax _ h _).mono ?_;rintro e w' ⟨rfl,rfl⟩)|(go_at_call 184;refine (qag _ _ _ h hb).mono ?_;rintro e w' ⟨rfl,rfl⟩)|go_in)
 go_ret2
 exact⟨rfl,bel2⟩
theorem rem1_u (x y:Int)(w:World)(p1:Nat)(v:Value)(hx:0≤x)(hx':x≤18446744073709551615)(hy:1≤y)(c1:w.cell? ⟨p1,0,none⟩=some (.bool false)) :
  Calls Tryz.prog 180 #[.int .u64 x,.int .u64 y,.pointer (some ⟨p1,0,none⟩),v] w fun e w'=>e=.returned (.int .u64 (x % y))∧w'=w:=by
 go_enter Tryz.func180,Tryz.ntmps180
 go_wp2
 go_ret
 exact⟨rfl,rfl⟩
theorem rem1_s (x y n:Int)(w:World)(p1 p2:Nat)(h:IsW n)(hx:U x)(hy:U y)(hne:¬ sgn n y=0)(c1:w.cell? ⟨p1,0,none⟩=some (.bool true))(c2:w.cell? ⟨p2,0,none⟩=some (.int .i64 n)) :
  Calls Tryz.prog 180 #[.int .u64 x,.int .u64 y,.pointer (some ⟨p1,0,none⟩),.pointer (some ⟨p2,0,none⟩)] w fun e w'=>e=.returned (.int .u64 (IntKind.u64.wrap ((sgn n x).tmod (sgn n y))))∧∃ q,w'=w.drewN q:=by
 go_enter Tryz.func180,Tryz.ntmps180
 go_wp2_with fail
 go_quiet (first|(go_at_call_of 151 (Value.int .u64 x);exact Calls.quiet_of_same (qbt _ _ _ h hx))|(go_at_call_of 151 (Value.int .u64 y);exact Calls.quiet_of_same (qbt _ _ _ h hy)))
 go_wp2
 go_ret
 exact⟨rfl,_,rfl⟩
theorem of2_remu (x b n:Int)(w:World)(p1 p2 p3 ps:Nat)(v:Value)(h:IsW n)(hb:U b)(hx:0≤x)(hx':x≤18446744073709551615)(hne:1≤cut n b)
  (c1:w.cell? ⟨p1,0,none⟩=some (.func (.func 180) #[] #[.pointer (some ⟨ps,0,none⟩),v])) (c2:w.cell? ⟨p2,0,none⟩=some (.int .u64 b)) (c3:w.cell? ⟨p3,0,none⟩=some (.int .i64 n)) (c4:w.cell? ⟨ps,0,none⟩=some (.bool false)) :
  Calls Tryz.prog 185 #[.int .u64 x,.pointer (some ⟨p1,0,none⟩),.pointer (some ⟨p2,0,none⟩),.pointer (some ⟨p3,0,none⟩)] w fun e w'=>e=.returned (.int .u64 (x % cut n b))∧∃ q,w'=w.drewN q:=by
 go_enter Tryz.func185,Tryz.ntmps185
 go_wp2_with fail
 go_quiet (first|(go_at_call 184;exact Calls.quiet_of_same (qag _ _ _ h hb))|(go_at_call 180;exact Calls.quiet_of_same (rem1_u _ _ _ _ _ hx hx' hne c4)))
 go_wp2
 go_ret
 exact⟨rfl,_,rfl⟩
theorem of2_rems (x b n:Int)(w:World)(p1 p2 p3 ps pw:Nat)(h:IsW n)(hb:U b)(hx:U x)(hne:¬ sgn n (cut n b)=0)
  (c1:w.cell? ⟨p1,0,none⟩=some (.func (.func 180) #[] #[.pointer (some ⟨ps,0,none⟩),.pointer (some ⟨pw,0,none⟩)])) (c2:w.cell? ⟨p2,0,none⟩=some (.int .u64 b)) (c3:w.cell? ⟨p3,0,none⟩=some (.int .i64 n)) (c4:w.cell? ⟨ps,0,none⟩=some (.bool true)) (c5:w.cell? ⟨pw,0,none⟩=some (.int .i64 n)) :
  Calls Tryz.prog 185 #[.int .u64 x,.pointer (some ⟨p1,0,none⟩),.pointer (some ⟨p2,0,none⟩),.pointer (some ⟨p3,0,none⟩)] w fun e w'=>e=.returned (.int .u64 (IntKind.u64.wrap ((sgn n x).tmod (sgn n (cut n b)))))∧∃ q,w'=w.drewN q:=by
 go_enter Tryz.func185,Tryz.ntmps185
 go_wp2_with fail
 go_quiet (first|(go_at_call 184;exact Calls.quiet_of_same (qag _ _ _ h hb))|(go_at_call 180;exact Calls.quiet_of (rem1_s _ _ _ _ _ _ h hx (u_cut h _) hne c4 c5)))
 go_wp2
 go_ret
 exact⟨rfl,_,rfl⟩
theorem remu_num {n:Int}(h:IsW n)(a b:Int)(hb:1≤cut n b):cut n (cut n a % cut n b)=cut n a % cut n b:=by
 have h1:=rem_le h a hb
 have h2:=cut_lt h a
 exact cut_of h1.1 (by omega)
theorem rems_num {n:Int}(h:IsW n)(a b:Int):cut n (IntKind.u64.wrap ((sgn n (cut n a)).tmod (sgn n (cut n b))))=cut n ((sgn n a).tmod (sgn n b)):=by
 rw[cut_wrap h,sgn_cut,sgn_cut]
theorem remu_u {n:Int}(h:IsW n)(a b:Int)(hb:1≤cut n b):U (cut n a % cut n b):=by
 have h1:=rem_le h a hb
 have h2:=cut_hi h a
 exact⟨h1.1,by omega⟩
theorem rem_u (a b n:Int)(w:World)(h:IsW n)(ha:U a)(hb:U b)(hne:¬ cut n b=0):Calls Tryz.prog 158 #[.int .u64 a,.int .u64 b,.int .i64 n,.bool false] w fun e w'=>e=.returned (.tuple #[.int .u64 (cut n a % cut n b),.int .i64 0])∧Below w.heap.size w w':=by
 have hp:1≤cut n b:=by have:=cut_lo h b;omega
 have hn:=remu_num h a b hp
 have HA:=zX (cut_lo h a)
 have HB:=zX (cut_hi h a)
 have hz:(cut n b==0)=false:=zBq hne
 have HP:=zX hp
 clear hne hp
 go_enter Tryz.func158,Tryz.ntmps158
 go_wp2_with (first|(go_at_call 120;refine (qax _ h _).mono ?_;rintro e w' ⟨rfl,hw⟩;subst w')|(go_at_call_of 184 (Value.int .u64 a);refine (qag _ _ _ h ha).mono ?_;rintro e w' ⟨rfl,hw⟩;subst w')|(go_at_call_of 184 (Value.int .u64 b);refine (qag _ _ _ h hb).mono ?_;rintro e w' ⟨rfl,hw⟩;subst w')|(go_at_call 184;refine (qag _ _ _ h (remu_u h _ _ (uX HP))).mono ?_;rintro e w' ⟨rfl,hw⟩;subst w')|(go_at_call 185;refine (of2_remu _ _ _ _ _ _ _ (w.heap.size+1) (.pointer (some ⟨w.heap.size,0,none⟩)) h hb (uX HA) (uX HB) (uX HP) ?_ ?_ ?_ ?_).mono ?_;(simp[go_sem]);(simp[go_sem]);(simp[go_sem]);(simp[go_sem]);rintro e w' ⟨rfl,q,rfl⟩)|go_in)
 go_ret2
 exact⟨rfl,bel5⟩
theorem rem_s (a b n:Int)(w:World)(h:IsW n)(ha:U a)(hb:U b)(hne:¬ cut n b=0):Calls Tryz.prog 158 #[.int .u64 a,.int .u64 b,.int .i64 n,.bool true] w fun e w'=>e=.returned (.tuple #[.int .u64 (cut n ((sgn n a).tmod (sgn n b))),.int .i64 0])∧Below w.heap.size w w':=by
 have HS:=zX (sgn_zero h (x:=cut n b) (by rw[cut_cut];exact hne))
 have hn:=rems_num h a b
 have hz:(cut n b==0)=false:=zBq hne
 clear hne
 go_enter Tryz.func158,Tryz.ntmps158
 go_wp2_with (first|(go_at_call 120;refine (qax _ h _).mono ?_;rintro e w' ⟨rfl,hw⟩;subst w')|(go_at_call_of 184 (Value.int .u64 a);refine (qag _ _ _ h ha).mono ?_;rintro e w' ⟨rfl,hw⟩;subst w')|(go_at_call_of 184 (Value.int .u64 b);refine (qag _ _ _ h hb).mono ?_;rintro e w' ⟨rfl,hw⟩;subst w')|(go_at_call 184;refine (qag _ _ _ h (u_wrap _)).mono ?_;rintro e w' ⟨rfl,hw⟩;subst w')|(go_at_call 185;refine (of2_rems _ _ _ _ _ _ _ (w.heap.size+1) w.heap.size h hb (u_cut h _) (uX HS) ?_ ?_ ?_ ?_ ?_).mono ?_;(simp[go_sem]);(simp[go_sem]);(simp[go_sem]);(simp[go_sem]);(simp[go_sem]);rintro e w' ⟨rfl,q,rfl⟩)|go_in)
 go_ret2
 exact⟨rfl,bel5⟩
theorem rem_zero (a b n:Int)(s:Bool)(w:World)(h:IsW n)(hb:U b)(hz:cut n b=0):Calls Tryz.prog 158 #[.int .u64 a,.int .u64 b,.int .i64 n,.bool s] w fun e w'=>e=.returned (.tuple #[.int .u64 0,.int .i64 10])∧Below w.heap.size w w':=by
 go_enter Tryz.func158,Tryz.ntmps158
 go_wp2_with (first|(go_at_call 120;refine (qax _ h _).mono ?_;rintro e w' ⟨rfl,rfl⟩)|(go_at_call 184;refine (qag _ _ _ h hb).mono ?_;rintro e w' ⟨rfl,rfl⟩)|go_in)
 go_ret2
 exact⟨rfl,bel2⟩
theorem bT {u v x:World}(k1:Below u.heap.size u v)(k2:Below v.heap.size v x):Below u.heap.size u x:=k1.trans (k2.mono k1.size)
theorem Box.put0 {w:World}{b:Nat}{x y:Value}(h:Box w b [x,y])(u:Value):(w.setCell ⟨b,0,none⟩ u).cell? ⟨b,0,none⟩=some u:=(h.set (j:=0) (u:=u) (by simp)).2.1 0 _ rfl
theorem Box.put1 {w:World}{b:Nat}{x y:Value}(h:Box w b [x,y])(u v:Value):((w.setCell ⟨b,0,none⟩ u).setCell ⟨b,1,none⟩ v).cell? ⟨b,1,none⟩=some v:=((h.set (j:=0) (u:=u) (by simp)).set (j:=1) (u:=v) (by simp)).2.1 1 _ rfl
theorem Box.put {w:World}{b:Nat}{x y:Value}(h:Box w b [x,y])(u v:Value):Box ((w.setCell ⟨b,0,none⟩ u).setCell ⟨b,1,none⟩ v) b [u,v]:=(h.set (j:=0) (u:=u) (by simp)).set (j:=1) (u:=v) (by simp)
theorem qaz (b:Int)(s:Bool)(w:World)(h:IsW b):Calls Tryz.prog 83 #[.agg #[.int .i64 b,.bool s]] w fun e w'=>e=.returned (.bool true)∧Below w.heap.size w w':=by
 go_enter Tryz.func83,Tryz.ntmps83
 go_wp2_with (go_at_call 120;refine (qax _ h _).mono ?_;rintro e w' ⟨rfl,rfl⟩)
 go_ret
 exact⟨rfl,qaa _ _⟩
theorem tvalid_no (b:Int)(s:Bool)(w:World)(h:NoW b):Calls Tryz.prog 83 #[.agg #[.int .i64 b,.bool s]] w fun e w'=>e=.returned (.bool false)∧Below w.heap.size w w':=by
 go_enter Tryz.func83,Tryz.ntmps83
 go_wp2_with (go_at_call 120;refine (width_no _ _ h).mono ?_;rintro e w' ⟨rfl,rfl⟩)
 go_ret
 exact⟨rfl,qaa _ _⟩
theorem i16_any (w:World):Calls Tryz.prog 126 #[] w fun e w'=>e=.returned (.agg #[.int .i64 16,.bool true])∧Below w.heap.size w w':=by
 go_enter Tryz.func126,Tryz.ntmps126
 go_wp2
 exact bodyPost_ret (v:=.agg #[.int .i64 16,.bool true]) (by simp[results,Tryz.results126,go_sem]) rfl ⟨rfl,(by repeat (first|exact (Below.refl _ _)|refine Below.setCell ?_ (by first|exact Nat.le_refl _|(simp;done)|omega|(simp;omega)) _|refine Below.alloc ?_ (by first|(simp;done)|omega|(simp;omega)) _))⟩
def pb (b:Int):Int:=if b<16 then 16 else b
def ps (b:Int)(s:Bool):Bool:=if b<16 then true else s
theorem qa6 (b:Int)(s:Bool)(w:World):Calls Tryz.prog 124 #[.agg #[.int .i64 b,.bool s]] w fun e w'=>e=.returned (.agg #[.int .i64 (pb b),.bool (ps b s)])∧Below w.heap.size w w':=by
 by_cases h:b<16
 ·have e1:pb b=16:=by unfold pb;rw[if_pos h]
  have e2:ps b s=true:=by unfold ps;rw[if_pos h]
  rw[e1,e2]
  have h0:decide (b<16)=true:=by simpa using h
  clear e1 e2
  go_enter Tryz.func124,Tryz.ntmps124
  go_wp2_with (go_at_call 126;refine (i16_any _).mono ?_;rintro e w1 ⟨rfl,k1⟩;have B1:=zX (((Box.new (w.alloc (.cells #[.int .i64 b,.bool s] 34)) #[.int .i64 0,.bool false] 34)).step k1);obtain⟨z0,z1⟩:=(uX B1).at2;have zf:=(uX B1).2.2;have zl:=(uX B1).1;have p0:=(uX B1).put0;have p1:=(uX B1).put1;simp only[World.size_alloc] at z0 z1 zf zl p0 p1)
  exact bodyPost_ret (v:=.agg #[.int .i64 16,.bool true]) (by simp[results,Tryz.results124,go_sem,p0,p1]) rfl ⟨rfl,(by repeat (first|exact (bT (qaa _ _) (bT (qaa _ _) k1))|refine Below.setCell ?_ (by first|exact Nat.le_refl _|(simp;done)|omega|(simp;omega)) _|refine Below.alloc ?_ (by first|(simp;done)|omega|(simp;omega)) _))⟩
 ·have e1:pb b=b:=by unfold pb;rw[if_neg h]
  have e2:ps b s=s:=by unfold ps;rw[if_neg h]
  rw[e1,e2]
  have h0:decide (b<16)=false:=by simpa using h
  clear e1 e2
  go_enter Tryz.func124,Tryz.ntmps124
  go_wp2
  exact bodyPost_ret (v:=.agg #[.int .i64 b,.bool s]) (by simp[results,Tryz.results124,go_sem]) rfl ⟨rfl,(by repeat (first|exact (Below.refl _ _)|refine Below.setCell ?_ (by first|exact Nat.le_refl _|(simp;done)|omega|(simp;omega)) _|refine Below.alloc ?_ (by first|(simp;done)|omega|(simp;omega)) _))⟩
theorem zH {p:Prop}(h:p):Hid p:=h
theorem uI {p:Prop}(h:Hid p):p:=h
theorem bt {u v x:World}(k1:Below u.heap.size u v)(k2:Below v.heap.size v x):Below u.heap.size u x:=k1.trans (k2.mono k1.size)
def ltr (c:Int):Bool:=decide (97≤c∧c≤122) || decide (65≤c∧c≤90) || decide (c=95)
def dgt (c:Int):Bool:=decide (48≤c∧c≤57)
theorem ltr_cases (c:Int):(97≤c∧c≤122∧ltr c=true)∨(65≤c∧c≤90∧ltr c=true)∨(c=95∧ltr c=true)∨(c<65∧ltr c=false)∨(122<c∧ltr c=false)∨(90<c∧c<97∧c≠95∧ltr c=false):=by
 unfold ltr
 by_cases h1:97≤c∧c≤122
 ·left;exact⟨h1.1,h1.2,by simp[h1]⟩
 ·by_cases h2:65≤c∧c≤90
  ·right;left;exact⟨h2.1,h2.2,by simp[h2]⟩
  ·by_cases h3:c=95
   ·right;right;left;exact⟨h3,by simp[h3]⟩
   ·have e:(decide (97≤c∧c≤122) || decide (65≤c∧c≤90) || decide (c=95))=false:=by simp only[h1,h2,h3,decide_false,Bool.or_false]
    rw[e]
    right;right;right
    by_cases h4:c<65
    ·left;exact⟨h4,rfl⟩
    ·by_cases h5:122<c
     ·right;left;exact⟨h5,rfl⟩
     ·right;right;exact⟨by omega,by omega,h3,rfl⟩
theorem isLetter_any (c:Int)(w:World):Calls Tryz.prog 21 #[.int .u8 c] w fun e w'=>e=.returned (.bool (ltr c))∧w'=w:=by
 rcases ltr_cases c with ⟨h1,h2,h⟩|⟨h1,h2,h⟩|⟨h1,h⟩|⟨h1,h⟩|⟨h1,h⟩|⟨h1,h2,h3,h⟩ <;> rw[h]
 ·go_enter Tryz.func21,Tryz.ntmps21
  go_wp2
  go_ret
  exact⟨rfl,rfl⟩
 ·have n1:¬ 97≤c:=by omega
  go_enter Tryz.func21,Tryz.ntmps21
  go_wp2
  go_ret
  exact⟨rfl,rfl⟩
 ·subst h1
  go_enter Tryz.func21,Tryz.ntmps21
  go_wp2
  go_ret
  exact⟨rfl,rfl⟩
 ·have n1:¬ 97≤c:=by omega
  have n2:¬ 65≤c:=by omega
  have n3:(c==95)=false:=by simp;omega
  go_enter Tryz.func21,Tryz.ntmps21
  go_wp2
  go_ret
  exact⟨rfl,rfl⟩
 ·have n1:97≤c:=by omega
  have n2:¬ c≤122:=by omega
  have n3:65≤c:=by omega
  have n4:¬ c≤90:=by omega
  have n5:(c==95)=false:=by simp;omega
  go_enter Tryz.func21,Tryz.ntmps21
  go_wp2
  go_ret
  exact⟨rfl,rfl⟩
 ·have n1:¬ 97≤c:=by omega
  have n3:65≤c:=by omega
  have n4:¬ c≤90:=by omega
  have n5:(c==95)=false:=by simp;omega
  go_enter Tryz.func21,Tryz.ntmps21
  go_wp2
  go_ret
  exact⟨rfl,rfl⟩
theorem letter8_any (c:Int)(w:World):Calls Tryz.prog 55 #[.int .u8 c] w fun e w'=>e=.returned (.bool (ltr c))∧w'=w:=by
 rcases ltr_cases c with ⟨h1,h2,h⟩|⟨h1,h2,h⟩|⟨h1,h⟩|⟨h1,h⟩|⟨h1,h⟩|⟨h1,h2,h3,h⟩ <;> rw[h]
 ·go_enter Tryz.func55,Tryz.ntmps55
  go_wp2
  go_ret
  exact⟨rfl,rfl⟩
 ·have n1:¬ 97≤c:=by omega
  go_enter Tryz.func55,Tryz.ntmps55
  go_wp2
  go_ret
  exact⟨rfl,rfl⟩
 ·subst h1
  go_enter Tryz.func55,Tryz.ntmps55
  go_wp2
  go_ret
  exact⟨rfl,rfl⟩
 ·have n1:¬ 97≤c:=by omega
  have n2:¬ 65≤c:=by omega
  have n3:(c==95)=false:=by simp;omega
  go_enter Tryz.func55,Tryz.ntmps55
  go_wp2
  go_ret
  exact⟨rfl,rfl⟩
 ·have n1:97≤c:=by omega
  have n2:¬ c≤122:=by omega
  have n3:65≤c:=by omega
  have n4:¬ c≤90:=by omega
  have n5:(c==95)=false:=by simp;omega
  go_enter Tryz.func55,Tryz.ntmps55
  go_wp2
  go_ret
  exact⟨rfl,rfl⟩
 ·have n1:¬ 97≤c:=by omega
  have n3:65≤c:=by omega
  have n4:¬ c≤90:=by omega
  have n5:(c==95)=false:=by simp;omega
  go_enter Tryz.func55,Tryz.ntmps55
  go_wp2
  go_ret
  exact⟨rfl,rfl⟩
theorem isDigit_any (c:Int)(w:World):Calls Tryz.prog 45 #[.int .u8 c] w fun e w'=>e=.returned (.bool (dgt c))∧w'=w:=by
 by_cases h1:48≤c
 ·by_cases h2:c≤57
  ·have h:dgt c=true:=by unfold dgt;simp[h1,h2]
   rw[h]
   go_enter Tryz.func45,Tryz.ntmps45
   go_wp2
   go_ret
   exact⟨rfl,rfl⟩
  ·have h:dgt c=false:=by unfold dgt;simp;omega
   rw[h]
   go_enter Tryz.func45,Tryz.ntmps45
   go_wp2
   go_ret
   exact⟨rfl,rfl⟩
 ·have h:dgt c=false:=by unfold dgt;simp;omega
  rw[h]
  go_enter Tryz.func45,Tryz.ntmps45
  go_wp2
  go_ret
  exact⟨rfl,rfl⟩
theorem digit8_any (c:Int)(w:World):Calls Tryz.prog 56 #[.int .u8 c] w fun e w'=>e=.returned (.bool (dgt c))∧w'=w:=by
 by_cases h1:48≤c
 ·by_cases h2:c≤57
  ·have h:dgt c=true:=by unfold dgt;simp[h1,h2]
   rw[h]
   go_enter Tryz.func56,Tryz.ntmps56
   go_wp2
   go_ret
   exact⟨rfl,rfl⟩
  ·have h:dgt c=false:=by unfold dgt;simp;omega
   rw[h]
   go_enter Tryz.func56,Tryz.ntmps56
   go_wp2
   go_ret
   exact⟨rfl,rfl⟩
 ·have h:dgt c=false:=by unfold dgt;simp;omega
  rw[h]
  go_enter Tryz.func56,Tryz.ntmps56
  go_wp2
  go_ret
  exact⟨rfl,rfl⟩
def ba (l:List UInt8):ByteArray:=⟨l.toArray⟩
theorem ba_size (l:List UInt8):(ba l).size=l.length:=rfl
theorem ba_list (l:List UInt8):(ba l).toList=l:=by rw[ByteArray.toList_eq];simp[ba]
theorem ba_of (s:ByteArray):ba s.data.toList=s:=by cases s;simp[ba]
theorem ba_at (l:List UInt8)(i:Nat)(h:i<(ba l).size):(ba l)[i]'h=l[i]'(by rw[ba_size] at h;exact h):=by
 have e:(ba l)[i]'h=l.toArray[i]'(by simpa [ba_size] using h):=rfl
 rw[e,List.getElem_toArray]
def ch (x:UInt8):Int:=((x.toNat:Nat):Int)
def wch (x:UInt8):Bool:=ltr (ch x) || dgt (ch x)
def wlen:List UInt8→Nat
 | []=>0
 | x::l=>if wch x=true then wlen l+1 else 0
theorem wordLength_any (l:List UInt8)(w:World)(hl:l.length≤1048576):Calls Tryz.prog 22 #[.string (ba l)] w fun e w'=>e=.returned (.int .i64 (wlen l))∧w'=w:=by
 generalize hR:wlen l=R
 have HR:Hid (wlen (l.drop 0)+0=R):=hR
 have hsz:=ba_size l
 have HSZ:=zH hsz
 clear hR hsz
 go_enter Tryz.func22,Tryz.ntmps22
 go_wp2_with fail
 go_loopg [3] l.length (fun g t wr=>∃ k:Nat,k≤l.length∧g=l.length - k∧t=.int .i64 (k:Int)∧wr=w∧Hid (wlen (l.drop k)+k=R))
 case atStart=>exact⟨0,Nat.zero_le _,rfl,rfl,rfl,HR⟩
 case round =>
  obtain⟨k,hk,hg,rfl,rfl,HE⟩:=hrel
  clear HR
  by_cases hlt:k<l.length
  ·have hz:k<(ba l).size:=by rw[ba_size];exact hlt
   have hzI:(k:Int)<((ba l).size:Int):=by omega
   have ea:=ba_at l k hz
   have hE:=uI HE
   rw[List.drop_eq_getElem_cons hlt,wlen] at hE
   have LA:=zH (fun W=>isLetter_any (((ba l)[k].toNat:Nat):Int) W)
   have DA:=zH (fun W=>isDigit_any (((ba l)[k].toNat:Nat):Int) W)
   have ew:wch (l[k]'hlt)=(ltr (((ba l)[k].toNat:Nat):Int) || dgt (((ba l)[k].toNat:Nat):Int)):=by unfold wch ch;rw[ea]
   rw[ew] at hE
   have HE2:=zH hE
   clear hE ew ea HE
   by_cases h1:ltr (((ba l)[k].toNat:Nat):Int)=true
   ·rw[h1] at LA HE2
    have HE3:Hid (wlen (l.drop (k+1))+(k+1)=R):=by
     have:=uI HE2
     rw[Bool.true_or,if_pos rfl] at this
     unfold Hid;omega
    go_wp2_with fail
    refine (uI LA _).mono ?_
    rintro e w1 ⟨rfl,hw⟩
    subst w1
    go_wp2_with fail
    go_roundg (l.length - (k+1))
    case measure=>omega
    case rel=>exact⟨k+1,by omega,rfl,by go_num,rfl,HE3⟩
   ·replace h1:ltr (((ba l)[k].toNat:Nat):Int)=false:=by simpa using h1
    rw[h1] at LA HE2
    by_cases h2:dgt (((ba l)[k].toNat:Nat):Int)=true
    ·rw[h2] at DA HE2
     have HE3:Hid (wlen (l.drop (k+1))+(k+1)=R):=by
      have:=uI HE2
      rw[Bool.or_true,if_pos rfl] at this
      unfold Hid;omega
     go_wp2_with fail
     refine (uI LA _).mono ?_
     rintro e w1 ⟨rfl,hw⟩
     subst w1
     go_wp2_with fail
     refine (uI DA _).mono ?_
     rintro e w1 ⟨rfl,hw⟩
     subst w1
     go_wp2_with fail
     go_roundg (l.length - (k+1))
     case measure=>omega
     case rel=>exact⟨k+1,by omega,rfl,by go_num,rfl,HE3⟩
    ·replace h2:dgt (((ba l)[k].toNat:Nat):Int)=false:=by simpa using h2
     rw[h2] at DA HE2
     have hRk:R=k:=by
      have:=uI HE2
      rw[Bool.or_self,if_neg (by decide)] at this
      omega
     subst hRk
     go_wp2_with fail
     refine (uI LA _).mono ?_
     rintro e w1 ⟨rfl,hw⟩
     subst w1
     go_wp2_with fail
     refine (uI DA _).mono ?_
     rintro e w1 ⟨rfl,hw⟩
     subst w1
     go_wp2_with fail
     go_ret
     exact⟨rfl,rfl⟩
  ·have hz:¬ k<(ba l).size:=by rw[ba_size];exact hlt
   have hzI:¬ (k:Int)<((ba l).size:Int):=by omega
   have hRk:R=k:=by
    have:=uI HE
    rw[List.drop_eq_nil_of_le (by omega),wlen] at this
    omega
   subst hRk
   go_wp2_with fail
   go_ret
   exact⟨rfl,rfl⟩
end Go.Proofs.YtjpnnmkefaodoaaGreat
