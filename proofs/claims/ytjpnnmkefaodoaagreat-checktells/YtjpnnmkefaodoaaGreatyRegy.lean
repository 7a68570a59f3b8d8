/-
  Reg, Plain, Width, Shift.
-/
import Derived.WalkKit
import Derived.Laws.Rows
import Derived.StillTailTactics
import Derived.OrdersHeld
import Derived.Test.YtjpnnmkefaodoaaGreatRows
import Derived.WalkSpells
import Derived.WalkLawsBesides
import Derived.Deep.QuietTactic
import Derived.BigQuiet
import Derived.WalkSmall
set_option maxHeartbeats 8000000
set_option maxRecDepth 100000
namespace Go.Proofs.YtjpnnmkefaodoaaGreat
open Go.RowKit
set_option linter.unusedSimpArgs false
set_option linter.unusedVariables false
section
variable {P:Program} {ops:Array Oper} {Q:Exit→Act→World→Prop} {md:Region.Mode} {C:World→Prop}
def wpAnyC (P:Program)(md:Region.Mode)(ops:Array Oper)(Q:Exit→Act→World→Prop)(C:World→Prop)(fuel:Nat)(listed:Array Bool)(a:Act)(w:World):Prop:=C w∧wpAnyH P md ops Q C fuel listed a w
theorem wpAny_of_C (fuel:Nat)(listed:Array Bool)(a:Act)(w:World)(h:wpAnyC P md ops Q C fuel listed a w):wpAny P md ops Q fuel listed a w:=wpAny_of_held _ _ _ _ h.2
theorem wpAnyC_first {i:Nat}{oi:Oper}{v:Value}(hi:ops[i]?=some oi)(hs:Region.noSelect ops=true)(hQ:∀ d v c a w,Q (.panic c) (Act.put a d v) w→Q (.panic c) a w){fuel:Nat}{listed:Array Bool}{a:Act}{w:World}
  (hf:Region.free md ops listed i=true) (hr:(Region.ready md ops listed).contains i=true) (hy:YieldsIf P ops C oi v a) (h:wpAnyC P md ops Q C fuel (listed.setIfInBounds i true) (a.put oi.dst v) w):wpAnyC P md ops Q C (fuel+1) listed a w :=
 ⟨h.1,wpAnyH_take hi hs hf hr (fun _ _ _ h=>hQ _ _ _ _ _ h) hy h.1 h.2⟩
def steady (P:Program)(o:Oper)(a:Act)(C:World→Prop)(next:Act→Prop):Prop:=∃ v,(∀ w,C w→(execOp a.eval o).run P w=.ok (.value v) w)∧next (a.put o.dst v)
def wpSteady (P:Program)(ops:Array Oper)(C:World→Prop)(R:Act→Prop):List Oper→Act→Prop
 | [],a=>R a
 | o::rest,a=>if Region.wanted o (yielded ops a.tmps) then steady P o a C (wpSteady P ops C R rest) else wpSteady P ops C R rest (a.put o.dst undef)
theorem zO {R:Act→Prop}{a:Act}(h:R a):wpSteady P ops C R [] a:=h
theorem zS {R:Act→Prop}{a:Act}{o:Oper}{rest:List Oper}(h:∀ K:Act→Prop,(∀ a,wpSteady P ops C R rest a→K a)→if Region.wanted o (yielded ops a.tmps) then steady P o a C K else K (a.put o.dst undef)):wpSteady P ops C R (o::rest) a :=
 h _ (fun _ h=>h)
theorem zQ {o:Oper}{a:Act}{K:Act→Prop}(v:Value)(h:∀ w,C w→(execOp a.eval o).run P w=.ok (.value v) w)(hk:K (a.put o.dst v)):steady P o a C K:=⟨v,h,hk⟩
def segB (md:Region.Mode)(ops:Array Oper):Nat→Nat→Array Bool→Bool
 | 0,_,_=>true
 | n+1,k,listed=>(Region.ready md ops listed).contains k&&Region.free md ops listed k&&segB md ops n (k+1) (listed.setIfInBounds k true)
def segL:Nat→Nat→Array Bool→Array Bool
 | 0,_,listed=>listed
 | n+1,k,listed=>segL n (k+1) (listed.setIfInBounds k true)
theorem seg_any (hs:Region.noSelect ops=true)(hQ:∀ d v c a w,Q (.panic c) (Act.put a d v) w→Q (.panic c) a w)(f:Nat)(w:World):∀ (l:List Oper) (k:Nat) (listed:Array Bool) (a:Act),(∀ j,j<l.length→l[j]?=ops[k+j]?) →
  segB md ops l.length k listed=true→wpSteady P ops C (fun a'=>wpAnyC P md ops Q C f (segL l.length k listed) a' w) l a→wpAnyC P md ops Q C (l.length+f) listed a w
 | [],k,listed,a,_,_,h=>by rw[List.length_nil,Nat.zero_add];exact h
 | o::l,k,listed,a,hl,hB,h=>by
  have h0:ops[k]?=some o:=by simpa using (hl 0 (by simp)).symm
  simp only[List.length_cons,segB,Bool.and_eq_true] at hB
  obtain⟨⟨hr,hf⟩,hB'⟩:=hB
  have IH:=fun a' h'=>seg_any hs hQ f w l (k+1) (listed.setIfInBounds k true) a' (fun j hj=>by have:=hl (j+1) (by simp;omega);simpa [Nat.add_assoc,Nat.add_comm 1 j] using this) hB' h'
  rw[List.length_cons,show l.length+1+f=(l.length+f)+1 by omega]
  unfold wpSteady at h
  by_cases hw:Region.wanted o (yielded ops a.tmps)=true
  ·rw[if_pos hw] at h
   obtain⟨v,hv,hn⟩:=h
   exact wpAnyC_first h0 hs hQ hf hr (.inl ⟨hw,hv⟩) (IH _ hn)
  ·rw[if_neg hw] at h
   exact wpAnyC_first h0 hs hQ hf hr (.inr ⟨by simpa using hw,rfl⟩) (IH _ h)
end
theorem zR {P:Program}{Q:Exit→Act→World→Prop}{C:World→Prop}{L:List Oper}(k n f:Nat){fuel:Nat}{listed:Array Bool}{a:Act}{w:World}(hf:fuel=n+f)(hn:k+n≤L.length)(hs:Region.noSelect L.toArray=true)(hB:segB .any L.toArray n k listed=true)
  (hQ:∀ d v c a w,Q (.panic c) (Act.put a d v) w→Q (.panic c) a w) (h:wpSteady P L.toArray C (fun a'=>wpAnyC P .any L.toArray Q C f (segL n k listed) a' w) ((L.drop k).take n) a):wpAnyC P .any L.toArray Q C fuel listed a w:=by
 subst hf
 have hl:((L.drop k).take n).length=n:=by rw[List.length_take,List.length_drop];omega
 have:=seg_any (P:=P) (md:=.any) (ops:=L.toArray) (C:=C) hs hQ f w ((L.drop k).take n) k listed a (fun j hj=>by
  rw[hl] at hj
  rw[List.getElem?_take,if_pos hj,List.getElem?_drop,List.getElem?_toArray]) (by rw[hl];exact hB) (by rw[hl];exact h)
 rw[hl] at this
 exact this
theorem wp_turn {P:Program}{Q Q':Exit→Act→World→Prop}{K:Act→World→Prop}{o:Oper}{a:Act}{w:World}(hp:∀ c a w,Q' (.panic c) a w→Q (.panic c) a w)(ho:∀ a w,Q' .outgrown a w→Q .outgrown a w)(h:o.wp P a w K Q'):o.wp P a w K Q:=by
 unfold Oper.wp at *
 have hl:LetsOut Q'→LetsOut Q:=fun ⟨a,w,h⟩=>⟨a,w,ho a w h⟩
 generalize (execOp a.eval o).run P w=r at *
 cases r with
 | ok n w' =>
  cases n <;> simp only[Oper.upon] at h ⊢ <;>
   first
    | exact h
    | exact Calls.mono h (fun e w'' he=>by cases e <;> first|exact he|exact hp _ _ _ he|exact hl he)
 | halt x w'=>cases x <;> simp only[Oper.upon] at h ⊢ <;> first|exact h|exact hp _ _ _ h
def nextQ (Q:Exit→Act→World→Prop)(K:Act→World→Prop):Exit→Act→World→Prop
 | .normal,a,w=>K a w
 | e,a,w=>Q e a w
theorem zN {P:Program}{ops:Array Oper}{Q:Exit→Act→World→Prop}{md:Region.Mode}{C:World→Prop}{f:Nat}{listed:Array Bool}{a:Act}{w:World}(h:wpAnyC P md ops Q C f listed a w):wpList P ops (nextQ Q (wpAnyC P md ops Q C f listed)) [] a w:=h
theorem zG {P:Program}{ops:Array Oper}{Q:Exit→Act→World→Prop}{md:Region.Mode}{C:World→Prop}{f:Nat}{listed:Array Bool}{a:Act}{w:World}(h:wpAnyC P md ops Q C f listed a w):nextQ Q (wpAnyC P md ops Q C f listed) .normal a w:=h
theorem zP {P:Program}{Q:Exit→Act→World→Prop}{C:World→Prop}{L:List Oper}(i f:Nat){fuel:Nat}{listed:Array Bool}{a:Act}{w:World}(hf:fuel=f+1)(hr:Region.ready .any L.toArray listed=[i])(hC:C w)
  (h:wpList P L.toArray (nextQ Q (wpAnyC P .any L.toArray Q C f (listed.setIfInBounds i true))) ((L.drop i).take 1) a w):wpAnyC P .any L.toArray Q C fuel listed a w:=by
 subst hf
 refine⟨hC,fun h0=>(by rw[hr] at h0;cases h0),fun j hj=>?_⟩
 rw[hr] at hj
 have hji:j=i:=by simpa using hj
 subst hji
 have hm:j∈Region.ready .any L.toArray listed:=by rw[hr];simp
 obtain⟨_,o,ho,_⟩:=mem_ready.1 hm
 have ho':L[j]?=some o:=by simpa using ho
 have hd:(L.drop j).take 1=[o]:=by
  obtain⟨hlt,e⟩:=List.getElem?_eq_some_iff.1 ho'
  rw[List.drop_eq_getElem_cons hlt,e];rfl
 rw[hd] at h
 unfold wpOp
 simp only[ho]
 unfold wpList at h
 split
 ·rename_i hw
  rw[if_pos hw] at h
  rcases h with h|⟨h1,⟨a',w',h2⟩⟩
  ·exact .inl (wp_turn (fun _ _ _ h=>h) (fun _ _ h=>h) h)
  ·exact .inr ⟨h1,a',w',h2⟩
 ·rename_i hw
  rw[if_neg hw] at h
  exact h
theorem qbv {P:Program}{Q:Exit→Act→World→Prop}{C:World→Prop}{L:List Oper}(i j f:Nat){fuel:Nat}{listed:Array Bool}{a:Act}{w:World}(hf:fuel=f+1)(hr:Region.ready .any L.toArray listed=[i,j])(hC:C w)
  (h1:wpList P L.toArray (nextQ Q (wpAnyC P .any L.toArray Q C f (listed.setIfInBounds i true))) ((L.drop i).take 1) a w)
  (h2:wpList P L.toArray (nextQ Q (wpAnyC P .any L.toArray Q C f (listed.setIfInBounds j true))) ((L.drop j).take 1) a w):wpAnyC P .any L.toArray Q C fuel listed a w:=by
 subst hf
 refine⟨hC,fun h0=>(by rw[hr] at h0;cases h0),fun k hk=>?_⟩
 have hm:=hk
 rw[hr] at hk
 obtain⟨_,o,ho,_⟩:=mem_ready.1 hm
 have ho':L[k]?=some o:=by simpa using ho
 have hd:(L.drop k).take 1=[o]:=by
  obtain⟨hlt,e⟩:=List.getElem?_eq_some_iff.1 ho'
  rw[List.drop_eq_getElem_cons hlt,e];rfl
 have h:wpList P L.toArray (nextQ Q (wpAnyC P .any L.toArray Q C f (listed.setIfInBounds k true))) [o] a w:=by
  rw[← hd]
  simp only[List.mem_cons,List.not_mem_nil,or_false] at hk
  rcases hk with rfl|rfl
  ·exact h1
  ·exact h2
 unfold wpOp
 simp only[ho]
 unfold wpList at h
 split
 ·rename_i hw
  rw[if_pos hw] at h
  rcases h with h|⟨h1,⟨a',w',h2⟩⟩
  ·exact .inl (wp_turn (fun _ _ _ h=>h) (fun _ _ h=>h) h)
  ·exact .inr ⟨h1,a',w',h2⟩
 ·rename_i hw
  rw[if_neg hw] at h
  exact h
def calmQ (Q:Exit→Act→World→Prop):Exit→Act→World→Prop
 | .normal,a,w=>Q .normal a w
 | _,_,_=>False
theorem wpAny_turn {P:Program}{Q:Exit→Act→World→Prop}{md:Region.Mode}{ops:Array Oper}:∀ (fuel:Nat) (listed:Array Bool) (a:Act) (w:World),wpAny P md ops (calmQ Q) fuel listed a w→wpAny P md ops Q fuel listed a w
 | 0,_,_,_,h=>h
 | f+1,listed,a,w,h=>⟨h.1,fun i hi=>by
  have h2:=wpOp_mono (fun a' w' h'=>wpAny_turn (Q:=Q) f _ a' w' h') (h.2 i hi)
  unfold wpOp at h2 ⊢
  split
  ·rename_i ho;simp only[ho] at h2;exact h2
  ·rename_i o ho
   simp only[ho] at h2
   split
   ·rename_i hw
    rw[if_pos hw] at h2
    rcases h2 with h2|⟨_,_,_,h2⟩
    ·exact .inl (wp_turn (fun _ _ _ h=>h.elim) (fun _ _ h=>h.elim) h2)
    ·exact h2.elim
   ·rename_i hw
    rw[if_neg hw] at h2
    exact h2⟩
theorem zE {P:Program}{Q:Exit→Act→World→Prop}{C:World→Prop}{ops:Array Oper}{listed:Array Bool}{a:Act}{w:World}(hr:Region.ready .any ops listed=[])(hC:C w)(h:Q .normal a w):wpAnyC P .any ops (calmQ Q) C 0 listed a w:=⟨hC,hr,h⟩
theorem qR {P:Program}{Q:Exit→Act→World→Prop}{C:World→Prop}{L:List Oper}(k n f:Nat){fuel:Nat}{listed:Array Bool}{a:Act}{w:World}(h:wpSteady P L.toArray C (fun a'=>wpAnyC P .any L.toArray Q C f (segL n k listed) a' w) ((L.drop k).take n) a)(hf:fuel=n+f:=by kernel_rfl)(hn:k+n≤L.length:=by decide)(hs:Region.noSelect L.toArray=true:=by kernel_rfl)(hB:segB .any L.toArray n k listed=true:=by kernel_rfl)(hQ:∀ d v c a w,Q (.panic c) (Act.put a d v) w→Q (.panic c) a w:=by exact fun _ _ _ _ _ h=>h):wpAnyC P .any L.toArray Q C fuel listed a w:=zR k n f hf hn hs hB hQ h
theorem qO {P:Program}{Q:Exit→Act→World→Prop}{C:World→Prop}{L:List Oper}(i f:Nat){fuel:Nat}{listed:Array Bool}{a:Act}{w:World}(hC:C w)(h:wpList P L.toArray (nextQ Q (wpAnyC P .any L.toArray Q C f (listed.setIfInBounds i true))) ((L.drop i).take 1) a w)(hf:fuel=f+1:=by kernel_rfl)(hr:Region.ready .any L.toArray listed=[i]:=by kernel_rfl):wpAnyC P .any L.toArray Q C fuel listed a w:=zP i f hf hr hC h
theorem zU {P:Program}{id:Nat}{Q:Exit→Act→World→Prop}{a:Act}{w:World}{L:List Oper}(C:World→Prop)(hm:P.follows .mixedOrders=true)(h:wpAnyC P .any L.toArray (calmQ Q) C L.length (Array.replicate L.length false) a w.drew):(Code.region id L.toArray true).wp P Q a w :=
 wp_region_any hm (by simpa using wpAny_turn _ _ _ _ (wpAny_of_C _ _ _ _ h))
theorem reg_meet2 {G R:Nat→Nat→World→Prop}{p:Prop}(h1:(∀ a b W,R a b W→G a b W)→p)(h2:∀ a b W,R a b W→G a b W):p:=h1 h2
theorem reg_three {P:Program}{Q:Exit→Act→World→Prop}{C:World→Prop}{L:List Oper}(i j m f:Nat){fuel:Nat}{listed:Array Bool}{a:Act}{w:World}(hf:fuel=f+1)(hr:Region.ready .any L.toArray listed=[i,j,m])(hC:C w)
  (h1:wpList P L.toArray (nextQ Q (wpAnyC P .any L.toArray Q C f (listed.setIfInBounds i true))) ((L.drop i).take 1) a w)
  (h2:wpList P L.toArray (nextQ Q (wpAnyC P .any L.toArray Q C f (listed.setIfInBounds j true))) ((L.drop j).take 1) a w)
  (h3:wpList P L.toArray (nextQ Q (wpAnyC P .any L.toArray Q C f (listed.setIfInBounds m true))) ((L.drop m).take 1) a w):wpAnyC P .any L.toArray Q C fuel listed a w:=by
 subst hf
 refine⟨hC,fun h0=>(by rw[hr] at h0;cases h0),fun k hk=>?_⟩
 have hm:=hk
 rw[hr] at hk
 obtain⟨_,o,ho,_⟩:=mem_ready.1 hm
 have ho':L[k]?=some o:=by simpa using ho
 have hd:(L.drop k).take 1=[o]:=by
  obtain⟨hlt,e⟩:=List.getElem?_eq_some_iff.1 ho'
  rw[List.drop_eq_getElem_cons hlt,e];rfl
 have h:wpList P L.toArray (nextQ Q (wpAnyC P .any L.toArray Q C f (listed.setIfInBounds k true))) [o] a w:=by
  rw[← hd]
  simp only[List.mem_cons,List.not_mem_nil,or_false] at hk
  rcases hk with rfl|rfl|rfl
  ·exact h1
  ·exact h2
  ·exact h3
 unfold wpOp
 simp only[ho]
 unfold wpList at h
 split
 ·rename_i hw
  rw[if_pos hw] at h
  rcases h with h|⟨h1,⟨a',w',h2⟩⟩
  ·exact .inl (wp_turn (fun _ _ _ h=>h) (fun _ _ h=>h) h)
  ·exact .inr ⟨h1,a',w',h2⟩
 ·rename_i hw
  rw[if_neg hw] at h
  exact h
theorem zX {p:Prop}(h:p):Hid p:=h
theorem uX {p:Prop}(h:Hid p):p:=h
def IsW (n:Int):Prop:=n=8∨n=16∨n=32∨n=64
def md (n:Int):Int:=2 ^ n.toNat
def cut (n x:Int):Int:=x % md n
def sgn (n x:Int):Int:=if 2*cut n x<md n then cut n x else cut n x - md n
theorem md_8:md 8=256:=by decide
theorem md_16:md 16=65536:=by decide
theorem md_32:md 32=4294967296:=by decide
theorem md_64:md 64=18446744073709551616:=by decide
theorem qbl (x:Int):IntKind.u64.wrap x=x % 18446744073709551616:=by simp[IntKind.wrap,IntKind.bits,IntKind.signed]
theorem md_pos {n:Int}(h:IsW n):0<md n:=by
 rcases h with rfl|rfl|rfl|rfl <;> simp[md_8,md_16,md_32,md_64]
theorem md_le {n:Int}(h:IsW n):md n≤18446744073709551616:=by
 rcases h with rfl|rfl|rfl|rfl <;> simp[md_8,md_16,md_32,md_64]
theorem md_dvd {n:Int}(h:IsW n):md n ∣ 18446744073709551616:=by
 rcases h with rfl|rfl|rfl|rfl
 ·exact⟨72057594037927936,by rw[md_8];decide⟩
 ·exact⟨281474976710656,by rw[md_16];decide⟩
 ·exact⟨4294967296,by rw[md_32];decide⟩
 ·exact⟨1,by rw[md_64];decide⟩
theorem cut_lo {n:Int}(h:IsW n)(x:Int):0≤cut n x:=Int.emod_nonneg _ (Int.ne_of_gt (md_pos h))
theorem cut_lt {n:Int}(h:IsW n)(x:Int):cut n x<md n:=Int.emod_lt_of_pos _ (md_pos h)
theorem cut_hi {n:Int}(h:IsW n)(x:Int):cut n x≤18446744073709551615:=by
 have:=cut_lt h x;have:=md_le h;omega
theorem cut_wrap {n:Int}(h:IsW n)(x:Int):cut n (IntKind.u64.wrap x)=cut n x:=by
 rw[qbl];exact Int.emod_emod_of_dvd _ (md_dvd h)
theorem cut_cut (n x:Int):cut n (cut n x)=cut n x:=Int.emod_emod ..
theorem cut_add (n x y:Int):cut n (cut n x+cut n y)=cut n (x+y):=by unfold cut;exact (Int.add_emod ..).symm
theorem cut_sub (n x y:Int):cut n (cut n x - cut n y)=cut n (x - y):=by unfold cut;exact (Int.sub_emod ..).symm
theorem cut_mul (n x y:Int):cut n (cut n x*cut n y)=cut n (x*y):=by unfold cut;exact (Int.mul_emod ..).symm
def U (x:Int):Prop:=0≤x∧x≤18446744073709551615
def NoW (n:Int):Prop:=(n==8)=false∧(n==16)=false∧(n==32)=false∧(n==64)=false
theorem u_cut {n:Int}(h:IsW n)(x:Int):U (cut n x):=⟨cut_lo h x,cut_hi h x⟩
theorem u_wrap (x:Int):U (IntKind.u64.wrap x):=by rw[qbl];unfold U;omega
theorem cut_of {n x:Int}(h0:0≤x)(h1:x<md n):cut n x=x:=Int.emod_eq_of_lt h0 h1
theorem div_pow_le (x:Int)(k:Nat)(h:0≤x):0≤x / 2 ^ k∧x / 2 ^ k≤x:=by
 have hp:(0:Int)<2 ^ k:=Int.pow_pos (by decide)
 refine⟨Int.ediv_nonneg h (Int.le_of_lt hp),?_⟩
 exact Int.ediv_le_self _ h
theorem cut_div {n:Int}(h:IsW n)(x:Int)(k:Nat):cut n (cut n x / 2 ^ k)=cut n x / 2 ^ k:=by
 have:=div_pow_le (cut n x) k (cut_lo h x)
 have:=cut_lt h x
 exact cut_of (by omega) (by omega)
theorem u_div {n:Int}(h:IsW n)(x:Int)(k:Nat):U (cut n x / 2 ^ k):=by
 have:=div_pow_le (cut n x) k (cut_lo h x)
 have:=cut_hi h x
 exact⟨by omega,by omega⟩
theorem sgn_cut (n x:Int):sgn n (cut n x)=sgn n x:=by unfold sgn;rw[cut_cut]
theorem cut_mul_left (n x y:Int):cut n (cut n x*y)=cut n (x*y):=by unfold cut;rw[Int.mul_emod,Int.emod_emod,← Int.mul_emod]
theorem and_cut_8 (x:Int)(hx:0≤x)(hx':x≤18446744073709551615):bits .and .u64 x 255=cut 8 x:=by
 unfold cut;rw[md_8];go_bits2
theorem and_cut_16 (x:Int)(hx:0≤x)(hx':x≤18446744073709551615):bits .and .u64 x 65535=cut 16 x:=by
 unfold cut;rw[md_16];go_bits2
theorem and_cut_32 (x:Int)(hx:0≤x)(hx':x≤18446744073709551615):bits .and .u64 x 4294967295=cut 32 x:=by
 unfold cut;rw[md_32];go_bits2
theorem and_cut_64 (x:Int)(hx:0≤x)(hx':x≤18446744073709551615):bits .and .u64 x 18446744073709551615=cut 64 x:=by
 unfold cut;rw[md_64];go_bits2
 have e:x.toNat &&& 18446744073709551615=x.toNat % 18446744073709551616:=Nat.and_two_pow_sub_one_eq_mod x.toNat 64
 rw[e];omega
theorem mean_8 (x:Int):wrap64 (IntKind.u64.wrap (x*72057594037927936)) / 72057594037927936=sgn 8 x:=by
 unfold sgn cut wrap64;rw[md_8,qbl];split <;> omega
theorem mean_16 (x:Int):wrap64 (IntKind.u64.wrap (x*281474976710656)) / 281474976710656=sgn 16 x:=by
 unfold sgn cut wrap64;rw[md_16,qbl];split <;> omega
theorem mean_32 (x:Int):wrap64 (IntKind.u64.wrap (x*4294967296)) / 4294967296=sgn 32 x:=by
 unfold sgn cut wrap64;rw[md_32,qbl];split <;> omega
theorem mean_64 (x:Int):wrap64 x=sgn 64 x:=by
 unfold sgn cut wrap64;rw[md_64];split <;> omega
def mn (s:Bool)(n x:Int):Int:=if s=true then sgn n x else cut n x
theorem cut_sgn {n:Int}(x:Int):cut n (sgn n x)=cut n x:=by
 unfold sgn
 split
 ·exact cut_cut n x
 ·unfold cut
  rw[Int.sub_emod,Int.emod_self,Int.emod_emod,Int.sub_zero,Int.emod_emod]
theorem cut_mn (s:Bool)(n x:Int):cut n (mn s n x)=cut n x:=by
 unfold mn
 split
 ·exact cut_sgn x
 ·exact cut_cut n x
theorem ret_eq {a b:Value}(h:a=b):Ending.returned a=.returned b:=by rw[h]
theorem width_no (n:Int)(w:World)(h:NoW n) :
  Calls Tryz.prog 120 #[.int .i64 n] w fun e w'=>e=.returned (.bool false)∧w'=w:=by
 obtain⟨h1,h2,h3,h4⟩:=h
 go_enter Tryz.func120,Tryz.ntmps120
 go_wp2
 go_ret
 exact⟨rfl,rfl⟩
theorem qax (n:Int)(h:IsW n)(w:World):Calls Tryz.prog 120 #[.int .i64 n] w fun e w'=>e=.returned (.bool true)∧w'=w:=by
 rcases h with rfl|rfl|rfl|rfl
 all_goals
  go_enter Tryz.func120,Tryz.ntmps120
  go_wp2
  go_ret
  exact⟨rfl,rfl⟩
theorem qag (x n:Int)(w:World)(h:IsW n)(hx:U x):Calls Tryz.prog 184 #[.int .u64 x,.int .i64 n] w fun e w'=>e=.returned (.int .u64 (cut n x))∧w'=w:=by
 have e1:=and_cut_8 x hx.1 hx.2
 have e2:=and_cut_16 x hx.1 hx.2
 have e3:=and_cut_32 x hx.1 hx.2
 have e4:=and_cut_64 x hx.1 hx.2
 rcases h with rfl|rfl|rfl|rfl
 all_goals
  go_enter Tryz.func184,Tryz.ntmps184
  go_wp2
  go_ret
  exact⟨rfl,rfl⟩
theorem qbt (x n:Int)(w:World)(h:IsW n)(hx:U x):Calls Tryz.prog 151 #[.int .u64 x,.int .i64 n] w fun e w'=>e=.returned (.int .i64 (sgn n x))∧w'=w:=by
 obtain⟨hx0,hx1⟩:=hx
 rcases h with rfl|rfl|rfl|rfl
 ·go_enter Tryz.func151,Tryz.ntmps151
  go_wp2
  go_ret
  exact⟨ret_eq (congrArg _ (mean_8 x)),rfl⟩
 ·go_enter Tryz.func151,Tryz.ntmps151
  go_wp2
  go_ret
  exact⟨ret_eq (congrArg _ (mean_16 x)),rfl⟩
 ·go_enter Tryz.func151,Tryz.ntmps151
  go_wp2
  go_ret
  exact⟨ret_eq (congrArg _ (mean_32 x)),rfl⟩
 ·go_enter Tryz.func151,Tryz.ntmps151
  go_wp2
  go_ret
  exact⟨ret_eq (congrArg _ (mean_64 x)),rfl⟩
theorem cut_any (x n:Int)(w:World)(h:IsW n)(hx:U x):Calls Tryz.prog 152 #[.int .u64 x,.int .i64 n] w fun e w'=>e=.returned (.tuple #[.int .u64 (cut n x),.int .i64 0])∧w'=w:=by
 have hn:=cut_cut n x
 go_enter Tryz.func152,Tryz.ntmps152
 go_wp2_with (first|(go_at_call 120;refine (qax _ h _).mono ?_;rintro e w' ⟨rfl,rfl⟩)|(go_at_call 184;refine (qag _ _ _ h ?_).mono ?_;(first|exact hx|exact u_cut h _);rintro e w' ⟨rfl,rfl⟩)|go_in)
 go_ret2
 exact⟨rfl,rfl⟩
theorem shl1 (x k:Int)(w:World)(p:Nat)(hk:0≤k)(c:w.cell? ⟨p,0,none⟩=some (.int .u64 k)):Calls Tryz.prog 173 #[.int .u64 x,.pointer (some ⟨p,0,none⟩)] w fun e w'=>e=.returned (.int .u64 (IntKind.u64.wrap (x*2 ^ min k.toNat 64)))∧∃ q,w'=w.drewN q:=by
 go_enter Tryz.func173,Tryz.ntmps173
 go_wp2
 go_ret
 exact⟨rfl,0,rfl⟩
theorem shl_num {n:Int}(h:IsW n)(a:Int)(m:Nat):cut n (IntKind.u64.wrap (cut n a*2 ^ m))=cut n (a*2 ^ m):=by
 rw[cut_wrap h,cut_mul_left]
theorem shl_any (a k n:Int)(w:World)(h:IsW n)(ha:U a)(hk:U k):Calls Tryz.prog 153 #[.int .u64 a,.int .u64 k,.int .i64 n] w fun e w'=>e=.returned (.tuple #[.int .u64 (cut n (a*2 ^ min k.toNat 64)),.int .i64 0])∧Below w.heap.size w w':=by
 have hn:=shl_num h a (min k.toNat 64)
 go_enter Tryz.func153,Tryz.ntmps153
 go_wp2_with (first|(go_at_call 120;refine (qax _ h _).mono ?_;rintro e w' ⟨rfl,rfl⟩)|(go_at_call 184;refine (qag _ _ _ h ?_).mono ?_;(first|exact ha|exact u_wrap _);rintro e w' ⟨rfl,rfl⟩)|(go_at_call 173;refine (shl1 _ k _ _ hk.1 ?_).mono ?_;(simp[go_sem]);rintro e w' ⟨rfl,q,rfl⟩)|go_in)
 go_ret2
 exact⟨rfl,below_drewN ((Below.refl _ _).alloc (Nat.le_refl _) _) _⟩
theorem shr1_u (x k n:Int)(w:World)(p1 p2 p3:Nat)(hk:0≤k)(c1:w.cell? ⟨p1,0,none⟩=some (.bool false))(_c2:w.cell? ⟨p2,0,none⟩=some (.int .i64 n))(c3:w.cell? ⟨p3,0,none⟩=some (.int .u64 k)) :
  Calls Tryz.prog 174 #[.int .u64 x,.pointer (some ⟨p1,0,none⟩),.pointer (some ⟨p2,0,none⟩),.pointer (some ⟨p3,0,none⟩)] w fun e w'=>e=.returned (.int .u64 (x / 2 ^ min k.toNat 64))∧∃ q,w'=w.drewN q:=by
 go_enter Tryz.func174,Tryz.ntmps174
 go_wp2
 go_ret
 exact⟨rfl,0,rfl⟩
theorem shr1_s (x k n:Int)(w:World)(p1 p2 p3:Nat)(h:IsW n)(hx:U x)(hk:0≤k)(c1:w.cell? ⟨p1,0,none⟩=some (.bool true))(c2:w.cell? ⟨p2,0,none⟩=some (.int .i64 n))(c3:w.cell? ⟨p3,0,none⟩=some (.int .u64 k)) :
  Calls Tryz.prog 174 #[.int .u64 x,.pointer (some ⟨p1,0,none⟩),.pointer (some ⟨p2,0,none⟩),.pointer (some ⟨p3,0,none⟩)] w fun e w'=>e=.returned (.int .u64 (IntKind.u64.wrap (sgn n x / 2 ^ min k.toNat 64)))∧∃ q,w'=w.drewN q:=by
 go_enter Tryz.func174,Tryz.ntmps174
 go_wp2_with fail
 go_quiet (first|(go_at_call 151;exact Calls.quiet_of_same (qbt _ _ _ h hx)))
 go_wp2
 go_ret
 exact⟨rfl,_,rfl⟩
theorem shrs_num {n:Int}(h:IsW n)(a:Int)(m:Nat):cut n (IntKind.u64.wrap (sgn n (cut n a) / 2 ^ m))=cut n (sgn n a / 2 ^ m):=by
 rw[cut_wrap h,sgn_cut]
theorem bel3 {w:World}{a b c:Obj}{q:Nat}:Below w.heap.size w ((((w.alloc a).alloc b).alloc c).drewN q) :=
 below_drewN ((((Below.refl _ _).alloc (Nat.le_refl _) _).alloc (by simp) _).alloc (by simp;omega) _) q
theorem shr_u (a k n:Int)(w:World)(h:IsW n)(ha:U a)(hk:U k):Calls Tryz.prog 154 #[.int .u64 a,.int .u64 k,.int .i64 n,.bool false] w fun e w'=>e=.returned (.tuple #[.int .u64 (cut n a / 2 ^ min k.toNat 64),.int .i64 0])∧Below w.heap.size w w':=by
 have hn:=cut_div h a (min k.toNat 64)
 go_enter Tryz.func154,Tryz.ntmps154
 go_wp2_with (first|(go_at_call 120;refine (qax _ h _).mono ?_;rintro e w' ⟨rfl,rfl⟩)|(go_at_call 184;refine (qag _ _ _ h ?_).mono ?_;(first|exact ha|exact u_div h _ _);rintro e w' ⟨rfl,rfl⟩)|(go_at_call 174;refine (shr1_u _ k n _ _ _ _ hk.1 ?_ ?_ ?_).mono ?_;(simp[go_sem]);(simp[go_sem]);(simp[go_sem]);rintro e w' ⟨rfl,q,rfl⟩)|go_in)
 go_ret2
 exact⟨rfl,bel3⟩
theorem shr_s (a k n:Int)(w:World)(h:IsW n)(ha:U a)(hk:U k):Calls Tryz.prog 154 #[.int .u64 a,.int .u64 k,.int .i64 n,.bool true] w fun e w'=>e=.returned (.tuple #[.int .u64 (cut n (sgn n a / 2 ^ min k.toNat 64)),.int .i64 0])∧Below w.heap.size w w':=by
 have hn:=shrs_num h a (min k.toNat 64)
 go_enter Tryz.func154,Tryz.ntmps154
 go_wp2_with (first|(go_at_call 120;refine (qax _ h _).mono ?_;rintro e w' ⟨rfl,rfl⟩)|(go_at_call 184;refine (qag _ _ _ h ?_).mono ?_;(first|exact ha|exact u_wrap _);rintro e w' ⟨rfl,rfl⟩)|(go_at_call 174;refine (shr1_s _ k n _ _ _ _ h (u_cut h _) hk.1 ?_ ?_ ?_).mono ?_;(simp[go_sem]);(simp[go_sem]);(simp[go_sem]);rintro e w' ⟨rfl,q,rfl⟩)|go_in)
 go_ret2
 exact⟨rfl,bel3⟩
theorem less_u (a b n:Int)(w:World)(h:IsW n)(ha:U a)(hb:U b):Calls Tryz.prog 175 #[.int .u64 a,.int .u64 b,.int .i64 n,.bool false] w fun e w'=>e=.returned (.tuple #[.bool (decide (cut n a<cut n b)),.int .i64 0])∧w'=w:=by
 go_enter Tryz.func175,Tryz.ntmps175
 go_wp2_with (first|(go_at_call 120;refine (qax _ h _).mono ?_;rintro e w' ⟨rfl,rfl⟩)|(go_at_call 184;refine (qag _ _ _ h ?_).mono ?_;(first|exact ha|exact hb);rintro e w' ⟨rfl,rfl⟩))
 go_ret2
 exact⟨rfl,rfl⟩
theorem less_s (a b n:Int)(w:World)(h:IsW n)(ha:U a)(hb:U b):Calls Tryz.prog 175 #[.int .u64 a,.int .u64 b,.int .i64 n,.bool true] w fun e w'=>e=.returned (.tuple #[.bool (decide (sgn n a<sgn n b)),.int .i64 0])∧w'=w:=by
 go_enter Tryz.func175,Tryz.ntmps175
 go_wp2_with (first|(go_at_call 120;refine (qax _ h _).mono ?_;rintro e w' ⟨rfl,rfl⟩)|(go_at_call 151;refine (qbt _ _ _ h ?_).mono ?_;(first|exact ha|exact hb);rintro e w' ⟨rfl,rfl⟩))
 go_ret2
 exact⟨rfl,rfl⟩
end Go.Proofs.YtjpnnmkefaodoaaGreat
